/-
  The walks of package land and of its reference: cells and lights by place.
-/
import Derived.Test.YtjjnmkbjohiekaaDoorLandPlain
import Derived.Test.YtjjnmkbjohiekaaDoorPlaceWalks3
import Derived.Test.YtjjnmkbjohiekaaDoorHeldP
import Derived.Test.YtjjnmkbjohiekaaDoorChunkWalks3
namespace Go.Proofs.YtjjnmkbjohiekaaDoor
open Go.RowKit
set_option linter.unusedVariables false
set_option linter.unusedSimpArgs false
namespace LandP
open BytesW PackW PlaceW ChunkW

theorem below_lt (y : Int) : below_ y < 4 := by
  unfold below_
  split
  · omega
  · split
    · omega
    · split <;> omega
theorem layersBelow_c {y : Int} {k : Nat} (h : below_ y = k) (w : World) :
    Calls Tryd.prog 29 #[.int .i64 y] w fun e w' => e = .returned (.int .i64 (k : Int)) ∧ w = w' := by
  subst h
  by_cases h1 : y ≥ 16
  · have e : Hid (below_ y = 3) := Lib.hid (by rw [below_, if_neg (by omega), if_neg (by omega), if_neg (by omega)])
    go_enter Tryd.func29, Tryd.ntmps29
    go_wp2
    go_ret
    exact ⟨by rw [e.out]; rfl, rfl⟩
  · by_cases h2 : y ≥ 12
    · have e : Hid (below_ y = 2) := Lib.hid (by rw [below_, if_neg (by omega), if_neg (by omega), if_pos (by omega)])
      go_enter Tryd.func29, Tryd.ntmps29
      go_wp2
      go_ret
      exact ⟨by rw [e.out]; rfl, rfl⟩
    · by_cases h3 : y ≥ 1
      · have e : Hid (below_ y = 1) := Lib.hid (by rw [below_, if_neg (by omega), if_pos (by omega)])
        go_enter Tryd.func29, Tryd.ntmps29
        go_wp2
        go_ret
        exact ⟨by rw [e.out]; rfl, rfl⟩
      · have e : Hid (below_ y = 0) := Lib.hid (by rw [below_, if_pos (by omega)])
        go_enter Tryd.func29, Tryd.ntmps29
        go_wp2
        go_ret
        exact ⟨by rw [e.out]; rfl, rfl⟩
/-- A cell's value. -/
def cval (c : Cell) : Value := .agg #[bv c.1, bv c.2]
theorem cellY_eq {y : Int} {k : Nat} (h : below_ y = k) : cval (cellY y) = .agg #[.int .u8 (lay k), .int .u8 0] := by
  subst h
  unfold cval cellY
  simp only [bv_lay]
  rfl
theorem cell_c {w : World} {x y z : Int} {c : Cell} (hT : LTab w) (h : cellA x y z = c) :
    Calls Tryd.prog 10 #[.agg #[.int .i64 x, .int .i64 y, .int .i64 z]] w fun e w' => e = .returned (cval c) ∧ Below w.heap.size w w' := by
  have HT := Lib.hid hT
  have hg := hT.size
  unfold cellA at h
  by_cases hm : mayB x y z = true
  · rw [if_pos hm] at h
    subst h
    have H := Lib.hid hm
    obtain ⟨k, hk⟩ : ∃ k, below_ y = k := ⟨_, rfl⟩
    have hk4 : k < 4 := hk ▸ below_lt y
    have HE := Lib.hid (cellY_eq hk)
    have HB := Lib.hid (layersBelow_c hk)
    clear hm hk hT
    rw [HE.out]
    go_enter Tryd.func10, Tryd.ntmps10
    go_wp2_with (first | (go_at_call 26; refine (may_b H.out _).mono ?_; rintro e w1 ⟨rfl, hb⟩; have q := (HT.out.below (by (repeat' (first | (with_reducible exact Below.refl _ _) | (with_reducible refine Below.setCell ?_ (by (first | omega | (simp; done) | (simp; omega))) _) | (with_reducible refine Below.alloc ?_ (by (first | omega | (simp; done) | (simp; omega))) _) | (with_reducible refine Below.drew ?_) | (with_reducible refine below_drewN ?_ _) | (with_reducible refine Below.trans ?_ (Below.mono hb (by (first | omega | (simp; done) | (simp; omega))))))))).lay k hk4; obtain ⟨hc, hf⟩ := bcell hb; have hz : w.heap.size + 1 < w1.heap.size := (by have := hb.size; (try simp at this); omega); have hl_0 : w.heap.size < w1.heap.size := (by omega); have hn_0 : w.heap.size ≠ w1.heap.size := (by omega); have hn_1 : w.heap.size + 1 ≠ w1.heap.size := (by omega)) | (go_at_call 29; (with_reducible refine (HB.out _).mono ?_); rintro e w' ⟨rfl, rfl⟩))
    refine bodyPost_ret (v := .agg #[.int .u8 (lay k), .int .u8 0]) (by simp [results, Tryd.results10, go_sem, hc, hf, hz]) rfl ?_
    refine ⟨rfl, ?_⟩
    (repeat' (first | (with_reducible exact Below.refl _ _) | (with_reducible refine Below.setCell ?_ (by (first | omega | (simp; done) | (simp; omega))) _) | (with_reducible refine Below.alloc ?_ (by (first | omega | (simp; done) | (simp; omega))) _) | (with_reducible refine Below.drew ?_) | (with_reducible refine below_drewN ?_ _) | (with_reducible refine Below.trans ?_ (Below.mono hb (by (first | omega | (simp; done) | (simp; omega)))))))
  · rw [if_neg hm] at h
    subst h
    have H := Lib.hid (Bool.eq_false_iff.2 hm)
    clear hm hT
    go_enter Tryd.func10, Tryd.ntmps10
    go_wp2_with (go_at_call 26; refine (may_b H.out _).mono ?_; rintro e w1 ⟨rfl, hb⟩; obtain ⟨hc, hf⟩ := bcell hb; have hz : w.heap.size + 1 < w1.heap.size := (by have := hb.size; (try simp at this); omega); have hl_0 : w.heap.size < w1.heap.size := (by omega); have hn_0 : w.heap.size ≠ w1.heap.size := (by omega); have hn_1 : w.heap.size + 1 ≠ w1.heap.size := (by omega))
    refine bodyPost_ret (v := .agg #[.int .u8 0, .int .u8 0]) (by simp [results, Tryd.results10, go_sem, hc, hf, hz]) rfl ?_
    refine ⟨rfl, ?_⟩
    (repeat' (first | (with_reducible exact Below.refl _ _) | (with_reducible refine Below.setCell ?_ (by (first | omega | (simp; done) | (simp; omega))) _) | (with_reducible refine Below.alloc ?_ (by (first | omega | (simp; done) | (simp; omega))) _) | (with_reducible refine Below.drew ?_) | (with_reducible refine below_drewN ?_ _) | (with_reducible refine Below.trans ?_ (Below.mono hb (by (first | omega | (simp; done) | (simp; omega)))))))
theorem lightY_eq {y : Int} : (y < 16 → cval (lightY y) = .agg #[.int .u8 0, .int .u8 0]) ∧ (¬ y < 16 → cval (lightY y) = .agg #[.int .u8 15, .int .u8 0]) := by
  constructor <;> intro h
  · rw [cval, lightY, if_pos h]; rfl
  · rw [cval, lightY, if_neg h]; rfl
theorem light_c {w : World} {x y z : Int} {c : Cell} (h : lightA x y z = c) :
    Calls Tryd.prog 12 #[.agg #[.int .i64 x, .int .i64 y, .int .i64 z]] w fun e w' => e = .returned (cval c) ∧ Below w.heap.size w w' := by
  unfold lightA at h
  by_cases hm : mayB x y z = true
  · rw [if_pos hm] at h
    subst h
    have H := Lib.hid hm
    by_cases hy : y < 16
    · have HE := Lib.hid ((lightY_eq (y := y)).1 hy)
      clear hm
      rw [HE.out]
      go_enter Tryd.func12, Tryd.ntmps12
      go_wp2_with (go_at_call 26; refine (may_b H.out _).mono ?_; rintro e w1 ⟨rfl, hb⟩; obtain ⟨hc, hf⟩ := bcell hb; have hz : w.heap.size + 1 < w1.heap.size := (by have := hb.size; (try simp at this); omega); have hl_0 : w.heap.size < w1.heap.size := (by omega); have hn_0 : w.heap.size ≠ w1.heap.size := (by omega); have hn_1 : w.heap.size + 1 ≠ w1.heap.size := (by omega))
      refine bodyPost_ret (v := .agg #[.int .u8 0, .int .u8 0]) (by simp [results, Tryd.results12, go_sem, hc, hf, hz]) rfl ?_
      refine ⟨rfl, ?_⟩
      (repeat' (first | (with_reducible exact Below.refl _ _) | (with_reducible refine Below.setCell ?_ (by (first | omega | (simp; done) | (simp; omega))) _) | (with_reducible refine Below.alloc ?_ (by (first | omega | (simp; done) | (simp; omega))) _) | (with_reducible refine Below.drew ?_) | (with_reducible refine below_drewN ?_ _) | (with_reducible refine Below.trans ?_ (Below.mono hb (by (first | omega | (simp; done) | (simp; omega)))))))
    · have HE := Lib.hid ((lightY_eq (y := y)).2 hy)
      clear hm
      rw [HE.out]
      go_enter Tryd.func12, Tryd.ntmps12
      go_wp2_with (go_at_call 26; refine (may_b H.out _).mono ?_; rintro e w1 ⟨rfl, hb⟩; obtain ⟨hc, hf⟩ := bcell hb; have hz : w.heap.size + 1 < w1.heap.size := (by have := hb.size; (try simp at this); omega); have hl_0 : w.heap.size < w1.heap.size := (by omega); have hn_0 : w.heap.size ≠ w1.heap.size := (by omega); have hn_1 : w.heap.size + 1 ≠ w1.heap.size := (by omega))
      refine bodyPost_ret (v := .agg #[.int .u8 15, .int .u8 0]) (by simp [results, Tryd.results12, go_sem, hc, hf, hz]) rfl ?_
      refine ⟨rfl, ?_⟩
      (repeat' (first | (with_reducible exact Below.refl _ _) | (with_reducible refine Below.setCell ?_ (by (first | omega | (simp; done) | (simp; omega))) _) | (with_reducible refine Below.alloc ?_ (by (first | omega | (simp; done) | (simp; omega))) _) | (with_reducible refine Below.drew ?_) | (with_reducible refine below_drewN ?_ _) | (with_reducible refine Below.trans ?_ (Below.mono hb (by (first | omega | (simp; done) | (simp; omega)))))))
  · rw [if_neg hm] at h
    subst h
    have H := Lib.hid (Bool.eq_false_iff.2 hm)
    clear hm
    go_enter Tryd.func12, Tryd.ntmps12
    go_wp2_with (go_at_call 26; refine (may_b H.out _).mono ?_; rintro e w1 ⟨rfl, hb⟩; obtain ⟨hc, hf⟩ := bcell hb; have hz : w.heap.size + 1 < w1.heap.size := (by have := hb.size; (try simp at this); omega); have hl_0 : w.heap.size < w1.heap.size := (by omega); have hn_0 : w.heap.size ≠ w1.heap.size := (by omega); have hn_1 : w.heap.size + 1 ≠ w1.heap.size := (by omega))
    refine bodyPost_ret (v := .agg #[.int .u8 0, .int .u8 0]) (by simp [results, Tryd.results12, go_sem, hc, hf, hz]) rfl ?_
    refine ⟨rfl, ?_⟩
    (repeat' (first | (with_reducible exact Below.refl _ _) | (with_reducible refine Below.setCell ?_ (by (first | omega | (simp; done) | (simp; omega))) _) | (with_reducible refine Below.alloc ?_ (by (first | omega | (simp; done) | (simp; omega))) _) | (with_reducible refine Below.drew ?_) | (with_reducible refine below_drewN ?_ _) | (with_reducible refine Below.trans ?_ (Below.mono hb (by (first | omega | (simp; done) | (simp; omega)))))))
/-- The reference's At and Lit, of a height that is one. -/
theorem at_c {y : Int} {c : Cell} (h0 : 0 ≤ y) (h : cellY y = c) (w : World) :
    Calls Tryd.prog 31 #[.int .i64 y] w fun e w' => e = .returned (cval c) ∧ Below w.heap.size w w' := by
  subst h
  by_cases h1 : y = 0
  · have e : Hid (cval (cellY y) = .agg #[.int .u8 1, .int .u8 0]) := Lib.hid (cellY_eq (k := 0) (by rw [below_, if_pos (by omega)]))
    rw [e.out]
    go_enter Tryd.func31, Tryd.ntmps31
    go_wp2
    refine bodyPost_ret (v := .agg #[.int .u8 1, .int .u8 0]) (by simp [results, Tryd.results31, go_sem]) rfl ?_
    refine ⟨rfl, ?_⟩
    (repeat' (first | (with_reducible exact Below.refl _ _) | (with_reducible refine Below.setCell ?_ (by (first | omega | (simp; done) | (simp; omega))) _) | (with_reducible refine Below.alloc ?_ (by (first | omega | (simp; done) | (simp; omega))) _) | (with_reducible refine Below.drew ?_) | (with_reducible refine below_drewN ?_ _)))
  · by_cases h2 : y < 12
    · have e : Hid (cval (cellY y) = .agg #[.int .u8 2, .int .u8 0]) := Lib.hid (cellY_eq (k := 1) (by rw [below_, if_neg (by omega), if_pos (by omega)]))
      rw [e.out]
      go_enter Tryd.func31, Tryd.ntmps31
      go_wp2
      refine bodyPost_ret (v := .agg #[.int .u8 2, .int .u8 0]) (by simp [results, Tryd.results31, go_sem]) rfl ?_
      refine ⟨rfl, ?_⟩
      (repeat' (first | (with_reducible exact Below.refl _ _) | (with_reducible refine Below.setCell ?_ (by (first | omega | (simp; done) | (simp; omega))) _) | (with_reducible refine Below.alloc ?_ (by (first | omega | (simp; done) | (simp; omega))) _) | (with_reducible refine Below.drew ?_) | (with_reducible refine below_drewN ?_ _)))
    · by_cases h3 : y < 16
      · have e : Hid (cval (cellY y) = .agg #[.int .u8 3, .int .u8 0]) := Lib.hid (cellY_eq (k := 2) (by rw [below_, if_neg (by omega), if_neg (by omega), if_pos (by omega)]))
        rw [e.out]
        go_enter Tryd.func31, Tryd.ntmps31
        go_wp2
        refine bodyPost_ret (v := .agg #[.int .u8 3, .int .u8 0]) (by simp [results, Tryd.results31, go_sem]) rfl ?_
        refine ⟨rfl, ?_⟩
        (repeat' (first | (with_reducible exact Below.refl _ _) | (with_reducible refine Below.setCell ?_ (by (first | omega | (simp; done) | (simp; omega))) _) | (with_reducible refine Below.alloc ?_ (by (first | omega | (simp; done) | (simp; omega))) _) | (with_reducible refine Below.drew ?_) | (with_reducible refine below_drewN ?_ _)))
      · have e : Hid (cval (cellY y) = .agg #[.int .u8 0, .int .u8 0]) := Lib.hid (cellY_eq (k := 3) (by rw [below_, if_neg (by omega), if_neg (by omega), if_neg (by omega)]))
        rw [e.out]
        go_enter Tryd.func31, Tryd.ntmps31
        go_wp2
        refine bodyPost_ret (v := .agg #[.int .u8 0, .int .u8 0]) (by simp [results, Tryd.results31, go_sem]) rfl ?_
        refine ⟨rfl, ?_⟩
        (repeat' (first | (with_reducible exact Below.refl _ _) | (with_reducible refine Below.setCell ?_ (by (first | omega | (simp; done) | (simp; omega))) _) | (with_reducible refine Below.alloc ?_ (by (first | omega | (simp; done) | (simp; omega))) _) | (with_reducible refine Below.drew ?_) | (with_reducible refine below_drewN ?_ _)))
theorem lit_c {y : Int} {c : Cell} (h : lightY y = c) (w : World) :
    Calls Tryd.prog 32 #[.int .i64 y] w fun e w' => e = .returned (cval c) ∧ Below w.heap.size w w' := by
  subst h
  by_cases h1 : y < 16
  · have HE := Lib.hid ((lightY_eq (y := y)).1 h1)
    rw [HE.out]
    go_enter Tryd.func32, Tryd.ntmps32
    go_wp2
    refine bodyPost_ret (v := .agg #[.int .u8 0, .int .u8 0]) (by simp [results, Tryd.results32, go_sem]) rfl ?_
    refine ⟨rfl, ?_⟩
    (repeat' (first | (with_reducible exact Below.refl _ _) | (with_reducible refine Below.setCell ?_ (by (first | omega | (simp; done) | (simp; omega))) _) | (with_reducible refine Below.alloc ?_ (by (first | omega | (simp; done) | (simp; omega))) _) | (with_reducible refine Below.drew ?_) | (with_reducible refine below_drewN ?_ _)))
  · have HE := Lib.hid ((lightY_eq (y := y)).2 h1)
    rw [HE.out]
    go_enter Tryd.func32, Tryd.ntmps32
    go_wp2
    refine bodyPost_ret (v := .agg #[.int .u8 15, .int .u8 0]) (by simp [results, Tryd.results32, go_sem]) rfl ?_
    refine ⟨rfl, ?_⟩
    (repeat' (first | (with_reducible exact Below.refl _ _) | (with_reducible refine Below.setCell ?_ (by (first | omega | (simp; done) | (simp; omega))) _) | (with_reducible refine Below.alloc ?_ (by (first | omega | (simp; done) | (simp; omega))) _) | (with_reducible refine Below.drew ?_) | (with_reducible refine below_drewN ?_ _)))
theorem r_cell_c {w : World} {x y z : Int} {c : Cell} (h : cellA x y z = c) :
    Calls Tryd.prog 11 #[.agg #[.int .i64 x, .int .i64 y, .int .i64 z]] w fun e w' => e = .returned (cval c) ∧ Below w.heap.size w w' := by
  unfold cellA at h
  by_cases hm : mayB x y z = true
  · rw [if_pos hm] at h
    have H := Lib.hid hm
    have HA := Lib.hid (at_c (mayB_true hm).2.2.1 h)
    obtain ⟨c1, c2⟩ := c
    clear hm h
    go_enter Tryd.func11, Tryd.ntmps11
    go_wp2_with (first | (go_at_call 30; refine (r_may_b H.out _).mono ?_; rintro e w1 ⟨rfl, hb⟩; obtain ⟨hc, hf⟩ := bcell hb; have hz : w.heap.size + 1 < w1.heap.size := (by have := hb.size; (try simp at this); omega); have hl_0 : w.heap.size < w1.heap.size := (by omega); have hn_0 : w.heap.size ≠ w1.heap.size := (by omega); have hn_1 : w.heap.size + 1 ≠ w1.heap.size := (by omega)) | (go_at_call 31; (with_reducible refine (HA.out _).mono ?_); rintro e w2 ⟨rfl, hb2⟩; simp only [cval, bv]; obtain ⟨hc2, hf2⟩ := bcell hb2; have hz2 : w.heap.size + 1 < w2.heap.size := (by have := hb2.size; (try simp at this); omega); have hl2_0 : w.heap.size < w2.heap.size := (by omega); have hn2_0 : w.heap.size ≠ w2.heap.size := (by omega); have hn2_1 : w.heap.size + 1 ≠ w2.heap.size := (by omega)))
    refine bodyPost_ret (v := .agg #[.int .u8 (c1.toNat : Int), .int .u8 (c2.toNat : Int)]) (by simp [results, Tryd.results11, go_sem, hc, hf, hz, hc2, hf2, hz2]) rfl ?_
    refine ⟨rfl, ?_⟩
    (repeat' (first | (with_reducible exact Below.refl _ _) | (with_reducible refine Below.setCell ?_ (by (first | omega | (simp; done) | (simp; omega))) _) | (with_reducible refine Below.alloc ?_ (by (first | omega | (simp; done) | (simp; omega))) _) | (with_reducible refine Below.drew ?_) | (with_reducible refine below_drewN ?_ _) | (with_reducible refine Below.trans ?_ (Below.mono hb (by (first | omega | (simp; done) | (simp; omega))))) | (with_reducible refine Below.trans ?_ (Below.mono hb2 (by (first | omega | (simp; done) | (simp; omega)))))))
  · rw [if_neg hm] at h
    subst h
    have H := Lib.hid (Bool.eq_false_iff.2 hm)
    clear hm
    go_enter Tryd.func11, Tryd.ntmps11
    go_wp2_with (go_at_call 30; refine (r_may_b H.out _).mono ?_; rintro e w1 ⟨rfl, hb⟩; obtain ⟨hc, hf⟩ := bcell hb; have hz : w.heap.size + 1 < w1.heap.size := (by have := hb.size; (try simp at this); omega); have hl_0 : w.heap.size < w1.heap.size := (by omega); have hn_0 : w.heap.size ≠ w1.heap.size := (by omega); have hn_1 : w.heap.size + 1 ≠ w1.heap.size := (by omega))
    refine bodyPost_ret (v := .agg #[.int .u8 0, .int .u8 0]) (by simp [results, Tryd.results11, go_sem, hc, hf, hz]) rfl ?_
    refine ⟨rfl, ?_⟩
    (repeat' (first | (with_reducible exact Below.refl _ _) | (with_reducible refine Below.setCell ?_ (by (first | omega | (simp; done) | (simp; omega))) _) | (with_reducible refine Below.alloc ?_ (by (first | omega | (simp; done) | (simp; omega))) _) | (with_reducible refine Below.drew ?_) | (with_reducible refine below_drewN ?_ _) | (with_reducible refine Below.trans ?_ (Below.mono hb (by (first | omega | (simp; done) | (simp; omega)))))))
theorem r_light_c {w : World} {x y z : Int} {c : Cell} (h : lightA x y z = c) :
    Calls Tryd.prog 13 #[.agg #[.int .i64 x, .int .i64 y, .int .i64 z]] w fun e w' => e = .returned (cval c) ∧ Below w.heap.size w w' := by
  unfold lightA at h
  by_cases hm : mayB x y z = true
  · rw [if_pos hm] at h
    have H := Lib.hid hm
    have HA := Lib.hid (lit_c h)
    obtain ⟨c1, c2⟩ := c
    clear hm h
    go_enter Tryd.func13, Tryd.ntmps13
    go_wp2_with (first | (go_at_call 30; refine (r_may_b H.out _).mono ?_; rintro e w1 ⟨rfl, hb⟩; obtain ⟨hc, hf⟩ := bcell hb; have hz : w.heap.size + 1 < w1.heap.size := (by have := hb.size; (try simp at this); omega); have hl_0 : w.heap.size < w1.heap.size := (by omega); have hn_0 : w.heap.size ≠ w1.heap.size := (by omega); have hn_1 : w.heap.size + 1 ≠ w1.heap.size := (by omega)) | (go_at_call 32; (with_reducible refine (HA.out _).mono ?_); rintro e w2 ⟨rfl, hb2⟩; simp only [cval, bv]; obtain ⟨hc2, hf2⟩ := bcell hb2; have hz2 : w.heap.size + 1 < w2.heap.size := (by have := hb2.size; (try simp at this); omega); have hl2_0 : w.heap.size < w2.heap.size := (by omega); have hn2_0 : w.heap.size ≠ w2.heap.size := (by omega); have hn2_1 : w.heap.size + 1 ≠ w2.heap.size := (by omega)))
    refine bodyPost_ret (v := .agg #[.int .u8 (c1.toNat : Int), .int .u8 (c2.toNat : Int)]) (by simp [results, Tryd.results13, go_sem, hc, hf, hz, hc2, hf2, hz2]) rfl ?_
    refine ⟨rfl, ?_⟩
    (repeat' (first | (with_reducible exact Below.refl _ _) | (with_reducible refine Below.setCell ?_ (by (first | omega | (simp; done) | (simp; omega))) _) | (with_reducible refine Below.alloc ?_ (by (first | omega | (simp; done) | (simp; omega))) _) | (with_reducible refine Below.drew ?_) | (with_reducible refine below_drewN ?_ _) | (with_reducible refine Below.trans ?_ (Below.mono hb (by (first | omega | (simp; done) | (simp; omega))))) | (with_reducible refine Below.trans ?_ (Below.mono hb2 (by (first | omega | (simp; done) | (simp; omega)))))))
  · rw [if_neg hm] at h
    subst h
    have H := Lib.hid (Bool.eq_false_iff.2 hm)
    clear hm
    go_enter Tryd.func13, Tryd.ntmps13
    go_wp2_with (go_at_call 30; refine (r_may_b H.out _).mono ?_; rintro e w1 ⟨rfl, hb⟩; obtain ⟨hc, hf⟩ := bcell hb; have hz : w.heap.size + 1 < w1.heap.size := (by have := hb.size; (try simp at this); omega); have hl_0 : w.heap.size < w1.heap.size := (by omega); have hn_0 : w.heap.size ≠ w1.heap.size := (by omega); have hn_1 : w.heap.size + 1 ≠ w1.heap.size := (by omega))
    refine bodyPost_ret (v := .agg #[.int .u8 0, .int .u8 0]) (by simp [results, Tryd.results13, go_sem, hc, hf, hz]) rfl ?_
    refine ⟨rfl, ?_⟩
    (repeat' (first | (with_reducible exact Below.refl _ _) | (with_reducible refine Below.setCell ?_ (by (first | omega | (simp; done) | (simp; omega))) _) | (with_reducible refine Below.alloc ?_ (by (first | omega | (simp; done) | (simp; omega))) _) | (with_reducible refine Below.drew ?_) | (with_reducible refine below_drewN ?_ _) | (with_reducible refine Below.trans ?_ (Below.mono hb (by (first | omega | (simp; done) | (simp; omega)))))))
end LandP
end Go.Proofs.YtjjnmkbjohiekaaDoor
