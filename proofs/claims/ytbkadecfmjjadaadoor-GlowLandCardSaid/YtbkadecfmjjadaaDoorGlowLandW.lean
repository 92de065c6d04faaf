/-
  land.Cell and land.Light at a place that may be.
-/
import Derived.Test.YtbkadecfmjjadaaDoorPlaceWalks2
import Derived.Test.YtbkadecfmjjadaaDoorHeldP
import Derived.Test.YtbkadecfmjjadaaDoorGlowLandP
namespace Go.Proofs.YtbkadecfmjjadaaDoor
open Go.RowKit
set_option linter.unusedVariables false
set_option linter.unusedSimpArgs false
namespace LandP
open PlaceW
/-- The kind of layer k. -/
def lay (k : Nat) : Nat := if k = 0 then 1 else if k = 1 then 2 else if k = 2 then 3 else 0
/-- How many layers end below a height. -/
def below_ (y : Int) : Nat := if y < 1 then 0 else if y < 12 then 1 else if y < 16 then 2 else 3
/-- The table of layers lies in its variable. -/
structure LTab (w : World) : Prop where
  lay : ∀ k, k < 4 → w.cell? ⟨0, k, none⟩ = some (.int .u8 (lay k))
  size : 0 < w.heap.size
theorem LTab.below {w w' : World} (h : LTab w) (b : Below w.heap.size w w') : LTab w' :=
  ⟨fun k hk => (b.cell (p := ⟨0, _, none⟩) h.size).trans (h.lay k hk), Nat.lt_of_lt_of_le h.size b.size⟩
theorem below_lt (y : Int) : below_ y < 4 := by
  unfold below_
  split
  · omega
  · split
    · omega
    · split <;> omega
theorem layersBelow_c {y : Int} {k : Nat} (h : below_ y = k) (w : World) :
    Calls Tryd.prog 36 #[.int .i64 y] w fun e w' => e = .returned (.int .i64 (k : Int)) ∧ w = w' := by
  subst h
  by_cases h1 : y ≥ 16
  · have e : Hid (below_ y = 3) := Lib.hid (by rw [below_, if_neg (by omega), if_neg (by omega), if_neg (by omega)])
    go_enter Tryd.func36, Tryd.ntmps36
    go_wp2
    go_ret
    exact ⟨by rw [e.out]; rfl, rfl⟩
  · by_cases h2 : y ≥ 12
    · have e : Hid (below_ y = 2) := Lib.hid (by rw [below_, if_neg (by omega), if_neg (by omega), if_pos (by omega)])
      go_enter Tryd.func36, Tryd.ntmps36
      go_wp2
      go_ret
      exact ⟨by rw [e.out]; rfl, rfl⟩
    · by_cases h3 : y ≥ 1
      · have e : Hid (below_ y = 1) := Lib.hid (by rw [below_, if_neg (by omega), if_pos (by omega)])
        go_enter Tryd.func36, Tryd.ntmps36
        go_wp2
        go_ret
        exact ⟨by rw [e.out]; rfl, rfl⟩
      · have e : Hid (below_ y = 0) := Lib.hid (by rw [below_, if_pos (by omega)])
        go_enter Tryd.func36, Tryd.ntmps36
        go_wp2
        go_ret
        exact ⟨by rw [e.out]; rfl, rfl⟩
theorem col_lay {y : Nat} : GlowW.colC y = (lay (below_ y), 0) := by
  by_cases h1 : y < 1
  · have hb : below_ (y : Int) = 0 := by rw [below_, if_pos (by omega)]
    rw [hb, GlowW.colC, if_pos h1]
    rfl
  · by_cases h2 : y < 12
    · have hb : below_ (y : Int) = 1 := by rw [below_, if_neg (by omega), if_pos (by omega)]
      rw [hb, GlowW.colC, if_neg h1, if_pos h2]
      rfl
    · by_cases h3 : y < 16
      · have hb : below_ (y : Int) = 2 := by rw [below_, if_neg (by omega), if_neg (by omega), if_pos (by omega)]
        rw [hb, GlowW.colC, if_neg h1, if_neg h2, if_pos h3]
        rfl
      · have hb : below_ (y : Int) = 3 := by rw [below_, if_neg (by omega), if_neg (by omega), if_neg (by omega)]
        rw [hb, GlowW.colC, if_neg h1, if_neg h2, if_neg h3]
        rfl
set_option maxHeartbeats 4000000 in
theorem cell_g {w : World} {x z : Int} {y k l : Nat} (hT : LTab w) (hm : mayB x y z = true) (h : GlowW.colC y = (k, l)) :
    Calls Tryd.prog 21 #[.agg #[.int .i64 x, .int .i64 y, .int .i64 z]] w fun e w' => e = .returned (.agg #[.int .u8 k, .int .u8 l]) ∧ Below w.heap.size w w' := by
  rw [col_lay] at h
  injection h with h1 h2
  subst h1 h2
  have HT := Lib.hid hT
  have hg := hT.size
  have H := Lib.hid hm
  obtain ⟨Y, hY⟩ : ∃ Y : Int, (y : Int) = Y := ⟨_, rfl⟩
  rw [hY] at H ⊢
  obtain ⟨k, hk⟩ : ∃ k, below_ Y = k := ⟨_, rfl⟩
  have hk4 : k < 4 := hk ▸ below_lt Y
  have HB := Lib.hid (layersBelow_c hk)
  rw [hk]
  clear hm hk hT hY
  go_enter Tryd.func21, Tryd.ntmps21
  go_wp2_with (first | (go_at_call 35; refine (may_b H.out _).mono ?_; rintro e w1 ⟨rfl, hb⟩; have q := (HT.out.below (by (repeat' (first | (with_reducible exact Below.refl _ _) | (with_reducible refine Below.setCell ?_ (by (first | omega | (simp; done) | (simp; omega))) _) | (with_reducible refine Below.alloc ?_ (by (first | omega | (simp; done) | (simp; omega))) _) | (with_reducible refine Below.drew ?_) | (with_reducible refine below_drewN ?_ _) | (with_reducible refine Below.trans ?_ (Below.mono hb (by (first | omega | (simp; done) | (simp; omega))))))))).lay k hk4; obtain ⟨hc, hf⟩ := bcell hb; have hz : w.heap.size + 1 < w1.heap.size := (by have := hb.size; (try simp at this); omega); have hl_0 : w.heap.size < w1.heap.size := (by omega); have hn_0 : w.heap.size ≠ w1.heap.size := (by omega); have hn_1 : w.heap.size + 1 ≠ w1.heap.size := (by omega)) | (go_at_call 36; (with_reducible refine (HB.out _).mono ?_); rintro e w' ⟨rfl, rfl⟩))
  refine bodyPost_ret (v := .agg #[.int .u8 (lay k), .int .u8 0]) (by simp [results, Tryd.results21, go_sem, hc, hf, hz]) rfl ?_
  refine ⟨rfl, ?_⟩
  (repeat' (first | (with_reducible exact Below.refl _ _) | (with_reducible refine Below.setCell ?_ (by (first | omega | (simp; done) | (simp; omega))) _) | (with_reducible refine Below.alloc ?_ (by (first | omega | (simp; done) | (simp; omega))) _) | (with_reducible refine Below.drew ?_) | (with_reducible refine below_drewN ?_ _) | (with_reducible refine Below.trans ?_ (Below.mono hb (by (first | omega | (simp; done) | (simp; omega)))))))
set_option maxHeartbeats 4000000 in
theorem light_g {w : World} {x z : Int} {y a b : Nat} (hm : mayB x y z = true) (h : GlowW.colL y = (a, b)) :
    Calls Tryd.prog 22 #[.agg #[.int .i64 x, .int .i64 y, .int .i64 z]] w fun e w' => e = .returned (.agg #[.int .u8 a, .int .u8 b]) ∧ Below w.heap.size w w' := by
  have H := Lib.hid hm
  obtain ⟨Y, hY⟩ : ∃ Y : Int, (y : Int) = Y := ⟨_, rfl⟩
  rw [hY] at H ⊢
  unfold GlowW.colL at h
  injection h with h1 h2
  subst h1 h2
  by_cases hy : Y < 16
  · rw [if_pos (show y < 16 by omega)]
    clear hm hY
    go_enter Tryd.func22, Tryd.ntmps22
    go_wp2_with (go_at_call 35; refine (may_b H.out _).mono ?_; rintro e w1 ⟨rfl, hb⟩; obtain ⟨hc, hf⟩ := bcell hb; have hz : w.heap.size + 1 < w1.heap.size := (by have := hb.size; (try simp at this); omega); have hl_0 : w.heap.size < w1.heap.size := (by omega); have hn_0 : w.heap.size ≠ w1.heap.size := (by omega); have hn_1 : w.heap.size + 1 ≠ w1.heap.size := (by omega))
    refine bodyPost_ret (v := .agg #[.int .u8 0, .int .u8 0]) (by simp [results, Tryd.results22, go_sem, hc, hf, hz]) rfl ?_
    refine ⟨rfl, ?_⟩
    (repeat' (first | (with_reducible exact Below.refl _ _) | (with_reducible refine Below.setCell ?_ (by (first | omega | (simp; done) | (simp; omega))) _) | (with_reducible refine Below.alloc ?_ (by (first | omega | (simp; done) | (simp; omega))) _) | (with_reducible refine Below.drew ?_) | (with_reducible refine below_drewN ?_ _) | (with_reducible refine Below.trans ?_ (Below.mono hb (by (first | omega | (simp; done) | (simp; omega)))))))
  · rw [if_neg (show ¬ y < 16 by omega)]
    clear hm hY
    go_enter Tryd.func22, Tryd.ntmps22
    go_wp2_with (go_at_call 35; refine (may_b H.out _).mono ?_; rintro e w1 ⟨rfl, hb⟩; obtain ⟨hc, hf⟩ := bcell hb; have hz : w.heap.size + 1 < w1.heap.size := (by have := hb.size; (try simp at this); omega); have hl_0 : w.heap.size < w1.heap.size := (by omega); have hn_0 : w.heap.size ≠ w1.heap.size := (by omega); have hn_1 : w.heap.size + 1 ≠ w1.heap.size := (by omega))
    refine bodyPost_ret (v := .agg #[.int .u8 15, .int .u8 0]) (by simp [results, Tryd.results22, go_sem, hc, hf, hz]) rfl ?_
    refine ⟨rfl, ?_⟩
    (repeat' (first | (with_reducible exact Below.refl _ _) | (with_reducible refine Below.setCell ?_ (by (first | omega | (simp; done) | (simp; omega))) _) | (with_reducible refine Below.alloc ?_ (by (first | omega | (simp; done) | (simp; omega))) _) | (with_reducible refine Below.drew ?_) | (with_reducible refine below_drewN ?_ _) | (with_reducible refine Below.trans ?_ (Below.mono hb (by (first | omega | (simp; done) | (simp; omega)))))))
end LandP
end Go.Proofs.YtbkadecfmjjadaaDoor
