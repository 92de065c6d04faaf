/-
  The walks of Step and Far, of place and of its reference; of the reference's Cmp.
-/
import Derived.Test.YtokkomglbddgcaaPlaceWalks3
import Derived.Test.YtokkomglbddgcaaPlaceWalks4
import Derived.Test.YtokkomglbddgcaaPlaceWalks5
namespace Go.Proofs.Ytokkomglbddgcaa
open Go.RowKit
set_option linter.unusedSimpArgs false
set_option linter.unusedVariables false
namespace PlaceW
open BitsP

theorem cmpSpot_c {x y z u v t n : Int} (h : cmpOf x y z u v t = n) (w : World) :
    Calls Try.prog 30 #[.agg #[.int .i64 x, .int .i64 y, .int .i64 z], .agg #[.int .i64 u, .int .i64 v, .int .i64 t]] w fun e w' => e = .returned (.int .i64 n) ∧ Below w.heap.size w w' := by
  have H := Lib.hid h
  clear h
  go_enter Try.func30, Try.ntmps30
  go_wp2_with (go_at_call 28; refine (cmp_c H.out _).mono ?_; rintro e w1 ⟨rfl, hb⟩)
  go_ret
  refine ⟨rfl, ?_⟩
  (repeat' (first | (with_reducible exact Below.refl _ _) | (with_reducible refine Below.setCell ?_ (by (first | omega | (simp; done) | (simp; omega))) _) | (with_reducible refine Below.alloc ?_ (by (first | omega | (simp; done) | (simp; omega))) _) | (with_reducible refine Below.drew ?_) | (with_reducible refine below_drewN ?_ _) | (with_reducible refine Below.trans ?_ (Below.mono hb (by (first | omega | (simp; done) | (simp; omega)))))))
theorem cmpI_zero {a b : Int} : cmpI a b = 0 ↔ a = b := by
  unfold cmpI
  constructor
  · intro h
    split at h
    · omega
    · split at h <;> omega
  · intro h
    rw [if_neg (by omega), if_neg (by omega)]
theorem firstNZ_cons {a : Int} {l : List Int} : firstNZ (a :: l) = if a = 0 then firstNZ l else a := by
  unfold firstNZ
  by_cases h : a = 0
  · simp [h]
  · simp [h]
theorem cmpOf_eq (x y z u v t : Int) : cmpOf x y z u v t = if x = u then (if z = t then cmpI y v else cmpI z t) else cmpI x u := by
  unfold cmpOf
  simp only [firstNZ_cons, cmpI_zero]
  split
  · split
    · split
      · rename_i h
        rw [cmpI_zero.2 h]
        rfl
      · rfl
    · rfl
  · rfl
set_option maxHeartbeats 400000 in
theorem r_cmp_c {x y z u v t n : Int} (h : cmpOf x y z u v t = n) (w : World) :
    Calls Try.prog 29 #[.agg #[.int .i64 x, .int .i64 y, .int .i64 z], .agg #[.int .i64 u, .int .i64 v, .int .i64 t]] w fun e w' => e = .returned (.int .i64 n) ∧ Below w.heap.size w w' := by
  subst h
  rw [cmpOf_eq]
  by_cases hx : x = u
  · by_cases hz : z = t
    · rw [if_pos hx, if_pos hz]
      have e1 : (x != u) = false := by simpa using hx
      have e2 : (z != t) = false := by simpa using hz
      clear hx hz
      go_enter Try.func29, Try.ntmps29
      go_wp2_with (go_at_call 45; refine (order_c rfl _).mono ?_; rintro e w' ⟨rfl, rfl⟩)
      go_ret
      refine ⟨rfl, ?_⟩
      (repeat' (first | (with_reducible exact Below.refl _ _) | (with_reducible refine Below.setCell ?_ (by (first | omega | (simp; done) | (simp; omega))) _) | (with_reducible refine Below.alloc ?_ (by (first | omega | (simp; done) | (simp; omega))) _) | (with_reducible refine Below.drew ?_) | (with_reducible refine below_drewN ?_ _)))
    · rw [if_pos hx, if_neg hz]
      have e1 : (x != u) = false := by simpa using hx
      have e2 : (z != t) = true := by simpa using hz
      clear hx hz
      go_enter Try.func29, Try.ntmps29
      go_wp2_with (go_at_call 45; refine (order_c rfl _).mono ?_; rintro e w' ⟨rfl, rfl⟩)
      go_ret
      refine ⟨rfl, ?_⟩
      (repeat' (first | (with_reducible exact Below.refl _ _) | (with_reducible refine Below.setCell ?_ (by (first | omega | (simp; done) | (simp; omega))) _) | (with_reducible refine Below.alloc ?_ (by (first | omega | (simp; done) | (simp; omega))) _) | (with_reducible refine Below.drew ?_) | (with_reducible refine below_drewN ?_ _)))
  · rw [if_neg hx]
    have e1 : (x != u) = true := by simpa using hx
    clear hx
    go_enter Try.func29, Try.ntmps29
    go_wp2_with (go_at_call 45; refine (order_c rfl _).mono ?_; rintro e w' ⟨rfl, rfl⟩)
    go_ret
    refine ⟨rfl, ?_⟩
    (repeat' (first | (with_reducible exact Below.refl _ _) | (with_reducible refine Below.setCell ?_ (by (first | omega | (simp; done) | (simp; omega))) _) | (with_reducible refine Below.alloc ?_ (by (first | omega | (simp; done) | (simp; omega))) _) | (with_reducible refine Below.drew ?_) | (with_reducible refine below_drewN ?_ _)))

theorem r_cmpSpot_c {x y z u v t n : Int} (h : cmpOf x y z u v t = n) (w : World) :
    Calls Try.prog 31 #[.agg #[.int .i64 x, .int .i64 y, .int .i64 z], .agg #[.int .i64 u, .int .i64 v, .int .i64 t]] w fun e w' => e = .returned (.int .i64 n) ∧ Below w.heap.size w w' := by
  have H := Lib.hid h
  clear h
  go_enter Try.func31, Try.ntmps31
  go_wp2_with (go_at_call 29; refine (r_cmp_c H.out _).mono ?_; rintro e w1 ⟨rfl, hb⟩)
  go_ret
  refine ⟨rfl, ?_⟩
  (repeat' (first | (with_reducible exact Below.refl _ _) | (with_reducible refine Below.setCell ?_ (by (first | omega | (simp; done) | (simp; omega))) _) | (with_reducible refine Below.alloc ?_ (by (first | omega | (simp; done) | (simp; omega))) _) | (with_reducible refine Below.drew ?_) | (with_reducible refine below_drewN ?_ _) | (with_reducible refine Below.trans ?_ (Below.mono hb (by (first | omega | (simp; done) | (simp; omega)))))))
set_option maxHeartbeats 400000 in
theorem r_far_c {x y z u v t n : Int} {r : Bool} (h : farOf x y z u v t = (n, r)) (w : World) :
    Calls Try.prog 27 #[.agg #[.int .i64 x, .int .i64 y, .int .i64 z], .agg #[.int .i64 u, .int .i64 v, .int .i64 t]] w fun e w' => e = .returned (.tuple #[.int .i64 n, .bool r]) ∧ Below w.heap.size w w' := by
  unfold farOf at h
  cases hm : mayB x y z with
  | false =>
    rw [hm] at h
    obtain ⟨rfl, rfl⟩ := p2 h
    have H := Lib.hid hm
    clear hm h
    go_enter Try.func27, Try.ntmps27
    go_wp2_with (go_at_call 20; refine (r_may_b H.out _).mono ?_; rintro e w1 ⟨rfl, hb⟩; obtain ⟨hc, hf⟩ := bcell hb; have hz : w.heap.size + 1 < w1.heap.size := (by have := hb.size; (try simp at this); omega); have hl_0 : w.heap.size < w1.heap.size := (by omega); have hn_0 : w.heap.size ≠ w1.heap.size := (by omega); have hn_1 : w.heap.size + 1 ≠ w1.heap.size := (by omega))
    refine bodyPost_ret (v := .tuple #[.int .i64 0, .bool false]) (by simp [results, Try.results27, go_sem]) rfl ?_
    refine ⟨rfl, ?_⟩
    (repeat' (first | (with_reducible exact Below.refl _ _) | (with_reducible refine Below.setCell ?_ (by (first | omega | (simp; done) | (simp; omega))) _) | (with_reducible refine Below.alloc ?_ (by (first | omega | (simp; done) | (simp; omega))) _) | (with_reducible refine Below.drew ?_) | (with_reducible refine below_drewN ?_ _) | (with_reducible refine Below.trans ?_ (Below.mono hb (by (first | omega | (simp; done) | (simp; omega)))))))
  | true =>
    cases hm2 : mayB u v t with
    | false =>
      rw [hm, hm2] at h
      obtain ⟨rfl, rfl⟩ := p2 h
      have H := Lib.hid hm
      have H2 := Lib.hid hm2
      clear hm hm2 h
      go_enter Try.func27, Try.ntmps27
      go_wp2_with fail
      go_at_call 20
      refine (r_may_b H.out _).mono ?_
      rintro e w1 ⟨rfl, hb⟩
      obtain ⟨hc1, hf1⟩ := bcell hb; have hz1 : w.heap.size + 1 < w1.heap.size := (by have := hb.size; (try simp at this); omega); have hl1_0 : w.heap.size < w1.heap.size := (by omega); have hn1_0 : w.heap.size ≠ w1.heap.size := (by omega); have hn1_1 : w.heap.size + 1 ≠ w1.heap.size := (by omega)
      go_wp2_with fail
      go_at_call 20
      refine (r_may_b H2.out _).mono ?_
      rintro e w2 ⟨rfl, hb2⟩
      obtain ⟨hc2, hf2⟩ := bcell hb2; have hz2 : w.heap.size + 1 < w2.heap.size := (by have := hb2.size; (try simp at this); omega); have hl2_0 : w.heap.size < w2.heap.size := (by omega); have hn2_0 : w.heap.size ≠ w2.heap.size := (by omega); have hn2_1 : w.heap.size + 1 ≠ w2.heap.size := (by omega)
      go_wp2_with fail
      refine bodyPost_ret (v := .tuple #[.int .i64 0, .bool false]) (by simp [results, Try.results27, go_sem]) rfl ?_
      refine ⟨rfl, ?_⟩
      (repeat' (first | (with_reducible exact Below.refl _ _) | (with_reducible refine Below.setCell ?_ (by (first | omega | (simp; done) | (simp; omega))) _) | (with_reducible refine Below.alloc ?_ (by (first | omega | (simp; done) | (simp; omega))) _) | (with_reducible refine Below.drew ?_) | (with_reducible refine below_drewN ?_ _) | (with_reducible refine Below.trans ?_ (Below.mono hb (by (first | omega | (simp; done) | (simp; omega))))) | (with_reducible refine Below.trans ?_ (Below.mono hb2 (by (first | omega | (simp; done) | (simp; omega)))))))
    | true =>
      rw [hm, hm2] at h
      obtain ⟨rfl, rfl⟩ := p2 h
      obtain ⟨h1, h2, h3, h4, h5, h6⟩ := mayB_true hm
      obtain ⟨g1, g2, g3, g4, g5, g6⟩ := mayB_true hm2
      have H := Lib.hid hm
      have H2 := Lib.hid hm2
      have hx := gapI_le (a := x) (b := u) (c := 1048576) (by omega) (by omega) (by omega) (by omega)
      have hy := gapI_le (a := y) (b := v) (c := 1048576) (by omega) (by omega) (by omega) (by omega)
      have hz := gapI_le (a := z) (b := t) (c := 1048576) (by omega) (by omega) (by omega) (by omega)
      have q1 : IntKind.i64.wrap (gapI x u + gapI y v) = gapI x u + gapI y v := wrapI_small (by omega) (by omega)
      have q2 : IntKind.i64.wrap (gapI x u + gapI y v + gapI z t) = gapI x u + gapI y v + gapI z t := wrapI_small (by omega) (by omega)
      have HX := Lib.hid (gap_c (a := x) (b := u) (by omega) (by omega) (by omega) (by omega))
      have HY := Lib.hid (gap_c (a := y) (b := v) (by omega) (by omega) (by omega) (by omega))
      have HZ := Lib.hid (gap_c (a := z) (b := t) (by omega) (by omega) (by omega) (by omega))
      clear hm hm2 h
      go_enter Try.func27, Try.ntmps27
      go_wp2_with fail
      go_at_call 20
      refine (r_may_b H.out _).mono ?_
      rintro e w1 ⟨rfl, hb⟩
      obtain ⟨hc1, hf1⟩ := bcell hb; have hz1 : w.heap.size + 1 < w1.heap.size := (by have := hb.size; (try simp at this); omega); have hl1_0 : w.heap.size < w1.heap.size := (by omega); have hn1_0 : w.heap.size ≠ w1.heap.size := (by omega); have hn1_1 : w.heap.size + 1 ≠ w1.heap.size := (by omega)
      go_wp2_with fail
      go_at_call 20
      refine (r_may_b H2.out _).mono ?_
      rintro e w2 ⟨rfl, hb2⟩
      obtain ⟨hc2, hf2⟩ := bcell hb2; have hz2 : w.heap.size + 1 < w2.heap.size := (by have := hb2.size; (try simp at this); omega); have hl2_0 : w.heap.size < w2.heap.size := (by omega); have hn2_0 : w.heap.size ≠ w2.heap.size := (by omega); have hn2_1 : w.heap.size + 1 ≠ w2.heap.size := (by omega)
      go_wp2_with fail
      have ca0 : w2.cell? ⟨w.heap.size, 0, none⟩ = some (.int .i64 x) := (by rw [hb2.cell (p := ⟨w.heap.size, 0, none⟩) (by (first | omega | (simp; done) | (simp; omega))), hb.cell (p := ⟨w.heap.size, 0, none⟩) (by (first | omega | (simp; done) | (simp; omega)))] <;> simp); have ca1 : w2.cell? ⟨w.heap.size, 1, none⟩ = some (.int .i64 y) := (by rw [hb2.cell (p := ⟨w.heap.size, 1, none⟩) (by (first | omega | (simp; done) | (simp; omega))), hb.cell (p := ⟨w.heap.size, 1, none⟩) (by (first | omega | (simp; done) | (simp; omega)))] <;> simp); have ca2 : w2.cell? ⟨w.heap.size, 2, none⟩ = some (.int .i64 z) := (by rw [hb2.cell (p := ⟨w.heap.size, 2, none⟩) (by (first | omega | (simp; done) | (simp; omega))), hb.cell (p := ⟨w.heap.size, 2, none⟩) (by (first | omega | (simp; done) | (simp; omega)))] <;> simp)
      have cb0 : w2.cell? ⟨w.heap.size + 1, 0, none⟩ = some (.int .i64 u) := (by rw [hb2.cell (p := ⟨w.heap.size + 1, 0, none⟩) (by (first | omega | (simp; done) | (simp; omega))), hb.cell (p := ⟨w.heap.size + 1, 0, none⟩) (by (first | omega | (simp; done) | (simp; omega)))] <;> simp); have cb1 : w2.cell? ⟨w.heap.size + 1, 1, none⟩ = some (.int .i64 v) := (by rw [hb2.cell (p := ⟨w.heap.size + 1, 1, none⟩) (by (first | omega | (simp; done) | (simp; omega))), hb.cell (p := ⟨w.heap.size + 1, 1, none⟩) (by (first | omega | (simp; done) | (simp; omega)))] <;> simp); have cb2 : w2.cell? ⟨w.heap.size + 1, 2, none⟩ = some (.int .i64 t) := (by rw [hb2.cell (p := ⟨w.heap.size + 1, 2, none⟩) (by (first | omega | (simp; done) | (simp; omega))), hb.cell (p := ⟨w.heap.size + 1, 2, none⟩) (by (first | omega | (simp; done) | (simp; omega)))] <;> simp)
      clear hc1 hf1 hc2 hf2
      go_quiet ((go_at_call 42; (first | (with_reducible refine Calls.quiet_of_same (HX.out _)) | (with_reducible refine Calls.quiet_of_same (HY.out _)) | (with_reducible refine Calls.quiet_of_same (HZ.out _)))))
      go_wp2_with fail
      refine bodyPost_ret (v := .tuple #[.int .i64 (gapI x u + gapI y v + gapI z t), .bool true]) (by simp [results, Try.results27, go_sem]) rfl ?_
      refine ⟨rfl, ?_⟩
      (repeat' (first | (with_reducible exact Below.refl _ _) | (with_reducible refine Below.setCell ?_ (by (first | omega | (simp; done) | (simp; omega))) _) | (with_reducible refine Below.alloc ?_ (by (first | omega | (simp; done) | (simp; omega))) _) | (with_reducible refine Below.drew ?_) | (with_reducible refine below_drewN ?_ _) | (with_reducible refine Below.trans ?_ (Below.mono hb (by (first | omega | (simp; done) | (simp; omega))))) | (with_reducible refine Below.trans ?_ (Below.mono hb2 (by (first | omega | (simp; done) | (simp; omega)))))))

/-- The side of a place, and whether there is one. -/
def stepOf (x y z d : Int) : Int × Int × Int × Bool :=
  if mayB x y z = true then (if (mv d x y z).2.2.2 = true ∧ mayB (mv d x y z).1 (mv d x y z).2.1 (mv d x y z).2.2.1 = true then mv d x y z else (0, 0, 0, false)) else (0, 0, 0, false)

set_option maxHeartbeats 400000 in
theorem step_c {x y z d X Y Z : Int} {r : Bool} (h : stepOf x y z d = (X, Y, Z, r)) (w : World) :
    Calls Try.prog 24 #[.agg #[.int .i64 x, .int .i64 y, .int .i64 z], .int .i64 d] w fun e w' => e = .returned (.tuple #[.agg #[.int .i64 X, .int .i64 Y, .int .i64 Z], .bool r]) ∧ Below w.heap.size w w' := by
  obtain ⟨X', Y', Z', r', hv⟩ : ∃ X' Y' Z' r', mv d x y z = (X', Y', Z', r') := ⟨_, _, _, _, rfl⟩
  unfold stepOf at h
  rw [hv] at h
  simp only at h
  have HV := Lib.hid hv
  clear hv
  cases r' with
  | false =>
    rw [if_neg (c := _ ∧ _) (by simp), ite_self] at h
    obtain ⟨rfl, rfl, rfl, rfl⟩ := p4 h
    clear h
    go_enter Try.func24, Try.ntmps24
    go_wp2_with (go_at_call 40; refine (moved_c HV.out _).mono ?_; rintro e w1 ⟨rfl, hb⟩; obtain ⟨hc1, hf1⟩ := bcell hb; have hz1 : w.heap.size + 1 < w1.heap.size := (by have := hb.size; (try simp at this); omega); have hl1_0 : w.heap.size < w1.heap.size := (by omega); have hn1_0 : w.heap.size ≠ w1.heap.size := (by omega); have hn1_1 : w.heap.size + 1 ≠ w1.heap.size := (by omega))
    refine bodyPost_ret (v := .tuple #[.agg #[.int .i64 0, .int .i64 0, .int .i64 0], .bool false]) (by simp [results, Try.results24, go_sem, hc1, hf1, hz1, hl1_0, hn1_0, hn1_1]) rfl ?_
    refine ⟨rfl, ?_⟩
    (repeat' (first | (with_reducible exact Below.refl _ _) | (with_reducible refine Below.setCell ?_ (by (first | omega | (simp; done) | (simp; omega))) _) | (with_reducible refine Below.alloc ?_ (by (first | omega | (simp; done) | (simp; omega))) _) | (with_reducible refine Below.drew ?_) | (with_reducible refine below_drewN ?_ _) | (with_reducible refine Below.trans ?_ (Below.mono hb (by (first | omega | (simp; done) | (simp; omega)))))))
  | true =>
    cases hm : mayB x y z with
    | false =>
      rw [hm, if_neg (by simp)] at h
      obtain ⟨rfl, rfl, rfl, rfl⟩ := p4 h
      have H := Lib.hid hm
      clear h hm
      go_enter Try.func24, Try.ntmps24
      go_wp2_with fail
      go_at_call 40
      refine (moved_c HV.out _).mono ?_
      rintro e w1 ⟨rfl, hb⟩
      obtain ⟨hc1, hf1⟩ := bcell hb; have hz1 : w.heap.size + 1 < w1.heap.size := (by have := hb.size; (try simp at this); omega); have hl1_0 : w.heap.size < w1.heap.size := (by omega); have hn1_0 : w.heap.size ≠ w1.heap.size := (by omega); have hn1_1 : w.heap.size + 1 ≠ w1.heap.size := (by omega)
      go_wp2_with fail
      go_at_call 19
      refine (may_b H.out _).mono ?_
      rintro e w2 ⟨rfl, hb2⟩
      obtain ⟨hc2, hf2⟩ := bcell hb2; have hz2 : w1.heap.size < w2.heap.size := (by have := hb2.size; (try simp at this); omega); have hn2_0 : w1.heap.size ≠ w2.heap.size := (by omega); have hk2_0 : w.heap.size < w2.heap.size := (by omega); have hm2_0 : w.heap.size ≠ w2.heap.size := (by omega); have hk2_1 : w.heap.size + 1 < w2.heap.size := (by omega); have hm2_1 : w.heap.size + 1 ≠ w2.heap.size := (by omega)
      go_wp2_with fail
      refine bodyPost_ret (v := .tuple #[.agg #[.int .i64 0, .int .i64 0, .int .i64 0], .bool false]) (by simp [results, Try.results24, go_sem, hc1, hf1, hz1, hl1_0, hn1_0, hn1_1, hc2, hf2, hz2, hn2_0, hk2_0, hk2_1]) rfl ?_
      refine ⟨rfl, ?_⟩
      (repeat' (first | (with_reducible exact Below.refl _ _) | (with_reducible refine Below.setCell ?_ (by (first | omega | (simp; done) | (simp; omega))) _) | (with_reducible refine Below.alloc ?_ (by (first | omega | (simp; done) | (simp; omega))) _) | (with_reducible refine Below.drew ?_) | (with_reducible refine below_drewN ?_ _) | (with_reducible refine Below.trans ?_ (Below.mono hb (by (first | omega | (simp; done) | (simp; omega))))) | (with_reducible refine Below.trans ?_ (Below.mono hb2 (by (first | omega | (simp; done) | (simp; omega)))))))
    | true =>
      have H := Lib.hid hm
      cases hm2 : mayB X' Y' Z' with
      | false =>
        rw [hm, hm2, if_pos rfl, if_neg (by simp)] at h
        obtain ⟨rfl, rfl, rfl, rfl⟩ := p4 h
        have H2 := Lib.hid hm2
        clear h hm hm2
        go_enter Try.func24, Try.ntmps24
        go_wp2_with fail
        go_at_call 40
        refine (moved_c HV.out _).mono ?_
        rintro e w1 ⟨rfl, hb⟩
        obtain ⟨hc1, hf1⟩ := bcell hb; have hz1 : w.heap.size + 1 < w1.heap.size := (by have := hb.size; (try simp at this); omega); have hl1_0 : w.heap.size < w1.heap.size := (by omega); have hn1_0 : w.heap.size ≠ w1.heap.size := (by omega); have hn1_1 : w.heap.size + 1 ≠ w1.heap.size := (by omega)
        go_wp2_with fail
        go_at_call 19
        refine (may_b H.out _).mono ?_
        rintro e w2 ⟨rfl, hb2⟩
        obtain ⟨hc2, hf2⟩ := bcell hb2; have hz2 : w1.heap.size < w2.heap.size := (by have := hb2.size; (try simp at this); omega); have hn2_0 : w1.heap.size ≠ w2.heap.size := (by omega); have hk2_0 : w.heap.size < w2.heap.size := (by omega); have hm2_0 : w.heap.size ≠ w2.heap.size := (by omega); have hk2_1 : w.heap.size + 1 < w2.heap.size := (by omega); have hm2_1 : w.heap.size + 1 ≠ w2.heap.size := (by omega)
        go_wp2_with fail
        go_at_call 19
        refine (may_b H2.out _).mono ?_
        rintro e w3 ⟨rfl, hb3⟩
        obtain ⟨hc3, hf3⟩ := bcell hb3; have hz3 : w1.heap.size < w3.heap.size := (by have := hb3.size; (try simp at this); omega); have hn3_0 : w1.heap.size ≠ w3.heap.size := (by omega); have hk3_0 : w.heap.size < w3.heap.size := (by omega); have hm3_0 : w.heap.size ≠ w3.heap.size := (by omega); have hk3_1 : w.heap.size + 1 < w3.heap.size := (by omega); have hm3_1 : w.heap.size + 1 ≠ w3.heap.size := (by omega)
        go_wp2_with fail
        refine bodyPost_ret (v := .tuple #[.agg #[.int .i64 0, .int .i64 0, .int .i64 0], .bool false]) (by simp [results, Try.results24, go_sem, hc1, hf1, hz1, hl1_0, hn1_0, hn1_1, hc2, hf2, hz2, hn2_0, hk2_0, hk2_1, hc3, hf3, hz3, hn3_0, hk3_0, hk3_1]) rfl ?_
        refine ⟨rfl, ?_⟩
        (repeat' (first | (with_reducible exact Below.refl _ _) | (with_reducible refine Below.setCell ?_ (by (first | omega | (simp; done) | (simp; omega))) _) | (with_reducible refine Below.alloc ?_ (by (first | omega | (simp; done) | (simp; omega))) _) | (with_reducible refine Below.drew ?_) | (with_reducible refine below_drewN ?_ _) | (with_reducible refine Below.trans ?_ (Below.mono hb (by (first | omega | (simp; done) | (simp; omega))))) | (with_reducible refine Below.trans ?_ (Below.mono hb2 (by (first | omega | (simp; done) | (simp; omega))))) | (with_reducible refine Below.trans ?_ (Below.mono hb3 (by (first | omega | (simp; done) | (simp; omega)))))))
      | true =>
        rw [hm, hm2, if_pos rfl, if_pos ⟨rfl, rfl⟩] at h
        obtain ⟨rfl, rfl, rfl, rfl⟩ := p4 h
        have H2 := Lib.hid hm2
        clear h hm hm2
        go_enter Try.func24, Try.ntmps24
        go_wp2_with fail
        go_at_call 40
        refine (moved_c HV.out _).mono ?_
        rintro e w1 ⟨rfl, hb⟩
        obtain ⟨hc1, hf1⟩ := bcell hb; have hz1 : w.heap.size + 1 < w1.heap.size := (by have := hb.size; (try simp at this); omega); have hl1_0 : w.heap.size < w1.heap.size := (by omega); have hn1_0 : w.heap.size ≠ w1.heap.size := (by omega); have hn1_1 : w.heap.size + 1 ≠ w1.heap.size := (by omega)
        go_wp2_with fail
        go_at_call 19
        refine (may_b H.out _).mono ?_
        rintro e w2 ⟨rfl, hb2⟩
        obtain ⟨hc2, hf2⟩ := bcell hb2; have hz2 : w1.heap.size < w2.heap.size := (by have := hb2.size; (try simp at this); omega); have hn2_0 : w1.heap.size ≠ w2.heap.size := (by omega); have hk2_0 : w.heap.size < w2.heap.size := (by omega); have hm2_0 : w.heap.size ≠ w2.heap.size := (by omega); have hk2_1 : w.heap.size + 1 < w2.heap.size := (by omega); have hm2_1 : w.heap.size + 1 ≠ w2.heap.size := (by omega)
        go_wp2_with fail
        go_at_call 19
        refine (may_b H2.out _).mono ?_
        rintro e w3 ⟨rfl, hb3⟩
        obtain ⟨hc3, hf3⟩ := bcell hb3; have hz3 : w1.heap.size < w3.heap.size := (by have := hb3.size; (try simp at this); omega); have hn3_0 : w1.heap.size ≠ w3.heap.size := (by omega); have hk3_0 : w.heap.size < w3.heap.size := (by omega); have hm3_0 : w.heap.size ≠ w3.heap.size := (by omega); have hk3_1 : w.heap.size + 1 < w3.heap.size := (by omega); have hm3_1 : w.heap.size + 1 ≠ w3.heap.size := (by omega)
        go_wp2_with fail
        trace_state
        refine bodyPost_ret (v := .tuple #[.agg #[.int .i64 X', .int .i64 Y', .int .i64 Z'], .bool true]) (by simp [results, Try.results24, go_sem, hc1, hf1, hz1, hl1_0, hn1_0, hn1_1, hc2, hf2, hz2, hn2_0, hk2_0, hk2_1, hc3, hf3, hz3, hn3_0, hk3_0, hk3_1]) rfl ?_
        refine ⟨rfl, ?_⟩
        (repeat' (first | (with_reducible exact Below.refl _ _) | (with_reducible refine Below.setCell ?_ (by (first | omega | (simp; done) | (simp; omega))) _) | (with_reducible refine Below.alloc ?_ (by (first | omega | (simp; done) | (simp; omega))) _) | (with_reducible refine Below.drew ?_) | (with_reducible refine below_drewN ?_ _) | (with_reducible refine Below.trans ?_ (Below.mono hb (by (first | omega | (simp; done) | (simp; omega))))) | (with_reducible refine Below.trans ?_ (Below.mono hb2 (by (first | omega | (simp; done) | (simp; omega))))) | (with_reducible refine Below.trans ?_ (Below.mono hb3 (by (first | omega | (simp; done) | (simp; omega)))))))
end PlaceW
end Go.Proofs.Ytokkomglbddgcaa
