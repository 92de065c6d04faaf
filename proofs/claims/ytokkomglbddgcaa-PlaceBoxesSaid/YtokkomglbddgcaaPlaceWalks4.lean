/-
  The walks of steps and distances: moved, Step, apart, Far, and the reference's own.
-/
import Derived.Test.YtokkomglbddgcaaPlaceWalks2
import Derived.Deep.Draws
namespace Go.Proofs.Ytokkomglbddgcaa
open Go.RowKit
set_option linter.unusedSimpArgs false
set_option linter.unusedVariables false
namespace PlaceW
open BitsP

/-- Where a step leads, of any numbers. -/
def mv (d x y z : Int) : Int × Int × Int × Bool :=
  if d = 0 then (wrap64 (x + 1), y, z, true) else if d = 1 then (wrap64 (x - 1), y, z, true) else if d = 2 then (x, y, wrap64 (z + 1), true) else if d = 3 then (x, y, wrap64 (z - 1), true)
  else if d = 4 then (x, wrap64 (y + 1), z, true) else if d = 5 then (x, wrap64 (y - 1), z, true) else (x, y, z, false)

theorem moved_c {d x y z X Y Z : Int} {r : Bool} (h : mv d x y z = (X, Y, Z, r)) (w : World) :
    Calls Try.prog 40 #[.agg #[.int .i64 x, .int .i64 y, .int .i64 z], .int .i64 d] w fun e w' => e = .returned (.tuple #[.agg #[.int .i64 X, .int .i64 Y, .int .i64 Z], .bool r]) ∧ Below w.heap.size w w' := by
  unfold mv at h
  by_cases h0 : d = 0
  · subst h0
    rw [if_pos rfl] at h
    obtain ⟨rfl, rfl, rfl, rfl⟩ := p4 h
    clear h
    go_enter Try.func40, Try.ntmps40
    go_wp2
    refine bodyPost_ret (v := .tuple #[.agg #[.int .i64 (wrap64 (x + 1)), .int .i64 y, .int .i64 z], .bool true]) (by simp [results, Try.results40, go_sem]) rfl ?_
    refine ⟨rfl, ?_⟩
    (repeat' (first | (with_reducible exact Below.refl _ _) | (with_reducible refine Below.setCell ?_ (by (first | omega | (simp; done) | (simp; omega))) _) | (with_reducible refine Below.alloc ?_ (by (first | omega | (simp; done) | (simp; omega))) _) | (with_reducible refine Below.drew ?_) | (with_reducible refine below_drewN ?_ _)))
  rw [if_neg h0] at h
  by_cases h1 : d = 1
  · subst h1
    rw [if_pos rfl] at h
    obtain ⟨rfl, rfl, rfl, rfl⟩ := p4 h
    clear h h0
    go_enter Try.func40, Try.ntmps40
    go_wp2
    refine bodyPost_ret (v := .tuple #[.agg #[.int .i64 (wrap64 (x - 1)), .int .i64 y, .int .i64 z], .bool true]) (by simp [results, Try.results40, go_sem]) rfl ?_
    refine ⟨rfl, ?_⟩
    (repeat' (first | (with_reducible exact Below.refl _ _) | (with_reducible refine Below.setCell ?_ (by (first | omega | (simp; done) | (simp; omega))) _) | (with_reducible refine Below.alloc ?_ (by (first | omega | (simp; done) | (simp; omega))) _) | (with_reducible refine Below.drew ?_) | (with_reducible refine below_drewN ?_ _)))
  rw [if_neg h1] at h
  by_cases h2 : d = 2
  · subst h2
    rw [if_pos rfl] at h
    obtain ⟨rfl, rfl, rfl, rfl⟩ := p4 h
    clear h h0 h1
    go_enter Try.func40, Try.ntmps40
    go_wp2
    refine bodyPost_ret (v := .tuple #[.agg #[.int .i64 x, .int .i64 y, .int .i64 (wrap64 (z + 1))], .bool true]) (by simp [results, Try.results40, go_sem]) rfl ?_
    refine ⟨rfl, ?_⟩
    (repeat' (first | (with_reducible exact Below.refl _ _) | (with_reducible refine Below.setCell ?_ (by (first | omega | (simp; done) | (simp; omega))) _) | (with_reducible refine Below.alloc ?_ (by (first | omega | (simp; done) | (simp; omega))) _) | (with_reducible refine Below.drew ?_) | (with_reducible refine below_drewN ?_ _)))
  rw [if_neg h2] at h
  by_cases h3 : d = 3
  · subst h3
    rw [if_pos rfl] at h
    obtain ⟨rfl, rfl, rfl, rfl⟩ := p4 h
    clear h h0 h1 h2
    go_enter Try.func40, Try.ntmps40
    go_wp2
    refine bodyPost_ret (v := .tuple #[.agg #[.int .i64 x, .int .i64 y, .int .i64 (wrap64 (z - 1))], .bool true]) (by simp [results, Try.results40, go_sem]) rfl ?_
    refine ⟨rfl, ?_⟩
    (repeat' (first | (with_reducible exact Below.refl _ _) | (with_reducible refine Below.setCell ?_ (by (first | omega | (simp; done) | (simp; omega))) _) | (with_reducible refine Below.alloc ?_ (by (first | omega | (simp; done) | (simp; omega))) _) | (with_reducible refine Below.drew ?_) | (with_reducible refine below_drewN ?_ _)))
  rw [if_neg h3] at h
  by_cases h4 : d = 4
  · subst h4
    rw [if_pos rfl] at h
    obtain ⟨rfl, rfl, rfl, rfl⟩ := p4 h
    clear h h0 h1 h2 h3
    go_enter Try.func40, Try.ntmps40
    go_wp2
    refine bodyPost_ret (v := .tuple #[.agg #[.int .i64 x, .int .i64 (wrap64 (y + 1)), .int .i64 z], .bool true]) (by simp [results, Try.results40, go_sem]) rfl ?_
    refine ⟨rfl, ?_⟩
    (repeat' (first | (with_reducible exact Below.refl _ _) | (with_reducible refine Below.setCell ?_ (by (first | omega | (simp; done) | (simp; omega))) _) | (with_reducible refine Below.alloc ?_ (by (first | omega | (simp; done) | (simp; omega))) _) | (with_reducible refine Below.drew ?_) | (with_reducible refine below_drewN ?_ _)))
  rw [if_neg h4] at h
  by_cases h5 : d = 5
  · subst h5
    rw [if_pos rfl] at h
    obtain ⟨rfl, rfl, rfl, rfl⟩ := p4 h
    clear h h0 h1 h2 h3 h4
    go_enter Try.func40, Try.ntmps40
    go_wp2
    refine bodyPost_ret (v := .tuple #[.agg #[.int .i64 x, .int .i64 (wrap64 (y - 1)), .int .i64 z], .bool true]) (by simp [results, Try.results40, go_sem]) rfl ?_
    refine ⟨rfl, ?_⟩
    (repeat' (first | (with_reducible exact Below.refl _ _) | (with_reducible refine Below.setCell ?_ (by (first | omega | (simp; done) | (simp; omega))) _) | (with_reducible refine Below.alloc ?_ (by (first | omega | (simp; done) | (simp; omega))) _) | (with_reducible refine Below.drew ?_) | (with_reducible refine below_drewN ?_ _)))
  rw [if_neg h5] at h
  obtain ⟨rfl, rfl, rfl, rfl⟩ := p4 h
  have e0 : (d == 0) = false := by simpa using h0
  have e1 : (d == 1) = false := by simpa using h1
  have e2 : (d == 2) = false := by simpa using h2
  have e3 : (d == 3) = false := by simpa using h3
  have e4 : (d == 4) = false := by simpa using h4
  have e5 : (d == 5) = false := by simpa using h5
  clear h h0 h1 h2 h3 h4 h5
  go_enter Try.func40, Try.ntmps40
  go_wp2
  refine bodyPost_ret (v := .tuple #[.agg #[.int .i64 x, .int .i64 y, .int .i64 z], .bool false]) (by simp [results, Try.results40, go_sem]) rfl ?_
  refine ⟨rfl, ?_⟩
  (repeat' (first | (with_reducible exact Below.refl _ _) | (with_reducible refine Below.setCell ?_ (by (first | omega | (simp; done) | (simp; omega))) _) | (with_reducible refine Below.alloc ?_ (by (first | omega | (simp; done) | (simp; omega))) _) | (with_reducible refine Below.drew ?_) | (with_reducible refine below_drewN ?_ _)))

/-- How far two numbers are apart. -/
def gapI (a b : Int) : Int := if a < b then b - a else a - b

theorem apart_c {a b : Int} (h1 : -2305843009213693952 ≤ a) (h2 : a ≤ 2305843009213693952) (h3 : -2305843009213693952 ≤ b) (h4 : b ≤ 2305843009213693952) (w : World) :
    Calls Try.prog 41 #[.int .i64 a, .int .i64 b] w fun e w' => e = .returned (.int .i64 (gapI a b)) ∧ w' = w := by
  unfold gapI
  by_cases h : a < b
  · rw [if_pos h]
    go_enter Try.func41, Try.ntmps41
    go_wp2
    go_ret
    exact ⟨rfl, rfl⟩
  · rw [if_neg h]
    by_cases he : a = b
    · subst he
      go_enter Try.func41, Try.ntmps41
      go_wp2
      go_ret
      exact ⟨by simp, rfl⟩
    · have h' : b < a := by omega
      clear he
      go_enter Try.func41, Try.ntmps41
      go_wp2
      go_ret
      exact ⟨rfl, rfl⟩
theorem gap_c {a b : Int} (h1 : -2305843009213693952 ≤ a) (h2 : a ≤ 2305843009213693952) (h3 : -2305843009213693952 ≤ b) (h4 : b ≤ 2305843009213693952) (w : World) :
    Calls Try.prog 42 #[.int .i64 a, .int .i64 b] w fun e w' => e = .returned (.int .i64 (gapI a b)) ∧ w' = w := by
  unfold gapI
  by_cases h : a < b
  · rw [if_pos h]
    go_enter Try.func42, Try.ntmps42
    go_wp2
    go_ret
    exact ⟨rfl, rfl⟩
  · rw [if_neg h]
    go_enter Try.func42, Try.ntmps42
    go_wp2
    go_ret
    exact ⟨rfl, rfl⟩

def farOf (x y z u v t : Int) : Int × Bool := if (mayB x y z && mayB u v t) = true then (gapI x u + gapI y v + gapI z t, true) else (0, false)
theorem gapI_le {a b c : Int} (h1 : -c ≤ a) (h2 : a ≤ c) (h3 : -c ≤ b) (h4 : b ≤ c) : 0 ≤ gapI a b ∧ gapI a b ≤ 2 * c := by
  unfold gapI
  split <;> omega

set_option maxHeartbeats 400000 in
theorem far_c {x y z u v t n : Int} {r : Bool} (h : farOf x y z u v t = (n, r)) (w : World) :
    Calls Try.prog 26 #[.agg #[.int .i64 x, .int .i64 y, .int .i64 z], .agg #[.int .i64 u, .int .i64 v, .int .i64 t]] w fun e w' => e = .returned (.tuple #[.int .i64 n, .bool r]) ∧ Below w.heap.size w w' := by
  unfold farOf at h
  cases hm : mayB x y z with
  | false =>
    rw [hm] at h
    obtain ⟨rfl, rfl⟩ := p2 h
    have H := Lib.hid hm
    clear hm h
    go_enter Try.func26, Try.ntmps26
    go_wp2_with (go_at_call 19; refine (may_b H.out _).mono ?_; rintro e w1 ⟨rfl, hb⟩; obtain ⟨hc, hf⟩ := bcell hb; have hz : w.heap.size + 1 < w1.heap.size := (by have := hb.size; (try simp at this); omega); have hl_0 : w.heap.size < w1.heap.size := (by omega); have hn_0 : w.heap.size ≠ w1.heap.size := (by omega); have hn_1 : w.heap.size + 1 ≠ w1.heap.size := (by omega))
    refine bodyPost_ret (v := .tuple #[.int .i64 0, .bool false]) (by simp [results, Try.results26, go_sem]) rfl ?_
    refine ⟨rfl, ?_⟩
    (repeat' (first | (with_reducible exact Below.refl _ _) | (with_reducible refine Below.setCell ?_ (by (first | omega | (simp; done) | (simp; omega))) _) | (with_reducible refine Below.alloc ?_ (by (first | omega | (simp; done) | (simp; omega))) _) | (with_reducible refine Below.drew ?_) | (with_reducible refine below_drewN ?_ _) | (with_reducible refine Below.trans ?_ (Below.mono hb (by (first | omega | (simp; done) | (simp; omega)))))))
  | true =>
    cases hm2 : mayB u v t with
    | false =>
      rw [hm, hm2] at h
      obtain ⟨rfl, rfl⟩ := p2 h
      have H := Lib.hid hm
      have H2 := Lib.hid hm2
      clear hm hm2 h
      go_enter Try.func26, Try.ntmps26
      go_wp2_with fail
      go_at_call 19
      refine (may_b H.out _).mono ?_
      rintro e w1 ⟨rfl, hb⟩
      obtain ⟨hc1, hf1⟩ := bcell hb; have hz1 : w.heap.size + 1 < w1.heap.size := (by have := hb.size; (try simp at this); omega); have hl1_0 : w.heap.size < w1.heap.size := (by omega); have hn1_0 : w.heap.size ≠ w1.heap.size := (by omega); have hn1_1 : w.heap.size + 1 ≠ w1.heap.size := (by omega)
      go_wp2_with fail
      go_at_call 19
      refine (may_b H2.out _).mono ?_
      rintro e w2 ⟨rfl, hb2⟩
      obtain ⟨hc2, hf2⟩ := bcell hb2; have hz2 : w.heap.size + 1 < w2.heap.size := (by have := hb2.size; (try simp at this); omega); have hl2_0 : w.heap.size < w2.heap.size := (by omega); have hn2_0 : w.heap.size ≠ w2.heap.size := (by omega); have hn2_1 : w.heap.size + 1 ≠ w2.heap.size := (by omega)
      go_wp2_with fail
      refine bodyPost_ret (v := .tuple #[.int .i64 0, .bool false]) (by simp [results, Try.results26, go_sem]) rfl ?_
      refine ⟨rfl, ?_⟩
      (repeat' (first | (with_reducible exact Below.refl _ _) | (with_reducible refine Below.setCell ?_ (by (first | omega | (simp; done) | (simp; omega))) _) | (with_reducible refine Below.alloc ?_ (by (first | omega | (simp; done) | (simp; omega))) _) | (with_reducible refine Below.drew ?_) | (with_reducible refine below_drewN ?_ _) | (with_reducible refine Below.trans ?_ (Below.mono hb (by (first | omega | (simp; done) | (simp; omega))))) | (with_reducible refine Below.trans ?_ (Below.mono hb2 (by (first | omega | (simp; done) | (simp; omega)))))))
    | true =>
      rw [hm, hm2] at h
      obtain ⟨rfl, rfl⟩ := p2 h
      obtain ⟨h1, h2, h3, h4, h5, h6⟩ := mayB_true hm
      obtain ⟨g1, g2, g3, g4, g5, g6⟩ := mayB_true hm2
      have H := Lib.hid hm
      have H2 := Lib.hid hm2
      have hx := gapI_le (a := x) (b := u) (c := 1048576) (by omega) (by omega) (by omega) (by omega)
      have hy := gapI_le (a := y) (b := v) (c := 1048576) (by omega) (by omega) (by omega) (by omega)
      have hz := gapI_le (a := z) (b := t) (c := 1048576) (by omega) (by omega) (by omega) (by omega)
      have q1 : IntKind.i64.wrap (gapI x u + gapI y v) = gapI x u + gapI y v := wrapI_small (by omega) (by omega)
      have q2 : IntKind.i64.wrap (gapI x u + gapI y v + gapI z t) = gapI x u + gapI y v + gapI z t := wrapI_small (by omega) (by omega)
      have HX := Lib.hid (apart_c (a := x) (b := u) (by omega) (by omega) (by omega) (by omega))
      have HY := Lib.hid (apart_c (a := y) (b := v) (by omega) (by omega) (by omega) (by omega))
      have HZ := Lib.hid (apart_c (a := z) (b := t) (by omega) (by omega) (by omega) (by omega))
      clear hm hm2 h
      go_enter Try.func26, Try.ntmps26
      go_wp2_with fail
      go_at_call 19
      refine (may_b H.out _).mono ?_
      rintro e w1 ⟨rfl, hb⟩
      obtain ⟨hc1, hf1⟩ := bcell hb; have hz1 : w.heap.size + 1 < w1.heap.size := (by have := hb.size; (try simp at this); omega); have hl1_0 : w.heap.size < w1.heap.size := (by omega); have hn1_0 : w.heap.size ≠ w1.heap.size := (by omega); have hn1_1 : w.heap.size + 1 ≠ w1.heap.size := (by omega)
      go_wp2_with fail
      go_at_call 19
      refine (may_b H2.out _).mono ?_
      rintro e w2 ⟨rfl, hb2⟩
      obtain ⟨hc2, hf2⟩ := bcell hb2; have hz2 : w.heap.size + 1 < w2.heap.size := (by have := hb2.size; (try simp at this); omega); have hl2_0 : w.heap.size < w2.heap.size := (by omega); have hn2_0 : w.heap.size ≠ w2.heap.size := (by omega); have hn2_1 : w.heap.size + 1 ≠ w2.heap.size := (by omega)
      go_wp2_with fail
      have ca0 : w2.cell? ⟨w.heap.size, 0, none⟩ = some (.int .i64 x) := (by rw [hb2.cell (p := ⟨w.heap.size, 0, none⟩) (by (first | omega | (simp; done) | (simp; omega))), hb.cell (p := ⟨w.heap.size, 0, none⟩) (by (first | omega | (simp; done) | (simp; omega)))] <;> simp); have ca1 : w2.cell? ⟨w.heap.size, 1, none⟩ = some (.int .i64 y) := (by rw [hb2.cell (p := ⟨w.heap.size, 1, none⟩) (by (first | omega | (simp; done) | (simp; omega))), hb.cell (p := ⟨w.heap.size, 1, none⟩) (by (first | omega | (simp; done) | (simp; omega)))] <;> simp); have ca2 : w2.cell? ⟨w.heap.size, 2, none⟩ = some (.int .i64 z) := (by rw [hb2.cell (p := ⟨w.heap.size, 2, none⟩) (by (first | omega | (simp; done) | (simp; omega))), hb.cell (p := ⟨w.heap.size, 2, none⟩) (by (first | omega | (simp; done) | (simp; omega)))] <;> simp)
      have cb0 : w2.cell? ⟨w.heap.size + 1, 0, none⟩ = some (.int .i64 u) := (by rw [hb2.cell (p := ⟨w.heap.size + 1, 0, none⟩) (by (first | omega | (simp; done) | (simp; omega))), hb.cell (p := ⟨w.heap.size + 1, 0, none⟩) (by (first | omega | (simp; done) | (simp; omega)))] <;> simp); have cb1 : w2.cell? ⟨w.heap.size + 1, 1, none⟩ = some (.int .i64 v) := (by rw [hb2.cell (p := ⟨w.heap.size + 1, 1, none⟩) (by (first | omega | (simp; done) | (simp; omega))), hb.cell (p := ⟨w.heap.size + 1, 1, none⟩) (by (first | omega | (simp; done) | (simp; omega)))] <;> simp); have cb2 : w2.cell? ⟨w.heap.size + 1, 2, none⟩ = some (.int .i64 t) := (by rw [hb2.cell (p := ⟨w.heap.size + 1, 2, none⟩) (by (first | omega | (simp; done) | (simp; omega))), hb.cell (p := ⟨w.heap.size + 1, 2, none⟩) (by (first | omega | (simp; done) | (simp; omega)))] <;> simp)
      clear hc1 hf1 hc2 hf2
      go_quiet ((go_at_call 41; (first | (with_reducible refine Calls.quiet_of_same (HX.out _)) | (with_reducible refine Calls.quiet_of_same (HY.out _)) | (with_reducible refine Calls.quiet_of_same (HZ.out _)))))
      go_wp2_with fail
      refine bodyPost_ret (v := .tuple #[.int .i64 (gapI x u + gapI y v + gapI z t), .bool true]) (by simp [results, Try.results26, go_sem]) rfl ?_
      refine ⟨rfl, ?_⟩
      (repeat' (first | (with_reducible exact Below.refl _ _) | (with_reducible refine Below.setCell ?_ (by (first | omega | (simp; done) | (simp; omega))) _) | (with_reducible refine Below.alloc ?_ (by (first | omega | (simp; done) | (simp; omega))) _) | (with_reducible refine Below.drew ?_) | (with_reducible refine below_drewN ?_ _) | (with_reducible refine Below.trans ?_ (Below.mono hb (by (first | omega | (simp; done) | (simp; omega))))) | (with_reducible refine Below.trans ?_ (Below.mono hb2 (by (first | omega | (simp; done) | (simp; omega)))))))
end PlaceW
end Go.Proofs.Ytokkomglbddgcaa
