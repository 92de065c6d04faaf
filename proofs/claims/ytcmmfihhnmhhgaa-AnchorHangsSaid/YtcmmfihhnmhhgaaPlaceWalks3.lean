/-
  The walks of the reference of place: rounding down, spots, indexes, places of spots and indexes.
-/
import Derived.Test.YtcmmfihhnmhhgaaPlaceWalks2
namespace Go.Proofs.Ytcmmfihhnmhhgaa
open Go.RowKit
set_option linter.unusedSimpArgs false
set_option linter.unusedVariables false
namespace PlaceW
open BitsP

theorem tq {n : Int} (h : n < 0) : n.tdiv 16 = -((-n) / 16) ∧ n.tmod 16 = -((-n) % 16) := by
  obtain ⟨m, rfl⟩ : ∃ m, n = -m := ⟨-n, by omega⟩
  rw [Int.neg_tdiv, Int.neg_tmod, Int.tdiv_eq_ediv_of_nonneg (by omega), Int.tmod_eq_emod_of_nonneg (by omega)]
  simp
theorem down_c {n : Int} (h : -4611686018427387904 ≤ n) (h' : n ≤ 4611686018427387904) (w : World) :
    Calls Try.prog 35 #[.int .i64 n] w fun e w' => e = .returned (.tuple #[.int .i64 (n / 16), .int .i64 (n % 16)]) ∧ w = w' := by
  by_cases h0 : 0 ≤ n
  · go_enter Try.func35, Try.ntmps35
    go_wp2
    go_ret2
    exact ⟨rfl, rfl⟩
  · obtain ⟨t1, t2⟩ := tq (n := n) (by omega)
    by_cases hr : n.tmod 16 < 0
    · have e1 : Hid (n.tdiv 16 - 1 = n / 16) := Lib.hid (by omega)
      have e2 : Hid (n.tmod 16 + 16 = n % 16) := Lib.hid (by omega)
      have b1 : -16 < n.tmod 16 := by omega
      have b2 : -4611686018427387904 ≤ n.tdiv 16 := by omega
      have b3 : n.tdiv 16 ≤ 4611686018427387904 := by omega
      clear t1 t2
      go_enter Try.func35, Try.ntmps35
      go_wp2
      refine bodyPost_ret (v := .tuple #[.int .i64 (n / 16), .int .i64 (n % 16)]) (by simp [results, Try.results35, go_sem, e1.out, e2.out]) rfl ?_
      exact ⟨rfl, rfl⟩
    · have e1 : Hid (n.tdiv 16 = n / 16) := Lib.hid (by omega)
      have e2 : Hid (n.tmod 16 = n % 16) := Lib.hid (by omega)
      clear t1 t2
      go_enter Try.func35, Try.ntmps35
      go_wp2
      refine bodyPost_ret (v := .tuple #[.int .i64 (n / 16), .int .i64 (n % 16)]) (by simp [results, Try.results35, go_sem, e1.out, e2.out]) rfl ?_
      exact ⟨rfl, rfl⟩

theorem r_spot_c {x y z X Y Z : Int} {r : Bool} (h : spotOf x y z = (X, Y, Z, r)) (w : World) :
    Calls Try.prog 22 #[.agg #[.int .i64 x, .int .i64 y, .int .i64 z]] w fun e w' => e = .returned (.tuple #[.agg #[.int .i64 X, .int .i64 Y, .int .i64 Z], .bool r]) ∧ Below w.heap.size w w' := by
  unfold spotOf at h
  by_cases hm : mayB x y z = true
  · rw [if_pos hm] at h
    obtain ⟨rfl, rfl, rfl, rfl⟩ := p4 h
    obtain ⟨h1, h2, h3, h4, h5, h6⟩ := mayB_true hm
    have H := Lib.hid hm
    have HX := Lib.hid (down_c (n := x) (by omega) (by omega))
    have HY := Lib.hid (down_c (n := y) (by omega) (by omega))
    have HZ := Lib.hid (down_c (n := z) (by omega) (by omega))
    clear hm h
    go_enter Try.func22, Try.ntmps22
    go_wp2_with (first | (go_at_call 34; refine (r_may_b H.out _).mono ?_; rintro e w1 ⟨rfl, hb⟩; obtain ⟨hc, hf⟩ := bcell hb; have hz : w.heap.size + 1 < w1.heap.size := (by have := hb.size; (try simp at this); omega); have hl_0 : w.heap.size < w1.heap.size := (by omega); have hn_0 : w.heap.size ≠ w1.heap.size := (by omega); have hn_1 : w.heap.size + 1 ≠ w1.heap.size := (by omega)) | (go_at_call 35; (first | (with_reducible refine (HX.out _).mono ?_) | (with_reducible refine (HY.out _).mono ?_) | (with_reducible refine (HZ.out _).mono ?_)); rintro e w' ⟨rfl, rfl⟩))
    refine bodyPost_ret (v := .tuple #[.agg #[.int .i64 (x / 16), .int .i64 (y / 16), .int .i64 (z / 16)], .bool true]) (by simp [results, Try.results22, go_sem, hc, hf, hz]) rfl ?_
    refine ⟨rfl, ?_⟩
    (repeat' (first | (with_reducible exact Below.refl _ _) | (with_reducible refine Below.setCell ?_ (by (first | omega | (simp; done) | (simp; omega))) _) | (with_reducible refine Below.alloc ?_ (by (first | omega | (simp; done) | (simp; omega))) _) | (with_reducible refine Below.drew ?_) | (with_reducible refine below_drewN ?_ _) | (with_reducible refine Below.trans ?_ (Below.mono hb (by (first | omega | (simp; done) | (simp; omega)))))))
  · rw [if_neg hm] at h
    obtain ⟨rfl, rfl, rfl, rfl⟩ := p4 h
    have H := Lib.hid (Bool.eq_false_iff.2 hm)
    clear hm h
    go_enter Try.func22, Try.ntmps22
    go_wp2_with (go_at_call 34; refine (r_may_b H.out _).mono ?_; rintro e w1 ⟨rfl, hb⟩; obtain ⟨hc, hf⟩ := bcell hb; have hz : w.heap.size + 1 < w1.heap.size := (by have := hb.size; (try simp at this); omega); have hl_0 : w.heap.size < w1.heap.size := (by omega); have hn_0 : w.heap.size ≠ w1.heap.size := (by omega); have hn_1 : w.heap.size + 1 ≠ w1.heap.size := (by omega))
    refine bodyPost_ret (v := .tuple #[.agg #[.int .i64 0, .int .i64 0, .int .i64 0], .bool false]) (by simp [results, Try.results22, go_sem, hc, hf, hz]) rfl ?_
    refine ⟨rfl, ?_⟩
    (repeat' (first | (with_reducible exact Below.refl _ _) | (with_reducible refine Below.setCell ?_ (by (first | omega | (simp; done) | (simp; omega))) _) | (with_reducible refine Below.alloc ?_ (by (first | omega | (simp; done) | (simp; omega))) _) | (with_reducible refine Below.drew ?_) | (with_reducible refine below_drewN ?_ _) | (with_reducible refine Below.trans ?_ (Below.mono hb (by (first | omega | (simp; done) | (simp; omega)))))))

end PlaceW
end Go.Proofs.Ytcmmfihhnmhhgaa
