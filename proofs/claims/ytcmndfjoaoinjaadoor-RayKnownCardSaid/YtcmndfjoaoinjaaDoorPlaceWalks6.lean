/-
  The walks of Step and Far, of place and of its reference; of the reference's Cmp.
-/
import Derived.Test.YtcmndfjoaoinjaaDoorPlaceWalks3
import Derived.Test.YtcmndfjoaoinjaaDoorPlaceWalks4
import Derived.Test.YtcmndfjoaoinjaaDoorPlaceWalks5
namespace Go.Proofs.YtcmndfjoaoinjaaDoor
open Go.RowKit
set_option linter.unusedSimpArgs false
set_option linter.unusedVariables false
namespace PlaceW
open BitsP

theorem cmpI_zero {a b : Int} : cmpI a b = 0 ↔ a = b := by
  unfold cmpI
  constructor
  · intro h
    split at h
    · omega
    · split at h <;> omega
  · intro h
    rw [if_neg (by omega), if_neg (by omega)]
theorem firstNZ_cons {a : Int} {l : List Int} : firstNZ (a :: l) = if a = 0 then firstNZ l else a := by
  unfold firstNZ
  by_cases h : a = 0
  · simp [h]
  · simp [h]
theorem cmpOf_eq (x y z u v t : Int) : cmpOf x y z u v t = if x = u then (if z = t then cmpI y v else cmpI z t) else cmpI x u := by
  unfold cmpOf
  simp only [firstNZ_cons, cmpI_zero]
  split
  · split
    · split
      · rename_i h
        rw [cmpI_zero.2 h]
        rfl
      · rfl
    · rfl
  · rfl
/-- The side of a place, and whether there is one. -/
def stepOf (x y z d : Int) : Int × Int × Int × Bool :=
  if mayB x y z = true then (if (mv d x y z).2.2.2 = true ∧ mayB (mv d x y z).1 (mv d x y z).2.1 (mv d x y z).2.2.1 = true then mv d x y z else (0, 0, 0, false)) else (0, 0, 0, false)

set_option maxHeartbeats 400000 in
theorem step_c {x y z d X Y Z : Int} {r : Bool} (h : stepOf x y z d = (X, Y, Z, r)) (w : World) :
    Calls Tryd.prog 20 #[.agg #[.int .i64 x, .int .i64 y, .int .i64 z], .int .i64 d] w fun e w' => e = .returned (.tuple #[.agg #[.int .i64 X, .int .i64 Y, .int .i64 Z], .bool r]) ∧ Below w.heap.size w w' := by
  obtain ⟨X', Y', Z', r', hv⟩ : ∃ X' Y' Z' r', mv d x y z = (X', Y', Z', r') := ⟨_, _, _, _, rfl⟩
  unfold stepOf at h
  rw [hv] at h
  simp only at h
  have HV := Lib.hid hv
  clear hv
  cases r' with
  | false =>
    rw [if_neg (c := _ ∧ _) (by simp), ite_self] at h
    obtain ⟨rfl, rfl, rfl, rfl⟩ := p4 h
    clear h
    go_enter Tryd.func20, Tryd.ntmps20
    go_wp2_with (go_at_call 25; refine (moved_c HV.out _).mono ?_; rintro e w1 ⟨rfl, hb⟩; obtain ⟨hc1, hf1⟩ := bcell hb; have hz1 : w.heap.size + 1 < w1.heap.size := (by have := hb.size; (try simp at this); omega); have hl1_0 : w.heap.size < w1.heap.size := (by omega); have hn1_0 : w.heap.size ≠ w1.heap.size := (by omega); have hn1_1 : w.heap.size + 1 ≠ w1.heap.size := (by omega))
    refine bodyPost_ret (v := .tuple #[.agg #[.int .i64 0, .int .i64 0, .int .i64 0], .bool false]) (by simp [results, Tryd.results20, go_sem, hc1, hf1, hz1, hl1_0, hn1_0, hn1_1]) rfl ?_
    refine ⟨rfl, ?_⟩
    (repeat' (first | (with_reducible exact Below.refl _ _) | (with_reducible refine Below.setCell ?_ (by (first | omega | (simp; done) | (simp; omega))) _) | (with_reducible refine Below.alloc ?_ (by (first | omega | (simp; done) | (simp; omega))) _) | (with_reducible refine Below.drew ?_) | (with_reducible refine below_drewN ?_ _) | (with_reducible refine Below.trans ?_ (Below.mono hb (by (first | omega | (simp; done) | (simp; omega)))))))
  | true =>
    cases hm : mayB x y z with
    | false =>
      rw [hm, if_neg (by simp)] at h
      obtain ⟨rfl, rfl, rfl, rfl⟩ := p4 h
      have H := Lib.hid hm
      clear h hm
      go_enter Tryd.func20, Tryd.ntmps20
      go_wp2_with fail
      go_at_call 25
      refine (moved_c HV.out _).mono ?_
      rintro e w1 ⟨rfl, hb⟩
      obtain ⟨hc1, hf1⟩ := bcell hb; have hz1 : w.heap.size + 1 < w1.heap.size := (by have := hb.size; (try simp at this); omega); have hl1_0 : w.heap.size < w1.heap.size := (by omega); have hn1_0 : w.heap.size ≠ w1.heap.size := (by omega); have hn1_1 : w.heap.size + 1 ≠ w1.heap.size := (by omega)
      go_wp2_with fail
      go_at_call 15
      refine (may_b H.out _).mono ?_
      rintro e w2 ⟨rfl, hb2⟩
      obtain ⟨hc2, hf2⟩ := bcell hb2; have hz2 : w1.heap.size < w2.heap.size := (by have := hb2.size; (try simp at this); omega); have hn2_0 : w1.heap.size ≠ w2.heap.size := (by omega); have hk2_0 : w.heap.size < w2.heap.size := (by omega); have hm2_0 : w.heap.size ≠ w2.heap.size := (by omega); have hk2_1 : w.heap.size + 1 < w2.heap.size := (by omega); have hm2_1 : w.heap.size + 1 ≠ w2.heap.size := (by omega)
      go_wp2_with fail
      refine bodyPost_ret (v := .tuple #[.agg #[.int .i64 0, .int .i64 0, .int .i64 0], .bool false]) (by simp [results, Tryd.results20, go_sem, hc1, hf1, hz1, hl1_0, hn1_0, hn1_1, hc2, hf2, hz2, hn2_0, hk2_0, hk2_1]) rfl ?_
      refine ⟨rfl, ?_⟩
      (repeat' (first | (with_reducible exact Below.refl _ _) | (with_reducible refine Below.setCell ?_ (by (first | omega | (simp; done) | (simp; omega))) _) | (with_reducible refine Below.alloc ?_ (by (first | omega | (simp; done) | (simp; omega))) _) | (with_reducible refine Below.drew ?_) | (with_reducible refine below_drewN ?_ _) | (with_reducible refine Below.trans ?_ (Below.mono hb (by (first | omega | (simp; done) | (simp; omega))))) | (with_reducible refine Below.trans ?_ (Below.mono hb2 (by (first | omega | (simp; done) | (simp; omega)))))))
    | true =>
      have H := Lib.hid hm
      cases hm2 : mayB X' Y' Z' with
      | false =>
        rw [hm, hm2, if_pos rfl, if_neg (by simp)] at h
        obtain ⟨rfl, rfl, rfl, rfl⟩ := p4 h
        have H2 := Lib.hid hm2
        clear h hm hm2
        go_enter Tryd.func20, Tryd.ntmps20
        go_wp2_with fail
        go_at_call 25
        refine (moved_c HV.out _).mono ?_
        rintro e w1 ⟨rfl, hb⟩
        obtain ⟨hc1, hf1⟩ := bcell hb; have hz1 : w.heap.size + 1 < w1.heap.size := (by have := hb.size; (try simp at this); omega); have hl1_0 : w.heap.size < w1.heap.size := (by omega); have hn1_0 : w.heap.size ≠ w1.heap.size := (by omega); have hn1_1 : w.heap.size + 1 ≠ w1.heap.size := (by omega)
        go_wp2_with fail
        go_at_call 15
        refine (may_b H.out _).mono ?_
        rintro e w2 ⟨rfl, hb2⟩
        obtain ⟨hc2, hf2⟩ := bcell hb2; have hz2 : w1.heap.size < w2.heap.size := (by have := hb2.size; (try simp at this); omega); have hn2_0 : w1.heap.size ≠ w2.heap.size := (by omega); have hk2_0 : w.heap.size < w2.heap.size := (by omega); have hm2_0 : w.heap.size ≠ w2.heap.size := (by omega); have hk2_1 : w.heap.size + 1 < w2.heap.size := (by omega); have hm2_1 : w.heap.size + 1 ≠ w2.heap.size := (by omega)
        go_wp2_with fail
        go_at_call 15
        refine (may_b H2.out _).mono ?_
        rintro e w3 ⟨rfl, hb3⟩
        obtain ⟨hc3, hf3⟩ := bcell hb3; have hz3 : w1.heap.size < w3.heap.size := (by have := hb3.size; (try simp at this); omega); have hn3_0 : w1.heap.size ≠ w3.heap.size := (by omega); have hk3_0 : w.heap.size < w3.heap.size := (by omega); have hm3_0 : w.heap.size ≠ w3.heap.size := (by omega); have hk3_1 : w.heap.size + 1 < w3.heap.size := (by omega); have hm3_1 : w.heap.size + 1 ≠ w3.heap.size := (by omega)
        go_wp2_with fail
        refine bodyPost_ret (v := .tuple #[.agg #[.int .i64 0, .int .i64 0, .int .i64 0], .bool false]) (by simp [results, Tryd.results20, go_sem, hc1, hf1, hz1, hl1_0, hn1_0, hn1_1, hc2, hf2, hz2, hn2_0, hk2_0, hk2_1, hc3, hf3, hz3, hn3_0, hk3_0, hk3_1]) rfl ?_
        refine ⟨rfl, ?_⟩
        (repeat' (first | (with_reducible exact Below.refl _ _) | (with_reducible refine Below.setCell ?_ (by (first | omega | (simp; done) | (simp; omega))) _) | (with_reducible refine Below.alloc ?_ (by (first | omega | (simp; done) | (simp; omega))) _) | (with_reducible refine Below.drew ?_) | (with_reducible refine below_drewN ?_ _) | (with_reducible refine Below.trans ?_ (Below.mono hb (by (first | omega | (simp; done) | (simp; omega))))) | (with_reducible refine Below.trans ?_ (Below.mono hb2 (by (first | omega | (simp; done) | (simp; omega))))) | (with_reducible refine Below.trans ?_ (Below.mono hb3 (by (first | omega | (simp; done) | (simp; omega)))))))
      | true =>
        rw [hm, hm2, if_pos rfl, if_pos ⟨rfl, rfl⟩] at h
        obtain ⟨rfl, rfl, rfl, rfl⟩ := p4 h
        have H2 := Lib.hid hm2
        clear h hm hm2
        go_enter Tryd.func20, Tryd.ntmps20
        go_wp2_with fail
        go_at_call 25
        refine (moved_c HV.out _).mono ?_
        rintro e w1 ⟨rfl, hb⟩
        obtain ⟨hc1, hf1⟩ := bcell hb; have hz1 : w.heap.size + 1 < w1.heap.size := (by have := hb.size; (try simp at this); omega); have hl1_0 : w.heap.size < w1.heap.size := (by omega); have hn1_0 : w.heap.size ≠ w1.heap.size := (by omega); have hn1_1 : w.heap.size + 1 ≠ w1.heap.size := (by omega)
        go_wp2_with fail
        go_at_call 15
        refine (may_b H.out _).mono ?_
        rintro e w2 ⟨rfl, hb2⟩
        obtain ⟨hc2, hf2⟩ := bcell hb2; have hz2 : w1.heap.size < w2.heap.size := (by have := hb2.size; (try simp at this); omega); have hn2_0 : w1.heap.size ≠ w2.heap.size := (by omega); have hk2_0 : w.heap.size < w2.heap.size := (by omega); have hm2_0 : w.heap.size ≠ w2.heap.size := (by omega); have hk2_1 : w.heap.size + 1 < w2.heap.size := (by omega); have hm2_1 : w.heap.size + 1 ≠ w2.heap.size := (by omega)
        go_wp2_with fail
        go_at_call 15
        refine (may_b H2.out _).mono ?_
        rintro e w3 ⟨rfl, hb3⟩
        obtain ⟨hc3, hf3⟩ := bcell hb3; have hz3 : w1.heap.size < w3.heap.size := (by have := hb3.size; (try simp at this); omega); have hn3_0 : w1.heap.size ≠ w3.heap.size := (by omega); have hk3_0 : w.heap.size < w3.heap.size := (by omega); have hm3_0 : w.heap.size ≠ w3.heap.size := (by omega); have hk3_1 : w.heap.size + 1 < w3.heap.size := (by omega); have hm3_1 : w.heap.size + 1 ≠ w3.heap.size := (by omega)
        go_wp2_with fail
        trace_state
        refine bodyPost_ret (v := .tuple #[.agg #[.int .i64 X', .int .i64 Y', .int .i64 Z'], .bool true]) (by simp [results, Tryd.results20, go_sem, hc1, hf1, hz1, hl1_0, hn1_0, hn1_1, hc2, hf2, hz2, hn2_0, hk2_0, hk2_1, hc3, hf3, hz3, hn3_0, hk3_0, hk3_1]) rfl ?_
        refine ⟨rfl, ?_⟩
        (repeat' (first | (with_reducible exact Below.refl _ _) | (with_reducible refine Below.setCell ?_ (by (first | omega | (simp; done) | (simp; omega))) _) | (with_reducible refine Below.alloc ?_ (by (first | omega | (simp; done) | (simp; omega))) _) | (with_reducible refine Below.drew ?_) | (with_reducible refine below_drewN ?_ _) | (with_reducible refine Below.trans ?_ (Below.mono hb (by (first | omega | (simp; done) | (simp; omega))))) | (with_reducible refine Below.trans ?_ (Below.mono hb2 (by (first | omega | (simp; done) | (simp; omega))))) | (with_reducible refine Below.trans ?_ (Below.mono hb3 (by (first | omega | (simp; done) | (simp; omega)))))))
end PlaceW
end Go.Proofs.YtcmndfjoaoinjaaDoor
