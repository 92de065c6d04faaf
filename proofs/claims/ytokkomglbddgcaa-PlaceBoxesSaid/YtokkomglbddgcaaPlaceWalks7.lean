/-
  The walks of the reference's Step; the law package's own small function.
-/
import Derived.Test.YtokkomglbddgcaaPlaceWalks6
namespace Go.Proofs.Ytokkomglbddgcaa
open Go.RowKit
set_option linter.unusedSimpArgs false
set_option linter.unusedVariables false
namespace PlaceW
open BitsP


set_option maxHeartbeats 400000 in
theorem r_step_0t {x y z : Int} (hm : mayB x y z = true) (hm2 : mayB (x + 1) (y) (z) = true) (w : World) :
    Calls Try.prog 25 #[.agg #[.int .i64 x, .int .i64 y, .int .i64 z], .int .i64 0] w fun e w' => e = .returned (.tuple #[.agg #[.int .i64 (x + 1), .int .i64 y, .int .i64 z], .bool true]) ∧ Below w.heap.size w w' := by
  obtain ⟨h1, h2, h3, h4, h5, h6⟩ := mayB_true hm
  have H := Lib.hid hm
  have H2 := Lib.hid hm2
  have HI : Hid (inB 0 0 6 = true) := Lib.hid (by decide)
  clear hm hm2
  go_enter Try.func25, Try.ntmps25
  go_wp2_with fail
  go_at_call 20
  refine (r_may_b H.out _).mono ?_
  rintro e w1 ⟨rfl, hb⟩
  obtain ⟨hc1, hf1⟩ := bcell hb; have hz1 : w.heap.size + 1 < w1.heap.size := (by have := hb.size; (try simp at this); omega); have hl1_0 : w.heap.size < w1.heap.size := (by omega); have hn1_0 : w.heap.size ≠ w1.heap.size := (by omega); have hn1_1 : w.heap.size + 1 ≠ w1.heap.size := (by omega)
  have ca0 : w1.cell? ⟨w.heap.size, 0, none⟩ = some (.int .i64 x) := (by rw [hb.cell (p := ⟨w.heap.size, 0, none⟩) (by (first | omega | (simp; done) | (simp; omega)))] <;> simp); have ca1 : w1.cell? ⟨w.heap.size, 1, none⟩ = some (.int .i64 y) := (by rw [hb.cell (p := ⟨w.heap.size, 1, none⟩) (by (first | omega | (simp; done) | (simp; omega)))] <;> simp); have ca2 : w1.cell? ⟨w.heap.size, 2, none⟩ = some (.int .i64 z) := (by rw [hb.cell (p := ⟨w.heap.size, 2, none⟩) (by (first | omega | (simp; done) | (simp; omega)))] <;> simp)
  go_wp2_with (go_at_call 39; refine (r_within_b HI.out _).mono ?_; rintro e w' ⟨rfl, rfl⟩)
  go_at_call 20
  refine (r_may_b H2.out _).mono ?_
  rintro e w2 ⟨rfl, hb2⟩
  obtain ⟨hc2, hf2⟩ := bcell hb2; have hz2 : w.heap.size + 1 < w2.heap.size := (by have := hb2.size; (try simp at this); omega); have hl2_0 : w.heap.size < w2.heap.size := (by omega); have hn2_0 : w.heap.size ≠ w2.heap.size := (by omega); have hn2_1 : w.heap.size + 1 ≠ w2.heap.size := (by omega)
  go_wp2_with fail
  refine bodyPost_ret (v := .tuple #[.agg #[.int .i64 (x + 1), .int .i64 y, .int .i64 z], .bool true]) (by simp [results, Try.results25, go_sem, hc1, hf1, hz1, hl1_0, hn1_0, hn1_1, hc2, hf2, hz2, hl2_0, hn2_0, hn2_1]) rfl ?_
  refine ⟨rfl, ?_⟩
  (repeat' (first | (with_reducible exact Below.refl _ _) | (with_reducible refine Below.setCell ?_ (by (first | omega | (simp; done) | (simp; omega))) _) | (with_reducible refine Below.alloc ?_ (by (first | omega | (simp; done) | (simp; omega))) _) | (with_reducible refine Below.drew ?_) | (with_reducible refine below_drewN ?_ _) | (with_reducible refine Below.trans ?_ (Below.mono hb (by (first | omega | (simp; done) | (simp; omega))))) | (with_reducible refine Below.trans ?_ (Below.mono hb2 (by (first | omega | (simp; done) | (simp; omega)))))))

set_option maxHeartbeats 400000 in
theorem r_step_0f {x y z : Int} (hm : mayB x y z = true) (hm2 : mayB (x + 1) (y) (z) = false) (w : World) :
    Calls Try.prog 25 #[.agg #[.int .i64 x, .int .i64 y, .int .i64 z], .int .i64 0] w fun e w' => e = .returned (.tuple #[.agg #[.int .i64 0, .int .i64 0, .int .i64 0], .bool false]) ∧ Below w.heap.size w w' := by
  obtain ⟨h1, h2, h3, h4, h5, h6⟩ := mayB_true hm
  have H := Lib.hid hm
  have H2 := Lib.hid hm2
  have HI : Hid (inB 0 0 6 = true) := Lib.hid (by decide)
  clear hm hm2
  go_enter Try.func25, Try.ntmps25
  go_wp2_with fail
  go_at_call 20
  refine (r_may_b H.out _).mono ?_
  rintro e w1 ⟨rfl, hb⟩
  obtain ⟨hc1, hf1⟩ := bcell hb; have hz1 : w.heap.size + 1 < w1.heap.size := (by have := hb.size; (try simp at this); omega); have hl1_0 : w.heap.size < w1.heap.size := (by omega); have hn1_0 : w.heap.size ≠ w1.heap.size := (by omega); have hn1_1 : w.heap.size + 1 ≠ w1.heap.size := (by omega)
  have ca0 : w1.cell? ⟨w.heap.size, 0, none⟩ = some (.int .i64 x) := (by rw [hb.cell (p := ⟨w.heap.size, 0, none⟩) (by (first | omega | (simp; done) | (simp; omega)))] <;> simp); have ca1 : w1.cell? ⟨w.heap.size, 1, none⟩ = some (.int .i64 y) := (by rw [hb.cell (p := ⟨w.heap.size, 1, none⟩) (by (first | omega | (simp; done) | (simp; omega)))] <;> simp); have ca2 : w1.cell? ⟨w.heap.size, 2, none⟩ = some (.int .i64 z) := (by rw [hb.cell (p := ⟨w.heap.size, 2, none⟩) (by (first | omega | (simp; done) | (simp; omega)))] <;> simp)
  go_wp2_with (go_at_call 39; refine (r_within_b HI.out _).mono ?_; rintro e w' ⟨rfl, rfl⟩)
  go_at_call 20
  refine (r_may_b H2.out _).mono ?_
  rintro e w2 ⟨rfl, hb2⟩
  obtain ⟨hc2, hf2⟩ := bcell hb2; have hz2 : w.heap.size + 1 < w2.heap.size := (by have := hb2.size; (try simp at this); omega); have hl2_0 : w.heap.size < w2.heap.size := (by omega); have hn2_0 : w.heap.size ≠ w2.heap.size := (by omega); have hn2_1 : w.heap.size + 1 ≠ w2.heap.size := (by omega)
  go_wp2_with fail
  refine bodyPost_ret (v := .tuple #[.agg #[.int .i64 0, .int .i64 0, .int .i64 0], .bool false]) (by simp [results, Try.results25, go_sem, hc1, hf1, hz1, hl1_0, hn1_0, hn1_1, hc2, hf2, hz2, hl2_0, hn2_0, hn2_1]) rfl ?_
  refine ⟨rfl, ?_⟩
  (repeat' (first | (with_reducible exact Below.refl _ _) | (with_reducible refine Below.setCell ?_ (by (first | omega | (simp; done) | (simp; omega))) _) | (with_reducible refine Below.alloc ?_ (by (first | omega | (simp; done) | (simp; omega))) _) | (with_reducible refine Below.drew ?_) | (with_reducible refine below_drewN ?_ _) | (with_reducible refine Below.trans ?_ (Below.mono hb (by (first | omega | (simp; done) | (simp; omega))))) | (with_reducible refine Below.trans ?_ (Below.mono hb2 (by (first | omega | (simp; done) | (simp; omega)))))))

set_option maxHeartbeats 400000 in
theorem r_step_1t {x y z : Int} (hm : mayB x y z = true) (hm2 : mayB (x + -1) (y) (z) = true) (w : World) :
    Calls Try.prog 25 #[.agg #[.int .i64 x, .int .i64 y, .int .i64 z], .int .i64 1] w fun e w' => e = .returned (.tuple #[.agg #[.int .i64 (x + -1), .int .i64 y, .int .i64 z], .bool true]) ∧ Below w.heap.size w w' := by
  obtain ⟨h1, h2, h3, h4, h5, h6⟩ := mayB_true hm
  have H := Lib.hid hm
  have H2 := Lib.hid hm2
  have HI : Hid (inB 1 0 6 = true) := Lib.hid (by decide)
  clear hm hm2
  go_enter Try.func25, Try.ntmps25
  go_wp2_with fail
  go_at_call 20
  refine (r_may_b H.out _).mono ?_
  rintro e w1 ⟨rfl, hb⟩
  obtain ⟨hc1, hf1⟩ := bcell hb; have hz1 : w.heap.size + 1 < w1.heap.size := (by have := hb.size; (try simp at this); omega); have hl1_0 : w.heap.size < w1.heap.size := (by omega); have hn1_0 : w.heap.size ≠ w1.heap.size := (by omega); have hn1_1 : w.heap.size + 1 ≠ w1.heap.size := (by omega)
  have ca0 : w1.cell? ⟨w.heap.size, 0, none⟩ = some (.int .i64 x) := (by rw [hb.cell (p := ⟨w.heap.size, 0, none⟩) (by (first | omega | (simp; done) | (simp; omega)))] <;> simp); have ca1 : w1.cell? ⟨w.heap.size, 1, none⟩ = some (.int .i64 y) := (by rw [hb.cell (p := ⟨w.heap.size, 1, none⟩) (by (first | omega | (simp; done) | (simp; omega)))] <;> simp); have ca2 : w1.cell? ⟨w.heap.size, 2, none⟩ = some (.int .i64 z) := (by rw [hb.cell (p := ⟨w.heap.size, 2, none⟩) (by (first | omega | (simp; done) | (simp; omega)))] <;> simp)
  go_wp2_with (go_at_call 39; refine (r_within_b HI.out _).mono ?_; rintro e w' ⟨rfl, rfl⟩)
  go_at_call 20
  refine (r_may_b H2.out _).mono ?_
  rintro e w2 ⟨rfl, hb2⟩
  obtain ⟨hc2, hf2⟩ := bcell hb2; have hz2 : w.heap.size + 1 < w2.heap.size := (by have := hb2.size; (try simp at this); omega); have hl2_0 : w.heap.size < w2.heap.size := (by omega); have hn2_0 : w.heap.size ≠ w2.heap.size := (by omega); have hn2_1 : w.heap.size + 1 ≠ w2.heap.size := (by omega)
  go_wp2_with fail
  refine bodyPost_ret (v := .tuple #[.agg #[.int .i64 (x + -1), .int .i64 y, .int .i64 z], .bool true]) (by simp [results, Try.results25, go_sem, hc1, hf1, hz1, hl1_0, hn1_0, hn1_1, hc2, hf2, hz2, hl2_0, hn2_0, hn2_1]) rfl ?_
  refine ⟨rfl, ?_⟩
  (repeat' (first | (with_reducible exact Below.refl _ _) | (with_reducible refine Below.setCell ?_ (by (first | omega | (simp; done) | (simp; omega))) _) | (with_reducible refine Below.alloc ?_ (by (first | omega | (simp; done) | (simp; omega))) _) | (with_reducible refine Below.drew ?_) | (with_reducible refine below_drewN ?_ _) | (with_reducible refine Below.trans ?_ (Below.mono hb (by (first | omega | (simp; done) | (simp; omega))))) | (with_reducible refine Below.trans ?_ (Below.mono hb2 (by (first | omega | (simp; done) | (simp; omega)))))))

set_option maxHeartbeats 400000 in
theorem r_step_1f {x y z : Int} (hm : mayB x y z = true) (hm2 : mayB (x + -1) (y) (z) = false) (w : World) :
    Calls Try.prog 25 #[.agg #[.int .i64 x, .int .i64 y, .int .i64 z], .int .i64 1] w fun e w' => e = .returned (.tuple #[.agg #[.int .i64 0, .int .i64 0, .int .i64 0], .bool false]) ∧ Below w.heap.size w w' := by
  obtain ⟨h1, h2, h3, h4, h5, h6⟩ := mayB_true hm
  have H := Lib.hid hm
  have H2 := Lib.hid hm2
  have HI : Hid (inB 1 0 6 = true) := Lib.hid (by decide)
  clear hm hm2
  go_enter Try.func25, Try.ntmps25
  go_wp2_with fail
  go_at_call 20
  refine (r_may_b H.out _).mono ?_
  rintro e w1 ⟨rfl, hb⟩
  obtain ⟨hc1, hf1⟩ := bcell hb; have hz1 : w.heap.size + 1 < w1.heap.size := (by have := hb.size; (try simp at this); omega); have hl1_0 : w.heap.size < w1.heap.size := (by omega); have hn1_0 : w.heap.size ≠ w1.heap.size := (by omega); have hn1_1 : w.heap.size + 1 ≠ w1.heap.size := (by omega)
  have ca0 : w1.cell? ⟨w.heap.size, 0, none⟩ = some (.int .i64 x) := (by rw [hb.cell (p := ⟨w.heap.size, 0, none⟩) (by (first | omega | (simp; done) | (simp; omega)))] <;> simp); have ca1 : w1.cell? ⟨w.heap.size, 1, none⟩ = some (.int .i64 y) := (by rw [hb.cell (p := ⟨w.heap.size, 1, none⟩) (by (first | omega | (simp; done) | (simp; omega)))] <;> simp); have ca2 : w1.cell? ⟨w.heap.size, 2, none⟩ = some (.int .i64 z) := (by rw [hb.cell (p := ⟨w.heap.size, 2, none⟩) (by (first | omega | (simp; done) | (simp; omega)))] <;> simp)
  go_wp2_with (go_at_call 39; refine (r_within_b HI.out _).mono ?_; rintro e w' ⟨rfl, rfl⟩)
  go_at_call 20
  refine (r_may_b H2.out _).mono ?_
  rintro e w2 ⟨rfl, hb2⟩
  obtain ⟨hc2, hf2⟩ := bcell hb2; have hz2 : w.heap.size + 1 < w2.heap.size := (by have := hb2.size; (try simp at this); omega); have hl2_0 : w.heap.size < w2.heap.size := (by omega); have hn2_0 : w.heap.size ≠ w2.heap.size := (by omega); have hn2_1 : w.heap.size + 1 ≠ w2.heap.size := (by omega)
  go_wp2_with fail
  refine bodyPost_ret (v := .tuple #[.agg #[.int .i64 0, .int .i64 0, .int .i64 0], .bool false]) (by simp [results, Try.results25, go_sem, hc1, hf1, hz1, hl1_0, hn1_0, hn1_1, hc2, hf2, hz2, hl2_0, hn2_0, hn2_1]) rfl ?_
  refine ⟨rfl, ?_⟩
  (repeat' (first | (with_reducible exact Below.refl _ _) | (with_reducible refine Below.setCell ?_ (by (first | omega | (simp; done) | (simp; omega))) _) | (with_reducible refine Below.alloc ?_ (by (first | omega | (simp; done) | (simp; omega))) _) | (with_reducible refine Below.drew ?_) | (with_reducible refine below_drewN ?_ _) | (with_reducible refine Below.trans ?_ (Below.mono hb (by (first | omega | (simp; done) | (simp; omega))))) | (with_reducible refine Below.trans ?_ (Below.mono hb2 (by (first | omega | (simp; done) | (simp; omega)))))))

set_option maxHeartbeats 400000 in
theorem r_step_2t {x y z : Int} (hm : mayB x y z = true) (hm2 : mayB (x) (y) (z + 1) = true) (w : World) :
    Calls Try.prog 25 #[.agg #[.int .i64 x, .int .i64 y, .int .i64 z], .int .i64 2] w fun e w' => e = .returned (.tuple #[.agg #[.int .i64 x, .int .i64 y, .int .i64 (z + 1)], .bool true]) ∧ Below w.heap.size w w' := by
  obtain ⟨h1, h2, h3, h4, h5, h6⟩ := mayB_true hm
  have H := Lib.hid hm
  have H2 := Lib.hid hm2
  have HI : Hid (inB 2 0 6 = true) := Lib.hid (by decide)
  clear hm hm2
  go_enter Try.func25, Try.ntmps25
  go_wp2_with fail
  go_at_call 20
  refine (r_may_b H.out _).mono ?_
  rintro e w1 ⟨rfl, hb⟩
  obtain ⟨hc1, hf1⟩ := bcell hb; have hz1 : w.heap.size + 1 < w1.heap.size := (by have := hb.size; (try simp at this); omega); have hl1_0 : w.heap.size < w1.heap.size := (by omega); have hn1_0 : w.heap.size ≠ w1.heap.size := (by omega); have hn1_1 : w.heap.size + 1 ≠ w1.heap.size := (by omega)
  have ca0 : w1.cell? ⟨w.heap.size, 0, none⟩ = some (.int .i64 x) := (by rw [hb.cell (p := ⟨w.heap.size, 0, none⟩) (by (first | omega | (simp; done) | (simp; omega)))] <;> simp); have ca1 : w1.cell? ⟨w.heap.size, 1, none⟩ = some (.int .i64 y) := (by rw [hb.cell (p := ⟨w.heap.size, 1, none⟩) (by (first | omega | (simp; done) | (simp; omega)))] <;> simp); have ca2 : w1.cell? ⟨w.heap.size, 2, none⟩ = some (.int .i64 z) := (by rw [hb.cell (p := ⟨w.heap.size, 2, none⟩) (by (first | omega | (simp; done) | (simp; omega)))] <;> simp)
  go_wp2_with (go_at_call 39; refine (r_within_b HI.out _).mono ?_; rintro e w' ⟨rfl, rfl⟩)
  go_at_call 20
  refine (r_may_b H2.out _).mono ?_
  rintro e w2 ⟨rfl, hb2⟩
  obtain ⟨hc2, hf2⟩ := bcell hb2; have hz2 : w.heap.size + 1 < w2.heap.size := (by have := hb2.size; (try simp at this); omega); have hl2_0 : w.heap.size < w2.heap.size := (by omega); have hn2_0 : w.heap.size ≠ w2.heap.size := (by omega); have hn2_1 : w.heap.size + 1 ≠ w2.heap.size := (by omega)
  go_wp2_with fail
  refine bodyPost_ret (v := .tuple #[.agg #[.int .i64 x, .int .i64 y, .int .i64 (z + 1)], .bool true]) (by simp [results, Try.results25, go_sem, hc1, hf1, hz1, hl1_0, hn1_0, hn1_1, hc2, hf2, hz2, hl2_0, hn2_0, hn2_1]) rfl ?_
  refine ⟨rfl, ?_⟩
  (repeat' (first | (with_reducible exact Below.refl _ _) | (with_reducible refine Below.setCell ?_ (by (first | omega | (simp; done) | (simp; omega))) _) | (with_reducible refine Below.alloc ?_ (by (first | omega | (simp; done) | (simp; omega))) _) | (with_reducible refine Below.drew ?_) | (with_reducible refine below_drewN ?_ _) | (with_reducible refine Below.trans ?_ (Below.mono hb (by (first | omega | (simp; done) | (simp; omega))))) | (with_reducible refine Below.trans ?_ (Below.mono hb2 (by (first | omega | (simp; done) | (simp; omega)))))))

set_option maxHeartbeats 400000 in
theorem r_step_2f {x y z : Int} (hm : mayB x y z = true) (hm2 : mayB (x) (y) (z + 1) = false) (w : World) :
    Calls Try.prog 25 #[.agg #[.int .i64 x, .int .i64 y, .int .i64 z], .int .i64 2] w fun e w' => e = .returned (.tuple #[.agg #[.int .i64 0, .int .i64 0, .int .i64 0], .bool false]) ∧ Below w.heap.size w w' := by
  obtain ⟨h1, h2, h3, h4, h5, h6⟩ := mayB_true hm
  have H := Lib.hid hm
  have H2 := Lib.hid hm2
  have HI : Hid (inB 2 0 6 = true) := Lib.hid (by decide)
  clear hm hm2
  go_enter Try.func25, Try.ntmps25
  go_wp2_with fail
  go_at_call 20
  refine (r_may_b H.out _).mono ?_
  rintro e w1 ⟨rfl, hb⟩
  obtain ⟨hc1, hf1⟩ := bcell hb; have hz1 : w.heap.size + 1 < w1.heap.size := (by have := hb.size; (try simp at this); omega); have hl1_0 : w.heap.size < w1.heap.size := (by omega); have hn1_0 : w.heap.size ≠ w1.heap.size := (by omega); have hn1_1 : w.heap.size + 1 ≠ w1.heap.size := (by omega)
  have ca0 : w1.cell? ⟨w.heap.size, 0, none⟩ = some (.int .i64 x) := (by rw [hb.cell (p := ⟨w.heap.size, 0, none⟩) (by (first | omega | (simp; done) | (simp; omega)))] <;> simp); have ca1 : w1.cell? ⟨w.heap.size, 1, none⟩ = some (.int .i64 y) := (by rw [hb.cell (p := ⟨w.heap.size, 1, none⟩) (by (first | omega | (simp; done) | (simp; omega)))] <;> simp); have ca2 : w1.cell? ⟨w.heap.size, 2, none⟩ = some (.int .i64 z) := (by rw [hb.cell (p := ⟨w.heap.size, 2, none⟩) (by (first | omega | (simp; done) | (simp; omega)))] <;> simp)
  go_wp2_with (go_at_call 39; refine (r_within_b HI.out _).mono ?_; rintro e w' ⟨rfl, rfl⟩)
  go_at_call 20
  refine (r_may_b H2.out _).mono ?_
  rintro e w2 ⟨rfl, hb2⟩
  obtain ⟨hc2, hf2⟩ := bcell hb2; have hz2 : w.heap.size + 1 < w2.heap.size := (by have := hb2.size; (try simp at this); omega); have hl2_0 : w.heap.size < w2.heap.size := (by omega); have hn2_0 : w.heap.size ≠ w2.heap.size := (by omega); have hn2_1 : w.heap.size + 1 ≠ w2.heap.size := (by omega)
  go_wp2_with fail
  refine bodyPost_ret (v := .tuple #[.agg #[.int .i64 0, .int .i64 0, .int .i64 0], .bool false]) (by simp [results, Try.results25, go_sem, hc1, hf1, hz1, hl1_0, hn1_0, hn1_1, hc2, hf2, hz2, hl2_0, hn2_0, hn2_1]) rfl ?_
  refine ⟨rfl, ?_⟩
  (repeat' (first | (with_reducible exact Below.refl _ _) | (with_reducible refine Below.setCell ?_ (by (first | omega | (simp; done) | (simp; omega))) _) | (with_reducible refine Below.alloc ?_ (by (first | omega | (simp; done) | (simp; omega))) _) | (with_reducible refine Below.drew ?_) | (with_reducible refine below_drewN ?_ _) | (with_reducible refine Below.trans ?_ (Below.mono hb (by (first | omega | (simp; done) | (simp; omega))))) | (with_reducible refine Below.trans ?_ (Below.mono hb2 (by (first | omega | (simp; done) | (simp; omega)))))))

set_option maxHeartbeats 400000 in
theorem r_step_3t {x y z : Int} (hm : mayB x y z = true) (hm2 : mayB (x) (y) (z + -1) = true) (w : World) :
    Calls Try.prog 25 #[.agg #[.int .i64 x, .int .i64 y, .int .i64 z], .int .i64 3] w fun e w' => e = .returned (.tuple #[.agg #[.int .i64 x, .int .i64 y, .int .i64 (z + -1)], .bool true]) ∧ Below w.heap.size w w' := by
  obtain ⟨h1, h2, h3, h4, h5, h6⟩ := mayB_true hm
  have H := Lib.hid hm
  have H2 := Lib.hid hm2
  have HI : Hid (inB 3 0 6 = true) := Lib.hid (by decide)
  clear hm hm2
  go_enter Try.func25, Try.ntmps25
  go_wp2_with fail
  go_at_call 20
  refine (r_may_b H.out _).mono ?_
  rintro e w1 ⟨rfl, hb⟩
  obtain ⟨hc1, hf1⟩ := bcell hb; have hz1 : w.heap.size + 1 < w1.heap.size := (by have := hb.size; (try simp at this); omega); have hl1_0 : w.heap.size < w1.heap.size := (by omega); have hn1_0 : w.heap.size ≠ w1.heap.size := (by omega); have hn1_1 : w.heap.size + 1 ≠ w1.heap.size := (by omega)
  have ca0 : w1.cell? ⟨w.heap.size, 0, none⟩ = some (.int .i64 x) := (by rw [hb.cell (p := ⟨w.heap.size, 0, none⟩) (by (first | omega | (simp; done) | (simp; omega)))] <;> simp); have ca1 : w1.cell? ⟨w.heap.size, 1, none⟩ = some (.int .i64 y) := (by rw [hb.cell (p := ⟨w.heap.size, 1, none⟩) (by (first | omega | (simp; done) | (simp; omega)))] <;> simp); have ca2 : w1.cell? ⟨w.heap.size, 2, none⟩ = some (.int .i64 z) := (by rw [hb.cell (p := ⟨w.heap.size, 2, none⟩) (by (first | omega | (simp; done) | (simp; omega)))] <;> simp)
  go_wp2_with (go_at_call 39; refine (r_within_b HI.out _).mono ?_; rintro e w' ⟨rfl, rfl⟩)
  go_at_call 20
  refine (r_may_b H2.out _).mono ?_
  rintro e w2 ⟨rfl, hb2⟩
  obtain ⟨hc2, hf2⟩ := bcell hb2; have hz2 : w.heap.size + 1 < w2.heap.size := (by have := hb2.size; (try simp at this); omega); have hl2_0 : w.heap.size < w2.heap.size := (by omega); have hn2_0 : w.heap.size ≠ w2.heap.size := (by omega); have hn2_1 : w.heap.size + 1 ≠ w2.heap.size := (by omega)
  go_wp2_with fail
  refine bodyPost_ret (v := .tuple #[.agg #[.int .i64 x, .int .i64 y, .int .i64 (z + -1)], .bool true]) (by simp [results, Try.results25, go_sem, hc1, hf1, hz1, hl1_0, hn1_0, hn1_1, hc2, hf2, hz2, hl2_0, hn2_0, hn2_1]) rfl ?_
  refine ⟨rfl, ?_⟩
  (repeat' (first | (with_reducible exact Below.refl _ _) | (with_reducible refine Below.setCell ?_ (by (first | omega | (simp; done) | (simp; omega))) _) | (with_reducible refine Below.alloc ?_ (by (first | omega | (simp; done) | (simp; omega))) _) | (with_reducible refine Below.drew ?_) | (with_reducible refine below_drewN ?_ _) | (with_reducible refine Below.trans ?_ (Below.mono hb (by (first | omega | (simp; done) | (simp; omega))))) | (with_reducible refine Below.trans ?_ (Below.mono hb2 (by (first | omega | (simp; done) | (simp; omega)))))))

set_option maxHeartbeats 400000 in
theorem r_step_3f {x y z : Int} (hm : mayB x y z = true) (hm2 : mayB (x) (y) (z + -1) = false) (w : World) :
    Calls Try.prog 25 #[.agg #[.int .i64 x, .int .i64 y, .int .i64 z], .int .i64 3] w fun e w' => e = .returned (.tuple #[.agg #[.int .i64 0, .int .i64 0, .int .i64 0], .bool false]) ∧ Below w.heap.size w w' := by
  obtain ⟨h1, h2, h3, h4, h5, h6⟩ := mayB_true hm
  have H := Lib.hid hm
  have H2 := Lib.hid hm2
  have HI : Hid (inB 3 0 6 = true) := Lib.hid (by decide)
  clear hm hm2
  go_enter Try.func25, Try.ntmps25
  go_wp2_with fail
  go_at_call 20
  refine (r_may_b H.out _).mono ?_
  rintro e w1 ⟨rfl, hb⟩
  obtain ⟨hc1, hf1⟩ := bcell hb; have hz1 : w.heap.size + 1 < w1.heap.size := (by have := hb.size; (try simp at this); omega); have hl1_0 : w.heap.size < w1.heap.size := (by omega); have hn1_0 : w.heap.size ≠ w1.heap.size := (by omega); have hn1_1 : w.heap.size + 1 ≠ w1.heap.size := (by omega)
  have ca0 : w1.cell? ⟨w.heap.size, 0, none⟩ = some (.int .i64 x) := (by rw [hb.cell (p := ⟨w.heap.size, 0, none⟩) (by (first | omega | (simp; done) | (simp; omega)))] <;> simp); have ca1 : w1.cell? ⟨w.heap.size, 1, none⟩ = some (.int .i64 y) := (by rw [hb.cell (p := ⟨w.heap.size, 1, none⟩) (by (first | omega | (simp; done) | (simp; omega)))] <;> simp); have ca2 : w1.cell? ⟨w.heap.size, 2, none⟩ = some (.int .i64 z) := (by rw [hb.cell (p := ⟨w.heap.size, 2, none⟩) (by (first | omega | (simp; done) | (simp; omega)))] <;> simp)
  go_wp2_with (go_at_call 39; refine (r_within_b HI.out _).mono ?_; rintro e w' ⟨rfl, rfl⟩)
  go_at_call 20
  refine (r_may_b H2.out _).mono ?_
  rintro e w2 ⟨rfl, hb2⟩
  obtain ⟨hc2, hf2⟩ := bcell hb2; have hz2 : w.heap.size + 1 < w2.heap.size := (by have := hb2.size; (try simp at this); omega); have hl2_0 : w.heap.size < w2.heap.size := (by omega); have hn2_0 : w.heap.size ≠ w2.heap.size := (by omega); have hn2_1 : w.heap.size + 1 ≠ w2.heap.size := (by omega)
  go_wp2_with fail
  refine bodyPost_ret (v := .tuple #[.agg #[.int .i64 0, .int .i64 0, .int .i64 0], .bool false]) (by simp [results, Try.results25, go_sem, hc1, hf1, hz1, hl1_0, hn1_0, hn1_1, hc2, hf2, hz2, hl2_0, hn2_0, hn2_1]) rfl ?_
  refine ⟨rfl, ?_⟩
  (repeat' (first | (with_reducible exact Below.refl _ _) | (with_reducible refine Below.setCell ?_ (by (first | omega | (simp; done) | (simp; omega))) _) | (with_reducible refine Below.alloc ?_ (by (first | omega | (simp; done) | (simp; omega))) _) | (with_reducible refine Below.drew ?_) | (with_reducible refine below_drewN ?_ _) | (with_reducible refine Below.trans ?_ (Below.mono hb (by (first | omega | (simp; done) | (simp; omega))))) | (with_reducible refine Below.trans ?_ (Below.mono hb2 (by (first | omega | (simp; done) | (simp; omega)))))))

set_option maxHeartbeats 400000 in
theorem r_step_4t {x y z : Int} (hm : mayB x y z = true) (hm2 : mayB (x) (y + 1) (z) = true) (w : World) :
    Calls Try.prog 25 #[.agg #[.int .i64 x, .int .i64 y, .int .i64 z], .int .i64 4] w fun e w' => e = .returned (.tuple #[.agg #[.int .i64 x, .int .i64 (y + 1), .int .i64 z], .bool true]) ∧ Below w.heap.size w w' := by
  obtain ⟨h1, h2, h3, h4, h5, h6⟩ := mayB_true hm
  have H := Lib.hid hm
  have H2 := Lib.hid hm2
  have HI : Hid (inB 4 0 6 = true) := Lib.hid (by decide)
  clear hm hm2
  go_enter Try.func25, Try.ntmps25
  go_wp2_with fail
  go_at_call 20
  refine (r_may_b H.out _).mono ?_
  rintro e w1 ⟨rfl, hb⟩
  obtain ⟨hc1, hf1⟩ := bcell hb; have hz1 : w.heap.size + 1 < w1.heap.size := (by have := hb.size; (try simp at this); omega); have hl1_0 : w.heap.size < w1.heap.size := (by omega); have hn1_0 : w.heap.size ≠ w1.heap.size := (by omega); have hn1_1 : w.heap.size + 1 ≠ w1.heap.size := (by omega)
  have ca0 : w1.cell? ⟨w.heap.size, 0, none⟩ = some (.int .i64 x) := (by rw [hb.cell (p := ⟨w.heap.size, 0, none⟩) (by (first | omega | (simp; done) | (simp; omega)))] <;> simp); have ca1 : w1.cell? ⟨w.heap.size, 1, none⟩ = some (.int .i64 y) := (by rw [hb.cell (p := ⟨w.heap.size, 1, none⟩) (by (first | omega | (simp; done) | (simp; omega)))] <;> simp); have ca2 : w1.cell? ⟨w.heap.size, 2, none⟩ = some (.int .i64 z) := (by rw [hb.cell (p := ⟨w.heap.size, 2, none⟩) (by (first | omega | (simp; done) | (simp; omega)))] <;> simp)
  go_wp2_with (go_at_call 39; refine (r_within_b HI.out _).mono ?_; rintro e w' ⟨rfl, rfl⟩)
  go_at_call 20
  refine (r_may_b H2.out _).mono ?_
  rintro e w2 ⟨rfl, hb2⟩
  obtain ⟨hc2, hf2⟩ := bcell hb2; have hz2 : w.heap.size + 1 < w2.heap.size := (by have := hb2.size; (try simp at this); omega); have hl2_0 : w.heap.size < w2.heap.size := (by omega); have hn2_0 : w.heap.size ≠ w2.heap.size := (by omega); have hn2_1 : w.heap.size + 1 ≠ w2.heap.size := (by omega)
  go_wp2_with fail
  refine bodyPost_ret (v := .tuple #[.agg #[.int .i64 x, .int .i64 (y + 1), .int .i64 z], .bool true]) (by simp [results, Try.results25, go_sem, hc1, hf1, hz1, hl1_0, hn1_0, hn1_1, hc2, hf2, hz2, hl2_0, hn2_0, hn2_1]) rfl ?_
  refine ⟨rfl, ?_⟩
  (repeat' (first | (with_reducible exact Below.refl _ _) | (with_reducible refine Below.setCell ?_ (by (first | omega | (simp; done) | (simp; omega))) _) | (with_reducible refine Below.alloc ?_ (by (first | omega | (simp; done) | (simp; omega))) _) | (with_reducible refine Below.drew ?_) | (with_reducible refine below_drewN ?_ _) | (with_reducible refine Below.trans ?_ (Below.mono hb (by (first | omega | (simp; done) | (simp; omega))))) | (with_reducible refine Below.trans ?_ (Below.mono hb2 (by (first | omega | (simp; done) | (simp; omega)))))))

set_option maxHeartbeats 400000 in
theorem r_step_4f {x y z : Int} (hm : mayB x y z = true) (hm2 : mayB (x) (y + 1) (z) = false) (w : World) :
    Calls Try.prog 25 #[.agg #[.int .i64 x, .int .i64 y, .int .i64 z], .int .i64 4] w fun e w' => e = .returned (.tuple #[.agg #[.int .i64 0, .int .i64 0, .int .i64 0], .bool false]) ∧ Below w.heap.size w w' := by
  obtain ⟨h1, h2, h3, h4, h5, h6⟩ := mayB_true hm
  have H := Lib.hid hm
  have H2 := Lib.hid hm2
  have HI : Hid (inB 4 0 6 = true) := Lib.hid (by decide)
  clear hm hm2
  go_enter Try.func25, Try.ntmps25
  go_wp2_with fail
  go_at_call 20
  refine (r_may_b H.out _).mono ?_
  rintro e w1 ⟨rfl, hb⟩
  obtain ⟨hc1, hf1⟩ := bcell hb; have hz1 : w.heap.size + 1 < w1.heap.size := (by have := hb.size; (try simp at this); omega); have hl1_0 : w.heap.size < w1.heap.size := (by omega); have hn1_0 : w.heap.size ≠ w1.heap.size := (by omega); have hn1_1 : w.heap.size + 1 ≠ w1.heap.size := (by omega)
  have ca0 : w1.cell? ⟨w.heap.size, 0, none⟩ = some (.int .i64 x) := (by rw [hb.cell (p := ⟨w.heap.size, 0, none⟩) (by (first | omega | (simp; done) | (simp; omega)))] <;> simp); have ca1 : w1.cell? ⟨w.heap.size, 1, none⟩ = some (.int .i64 y) := (by rw [hb.cell (p := ⟨w.heap.size, 1, none⟩) (by (first | omega | (simp; done) | (simp; omega)))] <;> simp); have ca2 : w1.cell? ⟨w.heap.size, 2, none⟩ = some (.int .i64 z) := (by rw [hb.cell (p := ⟨w.heap.size, 2, none⟩) (by (first | omega | (simp; done) | (simp; omega)))] <;> simp)
  go_wp2_with (go_at_call 39; refine (r_within_b HI.out _).mono ?_; rintro e w' ⟨rfl, rfl⟩)
  go_at_call 20
  refine (r_may_b H2.out _).mono ?_
  rintro e w2 ⟨rfl, hb2⟩
  obtain ⟨hc2, hf2⟩ := bcell hb2; have hz2 : w.heap.size + 1 < w2.heap.size := (by have := hb2.size; (try simp at this); omega); have hl2_0 : w.heap.size < w2.heap.size := (by omega); have hn2_0 : w.heap.size ≠ w2.heap.size := (by omega); have hn2_1 : w.heap.size + 1 ≠ w2.heap.size := (by omega)
  go_wp2_with fail
  refine bodyPost_ret (v := .tuple #[.agg #[.int .i64 0, .int .i64 0, .int .i64 0], .bool false]) (by simp [results, Try.results25, go_sem, hc1, hf1, hz1, hl1_0, hn1_0, hn1_1, hc2, hf2, hz2, hl2_0, hn2_0, hn2_1]) rfl ?_
  refine ⟨rfl, ?_⟩
  (repeat' (first | (with_reducible exact Below.refl _ _) | (with_reducible refine Below.setCell ?_ (by (first | omega | (simp; done) | (simp; omega))) _) | (with_reducible refine Below.alloc ?_ (by (first | omega | (simp; done) | (simp; omega))) _) | (with_reducible refine Below.drew ?_) | (with_reducible refine below_drewN ?_ _) | (with_reducible refine Below.trans ?_ (Below.mono hb (by (first | omega | (simp; done) | (simp; omega))))) | (with_reducible refine Below.trans ?_ (Below.mono hb2 (by (first | omega | (simp; done) | (simp; omega)))))))

set_option maxHeartbeats 400000 in
theorem r_step_5t {x y z : Int} (hm : mayB x y z = true) (hm2 : mayB (x) (y + -1) (z) = true) (w : World) :
    Calls Try.prog 25 #[.agg #[.int .i64 x, .int .i64 y, .int .i64 z], .int .i64 5] w fun e w' => e = .returned (.tuple #[.agg #[.int .i64 x, .int .i64 (y + -1), .int .i64 z], .bool true]) ∧ Below w.heap.size w w' := by
  obtain ⟨h1, h2, h3, h4, h5, h6⟩ := mayB_true hm
  have H := Lib.hid hm
  have H2 := Lib.hid hm2
  have HI : Hid (inB 5 0 6 = true) := Lib.hid (by decide)
  clear hm hm2
  go_enter Try.func25, Try.ntmps25
  go_wp2_with fail
  go_at_call 20
  refine (r_may_b H.out _).mono ?_
  rintro e w1 ⟨rfl, hb⟩
  obtain ⟨hc1, hf1⟩ := bcell hb; have hz1 : w.heap.size + 1 < w1.heap.size := (by have := hb.size; (try simp at this); omega); have hl1_0 : w.heap.size < w1.heap.size := (by omega); have hn1_0 : w.heap.size ≠ w1.heap.size := (by omega); have hn1_1 : w.heap.size + 1 ≠ w1.heap.size := (by omega)
  have ca0 : w1.cell? ⟨w.heap.size, 0, none⟩ = some (.int .i64 x) := (by rw [hb.cell (p := ⟨w.heap.size, 0, none⟩) (by (first | omega | (simp; done) | (simp; omega)))] <;> simp); have ca1 : w1.cell? ⟨w.heap.size, 1, none⟩ = some (.int .i64 y) := (by rw [hb.cell (p := ⟨w.heap.size, 1, none⟩) (by (first | omega | (simp; done) | (simp; omega)))] <;> simp); have ca2 : w1.cell? ⟨w.heap.size, 2, none⟩ = some (.int .i64 z) := (by rw [hb.cell (p := ⟨w.heap.size, 2, none⟩) (by (first | omega | (simp; done) | (simp; omega)))] <;> simp)
  go_wp2_with (go_at_call 39; refine (r_within_b HI.out _).mono ?_; rintro e w' ⟨rfl, rfl⟩)
  go_at_call 20
  refine (r_may_b H2.out _).mono ?_
  rintro e w2 ⟨rfl, hb2⟩
  obtain ⟨hc2, hf2⟩ := bcell hb2; have hz2 : w.heap.size + 1 < w2.heap.size := (by have := hb2.size; (try simp at this); omega); have hl2_0 : w.heap.size < w2.heap.size := (by omega); have hn2_0 : w.heap.size ≠ w2.heap.size := (by omega); have hn2_1 : w.heap.size + 1 ≠ w2.heap.size := (by omega)
  go_wp2_with fail
  refine bodyPost_ret (v := .tuple #[.agg #[.int .i64 x, .int .i64 (y + -1), .int .i64 z], .bool true]) (by simp [results, Try.results25, go_sem, hc1, hf1, hz1, hl1_0, hn1_0, hn1_1, hc2, hf2, hz2, hl2_0, hn2_0, hn2_1]) rfl ?_
  refine ⟨rfl, ?_⟩
  (repeat' (first | (with_reducible exact Below.refl _ _) | (with_reducible refine Below.setCell ?_ (by (first | omega | (simp; done) | (simp; omega))) _) | (with_reducible refine Below.alloc ?_ (by (first | omega | (simp; done) | (simp; omega))) _) | (with_reducible refine Below.drew ?_) | (with_reducible refine below_drewN ?_ _) | (with_reducible refine Below.trans ?_ (Below.mono hb (by (first | omega | (simp; done) | (simp; omega))))) | (with_reducible refine Below.trans ?_ (Below.mono hb2 (by (first | omega | (simp; done) | (simp; omega)))))))

set_option maxHeartbeats 400000 in
theorem r_step_5f {x y z : Int} (hm : mayB x y z = true) (hm2 : mayB (x) (y + -1) (z) = false) (w : World) :
    Calls Try.prog 25 #[.agg #[.int .i64 x, .int .i64 y, .int .i64 z], .int .i64 5] w fun e w' => e = .returned (.tuple #[.agg #[.int .i64 0, .int .i64 0, .int .i64 0], .bool false]) ∧ Below w.heap.size w w' := by
  obtain ⟨h1, h2, h3, h4, h5, h6⟩ := mayB_true hm
  have H := Lib.hid hm
  have H2 := Lib.hid hm2
  have HI : Hid (inB 5 0 6 = true) := Lib.hid (by decide)
  clear hm hm2
  go_enter Try.func25, Try.ntmps25
  go_wp2_with fail
  go_at_call 20
  refine (r_may_b H.out _).mono ?_
  rintro e w1 ⟨rfl, hb⟩
  obtain ⟨hc1, hf1⟩ := bcell hb; have hz1 : w.heap.size + 1 < w1.heap.size := (by have := hb.size; (try simp at this); omega); have hl1_0 : w.heap.size < w1.heap.size := (by omega); have hn1_0 : w.heap.size ≠ w1.heap.size := (by omega); have hn1_1 : w.heap.size + 1 ≠ w1.heap.size := (by omega)
  have ca0 : w1.cell? ⟨w.heap.size, 0, none⟩ = some (.int .i64 x) := (by rw [hb.cell (p := ⟨w.heap.size, 0, none⟩) (by (first | omega | (simp; done) | (simp; omega)))] <;> simp); have ca1 : w1.cell? ⟨w.heap.size, 1, none⟩ = some (.int .i64 y) := (by rw [hb.cell (p := ⟨w.heap.size, 1, none⟩) (by (first | omega | (simp; done) | (simp; omega)))] <;> simp); have ca2 : w1.cell? ⟨w.heap.size, 2, none⟩ = some (.int .i64 z) := (by rw [hb.cell (p := ⟨w.heap.size, 2, none⟩) (by (first | omega | (simp; done) | (simp; omega)))] <;> simp)
  go_wp2_with (go_at_call 39; refine (r_within_b HI.out _).mono ?_; rintro e w' ⟨rfl, rfl⟩)
  go_at_call 20
  refine (r_may_b H2.out _).mono ?_
  rintro e w2 ⟨rfl, hb2⟩
  obtain ⟨hc2, hf2⟩ := bcell hb2; have hz2 : w.heap.size + 1 < w2.heap.size := (by have := hb2.size; (try simp at this); omega); have hl2_0 : w.heap.size < w2.heap.size := (by omega); have hn2_0 : w.heap.size ≠ w2.heap.size := (by omega); have hn2_1 : w.heap.size + 1 ≠ w2.heap.size := (by omega)
  go_wp2_with fail
  refine bodyPost_ret (v := .tuple #[.agg #[.int .i64 0, .int .i64 0, .int .i64 0], .bool false]) (by simp [results, Try.results25, go_sem, hc1, hf1, hz1, hl1_0, hn1_0, hn1_1, hc2, hf2, hz2, hl2_0, hn2_0, hn2_1]) rfl ?_
  refine ⟨rfl, ?_⟩
  (repeat' (first | (with_reducible exact Below.refl _ _) | (with_reducible refine Below.setCell ?_ (by (first | omega | (simp; done) | (simp; omega))) _) | (with_reducible refine Below.alloc ?_ (by (first | omega | (simp; done) | (simp; omega))) _) | (with_reducible refine Below.drew ?_) | (with_reducible refine below_drewN ?_ _) | (with_reducible refine Below.trans ?_ (Below.mono hb (by (first | omega | (simp; done) | (simp; omega))))) | (with_reducible refine Below.trans ?_ (Below.mono hb2 (by (first | omega | (simp; done) | (simp; omega)))))))

theorem mv_bounds {x y z d X Y Z : Int} (h : mayB x y z = true) (hv : mv d x y z = (X, Y, Z, true)) :
    (d = 0 ∧ X = x + 1 ∧ Y = y ∧ Z = z) ∨ (d = 1 ∧ X = x + -1 ∧ Y = y ∧ Z = z) ∨ (d = 2 ∧ X = x ∧ Y = y ∧ Z = z + 1) ∨ (d = 3 ∧ X = x ∧ Y = y ∧ Z = z + -1) ∨ (d = 4 ∧ X = x ∧ Y = y + 1 ∧ Z = z) ∨ (d = 5 ∧ X = x ∧ Y = y + -1 ∧ Z = z) := by
  obtain ⟨h1, h2, h3, h4, h5, h6⟩ := mayB_true h
  unfold mv at hv
  repeat' split at hv
  all_goals
    obtain ⟨rfl, rfl, rfl, hr⟩ := p4 hv
    first
      | (cases hr; done)
      | skip
  all_goals (try rw [wrap64_small (by omega) (by omega)])
  all_goals simp_all
  all_goals omega
theorem mv_no {x y z d X Y Z : Int} (hv : mv d x y z = (X, Y, Z, false)) : inB d 0 6 = false := by
  unfold mv at hv
  repeat' split at hv
  all_goals
    obtain ⟨rfl, rfl, rfl, hr⟩ := p4 hv
    first
      | (cases hr; done)
      | skip
  simp [inB]
  omega

set_option maxHeartbeats 400000 in
theorem r_step_c {x y z d X Y Z : Int} {r : Bool} (h : stepOf x y z d = (X, Y, Z, r)) (w : World) :
    Calls Try.prog 25 #[.agg #[.int .i64 x, .int .i64 y, .int .i64 z], .int .i64 d] w fun e w' => e = .returned (.tuple #[.agg #[.int .i64 X, .int .i64 Y, .int .i64 Z], .bool r]) ∧ Below w.heap.size w w' := by
  obtain ⟨X', Y', Z', r', hv⟩ : ∃ X' Y' Z' r', mv d x y z = (X', Y', Z', r') := ⟨_, _, _, _, rfl⟩
  unfold stepOf at h
  rw [hv] at h
  simp only at h
  cases hm : mayB x y z with
  | false =>
    rw [hm, if_neg (by simp)] at h
    obtain ⟨rfl, rfl, rfl, rfl⟩ := p4 h
    have H := Lib.hid hm
    clear h hm hv
    go_enter Try.func25, Try.ntmps25
    go_wp2_with (go_at_call 20; refine (r_may_b H.out _).mono ?_; rintro e w1 ⟨rfl, hb⟩; obtain ⟨hc1, hf1⟩ := bcell hb; have hz1 : w.heap.size + 1 < w1.heap.size := (by have := hb.size; (try simp at this); omega); have hl1_0 : w.heap.size < w1.heap.size := (by omega); have hn1_0 : w.heap.size ≠ w1.heap.size := (by omega); have hn1_1 : w.heap.size + 1 ≠ w1.heap.size := (by omega))
    refine bodyPost_ret (v := .tuple #[.agg #[.int .i64 0, .int .i64 0, .int .i64 0], .bool false]) (by simp [results, Try.results25, go_sem, hc1, hf1, hz1, hl1_0, hn1_0, hn1_1]) rfl ?_
    refine ⟨rfl, ?_⟩
    (repeat' (first | (with_reducible exact Below.refl _ _) | (with_reducible refine Below.setCell ?_ (by (first | omega | (simp; done) | (simp; omega))) _) | (with_reducible refine Below.alloc ?_ (by (first | omega | (simp; done) | (simp; omega))) _) | (with_reducible refine Below.drew ?_) | (with_reducible refine below_drewN ?_ _) | (with_reducible refine Below.trans ?_ (Below.mono hb (by (first | omega | (simp; done) | (simp; omega)))))))
  | true =>
    rw [hm, if_pos rfl] at h
    cases r' with
    | false =>
      rw [if_neg (c := _ ∧ _) (by simp)] at h
      obtain ⟨rfl, rfl, rfl, rfl⟩ := p4 h
      have H := Lib.hid hm
      have HI := Lib.hid (mv_no hv)
      clear h hm hv
      go_enter Try.func25, Try.ntmps25
      go_wp2_with (first | (go_at_call 20; refine (r_may_b H.out _).mono ?_; rintro e w1 ⟨rfl, hb⟩; obtain ⟨hc1, hf1⟩ := bcell hb; have hz1 : w.heap.size + 1 < w1.heap.size := (by have := hb.size; (try simp at this); omega); have hl1_0 : w.heap.size < w1.heap.size := (by omega); have hn1_0 : w.heap.size ≠ w1.heap.size := (by omega); have hn1_1 : w.heap.size + 1 ≠ w1.heap.size := (by omega)) | (go_at_call 39; refine (r_within_b HI.out _).mono ?_; rintro e w' ⟨rfl, rfl⟩))
      refine bodyPost_ret (v := .tuple #[.agg #[.int .i64 0, .int .i64 0, .int .i64 0], .bool false]) (by simp [results, Try.results25, go_sem, hc1, hf1, hz1, hl1_0, hn1_0, hn1_1]) rfl ?_
      refine ⟨rfl, ?_⟩
      (repeat' (first | (with_reducible exact Below.refl _ _) | (with_reducible refine Below.setCell ?_ (by (first | omega | (simp; done) | (simp; omega))) _) | (with_reducible refine Below.alloc ?_ (by (first | omega | (simp; done) | (simp; omega))) _) | (with_reducible refine Below.drew ?_) | (with_reducible refine below_drewN ?_ _) | (with_reducible refine Below.trans ?_ (Below.mono hb (by (first | omega | (simp; done) | (simp; omega)))))))
    | true =>
      cases hm2 : mayB X' Y' Z' with
      | false =>
        rw [hm2, if_neg (by simp)] at h
        obtain ⟨rfl, rfl, rfl, rfl⟩ := p4 h
        rcases mv_bounds hm hv with ⟨rfl, rfl, rfl, rfl⟩ | ⟨rfl, rfl, rfl, rfl⟩ | ⟨rfl, rfl, rfl, rfl⟩ | ⟨rfl, rfl, rfl, rfl⟩ | ⟨rfl, rfl, rfl, rfl⟩ | ⟨rfl, rfl, rfl, rfl⟩
        · exact r_step_0f hm hm2 w
        · exact r_step_1f hm hm2 w
        · exact r_step_2f hm hm2 w
        · exact r_step_3f hm hm2 w
        · exact r_step_4f hm hm2 w
        · exact r_step_5f hm hm2 w
      | true =>
        rw [hm2, if_pos ⟨rfl, rfl⟩] at h
        obtain ⟨rfl, rfl, rfl, rfl⟩ := p4 h
        rcases mv_bounds hm hv with ⟨rfl, rfl, rfl, rfl⟩ | ⟨rfl, rfl, rfl, rfl⟩ | ⟨rfl, rfl, rfl, rfl⟩ | ⟨rfl, rfl, rfl, rfl⟩ | ⟨rfl, rfl, rfl, rfl⟩ | ⟨rfl, rfl, rfl, rfl⟩
        · exact r_step_0t hm hm2 w
        · exact r_step_1t hm hm2 w
        · exact r_step_2t hm hm2 w
        · exact r_step_3t hm hm2 w
        · exact r_step_4t hm hm2 w
        · exact r_step_5t hm hm2 w
end PlaceW
end Go.Proofs.Ytokkomglbddgcaa
