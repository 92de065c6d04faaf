/-
  The land's chunk: of the program, and of the reference.
-/
import Derived.Test.YtjjnmkbjohiekaaDoorLandWalks
import Derived.Test.YtjjnmkbjohiekaaDoorChunkOf
namespace Go.Proofs.YtjjnmkbjohiekaaDoor
open Go.RowKit
set_option linter.unusedVariables false
set_option linter.unusedSimpArgs false
namespace LandP
open BytesW PackW PlaceW ChunkW

theorem below_gr {w w' : World} (h : Below w.heap.size w w') (r : Option Nat) : w.grownBy w' r := ⟨h.os, h.tape, h.output, h.size, fun k hk _ => h.block k hk⟩
theorem Chk.drew {w : World} {p : Nat} {C L : List Cell} {v : Value} (h : Chk w p C L v) : Chk w.drew p C L v := h
set_option maxRecDepth 100000 in
theorem land_k {w : World} {p : Nat} {y : Int} (h : Chk w p (landC y) (landL y) (.slice none 0 0)) : ChkK w p (landK y) := ⟨none, 0, h, PairC.nil, Nat.zero_le _, by simp [maxLen], Nat.zero_le _⟩
/-- The box b holds the spot. -/
def Spot3 (w : World) (b : Nat) (x y z : Int) : Prop := (w.cell? ⟨b, 0, none⟩ = some (.int .i64 x) ∧ w.cell? ⟨b, 1, none⟩ = some (.int .i64 y) ∧ w.cell? ⟨b, 2, none⟩ = some (.int .i64 z)) ∧ b < w.heap.size
theorem Spot3.below {w w' : World} {b : Nat} {x y z : Int} (h : Spot3 w b x y z) (hb : Below w.heap.size w w') : Spot3 w' b x y z :=
  ⟨⟨(hb.cell (p := ⟨b, 0, none⟩) h.2).trans h.1.1, (hb.cell (p := ⟨b, 1, none⟩) h.2).trans h.1.2.1, (hb.cell (p := ⟨b, 2, none⟩) h.2).trans h.1.2.2⟩, Nat.lt_of_lt_of_le h.2 hb.size⟩
theorem Spot3.grown {w w' : World} {b p : Nat} {x y z : Int} (h : Spot3 w b x y z) (hne : b ≠ p) (hg : w.grownBy w' (some p)) : Spot3 w' b x y z :=
  ⟨⟨cellG h.1.1 h.2 hne hg, cellG h.1.2.1 h.2 hne hg, cellG h.1.2.2 h.2 hne hg⟩, Nat.lt_of_lt_of_le h.2 hg.size⟩
theorem grown_below {w w1 w2 : World} {p : Nat} (hb : Below w.heap.size w w1) (hg : w1.grownBy w2 (some p)) (hp : w.heap.size ≤ p) : Below w.heap.size w w2 :=
  hb.trans ⟨hg.os, hg.tape, hg.output, hg.size, fun k hk => hg.block k (Nat.lt_of_lt_of_le hk hb.size) (fun e => by injection e with e; omega)⟩
theorem of_spot {x y z : Int} (hs : spotB x y z = true) {j : Nat} (hj : j < 4096) : ∃ X Z : Int, ofOf x y z j = (X, yOf y j, Z, true) ∧ mayB X (yOf y j) Z = true := by
  obtain ⟨h1, h2, h3, h4, h5, h6⟩ := spotB_true hs
  have hi : inB (j : Int) 0 4096 = true := inB_mk (by omega) (by omega)
  refine ⟨16 * x + (j : Int) % 16, 16 * z + (j : Int) / 16 % 16, ?_, ?_⟩
  · rw [ofOf, if_pos (by rw [ofB, hs, hi]; rfl)]
    rfl
  · unfold mayB yOf
    rw [inB_mk (by omega) (by omega), inB_mk (by omega) (by omega), inB_mk (by omega) (by omega)]
    rfl
theorem name4 {w w4 W : World} {n b p : Nat} {X Y Z x y z : Int} {C L : List Cell} {v : Value} (q5 : Below w4.heap.size w4 W) (h1 : Spot3 W n X Y Z) (h2 : Spot3 w4 b x y z) (h3 : Chk w4 p C L v) (h4 : Below w.heap.size w w4) : Spot3 W n X Y Z ∧ Spot3 W b x y z ∧ Chk W p C L v ∧ Below w.heap.size w W := ⟨h1, h2.below q5, h3.below q5, below_t h4 q5⟩
def LandRel (w : World) (b p : Nat) (x y z : Int) (v : Value) (wr : World) : Prop := ∃ j : Nat, v = .int .i64 j ∧ j ≤ 4096 ∧ Chk wr p (fillU (landC y) j) (fillU (landL y) j) (.slice none 0 0) ∧ Spot3 wr b x y z ∧ Below w.heap.size w wr
/-- What Chunk answers. -/
def ChunkP (w : World) (y : Int) (e : Ending) (w' : World) : Prop := ∃ p, e = .returned (.tuple #[.pointer (some ⟨p, 0, none⟩), .bool true]) ∧ ChkK w' p (landK y) ∧ w.heap.size ≤ p ∧ Below w.heap.size w w'
set_option maxRecDepth 100000 in
theorem chunk_no {w : World} {x y z : Int} (hs : spotB x y z = false) :
    Calls Tryd.prog 15 #[.agg #[.int .i64 x, .int .i64 y, .int .i64 z]] w fun e w' => e = .returned (.tuple #[.pointer none, .bool false]) ∧ Below w.heap.size w w' := by
  have H := Lib.hid hs
  clear hs
  go_enter Tryd.func15, Tryd.ntmps15
  go_wp2_with (go_at_call 20; refine (maySpot_b H.out _).mono ?_; rintro e w1 ⟨rfl, hb⟩)
  go_ret2
  refine ⟨rfl, ?_⟩
  (repeat' (first | (with_reducible exact Below.refl _ _) | (with_reducible refine Below.setCell ?_ (by (first | omega | (simp; done) | (simp; omega))) _) | (with_reducible refine Below.alloc ?_ (by (first | omega | (simp; done) | (simp; omega))) _) | (with_reducible refine Below.drew ?_) | (with_reducible refine below_drewN ?_ _) | (with_reducible refine Below.trans ?_ (Below.mono hb (by (first | omega | (simp; done) | (simp; omega)))))))
set_option maxRecDepth 100000 in
theorem r_chunk_no {w : World} {x y z : Int} (hs : spotB x y z = false) :
    Calls Tryd.prog 16 #[.agg #[.int .i64 x, .int .i64 y, .int .i64 z]] w fun e w' => e = .returned (.tuple #[.pointer none, .bool false]) ∧ Below w.heap.size w w' := by
  have H := Lib.hid hs
  clear hs
  go_enter Tryd.func16, Tryd.ntmps16
  go_wp2_with (go_at_call 33; refine (r_maySpot_b H.out _).mono ?_; rintro e w1 ⟨rfl, hb⟩)
  go_ret2
  refine ⟨rfl, ?_⟩
  (repeat' (first | (with_reducible exact Below.refl _ _) | (with_reducible refine Below.setCell ?_ (by (first | omega | (simp; done) | (simp; omega))) _) | (with_reducible refine Below.alloc ?_ (by (first | omega | (simp; done) | (simp; omega))) _) | (with_reducible refine Below.drew ?_) | (with_reducible refine below_drewN ?_ _) | (with_reducible refine Below.trans ?_ (Below.mono hb (by (first | omega | (simp; done) | (simp; omega)))))))

set_option maxRecDepth 100000 in
set_option maxHeartbeats 8000000 in
theorem chunk_c {w : World} {x y z : Int} (hT : LTab w) (hs : spotB x y z = true) :
    Calls Tryd.prog 15 #[.agg #[.int .i64 x, .int .i64 y, .int .i64 z]] w (ChunkP w y) := by
  have HT := Lib.hid hT
  have HS := Lib.hid hs
  have hg := hT.size
  obtain ⟨b, hb⟩ : ∃ b, b = w.heap.size := ⟨_, rfl⟩
  have HBB := Lib.hid hb
  clear hT hs
  go_enter Tryd.func15, Tryd.ntmps15
  go_wp2_with fail
  go_at_call 20
  refine (maySpot_b HS.out _).mono ?_
  rintro e w1 ⟨rfl, hb1⟩
  have s1 := hb1.size
  have HB1 := Lib.hid (show Below w.heap.size w w1 by (repeat' (first | (with_reducible exact Below.refl _ _) | (with_reducible refine Below.setCell ?_ (by (first | omega | (simp; done) | (simp; omega))) _) | (with_reducible refine Below.alloc ?_ (by (first | omega | (simp; done) | (simp; omega))) _) | (with_reducible refine Below.drew ?_) | (with_reducible refine below_drewN ?_ _) | (with_reducible refine Below.trans ?_ (Below.mono hb1 (by (first | omega | (simp; done) | (simp; omega))))))))
  have HS1 : Hid (Spot3 w1 b x y z) := Lib.hid ((show Spot3 (w.alloc _) b x y z by rw [hb]; exact ⟨⟨by (repeat' (first | (with_reducible assumption) | (with_reducible refine HeldP.c_drew ?_) | (with_reducible refine HeldP.c_drewN ?_) | (with_reducible refine HeldP.c_same (by omega) ?_) | (with_reducible refine HeldP.c_other ?_ ?_) | (with_reducible refine HeldP.c_new (by first | omega | (simp; done) | (simp; omega)) ?_) | (with_reducible refine HeldP.c_alloc ?_ ?_) | (with_reducible refine HeldP.e_drew ?_) | (with_reducible refine HeldP.e_drewN ?_) | (with_reducible refine HeldP.e_set ?_) | (with_reducible refine HeldP.e_new (by first | omega | (simp; done) | (simp; omega)) ⟨_, rfl⟩) | (with_reducible refine HeldP.e_alloc ?_ ?_) | (with_reducible refine HeldP.f_drew ?_) | (with_reducible refine HeldP.f_drewN ?_) | (with_reducible refine HeldP.f_set ?_) | (with_reducible refine HeldP.f_new (by first | omega | (simp; done) | (simp; omega))) | (with_reducible refine HeldP.f_alloc ?_ ?_) | (with_reducible refine HeldP.s_drew ?_) | (with_reducible refine HeldP.s_drewN ?_) | (with_reducible refine HeldP.s_set ?_) | (with_reducible refine HeldP.s_new (by first | omega | (simp; done) | (simp; omega))) | (with_reducible refine HeldP.s_alloc ?_) | (with_reducible exact ⟨_, by assumption⟩) | omega | (intro e; simp at e; done) | (intro e; simp at e; omega) | (exact rfl) | (simp; done) | (simp; omega))), by (repeat' (first | (with_reducible assumption) | (with_reducible refine HeldP.c_drew ?_) | (with_reducible refine HeldP.c_drewN ?_) | (with_reducible refine HeldP.c_same (by omega) ?_) | (with_reducible refine HeldP.c_other ?_ ?_) | (with_reducible refine HeldP.c_new (by first | omega | (simp; done) | (simp; omega)) ?_) | (with_reducible refine HeldP.c_alloc ?_ ?_) | (with_reducible refine HeldP.e_drew ?_) | (with_reducible refine HeldP.e_drewN ?_) | (with_reducible refine HeldP.e_set ?_) | (with_reducible refine HeldP.e_new (by first | omega | (simp; done) | (simp; omega)) ⟨_, rfl⟩) | (with_reducible refine HeldP.e_alloc ?_ ?_) | (with_reducible refine HeldP.f_drew ?_) | (with_reducible refine HeldP.f_drewN ?_) | (with_reducible refine HeldP.f_set ?_) | (with_reducible refine HeldP.f_new (by first | omega | (simp; done) | (simp; omega))) | (with_reducible refine HeldP.f_alloc ?_ ?_) | (with_reducible refine HeldP.s_drew ?_) | (with_reducible refine HeldP.s_drewN ?_) | (with_reducible refine HeldP.s_set ?_) | (with_reducible refine HeldP.s_new (by first | omega | (simp; done) | (simp; omega))) | (with_reducible refine HeldP.s_alloc ?_) | (with_reducible exact ⟨_, by assumption⟩) | omega | (intro e; simp at e; done) | (intro e; simp at e; omega) | (exact rfl) | (simp; done) | (simp; omega))), by (repeat' (first | (with_reducible assumption) | (with_reducible refine HeldP.c_drew ?_) | (with_reducible refine HeldP.c_drewN ?_) | (with_reducible refine HeldP.c_same (by omega) ?_) | (with_reducible refine HeldP.c_other ?_ ?_) | (with_reducible refine HeldP.c_new (by first | omega | (simp; done) | (simp; omega)) ?_) | (with_reducible refine HeldP.c_alloc ?_ ?_) | (with_reducible refine HeldP.e_drew ?_) | (with_reducible refine HeldP.e_drewN ?_) | (with_reducible refine HeldP.e_set ?_) | (with_reducible refine HeldP.e_new (by first | omega | (simp; done) | (simp; omega)) ⟨_, rfl⟩) | (with_reducible refine HeldP.e_alloc ?_ ?_) | (with_reducible refine HeldP.f_drew ?_) | (with_reducible refine HeldP.f_drewN ?_) | (with_reducible refine HeldP.f_set ?_) | (with_reducible refine HeldP.f_new (by first | omega | (simp; done) | (simp; omega))) | (with_reducible refine HeldP.f_alloc ?_ ?_) | (with_reducible refine HeldP.s_drew ?_) | (with_reducible refine HeldP.s_drewN ?_) | (with_reducible refine HeldP.s_set ?_) | (with_reducible refine HeldP.s_new (by first | omega | (simp; done) | (simp; omega))) | (with_reducible refine HeldP.s_alloc ?_) | (with_reducible exact ⟨_, by assumption⟩) | omega | (intro e; simp at e; done) | (intro e; simp at e; omega) | (exact rfl) | (simp; done) | (simp; omega)))⟩, by simp⟩).below hb1)
  clear hb1
  go_wp2_with fail
  go_at_call 22
  refine (new_c).mono ?_
  rintro e w2 ⟨rfl, hk2, hz2, hb2⟩
  obtain ⟨p, hp⟩ : ∃ p, p = w1.heap.size := ⟨_, rfl⟩
  rw [← hp] at hk2
  simp only [← hp]
  have HP := Lib.hid hp
  have HS2 := Lib.hid (HS1.out.below hb2)
  have HB2 := Lib.hid (below_t HB1.out hb2)
  have hpw : w.heap.size ≤ p := by have := HB1.out.size; omega
  have hbp : b ≠ p := by have := HS1.out.2; omega
  have hpg : p ≠ 0 := by omega
  have HK2 := Lib.hid hk2
  clear hk2 hb2 hp hb s1 hz2
  rw [← HBB.out]
  go_wp2_with fail
  go_loopw [12] (LandRel w b p x y z) (fun v _ => 4096 - (intOf v).toNat)
  case atStart => exact ⟨0, rfl, by omega, by rw [fillU_zero, fillU_zero]; exact HK2.out, HS2.out, HB2.out⟩
  case round =>
    obtain ⟨j, rfl, hj, hk, hsp, hbel⟩ := hrel
    have HK := Lib.hid hk
    have HBW := Lib.hid hbel
    have hz := hbel.size
    clear hk hbel
    have hxr := of_spot HS.out (j := j)
    by_cases hlt : j < 4096
    · obtain ⟨X, Z, hof, hmay⟩ := hxr hlt
      have hI1 : (j : Int) < 4096 := by omega
      have hI0 : (0 : Int) ≤ j := by omega
      obtain ⟨Y, hY⟩ : ∃ Y, yOf y j = Y := ⟨_, rfl⟩
      obtain ⟨⟨c1, c2⟩, hcc⟩ : ∃ c, cellY Y = c := ⟨_, rfl⟩
      obtain ⟨⟨l1, l2⟩, hll⟩ : ∃ c, lightY Y = c := ⟨_, rfl⟩
      rw [hY] at hof hmay
      have HOF := Lib.hid hof
      have hy0 : 0 ≤ Y := (mayB_true hmay).2.2.1
      obtain ⟨X1, hX1⟩ : ∃ X : Int, X = (c1.toNat : Int) := ⟨_, rfl⟩
      obtain ⟨X2, hX2⟩ : ∃ X : Int, X = (c2.toNat : Int) := ⟨_, rfl⟩
      obtain ⟨X3, hX3⟩ : ∃ X : Int, X = (l1.toNat : Int) := ⟨_, rfl⟩
      obtain ⟨X4, hX4⟩ : ∃ X : Int, X = (l2.toNat : Int) := ⟨_, rfl⟩
      have HX : Hid (cval (c1, c2) = .agg #[.int .u8 X1, .int .u8 X2] ∧ cval (l1, l2) = .agg #[.int .u8 X3, .int .u8 X4] ∧ bv c1 = .int .u8 X1 ∧ bv c2 = .int .u8 X2 ∧ bv l1 = .int .u8 X3 ∧ bv l2 = .int .u8 X4) := Lib.hid (by rw [hX1, hX2, hX3, hX4]; exact ⟨rfl, rfl, rfl, rfl, rfl, rfl⟩)
      have HC' : Hid ((landC y)[j]? = some (c1, c2) ∧ (landL y)[j]? = some (l1, l2)) := Lib.hid (by rw [landC_get hlt, landL_get hlt, hY, hcc, hll]; exact ⟨rfl, rfl⟩)
      have HCELL : Hid (∀ W : World, LTab W → Calls Tryd.prog 10 #[.agg #[.int .i64 X, .int .i64 Y, .int .i64 Z]] W fun e w' => e = .returned (.agg #[.int .u8 X1, .int .u8 X2]) ∧ Below W.heap.size W w') := Lib.hid (fun W hW => by rw [← HX.out.1]; exact cell_c hW (by rw [cellA, if_pos hmay]; exact hcc))
      have HLIGHT : Hid (∀ W : World, Calls Tryd.prog 12 #[.agg #[.int .i64 X, .int .i64 Y, .int .i64 Z]] W fun e w' => e = .returned (.agg #[.int .u8 X3, .int .u8 X4]) ∧ Below W.heap.size W w') := Lib.hid (fun W => by rw [← HX.out.2.1]; exact light_c (by rw [lightA, if_pos hmay]; exact hll))
      obtain ⟨yy, hy⟩ : ∃ q, (fillU (landC y) j)[j]? = some q := ⟨_, List.getElem?_eq_getElem (by rw [fillU_len (landC_len y) hj]; exact hlt)⟩
      obtain ⟨zz, hz2⟩ : ∃ q, (fillU (landL y) j)[j]? = some q := ⟨_, List.getElem?_eq_getElem (by rw [fillU_len (landL_len y) hj]; exact hlt)⟩
      have HCL := Lib.hid (fillU_len (landC_len y) hj)
      obtain ⟨⟨b0, b1, b2⟩, bl⟩ := hsp
      have HSP : Hid (Spot3 wr b x y z) := Lib.hid ⟨⟨b0, b1, b2⟩, bl⟩
      clear hxr hof hmay hY hcc hll hX1 hX2 hX3 hX4
      go_wp2_with fail
      go_at_call 24
      refine (PlaceW.of_c HOF.out _).mono ?_
      rintro e w4 ⟨rfl, hb4⟩
      have HB4 := Lib.hid hb4
      have s4 := hb4.size
      clear hb4
      go_wp2_with fail
      refine HeldP.wp_named (fun W => Spot3 W w4.heap.size X Y Z ∧ Spot3 W b x y z ∧ Chk W p (fillU (landC y) j) (fillU (landL y) j) (.slice none 0 0) ∧ Below w.heap.size w W) ?_ ?_
      · have q0 := HB4.out
        have q1 := HK.out.below q0
        have q2 := HSP.out.below q0
        have q3 := q1.lt
        have q4 := q2.2
        refine name4 (by (repeat' (first | (with_reducible exact Below.refl _ _) | (with_reducible refine Below.setCell ?_ (by (first | omega | (simp; done) | (simp; omega))) _) | (with_reducible refine Below.alloc ?_ (by (first | omega | (simp; done) | (simp; omega))) _) | (with_reducible refine Below.drew ?_) | (with_reducible refine below_drewN ?_ _)))) ⟨⟨by (repeat' (first | (with_reducible assumption) | (with_reducible refine HeldP.c_drew ?_) | (with_reducible refine HeldP.c_drewN ?_) | (with_reducible refine HeldP.c_same (by omega) ?_) | (with_reducible refine HeldP.c_other ?_ ?_) | (with_reducible refine HeldP.c_new (by first | omega | (simp; done) | (simp; omega)) ?_) | (with_reducible refine HeldP.c_alloc ?_ ?_) | (with_reducible refine HeldP.e_drew ?_) | (with_reducible refine HeldP.e_drewN ?_) | (with_reducible refine HeldP.e_set ?_) | (with_reducible refine HeldP.e_new (by first | omega | (simp; done) | (simp; omega)) ⟨_, rfl⟩) | (with_reducible refine HeldP.e_alloc ?_ ?_) | (with_reducible refine HeldP.f_drew ?_) | (with_reducible refine HeldP.f_drewN ?_) | (with_reducible refine HeldP.f_set ?_) | (with_reducible refine HeldP.f_new (by first | omega | (simp; done) | (simp; omega))) | (with_reducible refine HeldP.f_alloc ?_ ?_) | (with_reducible refine HeldP.s_drew ?_) | (with_reducible refine HeldP.s_drewN ?_) | (with_reducible refine HeldP.s_set ?_) | (with_reducible refine HeldP.s_new (by first | omega | (simp; done) | (simp; omega))) | (with_reducible refine HeldP.s_alloc ?_) | (with_reducible exact ⟨_, by assumption⟩) | omega | (intro e; simp at e; done) | (intro e; simp at e; omega) | (exact rfl) | (simp; done) | (simp; omega))), by (repeat' (first | (with_reducible assumption) | (with_reducible refine HeldP.c_drew ?_) | (with_reducible refine HeldP.c_drewN ?_) | (with_reducible refine HeldP.c_same (by omega) ?_) | (with_reducible refine HeldP.c_other ?_ ?_) | (with_reducible refine HeldP.c_new (by first | omega | (simp; done) | (simp; omega)) ?_) | (with_reducible refine HeldP.c_alloc ?_ ?_) | (with_reducible refine HeldP.e_drew ?_) | (with_reducible refine HeldP.e_drewN ?_) | (with_reducible refine HeldP.e_set ?_) | (with_reducible refine HeldP.e_new (by first | omega | (simp; done) | (simp; omega)) ⟨_, rfl⟩) | (with_reducible refine HeldP.e_alloc ?_ ?_) | (with_reducible refine HeldP.f_drew ?_) | (with_reducible refine HeldP.f_drewN ?_) | (with_reducible refine HeldP.f_set ?_) | (with_reducible refine HeldP.f_new (by first | omega | (simp; done) | (simp; omega))) | (with_reducible refine HeldP.f_alloc ?_ ?_) | (with_reducible refine HeldP.s_drew ?_) | (with_reducible refine HeldP.s_drewN ?_) | (with_reducible refine HeldP.s_set ?_) | (with_reducible refine HeldP.s_new (by first | omega | (simp; done) | (simp; omega))) | (with_reducible refine HeldP.s_alloc ?_) | (with_reducible exact ⟨_, by assumption⟩) | omega | (intro e; simp at e; done) | (intro e; simp at e; omega) | (exact rfl) | (simp; done) | (simp; omega))), by (repeat' (first | (with_reducible assumption) | (with_reducible refine HeldP.c_drew ?_) | (with_reducible refine HeldP.c_drewN ?_) | (with_reducible refine HeldP.c_same (by omega) ?_) | (with_reducible refine HeldP.c_other ?_ ?_) | (with_reducible refine HeldP.c_new (by first | omega | (simp; done) | (simp; omega)) ?_) | (with_reducible refine HeldP.c_alloc ?_ ?_) | (with_reducible refine HeldP.e_drew ?_) | (with_reducible refine HeldP.e_drewN ?_) | (with_reducible refine HeldP.e_set ?_) | (with_reducible refine HeldP.e_new (by first | omega | (simp; done) | (simp; omega)) ⟨_, rfl⟩) | (with_reducible refine HeldP.e_alloc ?_ ?_) | (with_reducible refine HeldP.f_drew ?_) | (with_reducible refine HeldP.f_drewN ?_) | (with_reducible refine HeldP.f_set ?_) | (with_reducible refine HeldP.f_new (by first | omega | (simp; done) | (simp; omega))) | (with_reducible refine HeldP.f_alloc ?_ ?_) | (with_reducible refine HeldP.s_drew ?_) | (with_reducible refine HeldP.s_drewN ?_) | (with_reducible refine HeldP.s_set ?_) | (with_reducible refine HeldP.s_new (by first | omega | (simp; done) | (simp; omega))) | (with_reducible refine HeldP.s_alloc ?_) | (with_reducible exact ⟨_, by assumption⟩) | omega | (intro e; simp at e; done) | (intro e; simp at e; omega) | (exact rfl) | (simp; done) | (simp; omega)))⟩, by (repeat' (first | (with_reducible assumption) | (with_reducible refine HeldP.c_drew ?_) | (with_reducible refine HeldP.c_drewN ?_) | (with_reducible refine HeldP.c_same (by omega) ?_) | (with_reducible refine HeldP.c_other ?_ ?_) | (with_reducible refine HeldP.c_new (by first | omega | (simp; done) | (simp; omega)) ?_) | (with_reducible refine HeldP.c_alloc ?_ ?_) | (with_reducible refine HeldP.e_drew ?_) | (with_reducible refine HeldP.e_drewN ?_) | (with_reducible refine HeldP.e_set ?_) | (with_reducible refine HeldP.e_new (by first | omega | (simp; done) | (simp; omega)) ⟨_, rfl⟩) | (with_reducible refine HeldP.e_alloc ?_ ?_) | (with_reducible refine HeldP.f_drew ?_) | (with_reducible refine HeldP.f_drewN ?_) | (with_reducible refine HeldP.f_set ?_) | (with_reducible refine HeldP.f_new (by first | omega | (simp; done) | (simp; omega))) | (with_reducible refine HeldP.f_alloc ?_ ?_) | (with_reducible refine HeldP.s_drew ?_) | (with_reducible refine HeldP.s_drewN ?_) | (with_reducible refine HeldP.s_set ?_) | (with_reducible refine HeldP.s_new (by first | omega | (simp; done) | (simp; omega))) | (with_reducible refine HeldP.s_alloc ?_) | (with_reducible exact ⟨_, by assumption⟩) | omega | (intro e; simp at e; done) | (intro e; simp at e; omega) | (exact rfl) | (simp; done) | (simp; omega)))⟩ q2 q1 (below_t HBW.out q0)
      rintro wn ⟨⟨⟨m0, m1, m2⟩, ml⟩, hspn, hkn, hbn⟩
      have mn : w4.heap.size ≠ p := by have := HK.out.lt; omega
      have HKn := Lib.hid hkn
      have HSn := Lib.hid hspn
      have HBn := Lib.hid hbn
      clear hspn hkn hbn
      have HLT : Hid (LTab wn) := Lib.hid (HT.out.below HBn.out)
      refine wp_region_noPanic ?_
      refine wp_region_held_drew (S := fun W => wn.grownBy W (some p)) (by kernel_rfl) (gdrew (World.grownBy.refl _ _)) (fun hHeld => ?_)
      refine wpAnyH_take (i := 0) (oi := ⟨some 21, _, _, _, _, _⟩) (v := .pointer (some ⟨p, 0, none⟩)) rfl (by kernel_rfl) (by kernel_rfl) (by kernel_rfl) (fun _ _ _ h => h) (Or.inl ⟨by rfl, fun W hSW => by go_simp⟩) hHeld ?_
      simp only [Act.put, List.setIfInBounds_toArray, List.set_cons_zero, List.set_cons_succ]
      refine wpAnyH_take (i := 1) (oi := ⟨some 22, _, _, _, _, _⟩) (v := .int .i64 (j : Int)) rfl (by kernel_rfl) (by kernel_rfl) (by kernel_rfl) (fun _ _ _ h => h) (Or.inl ⟨by rfl, fun W hSW => by go_simp⟩) hHeld ?_
      simp only [Act.put, List.setIfInBounds_toArray, List.set_cons_zero, List.set_cons_succ]
      refine wpAnyH_take (i := 2) (oi := ⟨some 23, _, _, _, _, _⟩) (v := .pointer (some ⟨p, 0, none⟩)) rfl (by kernel_rfl) (by kernel_rfl) (by kernel_rfl) (fun _ _ _ h => h) (Or.inl ⟨by rfl, fun W hSW => by go_simp⟩) hHeld ?_
      simp only [Act.put, List.setIfInBounds_toArray, List.set_cons_zero, List.set_cons_succ]
      refine wpAnyH_take (i := 3) (oi := ⟨some 24, _, _, _, _, _⟩) (v := .int .i64 (j : Int)) rfl (by kernel_rfl) (by kernel_rfl) (by kernel_rfl) (fun _ _ _ h => h) (Or.inl ⟨by rfl, fun W hSW => by go_simp⟩) hHeld ?_
      simp only [Act.put, List.setIfInBounds_toArray, List.set_cons_zero, List.set_cons_succ]
      refine wpAnyH_take (i := 4) (oi := ⟨some 25, _, _, _, _, _⟩) (v := .agg #[.int .i64 X, .int .i64 Y, .int .i64 Z]) rfl (by kernel_rfl) (by kernel_rfl) (by kernel_rfl) (fun _ _ _ h => h) (Or.inl ⟨by rfl, fun W hSW => by have a0 := cellG m0 ml mn hSW; have a1 := cellG m1 ml mn hSW; have a2 := cellG m2 ml mn hSW; go_simp⟩) hHeld ?_
      simp only [Act.put, List.setIfInBounds_toArray, List.set_cons_zero, List.set_cons_succ]
      refine wpAnyH_take (i := 6) (oi := ⟨some 27, _, _, _, _, _⟩) (v := .agg #[.int .i64 X, .int .i64 Y, .int .i64 Z]) rfl (by kernel_rfl) (by kernel_rfl) (by kernel_rfl) (fun _ _ _ h => h) (Or.inl ⟨by rfl, fun W hSW => by have a0 := cellG m0 ml mn hSW; have a1 := cellG m1 ml mn hSW; have a2 := cellG m2 ml mn hSW; go_simp⟩) hHeld ?_
      simp only [Act.put, List.setIfInBounds_toArray, List.set_cons_zero, List.set_cons_succ]
      refine wpAnyH_take (i := 8) (oi := ⟨some 29, _, _, _, _, _⟩) (v := .pointer (some ⟨p, 0, none⟩)) rfl (by kernel_rfl) (by kernel_rfl) (by kernel_rfl) (fun _ _ _ h => h) (Or.inl ⟨by rfl, fun W hSW => by go_simp⟩) hHeld ?_
      simp only [Act.put, List.setIfInBounds_toArray, List.set_cons_zero, List.set_cons_succ]
      refine wpAnyH_take (i := 9) (oi := ⟨some 30, _, _, _, _, _⟩) (v := .pointer (some ⟨p, 0, none⟩)) rfl (by kernel_rfl) (by kernel_rfl) (by kernel_rfl) (fun _ _ _ h => h) (Or.inl ⟨by rfl, fun W hSW => by go_simp⟩) hHeld ?_
      simp only [Act.put, List.setIfInBounds_toArray, List.set_cons_zero, List.set_cons_succ]
      refine wpAnyH_take (i := 12) (oi := ⟨some 32, _, _, _, _, _⟩) (v := .pointer (some ⟨p, 0, none⟩)) rfl (by kernel_rfl) (by kernel_rfl) (by kernel_rfl) (fun _ _ _ h => h) (Or.inl ⟨by rfl, fun W hSW => by go_simp⟩) hHeld ?_
      simp only [Act.put, List.setIfInBounds_toArray, List.set_cons_zero, List.set_cons_succ]
      refine wpAnyH_take (i := 13) (oi := ⟨some 33, _, _, _, _, _⟩) (v := .pointer (some ⟨p, 8192, none⟩)) rfl (by kernel_rfl) (by kernel_rfl) (by kernel_rfl) (fun _ _ _ h => h) (Or.inl ⟨by rfl, fun W hSW => by go_simp⟩) hHeld ?_
      simp only [Act.put, List.setIfInBounds_toArray, List.set_cons_zero, List.set_cons_succ]
      refine wpAnyH_ready (rs := [5]) (by kernel_rfl) (by simp) ?_
      refine AllReadyH.cons (o := ⟨some 26, _, _, _, _, _⟩) rfl (fun K hK => ?_) AllReadyH.nil
      go_simp
      refine (HCELL.out _ (HLT.out.grown hpg hHeld)).mono ?_
      rintro e w8 ⟨rfl, hb8⟩
      go_wp2_with fail
      have HG8 := Lib.hid (World.grownBy.trans hHeld (below_gr hb8 (some p)))
      refine hK.out _ _ HG8.out (fun hHeld => ?_)
      clear hK K
      refine wpAnyH_ready (rs := [7]) (by kernel_rfl) (by simp) ?_
      refine AllReadyH.cons (o := ⟨some 28, _, _, _, _, _⟩) rfl (fun K hK => ?_) AllReadyH.nil
      go_simp
      refine (HLIGHT.out _).mono ?_
      rintro e w9 ⟨rfl, hb9⟩
      go_wp2_with fail
      have HG9 := Lib.hid (World.grownBy.trans hHeld (below_gr hb9 (some p)))
      refine hK.out _ _ HG9.out (fun hHeld => ?_)
      clear hK K
      have HK9 := Lib.hid (((HKn.out.drew).below hb8).below hb9)
      have g0 := (HK9.out.cell (j * 2)).trans (ckV_c HCL.out hy).1
      have g1 := (HK9.out.cell (j * 2 + 1)).trans (ckV_c HCL.out hy).2
      have f0 := HK9.out.frozen (j * 2)
      have f1 := HK9.out.frozen (j * 2 + 1)
      have g2 := (HK9.out.cell (8192 + j * 2)).trans (ckV_l HCL.out hz2).1
      have g3 := (HK9.out.cell (8192 + j * 2 + 1)).trans (ckV_l HCL.out hz2).2
      have f2 := HK9.out.frozen (8192 + j * 2)
      have f3 := HK9.out.frozen (8192 + j * 2 + 1)
      refine wpAnyH_ready (rs := [10]) (by kernel_rfl) (by simp) ?_
      refine AllReadyH.cons (o := ⟨some 31, _, _, _, _, _⟩) rfl (fun K hK => ?_) AllReadyH.nil
      go_simp
      refine hK.out _ _ hHeld (fun hHeld => ?_)
      clear hK K
      refine wpAnyH_ready (rs := [11]) (by kernel_rfl) (by simp) ?_
      refine AllReadyH.cons (o := ⟨none, _, _, _, _, _⟩) rfl (fun K hK => ?_) AllReadyH.nil
      go_simp
      refine hK.out _ _ ((World.grownBy.trans hHeld (grown_set _ p (j * 2) (.int .u8 X1))).trans (grown_set _ p (j * 2 + 1) (.int .u8 X2))) (fun hHeld => ?_)
      clear hK K
      refine wpAnyH_ready (rs := [14]) (by kernel_rfl) (by simp) ?_
      refine AllReadyH.cons (o := ⟨some 34, _, _, _, _, _⟩) rfl (fun K hK => ?_) AllReadyH.nil
      go_simp
      refine hK.out _ _ hHeld (fun hHeld => ?_)
      clear hK K
      refine wpAnyH_ready (rs := [15]) (by kernel_rfl) (by simp) ?_
      refine AllReadyH.cons (o := ⟨none, _, _, _, _, _⟩) rfl (fun K hK => ?_) AllReadyH.nil
      go_simp
      refine hK.out _ _ ((World.grownBy.trans hHeld (grown_set _ p (8192 + j * 2) (.int .u8 X3))).trans (grown_set _ p (8192 + j * 2 + 1) (.int .u8 X4))) (fun hHeld => ?_)
      clear hK K
      refine wpAnyH_done (by kernel_rfl) ?_ _
      refine NoPanic.normal ?_
      go_wp2_with fail
      go_roundw
      case rel =>
        have hfin := (HK9.out.setC hlt (c1, c2)).setL hlt (l1, l2)
        obtain ⟨_, _, e1, e2, e3, e4⟩ := HX.out
        rw [e1, e2, e3, e4, fillU_set HC'.out.1 (landC_len y), fillU_set HC'.out.2 (landL_len y)] at hfin
        exact ⟨j + 1, by go_num, by omega, hfin, HSn.out.grown hbp hHeld, grown_below HBn.out hHeld hpw⟩
      case measure => simp [intOf]; omega
    · have hI1 : ¬ (j : Int) < 4096 := by omega
      have e4 : j = 4096 := by omega
      subst e4
      have HFIN : Hid (Chk wr p (landC y) (landL y) (.slice none 0 0)) := Lib.hid (by
        have h := HK.out
        rw [fillU_all (landC_len y), fillU_all (landL_len y)] at h
        exact h)
      go_wp2_with fail
      go_ret2
      exact ⟨p, rfl, land_k HFIN.out, hpw, HBW.out⟩

set_option maxRecDepth 100000 in
set_option maxHeartbeats 8000000 in
theorem rchunk_c {w : World} {x y z : Int} (hs : spotB x y z = true) :
    Calls Tryd.prog 16 #[.agg #[.int .i64 x, .int .i64 y, .int .i64 z]] w (ChunkP w y) := by
  have HS := Lib.hid hs
  obtain ⟨b, hb⟩ : ∃ b, b = w.heap.size := ⟨_, rfl⟩
  have HBB := Lib.hid hb
  clear hs
  go_enter Tryd.func16, Tryd.ntmps16
  go_wp2_with fail
  go_at_call 33
  refine (r_maySpot_b HS.out _).mono ?_
  rintro e w1 ⟨rfl, hb1⟩
  have s1 := hb1.size
  have HB1 := Lib.hid (show Below w.heap.size w w1 by (repeat' (first | (with_reducible exact Below.refl _ _) | (with_reducible refine Below.setCell ?_ (by (first | omega | (simp; done) | (simp; omega))) _) | (with_reducible refine Below.alloc ?_ (by (first | omega | (simp; done) | (simp; omega))) _) | (with_reducible refine Below.drew ?_) | (with_reducible refine below_drewN ?_ _) | (with_reducible refine Below.trans ?_ (Below.mono hb1 (by (first | omega | (simp; done) | (simp; omega))))))))
  have HS1 : Hid (Spot3 w1 b x y z) := Lib.hid ((show Spot3 (w.alloc _) b x y z by rw [hb]; exact ⟨⟨by (repeat' (first | (with_reducible assumption) | (with_reducible refine HeldP.c_drew ?_) | (with_reducible refine HeldP.c_drewN ?_) | (with_reducible refine HeldP.c_same (by omega) ?_) | (with_reducible refine HeldP.c_other ?_ ?_) | (with_reducible refine HeldP.c_new (by first | omega | (simp; done) | (simp; omega)) ?_) | (with_reducible refine HeldP.c_alloc ?_ ?_) | (with_reducible refine HeldP.e_drew ?_) | (with_reducible refine HeldP.e_drewN ?_) | (with_reducible refine HeldP.e_set ?_) | (with_reducible refine HeldP.e_new (by first | omega | (simp; done) | (simp; omega)) ⟨_, rfl⟩) | (with_reducible refine HeldP.e_alloc ?_ ?_) | (with_reducible refine HeldP.f_drew ?_) | (with_reducible refine HeldP.f_drewN ?_) | (with_reducible refine HeldP.f_set ?_) | (with_reducible refine HeldP.f_new (by first | omega | (simp; done) | (simp; omega))) | (with_reducible refine HeldP.f_alloc ?_ ?_) | (with_reducible refine HeldP.s_drew ?_) | (with_reducible refine HeldP.s_drewN ?_) | (with_reducible refine HeldP.s_set ?_) | (with_reducible refine HeldP.s_new (by first | omega | (simp; done) | (simp; omega))) | (with_reducible refine HeldP.s_alloc ?_) | (with_reducible exact ⟨_, by assumption⟩) | omega | (intro e; simp at e; done) | (intro e; simp at e; omega) | (exact rfl) | (simp; done) | (simp; omega))), by (repeat' (first | (with_reducible assumption) | (with_reducible refine HeldP.c_drew ?_) | (with_reducible refine HeldP.c_drewN ?_) | (with_reducible refine HeldP.c_same (by omega) ?_) | (with_reducible refine HeldP.c_other ?_ ?_) | (with_reducible refine HeldP.c_new (by first | omega | (simp; done) | (simp; omega)) ?_) | (with_reducible refine HeldP.c_alloc ?_ ?_) | (with_reducible refine HeldP.e_drew ?_) | (with_reducible refine HeldP.e_drewN ?_) | (with_reducible refine HeldP.e_set ?_) | (with_reducible refine HeldP.e_new (by first | omega | (simp; done) | (simp; omega)) ⟨_, rfl⟩) | (with_reducible refine HeldP.e_alloc ?_ ?_) | (with_reducible refine HeldP.f_drew ?_) | (with_reducible refine HeldP.f_drewN ?_) | (with_reducible refine HeldP.f_set ?_) | (with_reducible refine HeldP.f_new (by first | omega | (simp; done) | (simp; omega))) | (with_reducible refine HeldP.f_alloc ?_ ?_) | (with_reducible refine HeldP.s_drew ?_) | (with_reducible refine HeldP.s_drewN ?_) | (with_reducible refine HeldP.s_set ?_) | (with_reducible refine HeldP.s_new (by first | omega | (simp; done) | (simp; omega))) | (with_reducible refine HeldP.s_alloc ?_) | (with_reducible exact ⟨_, by assumption⟩) | omega | (intro e; simp at e; done) | (intro e; simp at e; omega) | (exact rfl) | (simp; done) | (simp; omega))), by (repeat' (first | (with_reducible assumption) | (with_reducible refine HeldP.c_drew ?_) | (with_reducible refine HeldP.c_drewN ?_) | (with_reducible refine HeldP.c_same (by omega) ?_) | (with_reducible refine HeldP.c_other ?_ ?_) | (with_reducible refine HeldP.c_new (by first | omega | (simp; done) | (simp; omega)) ?_) | (with_reducible refine HeldP.c_alloc ?_ ?_) | (with_reducible refine HeldP.e_drew ?_) | (with_reducible refine HeldP.e_drewN ?_) | (with_reducible refine HeldP.e_set ?_) | (with_reducible refine HeldP.e_new (by first | omega | (simp; done) | (simp; omega)) ⟨_, rfl⟩) | (with_reducible refine HeldP.e_alloc ?_ ?_) | (with_reducible refine HeldP.f_drew ?_) | (with_reducible refine HeldP.f_drewN ?_) | (with_reducible refine HeldP.f_set ?_) | (with_reducible refine HeldP.f_new (by first | omega | (simp; done) | (simp; omega))) | (with_reducible refine HeldP.f_alloc ?_ ?_) | (with_reducible refine HeldP.s_drew ?_) | (with_reducible refine HeldP.s_drewN ?_) | (with_reducible refine HeldP.s_set ?_) | (with_reducible refine HeldP.s_new (by first | omega | (simp; done) | (simp; omega))) | (with_reducible refine HeldP.s_alloc ?_) | (with_reducible exact ⟨_, by assumption⟩) | omega | (intro e; simp at e; done) | (intro e; simp at e; omega) | (exact rfl) | (simp; done) | (simp; omega)))⟩, by simp⟩).below hb1)
  clear hb1
  obtain ⟨p, hp⟩ : ∃ p, p = w1.heap.size := ⟨_, rfl⟩
  have HP := Lib.hid hp
  go_wp2_with (first
    | ((with_reducible refine at_slot 11 ?_); refine PackW.wp_build rfl rfl ?_)
    | ((with_reducible refine at_slot 12 ?_); refine wp_box rfl (.tmp 11) rfl rfl ?_; intro w2 hk2 hb2 hz2; rw [← hp] at hk2; simp only [← HP.out]; clear hp))
  have HS2 := Lib.hid (HS1.out.below hb2)
  have HB2 := Lib.hid (below_t HB1.out hb2)
  have hpw : w.heap.size ≤ p := by have := HB1.out.size; have := HP.out; omega
  have hbp : b ≠ p := by have := HS1.out.2; have := HP.out; omega
  have HK2 := Lib.hid hk2
  clear hk2 hb2 hb s1 hz2
  rw [← HBB.out]
  go_loopw [5] (LandRel w b p x y z) (fun v _ => 4096 - (intOf v).toNat)
  case atStart => exact ⟨0, rfl, by omega, by rw [fillU_zero, fillU_zero]; exact HK2.out, HS2.out, HB2.out⟩
  case round =>
    obtain ⟨j, rfl, hj, hk, hsp, hbel⟩ := hrel
    have HK := Lib.hid hk
    have HBW := Lib.hid hbel
    have hz := hbel.size
    clear hk hbel
    have hxr := of_spot HS.out (j := j)
    by_cases hlt : j < 4096
    · obtain ⟨X, Z, hof, hmay⟩ := hxr hlt
      have hI1 : (j : Int) < 4096 := by omega
      have hI0 : (0 : Int) ≤ j := by omega
      obtain ⟨Y, hY⟩ : ∃ Y, yOf y j = Y := ⟨_, rfl⟩
      obtain ⟨⟨c1, c2⟩, hcc⟩ : ∃ c, cellY Y = c := ⟨_, rfl⟩
      obtain ⟨⟨l1, l2⟩, hll⟩ : ∃ c, lightY Y = c := ⟨_, rfl⟩
      rw [hY] at hof hmay
      have HOF := Lib.hid hof
      have hy0 : 0 ≤ Y := (mayB_true hmay).2.2.1
      obtain ⟨X1, hX1⟩ : ∃ X : Int, X = (c1.toNat : Int) := ⟨_, rfl⟩
      obtain ⟨X2, hX2⟩ : ∃ X : Int, X = (c2.toNat : Int) := ⟨_, rfl⟩
      obtain ⟨X3, hX3⟩ : ∃ X : Int, X = (l1.toNat : Int) := ⟨_, rfl⟩
      obtain ⟨X4, hX4⟩ : ∃ X : Int, X = (l2.toNat : Int) := ⟨_, rfl⟩
      have HX : Hid (cval (c1, c2) = .agg #[.int .u8 X1, .int .u8 X2] ∧ cval (l1, l2) = .agg #[.int .u8 X3, .int .u8 X4] ∧ bv c1 = .int .u8 X1 ∧ bv c2 = .int .u8 X2 ∧ bv l1 = .int .u8 X3 ∧ bv l2 = .int .u8 X4) := Lib.hid (by rw [hX1, hX2, hX3, hX4]; exact ⟨rfl, rfl, rfl, rfl, rfl, rfl⟩)
      have HC' : Hid ((landC y)[j]? = some (c1, c2) ∧ (landL y)[j]? = some (l1, l2)) := Lib.hid (by rw [landC_get hlt, landL_get hlt, hY, hcc, hll]; exact ⟨rfl, rfl⟩)
      have HAT : Hid (∀ W : World, Calls Tryd.prog 31 #[.int .i64 Y] W fun e w' => e = .returned (.agg #[.int .u8 X1, .int .u8 X2]) ∧ Below W.heap.size W w') := Lib.hid (fun W => by rw [← HX.out.1]; exact at_c hy0 hcc W)
      have HLIT : Hid (∀ W : World, Calls Tryd.prog 32 #[.int .i64 Y] W fun e w' => e = .returned (.agg #[.int .u8 X3, .int .u8 X4]) ∧ Below W.heap.size W w') := Lib.hid (fun W => by rw [← HX.out.2.1]; exact lit_c hll W)
      obtain ⟨yy, hy⟩ : ∃ q, (fillU (landC y) j)[j]? = some q := ⟨_, List.getElem?_eq_getElem (by rw [fillU_len (landC_len y) hj]; exact hlt)⟩
      obtain ⟨zz, hz2⟩ : ∃ q, (fillU (landL y) j)[j]? = some q := ⟨_, List.getElem?_eq_getElem (by rw [fillU_len (landL_len y) hj]; exact hlt)⟩
      have HCL := Lib.hid (fillU_len (landC_len y) hj)
      obtain ⟨⟨b0, b1, b2⟩, bl⟩ := hsp
      have HSP : Hid (Spot3 wr b x y z) := Lib.hid ⟨⟨b0, b1, b2⟩, bl⟩
      clear hxr hof hmay hY hcc hll hX1 hX2 hX3 hX4
      go_wp2_with fail
      go_at_call 34
      refine (r_of_c HOF.out _).mono ?_
      rintro e w4 ⟨rfl, hb4⟩
      have HB4 := Lib.hid hb4
      have s4 := hb4.size
      clear hb4
      go_wp2_with fail
      refine HeldP.wp_named (fun W => Spot3 W w4.heap.size X Y Z ∧ Spot3 W b x y z ∧ Chk W p (fillU (landC y) j) (fillU (landL y) j) (.slice none 0 0) ∧ Below w.heap.size w W) ?_ ?_
      · have q0 := HB4.out
        have q1 := HK.out.below q0
        have q2 := HSP.out.below q0
        have q3 := q1.lt
        have q4 := q2.2
        refine name4 (by (repeat' (first | (with_reducible exact Below.refl _ _) | (with_reducible refine Below.setCell ?_ (by (first | omega | (simp; done) | (simp; omega))) _) | (with_reducible refine Below.alloc ?_ (by (first | omega | (simp; done) | (simp; omega))) _) | (with_reducible refine Below.drew ?_) | (with_reducible refine below_drewN ?_ _)))) ⟨⟨by (repeat' (first | (with_reducible assumption) | (with_reducible refine HeldP.c_drew ?_) | (with_reducible refine HeldP.c_drewN ?_) | (with_reducible refine HeldP.c_same (by omega) ?_) | (with_reducible refine HeldP.c_other ?_ ?_) | (with_reducible refine HeldP.c_new (by first | omega | (simp; done) | (simp; omega)) ?_) | (with_reducible refine HeldP.c_alloc ?_ ?_) | (with_reducible refine HeldP.e_drew ?_) | (with_reducible refine HeldP.e_drewN ?_) | (with_reducible refine HeldP.e_set ?_) | (with_reducible refine HeldP.e_new (by first | omega | (simp; done) | (simp; omega)) ⟨_, rfl⟩) | (with_reducible refine HeldP.e_alloc ?_ ?_) | (with_reducible refine HeldP.f_drew ?_) | (with_reducible refine HeldP.f_drewN ?_) | (with_reducible refine HeldP.f_set ?_) | (with_reducible refine HeldP.f_new (by first | omega | (simp; done) | (simp; omega))) | (with_reducible refine HeldP.f_alloc ?_ ?_) | (with_reducible refine HeldP.s_drew ?_) | (with_reducible refine HeldP.s_drewN ?_) | (with_reducible refine HeldP.s_set ?_) | (with_reducible refine HeldP.s_new (by first | omega | (simp; done) | (simp; omega))) | (with_reducible refine HeldP.s_alloc ?_) | (with_reducible exact ⟨_, by assumption⟩) | omega | (intro e; simp at e; done) | (intro e; simp at e; omega) | (exact rfl) | (simp; done) | (simp; omega))), by (repeat' (first | (with_reducible assumption) | (with_reducible refine HeldP.c_drew ?_) | (with_reducible refine HeldP.c_drewN ?_) | (with_reducible refine HeldP.c_same (by omega) ?_) | (with_reducible refine HeldP.c_other ?_ ?_) | (with_reducible refine HeldP.c_new (by first | omega | (simp; done) | (simp; omega)) ?_) | (with_reducible refine HeldP.c_alloc ?_ ?_) | (with_reducible refine HeldP.e_drew ?_) | (with_reducible refine HeldP.e_drewN ?_) | (with_reducible refine HeldP.e_set ?_) | (with_reducible refine HeldP.e_new (by first | omega | (simp; done) | (simp; omega)) ⟨_, rfl⟩) | (with_reducible refine HeldP.e_alloc ?_ ?_) | (with_reducible refine HeldP.f_drew ?_) | (with_reducible refine HeldP.f_drewN ?_) | (with_reducible refine HeldP.f_set ?_) | (with_reducible refine HeldP.f_new (by first | omega | (simp; done) | (simp; omega))) | (with_reducible refine HeldP.f_alloc ?_ ?_) | (with_reducible refine HeldP.s_drew ?_) | (with_reducible refine HeldP.s_drewN ?_) | (with_reducible refine HeldP.s_set ?_) | (with_reducible refine HeldP.s_new (by first | omega | (simp; done) | (simp; omega))) | (with_reducible refine HeldP.s_alloc ?_) | (with_reducible exact ⟨_, by assumption⟩) | omega | (intro e; simp at e; done) | (intro e; simp at e; omega) | (exact rfl) | (simp; done) | (simp; omega))), by (repeat' (first | (with_reducible assumption) | (with_reducible refine HeldP.c_drew ?_) | (with_reducible refine HeldP.c_drewN ?_) | (with_reducible refine HeldP.c_same (by omega) ?_) | (with_reducible refine HeldP.c_other ?_ ?_) | (with_reducible refine HeldP.c_new (by first | omega | (simp; done) | (simp; omega)) ?_) | (with_reducible refine HeldP.c_alloc ?_ ?_) | (with_reducible refine HeldP.e_drew ?_) | (with_reducible refine HeldP.e_drewN ?_) | (with_reducible refine HeldP.e_set ?_) | (with_reducible refine HeldP.e_new (by first | omega | (simp; done) | (simp; omega)) ⟨_, rfl⟩) | (with_reducible refine HeldP.e_alloc ?_ ?_) | (with_reducible refine HeldP.f_drew ?_) | (with_reducible refine HeldP.f_drewN ?_) | (with_reducible refine HeldP.f_set ?_) | (with_reducible refine HeldP.f_new (by first | omega | (simp; done) | (simp; omega))) | (with_reducible refine HeldP.f_alloc ?_ ?_) | (with_reducible refine HeldP.s_drew ?_) | (with_reducible refine HeldP.s_drewN ?_) | (with_reducible refine HeldP.s_set ?_) | (with_reducible refine HeldP.s_new (by first | omega | (simp; done) | (simp; omega))) | (with_reducible refine HeldP.s_alloc ?_) | (with_reducible exact ⟨_, by assumption⟩) | omega | (intro e; simp at e; done) | (intro e; simp at e; omega) | (exact rfl) | (simp; done) | (simp; omega)))⟩, by (repeat' (first | (with_reducible assumption) | (with_reducible refine HeldP.c_drew ?_) | (with_reducible refine HeldP.c_drewN ?_) | (with_reducible refine HeldP.c_same (by omega) ?_) | (with_reducible refine HeldP.c_other ?_ ?_) | (with_reducible refine HeldP.c_new (by first | omega | (simp; done) | (simp; omega)) ?_) | (with_reducible refine HeldP.c_alloc ?_ ?_) | (with_reducible refine HeldP.e_drew ?_) | (with_reducible refine HeldP.e_drewN ?_) | (with_reducible refine HeldP.e_set ?_) | (with_reducible refine HeldP.e_new (by first | omega | (simp; done) | (simp; omega)) ⟨_, rfl⟩) | (with_reducible refine HeldP.e_alloc ?_ ?_) | (with_reducible refine HeldP.f_drew ?_) | (with_reducible refine HeldP.f_drewN ?_) | (with_reducible refine HeldP.f_set ?_) | (with_reducible refine HeldP.f_new (by first | omega | (simp; done) | (simp; omega))) | (with_reducible refine HeldP.f_alloc ?_ ?_) | (with_reducible refine HeldP.s_drew ?_) | (with_reducible refine HeldP.s_drewN ?_) | (with_reducible refine HeldP.s_set ?_) | (with_reducible refine HeldP.s_new (by first | omega | (simp; done) | (simp; omega))) | (with_reducible refine HeldP.s_alloc ?_) | (with_reducible exact ⟨_, by assumption⟩) | omega | (intro e; simp at e; done) | (intro e; simp at e; omega) | (exact rfl) | (simp; done) | (simp; omega)))⟩ q2 q1 (below_t HBW.out q0)
      rintro wn ⟨⟨⟨m0, m1, m2⟩, ml⟩, hspn, hkn, hbn⟩
      have mn : w4.heap.size ≠ p := by have := HK.out.lt; omega
      have HKn := Lib.hid hkn
      have HSn := Lib.hid hspn
      have HBn := Lib.hid hbn
      clear hspn hkn hbn
      refine wp_region_noPanic ?_
      refine wp_region_held_drew (S := fun W => wn.grownBy W (some p)) (by kernel_rfl) (gdrew (World.grownBy.refl _ _)) (fun hHeld => ?_)
      refine wpAnyH_take (i := 0) (oi := ⟨some 23, _, _, _, _, _⟩) (v := .pointer (some ⟨p, 0, none⟩)) rfl (by kernel_rfl) (by kernel_rfl) (by kernel_rfl) (fun _ _ _ h => h) (Or.inl ⟨by rfl, fun W hSW => by go_simp⟩) hHeld ?_
      simp only [Act.put, List.setIfInBounds_toArray, List.set_cons_zero, List.set_cons_succ]
      refine wpAnyH_take (i := 1) (oi := ⟨some 24, _, _, _, _, _⟩) (v := .int .i64 (j : Int)) rfl (by kernel_rfl) (by kernel_rfl) (by kernel_rfl) (fun _ _ _ h => h) (Or.inl ⟨by rfl, fun W hSW => by go_simp⟩) hHeld ?_
      simp only [Act.put, List.setIfInBounds_toArray, List.set_cons_zero, List.set_cons_succ]
      refine wpAnyH_take (i := 2) (oi := ⟨some 25, _, _, _, _, _⟩) (v := .pointer (some ⟨w4.heap.size, 1, none⟩)) rfl (by kernel_rfl) (by kernel_rfl) (by kernel_rfl) (fun _ _ _ h => h) (Or.inl ⟨by rfl, fun W hSW => by go_simp⟩) hHeld ?_
      simp only [Act.put, List.setIfInBounds_toArray, List.set_cons_zero, List.set_cons_succ]
      refine wpAnyH_take (i := 3) (oi := ⟨some 26, _, _, _, _, _⟩) (v := .int .i64 Y) rfl (by kernel_rfl) (by kernel_rfl) (by kernel_rfl) (fun _ _ _ h => h) (Or.inl ⟨by rfl, fun W hSW => by have a1 := cellG m1 ml mn hSW; go_simp⟩) hHeld ?_
      simp only [Act.put, List.setIfInBounds_toArray, List.set_cons_zero, List.set_cons_succ]
      refine wpAnyH_take (i := 5) (oi := ⟨some 28, _, _, _, _, _⟩) (v := .pointer (some ⟨p, 0, none⟩)) rfl (by kernel_rfl) (by kernel_rfl) (by kernel_rfl) (fun _ _ _ h => h) (Or.inl ⟨by rfl, fun W hSW => by go_simp⟩) hHeld ?_
      simp only [Act.put, List.setIfInBounds_toArray, List.set_cons_zero, List.set_cons_succ]
      refine wpAnyH_take (i := 6) (oi := ⟨some 29, _, _, _, _, _⟩) (v := .pointer (some ⟨p, 0, none⟩)) rfl (by kernel_rfl) (by kernel_rfl) (by kernel_rfl) (fun _ _ _ h => h) (Or.inl ⟨by rfl, fun W hSW => by go_simp⟩) hHeld ?_
      simp only [Act.put, List.setIfInBounds_toArray, List.set_cons_zero, List.set_cons_succ]
      refine wpAnyH_ready (rs := [4]) (by kernel_rfl) (by simp) ?_
      refine AllReadyH.cons (o := ⟨some 27, _, _, _, _, _⟩) rfl (fun K hK => ?_) AllReadyH.nil
      go_simp
      refine (HAT.out _).mono ?_
      rintro e w8 ⟨rfl, hb8⟩
      go_wp2_with fail
      have HG8 := Lib.hid (World.grownBy.trans hHeld (below_gr hb8 (some p)))
      refine hK.out _ _ HG8.out (fun hHeld => ?_)
      clear hK K
      have HK8 := Lib.hid ((HKn.out.drew).below hb8)
      have g0 := (HK8.out.cell (j * 2)).trans (ckV_c HCL.out hy).1
      have g1 := (HK8.out.cell (j * 2 + 1)).trans (ckV_c HCL.out hy).2
      have f0 := HK8.out.frozen (j * 2)
      have f1 := HK8.out.frozen (j * 2 + 1)
      refine wpAnyH_ready (rs := [7]) (by kernel_rfl) (by simp) ?_
      refine AllReadyH.cons (o := ⟨some 30, _, _, _, _, _⟩) rfl (fun K hK => ?_) AllReadyH.nil
      go_simp
      refine hK.out _ _ hHeld (fun hHeld => ?_)
      clear hK K
      refine wpAnyH_ready (rs := [8]) (by kernel_rfl) (by simp) ?_
      refine AllReadyH.cons (o := ⟨none, _, _, _, _, _⟩) rfl (fun K hK => ?_) AllReadyH.nil
      go_simp
      refine hK.out _ _ ((World.grownBy.trans hHeld (grown_set _ p (j * 2) (.int .u8 X1))).trans (grown_set _ p (j * 2 + 1) (.int .u8 X2))) (fun hHeld => ?_)
      clear hK K
      refine wpAnyH_done (by kernel_rfl) ?_ _
      refine NoPanic.normal ?_
      refine HeldP.then_named (fun W => wn.grownBy W (some p) ∧ Chk W p (fillU (landC y) (j + 1)) (fillU (landL y) j) (.slice none 0 0)) ⟨hHeld, by
        have h := HK8.out.setC hlt (c1, c2)
        obtain ⟨_, _, e1, e2, e3, e4⟩ := HX.out
        rw [e1, e2, fillU_set HC'.out.1 (landC_len y)] at h
        exact h⟩ ?_
      rintro wm ⟨hgm, hkm⟩
      have HGM := Lib.hid hgm
      have HKM := Lib.hid hkm
      clear hkm hgm g0 g1 f0 f1 hHeld hb8 HG8
      have m1' := m1
      have m1 := cellG m1' ml mn HGM.out
      go_wp2_with fail
      refine wp_region_noPanic ?_
      refine wp_region_held_drew (S := fun W => wn.grownBy W (some p)) (by kernel_rfl) (gdrew HGM.out) (fun hHeld => ?_)
      refine wpAnyH_take (i := 0) (oi := ⟨some 31, _, _, _, _, _⟩) (v := .pointer (some ⟨p, 0, none⟩)) rfl (by kernel_rfl) (by kernel_rfl) (by kernel_rfl) (fun _ _ _ h => h) (Or.inl ⟨by rfl, fun W hSW => by go_simp⟩) hHeld ?_
      simp only [Act.put, List.setIfInBounds_toArray, List.set_cons_zero, List.set_cons_succ]
      refine wpAnyH_take (i := 1) (oi := ⟨some 32, _, _, _, _, _⟩) (v := .int .i64 (j : Int)) rfl (by kernel_rfl) (by kernel_rfl) (by kernel_rfl) (fun _ _ _ h => h) (Or.inl ⟨by rfl, fun W hSW => by go_simp⟩) hHeld ?_
      simp only [Act.put, List.setIfInBounds_toArray, List.set_cons_zero, List.set_cons_succ]
      refine wpAnyH_take (i := 2) (oi := ⟨some 33, _, _, _, _, _⟩) (v := .pointer (some ⟨w4.heap.size, 1, none⟩)) rfl (by kernel_rfl) (by kernel_rfl) (by kernel_rfl) (fun _ _ _ h => h) (Or.inl ⟨by rfl, fun W hSW => by go_simp⟩) hHeld ?_
      simp only [Act.put, List.setIfInBounds_toArray, List.set_cons_zero, List.set_cons_succ]
      refine wpAnyH_take (i := 3) (oi := ⟨some 34, _, _, _, _, _⟩) (v := .int .i64 Y) rfl (by kernel_rfl) (by kernel_rfl) (by kernel_rfl) (fun _ _ _ h => h) (Or.inl ⟨by rfl, fun W hSW => by have a1 := cellG m1' ml mn hSW; go_simp⟩) hHeld ?_
      simp only [Act.put, List.setIfInBounds_toArray, List.set_cons_zero, List.set_cons_succ]
      refine wpAnyH_take (i := 5) (oi := ⟨some 36, _, _, _, _, _⟩) (v := .pointer (some ⟨p, 0, none⟩)) rfl (by kernel_rfl) (by kernel_rfl) (by kernel_rfl) (fun _ _ _ h => h) (Or.inl ⟨by rfl, fun W hSW => by go_simp⟩) hHeld ?_
      simp only [Act.put, List.setIfInBounds_toArray, List.set_cons_zero, List.set_cons_succ]
      refine wpAnyH_take (i := 6) (oi := ⟨some 37, _, _, _, _, _⟩) (v := .pointer (some ⟨p, 8192, none⟩)) rfl (by kernel_rfl) (by kernel_rfl) (by kernel_rfl) (fun _ _ _ h => h) (Or.inl ⟨by rfl, fun W hSW => by go_simp⟩) hHeld ?_
      simp only [Act.put, List.setIfInBounds_toArray, List.set_cons_zero, List.set_cons_succ]
      refine wpAnyH_ready (rs := [4]) (by kernel_rfl) (by simp) ?_
      refine AllReadyH.cons (o := ⟨some 35, _, _, _, _, _⟩) rfl (fun K hK => ?_) AllReadyH.nil
      go_simp
      refine (HLIT.out _).mono ?_
      rintro e w9 ⟨rfl, hb9⟩
      go_wp2_with fail
      have HG9 := Lib.hid (World.grownBy.trans hHeld (below_gr hb9 (some p)))
      refine hK.out _ _ HG9.out (fun hHeld => ?_)
      clear hK K
      have HK9 := Lib.hid ((HKM.out.drew).below hb9)
      have g0 := (HK9.out.cell (8192 + j * 2)).trans (ckV_l HKM.out.2.1 hz2).1
      have g1 := (HK9.out.cell (8192 + j * 2 + 1)).trans (ckV_l HKM.out.2.1 hz2).2
      have f0 := HK9.out.frozen (8192 + j * 2)
      have f1 := HK9.out.frozen (8192 + j * 2 + 1)
      refine wpAnyH_ready (rs := [7]) (by kernel_rfl) (by simp) ?_
      refine AllReadyH.cons (o := ⟨some 38, _, _, _, _, _⟩) rfl (fun K hK => ?_) AllReadyH.nil
      go_simp
      refine hK.out _ _ hHeld (fun hHeld => ?_)
      clear hK K
      refine wpAnyH_ready (rs := [8]) (by kernel_rfl) (by simp) ?_
      refine AllReadyH.cons (o := ⟨none, _, _, _, _, _⟩) rfl (fun K hK => ?_) AllReadyH.nil
      go_simp
      refine hK.out _ _ ((World.grownBy.trans hHeld (grown_set _ p (8192 + j * 2) (.int .u8 X3))).trans (grown_set _ p (8192 + j * 2 + 1) (.int .u8 X4))) (fun hHeld => ?_)
      clear hK K
      refine wpAnyH_done (by kernel_rfl) ?_ _
      refine NoPanic.normal ?_
      go_wp2_with fail
      go_roundw
      case rel =>
        have hfin := HK9.out.setL hlt (l1, l2)
        obtain ⟨_, _, e1, e2, e3, e4⟩ := HX.out
        rw [e3, e4, fillU_set HC'.out.2 (landL_len y)] at hfin
        exact ⟨j + 1, by go_num, by omega, hfin, HSn.out.grown hbp hHeld, grown_below HBn.out hHeld hpw⟩
      case measure => simp [intOf]; omega
    · have hI1 : ¬ (j : Int) < 4096 := by omega
      have e4 : j = 4096 := by omega
      subst e4
      have HFIN : Hid (Chk wr p (landC y) (landL y) (.slice none 0 0)) := Lib.hid (by
        have h := HK.out
        rw [fillU_all (landC_len y), fillU_all (landL_len y)] at h
        exact h)
      go_wp2_with fail
      go_ret2
      exact ⟨p, rfl, land_k HFIN.out, hpw, HBW.out⟩
end LandP
end Go.Proofs.YtjjnmkbjohiekaaDoor
