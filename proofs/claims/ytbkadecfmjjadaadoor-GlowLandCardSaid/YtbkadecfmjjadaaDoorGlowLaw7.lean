/-
  GlowLand: the land's light is that of its cells.
-/
import Derived.Test.YtbkadecfmjjadaaDoorGlowSides
import Derived.Test.YtbkadecfmjjadaaDoorGlowLandW
import Derived.Deep.RegionHeld3
namespace Go.Proofs.YtbkadecfmjjadaaDoor
open Go.RowKit
set_option linter.unusedVariables false
set_option linter.unusedSimpArgs false
namespace GlowW
open BlkP RowG KindP KindW
theorem drew_byL (w : World) (b : Nat) : w.grownBy w.drew (some b) := ⟨rfl, rfl, rfl, Nat.le_refl _, fun _ _ _ => rfl⟩
theorem far_cellL {w0 W : World} {b g o : Nat} {v : Value} (h : w0.grownBy W (some g)) (hl : b < w0.heap.size) (hne : b ≠ g) (hc : w0.cell? ⟨b, o, none⟩ = some v) : W.cell? ⟨b, o, none⟩ = some v :=
  (World.cell?_of_block (h.block b hl (fun e => hne (Option.some.inj e)))).trans hc
theorem bel_by {w w' : World} (h : Below w.heap.size w w') (r : Option Nat) : w.grownBy w' r := ⟨h.os, h.tape, h.output, h.size, fun k hk _ => h.block k hk⟩
theorem rem_nl {s m r : Nat} (h : s % m = r) : (s : Int).tmod m = (r : Int) := by rw [Int.tmod_eq_emod_of_nonneg (Int.natCast_nonneg _), ← h]; rfl
theorem quo_nl {s m r : Nat} (h : s / m = r) : (s : Int) / (m : Int) = (r : Int) := by rw [← h]; rfl
theorem litL {w : World} {g : Nat} {T : TypeId} {l : List (Nat × Nat)} (h : Blk w g T (flat enc2 l)) {i a b : Nat} (hi : l[i]? = some (a, b)) : w.cell? ⟨g, i * 2, none⟩ = some (.int .u8 a) ∧ w.cell? ⟨g, i * 2 + 1, none⟩ = some (.int .u8 b) :=
  ⟨h.cell (flat2_get hi).1, h.cell (flat2_get hi).2⟩
/-- Cells that are laid so far. -/
def fillC (l : List (Nat × Nat)) (j : Nat) : List (Nat × Nat) := l.take j ++ List.replicate (l.length - j) (0, 0)
theorem fillC_zero (l : List (Nat × Nat)) : fillC l 0 = List.replicate l.length (0, 0) := by simp [fillC]
theorem fillC_all {l : List (Nat × Nat)} {j : Nat} (h : l.length ≤ j) : fillC l j = l := by
  unfold fillC
  rw [List.take_of_length_le h, show l.length - j = 0 by omega]
  simp
theorem fillC_get {l : List (Nat × Nat)} {j : Nat} (h : j < l.length) : (fillC l j)[j]? = some (0, 0) := by
  unfold fillC
  rw [List.getElem?_append_right (by simp; omega), List.getElem?_replicate, if_pos (by simp; omega)]
theorem fillC_set {l : List (Nat × Nat)} {v : Nat × Nat} {j : Nat} (h : l[j]? = some v) : (fillC l j).set j v = fillC l (j + 1) := by
  have hj := (List.getElem?_eq_some_iff.1 h).1
  unfold fillC
  rw [List.take_add_one, h, List.set_append_right _ _ (by simp; omega), List.length_take, Nat.min_eq_left (by omega), Nat.sub_self, show l.length - j = (l.length - (j + 1)) + 1 by omega, List.replicate_succ, List.set_cons_zero]
  simp
def LandRel (w : World) (X Z n g : Nat) (P0 P1 P2 : Int) (v : Value) (W : World) : Prop := ∃ j : Nat, v = .int .i64 j ∧ j ≤ n ∧ Blk W g 32 (flat enc2 (fillC (landB X Z) j)) ∧ Blk W (w.heap.size + 1) 24 [.int .i64 X, .int .i64 64, .int .i64 Z, .slice (some ⟨g, 0, none⟩) n n] ∧ Blk W w.heap.size 48 [.int .i64 P0, .int .i64 P1, .int .i64 P2] ∧ Below w.heap.size w W
def CntL (w4 : World) (n : Nat) (v : Value) (wr : World) : Prop := ∃ j : Nat, v = .int .i64 j ∧ j ≤ n ∧ Below w4.heap.size w4 wr
theorem tmod_small {p : Int} : -1000 < p.tmod 1000 ∧ p.tmod 1000 < 1000 := by
  rcases Int.le_total 0 p with h | h
  · rw [Int.tmod_eq_emod_of_nonneg h]
    omega
  · obtain ⟨q, rfl⟩ : ∃ q, p = -q := ⟨-p, by omega⟩
    rw [Int.neg_tmod, Int.tmod_eq_emod_of_nonneg (by omega)]
    omega
set_option maxRecDepth 100000 in
set_option maxHeartbeats 16000000 in
theorem land_of {w : World} {P0 P1 P2 : Int} {s t : Nat} (hT : Tab w) (hL2 : LandP.LTab w) (us : s ≤ 255) (ut : t ≤ 255) :
    Calls Tryd.prog 10 #[.agg #[.int .i64 P0, .int .i64 P1, .int .i64 P2], .int .u8 s, .int .u8 t] w (HoldsP w) := by
  have HT := Lib.hid hT
  have HLT := Lib.hid hL2
  clear hT hL2
  obtain ⟨x0, hx0⟩ : ∃ x, s % 4 = x := ⟨_, rfl⟩
  obtain ⟨z0, hz0⟩ : ∃ x, t % 4 = x := ⟨_, rfl⟩
  have bx : x0 < 4 := by omega
  have bz : z0 < 4 := by omega
  have R0 := Lib.hid (show (s : Int).tmod 4 = (x0 : Int) from rem_nl hx0)
  have R1 := Lib.hid (show (t : Int).tmod 4 = (z0 : Int) from rem_nl hz0)
  obtain ⟨px, hpx⟩ : ∃ p : Int, P0.tmod 1000 = p := ⟨_, rfl⟩
  obtain ⟨pz, hpz⟩ : ∃ p : Int, P2.tmod 1000 = p := ⟨_, rfl⟩
  have hbx : -1000 < px ∧ px < 1000 := by rw [← hpx]; exact tmod_small
  have hbz : -1000 < pz ∧ pz < 1000 := by rw [← hpz]; exact tmod_small
  have HPX := Lib.hid hpx
  have HPZ := Lib.hid hpz
  clear hx0 hz0 hpx hpz
  obtain ⟨X, hX⟩ : ∃ X, 1 + x0 = X := ⟨_, rfl⟩
  obtain ⟨Z, hZ⟩ : ∃ X, 1 + z0 = X := ⟨_, rfl⟩
  have eX : 1 + (x0 : Int) = (X : Int) := by omega
  have eZ : 1 + (z0 : Int) = (Z : Int) := by omega
  have BX : 1 ≤ X ∧ X ≤ 4 := by omega
  have BZ : 1 ≤ Z ∧ Z ≤ 4 := by omega
  clear hX hZ
  have hP : X * 64 ≤ 256 := by omega
  have hN : X * 64 * Z ≤ 1024 := Nat.mul_le_mul hP BZ.2
  have hN0 : 0 < X * 64 * Z := Nat.mul_pos (by omega) (by omega)
  obtain ⟨n, hn⟩ : ∃ n, X * 64 * Z = n := ⟨_, rfl⟩
  have HXYZ := Lib.hid hn
  rw [hn] at hN hN0
  obtain ⟨P, hPn⟩ : ∃ P, X * 64 = P := ⟨_, rfl⟩
  have EP := Lib.hid (show (X : Int) * 64 = (P : Int) by omega)
  have EN := Lib.hid (show (P : Int) * Z = (n : Int) by rw [← hn, hPn]; exact (Int.natCast_mul _ _).symm)
  have hP' : P ≤ 256 := by omega
  have hXN : ¬ X = 0 := by omega
  have hZN : ¬ Z = 0 := by omega
  have hXI : ¬ (X : Int) = 0 := by omega
  have hZI : ¬ (Z : Int) = 0 := by omega
  have HLEN := Lib.hid (show (landB X Z).length = n by rw [landB_len, hn])
  clear hn hPn
  have eP := EP.out
  have eN := EN.out
  have r0 := R0.out
  have r1 := R1.out
  go_enter Tryd.func10, Tryd.ntmps10
  go_wp2_with ((with_reducible refine at_slot 29 ?_); refine Classical.byContradiction (fun hG => ?_))
  refine hG ?_
  clear hG
  refine list_named (fun W => Blk W (w.heap.size + 1) 24 [.int .i64 X, .int .i64 64, .int .i64 Z, .slice none 0 0] ∧ Blk W w.heap.size 48 [.int .i64 P0, .int .i64 P1, .int .i64 P2] ∧ Below w.heap.size w W ∧ W.heap.size = w.heap.size + 2) ⟨by first | (exact Blk.newA' (by simp) rfl) | (repeat' (first | (with_reducible refine BlkP.Blk.drew ?_) | (with_reducible refine BlkP.Blk.drewN ?_ _) | (with_reducible refine BlkP.Blk.setAt (us := ?_) (by first | omega | (simp; done) | (simp; omega)) rfl ?_ ?_) | (with_reducible refine BlkP.Blk.otherAt ?_ (by first | omega | (simp; done) | (simp; omega))) | (with_reducible refine BlkP.Blk.newA' (by first | omega | (simp; done) | (simp; omega)) rfl) | (with_reducible refine BlkP.Blk.alloc ?_ _) | (exact rfl))), by first | exact (Blk.newA' rfl rfl).alloc _ | (repeat' (first | (with_reducible refine BlkP.Blk.drew ?_) | (with_reducible refine BlkP.Blk.drewN ?_ _) | (with_reducible refine BlkP.Blk.setAt (us := ?_) (by first | omega | (simp; done) | (simp; omega)) rfl ?_ ?_) | (with_reducible refine BlkP.Blk.otherAt ?_ (by first | omega | (simp; done) | (simp; omega))) | (with_reducible refine BlkP.Blk.newA' (by first | omega | (simp; done) | (simp; omega)) rfl) | (with_reducible refine BlkP.Blk.alloc ?_ _) | (exact rfl))), by (repeat' (first | (with_reducible exact Below.refl _ _) | (with_reducible refine Below.setCell ?_ (by (first | omega | (simp; done) | (simp; omega))) _) | (with_reducible refine Below.alloc ?_ (by (first | omega | (simp; done) | (simp; omega))) _) | (with_reducible refine Below.drew ?_) | (with_reducible refine below_drewN ?_ _))), by simp⟩ ?_
  rintro w1 ⟨bk1, pk1, hb1, hz1⟩
  refine wp_makeC _ rfl _ _ rfl n rfl rfl (by omega) ?_
  intro w2 hd2 hb2
  obtain ⟨g, hg⟩ : ∃ g, w1.heap.size = g := ⟨_, rfl⟩
  rw [hg] at hd2 ⊢
  have HGB := Lib.hid (show g = w.heap.size + 2 by omega)
  have bk2 := bk1.below hb2
  have BK2 := Lib.hid bk2
  have PK2 := Lib.hid (pk1.below hb2)
  have HD2 := Lib.hid hd2
  have HB2 := Lib.hid (hb1.trans (hb2.mono hb1.size))
  have hz2 := hb2.size
  have hbg : w.heap.size + 1 ≠ g := by have := HGB.out; omega
  have hgb : g ≠ w.heap.size + 1 := by have := HGB.out; omega
  have hpg : w.heap.size ≠ g := by have := HGB.out; omega
  have hpb : w.heap.size ≠ w.heap.size + 1 := by omega
  have hwg : w.heap.size ≤ g := by have := HGB.out; omega
  have k3 := bk2.cell (i := 3) rfl
  have q3 := bk2.frozen 3
  clear hd2 bk2 hb1 hb2 hz1 bk1 pk1 r0 r1 eP eN hg
  go_wp2_with fail
  go_loopw [8] (LandRel w X Z n g P0 P1 P2) (fun v _ => n - (intOf v).toNat)
  case atStart => exact ⟨0, rfl, by omega, by rw [fillC_zero, HLEN.out]; exact HD2.out.other hgb _, BK2.out.setTo rfl, PK2.out.other hpb _, HB2.out.setCell (show w.heap.size ≤ w.heap.size + 1 by omega) _⟩
  case round =>
    clear k3 q3
    obtain ⟨j, rfl, hj, hd, hbk, hpk, hb⟩ := hrel
    have HB := Lib.hid hb
    have HD := Lib.hid hd
    have BK := Lib.hid hbk
    have PK := Lib.hid hpk
    have HLr := Lib.hid (HLT.out.below hb)
    have hzr := hb.size
    have k0 : wr.cell? ⟨w.heap.size + 1, 0, none⟩ = some (.int .i64 X) := hbk.cell (i := 0) rfl
    have k2 : wr.cell? ⟨w.heap.size + 1, 2, none⟩ = some (.int .i64 Z) := hbk.cell (i := 2) rfl
    have k3 : wr.cell? ⟨w.heap.size + 1, 3, none⟩ = some (.slice (some ⟨g, 0, none⟩) n n) := hbk.cell (i := 3) rfl
    have l0 : wr.cell? ⟨w.heap.size, 0, none⟩ = some (.int .i64 P0) := hpk.cell (i := 0) rfl
    have l2 : wr.cell? ⟨w.heap.size, 2, none⟩ = some (.int .i64 P2) := hpk.cell (i := 2) rfl
    have hzb := hbk.lt
    have hzp := hpk.lt
    by_cases hlt : j < n
    · have hjI : (j : Int) < n := by omega
      have hj0 : (0 : Int) ≤ (j : Int) := by omega
      obtain ⟨x, hx⟩ : ∃ x, j % X = x := ⟨_, rfl⟩
      obtain ⟨d, hd'⟩ : ∃ d, j / X = d := ⟨_, rfl⟩
      obtain ⟨z, hz⟩ : ∃ z, d % Z = z := ⟨_, rfl⟩
      obtain ⟨y, hy⟩ : ∃ y, d / Z = y := ⟨_, rfl⟩
      have hbx := GlowP.at_box (X := X) (Y := 64) (Z := Z) (i := j) (by have := HXYZ.out; omega)
      rw [hd', hx, hz, hy] at hbx
      obtain ⟨hxX, hzZ, hyY⟩ := hbx
      have hdj : d ≤ j := by rw [← hd']; exact Nat.div_le_self _ _
      have hYY := Lib.hid (show y = j / X / Z by rw [hd', hy])
      have m1 : (j : Int).tmod X = (x : Int) := rem_nl hx
      have q1' : (j : Int) / (X : Int) = (d : Int) := quo_nl hd'
      have m2 : (d : Int).tmod Z = (z : Int) := rem_nl hz
      have q2' : (d : Int) / (Z : Int) = (y : Int) := quo_nl hy
      have VD := Lib.hid (wrap_small (d := d) (by omega))
      have VY := Lib.hid (wrap_small (d := y) (by omega))
      obtain ⟨ax, hax⟩ : ∃ ax : Int, px + (x : Int) = ax := ⟨_, rfl⟩
      obtain ⟨az, haz⟩ : ∃ az : Int, pz + (z : Int) = az := ⟨_, rfl⟩
      have EX := Lib.hid hax
      have EZ := Lib.hid haz
      have WX := Lib.hid (show IntKind.i64.wrap ax = ax from BitsP.wrapI_small (by omega) (by omega))
      have WZ := Lib.hid (show IntKind.i64.wrap az = az from BitsP.wrapI_small (by omega) (by omega))
      have HMAY := Lib.hid (show PlaceW.mayB ax y az = true by
        simp only [PlaceW.mayB, PlaceW.inB, Bool.and_eq_true, decide_eq_true_eq]
        omega)
      obtain ⟨⟨kk, ll⟩, hcol⟩ : ∃ c, colC y = c := ⟨_, rfl⟩
      have HCOL := Lib.hid hcol
      have HGET := Lib.hid (show (landB X Z)[j]? = some (kk, ll) by rw [landB_get (by rw [HXYZ.out]; exact hlt), ← hYY.out, hcol])
      have HOLD := Lib.hid (fillC_get (l := landB X Z) (j := j) (by rw [HLEN.out]; exact hlt))
      have hpx := HPX.out
      have hpz := HPZ.out
      clear hx hd' hz hy hax haz hcol hd hbk hpk hb
      go_wp2_with fail
      refine wp_region_noPanic ?_
      refine wp_region_held_drew (S := fun W => wr.grownBy W (some g)) (by kernel_rfl) (drew_byL _ _) (fun hHeld => ?_)
      refine wpAnyH_take (i := 0) (oi := ⟨some 38, _, _, _, _, _⟩) (v := .pointer (some ⟨w.heap.size + 1, 3, none⟩)) rfl (by kernel_rfl) (by kernel_rfl) (by kernel_rfl) (fun _ _ _ h => h) (Or.inl ⟨by rfl, fun W hSW => by go_simp⟩) hHeld ?_
      simp only [Act.put, List.setIfInBounds_toArray, List.set_cons_zero, List.set_cons_succ]
      refine wpAnyH_take (i := 1) (oi := ⟨some 39, _, _, _, _, _⟩) (v := .slice (some ⟨g, 0, none⟩) n n) rfl (by kernel_rfl) (by kernel_rfl) (by kernel_rfl) (fun _ _ _ h => h) (Or.inl ⟨by rfl, fun W hSW => by have a0 := far_cellL hSW hzb hbg k3; clear hSW; go_simp⟩) hHeld ?_
      simp only [Act.put, List.setIfInBounds_toArray, List.set_cons_zero, List.set_cons_succ]
      refine wpAnyH_take (i := 2) (oi := ⟨some 40, _, _, _, _, _⟩) (v := .int .i64 j) rfl (by kernel_rfl) (by kernel_rfl) (by kernel_rfl) (fun _ _ _ h => h) (Or.inl ⟨by rfl, fun W hSW => by go_simp⟩) hHeld ?_
      simp only [Act.put, List.setIfInBounds_toArray, List.set_cons_zero, List.set_cons_succ]
      refine wpAnyH_take (i := 3) (oi := ⟨some 41, _, _, _, _, _⟩) (v := .pointer (some ⟨w.heap.size, 0, none⟩)) rfl (by kernel_rfl) (by kernel_rfl) (by kernel_rfl) (fun _ _ _ h => h) (Or.inl ⟨by rfl, fun W hSW => by go_simp⟩) hHeld ?_
      simp only [Act.put, List.setIfInBounds_toArray, List.set_cons_zero, List.set_cons_succ]
      refine wpAnyH_take (i := 4) (oi := ⟨some 42, _, _, _, _, _⟩) (v := .int .i64 P0) rfl (by kernel_rfl) (by kernel_rfl) (by kernel_rfl) (fun _ _ _ h => h) (Or.inl ⟨by rfl, fun W hSW => by have a0 := far_cellL hSW hzp hpg l0; clear hSW; go_simp⟩) hHeld ?_
      simp only [Act.put, List.setIfInBounds_toArray, List.set_cons_zero, List.set_cons_succ]
      refine wpAnyH_take (i := 5) (oi := ⟨some 43, _, _, _, _, _⟩) (v := .int .i64 px) rfl (by kernel_rfl) (by kernel_rfl) (by kernel_rfl) (fun _ _ _ h => h) (Or.inl ⟨by rfl, fun W hSW => by go_simp⟩) hHeld ?_
      simp only [Act.put, List.setIfInBounds_toArray, List.set_cons_zero, List.set_cons_succ]
      refine wpAnyH_take (i := 6) (oi := ⟨some 44, _, _, _, _, _⟩) (v := .int .i64 j) rfl (by kernel_rfl) (by kernel_rfl) (by kernel_rfl) (fun _ _ _ h => h) (Or.inl ⟨by rfl, fun W hSW => by go_simp⟩) hHeld ?_
      simp only [Act.put, List.setIfInBounds_toArray, List.set_cons_zero, List.set_cons_succ]
      refine wpAnyH_take (i := 7) (oi := ⟨some 45, _, _, _, _, _⟩) (v := .pointer (some ⟨w.heap.size + 1, 0, none⟩)) rfl (by kernel_rfl) (by kernel_rfl) (by kernel_rfl) (fun _ _ _ h => h) (Or.inl ⟨by rfl, fun W hSW => by go_simp⟩) hHeld ?_
      simp only [Act.put, List.setIfInBounds_toArray, List.set_cons_zero, List.set_cons_succ]
      refine wpAnyH_take (i := 8) (oi := ⟨some 46, _, _, _, _, _⟩) (v := .int .i64 X) rfl (by kernel_rfl) (by kernel_rfl) (by kernel_rfl) (fun _ _ _ h => h) (Or.inl ⟨by rfl, fun W hSW => by have a0 := far_cellL hSW hzb hbg k0; clear hSW; go_simp⟩) hHeld ?_
      simp only [Act.put, List.setIfInBounds_toArray, List.set_cons_zero, List.set_cons_succ]
      refine wpAnyH_take (i := 9) (oi := ⟨some 47, _, _, _, _, _⟩) (v := .int .i64 x) rfl (by kernel_rfl) (by kernel_rfl) (by kernel_rfl) (fun _ _ _ h => h) (Or.inl ⟨by rfl, fun W hSW => by go_simp⟩) hHeld ?_
      simp only [Act.put, List.setIfInBounds_toArray, List.set_cons_zero, List.set_cons_succ]
      refine wpAnyH_take (i := 10) (oi := ⟨some 48, _, _, _, _, _⟩) (v := .int .i64 ax) rfl (by kernel_rfl) (by kernel_rfl) (by kernel_rfl) (fun _ _ _ h => h) (Or.inl ⟨by rfl, fun W hSW => by go_simp <;> first | exact WX.out | exact EX.out | (rw [EX.out]; exact WX.out)⟩) hHeld ?_
      simp only [Act.put, List.setIfInBounds_toArray, List.set_cons_zero, List.set_cons_succ]
      refine wpAnyH_take (i := 11) (oi := ⟨some 49, _, _, _, _, _⟩) (v := .int .i64 j) rfl (by kernel_rfl) (by kernel_rfl) (by kernel_rfl) (fun _ _ _ h => h) (Or.inl ⟨by rfl, fun W hSW => by go_simp⟩) hHeld ?_
      simp only [Act.put, List.setIfInBounds_toArray, List.set_cons_zero, List.set_cons_succ]
      refine wpAnyH_take (i := 12) (oi := ⟨some 50, _, _, _, _, _⟩) (v := .pointer (some ⟨w.heap.size + 1, 0, none⟩)) rfl (by kernel_rfl) (by kernel_rfl) (by kernel_rfl) (fun _ _ _ h => h) (Or.inl ⟨by rfl, fun W hSW => by go_simp⟩) hHeld ?_
      simp only [Act.put, List.setIfInBounds_toArray, List.set_cons_zero, List.set_cons_succ]
      refine wpAnyH_take (i := 13) (oi := ⟨some 51, _, _, _, _, _⟩) (v := .int .i64 X) rfl (by kernel_rfl) (by kernel_rfl) (by kernel_rfl) (fun _ _ _ h => h) (Or.inl ⟨by rfl, fun W hSW => by have a0 := far_cellL hSW hzb hbg k0; clear hSW; go_simp⟩) hHeld ?_
      simp only [Act.put, List.setIfInBounds_toArray, List.set_cons_zero, List.set_cons_succ]
      refine wpAnyH_take (i := 14) (oi := ⟨some 52, _, _, _, _, _⟩) (v := .int .i64 d) rfl (by kernel_rfl) (by kernel_rfl) (by kernel_rfl) (fun _ _ _ h => h) (Or.inl ⟨by rfl, fun W hSW => by go_simp <;> exact VD.out⟩) hHeld ?_
      simp only [Act.put, List.setIfInBounds_toArray, List.set_cons_zero, List.set_cons_succ]
      refine wpAnyH_take (i := 15) (oi := ⟨some 53, _, _, _, _, _⟩) (v := .pointer (some ⟨w.heap.size + 1, 2, none⟩)) rfl (by kernel_rfl) (by kernel_rfl) (by kernel_rfl) (fun _ _ _ h => h) (Or.inl ⟨by rfl, fun W hSW => by go_simp⟩) hHeld ?_
      simp only [Act.put, List.setIfInBounds_toArray, List.set_cons_zero, List.set_cons_succ]
      refine wpAnyH_take (i := 16) (oi := ⟨some 54, _, _, _, _, _⟩) (v := .int .i64 Z) rfl (by kernel_rfl) (by kernel_rfl) (by kernel_rfl) (fun _ _ _ h => h) (Or.inl ⟨by rfl, fun W hSW => by have a0 := far_cellL hSW hzb hbg k2; clear hSW; go_simp⟩) hHeld ?_
      simp only [Act.put, List.setIfInBounds_toArray, List.set_cons_zero, List.set_cons_succ]
      refine wpAnyH_take (i := 17) (oi := ⟨some 55, _, _, _, _, _⟩) (v := .int .i64 y) rfl (by kernel_rfl) (by kernel_rfl) (by kernel_rfl) (fun _ _ _ h => h) (Or.inl ⟨by rfl, fun W hSW => by go_simp <;> exact VY.out⟩) hHeld ?_
      simp only [Act.put, List.setIfInBounds_toArray, List.set_cons_zero, List.set_cons_succ]
      refine wpAnyH_take (i := 18) (oi := ⟨some 56, _, _, _, _, _⟩) (v := .pointer (some ⟨w.heap.size, 2, none⟩)) rfl (by kernel_rfl) (by kernel_rfl) (by kernel_rfl) (fun _ _ _ h => h) (Or.inl ⟨by rfl, fun W hSW => by go_simp⟩) hHeld ?_
      simp only [Act.put, List.setIfInBounds_toArray, List.set_cons_zero, List.set_cons_succ]
      refine wpAnyH_take (i := 19) (oi := ⟨some 57, _, _, _, _, _⟩) (v := .int .i64 P2) rfl (by kernel_rfl) (by kernel_rfl) (by kernel_rfl) (fun _ _ _ h => h) (Or.inl ⟨by rfl, fun W hSW => by have a0 := far_cellL hSW hzp hpg l2; clear hSW; go_simp⟩) hHeld ?_
      simp only [Act.put, List.setIfInBounds_toArray, List.set_cons_zero, List.set_cons_succ]
      refine wpAnyH_take (i := 20) (oi := ⟨some 58, _, _, _, _, _⟩) (v := .int .i64 pz) rfl (by kernel_rfl) (by kernel_rfl) (by kernel_rfl) (fun _ _ _ h => h) (Or.inl ⟨by rfl, fun W hSW => by go_simp⟩) hHeld ?_
      simp only [Act.put, List.setIfInBounds_toArray, List.set_cons_zero, List.set_cons_succ]
      refine wpAnyH_take (i := 21) (oi := ⟨some 59, _, _, _, _, _⟩) (v := .int .i64 j) rfl (by kernel_rfl) (by kernel_rfl) (by kernel_rfl) (fun _ _ _ h => h) (Or.inl ⟨by rfl, fun W hSW => by go_simp⟩) hHeld ?_
      simp only [Act.put, List.setIfInBounds_toArray, List.set_cons_zero, List.set_cons_succ]
      refine wpAnyH_take (i := 22) (oi := ⟨some 60, _, _, _, _, _⟩) (v := .pointer (some ⟨w.heap.size + 1, 0, none⟩)) rfl (by kernel_rfl) (by kernel_rfl) (by kernel_rfl) (fun _ _ _ h => h) (Or.inl ⟨by rfl, fun W hSW => by go_simp⟩) hHeld ?_
      simp only [Act.put, List.setIfInBounds_toArray, List.set_cons_zero, List.set_cons_succ]
      refine wpAnyH_take (i := 23) (oi := ⟨some 61, _, _, _, _, _⟩) (v := .int .i64 X) rfl (by kernel_rfl) (by kernel_rfl) (by kernel_rfl) (fun _ _ _ h => h) (Or.inl ⟨by rfl, fun W hSW => by have a0 := far_cellL hSW hzb hbg k0; clear hSW; go_simp⟩) hHeld ?_
      simp only [Act.put, List.setIfInBounds_toArray, List.set_cons_zero, List.set_cons_succ]
      refine wpAnyH_take (i := 24) (oi := ⟨some 62, _, _, _, _, _⟩) (v := .int .i64 d) rfl (by kernel_rfl) (by kernel_rfl) (by kernel_rfl) (fun _ _ _ h => h) (Or.inl ⟨by rfl, fun W hSW => by go_simp <;> exact VD.out⟩) hHeld ?_
      simp only [Act.put, List.setIfInBounds_toArray, List.set_cons_zero, List.set_cons_succ]
      refine wpAnyH_take (i := 25) (oi := ⟨some 63, _, _, _, _, _⟩) (v := .pointer (some ⟨w.heap.size + 1, 2, none⟩)) rfl (by kernel_rfl) (by kernel_rfl) (by kernel_rfl) (fun _ _ _ h => h) (Or.inl ⟨by rfl, fun W hSW => by go_simp⟩) hHeld ?_
      simp only [Act.put, List.setIfInBounds_toArray, List.set_cons_zero, List.set_cons_succ]
      refine wpAnyH_take (i := 26) (oi := ⟨some 64, _, _, _, _, _⟩) (v := .int .i64 Z) rfl (by kernel_rfl) (by kernel_rfl) (by kernel_rfl) (fun _ _ _ h => h) (Or.inl ⟨by rfl, fun W hSW => by have a0 := far_cellL hSW hzb hbg k2; clear hSW; go_simp⟩) hHeld ?_
      simp only [Act.put, List.setIfInBounds_toArray, List.set_cons_zero, List.set_cons_succ]
      refine wpAnyH_take (i := 27) (oi := ⟨some 65, _, _, _, _, _⟩) (v := .int .i64 z) rfl (by kernel_rfl) (by kernel_rfl) (by kernel_rfl) (fun _ _ _ h => h) (Or.inl ⟨by rfl, fun W hSW => by go_simp⟩) hHeld ?_
      simp only [Act.put, List.setIfInBounds_toArray, List.set_cons_zero, List.set_cons_succ]
      refine wpAnyH_take (i := 28) (oi := ⟨some 66, _, _, _, _, _⟩) (v := .int .i64 az) rfl (by kernel_rfl) (by kernel_rfl) (by kernel_rfl) (fun _ _ _ h => h) (Or.inl ⟨by rfl, fun W hSW => by go_simp <;> first | exact WZ.out | exact EZ.out | (rw [EZ.out]; exact WZ.out)⟩) hHeld ?_
      simp only [Act.put, List.setIfInBounds_toArray, List.set_cons_zero, List.set_cons_succ]
      refine wpAnyH_take (i := 29) (oi := ⟨some 67, _, _, _, _, _⟩) (v := .agg #[.int .i64 ax, .int .i64 y, .int .i64 az]) rfl (by kernel_rfl) (by kernel_rfl) (by kernel_rfl) (fun _ _ _ h => h) (Or.inl ⟨by rfl, fun W hSW => by go_simp⟩) hHeld ?_
      simp only [Act.put, List.setIfInBounds_toArray, List.set_cons_zero, List.set_cons_succ]
      refine wpAnyH_ready (rs := [30]) (by kernel_rfl) (by simp) ?_
      refine AllReadyH.cons (o := ⟨some 68, _, _, _, _, _⟩) rfl (fun K hK => ?_) AllReadyH.nil
      go_simp
      refine (LandP.cell_g (HLr.out.below (Below.refl _ _).drew) HMAY.out HCOL.out).mono ?_
      rintro e w5 ⟨rfl, hb5⟩
      have hb5' := below_t ((Below.refl _ wr).drew) hb5
      have hd5 : Blk w5 g 32 (flat enc2 (fillC (landB X Z) j)) := HD.out.below hb5'
      obtain ⟨s0, s1⟩ := litL hd5 HOLD.out
      have q0 := hd5.frozen (j * 2)
      have q1 := hd5.frozen (j * 2 + 1)
      have HD5 := Lib.hid hd5
      have HB5 := Lib.hid (show Below wr.heap.size wr w5 from hb5')
      clear hd5 hb5'
      go_wp2_with fail
      refine hK.out _ _ (hHeld.trans (bel_by hb5 _)) (fun hHeld => ?_)
      clear hK K
      refine wpAnyH_take (i := 31) (oi := ⟨some 69, _, _, _, _, _⟩) (v := .pointer (some ⟨g, j * 2, none⟩)) rfl (by kernel_rfl) (by kernel_rfl) (by kernel_rfl) (fun _ _ _ h => h) (Or.inl ⟨by rfl, fun W hSW => by go_simp⟩) hHeld ?_
      simp only [Act.put, List.setIfInBounds_toArray, List.set_cons_zero, List.set_cons_succ]
      refine wpAnyH_ready (rs := [32]) (by kernel_rfl) (by simp) ?_
      refine AllReadyH.cons (o := ⟨none, _, _, _, _, _⟩) rfl (fun K hK => ?_) AllReadyH.nil
      go_simp
      refine hK.out _ _ (((hHeld).trans (setCell_grown _ _ _ _)).trans (setCell_grown _ _ _ _)) (fun hHeld => ?_)
      clear hK K
      refine wpAnyH_done (by kernel_rfl) ?_ _
      refine NoPanic.normal ?_
      clear m1 m2 q1' q2' hpx hpz hHeld
      go_wp2_with fail
      go_roundw
      case rel =>
        have hbo := HB.out.trans (HB5.out.mono HB.out.size)
        refine ⟨j + 1, by go_num, by omega, ?_, ((BK.out.below HB5.out).other hbg _).other hbg _, ((PK.out.below HB5.out).other hpg _).other hpg _, (hbo.setCell hwg _).setCell hwg _⟩
        have e1 : (flat enc2 (fillC (landB X Z) j)).set (j * 2) (.int .u8 kk) = flat enc2 ((fillC (landB X Z) j).set j (kk, 0)) := flat_set (e := enc2) (j := 0) (x := (0, 0)) (y := (kk, 0)) HOLD.out (by decide) rfl
        have e2 : (flat enc2 ((fillC (landB X Z) j).set j (kk, 0))).set (j * 2 + 1) (.int .u8 ll) = flat enc2 ((fillC (landB X Z) j).set j (kk, ll)) := by
          have h := flat_set (e := enc2) (j := 1) (x := (kk, 0)) (y := (kk, ll)) (u := .int .u8 ll) (show ((fillC (landB X Z) j).set j (kk, 0))[j]? = some (kk, 0) from List.getElem?_set_self (List.getElem?_eq_some_iff.1 HOLD.out).1) (by decide) rfl
          rw [List.set_set] at h
          exact h
        rw [← fillC_set HGET.out]
        exact (HD5.out.setTo e1).setTo e2
      case measure => first | (simp [intOf]; done) | (simp [intOf]; omega)
    · obtain rfl : n = j := by omega
      have HD3 := Lib.hid (show Blk wr g 32 (flat enc2 (landB X Z)) by
        have h := HD.out
        rw [fillC_all (by rw [HLEN.out]; exact Nat.le_refl _)] at h
        exact h)
      have k1 : wr.cell? ⟨w.heap.size + 1, 1, none⟩ = some (.int .i64 64) := BK.out.cell (i := 1) rfl
      clear hd hbk hpk hb
      go_wp2_with (go_at_call 14; refine Classical.byContradiction (fun hG => ?_))
      refine hG ?_
      clear hG
      refine (light_i (X := X) (Y := 64) (Z := Z) (HT.out.below HB.out) (rd_blk HD3.out HLEN.out.symm (by omega)) rfl rfl rfl HLEN.out.symm (by omega) (by omega) (by omega) HXYZ.out (by omega)).mono ?_
      rintro e w4 ⟨g4, rfl, hg4', hge4, hb4⟩
      have HG4 := Lib.hid hg4'
      have hg4l := hg4'.lt
      have HW4 := Lib.hid (HB.out.trans (hb4.mono HB.out.size))
      have BK4 := Lib.hid (BK.out.below hb4)
      have PK4 := Lib.hid (PK.out.below hb4)
      have k3 : w4.cell? ⟨w.heap.size + 1, 3, none⟩ = some (.slice (some ⟨g, 0, none⟩) n n) := BK4.out.cell (i := 3) rfl
      have hz4 := hb4.size
      clear hg4' hb4 k0 k1 k2 l0 l2 hzb hzp
      go_wp2_with fail
      go_loopw [11] (CntL w4 n) (fun v _ => n - (intOf v).toNat)
      case atStart => exact ⟨0, rfl, by omega, Below.refl _ _⟩
      case round =>
        clear k3
        obtain ⟨j, rfl, hj, hb⟩ := hrel
        have HBJ := Lib.hid hb
        have hbk := BK4.out.below hb
        have hpk := PK4.out.below hb
        have k0 : wr.cell? ⟨w.heap.size + 1, 0, none⟩ = some (.int .i64 X) := hbk.cell (i := 0) rfl
        have k2 : wr.cell? ⟨w.heap.size + 1, 2, none⟩ = some (.int .i64 Z) := hbk.cell (i := 2) rfl
        have k3 : wr.cell? ⟨w.heap.size + 1, 3, none⟩ = some (.slice (some ⟨g, 0, none⟩) n n) := hbk.cell (i := 3) rfl
        have l0 : wr.cell? ⟨w.heap.size, 0, none⟩ = some (.int .i64 P0) := hpk.cell (i := 0) rfl
        have l2 : wr.cell? ⟨w.heap.size, 2, none⟩ = some (.int .i64 P2) := hpk.cell (i := 2) rfl
        have hzb := hbk.lt
        have hzp := hpk.lt
        by_cases hlt : j < n
        · have hjI : (j : Int) < n := by omega
          have hj0 : (0 : Int) ≤ (j : Int) := by omega
          obtain ⟨x, hx⟩ : ∃ x, j % X = x := ⟨_, rfl⟩
          obtain ⟨d, hd'⟩ : ∃ d, j / X = d := ⟨_, rfl⟩
          obtain ⟨z, hz⟩ : ∃ z, d % Z = z := ⟨_, rfl⟩
          obtain ⟨y, hy⟩ : ∃ y, d / Z = y := ⟨_, rfl⟩
          have hbx := GlowP.at_box (X := X) (Y := 64) (Z := Z) (i := j) (by have := HXYZ.out; omega)
          rw [hd', hx, hz, hy] at hbx
          obtain ⟨hxX, hzZ, hyY⟩ := hbx
          have hdj : d ≤ j := by rw [← hd']; exact Nat.div_le_self _ _
          have hYY := Lib.hid (show y = j / X / Z by rw [hd', hy])
          have m1 : (j : Int).tmod X = (x : Int) := rem_nl hx
          have q1' : (j : Int) / (X : Int) = (d : Int) := quo_nl hd'
          have m2 : (d : Int).tmod Z = (z : Int) := rem_nl hz
          have q2' : (d : Int) / (Z : Int) = (y : Int) := quo_nl hy
          have VD := Lib.hid (wrap_small (d := d) (by omega))
          have VY := Lib.hid (wrap_small (d := y) (by omega))
          obtain ⟨ax, hax⟩ : ∃ ax : Int, px + (x : Int) = ax := ⟨_, rfl⟩
          obtain ⟨az, haz⟩ : ∃ az : Int, pz + (z : Int) = az := ⟨_, rfl⟩
          have EX := Lib.hid hax
          have EZ := Lib.hid haz
          have WX := Lib.hid (show IntKind.i64.wrap ax = ax from BitsP.wrapI_small (by omega) (by omega))
          have WZ := Lib.hid (show IntKind.i64.wrap az = az from BitsP.wrapI_small (by omega) (by omega))
          have HMAY := Lib.hid (show PlaceW.mayB ax y az = true by
            simp only [PlaceW.mayB, PlaceW.inB, Bool.and_eq_true, decide_eq_true_eq]
            omega)
          obtain ⟨⟨a0, a1⟩, hcol⟩ : ∃ c, colL y = c := ⟨_, rfl⟩
          have HCOL := Lib.hid hcol
          have hlit : (lightA X 64 Z (landB X Z))[j]? = some (a0, a1) := by rw [land_plain (by rw [HXYZ.out]; exact hlt), ← hYY.out, hcol]
          obtain ⟨y0, y1⟩ := lit2 (HG4.out.below hb) hlit
          have hg4 : g4 < wr.heap.size := by have := hb.size; omega
          have hpx := HPX.out
          have hpz := HPZ.out
          clear hx hd' hz hy hax haz hcol hbk hpk hb hlit
          go_wp2_with fail
          refine wp_region_noPanic ?_
          refine wp_region_held_drew (S := fun W => Below wr.heap.size wr W) (by kernel_rfl) ((Below.refl _ wr).drew) (fun hHeld => ?_)
          refine wpAnyH_take (i := 0) (oi := ⟨some 91, _, _, _, _, _⟩) (v := .slice (some ⟨g4, 0, none⟩) n n) rfl (by kernel_rfl) (by kernel_rfl) (by kernel_rfl) (fun _ _ _ h => h) (Or.inl ⟨by rfl, fun W hSW => by go_simp⟩) hHeld ?_
          simp only [Act.put, List.setIfInBounds_toArray, List.set_cons_zero, List.set_cons_succ]
          refine wpAnyH_take (i := 1) (oi := ⟨some 92, _, _, _, _, _⟩) (v := .int .i64 j) rfl (by kernel_rfl) (by kernel_rfl) (by kernel_rfl) (fun _ _ _ h => h) (Or.inl ⟨by rfl, fun W hSW => by go_simp⟩) hHeld ?_
          simp only [Act.put, List.setIfInBounds_toArray, List.set_cons_zero, List.set_cons_succ]
          refine wpAnyH_take (i := 2) (oi := ⟨some 93, _, _, _, _, _⟩) (v := .pointer (some ⟨g4, j * 2, none⟩)) rfl (by kernel_rfl) (by kernel_rfl) (by kernel_rfl) (fun _ _ _ h => h) (Or.inl ⟨by rfl, fun W hSW => by go_simp⟩) hHeld ?_
          simp only [Act.put, List.setIfInBounds_toArray, List.set_cons_zero, List.set_cons_succ]
          refine wpAnyH_take (i := 3) (oi := ⟨some 94, _, _, _, _, _⟩) (v := .agg #[.int .u8 a0, .int .u8 a1]) rfl (by kernel_rfl) (by kernel_rfl) (by kernel_rfl) (fun _ _ _ h => h) (Or.inl ⟨by rfl, fun W hSW => by have a0 := (hSW.cell (p := ⟨g4, j * 2, none⟩) hg4).trans y0; have a1 := (hSW.cell (p := ⟨g4, j * 2 + 1, none⟩) hg4).trans y1; go_simp⟩) hHeld ?_
          simp only [Act.put, List.setIfInBounds_toArray, List.set_cons_zero, List.set_cons_succ]
          refine wpAnyH_take (i := 4) (oi := ⟨some 95, _, _, _, _, _⟩) (v := .pointer (some ⟨w.heap.size, 0, none⟩)) rfl (by kernel_rfl) (by kernel_rfl) (by kernel_rfl) (fun _ _ _ h => h) (Or.inl ⟨by rfl, fun W hSW => by go_simp⟩) hHeld ?_
          simp only [Act.put, List.setIfInBounds_toArray, List.set_cons_zero, List.set_cons_succ]
          refine wpAnyH_take (i := 5) (oi := ⟨some 96, _, _, _, _, _⟩) (v := .int .i64 P0) rfl (by kernel_rfl) (by kernel_rfl) (by kernel_rfl) (fun _ _ _ h => h) (Or.inl ⟨by rfl, fun W hSW => by have a0 := (hSW.cell (p := ⟨w.heap.size, 0, none⟩) hzp).trans l0; go_simp⟩) hHeld ?_
          simp only [Act.put, List.setIfInBounds_toArray, List.set_cons_zero, List.set_cons_succ]
          refine wpAnyH_take (i := 6) (oi := ⟨some 97, _, _, _, _, _⟩) (v := .int .i64 px) rfl (by kernel_rfl) (by kernel_rfl) (by kernel_rfl) (fun _ _ _ h => h) (Or.inl ⟨by rfl, fun W hSW => by go_simp⟩) hHeld ?_
          simp only [Act.put, List.setIfInBounds_toArray, List.set_cons_zero, List.set_cons_succ]
          refine wpAnyH_take (i := 7) (oi := ⟨some 98, _, _, _, _, _⟩) (v := .int .i64 j) rfl (by kernel_rfl) (by kernel_rfl) (by kernel_rfl) (fun _ _ _ h => h) (Or.inl ⟨by rfl, fun W hSW => by go_simp⟩) hHeld ?_
          simp only [Act.put, List.setIfInBounds_toArray, List.set_cons_zero, List.set_cons_succ]
          refine wpAnyH_take (i := 8) (oi := ⟨some 99, _, _, _, _, _⟩) (v := .pointer (some ⟨w.heap.size + 1, 0, none⟩)) rfl (by kernel_rfl) (by kernel_rfl) (by kernel_rfl) (fun _ _ _ h => h) (Or.inl ⟨by rfl, fun W hSW => by go_simp⟩) hHeld ?_
          simp only [Act.put, List.setIfInBounds_toArray, List.set_cons_zero, List.set_cons_succ]
          refine wpAnyH_take (i := 9) (oi := ⟨some 100, _, _, _, _, _⟩) (v := .int .i64 X) rfl (by kernel_rfl) (by kernel_rfl) (by kernel_rfl) (fun _ _ _ h => h) (Or.inl ⟨by rfl, fun W hSW => by have a0 := (hSW.cell (p := ⟨w.heap.size + 1, 0, none⟩) hzb).trans k0; go_simp⟩) hHeld ?_
          simp only [Act.put, List.setIfInBounds_toArray, List.set_cons_zero, List.set_cons_succ]
          refine wpAnyH_take (i := 10) (oi := ⟨some 101, _, _, _, _, _⟩) (v := .int .i64 x) rfl (by kernel_rfl) (by kernel_rfl) (by kernel_rfl) (fun _ _ _ h => h) (Or.inl ⟨by rfl, fun W hSW => by go_simp⟩) hHeld ?_
          simp only [Act.put, List.setIfInBounds_toArray, List.set_cons_zero, List.set_cons_succ]
          refine wpAnyH_take (i := 11) (oi := ⟨some 102, _, _, _, _, _⟩) (v := .int .i64 ax) rfl (by kernel_rfl) (by kernel_rfl) (by kernel_rfl) (fun _ _ _ h => h) (Or.inl ⟨by rfl, fun W hSW => by go_simp <;> first | exact WX.out | exact EX.out | (rw [EX.out]; exact WX.out)⟩) hHeld ?_
          simp only [Act.put, List.setIfInBounds_toArray, List.set_cons_zero, List.set_cons_succ]
          refine wpAnyH_take (i := 12) (oi := ⟨some 103, _, _, _, _, _⟩) (v := .int .i64 j) rfl (by kernel_rfl) (by kernel_rfl) (by kernel_rfl) (fun _ _ _ h => h) (Or.inl ⟨by rfl, fun W hSW => by go_simp⟩) hHeld ?_
          simp only [Act.put, List.setIfInBounds_toArray, List.set_cons_zero, List.set_cons_succ]
          refine wpAnyH_take (i := 13) (oi := ⟨some 104, _, _, _, _, _⟩) (v := .pointer (some ⟨w.heap.size + 1, 0, none⟩)) rfl (by kernel_rfl) (by kernel_rfl) (by kernel_rfl) (fun _ _ _ h => h) (Or.inl ⟨by rfl, fun W hSW => by go_simp⟩) hHeld ?_
          simp only [Act.put, List.setIfInBounds_toArray, List.set_cons_zero, List.set_cons_succ]
          refine wpAnyH_take (i := 14) (oi := ⟨some 105, _, _, _, _, _⟩) (v := .int .i64 X) rfl (by kernel_rfl) (by kernel_rfl) (by kernel_rfl) (fun _ _ _ h => h) (Or.inl ⟨by rfl, fun W hSW => by have a0 := (hSW.cell (p := ⟨w.heap.size + 1, 0, none⟩) hzb).trans k0; go_simp⟩) hHeld ?_
          simp only [Act.put, List.setIfInBounds_toArray, List.set_cons_zero, List.set_cons_succ]
          refine wpAnyH_take (i := 15) (oi := ⟨some 106, _, _, _, _, _⟩) (v := .int .i64 d) rfl (by kernel_rfl) (by kernel_rfl) (by kernel_rfl) (fun _ _ _ h => h) (Or.inl ⟨by rfl, fun W hSW => by go_simp <;> exact VD.out⟩) hHeld ?_
          simp only [Act.put, List.setIfInBounds_toArray, List.set_cons_zero, List.set_cons_succ]
          refine wpAnyH_take (i := 16) (oi := ⟨some 107, _, _, _, _, _⟩) (v := .pointer (some ⟨w.heap.size + 1, 2, none⟩)) rfl (by kernel_rfl) (by kernel_rfl) (by kernel_rfl) (fun _ _ _ h => h) (Or.inl ⟨by rfl, fun W hSW => by go_simp⟩) hHeld ?_
          simp only [Act.put, List.setIfInBounds_toArray, List.set_cons_zero, List.set_cons_succ]
          refine wpAnyH_take (i := 17) (oi := ⟨some 108, _, _, _, _, _⟩) (v := .int .i64 Z) rfl (by kernel_rfl) (by kernel_rfl) (by kernel_rfl) (fun _ _ _ h => h) (Or.inl ⟨by rfl, fun W hSW => by have a0 := (hSW.cell (p := ⟨w.heap.size + 1, 2, none⟩) hzb).trans k2; go_simp⟩) hHeld ?_
          simp only [Act.put, List.setIfInBounds_toArray, List.set_cons_zero, List.set_cons_succ]
          refine wpAnyH_take (i := 18) (oi := ⟨some 109, _, _, _, _, _⟩) (v := .int .i64 y) rfl (by kernel_rfl) (by kernel_rfl) (by kernel_rfl) (fun _ _ _ h => h) (Or.inl ⟨by rfl, fun W hSW => by go_simp <;> exact VY.out⟩) hHeld ?_
          simp only [Act.put, List.setIfInBounds_toArray, List.set_cons_zero, List.set_cons_succ]
          refine wpAnyH_take (i := 19) (oi := ⟨some 110, _, _, _, _, _⟩) (v := .pointer (some ⟨w.heap.size, 2, none⟩)) rfl (by kernel_rfl) (by kernel_rfl) (by kernel_rfl) (fun _ _ _ h => h) (Or.inl ⟨by rfl, fun W hSW => by go_simp⟩) hHeld ?_
          simp only [Act.put, List.setIfInBounds_toArray, List.set_cons_zero, List.set_cons_succ]
          refine wpAnyH_take (i := 20) (oi := ⟨some 111, _, _, _, _, _⟩) (v := .int .i64 P2) rfl (by kernel_rfl) (by kernel_rfl) (by kernel_rfl) (fun _ _ _ h => h) (Or.inl ⟨by rfl, fun W hSW => by have a0 := (hSW.cell (p := ⟨w.heap.size, 2, none⟩) hzp).trans l2; go_simp⟩) hHeld ?_
          simp only [Act.put, List.setIfInBounds_toArray, List.set_cons_zero, List.set_cons_succ]
          refine wpAnyH_take (i := 21) (oi := ⟨some 112, _, _, _, _, _⟩) (v := .int .i64 pz) rfl (by kernel_rfl) (by kernel_rfl) (by kernel_rfl) (fun _ _ _ h => h) (Or.inl ⟨by rfl, fun W hSW => by go_simp⟩) hHeld ?_
          simp only [Act.put, List.setIfInBounds_toArray, List.set_cons_zero, List.set_cons_succ]
          refine wpAnyH_take (i := 22) (oi := ⟨some 113, _, _, _, _, _⟩) (v := .int .i64 j) rfl (by kernel_rfl) (by kernel_rfl) (by kernel_rfl) (fun _ _ _ h => h) (Or.inl ⟨by rfl, fun W hSW => by go_simp⟩) hHeld ?_
          simp only [Act.put, List.setIfInBounds_toArray, List.set_cons_zero, List.set_cons_succ]
          refine wpAnyH_take (i := 23) (oi := ⟨some 114, _, _, _, _, _⟩) (v := .pointer (some ⟨w.heap.size + 1, 0, none⟩)) rfl (by kernel_rfl) (by kernel_rfl) (by kernel_rfl) (fun _ _ _ h => h) (Or.inl ⟨by rfl, fun W hSW => by go_simp⟩) hHeld ?_
          simp only [Act.put, List.setIfInBounds_toArray, List.set_cons_zero, List.set_cons_succ]
          refine wpAnyH_take (i := 24) (oi := ⟨some 115, _, _, _, _, _⟩) (v := .int .i64 X) rfl (by kernel_rfl) (by kernel_rfl) (by kernel_rfl) (fun _ _ _ h => h) (Or.inl ⟨by rfl, fun W hSW => by have a0 := (hSW.cell (p := ⟨w.heap.size + 1, 0, none⟩) hzb).trans k0; go_simp⟩) hHeld ?_
          simp only [Act.put, List.setIfInBounds_toArray, List.set_cons_zero, List.set_cons_succ]
          refine wpAnyH_take (i := 25) (oi := ⟨some 116, _, _, _, _, _⟩) (v := .int .i64 d) rfl (by kernel_rfl) (by kernel_rfl) (by kernel_rfl) (fun _ _ _ h => h) (Or.inl ⟨by rfl, fun W hSW => by go_simp <;> exact VD.out⟩) hHeld ?_
          simp only [Act.put, List.setIfInBounds_toArray, List.set_cons_zero, List.set_cons_succ]
          refine wpAnyH_take (i := 26) (oi := ⟨some 117, _, _, _, _, _⟩) (v := .pointer (some ⟨w.heap.size + 1, 2, none⟩)) rfl (by kernel_rfl) (by kernel_rfl) (by kernel_rfl) (fun _ _ _ h => h) (Or.inl ⟨by rfl, fun W hSW => by go_simp⟩) hHeld ?_
          simp only [Act.put, List.setIfInBounds_toArray, List.set_cons_zero, List.set_cons_succ]
          refine wpAnyH_take (i := 27) (oi := ⟨some 118, _, _, _, _, _⟩) (v := .int .i64 Z) rfl (by kernel_rfl) (by kernel_rfl) (by kernel_rfl) (fun _ _ _ h => h) (Or.inl ⟨by rfl, fun W hSW => by have a0 := (hSW.cell (p := ⟨w.heap.size + 1, 2, none⟩) hzb).trans k2; go_simp⟩) hHeld ?_
          simp only [Act.put, List.setIfInBounds_toArray, List.set_cons_zero, List.set_cons_succ]
          refine wpAnyH_take (i := 28) (oi := ⟨some 119, _, _, _, _, _⟩) (v := .int .i64 z) rfl (by kernel_rfl) (by kernel_rfl) (by kernel_rfl) (fun _ _ _ h => h) (Or.inl ⟨by rfl, fun W hSW => by go_simp⟩) hHeld ?_
          simp only [Act.put, List.setIfInBounds_toArray, List.set_cons_zero, List.set_cons_succ]
          refine wpAnyH_take (i := 29) (oi := ⟨some 120, _, _, _, _, _⟩) (v := .int .i64 az) rfl (by kernel_rfl) (by kernel_rfl) (by kernel_rfl) (fun _ _ _ h => h) (Or.inl ⟨by rfl, fun W hSW => by go_simp <;> first | exact WZ.out | exact EZ.out | (rw [EZ.out]; exact WZ.out)⟩) hHeld ?_
          simp only [Act.put, List.setIfInBounds_toArray, List.set_cons_zero, List.set_cons_succ]
          refine wpAnyH_take (i := 30) (oi := ⟨some 121, _, _, _, _, _⟩) (v := .agg #[.int .i64 ax, .int .i64 y, .int .i64 az]) rfl (by kernel_rfl) (by kernel_rfl) (by kernel_rfl) (fun _ _ _ h => h) (Or.inl ⟨by rfl, fun W hSW => by go_simp⟩) hHeld ?_
          simp only [Act.put, List.setIfInBounds_toArray, List.set_cons_zero, List.set_cons_succ]
          refine wpAnyH_ready (rs := [31]) (by kernel_rfl) (by simp) ?_
          refine AllReadyH.cons (o := ⟨some 122, _, _, _, _, _⟩) rfl (fun K hK => ?_) AllReadyH.nil
          go_simp
          refine (LandP.light_g HMAY.out HCOL.out).mono ?_
          rintro e w6 ⟨rfl, hb6⟩
          go_wp2_with fail
          refine hK.out _ _ (below_t hHeld hb6) (fun hHeld => ?_)
          clear hK K hb6
          refine wpAnyH_take (i := 32) (oi := ⟨some 123, _, _, _, _, _⟩) (v := .bool false) rfl (by kernel_rfl) (by kernel_rfl) (by kernel_rfl) (fun _ _ _ h => h) (Or.inl ⟨by rfl, fun W hSW => by go_simp⟩) hHeld ?_
          simp only [Act.put, List.setIfInBounds_toArray, List.set_cons_zero, List.set_cons_succ]
          refine wpAnyH_done (by kernel_rfl) ?_ _
          refine NoPanic.normal ?_
          clear m1 m2 q1' q2' hpx hpz
          go_wp2_with fail
          go_roundw
          case rel => exact ⟨j + 1, by go_num, by omega, HBJ.out.trans (hHeld.mono HBJ.out.size)⟩
          case measure => first | (simp [intOf]; done) | (simp [intOf]; omega)
        · obtain rfl : n = j := by omega
          have HWr := Lib.hid (show Below w.heap.size w wr from HW4.out.trans (hb.mono HW4.out.size))
          clear hb hbk hpk
          go_wp2_with (go_at_call 13; refine (works_c (HT.out.below (by have hbo := HWr.out; (repeat' (first | (with_reducible exact Below.refl _ _) | (with_reducible refine Below.setCell ?_ (by (first | omega | (simp; done) | (simp; omega))) _) | (with_reducible refine Below.alloc ?_ (by (first | omega | (simp; done) | (simp; omega))) _) | (with_reducible refine Below.drew ?_) | (with_reducible refine below_drewN ?_ _) | (with_reducible refine Below.trans ?_ (Below.mono hbo (by (first | omega | (simp; done) | (simp; omega)))))))))).mono ?_; rintro e wz ⟨rfl, hbz⟩)
          go_ret
          have hbo := HWr.out
          exact ⟨rfl, hbo.trans (hbz.mono hbo.size)⟩
theorem law_land {w : World} {P0 P1 P2 a b : Int} (hT : Tab w) (hL2 : LandP.LTab w) (_ : -9223372036854775808 ≤ P0) (_ : P0 ≤ 9223372036854775807) (_ : -9223372036854775808 ≤ P2) (_ : P2 ≤ 9223372036854775807) (l1 : 0 ≤ a) (u1 : a ≤ 255) (l2 : 0 ≤ b) (u2 : b ≤ 255) :
    Calls Tryd.prog 10 #[.agg #[.int .i64 P0, .int .i64 P1, .int .i64 P2], .int .u8 a, .int .u8 b] w (HoldsP w) := by
  obtain ⟨s, rfl⟩ := Int.eq_ofNat_of_zero_le l1
  obtain ⟨t, rfl⟩ := Int.eq_ofNat_of_zero_le l2
  exact land_of hT hL2 (by omega) (by omega)
end GlowW
end Go.Proofs.YtbkadecfmjjadaaDoor
