/-
  The walk of Each of the reference: the places of a box, as a slice of its own.
-/
import Derived.Test.YtokkomglbddgcaaPlaceRBox
import Derived.Test.YtokkomglbddgcaaPlaceSeq
import Derived.Test.YtokkomglbddgcaaHeldQ
import Derived.LoopTactic
import Derived.Maps.AppendAt
import Derived.Deep.AppendLies
import Derived.OwnWalk
import Derived.Handy
import Derived.Outline
namespace Go.Proofs.Ytokkomglbddgcaa
open Go.RowKit
set_option linter.unusedSimpArgs false
set_option linter.unusedVariables false
namespace PlaceW
open BitsP

/-- A place's cells. -/
def cellsP (p : Int × Int × Int) : List Value := [.int .i64 p.1, .int .i64 p.2.1, .int .i64 p.2.2]
/-- A row's cells. -/
def cellsL (xs : List (Int × Int × Int)) : List Value := xs.flatMap cellsP
theorem cellsL_snoc (xs : List (Int × Int × Int)) (p : Int × Int × Int) : cellsL (xs ++ [p]) = cellsL xs ++ cellsP p := by simp [cellsL]
theorem cellsL_length (xs : List (Int × Int × Int)) : (cellsL xs).length = xs.length * 3 := by
  induction xs with
  | nil => rfl
  | cons x xs ih =>
    have : cellsL (x :: xs) = cellsP x ++ cellsL xs := rfl
    rw [this, List.length_append, ih]
    simp [cellsP]
    omega
theorem infoPlace : (Try.prog.info? 23).map (fun i => (i.zero, i.size, i.bytes)) = some (some (.agg #[.int .i64 0, .int .i64 0, .int .i64 0]), 3, 24) := by kernel_rfl
/-- What Each of the reference leaves. -/
def REachPost (xs : List (Int × Int × Int)) (w : World) (e : Ending) (w' : World) : Prop := ∃ (v : Value) (base : Nat), e = .returned v ∧ w.heap.size ≤ base ∧ w'.ownsRow base 23 3 v xs.length (cellsL xs) ∧ Below w.heap.size w w'
theorem ownsRow_below {W W' : World} {base n size : Nat} {t : TypeId} {v : Value} {xs : List Value} {B : Nat} (hb : Below B W W') (h : W.ownsRow base t size v n xs) (hv : ∀ g, v.ownBlock = some g → g < B) : W'.ownsRow base t size v n xs := by
  refine ⟨h.1, ?_⟩
  rcases h.2 with h2 | ⟨g, cap, cur, rfl, hg, hh, r⟩
  · exact .inl h2
  · exact .inr ⟨g, cap, cur, rfl, hg, (hb.block g (hv g rfl)).trans hh, r⟩

theorem ownBlock_ge {W : World} {base n size : Nat} {t : TypeId} {v : Value} {xs : List Value} (h : W.ownsRow base t size v n xs) : ∀ g, v.ownBlock = some g → base ≤ g := by
  intro g hg
  rcases h.2 with ⟨rfl, _⟩ | ⟨g', cap, cur, rfl, hb, _⟩
  · cases hg
  · cases hg
    exact hb

set_option maxRecDepth 100000 in
set_option maxHeartbeats 4000000 in
theorem r_each_ok {x y z u v t l1 l2 l3 h1 h2 h3 bn : Int} (h : boxOf x y z u v t = ⟨l1, l2, l3, h1, h2, h3, bn, 0⟩) (nx ny nz : Nat) (hx : h1 = l1 + nx - 1) (hy : h2 = l2 + ny - 1) (hz : h3 = l3 + nz - 1)
    (b1 : -1048576 ≤ l1) (b2 : -1048576 ≤ l2) (b3 : -1048576 ≤ l3) (c1 : h1 < 1048576) (c2 : h2 < 1048576) (c3 : h3 < 1048576) (hn : (bn == 0) = false) (hN : ny * (nz * nx) ≤ 512) (w : World) :
    Calls Try.prog 34 #[.agg #[.int .i64 x, .int .i64 y, .int .i64 z], .agg #[.int .i64 u, .int .i64 v, .int .i64 t]] w (REachPost (boxL l1 l2 l3 nx nz ny) w) := by
  obtain ⟨i0, hi, hz0, hz1, hz2⟩ := info_parts infoPlace
  have HI := Lib.hid hi
  have HZ0 := Lib.hid hz0
  have HZ1 := Lib.hid hz1
  have HZ2 := Lib.hid hz2
  have H := Lib.hid h
  have HX := Lib.hid hx
  have HY := Lib.hid hy
  have HZ := Lib.hid hz
  clear h hx hy hz hi hz0 hz1 hz2
  go_enter Try.func34, Try.ntmps34
  go_wp2_with fail
  go_at_call 33
  refine (r_box_c H.out _).mono ?_
  rintro e w1 ⟨rfl, hb1⟩
  have hs1 := hb1.size
  try simp at hs1
  obtain ⟨c1_0_0, c1_0_1, c1_0_2, l1_0, c1_1_0, c1_1_1, c1_1_2, l1_1⟩ : w1.cell? ⟨w.heap.size, 0, none⟩ = some (.int .i64 x) ∧ w1.cell? ⟨w.heap.size, 1, none⟩ = some (.int .i64 y) ∧ w1.cell? ⟨w.heap.size, 2, none⟩ = some (.int .i64 z) ∧ w.heap.size < w1.heap.size ∧ w1.cell? ⟨w.heap.size + 1, 0, none⟩ = some (.int .i64 u) ∧ w1.cell? ⟨w.heap.size + 1, 1, none⟩ = some (.int .i64 v) ∧ w1.cell? ⟨w.heap.size + 1, 2, none⟩ = some (.int .i64 t) ∧ w.heap.size + 1 < w1.heap.size := by
    refine ⟨?_, ?_, ?_, ?_, ?_, ?_, ?_, ?_⟩
    all_goals (repeat' (first | (with_reducible assumption) | (with_reducible refine HeldP.c_below hb1 ?_ ?_) | (with_reducible refine HeldP.f_below hb1 ?_ ?_) | (with_reducible refine HeldP.c_drew ?_) | (with_reducible refine HeldP.c_drewN ?_) | (with_reducible refine HeldP.c_same (by omega) ?_) | (with_reducible refine HeldP.c_other ?_ ?_) | (with_reducible refine HeldP.c_new (by first | omega | (simp; done) | (simp; omega)) ?_) | (with_reducible refine HeldP.c_alloc ?_ ?_) | (with_reducible refine HeldP.e_drew ?_) | (with_reducible refine HeldP.e_drewN ?_) | (with_reducible refine HeldP.e_set ?_) | (with_reducible refine HeldP.e_new (by first | omega | (simp; done) | (simp; omega)) ⟨_, rfl⟩) | (with_reducible refine HeldP.e_alloc ?_ ?_) | (with_reducible refine HeldP.f_drew ?_) | (with_reducible refine HeldP.f_drewN ?_) | (with_reducible refine HeldP.f_set ?_) | (with_reducible refine HeldP.f_new (by first | omega | (simp; done) | (simp; omega))) | (with_reducible refine HeldP.f_alloc ?_ ?_) | (with_reducible refine HeldP.s_drew ?_) | (with_reducible refine HeldP.s_drewN ?_) | (with_reducible refine HeldP.s_set ?_) | (with_reducible refine HeldP.s_new (by first | omega | (simp; done) | (simp; omega))) | (with_reducible refine HeldP.s_alloc ?_) | (with_reducible exact ⟨_, by assumption⟩) | omega | (intro e; simp at e; done) | (intro e; simp at e; omega) | (exact rfl) | (simp; done) | (simp; omega)))
  have n1_0 : w.heap.size ≠ w1.heap.size := (by omega)
  have n1_1 : w.heap.size + 1 ≠ w1.heap.size := (by omega)
  have z1 : w.heap.size ≤ w1.heap.size := (by omega)
  have HB1 := Lib.hid (show Below w.heap.size w w1 by (repeat' (first | (with_reducible exact Below.refl _ _) | (with_reducible refine Below.setCell ?_ (by (first | omega | (simp; done) | (simp; omega))) _) | (with_reducible refine Below.alloc ?_ (by (first | omega | (simp; done) | (simp; omega))) _) | (with_reducible refine Below.drew ?_) | (with_reducible refine below_drewN ?_ _) | (with_reducible refine Below.trans ?_ (Below.mono hb1 (by (first | omega | (simp; done) | (simp; omega))))))))
  clear hb1 hs1
  go_wp2_with fail
  have HBo := HB1.out
  refine HeldP.wp_named (fun w' => w'.cell? ⟨w1.heap.size, 0, none⟩ = some (.int .i64 l1) ∧ w'.cell? ⟨w1.heap.size, 1, none⟩ = some (.int .i64 l2) ∧ w'.cell? ⟨w1.heap.size, 2, none⟩ = some (.int .i64 l3) ∧ w'.cell? ⟨w1.heap.size + 1, 0, none⟩ = some (.int .i64 h1) ∧ w'.cell? ⟨w1.heap.size + 1, 1, none⟩ = some (.int .i64 h2) ∧ w'.cell? ⟨w1.heap.size + 1, 2, none⟩ = some (.int .i64 h3) ∧ w1.heap.size + 1 < w'.heap.size ∧ Below w.heap.size w w') (by (refine ⟨?_, ?_, ?_, ?_, ?_, ?_, ?_, by (repeat' (first | (with_reducible exact Below.refl _ _) | (with_reducible refine Below.setCell ?_ (by (first | omega | (simp; done) | (simp; omega))) _) | (with_reducible refine Below.alloc ?_ (by (first | omega | (simp; done) | (simp; omega))) _) | (with_reducible refine Below.drew ?_) | (with_reducible refine below_drewN ?_ _) | (with_reducible refine Below.trans ?_ (Below.mono HBo (by (first | omega | (simp; done) | (simp; omega)))))))⟩); all_goals (repeat' (first | (with_reducible assumption) | (with_reducible refine HeldP.c_drew ?_) | (with_reducible refine HeldP.c_drewN ?_) | (with_reducible refine HeldP.c_same (by omega) ?_) | (with_reducible refine HeldP.c_other ?_ ?_) | (with_reducible refine HeldP.c_new (by first | omega | (simp; done) | (simp; omega)) ?_) | (with_reducible refine HeldP.c_alloc ?_ ?_) | (with_reducible refine HeldP.e_drew ?_) | (with_reducible refine HeldP.e_drewN ?_) | (with_reducible refine HeldP.e_set ?_) | (with_reducible refine HeldP.e_new (by first | omega | (simp; done) | (simp; omega)) ⟨_, rfl⟩) | (with_reducible refine HeldP.e_alloc ?_ ?_) | (with_reducible refine HeldP.f_drew ?_) | (with_reducible refine HeldP.f_drewN ?_) | (with_reducible refine HeldP.f_set ?_) | (with_reducible refine HeldP.f_new (by first | omega | (simp; done) | (simp; omega))) | (with_reducible refine HeldP.f_alloc ?_ ?_) | (with_reducible refine HeldP.s_drew ?_) | (with_reducible refine HeldP.s_drewN ?_) | (with_reducible refine HeldP.s_set ?_) | (with_reducible refine HeldP.s_new (by first | omega | (simp; done) | (simp; omega))) | (with_reducible refine HeldP.s_alloc ?_) | (with_reducible exact ⟨_, by assumption⟩) | omega | (intro e; simp at e; done) | (intro e; simp at e; omega) | (exact rfl) | (simp; done) | (simp; omega)))) ?_
  clear HBo
  rintro W0 ⟨cL0, cL1, cL2, cH0, cH1, cH2, hsz, hBW⟩
  have HBW := Lib.hid hBW
  have zW := hBW.size
  clear hBW
  clear HB1 c1_0_0 c1_0_1 c1_0_2 l1_0 c1_1_0 c1_1_1 c1_1_2 l1_1 n1_0 n1_1 z1
  go_loopw [9, 10] (fun v y wr => ∃ k : Nat, k ≤ ny ∧ y = .int .i64 (l2 + k) ∧ wr.ownsRow W0.heap.size 23 3 v (boxL l1 l2 l3 nx nz k).length (cellsL (boxL l1 l2 l3 nx nz k)) ∧ Below W0.heap.size W0 wr) (fun _ y _ => (h2 + 1 - intOf y).toNat)
  case atStart => exact ⟨0, Nat.zero_le _, by simp, World.ownsRow_nil _ _ _ _, Below.refl _ _⟩
  case round =>
    obtain ⟨k, hk, rfl, hO, hB⟩ := hrel
    have d0 := (hB.cell (p := ⟨w1.heap.size, 0, none⟩) (by (show w1.heap.size < _); omega)).trans cL0
    have d1 := (hB.cell (p := ⟨w1.heap.size, 1, none⟩) (by (show w1.heap.size < _); omega)).trans cL1
    have d2 := (hB.cell (p := ⟨w1.heap.size, 2, none⟩) (by (show w1.heap.size < _); omega)).trans cL2
    have g0 := (hB.cell (p := ⟨w1.heap.size + 1, 0, none⟩) (by (show w1.heap.size + 1 < _); omega)).trans cH0
    have g1 := (hB.cell (p := ⟨w1.heap.size + 1, 1, none⟩) (by (show w1.heap.size + 1 < _); omega)).trans cH1
    have g2 := (hB.cell (p := ⟨w1.heap.size + 1, 2, none⟩) (by (show w1.heap.size + 1 < _); omega)).trans cH2
    by_cases hlt : k < ny
    · have q1 : l2 + (k : Int) ≤ h2 := by have := HY.out; omega
      have t1 : decide (l2 + (k : Int) ≤ h2) = true := decide_eq_true q1
      go_wp2
      clear d0 d1 d2 g0 g1 g2
      obtain ⟨wo, rfl⟩ : ∃ wo : World, wo = wr := ⟨_, rfl⟩
      go_loopw [9, 11] (fun v z wr => ∃ m : Nat, m ≤ nz ∧ z = .int .i64 (l3 + m) ∧ wr.ownsRow W0.heap.size 23 3 v (boxL l1 l2 l3 nx nz k ++ layZ l1 l3 (l2 + k) nx m).length (cellsL (boxL l1 l2 l3 nx nz k ++ layZ l1 l3 (l2 + k) nx m)) ∧ Below W0.heap.size W0 wr) (fun _ z _ => (h3 + 1 - intOf z).toNat)
      case atStart => exact ⟨0, Nat.zero_le _, by simp, by simpa [layZ] using hO, hB⟩
      case round =>
        clear hO hB
        obtain ⟨m, hm, rfl, hO, hB⟩ := hrel
        have d0 := (hB.cell (p := ⟨w1.heap.size, 0, none⟩) (by (show w1.heap.size < _); omega)).trans cL0
        have d1 := (hB.cell (p := ⟨w1.heap.size, 1, none⟩) (by (show w1.heap.size < _); omega)).trans cL1
        have d2 := (hB.cell (p := ⟨w1.heap.size, 2, none⟩) (by (show w1.heap.size < _); omega)).trans cL2
        have g0 := (hB.cell (p := ⟨w1.heap.size + 1, 0, none⟩) (by (show w1.heap.size + 1 < _); omega)).trans cH0
        have g1 := (hB.cell (p := ⟨w1.heap.size + 1, 1, none⟩) (by (show w1.heap.size + 1 < _); omega)).trans cH1
        have g2 := (hB.cell (p := ⟨w1.heap.size + 1, 2, none⟩) (by (show w1.heap.size + 1 < _); omega)).trans cH2
        by_cases hlm : m < nz
        · have q2 : l3 + (m : Int) ≤ h3 := by have := HZ.out; omega
          have t2 : decide (l3 + (m : Int) ≤ h3) = true := decide_eq_true q2
          go_wp2
          clear d0 d1 d2 g0 g1 g2
          obtain ⟨wp, rfl⟩ : ∃ wp : World, wp = wr := ⟨_, rfl⟩
          go_loopw [9, 12] (fun v x wr => ∃ j : Nat, j ≤ nx ∧ x = .int .i64 (l1 + j) ∧ wr.ownsRow W0.heap.size 23 3 v (boxL l1 l2 l3 nx nz k ++ (layZ l1 l3 (l2 + k) nx m ++ rowX l1 (l2 + k) (l3 + m) j)).length (cellsL (boxL l1 l2 l3 nx nz k ++ (layZ l1 l3 (l2 + k) nx m ++ rowX l1 (l2 + k) (l3 + m) j))) ∧ Below W0.heap.size W0 wr) (fun _ x _ => (h1 + 1 - intOf x).toNat)
          case atStart => exact ⟨0, Nat.zero_le _, by simp, by simpa [rowX] using hO, hB⟩
          case round =>
            clear hO hB
            obtain ⟨j, hj, rfl, hO, hB⟩ := hrel
            have d0 := (hB.cell (p := ⟨w1.heap.size, 0, none⟩) (by (show w1.heap.size < _); omega)).trans cL0
            have d1 := (hB.cell (p := ⟨w1.heap.size, 1, none⟩) (by (show w1.heap.size < _); omega)).trans cL1
            have d2 := (hB.cell (p := ⟨w1.heap.size, 2, none⟩) (by (show w1.heap.size < _); omega)).trans cL2
            have g0 := (hB.cell (p := ⟨w1.heap.size + 1, 0, none⟩) (by (show w1.heap.size + 1 < _); omega)).trans cH0
            have g1 := (hB.cell (p := ⟨w1.heap.size + 1, 1, none⟩) (by (show w1.heap.size + 1 < _); omega)).trans cH1
            have g2 := (hB.cell (p := ⟨w1.heap.size + 1, 2, none⟩) (by (show w1.heap.size + 1 < _); omega)).trans cH2
            by_cases hlj : j < nx
            · have q3 : l1 + (j : Int) ≤ h1 := by have := HX.out; omega
              have t3 : decide (l1 + (j : Int) ≤ h1) = true := decide_eq_true q3
              have hpre := (box_here l1 l2 l3 hlj hlm hlt).length_le
              rw [boxL_length, List.length_append, List.length_singleton] at hpre
              obtain ⟨pl, hpl⟩ : ∃ pl, boxL l1 l2 l3 nx nz k ++ (layZ l1 l3 (l2 + k) nx m ++ rowX l1 (l2 + k) (l3 + m) j) = pl := ⟨_, rfl⟩
              have HPL := Lib.hid hpl
              rw [hpl] at hO hpre
              clear hpl
              have hsB := hB.size
              go_wp2_with (at_builtin; go_loud (refine wpList_append_own_at _ rfl _ _ 46 rfl W0.heap.size 23 i0 (.agg #[.int .i64 0, .int .i64 0, .int .i64 0]) 3 24 Try.underlying46 HI.out HZ0.out HZ1.out HZ2.out rfl (by decide) _ _ _ rfl (hO.alloc _) ⟨wr.heap.size, 0, none⟩ 1 1 (cellsP (l1 + j, l2 + k, l3 + m)) rfl rfl ?c1 ?c2 ?c3 ?c4 ?c5 ?_))
              case c1 => exact World.news_of_block (cs := #[.int .i64 (l1 + j), .int .i64 (l2 + k), .int .i64 (l3 + m)]) (t := 23) (fr := (0, 0)) (heap_alloc_new wr _)
              case c2 => simp [cellsP, Value.oneCell']
              case c3 => (unfold maxLen; omega)
              case c4 => omega
              case c5 => (simp; omega)
              intro v' w2 hO2 hgrow _ _
              have hB2 : Below W0.heap.size W0 w2 := (hB.alloc hsB _).grown hgrow (by simp; omega) (ownBlock_ge hO)
              clear hO hB hgrow
              go_wp2
              go_roundw
              case rel => exact ⟨j + 1, by omega, by go_num, by rw [rowX_succ, ← List.append_assoc, ← List.append_assoc, List.append_assoc (boxL l1 l2 l3 nx nz k), HPL.out, cellsL_snoc, List.length_append]; exact hO2, hB2⟩
              case measure => (simp only [intOf]; omega)
            · obtain rfl : j = nx := by omega
              have q3 : h1 < l1 + (j : Int) := by have := HX.out; omega
              go_wp2
              go_roundw
              case rel => exact ⟨m + 1, by omega, by go_num, by rw [layZ_succ]; exact hO, hB⟩
              case measure => (simp only [intOf]; omega)
        · obtain rfl : m = nz := by omega
          have q2 : h3 < l3 + (m : Int) := by have := HZ.out; omega
          go_wp2
          go_roundw
          case rel => exact ⟨k + 1, by omega, by go_num, by rw [boxL_succ]; exact hO, hB⟩
          case measure => (simp only [intOf]; omega)
    · obtain rfl : k = ny := by omega
      have q1 : h2 < l2 + (k : Int) := by have := HY.out; omega
      go_wp2
      go_ret
      exact ⟨_, _, rfl, zW, hO, HBW.out.trans (hB.mono zW)⟩
end PlaceW
end Go.Proofs.Ytokkomglbddgcaa
