/-
  works: a source over Air; same: are two deeds the same?
-/
import Derived.Test.YtjdoglihebfamaaDoorFlowNx
namespace Go.Proofs.YtjdoglihebfamaaDoor
open Go.RowKit
set_option linter.unusedVariables false
set_option linter.unusedSimpArgs false
namespace FlowW
open BlkP RowG FrS PushG FlowP
def src0 : Nr := {nz with s := (13, 0)}
theorem deed_src : deed src0 = [(6, (13, 1))] := by decide
set_option maxRecDepth 100000 in
set_option maxHeartbeats 16000000 in
theorem works_c {w : World} (hT : KindW.Tab w) : Calls Tryd.prog 13 #[] w fun e w' => e = .returned (.bool true) ∧ Below w.heap.size w w' := by
  have HT := Lib.hid hT
  clear hT
  go_enter Tryd.func13, Tryd.ntmps13
  go_wp2_with ((with_reducible refine at_storeN ?_); refine Classical.byContradiction (fun hG => ?_))
  refine hG ?_
  clear hG
  refine list_named (S := fun W => Below w.heap.size w W ∧ Blk W w.heap.size TN (vals nz)) ⟨by (repeat' (first | (with_reducible exact Below.refl _ _) | (with_reducible refine Below.setCell ?_ (by (first | omega | (simp; done) | (simp; omega))) _) | (with_reducible refine Below.alloc ?_ (by (first | omega | (simp; done) | (simp; omega))) _) | (with_reducible refine Below.drew ?_) | (with_reducible refine below_drewN ?_ _))), by (repeat' (first | (with_reducible refine BlkP.Blk.drew ?_) | (with_reducible refine BlkP.Blk.drewN ?_ _) | (with_reducible refine BlkP.Blk.setAt (us := ?_) (by first | omega | (simp; done) | (simp; omega)) rfl ?_ ?_) | (with_reducible refine BlkP.Blk.otherAt ?_ (by first | omega | (simp; done) | (simp; omega))) | (with_reducible refine BlkP.Blk.newA' (by first | omega | (simp; done) | (simp; omega)) rfl) | (with_reducible refine BlkP.Blk.alloc ?_ _) | (exact rfl)))⟩ ?_
  rintro w1 ⟨hb1, h1⟩
  refine wp_storeN rfl (.tmp 1) (.tmp 4) rfl rfl (n := src0) rfl h1 rfl ?_
  intro w2 h2 hg2 hz2
  have HB2 := Lib.hid (show Below w.heap.size w w2 from hb1.grown hg2 (by have := hb1.size; omega) (fun k hk => by injection hk with hk; omega))
  clear hb1 h1 hg2 hz2
  go_wp2_with ((with_reducible refine at_slot 5 ?_); refine Classical.byContradiction (fun hG => ?_))
  refine hG ?_
  clear hG
  refine wp_loadN rfl (.tmp 1) rfl rfl (n := src0) h2 ?_
  go_wp2_with fail
  refine (Next_c (HT.out.below HB2.out)).mono ?_
  rintro e w3 ⟨v, rfl, ho, hb3⟩
  rw [deed_src] at ho
  have HB3 := Lib.hid (below_t HB2.out hb3)
  obtain ⟨A, c, rfl, _, _, hA⟩ := ho.form (n := 1) rfl
  obtain ⟨g, rfl, hg1, hg2⟩ := hA (by omega)
  have c0 : w3.cell? ⟨g, 0, none⟩ = some (.int .i64 6) := ho.cell (i := 0) (j := 0) rfl rfl
  have c1 : w3.cell? ⟨g, 1, none⟩ = some (.int .u8 13) := ho.cell (i := 0) (j := 1) rfl rfl
  have c2 : w3.cell? ⟨g, 2, none⟩ = some (.int .u8 1) := ho.cell (i := 0) (j := 2) rfl rfl
  clear ho hA hb3 h2
  have hz3 := HB3.out.size
  go_wp2_with fail
  go_ret
  exact ⟨by first | rfl | simp, by (repeat' (first | (with_reducible exact Below.refl _ _) | (with_reducible refine Below.setCell ?_ (by (first | omega | (simp; done) | (simp; omega))) _) | (with_reducible refine Below.alloc ?_ (by (first | omega | (simp; done) | (simp; omega))) _) | (with_reducible refine Below.drew ?_) | (with_reducible refine below_drewN ?_ _) | (with_reducible refine Below.trans ?_ (Below.mono HB3.out (by (first | omega | (simp; done) | (simp; omega)))))))⟩
set_option maxRecDepth 100000 in
set_option maxHeartbeats 16000000 in
theorem same_c {w : World} {A1 A2 : Option Addr} {n c1 c2 : Nat} {l : List (Nat × Cl)} (h1 : Rd encX w (.slice A1 n c1) l) (h2 : Rd encX w (.slice A2 n c2) l) (hn : l.length = n) (h4 : n ≤ 100) :
    Calls Tryd.prog 17 #[.agg #[.slice A1 n c1, .int .i64 0, .int .i64 0], .agg #[.slice A2 n c2, .int .i64 0, .int .i64 0]] w fun e w' => e = .returned (.bool true) ∧ Below w.heap.size w w' := by
  have HR1 := Lib.hid h1
  have HR2 := Lib.hid h2
  have HN := Lib.hid hn
  have H4 := Lib.hid h4
  clear h1 h2 hn h4
  go_enter Tryd.func17, Tryd.ntmps17
  go_wp2_with fail
  obtain ⟨s, hs⟩ : ∃ s, w.heap.size = s := ⟨_, rfl⟩
  refine HeldP.wp_named (S := fun W => Below w.heap.size w W ∧ Blk W s TD [.slice A1 n c1, .int .i64 0, .int .i64 0] ∧ Blk W (s + 1) TD [.slice A2 n c2, .int .i64 0, .int .i64 0]) ⟨by (repeat' (first | (with_reducible exact Below.refl _ _) | (with_reducible refine Below.setCell ?_ (by (first | omega | (simp; done) | (simp; omega))) _) | (with_reducible refine Below.alloc ?_ (by (first | omega | (simp; done) | (simp; omega))) _) | (with_reducible refine Below.drew ?_) | (with_reducible refine below_drewN ?_ _))), by subst hs; (repeat' (first | (with_reducible refine BlkP.Blk.drew ?_) | (with_reducible refine BlkP.Blk.drewN ?_ _) | (with_reducible refine BlkP.Blk.setAt (us := ?_) (by first | omega | (simp; done) | (simp; omega)) rfl ?_ ?_) | (with_reducible refine BlkP.Blk.otherAt ?_ (by first | omega | (simp; done) | (simp; omega))) | (with_reducible refine BlkP.Blk.newA' (by first | omega | (simp; done) | (simp; omega)) rfl) | (with_reducible refine BlkP.Blk.alloc ?_ _) | (exact rfl))), by subst hs; (repeat' (first | (with_reducible refine BlkP.Blk.drew ?_) | (with_reducible refine BlkP.Blk.drewN ?_ _) | (with_reducible refine BlkP.Blk.setAt (us := ?_) (by first | omega | (simp; done) | (simp; omega)) rfl ?_ ?_) | (with_reducible refine BlkP.Blk.otherAt ?_ (by first | omega | (simp; done) | (simp; omega))) | (with_reducible refine BlkP.Blk.newA' (by first | omega | (simp; done) | (simp; omega)) rfl) | (with_reducible refine BlkP.Blk.alloc ?_ _) | (exact rfl)))⟩ ?_
  rintro w1 ⟨hb1, hx1, hy1⟩
  have HB1 := Lib.hid hb1
  have HX1 := Lib.hid hx1
  have HY1 := Lib.hid hy1
  have HS := Lib.hid hs
  rw [hs]
  clear hb1 hx1 hy1 hs
  go_loopw [5] (fun v5 wr => ∃ j : Nat, v5 = .int .i64 (j : Nat) ∧ j ≤ n ∧ Below w1.heap.size w1 wr) (fun v _ => n - (intOf v).toNat)
  case atStart => exact ⟨0, rfl, by omega, Below.refl _ _⟩
  case round =>
    obtain ⟨j, rfl, hj, hbr⟩ := hrel
    have HBR := Lib.hid hbr
    have HX := Lib.hid (HX1.out.below hbr)
    have HY := Lib.hid (HY1.out.below hbr)
    have x0 := HX.out.cell (i := 0) rfl
    have y0 := HY.out.cell (i := 0) rfl
    have lx := HX.out.lt
    have ly := HY.out.lt
    by_cases hjl : j < n
    · have hjI : (j : Int) < (n : Int) := by omega
      have hj1 : (j : Int) < 100 := by have := H4.out; omega
      have hj2 : j < 100 := by have := H4.out; omega
      have HWR := Lib.hid (show wrap64 ((j : Int) + 1) = ((j + 1 : Nat) : Int) by rw [wr64 (by omega) (by have := H4.out; omega)]; omega)
      obtain ⟨⟨d, k, m⟩, hl⟩ : ∃ x, l[j]? = some x := ⟨_, List.getElem?_eq_getElem (by rw [HN.out]; exact hjl)⟩
      obtain ⟨b1, o1, hA1, hlt1, hc1⟩ := (HR1.out.below (below_t HB1.out hbr)).at hl
      obtain ⟨b2, o2, hA2, hlt2, hc2⟩ := (HR2.out.below (below_t HB1.out hbr)).at hl
      subst hA1
      subst hA2
      have p0 : wr.cell? ⟨b1, o1 + j * 3, none⟩ = some (.int .i64 (d : Int)) := hc1 0 _ rfl
      have p1 : wr.cell? ⟨b1, o1 + j * 3 + 1, none⟩ = some (.int .u8 (k : Int)) := hc1 1 _ rfl
      have p2 : wr.cell? ⟨b1, o1 + j * 3 + 2, none⟩ = some (.int .u8 (m : Int)) := hc1 2 _ rfl
      have q0 : wr.cell? ⟨b2, o2 + j * 3, none⟩ = some (.int .i64 (d : Int)) := hc2 0 _ rfl
      have q1 : wr.cell? ⟨b2, o2 + j * 3 + 1, none⟩ = some (.int .u8 (k : Int)) := hc2 1 _ rfl
      have q2 : wr.cell? ⟨b2, o2 + j * 3 + 2, none⟩ = some (.int .u8 (m : Int)) := hc2 2 _ rfl
      clear hc1 hc2 hbr hl
      go_wp2_with fail
      refine wp_region_noPanic ?_
      refine wp_region_held_drew (S := fun W => Below wr.heap.size wr W) (by kernel_rfl) ((Below.refl _ wr).drew) (fun hHeld => ?_)
      refine wpAnyH_take (i := 0) (oi := ⟨some 34, _, _, _, _, _⟩) (v := .pointer (some ⟨s, 0, none⟩)) rfl (by kernel_rfl) (by kernel_rfl) (by kernel_rfl) (fun _ _ _ h => h) (Or.inl ⟨by rfl, fun W hSW => by go_simp⟩) hHeld ?_
      simp only [Act.put, List.setIfInBounds_toArray, List.set_cons_zero, List.set_cons_succ]
      refine wpAnyH_take (i := 1) (oi := ⟨some 35, _, _, _, _, _⟩) (v := .slice (some ⟨b1, o1, none⟩) n c1) rfl (by kernel_rfl) (by kernel_rfl) (by kernel_rfl) (fun _ _ _ h => h) (Or.inl ⟨by rfl, fun W hSW => by have a0 := (hSW.cell (p := ⟨s, 0, none⟩) lx).trans x0; go_simp⟩) hHeld ?_
      simp only [Act.put, List.setIfInBounds_toArray, List.set_cons_zero, List.set_cons_succ]
      refine wpAnyH_take (i := 2) (oi := ⟨some 36, _, _, _, _, _⟩) (v := .int .i64 (j : Int)) rfl (by kernel_rfl) (by kernel_rfl) (by kernel_rfl) (fun _ _ _ h => h) (Or.inl ⟨by rfl, fun W hSW => by go_simp⟩) hHeld ?_
      simp only [Act.put, List.setIfInBounds_toArray, List.set_cons_zero, List.set_cons_succ]
      refine wpAnyH_take (i := 3) (oi := ⟨some 37, _, _, _, _, _⟩) (v := .pointer (some ⟨b1, o1 + j * 3, none⟩)) rfl (by kernel_rfl) (by kernel_rfl) (by kernel_rfl) (fun _ _ _ h => h) (Or.inl ⟨by rfl, fun W hSW => by go_simp⟩) hHeld ?_
      simp only [Act.put, List.setIfInBounds_toArray, List.set_cons_zero, List.set_cons_succ]
      refine wpAnyH_take (i := 4) (oi := ⟨some 38, _, _, _, _, _⟩) (v := .agg #[.int .i64 (d : Int), .int .u8 (k : Int), .int .u8 (m : Int)]) rfl (by kernel_rfl) (by kernel_rfl) (by kernel_rfl) (fun _ _ _ h => h) (Or.inl ⟨by rfl, fun W hSW => by have a0 := (hSW.cell (p := ⟨b1, o1 + j * 3, none⟩) hlt1).trans p0; have a1 := (hSW.cell (p := ⟨b1, o1 + j * 3 + 1, none⟩) hlt1).trans p1; have a2 := (hSW.cell (p := ⟨b1, o1 + j * 3 + 2, none⟩) hlt1).trans p2; go_simp⟩) hHeld ?_
      simp only [Act.put, List.setIfInBounds_toArray, List.set_cons_zero, List.set_cons_succ]
      refine wpAnyH_take (i := 5) (oi := ⟨some 39, _, _, _, _, _⟩) (v := .pointer (some ⟨s + 1, 0, none⟩)) rfl (by kernel_rfl) (by kernel_rfl) (by kernel_rfl) (fun _ _ _ h => h) (Or.inl ⟨by rfl, fun W hSW => by go_simp⟩) hHeld ?_
      simp only [Act.put, List.setIfInBounds_toArray, List.set_cons_zero, List.set_cons_succ]
      refine wpAnyH_take (i := 6) (oi := ⟨some 40, _, _, _, _, _⟩) (v := .slice (some ⟨b2, o2, none⟩) n c2) rfl (by kernel_rfl) (by kernel_rfl) (by kernel_rfl) (fun _ _ _ h => h) (Or.inl ⟨by rfl, fun W hSW => by have a0 := (hSW.cell (p := ⟨s + 1, 0, none⟩) ly).trans y0; go_simp⟩) hHeld ?_
      simp only [Act.put, List.setIfInBounds_toArray, List.set_cons_zero, List.set_cons_succ]
      refine wpAnyH_take (i := 7) (oi := ⟨some 41, _, _, _, _, _⟩) (v := .int .i64 (j : Int)) rfl (by kernel_rfl) (by kernel_rfl) (by kernel_rfl) (fun _ _ _ h => h) (Or.inl ⟨by rfl, fun W hSW => by go_simp⟩) hHeld ?_
      simp only [Act.put, List.setIfInBounds_toArray, List.set_cons_zero, List.set_cons_succ]
      refine wpAnyH_take (i := 8) (oi := ⟨some 42, _, _, _, _, _⟩) (v := .pointer (some ⟨b2, o2 + j * 3, none⟩)) rfl (by kernel_rfl) (by kernel_rfl) (by kernel_rfl) (fun _ _ _ h => h) (Or.inl ⟨by rfl, fun W hSW => by go_simp⟩) hHeld ?_
      simp only [Act.put, List.setIfInBounds_toArray, List.set_cons_zero, List.set_cons_succ]
      refine wpAnyH_take (i := 9) (oi := ⟨some 43, _, _, _, _, _⟩) (v := .agg #[.int .i64 (d : Int), .int .u8 (k : Int), .int .u8 (m : Int)]) rfl (by kernel_rfl) (by kernel_rfl) (by kernel_rfl) (fun _ _ _ h => h) (Or.inl ⟨by rfl, fun W hSW => by have a0 := (hSW.cell (p := ⟨b2, o2 + j * 3, none⟩) hlt2).trans q0; have a1 := (hSW.cell (p := ⟨b2, o2 + j * 3 + 1, none⟩) hlt2).trans q1; have a2 := (hSW.cell (p := ⟨b2, o2 + j * 3 + 2, none⟩) hlt2).trans q2; go_simp⟩) hHeld ?_
      simp only [Act.put, List.setIfInBounds_toArray, List.set_cons_zero, List.set_cons_succ]
      refine wpAnyH_take (i := 10) (oi := ⟨some 44, _, _, _, _, _⟩) (v := .bool false) rfl (by kernel_rfl) (by kernel_rfl) (by kernel_rfl) (fun _ _ _ h => h) (Or.inl ⟨by rfl, fun W hSW => by go_simp⟩) hHeld ?_
      simp only [Act.put, List.setIfInBounds_toArray, List.set_cons_zero, List.set_cons_succ]
      refine wpAnyH_done (by kernel_rfl) ?_ _
      refine NoPanic.normal ?_
      refine HeldP.then_named (S := fun W => Below wr.heap.size wr W) hHeld ?_
      rintro X0 hx0
      have HX0 := Lib.hid (below_t HBR.out hx0)
      clear hHeld hx0 x0 y0 lx ly p0 p1 p2 q0 q1 q2
      go_wp2_with fail
      go_roundw
      case rel => exact ⟨j + 1, by first | rfl | rw [HWR.out] | (congr 1; omega), by omega, HX0.out⟩
      case measure =>
        simp only [intOf]
        omega
    · have hjI : ¬ (j : Int) < (n : Int) := by omega
      clear hbr
      go_wp2_with fail
      go_ret
      exact ⟨rfl, below_t HB1.out HBR.out⟩
set_option maxRecDepth 100000 in
set_option maxHeartbeats 16000000 in
theorem rsame_c {w : World} {A1 A2 : Option Addr} {n c1 c2 : Nat} {l : List (Nat × Cl)} (h1 : Rd encX w (.slice A1 n c1) l) (h2 : Rd encX w (.slice A2 n c2) l) (hn : l.length = n) (h4 : n ≤ 100) :
    Calls Tryd.prog 16 #[.agg #[.slice A1 n c1, .int .i64 0, .int .i64 0], .agg #[.slice A2 n c2, .int .i64 0, .int .i64 0]] w fun e w' => e = .returned (.bool true) ∧ Below w.heap.size w w' := by
  have HR1 := Lib.hid h1
  have HR2 := Lib.hid h2
  have HN := Lib.hid hn
  have H4 := Lib.hid h4
  clear h1 h2 hn h4
  go_enter Tryd.func16, Tryd.ntmps16
  go_wp2_with fail
  obtain ⟨s, hs⟩ : ∃ s, w.heap.size = s := ⟨_, rfl⟩
  refine HeldP.wp_named (S := fun W => Below w.heap.size w W ∧ Blk W s TD [.slice A1 n c1, .int .i64 0, .int .i64 0] ∧ Blk W (s + 1) TD [.slice A2 n c2, .int .i64 0, .int .i64 0]) ⟨by (repeat' (first | (with_reducible exact Below.refl _ _) | (with_reducible refine Below.setCell ?_ (by (first | omega | (simp; done) | (simp; omega))) _) | (with_reducible refine Below.alloc ?_ (by (first | omega | (simp; done) | (simp; omega))) _) | (with_reducible refine Below.drew ?_) | (with_reducible refine below_drewN ?_ _))), by subst hs; (repeat' (first | (with_reducible refine BlkP.Blk.drew ?_) | (with_reducible refine BlkP.Blk.drewN ?_ _) | (with_reducible refine BlkP.Blk.setAt (us := ?_) (by first | omega | (simp; done) | (simp; omega)) rfl ?_ ?_) | (with_reducible refine BlkP.Blk.otherAt ?_ (by first | omega | (simp; done) | (simp; omega))) | (with_reducible refine BlkP.Blk.newA' (by first | omega | (simp; done) | (simp; omega)) rfl) | (with_reducible refine BlkP.Blk.alloc ?_ _) | (exact rfl))), by subst hs; (repeat' (first | (with_reducible refine BlkP.Blk.drew ?_) | (with_reducible refine BlkP.Blk.drewN ?_ _) | (with_reducible refine BlkP.Blk.setAt (us := ?_) (by first | omega | (simp; done) | (simp; omega)) rfl ?_ ?_) | (with_reducible refine BlkP.Blk.otherAt ?_ (by first | omega | (simp; done) | (simp; omega))) | (with_reducible refine BlkP.Blk.newA' (by first | omega | (simp; done) | (simp; omega)) rfl) | (with_reducible refine BlkP.Blk.alloc ?_ _) | (exact rfl)))⟩ ?_
  rintro w1 ⟨hb1, hx1, hy1⟩
  have HB1 := Lib.hid hb1
  have HX1 := Lib.hid hx1
  have HY1 := Lib.hid hy1
  have HS := Lib.hid hs
  rw [hs]
  clear hb1 hx1 hy1 hs
  go_loopw [5] (fun v5 wr => ∃ j : Nat, v5 = .int .i64 (j : Nat) ∧ j ≤ n ∧ Below w1.heap.size w1 wr) (fun v _ => n - (intOf v).toNat)
  case atStart => exact ⟨0, rfl, by omega, Below.refl _ _⟩
  case round =>
    obtain ⟨j, rfl, hj, hbr⟩ := hrel
    have HBR := Lib.hid hbr
    have HX := Lib.hid (HX1.out.below hbr)
    have HY := Lib.hid (HY1.out.below hbr)
    have x0 := HX.out.cell (i := 0) rfl
    have y0 := HY.out.cell (i := 0) rfl
    have lx := HX.out.lt
    have ly := HY.out.lt
    by_cases hjl : j < n
    · have hjI : (j : Int) < (n : Int) := by omega
      have hj1 : (j : Int) < 100 := by have := H4.out; omega
      have hj2 : j < 100 := by have := H4.out; omega
      have HWR := Lib.hid (show wrap64 ((j : Int) + 1) = ((j + 1 : Nat) : Int) by rw [wr64 (by omega) (by have := H4.out; omega)]; omega)
      obtain ⟨⟨d, k, m⟩, hl⟩ : ∃ x, l[j]? = some x := ⟨_, List.getElem?_eq_getElem (by rw [HN.out]; exact hjl)⟩
      obtain ⟨b1, o1, hA1, hlt1, hc1⟩ := (HR1.out.below (below_t HB1.out hbr)).at hl
      obtain ⟨b2, o2, hA2, hlt2, hc2⟩ := (HR2.out.below (below_t HB1.out hbr)).at hl
      subst hA1
      subst hA2
      have p0 : wr.cell? ⟨b1, o1 + j * 3, none⟩ = some (.int .i64 (d : Int)) := hc1 0 _ rfl
      have p1 : wr.cell? ⟨b1, o1 + j * 3 + 1, none⟩ = some (.int .u8 (k : Int)) := hc1 1 _ rfl
      have p2 : wr.cell? ⟨b1, o1 + j * 3 + 2, none⟩ = some (.int .u8 (m : Int)) := hc1 2 _ rfl
      have q0 : wr.cell? ⟨b2, o2 + j * 3, none⟩ = some (.int .i64 (d : Int)) := hc2 0 _ rfl
      have q1 : wr.cell? ⟨b2, o2 + j * 3 + 1, none⟩ = some (.int .u8 (k : Int)) := hc2 1 _ rfl
      have q2 : wr.cell? ⟨b2, o2 + j * 3 + 2, none⟩ = some (.int .u8 (m : Int)) := hc2 2 _ rfl
      clear hc1 hc2 hbr hl
      go_wp2_with fail
      refine wp_region_noPanic ?_
      refine wp_region_held_drew (S := fun W => Below wr.heap.size wr W) (by kernel_rfl) ((Below.refl _ wr).drew) (fun hHeld => ?_)
      refine wpAnyH_take (i := 0) (oi := ⟨some 34, _, _, _, _, _⟩) (v := .pointer (some ⟨s, 0, none⟩)) rfl (by kernel_rfl) (by kernel_rfl) (by kernel_rfl) (fun _ _ _ h => h) (Or.inl ⟨by rfl, fun W hSW => by go_simp⟩) hHeld ?_
      simp only [Act.put, List.setIfInBounds_toArray, List.set_cons_zero, List.set_cons_succ]
      refine wpAnyH_take (i := 1) (oi := ⟨some 35, _, _, _, _, _⟩) (v := .slice (some ⟨b1, o1, none⟩) n c1) rfl (by kernel_rfl) (by kernel_rfl) (by kernel_rfl) (fun _ _ _ h => h) (Or.inl ⟨by rfl, fun W hSW => by have a0 := (hSW.cell (p := ⟨s, 0, none⟩) lx).trans x0; go_simp⟩) hHeld ?_
      simp only [Act.put, List.setIfInBounds_toArray, List.set_cons_zero, List.set_cons_succ]
      refine wpAnyH_take (i := 2) (oi := ⟨some 36, _, _, _, _, _⟩) (v := .int .i64 (j : Int)) rfl (by kernel_rfl) (by kernel_rfl) (by kernel_rfl) (fun _ _ _ h => h) (Or.inl ⟨by rfl, fun W hSW => by go_simp⟩) hHeld ?_
      simp only [Act.put, List.setIfInBounds_toArray, List.set_cons_zero, List.set_cons_succ]
      refine wpAnyH_take (i := 3) (oi := ⟨some 37, _, _, _, _, _⟩) (v := .pointer (some ⟨b1, o1 + j * 3, none⟩)) rfl (by kernel_rfl) (by kernel_rfl) (by kernel_rfl) (fun _ _ _ h => h) (Or.inl ⟨by rfl, fun W hSW => by go_simp⟩) hHeld ?_
      simp only [Act.put, List.setIfInBounds_toArray, List.set_cons_zero, List.set_cons_succ]
      refine wpAnyH_take (i := 4) (oi := ⟨some 38, _, _, _, _, _⟩) (v := .agg #[.int .i64 (d : Int), .int .u8 (k : Int), .int .u8 (m : Int)]) rfl (by kernel_rfl) (by kernel_rfl) (by kernel_rfl) (fun _ _ _ h => h) (Or.inl ⟨by rfl, fun W hSW => by have a0 := (hSW.cell (p := ⟨b1, o1 + j * 3, none⟩) hlt1).trans p0; have a1 := (hSW.cell (p := ⟨b1, o1 + j * 3 + 1, none⟩) hlt1).trans p1; have a2 := (hSW.cell (p := ⟨b1, o1 + j * 3 + 2, none⟩) hlt1).trans p2; go_simp⟩) hHeld ?_
      simp only [Act.put, List.setIfInBounds_toArray, List.set_cons_zero, List.set_cons_succ]
      refine wpAnyH_take (i := 5) (oi := ⟨some 39, _, _, _, _, _⟩) (v := .pointer (some ⟨s + 1, 0, none⟩)) rfl (by kernel_rfl) (by kernel_rfl) (by kernel_rfl) (fun _ _ _ h => h) (Or.inl ⟨by rfl, fun W hSW => by go_simp⟩) hHeld ?_
      simp only [Act.put, List.setIfInBounds_toArray, List.set_cons_zero, List.set_cons_succ]
      refine wpAnyH_take (i := 6) (oi := ⟨some 40, _, _, _, _, _⟩) (v := .slice (some ⟨b2, o2, none⟩) n c2) rfl (by kernel_rfl) (by kernel_rfl) (by kernel_rfl) (fun _ _ _ h => h) (Or.inl ⟨by rfl, fun W hSW => by have a0 := (hSW.cell (p := ⟨s + 1, 0, none⟩) ly).trans y0; go_simp⟩) hHeld ?_
      simp only [Act.put, List.setIfInBounds_toArray, List.set_cons_zero, List.set_cons_succ]
      refine wpAnyH_take (i := 7) (oi := ⟨some 41, _, _, _, _, _⟩) (v := .int .i64 (j : Int)) rfl (by kernel_rfl) (by kernel_rfl) (by kernel_rfl) (fun _ _ _ h => h) (Or.inl ⟨by rfl, fun W hSW => by go_simp⟩) hHeld ?_
      simp only [Act.put, List.setIfInBounds_toArray, List.set_cons_zero, List.set_cons_succ]
      refine wpAnyH_take (i := 8) (oi := ⟨some 42, _, _, _, _, _⟩) (v := .pointer (some ⟨b2, o2 + j * 3, none⟩)) rfl (by kernel_rfl) (by kernel_rfl) (by kernel_rfl) (fun _ _ _ h => h) (Or.inl ⟨by rfl, fun W hSW => by go_simp⟩) hHeld ?_
      simp only [Act.put, List.setIfInBounds_toArray, List.set_cons_zero, List.set_cons_succ]
      refine wpAnyH_take (i := 9) (oi := ⟨some 43, _, _, _, _, _⟩) (v := .agg #[.int .i64 (d : Int), .int .u8 (k : Int), .int .u8 (m : Int)]) rfl (by kernel_rfl) (by kernel_rfl) (by kernel_rfl) (fun _ _ _ h => h) (Or.inl ⟨by rfl, fun W hSW => by have a0 := (hSW.cell (p := ⟨b2, o2 + j * 3, none⟩) hlt2).trans q0; have a1 := (hSW.cell (p := ⟨b2, o2 + j * 3 + 1, none⟩) hlt2).trans q1; have a2 := (hSW.cell (p := ⟨b2, o2 + j * 3 + 2, none⟩) hlt2).trans q2; go_simp⟩) hHeld ?_
      simp only [Act.put, List.setIfInBounds_toArray, List.set_cons_zero, List.set_cons_succ]
      refine wpAnyH_take (i := 10) (oi := ⟨some 44, _, _, _, _, _⟩) (v := .bool false) rfl (by kernel_rfl) (by kernel_rfl) (by kernel_rfl) (fun _ _ _ h => h) (Or.inl ⟨by rfl, fun W hSW => by go_simp⟩) hHeld ?_
      simp only [Act.put, List.setIfInBounds_toArray, List.set_cons_zero, List.set_cons_succ]
      refine wpAnyH_done (by kernel_rfl) ?_ _
      refine NoPanic.normal ?_
      refine HeldP.then_named (S := fun W => Below wr.heap.size wr W) hHeld ?_
      rintro X0 hx0
      have HX0 := Lib.hid (below_t HBR.out hx0)
      clear hHeld hx0 x0 y0 lx ly p0 p1 p2 q0 q1 q2
      go_wp2_with fail
      go_roundw
      case rel => exact ⟨j + 1, by first | rfl | rw [HWR.out] | (congr 1; omega), by omega, HX0.out⟩
      case measure =>
        simp only [intOf]
        omega
    · have hjI : ¬ (j : Int) < (n : Int) := by omega
      clear hbr
      go_wp2_with fail
      go_ret
      exact ⟨rfl, below_t HB1.out HBR.out⟩
end FlowW
end Go.Proofs.YtjdoglihebfamaaDoor
