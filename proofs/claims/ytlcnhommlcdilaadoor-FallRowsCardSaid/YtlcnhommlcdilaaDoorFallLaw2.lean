/-
  FallRows: of every column how far its first one falls, of every row how many are pushed; it stays.
-/
import Derived.Test.YtlcnhommlcdilaaDoorFallRef
namespace Go.Proofs.YtlcnhommlcdilaaDoor
open Go.RowKit
set_option linter.unusedVariables false
set_option linter.unusedSimpArgs false
namespace FallW
open BlkP RowG FrS PushG CellsW NearW
open FallP hiding Cl
set_option maxRecDepth 100000 in
set_option maxHeartbeats 16000000 in
theorem law_rows {w : World} {A : Option Addr} {n c : Nat} {l : List Cl} (hT : KindW.Tab w) (hR : Rd encK w (.slice A n c) l) (hn : l.length = n) (hsz : n * 2 ≤ 140737488355328) : Calls Tryd.prog 4 #[.slice A n c] w fun e w' => e = .returned (.bool true) ∧ Below w.heap.size w w' := by
  have HT := Lib.hid hT
  have HR := Lib.hid hR
  have HN := Lib.hid hn
  have HSZ := Lib.hid hsz
  have hb : n ≤ 140737488355328 := by omega
  have hbI : (n : Int) ≤ 140737488355328 := by omega
  obtain ⟨⟨m, e5⟩, hm⟩ : ∃ q, row l = q := ⟨_, rfl⟩
  obtain ⟨ld, hld⟩ : ∃ q, lands l = q := ⟨_, rfl⟩
  have HM := Lib.hid hm
  have HL := Lib.hid hld
  obtain ⟨s, hs⟩ : ∃ s, w.heap.size = s := ⟨_, rfl⟩
  have HS := Lib.hid hs
  clear hT hR hn hsz hm hld
  go_enter Tryd.func4, Tryd.ntmps4
  go_wp2_with ((with_reducible refine at_slot 11 ?_); refine Classical.byContradiction (fun hG => ?_))
  refine hG ?_
  clear hG
  try rw [hs]
  refine wp_appK (B := s) (l0 := []) (l := l) rfl (.tmp 9) (.tmp 10) rfl (v := .slice (some ⟨s, 0, none⟩) 0 0) (by first | rfl | (rw [hs]; rfl)) rfl (by have q := own_made w; rw [hs] at q; exact q) (HR.out.below (by (repeat' (first | (with_reducible exact Below.refl _ _) | (with_reducible refine Below.setCell ?_ (by (first | omega | (simp; done) | (simp; omega))) _) | (with_reducible refine Below.alloc ?_ (by (first | omega | (simp; done) | (simp; omega))) _) | (with_reducible refine Below.drew ?_) | (with_reducible refine below_drewN ?_ _))))) HN.out.symm (by have := HSZ.out; simp; omega) (by simp; omega) ?_
  intro v' w1 ho hg
  rw [List.nil_append] at ho
  obtain ⟨A2, c2, rfl, _, _, _⟩ := ho.form (n := n) HN.out
  have HB1 := Lib.hid (show Below w.heap.size w w1 from Below.grown (by (repeat' (first | (with_reducible exact Below.refl _ _) | (with_reducible refine Below.setCell ?_ (by (first | omega | (simp; done) | (simp; omega))) _) | (with_reducible refine Below.alloc ?_ (by (first | omega | (simp; done) | (simp; omega))) _) | (with_reducible refine Below.drew ?_) | (with_reducible refine below_drewN ?_ _)))) hg (by simp) (fun q hq => by
    have : s = q := by simpa [Value.ownBlock] using hq
    omega))
  have HO1 := Lib.hid ho.rd
  clear ho hg
  go_wp2_with fail
  refine (Row_c (HT.out.below HB1.out) HO1.out HN.out hb HM.out).mono ?_
  rintro e w2 ⟨rfl, hb2⟩
  have HB2 := Lib.hid (below_t HB1.out hb2)
  have HO2 := Lib.hid (HO1.out.below hb2)
  clear hb2
  go_wp2_with fail
  refine (rRow_c (HR.out.below HB2.out) HN.out hb HM.out).mono ?_
  rintro e w3 ⟨rfl, hb3⟩
  have HB3 := Lib.hid (below_t HB2.out hb3)
  have HO3 := Lib.hid (HO2.out.below hb3)
  clear hb3
  go_wp2_with fail
  refine (Lands_c (HT.out.below HB3.out) HO3.out HN.out hb HL.out).mono ?_
  rintro e w4 ⟨rfl, hb4⟩
  have HB4 := Lib.hid (below_t HB3.out hb4)
  have HO4 := Lib.hid (HO3.out.below hb4)
  clear hb4
  go_wp2_with fail
  refine (rLands_c (HR.out.below HB4.out) HN.out hb HL.out).mono ?_
  rintro e w5 ⟨rfl, hb5⟩
  have HB5 := Lib.hid (below_t HB4.out hb5)
  have HO5 := Lib.hid (HO4.out.below hb5)
  clear hb5
  go_wp2_with fail
  go_loopw [8] (fun v8 wr => ∃ j : Nat, v8 = .int .i64 (j : Nat) ∧ j ≤ n ∧ Below w5.heap.size w5 wr) (fun v _ => n - (intOf v).toNat)
  case atStart => exact ⟨0, rfl, by omega, Below.refl _ _⟩
  case round =>
    obtain ⟨j, rfl, hj, hbr⟩ := hrel
    have HBR := Lib.hid hbr
    have hzr := hbr.size
    by_cases hjl : j < n
    · have hjI : (j : Int) < (n : Int) := by omega
      have HWR := Lib.hid (show wrap64 ((j : Int) + 1) = ((j + 1 : Nat) : Int) by rw [wr64 (by omega) (by omega)]; omega)
      obtain ⟨⟨k, v⟩, hx⟩ : ∃ x, l[j]? = some x := ⟨_, List.getElem?_eq_getElem (by rw [HN.out]; exact hjl)⟩
      obtain ⟨b1, o1, hA1, hlt1, hc1⟩ := (HO5.out.below hbr).at hx
      obtain ⟨b2, o2, hA2, hlt2, hc2⟩ := ((HR.out.below HB5.out).below hbr).at hx
      subst hA1
      subst hA2
      have p0 : wr.cell? ⟨b1, o1 + j * 2, none⟩ = some (.int .u8 (k : Int)) := hc1 0 _ rfl
      have p1 : wr.cell? ⟨b1, o1 + j * 2 + 1, none⟩ = some (.int .u8 (v : Int)) := hc1 1 _ rfl
      have q0 : wr.cell? ⟨b2, o2 + j * 2, none⟩ = some (.int .u8 (k : Int)) := hc2 0 _ rfl
      have q1 : wr.cell? ⟨b2, o2 + j * 2 + 1, none⟩ = some (.int .u8 (v : Int)) := hc2 1 _ rfl
      clear hc1 hc2 hx hbr
      go_wp2_with fail
      refine wp_region_noPanic ?_
      refine wp_region_held_drew (S := fun W => Below wr.heap.size wr W) (by kernel_rfl) ((Below.refl _ wr).drew) (fun hHeld => ?_)
      refine wpAnyH_take (i := 0) (oi := ⟨some 43, _, _, _, _, _⟩) (v := .slice (some ⟨b1, o1, none⟩) n c2) rfl (by kernel_rfl) (by kernel_rfl) (by kernel_rfl) (fun _ _ _ h => h) (Or.inl ⟨by rfl, fun W hSW => by go_simp⟩) hHeld ?_
      simp only [Act.put, List.setIfInBounds_toArray, List.set_cons_zero, List.set_cons_succ]
      refine wpAnyH_take (i := 1) (oi := ⟨some 44, _, _, _, _, _⟩) (v := .int .i64 (j : Int)) rfl (by kernel_rfl) (by kernel_rfl) (by kernel_rfl) (fun _ _ _ h => h) (Or.inl ⟨by rfl, fun W hSW => by go_simp⟩) hHeld ?_
      simp only [Act.put, List.setIfInBounds_toArray, List.set_cons_zero, List.set_cons_succ]
      refine wpAnyH_take (i := 2) (oi := ⟨some 45, _, _, _, _, _⟩) (v := .pointer (some ⟨b1, o1 + j * 2, none⟩)) rfl (by kernel_rfl) (by kernel_rfl) (by kernel_rfl) (fun _ _ _ h => h) (Or.inl ⟨by rfl, fun W hSW => by go_simp⟩) hHeld ?_
      simp only [Act.put, List.setIfInBounds_toArray, List.set_cons_zero, List.set_cons_succ]
      refine wpAnyH_take (i := 3) (oi := ⟨some 46, _, _, _, _, _⟩) (v := .agg #[.int .u8 (k : Int), .int .u8 (v : Int)]) rfl (by kernel_rfl) (by kernel_rfl) (by kernel_rfl) (fun _ _ _ h => h) (Or.inl ⟨by rfl, fun W hSW => by have a0 := (hSW.cell (p := ⟨b1, o1 + j * 2, none⟩) hlt1).trans p0; have a1 := (hSW.cell (p := ⟨b1, o1 + j * 2 + 1, none⟩) hlt1).trans p1; go_simp⟩) hHeld ?_
      simp only [Act.put, List.setIfInBounds_toArray, List.set_cons_zero, List.set_cons_succ]
      refine wpAnyH_take (i := 4) (oi := ⟨some 47, _, _, _, _, _⟩) (v := .slice (some ⟨b2, o2, none⟩) n c) rfl (by kernel_rfl) (by kernel_rfl) (by kernel_rfl) (fun _ _ _ h => h) (Or.inl ⟨by rfl, fun W hSW => by go_simp⟩) hHeld ?_
      simp only [Act.put, List.setIfInBounds_toArray, List.set_cons_zero, List.set_cons_succ]
      refine wpAnyH_take (i := 5) (oi := ⟨some 48, _, _, _, _, _⟩) (v := .int .i64 (j : Int)) rfl (by kernel_rfl) (by kernel_rfl) (by kernel_rfl) (fun _ _ _ h => h) (Or.inl ⟨by rfl, fun W hSW => by go_simp⟩) hHeld ?_
      simp only [Act.put, List.setIfInBounds_toArray, List.set_cons_zero, List.set_cons_succ]
      refine wpAnyH_take (i := 6) (oi := ⟨some 49, _, _, _, _, _⟩) (v := .pointer (some ⟨b2, o2 + j * 2, none⟩)) rfl (by kernel_rfl) (by kernel_rfl) (by kernel_rfl) (fun _ _ _ h => h) (Or.inl ⟨by rfl, fun W hSW => by go_simp⟩) hHeld ?_
      simp only [Act.put, List.setIfInBounds_toArray, List.set_cons_zero, List.set_cons_succ]
      refine wpAnyH_take (i := 7) (oi := ⟨some 50, _, _, _, _, _⟩) (v := .agg #[.int .u8 (k : Int), .int .u8 (v : Int)]) rfl (by kernel_rfl) (by kernel_rfl) (by kernel_rfl) (fun _ _ _ h => h) (Or.inl ⟨by rfl, fun W hSW => by have a0 := (hSW.cell (p := ⟨b2, o2 + j * 2, none⟩) hlt2).trans q0; have a1 := (hSW.cell (p := ⟨b2, o2 + j * 2 + 1, none⟩) hlt2).trans q1; go_simp⟩) hHeld ?_
      simp only [Act.put, List.setIfInBounds_toArray, List.set_cons_zero, List.set_cons_succ]
      refine wpAnyH_take (i := 8) (oi := ⟨some 51, _, _, _, _, _⟩) (v := .bool false) rfl (by kernel_rfl) (by kernel_rfl) (by kernel_rfl) (fun _ _ _ h => h) (Or.inl ⟨by rfl, fun W hSW => by go_simp⟩) hHeld ?_
      simp only [Act.put, List.setIfInBounds_toArray, List.set_cons_zero, List.set_cons_succ]
      refine wpAnyH_done (by kernel_rfl) ?_ _
      refine NoPanic.normal ?_
      refine HeldP.then_named (S := fun W => Below wr.heap.size wr W) hHeld ?_
      rintro X0 hx0
      have HX0 := Lib.hid (below_t HBR.out hx0)
      clear hHeld hx0 p0 p1 q0 q1
      go_wp2_with fail
      go_roundw
      case rel => exact ⟨j + 1, by first | rfl | rw [HWR.out], by omega, HX0.out⟩
      case measure =>
        simp only [intOf]
        omega
    · have hjI : ¬ (j : Int) < (n : Int) := by omega
      have HB9 := Lib.hid (below_t HB5.out hbr)
      clear hbr
      go_wp2_with fail
      refine (awake_c (HT.out.below HB9.out)).mono ?_
      rintro e w9 ⟨rfl, hb9⟩
      have HBZ := Lib.hid (below_t HB9.out hb9)
      clear hb9
      go_wp2_with fail
      go_ret
      exact ⟨rfl, HBZ.out⟩
end FallW
end Go.Proofs.YtlcnhommlcdilaaDoor
