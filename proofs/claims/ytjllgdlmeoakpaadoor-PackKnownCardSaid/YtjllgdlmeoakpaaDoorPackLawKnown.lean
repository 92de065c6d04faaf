/-
  PackKnown: the chapter's examples.
-/
import Derived.Test.YtjllgdlmeoakpaaDoorPackExs
import Derived.Test.YtjllgdlmeoakpaaDoorPackLawBack
import Derived.Test.YtjllgdlmeoakpaaDoorPackLawOnce
namespace Go.Proofs.YtjllgdlmeoakpaaDoor
open Go.RowKit
set_option linter.unusedVariables false
set_option linter.unusedSimpArgs false
namespace PackW
open BytesW RunsW

def knownL (w : World) (p : Nat) (i : Value) (wr : World) : Prop := ∃ j : Nat, i = .int .i64 j ∧ j ≤ 4096 ∧ Chk wr p zeros (lay zeros 0 j (15, 0)) (.slice none 0 0) ∧ Below w.heap.size w wr
def knownS (w : World) (i : Value) (wr : World) : Prop := ∃ j : Nat, i = .int .i64 j ∧ j ≤ 10 ∧ Below w.heap.size w wr

set_option maxRecDepth 100000 in
set_option maxHeartbeats 8000000 in
theorem law_known {w : World} (hT : KindW.Tab w) : Calls Tryd.prog 10 #[] w fun e w' => e = .returned (.bool true) ∧ Below w.heap.size w w' := by
  have HT := Lib.hid hT
  obtain ⟨p, hp⟩ : ∃ p, p = w.heap.size := ⟨_, rfl⟩
  have HP := Lib.hid hp
  clear hT
  go_enter Tryd.func10, Tryd.ntmps10
  go_wp2_with (first
    | ((with_reducible refine at_slot 14 ?_); refine wp_build rfl rfl ?_)
    | ((with_reducible refine at_slot 15 ?_); refine wp_box rfl (.tmp 14) rfl rfl ?_; intro w1 hk1 hb1 hz1; rw [← hp] at hk1; simp only [← HP.out]; clear hp))
  go_loopw [2] (knownL w p) (fun v _ => 4096 - (intOf v).toNat)
  case atStart => exact ⟨0, rfl, by omega, by rw [lay_zero]; exact hk1, hb1⟩
  case round =>
    obtain ⟨j, rfl, hj, hck, hbw⟩ := hrel
    have HCK := Lib.hid hck
    have HBW := Lib.hid hbw
    have hpw : w.heap.size ≤ p := by have := HP.out; omega
    clear hck hbw hk1 hb1 hz1
    by_cases hlt : j < 4096
    · have hI1 : (j : Int) < 4096 := by omega
      have hl4 := HCK.out.2.2
      obtain ⟨z, hz2⟩ : ∃ z, (lay zeros 0 j (15, 0))[j]? = some z := ⟨_, List.getElem?_eq_getElem (by omega)⟩
      have g2 := (HCK.out.cell (8192 + j * 2)).trans (ckV_l zeros_len hz2).1
      have g3 := (HCK.out.cell (8192 + j * 2 + 1)).trans (ckV_l zeros_len hz2).2
      have f2 := HCK.out.frozen (8192 + j * 2)
      have f3 := HCK.out.frozen (8192 + j * 2 + 1)
      clear hz2 hl4
      go_wp2_with fail
      go_roundw
      case rel =>
        have h2 := HCK.out.setL (j := j) (by omega) (15, 0)
        have hs : (lay zeros 0 j (15, 0)).set j (15, 0) = lay zeros 0 (j + 1) (15, 0) := by
          have := lay_set (C := zeros) (a := 0) (m := j) (c := (15, 0)) (by rw [zeros_len]; omega)
          rwa [Nat.zero_add] at this
        rw [hs] at h2
        exact ⟨j + 1, by go_num, by omega, h2, (HBW.out.setCell (p := ⟨p, 8192 + j * 2, none⟩) hpw _).setCell (p := ⟨p, 8192 + j * 2 + 1, none⟩) hpw _⟩
      case measure => simp [intOf]; omega
    · have hj4 : j = 4096 := by omega
      have hI1 : ¬ (j : Int) < 4096 := by omega
      have HCL : Hid (Chk wr p zeros (List.replicate 4096 (15, 0)) (.slice none 0 0)) := Lib.hid (by
        have h := HCK.out
        rw [hj4, lay_all zeros_len] at h
        exact h)
      have g0 := (HCL.out.cell 0).trans (ckV_c (j := 0) (c := (0, 0)) zeros_len (by rw [zeros, List.getElem?_replicate, if_pos (by omega)])).1
      have g1 := (HCL.out.cell 1).trans (ckV_c (j := 0) (c := (0, 0)) zeros_len (by rw [zeros, List.getElem?_replicate, if_pos (by omega)])).2
      have g2 := (HCL.out.cell 8192).trans (ckV_l (j := 0) (c := (15, 0)) zeros_len (by rw [List.getElem?_replicate, if_pos (by omega)])).1
      have g3 := (HCL.out.cell 8193).trans (ckV_l (j := 0) (c := (15, 0)) zeros_len (by rw [List.getElem?_replicate, if_pos (by omega)])).2
      have q0 := HCL.out.t
      have f0 := HCL.out.frozen 0
      have f1 := HCL.out.frozen 1
      have f2 := HCL.out.frozen 8192
      have f3 := HCL.out.frozen 8193
      have q1 := HCL.out.frozen 16384
      have hplt := HCL.out.lt
      clear hj4
      go_wp2_with fail
      go_at_call 12
      refine calls_named (fun W => ChkK W p exK ∧ Below w.heap.size w W) (by
        refine ⟨?_, ?_⟩
        · have h := tick_two (a := 0) (d := 1) (b := 2) (e := 300) ((HCL.out.setC (j := 0) (by omega) (2, 0)).setL (j := 0) (by omega) (0, 0))
          simp only [heap_setSz] at h
          exact h
        · refine Below.alloc ?_ (by simp only [heap_setSz]; exact HBW.out.size) _
          exact ((((HBW.out.setCell (p := ⟨p, 0, none⟩) hpw _).setCell (p := ⟨p, 1, none⟩) hpw _).setCell (p := ⟨p, 8192, none⟩) hpw _).setCell (p := ⟨p, 8193, none⟩) hpw _).setCell (p := ⟨p, 16384, none⟩) hpw _) ?_
      clear g0 g1 g2 g3 q0 f0 f1 f2 f3 q1 hplt
      rintro w2 ⟨hk2, hb2⟩
      have HK2 := Lib.hid hk2
      have HB2 := Lib.hid hb2
      clear hk2 hb2
      refine (put6_c (HT.out.below HB2.out) HK2.out ex_putA).mono ?_
      rintro e w3 ⟨v3, rfl, hown3, hb3⟩
      dsimp only at hown3
      obtain ⟨A3, c3, rfl, hA3, hc3, hm3⟩ := hown3.sl
      have HB3 := Lib.hid (below_m HB2.out hb3)
      have HK3 := Lib.hid (HK2.out.below hb3)
      have HA3 := Lib.hid hA3
      have r51 : (convert 26 9 (.slice A3 21 c3)).run Tryd.prog w3 = .ok (.string ⟨#[2, 2, 0, 0, 0, 1, 0, 255, 31, 1, 1, 0, 255, 31, 240, 2, 0, 1, 1, 172, 2]⟩) w3 := run_str w3 c3 hA3
      have hl21 : exB.length = 21 := rfl
      rw [hl21] at hc3 ⊢
      clear hb3 hown3 hA3
      go_wp2_with fail
      go_at_call 16
      refine (get6_c (b := exB) (HT.out.below HB3.out) HA3.out.c (by rw [hl21]; exact hc3) (by rw [hl21]; omega) ex_get).mono ?_
      rintro e w4 ⟨hb4, _, hs4⟩
      obtain ⟨q, rfl, hk4, hq4⟩ := hs4 exK rfl
      have HB4 := Lib.hid (below_m HB3.out hb4)
      have HK4 := Lib.hid (HK3.out.below hb4)
      have HQ4 := Lib.hid hk4
      clear hb4 hs4 hk4 r51
      go_wp2_with (go_at_call 19; refine (same6_c HK4.out HQ4.out).mono ?_; rintro e w5 ⟨rfl, hb5⟩; have HB5 := Lib.hid (below_m HB4.out hb5); clear hb5)
      go_at_call 12
      refine (putNil_c w5).mono ?_
      rintro e w6 ⟨rfl, hb6⟩
      have HB6 := Lib.hid (below_m HB5.out hb6)
      clear hb6
      go_wp2_with fail
      refine wp_region_noPanic ?_
      refine wp_region_held_drew (S := fun w' => Below w.heap.size w w') (by kernel_rfl) HB6.out.drew (fun hHeld => ?_)
      refine wpAnyH_take (i := 0) (oi := ⟨some 71, _, _, _, _, _⟩) (v := .string ⟨#[1, 0, 0, 128, 32, 0, 128, 32, 0]⟩) rfl (by kernel_rfl) (by kernel_rfl) (by kernel_rfl) (fun _ _ _ h => h) (Or.inl ⟨by rfl, fun w hSw => by first | kernel_rfl | go_simp⟩) hHeld ?_
      simp only [Act.put, List.setIfInBounds_toArray, List.set_cons_zero, List.set_cons_succ]
      refine wpAnyH_take (i := 1) (oi := ⟨some 72, _, _, _, _, _⟩) (v := .string ⟨#[1, 0, 0, 128, 32, 0, 128, 32, 0, 1]⟩) rfl (by kernel_rfl) (by kernel_rfl) (by kernel_rfl) (fun _ _ _ h => h) (Or.inl ⟨by rfl, fun w hSw => by first | kernel_rfl | go_simp⟩) hHeld ?_
      simp only [Act.put, List.setIfInBounds_toArray, List.set_cons_zero, List.set_cons_succ]
      refine wpAnyH_take (i := 2) (oi := ⟨some 73, _, _, _, _, _⟩) (v := .string ⟨#[1, 0, 0, 128, 32, 0, 128, 32, 0]⟩) rfl (by kernel_rfl) (by kernel_rfl) (by kernel_rfl) (fun _ _ _ h => h) (Or.inl ⟨by rfl, fun w hSw => by first | kernel_rfl | go_simp⟩) hHeld ?_
      simp only [Act.put, List.setIfInBounds_toArray, List.set_cons_zero, List.set_cons_succ]
      refine wpAnyH_take (i := 3) (oi := ⟨some 74, _, _, _, _, _⟩) (v := .string ⟨#[1, 0, 0, 128, 32, 0, 128, 32, 0, 0, 0]⟩) rfl (by kernel_rfl) (by kernel_rfl) (by kernel_rfl) (fun _ _ _ h => h) (Or.inl ⟨by rfl, fun w hSw => by first | kernel_rfl | go_simp⟩) hHeld ?_
      simp only [Act.put, List.setIfInBounds_toArray, List.set_cons_zero, List.set_cons_succ]
      refine wpAnyH_take (i := 4) (oi := ⟨some 75, _, _, _, _, _⟩) (v := .string ⟨#[1, 0, 0, 128, 32, 0, 128, 32, 0]⟩) rfl (by kernel_rfl) (by kernel_rfl) (by kernel_rfl) (fun _ _ _ h => h) (Or.inl ⟨by rfl, fun w hSw => by first | kernel_rfl | go_simp⟩) hHeld ?_
      simp only [Act.put, List.setIfInBounds_toArray, List.set_cons_zero, List.set_cons_succ]
      refine wpAnyH_take (i := 5) (oi := ⟨some 76, _, _, _, _, _⟩) (v := .string ⟨#[1, 0, 0, 128, 32, 0, 128, 32, 0]⟩) rfl (by kernel_rfl) (by kernel_rfl) (by kernel_rfl) (fun _ _ _ h => h) (Or.inl ⟨by rfl, fun w hSw => by first | kernel_rfl | go_simp⟩) hHeld ?_
      simp only [Act.put, List.setIfInBounds_toArray, List.set_cons_zero, List.set_cons_succ]
      refine wpAnyH_take (i := 6) (oi := ⟨some 77, _, _, _, _, _⟩) (v := .string ⟨#[0, 128, 32, 0, 128, 32, 0]⟩) rfl (by kernel_rfl) (by kernel_rfl) (by kernel_rfl) (fun _ _ _ h => h) (Or.inl ⟨by rfl, fun w hSw => by first | kernel_rfl | go_simp⟩) hHeld ?_
      simp only [Act.put, List.setIfInBounds_toArray, List.set_cons_zero, List.set_cons_succ]
      refine wpAnyH_take (i := 7) (oi := ⟨some 78, _, _, _, _, _⟩) (v := .string ⟨#[1, 15, 0, 128, 32, 0, 128, 32, 0]⟩) rfl (by kernel_rfl) (by kernel_rfl) (by kernel_rfl) (fun _ _ _ h => h) (Or.inl ⟨by rfl, fun w hSw => by first | kernel_rfl | go_simp⟩) hHeld ?_
      simp only [Act.put, List.setIfInBounds_toArray, List.set_cons_zero, List.set_cons_succ]
      refine wpAnyH_take (i := 8) (oi := ⟨some 79, _, _, _, _, _⟩) (v := .string ⟨#[1, 15, 0, 128, 32, 0, 128, 32, 0, 0]⟩) rfl (by kernel_rfl) (by kernel_rfl) (by kernel_rfl) (fun _ _ _ h => h) (Or.inl ⟨by rfl, fun w hSw => by first | kernel_rfl | go_simp⟩) hHeld ?_
      simp only [Act.put, List.setIfInBounds_toArray, List.set_cons_zero, List.set_cons_succ]
      refine wpAnyH_take (i := 9) (oi := ⟨some 80, _, _, _, _, _⟩) (v := .string ⟨#[1, 0, 0, 128, 32, 0, 128, 32, 0]⟩) rfl (by kernel_rfl) (by kernel_rfl) (by kernel_rfl) (fun _ _ _ h => h) (Or.inl ⟨by rfl, fun w hSw => by first | kernel_rfl | go_simp⟩) hHeld ?_
      simp only [Act.put, List.setIfInBounds_toArray, List.set_cons_zero, List.set_cons_succ]
      refine wpAnyH_take (i := 10) (oi := ⟨some 81, _, _, _, _, _⟩) (v := .string ⟨#[128, 32, 0, 128, 32, 0]⟩) rfl (by kernel_rfl) (by kernel_rfl) (by kernel_rfl) (fun _ _ _ h => h) (Or.inl ⟨by rfl, fun w hSw => by first | kernel_rfl | go_simp⟩) hHeld ?_
      simp only [Act.put, List.setIfInBounds_toArray, List.set_cons_zero, List.set_cons_succ]
      refine wpAnyH_take (i := 11) (oi := ⟨some 82, _, _, _, _, _⟩) (v := .string ⟨#[2, 0, 0, 0, 0, 128, 32, 0, 128, 32, 0]⟩) rfl (by kernel_rfl) (by kernel_rfl) (by kernel_rfl) (fun _ _ _ h => h) (Or.inl ⟨by rfl, fun w hSw => by first | kernel_rfl | go_simp⟩) hHeld ?_
      simp only [Act.put, List.setIfInBounds_toArray, List.set_cons_zero, List.set_cons_succ]
      refine wpAnyH_take (i := 12) (oi := ⟨some 83, _, _, _, _, _⟩) (v := .string ⟨#[2, 0, 0, 0, 0, 128, 32, 0, 128, 32, 0, 0]⟩) rfl (by kernel_rfl) (by kernel_rfl) (by kernel_rfl) (fun _ _ _ h => h) (Or.inl ⟨by rfl, fun w hSw => by first | kernel_rfl | go_simp⟩) hHeld ?_
      simp only [Act.put, List.setIfInBounds_toArray, List.set_cons_zero, List.set_cons_succ]
      refine wpAnyH_take (i := 13) (oi := ⟨some 84, _, _, _, _, _⟩) (v := .string ⟨#[1, 0, 0, 128, 32, 0, 128, 32, 0]⟩) rfl (by kernel_rfl) (by kernel_rfl) (by kernel_rfl) (fun _ _ _ h => h) (Or.inl ⟨by rfl, fun w hSw => by first | kernel_rfl | go_simp⟩) hHeld ?_
      simp only [Act.put, List.setIfInBounds_toArray, List.set_cons_zero, List.set_cons_succ]
      refine wpAnyH_take (i := 14) (oi := ⟨some 85, _, _, _, _, _⟩) (v := .string ⟨#[128, 32, 0, 128, 32, 0]⟩) rfl (by kernel_rfl) (by kernel_rfl) (by kernel_rfl) (fun _ _ _ h => h) (Or.inl ⟨by rfl, fun w hSw => by first | kernel_rfl | go_simp⟩) hHeld ?_
      simp only [Act.put, List.setIfInBounds_toArray, List.set_cons_zero, List.set_cons_succ]
      refine wpAnyH_take (i := 15) (oi := ⟨some 86, _, _, _, _, _⟩) (v := .string ⟨#[2, 0, 0, 2, 0, 128, 32, 0, 128, 32, 0]⟩) rfl (by kernel_rfl) (by kernel_rfl) (by kernel_rfl) (fun _ _ _ h => h) (Or.inl ⟨by rfl, fun w hSw => by first | kernel_rfl | go_simp⟩) hHeld ?_
      simp only [Act.put, List.setIfInBounds_toArray, List.set_cons_zero, List.set_cons_succ]
      refine wpAnyH_take (i := 16) (oi := ⟨some 87, _, _, _, _, _⟩) (v := .string ⟨#[2, 0, 0, 2, 0, 128, 32, 0, 128, 32, 0, 0]⟩) rfl (by kernel_rfl) (by kernel_rfl) (by kernel_rfl) (fun _ _ _ h => h) (Or.inl ⟨by rfl, fun w hSw => by first | kernel_rfl | go_simp⟩) hHeld ?_
      simp only [Act.put, List.setIfInBounds_toArray, List.set_cons_zero, List.set_cons_succ]
      refine wpAnyH_take (i := 17) (oi := ⟨some 88, _, _, _, _, _⟩) (v := .string ⟨#[1, 0, 0, 128, 32, 0, 128, 32, 0]⟩) rfl (by kernel_rfl) (by kernel_rfl) (by kernel_rfl) (fun _ _ _ h => h) (Or.inl ⟨by rfl, fun w hSw => by first | kernel_rfl | go_simp⟩) hHeld ?_
      simp only [Act.put, List.setIfInBounds_toArray, List.set_cons_zero, List.set_cons_succ]
      refine wpAnyH_take (i := 18) (oi := ⟨some 89, _, _, _, _, _⟩) (v := .string ⟨#[1, 0, 0, 128, 32, 0, 128, 32, 0, 1, 0, 0]⟩) rfl (by kernel_rfl) (by kernel_rfl) (by kernel_rfl) (fun _ _ _ h => h) (Or.inl ⟨by rfl, fun w hSw => by first | kernel_rfl | go_simp⟩) hHeld ?_
      simp only [Act.put, List.setIfInBounds_toArray, List.set_cons_zero, List.set_cons_succ]
      refine wpAnyH_take (i := 19) (oi := ⟨some 90, _, _, _, _, _⟩) (v := .string ⟨#[1, 0, 0, 128, 32, 0, 128, 32, 0]⟩) rfl (by kernel_rfl) (by kernel_rfl) (by kernel_rfl) (fun _ _ _ h => h) (Or.inl ⟨by rfl, fun w hSw => by first | kernel_rfl | go_simp⟩) hHeld ?_
      simp only [Act.put, List.setIfInBounds_toArray, List.set_cons_zero, List.set_cons_succ]
      refine wpAnyH_take (i := 20) (oi := ⟨some 91, _, _, _, _, _⟩) (v := .string ⟨#[1, 0, 0, 128, 32, 0, 128, 32, 0, 1, 128, 32, 1]⟩) rfl (by kernel_rfl) (by kernel_rfl) (by kernel_rfl) (fun _ _ _ h => h) (Or.inl ⟨by rfl, fun w hSw => by first | kernel_rfl | go_simp⟩) hHeld ?_
      simp only [Act.put, List.setIfInBounds_toArray, List.set_cons_zero, List.set_cons_succ]
      refine wpAnyH_ready (rs := [21]) (by kernel_rfl) (by simp) ?_
      refine AllReadyH.cons (o := ⟨some 92, _, _, _, _, _⟩) rfl (fun K hK => ?_) AllReadyH.nil
      go_simp
      refine hK.out _ _ (HB6.out.alloc HB6.out.size _).drew (fun hHeld => ?_)
      clear hK K
      refine wpAnyH_ready (rs := [22]) (by kernel_rfl) (by simp) ?_
      refine AllReadyH.cons (o := ⟨some 10, _, _, _, _, _⟩) rfl (fun K hK => ?_) AllReadyH.nil
      go_simp
      refine hK.out _ _ hHeld (fun hHeld => ?_)
      clear hK K
      refine wpAnyH_done (by kernel_rfl) ?_ _
      refine NoPanic.normal ?_
      refine x_named (fun W => (∀ j l, bads[j]? = some l → W.cell? ⟨w6.heap.size, j, none⟩ = some (.string ⟨l.toArray⟩)) ∧ w6.heap.size < W.heap.size ∧ Below w.heap.size w W) ⟨fun j l hl => ?_, lt_of_heap (heap_alloc_new w6 _), (HB6.out.alloc HB6.out.size _).drew⟩ ?_
      · refine (cell_of_row _ _ j _ _ _ (heap_alloc_new w6 _)).trans ?_
        match j, hl with
        | 0, hl => obtain rfl := Option.some.inj hl; rfl
        | 1, hl => obtain rfl := Option.some.inj hl; rfl
        | 2, hl => obtain rfl := Option.some.inj hl; rfl
        | 3, hl => obtain rfl := Option.some.inj hl; rfl
        | 4, hl => obtain rfl := Option.some.inj hl; rfl
        | 5, hl => obtain rfl := Option.some.inj hl; rfl
        | 6, hl => obtain rfl := Option.some.inj hl; rfl
        | 7, hl => obtain rfl := Option.some.inj hl; rfl
        | 8, hl => obtain rfl := Option.some.inj hl; rfl
        | 9, hl => obtain rfl := Option.some.inj hl; rfl
        | (j + 10), hl => simp [bads] at hl
      clear hHeld
      rintro w7 ⟨hs7, hz7, hb7⟩
      have HS7 := Lib.hid hs7
      have HB7 := Lib.hid hb7
      clear hs7 hb7
      go_wp2_with fail
      go_loopw [11] (knownS w7) (fun v _ => 10 - (intOf v).toNat)
      case atStart => exact ⟨0, rfl, by omega, Below.refl _ _⟩
      case round =>
        obtain ⟨i, rfl, hi, hbi⟩ := hrel
        have HBI := Lib.hid hbi
        clear hbi
        by_cases hi10 : i < 10
        · have hiI : (i : Int) < 10 := by omega
          obtain ⟨l, hl⟩ : ∃ l, bads[i]? = some l := ⟨_, List.getElem?_eq_getElem (by simp [bads]; omega)⟩
          obtain ⟨hno, hle⟩ := bads_none i l hl
          have HNO := Lib.hid hno
          have hc := (HBI.out.cell (p := ⟨w6.heap.size, i, none⟩) hz7).trans (HS7.out i l hl)
          clear hl hno
          go_wp2_with ((with_reducible refine at_slot 104 ?_); refine wp_bytes rfl (.tmp 103) rfl (l := l) rfl ?_ (by simp only [maxLen]; omega); intro c8 w8 cs8 hcs8 k1 k2 k3 k4 hb8 hz8)
          go_at_call 16
          have HB8 := Lib.hid (below_m HBI.out hb8)
          refine (get6_c (HT.out.below (below_m HB7.out HB8.out)) (at_bytes hcs8 k4).c k1 (by omega) HNO.out).mono ?_
          rintro e w9 ⟨hb9, hn9, _⟩
          obtain rfl := hn9 rfl
          have HB9 := Lib.hid (below_m HB8.out hb9)
          clear hc hcs8 k1 k2 k3 k4 hb8 hz8 hb9 hn9
          go_wp2_with fail
          go_roundw
          case rel => exact ⟨i + 1, by go_num, by omega, HB9.out⟩
          case measure => simp [intOf]; omega
        · have hiI : ¬ (i : Int) < 10 := by omega
          go_wp2_with (go_at_call 15; refine (works_c (HT.out.below (below_m HB7.out HBI.out))).mono ?_; rintro e w9 ⟨rfl, hb9⟩)
          go_ret
          exact ⟨rfl, below_m (below_m HB7.out HBI.out) hb9⟩
end PackW
end Go.Proofs.YtjllgdlmeoakpaaDoor
