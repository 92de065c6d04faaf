/-
  sound: what is near, with Bedrock for each cell that may not be.
-/
import Derived.Test.YtlahkmkipciiiaaDoorFlowMem
namespace Go.Proofs.YtlahkmkipciiiaaDoor
open Go.RowKit
set_option linter.unusedVariables false
set_option linter.unusedSimpArgs false
namespace FlowW
open BlkP RowG FrS PushG FlowP
/-- The cell and the first so many sides have been counted. -/
def sA (n : Nr) (j : Nat) : Nr := {n with s := sure n.s, sd := fun i => if i < j then sure (n.sd i) else n.sd i}
def uA (n : Nr) (j : Nat) : Nr := {n with s := sure n.s, sd := fun i => sure (n.sd i), un := fun i => if i < j then sure (n.un i) else n.un i}
theorem sA_next (n : Nr) (j : Nat) : {sA n j with sd := upd (sA n j).sd j (sure (n.sd j))} = sA n (j + 1) := by
  simp only [sA, Nr.mk.injEq, true_and, and_true]
  funext i
  simp only [upd]
  by_cases h : i = j
  · subst h
    simp
  · rw [if_neg h]
    by_cases h2 : i < j
    · rw [if_pos h2, if_pos (by omega)]
    · rw [if_neg h2, if_neg (by omega)]
theorem uA_next (n : Nr) (j : Nat) : {uA n j with un := upd (uA n j).un j (sure (n.un j))} = uA n (j + 1) := by
  simp only [uA, Nr.mk.injEq, true_and, and_true]
  funext i
  simp only [upd]
  by_cases h : i = j
  · subst h
    simp
  · rw [if_neg h]
    by_cases h2 : i < j
    · rw [if_pos h2, if_pos (by omega)]
    · rw [if_neg h2, if_neg (by omega)]
theorem sA_end (n : Nr) : vals (sA n 6) = vals (uA n 0) := rfl
theorem uA_end (n : Nr) : vals (uA n 4) = vals (snd n) := rfl
theorem sA_at (n : Nr) (j : Nat) : (sA n j).sd j = n.sd j := by simp [sA]
theorem uA_at (n : Nr) (j : Nat) : (uA n j).un j = n.un j := by simp [uA]
set_option maxRecDepth 100000 in
set_option maxHeartbeats 8000000 in
theorem sound_c {w : World} {n : Nr} (hT : KindW.Tab w) : Calls Tryd.prog 36 #[nv n] w fun e w' => e = .returned (nv (snd n)) ∧ Below w.heap.size w w' := by
  have HT := Lib.hid hT
  clear hT
  obtain ⟨⟨k0, l0⟩, hk⟩ : ∃ c, sure n.s = c := ⟨_, rfl⟩
  have HK := Lib.hid hk
  clear hk
  go_enter Tryd.func36, Tryd.ntmps36
  go_wp2_with ((with_reducible refine at_slot 1 ?_); refine Classical.byContradiction (fun hG => ?_))
  refine hG ?_
  clear hG
  refine wp_boxN rfl (.tmp 0) rfl rfl ?_
  intro w1 h1 hb1 hz1
  go_wp2_with ((with_reducible refine at_slot 5 ?_); refine Classical.byContradiction (fun hG => ?_))
  refine hG ?_
  clear hG
  refine list_named (S := fun W => Below w.heap.size w W ∧ Blk W w.heap.size TN (vals n) ∧ Blk W (w.heap.size + 1) TN (vals nz)) ⟨by (repeat' (first | (with_reducible exact Below.refl _ _) | (with_reducible refine Below.setCell ?_ (by (first | omega | (simp; done) | (simp; omega))) _) | (with_reducible refine Below.alloc ?_ (by (first | omega | (simp; done) | (simp; omega))) _) | (with_reducible refine Below.drew ?_) | (with_reducible refine below_drewN ?_ _) | (with_reducible refine Below.trans ?_ (Below.mono hb1 (by (first | omega | (simp; done) | (simp; omega))))))), by (repeat' (first | (with_reducible exact h1) | (with_reducible refine BlkP.Blk.drew ?_) | (with_reducible refine BlkP.Blk.drewN ?_ _) | (with_reducible refine BlkP.Blk.setAt (us := ?_) (by first | omega | (simp; done) | (simp; omega)) rfl ?_ ?_) | (with_reducible refine BlkP.Blk.otherAt ?_ (by first | omega | (simp; done) | (simp; omega))) | (with_reducible refine BlkP.Blk.newA' (by first | omega | (simp; done) | (simp; omega)) rfl) | (with_reducible refine BlkP.Blk.alloc ?_ _) | (exact rfl))), by (repeat' (first | (with_reducible refine BlkP.Blk.drew ?_) | (with_reducible refine BlkP.Blk.drewN ?_ _) | (with_reducible refine BlkP.Blk.setAt (us := ?_) (by first | omega | (simp; done) | (simp; omega)) rfl ?_ ?_) | (with_reducible refine BlkP.Blk.otherAt ?_ (by first | omega | (simp; done) | (simp; omega))) | (with_reducible refine BlkP.Blk.newA' (by first | omega | (simp; done) | (simp; omega)) rfl) | (with_reducible refine BlkP.Blk.alloc ?_ _) | (exact rfl)))⟩ ?_
  rintro w2 ⟨hb2, h2, hz2⟩
  have HB2 := Lib.hid hb2
  have H2 := Lib.hid h2
  have HZ2 := Lib.hid hz2
  have c0 := h2.cell (i := 0) (g_kind n)
  have c1 := h2.cell (i := 1) (g_lev n)
  clear hb1 h1 hz1 hb2 h2 hz2
  go_wp2_with fail
  refine (counted_c (HT.out.below HB2.out) HK.out).mono ?_
  rintro e w3 ⟨rfl, hb3⟩
  have H3 := Lib.hid (H2.out.below hb3)
  have HZ3 := Lib.hid (HZ2.out.below hb3)
  have HB3 := Lib.hid (below_t HB2.out hb3)
  have c0 := H3.out.cell (i := 0) (g_kind n)
  have c1 := H3.out.cell (i := 1) (g_lev n)
  have f0 := H3.out.frozen 0
  have f1 := H3.out.frozen 1
  clear hb3
  go_wp2_with fail
  go_loopw [3, 9] (fun _ v9 wr => ∃ j : Nat, v9 = .int .i64 (j : Nat) ∧ j ≤ 6 ∧ Blk wr w.heap.size TN (vals (sA n j)) ∧ Blk wr (w.heap.size + 1) TN (vals nz) ∧ Below w.heap.size w wr) (fun _ v _ => 6 - (intOf v).toNat)
  case atStart => exact ⟨0, rfl, by omega, (H3.out.set _ _).setTo (by rw [show sA n 0 = {n with s := sure n.s} from rfl, HK.out]; exact set_s n (k0, l0)), (HZ3.out.other (by simp) _).other (by simp) _, (HB3.out.setCell (by simp) _).setCell (by simp) _⟩
  case round =>
    obtain ⟨j, rfl, hj, hr, hzr, hbr⟩ := hrel
    have HR := Lib.hid hr
    have HZR := Lib.hid hzr
    have HBR := Lib.hid hbr
    by_cases hjl : j < 6
    · have hjI : (j : Int) < 6 := by omega
      obtain ⟨⟨k1, l1⟩, hk1⟩ : ∃ c, sure (n.sd j) = c := ⟨_, rfl⟩
      have HK1 := Lib.hid hk1
      have hat := sA_at n j
      have c0 := hr.cell (g_sk (sA n j) (d := j) (by omega))
      have c1 := hr.cell (g_sl (sA n j) (d := j) (by omega))
      rw [hat] at c0 c1
      have HWR := Lib.hid (show wrap64 ((j : Int) + 1) = ((j + 1 : Nat) : Int) by rw [wr64 (by omega) (by omega)]; omega)
      clear hr hzr hbr hk1 hat
      go_wp2_with fail
      refine (counted_c (HT.out.below HBR.out) HK1.out).mono ?_
      rintro e w4 ⟨rfl, hb4⟩
      have H4 := Lib.hid (HR.out.below hb4)
      have HZ4 := Lib.hid (HZR.out.below hb4)
      have HB4 := Lib.hid (below_t HBR.out hb4)
      have c0 := H4.out.cell (g_sk (sA n j) (d := j) (by omega))
      have c1 := H4.out.cell (g_sl (sA n j) (d := j) (by omega))
      have f0 := H4.out.frozen (2 + j * 2)
      have f1 := H4.out.frozen (2 + j * 2 + 1)
      clear hb4
      go_wp2_with fail
      go_roundw
      case rel =>
        refine ⟨j + 1, by first | rfl | rw [HWR.out] | (congr 1; omega), by omega, ?_, ?_, ?_⟩
        · have e := set_side (sA n j) (d := j) (by omega) (k1, l1)
          rw [← HK1.out, sA_next, HK1.out] at e
          rw [← e]
          exact (H4.out.set _ _).set _ _
        · exact (HZ4.out.other (by simp) _).other (by simp) _
        · exact (HB4.out.setCell (by simp) _).setCell (by simp) _
      case measure =>
        simp only [intOf]
        omega
    · have hje : j = 6 := by omega
      have hjI : ¬ (j : Int) < 6 := by omega
      subst hje
      clear hr hzr hbr
      go_wp2_with fail
      go_loopw [4, 21] (fun _ v21 wr => ∃ j : Nat, v21 = .int .i64 (j : Nat) ∧ j ≤ 4 ∧ Blk wr w.heap.size TN (vals (uA n j)) ∧ Blk wr (w.heap.size + 1) TN (vals nz) ∧ Below w.heap.size w wr) (fun _ v _ => 4 - (intOf v).toNat)
      case atStart => exact ⟨0, rfl, by omega, HR.out, HZR.out, HBR.out⟩
      case round =>
        obtain ⟨j, rfl, hj, hr, hzr, hbr⟩ := hrel
        have HR := Lib.hid hr
        have HZR := Lib.hid hzr
        have HBR := Lib.hid hbr
        by_cases hjl : j < 4
        · have hjI : (j : Int) < 4 := by omega
          obtain ⟨⟨k1, l1⟩, hk1⟩ : ∃ c, sure (n.un j) = c := ⟨_, rfl⟩
          have HK1 := Lib.hid hk1
          have hat := uA_at n j
          have c0 := hr.cell (g_uk (uA n j) (d := j) (by omega))
          have c1 := hr.cell (g_ul (uA n j) (d := j) (by omega))
          rw [hat] at c0 c1
          have HWR := Lib.hid (show wrap64 ((j : Int) + 1) = ((j + 1 : Nat) : Int) by rw [wr64 (by omega) (by omega)]; omega)
          clear hr hzr hbr hk1 hat
          go_wp2_with fail
          refine (counted_c (HT.out.below HBR.out) HK1.out).mono ?_
          rintro e w4 ⟨rfl, hb4⟩
          have H4 := Lib.hid (HR.out.below hb4)
          have HZ4 := Lib.hid (HZR.out.below hb4)
          have HB4 := Lib.hid (below_t HBR.out hb4)
          have c0 := H4.out.cell (g_uk (uA n j) (d := j) (by omega))
          have c1 := H4.out.cell (g_ul (uA n j) (d := j) (by omega))
          have f0 := H4.out.frozen (14 + j * 2)
          have f1 := H4.out.frozen (14 + j * 2 + 1)
          clear hb4
          go_wp2_with fail
          go_roundw
          case rel =>
            refine ⟨j + 1, by first | rfl | rw [HWR.out] | (congr 1; omega), by omega, ?_, ?_, ?_⟩
            · have e := set_under (uA n j) (d := j) (by omega) (k1, l1)
              rw [← HK1.out, uA_next, HK1.out] at e
              rw [← e]
              exact (H4.out.set _ _).set _ _
            · exact (HZ4.out.other (by simp) _).other (by simp) _
            · exact (HB4.out.setCell (by simp) _).setCell (by simp) _
          case measure =>
            simp only [intOf]
            omega
        · have hje : j = 4 := by omega
          have hjI : ¬ (j : Int) < 4 := by omega
          subst hje
          clear hr hzr hbr
          go_wp2_with ((with_reducible refine at_slot 33 ?_); refine Classical.byContradiction (fun hG => ?_))
          refine hG ?_
          clear hG
          refine wp_loadN rfl (.tmp 1) rfl rfl (n := snd n) HR.out ?_
          go_wp2_with ((with_reducible refine at_storeN ?_); refine Classical.byContradiction (fun hG => ?_))
          refine hG ?_
          clear hG
          refine wp_storeN rfl (.tmp 2) (.tmp 33) rfl rfl rfl HZR.out rfl ?_
          intro w5 h5 hg5 hz5
          have hB5 : Below w.heap.size w w5 := HBR.out.grown hg5 (by have := HBR.out.size; omega) (fun k hk => by injection hk with hk; omega)
          have l5 := h5.lt
          have HB5 := Lib.hid hB5
          have H5 := Lib.hid h5
          clear hB5 hg5 hz5 h5
          go_wp2_with fail
          refine bodyPost_ret (v := nv (snd n)) (results_N Tryd.results36 rfl H5.out) rfl ?_
          exact ⟨rfl, HB5.out⟩
end FlowW
end Go.Proofs.YtlahkmkipciiiaaDoor
