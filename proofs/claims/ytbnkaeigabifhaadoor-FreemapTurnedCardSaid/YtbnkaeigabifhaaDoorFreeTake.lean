/-
  The free sectors with the least numbers, taken.
-/
import Derived.Test.YtbnkaeigabifhaaDoorFreeFlip
import Derived.OwnWalk
import Derived.WalkMore
import Derived.Deep.LoopGhost
-- mine: whole_c same_c awake_c take_c step_c back_c Made number_c next_c fixed_c clone_c int_c end_c put_c
namespace Go.Proofs.YtbnkaeigabifhaaDoor
open Go.RowKit
set_option linter.unusedVariables false
set_option linter.unusedSimpArgs false
set_option maxRecDepth 100000
namespace FreW
open BlkP RowG FrS PushG FreP
theorem at_slot (t : Tmp) {P : Program} {w : World} {ops : Array Oper} {rest : List Oper} {a : Act} {Q : Exit → Act → World → Prop} {op : Op} {ty : TypeId} {pos : String} {af : _} {g : _} (h : wpList P ops Q ((⟨some t, op, ty, pos, af, g⟩ : Oper) :: rest) a w) : wpList P ops Q ((⟨some t, op, ty, pos, af, g⟩ : Oper) :: rest) a w := h
/-- What Take answers, and leaves. -/
def TakeP (w : World) (B p n : Nat) (L : List Bool) (S : Nat → Prop) (k : Int) (e : Ending) (w' : World) : Prop := ∃ v, e = .returned (.tuple #[v, .bool (canT L k)]) ∧ RowG.Own RowG.encI TI w' w.heap.size v (takeO L k) ∧ Turned w B p n S (takeL L k) w'
theorem can_no {L : List Bool} {k : Int} (h : canT L k = false) : takeO L k = [] ∧ takeL L k = L := by
  have e : takeO L k = [] := by unfold takeO; rw [h]; rfl
  refine ⟨e, ?_⟩
  unfold takeL
  rw [e]
  rfl
theorem all_in {L : List Bool} {k : Nat} : ∀ x ∈ (all L).take k, inL L x = true := fun x hx => by
  have h := (mem_all L x).1 (List.mem_of_mem_take hx)
  have := has_true h.2
  exact inL_iff.2 ⟨h.1, by omega⟩
theorem frees_pre (f : Nat → Bool) {a b : Nat} (h : a ≤ b) : ∃ r, frees f 0 b = frees f 0 a ++ r := by
  obtain ⟨d, rfl⟩ : ∃ d, b = a + d := ⟨b - a, by omega⟩
  exact ⟨_, frees_add f a 0 d⟩
section
variable {w : World} {B p n : Nat} {L : List Bool} {S : Nat → Prop}
theorem Take_no (k : Int) (w : World) : Calls Tryd.prog 16 #[.pointer none, .int .i64 k] w fun e w' => e = .returned (.tuple #[.slice none 0 0, .bool false]) ∧ w' = w := by
  go_enter Tryd.func16, Tryd.ntmps16
  go_wp2_with fail
  go_step3
  go_wp2_with fail
  go_at_call 40
  refine (isMade_no _).mono ?_
  rintro e w1 ⟨rfl, hw⟩
  obtain rfl := hw.symm
  go_wp2_with fail
  try rw [Exit.noGoto_ret]
  refine bodyPost_ret (v := .tuple #[.slice none 0 0, .bool false]) (by simp [results, Tryd.results16, go_sem]) rfl ?_
  exact ⟨rfl, rfl⟩
set_option maxHeartbeats 4000000 in
theorem Take_i (h : Mp w B p n L S) (hT : TabZ w) (k : Int) : Calls Tryd.prog 16 #[.pointer (some ⟨p, 0, none⟩), .int .i64 k] w (TakeP w B p n L S k) := by
  have HM := Lib.hid h
  have HT := Lib.hid hT
  have hfl := free_le L
  rw [h.len] at hfl
  have hhi := h.hi
  clear h hT
  by_cases h0 : 0 ≤ k
  · obtain ⟨K, rfl⟩ := Int.eq_ofNat_of_zero_le h0
    by_cases h1 : K ≤ free L
    · have HC : Hid (canT L (K : Int) = true) := Lib.hid (by unfold canT; simp [h1])
      have HO : Hid (takeO L (K : Int) = (all L).take K) := Lib.hid (by unfold takeO; rw [HC.out]; rfl)
      have HAL := Lib.hid (all_len L)
      obtain ⟨g, c, hP, hS⟩ := HM.out
      have HP := Lib.hid hP
      have HS := Lib.hid hS
      have HA : Hid (frees (has L) 0 (64 * nw n) = all L) := Lib.hid (by rw [← hP.len]; exact words_all L)
      have hnw : nw n ≤ 2048 := by unfold nw; omega
      have c1 := hP.bp.cell (i := 1) (v := .slice (some ⟨g, 0, none⟩) (nw n) c) rfl
      have hpl := hP.bp.lt
      have hgl := hP.gb.2
      obtain ⟨i, hi, hz, hs1, hby⟩ := info_parts infoI
      have HI := Lib.hid hi
      have HZ := Lib.hid hz
      have HS1 := Lib.hid hs1
      have HB := Lib.hid hby
      have hm : maxLen = 9223372036854775807 := rfl
      have hgt : decide ((K : Int) > (free L : Int)) = false := by simp; omega
      clear hP hS hi hz hs1 hby h0
      go_enter Tryd.func16, Tryd.ntmps16
      go_wp2_with fail
      go_step3
      go_wp2_with fail
      go_at_call 40
      refine (isMade_i HM.out).mono ?_
      rintro e w1 ⟨rfl, hw⟩
      obtain rfl := hw.symm
      go_wp2_with fail
      go_at_call 25
      refine (Free_i HM.out).mono ?_
      rintro e w1 ⟨rfl, hw⟩
      obtain rfl := hw.symm
      go_wp2_with ((with_reducible refine at_slot 23 ?_); refine wpList_make_own _ rfl _ _ TIs rfl w.heap.size TI i (.int .i64 0) 1 underIs HI.out HZ.out HS1.out .i64 .i64 _ K rfl rfl (by omega) (by rw [HB.out]; omega) (by omega) (Nat.le_refl _) ?_; intro w1 hown1 hg1; have OW := Lib.hid (show RowG.Own RowG.encI TI w1 w.heap.size (.slice (some ⟨w.heap.size, 0, none⟩) 0 K) [] from hown1); have BW := Lib.hid (show Below w.heap.size w w1 from (Below.refl _ w).grown hg1 (Nat.le_refl _) (by simp)); have c11 := (BW.out.cell (p := ⟨p, 1, none⟩) hpl).trans c1; clear hown1 hg1)
      go_step3
      go_wp2_with fail
      go_loopw [6, 7, 8, 29] (fun v6 v7 v8 v29 wr => ∃ (j : Nat), v29 = .int .i64 (j : Int) ∧ j ≤ nw n ∧ RowG.Own RowG.encI TI wr w.heap.size v6 (frees (has L) 0 (64 * j)) ∧ cnt (has L) 0 (64 * j) ≤ K ∧ Below w.heap.size w wr) (fun v6 v7 v8 v29 _ => nw n - (RowKit.intOf v29).toNat)
      case atStart => exact ⟨0, rfl, by omega, OW.out, by simp [cnt], BW.out⟩
      case round =>
        obtain ⟨j, rfl, hj, hown, hcn, hbr⟩ := hrel
        obtain ⟨Al, cl, rfl, hcl1, hcl2, hfm⟩ := hown.form (n := cnt (has L) 0 (64 * j)) (frees_len _ _ _)
        have OR := Lib.hid hown
        have BR := Lib.hid hbr
        have HFM := Lib.hid hfm
        have HLN := Lib.hid (frees_len (has L) (64 * j) 0)
        have c12 := (hbr.cell (p := ⟨p, 1, none⟩) hpl).trans c1
        clear hown hbr hfm
        by_cases hlt : j < nw n
        · have cw := (BR.out.cell (p := ⟨g, j, none⟩) hgl).trans (HP.out.word hlt)
          have HWL := Lib.hid (lows_word (has L) (64 * j))
          obtain ⟨W0, hW0⟩ : ∃ W, W = wd L j := ⟨_, rfl⟩
          have hW0l : W0 < 18446744073709551616 := by rw [hW0]; exact wd_lt _ _
          rw [← hW0] at cw
          have HW0 := Lib.hid hW0
          clear hW0
          generalize hml : cnt (has L) 0 (64 * j) = ml at *
          have HML := Lib.hid hml
          clear hml
          go_wp2_with fail
          go_loopw [6, 8] (fun v6 v8 wy => ∃ (W : Nat) (l : List Int), v8 = .int .u64 (W : Int) ∧ W < 18446744073709551616 ∧ RowG.Own RowG.encI TI wy w.heap.size v6 l ∧ l ++ lows W (64 * j) = frees (has L) 0 (64 * (j + 1)) ∧ l.length ≤ K ∧ Below w.heap.size w wy) (fun v6 v8 _ => (lows (RowKit.intOf v8).toNat (64 * j)).length)
          case atStart =>
            refine ⟨W0, frees (has L) 0 (64 * j), rfl, hW0l, OR.out, ?_, by rw [HLN.out]; exact hcn, BR.out⟩
            rw [HW0.out, show 64 * (j + 1) = 64 * j + 64 by omega, frees_add, Nat.zero_add]
            exact congrArg _ HWL.out
          case round =>
            obtain ⟨W, l, rfl, hWl, hown, happ, hll, hbr⟩ := hrel
            obtain ⟨m, hm⟩ : ∃ m, m = l.length := ⟨_, rfl⟩
            rw [← hm] at hll
            obtain ⟨Al, cl, rfl, hcl1, hcl2, hfm⟩ := hown.form (n := m) hm.symm
            clear OR BR HFM HLN
            have OR := Lib.hid hown
            have BR := Lib.hid hbr
            have HFM := Lib.hid hfm
            have HLN := Lib.hid hm.symm
            have HAP := Lib.hid happ
            clear hown hbr hfm happ hm
            by_cases hW : W = 0
            · subst hW
              have HE : Hid (l = frees (has L) 0 (64 * (j + 1))) := Lib.hid (by rw [← HAP.out, lows_zero, List.append_nil])
              go_wp2_with fail
              go_roundw
              case rel =>
                refine ⟨j + 1, by go_num, by omega, ?_, ?_, BR.out⟩
                · rw [← HE.out]
                  exact OR.out
                · rw [← frees_len, ← HE.out, HLN.out]
                  exact hll
              case measure => simp [RowKit.intOf]; omega
            · have h0 : ((W : Int) != 0) = true := by simpa using hW
              by_cases hmk : m = K
              · subst hmk
                have HK : Hid ((all L).take m = l) := Lib.hid (by
                  obtain ⟨r, hr⟩ := frees_pre (has L) (a := 64 * (j + 1)) (b := 64 * nw n) (by omega)
                  rw [← HA.out, hr, ← HAP.out, List.append_assoc, List.take_append_of_le_length (by rw [HLN.out]; omega), List.take_of_length_le (by rw [HLN.out]; omega)])
                have OL := Lib.hid (show RowG.Own RowG.encI TI wr w.heap.size (.slice Al m cl) (takeO L (m : Int)) by rw [HO.out, HK.out]; exact OR.out)
                have MP := Lib.hid (HP.out.fr (Fr.below (fun _ => False) BR.out) (fun _ _ q => q))
                have IL : Hid (Ints wr (fun b => b = p ∨ b = g) Al m cl (takeO L (m : Int))) := Lib.hid (Ints.of_rd OL.out.rd (by rw [HO.out, HK.out]; exact HLN.out) (fun hz b o hb hlt q => by
                  obtain ⟨g', e1, e2, e3⟩ := HFM.out hz
                  rw [e1] at hb
                  injection hb with hb
                  injection hb with hb
                  rcases q with q | q <;> omega))
                have HIN : Hid (∀ x ∈ takeO L (m : Int), inL L x = true) := Lib.hid (by rw [HO.out]; exact all_in)
                go_wp2_with fail
                go_at_call 42
                refine (flip_c MP.out IL.out HIN.out).mono ?_
                rintro e w3 ⟨rfl, hM3, hF3⟩
                have T3 := Lib.hid (turned_of HS.out hM3 ((Fr.below (fun b => b = g) BR.out).trans hF3 (fun _ q => .inl q)))
                have O3 := Lib.hid (hF3.own OL.out (fun g' q e => by
                  have := OL.out.ge g' q
                  omega))
                clear hM3 hF3
                go_wp2_with fail
                try rw [Exit.noGoto_ret]
                refine bodyPost_ret (v := .tuple #[.slice Al m cl, .bool true]) (by simp [results, Tryd.results16, go_sem]) rfl ?_
                exact ⟨_, by rw [HC.out], O3.out, T3.out⟩
              · have hmk2 : ((m : Int) == (K : Int)) = false := by simp; omega
                have HLC := Lib.hid (lows_cons hW hWl (64 * j))
                have TW := Lib.hid (HT.out.below BR.out)
                have HTZ : Hid (∀ {w : World}, TabZ w → Calls Tryd.prog 41 #[.int .u64 (W : Int)] w fun e w' => e = .returned (.int .i64 (Lib.ctz 64 W : Int)) ∧ w' = w) := Lib.hid (fun hT => TrailingZeros64_c hW hWl hT)
                have hk64 : Lib.ctz 64 W < 64 := by
                  obtain ⟨_, _, h⟩ := low_form hW hWl
                  exact h
                obtain ⟨t, ht⟩ : ∃ t, t = Lib.ctz 64 W := ⟨_, rfl⟩
                rw [← ht] at HLC HTZ hk64
                obtain ⟨W2, hW2⟩ : ∃ W2, W2 = W &&& (W - 1) := ⟨_, rfl⟩
                have hW2l : W2 < 18446744073709551616 := by rw [hW2]; exact clear_lt hWl
                have hand : bits .and .u64 (W : Int) ((W : Int) - 1) = (W2 : Int) := by rw [hW2]; exact and_lit W (W - 1) hWl (by omega) rfl (by omega)
                have HAND := Lib.hid hand
                rw [← hW2] at HLC
                have hW1 : 1 ≤ W := by omega
                clear ht hW2 hand
                go_wp2_with fail
                go_at_call 41
                refine (HTZ.out TW.out).mono ?_
                rintro e w4 ⟨rfl, hw⟩
                obtain rfl := hw.symm
                go_wp2_with ((with_reducible refine at_slot 51 ?_); refine Classical.byContradiction (fun hG => ?_))
                refine hG ?_
                clear hG
                refine RowG.wp_push RowG.encI rfl (.tmp 44) (.tmp 50) rfl underIs infoI rfl (by decide) wr #[.int .i64 ((j : Int) * 64 + (t : Int))] rfl ((j : Int) * 64 + (t : Int)) rfl rfl (B := w.heap.size) OR.out rfl (by rw [HLN.out]; have : maxLen = 9223372036854775807 := rfl; omega) (by rw [HLN.out]; omega) BR.out.size ?_
                intro v5 w5 ho5 hg5 hv5
                have O5 := Lib.hid ho5
                have B5 := Lib.hid (BR.out.trans (OR.out.grownB hg5 BR.out.size))
                clear ho5 hg5 hv5
                go_wp2_with (simp only [HAND.out])
                go_roundw
                case rel =>
                  refine ⟨W2, l ++ [(j : Int) * 64 + (t : Int)], rfl, hW2l, O5.out, ?_, by rw [List.length_append, HLN.out]; simp; omega, B5.out⟩
                  rw [← HAP.out, HLC.out, List.append_assoc, List.singleton_append]
                  congr 2
                  omega
                case measure =>
                  show (lows W2 (64 * j)).length < (lows W (64 * j)).length
                  rw [HLC.out, List.length_cons]
                  exact Nat.lt_succ_self _
        · obtain rfl : j = nw n := by omega
          have HK : Hid ((all L).take K = frees (has L) 0 (64 * nw n)) := Lib.hid (by
            rw [HA.out]
            refine List.take_of_length_le ?_
            rw [HAL.out, ← HAL.out, ← HA.out, HLN.out]
            exact hcn)
          generalize cnt (has L) 0 (64 * nw n) = ml at *
          have OL := Lib.hid (show RowG.Own RowG.encI TI wr w.heap.size (.slice Al ml cl) (takeO L (K : Int)) by rw [HO.out, HK.out]; exact OR.out)
          have MP := Lib.hid (HP.out.fr (Fr.below (fun _ => False) BR.out) (fun _ _ q => q))
          have IL : Hid (Ints wr (fun b => b = p ∨ b = g) Al ml cl (takeO L (K : Int))) := Lib.hid (Ints.of_rd OL.out.rd (by rw [HO.out, HK.out]; exact HLN.out) (fun hz b o hb hlt q => by
            obtain ⟨g', e1, e2, e3⟩ := HFM.out hz
            rw [e1] at hb
            injection hb with hb
            injection hb with hb
            rcases q with q | q <;> omega))
          have HIN : Hid (∀ x ∈ takeO L (K : Int), inL L x = true) := Lib.hid (by rw [HO.out]; exact all_in)
          go_wp2_with fail
          go_at_call 42
          refine (flip_c MP.out IL.out HIN.out).mono ?_
          rintro e w3 ⟨rfl, hM3, hF3⟩
          have T3 := Lib.hid (turned_of HS.out hM3 ((Fr.below (fun b => b = g) BR.out).trans hF3 (fun _ q => .inl q)))
          have O3 := Lib.hid (hF3.own OL.out (fun g' q e => by
            have := OL.out.ge g' q
            omega))
          clear hM3 hF3
          go_wp2_with fail
          try rw [Exit.noGoto_ret]
          refine bodyPost_ret (v := .tuple #[.slice Al ml cl, .bool true]) (by simp [results, Tryd.results16, go_sem]) rfl ?_
          exact ⟨_, by rw [HC.out], O3.out, T3.out⟩
    · have HC : Hid (canT L (K : Int) = false) := Lib.hid (by unfold canT; simp; omega)
      have hgt : decide ((K : Int) > (free L : Int)) = true := by simp; omega
      have hlt : free L < K := by omega
      clear h0 h1
      go_enter Tryd.func16, Tryd.ntmps16
      go_wp2_with fail
      go_step3
      go_wp2_with fail
      go_at_call 40
      refine (isMade_i HM.out).mono ?_
      rintro e w1 ⟨rfl, hw⟩
      obtain rfl := hw.symm
      go_wp2_with fail
      go_at_call 25
      refine (Free_i HM.out).mono ?_
      rintro e w1 ⟨rfl, hw⟩
      obtain rfl := hw.symm
      go_wp2_with fail
      try rw [Exit.noGoto_ret]
      refine bodyPost_ret (v := .tuple #[.slice none 0 0, .bool false]) (by simp [results, Tryd.results16, go_sem]) rfl ?_
      refine ⟨_, by rw [HC.out], ?_, ?_⟩
      · rw [(can_no HC.out).1]
        exact RowG.Own.nil _ _ _ _
      · rw [(can_no HC.out).2]
        exact Turned.same HM.out (Below.refl _ _)
  · have HC : Hid (canT L k = false) := Lib.hid (by unfold canT; simp; omega)
    go_enter Tryd.func16, Tryd.ntmps16
    go_wp2_with fail
    go_step3
    go_wp2_with fail
    go_at_call 40
    refine (isMade_i HM.out).mono ?_
    rintro e w1 ⟨rfl, hw⟩
    obtain rfl := hw.symm
    go_wp2_with fail
    try rw [Exit.noGoto_ret]
    refine bodyPost_ret (v := .tuple #[.slice none 0 0, .bool false]) (by simp [results, Tryd.results16, go_sem]) rfl ?_
    refine ⟨_, by rw [HC.out], ?_, ?_⟩
    · rw [(can_no HC.out).1]
      exact RowG.Own.nil _ _ _ _
    · rw [(can_no HC.out).2]
      exact Turned.same HM.out (Below.refl _ _)
end
end FreW
end Go.Proofs.YtbnkaeigabifhaaDoor
