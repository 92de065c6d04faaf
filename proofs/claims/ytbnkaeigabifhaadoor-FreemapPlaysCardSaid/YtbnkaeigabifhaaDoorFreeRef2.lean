/-
  The reference's map: Take, Give, Keep.
-/
import Derived.Test.YtbnkaeigabifhaaDoorFreeRef
-- mine: whole_c same_c awake_c take_c step_c back_c Made number_c next_c fixed_c clone_c int_c end_c put_c
namespace Go.Proofs.YtbnkaeigabifhaaDoor
open Go.RowKit
set_option linter.unusedVariables false
set_option linter.unusedSimpArgs false
set_option maxRecDepth 100000
namespace FreW
open BlkP RowG FrS PushG FreP
theorem grown_set1 (w : World) (a : Addr) (v : Value) : w.grownBy (w.setCell a v) (some a.block) := ⟨rfl, rfl, rfl, by simp, fun k hk hne => heap_setCell_other w a k v (fun e => hne (by rw [e]))⟩
theorem rturned_of {w w' : World} {B p g c n : Nat} {S : Nat → Prop} {M : List Bool} (hd : ∀ k, S k ↔ (k = p ∨ k = g)) (h : RMP w' B p g c n M) (hf : Fr (fun b => b = g) w w') : RTurned w B p n S M w' :=
  ⟨S, ⟨g, c, h, hd⟩, hf.mono (fun i hi => (hd i).2 (.inr hi)), fun _ h => .inl h⟩
def RTakeP (w : World) (B p n : Nat) (L : List Bool) (S : Nat → Prop) (k : Int) (e : Ending) (w' : World) : Prop := ∃ v, e = .returned (.tuple #[v, .bool (canT L k)]) ∧ RowG.Own RowG.encI TI w' w.heap.size v (takeO L k) ∧ RTurned w B p n S (takeL L k) w'
theorem has_frees {L : List Bool} {i : Nat} : has (flips L (frees (has L) 0 i)) i = has L i := has_flips_not _ _ _ (fun x hx e => by
  have := (frees_mem (has L) i 0 x).1 hx
  omega)
theorem flips_next {L : List Bool} {i : Nat} (h : has L i = true) : flips L (frees (has L) 0 (i + 1)) = (flips L (frees (has L) 0 i)).set i false := by
  have e := frees_succ (has L) 0 i
  rw [Nat.zero_add, h, if_pos rfl] at e
  rw [e, flips_app]
  show FreP.flip (flips L (frees (has L) 0 i)) ((i : Nat) : Int) = _
  unfold FreP.flip
  rw [show ((i : Nat) : Int).toNat = i from rfl, has_frees, h]
  rfl
theorem frees_next {L : List Bool} {i : Nat} (h : has L i = true) : frees (has L) 0 (i + 1) = frees (has L) 0 i ++ [(i : Int)] := by
  have e := frees_succ (has L) 0 i
  rw [Nat.zero_add, h, if_pos rfl] at e
  exact e
theorem frees_stay {L : List Bool} {i : Nat} (h : has L i = false) : frees (has L) 0 (i + 1) = frees (has L) 0 i := by
  have e := frees_succ (has L) 0 i
  rw [Nat.zero_add, h, if_neg (by simp), List.append_nil] at e
  exact e
section
variable {w : World} {B p n : Nat} {L : List Bool} {S : Nat → Prop}
set_option maxHeartbeats 4000000 in
theorem rTake_i (h : Rm w B p n L S) (k : Int) : Calls Tryd.prog 17 #[.pointer (some ⟨p, 0, none⟩), .int .i64 k] w (RTakeP w B p n L S k) := by
  have HM := Lib.hid h
  have hfl := free_le L
  rw [h.len] at hfl
  have hhi := h.hi
  clear h
  by_cases h0 : 0 ≤ k
  · obtain ⟨K, rfl⟩ := Int.eq_ofNat_of_zero_le h0
    by_cases h1 : K ≤ free L
    · have HC : Hid (canT L (K : Int) = true) := Lib.hid (by unfold canT; simp [h1])
      have HO : Hid (takeO L (K : Int) = (all L).take K) := Lib.hid (by unfold takeO; rw [HC.out]; rfl)
      have HAL := Lib.hid (all_len L)
      obtain ⟨g, c, hP, hS⟩ := HM.out
      have HP := Lib.hid hP
      have HS := Lib.hid hS
      have HA : Hid (frees (has L) 0 n = all L) := Lib.hid (by rw [← hP.len]; rfl)
      have hK0 : decide ((K : Int) < 0) = false := by simp
      have hgt : decide (free L < K) = false := by simp; omega
      have hgl0 := hP.gb.2
      clear hP hS h0
      go_enter Tryd.func17, Tryd.ntmps17
      go_wp2_with fail
      go_at_call 26
      refine (rFree_i HM.out).mono ?_
      rintro e w1 ⟨rfl, hw⟩
      obtain rfl := hw.symm
      go_wp2_with fail
      go_loopw [6, 7] (fun v6 v7 wr => ∃ (i : Nat), v7 = .int .i64 (i : Int) ∧ i ≤ n ∧ RowG.Own RowG.encI TI wr w.heap.size v6 (frees (has L) 0 i) ∧ cnt (has L) 0 i ≤ K ∧ RMP wr B p g c n (flips L (frees (has L) 0 i)) ∧ Fr (fun b => b = g) w wr) (fun v6 v7 _ => n - (RowKit.intOf v7).toNat)
      case atStart => exact ⟨0, rfl, by omega, RowG.Own.nil _ _ _ _, by simp [cnt], HP.out, Fr.refl _ _⟩
      case round =>
        obtain ⟨i, rfl, hi, hown, hcn, hM, hF⟩ := hrel
        obtain ⟨m, hm⟩ : ∃ m, m = cnt (has L) 0 i := ⟨_, rfl⟩
        have HLN := Lib.hid (show (frees (has L) 0 i).length = m by rw [hm]; exact frees_len _ _ _)
        rw [← hm] at hcn
        obtain ⟨Al, cl, rfl, hcl1, hcl2, hfm⟩ := hown.form HLN.out
        have OR := Lib.hid hown
        have MP := Lib.hid hM
        have MF := Lib.hid hF
        have HCM := Lib.hid hm
        have c0 := hM.bp.cell (i := 0) (v := .slice (some ⟨g, 0, none⟩) n c) rfl
        have hsz := hF.size
        have HAPP := Lib.hid (show ∃ r, all L = frees (has L) 0 i ++ r by rw [← HA.out]; exact frees_pre (has L) hi)
        clear hown hfm hF hm
        by_cases hlt : i < n
        · have hgl := hM.gb.2
          have cb := hM.bit hlt
          rw [has_frees] at cb
          have hfz := hM.row.frozen i
          by_cases hmk : m < K
          · cases hb : has L i
            · have HST := Lib.hid (frees_stay hb)
              have HCN : Hid (cnt (has L) 0 (i + 1) = m) := Lib.hid (by rw [← frees_len, HST.out, HLN.out])
              rw [hb] at cb
              clear hM hb
              go_wp2_with fail
              go_roundw
              case rel => exact ⟨i + 1, by go_num, by omega, by rw [HST.out]; exact OR.out, by rw [HCN.out]; omega, by rw [HST.out]; exact MP.out, MF.out⟩
              case measure => simp [RowKit.intOf]; omega
            · have HNX := Lib.hid (frees_next hb)
              have HFN := Lib.hid (flips_next hb)
              have HCN : Hid (cnt (has L) 0 (i + 1) = m + 1) := Lib.hid (by rw [← frees_len, HNX.out, List.length_append, HLN.out]; rfl)
              rw [hb] at cb
              have HMS := Lib.hid (MP.out.set hlt false)
              have OR2 := Lib.hid (OR.out.grown (show wr.grownBy (wr.setCell ⟨g, i, none⟩ (.bool false)) (some g) from (bool_set hM.row (i := i) (by rw [hM.len]; exact hlt) false).2) (.inr (fun e => by have := OR.out.ge g e; omega)))
              have MF2 := Lib.hid (MF.out.trans (Fr.set (fun b => b = g) wr ⟨g, i, none⟩ (.bool false) rfl) (fun _ q => .inl q))
              clear hM hb
              go_wp2_with ((with_reducible refine at_slot 47 ?_); refine Classical.byContradiction (fun hG => ?_))
              refine hG ?_
              clear hG
              refine RowG.wp_push RowG.encI rfl (.tmp 44) (.tmp 46) rfl underIs infoI rfl (by decide) (wr.setCell ⟨g, i, none⟩ (.bool false)) #[.int .i64 (i : Int)] rfl (i : Int) rfl rfl (B := w.heap.size) OR2.out (by rw [show (wr.setCell ⟨g, i, none⟩ (.bool false)).heap.size = wr.heap.size by simp]; rfl) (by rw [HLN.out]; have : maxLen = 9223372036854775807 := rfl; omega) (by rw [HLN.out]; omega) (by simpa using hsz) ?_
              intro v5 w5 ho5 hg5 _
              have O5 := Lib.hid ho5
              have hbw : Below w.heap.size (wr.setCell ⟨g, i, none⟩ (.bool false)) w5 := OR2.out.grownB hg5 (by simpa using hsz)
              have F5 : Hid (Fr (fun b => b = g) w w5) := Lib.hid ⟨hbw.os.trans MF2.out.os, hbw.tape.trans MF2.out.tape, hbw.output.trans MF2.out.output, Nat.le_trans MF2.out.size hbw.size, fun b hb hn => (hbw.block b hb).trans (MF2.out.block b hb hn)⟩
              have M5 := Lib.hid (HMS.out.fr (T := fun b => (Value.slice Al m cl).ownBlock = some b) ⟨hg5.os, hg5.tape, hg5.output, hg5.size, fun b hb hn => hg5.block b hb (fun e => hn e.symm)⟩ (fun b hb e => by
                have h1 := OR2.out.ge b e
                have h2 := MP.out.ge hb
                have h3 := HP.out.ge hb
                omega))
              clear ho5 hg5 hbw
              go_wp2_with fail
              go_roundw
              case rel => exact ⟨i + 1, by go_num, by omega, by rw [HNX.out]; exact O5.out, by rw [HCN.out]; omega, by rw [HFN.out]; exact M5.out, F5.out⟩
              case measure => simp [RowKit.intOf]; omega
          · obtain rfl : m = K := by omega
            have HK : Hid ((all L).take m = frees (has L) 0 i) := Lib.hid (by
              obtain ⟨r, hr⟩ := HAPP.out
              rw [hr, List.take_append_of_le_length (by rw [HLN.out]; omega), List.take_of_length_le (by rw [HLN.out]; omega)])
            clear hM
            go_wp2_with fail
            refine bodyPost_ret (v := .tuple #[.slice Al m cl, .bool true]) (by simp [results, Tryd.results17, go_sem]) rfl ?_
            refine ⟨_, by rw [HC.out], ?_, ?_⟩
            · rw [HO.out, HK.out]
              exact OR.out
            · refine rturned_of HS.out (c := c) ?_ MF.out
              unfold takeL
              rw [HO.out, HK.out]
              exact MP.out
        · obtain rfl : i = n := by omega
          have HK : Hid ((all L).take K = frees (has L) 0 i) := Lib.hid (by
            rw [HA.out]
            refine List.take_of_length_le ?_
            rw [← HA.out, HLN.out]
            exact hcn)
          have HFR : Hid (free L = m) := Lib.hid (by rw [← HAL.out, ← HA.out, HLN.out])
          clear hM
          go_wp2_with fail
          refine bodyPost_ret (v := .tuple #[.slice Al m cl, .bool true]) (by simp [results, Tryd.results17, go_sem]) rfl ?_
          refine ⟨_, by rw [HC.out], ?_, ?_⟩
          · rw [HO.out, HK.out]
            exact OR.out
          · refine rturned_of HS.out (c := c) ?_ MF.out
            unfold takeL
            rw [HO.out, HK.out]
            exact MP.out
    · have HC : Hid (canT L (K : Int) = false) := Lib.hid (by unfold canT; simp; omega)
      have hgt : decide ((K : Int) > (free L : Int)) = true := by simp; omega
      have hlt : free L < K := by omega
      clear h0 h1
      go_enter Tryd.func17, Tryd.ntmps17
      go_wp2_with fail
      go_at_call 26
      refine (rFree_i HM.out).mono ?_
      rintro e w1 ⟨rfl, hw⟩
      obtain rfl := hw.symm
      go_wp2_with fail
      refine bodyPost_ret (v := .tuple #[.slice none 0 0, .bool false]) (by simp [results, Tryd.results17, go_sem]) rfl ?_
      refine ⟨_, by rw [HC.out], ?_, ?_⟩
      · rw [(can_no HC.out).1]
        exact RowG.Own.nil _ _ _ _
      · rw [(can_no HC.out).2]
        exact RTurned.same HM.out (Below.refl _ _)
  · have HC : Hid (canT L k = false) := Lib.hid (by unfold canT; simp; omega)
    go_enter Tryd.func17, Tryd.ntmps17
    go_wp2_with fail
    refine bodyPost_ret (v := .tuple #[.slice none 0 0, .bool false]) (by simp [results, Tryd.results17, go_sem]) rfl ?_
    refine ⟨_, by rw [HC.out], ?_, ?_⟩
    · rw [(can_no HC.out).1]
      exact RowG.Own.nil _ _ _ _
    · rw [(can_no HC.out).2]
      exact RTurned.same HM.out (Below.refl _ _)
set_option maxHeartbeats 4000000 in
theorem change_i (h : Rm w B p n L S) {A : Option Addr} {m q : Nat} {l : List Int} (hl : Ints w (fun _ => False) A m q l) (so : Bool) :
    Calls Tryd.prog 44 #[.pointer (some ⟨p, 0, none⟩), .slice A m q, .bool so] w fun e w' => e = .returned (.int .i64 (turnE so l L)) ∧ RTurned w B p n S (turnL so l L) w' := by
  have HM := Lib.hid h
  have HI := Lib.hid hl
  have HL := Lib.hid hl.len
  have hmax := hl.max
  have hcap := hl.cap
  have hhi := h.hi
  have hlo := h.lo
  have HLN := Lib.hid h.len
  obtain ⟨g, c, hP, hS⟩ := h
  have HP := Lib.hid hP
  have HS := Lib.hid hS
  have c0 := hP.bp.cell (i := 0) (v := .slice (some ⟨g, 0, none⟩) n c) rfl
  have hpl := hP.bp.lt
  have HR := Lib.hid hP.row.rd
  clear hP hS hl
  go_enter Tryd.func44, Tryd.ntmps44
  go_wp2_with ((with_reducible refine at_slot 15 ?_); refine Classical.byContradiction (fun hG => ?_))
  refine hG ?_
  clear hG
  refine RowE.wp_appE tyB rfl (.tmp 10) (.tmp 14) rfl (B := w.heap.size) (l0 := []) rfl rfl (RowG.Own.nil _ _ _ _) HR.out (by simp; omega) (by simp; omega) (Nat.le_refl _) ?_
  intro v1 w1 ho1 hg1 _
  obtain ⟨A1, c1, rfl, hc1, hm1, hA1⟩ := ho1.form (n := n) (by rw [List.nil_append, HLN.out])
  obtain ⟨g1, rfl, hg1b, hg1l⟩ := hA1 (by omega)
  have O1 := Lib.hid (show RowG.Own encB TB w1 w.heap.size (.slice (some ⟨g1, 0, none⟩) n c1) L from ho1)
  have B1 := Lib.hid (show Below w.heap.size w w1 from (Below.refl _ w).grown hg1 (Nat.le_refl _) (fun k hk => by cases hk))
  clear ho1 hg1 hA1
  go_wp2_with fail
  go_loopw [8, 9] (fun v8 v9 wr => ∃ k : Nat, v8 = .int .i64 (k : Int) ∧ k ≤ m ∧ turn so l L = turn so (l.drop k) (flips L (l.take k)) ∧ RowG.Own encB TB wr w.heap.size (.slice (some ⟨g1, 0, none⟩) n c1) (flips L (l.take k)) ∧ Below w.heap.size w wr) (fun v8 v9 _ => m - (RowKit.intOf v8).toNat)
  case atStart => exact ⟨0, rfl, by omega, rfl, O1.out, B1.out⟩
  case round =>
    obtain ⟨k, rfl, hk, hT, ho, hbr⟩ := hrel
    have MT := Lib.hid hT
    have OR := Lib.hid ho
    have BR := Lib.hid hbr
    by_cases hlt : k < m
    · obtain ⟨x, hx⟩ : ∃ x, l[k]? = some x := ⟨_, List.getElem?_eq_getElem (by rw [HL.out]; exact hlt)⟩
      obtain ⟨b, o, hA, hblt, _, hcl⟩ := (HI.out.below hbr).at_ (by omega)
      have hc0 := hcl k x hx
      have HD := Lib.hid (turn_drop (so := so) hx (flips L (l.take k)))
      have HT := Lib.hid (flips_take hx L)
      obtain ⟨M, hMM⟩ : ∃ M, M = flips L (l.take k) := ⟨_, rfl⟩
      have HML := Lib.hid (show M.length = n by rw [hMM, flips_len, HLN.out])
      rw [← hMM] at HD HT OR MT
      subst hA
      clear hMM hcl ho hbr hT hx
      by_cases h0 : 0 ≤ x
      · obtain ⟨i, rfl⟩ := Int.eq_ofNat_of_zero_le h0
        by_cases hi : i < n
        · have cb := bool_at OR.out (i := i) (by rw [HML.out]; exact hi)
          have hfz := OR.out.frozen i
          have hgl := (OR.out.ge g1 rfl).2
          have HIN : Hid (inL M (i : Int) = true) := Lib.hid (inL_iff.2 ⟨by omega, by rw [HML.out]; omega⟩)
          have HOK : Hid (okL so M (i : Int) = (has M i == so)) := Lib.hid (by
            unfold okL
            rw [HIN.out, Bool.true_and]
            rfl)
          have HFL : Hid (FreP.flip M (i : Int) = M.set i (!has M i)) := Lib.hid rfl
          have HBS := Lib.hid (bool_set OR.out (i := i) (by rw [HML.out]; exact hi) (!so))
          cases hb : has M i <;> cases so
          · have HD2 : Hid (turn false l L = turn false (l.drop (k + 1)) (flips L (l.take (k + 1)))) := Lib.hid (by
              have := HD.out
              rw [HOK.out, hb] at this
              rw [MT.out, HT.out]
              exact this)
            rw [hb] at cb HFL
            clear hb
            go_wp2_with fail
            go_roundw
            case rel =>
              refine ⟨k + 1, by go_num, by omega, HD2.out, ?_, BR.out.trans ((Below.refl _ _).grown HBS.out.2 BR.out.size (fun i hi => by injection hi with hi; omega))⟩
              rw [HT.out, HFL.out]
              exact HBS.out.1
            case measure => simp [RowKit.intOf]; omega
          · have HX : Hid (turn true l L = none) := Lib.hid (by
              have := HD.out
              rw [HOK.out, hb] at this
              rw [MT.out]
              exact this)
            rw [hb] at cb
            clear hb
            have HE : Hid (turnE true l L = 2) := Lib.hid (by unfold turnE; rw [HX.out]; rfl)
            have HLL : Hid (turnL true l L = L) := Lib.hid (by unfold turnL; rw [HX.out]; rfl)
            go_wp2_with fail
            go_ret
            exact ⟨by rw [HE.out]; rfl, by rw [HLL.out]; exact RTurned.same HM.out BR.out⟩
          · have HX : Hid (turn false l L = none) := Lib.hid (by
              have := HD.out
              rw [HOK.out, hb] at this
              rw [MT.out]
              exact this)
            rw [hb] at cb
            clear hb
            have HE : Hid (turnE false l L = 2) := Lib.hid (by unfold turnE; rw [HX.out]; rfl)
            have HLL : Hid (turnL false l L = L) := Lib.hid (by unfold turnL; rw [HX.out]; rfl)
            go_wp2_with fail
            go_ret
            exact ⟨by rw [HE.out]; rfl, by rw [HLL.out]; exact RTurned.same HM.out BR.out⟩
          · have HD2 : Hid (turn true l L = turn true (l.drop (k + 1)) (flips L (l.take (k + 1)))) := Lib.hid (by
              have := HD.out
              rw [HOK.out, hb] at this
              rw [MT.out, HT.out]
              exact this)
            rw [hb] at cb HFL
            clear hb
            go_wp2_with fail
            go_roundw
            case rel =>
              refine ⟨k + 1, by go_num, by omega, HD2.out, ?_, BR.out.trans ((Below.refl _ _).grown HBS.out.2 BR.out.size (fun i hi => by injection hi with hi; omega))⟩
              rw [HT.out, HFL.out]
              exact HBS.out.1
            case measure => simp [RowKit.intOf]; omega
        · have HX : Hid (turn so l L = none) := Lib.hid (by
            have hn : okL so M (i : Int) = false := by
              unfold okL inL
              rw [HML.out]
              simp; omega
            have := HD.out
            rw [hn] at this
            rw [MT.out, this]
            rfl)
          have hge : (n : Int) ≤ (i : Int) := by omega
          have hge2 : decide ((i : Int) ≥ (n : Int)) = true := by simp; omega
          have HE : Hid (turnE so l L = 2) := Lib.hid (by unfold turnE; rw [HX.out]; rfl)
          have HLL : Hid (turnL so l L = L) := Lib.hid (by unfold turnL; rw [HX.out]; rfl)
          go_wp2_with fail
          go_ret
          exact ⟨by rw [HE.out]; rfl, by rw [HLL.out]; exact RTurned.same HM.out BR.out⟩
      · have HX : Hid (turn so l L = none) := Lib.hid (by
          have hn : okL so M x = false := by
            unfold okL inL
            simp [h0]
          have := HD.out
          rw [hn] at this
          rw [MT.out, this]
          rfl)
        have HE : Hid (turnE so l L = 2) := Lib.hid (by unfold turnE; rw [HX.out]; rfl)
        have HLL : Hid (turnL so l L = L) := Lib.hid (by unfold turnL; rw [HX.out]; rfl)
        go_wp2_with fail
        go_ret
        exact ⟨by rw [HE.out]; rfl, by rw [HLL.out]; exact RTurned.same HM.out BR.out⟩
    · obtain rfl : k = m := by omega
      have HE : Hid (turn so l L = some (flips L l)) := Lib.hid (by
        rw [MT.out, List.drop_eq_nil_of_le (by rw [HL.out]; omega), List.take_of_length_le (by rw [HL.out]; omega)]
        rfl)
      have HE1 : Hid (turnE so l L = 0) := Lib.hid (by unfold turnE; rw [HE.out]; rfl)
      have HE2 : Hid (turnL so l L = flips L (l.take k)) := Lib.hid (by unfold turnL; rw [HE.out, List.take_of_length_le (by rw [HL.out]; omega)]; rfl)
      have hb0 := HP.out.bp.below BR.out
      have cp := hb0.cell (i := 0) (v := .slice (some ⟨g, 0, none⟩) n c) rfl
      have hfp := hb0.frozen 0
      have hpl2 := hb0.lt
      have HB0 := Lib.hid hb0
      clear ho hbr hT hb0
      go_wp2_with fail
      go_ret
      refine ⟨by rw [HE1.out]; rfl, fun b => b = p ∨ b = g1, ⟨g1, c1, ⟨?_, ?_, ?_, hlo, hhi, HP.out.lp⟩, fun _ => Iff.rfl⟩, ?_, ?_⟩
      · exact HB0.out.set 0 _
      · rw [HE2.out]
        exact (OR.out.mono (by have := HP.out.ge (.inl rfl); omega)).grown (grown_set1 _ _ _) (.inr (fun e => by
          have h1 := OR.out.ge p e
          omega))
      · rw [HE2.out, flips_len, HLN.out]
      · exact (Fr.below S BR.out).trans (Fr.set S _ _ _ ((HS.out p).2 (.inl rfl))) (fun _ q => .inl q)
      · intro b hb
        rcases hb with rfl | rfl
        · exact .inl ((HS.out _).2 (.inl rfl))
        · exact .inr hg1b
theorem rGive_i (h : Rm w B p n L S) {A : Option Addr} {m q : Nat} {l : List Int} (hl : Ints w (fun _ => False) A m q l) :
    Calls Tryd.prog 20 #[.pointer (some ⟨p, 0, none⟩), .slice A m q] w fun e w' => e = .returned (.int .i64 (turnE false l L)) ∧ RTurned w B p n S (turnL false l L) w' := by
  have H := Lib.hid h
  have HI := Lib.hid hl
  clear h hl
  go_enter Tryd.func20, Tryd.ntmps20
  go_wp2_with fail
  go_at_call 44
  refine (change_i H.out HI.out false).mono ?_
  rintro e w1 ⟨rfl, hT⟩
  have HT := Lib.hid hT
  clear hT
  go_wp2_with fail
  go_ret
  exact ⟨rfl, HT.out⟩
theorem rKeep_i (h : Rm w B p n L S) {A : Option Addr} {m q : Nat} {l : List Int} (hl : Ints w (fun _ => False) A m q l) :
    Calls Tryd.prog 22 #[.pointer (some ⟨p, 0, none⟩), .slice A m q] w fun e w' => e = .returned (.int .i64 (turnE true l L)) ∧ RTurned w B p n S (turnL true l L) w' := by
  have H := Lib.hid h
  have HI := Lib.hid hl
  clear h hl
  go_enter Tryd.func22, Tryd.ntmps22
  go_wp2_with fail
  go_at_call 44
  refine (change_i H.out HI.out true).mono ?_
  rintro e w1 ⟨rfl, hT⟩
  have HT := Lib.hid hT
  clear hT
  go_wp2_with fail
  go_ret
  exact ⟨rfl, HT.out⟩
end
end FreW
end Go.Proofs.YtbnkaeigabifhaaDoor
