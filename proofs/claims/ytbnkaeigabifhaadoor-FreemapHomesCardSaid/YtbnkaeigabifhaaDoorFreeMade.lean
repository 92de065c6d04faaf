/-
  Maps made: New, Copy; what homes say.
-/
import Derived.Test.YtbnkaeigabifhaaDoorFreeTake
-- mine: whole_c same_c awake_c take_c step_c back_c Made number_c next_c fixed_c clone_c int_c end_c put_c
namespace Go.Proofs.YtbnkaeigabifhaaDoor
open Go.RowKit
set_option linter.unusedVariables false
set_option linter.unusedSimpArgs false
set_option maxRecDepth 100000
namespace FreW
open BlkP RowG FrS PushG FreP
theorem tyU : RowE.Ty encU TUs TU 8 := ⟨underUs, ⟨_, infoU, rfl⟩, by decide⟩
theorem own_madeU {w : World} : RowG.Own encU TU (w.alloc (.cells #[] TU)) w.heap.size (.slice (some ⟨w.heap.size, 0, none⟩) 0 0) [] := World.ownsRow_made w #[] 0 (Nat.le_refl _) (Nat.zero_le _) rfl
theorem or_lit {x m : Nat} (hx : x < 18446744073709551616) (hm : m < 18446744073709551616) : bits .or .u64 (x : Int) (m : Int) = ((x ||| m : Nat) : Int) := by
  have hz : x ||| m < 2 ^ 64 := Nat.or_lt_two_pow (by omega) (by omega)
  have h1 : (BitVec.ofInt 64 (x : Int)).toNat = x := by
    rw [BitVec.ofInt_natCast, BitVec.toNat_ofNat]; exact Nat.mod_eq_of_lt (by omega)
  have h2 : (BitVec.ofInt 64 (m : Int)).toNat = m := by
    rw [BitVec.ofInt_natCast, BitVec.toNat_ofNat]; exact Nat.mod_eq_of_lt (by omega)
  show IntKind.u64.wrap ((BitVec.ofInt 64 (x : Int) ||| BitVec.ofInt 64 (m : Int)).toNat : Int) = _
  rw [BitVec.toNat_or, h1, h2, IntKind.wrap_u64]
  omega
theorem parts64_c {n : Nat} (hn : n ≤ 131072) (w : World) : Calls Tryd.prog 39 #[.int .i64 (n : Int), .int .i64 64] w fun e w' => e = .returned (.int .i64 (nw n : Int)) ∧ w' = w := parts_c (n := n) (m := 64) hn (by omega) w
set_option maxHeartbeats 16000000 in
theorem cloneU_c {w : World} {g m c : Nat} {l : List Nat} (hR : Rd encU w (.slice (some ⟨g, 0, none⟩) m c) l) (hl : m ≤ 1000000) :
    Calls Tryd.prog 45 #[.slice (some ⟨g, 0, none⟩) m c] w fun e w' => ∃ v', e = .returned v' ∧ RowG.Own encU TU w' w.heap.size v' l ∧ Below w.heap.size w w' := by
  have q26 : ∀ (w : World) (a : Option Addr) (n c n' c' : Nat), (binOp .eql TUs (.slice a n c) (.slice none n' c')).run Tryd.prog w = .ok (.bool a.isNone) w := fun w a n c n' c' => Lib.run_eql_slice_nil w _ _ a n c n' c' underUs
  have HR := Lib.hid hR
  clear hR
  go_enter Tryd.func45, Tryd.ntmps45
  go_wp2_with ((with_reducible refine at_slot 7 ?_); refine Classical.byContradiction (fun hG => ?_))
  refine hG ?_
  clear hG
  refine RowE.wp_appE tyU rfl (.tmp 5) (.tmp 6) rfl (B := w.heap.size) (l0 := []) rfl rfl own_madeU (HR.out.below ((Below.refl _ w).alloc (Nat.le_refl _) _)) (by simp; omega) (by simp; omega) (by simp) ?_
  intro v' w' ho hg _
  have HO := Lib.hid ho
  have HB := Lib.hid (show Below w.heap.size w w' from ((Below.refl _ w).alloc (Nat.le_refl _) _).grown hg (by simp) (fun k hk => by
    have hk' : (Value.slice (some ⟨w.heap.size, 0, none⟩) 0 0).ownBlock = some k := hk
    have : w.heap.size = k := by simpa [Value.ownBlock] using hk'
    omega))
  clear ho hg
  go_wp2_with fail
  go_ret
  exact ⟨v', rfl, HO.out, HB.out⟩
theorem Copy_no (w : World) : Calls Tryd.prog 23 #[.pointer none] w fun e w' => e = .returned (.pointer none) ∧ w' = w := by
  go_enter Tryd.func23, Tryd.ntmps23
  go_wp2_with fail
  go_at_call 40
  refine (isMade_no _).mono ?_
  rintro e w1 ⟨rfl, hw⟩
  obtain rfl := hw.symm
  go_wp2_with fail
  go_ret
  exact ⟨rfl, rfl⟩
set_option maxHeartbeats 16000000 in
theorem Copy_i {w : World} {B p n : Nat} {L : List Bool} {S : Nat → Prop} (h : Mp w B p n L S) :
    Calls Tryd.prog 23 #[.pointer (some ⟨p, 0, none⟩)] w fun e w' => ∃ q, e = .returned (.pointer (some ⟨q, 0, none⟩)) ∧ Made w q n L w' := by
  have HM := Lib.hid h
  obtain ⟨g, c, hP, hS⟩ := h
  have HP := Lib.hid hP
  have c0 := hP.bp.cell (i := 0) (v := .int .i64 (n : Int)) rfl
  have c1 := hP.bp.cell (i := 1) (v := .slice (some ⟨g, 0, none⟩) (nw n) c) rfl
  have hpl := hP.bp.lt
  have hnw : nw n ≤ 2048 := by have := hP.hi; unfold nw; omega
  have hnw0 : 0 < nw n := by have := hP.lo; unfold nw; omega
  have HLN := Lib.hid (show (words L).length = nw n by rw [words_len, hP.len])
  have HR := Lib.hid hP.row.rd
  clear hP hS
  go_enter Tryd.func23, Tryd.ntmps23
  go_wp2_with fail
  go_at_call 40
  refine (isMade_i HM.out).mono ?_
  rintro e w1 ⟨rfl, hw⟩
  obtain rfl := hw.symm
  go_wp2_with fail
  refine wp_region_noPanic ?_
  refine wp_region_held_drew (S := fun Xw => Below w.heap.size w Xw) (by kernel_rfl) ((Below.refl _ w).drew) (fun hHeld => ?_)
  refine wpAnyH_take (i := 0) (oi := ⟨some 6, _, _, _, _, _⟩) (v := .pointer (some ⟨p, 0, none⟩)) rfl (by kernel_rfl) (by kernel_rfl) (by kernel_rfl) (fun _ _ _ h => h) (Or.inl ⟨by rfl, fun Xw hSW => by go_simp⟩) hHeld ?_
  simp only [Act.put, List.setIfInBounds_toArray, List.set_cons_zero, List.set_cons_succ]
  refine wpAnyH_take (i := 1) (oi := ⟨some 7, _, _, _, _, _⟩) (v := .pointer (some ⟨p, 0, none⟩)) rfl (by kernel_rfl) (by kernel_rfl) (by kernel_rfl) (fun _ _ _ h => h) (Or.inl ⟨by rfl, fun Xw hSW => by go_simp⟩) hHeld ?_
  simp only [Act.put, List.setIfInBounds_toArray, List.set_cons_zero, List.set_cons_succ]
  refine wpAnyH_take (i := 2) (oi := ⟨some 8, _, _, _, _, _⟩) (v := .pointer (some ⟨p, 0, none⟩)) rfl (by kernel_rfl) (by kernel_rfl) (by kernel_rfl) (fun _ _ _ h => h) (Or.inl ⟨by rfl, fun Xw hSW => by go_simp⟩) hHeld ?_
  simp only [Act.put, List.setIfInBounds_toArray, List.set_cons_zero, List.set_cons_succ]
  refine wpAnyH_take (i := 3) (oi := ⟨some 9, _, _, _, _, _⟩) (v := .int .i64 (n : Int)) rfl (by kernel_rfl) (by kernel_rfl) (by kernel_rfl) (fun _ _ _ h => h) (Or.inl ⟨by rfl, fun Xw hSW => by have a := (hSW.cell (p := ⟨p, 0, none⟩) hpl).trans c0; go_simp⟩) hHeld ?_
  simp only [Act.put, List.setIfInBounds_toArray, List.set_cons_zero, List.set_cons_succ]
  refine wpAnyH_take (i := 4) (oi := ⟨some 10, _, _, _, _, _⟩) (v := .pointer (some ⟨p, 0, none⟩)) rfl (by kernel_rfl) (by kernel_rfl) (by kernel_rfl) (fun _ _ _ h => h) (Or.inl ⟨by rfl, fun Xw hSW => by go_simp⟩) hHeld ?_
  simp only [Act.put, List.setIfInBounds_toArray, List.set_cons_zero, List.set_cons_succ]
  refine wpAnyH_take (i := 5) (oi := ⟨some 11, _, _, _, _, _⟩) (v := .pointer (some ⟨p, 0, none⟩)) rfl (by kernel_rfl) (by kernel_rfl) (by kernel_rfl) (fun _ _ _ h => h) (Or.inl ⟨by rfl, fun Xw hSW => by go_simp⟩) hHeld ?_
  simp only [Act.put, List.setIfInBounds_toArray, List.set_cons_zero, List.set_cons_succ]
  refine wpAnyH_take (i := 6) (oi := ⟨some 12, _, _, _, _, _⟩) (v := .pointer (some ⟨p, 1, none⟩)) rfl (by kernel_rfl) (by kernel_rfl) (by kernel_rfl) (fun _ _ _ h => h) (Or.inl ⟨by rfl, fun Xw hSW => by go_simp⟩) hHeld ?_
  simp only [Act.put, List.setIfInBounds_toArray, List.set_cons_zero, List.set_cons_succ]
  refine wpAnyH_take (i := 7) (oi := ⟨some 13, _, _, _, _, _⟩) (v := .slice (some ⟨g, 0, none⟩) (nw n) c) rfl (by kernel_rfl) (by kernel_rfl) (by kernel_rfl) (fun _ _ _ h => h) (Or.inl ⟨by rfl, fun Xw hSW => by have a := (hSW.cell (p := ⟨p, 1, none⟩) hpl).trans c1; go_simp⟩) hHeld ?_
  simp only [Act.put, List.setIfInBounds_toArray, List.set_cons_zero, List.set_cons_succ]
  refine wpAnyH_ready (rs := [8]) (by kernel_rfl) (by simp) ?_
  refine AllReadyH.cons (o := ⟨some 14, _, _, _, _, _⟩) rfl (fun K hK => ?_) AllReadyH.nil
  go_simp
  refine (cloneU_c (HR.out.below (Below.refl _ w).drew) (by omega)).mono ?_
  rintro e w2 ⟨v2, rfl, ho2, hb2⟩
  obtain ⟨A2, c2, rfl, hc2, hm2, hA2⟩ := ho2.form HLN.out
  obtain ⟨g2, rfl, hg2, hl2⟩ := hA2 hnw0
  have O2 := Lib.hid ho2
  have hs2 := hb2.size
  have B2 := Lib.hid hb2
  clear ho2 hA2
  go_wp2_with fail
  refine hK.out _ _ ((Below.refl _ w).drew.trans (B2.out.mono (Nat.le_refl _))) (fun hHeld => ?_)
  clear hK K
  refine wpAnyH_take (i := 9) (oi := ⟨some 15, _, _, _, _, _⟩) (v := .agg #[.int .i64 (n : Int), .slice (some ⟨g2, 0, none⟩) (nw n) c2]) rfl (by kernel_rfl) (by kernel_rfl) (by kernel_rfl) (fun _ _ _ h => h) (Or.inl ⟨by rfl, fun Xw hSW => by go_simp⟩) hHeld ?_
  simp only [Act.put, List.setIfInBounds_toArray, List.set_cons_zero, List.set_cons_succ]
  refine wpAnyH_ready (rs := [10]) (by kernel_rfl) (by simp) ?_
  refine AllReadyH.cons (o := ⟨some 16, _, _, _, _, _⟩) rfl (fun K hK => ?_) AllReadyH.nil
  go_simp
  refine hK.out _ _ (hHeld.alloc hs2 _) (fun hHeld => ?_)
  clear hK K
  refine wpAnyH_ready (rs := [11]) (by kernel_rfl) (by simp) ?_
  refine AllReadyH.cons (o := ⟨some 2, _, _, _, _, _⟩) rfl (fun K hK => ?_) AllReadyH.nil
  go_simp
  refine hK.out _ _ (hHeld) (fun hHeld => ?_)
  clear hK K
  refine wpAnyH_done (by kernel_rfl) ?_ _
  refine NoPanic.normal ?_
  go_wp2_with fail
  go_ret
  refine ⟨w2.heap.size, rfl, made_of (g := g2) (c := c2) hHeld (BlkP.Blk.new _ _ _) (O2.out.alloc _) ?_ ?_ ?_ hs2⟩
  · exact HM.out.len
  · exact HM.out.lo
  · exact HM.out.hi

theorem own_zero {w1 : World} {B g m : Nat} (h : w1.ownsRow B TU 1 (.slice (some ⟨g, 0, none⟩) m m) m (madeCells (Value.int .u64 0).cells (m * 1)).toList) : RowG.Own encU TU w1 B (.slice (some ⟨g, 0, none⟩) m m) (List.replicate m 0) := by
  unfold RowG.Own
  have e : flat encU (List.replicate m 0) = (madeCells (Value.int .u64 0).cells (m * 1)).toList := by
    apply List.ext_getElem?
    intro i
    have hk : encU.k = 1 := rfl
    rcases Nat.lt_or_ge i m with hi | hi
    · have h0 : (List.replicate m 0)[i]? = some 0 := by rw [List.getElem?_replicate, if_pos hi]
      have := flat_get (e := encU) (l := List.replicate m 0) (i := i) (j := 0) h0 (by decide)
      rw [hk, Nat.mul_one, Nat.add_zero] at this
      rw [this]
      simp [madeCells, Value.cells, hi, encU, Nat.mod_one]
    · rw [List.getElem?_eq_none (by rw [flat_len, hk]; simpa using hi), List.getElem?_eq_none (by simp [madeCells]; omega)]
  rw [List.length_replicate, e]
  exact h
theorem true_c (w : World) (x : Int) : Calls Tryd.prog 38 #[.int .i64 x] w fun e w' => e = .returned (.bool true) ∧ w' = w := by
  go_enter Tryd.func38, Tryd.ntmps38
  go_wp2_with fail
  go_ret
  exact ⟨rfl, rfl⟩

set_option maxHeartbeats 16000000 in
theorem madeT_c {w : World} {n : Nat} {f : Nat → Bool} (lo : 256 ≤ n) (hi : n ≤ 131072) (hF : ∀ i < n, ∀ w', Below w.heap.size w w' → Calls Tryd.prog 38 #[.int .i64 (i : Int)] w' fun e w2 => e = .returned (.bool (f i)) ∧ w2 = w') :
    Calls Tryd.prog 37 #[.int .i64 (n : Int), .func (.func 38) #[] #[]] w fun e w' => ∃ p, e = .returned (.pointer (some ⟨p, 0, none⟩)) ∧ Made w p n (bitsL f n) w' := by
  have hnw : nw n ≤ 2048 := by unfold nw; omega
  have hnw0 : 0 < nw n := by unfold nw; omega
  obtain ⟨i, hi0, hz, hs1, hby⟩ := info_parts infoU
  have HI := Lib.hid hi0
  have HZ := Lib.hid hz
  have HS1 := Lib.hid hs1
  have HB := Lib.hid hby
  have hm : maxLen = 9223372036854775807 := rfl
  have HF := Lib.hid hF
  clear hi0 hz hs1 hby hF
  go_enter Tryd.func37, Tryd.ntmps37
  go_wp2_with fail
  go_at_call 39
  refine (parts64_c hi _).mono ?_
  rintro e w1 ⟨rfl, hw⟩
  obtain rfl := hw.symm
  go_wp2_with ((with_reducible refine at_slot 10 ?_); refine wpList_make_full _ rfl _ _ TUs rfl w.heap.size TU i (.int .u64 0) 1 underUs HI.out HZ.out HS1.out .i64 .i64 _ _ (nw n) rfl rfl rfl rfl (by rw [HB.out]; omega) (by omega) (Nat.le_refl _) ?_; intro w1 hown1 hg1; have OW := Lib.hid (own_zero hown1); have BW := Lib.hid (show Below w.heap.size w w1 from (Below.refl _ w).grown hg1 (Nat.le_refl _) (by simp)); have hs1 := BW.out.size; have hl1 := (OW.out.ge w.heap.size rfl).2; clear hown1 hg1)
  go_loopw [6, 14] (fun v6 v14 wr => ∃ k : Nat, v14 = .int .i64 (k : Int) ∧ k ≤ n ∧ MapP wr w.heap.size w1.heap.size w.heap.size (nw n) n (upto f n k) ∧ Below w.heap.size w wr) (fun v6 v14 _ => n - (RowKit.intOf v14).toNat)
  case atStart =>
    refine ⟨0, rfl, by omega, ⟨BlkP.Blk.new _ _ _, ?_, upto_len _ _ _, lo, hi, hs1⟩, BW.out.alloc hs1 _⟩
    rw [upto_zero, words_none]
    exact OW.out.alloc _
  case round =>
    obtain ⟨k, rfl, hk, hM, hbr⟩ := hrel
    have MP := Lib.hid hM
    have BR := Lib.hid hbr
    by_cases hlt : k < n
    · have hc := HF.out k hlt wr hbr
      have c1 := hM.bp.cell (i := 1) (v := .slice (some ⟨w.heap.size, 0, none⟩) (nw n) (nw n)) rfl
      have hpl := hM.bp.lt
      have hgl := hM.gb.2
      have hpg : ¬ w1.heap.size = w.heap.size := hM.ne
      have hj := nw_lt hlt
      have cw := hM.word hj
      have hfz := hM.row.frozen (k / 64)
      have HU := Lib.hid (upto_succ f hlt)
      have HW := Lib.hid (words_or (L := upto f n k) (i := k) (by rw [upto_len]; exact hlt))
      obtain ⟨M, hMM⟩ : ∃ M, M = upto f n k := ⟨_, rfl⟩
      rw [← hMM] at MP cw HW HU
      obtain ⟨j, hj2⟩ : ∃ j, j = k / 64 := ⟨_, rfl⟩
      rw [← hj2] at hj cw HW hfz
      have hw : IntKind.i64.wrap ((k : Int) / 64) = (j : Int) := by rw [IntKind.wrap_i64]; omega
      obtain ⟨W, hW⟩ : ∃ W, W = wd M j := ⟨_, rfl⟩
      have hWl : W < 18446744073709551616 := by rw [hW]; exact wd_lt _ _
      rw [← hW] at cw HW
      obtain ⟨P, hP⟩ : ∃ P : Nat, P = 2 ^ (k % 64) := ⟨_, rfl⟩
      have hPl : P < 18446744073709551616 := by rw [hP]; exact pow_lt _
      have HC : Hid (∀ w : World, Calls Tryd.prog 58 #[.int .i64 (k : Int)] w fun e w' => e = .returned (.int .u64 (P : Int)) ∧ w' = w) := Lib.hid (fun w => by rw [hP]; exact bit_c k w)
      rw [← hP] at HW
      obtain ⟨V, hV⟩ : ∃ V : Nat, V = W ||| P := ⟨_, rfl⟩
      have HX : Hid (bits .or .u64 (W : Int) (P : Int) = (V : Int)) := Lib.hid (by rw [hV]; exact or_lit hWl hPl)
      rw [← hV] at HW
      have HML := Lib.hid (show (M.set k true).length = M.length by simp)
      have HJ := Lib.hid hj
      have HCF := Lib.hid hc
      clear hV hP hW hj2 hMM hM hbr hc
      cases hf : f k
      · have HFK := Lib.hid hf
        clear hf
        go_wp2_with fail
        go_at_call 38
        refine HCF.out.mono ?_
        rintro e w3 ⟨rfl, hw3⟩
        obtain rfl := hw3.symm
        rw [HFK.out]
        go_wp2_with fail
        go_roundw
        case rel =>
          refine ⟨k + 1, by go_num, by omega, ?_, BR.out⟩
          rw [HU.out, HFK.out, if_neg (by simp)]
          exact MP.out
        case measure => simp [RowKit.intOf]; omega
      · have HFK := Lib.hid hf
        clear hf
        go_wp2_with fail
        go_at_call 38
        refine HCF.out.mono ?_
        rintro e w3 ⟨rfl, hw3⟩
        obtain rfl := hw3.symm
        rw [HFK.out]
        go_wp2_with fail
        refine wp_region_noPanic ?_
        refine wp_region_held_drew (S := fun Xw => Fr (fun b => b = w.heap.size) wr Xw) (by kernel_rfl) ((Fr.refl _ wr).drew) (fun hHeld => ?_)
        refine wpAnyH_take (i := 0) (oi := ⟨some 20, _, _, _, _, _⟩) (v := .pointer (some ⟨w1.heap.size, 0, none⟩)) rfl (by kernel_rfl) (by kernel_rfl) (by kernel_rfl) (fun _ _ _ h => h) (Or.inl ⟨by rfl, fun Xw hSW => by go_simp⟩) hHeld ?_
        simp only [Act.put, List.setIfInBounds_toArray, List.set_cons_zero, List.set_cons_succ]
        refine wpAnyH_take (i := 1) (oi := ⟨some 21, _, _, _, _, _⟩) (v := .pointer (some ⟨w1.heap.size, 0, none⟩)) rfl (by kernel_rfl) (by kernel_rfl) (by kernel_rfl) (fun _ _ _ h => h) (Or.inl ⟨by rfl, fun Xw hSW => by go_simp⟩) hHeld ?_
        simp only [Act.put, List.setIfInBounds_toArray, List.set_cons_zero, List.set_cons_succ]
        refine wpAnyH_take (i := 2) (oi := ⟨some 22, _, _, _, _, _⟩) (v := .pointer (some ⟨w1.heap.size, 1, none⟩)) rfl (by kernel_rfl) (by kernel_rfl) (by kernel_rfl) (fun _ _ _ h => h) (Or.inl ⟨by rfl, fun Xw hSW => by go_simp⟩) hHeld ?_
        simp only [Act.put, List.setIfInBounds_toArray, List.set_cons_zero, List.set_cons_succ]
        refine wpAnyH_take (i := 3) (oi := ⟨some 23, _, _, _, _, _⟩) (v := .slice (some ⟨w.heap.size, 0, none⟩) (nw n) (nw n)) rfl (by kernel_rfl) (by kernel_rfl) (by kernel_rfl) (fun _ _ _ h => h) (Or.inl ⟨by rfl, fun Xw hSW => by have a := (hSW.cell (p := ⟨w1.heap.size, 1, none⟩) hpl hpg).trans c1; go_simp⟩) hHeld ?_
        simp only [Act.put, List.setIfInBounds_toArray, List.set_cons_zero, List.set_cons_succ]
        refine wpAnyH_take (i := 4) (oi := ⟨some 24, _, _, _, _, _⟩) (v := .int .i64 (k : Int)) rfl (by kernel_rfl) (by kernel_rfl) (by kernel_rfl) (fun _ _ _ h => h) (Or.inl ⟨by rfl, fun Xw hSW => by go_simp⟩) hHeld ?_
        simp only [Act.put, List.setIfInBounds_toArray, List.set_cons_zero, List.set_cons_succ]
        refine wpAnyH_take (i := 5) (oi := ⟨some 25, _, _, _, _, _⟩) (v := .int .i64 (j : Int)) rfl (by kernel_rfl) (by kernel_rfl) (by kernel_rfl) (fun _ _ _ h => h) (Or.inl ⟨by rfl, fun Xw hSW => by go_simp⟩) hHeld ?_
        simp only [Act.put, List.setIfInBounds_toArray, List.set_cons_zero, List.set_cons_succ]
        refine wpAnyH_take (i := 6) (oi := ⟨some 26, _, _, _, _, _⟩) (v := .pointer (some ⟨w.heap.size, j, none⟩)) rfl (by kernel_rfl) (by kernel_rfl) (by kernel_rfl) (fun _ _ _ h => h) (Or.inl ⟨by rfl, fun Xw hSW => by go_simp⟩) hHeld ?_
        simp only [Act.put, List.setIfInBounds_toArray, List.set_cons_zero, List.set_cons_succ]
        refine wpAnyH_take (i := 8) (oi := ⟨some 28, _, _, _, _, _⟩) (v := .int .i64 (k : Int)) rfl (by kernel_rfl) (by kernel_rfl) (by kernel_rfl) (fun _ _ _ h => h) (Or.inl ⟨by rfl, fun Xw hSW => by go_simp⟩) hHeld ?_
        simp only [Act.put, List.setIfInBounds_toArray, List.set_cons_zero, List.set_cons_succ]
        refine wpAnyH_ready (rs := [7, 9]) (by kernel_rfl) (by simp) ?_
        refine AllReadyH.cons (o := ⟨some 27, _, _, _, _, _⟩) rfl (fun K hK => ?_) (AllReadyH.cons (o := ⟨some 29, _, _, _, _, _⟩) rfl (fun K hK => ?_) AllReadyH.nil)
        · go_simp
          refine hK.out _ _ (hHeld) (fun hHeld => ?_)
          clear hK K
          refine wpAnyH_ready (rs := [9]) (by kernel_rfl) (by simp) ?_
          refine AllReadyH.cons (o := ⟨some 29, _, _, _, _, _⟩) rfl (fun K hK => ?_) AllReadyH.nil
          go_simp
          refine (HC.out _).mono ?_
          rintro e w4 ⟨rfl, hw4⟩
          obtain rfl := hw4.symm
          go_wp2_with fail
          refine hK.out _ _ (hHeld) (fun hHeld => ?_)
          clear hK K
          refine wpAnyH_take (i := 10) (oi := ⟨some 30, _, _, _, _, _⟩) (v := .int .u64 (V : Int)) rfl (by kernel_rfl) (by kernel_rfl) (by kernel_rfl) (fun _ _ _ h => h) (Or.inl ⟨by rfl, fun Xw hSW => by go_simp <;> exact HX.out⟩) hHeld ?_
          simp only [Act.put, List.setIfInBounds_toArray, List.set_cons_zero, List.set_cons_succ]
          refine wpAnyH_take (i := 11) (oi := ⟨some 31, _, _, _, _, _⟩) (v := .pointer (some ⟨w.heap.size, j, none⟩)) rfl (by kernel_rfl) (by kernel_rfl) (by kernel_rfl) (fun _ _ _ h => h) (Or.inl ⟨by rfl, fun Xw hSW => by go_simp⟩) hHeld ?_
          simp only [Act.put, List.setIfInBounds_toArray, List.set_cons_zero, List.set_cons_succ]
          refine wpAnyH_ready (rs := [12]) (by kernel_rfl) (by simp) ?_
          refine AllReadyH.cons (o := ⟨none, _, _, _, _, _⟩) rfl (fun K hK => ?_) AllReadyH.nil
          go_simp
          refine hK.out _ _ (hHeld.trans (Fr.set _ _ _ _ rfl) (fun _ q => .inl q.symm)) (fun hHeld => ?_)
          clear hK K
          refine wpAnyH_done (by kernel_rfl) ?_ _
          refine NoPanic.normal ?_
          go_wp2_with fail
          go_roundw
          case rel =>
            refine ⟨k + 1, by go_num, by omega, ?_, BR.out.trans (hHeld.toBelow BR.out.size (fun b hb => by rw [hb]; exact Nat.le_refl _))⟩
            rw [HU.out, HFK.out, if_pos rfl]
            exact MapP.set (MP.out.fr (Fr.below (fun _ => False) (Below.refl _ _).drew) (fun _ _ q => q)) HJ.out HW.out HML.out
          case measure => simp [RowKit.intOf]; omega
        · go_simp
          refine (HC.out _).mono ?_
          rintro e w4 ⟨rfl, hw4⟩
          obtain rfl := hw4.symm
          go_wp2_with fail
          refine hK.out _ _ (hHeld) (fun hHeld => ?_)
          clear hK K
          refine wpAnyH_ready (rs := [7]) (by kernel_rfl) (by simp) ?_
          refine AllReadyH.cons (o := ⟨some 27, _, _, _, _, _⟩) rfl (fun K hK => ?_) AllReadyH.nil
          go_simp
          refine hK.out _ _ (hHeld) (fun hHeld => ?_)
          clear hK K
          refine wpAnyH_take (i := 10) (oi := ⟨some 30, _, _, _, _, _⟩) (v := .int .u64 (V : Int)) rfl (by kernel_rfl) (by kernel_rfl) (by kernel_rfl) (fun _ _ _ h => h) (Or.inl ⟨by rfl, fun Xw hSW => by go_simp <;> exact HX.out⟩) hHeld ?_
          simp only [Act.put, List.setIfInBounds_toArray, List.set_cons_zero, List.set_cons_succ]
          refine wpAnyH_take (i := 11) (oi := ⟨some 31, _, _, _, _, _⟩) (v := .pointer (some ⟨w.heap.size, j, none⟩)) rfl (by kernel_rfl) (by kernel_rfl) (by kernel_rfl) (fun _ _ _ h => h) (Or.inl ⟨by rfl, fun Xw hSW => by go_simp⟩) hHeld ?_
          simp only [Act.put, List.setIfInBounds_toArray, List.set_cons_zero, List.set_cons_succ]
          refine wpAnyH_ready (rs := [12]) (by kernel_rfl) (by simp) ?_
          refine AllReadyH.cons (o := ⟨none, _, _, _, _, _⟩) rfl (fun K hK => ?_) AllReadyH.nil
          go_simp
          refine hK.out _ _ (hHeld.trans (Fr.set _ _ _ _ rfl) (fun _ q => .inl q.symm)) (fun hHeld => ?_)
          clear hK K
          refine wpAnyH_done (by kernel_rfl) ?_ _
          refine NoPanic.normal ?_
          go_wp2_with fail
          go_roundw
          case rel =>
            refine ⟨k + 1, by go_num, by omega, ?_, BR.out.trans (hHeld.toBelow BR.out.size (fun b hb => by rw [hb]; exact Nat.le_refl _))⟩
            rw [HU.out, HFK.out, if_pos rfl]
            exact MapP.set (MP.out.fr (Fr.below (fun _ => False) (Below.refl _ _).drew) (fun _ _ q => q)) HJ.out HW.out HML.out
          case measure => simp [RowKit.intOf]; omega
    · obtain rfl : k = n := by omega
      have HE := Lib.hid (upto_all f k)
      clear hM hbr
      go_wp2_with fail
      go_ret
      refine ⟨_, rfl, ?_⟩
      rw [← HE.out]
      exact ⟨fun b => b = w1.heap.size ∨ b = w.heap.size, ⟨_, _, MP.out, fun _ => Iff.rfl⟩, BR.out⟩

set_option maxHeartbeats 16000000 in
theorem madeH_c {w : World} {n : Nat} {f : Nat → Bool} {ph : Nat} (lo : 256 ≤ n) (hi : n ≤ 131072) (hF : ∀ i < n, ∀ w', Below w.heap.size w w' → Calls Tryd.prog 55 #[.int .i64 (i : Int), .pointer (some ⟨ph, 0, none⟩)] w' fun e w2 => e = .returned (.bool (f i)) ∧ w2 = w') :
    Calls Tryd.prog 37 #[.int .i64 (n : Int), .func (.func 55) #[] #[.pointer (some ⟨ph, 0, none⟩)]] w fun e w' => ∃ p, e = .returned (.pointer (some ⟨p, 0, none⟩)) ∧ Made w p n (bitsL f n) w' := by
  have hnw : nw n ≤ 2048 := by unfold nw; omega
  have hnw0 : 0 < nw n := by unfold nw; omega
  obtain ⟨i, hi0, hz, hs1, hby⟩ := info_parts infoU
  have HI := Lib.hid hi0
  have HZ := Lib.hid hz
  have HS1 := Lib.hid hs1
  have HB := Lib.hid hby
  have hm : maxLen = 9223372036854775807 := rfl
  have HF := Lib.hid hF
  clear hi0 hz hs1 hby hF
  go_enter Tryd.func37, Tryd.ntmps37
  go_wp2_with fail
  go_at_call 39
  refine (parts64_c hi _).mono ?_
  rintro e w1 ⟨rfl, hw⟩
  obtain rfl := hw.symm
  go_wp2_with ((with_reducible refine at_slot 10 ?_); refine wpList_make_full _ rfl _ _ TUs rfl w.heap.size TU i (.int .u64 0) 1 underUs HI.out HZ.out HS1.out .i64 .i64 _ _ (nw n) rfl rfl rfl rfl (by rw [HB.out]; omega) (by omega) (Nat.le_refl _) ?_; intro w1 hown1 hg1; have OW := Lib.hid (own_zero hown1); have BW := Lib.hid (show Below w.heap.size w w1 from (Below.refl _ w).grown hg1 (Nat.le_refl _) (by simp)); have hs1 := BW.out.size; have hl1 := (OW.out.ge w.heap.size rfl).2; clear hown1 hg1)
  go_loopw [6, 14] (fun v6 v14 wr => ∃ k : Nat, v14 = .int .i64 (k : Int) ∧ k ≤ n ∧ MapP wr w.heap.size w1.heap.size w.heap.size (nw n) n (upto f n k) ∧ Below w.heap.size w wr) (fun v6 v14 _ => n - (RowKit.intOf v14).toNat)
  case atStart =>
    refine ⟨0, rfl, by omega, ⟨BlkP.Blk.new _ _ _, ?_, upto_len _ _ _, lo, hi, hs1⟩, BW.out.alloc hs1 _⟩
    rw [upto_zero, words_none]
    exact OW.out.alloc _
  case round =>
    obtain ⟨k, rfl, hk, hM, hbr⟩ := hrel
    have MP := Lib.hid hM
    have BR := Lib.hid hbr
    by_cases hlt : k < n
    · have hc := HF.out k hlt wr hbr
      have c1 := hM.bp.cell (i := 1) (v := .slice (some ⟨w.heap.size, 0, none⟩) (nw n) (nw n)) rfl
      have hpl := hM.bp.lt
      have hgl := hM.gb.2
      have hpg : ¬ w1.heap.size = w.heap.size := hM.ne
      have hj := nw_lt hlt
      have cw := hM.word hj
      have hfz := hM.row.frozen (k / 64)
      have HU := Lib.hid (upto_succ f hlt)
      have HW := Lib.hid (words_or (L := upto f n k) (i := k) (by rw [upto_len]; exact hlt))
      obtain ⟨M, hMM⟩ : ∃ M, M = upto f n k := ⟨_, rfl⟩
      rw [← hMM] at MP cw HW HU
      obtain ⟨j, hj2⟩ : ∃ j, j = k / 64 := ⟨_, rfl⟩
      rw [← hj2] at hj cw HW hfz
      have hw : IntKind.i64.wrap ((k : Int) / 64) = (j : Int) := by rw [IntKind.wrap_i64]; omega
      obtain ⟨W, hW⟩ : ∃ W, W = wd M j := ⟨_, rfl⟩
      have hWl : W < 18446744073709551616 := by rw [hW]; exact wd_lt _ _
      rw [← hW] at cw HW
      obtain ⟨P, hP⟩ : ∃ P : Nat, P = 2 ^ (k % 64) := ⟨_, rfl⟩
      have hPl : P < 18446744073709551616 := by rw [hP]; exact pow_lt _
      have HC : Hid (∀ w : World, Calls Tryd.prog 58 #[.int .i64 (k : Int)] w fun e w' => e = .returned (.int .u64 (P : Int)) ∧ w' = w) := Lib.hid (fun w => by rw [hP]; exact bit_c k w)
      rw [← hP] at HW
      obtain ⟨V, hV⟩ : ∃ V : Nat, V = W ||| P := ⟨_, rfl⟩
      have HX : Hid (bits .or .u64 (W : Int) (P : Int) = (V : Int)) := Lib.hid (by rw [hV]; exact or_lit hWl hPl)
      rw [← hV] at HW
      have HML := Lib.hid (show (M.set k true).length = M.length by simp)
      have HJ := Lib.hid hj
      have HCF := Lib.hid hc
      clear hV hP hW hj2 hMM hM hbr hc
      cases hf : f k
      · have HFK := Lib.hid hf
        clear hf
        go_wp2_with fail
        go_at_call 55
        refine HCF.out.mono ?_
        rintro e w3 ⟨rfl, hw3⟩
        obtain rfl := hw3.symm
        rw [HFK.out]
        go_wp2_with fail
        go_roundw
        case rel =>
          refine ⟨k + 1, by go_num, by omega, ?_, BR.out⟩
          rw [HU.out, HFK.out, if_neg (by simp)]
          exact MP.out
        case measure => simp [RowKit.intOf]; omega
      · have HFK := Lib.hid hf
        clear hf
        go_wp2_with fail
        go_at_call 55
        refine HCF.out.mono ?_
        rintro e w3 ⟨rfl, hw3⟩
        obtain rfl := hw3.symm
        rw [HFK.out]
        go_wp2_with fail
        refine wp_region_noPanic ?_
        refine wp_region_held_drew (S := fun Xw => Fr (fun b => b = w.heap.size) wr Xw) (by kernel_rfl) ((Fr.refl _ wr).drew) (fun hHeld => ?_)
        refine wpAnyH_take (i := 0) (oi := ⟨some 20, _, _, _, _, _⟩) (v := .pointer (some ⟨w1.heap.size, 0, none⟩)) rfl (by kernel_rfl) (by kernel_rfl) (by kernel_rfl) (fun _ _ _ h => h) (Or.inl ⟨by rfl, fun Xw hSW => by go_simp⟩) hHeld ?_
        simp only [Act.put, List.setIfInBounds_toArray, List.set_cons_zero, List.set_cons_succ]
        refine wpAnyH_take (i := 1) (oi := ⟨some 21, _, _, _, _, _⟩) (v := .pointer (some ⟨w1.heap.size, 0, none⟩)) rfl (by kernel_rfl) (by kernel_rfl) (by kernel_rfl) (fun _ _ _ h => h) (Or.inl ⟨by rfl, fun Xw hSW => by go_simp⟩) hHeld ?_
        simp only [Act.put, List.setIfInBounds_toArray, List.set_cons_zero, List.set_cons_succ]
        refine wpAnyH_take (i := 2) (oi := ⟨some 22, _, _, _, _, _⟩) (v := .pointer (some ⟨w1.heap.size, 1, none⟩)) rfl (by kernel_rfl) (by kernel_rfl) (by kernel_rfl) (fun _ _ _ h => h) (Or.inl ⟨by rfl, fun Xw hSW => by go_simp⟩) hHeld ?_
        simp only [Act.put, List.setIfInBounds_toArray, List.set_cons_zero, List.set_cons_succ]
        refine wpAnyH_take (i := 3) (oi := ⟨some 23, _, _, _, _, _⟩) (v := .slice (some ⟨w.heap.size, 0, none⟩) (nw n) (nw n)) rfl (by kernel_rfl) (by kernel_rfl) (by kernel_rfl) (fun _ _ _ h => h) (Or.inl ⟨by rfl, fun Xw hSW => by have a := (hSW.cell (p := ⟨w1.heap.size, 1, none⟩) hpl hpg).trans c1; go_simp⟩) hHeld ?_
        simp only [Act.put, List.setIfInBounds_toArray, List.set_cons_zero, List.set_cons_succ]
        refine wpAnyH_take (i := 4) (oi := ⟨some 24, _, _, _, _, _⟩) (v := .int .i64 (k : Int)) rfl (by kernel_rfl) (by kernel_rfl) (by kernel_rfl) (fun _ _ _ h => h) (Or.inl ⟨by rfl, fun Xw hSW => by go_simp⟩) hHeld ?_
        simp only [Act.put, List.setIfInBounds_toArray, List.set_cons_zero, List.set_cons_succ]
        refine wpAnyH_take (i := 5) (oi := ⟨some 25, _, _, _, _, _⟩) (v := .int .i64 (j : Int)) rfl (by kernel_rfl) (by kernel_rfl) (by kernel_rfl) (fun _ _ _ h => h) (Or.inl ⟨by rfl, fun Xw hSW => by go_simp⟩) hHeld ?_
        simp only [Act.put, List.setIfInBounds_toArray, List.set_cons_zero, List.set_cons_succ]
        refine wpAnyH_take (i := 6) (oi := ⟨some 26, _, _, _, _, _⟩) (v := .pointer (some ⟨w.heap.size, j, none⟩)) rfl (by kernel_rfl) (by kernel_rfl) (by kernel_rfl) (fun _ _ _ h => h) (Or.inl ⟨by rfl, fun Xw hSW => by go_simp⟩) hHeld ?_
        simp only [Act.put, List.setIfInBounds_toArray, List.set_cons_zero, List.set_cons_succ]
        refine wpAnyH_take (i := 8) (oi := ⟨some 28, _, _, _, _, _⟩) (v := .int .i64 (k : Int)) rfl (by kernel_rfl) (by kernel_rfl) (by kernel_rfl) (fun _ _ _ h => h) (Or.inl ⟨by rfl, fun Xw hSW => by go_simp⟩) hHeld ?_
        simp only [Act.put, List.setIfInBounds_toArray, List.set_cons_zero, List.set_cons_succ]
        refine wpAnyH_ready (rs := [7, 9]) (by kernel_rfl) (by simp) ?_
        refine AllReadyH.cons (o := ⟨some 27, _, _, _, _, _⟩) rfl (fun K hK => ?_) (AllReadyH.cons (o := ⟨some 29, _, _, _, _, _⟩) rfl (fun K hK => ?_) AllReadyH.nil)
        · go_simp
          refine hK.out _ _ (hHeld) (fun hHeld => ?_)
          clear hK K
          refine wpAnyH_ready (rs := [9]) (by kernel_rfl) (by simp) ?_
          refine AllReadyH.cons (o := ⟨some 29, _, _, _, _, _⟩) rfl (fun K hK => ?_) AllReadyH.nil
          go_simp
          refine (HC.out _).mono ?_
          rintro e w4 ⟨rfl, hw4⟩
          obtain rfl := hw4.symm
          go_wp2_with fail
          refine hK.out _ _ (hHeld) (fun hHeld => ?_)
          clear hK K
          refine wpAnyH_take (i := 10) (oi := ⟨some 30, _, _, _, _, _⟩) (v := .int .u64 (V : Int)) rfl (by kernel_rfl) (by kernel_rfl) (by kernel_rfl) (fun _ _ _ h => h) (Or.inl ⟨by rfl, fun Xw hSW => by go_simp <;> exact HX.out⟩) hHeld ?_
          simp only [Act.put, List.setIfInBounds_toArray, List.set_cons_zero, List.set_cons_succ]
          refine wpAnyH_take (i := 11) (oi := ⟨some 31, _, _, _, _, _⟩) (v := .pointer (some ⟨w.heap.size, j, none⟩)) rfl (by kernel_rfl) (by kernel_rfl) (by kernel_rfl) (fun _ _ _ h => h) (Or.inl ⟨by rfl, fun Xw hSW => by go_simp⟩) hHeld ?_
          simp only [Act.put, List.setIfInBounds_toArray, List.set_cons_zero, List.set_cons_succ]
          refine wpAnyH_ready (rs := [12]) (by kernel_rfl) (by simp) ?_
          refine AllReadyH.cons (o := ⟨none, _, _, _, _, _⟩) rfl (fun K hK => ?_) AllReadyH.nil
          go_simp
          refine hK.out _ _ (hHeld.trans (Fr.set _ _ _ _ rfl) (fun _ q => .inl q.symm)) (fun hHeld => ?_)
          clear hK K
          refine wpAnyH_done (by kernel_rfl) ?_ _
          refine NoPanic.normal ?_
          go_wp2_with fail
          go_roundw
          case rel =>
            refine ⟨k + 1, by go_num, by omega, ?_, BR.out.trans (hHeld.toBelow BR.out.size (fun b hb => by rw [hb]; exact Nat.le_refl _))⟩
            rw [HU.out, HFK.out, if_pos rfl]
            exact MapP.set (MP.out.fr (Fr.below (fun _ => False) (Below.refl _ _).drew) (fun _ _ q => q)) HJ.out HW.out HML.out
          case measure => simp [RowKit.intOf]; omega
        · go_simp
          refine (HC.out _).mono ?_
          rintro e w4 ⟨rfl, hw4⟩
          obtain rfl := hw4.symm
          go_wp2_with fail
          refine hK.out _ _ (hHeld) (fun hHeld => ?_)
          clear hK K
          refine wpAnyH_ready (rs := [7]) (by kernel_rfl) (by simp) ?_
          refine AllReadyH.cons (o := ⟨some 27, _, _, _, _, _⟩) rfl (fun K hK => ?_) AllReadyH.nil
          go_simp
          refine hK.out _ _ (hHeld) (fun hHeld => ?_)
          clear hK K
          refine wpAnyH_take (i := 10) (oi := ⟨some 30, _, _, _, _, _⟩) (v := .int .u64 (V : Int)) rfl (by kernel_rfl) (by kernel_rfl) (by kernel_rfl) (fun _ _ _ h => h) (Or.inl ⟨by rfl, fun Xw hSW => by go_simp <;> exact HX.out⟩) hHeld ?_
          simp only [Act.put, List.setIfInBounds_toArray, List.set_cons_zero, List.set_cons_succ]
          refine wpAnyH_take (i := 11) (oi := ⟨some 31, _, _, _, _, _⟩) (v := .pointer (some ⟨w.heap.size, j, none⟩)) rfl (by kernel_rfl) (by kernel_rfl) (by kernel_rfl) (fun _ _ _ h => h) (Or.inl ⟨by rfl, fun Xw hSW => by go_simp⟩) hHeld ?_
          simp only [Act.put, List.setIfInBounds_toArray, List.set_cons_zero, List.set_cons_succ]
          refine wpAnyH_ready (rs := [12]) (by kernel_rfl) (by simp) ?_
          refine AllReadyH.cons (o := ⟨none, _, _, _, _, _⟩) rfl (fun K hK => ?_) AllReadyH.nil
          go_simp
          refine hK.out _ _ (hHeld.trans (Fr.set _ _ _ _ rfl) (fun _ q => .inl q.symm)) (fun hHeld => ?_)
          clear hK K
          refine wpAnyH_done (by kernel_rfl) ?_ _
          refine NoPanic.normal ?_
          go_wp2_with fail
          go_roundw
          case rel =>
            refine ⟨k + 1, by go_num, by omega, ?_, BR.out.trans (hHeld.toBelow BR.out.size (fun b hb => by rw [hb]; exact Nat.le_refl _))⟩
            rw [HU.out, HFK.out, if_pos rfl]
            exact MapP.set (MP.out.fr (Fr.below (fun _ => False) (Below.refl _ _).drew) (fun _ _ q => q)) HJ.out HW.out HML.out
          case measure => simp [RowKit.intOf]; omega
    · obtain rfl : k = n := by omega
      have HE := Lib.hid (upto_all f k)
      clear hM hbr
      go_wp2_with fail
      go_ret
      refine ⟨_, rfl, ?_⟩
      rw [← HE.out]
      exact ⟨fun b => b = w1.heap.size ∨ b = w.heap.size, ⟨_, _, MP.out, fun _ => Iff.rfl⟩, BR.out⟩

/-- A map all of whose sectors are free. -/
def full (n : Nat) : List Bool := bitsL (fun _ => true) n
theorem New_i {n : Nat} (lo : 256 ≤ n) (hi : n ≤ 131072) (w : World) :
    Calls Tryd.prog 11 #[.int .i64 (n : Int)] w fun e w' => ∃ p, e = .returned (.tuple #[.pointer (some ⟨p, 0, none⟩), .int .i64 0]) ∧ Made w p n (full n) w' := by
  have h := isM_iff.2 (show (256 : Int) ≤ n ∧ (n : Int) ≤ 131072 by omega)
  go_enter Tryd.func11, Tryd.ntmps11
  go_wp2_with fail
  go_at_call 36
  refine (isMap_c h _).mono ?_
  rintro e w1 ⟨rfl, hw⟩
  obtain rfl := hw.symm
  go_wp2_with fail
  go_at_call 37
  refine (madeT_c (f := fun _ => true) lo hi (fun i _ w' _ => true_c w' _)).mono ?_
  rintro e w2 ⟨p, rfl, hm⟩
  have HM := Lib.hid hm
  clear hm
  go_wp2_with fail
  refine bodyPost_ret (v := .tuple #[.pointer (some ⟨p, 0, none⟩), .int .i64 0]) (by simp [results, Tryd.results11, go_sem]) rfl ?_
  exact ⟨p, rfl, HM.out⟩
theorem New_no {n : Int} (h : isM n = false) (w : World) :
    Calls Tryd.prog 11 #[.int .i64 n] w fun e w' => e = .returned (.tuple #[.pointer none, .int .i64 2]) ∧ w' = w := by
  go_enter Tryd.func11, Tryd.ntmps11
  go_wp2_with fail
  go_at_call 36
  refine (isMap_c h _).mono ?_
  rintro e w1 ⟨rfl, hw⟩
  obtain rfl := hw.symm
  go_wp2_with fail
  refine bodyPost_ret (v := .tuple #[.pointer none, .int .i64 2]) (by simp [results, Tryd.results11, go_sem]) rfl ?_
  exact ⟨rfl, rfl⟩
end FreW
end Go.Proofs.YtbnkaeigabifhaaDoor
