/-
  Sectors turned one by one; Give and Keep.
-/
import Derived.Test.YtbnkaeigabifhaaDoorFreeBits
import Derived.Test.YtbnkaeigabifhaaDoorRoundR
import Derived.Deep.RegionHeld3
-- mine: whole_c same_c awake_c take_c step_c back_c Made number_c next_c fixed_c clone_c int_c end_c put_c
namespace Go.Proofs.YtbnkaeigabifhaaDoor
open Go.RowKit
set_option linter.unusedVariables false
set_option linter.unusedSimpArgs false
set_option maxRecDepth 100000
namespace FreW
open BlkP RowG FrS PushG FreP
theorem xor_lit {x m : Nat} (hx : x < 18446744073709551616) (hm : m < 18446744073709551616) : bits .xor .u64 (x : Int) (m : Int) = ((x ^^^ m : Nat) : Int) := by
  have hz : x ^^^ m < 2 ^ 64 := Nat.xor_lt_two_pow (by omega) (by omega)
  have h1 : (BitVec.ofInt 64 (x : Int)).toNat = x := by
    rw [BitVec.ofInt_natCast, BitVec.toNat_ofNat]; exact Nat.mod_eq_of_lt (by omega)
  have h2 : (BitVec.ofInt 64 (m : Int)).toNat = m := by
    rw [BitVec.ofInt_natCast, BitVec.toNat_ofNat]; exact Nat.mod_eq_of_lt (by omega)
  show IntKind.u64.wrap ((BitVec.ofInt 64 (x : Int) ^^^ BitVec.ofInt 64 (m : Int)).toNat : Int) = _
  rw [BitVec.toNat_xor, h1, h2, IntKind.wrap_u64]
  omega
theorem inL_flips {L : List Bool} {l : List Int} {x : Int} (h : inL L x = true) : inL (flips L l) x = true := by
  unfold inL at h ⊢
  rw [flips_len]
  exact h
/-- A word is stored. -/
theorem MapP.set {w : World} {B p g c n : Nat} {L M : List Bool} (h : MapP w B p g c n L) {j v : Nat} (hj : j < nw n) (hw : (words L).set j v = words M) (hl : M.length = L.length) : MapP (w.setCell ⟨g, j, none⟩ (.int .u64 (v : Int))) B p g c n M := by
  have hx : (words L)[j]? = some (wd L j) := words_at (by rw [h.len]; exact hj)
  have hs := h.row.store (i := j) (j := 0) (x := wd L j) (y := v) (u := .int .u64 (v : Int)) hx (by decide) rfl
  have e : j * encU.k + 0 = j := by
    have : encU.k = 1 := rfl
    rw [this]
    omega
  rw [e, hw] at hs
  exact ⟨h.bp.grown hs.2 (fun e => h.ne (by injection e)), hs.1, by rw [hl, h.len], h.lo, h.hi, h.lp⟩
section
variable {w : World} {B p g c n : Nat} {L : List Bool} {S : Nat → Prop}
set_option maxHeartbeats 16000000 in
theorem flip_c (h : MapP w B p g c n L) {A : Option Addr} {m q : Nat} {l : List Int} (hl : Ints w (fun b => b = p ∨ b = g) A m q l) (hin : ∀ x ∈ l, inL L x = true) :
    Calls Tryd.prog 42 #[.pointer (some ⟨p, 0, none⟩), .slice A m q] w fun e w' => e = .returned (.tuple #[]) ∧ MapP w' B p g c n (flips L l) ∧ Fr (fun b => b = g) w w' := by
  have HM := Lib.hid h
  have HI := Lib.hid hl
  have HN := Lib.hid hin
  have HL := Lib.hid hl.len
  have hmax := hl.max
  have hcap := hl.cap
  have hnhi := h.hi
  clear h hl hin
  go_enter Tryd.func42, Tryd.ntmps42
  go_wp2_with fail
  go_loopw [5, 8] (fun v5 v8 wr => ∃ k : Nat, v8 = .int .i64 (k : Int) ∧ k ≤ m ∧ MapP wr B p g c n (flips L (l.take k)) ∧ Fr (fun b => b = g) w wr) (fun v5 v8 _ => m - (RowKit.intOf v8).toNat)
  case atStart => exact ⟨0, rfl, by omega, HM.out, Fr.refl _ _⟩
  case round =>
    obtain ⟨k, rfl, hk, hM, hF⟩ := hrel
    have MP := Lib.hid hM
    have MF := Lib.hid hF
    by_cases hlt : k < m
    · obtain ⟨x, hx⟩ : ∃ x, l[k]? = some x := ⟨_, List.getElem?_eq_getElem (by rw [HL.out]; exact hlt)⟩
      obtain ⟨b, o, hA, hblt, hbn, hcl⟩ := (HI.out.fr2 hF (fun i _ hi => .inr hi)).at_ (by omega)
      have hc0 := hcl k x hx
      have hxi := HN.out x (List.mem_of_getElem? hx)
      have hb := inL_iff.1 hxi
      obtain ⟨i, rfl⟩ := Int.eq_ofNat_of_zero_le hb.1
      have hlen : L.length = n := HM.out.len
      have hi : i < n := by omega
      have HT := Lib.hid (flips_take hx L)
      have hxi2 : inL (flips L (l.take k)) (i : Int) = true := inL_flips hxi
      have c1 := hM.bp.cell (i := 1) (v := .slice (some ⟨g, 0, none⟩) (nw n) c) rfl
      have hpl := hM.bp.lt
      have hgl := hM.gb.2
      have hpg : ¬ p = g := hM.ne
      have hj := nw_lt hi
      have cw := hM.word hj
      have hfz := hM.row.frozen (i / 64)
      have HW := Lib.hid (words_flip hxi2)
      obtain ⟨M, hMM⟩ : ∃ M, M = flips L (l.take k) := ⟨_, rfl⟩
      rw [← hMM] at HT MP cw HW
      rw [show ((i : Nat) : Int).toNat = i from rfl] at HW
      obtain ⟨j, hj2⟩ : ∃ j, j = i / 64 := ⟨_, rfl⟩
      rw [← hj2] at hj cw HW hfz
      have hw : IntKind.i64.wrap ((i : Int) / 64) = (j : Int) := by rw [IntKind.wrap_i64]; omega
      obtain ⟨W, hW⟩ : ∃ W, W = wd M j := ⟨_, rfl⟩
      have hWl : W < 18446744073709551616 := by rw [hW]; exact wd_lt _ _
      rw [← hW] at cw HW
      obtain ⟨P, hP⟩ : ∃ P : Nat, P = 2 ^ (i % 64) := ⟨_, rfl⟩
      have hPl : P < 18446744073709551616 := by rw [hP]; exact pow_lt _
      have HC : Hid (∀ w : World, Calls Tryd.prog 58 #[.int .i64 (i : Int)] w fun e w' => e = .returned (.int .u64 (P : Int)) ∧ w' = w) := Lib.hid (fun w => by rw [hP]; exact bit_c i w)
      rw [← hP] at HW
      obtain ⟨V, hV⟩ : ∃ V : Nat, V = W ^^^ P := ⟨_, rfl⟩
      have HX : Hid (bits .xor .u64 (W : Int) (P : Int) = (V : Int)) := Lib.hid (by rw [hV]; exact xor_lit hWl hPl)
      rw [← hV] at HW
      have HML := Lib.hid (show (flip M (i : Int)).length = M.length from flip_len _ _)
      subst hA
      have HJ := Lib.hid hj
      clear hV hP hW hj2 hMM hxi hxi2 hb hlen hcl hx hM hF hbn
      go_wp2_with fail
      refine wp_region_noPanic ?_
      refine wp_region_held_drew (S := fun Xw => Fr (fun b => b = g) wr Xw) (by kernel_rfl) ((Fr.refl _ wr).drew) (fun hHeld => ?_)
      refine wpAnyH_take (i := 0) (oi := ⟨some 12, _, _, _, _, _⟩) (v := .pointer (some ⟨p, 0, none⟩)) rfl (by kernel_rfl) (by kernel_rfl) (by kernel_rfl) (fun _ _ _ h => h) (Or.inl ⟨by rfl, fun Xw hSW => by go_simp⟩) hHeld ?_
      simp only [Act.put, List.setIfInBounds_toArray, List.set_cons_zero, List.set_cons_succ]
      refine wpAnyH_take (i := 1) (oi := ⟨some 13, _, _, _, _, _⟩) (v := .pointer (some ⟨p, 0, none⟩)) rfl (by kernel_rfl) (by kernel_rfl) (by kernel_rfl) (fun _ _ _ h => h) (Or.inl ⟨by rfl, fun Xw hSW => by go_simp⟩) hHeld ?_
      simp only [Act.put, List.setIfInBounds_toArray, List.set_cons_zero, List.set_cons_succ]
      refine wpAnyH_take (i := 2) (oi := ⟨some 14, _, _, _, _, _⟩) (v := .pointer (some ⟨p, 1, none⟩)) rfl (by kernel_rfl) (by kernel_rfl) (by kernel_rfl) (fun _ _ _ h => h) (Or.inl ⟨by rfl, fun Xw hSW => by go_simp⟩) hHeld ?_
      simp only [Act.put, List.setIfInBounds_toArray, List.set_cons_zero, List.set_cons_succ]
      refine wpAnyH_take (i := 3) (oi := ⟨some 15, _, _, _, _, _⟩) (v := .slice (some ⟨g, 0, none⟩) (nw n) c) rfl (by kernel_rfl) (by kernel_rfl) (by kernel_rfl) (fun _ _ _ h => h) (Or.inl ⟨by rfl, fun Xw hSW => by have a := (hSW.cell (p := ⟨p, 1, none⟩) hpl hpg).trans c1; go_simp⟩) hHeld ?_
      simp only [Act.put, List.setIfInBounds_toArray, List.set_cons_zero, List.set_cons_succ]
      refine wpAnyH_take (i := 4) (oi := ⟨some 16, _, _, _, _, _⟩) (v := .int .i64 (i : Int)) rfl (by kernel_rfl) (by kernel_rfl) (by kernel_rfl) (fun _ _ _ h => h) (Or.inl ⟨by rfl, fun Xw hSW => by go_simp⟩) hHeld ?_
      simp only [Act.put, List.setIfInBounds_toArray, List.set_cons_zero, List.set_cons_succ]
      refine wpAnyH_take (i := 5) (oi := ⟨some 17, _, _, _, _, _⟩) (v := .int .i64 (j : Int)) rfl (by kernel_rfl) (by kernel_rfl) (by kernel_rfl) (fun _ _ _ h => h) (Or.inl ⟨by rfl, fun Xw hSW => by go_simp⟩) hHeld ?_
      simp only [Act.put, List.setIfInBounds_toArray, List.set_cons_zero, List.set_cons_succ]
      refine wpAnyH_take (i := 6) (oi := ⟨some 18, _, _, _, _, _⟩) (v := .pointer (some ⟨g, j, none⟩)) rfl (by kernel_rfl) (by kernel_rfl) (by kernel_rfl) (fun _ _ _ h => h) (Or.inl ⟨by rfl, fun Xw hSW => by go_simp⟩) hHeld ?_
      simp only [Act.put, List.setIfInBounds_toArray, List.set_cons_zero, List.set_cons_succ]
      refine wpAnyH_take (i := 8) (oi := ⟨some 20, _, _, _, _, _⟩) (v := .int .i64 (i : Int)) rfl (by kernel_rfl) (by kernel_rfl) (by kernel_rfl) (fun _ _ _ h => h) (Or.inl ⟨by rfl, fun Xw hSW => by go_simp⟩) hHeld ?_
      simp only [Act.put, List.setIfInBounds_toArray, List.set_cons_zero, List.set_cons_succ]
      refine wpAnyH_ready (rs := [7, 9]) (by kernel_rfl) (by simp) ?_
      refine AllReadyH.cons (o := ⟨some 19, _, _, _, _, _⟩) rfl (fun K hK => ?_) (AllReadyH.cons (o := ⟨some 21, _, _, _, _, _⟩) rfl (fun K hK => ?_) AllReadyH.nil)
      · go_simp
        refine hK.out _ _ (hHeld) (fun hHeld => ?_)
        clear hK K
        refine wpAnyH_ready (rs := [9]) (by kernel_rfl) (by simp) ?_
        refine AllReadyH.cons (o := ⟨some 21, _, _, _, _, _⟩) rfl (fun K hK => ?_) AllReadyH.nil
        go_simp
        refine (HC.out _).mono ?_
        rintro e w1 ⟨rfl, hw1⟩
        obtain rfl := hw1.symm
        go_wp2_with fail
        refine hK.out _ _ (hHeld) (fun hHeld => ?_)
        clear hK K
        refine wpAnyH_take (i := 10) (oi := ⟨some 22, _, _, _, _, _⟩) (v := .int .u64 (V : Int)) rfl (by kernel_rfl) (by kernel_rfl) (by kernel_rfl) (fun _ _ _ h => h) (Or.inl ⟨by rfl, fun Xw hSW => by go_simp <;> exact HX.out⟩) hHeld ?_
        simp only [Act.put, List.setIfInBounds_toArray, List.set_cons_zero, List.set_cons_succ]
        refine wpAnyH_take (i := 11) (oi := ⟨some 23, _, _, _, _, _⟩) (v := .pointer (some ⟨g, j, none⟩)) rfl (by kernel_rfl) (by kernel_rfl) (by kernel_rfl) (fun _ _ _ h => h) (Or.inl ⟨by rfl, fun Xw hSW => by go_simp⟩) hHeld ?_
        simp only [Act.put, List.setIfInBounds_toArray, List.set_cons_zero, List.set_cons_succ]
        refine wpAnyH_ready (rs := [12]) (by kernel_rfl) (by simp) ?_
        refine AllReadyH.cons (o := ⟨none, _, _, _, _, _⟩) rfl (fun K hK => ?_) AllReadyH.nil
        go_simp
        refine hK.out _ _ (hHeld.trans (Fr.set _ _ _ _ rfl) (fun _ q => .inl q.symm)) (fun hHeld => ?_)
        clear hK K
        refine wpAnyH_done (by kernel_rfl) ?_ _
        refine NoPanic.normal ?_
        go_wp2_with fail
        go_roundw
        case rel =>
          refine ⟨k + 1, by go_num, by omega, ?_, ?_⟩
          · rw [HT.out]
            exact MapP.set (MP.out.fr (Fr.below (fun _ => False) (Below.refl _ _).drew) (fun _ _ q => q)) HJ.out HW.out HML.out
          · exact MF.out.trans hHeld (fun _ q => .inl q)
        case measure => simp [RowKit.intOf]; omega
      · go_simp
        refine (HC.out _).mono ?_
        rintro e w1 ⟨rfl, hw1⟩
        obtain rfl := hw1.symm
        go_wp2_with fail
        refine hK.out _ _ (hHeld) (fun hHeld => ?_)
        clear hK K
        refine wpAnyH_ready (rs := [7]) (by kernel_rfl) (by simp) ?_
        refine AllReadyH.cons (o := ⟨some 19, _, _, _, _, _⟩) rfl (fun K hK => ?_) AllReadyH.nil
        go_simp
        refine hK.out _ _ (hHeld) (fun hHeld => ?_)
        clear hK K
        refine wpAnyH_take (i := 10) (oi := ⟨some 22, _, _, _, _, _⟩) (v := .int .u64 (V : Int)) rfl (by kernel_rfl) (by kernel_rfl) (by kernel_rfl) (fun _ _ _ h => h) (Or.inl ⟨by rfl, fun Xw hSW => by go_simp <;> exact HX.out⟩) hHeld ?_
        simp only [Act.put, List.setIfInBounds_toArray, List.set_cons_zero, List.set_cons_succ]
        refine wpAnyH_take (i := 11) (oi := ⟨some 23, _, _, _, _, _⟩) (v := .pointer (some ⟨g, j, none⟩)) rfl (by kernel_rfl) (by kernel_rfl) (by kernel_rfl) (fun _ _ _ h => h) (Or.inl ⟨by rfl, fun Xw hSW => by go_simp⟩) hHeld ?_
        simp only [Act.put, List.setIfInBounds_toArray, List.set_cons_zero, List.set_cons_succ]
        refine wpAnyH_ready (rs := [12]) (by kernel_rfl) (by simp) ?_
        refine AllReadyH.cons (o := ⟨none, _, _, _, _, _⟩) rfl (fun K hK => ?_) AllReadyH.nil
        go_simp
        refine hK.out _ _ (hHeld.trans (Fr.set _ _ _ _ rfl) (fun _ q => .inl q.symm)) (fun hHeld => ?_)
        clear hK K
        refine wpAnyH_done (by kernel_rfl) ?_ _
        refine NoPanic.normal ?_
        go_wp2_with fail
        go_roundw
        case rel =>
          refine ⟨k + 1, by go_num, by omega, ?_, ?_⟩
          · rw [HT.out]
            exact MapP.set (MP.out.fr (Fr.below (fun _ => False) (Below.refl _ _).drew) (fun _ _ q => q)) HJ.out HW.out HML.out
          · exact MF.out.trans hHeld (fun _ q => .inl q)
        case measure => simp [RowKit.intOf]; omega
    · obtain rfl : k = m := by omega
      have HE := Lib.hid (show l.take k = l from List.take_of_length_le (by rw [HL.out]; omega))
      clear hM hF
      go_wp2_with fail
      go_end0
      exact ⟨rfl, by have := MP.out; rwa [HE.out] at this, MF.out⟩

theorem ok_no {so : Bool} {L : List Bool} {x : Int} (h : okL so L x = false) (hin : inL L x = true) : (has L x.toNat != so) = true := by
  unfold okL at h
  rw [hin, Bool.true_and] at h
  revert h
  cases has L x.toNat <;> cases so <;> simp
theorem ok_yes {so : Bool} {L : List Bool} {x : Int} (h : okL so L x = true) : inL L x = true ∧ (has L x.toNat != so) = false := by
  unfold okL at h
  revert h
  cases inL L x <;> cases has L x.toNat <;> cases so <;> simp
theorem fr_map {w w' : World} {B p g c n : Nat} {L : List Bool} (h : MapP w B p g c n L) (hb : Below w.heap.size w w') : MapP w' B p g c n L := h.fr (Fr.below (fun _ => False) hb) (fun _ _ q => q)
set_option maxHeartbeats 600000 in
theorem turntrue_c (h : MapP w B p g c n L) {A : Option Addr} {m q : Nat} {l : List Int} (hl : Ints w (fun b => b = p ∨ b = g) A m q l) :
    Calls Tryd.prog 43 #[.pointer (some ⟨p, 0, none⟩), .slice A m q, .bool true] w fun e w' => e = .returned (.int .i64 (turnE true l L)) ∧ MapP w' B p g c n (turnL true l L) ∧ Fr (fun b => b = g) w w' := by
  have HM := Lib.hid h
  have HI := Lib.hid hl
  have HL := Lib.hid hl.len
  have hmax := hl.max
  have hcap := hl.cap
  clear h hl
  go_enter Tryd.func43, Tryd.ntmps43
  go_wp2_with fail
  go_at_call 40
  refine (isMade_i (S := fun b => b = p ∨ b = g) ⟨g, c, HM.out, fun _ => Iff.rfl⟩).mono ?_
  rintro e w1 ⟨rfl, hw⟩
  obtain rfl := hw.symm
  go_wp2_with fail
  go_loopw [7, 8, 14] (fun v7 v8 v14 wr => ∃ k : Nat, v14 = .int .i64 (k : Int) ∧ k ≤ m ∧ turn true l L = turn true (l.drop k) (flips L (l.take k)) ∧ (∀ y ∈ l.take k, inL L y = true) ∧ MapP wr B p g c n (flips L (l.take k)) ∧ Fr (fun b => b = g) w wr) (fun v7 v8 v14 _ => m - (RowKit.intOf v14).toNat)
  case atStart => exact ⟨0, rfl, by omega, rfl, fun y hy => by simp at hy, HM.out, Fr.refl _ _⟩
  case round =>
    obtain ⟨k, rfl, hk, hT, hR, hM, hF⟩ := hrel
    have MR := Lib.hid hR
    clear hR
    have MP := Lib.hid hM
    have MF := Lib.hid hF
    have MT := Lib.hid hT
    by_cases hlt : k < m
    · obtain ⟨x, hx⟩ : ∃ x, l[k]? = some x := ⟨_, List.getElem?_eq_getElem (by rw [HL.out]; exact hlt)⟩
      have HI2 := Lib.hid (HI.out.fr2 hF (fun i _ hi => .inr hi))
      obtain ⟨b, o, hA, hblt, hbn, hcl⟩ := HI2.out.at_ (by omega)
      have hc0 := hcl k x hx
      have HD := Lib.hid (turn_drop (so := true) hx (flips L (l.take k)))
      have HT := Lib.hid (flips_take hx L)
      obtain ⟨M, hMM⟩ : ∃ M, M = flips L (l.take k) := ⟨_, rfl⟩
      have HMM := Lib.hid hMM
      rw [← hMM] at HD HT MP MT
      subst hA
      have hk1 : k + 1 ≤ q := by omega
      have hkq : k ≤ q := by omega
      have hq0 : ¬ q = 0 := by omega
      have hqk : ¬ q - k = 0 := by omega
      have hqz : (q = 0) = False := by simpa using hq0
      have hqkz : (q - k = 0) = False := by simpa using hqk
      have hadd : ∀ j, (⟨b, o, none⟩ : Addr).add j = ⟨b, o + j, none⟩ := fun j => by unfold Addr.add; split <;> simp_all
      clear hMM hcl hM hF hbn hT
      cases hok : okL true M x
      · have HX : Hid (turn true l L = none) := Lib.hid (by
          have := HD.out
          rw [hok] at this
          rw [MT.out, this]
          rfl)
        have HE : Hid (turnE true l L = 2) := Lib.hid (by unfold turnE; rw [HX.out]; rfl)
        have HLL : Hid (turnL true l L = L) := Lib.hid (by unfold turnL; rw [HX.out]; rfl)
        have HBK : Hid (flips M (l.take k) = L) := Lib.hid (by rw [HMM.out]; exact flips_back _ _)
        cases hin : inL M x
        · have HIN := Lib.hid hin
          clear hin hok
          go_wp2_with fail
          go_at_call 47
          refine (isSector_i (S := fun b => b = p ∨ b = g) ⟨g, c, MP.out, fun _ => Iff.rfl⟩ HIN.out).mono ?_
          rintro e w1 ⟨rfl, hw⟩
          obtain rfl := hw.symm
          go_wp2_with fail
          go_at_call 42
          refine (flip_c MP.out (HI2.out.upto (by omega)) (fun y hy => by
            rw [HMM.out]
            exact inL_flips (MR.out y hy))).mono ?_
          rintro e w3 ⟨rfl, hM3, hF3⟩
          rw [HBK.out] at hM3
          have MP3 := Lib.hid hM3
          have MF3 := Lib.hid (MF.out.trans hF3 (fun _ q => .inl q))
          clear hM3 hF3
          go_wp2_with fail
          go_ret
          exact ⟨by rw [HE.out]; rfl, by rw [HLL.out]; exact MP3.out, MF3.out⟩
        · have HIN := Lib.hid hin
          have HSO : Hid (has M x.toNat = false) := Lib.hid (by simpa using ok_no hok hin)
          clear hin hok
          go_wp2_with fail
          go_at_call 47
          refine (isSector_i (S := fun b => b = p ∨ b = g) ⟨g, c, MP.out, fun _ => Iff.rfl⟩ HIN.out).mono ?_
          rintro e w1 ⟨rfl, hw⟩
          obtain rfl := hw.symm
          go_wp2_with fail
          go_at_call 48
          refine (isFree_i (S := fun b => b = p ∨ b = g) ⟨g, c, MP.out, fun _ => Iff.rfl⟩ HIN.out).mono ?_
          rintro e w2 ⟨rfl, hb2⟩
          have MP2 := Lib.hid (fr_map MP.out hb2)
          have HI3 := Lib.hid (HI2.out.below hb2)
          have MF2 := Lib.hid (MF.out.trans (Fr.below (fun b => b = g) hb2) (fun _ q => .inl q))
          clear MP HI2 MF hb2 hc0 hblt
          rw [HSO.out]
          go_wp2_with fail
          go_at_call 42
          refine (flip_c MP2.out (HI3.out.upto (by omega)) (fun y hy => by
            rw [HMM.out]
            exact inL_flips (MR.out y hy))).mono ?_
          rintro e w3 ⟨rfl, hM3, hF3⟩
          rw [HBK.out] at hM3
          have MP3 := Lib.hid hM3
          have MF3 := Lib.hid (MF2.out.trans hF3 (fun _ q => .inl q))
          clear hM3 hF3
          go_wp2_with fail
          go_ret
          exact ⟨by rw [HE.out]; rfl, by rw [HLL.out]; exact MP3.out, MF3.out⟩
      · have hin := (ok_yes hok).1
        have HSO : Hid (has M x.toNat = true) := Lib.hid (by simpa using (ok_yes hok).2)
        have HIN := Lib.hid hin
        have HD2 : Hid (turn true l L = turn true (l.drop (k + 1)) (flips L (l.take (k + 1)))) := Lib.hid (by
          have := HD.out
          rw [hok, if_pos rfl] at this
          rw [MT.out, this, HT.out])
        clear hin hok
        go_wp2_with fail
        go_at_call 47
        refine (isSector_i (S := fun b => b = p ∨ b = g) ⟨g, c, MP.out, fun _ => Iff.rfl⟩ HIN.out).mono ?_
        rintro e w1 ⟨rfl, hw⟩
        obtain rfl := hw.symm
        go_wp2_with fail
        go_at_call 48
        refine (isFree_i (S := fun b => b = p ∨ b = g) ⟨g, c, MP.out, fun _ => Iff.rfl⟩ HIN.out).mono ?_
        rintro e w2 ⟨rfl, hb2⟩
        have MP2 := Lib.hid (fr_map MP.out hb2)
        have HI3 := Lib.hid (HI2.out.below hb2)
        have MF2 := Lib.hid (MF.out.trans (Fr.below (fun b => b = g) hb2) (fun _ q => .inl q))
        have HI4 : Hid (Ints w2 (fun b => b = p ∨ b = g) (some ⟨b, o + k, none⟩) 1 (q - k) [x]) := Lib.hid (HI3.out.one hlt hx)
        have HR1 : Hid (∀ y ∈ [x], inL M y = true) := Lib.hid (by
          intro y hy
          rw [List.mem_singleton.1 hy]
          exact HIN.out)
        clear MP HI2 MF hb2 hc0 hblt
        rw [HSO.out]
        go_wp2_with fail
        go_at_call 42
        refine (flip_c MP2.out HI4.out HR1.out).mono ?_
        rintro e w3 ⟨rfl, hM3, hF3⟩
        have MP3 := Lib.hid hM3
        have MF3 := Lib.hid (MF2.out.trans hF3 (fun _ q => .inl q))
        clear hM3 hF3
        go_wp2_with fail
        go_roundw
        case rel =>
          refine ⟨k + 1, by go_num, by omega, HD2.out, fun y hy => ?_, ?_, MF3.out⟩
          · rw [List.take_add_one, hx] at hy
            rcases List.mem_append.1 hy with q | q
            · exact MR.out y q
            · have : y = x := by simpa using q
              rw [this]
              have hi := HIN.out
              unfold inL at hi ⊢
              rw [HMM.out, flips_len] at hi
              exact hi
          · rw [HT.out]
            exact MP3.out
        case measure => simp [RowKit.intOf]; omega
    · obtain rfl : k = m := by omega
      have HE : Hid (turn true l L = some (flips L l)) := Lib.hid (by
        rw [MT.out, List.drop_eq_nil_of_le (by rw [HL.out]; omega), List.take_of_length_le (by rw [HL.out]; omega)]
        rfl)
      have HE1 : Hid (turnE true l L = 0) := Lib.hid (by unfold turnE; rw [HE.out]; rfl)
      have HE2 : Hid (turnL true l L = flips L (l.take k)) := Lib.hid (by unfold turnL; rw [HE.out, List.take_of_length_le (by rw [HL.out]; omega)]; rfl)
      clear hM hF hT
      go_wp2_with fail
      go_ret
      exact ⟨by rw [HE1.out]; rfl, by rw [HE2.out]; exact MP.out, MF.out⟩
set_option maxHeartbeats 600000 in
theorem turnfalse_c (h : MapP w B p g c n L) {A : Option Addr} {m q : Nat} {l : List Int} (hl : Ints w (fun b => b = p ∨ b = g) A m q l) :
    Calls Tryd.prog 43 #[.pointer (some ⟨p, 0, none⟩), .slice A m q, .bool false] w fun e w' => e = .returned (.int .i64 (turnE false l L)) ∧ MapP w' B p g c n (turnL false l L) ∧ Fr (fun b => b = g) w w' := by
  have HM := Lib.hid h
  have HI := Lib.hid hl
  have HL := Lib.hid hl.len
  have hmax := hl.max
  have hcap := hl.cap
  clear h hl
  go_enter Tryd.func43, Tryd.ntmps43
  go_wp2_with fail
  go_at_call 40
  refine (isMade_i (S := fun b => b = p ∨ b = g) ⟨g, c, HM.out, fun _ => Iff.rfl⟩).mono ?_
  rintro e w1 ⟨rfl, hw⟩
  obtain rfl := hw.symm
  go_wp2_with fail
  go_loopw [7, 8, 14] (fun v7 v8 v14 wr => ∃ k : Nat, v14 = .int .i64 (k : Int) ∧ k ≤ m ∧ turn false l L = turn false (l.drop k) (flips L (l.take k)) ∧ (∀ y ∈ l.take k, inL L y = true) ∧ MapP wr B p g c n (flips L (l.take k)) ∧ Fr (fun b => b = g) w wr) (fun v7 v8 v14 _ => m - (RowKit.intOf v14).toNat)
  case atStart => exact ⟨0, rfl, by omega, rfl, fun y hy => by simp at hy, HM.out, Fr.refl _ _⟩
  case round =>
    obtain ⟨k, rfl, hk, hT, hR, hM, hF⟩ := hrel
    have MR := Lib.hid hR
    clear hR
    have MP := Lib.hid hM
    have MF := Lib.hid hF
    have MT := Lib.hid hT
    by_cases hlt : k < m
    · obtain ⟨x, hx⟩ : ∃ x, l[k]? = some x := ⟨_, List.getElem?_eq_getElem (by rw [HL.out]; exact hlt)⟩
      have HI2 := Lib.hid (HI.out.fr2 hF (fun i _ hi => .inr hi))
      obtain ⟨b, o, hA, hblt, hbn, hcl⟩ := HI2.out.at_ (by omega)
      have hc0 := hcl k x hx
      have HD := Lib.hid (turn_drop (so := false) hx (flips L (l.take k)))
      have HT := Lib.hid (flips_take hx L)
      obtain ⟨M, hMM⟩ : ∃ M, M = flips L (l.take k) := ⟨_, rfl⟩
      have HMM := Lib.hid hMM
      rw [← hMM] at HD HT MP MT
      subst hA
      have hk1 : k + 1 ≤ q := by omega
      have hkq : k ≤ q := by omega
      have hq0 : ¬ q = 0 := by omega
      have hqk : ¬ q - k = 0 := by omega
      have hqz : (q = 0) = False := by simpa using hq0
      have hqkz : (q - k = 0) = False := by simpa using hqk
      have hadd : ∀ j, (⟨b, o, none⟩ : Addr).add j = ⟨b, o + j, none⟩ := fun j => by unfold Addr.add; split <;> simp_all
      clear hMM hcl hM hF hbn hT
      cases hok : okL false M x
      · have HX : Hid (turn false l L = none) := Lib.hid (by
          have := HD.out
          rw [hok] at this
          rw [MT.out, this]
          rfl)
        have HE : Hid (turnE false l L = 2) := Lib.hid (by unfold turnE; rw [HX.out]; rfl)
        have HLL : Hid (turnL false l L = L) := Lib.hid (by unfold turnL; rw [HX.out]; rfl)
        have HBK : Hid (flips M (l.take k) = L) := Lib.hid (by rw [HMM.out]; exact flips_back _ _)
        cases hin : inL M x
        · have HIN := Lib.hid hin
          clear hin hok
          go_wp2_with fail
          go_at_call 47
          refine (isSector_i (S := fun b => b = p ∨ b = g) ⟨g, c, MP.out, fun _ => Iff.rfl⟩ HIN.out).mono ?_
          rintro e w1 ⟨rfl, hw⟩
          obtain rfl := hw.symm
          go_wp2_with fail
          go_at_call 42
          refine (flip_c MP.out (HI2.out.upto (by omega)) (fun y hy => by
            rw [HMM.out]
            exact inL_flips (MR.out y hy))).mono ?_
          rintro e w3 ⟨rfl, hM3, hF3⟩
          rw [HBK.out] at hM3
          have MP3 := Lib.hid hM3
          have MF3 := Lib.hid (MF.out.trans hF3 (fun _ q => .inl q))
          clear hM3 hF3
          go_wp2_with fail
          go_ret
          exact ⟨by rw [HE.out]; rfl, by rw [HLL.out]; exact MP3.out, MF3.out⟩
        · have HIN := Lib.hid hin
          have HSO : Hid (has M x.toNat = true) := Lib.hid (by simpa using ok_no hok hin)
          clear hin hok
          go_wp2_with fail
          go_at_call 47
          refine (isSector_i (S := fun b => b = p ∨ b = g) ⟨g, c, MP.out, fun _ => Iff.rfl⟩ HIN.out).mono ?_
          rintro e w1 ⟨rfl, hw⟩
          obtain rfl := hw.symm
          go_wp2_with fail
          go_at_call 48
          refine (isFree_i (S := fun b => b = p ∨ b = g) ⟨g, c, MP.out, fun _ => Iff.rfl⟩ HIN.out).mono ?_
          rintro e w2 ⟨rfl, hb2⟩
          have MP2 := Lib.hid (fr_map MP.out hb2)
          have HI3 := Lib.hid (HI2.out.below hb2)
          have MF2 := Lib.hid (MF.out.trans (Fr.below (fun b => b = g) hb2) (fun _ q => .inl q))
          clear MP HI2 MF hb2 hc0 hblt
          rw [HSO.out]
          go_wp2_with fail
          go_at_call 42
          refine (flip_c MP2.out (HI3.out.upto (by omega)) (fun y hy => by
            rw [HMM.out]
            exact inL_flips (MR.out y hy))).mono ?_
          rintro e w3 ⟨rfl, hM3, hF3⟩
          rw [HBK.out] at hM3
          have MP3 := Lib.hid hM3
          have MF3 := Lib.hid (MF2.out.trans hF3 (fun _ q => .inl q))
          clear hM3 hF3
          go_wp2_with fail
          go_ret
          exact ⟨by rw [HE.out]; rfl, by rw [HLL.out]; exact MP3.out, MF3.out⟩
      · have hin := (ok_yes hok).1
        have HSO : Hid (has M x.toNat = false) := Lib.hid (by simpa using (ok_yes hok).2)
        have HIN := Lib.hid hin
        have HD2 : Hid (turn false l L = turn false (l.drop (k + 1)) (flips L (l.take (k + 1)))) := Lib.hid (by
          have := HD.out
          rw [hok, if_pos rfl] at this
          rw [MT.out, this, HT.out])
        clear hin hok
        go_wp2_with fail
        go_at_call 47
        refine (isSector_i (S := fun b => b = p ∨ b = g) ⟨g, c, MP.out, fun _ => Iff.rfl⟩ HIN.out).mono ?_
        rintro e w1 ⟨rfl, hw⟩
        obtain rfl := hw.symm
        go_wp2_with fail
        go_at_call 48
        refine (isFree_i (S := fun b => b = p ∨ b = g) ⟨g, c, MP.out, fun _ => Iff.rfl⟩ HIN.out).mono ?_
        rintro e w2 ⟨rfl, hb2⟩
        have MP2 := Lib.hid (fr_map MP.out hb2)
        have HI3 := Lib.hid (HI2.out.below hb2)
        have MF2 := Lib.hid (MF.out.trans (Fr.below (fun b => b = g) hb2) (fun _ q => .inl q))
        have HI4 : Hid (Ints w2 (fun b => b = p ∨ b = g) (some ⟨b, o + k, none⟩) 1 (q - k) [x]) := Lib.hid (HI3.out.one hlt hx)
        have HR1 : Hid (∀ y ∈ [x], inL M y = true) := Lib.hid (by
          intro y hy
          rw [List.mem_singleton.1 hy]
          exact HIN.out)
        clear MP HI2 MF hb2 hc0 hblt
        rw [HSO.out]
        go_wp2_with fail
        go_at_call 42
        refine (flip_c MP2.out HI4.out HR1.out).mono ?_
        rintro e w3 ⟨rfl, hM3, hF3⟩
        have MP3 := Lib.hid hM3
        have MF3 := Lib.hid (MF2.out.trans hF3 (fun _ q => .inl q))
        clear hM3 hF3
        go_wp2_with fail
        go_roundw
        case rel =>
          refine ⟨k + 1, by go_num, by omega, HD2.out, fun y hy => ?_, ?_, MF3.out⟩
          · rw [List.take_add_one, hx] at hy
            rcases List.mem_append.1 hy with q | q
            · exact MR.out y q
            · have : y = x := by simpa using q
              rw [this]
              have hi := HIN.out
              unfold inL at hi ⊢
              rw [HMM.out, flips_len] at hi
              exact hi
          · rw [HT.out]
            exact MP3.out
        case measure => simp [RowKit.intOf]; omega
    · obtain rfl : k = m := by omega
      have HE : Hid (turn false l L = some (flips L l)) := Lib.hid (by
        rw [MT.out, List.drop_eq_nil_of_le (by rw [HL.out]; omega), List.take_of_length_le (by rw [HL.out]; omega)]
        rfl)
      have HE1 : Hid (turnE false l L = 0) := Lib.hid (by unfold turnE; rw [HE.out]; rfl)
      have HE2 : Hid (turnL false l L = flips L (l.take k)) := Lib.hid (by unfold turnL; rw [HE.out, List.take_of_length_le (by rw [HL.out]; omega)]; rfl)
      clear hM hF hT
      go_wp2_with fail
      go_ret
      exact ⟨by rw [HE1.out]; rfl, by rw [HE2.out]; exact MP.out, MF.out⟩

theorem turned_of {w w' : World} {M : List Bool} (hd : ∀ k, S k ↔ (k = p ∨ k = g)) (h : MapP w' B p g c n M) (hf : Fr (fun b => b = g) w w') : Turned w B p n S M w' :=
  ⟨⟨g, c, h, hd⟩, hf.mono (fun i hi => (hd i).2 (.inr hi))⟩
theorem Give_i (h : Mp w B p n L S) {A : Option Addr} {m q : Nat} {l : List Int} (hl : Ints w S A m q l) :
    Calls Tryd.prog 19 #[.pointer (some ⟨p, 0, none⟩), .slice A m q] w fun e w' => e = .returned (.int .i64 (turnE false l L)) ∧ Turned w B p n S (turnL false l L) w' := by
  obtain ⟨g, c, h1, h2⟩ := h
  have HM := Lib.hid h1
  have HS := Lib.hid h2
  have HI : Hid (Ints w (fun b => b = p ∨ b = g) A m q l) := Lib.hid ⟨hl.len, hl.cap, hl.max, fun z => by
    obtain ⟨b, o, e1, e2, e3, e4⟩ := hl.at_ z
    exact ⟨b, o, e1, e2, fun t => e3 ((h2 b).2 t), e4⟩⟩
  clear h1 h2 hl
  go_enter Tryd.func19, Tryd.ntmps19
  go_wp2_with fail
  go_at_call 43
  refine (turnfalse_c HM.out HI.out).mono ?_
  rintro e w1 ⟨rfl, hM, hF⟩
  have HT := Lib.hid (turned_of HS.out hM hF)
  clear hM hF
  go_wp2_with fail
  go_ret
  exact ⟨rfl, HT.out⟩
theorem Keep_i (h : Mp w B p n L S) {A : Option Addr} {m q : Nat} {l : List Int} (hl : Ints w S A m q l) :
    Calls Tryd.prog 21 #[.pointer (some ⟨p, 0, none⟩), .slice A m q] w fun e w' => e = .returned (.int .i64 (turnE true l L)) ∧ Turned w B p n S (turnL true l L) w' := by
  obtain ⟨g, c, h1, h2⟩ := h
  have HM := Lib.hid h1
  have HS := Lib.hid h2
  have HI : Hid (Ints w (fun b => b = p ∨ b = g) A m q l) := Lib.hid ⟨hl.len, hl.cap, hl.max, fun z => by
    obtain ⟨b, o, e1, e2, e3, e4⟩ := hl.at_ z
    exact ⟨b, o, e1, e2, fun t => e3 ((h2 b).2 t), e4⟩⟩
  clear h1 h2 hl
  go_enter Tryd.func21, Tryd.ntmps21
  go_wp2_with fail
  go_at_call 43
  refine (turntrue_c HM.out HI.out).mono ?_
  rintro e w1 ⟨rfl, hM, hF⟩
  have HT := Lib.hid (turned_of HS.out hM hF)
  clear hM hF
  go_wp2_with fail
  go_ret
  exact ⟨rfl, HT.out⟩
end
end FreW
end Go.Proofs.YtbnkaeigabifhaaDoor
