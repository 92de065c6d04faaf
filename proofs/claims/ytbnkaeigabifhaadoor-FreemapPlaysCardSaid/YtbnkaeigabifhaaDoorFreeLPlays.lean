/-
  FreemapPlays: whatever is done with a map, it answers, and has, what the document says.
-/
import Derived.Test.YtbnkaeigabifhaaDoorFreeLaw2
import Derived.Test.YtbnkaeigabifhaaDoorFreeArg
import Derived.BigQuiet
-- mine: whole_c same_c awake_c take_c step_c back_c Made number_c next_c fixed_c clone_c int_c end_c put_c
namespace Go.Proofs.YtbnkaeigabifhaaDoor
open Go.RowKit
set_option linter.unusedVariables false
set_option linter.unusedSimpArgs false
set_option maxRecDepth 100000
namespace FreW
open BlkP RowG FrS PushG FreP
theorem tyI : RowE.Ty RowG.encI TIs TI 8 := ⟨underIs, ⟨_, infoI, rfl⟩, by decide⟩
def Bx (w : World) (xb : Nat) (vs : List Value) : Prop := Blk w xb 34 vs
theorem Bx.ge {w : World} {xb k : Nat} {vs : List Value} (h : Bx w xb vs) (hk : k = xb) : 0 ≤ k ∧ k < w.heap.size := ⟨Nat.zero_le _, by subst hk; exact Blk.lt h⟩
theorem Bx.fr {w w' : World} {xb : Nat} {vs : List Value} {T : Nat → Prop} (h : Bx w xb vs) (hf : Fr T w w') (hd : ∀ k, k = xb → ¬ T k) : Bx w' xb vs := hf.blk h (hd xb rfl)
theorem Bx.below {w w' : World} {xb : Nat} {vs : List Value} (h : Bx w xb vs) (hb : Below w.heap.size w w') : Bx w' xb vs := Blk.below h hb
theorem Bx.blk {w : World} {xb : Nat} {vs : List Value} (h : Bx w xb vs) : Blk w xb 34 vs := h
theorem rem_bd (x : Int) : -5 < Int.tmod x 5 ∧ Int.tmod x 5 < 5 := by
  constructor
  · have := Int.lt_tmod_of_pos x (b := 5) (by omega)
    omega
  · exact Int.tmod_lt_of_pos x (by omega)
theorem list_named {P : Program} {ops : Array Oper} {rest : List Oper} {Q : Exit → Act → World → Prop} {a : Act} {W : World} (S : World → Prop) (h : S W) (k : ∀ W', S W' → wpList P ops Q rest a W') : wpList P ops Q rest a W := k W h
set_option maxHeartbeats 4000000 in
theorem law_plays {w : World} {n : Int} {A : Option Addr} {m c : Nat} {l : List DoV} (hZ : TabZ w) (hR : Rd encDo w (.slice A m c) l) (hm : l.length = m) (hD : ∀ x ∈ l, x.l.length = x.m ∧ Rd RowG.encI w (.slice x.A x.m x.c) x.l) :
    Calls Tryd.prog 3 #[.int .i64 n, .slice A m c] w fun e w' => e = .returned (.bool true) ∧ Below w.heap.size w w' := by
  have HTZ := Lib.hid hZ
  have HRD := Lib.hid hR
  have HL := Lib.hid hm
  have HD := Lib.hid hD
  have hmb : m ≤ 9223372036854775807 := by have := rd_cap hR; omega
  have B := Lib.hid (Below.refl w.heap.size w)
  clear hZ hR hm hD
  cases hn : isM n
  · have HN := Lib.hid hn
    clear hn
    go_enter Tryd.func3, Tryd.ntmps3
    go_wp2_with fail
    go_at_call 11
    refine (New_no HN.out _).mono ?_
    rintro e x1 ⟨rfl, hw⟩
    obtain rfl := hw.symm
    go_wp2_with fail
    go_at_call 12
    refine (rNew_no HN.out _).mono ?_
    rintro e x2 ⟨rfl, hw⟩
    obtain rfl := hw.symm
    go_wp2_with fail
    go_at_call 13
    refine (Size_c _ _).mono ?_
    rintro e x3 ⟨rfl, hw⟩
    obtain rfl := hw.symm
    go_wp2_with fail
    go_at_call 14
    refine (rSize_c _ _).mono ?_
    rintro e x4 ⟨rfl, hw⟩
    obtain rfl := hw.symm
    go_wp2_with fail
    go_at_call 15
    refine (works_c (HTZ.out.below B.out)).mono ?_
    rintro e x5 ⟨rfl, hb⟩
    have B' := Lib.hid (B.out.trans (hb.mono B.out.size))
    clear hb
    clear B
    have B := B'
    clear B'
    go_wp2_with fail
    go_ret
    exact ⟨rfl, B.out⟩
  · obtain ⟨lo, hi⟩ := isM_iff.1 hn
    clear hn
    obtain ⟨N, rfl⟩ := Int.eq_ofNat_of_zero_le (show 0 ≤ n by omega)
    have hlo : 256 ≤ N := by omega
    have hhi : N ≤ 131072 := by omega
    go_enter Tryd.func3, Tryd.ntmps3
    go_wp2_with fail
    go_at_call 11
    refine (New_i hlo hhi w).mono ?_
    rintro e x1 ⟨p, rfl, S, hq, hb⟩
    have M := Lib.hid (hq.mono (B' := w.heap.size) B.out.size)
    clear hq
    have B' := Lib.hid (B.out.trans (hb.mono B.out.size))
    clear hb
    clear B
    have B := B'
    clear B'
    go_wp2_with fail
    go_at_call 12
    refine (rNew_i hlo hhi _).mono ?_
    rintro e x2 ⟨pr, rfl, S2, hq, hb⟩
    have DMR := Lib.hid (show ∀ k, S k → ¬ S2 k from apart_new (w := x1) (fun k hk => (M.out.ge hk).2) (fun k hk => (hq.ge hk).1))
    have DRM := Lib.hid (show ∀ k, S2 k → ¬ S k from fun k h1 h2 => DMR.out k h2 h1)
    have R := Lib.hid (hq.mono (B' := w.heap.size) B.out.size)
    clear hq
    have M' := Lib.hid (M.out.below hb)
    have B' := Lib.hid (B.out.trans (hb.mono B.out.size))
    clear hb
    clear M B
    have M := M'
    have B := B'
    clear M' B'
    go_wp2_with fail
    go_at_call 13
    refine (Size_c _ _).mono ?_
    rintro e x3 ⟨rfl, hw⟩
    obtain rfl := hw.symm
    go_wp2_with fail
    go_at_call 14
    refine (rSize_c _ _).mono ?_
    rintro e x4 ⟨rfl, hw⟩
    obtain rfl := hw.symm
    go_wp2_with fail
    go_loopw [5, 9, 10] (fun v5 v9 v10 wr => ∃ (i pd : Nat) (L : List Bool) (S S2 : Nat → Prop) (Al : Option Addr) (nl cl : Nat) (lst : List Int), v5 = .pointer (some ⟨pd, 0, none⟩) ∧ v9 = .slice Al nl cl ∧ v10 = .int .i64 (i : Int) ∧ i ≤ m ∧ i ≤ 25 ∧ Mp wr w.heap.size pd N L S ∧ Rm wr w.heap.size pr N L S2 ∧ (∀ k, S k → ¬ S2 k) ∧ RowG.Own RowG.encI TI wr w.heap.size (.slice Al nl cl) lst ∧ lst.length = nl ∧ (∀ g, (Value.slice Al nl cl).ownBlock = some g → ¬ S g) ∧ (∀ g, (Value.slice Al nl cl).ownBlock = some g → ¬ S2 g) ∧ Below w.heap.size w wr) (fun _ _ v10 _ => 25 - (RowKit.intOf v10).toNat)
    case atStart => exact ⟨0, p, full N, S, S2, none, 0, 0, [], rfl, rfl, rfl, Nat.zero_le _, by omega, M.out, R.out, DMR.out, RowG.Own.nil _ _ _ _, rfl, (fun g hg => by cases hg), (fun g hg => by cases hg), B.out⟩
    case round =>
      obtain ⟨i, pd, L, S5, S3, Al, nl, cl, lst, rfl, rfl, rfl, hi1, hi2, hM, hRr, hDD, hV, hvl, hv1, hv2, hbr⟩ := hrel
      clear M R B DMR DRM
      have M := Lib.hid hM
      have R := Lib.hid hRr
      have B := Lib.hid hbr
      have V := Lib.hid hV
      have HVL := Lib.hid hvl
      have DVM := Lib.hid hv1
      have DVR := Lib.hid hv2
      have DMR := Lib.hid hDD
      have DRM := Lib.hid (show ∀ k, S3 k → ¬ S5 k from fun k h1 h2 => hDD k h2 h1)
      have hzB := hbr.size
      clear hM hRr hV hvl hv1 hv2 hDD
      by_cases hlt : i < m ∧ i < 25
      · obtain ⟨hlt1, hlt2⟩ := hlt
        have hiI : (i : Int) < (m : Int) := by omega
        have hiJ : (i : Int) < 25 := by omega
        obtain ⟨⟨xw, xn, Ax, xm, xc, xl⟩, hx⟩ : ∃ x, l[i]? = some x := ⟨_, List.getElem?_eq_getElem (by rw [HL.out]; exact hlt1)⟩
        obtain ⟨bb, o, hbo, hlb, hcs⟩ := (HRD.out.below hbr).at hx
        obtain ⟨hxl, hxr⟩ : xl.length = xm ∧ Rd RowG.encI w (.slice Ax xm xc) xl := HD.out _ (List.mem_of_getElem? hx)
        subst hbo
        have x0 := hcs 0 _ rfl
        have x1 := hcs 1 _ rfl
        have x2 := hcs 2 _ rfl
        rw [show encDo.k = 3 from rfl] at x0 x1 x2
        rw [show o + i * 3 + 0 = o + i * 3 from rfl] at x0
        have hxcap := (rd_cap hxr).2.1
        have hxmb : xm ≤ 9223372036854775807 := by have := rd_cap hxr; omega
        obtain ⟨t, ht⟩ : ∃ t : Nat, t = min xm 300 := ⟨_, rfl⟩
        have hmn : (if 300 < (xm : Int) then (300 : Int) else (xm : Int)) = (t : Int) := by split <;> omega
        have htm : t ≤ xm := by omega
        have htc : t ≤ xc := by omega
        obtain ⟨f, hf0⟩ : ∃ f, f = xl.take t := ⟨_, rfl⟩
        have HFR := Lib.hid (show Rd RowG.encI w (.slice Ax t xc) f by rw [hf0]; exact rd_takeG hxr t (by rw [show xl.length = xm from hxl]; exact htm))
        have HFL := Lib.hid (show f.length = t by rw [hf0, List.length_take, show xl.length = xm from hxl]; omega)
        obtain ⟨xb, hxb⟩ : ∃ xb, wr.heap.size = xb := ⟨_, rfl⟩
        have DXM := Lib.hid (show ∀ k, (fun k => k = xb) k → ¬ S5 k from fun k hk hs => by have h1 : k = xb := hk; have h2 := (M.out.ge hs).2; omega)
        have DXR := Lib.hid (show ∀ k, (fun k => k = xb) k → ¬ S3 k from fun k hk hs => by have h1 : k = xb := hk; have h2 := (R.out.ge hs).2; omega)
        have DMX := Lib.hid (show ∀ k, S5 k → ¬ (fun k => k = xb) k from fun k h1 h2 => DXM.out k h2 h1)
        have DRX := Lib.hid (show ∀ k, S3 k → ¬ (fun k => k = xb) k from fun k h1 h2 => DXR.out k h2 h1)
        clear hcs hx hxl hxr ht hf0 hbr
        go_wp2_with ((with_reducible refine at_slot 73 ?_); refine Classical.byContradiction (fun hG => ?_))
        refine hG ?_
        clear hG
        refine list_named (S := fun W => Below wr.heap.size wr W ∧ Blk W xb 34 [.int .i64 xw, .int .i64 xn, .slice Ax xm xc]) ⟨by (repeat' (first | (with_reducible exact Below.refl _ _) | (with_reducible refine Below.setCell ?_ (by (first | omega | (simp; done) | (simp; omega))) _) | (with_reducible refine Below.alloc ?_ (by (first | omega | (simp; done) | (simp; omega))) _) | (with_reducible refine Below.drew ?_) | (with_reducible refine below_drewN ?_ _))), by rw [← hxb]; (repeat' (first | (with_reducible refine BlkP.Blk.drew ?_) | (with_reducible refine BlkP.Blk.drewN ?_ _) | (with_reducible refine BlkP.Blk.setAt (us := ?_) (by first | omega | (simp; done) | (simp; omega)) rfl ?_ ?_) | (with_reducible refine BlkP.Blk.otherAt ?_ (by first | omega | (simp; done) | (simp; omega))) | (with_reducible refine BlkP.Blk.newA' (by first | omega | (simp; done) | (simp; omega)) rfl) | (with_reducible refine BlkP.Blk.alloc ?_ _) | (exact rfl)))⟩ ?_
        rintro w3 ⟨hb, hk⟩
        try rw [hxb]
        have X := Lib.hid (show Bx w3 xb _ from hk)
        have M' := Lib.hid (M.out.below hb)
        have R' := Lib.hid (R.out.below hb)
        have V' := Lib.hid (V.out.below hb)
        have B' := Lib.hid (B.out.trans (hb.mono B.out.size))
        clear M R V B hb hk x0 x1 x2 hlb hxb hzB
        have M := M'
        have R := R'
        have V := V'
        have B := B'
        clear M' R' V' B'
        refine wp_uptoT underIs infoI rfl (.tmp 68) (.tmp 72) rfl rfl rfl htc ?_
        go_wp2_with ((with_reducible refine at_slot 76 ?_); refine Classical.byContradiction (fun hG => ?_))
        refine hG ?_
        clear hG
        refine RowE.wp_appE tyI rfl (.tmp 74) (.tmp 75) rfl (B := w3.heap.size) (l0 := []) rfl rfl (RowG.Own.nil _ _ _ _) (HFR.out.below B.out) (by simp; omega) (by simp; omega) (Nat.le_refl _) ?_
        intro v4 w4 ho hg _
        obtain ⟨Ao, co, rfl, hco, hmo, _⟩ := ho.form (n := t) (by rw [List.nil_append, HFL.out])
        have hb : Below w3.heap.size w3 w4 := (Below.refl _ w3).grown hg (Nat.le_refl _) (fun k hk => by cases hk)
        have DOM := Lib.hid (row_made ho (fun k hk => (M.out.ge hk).2))
        have DOR := Lib.hid (row_made ho (fun k hk => (R.out.ge hk).2))
        have O := Lib.hid (show RowG.Own RowG.encI TI w4 w.heap.size (.slice Ao t co) f from ho.mono B.out.size)
        have M' := Lib.hid (M.out.below hb)
        have R' := Lib.hid (R.out.below hb)
        have V' := Lib.hid (V.out.below hb)
        have X' := Lib.hid (X.out.below hb)
        have B' := Lib.hid (B.out.trans (hb.mono B.out.size))
        clear M R V B X hb ho hg
        have M := M'
        have R := R'
        have V := V'
        have X := X'
        have B := B'
        clear M' R' V' B' X'
        obtain ⟨r, hr⟩ : ∃ r, Int.tmod xw 5 = r := ⟨_, rfl⟩
        have hr5 := rem_bd xw
        rw [hr] at hr5
        obtain ⟨hr6, hr7⟩ := hr5
        have k0 := X.out.blk.cell (i := 0) rfl
        have kl := X.out.blk.lt
        by_cases hq0 : r = 0
        · subst hq0
          clear V DVM DVR
          clear HVL
          have k1 := X.out.blk.cell (i := 1) rfl
          have kl := X.out.blk.lt
          go_wp2_with fail
          clear k1 kl
          go_at_call 16
          refine (Take_i M.out (HTZ.out.below B.out) xn).mono ?_
          rintro e x1 ⟨_, rfl, ho, hq, hf⟩
          obtain ⟨Aa, ca, rfl, hca, hma, _⟩ := ho.form (n := (takeO L xn).length) rfl
          have DV2M := Lib.hid (row_made ho (fun k hk => (M.out.ge hk).2))
          have DV2R := Lib.hid (row_made ho (fun k hk => (R.out.ge hk).2))
          have DV2X := Lib.hid (row_made ho (fun k hk => (X.out.ge hk).2))
          have V2 := Lib.hid (ho.mono B.out.size)
          have R' := Lib.hid (R.out.fr hf DRM.out)
          have X' := Lib.hid (X.out.fr hf DXM.out)
          have O' := Lib.hid (hf.own O.out DOM.out)
          have B' := Lib.hid (B.out.trans (M.out.toBelow hf))
          have M' := Lib.hid hq
          clear ho hq hf
          clear R X O B M
          have R := R'
          have X := X'
          have O := O'
          have B := B'
          have M := M'
          clear R' X' O' B' M'
          obtain ⟨ct, hct⟩ : ∃ ct, ct = canT L xn := ⟨_, rfl⟩
          rw [← hct]
          have k1 := X.out.blk.cell (i := 1) rfl
          have kl := X.out.blk.lt
          go_wp2_with fail
          clear k1 kl
          go_at_call 17
          refine (rTake_i R.out xn).mono ?_
          rintro e x2 ⟨_, rfl, ho, S4, hq, hf, hn⟩
          obtain ⟨Ab, cb, rfl, hcb, hmb, _⟩ := ho.form (n := (takeO L xn).length) rfl
          have DV3M := Lib.hid (row_made ho (fun k hk => (M.out.ge hk).2))
          have DV3X := Lib.hid (row_made ho (fun k hk => (X.out.ge hk).2))
          have V3 := Lib.hid (ho.mono B.out.size)
          have M' := Lib.hid (M.out.fr hf DMR.out)
          have X' := Lib.hid (X.out.fr hf DXR.out)
          have O' := Lib.hid (hf.own O.out DOR.out)
          have V2' := Lib.hid (hf.own V2.out DV2R.out)
          have B' := Lib.hid (B.out.trans (R.out.toBelow hf))
          have DMR' := Lib.hid (apart_turned (fun k hk => (M.out.ge hk).2) DMR.out hn)
          have DRM' := Lib.hid (show ∀ k, S4 k → ¬ S5 k from fun k h1 h2 => DMR'.out k h2 h1)
          have DXR' := Lib.hid (apart_turned (fun k hk => (X.out.ge hk).2) DXR.out hn)
          have DRX' := Lib.hid (show ∀ k, S4 k → ¬ (fun k => k = xb) k from fun k h1 h2 => DXR'.out k h2 h1)
          have DOR' := Lib.hid (apart_row O.out DOR.out hn)
          have DV2R' := Lib.hid (apart_row V2.out DV2R.out hn)
          have R' := Lib.hid hq
          clear ho hq hf hn
          clear M X O V2 B DMR DRM DXR DRX DOR DV2R R
          have M := M'
          have X := X'
          have O := O'
          have V2 := V2'
          have B := B'
          have DMR := DMR'
          have DRM := DRM'
          have DXR := DXR'
          have DRX := DRX'
          have DOR := DOR'
          have DV2R := DV2R'
          have R := R'
          clear M' X' O' V2' B' DMR' DRM' DXR' DRX' DOR' DV2R' R'
          rw [← hct]
          clear hct
          go_wp2_with fail
          go_at_call 18
          refine (SameInts_c V2.out.rd V3.out.rd rfl rfl (decide_eq_true rfl)).mono ?_
          rintro e x3 ⟨rfl, hb⟩
          have M' := Lib.hid (M.out.below hb)
          have R' := Lib.hid (R.out.below hb)
          have X' := Lib.hid (X.out.below hb)
          have O' := Lib.hid (O.out.below hb)
          have V2' := Lib.hid (V2.out.below hb)
          have V3' := Lib.hid (V3.out.below hb)
          have B' := Lib.hid (B.out.trans (hb.mono B.out.size))
          clear hb
          clear M R X O V2 V3 B
          have M := M'
          have R := R'
          have X := X'
          have O := O'
          have V2 := V2'
          have V3 := V3'
          have B := B'
          clear M' R' X' O' V2' V3' B'
          clear V3
          obtain ⟨hv, hhv⟩ : ∃ hv, (inL (takeL L xn) xn && has (takeL L xn) xn.toNat) = hv := ⟨_, rfl⟩
          have A1 := Lib.hid (fun q => Len_i (M.out.below (bel_drewN (Below.refl _ x3) q)))
          have A2 := Lib.hid (fun q => Free_i (M.out.below (bel_drewN (Below.refl _ x3) q)))
          have A3 := Lib.hid (fun q => rFree_i (R.out.below (bel_drewN (Below.refl _ x3) q)))
          have A4 := Lib.hid (fun q => Has_q (M.out.below (bel_drewN (Below.refl _ x3) q)) xn)
          have A5 := Lib.hid (fun q => rHas_i (R.out.below (bel_drewN (Below.refl _ x3) q)) xn)
          have A6 := Lib.hid (fun q => SameInts_q (O.out.below (bel_drewN (Below.refl _ x3) q)).rd ((HFR.out.below B.out).below (bel_drewN (Below.refl _ x3) q)) HFL.out HFL.out (decide_eq_true rfl))
          rw [hhv] at A4 A5
          clear hhv
          have fb : free (takeL L xn) ≤ 9223372036854775807 := by
            have h1 := free_le (takeL L xn)
            have h2 := M.out.len
            omega
          obtain ⟨fr, hfr⟩ : ∃ fr, fr = free (takeL L xn) := ⟨_, rfl⟩
          rw [← hfr] at A2 A3 fb
          clear hfr
          cases hv
          · have k1 := X.out.blk.cell (i := 1) rfl
            have kl := X.out.blk.lt
            go_wp2_with fail
            go_quiet ((first | (go_at_call 24; with_reducible exact Calls.quiet_of_same (A1.out _)) | (go_at_call 25; with_reducible exact Calls.quiet_of_same (A2.out _)) | (go_at_call 26; with_reducible exact Calls.quiet_of_same (A3.out _)) | (go_at_call 27; with_reducible exact Calls.quiet_of (A4.out _)) | (go_at_call 28; with_reducible exact Calls.quiet_of_same (A5.out _)) | (go_at_call 18; with_reducible exact Calls.quiet_of (A6.out _))))
            clear k1 kl
            go_wp2_with fail
            go_roundw
            case rel => exact ⟨i + 1, pd, _, S5, S4, Aa, _, ca, _, rfl, rfl, by first | rfl | go_num | (congr 1; omega), by omega, by omega, M.out.below (bel_drewN (Below.refl _ x3) _), R.out.below (bel_drewN (Below.refl _ x3) _), DMR.out, V2.out.below (bel_drewN (Below.refl _ x3) _), rfl, DV2M.out, DV2R.out, bel_drewN B.out _⟩
            case measure => first | (simp [RowKit.intOf]; done) | (simp [RowKit.intOf]; omega)
          · have k1 := X.out.blk.cell (i := 1) rfl
            have kl := X.out.blk.lt
            go_wp2_with fail
            go_quiet ((first | (go_at_call 24; with_reducible exact Calls.quiet_of_same (A1.out _)) | (go_at_call 25; with_reducible exact Calls.quiet_of_same (A2.out _)) | (go_at_call 26; with_reducible exact Calls.quiet_of_same (A3.out _)) | (go_at_call 27; with_reducible exact Calls.quiet_of (A4.out _)) | (go_at_call 28; with_reducible exact Calls.quiet_of_same (A5.out _)) | (go_at_call 18; with_reducible exact Calls.quiet_of (A6.out _))))
            clear k1 kl
            go_wp2_with fail
            go_roundw
            case rel => exact ⟨i + 1, pd, _, S5, S4, Aa, _, ca, _, rfl, rfl, by first | rfl | go_num | (congr 1; omega), by omega, by omega, M.out.below (bel_drewN (Below.refl _ x3) _), R.out.below (bel_drewN (Below.refl _ x3) _), DMR.out, V2.out.below (bel_drewN (Below.refl _ x3) _), rfl, DV2M.out, DV2R.out, bel_drewN B.out _⟩
            case measure => first | (simp [RowKit.intOf]; done) | (simp [RowKit.intOf]; omega)
        by_cases hq1 : r = 1
        · subst hq1
          go_wp2_with fail
          go_at_call 19
          refine (Give_i M.out (Ints.own O.out HFL.out DOM.out)).mono ?_
          rintro e x1 ⟨rfl, hq, hf⟩
          have R' := Lib.hid (R.out.fr hf DRM.out)
          have X' := Lib.hid (X.out.fr hf DXM.out)
          have V' := Lib.hid (hf.own V.out DVM.out)
          have O' := Lib.hid (hf.own O.out DOM.out)
          have B' := Lib.hid (B.out.trans (M.out.toBelow hf))
          have M' := Lib.hid hq
          clear hq hf
          clear R X V O B M
          have R := R'
          have X := X'
          have V := V'
          have O := O'
          have B := B'
          have M := M'
          clear R' X' V' O' B' M'
          go_wp2_with fail
          go_at_call 20
          refine (rGive_i R.out (Ints.arg (S := fun _ => False) HFR.out HFL.out B.out (fun _ h => h.elim))).mono ?_
          rintro e x2 ⟨rfl, S4, hq, hf, hn⟩
          have M' := Lib.hid (M.out.fr hf DMR.out)
          have X' := Lib.hid (X.out.fr hf DXR.out)
          have V' := Lib.hid (hf.own V.out DVR.out)
          have O' := Lib.hid (hf.own O.out DOR.out)
          have B' := Lib.hid (B.out.trans (R.out.toBelow hf))
          have DMR' := Lib.hid (apart_turned (fun k hk => (M.out.ge hk).2) DMR.out hn)
          have DRM' := Lib.hid (show ∀ k, S4 k → ¬ S5 k from fun k h1 h2 => DMR'.out k h2 h1)
          have DXR' := Lib.hid (apart_turned (fun k hk => (X.out.ge hk).2) DXR.out hn)
          have DRX' := Lib.hid (show ∀ k, S4 k → ¬ (fun k => k = xb) k from fun k h1 h2 => DXR'.out k h2 h1)
          have DVR' := Lib.hid (apart_row V.out DVR.out hn)
          have DOR' := Lib.hid (apart_row O.out DOR.out hn)
          have R' := Lib.hid hq
          clear hq hf hn
          clear M X V O B DMR DRM DXR DRX DVR DOR R
          have M := M'
          have X := X'
          have V := V'
          have O := O'
          have B := B'
          have DMR := DMR'
          have DRM := DRM'
          have DXR := DXR'
          have DRX := DRX'
          have DVR := DVR'
          have DOR := DOR'
          have R := R'
          clear M' X' V' O' B' DMR' DRM' DXR' DRX' DVR' DOR' R'
          obtain ⟨hv, hhv⟩ : ∃ hv, (inL (turnL false f L) xn && has (turnL false f L) xn.toNat) = hv := ⟨_, rfl⟩
          have A1 := Lib.hid (fun q => Len_i (M.out.below (bel_drewN (Below.refl _ x2) q)))
          have A2 := Lib.hid (fun q => Free_i (M.out.below (bel_drewN (Below.refl _ x2) q)))
          have A3 := Lib.hid (fun q => rFree_i (R.out.below (bel_drewN (Below.refl _ x2) q)))
          have A4 := Lib.hid (fun q => Has_q (M.out.below (bel_drewN (Below.refl _ x2) q)) xn)
          have A5 := Lib.hid (fun q => rHas_i (R.out.below (bel_drewN (Below.refl _ x2) q)) xn)
          have A6 := Lib.hid (fun q => SameInts_q (O.out.below (bel_drewN (Below.refl _ x2) q)).rd ((HFR.out.below B.out).below (bel_drewN (Below.refl _ x2) q)) HFL.out HFL.out (decide_eq_true rfl))
          rw [hhv] at A4 A5
          clear hhv
          have fb : free (turnL false f L) ≤ 9223372036854775807 := by
            have h1 := free_le (turnL false f L)
            have h2 := M.out.len
            omega
          obtain ⟨fr, hfr⟩ : ∃ fr, fr = free (turnL false f L) := ⟨_, rfl⟩
          rw [← hfr] at A2 A3 fb
          clear hfr
          cases hv
          · have k1 := X.out.blk.cell (i := 1) rfl
            have kl := X.out.blk.lt
            go_wp2_with fail
            go_quiet ((first | (go_at_call 24; with_reducible exact Calls.quiet_of_same (A1.out _)) | (go_at_call 25; with_reducible exact Calls.quiet_of_same (A2.out _)) | (go_at_call 26; with_reducible exact Calls.quiet_of_same (A3.out _)) | (go_at_call 27; with_reducible exact Calls.quiet_of (A4.out _)) | (go_at_call 28; with_reducible exact Calls.quiet_of_same (A5.out _)) | (go_at_call 18; with_reducible exact Calls.quiet_of (A6.out _))))
            clear k1 kl
            go_wp2_with fail
            go_roundw
            case rel => exact ⟨i + 1, pd, _, S5, S4, Al, nl, cl, lst, rfl, rfl, by first | rfl | go_num | (congr 1; omega), by omega, by omega, M.out.below (bel_drewN (Below.refl _ x2) _), R.out.below (bel_drewN (Below.refl _ x2) _), DMR.out, V.out.below (bel_drewN (Below.refl _ x2) _), HVL.out, DVM.out, DVR.out, bel_drewN B.out _⟩
            case measure => first | (simp [RowKit.intOf]; done) | (simp [RowKit.intOf]; omega)
          · have k1 := X.out.blk.cell (i := 1) rfl
            have kl := X.out.blk.lt
            go_wp2_with fail
            go_quiet ((first | (go_at_call 24; with_reducible exact Calls.quiet_of_same (A1.out _)) | (go_at_call 25; with_reducible exact Calls.quiet_of_same (A2.out _)) | (go_at_call 26; with_reducible exact Calls.quiet_of_same (A3.out _)) | (go_at_call 27; with_reducible exact Calls.quiet_of (A4.out _)) | (go_at_call 28; with_reducible exact Calls.quiet_of_same (A5.out _)) | (go_at_call 18; with_reducible exact Calls.quiet_of (A6.out _))))
            clear k1 kl
            go_wp2_with fail
            go_roundw
            case rel => exact ⟨i + 1, pd, _, S5, S4, Al, nl, cl, lst, rfl, rfl, by first | rfl | go_num | (congr 1; omega), by omega, by omega, M.out.below (bel_drewN (Below.refl _ x2) _), R.out.below (bel_drewN (Below.refl _ x2) _), DMR.out, V.out.below (bel_drewN (Below.refl _ x2) _), HVL.out, DVM.out, DVR.out, bel_drewN B.out _⟩
            case measure => first | (simp [RowKit.intOf]; done) | (simp [RowKit.intOf]; omega)
        by_cases hq2 : r = 2
        · subst hq2
          go_wp2_with fail
          go_at_call 21
          refine (Keep_i M.out (Ints.own O.out HFL.out DOM.out)).mono ?_
          rintro e x1 ⟨rfl, hq, hf⟩
          have R' := Lib.hid (R.out.fr hf DRM.out)
          have X' := Lib.hid (X.out.fr hf DXM.out)
          have V' := Lib.hid (hf.own V.out DVM.out)
          have O' := Lib.hid (hf.own O.out DOM.out)
          have B' := Lib.hid (B.out.trans (M.out.toBelow hf))
          have M' := Lib.hid hq
          clear hq hf
          clear R X V O B M
          have R := R'
          have X := X'
          have V := V'
          have O := O'
          have B := B'
          have M := M'
          clear R' X' V' O' B' M'
          go_wp2_with fail
          go_at_call 22
          refine (rKeep_i R.out (Ints.arg (S := fun _ => False) HFR.out HFL.out B.out (fun _ h => h.elim))).mono ?_
          rintro e x2 ⟨rfl, S4, hq, hf, hn⟩
          have M' := Lib.hid (M.out.fr hf DMR.out)
          have X' := Lib.hid (X.out.fr hf DXR.out)
          have V' := Lib.hid (hf.own V.out DVR.out)
          have O' := Lib.hid (hf.own O.out DOR.out)
          have B' := Lib.hid (B.out.trans (R.out.toBelow hf))
          have DMR' := Lib.hid (apart_turned (fun k hk => (M.out.ge hk).2) DMR.out hn)
          have DRM' := Lib.hid (show ∀ k, S4 k → ¬ S5 k from fun k h1 h2 => DMR'.out k h2 h1)
          have DXR' := Lib.hid (apart_turned (fun k hk => (X.out.ge hk).2) DXR.out hn)
          have DRX' := Lib.hid (show ∀ k, S4 k → ¬ (fun k => k = xb) k from fun k h1 h2 => DXR'.out k h2 h1)
          have DVR' := Lib.hid (apart_row V.out DVR.out hn)
          have DOR' := Lib.hid (apart_row O.out DOR.out hn)
          have R' := Lib.hid hq
          clear hq hf hn
          clear M X V O B DMR DRM DXR DRX DVR DOR R
          have M := M'
          have X := X'
          have V := V'
          have O := O'
          have B := B'
          have DMR := DMR'
          have DRM := DRM'
          have DXR := DXR'
          have DRX := DRX'
          have DVR := DVR'
          have DOR := DOR'
          have R := R'
          clear M' X' V' O' B' DMR' DRM' DXR' DRX' DVR' DOR' R'
          obtain ⟨hv, hhv⟩ : ∃ hv, (inL (turnL true f L) xn && has (turnL true f L) xn.toNat) = hv := ⟨_, rfl⟩
          have A1 := Lib.hid (fun q => Len_i (M.out.below (bel_drewN (Below.refl _ x2) q)))
          have A2 := Lib.hid (fun q => Free_i (M.out.below (bel_drewN (Below.refl _ x2) q)))
          have A3 := Lib.hid (fun q => rFree_i (R.out.below (bel_drewN (Below.refl _ x2) q)))
          have A4 := Lib.hid (fun q => Has_q (M.out.below (bel_drewN (Below.refl _ x2) q)) xn)
          have A5 := Lib.hid (fun q => rHas_i (R.out.below (bel_drewN (Below.refl _ x2) q)) xn)
          have A6 := Lib.hid (fun q => SameInts_q (O.out.below (bel_drewN (Below.refl _ x2) q)).rd ((HFR.out.below B.out).below (bel_drewN (Below.refl _ x2) q)) HFL.out HFL.out (decide_eq_true rfl))
          rw [hhv] at A4 A5
          clear hhv
          have fb : free (turnL true f L) ≤ 9223372036854775807 := by
            have h1 := free_le (turnL true f L)
            have h2 := M.out.len
            omega
          obtain ⟨fr, hfr⟩ : ∃ fr, fr = free (turnL true f L) := ⟨_, rfl⟩
          rw [← hfr] at A2 A3 fb
          clear hfr
          cases hv
          · have k1 := X.out.blk.cell (i := 1) rfl
            have kl := X.out.blk.lt
            go_wp2_with fail
            go_quiet ((first | (go_at_call 24; with_reducible exact Calls.quiet_of_same (A1.out _)) | (go_at_call 25; with_reducible exact Calls.quiet_of_same (A2.out _)) | (go_at_call 26; with_reducible exact Calls.quiet_of_same (A3.out _)) | (go_at_call 27; with_reducible exact Calls.quiet_of (A4.out _)) | (go_at_call 28; with_reducible exact Calls.quiet_of_same (A5.out _)) | (go_at_call 18; with_reducible exact Calls.quiet_of (A6.out _))))
            clear k1 kl
            go_wp2_with fail
            go_roundw
            case rel => exact ⟨i + 1, pd, _, S5, S4, Al, nl, cl, lst, rfl, rfl, by first | rfl | go_num | (congr 1; omega), by omega, by omega, M.out.below (bel_drewN (Below.refl _ x2) _), R.out.below (bel_drewN (Below.refl _ x2) _), DMR.out, V.out.below (bel_drewN (Below.refl _ x2) _), HVL.out, DVM.out, DVR.out, bel_drewN B.out _⟩
            case measure => first | (simp [RowKit.intOf]; done) | (simp [RowKit.intOf]; omega)
          · have k1 := X.out.blk.cell (i := 1) rfl
            have kl := X.out.blk.lt
            go_wp2_with fail
            go_quiet ((first | (go_at_call 24; with_reducible exact Calls.quiet_of_same (A1.out _)) | (go_at_call 25; with_reducible exact Calls.quiet_of_same (A2.out _)) | (go_at_call 26; with_reducible exact Calls.quiet_of_same (A3.out _)) | (go_at_call 27; with_reducible exact Calls.quiet_of (A4.out _)) | (go_at_call 28; with_reducible exact Calls.quiet_of_same (A5.out _)) | (go_at_call 18; with_reducible exact Calls.quiet_of (A6.out _))))
            clear k1 kl
            go_wp2_with fail
            go_roundw
            case rel => exact ⟨i + 1, pd, _, S5, S4, Al, nl, cl, lst, rfl, rfl, by first | rfl | go_num | (congr 1; omega), by omega, by omega, M.out.below (bel_drewN (Below.refl _ x2) _), R.out.below (bel_drewN (Below.refl _ x2) _), DMR.out, V.out.below (bel_drewN (Below.refl _ x2) _), HVL.out, DVM.out, DVR.out, bel_drewN B.out _⟩
            case measure => first | (simp [RowKit.intOf]; done) | (simp [RowKit.intOf]; omega)
        by_cases hq3 : r = 3
        · subst hq3
          go_wp2_with fail
          go_at_call 19
          refine (Give_i M.out (Ints.own V.out HVL.out DVM.out)).mono ?_
          rintro e x1 ⟨rfl, hq, hf⟩
          have R' := Lib.hid (R.out.fr hf DRM.out)
          have X' := Lib.hid (X.out.fr hf DXM.out)
          have V' := Lib.hid (hf.own V.out DVM.out)
          have O' := Lib.hid (hf.own O.out DOM.out)
          have B' := Lib.hid (B.out.trans (M.out.toBelow hf))
          have M' := Lib.hid hq
          clear hq hf
          clear R X V O B M
          have R := R'
          have X := X'
          have V := V'
          have O := O'
          have B := B'
          have M := M'
          clear R' X' V' O' B' M'
          go_wp2_with fail
          go_at_call 20
          refine (rGive_i R.out (Ints.own (S := fun _ => False) V.out HVL.out (fun _ _ h => h))).mono ?_
          rintro e x2 ⟨rfl, S4, hq, hf, hn⟩
          have M' := Lib.hid (M.out.fr hf DMR.out)
          have X' := Lib.hid (X.out.fr hf DXR.out)
          have V' := Lib.hid (hf.own V.out DVR.out)
          have O' := Lib.hid (hf.own O.out DOR.out)
          have B' := Lib.hid (B.out.trans (R.out.toBelow hf))
          have DMR' := Lib.hid (apart_turned (fun k hk => (M.out.ge hk).2) DMR.out hn)
          have DRM' := Lib.hid (show ∀ k, S4 k → ¬ S5 k from fun k h1 h2 => DMR'.out k h2 h1)
          have DXR' := Lib.hid (apart_turned (fun k hk => (X.out.ge hk).2) DXR.out hn)
          have DRX' := Lib.hid (show ∀ k, S4 k → ¬ (fun k => k = xb) k from fun k h1 h2 => DXR'.out k h2 h1)
          have DVR' := Lib.hid (apart_row V.out DVR.out hn)
          have DOR' := Lib.hid (apart_row O.out DOR.out hn)
          have R' := Lib.hid hq
          clear hq hf hn
          clear M X V O B DMR DRM DXR DRX DVR DOR R
          have M := M'
          have X := X'
          have V := V'
          have O := O'
          have B := B'
          have DMR := DMR'
          have DRM := DRM'
          have DXR := DXR'
          have DRX := DRX'
          have DVR := DVR'
          have DOR := DOR'
          have R := R'
          clear M' X' V' O' B' DMR' DRM' DXR' DRX' DVR' DOR' R'
          obtain ⟨hv, hhv⟩ : ∃ hv, (inL (turnL false lst L) xn && has (turnL false lst L) xn.toNat) = hv := ⟨_, rfl⟩
          have A1 := Lib.hid (fun q => Len_i (M.out.below (bel_drewN (Below.refl _ x2) q)))
          have A2 := Lib.hid (fun q => Free_i (M.out.below (bel_drewN (Below.refl _ x2) q)))
          have A3 := Lib.hid (fun q => rFree_i (R.out.below (bel_drewN (Below.refl _ x2) q)))
          have A4 := Lib.hid (fun q => Has_q (M.out.below (bel_drewN (Below.refl _ x2) q)) xn)
          have A5 := Lib.hid (fun q => rHas_i (R.out.below (bel_drewN (Below.refl _ x2) q)) xn)
          have A6 := Lib.hid (fun q => SameInts_q (O.out.below (bel_drewN (Below.refl _ x2) q)).rd ((HFR.out.below B.out).below (bel_drewN (Below.refl _ x2) q)) HFL.out HFL.out (decide_eq_true rfl))
          rw [hhv] at A4 A5
          clear hhv
          have fb : free (turnL false lst L) ≤ 9223372036854775807 := by
            have h1 := free_le (turnL false lst L)
            have h2 := M.out.len
            omega
          obtain ⟨fr, hfr⟩ : ∃ fr, fr = free (turnL false lst L) := ⟨_, rfl⟩
          rw [← hfr] at A2 A3 fb
          clear hfr
          cases hv
          · have k1 := X.out.blk.cell (i := 1) rfl
            have kl := X.out.blk.lt
            go_wp2_with fail
            go_quiet ((first | (go_at_call 24; with_reducible exact Calls.quiet_of_same (A1.out _)) | (go_at_call 25; with_reducible exact Calls.quiet_of_same (A2.out _)) | (go_at_call 26; with_reducible exact Calls.quiet_of_same (A3.out _)) | (go_at_call 27; with_reducible exact Calls.quiet_of (A4.out _)) | (go_at_call 28; with_reducible exact Calls.quiet_of_same (A5.out _)) | (go_at_call 18; with_reducible exact Calls.quiet_of (A6.out _))))
            clear k1 kl
            go_wp2_with fail
            go_roundw
            case rel => exact ⟨i + 1, pd, _, S5, S4, Al, nl, cl, lst, rfl, rfl, by first | rfl | go_num | (congr 1; omega), by omega, by omega, M.out.below (bel_drewN (Below.refl _ x2) _), R.out.below (bel_drewN (Below.refl _ x2) _), DMR.out, V.out.below (bel_drewN (Below.refl _ x2) _), HVL.out, DVM.out, DVR.out, bel_drewN B.out _⟩
            case measure => first | (simp [RowKit.intOf]; done) | (simp [RowKit.intOf]; omega)
          · have k1 := X.out.blk.cell (i := 1) rfl
            have kl := X.out.blk.lt
            go_wp2_with fail
            go_quiet ((first | (go_at_call 24; with_reducible exact Calls.quiet_of_same (A1.out _)) | (go_at_call 25; with_reducible exact Calls.quiet_of_same (A2.out _)) | (go_at_call 26; with_reducible exact Calls.quiet_of_same (A3.out _)) | (go_at_call 27; with_reducible exact Calls.quiet_of (A4.out _)) | (go_at_call 28; with_reducible exact Calls.quiet_of_same (A5.out _)) | (go_at_call 18; with_reducible exact Calls.quiet_of (A6.out _))))
            clear k1 kl
            go_wp2_with fail
            go_roundw
            case rel => exact ⟨i + 1, pd, _, S5, S4, Al, nl, cl, lst, rfl, rfl, by first | rfl | go_num | (congr 1; omega), by omega, by omega, M.out.below (bel_drewN (Below.refl _ x2) _), R.out.below (bel_drewN (Below.refl _ x2) _), DMR.out, V.out.below (bel_drewN (Below.refl _ x2) _), HVL.out, DVM.out, DVR.out, bel_drewN B.out _⟩
            case measure => first | (simp [RowKit.intOf]; done) | (simp [RowKit.intOf]; omega)
        go_wp2_with fail
        go_at_call 23
        refine (Copy_i M.out).mono ?_
        rintro e x1 ⟨pq, rfl, S6, hq, hb⟩
        have DMQ := Lib.hid (show ∀ k, S5 k → ¬ S6 k from apart_new (w := w4) (fun k hk => (M.out.ge hk).2) (fun k hk => (hq.ge hk).1))
        have DQM := Lib.hid (show ∀ k, S6 k → ¬ S5 k from fun k h1 h2 => DMQ.out k h2 h1)
        have DRQ := Lib.hid (show ∀ k, S3 k → ¬ S6 k from apart_new (w := w4) (fun k hk => (R.out.ge hk).2) (fun k hk => (hq.ge hk).1))
        have DQR := Lib.hid (show ∀ k, S6 k → ¬ S3 k from fun k h1 h2 => DRQ.out k h2 h1)
        have DXQ := Lib.hid (show ∀ k, (fun k => k = xb) k → ¬ S6 k from apart_new (w := w4) (fun k hk => (X.out.ge hk).2) (fun k hk => (hq.ge hk).1))
        have DQX := Lib.hid (show ∀ k, S6 k → ¬ (fun k => k = xb) k from fun k h1 h2 => DXQ.out k h2 h1)
        have DVQ := Lib.hid (row_new V.out (fun k hk => (hq.ge hk).1))
        have DOQ := Lib.hid (row_new O.out (fun k hk => (hq.ge hk).1))
        have Q := Lib.hid (hq.mono (B' := w.heap.size) B.out.size)
        clear hq
        have M' := Lib.hid (M.out.below hb)
        have R' := Lib.hid (R.out.below hb)
        have X' := Lib.hid (X.out.below hb)
        have V' := Lib.hid (V.out.below hb)
        have O' := Lib.hid (O.out.below hb)
        have B' := Lib.hid (B.out.trans (hb.mono B.out.size))
        clear hb
        clear M R X V O B
        have M := M'
        have R := R'
        have X := X'
        have V := V'
        have O := O'
        have B := B'
        clear M' R' X' V' O' B'
        go_wp2_with fail
        go_at_call 16
        refine (Take_i M.out (HTZ.out.below B.out) 1).mono ?_
        rintro e x2 ⟨_, rfl, ho, hq, hf⟩
        obtain ⟨Aa, ca, rfl, hca, hma, _⟩ := ho.form (n := (takeO L 1).length) rfl
        have DV2M := Lib.hid (row_made ho (fun k hk => (M.out.ge hk).2))
        have DV2R := Lib.hid (row_made ho (fun k hk => (R.out.ge hk).2))
        have DV2X := Lib.hid (row_made ho (fun k hk => (X.out.ge hk).2))
        have DV2Q := Lib.hid (row_made ho (fun k hk => (Q.out.ge hk).2))
        have V2 := Lib.hid (ho.mono B.out.size)
        have R' := Lib.hid (R.out.fr hf DRM.out)
        have X' := Lib.hid (X.out.fr hf DXM.out)
        have Q' := Lib.hid (Q.out.fr hf DQM.out)
        have V' := Lib.hid (hf.own V.out DVM.out)
        have O' := Lib.hid (hf.own O.out DOM.out)
        have B' := Lib.hid (B.out.trans (M.out.toBelow hf))
        have M' := Lib.hid hq
        clear ho hq hf
        clear R X Q V O B M
        have R := R'
        have X := X'
        have Q := Q'
        have V := V'
        have O := O'
        have B := B'
        have M := M'
        clear R' X' Q' V' O' B' M'
        clear V2 DV2M DV2R DV2X DV2Q
        go_wp2_with fail
        go_at_call 19
        refine (Give_i M.out (Ints.arg HFR.out HFL.out B.out (fun k hk => (M.out.ge hk).1))).mono ?_
        rintro e x3 ⟨rfl, hq, hf⟩
        have R' := Lib.hid (R.out.fr hf DRM.out)
        have X' := Lib.hid (X.out.fr hf DXM.out)
        have Q' := Lib.hid (Q.out.fr hf DQM.out)
        have V' := Lib.hid (hf.own V.out DVM.out)
        have O' := Lib.hid (hf.own O.out DOM.out)
        have B' := Lib.hid (B.out.trans (M.out.toBelow hf))
        have M' := Lib.hid hq
        clear hq hf
        clear R X Q V O B M
        have R := R'
        have X := X'
        have Q := Q'
        have V := V'
        have O := O'
        have B := B'
        have M := M'
        clear R' X' Q' V' O' B' M'
        clear M DMR DRM DXM DMX DVM DOM DMQ DQM
        obtain ⟨hv, hhv⟩ : ∃ hv, (inL (L) xn && has (L) xn.toNat) = hv := ⟨_, rfl⟩
        have A1 := Lib.hid (fun q => Len_i (Q.out.below (bel_drewN (Below.refl _ x3) q)))
        have A2 := Lib.hid (fun q => Free_i (Q.out.below (bel_drewN (Below.refl _ x3) q)))
        have A3 := Lib.hid (fun q => rFree_i (R.out.below (bel_drewN (Below.refl _ x3) q)))
        have A4 := Lib.hid (fun q => Has_q (Q.out.below (bel_drewN (Below.refl _ x3) q)) xn)
        have A5 := Lib.hid (fun q => rHas_i (R.out.below (bel_drewN (Below.refl _ x3) q)) xn)
        have A6 := Lib.hid (fun q => SameInts_q (O.out.below (bel_drewN (Below.refl _ x3) q)).rd ((HFR.out.below B.out).below (bel_drewN (Below.refl _ x3) q)) HFL.out HFL.out (decide_eq_true rfl))
        rw [hhv] at A4 A5
        clear hhv
        have fb : free (L) ≤ 9223372036854775807 := by
          have h1 := free_le (L)
          have h2 := Q.out.len
          omega
        obtain ⟨fr, hfr⟩ : ∃ fr, fr = free (L) := ⟨_, rfl⟩
        rw [← hfr] at A2 A3 fb
        clear hfr
        cases hv
        · have k1 := X.out.blk.cell (i := 1) rfl
          have kl := X.out.blk.lt
          go_wp2_with fail
          go_quiet ((first | (go_at_call 24; with_reducible exact Calls.quiet_of_same (A1.out _)) | (go_at_call 25; with_reducible exact Calls.quiet_of_same (A2.out _)) | (go_at_call 26; with_reducible exact Calls.quiet_of_same (A3.out _)) | (go_at_call 27; with_reducible exact Calls.quiet_of (A4.out _)) | (go_at_call 28; with_reducible exact Calls.quiet_of_same (A5.out _)) | (go_at_call 18; with_reducible exact Calls.quiet_of (A6.out _))))
          clear k1 kl
          go_wp2_with fail
          go_roundw
          case rel => exact ⟨i + 1, pq, _, S6, S3, Al, nl, cl, lst, rfl, rfl, by first | rfl | go_num | (congr 1; omega), by omega, by omega, Q.out.below (bel_drewN (Below.refl _ x3) _), R.out.below (bel_drewN (Below.refl _ x3) _), DQR.out, V.out.below (bel_drewN (Below.refl _ x3) _), HVL.out, DVQ.out, DVR.out, bel_drewN B.out _⟩
          case measure => first | (simp [RowKit.intOf]; done) | (simp [RowKit.intOf]; omega)
        · have k1 := X.out.blk.cell (i := 1) rfl
          have kl := X.out.blk.lt
          go_wp2_with fail
          go_quiet ((first | (go_at_call 24; with_reducible exact Calls.quiet_of_same (A1.out _)) | (go_at_call 25; with_reducible exact Calls.quiet_of_same (A2.out _)) | (go_at_call 26; with_reducible exact Calls.quiet_of_same (A3.out _)) | (go_at_call 27; with_reducible exact Calls.quiet_of (A4.out _)) | (go_at_call 28; with_reducible exact Calls.quiet_of_same (A5.out _)) | (go_at_call 18; with_reducible exact Calls.quiet_of (A6.out _))))
          clear k1 kl
          go_wp2_with fail
          go_roundw
          case rel => exact ⟨i + 1, pq, _, S6, S3, Al, nl, cl, lst, rfl, rfl, by first | rfl | go_num | (congr 1; omega), by omega, by omega, Q.out.below (bel_drewN (Below.refl _ x3) _), R.out.below (bel_drewN (Below.refl _ x3) _), DQR.out, V.out.below (bel_drewN (Below.refl _ x3) _), HVL.out, DVQ.out, DVR.out, bel_drewN B.out _⟩
          case measure => first | (simp [RowKit.intOf]; done) | (simp [RowKit.intOf]; omega)
      · by_cases hc1 : i < m
        · have hiI : (i : Int) < (m : Int) := by omega
          have hiJ : ¬ (i : Int) < 25 := by omega
          go_wp2_with fail
          go_at_call 15
          refine (works_c (HTZ.out.below B.out)).mono ?_
          rintro e x1 ⟨rfl, hb⟩
          have B' := Lib.hid (B.out.trans (hb.mono B.out.size))
          clear hb
          clear B
          have B := B'
          clear B'
          go_wp2_with fail
          go_ret
          exact ⟨rfl, B.out⟩
        · have hiI : ¬ (i : Int) < (m : Int) := by omega
          go_wp2_with fail
          go_at_call 15
          refine (works_c (HTZ.out.below B.out)).mono ?_
          rintro e x1 ⟨rfl, hb⟩
          have B' := Lib.hid (B.out.trans (hb.mono B.out.size))
          clear hb
          clear B
          have B := B'
          clear B'
          go_wp2_with fail
          go_ret
          exact ⟨rfl, B.out⟩
end FreW
end Go.Proofs.YtbnkaeigabifhaaDoor
