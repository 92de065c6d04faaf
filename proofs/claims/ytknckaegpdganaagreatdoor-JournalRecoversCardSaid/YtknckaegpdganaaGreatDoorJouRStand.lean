/-
  The reference's Standing and Recover.
-/
import Derived.Test.YtknckaegpdganaaGreatDoorJouRef
import Derived.Test.YtknckaegpdganaaGreatDoorJouRecover
namespace Go.Proofs.YtknckaegpdganaaGreatDoor
-- mine: whole_c same_c awake_c take_c step_c back_c
open Go.RowKit
set_option linter.unusedVariables false
set_option linter.unusedSimpArgs false
set_option maxRecDepth 100000
namespace JouW
open BlkP RowG FrS PushG JournalP SecP SecW JouP CrcW
section
variable {n a m : Nat} {f : Nat → Sec} {y : Sec}
theorem stR_none (hy : f a = y) (h : BytesW.pn (y.drop 4) 0 0 = none) : stR n a m f = [] := by
  unfold stR
  rw [hy, h]
theorem stR_bad {N z : Nat} (hy : f a = y) (h : BytesW.pn (y.drop 4) 0 0 = some (N, z)) (hN : N < 1 ∨ m < N) : stR n a m f = [] := by
  unfold stR
  rw [hy, h]
  simp only
  rw [if_pos hN]
theorem nr_stuck {t : List UInt8} {p0 i : Nat} (h : nrTo n a m f t p0 i = none) : ∀ j, nrTo n a m f t p0 (i + j) = none
  | 0 => h
  | j + 1 => by
    have ih := nr_stuck h j
    show nrTo n a m f t p0 (i + j + 1) = none
    rw [nrTo, ih]
theorem stR_stuck {N z i : Nat} (hy : f a = y) (h : BytesW.pn (y.drop 4) 0 0 = some (N, z)) (hN : ¬ (N < 1 ∨ m < N)) (hi : i ≤ N) (hs : nrTo n a m f y (4 + z) i = none) : stR n a m f = [] := by
  unfold stR
  rw [hy, h]
  simp only
  obtain ⟨j, rfl⟩ : ∃ j, N = i + j := ⟨N - i, by omega⟩
  rw [if_neg hN, nr_stuck hs j]
theorem stR_end {N z p : Nat} {g : Grp} (hy : f a = y) (h : BytesW.pn (y.drop 4) 0 0 = some (N, z)) (hN : ¬ (N < 1 ∨ m < N)) (hs : nrTo n a m f y (4 + z) N = some (g, p)) : stR n a m f = if y = pad (commitN g) then g else [] := by
  unfold stR
  rw [hy, h]
  simp only
  rw [if_neg hN, hs]
theorem nr_none {t : List UInt8} {p0 i p : Nat} {g : Grp} (h : nrTo n a m f t p0 i = some (g, p)) (hp : BytesW.pn (t.drop p) 0 0 = none) : nrTo n a m f t p0 (i + 1) = none := by
  rw [nrTo, h]
  simp only [hp]
theorem nr_beyond {t : List UInt8} {p0 i p x q : Nat} {g : Grp} (h : nrTo n a m f t p0 i = some (g, p)) (hp : BytesW.pn (t.drop p) 0 0 = some (x, q)) (hb : n ≤ x ∨ 512 < p + q + 4) : nrTo n a m f t p0 (i + 1) = none := by
  rw [nrTo, h]
  simp only [hp]
  rw [if_pos hb]
theorem nr_astray {t : List UInt8} {p0 i p x q : Nat} {g : Grp} (h : nrTo n a m f t p0 i = some (g, p)) (hp : BytesW.pn (t.drop p) 0 0 = some (x, q)) (hb : ¬ (n ≤ x ∨ 512 < p + q + 4)) (hh : homeB n a m (x : Int) = false) : nrTo n a m f t p0 (i + 1) = none := by
  rw [nrTo, h]
  simp only [hp]
  rw [if_neg hb, if_neg (by rw [hh]; simp)]
theorem nr_step {t : List UInt8} {p0 i p x q : Nat} {g : Grp} (h : nrTo n a m f t p0 i = some (g, p)) (hp : BytesW.pn (t.drop p) 0 0 = some (x, q)) (hb : ¬ (n ≤ x ∨ 512 < p + q + 4)) (hh : homeB n a m (x : Int) = true) : nrTo n a m f t p0 (i + 1) = some (g ++ [(x, f (a + 1 + i))], p + q + 4) := by
  rw [nrTo, h]
  simp only [hp]
  rw [if_neg hb, if_pos hh]
end
section
variable {w : World}
theorem first_yesN {A : Option Addr} {l : List UInt8} {n c m k : Nat} (hn : l.length = n) (hA : BytesW.AtC w A l) (hl : n ≤ 1000000) (h : BytesW.pn l 0 0 = some (m, k)) :
    Calls Tryz.prog 47 #[.slice A n c] w fun e w' => e = .returned (.tuple #[.int .u64 (m : Int), .int .i64 (k : Int)]) ∧ Below w.heap.size w w' := by
  subst hn
  exact BytesW.first_yesC hA hl h
theorem first_noN {A : Option Addr} {l : List UInt8} {n c : Nat} (hn : l.length = n) (hA : BytesW.AtC w A l) (hl : n ≤ 1000000) (h : BytesW.pn l 0 0 = none) :
    Calls Tryz.prog 47 #[.slice A n c] w fun e w' => e = .returned (.tuple #[.int .u64 0, .int .i64 0]) ∧ Below w.heap.size w w' := by
  subst hn
  exact BytesW.first_noC hA hl h
end
def StRel (n a m : Nat) (f : Nat → Sec) (y : Sec) (p0 N : Nat) (w2 : World) (v12 v13 v14 : Value) (wr : World) : Prop := ∃ (i : Nat) (g : Grp) (p : Nat) (vr : Value), v14 = .int .i64 (i : Int) ∧ vr = v13 ∧ v12 = .int .i64 (p : Int) ∧ i ≤ N ∧ nrTo n a m f y p0 i = some (g, p) ∧ p ≤ 512 ∧ RowG.Own encA TA wr w2.heap.size vr g ∧ Below w2.heap.size w2 wr
section
variable {w : World} {B pq mm : Nat} {d : Dk} {S : Nat → Prop}
set_option maxHeartbeats 16000000 in
theorem rstanding_c {a m : Nat} (h : Rsk w B pq mm d S) (hmm : mm ≤ 900) (ha : a + m < d.n) (hm : m ≤ 60) :
    Calls Tryz.prog 26 #[.pointer (some ⟨pq, 0, none⟩), .int .i64 (a : Int), .int .i64 (m : Int)] w fun e w' => ∃ v, e = .returned v ∧ RowG.Own encA TA w' w.heap.size v (standJ d.n a m d.now) ∧ Below w.heap.size w w' := by
  have Q := Lib.hid h
  have hnn := h.ok.hi
  have HNOW := Lib.hid h.ok.now
  have HST := Lib.hid (stR_is (n := d.n) (a := a) (m := m) (f := d.now) hnn hm)
  obtain ⟨y, hy⟩ : ∃ y, d.now a = y := ⟨_, rfl⟩
  have HY := Lib.hid hy
  have HYL := Lib.hid (show y.length = 512 by rw [← hy]; exact h.ok.now a)
  have HRD := Lib.hid (show readD d (a : Int) = y by
    unfold readD
    rw [if_pos (inD_iff.2 ⟨by omega, by omega⟩), Int.toNat_natCast]
    exact hy)
  clear h hy
  go_enter Tryz.func26, Tryz.ntmps26
  go_wp2_with fail
  refine (rRead_c Q.out (by omega)).mono ?_
  rintro e w0 ⟨rfl, hb0⟩
  rw [HRD.out]
  have B0 := Lib.hid hb0
  clear hb0
  go_wp2_with ((with_reducible refine at_slot 26 ?_); refine Classical.byContradiction (fun hG => ?_))
  refine hG ?_
  clear hG
  refine BytesW.wp_bytes rfl (.tmp 25) rfl (l := y) rfl ?_ (by rw [HYL.out]; decide)
  intro cb w1 cs1 hh1 hc11 hc12 hcs1 hcl1 hb1 hz1
  have B1 := Lib.hid (below_t B0.out hb1)
  obtain ⟨bb, hbb⟩ : ∃ bb, w0.heap.size = bb := ⟨_, rfl⟩
  have A1 := Lib.hid (show BytesW.AtC w1 (some ⟨bb, 0, none⟩) y from BytesW.At.c (fun _ => ⟨bb, 0, cs1, _, rfl, by rw [← hbb]; exact hh1, fun i x hx => by rw [Nat.zero_add]; exact hcl1 i x hx⟩))
  rw [HYL.out] at hc11 ⊢
  rw [hbb]
  clear hh1 hcs1 hcl1 hb1 hz1 hc12 hbb
  go_wp2_with ((with_reducible refine at_slot 29 ?_); refine Classical.byContradiction (fun hG => ?_))
  refine hG ?_
  clear hG
  refine BytesW.wp_fromC (l := y) (k := 4) rfl (.tmp 28) (.const (.int .i64 4)) rfl (by rw [HYL.out]; rfl) rfl A1.out (by rw [HYL.out]; omega) (by rw [HYL.out]; exact hc11) ?_
  intro A4 hA4
  rw [HYL.out]
  have HA4 := Lib.hid hA4
  have HD4 := Lib.hid (show (y.drop 4).length = 508 by rw [List.length_drop, HYL.out])
  clear hA4
  go_wp2_with fail
  have HCB := Lib.hid hc11
  have hz1 := B1.out.size
  cases hp4 : BytesW.pn (y.drop 4) 0 0 with
  | none =>
    have HZ := Lib.hid (show [] = standJ d.n a m d.now by rw [← HST.out, stR_none HY.out hp4])
    refine (first_noN HD4.out HA4.out (by omega) hp4).mono ?_
    rintro e w2 ⟨rfl, hb2⟩
    have B2 := Lib.hid (below_t B1.out hb2)
    clear hb2 hp4
    go_wp2_with fail
    go_ret
    exact ⟨_, rfl, by rw [← HZ.out]; exact Own.nil _ _ _ _, B2.out⟩
  | some r =>
    obtain ⟨N, z⟩ := r
    have hz4 := BytesW.pn_le hp4
    rw [HD4.out] at hz4
    have hN64 := (BytesW.pn_some hp4).1
    refine (first_yesN HD4.out HA4.out (by omega) hp4).mono ?_
    rintro e w2 ⟨rfl, hb2⟩
    have B2 := Lib.hid (below_t B1.out hb2)
    have A2 := Lib.hid (A1.out.below hb2)
    have Q2 := Lib.hid (Q.out.below B2.out)
    have HP4 := Lib.hid hp4
    have hzI : ¬ (z : Int) = 0 := by omega
    have hzB : ((z : Int) == 0) = false := by simp; omega
    have hz2 := B2.out.size
    clear hb2 hp4
    by_cases hNb : N < 1 ∨ m < N
    · have HZ := Lib.hid (show [] = standJ d.n a m d.now by rw [← HST.out, stR_bad HY.out HP4.out hNb])
      by_cases hN1 : N < 1
      · have hNI : (N : Int) < 1 := by omega
        clear hNb
        go_wp2_with fail
        go_ret
        exact ⟨_, rfl, by rw [← HZ.out]; exact Own.nil _ _ _ _, B2.out⟩
      · have hNI : ¬ (N : Int) < 1 := by omega
        have hNM : (m : Int) < (N : Int) := by omega
        clear hNb
        go_wp2_with fail
        go_ret
        exact ⟨_, rfl, by rw [← HZ.out]; exact Own.nil _ _ _ _, B2.out⟩
    · have hNI : ¬ (N : Int) < 1 := by omega
      have hNM : ¬ (m : Int) < (N : Int) := by omega
      have hN60 : N ≤ 60 := by omega
      have hNB1 : decide ((N : Int) < 1) = false := decide_eq_false hNI
      have hNB2 : decide (m < N) = false := decide_eq_false (by omega)
      have HNB := Lib.hid hNb
      clear hNb
      go_wp2_with fail
      go_loopw [12, 13, 14] (StRel d.n a m d.now y (4 + z) N w2) (fun _ _ v _ => N - (RowKit.intOf v).toNat)
      case atStart => exact ⟨0, [], 4 + z, _, rfl, rfl, by first | rfl | (congr 1; omega), Nat.zero_le _, rfl, by omega, Own.nil _ _ _ _, Below.refl _ _⟩
      case round =>
        obtain ⟨i, g, p, vr, rfl, rfl, rfl, hi, hnr, hp512, ho, hbr⟩ := hrel
        have HNR := Lib.hid hnr
        have OW := Lib.hid ho
        have BR := Lib.hid hbr
        have BW := Lib.hid (B2.out.trans (hbr.mono hz2))
        have hgl : g.length ≤ 60 := by have := (nr_facts _ _ _ _ _ _ _ _ _ hnr).1; omega
        have QR := Lib.hid (Q2.out.below hbr)
        have AR := Lib.hid (A2.out.below hbr)
        have hcr := hbr.size
        clear hnr ho hbr
        by_cases hin : i < N
        · have hiI : (i : Int) < (N : Int) := by omega
          go_wp2_with ((with_reducible refine at_slot 56 ?_); refine Classical.byContradiction (fun hG => ?_))
          refine hG ?_
          clear hG
          refine BytesW.wp_fromC (l := y) (k := p) rfl (.tmp 54) (.tmp 55) rfl (by rw [HYL.out]; rfl) rfl AR.out (by rw [HYL.out]; exact hp512) (by rw [HYL.out]; exact HCB.out) ?_
          intro A5 hA5
          rw [HYL.out]
          have HA5 := Lib.hid hA5
          have HDP := Lib.hid (show (y.drop p).length = 512 - p by rw [List.length_drop, HYL.out])
          clear hA5
          go_wp2_with fail
          cases hpp : BytesW.pn (y.drop p) 0 0 with
          | none =>
            have HZ := Lib.hid (show [] = standJ d.n a m d.now by rw [← HST.out, stR_stuck HY.out HP4.out HNB.out hin (nr_none HNR.out hpp)])
            refine (first_noN HDP.out HA5.out (by omega) hpp).mono ?_
            rintro e w5 ⟨rfl, hb5⟩
            have B5 := Lib.hid (below_t BW.out hb5)
            clear hb5 hpp
            go_wp2_with fail
            go_ret
            exact ⟨_, rfl, by rw [← HZ.out]; exact Own.nil _ _ _ _, B5.out⟩
          | some r2 =>
            obtain ⟨x, q⟩ := r2
            have hq4 := BytesW.pn_le hpp
            rw [HDP.out] at hq4
            have hx64 := (BytesW.pn_some hpp).1
            have HPP := Lib.hid hpp
            refine (first_yesN HDP.out HA5.out (by omega) hpp).mono ?_
            rintro e w5 ⟨rfl, hb5⟩
            have BW5 := Lib.hid (below_t BW.out hb5)
            have BR5 := Lib.hid (below_t BR.out hb5)
            have Q5 := Lib.hid (QR.out.below hb5)
            have O5 := Lib.hid (OW.out.below hb5)
            have hqI : ¬ (q : Int) = 0 := by omega
            have hqB : ((q : Int) == 0) = false := by simp; omega
            have c0 := rn_cell Q5.out
            have cl := Q5.out.lt
            clear hb5 hpp
            by_cases hbad : d.n ≤ x ∨ 512 < p + q + 4
            · have HZ := Lib.hid (show [] = standJ d.n a m d.now by rw [← HST.out, stR_stuck HY.out HP4.out HNB.out hin (nr_beyond HNR.out HPP.out hbad)])
              by_cases hxn : d.n ≤ x
              · have hxI : (d.n : Int) ≤ (x : Int) := by omega
                clear hbad
                go_wp2_with fail
                go_ret
                exact ⟨_, rfl, by rw [← HZ.out]; exact Own.nil _ _ _ _, BW5.out⟩
              · have hxI : ¬ (d.n : Int) ≤ (x : Int) := by omega
                have hpI : (512 : Int) < (p : Int) + (q : Int) + 4 := by omega
                clear hbad
                go_wp2_with fail
                go_ret
                exact ⟨_, rfl, by rw [← HZ.out]; exact Own.nil _ _ _ _, BW5.out⟩
            · have hxI : ¬ (d.n : Int) ≤ (x : Int) := by omega
              have hpI : ¬ (512 : Int) < (p : Int) + (q : Int) + 4 := by omega
              have HBAD := Lib.hid hbad
              obtain ⟨y2, hy2⟩ : ∃ y2, d.now (a + 1 + i) = y2 := ⟨_, rfl⟩
              have HRD2 := Lib.hid (show readD d ((a + 1 + i : Nat) : Int) = y2 by
                unfold readD
                rw [if_pos (inD_iff.2 ⟨by omega, by omega⟩), Int.toNat_natCast]
                exact hy2)
              have HY2 := Lib.hid hy2
              have HCI := Lib.hid (show (a : Int) + 1 + (i : Int) = ((a + 1 + i : Nat) : Int) by omega)
              have HPC := Lib.hid (show (p : Int) + (q : Int) + 4 = ((p + q + 4 : Nat) : Int) by omega)
              clear hbad hy2
              go_wp2_with fail
              rw [HCI.out]
              refine (rRead_c Q5.out (by omega)).mono ?_
              rintro e w6 ⟨rfl, hb6⟩
              rw [HRD2.out]
              have BW6 := Lib.hid (below_t BW5.out hb6)
              have BR6 := Lib.hid (below_t BR5.out hb6)
              have Q6 := Lib.hid (Q.out.below BW6.out)
              have O6 := Lib.hid (O5.out.below hb6)
              clear hb6 c0 cl
              have hz6 := BR6.out.size
              go_wp2_with ((with_reducible refine at_slot 97 ?_); refine Classical.byContradiction (fun hG => ?_))
              refine hG ?_
              clear hG
              refine RowE.wp_pushE tyA (by decide) rfl (.tmp 91) (.tmp 96) rfl (w0 := w6) (B := w2.heap.size) (v := vr) (l := g) (y := (x, y2)) rfl rfl rfl O6.out rfl (by first | rfl | (simp; done)) (by omega) hz6 ?_
              intro gn cn w7 hpu
              have O7 := Lib.hid hpu.1
              have BR7 := Lib.hid (show Below w2.heap.size w2 w7 from BR6.out.grown hpu.2.1 hz6 (fun k hk => (O6.out.ge k hk).1))
              have BW7 := Lib.hid (B2.out.trans (BR7.out.mono hz2))
              have Q7 := Lib.hid (Q.out.below BW7.out)
              clear hpu
              obtain ⟨hm2, hhm⟩ : ∃ hm2, homeB d.n a m (x : Int) = hm2 := ⟨_, rfl⟩
              have HHM := Lib.hid hhm
              clear hhm
              go_wp2_with fail
              refine (home_c Q7.out (by omega) HHM.out).mono ?_
              rintro e w8 ⟨rfl, hw⟩
              obtain rfl := hw.symm
              cases hm2 with
              | false =>
                have HZ := Lib.hid (show [] = standJ d.n a m d.now by rw [← HST.out, stR_stuck HY.out HP4.out HNB.out hin (nr_astray HNR.out HPP.out HBAD.out HHM.out)])
                go_wp2_with fail
                go_ret
                exact ⟨_, rfl, by rw [← HZ.out]; exact Own.nil _ _ _ _, BW7.out⟩
              | true =>
                have HNX := Lib.hid (show nrTo d.n a m d.now y (4 + z) (i + 1) = some (g ++ [(x, y2)], p + q + 4) by rw [← HY2.out]; exact nr_step HNR.out HPP.out HBAD.out HHM.out)
                go_wp2_with fail
                go_roundw
                case rel => exact ⟨i + 1, _, p + q + 4, _, by first | rfl | (congr 1; omega), rfl, by first | rfl | (congr 1; omega), by omega, HNX.out, by have := HBAD.out; omega, O7.out, BR7.out⟩
                case measure => first | (simp [RowKit.intOf]; done) | (simp [RowKit.intOf]; omega)
        · have hie : i = N := by omega
          subst hie
          have hiI : ¬ (i : Int) < (i : Int) := by omega
          have HE := Lib.hid (show (if y = pad (commitN g) then g else []) = standJ d.n a m d.now by rw [← HST.out, stR_end HY.out HP4.out HNB.out HNR.out])
          have HF := Lib.hid (nr_facts _ _ _ _ _ _ _ _ _ HNR.out)
          obtain ⟨A9, c9, hv9, _, _, _⟩ := OW.out.form HF.out.1
          subst hv9
          have HH1 := Lib.hid (show ∀ x ∈ g, x.1 < 131072 from fun x hx => Nat.lt_of_lt_of_le (home_lt (HF.out.2.1 x hx)) hnn)
          have HH2 := Lib.hid (show ∀ x ∈ g, x.2.length ≤ 512 from fun x hx => by
            obtain ⟨k, hk⟩ := List.getElem?_of_mem hx
            rw [HF.out.2.2.1 k x hk, HNOW.out]
            omega)
          have HCL := Lib.hid (show (commitN g).length ≤ 512 from Nat.le_trans (commit_len HH1.out (by omega)) (by omega))
          clear hin
          go_wp2_with fail
          refine (rCommit_c OW.out.rd HF.out.1 (by omega) HH1.out HH2.out).mono ?_
          rintro e w5 ⟨rfl, hb5⟩
          have BW5 := Lib.hid (below_t BW.out hb5)
          have O5 := Lib.hid (OW.out.below hb5)
          clear hb5
          go_wp2_with fail
          refine (rwhole_c HCL.out).mono ?_
          rintro e w6 ⟨rfl, hb6⟩
          have BW6 := Lib.hid (below_t BW5.out hb6)
          have O6 := Lib.hid ((O5.out.below hb6).mono hz2)
          clear hb6
          obtain ⟨t, ht⟩ : ∃ t, pad (commitN g) = t := ⟨_, rfl⟩
          rw [ht] at HE ⊢
          clear ht
          by_cases hyt : y = t
          · have HE2 := Lib.hid (show g = standJ d.n a m d.now by rw [← HE.out, if_pos hyt])
            subst hyt
            go_wp2_with fail
            go_ret
            exact ⟨_, rfl, by rw [← HE2.out]; exact O6.out, BW6.out⟩
          · have HE2 := Lib.hid (show [] = standJ d.n a m d.now by rw [← HE.out, if_neg hyt])
            have hne3 : ((str y).toList == (str t).toList) = false := by
              rw [str_toList, str_toList]
              exact beq_eq_false_iff_ne.2 hyt
            clear hyt
            go_wp2_with fail
            go_ret
            exact ⟨_, rfl, by rw [← HE2.out]; exact Own.nil _ _ _ _, BW6.out⟩
set_option maxHeartbeats 16000000 in
theorem rRecover_c {a m : Int} {b : Bool} {d5 : Dk} {z : Int} (h : Rsk w B pq mm d S) (hmm : mm ≤ 800) (hb : recB d a m = b) (hd : recD d a m = d5) (hz : openE d.n a m = z) :
    Calls Tryz.prog 8 #[.pointer (some ⟨pq, 0, none⟩), .int .i64 a, .int .i64 m] w fun e w' => e = .returned (.tuple #[.bool b, .int .i64 z]) ∧ RTurned w B pq (mm + 61) S d5 w' := by
  have Q := Lib.hid h
  have HLT := Lib.hid (show ∀ k, S k → k < w.heap.size from fun k hk => (h.ge hk).2)
  have hn0d : d.n ≠ 0 := by have := h.ok.lo; omega
  obtain ⟨r1, hr1⟩ : ∃ r1, decide (openE d.n a m = 0) = r1 := ⟨_, rfl⟩
  have HR1 := Lib.hid hr1
  by_cases hz0 : z = 0
  · subst hz0
    obtain ⟨h1, h2, h3, h4⟩ := open_fine hz
    obtain ⟨A, rfl⟩ : ∃ A : Nat, a = (A : Int) := ⟨a.toNat, by omega⟩
    obtain ⟨M, rfl⟩ : ∃ M : Nat, m = (M : Int) := ⟨m.toNat, by omega⟩
    obtain ⟨g, hg⟩ : ∃ g, standJ d.n A M d.now = g := ⟨_, rfl⟩
    have hrg := rec_good hz
    rw [hb, hd, hg] at hrg
    obtain ⟨rfl, rfl⟩ := hrg
    have HG := Lib.hid hg
    rw [hz] at hr1
    obtain rfl : true = r1 := by rw [← hr1]; rfl
    have HGF := Lib.hid (show g.length ≤ 60 ∧ ∀ x ∈ g, x.1 < d.n ∧ x.2.length ≤ 512 by
      by_cases hne : g = []
      · subst hne
        exact ⟨Nat.zero_le _, fun x hx => by cases hx⟩
      · have hs := standJ_stands (n := d.n) (a := A) (m := M) (f := d.now) (by rw [hg]; exact hne)
        rw [hg] at hs
        refine ⟨Nat.le_trans hs.le (by omega), fun x hx => ⟨home_lt (hs.home x hx), ?_⟩⟩
        obtain ⟨k, hk⟩ := List.getElem?_of_mem hx
        rw [hs.body k x hk, h.ok.now]
        omega)
    clear h hb hd hz hg hr1
    go_enter Tryz.func8, Tryz.ntmps8
    go_wp2_with fail
    refine (right_c Q.out HR1.out).mono ?_
    rintro e w1 ⟨rfl, hb1⟩
    have B1 := Lib.hid hb1
    clear hb1
    go_wp2_with fail
    refine (rstanding_c (Q.out.below B1.out) (by omega) (by omega) (by omega)).mono ?_
    rintro e w3 ⟨v3, rfl, ho3, hb3⟩
    rw [HG.out] at ho3
    have B3 := Lib.hid (below_t B1.out hb3)
    have O3 := Lib.hid ho3
    have Q3 := Lib.hid (Q.out.below B3.out)
    have hz1 := B1.out.size
    obtain ⟨n, hn⟩ : ∃ n, g.length = n := ⟨_, rfl⟩
    obtain ⟨A3, c3, hv3, hc3, hc4, _⟩ := ho3.form hn
    subst hv3
    have hn60 : n ≤ 60 := by rw [← hn]; exact HGF.out.1
    have HN := Lib.hid hn
    clear hb3 ho3 hn
    by_cases hn0 : n = 0
    · subst hn0
      have hg0 : g = [] := List.eq_nil_of_length_eq_zero HN.out
      subst hg0
      go_wp2_with fail
      refine bodyPost_ret (v := .tuple #[.bool false, .int .i64 0]) (by simp [results, Tryz.results8, go_sem]) rfl ?_
      refine ⟨rfl, ?_⟩
      rw [show recWs A [] = [] from rfl, adds_nil]
      exact RTurned.same (Q.out.mono (Nat.le_refl _) (by omega)) B3.out
    · have hnI : ¬ (n : Int) = 0 := by omega
      have hnB : ((n : Int) == 0) = false := by simp [hn0]
      have hgne : g ≠ [] := fun e => by
        have := HN.out
        rw [e] at this
        exact hn0 this.symm
      have HE := Lib.hid (show recWs A g = homes A g ∧ (!g.isEmpty) = true by
        unfold recWs
        rw [if_neg hgne]
        refine ⟨rfl, ?_⟩
        cases g with
        | nil => exact absurd rfl hgne
        | cons x r => rfl)
      clear hgne hn0
      go_wp2_with fail
      refine (rHomes_c (A := A3) (c := c3) Q3.out O3.out.rd HN.out (fun k hk q => by have := (O3.out.ge k hk).1; have := HLT.out k q; omega) (by omega) HGF.out.2 (by omega)).mono ?_
      rintro e w4 ⟨rfl, hq4⟩
      obtain ⟨S5, hs1, hs2, hs3⟩ := RTurned.trans HLT.out (Fr.below S B3.out) (fun k hk => .inl hk) hq4
      have T4 := Lib.hid (show RTurned w B pq (mm + 61) S (d.adds (homes A g)) w4 from ⟨S5, hs1.mono (Nat.le_refl _) (by omega), hs2, hs3⟩)
      clear hq4 hs1 hs2 hs3
      go_wp2_with fail
      refine bodyPost_ret (v := .tuple #[.bool true, .int .i64 0]) (by simp [results, Tryz.results8, go_sem]) rfl ?_
      rw [HE.out.1, HE.out.2]
      exact ⟨rfl, T4.out⟩
  · obtain ⟨e1, e2⟩ := rec_bad hz hz0
    rw [hb] at e2
    rw [hd] at e1
    subst e1 e2
    have h2 : z = 2 := by
      unfold openE at hz
      rw [if_neg hn0d] at hz
      split at hz
      · exact hz.symm
      · exact absurd hz.symm hz0
    obtain rfl : false = r1 := by rw [← hr1, hz]; exact (decide_eq_false hz0).symm
    subst h2
    clear h hb hd hz hr1
    go_enter Tryz.func8, Tryz.ntmps8
    go_wp2_with fail
    refine (right_c Q.out HR1.out).mono ?_
    rintro e w1 ⟨rfl, hb1⟩
    have B1 := Lib.hid hb1
    clear hb1
    go_wp2_with fail
    refine bodyPost_ret (v := .tuple #[.bool false, .int .i64 2]) (by simp [results, Tryz.results8, go_sem]) rfl ?_
    exact ⟨rfl, RTurned.same (Q.out.mono (Nat.le_refl _) (by omega)) B1.out⟩
end
end JouW
end Go.Proofs.YtknckaegpdganaaGreatDoor
