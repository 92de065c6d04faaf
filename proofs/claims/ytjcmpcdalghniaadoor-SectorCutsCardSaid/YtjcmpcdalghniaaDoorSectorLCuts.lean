/-
  SectorCuts: cut, and written with the rest of the log, it is the whole one again.
-/
import Derived.Test.YtjcmpcdalghniaaDoorSectorWorks
import Derived.Test.YtjcmpcdalghniaaDoorSectorWr
namespace Go.Proofs.YtjcmpcdalghniaaDoor
open Go.RowKit
set_option linter.unusedVariables false
set_option linter.unusedSimpArgs false
set_option maxRecDepth 100000
namespace SecW
open BlkP RowG FrS PushG JournalP SecP
set_option maxHeartbeats 16000000 in
theorem law_cuts {w : World} {A : Option Addr} {n c : Nat} {L : List (Int × Sec)} {mark at_ : Int} (hR : Rd encL w (.slice A n c) L) (hn : L.length = n) :
    Calls Tryd.prog 4 #[.slice A n c, .int .i64 mark, .int .i64 at_] w fun e w' => e = .returned (.bool true) ∧ Below w.heap.size w w' := by
  have HR := Lib.hid hR
  have HN := Lib.hid hn
  obtain ⟨dd, hdd⟩ : ∃ dd, writtenTo L mark (min n 40) = dd := ⟨_, rfl⟩
  have HDD := Lib.hid hdd
  have hdn : dd.n = 300 := by rw [← hdd]; exact written_n ..
  have hdl : dd.ws.length ≤ 40 := by
    rw [← hdd]
    have := written_len L mark (min n 40)
    omega
  have HOK := Lib.hid (show Ok dd by rw [← hdd]; exact written_ok ..)
  have HDN := Lib.hid hdn
  clear hdd
  have B0 := Lib.hid (Below.refl w.heap.size w)
  have B := Lib.hid (Below.refl w.heap.size w)
  have hzB : w.heap.size ≤ w.heap.size := Nat.le_refl _
  clear hR hn
  go_enter Tryd.func4, Tryd.ntmps4
  go_wp2_with fail
  refine (written_i (HR.out.below B.out) HN.out HDD.out).mono ?_
  rintro e w1 ⟨pd, rfl, S1, hq, hb⟩
  have QD := Lib.hid (hq.mono hzB)
  have B' := Lib.hid (below_t B.out hb)
  clear B
  have B := B'
  have hzB := B.out.size
  clear B'
  clear hq hb
  go_wp2_with fail
  refine (Writes_c QD.out).mono ?_
  rintro e w2 ⟨rfl, hw⟩
  obtain rfl := hw.symm
  clear hw
  go_wp2_with fail
  refine (Log_c QD.out (by omega)).mono ?_
  rintro e w3 ⟨v, rfl, ho, hb⟩
  obtain ⟨n1, hn1⟩ : ∃ n1, dd.ws.length = n1 := ⟨_, rfl⟩
  have HN1 := Lib.hid hn1
  obtain ⟨A1, c1, rfl, _, _, hA1⟩ := ho.form hn1
  have HA1 := Lib.hid hA1
  have O := Lib.hid (ho.mono hzB)
  rw [hn1] at hdl ⊢
  clear hA1 hn1
  have QD := Lib.hid (QD.out.below hb)
  have B' := Lib.hid (below_t B.out hb)
  clear B
  have B := B'
  have hzB := B.out.size
  clear B'
  clear ho hb
  go_wp2_with fail
  by_cases hat : at_ < 0 ∨ (n1 : Int) < at_
  · rcases Classical.em (at_ < 0) with hat1 | hat1
    · clear hat
      refine (Cut_out QD.out (by have := HN1.out; omega)).mono ?_
      rintro e w4 ⟨rfl, hw⟩
      obtain rfl := hw.symm
      clear hw
      go_wp2_with fail
      refine (works_c).mono ?_
      rintro e wz ⟨rfl, hb⟩
      have B' := Lib.hid (below_t B.out hb)
      clear B
      have B := B'
      have hzB := B.out.size
      clear B'
      clear hb
      go_wp2_with fail
      go_ret
      exact ⟨rfl, B.out⟩
    · have hat2 : (n1 : Int) < at_ := by omega
      clear hat
      refine (Cut_out QD.out (by have := HN1.out; omega)).mono ?_
      rintro e w4 ⟨rfl, hw⟩
      obtain rfl := hw.symm
      clear hw
      go_wp2_with fail
      refine (works_c).mono ?_
      rintro e wz ⟨rfl, hb⟩
      have B' := Lib.hid (below_t B.out hb)
      clear B
      have B := B'
      have hzB := B.out.size
      clear B'
      clear hb
      go_wp2_with fail
      go_ret
      exact ⟨rfl, B.out⟩
  · obtain ⟨j, rfl⟩ : ∃ j : Nat, at_ = (j : Int) := ⟨at_.toNat, by omega⟩
    have hj : j ≤ n1 := by omega
    have hat1 : ¬ (n1 : Int) < (j : Int) := by omega
    clear hat
    refine (Cut_i (j := j) rfl QD.out (by have := HN1.out; omega) (by have := HN1.out; omega)).mono ?_
    rintro e w4 ⟨pc, rfl, S2, hq, hb⟩
    have DDC := Lib.hid (show ∀ k, S1 k → ¬ S2 k from apart_new (fun k hk => (QD.out.ge hk).2) (fun k hk => (hq.ge hk).1))
    have DOC := Lib.hid (show ∀ g, (Value.slice A1 n1 c1).ownBlock = some g → ¬ S2 g from fun g hg hk => by have := (O.out.ge g hg).2; have := (hq.ge hk).1; omega)
    have QC := Lib.hid (hq.mono hzB)
    have QD := Lib.hid (QD.out.below hb)
    have O := Lib.hid (O.out.below hb)
    have B' := Lib.hid (below_t B.out hb)
    clear B
    have B := B'
    have hzB := B.out.size
    clear B'
    clear hq hb
    by_cases hjn : j = n1
    · subst hjn
      have hcut := Lib.hid (show (dd.cut j).now = dd.now by rw [← HN1.out]; exact cut_all dd)
      go_wp2_with fail
      refine (Writes_c QC.out).mono ?_
      rintro e w5 ⟨rfl, hw⟩
      obtain rfl := hw.symm
      clear hw
      go_wp2_with fail
      refine (alike_c QC.out QD.out rfl hcut.out).mono ?_
      rintro e w6 ⟨rfl, hb⟩
      have QC := Lib.hid (QC.out.below hb)
      have QD := Lib.hid (QD.out.below hb)
      have O := Lib.hid (O.out.below hb)
      have B' := Lib.hid (below_t B.out hb)
      clear B
      have B := B'
      have hzB := B.out.size
      clear B'
      clear hb
      go_wp2_with fail
      go_loopw [12] (fun v12 wr => ∃ (i : Nat) (dc : Dk) (S : Nat → Prop), v12 = .int .i64 (i : Int) ∧ j ≤ i ∧ i ≤ j ∧ dc.n = dd.n ∧ dc.now = app dd.base (dd.ws.take i) ∧ dc.ws.length ≤ i ∧ Dsk wr w.heap.size pc dc S ∧ Dsk wr w.heap.size pd dd S1 ∧ RowG.Own encA TA wr w.heap.size (.slice A1 j c1) dd.ws ∧ (∀ k, S1 k → ¬ S k) ∧ (∀ g, (Value.slice A1 j c1).ownBlock = some g → ¬ S g) ∧ Below w.heap.size w wr) (fun v _ => 100 - (intOf v).toNat)
      case atStart => exact ⟨j, dd.cut j, S2, rfl, Nat.le_refl _, hj, rfl, rfl, Nat.zero_le _, QC.out, QD.out, O.out, DDC.out, DOC.out, B.out⟩
      case round =>
        obtain ⟨i, dc, S, rfl, hji, hin, hcn, hcw, hcl, hqc, hqd, hoo, hdc, hdo, hbr⟩ := hrel
        clear QC QD O DDC DOC B
        have QC := Lib.hid hqc
        have QD := Lib.hid hqd
        have O := Lib.hid hoo
        have DDC := Lib.hid hdc
        have DOC := Lib.hid hdo
        have B := Lib.hid hbr
        have HCN := Lib.hid hcn
        have HCW := Lib.hid hcw
        have hzB := hbr.size
        clear hqc hqd hoo hdc hdo hbr hcn hcw
        by_cases hi : i < j
        · exact absurd hi (by omega)
        · have hin2 : i = j := by omega
          have hiI : ¬ (i : Int) < (j : Int) := by omega
          have HNOW := Lib.hid (show dc.now = dd.now by
            have h1 := HCW.out
            rw [List.take_of_length_le (by have := HN1.out; omega)] at h1
            exact h1)
          clear hin2
          go_wp2_with fail
          refine (alike_c QC.out QD.out HCN.out HNOW.out).mono ?_
          rintro e w7 ⟨rfl, hb⟩
          have QC := Lib.hid (QC.out.below hb)
          have QD := Lib.hid (QD.out.below hb)
          have B' := Lib.hid (below_t B.out hb)
          clear B
          have B := B'
          have hzB := B.out.size
          clear B'
          clear hb
          go_wp2_with fail
          refine (works_c).mono ?_
          rintro e wz ⟨rfl, hb⟩
          have B' := Lib.hid (below_t B.out hb)
          clear B
          have B := B'
          have hzB := B.out.size
          clear B'
          clear hb
          go_wp2_with fail
          go_ret
          exact ⟨rfl, B.out⟩
    · have hjI : ¬ (j : Int) = (n1 : Int) := by omega
      go_wp2_with fail
      refine (Writes_c QC.out).mono ?_
      rintro e w5 ⟨rfl, hw⟩
      obtain rfl := hw.symm
      clear hw
      go_wp2_with fail
      go_loopw [12] (fun v12 wr => ∃ (i : Nat) (dc : Dk) (S : Nat → Prop), v12 = .int .i64 (i : Int) ∧ j ≤ i ∧ i ≤ n1 ∧ dc.n = dd.n ∧ dc.now = app dd.base (dd.ws.take i) ∧ dc.ws.length ≤ i ∧ Dsk wr w.heap.size pc dc S ∧ Dsk wr w.heap.size pd dd S1 ∧ RowG.Own encA TA wr w.heap.size (.slice A1 n1 c1) dd.ws ∧ (∀ k, S1 k → ¬ S k) ∧ (∀ g, (Value.slice A1 n1 c1).ownBlock = some g → ¬ S g) ∧ Below w.heap.size w wr) (fun v _ => 100 - (intOf v).toNat)
      case atStart => exact ⟨j, dd.cut j, S2, rfl, Nat.le_refl _, hj, rfl, rfl, Nat.zero_le _, QC.out, QD.out, O.out, DDC.out, DOC.out, B.out⟩
      case round =>
        obtain ⟨i, dc, S, rfl, hji, hin, hcn, hcw, hcl, hqc, hqd, hoo, hdc, hdo, hbr⟩ := hrel
        clear QC QD O DDC DOC B
        have QC := Lib.hid hqc
        have QD := Lib.hid hqd
        have O := Lib.hid hoo
        have DDC := Lib.hid hdc
        have DOC := Lib.hid hdo
        have B := Lib.hid hbr
        have HCN := Lib.hid hcn
        have HCW := Lib.hid hcw
        have hzB := hbr.size
        clear hqc hqd hoo hdc hdo hbr hcn hcw
        by_cases hi : i < n1
        · have hiI : (i : Int) < (n1 : Int) := by omega
          obtain ⟨g, rfl, _, _⟩ := HA1.out (by omega)
          obtain ⟨⟨xa, xs⟩, hx⟩ : ∃ x, dd.ws[i]? = some x := ⟨_, List.getElem?_eq_getElem (by rw [HN1.out]; exact hi)⟩
          have hxm := HOK.out.ws _ (List.mem_of_getElem? hx)
          simp only at hxm
          have x0 := O.out.cell (j := 0) hx rfl
          have x1 := O.out.cell (j := 1) hx rfl
          have hk : encA.k = 2 := rfl
          rw [hk] at x0 x1
          have hol : i * 2 + 0 = i * 2 := rfl
          rw [hol] at x0
          have gl := (O.out.ge g rfl).2
          have hind : inD dc (xa : Int) = true := inD_iff.2 ⟨by omega, by have := HCN.out; omega⟩
          obtain ⟨d5, hd5⟩ : ∃ d5, writeD dc (xa : Int) xs = d5 := ⟨_, rfl⟩
          have HWD := Lib.hid hd5
          have HWE := Lib.hid (show writeE dc (xa : Int) xs = 0 by unfold writeE; rw [hind]; simp [hxm.2])
          have hw5 : writeD dc (xa : Int) xs = dc.write xa xs := by unfold writeD; rw [hind]; simp [hxm.2]
          have H5 := Lib.hid (show d5.n = dd.n ∧ d5.now = app dd.base (dd.ws.take (i + 1)) ∧ d5.ws.length ≤ i + 1 by
            rw [← hd5, hw5]
            refine ⟨HCN.out, ?_, by simp [Dk.write]; omega⟩
            rw [now_write, HCW.out, pad_full hxm.2, List.take_add_one, hx, app_app]
            rfl)
          clear hk hol hx hxm hind hd5 hw5
          go_wp2_with fail
          refine wp_region_noPanic ?_
          refine wp_region_held_drew (S := fun W => Fr S wr W) (by kernel_rfl) ((Fr.refl S wr).drew) (fun hHeld => ?_)
          refine wpAnyH_take (i := 0) (oi := ⟨some 83, _, _, _, _, _⟩) (v := .pointer (some ⟨pc, 0, none⟩)) rfl (by kernel_rfl) (by kernel_rfl) (by kernel_rfl) (fun _ _ _ h => h) (Or.inl ⟨by rfl, fun W hSW => by go_simp⟩) hHeld ?_
          simp only [Act.put, List.setIfInBounds_toArray, List.set_cons_zero, List.set_cons_succ]
          refine wpAnyH_take (i := 1) (oi := ⟨some 84, _, _, _, _, _⟩) (v := .slice (some ⟨g, 0, none⟩) n1 c1) rfl (by kernel_rfl) (by kernel_rfl) (by kernel_rfl) (fun _ _ _ h => h) (Or.inl ⟨by rfl, fun W hSW => by go_simp⟩) hHeld ?_
          simp only [Act.put, List.setIfInBounds_toArray, List.set_cons_zero, List.set_cons_succ]
          refine wpAnyH_take (i := 2) (oi := ⟨some 85, _, _, _, _, _⟩) (v := .int .i64 (i : Int)) rfl (by kernel_rfl) (by kernel_rfl) (by kernel_rfl) (fun _ _ _ h => h) (Or.inl ⟨by rfl, fun W hSW => by go_simp⟩) hHeld ?_
          simp only [Act.put, List.setIfInBounds_toArray, List.set_cons_zero, List.set_cons_succ]
          refine wpAnyH_take (i := 3) (oi := ⟨some 86, _, _, _, _, _⟩) (v := .pointer (some ⟨g, i * 2, none⟩)) rfl (by kernel_rfl) (by kernel_rfl) (by kernel_rfl) (fun _ _ _ h => h) (Or.inl ⟨by rfl, fun W hSW => by go_simp⟩) hHeld ?_
          simp only [Act.put, List.setIfInBounds_toArray, List.set_cons_zero, List.set_cons_succ]
          refine wpAnyH_take (i := 4) (oi := ⟨some 87, _, _, _, _, _⟩) (v := .pointer (some ⟨g, i * 2, none⟩)) rfl (by kernel_rfl) (by kernel_rfl) (by kernel_rfl) (fun _ _ _ h => h) (Or.inl ⟨by rfl, fun W hSW => by go_simp⟩) hHeld ?_
          simp only [Act.put, List.setIfInBounds_toArray, List.set_cons_zero, List.set_cons_succ]
          refine wpAnyH_take (i := 5) (oi := ⟨some 88, _, _, _, _, _⟩) (v := .int .i64 (xa : Int)) rfl (by kernel_rfl) (by kernel_rfl) (by kernel_rfl) (fun _ _ _ h => h) (Or.inl ⟨by rfl, fun W hSW => by have a0 := (hSW.cell (p := ⟨g, i * 2, none⟩) gl (DOC.out g rfl)).trans x0; go_simp⟩) hHeld ?_
          simp only [Act.put, List.setIfInBounds_toArray, List.set_cons_zero, List.set_cons_succ]
          refine wpAnyH_take (i := 6) (oi := ⟨some 89, _, _, _, _, _⟩) (v := .slice (some ⟨g, 0, none⟩) n1 c1) rfl (by kernel_rfl) (by kernel_rfl) (by kernel_rfl) (fun _ _ _ h => h) (Or.inl ⟨by rfl, fun W hSW => by go_simp⟩) hHeld ?_
          simp only [Act.put, List.setIfInBounds_toArray, List.set_cons_zero, List.set_cons_succ]
          refine wpAnyH_take (i := 7) (oi := ⟨some 90, _, _, _, _, _⟩) (v := .int .i64 (i : Int)) rfl (by kernel_rfl) (by kernel_rfl) (by kernel_rfl) (fun _ _ _ h => h) (Or.inl ⟨by rfl, fun W hSW => by go_simp⟩) hHeld ?_
          simp only [Act.put, List.setIfInBounds_toArray, List.set_cons_zero, List.set_cons_succ]
          refine wpAnyH_take (i := 8) (oi := ⟨some 91, _, _, _, _, _⟩) (v := .pointer (some ⟨g, i * 2, none⟩)) rfl (by kernel_rfl) (by kernel_rfl) (by kernel_rfl) (fun _ _ _ h => h) (Or.inl ⟨by rfl, fun W hSW => by go_simp⟩) hHeld ?_
          simp only [Act.put, List.setIfInBounds_toArray, List.set_cons_zero, List.set_cons_succ]
          refine wpAnyH_take (i := 9) (oi := ⟨some 92, _, _, _, _, _⟩) (v := .pointer (some ⟨g, i * 2 + 1, none⟩)) rfl (by kernel_rfl) (by kernel_rfl) (by kernel_rfl) (fun _ _ _ h => h) (Or.inl ⟨by rfl, fun W hSW => by go_simp⟩) hHeld ?_
          simp only [Act.put, List.setIfInBounds_toArray, List.set_cons_zero, List.set_cons_succ]
          refine wpAnyH_take (i := 10) (oi := ⟨some 93, _, _, _, _, _⟩) (v := .string (str xs)) rfl (by kernel_rfl) (by kernel_rfl) (by kernel_rfl) (fun _ _ _ h => h) (Or.inl ⟨by rfl, fun W hSW => by have a0 := (hSW.cell (p := ⟨g, i * 2 + 1, none⟩) gl (DOC.out g rfl)).trans x1; go_simp⟩) hHeld ?_
          simp only [Act.put, List.setIfInBounds_toArray, List.set_cons_zero, List.set_cons_succ]
          refine wpAnyH_ready (rs := [11]) (by kernel_rfl) (by simp) ?_
          refine AllReadyH.cons (o := ⟨some 94, _, _, _, _, _⟩) rfl (fun K hK => ?_) AllReadyH.nil
          go_simp
          refine (Write_i QC.out.drew (by omega) HWD.out HWE.out).mono ?_
          rintro e w5 ⟨rfl, S5, hq, hf, hn⟩
          have DDC' := Lib.hid (show ∀ k, S1 k → ¬ S5 k from apart_turned (w := wr) (fun k hk => (QD.out.ge hk).2) DDC.out hn)
          have QD' := Lib.hid ((QD.out.drew).fr hf DDC.out)
          have O' := Lib.hid (hf.own (show RowG.Own encA TA wr.drew w.heap.size (.slice (some ⟨g, 0, none⟩) n1 c1) dd.ws from O.out.drew) DOC.out)
          have DOC' := Lib.hid (show ∀ h, (Value.slice (some ⟨g, 0, none⟩) n1 c1).ownBlock = some h → ¬ S5 h from fun h hg hk => by
            rcases hn h hk with q | q
            · exact DOC.out h hg q
            · have q2 : wr.heap.size ≤ h := q
              have := (O.out.ge h hg).2
              omega)
          have B' := Lib.hid (B.out.drew.trans (QC.out.drew.toBelow hf))
          have QC' := Lib.hid hq
          have HFR := Lib.hid ((Fr.refl S wr).drew.trans hf (fun i hi => .inl hi))
          clear hq hf hn
          go_wp2_with fail
          refine hK.out _ _ HFR.out (fun hHeld => ?_)
          clear hK K
          refine wpAnyH_ready (rs := [12]) (by kernel_rfl) (by simp) ?_
          refine AllReadyH.cons (o := ⟨some 95, _, _, _, _, _⟩) rfl (fun K hK => ?_) AllReadyH.nil
          go_simp
          refine hK.out _ _ hHeld (fun hHeld => ?_)
          clear hK K
          refine wpAnyH_done (by kernel_rfl) ?_ _
          refine NoPanic.normal ?_
          clear hHeld HFR
          clear DDC QD
          have DDC := DDC'
          have QD := QD'
          clear DDC' QD'
          clear B QC
          have B := B'
          have QC := QC'
          have hzB := B.out.size
          clear B' QC'
          clear x0 x1 gl
          go_wp2_with fail
          go_roundw
          case measure => first | (simp [intOf]; done) | (simp [intOf]; omega)
          case rel => exact ⟨i + 1, d5, S5, by first | rfl | (congr 1; omega), by omega, by omega, H5.out.1, H5.out.2.1, H5.out.2.2, QC.out, QD.out, O'.out, DDC.out, DOC'.out, B.out⟩
        · have hin2 : i = n1 := by omega
          have hiI : ¬ (i : Int) < (n1 : Int) := by omega
          have HNOW := Lib.hid (show dc.now = dd.now by
            have h1 := HCW.out
            rw [List.take_of_length_le (by have := HN1.out; omega)] at h1
            exact h1)
          clear hin2
          go_wp2_with fail
          refine (alike_c QC.out QD.out HCN.out HNOW.out).mono ?_
          rintro e w7 ⟨rfl, hb⟩
          have QC := Lib.hid (QC.out.below hb)
          have QD := Lib.hid (QD.out.below hb)
          have B' := Lib.hid (below_t B.out hb)
          clear B
          have B := B'
          have hzB := B.out.size
          clear B'
          clear hb
          go_wp2_with fail
          refine (works_c).mono ?_
          rintro e wz ⟨rfl, hb⟩
          have B' := Lib.hid (below_t B.out hb)
          clear B
          have B := B'
          have hzB := B.out.size
          clear B'
          clear hb
          go_wp2_with fail
          go_ret
          exact ⟨rfl, B.out⟩
end SecW
end Go.Proofs.YtjcmpcdalghniaaDoor
