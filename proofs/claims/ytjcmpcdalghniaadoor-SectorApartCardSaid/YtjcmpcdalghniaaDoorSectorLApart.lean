/-
  SectorApart: what is done to a disk that was cut, or copied, does nothing to the other one.
-/
import Derived.Test.YtjcmpcdalghniaaDoorSectorWorks
import Derived.Test.YtjcmpcdalghniaaDoorSectorWr
namespace Go.Proofs.YtjcmpcdalghniaaDoor
open Go.RowKit
set_option linter.unusedVariables false
set_option linter.unusedSimpArgs false
set_option maxRecDepth 100000
namespace SecW
open BlkP RowG FrS PushG JournalP SecP
set_option maxHeartbeats 16000000 in
theorem law_apart {w : World} {A : Option Addr} {n c : Nat} {L : List (Int × Sec)} {A2 : Option Addr} {n2 c2 : Nat} {M : List (Int × Sec)} (hR : Rd encL w (.slice A n c) L) (hn : L.length = n) (hR2 : Rd encL w (.slice A2 n2 c2) M) (hn2 : M.length = n2) :
    Calls Tryd.prog 6 #[.slice A n c, .slice A2 n2 c2] w fun e w' => e = .returned (.bool true) ∧ Below w.heap.size w w' := by
  have HR := Lib.hid hR
  have HN := Lib.hid hn
  obtain ⟨dd, hdd⟩ : ∃ dd, writtenTo L 5 (min n 40) = dd := ⟨_, rfl⟩
  have HDD := Lib.hid hdd
  have hdn : dd.n = 300 := by rw [← hdd]; exact written_n ..
  have hdl : dd.ws.length ≤ 40 := by
    rw [← hdd]
    have := written_len L 5 (min n 40)
    omega
  have HOK := Lib.hid (show Ok dd by rw [← hdd]; exact written_ok ..)
  have HDN := Lib.hid hdn
  clear hdd
  have B0 := Lib.hid (Below.refl w.heap.size w)
  have B := Lib.hid (Below.refl w.heap.size w)
  have hzB : w.heap.size ≤ w.heap.size := Nat.le_refl _
  have HR2 := Lib.hid hR2
  have HN2 := Lib.hid hn2
  have hnb : n2 ≤ 9223372036854775807 := by have := (RowE.rd_len hR2); omega
  obtain ⟨m, hm⟩ : ∃ m, min n2 40 = m := ⟨_, rfl⟩
  have HM := Lib.hid hm
  clear hR hn hR2 hn2 hm
  go_enter Tryd.func6, Tryd.ntmps6
  go_wp2_with fail
  refine (written_i (HR.out.below B.out) HN.out HDD.out).mono ?_
  rintro e w1 ⟨pd, rfl, S1, hq, hb⟩
  have QD := Lib.hid (hq.mono hzB)
  have B' := Lib.hid (below_t B.out hb)
  clear B
  have B := B'
  have hzB := B.out.size
  clear B'
  clear hq hb
  go_wp2_with fail
  refine (written_i (HR.out.below B.out) HN.out HDD.out).mono ?_
  rintro e w2 ⟨pp, rfl, S2, hq, hb⟩
  have DDP := Lib.hid (show ∀ k, S1 k → ¬ S2 k from apart_new (fun k hk => (QD.out.ge hk).2) (fun k hk => (hq.ge hk).1))
  have QP := Lib.hid (hq.mono hzB)
  have QD := Lib.hid (QD.out.below hb)
  have B' := Lib.hid (below_t B.out hb)
  clear B
  have B := B'
  have hzB := B.out.size
  clear B'
  clear hq hb
  go_wp2_with fail
  refine (Copy_c QD.out (by omega)).mono ?_
  rintro e w3 ⟨pa, rfl, SA0, hq, hb⟩
  have DDA := Lib.hid (show ∀ k, S1 k → ¬ SA0 k from apart_new (fun k hk => (QD.out.ge hk).2) (fun k hk => (hq.ge hk).1))
  have DPA := Lib.hid (show ∀ k, S2 k → ¬ SA0 k from apart_new (fun k hk => (QP.out.ge hk).2) (fun k hk => (hq.ge hk).1))
  have QA := Lib.hid (hq.mono hzB)
  have QD := Lib.hid (QD.out.below hb)
  have QP := Lib.hid (QP.out.below hb)
  have B' := Lib.hid (below_t B.out hb)
  clear B
  have B := B'
  have hzB := B.out.size
  clear B'
  clear hq hb
  go_wp2_with fail
  refine (Cut_i (j := dd.ws.length) rfl QD.out (by omega) (Nat.le_refl _)).mono ?_
  rintro e w4 ⟨pb, rfl, SB0, hq, hb⟩
  have DDB := Lib.hid (show ∀ k, S1 k → ¬ SB0 k from apart_new (fun k hk => (QD.out.ge hk).2) (fun k hk => (hq.ge hk).1))
  have DPB := Lib.hid (show ∀ k, S2 k → ¬ SB0 k from apart_new (fun k hk => (QP.out.ge hk).2) (fun k hk => (hq.ge hk).1))
  have DAB := Lib.hid (show ∀ k, SA0 k → ¬ SB0 k from apart_new (fun k hk => (QA.out.ge hk).2) (fun k hk => (hq.ge hk).1))
  have QB := Lib.hid (hq.mono hzB)
  have QD := Lib.hid (QD.out.below hb)
  have QP := Lib.hid (QP.out.below hb)
  have QA := Lib.hid (QA.out.below hb)
  have B' := Lib.hid (below_t B.out hb)
  clear B
  have B := B'
  have hzB := B.out.size
  clear B'
  clear hq hb
  have DBA := Lib.hid (show ∀ k, SB0 k → ¬ SA0 k from fun k ha hb => DAB.out k hb ha)
  clear DAB
  go_wp2_with fail
  go_loopw [12] (fun v12 wr => ∃ (i : Nat) (SA SB : Nat → Prop), v12 = .int .i64 (i : Int) ∧ i ≤ n2 ∧ i ≤ 40 ∧ Dsk wr w.heap.size pa (moreTo dd M i) SA ∧ Dsk wr w.heap.size pb (moreTo (dd.cut dd.ws.length) M i) SB ∧ Dsk wr w.heap.size pd dd S1 ∧ Dsk wr w.heap.size pp dd S2 ∧ (∀ k, SB k → ¬ SA k) ∧ (∀ k, S1 k → ¬ SA k) ∧ (∀ k, S2 k → ¬ SA k) ∧ (∀ k, S1 k → ¬ SB k) ∧ (∀ k, S2 k → ¬ SB k) ∧ Below w.heap.size w wr) (fun v _ => 100 - (intOf v).toNat)
  case atStart => exact ⟨0, SA0, SB0, rfl, Nat.zero_le _, by omega, QA.out, QB.out, QD.out, QP.out, DBA.out, DDA.out, DPA.out, DDB.out, DPB.out, B.out⟩
  case round =>
    obtain ⟨i, SA, SB, rfl, hin, hi4, hqa, hqb, hqd, hqp, dba, dda, dpa, ddb, dpb, hbr⟩ := hrel
    clear QA QB QD QP DBA DDA DPA DDB DPB B
    have QA := Lib.hid hqa
    have QB := Lib.hid hqb
    have QD := Lib.hid hqd
    have QP := Lib.hid hqp
    have DBA := Lib.hid dba
    have DDA := Lib.hid dda
    have DPA := Lib.hid dpa
    have DDB := Lib.hid ddb
    have DPB := Lib.hid dpb
    have B := Lib.hid hbr
    have hzB := hbr.size
    clear hqa hqb hqd hqp dba dda dpa ddb dpb hbr
    by_cases hc : i < n2 ∧ i < 40
    · obtain ⟨hc1, hc2⟩ := hc
      have hiI : (i : Int) < (n2 : Int) := by omega
      have hiJ : (i : Int) < 40 := by omega
      have hcl : (dd.cut dd.ws.length).ws.length = 0 := rfl
      obtain ⟨⟨xa, xs⟩, hx⟩ : ∃ x, M[i]? = some x := ⟨_, List.getElem?_eq_getElem (by rw [HN2.out]; exact hc1)⟩
      obtain ⟨b, o, hbo, hlt, hcs⟩ := HR2.out.at hx
      subst hbo
      have y0 := hcs 0 _ rfl
      have y1 := hcs 1 _ rfl
      have hk : encL.k = 2 := rfl
      rw [hk] at y0 y1
      have hol : o + i * 2 + 0 = o + i * 2 := rfl
      rw [hol] at y0
      have Y0 := Lib.hid y0
      have Y1 := Lib.hid y1
      have HLT := Lib.hid hlt
      have HX := Lib.hid hx
      clear hcs hk hol hx y0 y1 hlt
      obtain ⟨z, hz⟩ : ∃ z, writeE (moreTo dd M i) xa xs = z := ⟨_, rfl⟩
      have HWE := Lib.hid hz
      have HWD := Lib.hid (moreTo_succ (d := dd) HX.out).symm
      have hlm := more_len dd M i
      clear hz
      have x0 := (B.out.cell (p := ⟨b, o + i * 2, none⟩) HLT.out).trans Y0.out
      have x1 := (B.out.cell (p := ⟨b, o + i * 2 + 1, none⟩) HLT.out).trans Y1.out
      have gl := Nat.lt_of_lt_of_le HLT.out hzB
      go_wp2_with fail
      refine wp_region_noPanic ?_
      refine wp_region_held_drew (S := fun W => Fr SA wr W) (by kernel_rfl) ((Fr.refl SA wr).drew) (fun hHeld => ?_)
      refine wpAnyH_take (i := 0) (oi := ⟨some 55, _, _, _, _, _⟩) (v := .pointer (some ⟨pa, 0, none⟩)) rfl (by kernel_rfl) (by kernel_rfl) (by kernel_rfl) (fun _ _ _ h => h) (Or.inl ⟨by rfl, fun W hSW => by go_simp⟩) hHeld ?_
      simp only [Act.put, List.setIfInBounds_toArray, List.set_cons_zero, List.set_cons_succ]
      refine wpAnyH_take (i := 1) (oi := ⟨some 56, _, _, _, _, _⟩) (v := .slice (some ⟨b, o, none⟩) n2 c2) rfl (by kernel_rfl) (by kernel_rfl) (by kernel_rfl) (fun _ _ _ h => h) (Or.inl ⟨by rfl, fun W hSW => by go_simp⟩) hHeld ?_
      simp only [Act.put, List.setIfInBounds_toArray, List.set_cons_zero, List.set_cons_succ]
      refine wpAnyH_take (i := 2) (oi := ⟨some 57, _, _, _, _, _⟩) (v := .int .i64 (i : Int)) rfl (by kernel_rfl) (by kernel_rfl) (by kernel_rfl) (fun _ _ _ h => h) (Or.inl ⟨by rfl, fun W hSW => by go_simp⟩) hHeld ?_
      simp only [Act.put, List.setIfInBounds_toArray, List.set_cons_zero, List.set_cons_succ]
      refine wpAnyH_take (i := 3) (oi := ⟨some 58, _, _, _, _, _⟩) (v := .pointer (some ⟨b, o + i * 2, none⟩)) rfl (by kernel_rfl) (by kernel_rfl) (by kernel_rfl) (fun _ _ _ h => h) (Or.inl ⟨by rfl, fun W hSW => by go_simp⟩) hHeld ?_
      simp only [Act.put, List.setIfInBounds_toArray, List.set_cons_zero, List.set_cons_succ]
      refine wpAnyH_take (i := 4) (oi := ⟨some 59, _, _, _, _, _⟩) (v := .pointer (some ⟨b, o + i * 2, none⟩)) rfl (by kernel_rfl) (by kernel_rfl) (by kernel_rfl) (fun _ _ _ h => h) (Or.inl ⟨by rfl, fun W hSW => by go_simp⟩) hHeld ?_
      simp only [Act.put, List.setIfInBounds_toArray, List.set_cons_zero, List.set_cons_succ]
      refine wpAnyH_take (i := 5) (oi := ⟨some 60, _, _, _, _, _⟩) (v := .int .i64 xa) rfl (by kernel_rfl) (by kernel_rfl) (by kernel_rfl) (fun _ _ _ h => h) (Or.inl ⟨by rfl, fun W hSW => by have a0 := (hSW.cell (p := ⟨b, o + i * 2, none⟩) gl (fun q => by have h1 : w.heap.size ≤ b := (QA.out.ge q).1; have := HLT.out; omega)).trans x0; go_simp⟩) hHeld ?_
      simp only [Act.put, List.setIfInBounds_toArray, List.set_cons_zero, List.set_cons_succ]
      refine wpAnyH_take (i := 6) (oi := ⟨some 61, _, _, _, _, _⟩) (v := .slice (some ⟨b, o, none⟩) n2 c2) rfl (by kernel_rfl) (by kernel_rfl) (by kernel_rfl) (fun _ _ _ h => h) (Or.inl ⟨by rfl, fun W hSW => by go_simp⟩) hHeld ?_
      simp only [Act.put, List.setIfInBounds_toArray, List.set_cons_zero, List.set_cons_succ]
      refine wpAnyH_take (i := 7) (oi := ⟨some 62, _, _, _, _, _⟩) (v := .int .i64 (i : Int)) rfl (by kernel_rfl) (by kernel_rfl) (by kernel_rfl) (fun _ _ _ h => h) (Or.inl ⟨by rfl, fun W hSW => by go_simp⟩) hHeld ?_
      simp only [Act.put, List.setIfInBounds_toArray, List.set_cons_zero, List.set_cons_succ]
      refine wpAnyH_take (i := 8) (oi := ⟨some 63, _, _, _, _, _⟩) (v := .pointer (some ⟨b, o + i * 2, none⟩)) rfl (by kernel_rfl) (by kernel_rfl) (by kernel_rfl) (fun _ _ _ h => h) (Or.inl ⟨by rfl, fun W hSW => by go_simp⟩) hHeld ?_
      simp only [Act.put, List.setIfInBounds_toArray, List.set_cons_zero, List.set_cons_succ]
      refine wpAnyH_take (i := 9) (oi := ⟨some 64, _, _, _, _, _⟩) (v := .pointer (some ⟨b, o + i * 2 + 1, none⟩)) rfl (by kernel_rfl) (by kernel_rfl) (by kernel_rfl) (fun _ _ _ h => h) (Or.inl ⟨by rfl, fun W hSW => by go_simp⟩) hHeld ?_
      simp only [Act.put, List.setIfInBounds_toArray, List.set_cons_zero, List.set_cons_succ]
      refine wpAnyH_take (i := 10) (oi := ⟨some 65, _, _, _, _, _⟩) (v := .string (str xs)) rfl (by kernel_rfl) (by kernel_rfl) (by kernel_rfl) (fun _ _ _ h => h) (Or.inl ⟨by rfl, fun W hSW => by have a0 := (hSW.cell (p := ⟨b, o + i * 2 + 1, none⟩) gl (fun q => by have h1 : w.heap.size ≤ b := (QA.out.ge q).1; have := HLT.out; omega)).trans x1; go_simp⟩) hHeld ?_
      simp only [Act.put, List.setIfInBounds_toArray, List.set_cons_zero, List.set_cons_succ]
      refine wpAnyH_ready (rs := [11]) (by kernel_rfl) (by simp) ?_
      refine AllReadyH.cons (o := ⟨some 66, _, _, _, _, _⟩) rfl (fun K hK => ?_) AllReadyH.nil
      go_simp
      refine (Write_i QA.out.drew (by omega) HWD.out HWE.out).mono ?_
      rintro e w5 ⟨rfl, S5, hq, hf, hn⟩
      have DBA' := Lib.hid (show ∀ k, SB k → ¬ S5 k from apart_turned (w := wr) (fun k hk => (QB.out.ge hk).2) DBA.out hn)
      have QB' := Lib.hid ((QB.out.drew).fr hf DBA.out)
      have DDA' := Lib.hid (show ∀ k, S1 k → ¬ S5 k from apart_turned (w := wr) (fun k hk => (QD.out.ge hk).2) DDA.out hn)
      have QD' := Lib.hid ((QD.out.drew).fr hf DDA.out)
      have DPA' := Lib.hid (show ∀ k, S2 k → ¬ S5 k from apart_turned (w := wr) (fun k hk => (QP.out.ge hk).2) DPA.out hn)
      have QP' := Lib.hid ((QP.out.drew).fr hf DPA.out)
      have B' := Lib.hid (B.out.drew.trans (QA.out.drew.toBelow hf))
      have QA' := Lib.hid hq
      have HFR := Lib.hid ((Fr.refl SA wr).drew.trans hf (fun i hi => .inl hi))
      clear hq hf hn
      go_wp2_with fail
      refine hK.out _ _ HFR.out (fun hHeld => ?_)
      clear hK K
      refine wpAnyH_done (by kernel_rfl) ?_ _
      refine NoPanic.normal ?_
      clear hHeld HFR
      clear DBA QB
      have DBA := DBA'
      have QB := QB'
      clear DBA' QB'
      clear DDA QD
      have DDA := DDA'
      have QD := QD'
      clear DDA' QD'
      clear DPA QP
      have DPA := DPA'
      have QP := QP'
      clear DPA' QP'
      clear B QA
      have B := B'
      have QA := QA'
      have hzB := B.out.size
      clear B' QA'
      clear x0 x1 gl
      clear HWE HWD hlm
      have DAB := Lib.hid (show ∀ k, S5 k → ¬ SB k from fun k ha hb => DBA.out k hb ha)
      obtain ⟨z, hz⟩ : ∃ z, writeE (moreTo (dd.cut dd.ws.length) M i) xa xs = z := ⟨_, rfl⟩
      have HWE := Lib.hid hz
      have HWD := Lib.hid (moreTo_succ (d := (dd.cut dd.ws.length)) HX.out).symm
      have hlm := more_len (dd.cut dd.ws.length) M i
      clear hz
      have x0 := (B.out.cell (p := ⟨b, o + i * 2, none⟩) HLT.out).trans Y0.out
      have x1 := (B.out.cell (p := ⟨b, o + i * 2 + 1, none⟩) HLT.out).trans Y1.out
      have gl := Nat.lt_of_lt_of_le HLT.out hzB
      go_wp2_with fail
      refine wp_region_noPanic ?_
      refine wp_region_held_drew (S := fun W => Fr SB w5 W) (by kernel_rfl) ((Fr.refl SB w5).drew) (fun hHeld => ?_)
      refine wpAnyH_take (i := 0) (oi := ⟨some 67, _, _, _, _, _⟩) (v := .pointer (some ⟨pb, 0, none⟩)) rfl (by kernel_rfl) (by kernel_rfl) (by kernel_rfl) (fun _ _ _ h => h) (Or.inl ⟨by rfl, fun W hSW => by go_simp⟩) hHeld ?_
      simp only [Act.put, List.setIfInBounds_toArray, List.set_cons_zero, List.set_cons_succ]
      refine wpAnyH_take (i := 1) (oi := ⟨some 68, _, _, _, _, _⟩) (v := .slice (some ⟨b, o, none⟩) n2 c2) rfl (by kernel_rfl) (by kernel_rfl) (by kernel_rfl) (fun _ _ _ h => h) (Or.inl ⟨by rfl, fun W hSW => by go_simp⟩) hHeld ?_
      simp only [Act.put, List.setIfInBounds_toArray, List.set_cons_zero, List.set_cons_succ]
      refine wpAnyH_take (i := 2) (oi := ⟨some 69, _, _, _, _, _⟩) (v := .int .i64 (i : Int)) rfl (by kernel_rfl) (by kernel_rfl) (by kernel_rfl) (fun _ _ _ h => h) (Or.inl ⟨by rfl, fun W hSW => by go_simp⟩) hHeld ?_
      simp only [Act.put, List.setIfInBounds_toArray, List.set_cons_zero, List.set_cons_succ]
      refine wpAnyH_take (i := 3) (oi := ⟨some 70, _, _, _, _, _⟩) (v := .pointer (some ⟨b, o + i * 2, none⟩)) rfl (by kernel_rfl) (by kernel_rfl) (by kernel_rfl) (fun _ _ _ h => h) (Or.inl ⟨by rfl, fun W hSW => by go_simp⟩) hHeld ?_
      simp only [Act.put, List.setIfInBounds_toArray, List.set_cons_zero, List.set_cons_succ]
      refine wpAnyH_take (i := 4) (oi := ⟨some 71, _, _, _, _, _⟩) (v := .pointer (some ⟨b, o + i * 2, none⟩)) rfl (by kernel_rfl) (by kernel_rfl) (by kernel_rfl) (fun _ _ _ h => h) (Or.inl ⟨by rfl, fun W hSW => by go_simp⟩) hHeld ?_
      simp only [Act.put, List.setIfInBounds_toArray, List.set_cons_zero, List.set_cons_succ]
      refine wpAnyH_take (i := 5) (oi := ⟨some 72, _, _, _, _, _⟩) (v := .int .i64 xa) rfl (by kernel_rfl) (by kernel_rfl) (by kernel_rfl) (fun _ _ _ h => h) (Or.inl ⟨by rfl, fun W hSW => by have a0 := (hSW.cell (p := ⟨b, o + i * 2, none⟩) gl (fun q => by have h1 : w.heap.size ≤ b := (QB.out.ge q).1; have := HLT.out; omega)).trans x0; go_simp⟩) hHeld ?_
      simp only [Act.put, List.setIfInBounds_toArray, List.set_cons_zero, List.set_cons_succ]
      refine wpAnyH_take (i := 6) (oi := ⟨some 73, _, _, _, _, _⟩) (v := .slice (some ⟨b, o, none⟩) n2 c2) rfl (by kernel_rfl) (by kernel_rfl) (by kernel_rfl) (fun _ _ _ h => h) (Or.inl ⟨by rfl, fun W hSW => by go_simp⟩) hHeld ?_
      simp only [Act.put, List.setIfInBounds_toArray, List.set_cons_zero, List.set_cons_succ]
      refine wpAnyH_take (i := 7) (oi := ⟨some 74, _, _, _, _, _⟩) (v := .int .i64 (i : Int)) rfl (by kernel_rfl) (by kernel_rfl) (by kernel_rfl) (fun _ _ _ h => h) (Or.inl ⟨by rfl, fun W hSW => by go_simp⟩) hHeld ?_
      simp only [Act.put, List.setIfInBounds_toArray, List.set_cons_zero, List.set_cons_succ]
      refine wpAnyH_take (i := 8) (oi := ⟨some 75, _, _, _, _, _⟩) (v := .pointer (some ⟨b, o + i * 2, none⟩)) rfl (by kernel_rfl) (by kernel_rfl) (by kernel_rfl) (fun _ _ _ h => h) (Or.inl ⟨by rfl, fun W hSW => by go_simp⟩) hHeld ?_
      simp only [Act.put, List.setIfInBounds_toArray, List.set_cons_zero, List.set_cons_succ]
      refine wpAnyH_take (i := 9) (oi := ⟨some 76, _, _, _, _, _⟩) (v := .pointer (some ⟨b, o + i * 2 + 1, none⟩)) rfl (by kernel_rfl) (by kernel_rfl) (by kernel_rfl) (fun _ _ _ h => h) (Or.inl ⟨by rfl, fun W hSW => by go_simp⟩) hHeld ?_
      simp only [Act.put, List.setIfInBounds_toArray, List.set_cons_zero, List.set_cons_succ]
      refine wpAnyH_take (i := 10) (oi := ⟨some 77, _, _, _, _, _⟩) (v := .string (str xs)) rfl (by kernel_rfl) (by kernel_rfl) (by kernel_rfl) (fun _ _ _ h => h) (Or.inl ⟨by rfl, fun W hSW => by have a0 := (hSW.cell (p := ⟨b, o + i * 2 + 1, none⟩) gl (fun q => by have h1 : w.heap.size ≤ b := (QB.out.ge q).1; have := HLT.out; omega)).trans x1; go_simp⟩) hHeld ?_
      simp only [Act.put, List.setIfInBounds_toArray, List.set_cons_zero, List.set_cons_succ]
      refine wpAnyH_ready (rs := [11]) (by kernel_rfl) (by simp) ?_
      refine AllReadyH.cons (o := ⟨some 78, _, _, _, _, _⟩) rfl (fun K hK => ?_) AllReadyH.nil
      go_simp
      refine (Write_i QB.out.drew (by omega) HWD.out HWE.out).mono ?_
      rintro e w6 ⟨rfl, S6, hq, hf, hn⟩
      have DAB' := Lib.hid (show ∀ k, S5 k → ¬ S6 k from apart_turned (w := w5) (fun k hk => (QA.out.ge hk).2) DAB.out hn)
      have QA' := Lib.hid ((QA.out.drew).fr hf DAB.out)
      have DDB' := Lib.hid (show ∀ k, S1 k → ¬ S6 k from apart_turned (w := w5) (fun k hk => (QD.out.ge hk).2) DDB.out hn)
      have QD' := Lib.hid ((QD.out.drew).fr hf DDB.out)
      have DPB' := Lib.hid (show ∀ k, S2 k → ¬ S6 k from apart_turned (w := w5) (fun k hk => (QP.out.ge hk).2) DPB.out hn)
      have QP' := Lib.hid ((QP.out.drew).fr hf DPB.out)
      have B' := Lib.hid (B.out.drew.trans (QB.out.drew.toBelow hf))
      have QB' := Lib.hid hq
      have HFR := Lib.hid ((Fr.refl SB w5).drew.trans hf (fun i hi => .inl hi))
      clear hq hf hn
      go_wp2_with fail
      refine hK.out _ _ HFR.out (fun hHeld => ?_)
      clear hK K
      refine wpAnyH_done (by kernel_rfl) ?_ _
      refine NoPanic.normal ?_
      clear hHeld HFR
      clear DAB QA
      have DAB := DAB'
      have QA := QA'
      clear DAB' QA'
      clear DDB QD
      have DDB := DDB'
      have QD := QD'
      clear DDB' QD'
      clear DPB QP
      have DPB := DPB'
      have QP := QP'
      clear DPB' QP'
      clear B QB
      have B := B'
      have QB := QB'
      have hzB := B.out.size
      clear B' QB'
      clear x0 x1 gl
      clear HWE HWD hlm
      have DBA := Lib.hid (show ∀ k, S6 k → ¬ S5 k from fun k ha hb => DAB.out k hb ha)
      go_wp2_with fail
      go_roundw
      case measure => first | (simp [intOf]; done) | (simp [intOf]; omega)
      case rel => exact ⟨i + 1, S5, S6, by first | rfl | (congr 1; omega), by omega, by omega, QA.out, QB.out, QD.out, QP.out, DBA.out, DDA.out, DPA.out, DDB.out, DPB.out, B.out⟩
    · by_cases hc1 : i < n2
      · have hiI : (i : Int) < (n2 : Int) := by omega
        have hiJ : ¬ (i : Int) < 40 := by omega
        have him : i = m := by have := HM.out; omega
        have HI := Lib.hid him
        rw [him] at QA QB
        clear him
        go_wp2_with fail
        refine (alike_c QD.out QP.out rfl rfl).mono ?_
        rintro e w7 ⟨rfl, hb⟩
        have QA := Lib.hid (QA.out.below hb)
        have QB := Lib.hid (QB.out.below hb)
        have QD := Lib.hid (QD.out.below hb)
        have QP := Lib.hid (QP.out.below hb)
        have B' := Lib.hid (below_t B.out hb)
        clear B
        have B := B'
        have hzB := B.out.size
        clear B'
        clear hb
        go_wp2_with fail
        refine (Writes_c QD.out).mono ?_
        rintro e w8 ⟨rfl, hw⟩
        obtain rfl := hw.symm
        clear hw
        go_wp2_with fail
        refine (Copy_c QP.out (by omega)).mono ?_
        rintro e w9 ⟨pc, rfl, SC, hq, hb⟩
        have DPC := Lib.hid (show ∀ k, S2 k → ¬ SC k from apart_new (fun k hk => (QP.out.ge hk).2) (fun k hk => (hq.ge hk).1))
        have QC := Lib.hid (hq.mono hzB)
        have QA := Lib.hid (QA.out.below hb)
        have QB := Lib.hid (QB.out.below hb)
        have QD := Lib.hid (QD.out.below hb)
        have QP := Lib.hid (QP.out.below hb)
        have B' := Lib.hid (below_t B.out hb)
        clear B
        have B := B'
        have hzB := B.out.size
        clear B'
        clear hq hb
        have DCP := Lib.hid (show ∀ k, SC k → ¬ S2 k from fun k ha hb => DPC.out k hb ha)
        have DAP := Lib.hid (show ∀ k, SA k → ¬ S2 k from fun k ha hb => DPA.out k hb ha)
        have DBP := Lib.hid (show ∀ k, SB k → ¬ S2 k from fun k ha hb => DPB.out k hb ha)
        clear DPC DPA DPB DBA DDA DDB
        go_wp2_with fail
        go_loopw [14] (fun v14 wr => ∃ (k : Nat) (SP : Nat → Prop), v14 = .int .i64 (k : Int) ∧ k ≤ n2 ∧ k ≤ 40 ∧ Dsk wr w.heap.size pp (moreTo dd M k) SP ∧ Dsk wr w.heap.size pa (moreTo dd M m) SA ∧ Dsk wr w.heap.size pb (moreTo (dd.cut dd.ws.length) M m) SB ∧ Dsk wr w.heap.size pd dd S1 ∧ Dsk wr w.heap.size pc dd SC ∧ (∀ k, SA k → ¬ SP k) ∧ (∀ k, SB k → ¬ SP k) ∧ (∀ k, S1 k → ¬ SP k) ∧ (∀ k, SC k → ¬ SP k) ∧ Below w.heap.size w wr) (fun v _ => 100 - (intOf v).toNat)
        case atStart => exact ⟨0, S2, rfl, Nat.zero_le _, by omega, QP.out, QA.out, QB.out, QD.out, QC.out, DAP.out, DBP.out, DDP.out, DCP.out, B.out⟩
        case round =>
          obtain ⟨i, SP, rfl, hin, hi4, hqp, hqa, hqb, hqd, hqc, dap, dbp, ddp, dcp, hbr⟩ := hrel
          clear QP QA QB QD QC DAP DBP DDP DCP B
          have QP := Lib.hid hqp
          have QA := Lib.hid hqa
          have QB := Lib.hid hqb
          have QD := Lib.hid hqd
          have QC := Lib.hid hqc
          have DAP := Lib.hid dap
          have DBP := Lib.hid dbp
          have DDP := Lib.hid ddp
          have DCP := Lib.hid dcp
          have B := Lib.hid hbr
          have hzB := hbr.size
          clear hqp hqa hqb hqd hqc dap dbp ddp dcp hbr
          by_cases hc : i < n2 ∧ i < 40
          · obtain ⟨hc1, hc2⟩ := hc
            have hiI : (i : Int) < (n2 : Int) := by omega
            have hiJ : (i : Int) < 40 := by omega
            obtain ⟨⟨xa, xs⟩, hx⟩ : ∃ x, M[i]? = some x := ⟨_, List.getElem?_eq_getElem (by rw [HN2.out]; exact hc1)⟩
            obtain ⟨b, o, hbo, hlt, hcs⟩ := HR2.out.at hx
            subst hbo
            have y0 := hcs 0 _ rfl
            have y1 := hcs 1 _ rfl
            have hk : encL.k = 2 := rfl
            rw [hk] at y0 y1
            have hol : o + i * 2 + 0 = o + i * 2 := rfl
            rw [hol] at y0
            have Y0 := Lib.hid y0
            have Y1 := Lib.hid y1
            have HLT := Lib.hid hlt
            have HX := Lib.hid hx
            clear hcs hk hol hx y0 y1 hlt
            obtain ⟨z, hz⟩ : ∃ z, writeE (moreTo dd M i) xa xs = z := ⟨_, rfl⟩
            have HWE := Lib.hid hz
            have HWD := Lib.hid (moreTo_succ (d := dd) HX.out).symm
            have hlm := more_len dd M i
            clear hz
            have x0 := (B.out.cell (p := ⟨b, o + i * 2, none⟩) HLT.out).trans Y0.out
            have x1 := (B.out.cell (p := ⟨b, o + i * 2 + 1, none⟩) HLT.out).trans Y1.out
            have gl := Nat.lt_of_lt_of_le HLT.out hzB
            go_wp2_with fail
            refine wp_region_noPanic ?_
            refine wp_region_held_drew (S := fun W => Fr SP wr W) (by kernel_rfl) ((Fr.refl SP wr).drew) (fun hHeld => ?_)
            refine wpAnyH_take (i := 0) (oi := ⟨some 101, _, _, _, _, _⟩) (v := .pointer (some ⟨pp, 0, none⟩)) rfl (by kernel_rfl) (by kernel_rfl) (by kernel_rfl) (fun _ _ _ h => h) (Or.inl ⟨by rfl, fun W hSW => by go_simp⟩) hHeld ?_
            simp only [Act.put, List.setIfInBounds_toArray, List.set_cons_zero, List.set_cons_succ]
            refine wpAnyH_take (i := 1) (oi := ⟨some 102, _, _, _, _, _⟩) (v := .slice (some ⟨b, o, none⟩) n2 c2) rfl (by kernel_rfl) (by kernel_rfl) (by kernel_rfl) (fun _ _ _ h => h) (Or.inl ⟨by rfl, fun W hSW => by go_simp⟩) hHeld ?_
            simp only [Act.put, List.setIfInBounds_toArray, List.set_cons_zero, List.set_cons_succ]
            refine wpAnyH_take (i := 2) (oi := ⟨some 103, _, _, _, _, _⟩) (v := .int .i64 (i : Int)) rfl (by kernel_rfl) (by kernel_rfl) (by kernel_rfl) (fun _ _ _ h => h) (Or.inl ⟨by rfl, fun W hSW => by go_simp⟩) hHeld ?_
            simp only [Act.put, List.setIfInBounds_toArray, List.set_cons_zero, List.set_cons_succ]
            refine wpAnyH_take (i := 3) (oi := ⟨some 104, _, _, _, _, _⟩) (v := .pointer (some ⟨b, o + i * 2, none⟩)) rfl (by kernel_rfl) (by kernel_rfl) (by kernel_rfl) (fun _ _ _ h => h) (Or.inl ⟨by rfl, fun W hSW => by go_simp⟩) hHeld ?_
            simp only [Act.put, List.setIfInBounds_toArray, List.set_cons_zero, List.set_cons_succ]
            refine wpAnyH_take (i := 4) (oi := ⟨some 105, _, _, _, _, _⟩) (v := .pointer (some ⟨b, o + i * 2, none⟩)) rfl (by kernel_rfl) (by kernel_rfl) (by kernel_rfl) (fun _ _ _ h => h) (Or.inl ⟨by rfl, fun W hSW => by go_simp⟩) hHeld ?_
            simp only [Act.put, List.setIfInBounds_toArray, List.set_cons_zero, List.set_cons_succ]
            refine wpAnyH_take (i := 5) (oi := ⟨some 106, _, _, _, _, _⟩) (v := .int .i64 xa) rfl (by kernel_rfl) (by kernel_rfl) (by kernel_rfl) (fun _ _ _ h => h) (Or.inl ⟨by rfl, fun W hSW => by have a0 := (hSW.cell (p := ⟨b, o + i * 2, none⟩) gl (fun q => by have h1 : w.heap.size ≤ b := (QP.out.ge q).1; have := HLT.out; omega)).trans x0; go_simp⟩) hHeld ?_
            simp only [Act.put, List.setIfInBounds_toArray, List.set_cons_zero, List.set_cons_succ]
            refine wpAnyH_take (i := 6) (oi := ⟨some 107, _, _, _, _, _⟩) (v := .slice (some ⟨b, o, none⟩) n2 c2) rfl (by kernel_rfl) (by kernel_rfl) (by kernel_rfl) (fun _ _ _ h => h) (Or.inl ⟨by rfl, fun W hSW => by go_simp⟩) hHeld ?_
            simp only [Act.put, List.setIfInBounds_toArray, List.set_cons_zero, List.set_cons_succ]
            refine wpAnyH_take (i := 7) (oi := ⟨some 108, _, _, _, _, _⟩) (v := .int .i64 (i : Int)) rfl (by kernel_rfl) (by kernel_rfl) (by kernel_rfl) (fun _ _ _ h => h) (Or.inl ⟨by rfl, fun W hSW => by go_simp⟩) hHeld ?_
            simp only [Act.put, List.setIfInBounds_toArray, List.set_cons_zero, List.set_cons_succ]
            refine wpAnyH_take (i := 8) (oi := ⟨some 109, _, _, _, _, _⟩) (v := .pointer (some ⟨b, o + i * 2, none⟩)) rfl (by kernel_rfl) (by kernel_rfl) (by kernel_rfl) (fun _ _ _ h => h) (Or.inl ⟨by rfl, fun W hSW => by go_simp⟩) hHeld ?_
            simp only [Act.put, List.setIfInBounds_toArray, List.set_cons_zero, List.set_cons_succ]
            refine wpAnyH_take (i := 9) (oi := ⟨some 110, _, _, _, _, _⟩) (v := .pointer (some ⟨b, o + i * 2 + 1, none⟩)) rfl (by kernel_rfl) (by kernel_rfl) (by kernel_rfl) (fun _ _ _ h => h) (Or.inl ⟨by rfl, fun W hSW => by go_simp⟩) hHeld ?_
            simp only [Act.put, List.setIfInBounds_toArray, List.set_cons_zero, List.set_cons_succ]
            refine wpAnyH_take (i := 10) (oi := ⟨some 111, _, _, _, _, _⟩) (v := .string (str xs)) rfl (by kernel_rfl) (by kernel_rfl) (by kernel_rfl) (fun _ _ _ h => h) (Or.inl ⟨by rfl, fun W hSW => by have a0 := (hSW.cell (p := ⟨b, o + i * 2 + 1, none⟩) gl (fun q => by have h1 : w.heap.size ≤ b := (QP.out.ge q).1; have := HLT.out; omega)).trans x1; go_simp⟩) hHeld ?_
            simp only [Act.put, List.setIfInBounds_toArray, List.set_cons_zero, List.set_cons_succ]
            refine wpAnyH_ready (rs := [11]) (by kernel_rfl) (by simp) ?_
            refine AllReadyH.cons (o := ⟨some 112, _, _, _, _, _⟩) rfl (fun K hK => ?_) AllReadyH.nil
            go_simp
            refine (Write_i QP.out.drew (by omega) HWD.out HWE.out).mono ?_
            rintro e w5 ⟨rfl, S7, hq, hf, hn⟩
            have DAP' := Lib.hid (show ∀ k, SA k → ¬ S7 k from apart_turned (w := wr) (fun k hk => (QA.out.ge hk).2) DAP.out hn)
            have QA' := Lib.hid ((QA.out.drew).fr hf DAP.out)
            have DBP' := Lib.hid (show ∀ k, SB k → ¬ S7 k from apart_turned (w := wr) (fun k hk => (QB.out.ge hk).2) DBP.out hn)
            have QB' := Lib.hid ((QB.out.drew).fr hf DBP.out)
            have DDP' := Lib.hid (show ∀ k, S1 k → ¬ S7 k from apart_turned (w := wr) (fun k hk => (QD.out.ge hk).2) DDP.out hn)
            have QD' := Lib.hid ((QD.out.drew).fr hf DDP.out)
            have DCP' := Lib.hid (show ∀ k, SC k → ¬ S7 k from apart_turned (w := wr) (fun k hk => (QC.out.ge hk).2) DCP.out hn)
            have QC' := Lib.hid ((QC.out.drew).fr hf DCP.out)
            have B' := Lib.hid (B.out.drew.trans (QP.out.drew.toBelow hf))
            have QP' := Lib.hid hq
            have HFR := Lib.hid ((Fr.refl SP wr).drew.trans hf (fun i hi => .inl hi))
            clear hq hf hn
            go_wp2_with fail
            refine hK.out _ _ HFR.out (fun hHeld => ?_)
            clear hK K
            refine wpAnyH_done (by kernel_rfl) ?_ _
            refine NoPanic.normal ?_
            clear hHeld HFR
            clear DAP QA
            have DAP := DAP'
            have QA := QA'
            clear DAP' QA'
            clear DBP QB
            have DBP := DBP'
            have QB := QB'
            clear DBP' QB'
            clear DDP QD
            have DDP := DDP'
            have QD := QD'
            clear DDP' QD'
            clear DCP QC
            have DCP := DCP'
            have QC := QC'
            clear DCP' QC'
            clear B QP
            have B := B'
            have QP := QP'
            have hzB := B.out.size
            clear B' QP'
            clear x0 x1 gl
            clear HWE HWD hlm
            go_wp2_with fail
            go_roundw
            case measure => first | (simp [intOf]; done) | (simp [intOf]; omega)
            case rel => exact ⟨i + 1, S7, by first | rfl | (congr 1; omega), by omega, by omega, QP.out, QA.out, QB.out, QD.out, QC.out, DAP.out, DBP.out, DDP.out, DCP.out, B.out⟩
          · by_cases hc1 : i < n2
            · have hiI : (i : Int) < (n2 : Int) := by omega
              have hiJ : ¬ (i : Int) < 40 := by omega
              have him : i = m := by have := HM.out; omega
              rw [him] at QP
              have HBN := Lib.hid (show (moreTo (dd.cut dd.ws.length) M m).n = (moreTo dd M m).n by rw [more_n, more_n]; rfl)
              have HBW := Lib.hid (show (moreTo (dd.cut dd.ws.length) M m).now = (moreTo dd M m).now from more_now (d := dd.cut dd.ws.length) (d' := dd) rfl (cut_all dd) M m)
              clear him
              go_wp2_with fail
              refine (alike_c QC.out QD.out rfl rfl).mono ?_
              rintro e w10 ⟨rfl, hb⟩
              have QA := Lib.hid (QA.out.below hb)
              have QB := Lib.hid (QB.out.below hb)
              have QP := Lib.hid (QP.out.below hb)
              have B' := Lib.hid (below_t B.out hb)
              clear B
              have B := B'
              have hzB := B.out.size
              clear B'
              clear hb
              go_wp2_with fail
              refine (alike_c QA.out QP.out rfl rfl).mono ?_
              rintro e w11 ⟨rfl, hb⟩
              have QB := Lib.hid (QB.out.below hb)
              have QP := Lib.hid (QP.out.below hb)
              have B' := Lib.hid (below_t B.out hb)
              clear B
              have B := B'
              have hzB := B.out.size
              clear B'
              clear hb
              go_wp2_with fail
              refine (alike_c QB.out QP.out HBN.out HBW.out).mono ?_
              rintro e w12 ⟨rfl, hb⟩
              have B' := Lib.hid (below_t B.out hb)
              clear B
              have B := B'
              have hzB := B.out.size
              clear B'
              clear hb
              go_wp2_with fail
              refine (works_c).mono ?_
              rintro e wz ⟨rfl, hb⟩
              have B' := Lib.hid (below_t B.out hb)
              clear B
              have B := B'
              have hzB := B.out.size
              clear B'
              clear hb
              go_wp2_with fail
              go_ret
              exact ⟨rfl, B.out⟩
            · have hiI : ¬ (i : Int) < (n2 : Int) := by omega
              have him : i = m := by have := HM.out; omega
              rw [him] at QP
              have HBN := Lib.hid (show (moreTo (dd.cut dd.ws.length) M m).n = (moreTo dd M m).n by rw [more_n, more_n]; rfl)
              have HBW := Lib.hid (show (moreTo (dd.cut dd.ws.length) M m).now = (moreTo dd M m).now from more_now (d := dd.cut dd.ws.length) (d' := dd) rfl (cut_all dd) M m)
              clear him
              go_wp2_with fail
              refine (alike_c QC.out QD.out rfl rfl).mono ?_
              rintro e w10 ⟨rfl, hb⟩
              have QA := Lib.hid (QA.out.below hb)
              have QB := Lib.hid (QB.out.below hb)
              have QP := Lib.hid (QP.out.below hb)
              have B' := Lib.hid (below_t B.out hb)
              clear B
              have B := B'
              have hzB := B.out.size
              clear B'
              clear hb
              go_wp2_with fail
              refine (alike_c QA.out QP.out rfl rfl).mono ?_
              rintro e w11 ⟨rfl, hb⟩
              have QB := Lib.hid (QB.out.below hb)
              have QP := Lib.hid (QP.out.below hb)
              have B' := Lib.hid (below_t B.out hb)
              clear B
              have B := B'
              have hzB := B.out.size
              clear B'
              clear hb
              go_wp2_with fail
              refine (alike_c QB.out QP.out HBN.out HBW.out).mono ?_
              rintro e w12 ⟨rfl, hb⟩
              have B' := Lib.hid (below_t B.out hb)
              clear B
              have B := B'
              have hzB := B.out.size
              clear B'
              clear hb
              go_wp2_with fail
              refine (works_c).mono ?_
              rintro e wz ⟨rfl, hb⟩
              have B' := Lib.hid (below_t B.out hb)
              clear B
              have B := B'
              have hzB := B.out.size
              clear B'
              clear hb
              go_wp2_with fail
              go_ret
              exact ⟨rfl, B.out⟩
      · have hiI : ¬ (i : Int) < (n2 : Int) := by omega
        have him : i = m := by have := HM.out; omega
        have HI := Lib.hid him
        rw [him] at QA QB
        clear him
        go_wp2_with fail
        refine (alike_c QD.out QP.out rfl rfl).mono ?_
        rintro e w7 ⟨rfl, hb⟩
        have QA := Lib.hid (QA.out.below hb)
        have QB := Lib.hid (QB.out.below hb)
        have QD := Lib.hid (QD.out.below hb)
        have QP := Lib.hid (QP.out.below hb)
        have B' := Lib.hid (below_t B.out hb)
        clear B
        have B := B'
        have hzB := B.out.size
        clear B'
        clear hb
        go_wp2_with fail
        refine (Writes_c QD.out).mono ?_
        rintro e w8 ⟨rfl, hw⟩
        obtain rfl := hw.symm
        clear hw
        go_wp2_with fail
        refine (Copy_c QP.out (by omega)).mono ?_
        rintro e w9 ⟨pc, rfl, SC, hq, hb⟩
        have DPC := Lib.hid (show ∀ k, S2 k → ¬ SC k from apart_new (fun k hk => (QP.out.ge hk).2) (fun k hk => (hq.ge hk).1))
        have QC := Lib.hid (hq.mono hzB)
        have QA := Lib.hid (QA.out.below hb)
        have QB := Lib.hid (QB.out.below hb)
        have QD := Lib.hid (QD.out.below hb)
        have QP := Lib.hid (QP.out.below hb)
        have B' := Lib.hid (below_t B.out hb)
        clear B
        have B := B'
        have hzB := B.out.size
        clear B'
        clear hq hb
        have DCP := Lib.hid (show ∀ k, SC k → ¬ S2 k from fun k ha hb => DPC.out k hb ha)
        have DAP := Lib.hid (show ∀ k, SA k → ¬ S2 k from fun k ha hb => DPA.out k hb ha)
        have DBP := Lib.hid (show ∀ k, SB k → ¬ S2 k from fun k ha hb => DPB.out k hb ha)
        clear DPC DPA DPB DBA DDA DDB
        go_wp2_with fail
        go_loopw [14] (fun v14 wr => ∃ (k : Nat) (SP : Nat → Prop), v14 = .int .i64 (k : Int) ∧ k ≤ n2 ∧ k ≤ 40 ∧ Dsk wr w.heap.size pp (moreTo dd M k) SP ∧ Dsk wr w.heap.size pa (moreTo dd M m) SA ∧ Dsk wr w.heap.size pb (moreTo (dd.cut dd.ws.length) M m) SB ∧ Dsk wr w.heap.size pd dd S1 ∧ Dsk wr w.heap.size pc dd SC ∧ (∀ k, SA k → ¬ SP k) ∧ (∀ k, SB k → ¬ SP k) ∧ (∀ k, S1 k → ¬ SP k) ∧ (∀ k, SC k → ¬ SP k) ∧ Below w.heap.size w wr) (fun v _ => 100 - (intOf v).toNat)
        case atStart => exact ⟨0, S2, rfl, Nat.zero_le _, by omega, QP.out, QA.out, QB.out, QD.out, QC.out, DAP.out, DBP.out, DDP.out, DCP.out, B.out⟩
        case round =>
          obtain ⟨i, SP, rfl, hin, hi4, hqp, hqa, hqb, hqd, hqc, dap, dbp, ddp, dcp, hbr⟩ := hrel
          clear QP QA QB QD QC DAP DBP DDP DCP B
          have QP := Lib.hid hqp
          have QA := Lib.hid hqa
          have QB := Lib.hid hqb
          have QD := Lib.hid hqd
          have QC := Lib.hid hqc
          have DAP := Lib.hid dap
          have DBP := Lib.hid dbp
          have DDP := Lib.hid ddp
          have DCP := Lib.hid dcp
          have B := Lib.hid hbr
          have hzB := hbr.size
          clear hqp hqa hqb hqd hqc dap dbp ddp dcp hbr
          by_cases hc : i < n2 ∧ i < 40
          · obtain ⟨hc1, hc2⟩ := hc
            have hiI : (i : Int) < (n2 : Int) := by omega
            have hiJ : (i : Int) < 40 := by omega
            obtain ⟨⟨xa, xs⟩, hx⟩ : ∃ x, M[i]? = some x := ⟨_, List.getElem?_eq_getElem (by rw [HN2.out]; exact hc1)⟩
            obtain ⟨b, o, hbo, hlt, hcs⟩ := HR2.out.at hx
            subst hbo
            have y0 := hcs 0 _ rfl
            have y1 := hcs 1 _ rfl
            have hk : encL.k = 2 := rfl
            rw [hk] at y0 y1
            have hol : o + i * 2 + 0 = o + i * 2 := rfl
            rw [hol] at y0
            have Y0 := Lib.hid y0
            have Y1 := Lib.hid y1
            have HLT := Lib.hid hlt
            have HX := Lib.hid hx
            clear hcs hk hol hx y0 y1 hlt
            obtain ⟨z, hz⟩ : ∃ z, writeE (moreTo dd M i) xa xs = z := ⟨_, rfl⟩
            have HWE := Lib.hid hz
            have HWD := Lib.hid (moreTo_succ (d := dd) HX.out).symm
            have hlm := more_len dd M i
            clear hz
            have x0 := (B.out.cell (p := ⟨b, o + i * 2, none⟩) HLT.out).trans Y0.out
            have x1 := (B.out.cell (p := ⟨b, o + i * 2 + 1, none⟩) HLT.out).trans Y1.out
            have gl := Nat.lt_of_lt_of_le HLT.out hzB
            go_wp2_with fail
            refine wp_region_noPanic ?_
            refine wp_region_held_drew (S := fun W => Fr SP wr W) (by kernel_rfl) ((Fr.refl SP wr).drew) (fun hHeld => ?_)
            refine wpAnyH_take (i := 0) (oi := ⟨some 101, _, _, _, _, _⟩) (v := .pointer (some ⟨pp, 0, none⟩)) rfl (by kernel_rfl) (by kernel_rfl) (by kernel_rfl) (fun _ _ _ h => h) (Or.inl ⟨by rfl, fun W hSW => by go_simp⟩) hHeld ?_
            simp only [Act.put, List.setIfInBounds_toArray, List.set_cons_zero, List.set_cons_succ]
            refine wpAnyH_take (i := 1) (oi := ⟨some 102, _, _, _, _, _⟩) (v := .slice (some ⟨b, o, none⟩) n2 c2) rfl (by kernel_rfl) (by kernel_rfl) (by kernel_rfl) (fun _ _ _ h => h) (Or.inl ⟨by rfl, fun W hSW => by go_simp⟩) hHeld ?_
            simp only [Act.put, List.setIfInBounds_toArray, List.set_cons_zero, List.set_cons_succ]
            refine wpAnyH_take (i := 2) (oi := ⟨some 103, _, _, _, _, _⟩) (v := .int .i64 (i : Int)) rfl (by kernel_rfl) (by kernel_rfl) (by kernel_rfl) (fun _ _ _ h => h) (Or.inl ⟨by rfl, fun W hSW => by go_simp⟩) hHeld ?_
            simp only [Act.put, List.setIfInBounds_toArray, List.set_cons_zero, List.set_cons_succ]
            refine wpAnyH_take (i := 3) (oi := ⟨some 104, _, _, _, _, _⟩) (v := .pointer (some ⟨b, o + i * 2, none⟩)) rfl (by kernel_rfl) (by kernel_rfl) (by kernel_rfl) (fun _ _ _ h => h) (Or.inl ⟨by rfl, fun W hSW => by go_simp⟩) hHeld ?_
            simp only [Act.put, List.setIfInBounds_toArray, List.set_cons_zero, List.set_cons_succ]
            refine wpAnyH_take (i := 4) (oi := ⟨some 105, _, _, _, _, _⟩) (v := .pointer (some ⟨b, o + i * 2, none⟩)) rfl (by kernel_rfl) (by kernel_rfl) (by kernel_rfl) (fun _ _ _ h => h) (Or.inl ⟨by rfl, fun W hSW => by go_simp⟩) hHeld ?_
            simp only [Act.put, List.setIfInBounds_toArray, List.set_cons_zero, List.set_cons_succ]
            refine wpAnyH_take (i := 5) (oi := ⟨some 106, _, _, _, _, _⟩) (v := .int .i64 xa) rfl (by kernel_rfl) (by kernel_rfl) (by kernel_rfl) (fun _ _ _ h => h) (Or.inl ⟨by rfl, fun W hSW => by have a0 := (hSW.cell (p := ⟨b, o + i * 2, none⟩) gl (fun q => by have h1 : w.heap.size ≤ b := (QP.out.ge q).1; have := HLT.out; omega)).trans x0; go_simp⟩) hHeld ?_
            simp only [Act.put, List.setIfInBounds_toArray, List.set_cons_zero, List.set_cons_succ]
            refine wpAnyH_take (i := 6) (oi := ⟨some 107, _, _, _, _, _⟩) (v := .slice (some ⟨b, o, none⟩) n2 c2) rfl (by kernel_rfl) (by kernel_rfl) (by kernel_rfl) (fun _ _ _ h => h) (Or.inl ⟨by rfl, fun W hSW => by go_simp⟩) hHeld ?_
            simp only [Act.put, List.setIfInBounds_toArray, List.set_cons_zero, List.set_cons_succ]
            refine wpAnyH_take (i := 7) (oi := ⟨some 108, _, _, _, _, _⟩) (v := .int .i64 (i : Int)) rfl (by kernel_rfl) (by kernel_rfl) (by kernel_rfl) (fun _ _ _ h => h) (Or.inl ⟨by rfl, fun W hSW => by go_simp⟩) hHeld ?_
            simp only [Act.put, List.setIfInBounds_toArray, List.set_cons_zero, List.set_cons_succ]
            refine wpAnyH_take (i := 8) (oi := ⟨some 109, _, _, _, _, _⟩) (v := .pointer (some ⟨b, o + i * 2, none⟩)) rfl (by kernel_rfl) (by kernel_rfl) (by kernel_rfl) (fun _ _ _ h => h) (Or.inl ⟨by rfl, fun W hSW => by go_simp⟩) hHeld ?_
            simp only [Act.put, List.setIfInBounds_toArray, List.set_cons_zero, List.set_cons_succ]
            refine wpAnyH_take (i := 9) (oi := ⟨some 110, _, _, _, _, _⟩) (v := .pointer (some ⟨b, o + i * 2 + 1, none⟩)) rfl (by kernel_rfl) (by kernel_rfl) (by kernel_rfl) (fun _ _ _ h => h) (Or.inl ⟨by rfl, fun W hSW => by go_simp⟩) hHeld ?_
            simp only [Act.put, List.setIfInBounds_toArray, List.set_cons_zero, List.set_cons_succ]
            refine wpAnyH_take (i := 10) (oi := ⟨some 111, _, _, _, _, _⟩) (v := .string (str xs)) rfl (by kernel_rfl) (by kernel_rfl) (by kernel_rfl) (fun _ _ _ h => h) (Or.inl ⟨by rfl, fun W hSW => by have a0 := (hSW.cell (p := ⟨b, o + i * 2 + 1, none⟩) gl (fun q => by have h1 : w.heap.size ≤ b := (QP.out.ge q).1; have := HLT.out; omega)).trans x1; go_simp⟩) hHeld ?_
            simp only [Act.put, List.setIfInBounds_toArray, List.set_cons_zero, List.set_cons_succ]
            refine wpAnyH_ready (rs := [11]) (by kernel_rfl) (by simp) ?_
            refine AllReadyH.cons (o := ⟨some 112, _, _, _, _, _⟩) rfl (fun K hK => ?_) AllReadyH.nil
            go_simp
            refine (Write_i QP.out.drew (by omega) HWD.out HWE.out).mono ?_
            rintro e w5 ⟨rfl, S7, hq, hf, hn⟩
            have DAP' := Lib.hid (show ∀ k, SA k → ¬ S7 k from apart_turned (w := wr) (fun k hk => (QA.out.ge hk).2) DAP.out hn)
            have QA' := Lib.hid ((QA.out.drew).fr hf DAP.out)
            have DBP' := Lib.hid (show ∀ k, SB k → ¬ S7 k from apart_turned (w := wr) (fun k hk => (QB.out.ge hk).2) DBP.out hn)
            have QB' := Lib.hid ((QB.out.drew).fr hf DBP.out)
            have DDP' := Lib.hid (show ∀ k, S1 k → ¬ S7 k from apart_turned (w := wr) (fun k hk => (QD.out.ge hk).2) DDP.out hn)
            have QD' := Lib.hid ((QD.out.drew).fr hf DDP.out)
            have DCP' := Lib.hid (show ∀ k, SC k → ¬ S7 k from apart_turned (w := wr) (fun k hk => (QC.out.ge hk).2) DCP.out hn)
            have QC' := Lib.hid ((QC.out.drew).fr hf DCP.out)
            have B' := Lib.hid (B.out.drew.trans (QP.out.drew.toBelow hf))
            have QP' := Lib.hid hq
            have HFR := Lib.hid ((Fr.refl SP wr).drew.trans hf (fun i hi => .inl hi))
            clear hq hf hn
            go_wp2_with fail
            refine hK.out _ _ HFR.out (fun hHeld => ?_)
            clear hK K
            refine wpAnyH_done (by kernel_rfl) ?_ _
            refine NoPanic.normal ?_
            clear hHeld HFR
            clear DAP QA
            have DAP := DAP'
            have QA := QA'
            clear DAP' QA'
            clear DBP QB
            have DBP := DBP'
            have QB := QB'
            clear DBP' QB'
            clear DDP QD
            have DDP := DDP'
            have QD := QD'
            clear DDP' QD'
            clear DCP QC
            have DCP := DCP'
            have QC := QC'
            clear DCP' QC'
            clear B QP
            have B := B'
            have QP := QP'
            have hzB := B.out.size
            clear B' QP'
            clear x0 x1 gl
            clear HWE HWD hlm
            go_wp2_with fail
            go_roundw
            case measure => first | (simp [intOf]; done) | (simp [intOf]; omega)
            case rel => exact ⟨i + 1, S7, by first | rfl | (congr 1; omega), by omega, by omega, QP.out, QA.out, QB.out, QD.out, QC.out, DAP.out, DBP.out, DDP.out, DCP.out, B.out⟩
          · by_cases hc1 : i < n2
            · have hiI : (i : Int) < (n2 : Int) := by omega
              have hiJ : ¬ (i : Int) < 40 := by omega
              have him : i = m := by have := HM.out; omega
              rw [him] at QP
              have HBN := Lib.hid (show (moreTo (dd.cut dd.ws.length) M m).n = (moreTo dd M m).n by rw [more_n, more_n]; rfl)
              have HBW := Lib.hid (show (moreTo (dd.cut dd.ws.length) M m).now = (moreTo dd M m).now from more_now (d := dd.cut dd.ws.length) (d' := dd) rfl (cut_all dd) M m)
              clear him
              go_wp2_with fail
              refine (alike_c QC.out QD.out rfl rfl).mono ?_
              rintro e w10 ⟨rfl, hb⟩
              have QA := Lib.hid (QA.out.below hb)
              have QB := Lib.hid (QB.out.below hb)
              have QP := Lib.hid (QP.out.below hb)
              have B' := Lib.hid (below_t B.out hb)
              clear B
              have B := B'
              have hzB := B.out.size
              clear B'
              clear hb
              go_wp2_with fail
              refine (alike_c QA.out QP.out rfl rfl).mono ?_
              rintro e w11 ⟨rfl, hb⟩
              have QB := Lib.hid (QB.out.below hb)
              have QP := Lib.hid (QP.out.below hb)
              have B' := Lib.hid (below_t B.out hb)
              clear B
              have B := B'
              have hzB := B.out.size
              clear B'
              clear hb
              go_wp2_with fail
              refine (alike_c QB.out QP.out HBN.out HBW.out).mono ?_
              rintro e w12 ⟨rfl, hb⟩
              have B' := Lib.hid (below_t B.out hb)
              clear B
              have B := B'
              have hzB := B.out.size
              clear B'
              clear hb
              go_wp2_with fail
              refine (works_c).mono ?_
              rintro e wz ⟨rfl, hb⟩
              have B' := Lib.hid (below_t B.out hb)
              clear B
              have B := B'
              have hzB := B.out.size
              clear B'
              clear hb
              go_wp2_with fail
              go_ret
              exact ⟨rfl, B.out⟩
            · have hiI : ¬ (i : Int) < (n2 : Int) := by omega
              have him : i = m := by have := HM.out; omega
              rw [him] at QP
              have HBN := Lib.hid (show (moreTo (dd.cut dd.ws.length) M m).n = (moreTo dd M m).n by rw [more_n, more_n]; rfl)
              have HBW := Lib.hid (show (moreTo (dd.cut dd.ws.length) M m).now = (moreTo dd M m).now from more_now (d := dd.cut dd.ws.length) (d' := dd) rfl (cut_all dd) M m)
              clear him
              go_wp2_with fail
              refine (alike_c QC.out QD.out rfl rfl).mono ?_
              rintro e w10 ⟨rfl, hb⟩
              have QA := Lib.hid (QA.out.below hb)
              have QB := Lib.hid (QB.out.below hb)
              have QP := Lib.hid (QP.out.below hb)
              have B' := Lib.hid (below_t B.out hb)
              clear B
              have B := B'
              have hzB := B.out.size
              clear B'
              clear hb
              go_wp2_with fail
              refine (alike_c QA.out QP.out rfl rfl).mono ?_
              rintro e w11 ⟨rfl, hb⟩
              have QB := Lib.hid (QB.out.below hb)
              have QP := Lib.hid (QP.out.below hb)
              have B' := Lib.hid (below_t B.out hb)
              clear B
              have B := B'
              have hzB := B.out.size
              clear B'
              clear hb
              go_wp2_with fail
              refine (alike_c QB.out QP.out HBN.out HBW.out).mono ?_
              rintro e w12 ⟨rfl, hb⟩
              have B' := Lib.hid (below_t B.out hb)
              clear B
              have B := B'
              have hzB := B.out.size
              clear B'
              clear hb
              go_wp2_with fail
              refine (works_c).mono ?_
              rintro e wz ⟨rfl, hb⟩
              have B' := Lib.hid (below_t B.out hb)
              clear B
              have B := B'
              have hzB := B.out.size
              clear B'
              clear hb
              go_wp2_with fail
              go_ret
              exact ⟨rfl, B.out⟩
end SecW
end Go.Proofs.YtjcmpcdalghniaaDoor
