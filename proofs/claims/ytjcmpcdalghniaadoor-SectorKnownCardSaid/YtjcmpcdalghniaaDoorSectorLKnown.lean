/-
  SectorKnown: the chapter's examples; disks that are none.
-/
import Derived.Test.YtjcmpcdalghniaaDoorSectorWorks
import Derived.Test.YtjcmpcdalghniaaDoorSectorBlank
namespace Go.Proofs.YtjcmpcdalghniaaDoor
open Go.RowKit
set_option linter.unusedVariables false
set_option linter.unusedSimpArgs false
set_option maxRecDepth 100000
namespace SecW
open BlkP RowG FrS PushG JournalP SecP
/-- The chapter's disk. -/
def k1 : Dk := writeD (SecP.mk 256) 3 [97]
def k2 : Dk := writeD k1.mark 3 [98]
def k3 : Dk := writeD k2 5 [99]
def kd : Dk := writeD k3 3 []
theorem kd_n : kd.n = 256 := rfl
theorem kd_now (i : Nat) : kd.now i = if i = 5 then pad [99] else SecP.blank := by
  have e : kd.now = upd (upd (upd (upd zero 3 (pad [97])) 3 (pad [98])) 5 (pad [99])) 3 (pad []) := rfl
  rw [e]
  unfold upd
  by_cases h3 : i = 3
  · subst h3
    rfl
  · by_cases h5 : i = 5
    · rw [if_neg h3, if_pos h5, if_pos h5]
    · rw [if_neg h3, if_neg h5, if_neg h3, if_neg h3, if_neg h5]
      rfl
theorem pad_ne : pad [99] ≠ SecP.blank := fun e => by
  have h := congrArg (fun l : Sec => l[0]?) e
  have h1 : (pad [99])[0]? = some 99 := rfl
  have h2 : SecP.blank[0]? = some 0 := rfl
  simp only [h1, h2] at h
  exact absurd (Option.some.inj h) (by decide)
theorem kd_used : used kd.n kd.now = [5] := by
  refine (used_is (n := kd.n) (s := kd.now) (l := [5]) (by simp) (fun x => ?_)).symm
  rw [kd_now, kd_n, List.mem_singleton]
  constructor
  · rintro rfl
    exact ⟨by omega, by rw [if_pos rfl]; exact pad_ne⟩
  · rintro ⟨_, h⟩
    by_cases h5 : x = 5
    · exact h5
    · rw [if_neg h5] at h
      exact absurd rfl h
theorem kd_ws : kd.ws = [(3, pad [98]), (5, pad [99]), (3, pad [])] := rfl
theorem kd_cut : ∀ k, k < 3 → ∃ b : UInt8, readD (kd.cut k) 3 = pad [b] ∧ ([97, 98, 98] : Sec)[k]? = some b
  | 0, _ => ⟨97, rfl, rfl⟩
  | 1, _ => ⟨98, rfl, rfl⟩
  | 2, _ => ⟨98, rfl, rfl⟩
  | k + 3, h => by omega
theorem wrote {i : Int} {s : Sec} {d : Dk} (h : inD d i = true) (hs : s.length ≤ 512) : writeE d i s = 0 := by
  unfold writeE
  rw [h]
  simp [hs]
set_option maxHeartbeats 16000000 in
theorem law_known {w : World} :
    Calls Tryd.prog 8 #[] w fun e w' => e = .returned (.bool true) ∧ Below w.heap.size w w' := by
  have B0 := Lib.hid (Below.refl w.heap.size w)
  have B := Lib.hid (Below.refl w.heap.size w)
  have hzB : w.heap.size ≤ w.heap.size := Nat.le_refl _
  have N1 := Lib.hid (show writeE (SecP.mk 256) 3 [97] = 0 by decide)
  have N2 := Lib.hid (show writeE k1.mark 3 [98] = 0 by decide)
  have N3 := Lib.hid (show writeE k2 5 [99] = 0 by decide)
  have N4 := Lib.hid (show writeE k3 3 [] = 0 by decide)
  go_enter Tryd.func8, Tryd.ntmps8
  go_wp2_with fail
  refine (New_i (k := 256) rfl (by omega) (by omega)).mono ?_
  rintro e w1 ⟨pd, rfl, S0, hq, hb⟩
  have QD := Lib.hid (hq.mono hzB)
  have B' := Lib.hid (below_t B.out hb)
  clear B
  have B := B'
  have hzB := B.out.size
  clear B'
  clear hq hb
  go_wp2_with fail
  refine (Write_i (s := [97]) QD.out (by decide) (show _ = k1 from rfl) N1.out).mono ?_
  rintro e w2 ⟨rfl, S1, hq, hf, hn⟩
  have B' := Lib.hid (B.out.trans (QD.out.toBelow hf))
  have QD' := Lib.hid hq
  clear B QD
  have B := B'
  have QD := QD'
  have hzB := B.out.size
  clear B' QD' hq hf hn
  go_wp2_with fail
  refine (Mark_c QD.out).mono ?_
  rintro e w3 ⟨rfl, S2, hq, hf, hn⟩
  have B' := Lib.hid (B.out.trans (QD.out.toBelow hf))
  have QD' := Lib.hid hq
  clear B QD
  have B := B'
  have QD := QD'
  have hzB := B.out.size
  clear B' QD' hq hf hn
  go_wp2_with fail
  refine (Write_i (s := [98]) QD.out (by decide) (show _ = k2 from rfl) N2.out).mono ?_
  rintro e w4 ⟨rfl, S3, hq, hf, hn⟩
  have B' := Lib.hid (B.out.trans (QD.out.toBelow hf))
  have QD' := Lib.hid hq
  clear B QD
  have B := B'
  have QD := QD'
  have hzB := B.out.size
  clear B' QD' hq hf hn
  go_wp2_with fail
  refine (Write_i (s := [99]) QD.out (by decide) (show _ = k3 from rfl) N3.out).mono ?_
  rintro e w5 ⟨rfl, S4, hq, hf, hn⟩
  have B' := Lib.hid (B.out.trans (QD.out.toBelow hf))
  have QD' := Lib.hid hq
  clear B QD
  have B := B'
  have QD := QD'
  have hzB := B.out.size
  clear B' QD' hq hf hn
  go_wp2_with fail
  refine (Write_i (s := []) QD.out (by decide) (show _ = kd from rfl) N4.out).mono ?_
  rintro e w6 ⟨rfl, S5, hq, hf, hn⟩
  have B' := Lib.hid (B.out.trans (QD.out.toBelow hf))
  have QD' := Lib.hid hq
  clear B QD
  have B := B'
  have QD := QD'
  have hzB := B.out.size
  clear B' QD' hq hf hn
  go_wp2_with fail
  have hl3 : kd.ws.length = 3 := rfl
  have HL := Lib.hid (show kd.ws.length ≤ 1000 by decide)
  have R3 := Lib.hid (show readD kd 3 = SecP.blank from rfl)
  have E3 := Lib.hid (show readE kd 3 = 0 by decide)
  have R5 := Lib.hid (show readD kd 5 = pad [99] from rfl)
  have E5 := Lib.hid (show readE kd 5 = 0 by decide)
  have R6 := Lib.hid (show readD kd 256 = [] from rfl)
  have E6 := Lib.hid (show readE kd 256 = 2 by decide)
  have W1 := Lib.hid (show writeD kd (-1) [] = kd from rfl)
  have V1 := Lib.hid (show writeE kd (-1) [] = 2 by decide)
  obtain ⟨z3, hz3⟩ : ∃ z, List.replicate 513 (0 : UInt8) = z := ⟨_, rfl⟩
  have hz3l : z3.length = 513 := by rw [← hz3]; exact List.length_replicate
  have W2 := Lib.hid (show writeD kd 0 z3 = kd by unfold writeD; rw [show inD kd 0 = true by decide]; simp [hz3l])
  have V2 := Lib.hid (show writeE kd 0 z3 = 3 by unfold writeE; rw [show inD kd 0 = true by decide]; simp [hz3l])
  have HZ3 := Lib.hid hz3
  have HUS := Lib.hid kd_used
  have HWS := Lib.hid kd_ws
  have HCU := Lib.hid kd_cut
  have HCE := Lib.hid (show ∀ k, readE (kd.cut k) 3 = 0 from fun k => by show readE (kd.cut k) 3 = 0; unfold readE inD; rfl)
  obtain ⟨D, hD⟩ : ∃ D, kd = D := ⟨_, rfl⟩
  rw [hD] at QD hl3 HL R3 E3 R5 E5 R6 E6 W1 V1 W2 V2 HUS HWS HCU HCE
  obtain ⟨bk, hbk⟩ : ∃ b, SecP.blank = b := ⟨_, rfl⟩
  have HBK := Lib.hid hbk
  have hbsz : (str bk).size = 512 := by rw [str_size, ← hbk]; exact blank_len
  rw [hbk] at R3
  obtain ⟨p9, hp9⟩ : ∃ p, pad [99] = p := ⟨_, rfl⟩
  have HP9 := Lib.hid (show p9[0]? = some 99 by rw [← hp9]; rfl)
  have h9sz : (str p9).size = 512 := by rw [str_size, ← hp9]; exact pad_len (by decide)
  rw [hp9] at R5 HWS
  obtain ⟨p8, hp8⟩ : ∃ p, pad [98] = p := ⟨_, rfl⟩
  obtain ⟨p0, hp0⟩ : ∃ p, pad [] = p := ⟨_, rfl⟩
  rw [hp8, hp0] at HWS
  have q9 := fun w => run_idx (w := w) (i := 0) (k := 0) (z := 99) rfl HP9.out (by decide)
  clear hz3 hz3l hD hbk hp9 hp8 hp0
  refine (Read_i QD.out R3.out E3.out).mono ?_
  rintro e w7 ⟨rfl, hb⟩
  have QD := Lib.hid (QD.out.below hb)
  have B' := Lib.hid (below_t B.out hb)
  clear B
  have B := B'
  have hzB := B.out.size
  clear B'
  clear hb
  go_wp2_with fail
  refine (Read_i QD.out R5.out E5.out).mono ?_
  rintro e w8 ⟨rfl, hb⟩
  have QD := Lib.hid (QD.out.below hb)
  have B' := Lib.hid (below_t B.out hb)
  clear B
  have B := B'
  have hzB := B.out.size
  clear B'
  clear hb
  go_wp2_with fail
  refine (Used_c QD.out).mono ?_
  rintro e w9 ⟨v1, rfl, ho, hb⟩
  rw [HUS.out] at ho
  obtain ⟨A1, c1, rfl, _, _, hA1⟩ := ho.form (n := 1) rfl
  obtain ⟨g1, rfl, _, _⟩ := hA1 (by omega)
  have O1 := Lib.hid (ho.mono hzB)
  have QD' := Lib.hid (QD.out.below hb)
  clear QD
  have QD := QD'
  have B' := Lib.hid (below_t B.out hb)
  clear B
  have B := B'
  have hzB := B.out.size
  clear B' QD' ho hb hA1
  go_wp2_with fail
  refine (Log_c QD.out HL.out).mono ?_
  rintro e w10 ⟨v2, rfl, ho, hb⟩
  rw [HWS.out] at ho
  obtain ⟨A2, c2, rfl, _, _, hA2⟩ := ho.form (n := 3) rfl
  obtain ⟨g2, rfl, _, _⟩ := hA2 (by omega)
  have O2 := Lib.hid (ho.mono hzB)
  have O1' := Lib.hid (O1.out.below hb)
  clear O1
  have O1 := O1'
  have QD' := Lib.hid (QD.out.below hb)
  clear QD
  have QD := QD'
  have B' := Lib.hid (below_t B.out hb)
  clear B
  have B := B'
  have hzB := B.out.size
  clear B' QD' O1' ho hb hA2
  go_wp2_with ((with_reducible refine at_slot 73 ?_); refine Classical.byContradiction (fun hG => ?_))
  refine hG ?_
  clear hG
  refine wp_makeZ rfl _ _ rfl (n := 512) (z := 512) rfl rfl rfl (by omega) ?_
  intro w11 ha hb
  have HAT := Lib.hid ha
  have O1' := Lib.hid (O1.out.below hb)
  clear O1
  have O1 := O1'
  have O2' := Lib.hid (O2.out.below hb)
  clear O2
  have O2 := O2'
  clear O1' O2'
  have QD' := Lib.hid (QD.out.below hb)
  clear QD
  have QD := QD'
  clear QD'
  have B' := Lib.hid (below_t B.out hb)
  clear B
  have B := B'
  have hzB := B.out.size
  clear B' ha hb
  go_wp2_with ((with_reducible refine at_slot 74 ?_); refine Classical.byContradiction (fun hG => ?_))
  refine hG ?_
  clear hG
  refine BytesW.wp_strC rfl (.tmp 73) rfl (c := 512) (l := List.replicate 512 0) (by rw [List.length_replicate]; rfl) HAT.out ?_
  have e0 : (Value.string ⟨(List.replicate 512 (0 : UInt8)).toArray⟩) = .string (str bk) := by rw [← HBK.out]; rfl
  rw [e0]
  clear e0
  have u0 := int_at O1.out (i := 0) (x := 5) rfl
  have ul := (O1.out.ge g1 rfl).2
  have l0 : w11.cell? ⟨g2, 0, none⟩ = some (.int .i64 3) := O2.out.cell (i := 0) (j := 0) rfl rfl
  have l1 : w11.cell? ⟨g2, 2, none⟩ = some (.int .i64 5) := O2.out.cell (i := 1) (j := 0) rfl rfl
  have l2 : w11.cell? ⟨g2, 4, none⟩ = some (.int .i64 3) := O2.out.cell (i := 2) (j := 0) rfl rfl
  have ll := (O2.out.ge g2 rfl).2
  go_wp2_with fail
  clear u0 ul l0 l1 l2 ll HAT
  go_loopw [9] (fun v9 wr => ∃ (k : Nat) (S : Nat → Prop), v9 = .int .i64 (k : Int) ∧ k ≤ 3 ∧ Dsk wr w.heap.size pd D S ∧ Below w.heap.size w wr) (fun v _ => 10 - (intOf v).toNat)
  case atStart => exact ⟨0, S5, rfl, by omega, QD.out, B.out⟩
  case round =>
    obtain ⟨k, S, rfl, hk3, hq, hbr⟩ := hrel
    clear QD B
    have QD := Lib.hid hq
    have B := Lib.hid hbr
    have hzB := hbr.size
    clear hq hbr
    by_cases hk : k < 3
    · have hkI : (k : Int) < 3 := by omega
      obtain ⟨b, hb1, hb2⟩ := HCU.out k hk
      have RB := Lib.hid hb1
      have HBX := Lib.hid hb2
      clear hb1 hb2
      go_wp2_with fail
      refine (Cut_i (j := k) rfl QD.out HL.out (by omega)).mono ?_
      rintro e w12 ⟨pc, rfl, SC, hq, hb⟩
      have QC := Lib.hid (hq.mono hzB)
      have QD := Lib.hid (QD.out.below hb)
      have B' := Lib.hid (below_t B.out hb)
      clear B
      have B := B'
      have hzB := B.out.size
      clear B'
      clear hq hb
      go_wp2_with fail
      refine (Read_i QC.out RB.out (HCE.out k)).mono ?_
      rintro e w13 ⟨rfl, hb⟩
      have QD := Lib.hid (QD.out.below hb)
      have B' := Lib.hid (below_t B.out hb)
      clear B
      have B := B'
      have hzB := B.out.size
      clear B'
      clear hb
      have x0 : ∀ w, (Instr.index 9 (.string (str (pad [b]))) (.int .i64 0)).run Tryd.prog w = .ok (.int .u8 (b.toNat : Int)) w := fun w => run_idx (k := 0) (b := b) rfl (by rfl) rfl
      have x1 : ∀ w, (Instr.index 9 (.string (str (pad [b]))) (.int .i64 1)).run Tryd.prog w = .ok (.int .u8 0) w := fun w => run_idx (k := 1) (b := 0) rfl (by rfl) (by decide)
      have x2 : ∀ w, (Instr.index 9 (.string ⟨#[97, 98, 98]⟩) (.int .i64 (k : Int))).run Tryd.prog w = .ok (.int .u8 (b.toNat : Int)) w := fun w => run_idx (s := [97, 98, 98]) (k := k) (b := b) rfl HBX.out rfl
      obtain ⟨sb, hsb⟩ : ∃ sb, pad [b] = sb := ⟨_, rfl⟩
      rw [hsb] at x0 x1 ⊢
      obtain ⟨zb, hzb⟩ : ∃ zb : Int, (b.toNat : Int) = zb := ⟨_, rfl⟩
      rw [hzb] at x0 x2
      clear hsb hzb
      go_wp2_with fail
      refine wp_region_noPanic ?_
      refine wp_region_held_drew (S := fun W => Below w13.heap.size w13 W) (by kernel_rfl) ((Below.refl _ w13).drew) (fun hHeld => ?_)
      refine wpAnyH_take (i := 0) (oi := ⟨some 140, _, _, _, _, _⟩) (v := .string (str sb)) rfl (by kernel_rfl) (by kernel_rfl) (by kernel_rfl) (fun _ _ _ h => h) (Or.inl ⟨by rfl, fun W hSW => by go_simp⟩) hHeld ?_
      simp only [Act.put, List.setIfInBounds_toArray, List.set_cons_zero, List.set_cons_succ]
      refine wpAnyH_take (i := 1) (oi := ⟨some 141, _, _, _, _, _⟩) (v := .int .u8 zb) rfl (by kernel_rfl) (by kernel_rfl) (by kernel_rfl) (fun _ _ _ h => h) (Or.inl ⟨by rfl, fun W hSW => by go_simp⟩) hHeld ?_
      simp only [Act.put, List.setIfInBounds_toArray, List.set_cons_zero, List.set_cons_succ]
      refine wpAnyH_take (i := 2) (oi := ⟨some 142, _, _, _, _, _⟩) (v := .int .i64 (k : Int)) rfl (by kernel_rfl) (by kernel_rfl) (by kernel_rfl) (fun _ _ _ h => h) (Or.inl ⟨by rfl, fun W hSW => by go_simp⟩) hHeld ?_
      simp only [Act.put, List.setIfInBounds_toArray, List.set_cons_zero, List.set_cons_succ]
      refine wpAnyH_take (i := 3) (oi := ⟨some 143, _, _, _, _, _⟩) (v := .int .u8 zb) rfl (by kernel_rfl) (by kernel_rfl) (by kernel_rfl) (fun _ _ _ h => h) (Or.inl ⟨by rfl, fun W hSW => by go_simp⟩) hHeld ?_
      simp only [Act.put, List.setIfInBounds_toArray, List.set_cons_zero, List.set_cons_succ]
      refine wpAnyH_take (i := 4) (oi := ⟨some 144, _, _, _, _, _⟩) (v := .bool false) rfl (by kernel_rfl) (by kernel_rfl) (by kernel_rfl) (fun _ _ _ h => h) (Or.inl ⟨by rfl, fun W hSW => by go_simp⟩) hHeld ?_
      simp only [Act.put, List.setIfInBounds_toArray, List.set_cons_zero, List.set_cons_succ]
      refine wpAnyH_take (i := 5) (oi := ⟨some 145, _, _, _, _, _⟩) (v := .bool false) rfl (by kernel_rfl) (by kernel_rfl) (by kernel_rfl) (fun _ _ _ h => h) (Or.inl ⟨by rfl, fun W hSW => by go_simp⟩) hHeld ?_
      simp only [Act.put, List.setIfInBounds_toArray, List.set_cons_zero, List.set_cons_succ]
      refine wpAnyH_take (i := 6) (oi := ⟨some 146, _, _, _, _, _⟩) (v := .string (str sb)) rfl (by kernel_rfl) (by kernel_rfl) (by kernel_rfl) (fun _ _ _ h => h) (Or.inl ⟨by rfl, fun W hSW => by go_simp⟩) hHeld ?_
      simp only [Act.put, List.setIfInBounds_toArray, List.set_cons_zero, List.set_cons_succ]
      refine wpAnyH_take (i := 7) (oi := ⟨some 147, _, _, _, _, _⟩) (v := .int .u8 0) rfl (by kernel_rfl) (by kernel_rfl) (by kernel_rfl) (fun _ _ _ h => h) (Or.inl ⟨by rfl, fun W hSW => by go_simp⟩) hHeld ?_
      simp only [Act.put, List.setIfInBounds_toArray, List.set_cons_zero, List.set_cons_succ]
      refine wpAnyH_take (i := 8) (oi := ⟨some 148, _, _, _, _, _⟩) (v := .bool false) rfl (by kernel_rfl) (by kernel_rfl) (by kernel_rfl) (fun _ _ _ h => h) (Or.inl ⟨by rfl, fun W hSW => by go_simp⟩) hHeld ?_
      simp only [Act.put, List.setIfInBounds_toArray, List.set_cons_zero, List.set_cons_succ]
      refine wpAnyH_take (i := 9) (oi := ⟨some 149, _, _, _, _, _⟩) (v := .bool false) rfl (by kernel_rfl) (by kernel_rfl) (by kernel_rfl) (fun _ _ _ h => h) (Or.inl ⟨by rfl, fun W hSW => by go_simp⟩) hHeld ?_
      simp only [Act.put, List.setIfInBounds_toArray, List.set_cons_zero, List.set_cons_succ]
      refine wpAnyH_done (by kernel_rfl) ?_ _
      refine NoPanic.normal ?_
      have QDZ := Lib.hid (QD.out.below hHeld)
      have BZ := Lib.hid (below_t B.out hHeld)
      clear hHeld x0 x1 x2
      have QD' := Lib.hid QDZ.out
      have B' := Lib.hid BZ.out
      clear QD B
      have QD := QD'
      have B := B'
      go_wp2_with fail
      go_roundw
      case measure => first | (simp [intOf]; done) | (simp [intOf]; omega)
      case rel => exact ⟨k + 1, S, by first | rfl | (congr 1; omega), by omega, QD.out, B.out⟩
    · have hkI : ¬ (k : Int) < 3 := by omega
      clear hk hk3
      go_wp2_with fail
      refine (Cut_out QD.out (by omega)).mono ?_
      rintro e w20 ⟨rfl, hw⟩
      obtain rfl := hw.symm
      clear hw
      go_wp2_with fail
      refine (Cut_out QD.out (by omega)).mono ?_
      rintro e w21 ⟨rfl, hw⟩
      obtain rfl := hw.symm
      clear hw
      go_wp2_with fail
      refine (Read_i QD.out R6.out E6.out).mono ?_
      rintro e w22 ⟨rfl, hb⟩
      have QD := Lib.hid (QD.out.below hb)
      have B' := Lib.hid (below_t B.out hb)
      clear B
      have B := B'
      have hzB := B.out.size
      clear B'
      clear hb
      go_wp2_with fail
      refine (Write_i (s := []) QD.out HL.out W1.out V1.out).mono ?_
      rintro e w23 ⟨rfl, S6, hq, hf, hn⟩
      have B' := Lib.hid (B.out.trans (QD.out.toBelow hf))
      have QD' := Lib.hid hq
      clear B QD
      have B := B'
      have QD := QD'
      have hzB := B.out.size
      clear B' QD' hq hf hn
      go_wp2_with ((with_reducible refine at_slot 168 ?_); refine Classical.byContradiction (fun hG => ?_))
      refine hG ?_
      clear hG
      refine wp_makeZ rfl _ _ rfl (n := 513) (z := 513) rfl rfl rfl (by omega) ?_
      intro w24 ha hb
      have HAT := Lib.hid ha
      have QD' := Lib.hid (QD.out.below hb)
      clear QD
      have QD := QD'
      clear QD'
      have B' := Lib.hid (below_t B.out hb)
      clear B
      have B := B'
      have hzB := B.out.size
      clear B' ha hb
      go_wp2_with ((with_reducible refine at_slot 169 ?_); refine Classical.byContradiction (fun hG => ?_))
      refine hG ?_
      clear hG
      refine BytesW.wp_strC rfl (.tmp 168) rfl (c := 513) (l := List.replicate 513 0) (by rw [List.length_replicate]; rfl) HAT.out ?_
      have e0 : (Value.string ⟨(List.replicate 513 (0 : UInt8)).toArray⟩) = .string (str z3) := by rw [← HZ3.out]; rfl
      rw [e0]
      clear e0 HAT
      go_wp2_with fail
      refine (Write_i (s := z3) QD.out HL.out W2.out V2.out).mono ?_
      rintro e w25 ⟨rfl, S7, hq, hf, hn⟩
      have B' := Lib.hid (B.out.trans (QD.out.toBelow hf))
      have QD' := Lib.hid hq
      clear B QD
      have B := B'
      have QD := QD'
      have hzB := B.out.size
      clear B' QD' hq hf hn
      go_wp2_with fail
      refine (New_no (.inl (by omega))).mono ?_
      rintro e w26 ⟨rfl, hw⟩
      obtain rfl := hw.symm
      clear hw
      go_wp2_with fail
      refine (New_no (.inr (by omega))).mono ?_
      rintro e w27 ⟨rfl, hw⟩
      obtain rfl := hw.symm
      clear hw
      obtain ⟨eb, heb⟩ : ∃ eb, w25.heap.size = eb := ⟨_, rfl⟩
      go_wp2_with fail
      refine calls_named (S := fun W => Below w25.heap.size w25 W ∧ Blk W eb TD [.pointer none]) ⟨by (repeat' (first | (with_reducible exact Below.refl _ _) | (with_reducible refine Below.setCell ?_ (by (first | omega | (simp; done) | (simp; omega))) _) | (with_reducible refine Below.alloc ?_ (by (first | omega | (simp; done) | (simp; omega))) _) | (with_reducible refine Below.drew ?_) | (with_reducible refine below_drewN ?_ _))), by rw [← heb]; (repeat' (first | (with_reducible refine BlkP.Blk.drew ?_) | (with_reducible refine BlkP.Blk.drewN ?_ _) | (with_reducible refine BlkP.Blk.setAt (us := ?_) (by first | omega | (simp; done) | (simp; omega)) rfl ?_ ?_) | (with_reducible refine BlkP.Blk.otherAt ?_ (by first | omega | (simp; done) | (simp; omega))) | (with_reducible refine BlkP.Blk.newA' (by first | omega | (simp; done) | (simp; omega)) rfl) | (with_reducible refine BlkP.Blk.alloc ?_ _) | (exact rfl)))⟩ ?_
      rintro w30 ⟨hb, hk⟩
      try rw [heb]
      have KE := Lib.hid hk
      have B' := Lib.hid (below_t B.out hb)
      clear B
      have B := B'
      have hzB := B.out.size
      clear B' hb hk
      refine (Read_no (p := none) (.inl rfl)).mono ?_
      rintro e w31 ⟨rfl, hw⟩
      obtain rfl := hw.symm
      clear hw
      go_wp2_with fail
      refine (Cut_no (p := some ⟨eb, 0, none⟩) (.inr ⟨eb, rfl, KE.out⟩)).mono ?_
      rintro e w32 ⟨rfl, hw⟩
      obtain rfl := hw.symm
      clear hw
      go_wp2_with fail
      refine (Mark_no (p := none) (.inl rfl)).mono ?_
      rintro e w33 ⟨rfl, hw⟩
      obtain rfl := hw.symm
      clear hw
      go_wp2_with fail
      refine (Write_no (p := none) (.inl rfl)).mono ?_
      rintro e w34 ⟨rfl, hw⟩
      obtain rfl := hw.symm
      clear hw
      go_wp2_with fail
      refine (Len_no (p := none) (.inl rfl)).mono ?_
      rintro e w35 ⟨rfl, hw⟩
      obtain rfl := hw.symm
      clear hw
      go_wp2_with fail
      refine (Writes_no (p := none) (.inl rfl)).mono ?_
      rintro e w36 ⟨rfl, hw⟩
      obtain rfl := hw.symm
      clear hw
      go_wp2_with fail
      refine (Copy_no (p := none) (.inl rfl)).mono ?_
      rintro e w37 ⟨rfl, hw⟩
      obtain rfl := hw.symm
      clear hw
      go_wp2_with fail
      refine (Used_no (p := some ⟨eb, 0, none⟩) (.inr ⟨eb, rfl, KE.out⟩)).mono ?_
      rintro e w38 ⟨rfl, hw⟩
      obtain rfl := hw.symm
      clear hw
      go_wp2_with fail
      refine (works_c).mono ?_
      rintro e wz ⟨rfl, hb⟩
      have B' := Lib.hid (below_t B.out hb)
      clear B
      have B := B'
      have hzB := B.out.size
      clear B'
      clear hb
      go_wp2_with fail
      go_ret
      exact ⟨rfl, B.out⟩
end SecW
end Go.Proofs.YtjcmpcdalghniaaDoor
