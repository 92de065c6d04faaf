/-
  The law's own: works, written, alike.
-/
import Derived.Test.YtjcmpcdalghniaaDoorSectorWrite
import Derived.Test.YtjcmpcdalghniaaDoorSectorLog
import Derived.Test.YtjcmpcdalghniaaDoorSectorCopy
import Derived.Test.YtjcmpcdalghniaaDoorSectorCut
namespace Go.Proofs.YtjcmpcdalghniaaDoor
open Go.RowKit
set_option linter.unusedVariables false
set_option linter.unusedSimpArgs false
set_option maxRecDepth 100000
namespace SecW
open BlkP RowG FrS PushG JournalP SecP
theorem Dsk.drew {w : World} {B pd : Nat} {d : Dk} {S : Nat → Prop} (h : Dsk w B pd d S) : Dsk w.drew B pd d S := h.below ((Below.refl _ w).drew)
/-- Calls at any number that is a natural one. -/
theorem New_i {w : World} {n : Int} {k : Nat} (hn : n = (k : Int)) (g1 : 256 ≤ k) (g2 : k ≤ 131072) : Calls Tryd.prog 9 #[.int .i64 n] w fun e w' => ∃ pd, e = .returned (.tuple #[.pointer (some ⟨pd, 0, none⟩), .int .i64 0]) ∧ Made w pd (SecP.mk k) w' := by
  subst hn
  exact New_c g1 g2
theorem Cut_i {w : World} {B pd : Nat} {d : Dk} {S : Nat → Prop} {i : Int} {j : Nat} (hi : i = (j : Int)) (h : Dsk w B pd d S) (hl : d.ws.length ≤ 1000) (hj : j ≤ d.ws.length) :
    Calls Tryd.prog 16 #[.pointer (some ⟨pd, 0, none⟩), .int .i64 i] w fun e w' => ∃ p, e = .returned (.tuple #[.pointer (some ⟨p, 0, none⟩), .int .i64 0]) ∧ Made w p (d.cut j) w' := by
  subst hi
  exact Cut_c h hl hj
/-- Read with its answer at hand; Write with its answer at hand. -/
theorem Read_i {w : World} {B pd : Nat} {d : Dk} {S : Nat → Prop} {i z : Int} {s : Sec} (h : Dsk w B pd d S) (hs : readD d i = s) (hz : readE d i = z) :
    Calls Tryd.prog 25 #[.pointer (some ⟨pd, 0, none⟩), .int .i64 i] w fun e w' => e = .returned (.tuple #[.string (str s), .int .i64 z]) ∧ Below w.heap.size w w' := by
  subst hs hz
  exact Read_c h trivial
theorem Write_i {w : World} {B pd : Nat} {d d' : Dk} {S : Nat → Prop} {i z : Int} {s : Sec} (h : Dsk w B pd d S) (hl : d.ws.length ≤ 1000) (hd : writeD d i s = d') (hz : writeE d i s = z) :
    Calls Tryd.prog 12 #[.pointer (some ⟨pd, 0, none⟩), .int .i64 i, .string (str s)] w fun e w' => e = .returned (.int .i64 z) ∧ Turned w B pd S d' w' := by
  subst hd hz
  exact Write_c h hl
theorem run_idx {w : World} {s : Sec} {i : Int} {k : Nat} {b : UInt8} {z : Int} (hi : i = (k : Int)) (h : s[k]? = some b) (hz : (b.toNat : Int) = z) : (Instr.index 9 (.string (str s)) (.int .i64 i)).run Tryd.prog w = .ok (.int .u8 z) w := by
  subst hi hz
  have hl := (List.getElem?_eq_some_iff.1 h).1
  rw [run_index_string w _ (str s) .i64 (k : Int) BytesW.under9, dif_pos ⟨by omega, by rw [str_size]; omega⟩]
  congr 3
  have e := (List.getElem?_eq_some_iff.1 h).2
  have : (str s)[k]'(by rw [str_size]; exact hl) = s[k] := rfl
  simp only [Int.toNat_natCast]
  rw [this, e]
/-- Writes that came in: any number, any bytes. -/
def encL : Enc (Int × Sec) := ⟨fun q => [.int .i64 q.1, .string (str q.2)], 2, fun _ => rfl, fun x v h => by
  simp only [List.mem_cons, List.not_mem_nil, or_false] at h
  rcases h with rfl | rfl <;> rfl⟩
theorem int_at {w : World} {B g n c i : Nat} {l : List Int} {x : Int} (h : RowG.Own RowG.encI 3 w B (.slice (some ⟨g, 0, none⟩) n c) l) (hx : l[i]? = some x) : w.cell? ⟨g, i, none⟩ = some (.int .i64 x) := by
  have := h.cell (j := 0) hx rfl
  have e : i * RowG.encI.k + 0 = i := by
    show i * 1 + 0 = i
    omega
  rw [e] at this
  exact this
set_option maxHeartbeats 16000000 in
theorem works_c {w : World} :
    Calls Tryd.prog 11 #[] w fun e w' => e = .returned (.bool true) ∧ Below w.heap.size w w' := by
  have hz1 : writeE (SecP.mk 256) 3 [97] = 0 := by decide
  have hr1 : readD (writeD (SecP.mk 256) 3 [97]) 3 = pad [97] := by rfl
  have hr2 : readE (writeD (SecP.mk 256) 3 [97]) 3 = 0 := by decide
  have hr3 : readD ((writeD (SecP.mk 256) 3 [97]).cut 0) 3 = SecP.blank := by rfl
  have hr4 : readE ((writeD (SecP.mk 256) 3 [97]).cut 0) 3 = 0 := by decide
  have HW := Lib.hid hz1
  have H1 := Lib.hid hr1
  have H2 := Lib.hid hr2
  have H3 := Lib.hid hr3
  have H4 := Lib.hid hr4
  have HL := Lib.hid (show (writeD (SecP.mk 256) 3 [97]).ws.length ≤ 1000 by decide)
  obtain ⟨d1, hd1⟩ : ∃ d1, writeD (SecP.mk 256) 3 [97] = d1 := ⟨_, rfl⟩
  rw [hd1] at H1 H2 H3 H4 HL
  have HD := Lib.hid hd1
  obtain ⟨p1, hp1⟩ : ∃ p1, pad [97] = p1 := ⟨_, rfl⟩
  have HX := Lib.hid (show p1[0]? = some 97 by rw [← hp1]; rfl)
  have hsz : (str p1).size = 512 := by rw [str_size, ← hp1]; exact pad_len (by decide)
  have q0 := fun w => run_idx (w := w) (i := 0) (k := 0) (z := 97) rfl HX.out (by decide)
  have q1 := fun w => run_idx (w := w) (s := SecP.blank) (i := 0) (k := 0) (b := 0) (z := 0) rfl (by rfl) (by decide)
  obtain ⟨bk, hbk⟩ : ∃ bk, SecP.blank = bk := ⟨_, rfl⟩
  rw [hbk] at H3 q1
  rw [hp1] at H1
  clear hz1 hr1 hr2 hr3 hr4 hd1 hp1 hbk
  go_enter Tryd.func11, Tryd.ntmps11
  go_wp2_with fail
  refine (New_i (k := 256) rfl (by omega) (by omega)).mono ?_
  rintro e w1 ⟨pd, rfl, S1, hq1, hb1⟩
  have Q1 := Lib.hid hq1
  have B1 := Lib.hid hb1
  have hsz1 := hb1.size
  clear hq1 hb1
  go_wp2_with fail
  refine (Write_i (s := [97]) Q1.out (by decide) HD.out HW.out).mono ?_
  rintro e w2 ⟨rfl, S2, hq2, hf2, hn2⟩
  have Q2 := Lib.hid hq2
  have B2 := Lib.hid (B1.out.trans (Q1.out.toBelow hf2))
  have hsz2 := B2.out.size
  clear hq2 hf2 hn2
  go_wp2_with fail
  refine (Cut_i (j := 0) rfl Q2.out HL.out (Nat.zero_le _)).mono ?_
  rintro e w3 ⟨pc, rfl, S3, hq3, hb3⟩
  have Q3 := Lib.hid hq3
  have Q2b := Lib.hid (Q2.out.below hb3)
  have B3 := Lib.hid (below_t B2.out hb3)
  clear hq3 hb3
  go_wp2_with fail
  refine (Read_i Q2b.out H1.out H2.out).mono ?_
  rintro e w4 ⟨rfl, hb4⟩
  have Q4 := Lib.hid (Q3.out.below hb4)
  have B4 := Lib.hid (below_t B3.out hb4)
  clear hb4
  go_wp2_with fail
  refine (Read_i Q4.out H3.out H4.out).mono ?_
  rintro e w5 ⟨rfl, hb5⟩
  have B5 := Lib.hid (below_t B4.out hb5)
  clear hb5
  go_wp2_with fail
  go_ret
  exact ⟨rfl, B5.out⟩
set_option maxHeartbeats 16000000 in
theorem written_c {w : World} {A : Option Addr} {n c : Nat} {L : List (Int × Sec)} {mark : Int} (hR : Rd encL w (.slice A n c) L) (hn : L.length = n) :
    Calls Tryd.prog 21 #[.slice A n c, .int .i64 mark] w fun e w' => ∃ p, e = .returned (.tuple #[.pointer (some ⟨p, 0, none⟩), .int .i64 ((writtenTo L mark (min n 40)).ws.length : Int)]) ∧ Made w p (writtenTo L mark (min n 40)) w' := by
  have HR := Lib.hid hR
  have HN := Lib.hid hn
  obtain ⟨m, hm⟩ : ∃ m, min n 40 = m := ⟨_, rfl⟩
  rw [hm]
  have HM := Lib.hid hm
  have hnb : n ≤ 9223372036854775807 := by have := (RowE.rd_len hR); omega
  clear hR hn hm
  go_enter Tryd.func21, Tryd.ntmps21
  go_wp2_with fail
  refine (New_i (k := 300) rfl (by omega) (by omega)).mono ?_
  rintro e w1 ⟨pd, rfl, S1, hq1, hb1⟩
  have Q1 := Lib.hid hq1
  have B1 := Lib.hid hb1
  clear hq1 hb1
  go_wp2_with fail
  go_loopw [8, 9] (fun v8 v9 wr => ∃ (i : Nat) (S : Nat → Prop), v9 = .int .i64 (i : Int) ∧ i ≤ n ∧ i ≤ 40 ∧ v8 = .int .i64 ((writtenTo L mark i).ws.length : Int) ∧ Dsk wr w.heap.size pd (writtenTo L mark i) S ∧ Below w.heap.size w wr) (fun _ v _ => 50 - (intOf v).toNat)
  case atStart => exact ⟨0, S1, rfl, Nat.zero_le _, by omega, rfl, Q1.out, B1.out⟩
  case round =>
    obtain ⟨i, S, rfl, hin, hi40, rfl, hq, hbr⟩ := hrel
    have Q := Lib.hid hq
    have BR := Lib.hid hbr
    have hlen := written_len L mark i
    have hbz := hbr.size
    clear hq hbr
    by_cases hc : i < n ∧ i < 40
    · obtain ⟨hc1, hc2⟩ := hc
      have hiI : (i : Int) < (n : Int) := by omega
      have hi4 : (i : Int) < 40 := by omega
      obtain ⟨⟨xa, xs⟩, hx⟩ : ∃ x, L[i]? = some x := ⟨_, List.getElem?_eq_getElem (by rw [HN.out]; exact hc1)⟩
      obtain ⟨b, o, hbo, hlt, hcs⟩ := HR.out.at hx
      subst hbo
      have x0 := hcs 0 _ rfl
      have x1 := hcs 1 _ rfl
      have hk : encL.k = 2 := rfl
      rw [hk] at x0 x1
      have hol : o + i * 2 + 0 = o + i * 2 := rfl
      rw [hol] at x0
      have HSU := Lib.hid (writtenTo_succ (mark := mark) hx)
      clear hcs hk hol hx
      by_cases hmk : (i : Int) = mark
      · subst hmk
        have HLN := Lib.hid (show (writtenTo L (i : Int) i).mark.ws.length ≤ 1000 from by show 0 ≤ 1000; omega)
        rw [if_pos rfl] at HSU
        go_wp2_with fail
        refine (Mark_c Q.out).mono ?_
        rintro e w2 ⟨rfl, S2, hq2, hf2, hn2⟩
        have BR' := Lib.hid (BR.out.trans (Q.out.toBelow hf2))
        have Q' := Lib.hid hq2
        have hbz2 := BR'.out.size
        clear hq2 hf2 hn2 BR Q
        have Q := Q'
        have BR := BR'
        clear Q' BR'
        obtain ⟨dd, hdd⟩ : ∃ dd, (writtenTo L (i : Int) i).mark = dd := ⟨_, rfl⟩
        have hdl : dd.ws.length = 0 := by rw [← hdd]; rfl
        rw [hdd] at Q HSU HLN
        clear hdd hlen
        obtain ⟨d5, hd5⟩ : ∃ d5, writeD dd xa xs = d5 := ⟨_, rfl⟩
        have HWD := Lib.hid hd5
        have HWD2 := HWD
        clear hd5
        go_wp2_with fail
        cases hfn : fineD dd xa xs with
        | true =>
          have HWE := Lib.hid (writeE_fine.2 hfn)
          have HLE := Lib.hid (show (writeD dd xa xs).ws.length = dd.ws.length + 1 by rw [writeD_ws, hfn]; rfl)
          clear hfn
          refine wp_region_noPanic ?_
          refine wp_region_held_drew (S := fun W => Below w.heap.size w W) (by kernel_rfl) (BR.out.drew) (fun hHeld => ?_)
          refine wpAnyH_take (i := 0) (oi := ⟨some 32, _, _, _, _, _⟩) (v := .pointer (some ⟨pd, 0, none⟩)) rfl (by kernel_rfl) (by kernel_rfl) (by kernel_rfl) (fun _ _ _ h => h) (Or.inl ⟨by rfl, fun W hSW => by go_simp⟩) hHeld ?_
          simp only [Act.put, List.setIfInBounds_toArray, List.set_cons_zero, List.set_cons_succ]
          refine wpAnyH_take (i := 1) (oi := ⟨some 33, _, _, _, _, _⟩) (v := .slice (some ⟨b, o, none⟩) n c) rfl (by kernel_rfl) (by kernel_rfl) (by kernel_rfl) (fun _ _ _ h => h) (Or.inl ⟨by rfl, fun W hSW => by go_simp⟩) hHeld ?_
          simp only [Act.put, List.setIfInBounds_toArray, List.set_cons_zero, List.set_cons_succ]
          refine wpAnyH_take (i := 2) (oi := ⟨some 34, _, _, _, _, _⟩) (v := .int .i64 (i : Int)) rfl (by kernel_rfl) (by kernel_rfl) (by kernel_rfl) (fun _ _ _ h => h) (Or.inl ⟨by rfl, fun W hSW => by go_simp⟩) hHeld ?_
          simp only [Act.put, List.setIfInBounds_toArray, List.set_cons_zero, List.set_cons_succ]
          refine wpAnyH_take (i := 3) (oi := ⟨some 35, _, _, _, _, _⟩) (v := .pointer (some ⟨b, o + i * 2, none⟩)) rfl (by kernel_rfl) (by kernel_rfl) (by kernel_rfl) (fun _ _ _ h => h) (Or.inl ⟨by rfl, fun W hSW => by go_simp⟩) hHeld ?_
          simp only [Act.put, List.setIfInBounds_toArray, List.set_cons_zero, List.set_cons_succ]
          refine wpAnyH_take (i := 4) (oi := ⟨some 36, _, _, _, _, _⟩) (v := .pointer (some ⟨b, o + i * 2, none⟩)) rfl (by kernel_rfl) (by kernel_rfl) (by kernel_rfl) (fun _ _ _ h => h) (Or.inl ⟨by rfl, fun W hSW => by go_simp⟩) hHeld ?_
          simp only [Act.put, List.setIfInBounds_toArray, List.set_cons_zero, List.set_cons_succ]
          refine wpAnyH_take (i := 5) (oi := ⟨some 37, _, _, _, _, _⟩) (v := .int .i64 xa) rfl (by kernel_rfl) (by kernel_rfl) (by kernel_rfl) (fun _ _ _ h => h) (Or.inl ⟨by rfl, fun W hSW => by have a0 := (hSW.cell (p := ⟨b, o + i * 2, none⟩) hlt).trans x0; go_simp⟩) hHeld ?_
          simp only [Act.put, List.setIfInBounds_toArray, List.set_cons_zero, List.set_cons_succ]
          refine wpAnyH_take (i := 6) (oi := ⟨some 38, _, _, _, _, _⟩) (v := .slice (some ⟨b, o, none⟩) n c) rfl (by kernel_rfl) (by kernel_rfl) (by kernel_rfl) (fun _ _ _ h => h) (Or.inl ⟨by rfl, fun W hSW => by go_simp⟩) hHeld ?_
          simp only [Act.put, List.setIfInBounds_toArray, List.set_cons_zero, List.set_cons_succ]
          refine wpAnyH_take (i := 7) (oi := ⟨some 39, _, _, _, _, _⟩) (v := .int .i64 (i : Int)) rfl (by kernel_rfl) (by kernel_rfl) (by kernel_rfl) (fun _ _ _ h => h) (Or.inl ⟨by rfl, fun W hSW => by go_simp⟩) hHeld ?_
          simp only [Act.put, List.setIfInBounds_toArray, List.set_cons_zero, List.set_cons_succ]
          refine wpAnyH_take (i := 8) (oi := ⟨some 40, _, _, _, _, _⟩) (v := .pointer (some ⟨b, o + i * 2, none⟩)) rfl (by kernel_rfl) (by kernel_rfl) (by kernel_rfl) (fun _ _ _ h => h) (Or.inl ⟨by rfl, fun W hSW => by go_simp⟩) hHeld ?_
          simp only [Act.put, List.setIfInBounds_toArray, List.set_cons_zero, List.set_cons_succ]
          refine wpAnyH_take (i := 9) (oi := ⟨some 41, _, _, _, _, _⟩) (v := .pointer (some ⟨b, o + i * 2 + 1, none⟩)) rfl (by kernel_rfl) (by kernel_rfl) (by kernel_rfl) (fun _ _ _ h => h) (Or.inl ⟨by rfl, fun W hSW => by go_simp⟩) hHeld ?_
          simp only [Act.put, List.setIfInBounds_toArray, List.set_cons_zero, List.set_cons_succ]
          refine wpAnyH_take (i := 10) (oi := ⟨some 42, _, _, _, _, _⟩) (v := .string (str xs)) rfl (by kernel_rfl) (by kernel_rfl) (by kernel_rfl) (fun _ _ _ h => h) (Or.inl ⟨by rfl, fun W hSW => by have a0 := (hSW.cell (p := ⟨b, o + i * 2 + 1, none⟩) hlt).trans x1; go_simp⟩) hHeld ?_
          simp only [Act.put, List.setIfInBounds_toArray, List.set_cons_zero, List.set_cons_succ]
          refine wpAnyH_ready (rs := [11]) (by kernel_rfl) (by simp) ?_
          refine AllReadyH.cons (o := ⟨some 43, _, _, _, _, _⟩) rfl (fun K hK => ?_) AllReadyH.nil
          go_simp
          refine (Write_i Q.out.drew HLN.out HWD.out HWE.out).mono ?_
          rintro e w5 ⟨rfl, S5, hq5, hf5, hn5⟩
          have Q5 := Lib.hid hq5
          have B5 := Lib.hid (BR.out.drew.trans (Q.out.drew.toBelow hf5))
          clear hq5 hf5 hn5
          go_wp2_with fail
          refine hK.out _ _ B5.out (fun hHeld => ?_)
          clear hK K
          refine wpAnyH_ready (rs := [12]) (by kernel_rfl) (by simp) ?_
          refine AllReadyH.cons (o := ⟨some 10, _, _, _, _, _⟩) rfl (fun K hK => ?_) AllReadyH.nil
          go_simp
          refine hK.out _ _ hHeld (fun hHeld => ?_)
          clear hK K
          refine wpAnyH_done (by kernel_rfl) ?_ _
          refine NoPanic.normal ?_
          clear hHeld
          go_wp2_with fail
          go_roundw
          case measure => first | (simp [intOf]; done) | (simp [intOf]; omega)
          case rel =>
            refine ⟨i + 1, _, by first | rfl | (congr 1; omega), by omega, by omega, ?_, by rw [HSU.out]; exact HWD2.out ▸ Q5.out, B5.out⟩
            rw [HSU.out, HWD2.out, ← HWD.out, HLE.out]
            first | rfl | (congr 1; omega)
        | false =>
          obtain ⟨z, hz⟩ : ∃ z, writeE dd xa xs = z := ⟨_, rfl⟩
          have hz0 : ¬ z = 0 := fun e => by
            rw [← hz] at e
            rw [writeE_fine.1 e] at hfn
            cases hfn
          have HWE := Lib.hid hz
          have HLE := Lib.hid (show (writeD dd xa xs).ws.length = dd.ws.length by rw [writeD_ws, hfn]; rfl)
          clear hfn hz
          refine wp_region_noPanic ?_
          refine wp_region_held_drew (S := fun W => Below w.heap.size w W) (by kernel_rfl) (BR.out.drew) (fun hHeld => ?_)
          refine wpAnyH_take (i := 0) (oi := ⟨some 32, _, _, _, _, _⟩) (v := .pointer (some ⟨pd, 0, none⟩)) rfl (by kernel_rfl) (by kernel_rfl) (by kernel_rfl) (fun _ _ _ h => h) (Or.inl ⟨by rfl, fun W hSW => by go_simp⟩) hHeld ?_
          simp only [Act.put, List.setIfInBounds_toArray, List.set_cons_zero, List.set_cons_succ]
          refine wpAnyH_take (i := 1) (oi := ⟨some 33, _, _, _, _, _⟩) (v := .slice (some ⟨b, o, none⟩) n c) rfl (by kernel_rfl) (by kernel_rfl) (by kernel_rfl) (fun _ _ _ h => h) (Or.inl ⟨by rfl, fun W hSW => by go_simp⟩) hHeld ?_
          simp only [Act.put, List.setIfInBounds_toArray, List.set_cons_zero, List.set_cons_succ]
          refine wpAnyH_take (i := 2) (oi := ⟨some 34, _, _, _, _, _⟩) (v := .int .i64 (i : Int)) rfl (by kernel_rfl) (by kernel_rfl) (by kernel_rfl) (fun _ _ _ h => h) (Or.inl ⟨by rfl, fun W hSW => by go_simp⟩) hHeld ?_
          simp only [Act.put, List.setIfInBounds_toArray, List.set_cons_zero, List.set_cons_succ]
          refine wpAnyH_take (i := 3) (oi := ⟨some 35, _, _, _, _, _⟩) (v := .pointer (some ⟨b, o + i * 2, none⟩)) rfl (by kernel_rfl) (by kernel_rfl) (by kernel_rfl) (fun _ _ _ h => h) (Or.inl ⟨by rfl, fun W hSW => by go_simp⟩) hHeld ?_
          simp only [Act.put, List.setIfInBounds_toArray, List.set_cons_zero, List.set_cons_succ]
          refine wpAnyH_take (i := 4) (oi := ⟨some 36, _, _, _, _, _⟩) (v := .pointer (some ⟨b, o + i * 2, none⟩)) rfl (by kernel_rfl) (by kernel_rfl) (by kernel_rfl) (fun _ _ _ h => h) (Or.inl ⟨by rfl, fun W hSW => by go_simp⟩) hHeld ?_
          simp only [Act.put, List.setIfInBounds_toArray, List.set_cons_zero, List.set_cons_succ]
          refine wpAnyH_take (i := 5) (oi := ⟨some 37, _, _, _, _, _⟩) (v := .int .i64 xa) rfl (by kernel_rfl) (by kernel_rfl) (by kernel_rfl) (fun _ _ _ h => h) (Or.inl ⟨by rfl, fun W hSW => by have a0 := (hSW.cell (p := ⟨b, o + i * 2, none⟩) hlt).trans x0; go_simp⟩) hHeld ?_
          simp only [Act.put, List.setIfInBounds_toArray, List.set_cons_zero, List.set_cons_succ]
          refine wpAnyH_take (i := 6) (oi := ⟨some 38, _, _, _, _, _⟩) (v := .slice (some ⟨b, o, none⟩) n c) rfl (by kernel_rfl) (by kernel_rfl) (by kernel_rfl) (fun _ _ _ h => h) (Or.inl ⟨by rfl, fun W hSW => by go_simp⟩) hHeld ?_
          simp only [Act.put, List.setIfInBounds_toArray, List.set_cons_zero, List.set_cons_succ]
          refine wpAnyH_take (i := 7) (oi := ⟨some 39, _, _, _, _, _⟩) (v := .int .i64 (i : Int)) rfl (by kernel_rfl) (by kernel_rfl) (by kernel_rfl) (fun _ _ _ h => h) (Or.inl ⟨by rfl, fun W hSW => by go_simp⟩) hHeld ?_
          simp only [Act.put, List.setIfInBounds_toArray, List.set_cons_zero, List.set_cons_succ]
          refine wpAnyH_take (i := 8) (oi := ⟨some 40, _, _, _, _, _⟩) (v := .pointer (some ⟨b, o + i * 2, none⟩)) rfl (by kernel_rfl) (by kernel_rfl) (by kernel_rfl) (fun _ _ _ h => h) (Or.inl ⟨by rfl, fun W hSW => by go_simp⟩) hHeld ?_
          simp only [Act.put, List.setIfInBounds_toArray, List.set_cons_zero, List.set_cons_succ]
          refine wpAnyH_take (i := 9) (oi := ⟨some 41, _, _, _, _, _⟩) (v := .pointer (some ⟨b, o + i * 2 + 1, none⟩)) rfl (by kernel_rfl) (by kernel_rfl) (by kernel_rfl) (fun _ _ _ h => h) (Or.inl ⟨by rfl, fun W hSW => by go_simp⟩) hHeld ?_
          simp only [Act.put, List.setIfInBounds_toArray, List.set_cons_zero, List.set_cons_succ]
          refine wpAnyH_take (i := 10) (oi := ⟨some 42, _, _, _, _, _⟩) (v := .string (str xs)) rfl (by kernel_rfl) (by kernel_rfl) (by kernel_rfl) (fun _ _ _ h => h) (Or.inl ⟨by rfl, fun W hSW => by have a0 := (hSW.cell (p := ⟨b, o + i * 2 + 1, none⟩) hlt).trans x1; go_simp⟩) hHeld ?_
          simp only [Act.put, List.setIfInBounds_toArray, List.set_cons_zero, List.set_cons_succ]
          refine wpAnyH_ready (rs := [11]) (by kernel_rfl) (by simp) ?_
          refine AllReadyH.cons (o := ⟨some 43, _, _, _, _, _⟩) rfl (fun K hK => ?_) AllReadyH.nil
          go_simp
          refine (Write_i Q.out.drew HLN.out HWD.out HWE.out).mono ?_
          rintro e w5 ⟨rfl, S5, hq5, hf5, hn5⟩
          have Q5 := Lib.hid hq5
          have B5 := Lib.hid (BR.out.drew.trans (Q.out.drew.toBelow hf5))
          clear hq5 hf5 hn5
          go_wp2_with fail
          refine hK.out _ _ B5.out (fun hHeld => ?_)
          clear hK K
          refine wpAnyH_ready (rs := [12]) (by kernel_rfl) (by simp) ?_
          refine AllReadyH.cons (o := ⟨some 10, _, _, _, _, _⟩) rfl (fun K hK => ?_) AllReadyH.nil
          go_simp
          refine hK.out _ _ hHeld (fun hHeld => ?_)
          clear hK K
          refine wpAnyH_done (by kernel_rfl) ?_ _
          refine NoPanic.normal ?_
          clear hHeld
          go_wp2_with fail
          go_roundw
          case measure => first | (simp [intOf]; done) | (simp [intOf]; omega)
          case rel =>
            refine ⟨i + 1, _, by first | rfl | (congr 1; omega), by omega, by omega, ?_, by rw [HSU.out]; exact HWD2.out ▸ Q5.out, B5.out⟩
            rw [HSU.out, HWD2.out, ← HWD.out, HLE.out]
            try (rw [hdl]; rfl)
      · rw [if_neg hmk] at HSU
        obtain ⟨dd, hdd⟩ : ∃ dd, writtenTo L mark i = dd := ⟨_, rfl⟩
        rw [hdd] at Q HSU hlen ⊢
        have HLN := Lib.hid (show dd.ws.length ≤ 1000 by omega)
        clear hdd
        obtain ⟨d5, hd5⟩ : ∃ d5, writeD dd xa xs = d5 := ⟨_, rfl⟩
        have HWD := Lib.hid hd5
        have HWD2 := HWD
        clear hd5
        go_wp2_with fail
        cases hfn : fineD dd xa xs with
        | true =>
          have HWE := Lib.hid (writeE_fine.2 hfn)
          have HLE := Lib.hid (show (writeD dd xa xs).ws.length = dd.ws.length + 1 by rw [writeD_ws, hfn]; rfl)
          clear hfn
          refine wp_region_noPanic ?_
          refine wp_region_held_drew (S := fun W => Below w.heap.size w W) (by kernel_rfl) (BR.out.drew) (fun hHeld => ?_)
          refine wpAnyH_take (i := 0) (oi := ⟨some 32, _, _, _, _, _⟩) (v := .pointer (some ⟨pd, 0, none⟩)) rfl (by kernel_rfl) (by kernel_rfl) (by kernel_rfl) (fun _ _ _ h => h) (Or.inl ⟨by rfl, fun W hSW => by go_simp⟩) hHeld ?_
          simp only [Act.put, List.setIfInBounds_toArray, List.set_cons_zero, List.set_cons_succ]
          refine wpAnyH_take (i := 1) (oi := ⟨some 33, _, _, _, _, _⟩) (v := .slice (some ⟨b, o, none⟩) n c) rfl (by kernel_rfl) (by kernel_rfl) (by kernel_rfl) (fun _ _ _ h => h) (Or.inl ⟨by rfl, fun W hSW => by go_simp⟩) hHeld ?_
          simp only [Act.put, List.setIfInBounds_toArray, List.set_cons_zero, List.set_cons_succ]
          refine wpAnyH_take (i := 2) (oi := ⟨some 34, _, _, _, _, _⟩) (v := .int .i64 (i : Int)) rfl (by kernel_rfl) (by kernel_rfl) (by kernel_rfl) (fun _ _ _ h => h) (Or.inl ⟨by rfl, fun W hSW => by go_simp⟩) hHeld ?_
          simp only [Act.put, List.setIfInBounds_toArray, List.set_cons_zero, List.set_cons_succ]
          refine wpAnyH_take (i := 3) (oi := ⟨some 35, _, _, _, _, _⟩) (v := .pointer (some ⟨b, o + i * 2, none⟩)) rfl (by kernel_rfl) (by kernel_rfl) (by kernel_rfl) (fun _ _ _ h => h) (Or.inl ⟨by rfl, fun W hSW => by go_simp⟩) hHeld ?_
          simp only [Act.put, List.setIfInBounds_toArray, List.set_cons_zero, List.set_cons_succ]
          refine wpAnyH_take (i := 4) (oi := ⟨some 36, _, _, _, _, _⟩) (v := .pointer (some ⟨b, o + i * 2, none⟩)) rfl (by kernel_rfl) (by kernel_rfl) (by kernel_rfl) (fun _ _ _ h => h) (Or.inl ⟨by rfl, fun W hSW => by go_simp⟩) hHeld ?_
          simp only [Act.put, List.setIfInBounds_toArray, List.set_cons_zero, List.set_cons_succ]
          refine wpAnyH_take (i := 5) (oi := ⟨some 37, _, _, _, _, _⟩) (v := .int .i64 xa) rfl (by kernel_rfl) (by kernel_rfl) (by kernel_rfl) (fun _ _ _ h => h) (Or.inl ⟨by rfl, fun W hSW => by have a0 := (hSW.cell (p := ⟨b, o + i * 2, none⟩) hlt).trans x0; go_simp⟩) hHeld ?_
          simp only [Act.put, List.setIfInBounds_toArray, List.set_cons_zero, List.set_cons_succ]
          refine wpAnyH_take (i := 6) (oi := ⟨some 38, _, _, _, _, _⟩) (v := .slice (some ⟨b, o, none⟩) n c) rfl (by kernel_rfl) (by kernel_rfl) (by kernel_rfl) (fun _ _ _ h => h) (Or.inl ⟨by rfl, fun W hSW => by go_simp⟩) hHeld ?_
          simp only [Act.put, List.setIfInBounds_toArray, List.set_cons_zero, List.set_cons_succ]
          refine wpAnyH_take (i := 7) (oi := ⟨some 39, _, _, _, _, _⟩) (v := .int .i64 (i : Int)) rfl (by kernel_rfl) (by kernel_rfl) (by kernel_rfl) (fun _ _ _ h => h) (Or.inl ⟨by rfl, fun W hSW => by go_simp⟩) hHeld ?_
          simp only [Act.put, List.setIfInBounds_toArray, List.set_cons_zero, List.set_cons_succ]
          refine wpAnyH_take (i := 8) (oi := ⟨some 40, _, _, _, _, _⟩) (v := .pointer (some ⟨b, o + i * 2, none⟩)) rfl (by kernel_rfl) (by kernel_rfl) (by kernel_rfl) (fun _ _ _ h => h) (Or.inl ⟨by rfl, fun W hSW => by go_simp⟩) hHeld ?_
          simp only [Act.put, List.setIfInBounds_toArray, List.set_cons_zero, List.set_cons_succ]
          refine wpAnyH_take (i := 9) (oi := ⟨some 41, _, _, _, _, _⟩) (v := .pointer (some ⟨b, o + i * 2 + 1, none⟩)) rfl (by kernel_rfl) (by kernel_rfl) (by kernel_rfl) (fun _ _ _ h => h) (Or.inl ⟨by rfl, fun W hSW => by go_simp⟩) hHeld ?_
          simp only [Act.put, List.setIfInBounds_toArray, List.set_cons_zero, List.set_cons_succ]
          refine wpAnyH_take (i := 10) (oi := ⟨some 42, _, _, _, _, _⟩) (v := .string (str xs)) rfl (by kernel_rfl) (by kernel_rfl) (by kernel_rfl) (fun _ _ _ h => h) (Or.inl ⟨by rfl, fun W hSW => by have a0 := (hSW.cell (p := ⟨b, o + i * 2 + 1, none⟩) hlt).trans x1; go_simp⟩) hHeld ?_
          simp only [Act.put, List.setIfInBounds_toArray, List.set_cons_zero, List.set_cons_succ]
          refine wpAnyH_ready (rs := [11]) (by kernel_rfl) (by simp) ?_
          refine AllReadyH.cons (o := ⟨some 43, _, _, _, _, _⟩) rfl (fun K hK => ?_) AllReadyH.nil
          go_simp
          refine (Write_i Q.out.drew HLN.out HWD.out HWE.out).mono ?_
          rintro e w5 ⟨rfl, S5, hq5, hf5, hn5⟩
          have Q5 := Lib.hid hq5
          have B5 := Lib.hid (BR.out.drew.trans (Q.out.drew.toBelow hf5))
          clear hq5 hf5 hn5
          go_wp2_with fail
          refine hK.out _ _ B5.out (fun hHeld => ?_)
          clear hK K
          refine wpAnyH_ready (rs := [12]) (by kernel_rfl) (by simp) ?_
          refine AllReadyH.cons (o := ⟨some 10, _, _, _, _, _⟩) rfl (fun K hK => ?_) AllReadyH.nil
          go_simp
          refine hK.out _ _ hHeld (fun hHeld => ?_)
          clear hK K
          refine wpAnyH_done (by kernel_rfl) ?_ _
          refine NoPanic.normal ?_
          clear hHeld
          go_wp2_with fail
          go_roundw
          case measure => first | (simp [intOf]; done) | (simp [intOf]; omega)
          case rel =>
            refine ⟨i + 1, _, by first | rfl | (congr 1; omega), by omega, by omega, ?_, by rw [HSU.out]; exact HWD2.out ▸ Q5.out, B5.out⟩
            rw [HSU.out, HWD2.out, ← HWD.out, HLE.out]
            first | rfl | (congr 1; omega)
        | false =>
          obtain ⟨z, hz⟩ : ∃ z, writeE dd xa xs = z := ⟨_, rfl⟩
          have hz0 : ¬ z = 0 := fun e => by
            rw [← hz] at e
            rw [writeE_fine.1 e] at hfn
            cases hfn
          have HWE := Lib.hid hz
          have HLE := Lib.hid (show (writeD dd xa xs).ws.length = dd.ws.length by rw [writeD_ws, hfn]; rfl)
          clear hfn hz
          refine wp_region_noPanic ?_
          refine wp_region_held_drew (S := fun W => Below w.heap.size w W) (by kernel_rfl) (BR.out.drew) (fun hHeld => ?_)
          refine wpAnyH_take (i := 0) (oi := ⟨some 32, _, _, _, _, _⟩) (v := .pointer (some ⟨pd, 0, none⟩)) rfl (by kernel_rfl) (by kernel_rfl) (by kernel_rfl) (fun _ _ _ h => h) (Or.inl ⟨by rfl, fun W hSW => by go_simp⟩) hHeld ?_
          simp only [Act.put, List.setIfInBounds_toArray, List.set_cons_zero, List.set_cons_succ]
          refine wpAnyH_take (i := 1) (oi := ⟨some 33, _, _, _, _, _⟩) (v := .slice (some ⟨b, o, none⟩) n c) rfl (by kernel_rfl) (by kernel_rfl) (by kernel_rfl) (fun _ _ _ h => h) (Or.inl ⟨by rfl, fun W hSW => by go_simp⟩) hHeld ?_
          simp only [Act.put, List.setIfInBounds_toArray, List.set_cons_zero, List.set_cons_succ]
          refine wpAnyH_take (i := 2) (oi := ⟨some 34, _, _, _, _, _⟩) (v := .int .i64 (i : Int)) rfl (by kernel_rfl) (by kernel_rfl) (by kernel_rfl) (fun _ _ _ h => h) (Or.inl ⟨by rfl, fun W hSW => by go_simp⟩) hHeld ?_
          simp only [Act.put, List.setIfInBounds_toArray, List.set_cons_zero, List.set_cons_succ]
          refine wpAnyH_take (i := 3) (oi := ⟨some 35, _, _, _, _, _⟩) (v := .pointer (some ⟨b, o + i * 2, none⟩)) rfl (by kernel_rfl) (by kernel_rfl) (by kernel_rfl) (fun _ _ _ h => h) (Or.inl ⟨by rfl, fun W hSW => by go_simp⟩) hHeld ?_
          simp only [Act.put, List.setIfInBounds_toArray, List.set_cons_zero, List.set_cons_succ]
          refine wpAnyH_take (i := 4) (oi := ⟨some 36, _, _, _, _, _⟩) (v := .pointer (some ⟨b, o + i * 2, none⟩)) rfl (by kernel_rfl) (by kernel_rfl) (by kernel_rfl) (fun _ _ _ h => h) (Or.inl ⟨by rfl, fun W hSW => by go_simp⟩) hHeld ?_
          simp only [Act.put, List.setIfInBounds_toArray, List.set_cons_zero, List.set_cons_succ]
          refine wpAnyH_take (i := 5) (oi := ⟨some 37, _, _, _, _, _⟩) (v := .int .i64 xa) rfl (by kernel_rfl) (by kernel_rfl) (by kernel_rfl) (fun _ _ _ h => h) (Or.inl ⟨by rfl, fun W hSW => by have a0 := (hSW.cell (p := ⟨b, o + i * 2, none⟩) hlt).trans x0; go_simp⟩) hHeld ?_
          simp only [Act.put, List.setIfInBounds_toArray, List.set_cons_zero, List.set_cons_succ]
          refine wpAnyH_take (i := 6) (oi := ⟨some 38, _, _, _, _, _⟩) (v := .slice (some ⟨b, o, none⟩) n c) rfl (by kernel_rfl) (by kernel_rfl) (by kernel_rfl) (fun _ _ _ h => h) (Or.inl ⟨by rfl, fun W hSW => by go_simp⟩) hHeld ?_
          simp only [Act.put, List.setIfInBounds_toArray, List.set_cons_zero, List.set_cons_succ]
          refine wpAnyH_take (i := 7) (oi := ⟨some 39, _, _, _, _, _⟩) (v := .int .i64 (i : Int)) rfl (by kernel_rfl) (by kernel_rfl) (by kernel_rfl) (fun _ _ _ h => h) (Or.inl ⟨by rfl, fun W hSW => by go_simp⟩) hHeld ?_
          simp only [Act.put, List.setIfInBounds_toArray, List.set_cons_zero, List.set_cons_succ]
          refine wpAnyH_take (i := 8) (oi := ⟨some 40, _, _, _, _, _⟩) (v := .pointer (some ⟨b, o + i * 2, none⟩)) rfl (by kernel_rfl) (by kernel_rfl) (by kernel_rfl) (fun _ _ _ h => h) (Or.inl ⟨by rfl, fun W hSW => by go_simp⟩) hHeld ?_
          simp only [Act.put, List.setIfInBounds_toArray, List.set_cons_zero, List.set_cons_succ]
          refine wpAnyH_take (i := 9) (oi := ⟨some 41, _, _, _, _, _⟩) (v := .pointer (some ⟨b, o + i * 2 + 1, none⟩)) rfl (by kernel_rfl) (by kernel_rfl) (by kernel_rfl) (fun _ _ _ h => h) (Or.inl ⟨by rfl, fun W hSW => by go_simp⟩) hHeld ?_
          simp only [Act.put, List.setIfInBounds_toArray, List.set_cons_zero, List.set_cons_succ]
          refine wpAnyH_take (i := 10) (oi := ⟨some 42, _, _, _, _, _⟩) (v := .string (str xs)) rfl (by kernel_rfl) (by kernel_rfl) (by kernel_rfl) (fun _ _ _ h => h) (Or.inl ⟨by rfl, fun W hSW => by have a0 := (hSW.cell (p := ⟨b, o + i * 2 + 1, none⟩) hlt).trans x1; go_simp⟩) hHeld ?_
          simp only [Act.put, List.setIfInBounds_toArray, List.set_cons_zero, List.set_cons_succ]
          refine wpAnyH_ready (rs := [11]) (by kernel_rfl) (by simp) ?_
          refine AllReadyH.cons (o := ⟨some 43, _, _, _, _, _⟩) rfl (fun K hK => ?_) AllReadyH.nil
          go_simp
          refine (Write_i Q.out.drew HLN.out HWD.out HWE.out).mono ?_
          rintro e w5 ⟨rfl, S5, hq5, hf5, hn5⟩
          have Q5 := Lib.hid hq5
          have B5 := Lib.hid (BR.out.drew.trans (Q.out.drew.toBelow hf5))
          clear hq5 hf5 hn5
          go_wp2_with fail
          refine hK.out _ _ B5.out (fun hHeld => ?_)
          clear hK K
          refine wpAnyH_ready (rs := [12]) (by kernel_rfl) (by simp) ?_
          refine AllReadyH.cons (o := ⟨some 10, _, _, _, _, _⟩) rfl (fun K hK => ?_) AllReadyH.nil
          go_simp
          refine hK.out _ _ hHeld (fun hHeld => ?_)
          clear hK K
          refine wpAnyH_done (by kernel_rfl) ?_ _
          refine NoPanic.normal ?_
          clear hHeld
          go_wp2_with fail
          go_roundw
          case measure => first | (simp [intOf]; done) | (simp [intOf]; omega)
          case rel =>
            refine ⟨i + 1, _, by first | rfl | (congr 1; omega), by omega, by omega, ?_, by rw [HSU.out]; exact HWD2.out ▸ Q5.out, B5.out⟩
            rw [HSU.out, HWD2.out, ← HWD.out, HLE.out]
            try (rw [hdl]; rfl)
    · have him : i = m := by have := HM.out; omega
      subst him
      by_cases hc1 : i < n
      · have hiI : (i : Int) < (n : Int) := by omega
        have hi4 : ¬ (i : Int) < 40 := by omega
        go_wp2_with fail
        refine bodyPost_ret (v := .tuple #[.pointer (some ⟨pd, 0, none⟩), .int .i64 ((writtenTo L mark i).ws.length : Int)]) (by simp [results, Tryd.results21, go_sem]) rfl ?_
        exact ⟨pd, by first | rfl | (rw [HM.out]), S, Q.out, BR.out⟩
      · have hiI : ¬ (i : Int) < (n : Int) := by omega
        go_wp2_with fail
        refine bodyPost_ret (v := .tuple #[.pointer (some ⟨pd, 0, none⟩), .int .i64 ((writtenTo L mark i).ws.length : Int)]) (by simp [results, Tryd.results21, go_sem]) rfl ?_
        exact ⟨pd, by first | rfl | (rw [HM.out]), S, Q.out, BR.out⟩
set_option maxHeartbeats 16000000 in
theorem alike_c {w : World} {B1 B2 p1 p2 : Nat} {d d2 : Dk} {S1 S2 : Nat → Prop} (ha : Dsk w B1 p1 d S1) (hb : Dsk w B2 p2 d2 S2) (hnn : d.n = d2.n) (hnow : d.now = d2.now) :
    Calls Tryd.prog 24 #[.pointer (some ⟨p1, 0, none⟩), .pointer (some ⟨p2, 0, none⟩)] w fun e w' => e = .returned (.bool true) ∧ Below w.heap.size w w' := by
  have HA := Lib.hid ha
  have HB := Lib.hid hb
  have HNN := Lib.hid hnn
  have HNW := Lib.hid hnow
  have hne : ((d.n : Int) != (d.n : Int)) = false := by simp
  clear ha hb hnn hnow
  go_enter Tryd.func24, Tryd.ntmps24
  go_wp2_with fail
  refine (Len_c HA.out).mono ?_
  rintro e w1 ⟨rfl, hw⟩
  obtain rfl := hw.symm
  clear hw
  go_wp2_with fail
  refine (Len_c HB.out).mono ?_
  rintro e w1 ⟨he, hw⟩
  obtain rfl := hw.symm
  rw [← HNN.out] at he
  subst he
  clear hw
  go_wp2_with fail
  refine (Used_c HA.out).mono ?_
  rintro e w1 ⟨v1, rfl, ho1, hb1⟩
  obtain ⟨ul, hul⟩ : ∃ ul, (used d.n d.now).map (fun i : Nat => (i : Int)) = ul := ⟨_, rfl⟩
  have HUL := Lib.hid hul
  rw [hul] at ho1
  obtain ⟨n, hn⟩ : ∃ n, ul.length = n := ⟨_, rfl⟩
  have HN := Lib.hid hn
  have hn2 : n ≤ 131072 := by
    rw [← hn, ← hul, List.length_map]
    have := used_len d.n d.now
    have := HA.out.ok.hi
    omega
  obtain ⟨A1, c1, rfl, _, _, hA1⟩ := ho1.form hn
  have HA1 := Lib.hid hA1
  have O1 := Lib.hid ho1
  have B1 := Lib.hid hb1
  have QA1 := Lib.hid (HA.out.below hb1)
  have QB1 := Lib.hid (HB.out.below hb1)
  clear ho1 hb1 hul hn hA1
  go_wp2_with fail
  refine (Used_c QB1.out).mono ?_
  rintro e w2 ⟨v2, rfl, ho2, hb2⟩
  rw [← HNN.out, ← HNW.out, HUL.out] at ho2
  obtain ⟨A2, c2, rfl, _, _, hA2⟩ := ho2.form HN.out
  have HA2 := Lib.hid hA2
  have O2 := Lib.hid (ho2.mono B1.out.size)
  have O1b := Lib.hid (O1.out.below hb2)
  have B2 := Lib.hid (below_t B1.out hb2)
  have QA2 := Lib.hid (QA1.out.below hb2)
  have QB2 := Lib.hid (QB1.out.below hb2)
  have hzw2 := B2.out.size
  clear ho2 hb2 hA2
  go_wp2_with fail
  go_loopw [7] (fun v7 wr => ∃ i : Nat, v7 = .int .i64 (i : Nat) ∧ i ≤ n ∧ Below w2.heap.size w2 wr) (fun v _ => n - (intOf v).toNat)
  case atStart => exact ⟨0, rfl, Nat.zero_le _, Below.refl _ _⟩
  case round =>
    obtain ⟨i, rfl, hi, hbr⟩ := hrel
    have BR := Lib.hid hbr
    have hbz := hbr.size
    clear hbr
    by_cases hin : i < n
    · have hiI : (i : Int) < (n : Int) := by omega
      obtain ⟨g1, rfl, _, _⟩ := HA1.out (by omega)
      obtain ⟨g2, rfl, _, _⟩ := HA2.out (by omega)
      obtain ⟨u, hu⟩ : ∃ u, (used d.n d.now)[i]? = some u := by
        have : i < (used d.n d.now).length := by
          have := HN.out
          rw [← HUL.out, List.length_map] at this
          omega
        exact ⟨_, List.getElem?_eq_getElem this⟩
      have hxu : ul[i]? = some (u : Int) := by rw [← HUL.out, List.getElem?_map, hu]; rfl
      have hun := (used_mem.1 (List.mem_of_getElem? hu)).1
      have hind : inD d (u : Int) = true := inD_iff.2 ⟨by omega, by omega⟩
      obtain ⟨s, hs⟩ : ∃ s, readD d (u : Int) = s := ⟨_, rfl⟩
      have HS1 := Lib.hid hs
      have HE1 := Lib.hid (show readE d (u : Int) = 0 by unfold readE; rw [hind]; rfl)
      have hind2 : inD d2 (u : Int) = true := by
        unfold inD at hind ⊢
        rw [← HNN.out]
        exact hind
      have HS2 := Lib.hid (show readD d2 (u : Int) = s by
        rw [← hs]
        unfold readD
        rw [hind, hind2, HNW.out])
      have HE2 := Lib.hid (show readE d2 (u : Int) = 0 by unfold readE; rw [hind2]; rfl)
      have P1 := Lib.hid (O1b.out.below BR.out)
      have P2 := Lib.hid (O2.out.below BR.out)
      have y1 := int_at P1.out hxu
      have gl1 := (P1.out.ge g1 rfl).2
      have HXU := Lib.hid hxu
      clear hu hun hind hind2 hs hxu
      go_wp2_with fail
      refine (Read_i (QA2.out.below BR.out) HS1.out HE1.out).mono ?_
      rintro e w3 ⟨rfl, hb3⟩
      have B3 := Lib.hid (below_t BR.out hb3)
      have P1' := Lib.hid (P1.out.below hb3)
      have P2' := Lib.hid (P2.out.below hb3)
      have y1 := int_at P1'.out HXU.out
      have gl1 := (P1'.out.ge g1 rfl).2
      clear hb3
      go_wp2_with fail
      refine (Read_i (QB2.out.below B3.out) HS2.out HE2.out).mono ?_
      rintro e w4 ⟨rfl, hb4⟩
      have B4 := Lib.hid (below_t B3.out hb4)
      have y1 := int_at (P1'.out.below hb4) HXU.out
      have gl1 := ((P1'.out.below hb4).ge g1 rfl).2
      have y2 := int_at (P2'.out.below hb4) HXU.out
      have gl2 := ((P2'.out.below hb4).ge g2 rfl).2
      clear hb4
      go_wp2_with fail
      refine wp_region_noPanic ?_
      refine wp_region_held_drew (S := fun W => Below w4.heap.size w4 W) (by kernel_rfl) ((Below.refl _ w4).drew) (fun hHeld => ?_)
      refine wpAnyH_take (i := 0) (oi := ⟨some 58, _, _, _, _, _⟩) (v := .slice (some ⟨g1, 0, none⟩) n c1) rfl (by kernel_rfl) (by kernel_rfl) (by kernel_rfl) (fun _ _ _ h => h) (Or.inl ⟨by rfl, fun W hSW => by go_simp⟩) hHeld ?_
      simp only [Act.put, List.setIfInBounds_toArray, List.set_cons_zero, List.set_cons_succ]
      refine wpAnyH_take (i := 1) (oi := ⟨some 59, _, _, _, _, _⟩) (v := .int .i64 (i : Int)) rfl (by kernel_rfl) (by kernel_rfl) (by kernel_rfl) (fun _ _ _ h => h) (Or.inl ⟨by rfl, fun W hSW => by go_simp⟩) hHeld ?_
      simp only [Act.put, List.setIfInBounds_toArray, List.set_cons_zero, List.set_cons_succ]
      refine wpAnyH_take (i := 2) (oi := ⟨some 60, _, _, _, _, _⟩) (v := .pointer (some ⟨g1, i, none⟩)) rfl (by kernel_rfl) (by kernel_rfl) (by kernel_rfl) (fun _ _ _ h => h) (Or.inl ⟨by rfl, fun W hSW => by go_simp⟩) hHeld ?_
      simp only [Act.put, List.setIfInBounds_toArray, List.set_cons_zero, List.set_cons_succ]
      refine wpAnyH_take (i := 3) (oi := ⟨some 61, _, _, _, _, _⟩) (v := .int .i64 (u : Int)) rfl (by kernel_rfl) (by kernel_rfl) (by kernel_rfl) (fun _ _ _ h => h) (Or.inl ⟨by rfl, fun W hSW => by have a0 := (hSW.cell (p := ⟨g1, i, none⟩) gl1).trans y1; go_simp⟩) hHeld ?_
      simp only [Act.put, List.setIfInBounds_toArray, List.set_cons_zero, List.set_cons_succ]
      refine wpAnyH_take (i := 4) (oi := ⟨some 62, _, _, _, _, _⟩) (v := .slice (some ⟨g2, 0, none⟩) n c2) rfl (by kernel_rfl) (by kernel_rfl) (by kernel_rfl) (fun _ _ _ h => h) (Or.inl ⟨by rfl, fun W hSW => by go_simp⟩) hHeld ?_
      simp only [Act.put, List.setIfInBounds_toArray, List.set_cons_zero, List.set_cons_succ]
      refine wpAnyH_take (i := 5) (oi := ⟨some 63, _, _, _, _, _⟩) (v := .int .i64 (i : Int)) rfl (by kernel_rfl) (by kernel_rfl) (by kernel_rfl) (fun _ _ _ h => h) (Or.inl ⟨by rfl, fun W hSW => by go_simp⟩) hHeld ?_
      simp only [Act.put, List.setIfInBounds_toArray, List.set_cons_zero, List.set_cons_succ]
      refine wpAnyH_take (i := 6) (oi := ⟨some 64, _, _, _, _, _⟩) (v := .pointer (some ⟨g2, i, none⟩)) rfl (by kernel_rfl) (by kernel_rfl) (by kernel_rfl) (fun _ _ _ h => h) (Or.inl ⟨by rfl, fun W hSW => by go_simp⟩) hHeld ?_
      simp only [Act.put, List.setIfInBounds_toArray, List.set_cons_zero, List.set_cons_succ]
      refine wpAnyH_take (i := 7) (oi := ⟨some 65, _, _, _, _, _⟩) (v := .int .i64 (u : Int)) rfl (by kernel_rfl) (by kernel_rfl) (by kernel_rfl) (fun _ _ _ h => h) (Or.inl ⟨by rfl, fun W hSW => by have a0 := (hSW.cell (p := ⟨g2, i, none⟩) gl2).trans y2; go_simp⟩) hHeld ?_
      simp only [Act.put, List.setIfInBounds_toArray, List.set_cons_zero, List.set_cons_succ]
      refine wpAnyH_take (i := 8) (oi := ⟨some 66, _, _, _, _, _⟩) (v := .bool false) rfl (by kernel_rfl) (by kernel_rfl) (by kernel_rfl) (fun _ _ _ h => h) (Or.inl ⟨by rfl, fun W hSW => by go_simp⟩) hHeld ?_
      simp only [Act.put, List.setIfInBounds_toArray, List.set_cons_zero, List.set_cons_succ]
      refine wpAnyH_take (i := 9) (oi := ⟨some 67, _, _, _, _, _⟩) (v := .bool false) rfl (by kernel_rfl) (by kernel_rfl) (by kernel_rfl) (fun _ _ _ h => h) (Or.inl ⟨by rfl, fun W hSW => by go_simp⟩) hHeld ?_
      simp only [Act.put, List.setIfInBounds_toArray, List.set_cons_zero, List.set_cons_succ]
      refine wpAnyH_take (i := 10) (oi := ⟨some 68, _, _, _, _, _⟩) (v := .string (str s)) rfl (by kernel_rfl) (by kernel_rfl) (by kernel_rfl) (fun _ _ _ h => h) (Or.inl ⟨by rfl, fun W hSW => by go_simp⟩) hHeld ?_
      simp only [Act.put, List.setIfInBounds_toArray, List.set_cons_zero, List.set_cons_succ]
      refine wpAnyH_take (i := 11) (oi := ⟨some 69, _, _, _, _, _⟩) (v := .string (str s)) rfl (by kernel_rfl) (by kernel_rfl) (by kernel_rfl) (fun _ _ _ h => h) (Or.inl ⟨by rfl, fun W hSW => by go_simp⟩) hHeld ?_
      simp only [Act.put, List.setIfInBounds_toArray, List.set_cons_zero, List.set_cons_succ]
      refine wpAnyH_take (i := 12) (oi := ⟨some 70, _, _, _, _, _⟩) (v := .bool false) rfl (by kernel_rfl) (by kernel_rfl) (by kernel_rfl) (fun _ _ _ h => h) (Or.inl ⟨by rfl, fun W hSW => by go_simp⟩) hHeld ?_
      simp only [Act.put, List.setIfInBounds_toArray, List.set_cons_zero, List.set_cons_succ]
      refine wpAnyH_take (i := 13) (oi := ⟨some 71, _, _, _, _, _⟩) (v := .bool false) rfl (by kernel_rfl) (by kernel_rfl) (by kernel_rfl) (fun _ _ _ h => h) (Or.inl ⟨by rfl, fun W hSW => by go_simp⟩) hHeld ?_
      simp only [Act.put, List.setIfInBounds_toArray, List.set_cons_zero, List.set_cons_succ]
      refine wpAnyH_take (i := 14) (oi := ⟨some 72, _, _, _, _, _⟩) (v := .bool false) rfl (by kernel_rfl) (by kernel_rfl) (by kernel_rfl) (fun _ _ _ h => h) (Or.inl ⟨by rfl, fun W hSW => by go_simp⟩) hHeld ?_
      simp only [Act.put, List.setIfInBounds_toArray, List.set_cons_zero, List.set_cons_succ]
      refine wpAnyH_take (i := 15) (oi := ⟨some 73, _, _, _, _, _⟩) (v := .int .i64 0) rfl (by kernel_rfl) (by kernel_rfl) (by kernel_rfl) (fun _ _ _ h => h) (Or.inl ⟨by rfl, fun W hSW => by go_simp⟩) hHeld ?_
      simp only [Act.put, List.setIfInBounds_toArray, List.set_cons_zero, List.set_cons_succ]
      refine wpAnyH_take (i := 16) (oi := ⟨some 74, _, _, _, _, _⟩) (v := .bool false) rfl (by kernel_rfl) (by kernel_rfl) (by kernel_rfl) (fun _ _ _ h => h) (Or.inl ⟨by rfl, fun W hSW => by go_simp⟩) hHeld ?_
      simp only [Act.put, List.setIfInBounds_toArray, List.set_cons_zero, List.set_cons_succ]
      refine wpAnyH_take (i := 17) (oi := ⟨some 75, _, _, _, _, _⟩) (v := .bool false) rfl (by kernel_rfl) (by kernel_rfl) (by kernel_rfl) (fun _ _ _ h => h) (Or.inl ⟨by rfl, fun W hSW => by go_simp⟩) hHeld ?_
      simp only [Act.put, List.setIfInBounds_toArray, List.set_cons_zero, List.set_cons_succ]
      refine wpAnyH_take (i := 18) (oi := ⟨some 76, _, _, _, _, _⟩) (v := .bool false) rfl (by kernel_rfl) (by kernel_rfl) (by kernel_rfl) (fun _ _ _ h => h) (Or.inl ⟨by rfl, fun W hSW => by go_simp⟩) hHeld ?_
      simp only [Act.put, List.setIfInBounds_toArray, List.set_cons_zero, List.set_cons_succ]
      refine wpAnyH_take (i := 19) (oi := ⟨some 77, _, _, _, _, _⟩) (v := .int .i64 0) rfl (by kernel_rfl) (by kernel_rfl) (by kernel_rfl) (fun _ _ _ h => h) (Or.inl ⟨by rfl, fun W hSW => by go_simp⟩) hHeld ?_
      simp only [Act.put, List.setIfInBounds_toArray, List.set_cons_zero, List.set_cons_succ]
      refine wpAnyH_take (i := 20) (oi := ⟨some 78, _, _, _, _, _⟩) (v := .bool false) rfl (by kernel_rfl) (by kernel_rfl) (by kernel_rfl) (fun _ _ _ h => h) (Or.inl ⟨by rfl, fun W hSW => by go_simp⟩) hHeld ?_
      simp only [Act.put, List.setIfInBounds_toArray, List.set_cons_zero, List.set_cons_succ]
      refine wpAnyH_take (i := 21) (oi := ⟨some 79, _, _, _, _, _⟩) (v := .bool false) rfl (by kernel_rfl) (by kernel_rfl) (by kernel_rfl) (fun _ _ _ h => h) (Or.inl ⟨by rfl, fun W hSW => by go_simp⟩) hHeld ?_
      simp only [Act.put, List.setIfInBounds_toArray, List.set_cons_zero, List.set_cons_succ]
      refine wpAnyH_done (by kernel_rfl) ?_ _
      refine NoPanic.normal ?_
      have B5 := Lib.hid (below_t B4.out hHeld)
      clear hHeld
      go_wp2_with fail
      go_roundw
      case rel => exact ⟨i + 1, by first | rfl | (congr 1; omega), by omega, B5.out⟩
      case measure => first | (simp [intOf]; done) | (simp [intOf]; omega)
    · have hiI : ¬ (i : Int) < (n : Int) := by omega
      go_wp2_with fail
      go_ret
      exact ⟨rfl, below_t B2.out BR.out⟩
end SecW
end Go.Proofs.YtjcmpcdalghniaaDoor
