/-
  SectorPlays: whatever is done with a disk, it answers what the document says.
-/
import Derived.Test.YtjcmpcdalghniaaDoorSectorLawSame
import Derived.Test.YtjcmpcdalghniaaDoorSectorWr
import Derived.Test.YtjcmpcdalghniaaDoorSectorArg
namespace Go.Proofs.YtjcmpcdalghniaaDoor
open Go.RowKit
set_option linter.unusedVariables false
set_option linter.unusedSimpArgs false
set_option maxRecDepth 100000
namespace SecW
open BlkP RowG FrS PushG JournalP SecP
/-- The box of a call: three cells. -/
def TDo : TypeId := 32
def Bx (w : World) (xb : Nat) (vs : List Value) : Prop := Blk w xb 32 vs
theorem Bx.ge {w : World} {xb k : Nat} {vs : List Value} (h : Bx w xb vs) (hk : k = xb) : 0 ≤ k ∧ k < w.heap.size := ⟨Nat.zero_le _, by subst hk; exact Blk.lt h⟩
theorem Bx.fr {w w' : World} {xb : Nat} {vs : List Value} {T : Nat → Prop} (h : Bx w xb vs) (hf : Fr T w w') (hd : ∀ k, k = xb → ¬ T k) : Bx w' xb vs := hf.blk h (hd xb rfl)
theorem Bx.below {w w' : World} {xb : Nat} {vs : List Value} (h : Bx w xb vs) (hb : Below w.heap.size w w') : Bx w' xb vs := Blk.below h hb
theorem Bx.drew {w : World} {xb : Nat} {vs : List Value} (h : Bx w xb vs) : Bx w.drew xb vs := h
theorem Bx.blk {w : World} {xb : Nat} {vs : List Value} (h : Bx w xb vs) : Blk w xb 32 vs := h
theorem Rsk.drew2 {w : World} {B pq m : Nat} {d : Dk} {S : Nat → Prop} (h : Rsk w B pq m d S) : Rsk w.drew B pq m d S := h.below ((Below.refl _ w).drew)
theorem rem_bd (x : Int) : -5 < Int.tmod x 5 ∧ Int.tmod x 5 < 5 := by
  constructor
  · have := Int.lt_tmod_of_pos x (b := 5) (by omega)
    omega
  · exact Int.tmod_lt_of_pos x (by omega)
set_option maxHeartbeats 16000000 in
theorem law_plays {w : World} {k : Int} {A : Option Addr} {n c : Nat} {L : List (Int × Int × Sec)} (hk0 : -9223372036854775808 ≤ k) (hk1 : k ≤ 9223372036854775807) (hR : Rd encDo w (.slice A n c) L) (hn : L.length = n) :
    Calls Tryd.prog 3 #[.int .i64 k, .slice A n c] w fun e w' => e = .returned (.bool true) ∧ Below w.heap.size w w' := by
  have HR := Lib.hid hR
  have HN := Lib.hid hn
  have hnb : n ≤ 9223372036854775807 := by have := (RowE.rd_len hR); omega
  have B0 := Lib.hid (Below.refl w.heap.size w)
  have B := Lib.hid (Below.refl w.heap.size w)
  have hzB : w.heap.size ≤ w.heap.size := Nat.le_refl _
  clear hR hn
  by_cases hin : 256 ≤ k ∧ k ≤ 131072
  · obtain ⟨g1, g2⟩ := hin
    obtain ⟨kk, rfl⟩ : ∃ kk : Nat, k = (kk : Int) := ⟨k.toNat, by omega⟩
    have G1 := Lib.hid (show 256 ≤ kk by omega)
    have G2 := Lib.hid (show kk ≤ 131072 by omega)
    clear g1 g2
    go_enter Tryd.func3, Tryd.ntmps3
    go_wp2_with fail
    refine (New_i rfl G1.out G2.out).mono ?_
    rintro e w1 ⟨pd, rfl, S0, hq, hb⟩
    have QD := Lib.hid (hq.mono hzB)
    have B' := Lib.hid (below_t B.out hb)
    clear B
    have B := B'
    have hzB := B.out.size
    clear B'
    clear hq hb
    go_wp2_with fail
    refine (rNew_c G1.out G2.out).mono ?_
    rintro e w2 ⟨pq, rfl, S1, hq, hb⟩
    have DD := Lib.hid (show ∀ k, S0 k → ¬ S1 k from apart_new (fun k hk => (QD.out.ge hk).2) (fun k hk => (hq.ge hk).1))
    have QR := Lib.hid (hq.mono hzB (Nat.le_refl _))
    have QD := Lib.hid (QD.out.below hb)
    have B' := Lib.hid (below_t B.out hb)
    clear B
    have B := B'
    have hzB := B.out.size
    clear B'
    clear hq hb
    have DQ := Lib.hid (show ∀ k, S1 k → ¬ S0 k from fun k h5 h2 => DD.out k h2 h5)
    clear DD
    go_wp2_with fail
    go_loopw [5, 7, 9] (fun v5 v7 v9 wr => ∃ (i pd pq : Nat) (d : Dk) (S S2 : Nat → Prop), v5 = .pointer (some ⟨pd, 0, none⟩) ∧ v7 = .pointer (some ⟨pq, 0, none⟩) ∧ v9 = .int .i64 (i : Int) ∧ i ≤ n ∧ i ≤ 60 ∧ Dsk wr w.heap.size pd d S ∧ Rsk wr w.heap.size pq i d S2 ∧ (∀ k, S2 k → ¬ S k) ∧ Below w.heap.size w wr) (fun _ _ v _ => 100 - (intOf v).toNat)
    case atStart => exact ⟨0, pd, pq, SecP.mk kk, S0, S1, rfl, rfl, rfl, Nat.zero_le _, by omega, QD.out, QR.out, DQ.out, B.out⟩
    case round =>
      obtain ⟨i, pd, pq, d, S, S2, rfl, rfl, rfl, hin, hi6, hqd, hqr, hdq, hbr⟩ := hrel
      clear QD QR DQ B
      have QD := Lib.hid hqd
      have QR := Lib.hid hqr
      have DQ := Lib.hid hdq
      have B := Lib.hid hbr
      have hzB := hbr.size
      have hdl := hqr.len
      clear hqd hqr hdq hbr
      by_cases hc : i < n ∧ i < 60
      · obtain ⟨hc1, hc2⟩ := hc
        have hiI : (i : Int) < (n : Int) := by omega
        have hiJ : (i : Int) < 60 := by omega
        obtain ⟨⟨xw, xa, xs⟩, hx⟩ : ∃ x, L[i]? = some x := ⟨_, List.getElem?_eq_getElem (by rw [HN.out]; exact hc1)⟩
        obtain ⟨b, o, hbo, hlt, hcs⟩ := (HR.out.below (B.out)).at hx
        subst hbo
        have x0 := hcs 0 _ rfl
        have x1 := hcs 1 _ rfl
        have x2 := hcs 2 _ rfl
        have hk : encDo.k = 3 := rfl
        rw [hk] at x0 x1 x2
        have hol : o + i * 3 + 0 = o + i * 3 := rfl
        rw [hol] at x0
        have hsz := str_size xs
        obtain ⟨t, ht⟩ : ∃ t : Nat, min xs.length 600 = t := ⟨_, rfl⟩
        have hmn : min (xs.length : Int) 600 = (t : Int) := by omega
        obtain ⟨s, hs⟩ : ∃ s, xs.take t = s := ⟨_, rfl⟩
        have qs : ∀ w, (Instr.sliceAt 9 (.string (str xs)) none (some (.int .i64 (t : Int))) none).run Tryd.prog w = .ok (.string (str s)) w := fun w => by
          have := run_upto (w := w) (s := xs) (k := t) (by omega)
          rw [hs] at this
          exact this
        obtain ⟨xb, hxb⟩ : ∃ xb, wr.heap.size = xb := ⟨_, rfl⟩
        have hSx : ∀ k, S k → k < xb := fun k hk => by rw [← hxb]; exact (QD.out.ge hk).2
        have hSy : ∀ k, S2 k → k < xb := fun k hk => by rw [← hxb]; exact (QR.out.ge hk).2
        have DXD := Lib.hid (show ∀ k, (fun k => k = xb) k → ¬ S k from fun k hk hs => by have h1 : k = xb := hk; have h2 := hSx k hs; omega)
        have DXQ := Lib.hid (show ∀ k, (fun k => k = xb) k → ¬ S2 k from fun k hk hs => by have h1 : k = xb := hk; have h2 := hSy k hs; omega)
        clear hcs hk hol hx ht hs hSx hSy
        go_wp2_with ((with_reducible refine at_slot 59 ?_); refine Classical.byContradiction (fun hG => ?_))
        refine hG ?_
        clear hG
        refine list_named (S := fun W => Below wr.heap.size wr W ∧ Blk W xb 32 [.int .i64 xw, .int .i64 xa, .string (str xs)]) ⟨by (repeat' (first | (with_reducible exact Below.refl _ _) | (with_reducible refine Below.setCell ?_ (by (first | omega | (simp; done) | (simp; omega))) _) | (with_reducible refine Below.alloc ?_ (by (first | omega | (simp; done) | (simp; omega))) _) | (with_reducible refine Below.drew ?_) | (with_reducible refine below_drewN ?_ _))), by rw [← hxb]; (repeat' (first | (with_reducible refine BlkP.Blk.drew ?_) | (with_reducible refine BlkP.Blk.drewN ?_ _) | (with_reducible refine BlkP.Blk.setAt (us := ?_) (by first | omega | (simp; done) | (simp; omega)) rfl ?_ ?_) | (with_reducible refine BlkP.Blk.otherAt ?_ (by first | omega | (simp; done) | (simp; omega))) | (with_reducible refine BlkP.Blk.newA' (by first | omega | (simp; done) | (simp; omega)) rfl) | (with_reducible refine BlkP.Blk.alloc ?_ _) | (exact rfl)))⟩ ?_
        rintro w3 ⟨hb, hk⟩
        try rw [hxb]
        have X := Lib.hid (show Bx w3 xb _ from hk)
        have QD := Lib.hid (QD.out.below hb)
        have QR := Lib.hid (QR.out.below hb)
        have B' := Lib.hid (below_t B.out hb)
        clear B
        have B := B'
        have hzB := B.out.size
        clear B'
        clear hb hk x0 x1 x2 hlt hmn
        obtain ⟨r, hr⟩ : ∃ r, Int.tmod xw 5 = r := ⟨_, rfl⟩
        have hr5 := rem_bd xw
        rw [hr] at hr5
        obtain ⟨hr6, hr7⟩ := hr5
        have k0 := X.out.blk.cell (i := 0) rfl
        have k2 := X.out.blk.cell (i := 2) rfl
        have kl := X.out.blk.lt
        by_cases hq0 : r = 0
        · subst hq0
          obtain ⟨z, hz⟩ : ∃ z, writeE d xa s = z := ⟨_, rfl⟩
          obtain ⟨d5, hd5⟩ : ∃ d5, writeD d xa s = d5 := ⟨_, rfl⟩
          have HWE := Lib.hid hz
          have HWD := Lib.hid hd5
          have HXN := Lib.hid (show ¬ (S xb ∨ S2 xb) from fun q => q.elim (DXD.out xb rfl) (DXQ.out xb rfl))
          clear hz hd5
          have k1 := X.out.blk.cell (i := 1) rfl
          have kl := X.out.blk.lt
          go_wp2_with fail
          refine wp_region_noPanic ?_
          refine wp_region_held_drew (S := fun W => Fr (fun k => S k ∨ S2 k) w3 W) (by kernel_rfl) ((Fr.refl (fun k => S k ∨ S2 k) w3).drew) (fun hHeld => ?_)
          refine wpAnyH_take (i := 0) (oi := ⟨some 72, _, _, _, _, _⟩) (v := .pointer (some ⟨pd, 0, none⟩)) rfl (by kernel_rfl) (by kernel_rfl) (by kernel_rfl) (fun _ _ _ h => h) (Or.inl ⟨by rfl, fun W hSW => by go_simp⟩) hHeld ?_
          simp only [Act.put, List.setIfInBounds_toArray, List.set_cons_zero, List.set_cons_succ]
          refine wpAnyH_take (i := 1) (oi := ⟨some 73, _, _, _, _, _⟩) (v := .pointer (some ⟨xb, 1, none⟩)) rfl (by kernel_rfl) (by kernel_rfl) (by kernel_rfl) (fun _ _ _ h => h) (Or.inl ⟨by rfl, fun W hSW => by go_simp⟩) hHeld ?_
          simp only [Act.put, List.setIfInBounds_toArray, List.set_cons_zero, List.set_cons_succ]
          refine wpAnyH_take (i := 2) (oi := ⟨some 74, _, _, _, _, _⟩) (v := .int .i64 xa) rfl (by kernel_rfl) (by kernel_rfl) (by kernel_rfl) (fun _ _ _ h => h) (Or.inl ⟨by rfl, fun W hSW => by have a0 := (hSW.cell (p := ⟨xb, 1, none⟩) kl HXN.out).trans k1; go_simp⟩) hHeld ?_
          simp only [Act.put, List.setIfInBounds_toArray, List.set_cons_zero, List.set_cons_succ]
          refine wpAnyH_take (i := 3) (oi := ⟨some 75, _, _, _, _, _⟩) (v := .string (str s)) rfl (by kernel_rfl) (by kernel_rfl) (by kernel_rfl) (fun _ _ _ h => h) (Or.inl ⟨by rfl, fun W hSW => by go_simp⟩) hHeld ?_
          simp only [Act.put, List.setIfInBounds_toArray, List.set_cons_zero, List.set_cons_succ]
          refine wpAnyH_take (i := 5) (oi := ⟨some 77, _, _, _, _, _⟩) (v := .pointer (some ⟨pq, 0, none⟩)) rfl (by kernel_rfl) (by kernel_rfl) (by kernel_rfl) (fun _ _ _ h => h) (Or.inl ⟨by rfl, fun W hSW => by go_simp⟩) hHeld ?_
          simp only [Act.put, List.setIfInBounds_toArray, List.set_cons_zero, List.set_cons_succ]
          refine wpAnyH_take (i := 6) (oi := ⟨some 78, _, _, _, _, _⟩) (v := .pointer (some ⟨xb, 1, none⟩)) rfl (by kernel_rfl) (by kernel_rfl) (by kernel_rfl) (fun _ _ _ h => h) (Or.inl ⟨by rfl, fun W hSW => by go_simp⟩) hHeld ?_
          simp only [Act.put, List.setIfInBounds_toArray, List.set_cons_zero, List.set_cons_succ]
          refine wpAnyH_take (i := 7) (oi := ⟨some 79, _, _, _, _, _⟩) (v := .int .i64 xa) rfl (by kernel_rfl) (by kernel_rfl) (by kernel_rfl) (fun _ _ _ h => h) (Or.inl ⟨by rfl, fun W hSW => by have a0 := (hSW.cell (p := ⟨xb, 1, none⟩) kl HXN.out).trans k1; go_simp⟩) hHeld ?_
          simp only [Act.put, List.setIfInBounds_toArray, List.set_cons_zero, List.set_cons_succ]
          refine wpAnyH_take (i := 8) (oi := ⟨some 80, _, _, _, _, _⟩) (v := .string (str s)) rfl (by kernel_rfl) (by kernel_rfl) (by kernel_rfl) (fun _ _ _ h => h) (Or.inl ⟨by rfl, fun W hSW => by go_simp⟩) hHeld ?_
          simp only [Act.put, List.setIfInBounds_toArray, List.set_cons_zero, List.set_cons_succ]
          refine wpAnyH_ready (rs := [4]) (by kernel_rfl) (by simp) ?_
          refine AllReadyH.cons (o := ⟨some 76, _, _, _, _, _⟩) rfl (fun K hK => ?_) AllReadyH.nil
          go_simp
          refine (Write_i QD.out.drew (by omega) HWD.out HWE.out).mono ?_
          rintro e w5 ⟨rfl, S5, hq, hf, hn⟩
          have DQ' := Lib.hid (show ∀ k, S2 k → ¬ S5 k from apart_turned (w := w3) (fun k hk => (QR.out.ge hk).2) DQ.out hn)
          have QR' := Lib.hid ((QR.out.drew).fr hf DQ.out)
          have DXD' := Lib.hid (show ∀ k, (fun k => k = xb) k → ¬ S5 k from apart_turned (w := w3) (fun k hk => (X.out.ge hk).2) DXD.out hn)
          have X' := Lib.hid ((X.out.drew).fr hf DXD.out)
          have B' := Lib.hid (B.out.drew.trans (QD.out.drew.toBelow hf))
          have QD' := Lib.hid hq
          have HFR := Lib.hid ((Fr.refl (fun k => S k ∨ S2 k) w3).drew.trans hf (fun i hi => .inl (.inl hi)))
          clear hq hf hn QD QR B X DQ DXD
          have QD := QD'
          have QR := QR'
          have B := B'
          have X := X'
          have DQ := DQ'
          have DXD := DXD'
          clear QD' QR' B' X' DQ' DXD'
          go_wp2_with fail
          refine hK.out _ _ HFR.out (fun hHeld => ?_)
          clear hK K HFR
          have DQ2 := Lib.hid (show ∀ k, S5 k → ¬ S2 k from fun k h5 h2 => DQ.out k h2 h5)
          refine wpAnyH_ready (rs := [9]) (by kernel_rfl) (by simp) ?_
          refine AllReadyH.cons (o := ⟨some 81, _, _, _, _, _⟩) rfl (fun K hK => ?_) AllReadyH.nil
          go_simp
          refine (rWrite_c (i := xa) (s := s) QR.out (by omega)).mono ?_
          rintro e w6 ⟨he, S6, hq, hf, hn⟩
          rw [HWE.out] at he
          rw [HWD.out] at hq
          subst he
          have DQ2' := Lib.hid (show ∀ k, S5 k → ¬ S6 k from apart_turned (w := w5) (fun k hk => (QD.out.ge hk).2) DQ2.out hn)
          have QD' := Lib.hid (QD.out.fr hf DQ2.out)
          have DXQ' := Lib.hid (show ∀ k, (fun k => k = xb) k → ¬ S6 k from apart_turned (w := w5) (fun k hk => (X.out.ge hk).2) DXQ.out hn)
          have X' := Lib.hid (X.out.fr hf DXQ.out)
          have B' := Lib.hid (B.out.trans (QR.out.toBelow hf))
          have QR' := Lib.hid hq
          have HFR := Lib.hid (hHeld.trans hf (fun i hi => .inl (.inr hi)))
          clear hq hf hn QD QR B X DQ DQ2 DXQ hHeld
          have QD := QD'
          have QR := QR'
          have B := B'
          have X := X'
          have DXQ := DXQ'
          have DQ := Lib.hid (show ∀ k, S6 k → ¬ S5 k from fun k h5 h2 => DQ2'.out k h2 h5)
          clear QD' QR' B' X' DQ2' DXQ'
          have hzB := B.out.size
          go_wp2_with fail
          refine hK.out _ _ HFR.out (fun hHeld => ?_)
          clear hK K HFR
          refine wpAnyH_ready (rs := [10]) (by kernel_rfl) (by simp) ?_
          refine AllReadyH.cons (o := ⟨some 12, _, _, _, _, _⟩) rfl (fun K hK => ?_) AllReadyH.nil
          go_simp
          refine hK.out _ _ hHeld (fun hHeld => ?_)
          clear hK K
          refine wpAnyH_ready (rs := [11]) (by kernel_rfl) (by simp) ?_
          refine AllReadyH.cons (o := ⟨some 13, _, _, _, _, _⟩) rfl (fun K hK => ?_) AllReadyH.nil
          go_simp
          refine hK.out _ _ hHeld (fun hHeld => ?_)
          clear hK K
          refine wpAnyH_done (by kernel_rfl) ?_ _
          refine NoPanic.normal ?_
          clear hHeld k1 kl
          have k1 := X.out.blk.cell (i := 1) rfl
          have kl := X.out.blk.lt
          go_wp2_with fail
          clear k1 kl
          refine (same_c QD.out QR.out (by omega)).mono ?_
          rintro e w9 ⟨rfl, hb⟩
          have QD := Lib.hid (QD.out.below hb)
          have QR := Lib.hid (QR.out.below hb)
          have B' := Lib.hid (below_t B.out hb)
          clear B
          have B := B'
          have hzB := B.out.size
          clear B'
          clear hb
          go_wp2_with fail
          go_roundw
          case measure => first | (simp [intOf]; done) | (simp [intOf]; omega)
          case rel => exact ⟨i + 1, pd, pq, d5, S5, S6, rfl, rfl, by first | rfl | (congr 1; omega), by omega, by omega, QD.out, QR.out.mono (Nat.le_refl _) (by omega), DQ.out, B.out⟩
        by_cases hq1 : r = 1
        · subst hq1
          have k1 := X.out.blk.cell (i := 1) rfl
          have kl := X.out.blk.lt
          go_wp2_with fail
          clear k1 kl
          refine (same_c QD.out QR.out (by omega)).mono ?_
          rintro e w9 ⟨rfl, hb⟩
          have QD := Lib.hid (QD.out.below hb)
          have QR := Lib.hid (QR.out.below hb)
          have B' := Lib.hid (below_t B.out hb)
          clear B
          have B := B'
          have hzB := B.out.size
          clear B'
          clear hb
          go_wp2_with fail
          go_roundw
          case measure => first | (simp [intOf]; done) | (simp [intOf]; omega)
          case rel => exact ⟨i + 1, pd, pq, d, S, S2, rfl, rfl, by first | rfl | (congr 1; omega), by omega, by omega, QD.out, QR.out.mono (Nat.le_refl _) (by omega), DQ.out, B.out⟩
        by_cases hq2 : r = 2
        · subst hq2
          go_wp2_with fail
          refine (Mark_c QD.out).mono ?_
          rintro e w4 ⟨rfl, S5, hq, hf, hn⟩
          have DQ' := Lib.hid (show ∀ k, S2 k → ¬ S5 k from apart_turned (fun k hk => (QR.out.ge hk).2) DQ.out hn)
          have QR' := Lib.hid (QR.out.fr hf DQ.out)
          clear DQ QR
          have DQ := DQ'
          have QR := QR'
          clear DQ' QR'
          have DXD' := Lib.hid (show ∀ k, (fun k => k = xb) k → ¬ S5 k from apart_turned (fun k hk => (X.out.ge hk).2) DXD.out hn)
          have X' := Lib.hid (X.out.fr hf DXD.out)
          clear DXD X
          have DXD := DXD'
          have X := X'
          clear DXD' X'
          have B' := Lib.hid (B.out.trans (QD.out.toBelow hf))
          have QD' := Lib.hid hq
          clear B QD
          have B := B'
          have QD := QD'
          have hzB := B.out.size
          clear B' QD' hq hf hn
          have DQ2 := Lib.hid (show ∀ k, S5 k → ¬ S2 k from fun k h5 h2 => DQ.out k h2 h5)
          clear DQ
          go_wp2_with fail
          refine (rMark_c QR.out (by omega)).mono ?_
          rintro e w5 ⟨rfl, S6, hq, hf, hn⟩
          have DQ2' := Lib.hid (show ∀ k, S5 k → ¬ S6 k from apart_turned (fun k hk => (QD.out.ge hk).2) DQ2.out hn)
          have QD' := Lib.hid (QD.out.fr hf DQ2.out)
          clear DQ2 QD
          have DQ2 := DQ2'
          have QD := QD'
          clear DQ2' QD'
          have DXQ' := Lib.hid (show ∀ k, (fun k => k = xb) k → ¬ S6 k from apart_turned (fun k hk => (X.out.ge hk).2) DXQ.out hn)
          have X' := Lib.hid (X.out.fr hf DXQ.out)
          clear DXQ X
          have DXQ := DXQ'
          have X := X'
          clear DXQ' X'
          have B' := Lib.hid (B.out.trans (QR.out.toBelow hf))
          have QR' := Lib.hid hq
          clear B QR
          have B := B'
          have QR := QR'
          have hzB := B.out.size
          clear B' QR' hq hf hn
          have DQ := Lib.hid (show ∀ k, S6 k → ¬ S5 k from fun k h5 h2 => DQ2.out k h2 h5)
          clear DQ2
          have k1 := X.out.blk.cell (i := 1) rfl
          have kl := X.out.blk.lt
          go_wp2_with fail
          clear k1 kl
          refine (same_c QD.out QR.out (by omega)).mono ?_
          rintro e w9 ⟨rfl, hb⟩
          have QD := Lib.hid (QD.out.below hb)
          have QR := Lib.hid (QR.out.below hb)
          have B' := Lib.hid (below_t B.out hb)
          clear B
          have B := B'
          have hzB := B.out.size
          clear B'
          clear hb
          go_wp2_with fail
          go_roundw
          case measure => first | (simp [intOf]; done) | (simp [intOf]; omega)
          case rel => exact ⟨i + 1, pd, pq, d.mark, S5, S6, rfl, rfl, by first | rfl | (congr 1; omega), by omega, by omega, QD.out, QR.out.mono (Nat.le_refl _) (by omega), DQ.out, B.out⟩
        by_cases hq3 : r = 3
        · subst hq3
          by_cases hat : xa < 0 ∨ (d.ws.length : Int) < xa
          · have HAT := Lib.hid hat
            clear hat
            have k1 := X.out.blk.cell (i := 1) rfl
            have kl := X.out.blk.lt
            go_wp2_with fail
            clear k1 kl
            refine (Cut_out QD.out HAT.out).mono ?_
            rintro e w4 ⟨rfl, hw⟩
            obtain rfl := hw.symm
            clear hw
            have k1 := X.out.blk.cell (i := 1) rfl
            have kl := X.out.blk.lt
            go_wp2_with fail
            clear k1 kl
            refine (rCut_out QR.out (by omega) HAT.out).mono ?_
            rintro e w5 ⟨rfl, hb⟩
            have QD := Lib.hid (QD.out.below hb)
            have QR := Lib.hid (QR.out.below hb)
            have X := Lib.hid (X.out.below hb)
            have B' := Lib.hid (below_t B.out hb)
            clear B
            have B := B'
            have hzB := B.out.size
            clear B'
            clear hb
            have k1 := X.out.blk.cell (i := 1) rfl
            have kl := X.out.blk.lt
            go_wp2_with fail
            clear k1 kl
            refine (same_c QD.out QR.out (by omega)).mono ?_
            rintro e w9 ⟨rfl, hb⟩
            have QD := Lib.hid (QD.out.below hb)
            have QR := Lib.hid (QR.out.below hb)
            have B' := Lib.hid (below_t B.out hb)
            clear B
            have B := B'
            have hzB := B.out.size
            clear B'
            clear hb
            go_wp2_with fail
            go_roundw
            case measure => first | (simp [intOf]; done) | (simp [intOf]; omega)
            case rel => exact ⟨i + 1, pd, pq, d, S, S2, rfl, rfl, by first | rfl | (congr 1; omega), by omega, by omega, QD.out, QR.out.mono (Nat.le_refl _) (by omega), DQ.out, B.out⟩
          · obtain ⟨j, hj⟩ : ∃ j : Nat, xa = (j : Int) := ⟨xa.toNat, by omega⟩
            have hjl : j ≤ d.ws.length := by omega
            subst hj
            clear hat
            have k1 := X.out.blk.cell (i := 1) rfl
            have kl := X.out.blk.lt
            go_wp2_with fail
            clear k1 kl
            refine (Cut_i (j := j) rfl QD.out (by omega) hjl).mono ?_
            rintro e w4 ⟨pc, rfl, S5, hq, hb⟩
            have DC := Lib.hid (show ∀ k, S2 k → ¬ S5 k from apart_new (fun k hk => (QR.out.ge hk).2) (fun k hk => (hq.ge hk).1))
            have DXC := Lib.hid (show ∀ k, (fun k => k = xb) k → ¬ S5 k from apart_new (fun k hk => (X.out.ge hk).2) (fun k hk => (hq.ge hk).1))
            have QC := Lib.hid (hq.mono hzB)
            have QR := Lib.hid (QR.out.below hb)
            have X := Lib.hid (X.out.below hb)
            have B' := Lib.hid (below_t B.out hb)
            clear B
            have B := B'
            have hzB := B.out.size
            clear B'
            clear hq hb
            have k1 := X.out.blk.cell (i := 1) rfl
            have kl := X.out.blk.lt
            go_wp2_with fail
            clear k1 kl
            refine (rCut_c QR.out (by omega) hjl).mono ?_
            rintro e w5 ⟨pp, rfl, S6, hq, hb⟩
            have DP := Lib.hid (show ∀ k, S5 k → ¬ S6 k from apart_new (fun k hk => (QC.out.ge hk).2) (fun k hk => (hq.ge hk).1))
            have DXP := Lib.hid (show ∀ k, (fun k => k = xb) k → ¬ S6 k from apart_new (fun k hk => (X.out.ge hk).2) (fun k hk => (hq.ge hk).1))
            have QP := Lib.hid (hq.mono hzB (Nat.le_refl _))
            have QC := Lib.hid (QC.out.below hb)
            have X := Lib.hid (X.out.below hb)
            have B' := Lib.hid (below_t B.out hb)
            clear B
            have B := B'
            have hzB := B.out.size
            clear B'
            clear hq hb
            have DPC := Lib.hid (show ∀ k, S6 k → ¬ S5 k from fun k h5 h2 => DP.out k h2 h5)
            have k1 := X.out.blk.cell (i := 1) rfl
            have kl := X.out.blk.lt
            go_wp2_with fail
            clear k1 kl
            refine (same_c QC.out QP.out (by omega)).mono ?_
            rintro e w9 ⟨rfl, hb⟩
            have QC := Lib.hid (QC.out.below hb)
            have QP := Lib.hid (QP.out.below hb)
            have B' := Lib.hid (below_t B.out hb)
            clear B
            have B := B'
            have hzB := B.out.size
            clear B'
            clear hb
            go_wp2_with fail
            go_roundw
            case measure => first | (simp [intOf]; done) | (simp [intOf]; omega)
            case rel => exact ⟨i + 1, pc, pp, (d.cut j), S5, S6, rfl, rfl, by first | rfl | (congr 1; omega), by omega, by omega, QC.out, QP.out.mono (Nat.le_refl _) (by omega), DPC.out, B.out⟩
        go_wp2_with fail
        refine (Copy_c QD.out (by omega)).mono ?_
        rintro e w4 ⟨pc, rfl, S5, hq, hb⟩
        have DDC := Lib.hid (show ∀ k, S k → ¬ S5 k from apart_new (fun k hk => (QD.out.ge hk).2) (fun k hk => (hq.ge hk).1))
        have DC := Lib.hid (show ∀ k, S2 k → ¬ S5 k from apart_new (fun k hk => (QR.out.ge hk).2) (fun k hk => (hq.ge hk).1))
        have DXC := Lib.hid (show ∀ k, (fun k => k = xb) k → ¬ S5 k from apart_new (fun k hk => (X.out.ge hk).2) (fun k hk => (hq.ge hk).1))
        have QC := Lib.hid (hq.mono hzB)
        have QD := Lib.hid (QD.out.below hb)
        have QR := Lib.hid (QR.out.below hb)
        have X := Lib.hid (X.out.below hb)
        have B' := Lib.hid (below_t B.out hb)
        clear B
        have B := B'
        have hzB := B.out.size
        clear B'
        clear hq hb
        have DCD := Lib.hid (show ∀ k, S5 k → ¬ S k from fun k h5 h2 => DDC.out k h2 h5)
        clear DDC
        obtain ⟨z, hz⟩ : ∃ z, writeE d 1 [120] = z := ⟨_, rfl⟩
        have HWE := Lib.hid hz
        clear hz
        go_wp2_with fail
        refine (Write_i (s := [120]) QD.out (by omega) rfl HWE.out).mono ?_
        rintro e w5 ⟨rfl, S6, hq, hf, hn⟩
        have DCD' := Lib.hid (show ∀ k, S5 k → ¬ S6 k from apart_turned (fun k hk => (QC.out.ge hk).2) DCD.out hn)
        have QC' := Lib.hid (QC.out.fr hf DCD.out)
        clear DCD QC
        have DCD := DCD'
        have QC := QC'
        clear DCD' QC'
        have DQ' := Lib.hid (show ∀ k, S2 k → ¬ S6 k from apart_turned (fun k hk => (QR.out.ge hk).2) DQ.out hn)
        have QR' := Lib.hid (QR.out.fr hf DQ.out)
        clear DQ QR
        have DQ := DQ'
        have QR := QR'
        clear DQ' QR'
        have DXD' := Lib.hid (show ∀ k, (fun k => k = xb) k → ¬ S6 k from apart_turned (fun k hk => (X.out.ge hk).2) DXD.out hn)
        have X' := Lib.hid (X.out.fr hf DXD.out)
        clear DXD X
        have DXD := DXD'
        have X := X'
        clear DXD' X'
        have B' := Lib.hid (B.out.trans (QD.out.toBelow hf))
        have QD' := Lib.hid hq
        clear B QD
        have B := B'
        have QD := QD'
        have hzB := B.out.size
        clear B' QD' hq hf hn
        clear QD
        go_wp2_with fail
        refine (rCopy_c QR.out (by omega)).mono ?_
        rintro e w6 ⟨pp, rfl, S7, hq, hb⟩
        have DP := Lib.hid (show ∀ k, S5 k → ¬ S7 k from apart_new (fun k hk => (QC.out.ge hk).2) (fun k hk => (hq.ge hk).1))
        have DXP := Lib.hid (show ∀ k, (fun k => k = xb) k → ¬ S7 k from apart_new (fun k hk => (X.out.ge hk).2) (fun k hk => (hq.ge hk).1))
        have QP := Lib.hid (hq.mono hzB (Nat.le_refl _))
        have QC := Lib.hid (QC.out.below hb)
        have X := Lib.hid (X.out.below hb)
        have B' := Lib.hid (below_t B.out hb)
        clear B
        have B := B'
        have hzB := B.out.size
        clear B'
        clear hq hb
        have DPC := Lib.hid (show ∀ k, S7 k → ¬ S5 k from fun k h5 h2 => DP.out k h2 h5)
        have k1 := X.out.blk.cell (i := 1) rfl
        have kl := X.out.blk.lt
        go_wp2_with fail
        clear k1 kl
        refine (same_c QC.out QP.out (by omega)).mono ?_
        rintro e w9 ⟨rfl, hb⟩
        have QC := Lib.hid (QC.out.below hb)
        have QP := Lib.hid (QP.out.below hb)
        have B' := Lib.hid (below_t B.out hb)
        clear B
        have B := B'
        have hzB := B.out.size
        clear B'
        clear hb
        go_wp2_with fail
        go_roundw
        case measure => first | (simp [intOf]; done) | (simp [intOf]; omega)
        case rel => exact ⟨i + 1, pc, pp, d, S5, S7, rfl, rfl, by first | rfl | (congr 1; omega), by omega, by omega, QC.out, QP.out.mono (Nat.le_refl _) (by omega), DPC.out, B.out⟩
      · by_cases hc1 : i < n
        · have hiI : (i : Int) < (n : Int) := by omega
          have hiJ : ¬ (i : Int) < 60 := by omega
          go_wp2_with fail
          refine (same_c QD.out QR.out (by omega)).mono ?_
          rintro e w9 ⟨rfl, hb⟩
          have B' := Lib.hid (below_t B.out hb)
          clear B
          have B := B'
          have hzB := B.out.size
          clear B'
          clear hb
          go_wp2_with fail
          refine (works_c).mono ?_
          rintro e wz ⟨rfl, hb⟩
          have B' := Lib.hid (below_t B.out hb)
          clear B
          have B := B'
          have hzB := B.out.size
          clear B'
          clear hb
          go_wp2_with fail
          go_ret
          exact ⟨rfl, B.out⟩
        · have hiI : ¬ (i : Int) < (n : Int) := by omega
          go_wp2_with fail
          refine (same_c QD.out QR.out (by omega)).mono ?_
          rintro e w9 ⟨rfl, hb⟩
          have B' := Lib.hid (below_t B.out hb)
          clear B
          have B := B'
          have hzB := B.out.size
          clear B'
          clear hb
          go_wp2_with fail
          refine (works_c).mono ?_
          rintro e wz ⟨rfl, hb⟩
          have B' := Lib.hid (below_t B.out hb)
          clear B
          have B := B'
          have hzB := B.out.size
          clear B'
          clear hb
          go_wp2_with fail
          go_ret
          exact ⟨rfl, B.out⟩
  · have hno : k < 256 ∨ 131072 < k := by omega
    have HNO := Lib.hid hno
    clear hin hno
    go_enter Tryd.func3, Tryd.ntmps3
    go_wp2_with fail
    refine (New_no HNO.out).mono ?_
    rintro e w1 ⟨rfl, hw⟩
    obtain rfl := hw.symm
    clear hw
    go_wp2_with fail
    refine (rNew_no HNO.out).mono ?_
    rintro e w2 ⟨rfl, hw⟩
    obtain rfl := hw.symm
    clear hw
    go_wp2_with fail
    refine (works_c).mono ?_
    rintro e wz ⟨rfl, hb⟩
    have B' := Lib.hid (below_t B.out hb)
    clear B
    have B := B'
    have hzB := B.out.size
    clear B'
    clear hb
    go_wp2_with fail
    go_ret
    exact ⟨rfl, B.out⟩
end SecW
end Go.Proofs.YtjcmpcdalghniaaDoor
