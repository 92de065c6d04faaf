/-
  The law's same: a disk tells what the document's tells.
-/
import Derived.Test.YtjcmpcdalghniaaDoorSectorWorks
import Derived.Test.YtjcmpcdalghniaaDoorSectorRef2
import Derived.Test.YtjcmpcdalghniaaDoorSectorRUsed
import Derived.Test.YtjcmpcdalghniaaDoorSectorSame
namespace Go.Proofs.YtjcmpcdalghniaaDoor
open Go.RowKit
set_option linter.unusedVariables false
set_option linter.unusedSimpArgs false
set_option maxRecDepth 100000
namespace SecW
open BlkP RowG FrS PushG JournalP SecP
theorem Len_b {w : World} {B pd : Nat} {d : Dk} {S : Nat → Prop} (h : Dsk w B pd d S) : Calls Tryd.prog 27 #[.pointer (some ⟨pd, 0, none⟩)] w fun e w' => e = .returned (.int .i64 (d.n : Int)) ∧ Below w.heap.size w w' :=
  (Len_c h).mono fun e w' ⟨he, hw⟩ => ⟨he, by rw [hw]; exact Below.refl _ _⟩
theorem Writes_b {w : World} {B pd : Nat} {d : Dk} {S : Nat → Prop} (h : Dsk w B pd d S) : Calls Tryd.prog 22 #[.pointer (some ⟨pd, 0, none⟩)] w fun e w' => e = .returned (.int .i64 (d.ws.length : Int)) ∧ Below w.heap.size w w' :=
  (Writes_c h).mono fun e w' ⟨he, hw⟩ => ⟨he, by rw [hw]; exact Below.refl _ _⟩
theorem rsk_n {w : World} {B pq m : Nat} {d : Dk} {S : Nat → Prop} (h : Rsk w B pq m d S) : w.cell? ⟨pq, 0, none⟩ = some (.int .i64 (d.n : Int)) := by
  obtain ⟨v, A, kept, h1, _⟩ := h
  exact h1.bq.cell (i := 0) rfl
theorem Rsk.drew {w : World} {B pq m : Nat} {d : Dk} {S : Nat → Prop} (h : Rsk w B pq m d S) : Rsk w.drew B pq m d S := h.below ((Below.refl _ w).drew)
set_option maxHeartbeats 16000000 in
theorem same_c {w : World} {B1 B2 pd pq m : Nat} {d : Dk} {S S2 : Nat → Prop} {i : Int} (hd : Dsk w B1 pd d S) (hr : Rsk w B2 pq m d S2) (hm : m ≤ 1000) :
    Calls Tryd.prog 20 #[.pointer (some ⟨pd, 0, none⟩), .pointer (some ⟨pq, 0, none⟩), .int .i64 i] w fun e w' => e = .returned (.bool true) ∧ Below w.heap.size w w' := by
  have hws := hr.len
  obtain ⟨s, hs⟩ : ∃ s, readD d i = s := ⟨_, rfl⟩
  obtain ⟨z, hz⟩ : ∃ z, readE d i = z := ⟨_, rfl⟩
  have HSV := Lib.hid hs
  have HZV := Lib.hid hz
  have QD := Lib.hid hd
  have QR := Lib.hid hr
  have B := Lib.hid (Below.refl w.heap.size w)
  have hzB : w.heap.size ≤ w.heap.size := Nat.le_refl _
  have hne : ((d.n : Int) != (d.n : Int)) = false := by simp
  clear hd hr hs hz
  go_enter Tryd.func20, Tryd.ntmps20
  go_wp2_with fail
  refine (Read_i QD.out HSV.out HZV.out).mono ?_
  rintro e w1 ⟨rfl, hb⟩
  have QD' := Lib.hid (QD.out.below hb)
  clear QD
  have QD := QD'
  clear QD'
  have QR' := Lib.hid (QR.out.below hb)
  clear QR
  have QR := QR'
  clear QR'
  have B' := Lib.hid (below_t B.out hb)
  clear B
  have B := B'
  have hzB := B.out.size
  clear B' hb
  go_wp2_with fail
  refine (rRead_c QR.out hm (i := i)).mono ?_
  rintro e w2 ⟨he, hb⟩
  rw [HSV.out, HZV.out] at he
  subst he
  have QD' := Lib.hid (QD.out.below hb)
  clear QD
  have QD := QD'
  clear QD'
  have QR' := Lib.hid (QR.out.below hb)
  clear QR
  have QR := QR'
  clear QR'
  have B' := Lib.hid (below_t B.out hb)
  clear B
  have B := B'
  have hzB := B.out.size
  clear B' hb
  have c0 : w2.cell? ⟨pq, 0, none⟩ = some (.int .i64 (d.n : Int)) := rsk_n QR.out
  have lq := QR.out.lt
  go_wp2_with fail
  refine wp_region_noPanic ?_
  refine wp_region_held_drew (S := fun W => Below w2.heap.size w2 W) (by kernel_rfl) ((Below.refl _ w2).drew) (fun hHeld => ?_)
  refine wpAnyH_take (i := 0) (oi := ⟨some 28, _, _, _, _, _⟩) (v := .string (str s)) rfl (by kernel_rfl) (by kernel_rfl) (by kernel_rfl) (fun _ _ _ h => h) (Or.inl ⟨by rfl, fun W hSW => by go_simp⟩) hHeld ?_
  simp only [Act.put, List.setIfInBounds_toArray, List.set_cons_zero, List.set_cons_succ]
  refine wpAnyH_take (i := 1) (oi := ⟨some 29, _, _, _, _, _⟩) (v := .string (str s)) rfl (by kernel_rfl) (by kernel_rfl) (by kernel_rfl) (fun _ _ _ h => h) (Or.inl ⟨by rfl, fun W hSW => by go_simp⟩) hHeld ?_
  simp only [Act.put, List.setIfInBounds_toArray, List.set_cons_zero, List.set_cons_succ]
  refine wpAnyH_take (i := 2) (oi := ⟨some 30, _, _, _, _, _⟩) (v := .bool false) rfl (by kernel_rfl) (by kernel_rfl) (by kernel_rfl) (fun _ _ _ h => h) (Or.inl ⟨by rfl, fun W hSW => by go_simp⟩) hHeld ?_
  simp only [Act.put, List.setIfInBounds_toArray, List.set_cons_zero, List.set_cons_succ]
  refine wpAnyH_take (i := 3) (oi := ⟨some 31, _, _, _, _, _⟩) (v := .bool false) rfl (by kernel_rfl) (by kernel_rfl) (by kernel_rfl) (fun _ _ _ h => h) (Or.inl ⟨by rfl, fun W hSW => by go_simp⟩) hHeld ?_
  simp only [Act.put, List.setIfInBounds_toArray, List.set_cons_zero, List.set_cons_succ]
  refine wpAnyH_take (i := 4) (oi := ⟨some 32, _, _, _, _, _⟩) (v := .int .i64 z) rfl (by kernel_rfl) (by kernel_rfl) (by kernel_rfl) (fun _ _ _ h => h) (Or.inl ⟨by rfl, fun W hSW => by go_simp⟩) hHeld ?_
  simp only [Act.put, List.setIfInBounds_toArray, List.set_cons_zero, List.set_cons_succ]
  refine wpAnyH_take (i := 5) (oi := ⟨some 33, _, _, _, _, _⟩) (v := .int .i64 z) rfl (by kernel_rfl) (by kernel_rfl) (by kernel_rfl) (fun _ _ _ h => h) (Or.inl ⟨by rfl, fun W hSW => by go_simp⟩) hHeld ?_
  simp only [Act.put, List.setIfInBounds_toArray, List.set_cons_zero, List.set_cons_succ]
  refine wpAnyH_take (i := 6) (oi := ⟨some 34, _, _, _, _, _⟩) (v := .bool false) rfl (by kernel_rfl) (by kernel_rfl) (by kernel_rfl) (fun _ _ _ h => h) (Or.inl ⟨by rfl, fun W hSW => by go_simp⟩) hHeld ?_
  simp only [Act.put, List.setIfInBounds_toArray, List.set_cons_zero, List.set_cons_succ]
  refine wpAnyH_take (i := 7) (oi := ⟨some 35, _, _, _, _, _⟩) (v := .bool false) rfl (by kernel_rfl) (by kernel_rfl) (by kernel_rfl) (fun _ _ _ h => h) (Or.inl ⟨by rfl, fun W hSW => by go_simp⟩) hHeld ?_
  simp only [Act.put, List.setIfInBounds_toArray, List.set_cons_zero, List.set_cons_succ]
  refine wpAnyH_take (i := 8) (oi := ⟨some 36, _, _, _, _, _⟩) (v := .bool false) rfl (by kernel_rfl) (by kernel_rfl) (by kernel_rfl) (fun _ _ _ h => h) (Or.inl ⟨by rfl, fun W hSW => by go_simp⟩) hHeld ?_
  simp only [Act.put, List.setIfInBounds_toArray, List.set_cons_zero, List.set_cons_succ]
  refine wpAnyH_take (i := 9) (oi := ⟨some 37, _, _, _, _, _⟩) (v := .pointer (some ⟨pd, 0, none⟩)) rfl (by kernel_rfl) (by kernel_rfl) (by kernel_rfl) (fun _ _ _ h => h) (Or.inl ⟨by rfl, fun W hSW => by go_simp⟩) hHeld ?_
  simp only [Act.put, List.setIfInBounds_toArray, List.set_cons_zero, List.set_cons_succ]
  refine wpAnyH_take (i := 11) (oi := ⟨some 39, _, _, _, _, _⟩) (v := .pointer (some ⟨pq, 0, none⟩)) rfl (by kernel_rfl) (by kernel_rfl) (by kernel_rfl) (fun _ _ _ h => h) (Or.inl ⟨by rfl, fun W hSW => by go_simp⟩) hHeld ?_
  simp only [Act.put, List.setIfInBounds_toArray, List.set_cons_zero, List.set_cons_succ]
  refine wpAnyH_take (i := 12) (oi := ⟨some 40, _, _, _, _, _⟩) (v := .pointer (some ⟨pq, 0, none⟩)) rfl (by kernel_rfl) (by kernel_rfl) (by kernel_rfl) (fun _ _ _ h => h) (Or.inl ⟨by rfl, fun W hSW => by go_simp⟩) hHeld ?_
  simp only [Act.put, List.setIfInBounds_toArray, List.set_cons_zero, List.set_cons_succ]
  refine wpAnyH_take (i := 13) (oi := ⟨some 41, _, _, _, _, _⟩) (v := .pointer (some ⟨pq, 0, none⟩)) rfl (by kernel_rfl) (by kernel_rfl) (by kernel_rfl) (fun _ _ _ h => h) (Or.inl ⟨by rfl, fun W hSW => by go_simp⟩) hHeld ?_
  simp only [Act.put, List.setIfInBounds_toArray, List.set_cons_zero, List.set_cons_succ]
  refine wpAnyH_take (i := 14) (oi := ⟨some 42, _, _, _, _, _⟩) (v := .int .i64 (d.n : Int)) rfl (by kernel_rfl) (by kernel_rfl) (by kernel_rfl) (fun _ _ _ h => h) (Or.inl ⟨by rfl, fun W hSW => by have a0 := (hSW.cell (p := ⟨pq, 0, none⟩) lq).trans c0; go_simp⟩) hHeld ?_
  simp only [Act.put, List.setIfInBounds_toArray, List.set_cons_zero, List.set_cons_succ]
  refine wpAnyH_ready (rs := [10]) (by kernel_rfl) (by simp) ?_
  refine AllReadyH.cons (o := ⟨some 38, _, _, _, _, _⟩) rfl (fun K hK => ?_) AllReadyH.nil
  go_simp
  refine (Len_b (QD.out.below hHeld)).mono ?_
  rintro e w3 ⟨rfl, hb3⟩
  go_wp2_with fail
  refine hK.out _ _ (below_t hHeld hb3) (fun hHeld => ?_)
  clear hK K hb3
  refine wpAnyH_take (i := 15) (oi := ⟨some 43, _, _, _, _, _⟩) (v := .bool false) rfl (by kernel_rfl) (by kernel_rfl) (by kernel_rfl) (fun _ _ _ h => h) (Or.inl ⟨by rfl, fun W hSW => by go_simp⟩) hHeld ?_
  simp only [Act.put, List.setIfInBounds_toArray, List.set_cons_zero, List.set_cons_succ]
  refine wpAnyH_take (i := 16) (oi := ⟨some 44, _, _, _, _, _⟩) (v := .bool false) rfl (by kernel_rfl) (by kernel_rfl) (by kernel_rfl) (fun _ _ _ h => h) (Or.inl ⟨by rfl, fun W hSW => by go_simp⟩) hHeld ?_
  simp only [Act.put, List.setIfInBounds_toArray, List.set_cons_zero, List.set_cons_succ]
  refine wpAnyH_take (i := 17) (oi := ⟨some 45, _, _, _, _, _⟩) (v := .bool false) rfl (by kernel_rfl) (by kernel_rfl) (by kernel_rfl) (fun _ _ _ h => h) (Or.inl ⟨by rfl, fun W hSW => by go_simp⟩) hHeld ?_
  simp only [Act.put, List.setIfInBounds_toArray, List.set_cons_zero, List.set_cons_succ]
  refine wpAnyH_take (i := 18) (oi := ⟨some 46, _, _, _, _, _⟩) (v := .pointer (some ⟨pd, 0, none⟩)) rfl (by kernel_rfl) (by kernel_rfl) (by kernel_rfl) (fun _ _ _ h => h) (Or.inl ⟨by rfl, fun W hSW => by go_simp⟩) hHeld ?_
  simp only [Act.put, List.setIfInBounds_toArray, List.set_cons_zero, List.set_cons_succ]
  refine wpAnyH_take (i := 20) (oi := ⟨some 48, _, _, _, _, _⟩) (v := .pointer (some ⟨pq, 0, none⟩)) rfl (by kernel_rfl) (by kernel_rfl) (by kernel_rfl) (fun _ _ _ h => h) (Or.inl ⟨by rfl, fun W hSW => by go_simp⟩) hHeld ?_
  simp only [Act.put, List.setIfInBounds_toArray, List.set_cons_zero, List.set_cons_succ]
  refine wpAnyH_ready (rs := [19]) (by kernel_rfl) (by simp) ?_
  refine AllReadyH.cons (o := ⟨some 47, _, _, _, _, _⟩) rfl (fun K hK => ?_) AllReadyH.nil
  go_simp
  refine (Writes_b (QD.out.below hHeld)).mono ?_
  rintro e w4 ⟨rfl, hb4⟩
  go_wp2_with fail
  refine hK.out _ _ (below_t hHeld hb4) (fun hHeld => ?_)
  clear hK K hb4
  refine wpAnyH_ready (rs := [21]) (by kernel_rfl) (by simp) ?_
  refine AllReadyH.cons (o := ⟨some 49, _, _, _, _, _⟩) rfl (fun K hK => ?_) AllReadyH.nil
  go_simp
  refine (rWrites_c (QR.out.below hHeld) hm).mono ?_
  rintro e w5 ⟨rfl, hb5⟩
  go_wp2_with fail
  refine hK.out _ _ (below_t hHeld hb5) (fun hHeld => ?_)
  clear hK K hb5
  refine wpAnyH_take (i := 22) (oi := ⟨some 50, _, _, _, _, _⟩) (v := .bool false) rfl (by kernel_rfl) (by kernel_rfl) (by kernel_rfl) (fun _ _ _ h => h) (Or.inl ⟨by rfl, fun W hSW => by go_simp⟩) hHeld ?_
  simp only [Act.put, List.setIfInBounds_toArray, List.set_cons_zero, List.set_cons_succ]
  refine wpAnyH_take (i := 23) (oi := ⟨some 51, _, _, _, _, _⟩) (v := .bool false) rfl (by kernel_rfl) (by kernel_rfl) (by kernel_rfl) (fun _ _ _ h => h) (Or.inl ⟨by rfl, fun W hSW => by go_simp⟩) hHeld ?_
  simp only [Act.put, List.setIfInBounds_toArray, List.set_cons_zero, List.set_cons_succ]
  refine wpAnyH_done (by kernel_rfl) ?_ _
  refine NoPanic.normal ?_
  clear c0 lq
  have QD' := Lib.hid (QD.out.below hHeld)
  clear QD
  have QD := QD'
  clear QD'
  have QR' := Lib.hid (QR.out.below hHeld)
  clear QR
  have QR := QR'
  clear QR'
  have B' := Lib.hid (below_t B.out hHeld)
  clear B hHeld
  have B := B'
  have hzB := B.out.size
  clear B'
  go_wp2_with fail
  refine (Used_c QD.out).mono ?_
  rintro e w6 ⟨v1, rfl, ho, hb⟩
  obtain ⟨ul, hul⟩ : ∃ ul, (used d.n d.now).map (fun q : Nat => (q : Int)) = ul := ⟨_, rfl⟩
  rw [hul] at ho
  have HUL := Lib.hid hul
  obtain ⟨n, hn⟩ : ∃ n, ul.length = n := ⟨_, rfl⟩
  have HN := Lib.hid hn
  have hn2 : n ≤ 131072 := by
    rw [← hn, ← hul, List.length_map]
    have := used_len d.n d.now
    have := QD.out.ok.hi
    omega
  obtain ⟨A1, c1, rfl, hc1, _, hA1⟩ := ho.form hn
  have HA1 := Lib.hid hA1
  have O1 := Lib.hid (ho.mono hzB)
  clear ho hul hn hA1
  have QD' := Lib.hid (QD.out.below hb)
  clear QD
  have QD := QD'
  clear QD'
  have QR' := Lib.hid (QR.out.below hb)
  clear QR
  have QR := QR'
  clear QR'
  have B' := Lib.hid (below_t B.out hb)
  clear B
  have B := B'
  have hzB := B.out.size
  clear B' hb
  go_wp2_with fail
  refine (rUsed_c QR.out hm).mono ?_
  rintro e w7 ⟨v2, rfl, ho, hb⟩
  rw [HUL.out] at ho
  obtain ⟨A2, c2, rfl, hc2, _, hA2⟩ := ho.form HN.out
  have HA2 := Lib.hid hA2
  have O2 := Lib.hid (ho.mono hzB)
  have O1' := Lib.hid (O1.out.below hb)
  clear O1
  have O1 := O1'
  clear ho hA2 O1'
  have QD' := Lib.hid (QD.out.below hb)
  clear QD
  have QD := QD'
  clear QD'
  have QR' := Lib.hid (QR.out.below hb)
  clear QR
  have QR := QR'
  clear QR'
  have B' := Lib.hid (below_t B.out hb)
  clear B
  have B := B'
  have hzB := B.out.size
  clear B' hb
  go_wp2_with fail
  go_loopw [13] (fun v13 wr => ∃ k : Nat, v13 = .int .i64 (k : Int) ∧ k ≤ n ∧ Below w7.heap.size w7 wr) (fun v _ => n - (intOf v).toNat)
  case atStart => exact ⟨0, rfl, Nat.zero_le _, Below.refl _ _⟩
  case round =>
    obtain ⟨k, rfl, hk, hbr⟩ := hrel
    have BR := Lib.hid hbr
    have hbz := hbr.size
    clear hbr
    by_cases hkn : k < n
    · have hkI : (k : Int) < (n : Int) := by omega
      obtain ⟨g1, rfl, _, _⟩ := HA1.out (by omega)
      obtain ⟨g2, rfl, _, _⟩ := HA2.out (by omega)
      obtain ⟨x, hx⟩ : ∃ x, ul[k]? = some x := ⟨_, List.getElem?_eq_getElem (by rw [HN.out]; exact hkn)⟩
      have P1 := Lib.hid (O1.out.below BR.out)
      have P2 := Lib.hid (O2.out.below BR.out)
      have y1 := int_at P1.out hx
      have y2 := int_at P2.out hx
      have gl1 := (P1.out.ge g1 rfl).2
      have gl2 := (P2.out.ge g2 rfl).2
      clear hx
      go_wp2_with fail
      refine wp_region_noPanic ?_
      refine wp_region_held_drew (S := fun W => Below wr.heap.size wr W) (by kernel_rfl) ((Below.refl _ wr).drew) (fun hHeld => ?_)
      refine wpAnyH_take (i := 0) (oi := ⟨some 67, _, _, _, _, _⟩) (v := .slice (some ⟨g1, 0, none⟩) n c1) rfl (by kernel_rfl) (by kernel_rfl) (by kernel_rfl) (fun _ _ _ h => h) (Or.inl ⟨by rfl, fun W hSW => by go_simp⟩) hHeld ?_
      simp only [Act.put, List.setIfInBounds_toArray, List.set_cons_zero, List.set_cons_succ]
      refine wpAnyH_take (i := 1) (oi := ⟨some 68, _, _, _, _, _⟩) (v := .int .i64 (k : Int)) rfl (by kernel_rfl) (by kernel_rfl) (by kernel_rfl) (fun _ _ _ h => h) (Or.inl ⟨by rfl, fun W hSW => by go_simp⟩) hHeld ?_
      simp only [Act.put, List.setIfInBounds_toArray, List.set_cons_zero, List.set_cons_succ]
      refine wpAnyH_take (i := 2) (oi := ⟨some 69, _, _, _, _, _⟩) (v := .pointer (some ⟨g1, k, none⟩)) rfl (by kernel_rfl) (by kernel_rfl) (by kernel_rfl) (fun _ _ _ h => h) (Or.inl ⟨by rfl, fun W hSW => by go_simp⟩) hHeld ?_
      simp only [Act.put, List.setIfInBounds_toArray, List.set_cons_zero, List.set_cons_succ]
      refine wpAnyH_take (i := 3) (oi := ⟨some 70, _, _, _, _, _⟩) (v := .int .i64 x) rfl (by kernel_rfl) (by kernel_rfl) (by kernel_rfl) (fun _ _ _ h => h) (Or.inl ⟨by rfl, fun W hSW => by have a0 := (hSW.cell (p := ⟨g1, k, none⟩) gl1).trans y1; go_simp⟩) hHeld ?_
      simp only [Act.put, List.setIfInBounds_toArray, List.set_cons_zero, List.set_cons_succ]
      refine wpAnyH_take (i := 4) (oi := ⟨some 71, _, _, _, _, _⟩) (v := .slice (some ⟨g2, 0, none⟩) n c2) rfl (by kernel_rfl) (by kernel_rfl) (by kernel_rfl) (fun _ _ _ h => h) (Or.inl ⟨by rfl, fun W hSW => by go_simp⟩) hHeld ?_
      simp only [Act.put, List.setIfInBounds_toArray, List.set_cons_zero, List.set_cons_succ]
      refine wpAnyH_take (i := 5) (oi := ⟨some 72, _, _, _, _, _⟩) (v := .int .i64 (k : Int)) rfl (by kernel_rfl) (by kernel_rfl) (by kernel_rfl) (fun _ _ _ h => h) (Or.inl ⟨by rfl, fun W hSW => by go_simp⟩) hHeld ?_
      simp only [Act.put, List.setIfInBounds_toArray, List.set_cons_zero, List.set_cons_succ]
      refine wpAnyH_take (i := 6) (oi := ⟨some 73, _, _, _, _, _⟩) (v := .pointer (some ⟨g2, k, none⟩)) rfl (by kernel_rfl) (by kernel_rfl) (by kernel_rfl) (fun _ _ _ h => h) (Or.inl ⟨by rfl, fun W hSW => by go_simp⟩) hHeld ?_
      simp only [Act.put, List.setIfInBounds_toArray, List.set_cons_zero, List.set_cons_succ]
      refine wpAnyH_take (i := 7) (oi := ⟨some 74, _, _, _, _, _⟩) (v := .int .i64 x) rfl (by kernel_rfl) (by kernel_rfl) (by kernel_rfl) (fun _ _ _ h => h) (Or.inl ⟨by rfl, fun W hSW => by have a0 := (hSW.cell (p := ⟨g2, k, none⟩) gl2).trans y2; go_simp⟩) hHeld ?_
      simp only [Act.put, List.setIfInBounds_toArray, List.set_cons_zero, List.set_cons_succ]
      refine wpAnyH_take (i := 8) (oi := ⟨some 75, _, _, _, _, _⟩) (v := .bool false) rfl (by kernel_rfl) (by kernel_rfl) (by kernel_rfl) (fun _ _ _ h => h) (Or.inl ⟨by rfl, fun W hSW => by go_simp⟩) hHeld ?_
      simp only [Act.put, List.setIfInBounds_toArray, List.set_cons_zero, List.set_cons_succ]
      refine wpAnyH_done (by kernel_rfl) ?_ _
      refine NoPanic.normal ?_
      have BE := Lib.hid (below_t BR.out hHeld)
      clear hHeld y1 y2 gl1 gl2
      go_wp2_with fail
      go_roundw
      case measure => first | (simp [intOf]; done) | (simp [intOf]; omega)
      case rel => exact ⟨k + 1, by first | rfl | (congr 1; omega), by omega, BE.out⟩
    · have hkI : ¬ (k : Int) < (n : Int) := by omega
      have hb := BR.out
      have QD' := Lib.hid (QD.out.below hb)
      clear QD
      have QD := QD'
      clear QD'
      have QR' := Lib.hid (QR.out.below hb)
      clear QR
      have QR := QR'
      clear QR'
      have B' := Lib.hid (below_t B.out hb)
      clear B hb
      have B := B'
      have hzB := B.out.size
      clear B'
      go_wp2_with fail
      refine (Log_c QD.out (by omega)).mono ?_
      rintro e w8 ⟨v3, rfl, ho, hb⟩
      have O3 := Lib.hid (ho.mono hzB)
      clear ho
      have QD' := Lib.hid (QD.out.below hb)
      clear QD
      have QD := QD'
      clear QD'
      have QR' := Lib.hid (QR.out.below hb)
      clear QR
      have QR := QR'
      clear QR'
      have B' := Lib.hid (below_t B.out hb)
      clear B
      have B := B'
      have hzB := B.out.size
      clear B' hb
      go_wp2_with fail
      refine (rLog_c QR.out hm).mono ?_
      rintro e w9 ⟨v4, rfl, ho, hb⟩
      have O4 := Lib.hid (ho.mono hzB)
      have O3' := Lib.hid (O3.out.below hb)
      clear ho O3
      have O3 := O3'
      clear O3'
      have QD' := Lib.hid (QD.out.below hb)
      clear QD
      have QD := QD'
      clear QD'
      have QR' := Lib.hid (QR.out.below hb)
      clear QR
      have QR := QR'
      clear QR'
      have B' := Lib.hid (below_t B.out hb)
      clear B
      have B := B'
      have hzB := B.out.size
      clear B' hb
      go_wp2_with fail
      refine (Same_c O3.out O4.out).mono ?_
      rintro e w10 ⟨rfl, hb⟩
      have QD' := Lib.hid (QD.out.below hb)
      clear QD
      have QD := QD'
      clear QD'
      have QR' := Lib.hid (QR.out.below hb)
      clear QR
      have QR := QR'
      clear QR'
      have B' := Lib.hid (below_t B.out hb)
      clear B
      have B := B'
      have hzB := B.out.size
      clear B' hb
      go_wp2_with fail
      go_ret
      exact ⟨rfl, B.out⟩
end SecW
end Go.Proofs.YtjcmpcdalghniaaDoor
