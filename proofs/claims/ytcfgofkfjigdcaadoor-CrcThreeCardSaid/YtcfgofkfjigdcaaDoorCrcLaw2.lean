/-
  CrcBurst: bits that are turned within 32 are told.
-/
import Derived.Test.YtcfgofkfjigdcaaDoorCrcLaw1
import Derived.Deep.RegionHeld3
namespace Go.Proofs.YtcfgofkfjigdcaaDoor
open Go.RowKit
set_option linter.unusedVariables false
set_option linter.unusedSimpArgs false
namespace CrcW
open BytesW CrcP CrcM
theorem below_t {w0 w w' : World} (hb : Below w0.heap.size w0 w) (h : Below w.heap.size w w') : Below w0.heap.size w0 w' := hb.trans (h.mono hb.size)
section
variable {w : World} {A : Option Addr} {L : List UInt8} {n c : Nat}
theorem Sum_b (hT : Tab w) (hn : L.length = n) (hc : n ≤ c ∧ c ≤ 9223372036854775807) (hA : AtC w A L) :
    Calls Tryd.prog 8 #[.slice A n c] w fun e w' => e = .returned (.int .u32 (nat (CrcP.sum L))) ∧ Below w.heap.size w w' :=
  (Sum_c hT hn hc hA).mono (fun e w' h => ⟨h.1, h.2 ▸ Below.refl _ _⟩)
theorem awake_b (hT : Tab w) : Calls Tryd.prog 13 #[] w fun e w' => e = .returned (.bool true) ∧ Below w.heap.size w w' :=
  (awake_c hT).mono (fun e w' h => ⟨h.1, h.2 ▸ Below.refl _ _⟩)
end
theorem nat1 : nat 1#32 = 1 := by decide
theorem bit_01 (z : Int) (h0 : 0 ≤ z) (h1 : z < 4294967296) : bits .and .u32 z 1 = 0 ∨ bits .and .u32 z 1 = 1 := by
  obtain ⟨s, rfl⟩ := of_nat h0 h1
  rw [← nat1, and_nat]
  unfold nat
  rw [BitVec.toNat_and, show (1#32 : BitVec 32).toNat = 1 from rfl, Nat.and_one_is_mod]
  omega
theorem turn_val {row : Int} {j q : Nat} (r0 : 0 ≤ row) (r1 : row < 4294967296) (hq : q < 8) : ∃ b : Bool, ∀ x : UInt8, bits .xor .u8 (x.toNat : Int) (bits .and .u32 (row / 2 ^ j) 1 % 256 * 2 ^ q % 256) = ((x ^^^ pw b q).toNat : Int) := by
  have hp : (0 : Int) < 2 ^ j := Int.pow_pos (by omega)
  have h0 : 0 ≤ row / 2 ^ j := Int.ediv_nonneg r0 (by omega)
  have h1 : row / 2 ^ j ≤ row := Int.ediv_le_self _ r0
  have t1 : ∀ q, q < 8 → ((1 : Int) % 256 * 2 ^ q % 256) = ((pw true q).toNat : Int) := by decide
  have t0 : ∀ q, q < 8 → ((0 : Int) % 256 * 2 ^ q % 256) = ((pw false q).toNat : Int) := by decide
  rcases bit_01 (row / 2 ^ j) h0 (by omega) with h | h
  · exact ⟨false, fun x => by rw [h, t0 q hq, xor_byte]⟩
  · exact ⟨true, fun x => by rw [h, t1 q hq, xor_byte]⟩
def BurRel (w : World) (L : List UInt8) (g n c1 P : Nat) (v : Value) (wr : World) : Prop := ∃ (j : Nat) (m : List UInt8), v = .int .i64 j ∧ j ≤ 32 ∧ BytesW.Own wr w.heap.size (.slice (some ⟨g, 0, none⟩) n c1) m ∧ Near L m P j ∧ Below w.heap.size w wr
set_option maxRecDepth 100000 in
set_option maxHeartbeats 1000000 in
theorem burst_no {w : World} (hT : Tab w) {A : Option Addr} {n c : Nat} (hc : n ≤ c ∧ c ≤ 9223372036854775807) (hs : n ≤ 140737488355328) {bit row : Int} (b0 : -9223372036854775808 ≤ bit) (b1 : bit ≤ 9223372036854775807) (r0 : 0 ≤ row) (r1 : row < 4294967296) (h : n = 0 ∨ bit < 0 ∨ 8 * (n : Int) ≤ bit) :
    Calls Tryd.prog 6 #[.slice A n c, .int .i64 bit, .int .u32 row] w fun e w' => e = .returned (.bool true) ∧ Below w.heap.size w w' := by
  by_cases h0 : n = 0
  · subst h0
    go_enter Tryd.func6, Tryd.ntmps6
    go_wp2_with fail
    go_at_call 13
    refine (awake_c hT).mono ?_
    rintro e w' ⟨rfl, rfl⟩
    go_wp2_with fail
    go_ret
    exact ⟨rfl, Below.refl _ _⟩
  · have hn0 : ((n : Int) == 0) = false := by simp; omega
    by_cases hb : bit < 0
    · go_enter Tryd.func6, Tryd.ntmps6
      go_wp2_with fail
      go_at_call 13
      refine (awake_c hT).mono ?_
      rintro e w' ⟨rfl, rfl⟩
      go_wp2_with fail
      go_ret
      exact ⟨rfl, Below.refl _ _⟩
    · have hb2 : 8 * (n : Int) ≤ bit := by omega
      go_enter Tryd.func6, Tryd.ntmps6
      go_wp2_with fail
      go_at_call 13
      refine (awake_c hT).mono ?_
      rintro e w' ⟨rfl, rfl⟩
      go_wp2_with fail
      go_ret
      exact ⟨rfl, Below.refl _ _⟩
set_option maxRecDepth 100000 in
set_option maxHeartbeats 1000000 in
theorem burst_yes {w : World} (hT : Tab w) {A : Option Addr} {L : List UInt8} {n c P : Nat} (hn : L.length = n) (hc : n ≤ c ∧ c ≤ 9223372036854775807) (hs : n ≤ 140737488355328) (hA : AtC w A L) {row : Int} (hP : P < 8 * n) (r0 : 0 ≤ row) (r1 : row < 4294967296) :
    Calls Tryd.prog 6 #[.slice A n c, .int .i64 P, .int .u32 row] w fun e w' => e = .returned (.bool true) ∧ Below w.heap.size w w' := by
  have HO := own_made w
  have HNL := Lib.hid hn
  have hn0 : ((n : Int) == 0) = false := by simp; omega
  have hnp : 0 < n := by omega
  clear hn
  go_enter Tryd.func6, Tryd.ntmps6
  go_wp2_with ((with_reducible refine at_slot 26 ?_); refine wp_appG rfl (.tmp 24) (.tmp 25) rfl (l := []) (l2 := L) rfl (HO.out _ rfl) (by rw [HNL.out]; rfl) (hA.below (alB _ _)) (by simp; have := HNL.out; omega) (by simp) ?_; intro v1 w1 hown1 hb1)
  rw [List.nil_append] at hown1
  obtain ⟨A1, c1, rfl, hc1, hm1, hA1, hg⟩ := own_form hown1 HNL.out
  obtain ⟨g, rfl, hg1, hg2, hf⟩ := hg hnp
  have HB := Lib.hid ((alB _ _).trans hb1)
  have HO1 := Lib.hid hown1
  have HA := Lib.hid hA
  have HT := Lib.hid hT
  clear hb1 hown1 hA hT hA1 hf
  go_loopw [8] (BurRel w L g n c1 P) (fun v _ => 32 - (intOf v).toNat)
  case atStart => exact ⟨0, L, rfl, by omega, HO1.out, Near.refl _ _, HB.out⟩
  case round =>
    obtain ⟨j, m, rfl, hj, hown, hnear, hbel⟩ := hrel
    have HOW := Lib.hid hown
    have HNE := Lib.hid hnear
    have HBE := Lib.hid hbel
    clear hown hnear hbel
    by_cases hj32 : j < 32
    · by_cases hin : P + j < 8 * n
      · have hml : m.length = n := HNE.out.1.trans HNL.out
        obtain ⟨p, hp⟩ : ∃ p, p = (P + j) / 8 := ⟨_, rfl⟩
        obtain ⟨q, hq⟩ : ∃ q, q = (P + j) % 8 := ⟨_, rfl⟩
        obtain ⟨x, hx⟩ : ∃ x, m[p]? = some x := ⟨_, List.getElem?_eq_getElem (by omega)⟩
        have hpn : p < n := by omega
        have hx8 : x.toNat < 256 := x.toNat_lt
        have hcell : wr.cell? ⟨g, p, none⟩ = some (.int .u8 (x.toNat : Int)) := by
          obtain ⟨A2, c2, e, _, _, hA2, _⟩ := own_form HOW.out hml
          injection e with e1 e2 e3
          subst e1
          obtain ⟨b, o, e, hcs⟩ := hA2.cells (by intro q; rw [q] at hx; simp at hx)
          injection e with e
          injection e with e1 e2 e3
          subst e1 e2
          have := hcs p x hx
          rwa [Nat.zero_add] at this
        have hfr : wr.frozen? ⟨g, p, none⟩ = false := by
          obtain ⟨A2, c2, e, _, _, _, hA2⟩ := own_form HOW.out hml
          injection e with e1 e2 e3
          subst e1
          obtain ⟨g', e, _, _, hA2⟩ := hA2 hnp
          injection e with e
          injection e with e1 e2 e3
          subst e1
          exact hA2 p
        have hd1 : ((P : Int) + (j : Int)) / 8 = (p : Int) := by omega
        have hd2 : ((P : Int) + (j : Int)) % 8 = (q : Int) := by omega
        have HPQ := Lib.hid (show (P + j) / 8 = p ∧ (P + j) % 8 = q from ⟨hp.symm, hq.symm⟩)
        have HX := Lib.hid hx
        have HML := Lib.hid hml
        have hq8 : q < 8 := by omega
        clear hp hq hx hml
        obtain ⟨b, hbv⟩ := turn_val (j := j) r0 r1 hq8
        have HV := Lib.hid (hbv x)
        clear hbv
        go_wp2_with fail
        rw [HV.out]
        refine ⟨⟨j + 1, m.set p (x ^^^ pw b q), by go_num, by omega, ?_, ?_, ?_⟩, ?_⟩
        · exact (own_store HOW.out p _).1
        · have := HNE.out.step (b := b) (x := x) (by rw [HPQ.out.1]; exact HX.out)
          rw [HPQ.out.1, HPQ.out.2] at this
          exact this
        · exact HBE.out.grown (own_store HOW.out p (x ^^^ pw b q)).2 HBE.out.size (fun k hk => by injection hk with hk; omega)
        · simp [intOf]; omega
      · have hml : m.length = n := HNE.out.1.trans HNL.out
        have HML := Lib.hid hml
        have HSE := Lib.hid (near_sum HNE.out hj)
        have HAN := Lib.hid (HA.out.below HBE.out)
        have HTN := Lib.hid (HT.out.below HBE.out)
        have hMN : AtC wr (some ⟨g, 0, none⟩) m := by
          obtain ⟨A2, c2, e, _, _, hA2, _⟩ := own_form HOW.out hml
          injection e with e1 e2 e3
          subst e1
          exact hA2
        have HMN := Lib.hid hMN
        clear hml hMN
        by_cases hLm : m = L
        · subst hLm
          go_wp2_with fail
          refine wp_region_noPanic ?_
          refine wp_region_held_drew (S := fun W => Below wr.heap.size wr W) (by kernel_rfl) ((Below.refl _ wr).drew) (fun hHeld => ?_)
          refine wpAnyH_take (i := 0) (oi := ⟨some 66, _, _, _, _, _⟩) (v := .slice A n c) rfl (by kernel_rfl) (by kernel_rfl) (by kernel_rfl) (fun _ _ _ h => h) (Or.inl ⟨by rfl, fun W hSW => by go_simp⟩) hHeld ?_
          simp only [Act.put, List.setIfInBounds_toArray, List.set_cons_zero, List.set_cons_succ]
          refine wpAnyH_take (i := 2) (oi := ⟨some 68, _, _, _, _, _⟩) (v := .slice (some ⟨g, 0, none⟩) n c1) rfl (by kernel_rfl) (by kernel_rfl) (by kernel_rfl) (fun _ _ _ h => h) (Or.inl ⟨by rfl, fun W hSW => by go_simp⟩) hHeld ?_
          simp only [Act.put, List.setIfInBounds_toArray, List.set_cons_zero, List.set_cons_succ]
          refine wpAnyH_take (i := 5) (oi := ⟨some 71, _, _, _, _, _⟩) (v := .slice A n c) rfl (by kernel_rfl) (by kernel_rfl) (by kernel_rfl) (fun _ _ _ h => h) (Or.inl ⟨by rfl, fun W hSW => by go_simp⟩) hHeld ?_
          simp only [Act.put, List.setIfInBounds_toArray, List.set_cons_zero, List.set_cons_succ]
          refine wpAnyH_take (i := 6) (oi := ⟨some 72, _, _, _, _, _⟩) (v := .string ⟨m.toArray⟩) rfl (by kernel_rfl) (by kernel_rfl) (by kernel_rfl) (fun _ _ _ h => h) (Or.inl ⟨by rfl, fun W hSW => by have r72 := run_strC W c (HAN.out.below hSW); rw [HNL.out] at r72; go_simp⟩) hHeld ?_
          simp only [Act.put, List.setIfInBounds_toArray, List.set_cons_zero, List.set_cons_succ]
          refine wpAnyH_take (i := 7) (oi := ⟨some 73, _, _, _, _, _⟩) (v := .slice (some ⟨g, 0, none⟩) n c1) rfl (by kernel_rfl) (by kernel_rfl) (by kernel_rfl) (fun _ _ _ h => h) (Or.inl ⟨by rfl, fun W hSW => by go_simp⟩) hHeld ?_
          simp only [Act.put, List.setIfInBounds_toArray, List.set_cons_zero, List.set_cons_succ]
          refine wpAnyH_take (i := 8) (oi := ⟨some 74, _, _, _, _, _⟩) (v := .string ⟨m.toArray⟩) rfl (by kernel_rfl) (by kernel_rfl) (by kernel_rfl) (fun _ _ _ h => h) (Or.inl ⟨by rfl, fun W hSW => by have r74 := run_strC W c1 (HMN.out.below hSW); rw [HML.out] at r74; go_simp⟩) hHeld ?_
          simp only [Act.put, List.setIfInBounds_toArray, List.set_cons_zero, List.set_cons_succ]
          refine wpAnyH_take (i := 9) (oi := ⟨some 75, _, _, _, _, _⟩) (v := .bool true) rfl (by kernel_rfl) (by kernel_rfl) (by kernel_rfl) (fun _ _ _ h => h) (Or.inl ⟨by rfl, fun W hSW => by go_simp⟩) hHeld ?_
          simp only [Act.put, List.setIfInBounds_toArray, List.set_cons_zero, List.set_cons_succ]
          refine wpAnyH_ready (rs := [1]) (by kernel_rfl) (by simp) ?_
          refine AllReadyH.cons (o := ⟨some 67, _, _, _, _, _⟩) rfl (fun K hK => ?_) AllReadyH.nil
          go_simp
          refine (Sum_b (HTN.out.below hHeld) HNL.out hc (HAN.out.below hHeld)).mono ?_
          rintro e w1 ⟨rfl, hb1⟩
          go_wp2_with fail
          refine hK.out _ _ (below_t hHeld hb1) (fun hHeld => ?_)
          clear hK K hb1
          refine wpAnyH_ready (rs := [3]) (by kernel_rfl) (by simp) ?_
          refine AllReadyH.cons (o := ⟨some 69, _, _, _, _, _⟩) rfl (fun K hK => ?_) AllReadyH.nil
          go_simp
          refine (Sum_b (HTN.out.below hHeld) HML.out ⟨hc1, hm1⟩ (HMN.out.below hHeld)).mono ?_
          rintro e w2 ⟨rfl, hb2⟩
          go_wp2_with fail
          refine hK.out _ _ (below_t hHeld hb2) (fun hHeld => ?_)
          clear hK K hb2
          refine wpAnyH_take (i := 4) (oi := ⟨some 70, _, _, _, _, _⟩) (v := .bool true) rfl (by kernel_rfl) (by kernel_rfl) (by kernel_rfl) (fun _ _ _ h => h) (Or.inl ⟨by rfl, fun W hSW => by go_simp⟩) hHeld ?_
          simp only [Act.put, List.setIfInBounds_toArray, List.set_cons_zero, List.set_cons_succ]
          refine wpAnyH_take (i := 10) (oi := ⟨some 76, _, _, _, _, _⟩) (v := .bool true) rfl (by kernel_rfl) (by kernel_rfl) (by kernel_rfl) (fun _ _ _ h => h) (Or.inl ⟨by rfl, fun W hSW => by go_simp⟩) hHeld ?_
          simp only [Act.put, List.setIfInBounds_toArray, List.set_cons_zero, List.set_cons_succ]
          refine wpAnyH_take (i := 11) (oi := ⟨some 77, _, _, _, _, _⟩) (v := .bool true) rfl (by kernel_rfl) (by kernel_rfl) (by kernel_rfl) (fun _ _ _ h => h) (Or.inl ⟨by rfl, fun W hSW => by go_simp⟩) hHeld ?_
          simp only [Act.put, List.setIfInBounds_toArray, List.set_cons_zero, List.set_cons_succ]
          refine wpAnyH_ready (rs := [12]) (by kernel_rfl) (by simp) ?_
          refine AllReadyH.cons (o := ⟨some 78, _, _, _, _, _⟩) rfl (fun K hK => ?_) AllReadyH.nil
          go_simp
          refine (awake_b (HTN.out.below hHeld)).mono ?_
          rintro e w3 ⟨rfl, hb3⟩
          go_wp2_with fail
          refine hK.out _ _ (below_t hHeld hb3) (fun hHeld => ?_)
          clear hK K hb3
          refine wpAnyH_take (i := 13) (oi := ⟨some 79, _, _, _, _, _⟩) (v := .bool true) rfl (by kernel_rfl) (by kernel_rfl) (by kernel_rfl) (fun _ _ _ h => h) (Or.inl ⟨by rfl, fun W hSW => by go_simp⟩) hHeld ?_
          simp only [Act.put, List.setIfInBounds_toArray, List.set_cons_zero, List.set_cons_succ]
          refine wpAnyH_ready (rs := [14]) (by kernel_rfl) (by simp) ?_
          refine AllReadyH.cons (o := ⟨some 6, _, _, _, _, _⟩) rfl (fun K hK => ?_) AllReadyH.nil
          go_simp
          refine hK.out _ _ hHeld (fun hHeld => ?_)
          clear hK K
          refine wpAnyH_done (by kernel_rfl) ?_ _
          refine NoPanic.normal ?_
          have HB9 := Lib.hid (below_t HBE.out hHeld)
          clear hHeld
          go_wp2_with fail
          go_ret
          exact ⟨rfl, HB9.out⟩
        · have HNE2 : Hid (¬ L = m) := Lib.hid (fun e => hLm e.symm)
          have HNE1 : Hid (¬ nat (CrcP.sum L) = nat (CrcP.sum m)) := Lib.hid (fun e => by
            have h1 := nat_inj e
            have h2 := HSE.out
            rw [h1] at h2
            have h3 : L = m := by simpa using h2
            exact hLm h3.symm)
          clear hLm
          go_wp2_with fail
          refine wp_region_noPanic ?_
          refine wp_region_held_drew (S := fun W => Below wr.heap.size wr W) (by kernel_rfl) ((Below.refl _ wr).drew) (fun hHeld => ?_)
          refine wpAnyH_take (i := 0) (oi := ⟨some 66, _, _, _, _, _⟩) (v := .slice A n c) rfl (by kernel_rfl) (by kernel_rfl) (by kernel_rfl) (fun _ _ _ h => h) (Or.inl ⟨by rfl, fun W hSW => by go_simp⟩) hHeld ?_
          simp only [Act.put, List.setIfInBounds_toArray, List.set_cons_zero, List.set_cons_succ]
          refine wpAnyH_take (i := 2) (oi := ⟨some 68, _, _, _, _, _⟩) (v := .slice (some ⟨g, 0, none⟩) n c1) rfl (by kernel_rfl) (by kernel_rfl) (by kernel_rfl) (fun _ _ _ h => h) (Or.inl ⟨by rfl, fun W hSW => by go_simp⟩) hHeld ?_
          simp only [Act.put, List.setIfInBounds_toArray, List.set_cons_zero, List.set_cons_succ]
          refine wpAnyH_take (i := 5) (oi := ⟨some 71, _, _, _, _, _⟩) (v := .slice A n c) rfl (by kernel_rfl) (by kernel_rfl) (by kernel_rfl) (fun _ _ _ h => h) (Or.inl ⟨by rfl, fun W hSW => by go_simp⟩) hHeld ?_
          simp only [Act.put, List.setIfInBounds_toArray, List.set_cons_zero, List.set_cons_succ]
          refine wpAnyH_take (i := 6) (oi := ⟨some 72, _, _, _, _, _⟩) (v := .string ⟨L.toArray⟩) rfl (by kernel_rfl) (by kernel_rfl) (by kernel_rfl) (fun _ _ _ h => h) (Or.inl ⟨by rfl, fun W hSW => by have r72 := run_strC W c (HAN.out.below hSW); rw [HNL.out] at r72; go_simp⟩) hHeld ?_
          simp only [Act.put, List.setIfInBounds_toArray, List.set_cons_zero, List.set_cons_succ]
          refine wpAnyH_take (i := 7) (oi := ⟨some 73, _, _, _, _, _⟩) (v := .slice (some ⟨g, 0, none⟩) n c1) rfl (by kernel_rfl) (by kernel_rfl) (by kernel_rfl) (fun _ _ _ h => h) (Or.inl ⟨by rfl, fun W hSW => by go_simp⟩) hHeld ?_
          simp only [Act.put, List.setIfInBounds_toArray, List.set_cons_zero, List.set_cons_succ]
          refine wpAnyH_take (i := 8) (oi := ⟨some 74, _, _, _, _, _⟩) (v := .string ⟨m.toArray⟩) rfl (by kernel_rfl) (by kernel_rfl) (by kernel_rfl) (fun _ _ _ h => h) (Or.inl ⟨by rfl, fun W hSW => by have r74 := run_strC W c1 (HMN.out.below hSW); rw [HML.out] at r74; go_simp⟩) hHeld ?_
          simp only [Act.put, List.setIfInBounds_toArray, List.set_cons_zero, List.set_cons_succ]
          refine wpAnyH_take (i := 9) (oi := ⟨some 75, _, _, _, _, _⟩) (v := .bool false) rfl (by kernel_rfl) (by kernel_rfl) (by kernel_rfl) (fun _ _ _ h => h) (Or.inl ⟨by rfl, fun W hSW => by have hne := HNE2.out; go_simp⟩) hHeld ?_
          simp only [Act.put, List.setIfInBounds_toArray, List.set_cons_zero, List.set_cons_succ]
          refine wpAnyH_ready (rs := [1]) (by kernel_rfl) (by simp) ?_
          refine AllReadyH.cons (o := ⟨some 67, _, _, _, _, _⟩) rfl (fun K hK => ?_) AllReadyH.nil
          go_simp
          refine (Sum_b (HTN.out.below hHeld) HNL.out hc (HAN.out.below hHeld)).mono ?_
          rintro e w1 ⟨rfl, hb1⟩
          go_wp2_with fail
          refine hK.out _ _ (below_t hHeld hb1) (fun hHeld => ?_)
          clear hK K hb1
          refine wpAnyH_ready (rs := [3]) (by kernel_rfl) (by simp) ?_
          refine AllReadyH.cons (o := ⟨some 69, _, _, _, _, _⟩) rfl (fun K hK => ?_) AllReadyH.nil
          go_simp
          refine (Sum_b (HTN.out.below hHeld) HML.out ⟨hc1, hm1⟩ (HMN.out.below hHeld)).mono ?_
          rintro e w2 ⟨rfl, hb2⟩
          go_wp2_with fail
          refine hK.out _ _ (below_t hHeld hb2) (fun hHeld => ?_)
          clear hK K hb2
          refine wpAnyH_take (i := 4) (oi := ⟨some 70, _, _, _, _, _⟩) (v := .bool false) rfl (by kernel_rfl) (by kernel_rfl) (by kernel_rfl) (fun _ _ _ h => h) (Or.inl ⟨by rfl, fun W hSW => by have hne := HNE1.out; go_simp⟩) hHeld ?_
          simp only [Act.put, List.setIfInBounds_toArray, List.set_cons_zero, List.set_cons_succ]
          refine wpAnyH_take (i := 10) (oi := ⟨some 76, _, _, _, _, _⟩) (v := .bool true) rfl (by kernel_rfl) (by kernel_rfl) (by kernel_rfl) (fun _ _ _ h => h) (Or.inl ⟨by rfl, fun W hSW => by go_simp⟩) hHeld ?_
          simp only [Act.put, List.setIfInBounds_toArray, List.set_cons_zero, List.set_cons_succ]
          refine wpAnyH_take (i := 11) (oi := ⟨some 77, _, _, _, _, _⟩) (v := .bool true) rfl (by kernel_rfl) (by kernel_rfl) (by kernel_rfl) (fun _ _ _ h => h) (Or.inl ⟨by rfl, fun W hSW => by go_simp⟩) hHeld ?_
          simp only [Act.put, List.setIfInBounds_toArray, List.set_cons_zero, List.set_cons_succ]
          refine wpAnyH_ready (rs := [12]) (by kernel_rfl) (by simp) ?_
          refine AllReadyH.cons (o := ⟨some 78, _, _, _, _, _⟩) rfl (fun K hK => ?_) AllReadyH.nil
          go_simp
          refine (awake_b (HTN.out.below hHeld)).mono ?_
          rintro e w3 ⟨rfl, hb3⟩
          go_wp2_with fail
          refine hK.out _ _ (below_t hHeld hb3) (fun hHeld => ?_)
          clear hK K hb3
          refine wpAnyH_take (i := 13) (oi := ⟨some 79, _, _, _, _, _⟩) (v := .bool true) rfl (by kernel_rfl) (by kernel_rfl) (by kernel_rfl) (fun _ _ _ h => h) (Or.inl ⟨by rfl, fun W hSW => by go_simp⟩) hHeld ?_
          simp only [Act.put, List.setIfInBounds_toArray, List.set_cons_zero, List.set_cons_succ]
          refine wpAnyH_ready (rs := [14]) (by kernel_rfl) (by simp) ?_
          refine AllReadyH.cons (o := ⟨some 6, _, _, _, _, _⟩) rfl (fun K hK => ?_) AllReadyH.nil
          go_simp
          refine hK.out _ _ hHeld (fun hHeld => ?_)
          clear hK K
          refine wpAnyH_done (by kernel_rfl) ?_ _
          refine NoPanic.normal ?_
          have HB9 := Lib.hid (below_t HBE.out hHeld)
          clear hHeld
          go_wp2_with fail
          go_ret
          exact ⟨rfl, HB9.out⟩
    · have hj32' : ¬ (j : Int) < 32 := by omega
      have hml : m.length = n := HNE.out.1.trans HNL.out
      have HML := Lib.hid hml
      have HSE := Lib.hid (near_sum HNE.out hj)
      have HAN := Lib.hid (HA.out.below HBE.out)
      have HTN := Lib.hid (HT.out.below HBE.out)
      have hMN : AtC wr (some ⟨g, 0, none⟩) m := by
        obtain ⟨A2, c2, e, _, _, hA2, _⟩ := own_form HOW.out hml
        injection e with e1 e2 e3
        subst e1
        exact hA2
      have HMN := Lib.hid hMN
      clear hml hMN
      by_cases hLm : m = L
      · subst hLm
        go_wp2_with fail
        refine wp_region_noPanic ?_
        refine wp_region_held_drew (S := fun W => Below wr.heap.size wr W) (by kernel_rfl) ((Below.refl _ wr).drew) (fun hHeld => ?_)
        refine wpAnyH_take (i := 0) (oi := ⟨some 66, _, _, _, _, _⟩) (v := .slice A n c) rfl (by kernel_rfl) (by kernel_rfl) (by kernel_rfl) (fun _ _ _ h => h) (Or.inl ⟨by rfl, fun W hSW => by go_simp⟩) hHeld ?_
        simp only [Act.put, List.setIfInBounds_toArray, List.set_cons_zero, List.set_cons_succ]
        refine wpAnyH_take (i := 2) (oi := ⟨some 68, _, _, _, _, _⟩) (v := .slice (some ⟨g, 0, none⟩) n c1) rfl (by kernel_rfl) (by kernel_rfl) (by kernel_rfl) (fun _ _ _ h => h) (Or.inl ⟨by rfl, fun W hSW => by go_simp⟩) hHeld ?_
        simp only [Act.put, List.setIfInBounds_toArray, List.set_cons_zero, List.set_cons_succ]
        refine wpAnyH_take (i := 5) (oi := ⟨some 71, _, _, _, _, _⟩) (v := .slice A n c) rfl (by kernel_rfl) (by kernel_rfl) (by kernel_rfl) (fun _ _ _ h => h) (Or.inl ⟨by rfl, fun W hSW => by go_simp⟩) hHeld ?_
        simp only [Act.put, List.setIfInBounds_toArray, List.set_cons_zero, List.set_cons_succ]
        refine wpAnyH_take (i := 6) (oi := ⟨some 72, _, _, _, _, _⟩) (v := .string ⟨m.toArray⟩) rfl (by kernel_rfl) (by kernel_rfl) (by kernel_rfl) (fun _ _ _ h => h) (Or.inl ⟨by rfl, fun W hSW => by have r72 := run_strC W c (HAN.out.below hSW); rw [HNL.out] at r72; go_simp⟩) hHeld ?_
        simp only [Act.put, List.setIfInBounds_toArray, List.set_cons_zero, List.set_cons_succ]
        refine wpAnyH_take (i := 7) (oi := ⟨some 73, _, _, _, _, _⟩) (v := .slice (some ⟨g, 0, none⟩) n c1) rfl (by kernel_rfl) (by kernel_rfl) (by kernel_rfl) (fun _ _ _ h => h) (Or.inl ⟨by rfl, fun W hSW => by go_simp⟩) hHeld ?_
        simp only [Act.put, List.setIfInBounds_toArray, List.set_cons_zero, List.set_cons_succ]
        refine wpAnyH_take (i := 8) (oi := ⟨some 74, _, _, _, _, _⟩) (v := .string ⟨m.toArray⟩) rfl (by kernel_rfl) (by kernel_rfl) (by kernel_rfl) (fun _ _ _ h => h) (Or.inl ⟨by rfl, fun W hSW => by have r74 := run_strC W c1 (HMN.out.below hSW); rw [HML.out] at r74; go_simp⟩) hHeld ?_
        simp only [Act.put, List.setIfInBounds_toArray, List.set_cons_zero, List.set_cons_succ]
        refine wpAnyH_take (i := 9) (oi := ⟨some 75, _, _, _, _, _⟩) (v := .bool true) rfl (by kernel_rfl) (by kernel_rfl) (by kernel_rfl) (fun _ _ _ h => h) (Or.inl ⟨by rfl, fun W hSW => by go_simp⟩) hHeld ?_
        simp only [Act.put, List.setIfInBounds_toArray, List.set_cons_zero, List.set_cons_succ]
        refine wpAnyH_ready (rs := [1]) (by kernel_rfl) (by simp) ?_
        refine AllReadyH.cons (o := ⟨some 67, _, _, _, _, _⟩) rfl (fun K hK => ?_) AllReadyH.nil
        go_simp
        refine (Sum_b (HTN.out.below hHeld) HNL.out hc (HAN.out.below hHeld)).mono ?_
        rintro e w1 ⟨rfl, hb1⟩
        go_wp2_with fail
        refine hK.out _ _ (below_t hHeld hb1) (fun hHeld => ?_)
        clear hK K hb1
        refine wpAnyH_ready (rs := [3]) (by kernel_rfl) (by simp) ?_
        refine AllReadyH.cons (o := ⟨some 69, _, _, _, _, _⟩) rfl (fun K hK => ?_) AllReadyH.nil
        go_simp
        refine (Sum_b (HTN.out.below hHeld) HML.out ⟨hc1, hm1⟩ (HMN.out.below hHeld)).mono ?_
        rintro e w2 ⟨rfl, hb2⟩
        go_wp2_with fail
        refine hK.out _ _ (below_t hHeld hb2) (fun hHeld => ?_)
        clear hK K hb2
        refine wpAnyH_take (i := 4) (oi := ⟨some 70, _, _, _, _, _⟩) (v := .bool true) rfl (by kernel_rfl) (by kernel_rfl) (by kernel_rfl) (fun _ _ _ h => h) (Or.inl ⟨by rfl, fun W hSW => by go_simp⟩) hHeld ?_
        simp only [Act.put, List.setIfInBounds_toArray, List.set_cons_zero, List.set_cons_succ]
        refine wpAnyH_take (i := 10) (oi := ⟨some 76, _, _, _, _, _⟩) (v := .bool true) rfl (by kernel_rfl) (by kernel_rfl) (by kernel_rfl) (fun _ _ _ h => h) (Or.inl ⟨by rfl, fun W hSW => by go_simp⟩) hHeld ?_
        simp only [Act.put, List.setIfInBounds_toArray, List.set_cons_zero, List.set_cons_succ]
        refine wpAnyH_take (i := 11) (oi := ⟨some 77, _, _, _, _, _⟩) (v := .bool true) rfl (by kernel_rfl) (by kernel_rfl) (by kernel_rfl) (fun _ _ _ h => h) (Or.inl ⟨by rfl, fun W hSW => by go_simp⟩) hHeld ?_
        simp only [Act.put, List.setIfInBounds_toArray, List.set_cons_zero, List.set_cons_succ]
        refine wpAnyH_ready (rs := [12]) (by kernel_rfl) (by simp) ?_
        refine AllReadyH.cons (o := ⟨some 78, _, _, _, _, _⟩) rfl (fun K hK => ?_) AllReadyH.nil
        go_simp
        refine (awake_b (HTN.out.below hHeld)).mono ?_
        rintro e w3 ⟨rfl, hb3⟩
        go_wp2_with fail
        refine hK.out _ _ (below_t hHeld hb3) (fun hHeld => ?_)
        clear hK K hb3
        refine wpAnyH_take (i := 13) (oi := ⟨some 79, _, _, _, _, _⟩) (v := .bool true) rfl (by kernel_rfl) (by kernel_rfl) (by kernel_rfl) (fun _ _ _ h => h) (Or.inl ⟨by rfl, fun W hSW => by go_simp⟩) hHeld ?_
        simp only [Act.put, List.setIfInBounds_toArray, List.set_cons_zero, List.set_cons_succ]
        refine wpAnyH_ready (rs := [14]) (by kernel_rfl) (by simp) ?_
        refine AllReadyH.cons (o := ⟨some 6, _, _, _, _, _⟩) rfl (fun K hK => ?_) AllReadyH.nil
        go_simp
        refine hK.out _ _ hHeld (fun hHeld => ?_)
        clear hK K
        refine wpAnyH_done (by kernel_rfl) ?_ _
        refine NoPanic.normal ?_
        have HB9 := Lib.hid (below_t HBE.out hHeld)
        clear hHeld
        go_wp2_with fail
        go_ret
        exact ⟨rfl, HB9.out⟩
      · have HNE2 : Hid (¬ L = m) := Lib.hid (fun e => hLm e.symm)
        have HNE1 : Hid (¬ nat (CrcP.sum L) = nat (CrcP.sum m)) := Lib.hid (fun e => by
          have h1 := nat_inj e
          have h2 := HSE.out
          rw [h1] at h2
          have h3 : L = m := by simpa using h2
          exact hLm h3.symm)
        clear hLm
        go_wp2_with fail
        refine wp_region_noPanic ?_
        refine wp_region_held_drew (S := fun W => Below wr.heap.size wr W) (by kernel_rfl) ((Below.refl _ wr).drew) (fun hHeld => ?_)
        refine wpAnyH_take (i := 0) (oi := ⟨some 66, _, _, _, _, _⟩) (v := .slice A n c) rfl (by kernel_rfl) (by kernel_rfl) (by kernel_rfl) (fun _ _ _ h => h) (Or.inl ⟨by rfl, fun W hSW => by go_simp⟩) hHeld ?_
        simp only [Act.put, List.setIfInBounds_toArray, List.set_cons_zero, List.set_cons_succ]
        refine wpAnyH_take (i := 2) (oi := ⟨some 68, _, _, _, _, _⟩) (v := .slice (some ⟨g, 0, none⟩) n c1) rfl (by kernel_rfl) (by kernel_rfl) (by kernel_rfl) (fun _ _ _ h => h) (Or.inl ⟨by rfl, fun W hSW => by go_simp⟩) hHeld ?_
        simp only [Act.put, List.setIfInBounds_toArray, List.set_cons_zero, List.set_cons_succ]
        refine wpAnyH_take (i := 5) (oi := ⟨some 71, _, _, _, _, _⟩) (v := .slice A n c) rfl (by kernel_rfl) (by kernel_rfl) (by kernel_rfl) (fun _ _ _ h => h) (Or.inl ⟨by rfl, fun W hSW => by go_simp⟩) hHeld ?_
        simp only [Act.put, List.setIfInBounds_toArray, List.set_cons_zero, List.set_cons_succ]
        refine wpAnyH_take (i := 6) (oi := ⟨some 72, _, _, _, _, _⟩) (v := .string ⟨L.toArray⟩) rfl (by kernel_rfl) (by kernel_rfl) (by kernel_rfl) (fun _ _ _ h => h) (Or.inl ⟨by rfl, fun W hSW => by have r72 := run_strC W c (HAN.out.below hSW); rw [HNL.out] at r72; go_simp⟩) hHeld ?_
        simp only [Act.put, List.setIfInBounds_toArray, List.set_cons_zero, List.set_cons_succ]
        refine wpAnyH_take (i := 7) (oi := ⟨some 73, _, _, _, _, _⟩) (v := .slice (some ⟨g, 0, none⟩) n c1) rfl (by kernel_rfl) (by kernel_rfl) (by kernel_rfl) (fun _ _ _ h => h) (Or.inl ⟨by rfl, fun W hSW => by go_simp⟩) hHeld ?_
        simp only [Act.put, List.setIfInBounds_toArray, List.set_cons_zero, List.set_cons_succ]
        refine wpAnyH_take (i := 8) (oi := ⟨some 74, _, _, _, _, _⟩) (v := .string ⟨m.toArray⟩) rfl (by kernel_rfl) (by kernel_rfl) (by kernel_rfl) (fun _ _ _ h => h) (Or.inl ⟨by rfl, fun W hSW => by have r74 := run_strC W c1 (HMN.out.below hSW); rw [HML.out] at r74; go_simp⟩) hHeld ?_
        simp only [Act.put, List.setIfInBounds_toArray, List.set_cons_zero, List.set_cons_succ]
        refine wpAnyH_take (i := 9) (oi := ⟨some 75, _, _, _, _, _⟩) (v := .bool false) rfl (by kernel_rfl) (by kernel_rfl) (by kernel_rfl) (fun _ _ _ h => h) (Or.inl ⟨by rfl, fun W hSW => by have hne := HNE2.out; go_simp⟩) hHeld ?_
        simp only [Act.put, List.setIfInBounds_toArray, List.set_cons_zero, List.set_cons_succ]
        refine wpAnyH_ready (rs := [1]) (by kernel_rfl) (by simp) ?_
        refine AllReadyH.cons (o := ⟨some 67, _, _, _, _, _⟩) rfl (fun K hK => ?_) AllReadyH.nil
        go_simp
        refine (Sum_b (HTN.out.below hHeld) HNL.out hc (HAN.out.below hHeld)).mono ?_
        rintro e w1 ⟨rfl, hb1⟩
        go_wp2_with fail
        refine hK.out _ _ (below_t hHeld hb1) (fun hHeld => ?_)
        clear hK K hb1
        refine wpAnyH_ready (rs := [3]) (by kernel_rfl) (by simp) ?_
        refine AllReadyH.cons (o := ⟨some 69, _, _, _, _, _⟩) rfl (fun K hK => ?_) AllReadyH.nil
        go_simp
        refine (Sum_b (HTN.out.below hHeld) HML.out ⟨hc1, hm1⟩ (HMN.out.below hHeld)).mono ?_
        rintro e w2 ⟨rfl, hb2⟩
        go_wp2_with fail
        refine hK.out _ _ (below_t hHeld hb2) (fun hHeld => ?_)
        clear hK K hb2
        refine wpAnyH_take (i := 4) (oi := ⟨some 70, _, _, _, _, _⟩) (v := .bool false) rfl (by kernel_rfl) (by kernel_rfl) (by kernel_rfl) (fun _ _ _ h => h) (Or.inl ⟨by rfl, fun W hSW => by have hne := HNE1.out; go_simp⟩) hHeld ?_
        simp only [Act.put, List.setIfInBounds_toArray, List.set_cons_zero, List.set_cons_succ]
        refine wpAnyH_take (i := 10) (oi := ⟨some 76, _, _, _, _, _⟩) (v := .bool true) rfl (by kernel_rfl) (by kernel_rfl) (by kernel_rfl) (fun _ _ _ h => h) (Or.inl ⟨by rfl, fun W hSW => by go_simp⟩) hHeld ?_
        simp only [Act.put, List.setIfInBounds_toArray, List.set_cons_zero, List.set_cons_succ]
        refine wpAnyH_take (i := 11) (oi := ⟨some 77, _, _, _, _, _⟩) (v := .bool true) rfl (by kernel_rfl) (by kernel_rfl) (by kernel_rfl) (fun _ _ _ h => h) (Or.inl ⟨by rfl, fun W hSW => by go_simp⟩) hHeld ?_
        simp only [Act.put, List.setIfInBounds_toArray, List.set_cons_zero, List.set_cons_succ]
        refine wpAnyH_ready (rs := [12]) (by kernel_rfl) (by simp) ?_
        refine AllReadyH.cons (o := ⟨some 78, _, _, _, _, _⟩) rfl (fun K hK => ?_) AllReadyH.nil
        go_simp
        refine (awake_b (HTN.out.below hHeld)).mono ?_
        rintro e w3 ⟨rfl, hb3⟩
        go_wp2_with fail
        refine hK.out _ _ (below_t hHeld hb3) (fun hHeld => ?_)
        clear hK K hb3
        refine wpAnyH_take (i := 13) (oi := ⟨some 79, _, _, _, _, _⟩) (v := .bool true) rfl (by kernel_rfl) (by kernel_rfl) (by kernel_rfl) (fun _ _ _ h => h) (Or.inl ⟨by rfl, fun W hSW => by go_simp⟩) hHeld ?_
        simp only [Act.put, List.setIfInBounds_toArray, List.set_cons_zero, List.set_cons_succ]
        refine wpAnyH_ready (rs := [14]) (by kernel_rfl) (by simp) ?_
        refine AllReadyH.cons (o := ⟨some 6, _, _, _, _, _⟩) rfl (fun K hK => ?_) AllReadyH.nil
        go_simp
        refine hK.out _ _ hHeld (fun hHeld => ?_)
        clear hK K
        refine wpAnyH_done (by kernel_rfl) ?_ _
        refine NoPanic.normal ?_
        have HB9 := Lib.hid (below_t HBE.out hHeld)
        clear hHeld
        go_wp2_with fail
        go_ret
        exact ⟨rfl, HB9.out⟩
theorem law_burst {w : World} (hT : Tab w) {A : Option Addr} {L : List UInt8} {c : Nat} (hc : L.length ≤ c ∧ c ≤ 9223372036854775807) (hs : L.length ≤ 140737488355328) (hA : AtC w A L) {bit row : Int} (b0 : -9223372036854775808 ≤ bit) (b1 : bit ≤ 9223372036854775807) (r0 : 0 ≤ row) (r1 : row < 4294967296) :
    Calls Tryd.prog 6 #[.slice A L.length c, .int .i64 bit, .int .u32 row] w fun e w' => e = .returned (.bool true) ∧ Below w.heap.size w w' := by
  by_cases h : L.length = 0 ∨ bit < 0 ∨ 8 * (L.length : Int) ≤ bit
  · exact burst_no hT hc hs b0 b1 r0 r1 h
  · obtain ⟨P, rfl⟩ := Int.eq_ofNat_of_zero_le (show 0 ≤ bit by omega)
    exact burst_yes hT rfl hc hs hA (by omega) r0 r1
end CrcW
end Go.Proofs.YtcfgofkfjigdcaaDoor
