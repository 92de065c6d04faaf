/-
  CrcThree: the sum of three rows, bit by bit one, is their sums', bit by bit one.
-/
import Derived.Test.YtcfgofkfjigdcaaDoorCrcLaw2
import Derived.Deep.RegionHeld3
namespace Go.Proofs.YtcfgofkfjigdcaaDoor
open Go.RowKit
set_option linter.unusedVariables false
set_option linter.unusedSimpArgs false
namespace CrcW
open BytesW CrcP CrcM
theorem min_is {l m n k : Nat} (hk : k = min (min l m) n) : (k = l ∧ l ≤ m ∧ l ≤ n) ∨ (k = m ∧ m < l ∧ m ≤ n) ∨ (k = n ∧ n < l ∧ n < m) := by omega
theorem sum_is {w : World} {P : Program} {f : Nat} {args : Array Value} {s t : BitVec 32} {R : World → Prop} (h : s = t) (c : Calls P f args w fun e w' => e = .returned (.int .u32 (nat s)) ∧ R w') : Calls P f args w fun e w' => e = .returned (.int .u32 (nat t)) ∧ R w' := h ▸ c
def ThrRel (w : World) (L M N : List UInt8) (k : Nat) (v8 v9 : Value) (wr : World) : Prop := ∃ (i : Nat) (vr : Value), v9 = .int .i64 i ∧ vr = v8 ∧ i ≤ k ∧ BytesW.Own wr w.heap.size vr (xor3 L M N i) ∧ Below w.heap.size w wr
set_option maxRecDepth 100000 in
set_option maxHeartbeats 2000000 in
theorem law_three {w : World} (hT : Tab w) {A B C : Option Addr} {L M N : List UInt8} {l m n ca cb cc : Nat} (hl : L.length = l) (hm : M.length = m) (hn : N.length = n) (hca : l ≤ ca ∧ ca ≤ 9223372036854775807) (hcb : m ≤ cb ∧ cb ≤ 9223372036854775807) (hcc : n ≤ cc ∧ cc ≤ 9223372036854775807) (hs : l ≤ 140737488355328) (hA : AtC w A L) (hB : AtC w B M) (hC : AtC w C N) :
    Calls Tryd.prog 7 #[.slice A l ca, .slice B m cb, .slice C n cc] w fun e w' => e = .returned (.bool true) ∧ Below w.heap.size w w' := by
  obtain ⟨k, hk⟩ : ∃ k, k = min (min l m) n := ⟨_, rfl⟩
  have HM3 := Lib.hid (min_is hk)
  have hkl : k ≤ l := by omega
  have hkm : k ≤ m := by omega
  have hkn : k ≤ n := by omega
  obtain ⟨hcl, hdl⟩ := hca
  obtain ⟨hcm, hdm⟩ := hcb
  obtain ⟨hcn, hdn⟩ := hcc
  have HL := Lib.hid hl
  have HM := Lib.hid hm
  have HN := Lib.hid hn
  have HA := Lib.hid hA
  have HB := Lib.hid hB
  have HC := Lib.hid hC
  have HT := Lib.hid hT
  clear hk hl hm hn hA hB hC hT
  go_enter Tryd.func7, Tryd.ntmps7
  go_wp2_with ((with_reducible refine at_slot 16 ?_); refine wp_knownC rfl (v := .int .i64 (k : Int)) ?_ ?_)
  · rcases HM3.out with ⟨h1, h2, h3⟩ | ⟨h1, h2, h3⟩ | ⟨h1, h2, h3⟩ <;> (rw [h1]; clear h1; go_simp; try ((repeat' split) <;> omega))
  go_loopw [8, 9] (ThrRel w L M N k) (fun _ v _ => k - (intOf v).toNat)
  case atStart => exact ⟨0, _, rfl, rfl, by omega, by simpa [xor3] using BytesW.Own.nil _ _, Below.refl _ _⟩
  case round =>
    obtain ⟨i, vr, rfl, rfl, hi, hown, hbel⟩ := hrel
    have HOW := Lib.hid hown
    have HBE := Lib.hid hbel
    have hz := hbel.size
    clear hown hbel
    by_cases hik : i < k
    · have HXL := Lib.hid (show (xor3 L M N i).length = i from xor3_len (by have := HL.out; omega) (by have := HM.out; omega) (by have := HN.out; omega))
      obtain ⟨x, hx⟩ : ∃ x, L[i]? = some x := ⟨_, List.getElem?_eq_getElem (by have := HL.out; omega)⟩
      obtain ⟨bA, oA, eA, hcA⟩ := HA.out.cells (by intro e; rw [e] at hx; simp at hx)
      subst eA
      have hAlt : bA < w.heap.size := at_ltC HA.out (by intro e; rw [e] at hx; simp at hx)
      have HAZ : Hid (∀ W, Below w.heap.size w W → W.cell? ⟨bA, oA + i, none⟩ = some (.int .u8 (x.toNat : Int))) := Lib.hid (fun W hW => (hW.cell (p := ⟨bA, oA + i, none⟩) hAlt).trans (hcA i x hx))
      have iA : (i : Int) < (l : Int) := by omega
      have hx8 : x.toNat < 256 := x.toNat_lt
      clear hcA
      obtain ⟨y, hy⟩ : ∃ y, M[i]? = some y := ⟨_, List.getElem?_eq_getElem (by have := HM.out; omega)⟩
      obtain ⟨bB, oB, eB, hcB⟩ := HB.out.cells (by intro e; rw [e] at hy; simp at hy)
      subst eB
      have hBlt : bB < w.heap.size := at_ltC HB.out (by intro e; rw [e] at hy; simp at hy)
      have HBZ : Hid (∀ W, Below w.heap.size w W → W.cell? ⟨bB, oB + i, none⟩ = some (.int .u8 (y.toNat : Int))) := Lib.hid (fun W hW => (hW.cell (p := ⟨bB, oB + i, none⟩) hBlt).trans (hcB i y hy))
      have iB : (i : Int) < (m : Int) := by omega
      have hy8 : y.toNat < 256 := y.toNat_lt
      clear hcB
      obtain ⟨z, hz2⟩ : ∃ z, N[i]? = some z := ⟨_, List.getElem?_eq_getElem (by have := HN.out; omega)⟩
      obtain ⟨bC, oC, eC, hcC⟩ := HC.out.cells (by intro e; rw [e] at hz2; simp at hz2)
      subst eC
      have hClt : bC < w.heap.size := at_ltC HC.out (by intro e; rw [e] at hz2; simp at hz2)
      have HCZ : Hid (∀ W, Below w.heap.size w W → W.cell? ⟨bC, oC + i, none⟩ = some (.int .u8 (z.toNat : Int))) := Lib.hid (fun W hW => (hW.cell (p := ⟨bC, oC + i, none⟩) hClt).trans (hcC i z hz2))
      have iC : (i : Int) < (n : Int) := by omega
      have hz8 : z.toNat < 256 := z.toNat_lt
      clear hcC
      have HXS := Lib.hid (xor3_succ hx hy hz2)
      have X1 := Lib.hid (xor_byte x y)
      have X2 := Lib.hid (xor_byte (x ^^^ y) z)
      clear hx hy hz2
      go_wp2_with fail
      refine wp_region_noPanic ?_
      refine wp_region_held_drew (S := fun W => Below w.heap.size w W) (by kernel_rfl) (HBE.out.drew) (fun hHeld => ?_)
      refine wpAnyH_take (i := 0) (oi := ⟨some 22, _, _, _, _, _⟩) (v := vr) rfl (by kernel_rfl) (by kernel_rfl) (by kernel_rfl) (fun _ _ _ h => h) (Or.inl ⟨by rfl, fun W hSW => by go_simp⟩) hHeld ?_
      simp only [Act.put, List.setIfInBounds_toArray, List.set_cons_zero, List.set_cons_succ]
      refine wpAnyH_take (i := 1) (oi := ⟨some 23, _, _, _, _, _⟩) (v := .slice (some ⟨bA, oA, none⟩) l ca) rfl (by kernel_rfl) (by kernel_rfl) (by kernel_rfl) (fun _ _ _ h => h) (Or.inl ⟨by rfl, fun W hSW => by go_simp⟩) hHeld ?_
      simp only [Act.put, List.setIfInBounds_toArray, List.set_cons_zero, List.set_cons_succ]
      refine wpAnyH_take (i := 2) (oi := ⟨some 24, _, _, _, _, _⟩) (v := .int .i64 (i : Int)) rfl (by kernel_rfl) (by kernel_rfl) (by kernel_rfl) (fun _ _ _ h => h) (Or.inl ⟨by rfl, fun W hSW => by go_simp⟩) hHeld ?_
      simp only [Act.put, List.setIfInBounds_toArray, List.set_cons_zero, List.set_cons_succ]
      refine wpAnyH_take (i := 3) (oi := ⟨some 25, _, _, _, _, _⟩) (v := .pointer (some ⟨bA, oA + i, none⟩)) rfl (by kernel_rfl) (by kernel_rfl) (by kernel_rfl) (fun _ _ _ h => h) (Or.inl ⟨by rfl, fun W hSW => by go_simp⟩) hHeld ?_
      simp only [Act.put, List.setIfInBounds_toArray, List.set_cons_zero, List.set_cons_succ]
      refine wpAnyH_take (i := 4) (oi := ⟨some 26, _, _, _, _, _⟩) (v := .int .u8 (x.toNat : Int)) rfl (by kernel_rfl) (by kernel_rfl) (by kernel_rfl) (fun _ _ _ h => h) (Or.inl ⟨by rfl, fun W hSW => by have q := HAZ.out W hSW; go_simp⟩) hHeld ?_
      simp only [Act.put, List.setIfInBounds_toArray, List.set_cons_zero, List.set_cons_succ]
      refine wpAnyH_take (i := 5) (oi := ⟨some 27, _, _, _, _, _⟩) (v := .slice (some ⟨bB, oB, none⟩) m cb) rfl (by kernel_rfl) (by kernel_rfl) (by kernel_rfl) (fun _ _ _ h => h) (Or.inl ⟨by rfl, fun W hSW => by go_simp⟩) hHeld ?_
      simp only [Act.put, List.setIfInBounds_toArray, List.set_cons_zero, List.set_cons_succ]
      refine wpAnyH_take (i := 6) (oi := ⟨some 28, _, _, _, _, _⟩) (v := .int .i64 (i : Int)) rfl (by kernel_rfl) (by kernel_rfl) (by kernel_rfl) (fun _ _ _ h => h) (Or.inl ⟨by rfl, fun W hSW => by go_simp⟩) hHeld ?_
      simp only [Act.put, List.setIfInBounds_toArray, List.set_cons_zero, List.set_cons_succ]
      refine wpAnyH_take (i := 7) (oi := ⟨some 29, _, _, _, _, _⟩) (v := .pointer (some ⟨bB, oB + i, none⟩)) rfl (by kernel_rfl) (by kernel_rfl) (by kernel_rfl) (fun _ _ _ h => h) (Or.inl ⟨by rfl, fun W hSW => by go_simp⟩) hHeld ?_
      simp only [Act.put, List.setIfInBounds_toArray, List.set_cons_zero, List.set_cons_succ]
      refine wpAnyH_take (i := 8) (oi := ⟨some 30, _, _, _, _, _⟩) (v := .int .u8 (y.toNat : Int)) rfl (by kernel_rfl) (by kernel_rfl) (by kernel_rfl) (fun _ _ _ h => h) (Or.inl ⟨by rfl, fun W hSW => by have q := HBZ.out W hSW; go_simp⟩) hHeld ?_
      simp only [Act.put, List.setIfInBounds_toArray, List.set_cons_zero, List.set_cons_succ]
      refine wpAnyH_take (i := 9) (oi := ⟨some 31, _, _, _, _, _⟩) (v := .int .u8 ((x ^^^ y).toNat : Int)) rfl (by kernel_rfl) (by kernel_rfl) (by kernel_rfl) (fun _ _ _ h => h) (Or.inl ⟨by rfl, fun W hSW => by go_simp; exact X1.out⟩) hHeld ?_
      simp only [Act.put, List.setIfInBounds_toArray, List.set_cons_zero, List.set_cons_succ]
      refine wpAnyH_take (i := 10) (oi := ⟨some 32, _, _, _, _, _⟩) (v := .slice (some ⟨bC, oC, none⟩) n cc) rfl (by kernel_rfl) (by kernel_rfl) (by kernel_rfl) (fun _ _ _ h => h) (Or.inl ⟨by rfl, fun W hSW => by go_simp⟩) hHeld ?_
      simp only [Act.put, List.setIfInBounds_toArray, List.set_cons_zero, List.set_cons_succ]
      refine wpAnyH_take (i := 11) (oi := ⟨some 33, _, _, _, _, _⟩) (v := .int .i64 (i : Int)) rfl (by kernel_rfl) (by kernel_rfl) (by kernel_rfl) (fun _ _ _ h => h) (Or.inl ⟨by rfl, fun W hSW => by go_simp⟩) hHeld ?_
      simp only [Act.put, List.setIfInBounds_toArray, List.set_cons_zero, List.set_cons_succ]
      refine wpAnyH_take (i := 12) (oi := ⟨some 34, _, _, _, _, _⟩) (v := .pointer (some ⟨bC, oC + i, none⟩)) rfl (by kernel_rfl) (by kernel_rfl) (by kernel_rfl) (fun _ _ _ h => h) (Or.inl ⟨by rfl, fun W hSW => by go_simp⟩) hHeld ?_
      simp only [Act.put, List.setIfInBounds_toArray, List.set_cons_zero, List.set_cons_succ]
      refine wpAnyH_take (i := 13) (oi := ⟨some 35, _, _, _, _, _⟩) (v := .int .u8 (z.toNat : Int)) rfl (by kernel_rfl) (by kernel_rfl) (by kernel_rfl) (fun _ _ _ h => h) (Or.inl ⟨by rfl, fun W hSW => by have q := HCZ.out W hSW; go_simp⟩) hHeld ?_
      simp only [Act.put, List.setIfInBounds_toArray, List.set_cons_zero, List.set_cons_succ]
      refine wpAnyH_take (i := 14) (oi := ⟨some 36, _, _, _, _, _⟩) (v := .int .u8 ((x ^^^ y ^^^ z).toNat : Int)) rfl (by kernel_rfl) (by kernel_rfl) (by kernel_rfl) (fun _ _ _ h => h) (Or.inl ⟨by rfl, fun W hSW => by go_simp; exact X2.out⟩) hHeld ?_
      simp only [Act.put, List.setIfInBounds_toArray, List.set_cons_zero, List.set_cons_succ]
      refine wpAnyH_ready (rs := [15]) (by kernel_rfl) (by simp) ?_
      refine AllReadyH.cons (o := ⟨some 37, _, _, _, _, _⟩) rfl (fun K hK => ?_) AllReadyH.nil
      go_simp
      refine hK.out _ _ (HBE.out.drew.alloc (by simp; omega) _) (fun hHeld => ?_)
      clear hK K
      refine wpAnyH_ready (rs := [16]) (by kernel_rfl) (by simp) ?_
      refine AllReadyH.cons (o := ⟨some 38, _, _, _, _, _⟩) rfl (fun K hK => ?_) AllReadyH.nil
      refine step_appG rfl (.tmp 22) (.tmp 37) rfl (B := w.heap.size) (l2 := [x ^^^ y ^^^ z]) rfl ((show BytesW.Own wr.drew w.heap.size vr (xor3 L M N i) from HOW.out).alloc _) rfl (at_oneC wr.drew _ rfl) (by rw [HXL.out]; simp; omega) (by simp; omega) ?_
      intro v5 w5 hown5 hb5
      rw [← HXS.out] at hown5
      have HO5 := Lib.hid hown5
      have HB5 := Lib.hid ((HBE.out.drew.alloc (by simp; omega) _).trans hb5)
      clear hown5 hb5
      refine hK.out _ _ HB5.out (fun hHeld => ?_)
      clear hK K
      refine wpAnyH_ready (rs := [17]) (by kernel_rfl) (by simp) ?_
      refine AllReadyH.cons (o := ⟨some 8, _, _, _, _, _⟩) rfl (fun K hK => ?_) AllReadyH.nil
      go_simp
      refine hK.out _ _ HB5.out (fun hHeld => ?_)
      clear hK K
      refine wpAnyH_done (by kernel_rfl) ?_ _
      refine NoPanic.normal ?_
      go_wp2_with fail
      go_roundw
      case rel => exact ⟨i + 1, _, by go_num, rfl, by omega, HO5.out, HB5.out⟩
      case measure => simp [intOf]; omega
    · have : i = k := by omega
      subst this
      have HXL := Lib.hid (show (xor3 L M N i).length = i from xor3_len (by have := HL.out; omega) (by have := HM.out; omega) (by have := HN.out; omega))
      obtain ⟨AX, cx, rfl, hcx1, hcx2, hAX, _⟩ := own_form HOW.out HXL.out
      have HXN := Lib.hid hAX
      have HAN := Lib.hid (HA.out.below HBE.out)
      have HBN := Lib.hid (HB.out.below HBE.out)
      have HCN := Lib.hid (HC.out.below HBE.out)
      have HTN := Lib.hid (HT.out.below HBE.out)
      have HSX := Lib.hid (xor3_sum (a := L) (b := M) (c := N) (n := i) (by have := HL.out; omega) (by have := HM.out; omega) (by have := HN.out; omega))
      have HAK : Hid ((L.take i).length = i) := Lib.hid (by have := HL.out; simp; omega)
      have HBK : Hid ((M.take i).length = i) := Lib.hid (by have := HM.out; simp; omega)
      have HCK : Hid ((N.take i).length = i) := Lib.hid (by have := HN.out; simp; omega)
      clear hAX
      go_wp2_with fail
      refine wp_region_noPanic ?_
      refine wp_region_held_drew (S := fun W => Below wr.heap.size wr W) (by kernel_rfl) ((Below.refl _ wr).drew) (fun hHeld => ?_)
      refine wpAnyH_take (i := 0) (oi := ⟨some 39, _, _, _, _, _⟩) (v := .slice AX i cx) rfl (by kernel_rfl) (by kernel_rfl) (by kernel_rfl) (fun _ _ _ h => h) (Or.inl ⟨by rfl, fun W hSW => by go_simp⟩) hHeld ?_
      simp only [Act.put, List.setIfInBounds_toArray, List.set_cons_zero, List.set_cons_succ]
      refine wpAnyH_take (i := 2) (oi := ⟨some 41, _, _, _, _, _⟩) (v := .slice A l ca) rfl (by kernel_rfl) (by kernel_rfl) (by kernel_rfl) (fun _ _ _ h => h) (Or.inl ⟨by rfl, fun W hSW => by go_simp⟩) hHeld ?_
      simp only [Act.put, List.setIfInBounds_toArray, List.set_cons_zero, List.set_cons_succ]
      refine wpAnyH_take (i := 3) (oi := ⟨some 42, _, _, _, _, _⟩) (v := .int .i64 (i : Int)) rfl (by kernel_rfl) (by kernel_rfl) (by kernel_rfl) (fun _ _ _ h => h) (Or.inl ⟨by rfl, fun W hSW => by go_simp⟩) hHeld ?_
      simp only [Act.put, List.setIfInBounds_toArray, List.set_cons_zero, List.set_cons_succ]
      refine wpAnyH_take (i := 4) (oi := ⟨some 43, _, _, _, _, _⟩) (v := .slice A i ca) rfl (by kernel_rfl) (by kernel_rfl) (by kernel_rfl) (fun _ _ _ h => h) (Or.inl ⟨by rfl, fun W hSW => by have r := run_uptoN W (A := A) (L := l) (c := ca) (n := i) hkl hcl; go_simp⟩) hHeld ?_
      simp only [Act.put, List.setIfInBounds_toArray, List.set_cons_zero, List.set_cons_succ]
      refine wpAnyH_take (i := 6) (oi := ⟨some 45, _, _, _, _, _⟩) (v := .slice B m cb) rfl (by kernel_rfl) (by kernel_rfl) (by kernel_rfl) (fun _ _ _ h => h) (Or.inl ⟨by rfl, fun W hSW => by go_simp⟩) hHeld ?_
      simp only [Act.put, List.setIfInBounds_toArray, List.set_cons_zero, List.set_cons_succ]
      refine wpAnyH_take (i := 7) (oi := ⟨some 46, _, _, _, _, _⟩) (v := .int .i64 (i : Int)) rfl (by kernel_rfl) (by kernel_rfl) (by kernel_rfl) (fun _ _ _ h => h) (Or.inl ⟨by rfl, fun W hSW => by go_simp⟩) hHeld ?_
      simp only [Act.put, List.setIfInBounds_toArray, List.set_cons_zero, List.set_cons_succ]
      refine wpAnyH_take (i := 8) (oi := ⟨some 47, _, _, _, _, _⟩) (v := .slice B i cb) rfl (by kernel_rfl) (by kernel_rfl) (by kernel_rfl) (fun _ _ _ h => h) (Or.inl ⟨by rfl, fun W hSW => by have r := run_uptoN W (A := B) (L := m) (c := cb) (n := i) hkm hcm; go_simp⟩) hHeld ?_
      simp only [Act.put, List.setIfInBounds_toArray, List.set_cons_zero, List.set_cons_succ]
      refine wpAnyH_take (i := 11) (oi := ⟨some 50, _, _, _, _, _⟩) (v := .slice C n cc) rfl (by kernel_rfl) (by kernel_rfl) (by kernel_rfl) (fun _ _ _ h => h) (Or.inl ⟨by rfl, fun W hSW => by go_simp⟩) hHeld ?_
      simp only [Act.put, List.setIfInBounds_toArray, List.set_cons_zero, List.set_cons_succ]
      refine wpAnyH_take (i := 12) (oi := ⟨some 51, _, _, _, _, _⟩) (v := .int .i64 (i : Int)) rfl (by kernel_rfl) (by kernel_rfl) (by kernel_rfl) (fun _ _ _ h => h) (Or.inl ⟨by rfl, fun W hSW => by go_simp⟩) hHeld ?_
      simp only [Act.put, List.setIfInBounds_toArray, List.set_cons_zero, List.set_cons_succ]
      refine wpAnyH_take (i := 13) (oi := ⟨some 52, _, _, _, _, _⟩) (v := .slice C i cc) rfl (by kernel_rfl) (by kernel_rfl) (by kernel_rfl) (fun _ _ _ h => h) (Or.inl ⟨by rfl, fun W hSW => by have r := run_uptoN W (A := C) (L := n) (c := cc) (n := i) hkn hcn; go_simp⟩) hHeld ?_
      simp only [Act.put, List.setIfInBounds_toArray, List.set_cons_zero, List.set_cons_succ]
      refine wpAnyH_ready (rs := [1]) (by kernel_rfl) (by simp) ?_
      refine AllReadyH.cons (o := ⟨some 40, _, _, _, _, _⟩) rfl (fun K hK => ?_) AllReadyH.nil
      go_simp
      refine (sum_is HSX.out (Sum_b (HTN.out.below hHeld) HXL.out ⟨hcx1, hcx2⟩ (HXN.out.below hHeld))).mono ?_
      rintro e w1 ⟨rfl, hb1⟩
      go_wp2_with fail
      refine hK.out _ _ (below_t hHeld hb1) (fun hHeld => ?_)
      clear hK K hb1
      refine wpAnyH_ready (rs := [5]) (by kernel_rfl) (by simp) ?_
      refine AllReadyH.cons (o := ⟨some 44, _, _, _, _, _⟩) rfl (fun K hK => ?_) AllReadyH.nil
      go_simp
      refine (Sum_b (HTN.out.below hHeld) HAK.out ⟨by omega, hdl⟩ ((HAN.out.below hHeld).take i)).mono ?_
      rintro e w2 ⟨rfl, hb2⟩
      go_wp2_with fail
      refine hK.out _ _ (below_t hHeld hb2) (fun hHeld => ?_)
      clear hK K hb2
      refine wpAnyH_ready (rs := [9]) (by kernel_rfl) (by simp) ?_
      refine AllReadyH.cons (o := ⟨some 48, _, _, _, _, _⟩) rfl (fun K hK => ?_) AllReadyH.nil
      go_simp
      refine (Sum_b (HTN.out.below hHeld) HBK.out ⟨by omega, hdm⟩ ((HBN.out.below hHeld).take i)).mono ?_
      rintro e w3 ⟨rfl, hb3⟩
      go_wp2_with fail
      refine hK.out _ _ (below_t hHeld hb3) (fun hHeld => ?_)
      clear hK K hb3
      refine wpAnyH_take (i := 10) (oi := ⟨some 49, _, _, _, _, _⟩) (v := .int .u32 (nat (CrcP.sum (L.take i) ^^^ CrcP.sum (M.take i)))) rfl (by kernel_rfl) (by kernel_rfl) (by kernel_rfl) (fun _ _ _ h => h) (Or.inl ⟨by rfl, fun W hSW => by go_simp; exact xor_nat _ _⟩) hHeld ?_
      simp only [Act.put, List.setIfInBounds_toArray, List.set_cons_zero, List.set_cons_succ]
      refine wpAnyH_ready (rs := [14]) (by kernel_rfl) (by simp) ?_
      refine AllReadyH.cons (o := ⟨some 53, _, _, _, _, _⟩) rfl (fun K hK => ?_) AllReadyH.nil
      go_simp
      refine (Sum_b (HTN.out.below hHeld) HCK.out ⟨by omega, hdn⟩ ((HCN.out.below hHeld).take i)).mono ?_
      rintro e w4 ⟨rfl, hb4⟩
      go_wp2_with fail
      refine hK.out _ _ (below_t hHeld hb4) (fun hHeld => ?_)
      clear hK K hb4
      refine wpAnyH_take (i := 15) (oi := ⟨some 54, _, _, _, _, _⟩) (v := .int .u32 (nat (CrcP.sum (L.take i) ^^^ CrcP.sum (M.take i) ^^^ CrcP.sum (N.take i)))) rfl (by kernel_rfl) (by kernel_rfl) (by kernel_rfl) (fun _ _ _ h => h) (Or.inl ⟨by rfl, fun W hSW => by go_simp; exact xor_nat _ _⟩) hHeld ?_
      simp only [Act.put, List.setIfInBounds_toArray, List.set_cons_zero, List.set_cons_succ]
      refine wpAnyH_take (i := 16) (oi := ⟨some 55, _, _, _, _, _⟩) (v := .bool true) rfl (by kernel_rfl) (by kernel_rfl) (by kernel_rfl) (fun _ _ _ h => h) (Or.inl ⟨by rfl, fun W hSW => by go_simp⟩) hHeld ?_
      simp only [Act.put, List.setIfInBounds_toArray, List.set_cons_zero, List.set_cons_succ]
      refine wpAnyH_take (i := 17) (oi := ⟨some 56, _, _, _, _, _⟩) (v := .bool true) rfl (by kernel_rfl) (by kernel_rfl) (by kernel_rfl) (fun _ _ _ h => h) (Or.inl ⟨by rfl, fun W hSW => by go_simp⟩) hHeld ?_
      simp only [Act.put, List.setIfInBounds_toArray, List.set_cons_zero, List.set_cons_succ]
      refine wpAnyH_ready (rs := [18]) (by kernel_rfl) (by simp) ?_
      refine AllReadyH.cons (o := ⟨some 57, _, _, _, _, _⟩) rfl (fun K hK => ?_) AllReadyH.nil
      go_simp
      refine (awake_b (HTN.out.below hHeld)).mono ?_
      rintro e w6 ⟨rfl, hb6⟩
      go_wp2_with fail
      refine hK.out _ _ (below_t hHeld hb6) (fun hHeld => ?_)
      clear hK K hb6
      refine wpAnyH_take (i := 19) (oi := ⟨some 58, _, _, _, _, _⟩) (v := .bool true) rfl (by kernel_rfl) (by kernel_rfl) (by kernel_rfl) (fun _ _ _ h => h) (Or.inl ⟨by rfl, fun W hSW => by go_simp⟩) hHeld ?_
      simp only [Act.put, List.setIfInBounds_toArray, List.set_cons_zero, List.set_cons_succ]
      refine wpAnyH_ready (rs := [20]) (by kernel_rfl) (by simp) ?_
      refine AllReadyH.cons (o := ⟨some 6, _, _, _, _, _⟩) rfl (fun K hK => ?_) AllReadyH.nil
      go_simp
      refine hK.out _ _ hHeld (fun hHeld => ?_)
      clear hK K
      refine wpAnyH_done (by kernel_rfl) ?_ _
      refine NoPanic.normal ?_
      have HB9 := Lib.hid (below_t HBE.out hHeld)
      clear hHeld
      go_wp2_with fail
      go_ret
      exact ⟨rfl, HB9.out⟩
end CrcW
end Go.Proofs.YtcfgofkfjigdcaaDoor
