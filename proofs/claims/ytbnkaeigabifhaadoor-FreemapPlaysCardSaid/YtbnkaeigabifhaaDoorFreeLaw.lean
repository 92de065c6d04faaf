/-
  What the laws call: works, kept; what lies apart.
-/
import Derived.Test.YtbnkaeigabifhaaDoorFreeOf
-- mine: whole_c same_c awake_c take_c step_c back_c Made number_c next_c fixed_c clone_c int_c end_c put_c
namespace Go.Proofs.YtbnkaeigabifhaaDoor
open Go.RowKit
set_option linter.unusedVariables false
set_option linter.unusedSimpArgs false
set_option maxRecDepth 100000
namespace FreW
open BlkP RowG FrS PushG FreP
open CrcW (Tab)
section
variable {α : Type} {e : Enc α} {E : TypeId} {w w' : World} {B B' p n : Nat} {v : Value} {l : List α} {S S' : Nat → Prop}
theorem row_new (h : RowG.Own e E w B v l) (hS : ∀ k, S k → w.heap.size ≤ k) : ∀ g, v.ownBlock = some g → ¬ S g := fun g hg hs => by
  have := h.ge g hg
  have := hS g hs
  omega
theorem row_made (h : RowG.Own e E w' w.heap.size v l) (hS : ∀ k, S k → k < w.heap.size) : ∀ g, v.ownBlock = some g → ¬ S g := fun g hg hs => by
  have := h.ge g hg
  have := hS g hs
  omega
theorem apart_row (h : RowG.Own e E w B v l) (hd : ∀ g, v.ownBlock = some g → ¬ S g) (hn : ∀ k, S' k → S k ∨ w.heap.size ≤ k) : ∀ g, v.ownBlock = some g → ¬ S' g := fun g hg hs => by
  rcases hn g hs with q | q
  · exact hd g hg q
  · have := h.ge g hg
    omega
end
/-- Numbers that came in lie apart from what is made. -/
theorem Ints.arg {w w1 : World} {S : Nat → Prop} {A : Option Addr} {n c : Nat} {l : List Int} (h : Rd RowG.encI w (.slice A n c) l) (hn : l.length = n) (hb : Below w.heap.size w w1) (hS : ∀ k, S k → w.heap.size ≤ k) : Ints w1 S A n c l :=
  Ints.of_rd (h.below hb) hn (fun hz b o hA hl hs => by
    obtain ⟨A', c', he, h1, h2, h3⟩ := h
    injection he with e1 e2 e3
    subst e1 e3
    obtain ⟨b', o', hA', hl', _⟩ := h3 (fun q => by rw [q] at hn; simp at hn; omega)
    rw [hA] at hA'
    injection hA' with hA'
    injection hA' with hA'
    have := hS b hs
    omega)
theorem Ints.none (w : World) (S : Nat → Prop) : Ints w S none 0 0 [] := ⟨rfl, Nat.le_refl _, by omega, fun h => by omega⟩
theorem Ints.own {w : World} {S : Nat → Prop} {B : Nat} {A : Option Addr} {n c : Nat} {l : List Int} (h : RowG.Own RowG.encI TI w B (.slice A n c) l) (hn : l.length = n) (hd : ∀ g, (Value.slice A n c).ownBlock = some g → ¬ S g) : Ints w S A n c l :=
  Ints.of_rd h.rd hn (fun hz b o hA hl hs => by
    obtain ⟨A', c', e, h1, h2, h3⟩ := h.form hn
    injection e with e1 e2 e3
    obtain ⟨g, hg, _⟩ := h3 hz
    rw [hg] at e1
    rw [e1] at hA
    injection hA with hA
    injection hA with hA hA2
    refine hd b ?_ hs
    rw [e1, hA]
    rfl)
theorem full_len (n : Nat) : (full n).length = n := bitsL_len _ _
theorem k1 : takeO (full 256) 3 = [0, 1, 2] ∧ canT (full 256) 3 = true := by decide +kernel
theorem k2 : free (takeL (full 256) 3) = 253 ∧ (inL (takeL (full 256) 3) 2 && has (takeL (full 256) 3) 2) = false ∧ (inL (takeL (full 256) 3) 3 && has (takeL (full 256) 3) 3) = true := by decide +kernel
theorem works_c {w : World} (hT : TabZ w) : Calls Tryd.prog 15 #[] w fun e w' => e = .returned (.bool true) ∧ Below w.heap.size w w' := by
  have HT := Lib.hid hT
  have K1 := Lib.hid k1
  have K2 := Lib.hid k2
  clear hT
  go_enter Tryd.func15, Tryd.ntmps15
  go_wp2_with fail
  go_at_call 11
  refine (New_i (n := 256) (by omega) (by omega) w).mono ?_
  rintro e w1 ⟨p, rfl, S, hq, hb⟩
  have M := Lib.hid hq
  have B1 := Lib.hid hb
  have T1 := Lib.hid (HT.out.below hb)
  clear hq hb
  go_wp2_with fail
  go_at_call 16
  refine (Take_i M.out T1.out 3).mono ?_
  rintro e w2 ⟨v, rfl, ho, hq, hf⟩
  rw [K1.out.1] at ho
  rw [K1.out.2]
  obtain ⟨A, c, rfl, hc, hm, hA⟩ := ho.form (n := 3) rfl
  obtain ⟨g, rfl, hg1, hg2⟩ := hA (by omega)
  have c2 := ho.cell (i := 2) (j := 0) (x := 2) (u := .int .i64 2) rfl rfl
  have e2 : 2 * RowG.encI.k + 0 = 2 := rfl
  rw [e2] at c2
  have M2 := Lib.hid hq
  have B2 := Lib.hid (B1.out.trans (M.out.toBelow hf))
  clear ho hq hf hA e2
  have HFR := Lib.hid (K2.out.1)
  go_wp2_with fail
  go_at_call 25
  refine (Free_i M2.out).mono ?_
  rintro e w3 ⟨rfl, hw⟩
  obtain rfl := hw.symm
  rw [HFR.out]
  go_wp2_with fail
  go_at_call 27
  refine (Has_i M2.out 2).mono ?_
  rintro e w4 ⟨rfl, hb4⟩
  have M4 := Lib.hid (M2.out.below hb4)
  have B4 := Lib.hid (B2.out.trans (hb4.mono B2.out.size))
  clear hb4
  rw [show (2 : Int).toNat = 2 from rfl, K2.out.2.1]
  go_wp2_with fail
  go_at_call 27
  refine (Has_i M4.out 3).mono ?_
  rintro e w5 ⟨rfl, hb5⟩
  have B5 := Lib.hid (B4.out.trans (hb5.mono B4.out.size))
  clear hb5
  rw [show (3 : Int).toNat = 3 from rfl, K2.out.2.2]
  go_wp2_with fail
  go_ret
  exact ⟨rfl, B5.out⟩
theorem kept_no {n : Int} (h : isM n = false) {w : World} {A : Option Addr} {m c : Nat} : Calls Tryd.prog 34 #[.int .i64 n, .slice A m c] w fun e w' => e = .returned (.pointer none) ∧ w' = w := by
  go_enter Tryd.func34, Tryd.ntmps34
  go_wp2_with fail
  go_at_call 11
  refine (New_no h _).mono ?_
  rintro e w1 ⟨rfl, hw⟩
  obtain rfl := hw.symm
  go_wp2_with fail
  go_ret
  exact ⟨rfl, rfl⟩
set_option maxHeartbeats 2000000 in
theorem kept_i {n : Nat} (lo : 256 ≤ n) (hi : n ≤ 131072) {w : World} {A : Option Addr} {m c : Nat} {l : List Int} (h : Rd RowG.encI w (.slice A m c) l) (hm : l.length = m) :
    Calls Tryd.prog 34 #[.int .i64 (n : Int), .slice A m c] w fun e w' => ∃ p L, e = .returned (.pointer (some ⟨p, 0, none⟩)) ∧ Made w p n L w' := by
  have H := Lib.hid h
  have HL := Lib.hid hm
  have hmb : m ≤ 9223372036854775807 := by
    obtain ⟨A, c, e, q1, q2⟩ := h.form hm
    omega
  clear h hm
  go_enter Tryd.func34, Tryd.ntmps34
  go_wp2_with fail
  go_at_call 11
  refine (New_i lo hi w).mono ?_
  rintro e w1 ⟨p, rfl, S, hq, hb⟩
  have M := Lib.hid hq
  have B1 := Lib.hid hb
  clear hq hb
  go_wp2_with fail
  go_loopw [7] (fun v7 wr => ∃ (i : Nat) (L : List Bool), v7 = .int .i64 (i : Int) ∧ i ≤ m ∧ i ≤ 200 ∧ Mp wr w.heap.size p n L S ∧ Below w.heap.size w wr) (fun v7 _ => 200 - (RowKit.intOf v7).toNat)
  case atStart => exact ⟨0, full n, rfl, by omega, by omega, M.out, B1.out⟩
  case round =>
    obtain ⟨i, L, rfl, hi1, hi2, hM, hbr⟩ := hrel
    have MP := Lib.hid hM
    have BR := Lib.hid hbr
    by_cases hlt : i < m ∧ i < 200
    · obtain ⟨hlt1, hlt2⟩ := hlt
      obtain ⟨x, hx⟩ : ∃ x, l[i]? = some x := ⟨_, List.getElem?_eq_getElem (by rw [HL.out]; exact hlt1)⟩
      have hI := Ints.arg (S := S) H.out HL.out hbr (fun k hk => (hM.ge hk).1)
      obtain ⟨b, o, hA, hblt, hbn, hcl⟩ := hI.at_ (by omega)
      subst hA
      have HI := Lib.hid (hI.one hlt1 hx)
      have hcap := hI.cap
      have hq1 : i + 1 ≤ c := by omega
      have hqk : ¬ c - i = 0 := by omega
      clear hI hM hbr hcl hx
      go_wp2_with fail
      go_at_call 21
      refine (Keep_i MP.out HI.out).mono ?_
      rintro e w4 ⟨rfl, hq, hf⟩
      have M4 := Lib.hid hq
      have B4 := Lib.hid (BR.out.trans (MP.out.toBelow hf))
      clear hq hf
      go_wp2_with fail
      go_roundw
      case rel => exact ⟨i + 1, _, by go_num, by omega, by omega, M4.out, B4.out⟩
      case measure => simp [RowKit.intOf]; omega
    · by_cases h1 : i < m
      · obtain rfl : i = 200 := by omega
        clear hM hbr hlt
        go_wp2_with fail
        go_ret
        exact ⟨p, L, rfl, S, MP.out, BR.out⟩
      · obtain rfl : i = m := by omega
        clear hM hbr hlt
        go_wp2_with fail
        go_ret
        exact ⟨p, L, rfl, S, MP.out, BR.out⟩
end FreW
end Go.Proofs.YtbnkaeigabifhaaDoor
