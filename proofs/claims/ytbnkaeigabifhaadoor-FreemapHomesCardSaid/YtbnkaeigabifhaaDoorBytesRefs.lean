/-
  The walks of the reference: what is laid.
-/
import Derived.Test.YtbnkaeigabifhaaDoorBytesPuts
namespace Go.Proofs.YtbnkaeigabifhaaDoor
open Go.RowKit
open Go.Lib (uvarint uvarint_small uvarint_big uvarint_length64 uvarint_pos zigzag)
set_option linter.unusedVariables false
set_option linter.unusedSimpArgs false
namespace BytesW

end BytesW
end Go.Proofs.YtbnkaeigabifhaaDoor


/-
  The walks of the reference, continued: whole numbers, texts, numbers of a width; whether bytes begin with others.
-/
namespace Go.Proofs.YtbnkaeigabifhaaDoor
open Go.RowKit
open Go.Lib (uvarint uvarint_small uvarint_big uvarint_length64 uvarint_pos zigzag)
set_option linter.unusedVariables false
set_option linter.unusedSimpArgs false
namespace BytesW

def TextRel (w : World) (s : List UInt8) (v i : Value) (wr : World) : Prop :=
  ∃ j : Nat, i = .int .i64 j ∧ j ≤ s.length ∧ Own wr w.heap.size v (uvarint s.length ++ s.take j) ∧ Below w.heap.size w wr
def RFixRel (w : World) (n k : Nat) (m v i : Value) (wr : World) : Prop :=
  ∃ (j : Nat) (x : Int), m = .int .u64 x ∧ x = ((n / 256 ^ j : Nat) : Int) ∧ i = .int .i64 j ∧ j ≤ k ∧ Own wr w.heap.size v (fx n j) ∧ Below w.heap.size w wr
theorem r_fixed_c {w : World} {n : Nat} {x k : Int} (hn : n < 18446744073709551616) (hx : x = n) :
    Calls Tryd.prog 62 #[.int .u64 x, .int .i64 k] w (Gives w (fxI n k)) := by
  have hx0 : 0 ≤ x := by omega
  have hx1 : x < 18446744073709551616 := by omega
  have HX := Lib.hid hx
  have HN := Lib.hid hn
  clear hx hn
  by_cases hk : 1 ≤ k ∧ k ≤ 8
  · have HF := Lib.hid (show fxI n k = fx n k.toNat by unfold fxI; rw [if_pos hk])
    obtain ⟨h1, h2⟩ := hk
    obtain ⟨q, rfl⟩ := Int.eq_ofNat_of_zero_le (show 0 ≤ k by omega)
    go_enter Tryd.func62, Tryd.ntmps62
    go_wp2_with fail
    go_loopw [0, 5, 6] (RFixRel w n q) (fun _ _ i _ => q - (intOf i).toNat)
    case atStart => exact ⟨0, x, rfl, by simpa using HX.out, rfl, by omega, Own.nil _ _, Below.refl _ _⟩
    case round =>
      obtain ⟨j, y, rfl, hy, rfl, hj, hown, hbw⟩ := hrel
      have hy0 : 0 ≤ y := by rw [hy]; exact Int.natCast_nonneg _
      have hy1 : y < 18446744073709551616 := by
        have h1 := Nat.div_le_self n (256 ^ j)
        have h2 := HN.out
        rw [hy]
        exact Int.ofNat_lt.2 (Nat.lt_of_le_of_lt h1 h2)
      have hll : (fx n j).length ≤ 8 := by simp [fx_length]; omega
      have HY := Lib.hid hy
      have hz := hbw.size
      clear hy
      by_cases hjq : j < q
      · obtain ⟨z, hz⟩ : ∃ z : UInt8, z = (n / 256 ^ j % 256).toUInt8 := ⟨_, rfl⟩
        have e1 : y % 256 = z.toNat := by
          rw [hz, fx_byte, HY.out]
          rfl
        have E2 := Lib.hid e1
        have HZ := Lib.hid hz
        clear e1 hz
        go_wp2_with (at_builtin; refine wp_push rfl (.tmp 19) (.tmp 23) rfl wr _ rfl rfl hown z ?_ rfl (by omega) hbw.size ?_; (first | exact E2.out | (have := E2.out; omega)); intro v2 w2 hown2 hb2)
        go_roundw
        case rel =>
          refine ⟨j + 1, _, rfl, ?_, by go_num, by omega, ?_, hbw.trans hb2⟩
          · rw [HY.out, Nat.pow_succ, ← Nat.div_div_eq_div_mul]
            rfl
          · rw [HZ.out] at hown2
            simpa [fx, List.append_assoc] using hown2
        case measure => simp [intOf]; omega
      · have : j = q := by omega
        subst this
        go_wp2_with fail
        go_ret
        refine ⟨_, rfl, ?_, hbw⟩
        rw [HF.out]
        simpa using hown
  · have HF := Lib.hid (show fxI n k = [] by unfold fxI; rw [if_neg hk])
    by_cases h1 : 1 ≤ k
    · have h2 : ¬ k ≤ 8 := fun h => hk ⟨h1, h⟩
      clear hk
      go_enter Tryd.func62, Tryd.ntmps62
      go_wp2_with fail
      go_ret
      exact ⟨_, rfl, by rw [HF.out]; exact Own.nil _ _, Below.refl _ _⟩
    · clear hk
      go_enter Tryd.func62, Tryd.ntmps62
      go_wp2_with fail
      go_ret
      exact ⟨_, rfl, by rw [HF.out]; exact Own.nil _ _, Below.refl _ _⟩

def SameRel (w : World) (xs ys : List UInt8) (i : Value) (wr : World) : Prop := ∃ j q : Nat, i = .int .i64 j ∧ j ≤ ys.length ∧ ys.take j = xs.take j ∧ wr = w.drewN q
end BytesW
end Go.Proofs.YtbnkaeigabifhaaDoor


/-
  The reference's way to find the number with whose bytes a list begins.
-/
namespace Go.Proofs.YtbnkaeigabifhaaDoor
open Go.RowKit
open Go.Lib (uvarint uvarint_small uvarint_big uvarint_length64 uvarint_pos zigzag)
set_option linter.unusedVariables false
set_option linter.unusedSimpArgs false
namespace BytesW

def FirstRel (k : Nat) (v : Value) : Prop := ∃ i : Nat, v = .int .i64 ((i : Int) + 1) ∧ i < k
def InRel (l : List UInt8) (i : Nat) (v u : Value) : Prop :=
  ∃ (j : Nat) (y x : Int), j ≤ i + 1 ∧ v = .int .u64 y ∧ u = .int .i64 x ∧ y = ((vm ((l.take (i + 1)).drop j) : Nat) : Int) ∧ x = (j : Int) - 1
/-- A byte at hand: its number, its cell; what groups from there on make. -/
theorem cellAt {w : World} {b o : Nat} {l : List UInt8} {i t : Nat} (hc : ∀ (i : Nat) (x : UInt8), l[i]? = some x → w.cell? ⟨b, o + i, none⟩ = some (bv x)) (ht : t < i + 1) (hil : i < l.length) :
    ∃ z : Int, z = ((l[t]'(by omega)).toNat : Int) ∧ 0 ≤ z ∧ z < 256 ∧ w.cell? ⟨b, o + t, none⟩ = some (.int .u8 z) ∧ Hid (vm ((l.take (i + 1)).drop t) = (128 * vm ((l.take (i + 1)).drop (t + 1)) + (l[t]'(by omega)).toNat % 128) % 18446744073709551616) := by
  have hx := (l[t]'(by omega)).toNat_lt
  refine ⟨_, rfl, by omega, by omega, hc t _ (List.getElem?_eq_getElem (by omega)), Lib.hid ?_⟩
  rw [List.drop_eq_getElem_cons (i := t) (by simp; omega)]
  simp only [vm, List.getElem_take]

end BytesW
end Go.Proofs.YtbnkaeigabifhaaDoor


/-
  What is asked of a reader of the reference.
-/
namespace Go.Proofs.YtbnkaeigabifhaaDoor
open Go.RowKit
open Go.Lib (uvarint uvarint_small uvarint_big uvarint_length64 uvarint_pos zigzag)
set_option linter.unusedVariables false
set_option linter.unusedSimpArgs false
namespace BytesW

end BytesW
end Go.Proofs.YtbnkaeigabifhaaDoor


/-
  Numbers of a width, read: of the program and of the reference.
-/
namespace Go.Proofs.YtbnkaeigabifhaaDoor
open Go.RowKit
open Go.Lib (uvarint uvarint_small uvarint_big uvarint_length64 uvarint_pos zigzag)
set_option linter.unusedVariables false
set_option linter.unusedSimpArgs false
namespace BytesW

theorem pow256 (j : Nat) : 256 ^ j = 2 ^ (8 * j) := by rw [Nat.pow_mul]
theorem rFixed_is (s : St) (k : Int) : rFixed s k = (vf (rStep s (if 1 ≤ k ∧ k ≤ 8 then k else -1)).1, (rStep s (if 1 ≤ k ∧ k ≤ 8 then k else -1)).2) := by
  unfold rFixed rStep
  by_cases hb : s.2 = true
  · simp [hb, vf]
  · rw [if_neg hb, if_neg hb]
    by_cases hk : 1 ≤ k ∧ k ≤ 8
    · rw [if_pos hk]
      by_cases hl : k ≤ (s.1.length : Int)
      · rw [if_pos ⟨hk.1, hk.2, hl⟩, if_pos ⟨by omega, hl⟩]
      · rw [if_neg (fun h => hl h.2.2), if_neg (fun h => hl h.2)]
        rfl
    · rw [if_neg hk, if_neg (fun h => hk ⟨h.1, h.2.1⟩), if_neg (by omega)]
      rfl
theorem rStep_8 (s : St) {k : Int} (h : k ≤ 8) : (rStep s k).1.length ≤ 8 := by
  unfold rStep
  split
  · simp
  · split
    · simp
      omega
    · simp
def FixedRel (l : List UInt8) (n s i : Value) : Prop := ∃ (j : Nat) (y : Int), i = .int .i64 j ∧ n = .int .u64 y ∧ s = .int .i64 ((8 * j : Nat) : Int) ∧ y = ((vf (l.take j) : Nat) : Int) ∧ j ≤ l.length
theorem vf_take_lt (l : List UInt8) {j : Nat} (hj : j ≤ 8) : vf (l.take j) < 18446744073709551616 := by
  have h1 := vf_lt (l.take j)
  have h2 : 256 ^ (l.take j).length ≤ 256 ^ 8 := Nat.pow_le_pow_right (by omega) (by simp; omega)
  exact Nat.lt_of_lt_of_le h1 h2

def RFixedRel (l : List UInt8) (n i : Value) : Prop := ∃ (j : Nat) (y x : Int), i = .int .i64 x ∧ n = .int .u64 y ∧ x = (j : Int) - 1 ∧ y = ((vf (l.drop j) : Nat) : Int) ∧ j ≤ l.length
theorem vf_drop_lt (l : List UInt8) (hl : l.length ≤ 8) (j : Nat) : vf (l.drop j) < 18446744073709551616 := by
  have h1 := vf_lt (l.drop j)
  have h2 : 256 ^ (l.drop j).length ≤ 256 ^ 8 := Nat.pow_le_pow_right (by omega) (by simp; omega)
  exact Nat.lt_of_lt_of_le h1 h2

end BytesW
end Go.Proofs.YtbnkaeigabifhaaDoor
