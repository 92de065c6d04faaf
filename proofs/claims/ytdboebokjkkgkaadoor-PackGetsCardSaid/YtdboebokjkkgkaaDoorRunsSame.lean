/-
  The walks of package runs, its first part: how many numbers at a row's beginning are the same; whether a run can follow.
-/
import Derived.Test.YtdboebokjkkgkaaDoorRunsPlain
import Derived.Test.YtdboebokjkkgkaaDoorBytesMem
namespace Go.Proofs.YtdboebokjkkgkaaDoor
open Go.RowKit
open Go.Lib (uvarint uvarint_small uvarint_big uvarint_length64 uvarint_pos zigzag)
set_option linter.unusedVariables false
set_option linter.unusedSimpArgs false
namespace RunsW
open BytesW

theorem at_cell {w : World} {A : Option Addr} {l : List UInt8} (h : AtC w A l) (hl : l ≠ []) : ∃ b o, A = some ⟨b, o, none⟩ ∧ ∀ (i : Nat), i < l.length → ∃ (x : UInt8) (X : Int), l[i]? = some x ∧ X = (x.toNat : Int) ∧ 0 ≤ X ∧ X < 256 ∧ w.cell? ⟨b, o + i, none⟩ = some (.int .u8 X) := by
  obtain ⟨b, o, hA, hc⟩ := h.cells hl
  refine ⟨b, o, hA, fun i hi => ?_⟩
  have hx := (l[i]'hi).toNat_lt
  exact ⟨l[i], _, List.getElem?_eq_getElem hi, rfl, by omega, by omega, hc i _ (List.getElem?_eq_getElem hi)⟩
theorem byte_eq {x y : UInt8} {X Y : Int} (hX : X = (x.toNat : Int)) (hY : Y = (y.toNat : Int)) : X = Y ↔ x = y := by
  subst hX hY
  exact ⟨fun e => UInt8.toNat_inj.1 (by omega), fun e => by rw [e]⟩

def SameRel (w : World) (k : Nat) (v : Value) (wr : World) : Prop := ∃ j q : Nat, v = .int .i64 j ∧ 1 ≤ j ∧ j ≤ k ∧ wr = w.drewN q
theorem same_c {w : World} {A : Option Addr} {l : List UInt8} {c k : Nat} {x : UInt8} {r : List UInt8} (hA : AtC w A l) (hl : l.length ≤ 1000000) (hx : l = x :: r) (hk : lead x l = k) :
    Calls Tryd.prog 52 #[.slice A l.length c] w fun e w' => e = .returned (.int .i64 k) ∧ Below w.heap.size w w' := by
  have hpos := lead_pos x r
  have hle := lead_le x l
  have hst := lead_stop (x := x) (l := l)
  have hin : ∀ i, i < lead x l → l[i]? = some x := fun i hi => lead_getElem hi
  rw [← hx] at hpos
  rw [hk] at hpos hle hst hin
  obtain ⟨b, o, rfl, hc⟩ := at_cell hA (by rw [hx]; simp)
  obtain ⟨x0, X, e0, hX, X0, X1, g0⟩ := hc 0 (by omega)
  have hx0 : x0 = x := by rw [hx] at e0; simpa using e0.symm
  subst hx0
  rw [Nat.add_zero] at g0
  have HC := Lib.hid hc
  have HI := Lib.hid hin
  have HS := Lib.hid hst
  have HX := Lib.hid hX
  clear hc hin hst hX hx hk e0
  go_enter Tryd.func52, Tryd.ntmps52
  go_wp2_with fail
  go_loopw [3] (SameRel w k) (fun i _ => k + 1 - (intOf i).toNat)
  case atStart => exact ⟨1, 0, rfl, by omega, by omega, rfl⟩
  case round =>
    obtain ⟨j, q, rfl, hj1, hj, rfl⟩ := hrel
    by_cases hjl : j < l.length
    · obtain ⟨y, Y, e1, hY, Y0, Y1, g1⟩ := HC.out j hjl
      have HXY := Lib.hid (byte_eq hY HX.out)
      have HE1 := Lib.hid e1
      clear e1 hY
      by_cases hxy : Y = X
      · have hjk : j < k := by
          rcases Nat.lt_or_ge j k with h | h
          · exact h
          · have : j = k := by omega
            subst this
            exact absurd (by rw [HE1.out, HXY.out.1 hxy]) HS.out
        clear HXY
        subst hxy
        go_wp2_with fail
        go_quiet (fail)
        go_wp2_with fail
        go_roundw
        case rel => exact ⟨j + 1, _, by go_num, by omega, by omega, rfl⟩
        case measure => simp [intOf]; omega
      · have hjk : j = k := by
          rcases Nat.lt_or_ge j k with h | h
          · have := HI.out j h
            rw [HE1.out] at this
            injection this with this
            exact absurd (HXY.out.2 this) hxy
          · omega
        have hn : (Y == X) = false := by simpa using hxy
        clear HXY
        subst hjk
        go_wp2_with fail
        go_quiet (fail)
        go_wp2_with fail
        go_ret
        exact ⟨rfl, BaseP.below_drewN (BaseP.below_drewN (Below.refl _ _) _) _⟩
    · have hjk : j = k := by omega
      subst hjk
      go_wp2_with fail
      go_quiet (fail)
      go_wp2_with fail
      go_ret
      exact ⟨rfl, BaseP.below_drewN (BaseP.below_drewN (Below.refl _ _) _) _⟩

theorem follows_c {w : World} {A : Option Addr} {l : List UInt8} {c m n : Nat} {x : UInt8} {M X : Int} {r : Bool} (hA : AtC w A l) (hln : l.length ≤ n) (hn : n ≤ 1000000) (hm : m < 18446744073709551616) (hM : M = m) (hX : X = x.toNat)
    (h : decide (m = 0 ∨ n - l.length < m ∨ l.getLast? = some x) = !r) :
    Calls Tryd.prog 58 #[.slice A l.length c, .int .u64 M, .int .u8 X, .int .i64 n] w fun e w' => e = .returned (.bool r) ∧ Below w.heap.size w w' := by
  have M0 : 0 ≤ M := by omega
  have M1 : M < 18446744073709551616 := by omega
  by_cases h0 : M = 0
  · obtain rfl : r = false := by
      have : m = 0 := by omega
      subst this
      simpa using h
    clear h hm hM
    subst h0
    go_enter Tryd.func58, Tryd.ntmps58
    go_wp2_with fail
    go_ret
    exact ⟨rfl, Below.refl _ _⟩
  · have hne : (M == 0) = false := by simpa using h0
    by_cases h1 : (n : Int) - l.length < M
    · obtain rfl : r = false := by
        have : n - l.length < m := by omega
        simpa [this] using h
      clear h hm hM
      go_enter Tryd.func58, Tryd.ntmps58
      go_wp2_with fail
      go_ret
      exact ⟨rfl, Below.refl _ _⟩
    · by_cases hl0 : l.length = 0
      · have hl : l = [] := List.eq_nil_of_length_eq_zero hl0
        subst hl
        obtain rfl : r = true := by
          have e1 : m ≠ 0 := by omega
          have e2 : ¬ n < m := by simp at h1; omega
          simpa [e1, e2] using h
        clear h hm hM
        go_enter Tryd.func58, Tryd.ntmps58
        go_wp2_with fail
        go_ret
        exact ⟨rfl, Below.refl _ _⟩
      · obtain ⟨b, o, rfl, hc⟩ := at_cell hA (fun e => hl0 (by rw [e]; rfl))
        obtain ⟨y, Y, e1, hY, Y0, Y1, g1⟩ := hc (l.length - 1) (by omega)
        have hlast : l.getLast? = some y := by rw [List.getLast?_eq_getElem?]; exact e1
        have hne0 : ((l.length : Int) == 0) = false := by simp; exact fun e => hl0 (by rw [e]; rfl)
        by_cases hxy : Y = X
        · obtain rfl : r = false := by
            have : y = x := (byte_eq hY hX).1 hxy
            rw [hlast, this] at h
            simpa using h
          have hnn : (Y != X) = false := by simp [hxy]
          clear h hm hM hX hY hlast e1 hc
          go_enter Tryd.func58, Tryd.ntmps58
          go_wp2_with fail
          go_ret
          exact ⟨rfl, Below.refl _ _⟩
        · obtain rfl : r = true := by
            have e0 : m ≠ 0 := by omega
            have e2 : ¬ n - l.length < m := by omega
            have e3 : y ≠ x := fun e => hxy ((byte_eq hY hX).2 e)
            rw [hlast] at h
            simpa [e0, e2, e3] using h
          have hnn : (Y != X) = true := by simpa using hxy
          clear h hm hM hX hY hlast e1 hc
          go_enter Tryd.func58, Tryd.ntmps58
          go_wp2_with fail
          go_ret
          exact ⟨rfl, Below.refl _ _⟩
end RunsW
end Go.Proofs.YtdboebokjkkgkaaDoor
