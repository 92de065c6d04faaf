/-
  The walks of package crc: a text's bytes; the reference's sum, bit by bit.
-/
import Derived.Test.YtknckaegpdganaaDoorCrcSmall
namespace Go.Proofs.YtknckaegpdganaaDoor
open Go.RowKit
set_option linter.unusedVariables false
set_option linter.unusedSimpArgs false
namespace CrcW
open BytesW CrcP CrcM
set_option maxRecDepth 100000 in
set_option maxHeartbeats 1000000 in
/-- A text's bytes. -/
theorem moreS_c {w : World} (hT : Tab w) {L : List UInt8} (hl : L.length ≤ 9223372036854775807) {s : BitVec 32} {x : Int} (hx : x = nat s) :
    Calls Tryd.prog 105 #[.int .u32 x, .string ⟨L.toArray⟩] w fun e w' => e = .returned (.int .u32 (nat (more s L))) ∧ w' = w := by
  have HN := Lib.hid (not_nat s)
  have HX := Lib.hid hx
  have es : (⟨L.toArray⟩ : ByteArray).size = L.length := by simp [ByteArray.size]
  clear hx
  go_enter Tryd.func105, Tryd.ntmps105
  go_wp2_with fail
  go_loopw [5, 6, 11] (fun v5 v6 v11 wr => ∃ (k : Nat), v11 = .int .i64 k ∧ k ≤ L.length ∧ v5 = .int .u32 (nat (run (s ^^^ F) (L.take k))) ∧ wr = w) (fun v5 v6 v11 _ => L.length - (intOf v11).toNat)
  case atStart => exact ⟨0, rfl, by omega, by rw [HX.out, HN.out]; rfl, rfl⟩
  case round =>
    obtain ⟨k, rfl, hk, rfl, rfl⟩ := hrel
    by_cases hlt : k < L.length
    · obtain ⟨y, hy⟩ : ∃ y, L[k]? = some y := ⟨_, List.getElem?_eq_getElem hlt⟩
      have hy8 : y.toNat < 256 := y.toNat_lt
      have HS := Lib.hid (run_take (s := s ^^^ F) hy)
      obtain ⟨st, hst⟩ : ∃ st, st = run (s ^^^ F) (L.take k) := ⟨_, rfl⟩
      rw [← hst] at HS ⊢
      have HI : Hid (bits .xor .u32 (nat st) ((y.toNat : Int) % 4294967296) = nat (st ^^^ y.toBitVec.setWidth 32)) := Lib.hid (by rw [show ((y.toNat : Int) % 4294967296) = (y.toNat : Int) by omega]; exact in_nat st y)
      have hb : ∀ h, (⟨L.toArray⟩ : ByteArray)[k]'h = y := fun h => by
        have := List.getElem?_eq_some_iff.1 hy
        obtain ⟨h1, h2⟩ := this
        exact h2
      have HB := Lib.hid hb
      clear hst hb hy
      go_wp2_with fail
      rw [HB.out]
      go_at_call 106
      refine (half_c hT HI.out).mono ?_
      rintro e w1 ⟨rfl, rfl⟩
      go_wp2_with fail
      go_at_call 106
      refine (half_c hT rfl).mono ?_
      rintro e w1 ⟨rfl, rfl⟩
      go_wp2_with fail
      go_roundw
      case rel => exact ⟨k + 1, by go_num, by omega, by rw [HS.out, over_nibs], by first | rfl | trivial⟩
      case measure => simp [intOf]; omega
    · have : k = L.length := by omega
      subst this
      have HE := Lib.hid (not_nat (run (s ^^^ F) L))
      rw [List.take_length]
      go_wp2_with fail
      go_ret
      refine ⟨?_, rfl⟩
      rw [show nat (more s L) = bits .xor .u32 IntKind.u32.max (nat (run (s ^^^ F) L)) from HE.out.symm]
      rfl
end CrcW
end Go.Proofs.YtknckaegpdganaaDoor
