/-
  The walks of package crc: a byte by two halves, by the table; a state of 32 bits as a number.
-/
import Derived.Test.YtbnkaeigabifhaaDoorCrcMem
import Derived.Test.YtbnkaeigabifhaaDoorCrcBurstP
namespace Go.Proofs.YtbnkaeigabifhaaDoor
open Go.RowKit
set_option linter.unusedVariables false
set_option linter.unusedSimpArgs false
namespace CrcW
open BytesW CrcP CrcM
/-- The table's numbers. -/
def hv (k : Nat) : Int := nat (steps 4 (BitVec.ofNat 32 k))
structure Tab (w : World) : Prop where
  cell : ∀ k, k < 16 → w.cell? ⟨1, k, none⟩ = some (.int .u32 (hv k))
  size : 1 < w.heap.size
theorem Tab.below {w w' : World} (h : Tab w) (b : Below w.heap.size w w') : Tab w' :=
  ⟨fun k hk => (b.cell (p := ⟨1, _, none⟩) h.size).trans (h.cell k hk), Nat.lt_of_lt_of_le h.size b.size⟩
theorem hv_of (s : BitVec 32) : hv (s &&& 15#32).toNat = nat (steps 4 (s &&& 15#32)) := by
  unfold hv
  rw [BitVec.ofNat_toNat, BitVec.setWidth_eq]
theorem nat15 : nat 15#32 = 15 := by decide
theorem low_lt (s : BitVec 32) : (s &&& 15#32).toNat < 16 := by
  rw [BitVec.toNat_and]
  exact Nat.lt_of_le_of_lt Nat.and_le_right (by decide)
set_option maxRecDepth 100000 in
theorem half_c {w : World} (hT : Tab w) {s : BitVec 32} {x : Int} (hx : x = nat s) :
    Calls Tryd.prog 65 #[.int .u32 x] w fun e w' => e = .returned (.int .u32 (nat (steps 4 s))) ∧ w' = w := by
  obtain ⟨k, hk⟩ : ∃ k : Nat, k = (s &&& 15#32).toNat := ⟨_, rfl⟩
  have hk16 : k < 16 := by rw [hk]; exact low_lt s
  have hc := hT.cell k hk16
  have ha : bits .and .u32 x 15 = (k : Int) := by
    rw [hx, ← nat15, and_nat, hk]
    rfl
  have hq : x / (16 : Int) = nat (s >>> 4) := by rw [hx, half4_nat]
  have h0 := nat_lt s
  rw [← hx] at h0
  obtain ⟨h0, h1⟩ := h0
  obtain ⟨y, hy⟩ : ∃ y, y = hv k := ⟨_, rfl⟩
  rw [← hy] at hc
  have HR : Hid (bits .xor .u32 (x / 16) y = nat (steps 4 s)) := Lib.hid (by
    rw [hq, hy, hk, hv_of, xor_nat, ← nib])
  obtain ⟨z, hz⟩ : ∃ z, z = nat (steps 4 s) := ⟨_, rfl⟩
  rw [← hz] at HR ⊢
  clear hq hy hz hx hk
  go_enter Tryd.func65, Tryd.ntmps65
  go_wp2_with fail
  go_ret
  exact ⟨by rw [← HR.out]; rfl, rfl⟩
theorem not_nat (s : BitVec 32) : bits .xor .u32 IntKind.u32.max (nat s) = nat (s ^^^ F) := by
  rw [show IntKind.u32.max = nat F by decide, xor_nat, BitVec.xor_comm]
theorem in_nat (s : BitVec 32) (y : UInt8) : bits .xor .u32 (nat s) (y.toNat : Int) = nat (s ^^^ y.toBitVec.setWidth 32) := by
  rw [← byte_nat, xor_nat]
set_option maxRecDepth 100000 in
set_option maxHeartbeats 1000000 in
/-- Bytes that came in. -/
theorem moreB_c {w : World} (hT : Tab w) {A : Option Addr} {L : List UInt8} {n c : Nat} (hn : L.length = n) (hc : n ≤ c ∧ c ≤ 9223372036854775807) (hA : AtC w A L) {s : BitVec 32} {x : Int} (hx : x = nat s) :
    Calls Tryd.prog 61 #[.int .u32 x, .slice A n c] w fun e w' => e = .returned (.int .u32 (nat (more s L))) ∧ w' = w := by
  subst hn
  obtain ⟨hc1, hc2⟩ := hc
  have HN := Lib.hid (not_nat s)
  have HX := Lib.hid hx
  clear hx
  go_enter Tryd.func61, Tryd.ntmps61
  go_wp2_with fail
  go_loopw [5, 6, 11] (fun v5 v6 v11 wr => ∃ (k : Nat), v11 = .int .i64 k ∧ k ≤ L.length ∧ v5 = .int .u32 (nat (run (s ^^^ F) (L.take k))) ∧ wr = w) (fun v5 v6 v11 _ => L.length - (intOf v11).toNat)
  case atStart => exact ⟨0, rfl, by omega, by rw [HX.out, HN.out]; rfl, rfl⟩
  case round =>
    obtain ⟨k, rfl, hk, rfl, rfl⟩ := hrel
    by_cases hlt : k < L.length
    · obtain ⟨y, hy⟩ : ∃ y, L[k]? = some y := ⟨_, List.getElem?_eq_getElem hlt⟩
      obtain ⟨b, o, rfl, hcs⟩ := hA.cells (by intro e; rw [e] at hlt; simp at hlt)
      have hcy := hcs k y hy
      have hy8 : y.toNat < 256 := y.toNat_lt
      simp only [bv] at hcy
      have HS := Lib.hid (run_take (s := s ^^^ F) hy)
      clear hcs hy
      obtain ⟨st, hst⟩ : ∃ st, st = run (s ^^^ F) (L.take k) := ⟨_, rfl⟩
      rw [← hst] at HS ⊢
      have HI := Lib.hid (in_nat st y)
      clear hst
      go_wp2_with fail
      go_at_call 65
      refine (half_c hT HI.out).mono ?_
      rintro e w1 ⟨rfl, rfl⟩
      go_wp2_with fail
      go_at_call 65
      refine (half_c hT rfl).mono ?_
      rintro e w1 ⟨rfl, rfl⟩
      go_wp2_with fail
      go_roundw
      case rel => exact ⟨k + 1, by go_num, by omega, by rw [HS.out, over_nibs], by first | rfl | trivial⟩
      case measure => simp [intOf]; omega
    · have : k = L.length := by omega
      subst this
      have HE := Lib.hid (not_nat (run (s ^^^ F) L))
      rw [List.take_length]
      go_wp2_with fail
      go_ret
      refine ⟨?_, rfl⟩
      rw [show nat (more s L) = bits .xor .u32 IntKind.u32.max (nat (run (s ^^^ F) L)) from HE.out.symm]
      rfl
end CrcW
end Go.Proofs.YtbnkaeigabifhaaDoor
