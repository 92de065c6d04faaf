/-
  The walks of package crc: the reference's sum, bit by bit; the calls that the laws name.
-/
import Derived.Test.YtbnkaeigabifhaaDoorCrcText
namespace Go.Proofs.YtbnkaeigabifhaaDoor
open Go.RowKit
set_option linter.unusedVariables false
set_option linter.unusedSimpArgs false
namespace CrcW
open BytesW CrcP CrcM
theorem step_odd {s : BitVec 32} (h : s.getLsbD 0 = true) : bits .xor .u32 (nat (s >>> 1)) 2197175160 = nat (CrcP.step s) := by
  rw [show (2197175160 : Int) = nat P by decide, xor_nat]
  unfold CrcP.step
  rw [h]
  rfl
set_option maxRecDepth 100000 in
set_option maxHeartbeats 1000000 in
theorem rMore_c {w : World} {A : Option Addr} {L : List UInt8} {n c : Nat} (hn : L.length = n) (hc : n ≤ c ∧ c ≤ 9223372036854775807) (hA : AtC w A L) {s : BitVec 32} {x : Int} (hx : x = nat s) :
    Calls Tryd.prog 66 #[.int .u32 x, .slice A n c] w fun e w' => e = .returned (.int .u32 (nat (more s L))) ∧ w' = w := by
  subst hn
  obtain ⟨hc1, hc2⟩ := hc
  have HN : Hid (4294967295 - x = nat (s ^^^ F)) := Lib.hid (by rw [hx]; exact flip_nat s)
  have hb := nat_lt s
  rw [← hx] at hb
  obtain ⟨hb0, hb1⟩ := hb
  clear hx
  go_enter Tryd.func66, Tryd.ntmps66
  go_wp2_with fail
  go_loopw [5, 6, 7, 8] (fun v5 v6 v7 v8 wr => ∃ (k : Nat), v6 = .int .i64 k ∧ k ≤ L.length ∧ v5 = .int .u32 (nat (run (s ^^^ F) (L.take k))) ∧ wr = w) (fun v5 v6 v7 v8 _ => L.length - (intOf v6).toNat)
  case atStart => exact ⟨0, rfl, by omega, by rw [HN.out]; rfl, rfl⟩
  case round =>
    obtain ⟨k, rfl, hk, rfl, rfl⟩ := hrel
    by_cases hlt : k < L.length
    · obtain ⟨y, hy⟩ : ∃ y, L[k]? = some y := ⟨_, List.getElem?_eq_getElem hlt⟩
      obtain ⟨b, o, rfl, hcs⟩ := hA.cells (by intro e; rw [e] at hlt; simp at hlt)
      have hcy := hcs k y hy
      have hy8 : y.toNat < 256 := y.toNat_lt
      simp only [bv] at hcy
      have HS := Lib.hid (run_take (s := s ^^^ F) hy)
      clear hcs hy
      obtain ⟨st, hst⟩ : ∃ st, st = run (s ^^^ F) (L.take k) := ⟨_, rfl⟩
      rw [← hst] at HS ⊢
      have HI := Lib.hid (in_nat st y)
      clear hst
      go_wp2_with fail
      go_loopw [5, 7, 8] (fun v5 v7 v8 wr' => ∃ (j : Nat), v7 = .int .i64 j ∧ j ≤ 8 ∧ v5 = .int .u32 (nat (steps j (st ^^^ y.toBitVec.setWidth 32))) ∧ wr' = wr) (fun v5 v7 v8 _ => 8 - (intOf v7).toNat)
      case atStart => exact ⟨0, rfl, by omega, by rw [HI.out]; rfl, by first | rfl | trivial⟩
      case round =>
        obtain ⟨j, rfl, hj, rfl, rfl⟩ := hrel
        by_cases hj8 : j < 8
        · obtain ⟨t, ht⟩ : ∃ t, t = steps j (st ^^^ y.toBitVec.setWidth 32) := ⟨_, rfl⟩
          have HT : Hid (steps (j + 1) (st ^^^ y.toBitVec.setWidth 32) = CrcP.step t) := Lib.hid (by rw [ht, steps_succ])
          rw [← ht]
          clear ht
          obtain ⟨t0, t1⟩ := nat_lt t
          have hh := half_nat t
          have ho := odd_nat t
          cases hq : t.getLsbD 0 with
          | true =>
            rw [hq] at ho
            have HO := Lib.hid (step_odd hq)
            have ho1 : nat t % (2 : Int) = 1 := by simpa using ho
            clear ho hq
            obtain ⟨z, hz⟩ : ∃ z, z = nat t := ⟨_, rfl⟩
            rw [← hz] at hh ho1 t0 t1 ⊢
            have HH := Lib.hid hh
            clear hh hz
            go_wp2_with fail
            go_roundw
            case rel => exact ⟨j + 1, by go_num, by omega, by rw [HH.out, HO.out, HT.out], by first | rfl | trivial⟩
            case measure => simp [intOf]; omega
          | false =>
            rw [hq] at ho
            have HO : Hid (nat (t >>> 1) = nat (CrcP.step t)) := Lib.hid (by rw [step_even hq])
            have ho1 : nat t % (2 : Int) = 0 := by simpa using ho
            clear ho hq
            obtain ⟨z, hz⟩ : ∃ z, z = nat t := ⟨_, rfl⟩
            rw [← hz] at hh ho1 t0 t1 ⊢
            have HH := Lib.hid hh
            clear hh hz
            go_wp2_with fail
            go_roundw
            case rel => exact ⟨j + 1, by go_num, by omega, by rw [HH.out, HO.out, HT.out], by first | rfl | trivial⟩
            case measure => simp [intOf]; omega
        · have : j = 8 := by omega
          subst this
          go_wp2_with fail
          go_roundw
          case rel => exact ⟨k + 1, by go_num, by omega, by rw [HS.out]; rfl, by first | rfl | trivial⟩
          case measure => simp [intOf]; omega
    · have : k = L.length := by omega
      subst this
      rw [List.take_length]
      have HE : Hid (4294967295 - nat (run (s ^^^ F) L) = nat (more s L)) := Lib.hid (flip_nat _)
      obtain ⟨t0, t1⟩ := nat_lt (run (s ^^^ F) L)
      obtain ⟨z, hz⟩ : ∃ z, z = nat (run (s ^^^ F) L) := ⟨_, rfl⟩
      rw [← hz] at HE t0 t1 ⊢
      clear hz
      go_wp2_with fail
      go_ret
      exact ⟨by rw [← HE.out]; rfl, rfl⟩
end CrcW
end Go.Proofs.YtbnkaeigabifhaaDoor
