/-
  What is near, that came in, with its draw a number below 2^64; a slice of such numbers that came in ([]uint64).
-/
import Derived.Test.YtlahkmkipciiiaaDoorBurnPlain
import Derived.Test.YtlahkmkipciiiaaDoorOpenQ
namespace Go.Proofs.YtlahkmkipciiiaaDoor
open Go.ChangeShapes Go.WideShapes Go.ChangeAt Go.RowKit Go.Deep
set_option linter.unusedVariables false
set_option linter.unusedSimpArgs false
namespace BurnW
open BlkP RowG NearW
set_option maxRecDepth 100000 in
theorem open_burn {W : World} {r : Reach} {b : Nat} {v : Value} (hv : Value.okWide Tryd.prog W r b 28 v) : ∃ (n : Nr) (d : Nat), v = nv n ∧ n.dr = (d : Int) ∧ d ≤ 18446744073709551615 := by
  obtain ⟨n, hn⟩ := NearW.open_near hv
  obtain ⟨m, hm0, hm, hc⟩ := OpenP.v_agg (n := 24) (ts := [5, 5, 5, 5, 5, 5, 5, 5, 5, 5, 5, 5, 5, 5, 5, 5, 5, 5, 5, 5, 5, 5, 5, 26]) (.inl ⟨_, Tryd.underlying28⟩) (by kernel_rfl) rfl (by kernel_rfl) hv
  have he : vals n = m := by
    have h : nv n = .agg m.toArray := hn.symm.trans hm0
    unfold nv at h
    injection h with h
    simpa using congrArg Array.toList h
  obtain ⟨c, e, k⟩ := hc 23 _ rfl
  rw [← he] at e
  obtain rfl : (.int .u64 n.dr : Value) = c := Option.some.inj e
  obtain ⟨x, hx, l, u⟩ := OpenP.c_int (k := .u64) (lo := 0) (hi := 18446744073709551615) Tryd.underlying26 rfl rfl k
  obtain rfl : n.dr = x := by
    injection hx
  obtain ⟨d, hd⟩ := Int.eq_ofNat_of_zero_le l
  exact ⟨n, d, hn, hd, by omega⟩
/-- A number. -/
def encD : Enc Nat := ⟨fun c => [.int .u64 (c : Int)], 1, fun _ => rfl, fun x v h => by
  simp only [List.mem_cons, List.not_mem_nil, or_false] at h
  subst h
  rfl⟩
section
variable {H : Type} {enc : TypeId × Value → H} {W : World}
theorem u64_elem {k : Nat} {c0 : Value} {y : DataW H × List MemPlace} (h : DataW.trod enc Tryd.prog W 0 (fun _ => true) true k 26 [c0] = some y) : ∃ x : Nat, c0 = .int .u64 (x : Int) ∧ x ≤ 18446744073709551615 := by
  obtain ⟨a, ha, _, wa⟩ := DataW.trod_int (cs := [c0]) Tryd.underlying26 h
  simp at ha
  have hw : 0 ≤ a ∧ a ≤ 18446744073709551615 := by
    simp [Lit.wf] at wa
    have h1 : IntKind.u64.min = 0 := rfl
    have h2 : IntKind.u64.max = 18446744073709551615 := rfl
    omega
  obtain ⟨n, rfl⟩ := Int.eq_ofNat_of_zero_le hw.1
  exact ⟨n, ha, by omega⟩
end
end BurnW
end Go.Proofs.YtlahkmkipciiiaaDoor
