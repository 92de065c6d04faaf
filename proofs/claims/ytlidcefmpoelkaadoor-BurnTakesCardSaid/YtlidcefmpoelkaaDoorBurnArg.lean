/-
  What is near, that came in, with its draw a number below 2^64; a slice of such numbers that came in ([]uint64).
-/
import Derived.Test.YtlidcefmpoelkaaDoorBurnPlain
import Derived.Test.YtlidcefmpoelkaaDoorOpenQ
namespace Go.Proofs.YtlidcefmpoelkaaDoor
open Go.ChangeShapes Go.WideShapes Go.ChangeAt Go.RowKit Go.Deep
set_option linter.unusedVariables false
set_option linter.unusedSimpArgs false
namespace BurnW
open BlkP RowG NearW
set_option maxRecDepth 100000 in
theorem open_burn {W : World} {r : Reach} {b : Nat} {v : Value} (hv : Value.okWide Tryd.prog W r b 28 v) : ∃ (n : Nr) (d : Nat), v = nv n ∧ n.dr = (d : Int) ∧ d ≤ 18446744073709551615 := by
  obtain ⟨n, hn⟩ := NearW.open_near hv
  obtain ⟨m, hm0, hm, hc⟩ := OpenP.v_agg (n := 24) (ts := [5, 5, 5, 5, 5, 5, 5, 5, 5, 5, 5, 5, 5, 5, 5, 5, 5, 5, 5, 5, 5, 5, 5, 26]) (.inl ⟨_, Tryd.underlying28⟩) (by kernel_rfl) rfl (by kernel_rfl) hv
  have he : vals n = m := by
    have h : nv n = .agg m.toArray := hn.symm.trans hm0
    unfold nv at h
    injection h with h
    simpa using congrArg Array.toList h
  obtain ⟨c, e, k⟩ := hc 23 _ rfl
  rw [← he] at e
  obtain rfl : (.int .u64 n.dr : Value) = c := Option.some.inj e
  obtain ⟨x, hx, l, u⟩ := OpenP.c_int (k := .u64) (lo := 0) (hi := 18446744073709551615) Tryd.underlying26 rfl rfl k
  obtain rfl : n.dr = x := by
    injection hx
  obtain ⟨d, hd⟩ := Int.eq_ofNat_of_zero_le l
  exact ⟨n, d, hn, hd, by omega⟩
/-- A number. -/
def encD : Enc Nat := ⟨fun c => [.int .u64 (c : Int)], 1, fun _ => rfl, fun x v h => by
  simp only [List.mem_cons, List.not_mem_nil, or_false] at h
  subst h
  rfl⟩
section
variable {H : Type} {enc : TypeId × Value → H} {W : World}
theorem u64_elem {k : Nat} {c0 : Value} {y : DataW H × List MemPlace} (h : DataW.trod enc Tryd.prog W 0 (fun _ => true) true k 26 [c0] = some y) : ∃ x : Nat, c0 = .int .u64 (x : Int) ∧ x ≤ 18446744073709551615 := by
  obtain ⟨a, ha, _, wa⟩ := DataW.trod_int (cs := [c0]) Tryd.underlying26 h
  simp at ha
  have hw : 0 ≤ a ∧ a ≤ 18446744073709551615 := by
    simp [Lit.wf] at wa
    have h1 : IntKind.u64.min = 0 := rfl
    have h2 : IntKind.u64.max = 18446744073709551615 := rfl
    omega
  obtain ⟨n, rfl⟩ := Int.eq_ofNat_of_zero_le hw.1
  exact ⟨n, ha, by omega⟩
theorem open_u64s {v : Value} {d : DataW H} {p : List MemPlace} (hone : v.cells.toList = [v]) (h : DataW.Trod enc Tryd.prog W 0 (fun _ => true) true 44 v d p) :
    ∃ (A : Option Addr) (xs : List Nat) (c : Nat), v = .slice A xs.length c ∧ (Rd encD W (.slice A xs.length c) xs ∧ ∀ x ∈ xs, x ≤ 18446744073709551615) := by
  obtain ⟨A, n, c, rfl, hnc, hcm, hnil, hel⟩ := OpenQ.slice_at (C := 1) Tryd.underlying44 (by kernel_rfl) hone h
  have hm : maxLen = 9223372036854775807 := rfl
  rcases A with _ | a
  · have := hnil rfl
    subst this
    exact ⟨none, [], c, rfl, ⟨none, c, rfl, by simp, by omega, fun h => absurd rfl h⟩, fun x h => by cases h⟩
  · have each : ∀ i, i < n → ∃ x : Nat, W.cell? (a.add (i * 1)) = some (.int .u64 (x : Int)) ∧ x ≤ 18446744073709551615 := fun i hi => by
      obtain ⟨cs, k, y, hl, hc, ht⟩ := hel a rfl i hi
      match cs, hl with
      | [c0], _ =>
        obtain ⟨x, rfl, h1⟩ := u64_elem ht
        exact ⟨x, hc 0 (by omega), h1⟩
    obtain ⟨xs, hl, hxs⟩ := OpenQ.listed n each
    subst hl
    refine ⟨some a, xs, c, rfl, ⟨some a, c, rfl, hnc, by omega, fun hne => ?_⟩, fun x hx => ?_⟩
    · have h0 : 0 < xs.length := List.length_pos_iff.2 hne
      obtain ⟨b, o, rfl, hb⟩ := OpenQ.plain (by simpa using (hxs 0 _ (List.getElem?_eq_getElem h0)).1)
      have hadd : ∀ k, (⟨b, o, none⟩ : Addr).add k = ⟨b, o + k, none⟩ := fun k => by unfold Addr.add; split <;> simp_all
      refine ⟨b, o, rfl, hb, fun i x hi j u hu => ?_⟩
      obtain ⟨g0, _⟩ := hxs i _ hi
      rw [hadd] at g0
      match j, hu with
      | 0, hu =>
        have : Value.int .u64 (x : Int) = u := by simpa [encD] using hu
        subst this
        exact g0
    · obtain ⟨i, hi⟩ := List.getElem?_of_mem hx
      exact (hxs i x hi).2
end
end BurnW
end Go.Proofs.YtlidcefmpoelkaaDoor
