/-
  What the laws beside the reference need: rows cut short, both maps kept.
-/
import Derived.Test.YtbnkaeigabifhaaDoorFreeLaw
import Derived.Test.YtbnkaeigabifhaaDoorFreeRef4
-- mine: whole_c same_c awake_c take_c step_c back_c Made number_c next_c fixed_c clone_c int_c end_c put_c
namespace Go.Proofs.YtbnkaeigabifhaaDoor
open Go.RowKit
set_option linter.unusedVariables false
set_option linter.unusedSimpArgs false
set_option maxRecDepth 100000
namespace FreW
open BlkP RowG FrS PushG FreP
theorem rd_takeG {α : Type} {e : Enc α} {w : World} {A : Option Addr} {L c : Nat} {l : List α} (h : Rd e w (.slice A L c) l) (n : Nat) (hn : n ≤ l.length) : Rd e w (.slice A n c) (l.take n) := by
  obtain ⟨A', c', he, h1, h2, h3⟩ := h
  injection he with e1 e2 e3
  subst e1 e3
  have hl : (l.take n).length = n := by rw [List.length_take]; omega
  refine ⟨A, c, by rw [hl], by omega, h2, fun hne => ?_⟩
  obtain ⟨b, o, hA, hb, hc⟩ := h3 (fun q => hne (by rw [q]; simp))
  refine ⟨b, o, hA, hb, fun i x hx => hc i x ?_⟩
  rw [List.getElem?_take] at hx
  split at hx
  · exact hx
  · cases hx
theorem rd_cap {α : Type} {e : Enc α} {w : World} {A : Option Addr} {L c : Nat} {l : List α} (h : Rd e w (.slice A L c) l) : l.length = L ∧ L ≤ c ∧ c ≤ 9223372036854775807 := by
  obtain ⟨A', c', he, h1, h2, _⟩ := h
  injection he with e1 e2 e3
  omega
section
variable {w : World} {ops : Array Oper} {rest : List Oper} {o : Oper} {a : Act} {Q : Exit → Act → World → Prop}
/-- row[:n]. -/
theorem wp_uptoT {T E : TypeId} {z : Value} {size bytes : Nat} (hT : Tryd.prog.underlying T = some (.slice E)) (hI : (Tryd.prog.info? E).map (fun i => (i.zero, i.size, i.bytes)) = some (some z, size, bytes)) (hgd : o.guard = none) (x y : Operand) (ho : o.op = .slice T x none (some y) none) {A : Option Addr} {L c n : Nat} (hx : a.eval x = .slice A L c) (hy : a.eval y = .int .i64 (n : Int)) (hc : n ≤ c)
    (h : wpList Tryd.prog ops Q rest (a.put o.dst (.slice A n c)) w) : wpList Tryd.prog ops Q (o :: rest) a w := by
  refine wpList_plain hgd fun K hK => ?_
  have e : (if c = 0 then A else A.map (·.add 0)) = A := by
    split
    · rfl
    · cases A <;> simp [Addr.add]
  unfold Oper.wp
  have h3 : (n : Int) ≤ c := by omega
  obtain ⟨i, hi, _, hs, _⟩ := info_parts hI
  have hr : (Instr.sliceAt T (.slice A L c) none (some (.int .i64 (n : Int))) none).run Tryd.prog w = .ok (.slice A n c) w := by
    simp [Instr.sliceAt, Instr.slice, run_underlying hT, Instr.sliceBounds, run_sliceBound, h3, hc, e, Result.andThen, sizeOf, typeInfo, hi, hs]
  simp [execOp, ho, hx, hy, hr, Result.andThen]
  exact hK _ _ h
end
theorem Ints.weak {w : World} {S T : Nat → Prop} {A : Option Addr} {n c : Nat} {l : List Int} (h : Ints w S A n c l) (hT : ∀ k, T k → S k) : Ints w T A n c l := ⟨h.len, h.cap, h.max, fun q => by
  obtain ⟨b, o, h1, h2, h3, h4⟩ := h.at_ q
  exact ⟨b, o, h1, h2, fun t => h3 (hT b t), h4⟩⟩
theorem full_eq (n : Nat) : fullL n = full n := rfl
theorem of_cases {w : World} {n : Nat} {l : List (List UInt8)} : ∀ e w', OfP w n l e w' → (∃ L p, ofM n l = some L ∧ e = .returned (.tuple #[.pointer (some ⟨p, 0, none⟩), .int .i64 0]) ∧ ∃ S, Mp w' w.heap.size p n L S ∧ Below w.heap.size w w') ∨ (ofM n l = none ∧ e = .returned (.tuple #[.pointer none, .int .i64 4]) ∧ Below w.heap.size w w') := fun _ _ h => h
theorem of_some2 {w : World} {n : Nat} {l : List (List UInt8)} {L : List Bool} (h : ofM n l = some L) : ∀ e w', OfP w n l e w' → ∃ p, e = .returned (.tuple #[.pointer (some ⟨p, 0, none⟩), .int .i64 0]) ∧ ∃ S, Mp w' w.heap.size p n L S ∧ Below w.heap.size w w' := fun e w' q => by
  rcases q with ⟨L', p, h1, h2, S, h3, h4⟩ | ⟨h1, _⟩
  · rw [h] at h1
    injection h1 with h1
    subst h1
    exact ⟨p, h2, S, h3, h4⟩
  · rw [h] at h1
    cases h1
theorem of_none2 {w : World} {n : Nat} {l : List (List UInt8)} (h : ofM n l = none) : ∀ e w', OfP w n l e w' → e = .returned (.tuple #[.pointer none, .int .i64 4]) ∧ Below w.heap.size w w' := fun e w' q => by
  rcases q with ⟨L', p, h1, _⟩ | ⟨_, h2, h3⟩
  · rw [h] at h1
    cases h1
  · exact ⟨h2, h3⟩
theorem rof_some {w : World} {n : Nat} {l : List (List UInt8)} {L : List Bool} (h : ofM n l = some L) : ∀ e w', ROfP w n l e w' → ∃ p, e = .returned (.tuple #[.pointer (some ⟨p, 0, none⟩), .int .i64 0]) ∧ ∃ S, Rm w' w.heap.size p n L S ∧ Below w.heap.size w w' := fun e w' q => by
  rcases q with ⟨L', p, h1, h2, S, h3, h4⟩ | ⟨h1, _⟩
  · rw [h] at h1
    injection h1 with h1
    subst h1
    exact ⟨p, h2, S, h3, h4⟩
  · rw [h] at h1
    cases h1
theorem rof_none {w : World} {n : Nat} {l : List (List UInt8)} (h : ofM n l = none) : ∀ e w', ROfP w n l e w' → e = .returned (.tuple #[.pointer none, .int .i64 4]) ∧ Below w.heap.size w w' := fun e w' q => by
  rcases q with ⟨L', p, h1, _⟩ | ⟨_, h2, h3⟩
  · rw [h] at h1
    cases h1
  · exact ⟨h2, h3⟩
theorem texts_len {w : World} {v : Value} {l : List (List UInt8)} (h : Rd encS w v l) (hb : ∀ s ∈ l, s.length ≤ 9223372036854775807) (n : Nat) : ∀ s ∈ l.take n, s.length ≤ 9223372036854775807 := fun s hs => hb s (List.mem_of_mem_take hs)
end FreW
end Go.Proofs.YtbnkaeigabifhaaDoor
