/-
  Two rows of bytes of the call's own that grow in turns.
-/
import Derived.Test.YtdboebokjkkgkaaDoorPackRPlace
import Derived.Test.YtdboebokjkkgkaaDoorPackRMay
namespace Go.Proofs.YtdboebokjkkgkaaDoor
open Go.RowKit
set_option linter.unusedVariables false
set_option linter.unusedSimpArgs false
namespace PackW
open BytesW RunsW

/-- Their blocks are not one. -/
def DJ (v u : Value) : Prop := ∀ g, v.ownBlock = some g → u.ownBlock ≠ some g
theorem DJ.symm {v u : Value} (h : DJ v u) : DJ u v := fun g hu hv => h g hv hu
theorem DJ.nil {u : Value} : DJ (.slice none 0 0) u := fun g h => by simp [Value.ownBlock] at h
theorem own_lt {w : World} {B g : Nat} {u : Value} {l : List UInt8} (h : BytesW.Own w B u l) (hg : u.ownBlock = some g) : g < w.heap.size := by
  rcases h.2 with ⟨rfl, _⟩ | ⟨g', cap, cur, rfl, _, hgb, _⟩
  · simp [Value.ownBlock] at hg
  · obtain rfl : g' = g := by simpa [Value.ownBlock] using hg
    exact lt_of_heap hgb
theorem own_kept {w w' : World} {B : Nat} {u v : Value} {l : List UInt8} (h : BytesW.Own w B u l) (hg : w.grownBy w' v.ownBlock) (hd : DJ v u) : BytesW.Own w' B u l := by
  refine World.ownsRow.kept h hg ?_
  cases hu : u.ownBlock with
  | none => exact .inl rfl
  | some g => exact .inr fun e => hd g e.symm hu
theorem run_app2 {w : World} {B : Nat} {v : Value} {l l2 : List UInt8} (hown : BytesW.Own w B v l) {A : Option Addr} {c : Nat} (hAt : At w A l2) (hne : l2 ≠ []) (hl : l.length + l2.length ≤ 4000000) (hB : B ≤ w.heap.size) (ty : TypeId) :
    ∃ v' w', (Builtin.append_ #[26, 26] ty #[v, .slice A l2.length c]).run Tryd.prog w = .ok v' w' ∧ BytesW.Own w' B v' (l ++ l2) ∧ w.grownBy w' v.ownBlock ∧ (v'.ownBlock = v.ownBlock ∨ v'.ownBlock = some w.heap.size) := by
  obtain ⟨i, hi, hz, hs1, hby⟩ := info_parts info5
  have hm : maxLen = 9223372036854775807 := rfl
  obtain ⟨b, o, rfl, hc⟩ := hAt.cells hne
  have hnews : ∀ j u, (l2.map bv)[j]? = some u → w.cell? ((⟨b, o, none⟩ : Addr).add j) = some u := fun j u hu => by
    rw [List.getElem?_map] at hu
    obtain ⟨y, hy, rfl⟩ := Option.map_eq_some_iff.1 hu
    rw [addr_add]
    exact hc j y hy
  obtain ⟨v', w', hr, h2, h3, _, h5⟩ := run_append_own_at (P := Tryd.prog) w B 26 ty 5 i _ 1 1 under26 hi hz hs1 hby rfl (by omega) v l.length (l.map bv) hown ⟨b, o, none⟩ l2.length c (l2.map bv) (by simp) hnews
    (fun u hu => by obtain ⟨y, _, rfl⟩ := List.mem_map.1 hu; rfl) (by omega) (by omega) hB
  refine ⟨v', w', hr, ?_, h3, h5⟩
  unfold BytesW.Own
  rw [List.length_append, List.map_append]
  exact h2
section
variable {w : World} {ops : Array Oper} {rest : List Oper} {o : Oper} {a : Act} {Q : Exit → Act → World → Prop}
/-- append(v, b..), beside another row u. -/
theorem wp_app2 (hgd : o.guard = none) (s x : Operand) (ho : o.op = .call { callee := .builtin .append, args := #[s, x], argTypes := #[26, 26] })
    {B : Nat} {v u : Value} {l l2 lu : List UInt8} (hs : a.eval s = v) (hown : BytesW.Own w B v l) (hu : BytesW.Own w B u lu) (hd : DJ v u) {A : Option Addr} {c : Nat} (hx : a.eval x = .slice A l2.length c) (hAt : At w A l2) (hne : l2 ≠ []) (hl : l.length + l2.length ≤ 4000000) (hB : B ≤ w.heap.size)
    (h : ∀ v' w', BytesW.Own w' B v' (l ++ l2) → BytesW.Own w' B u lu → DJ v' u → Below B w w' → wpList Tryd.prog ops Q rest (a.put o.dst v') w') : wpList Tryd.prog ops Q (o :: rest) a w := by
  refine wpList_plain hgd fun K hK => ?_
  obtain ⟨v', w', hr, h2, h3, h5⟩ := run_app2 hown (c := c) hAt hne hl hB o.type
  unfold Oper.wp execOp
  simp only [ho, resolve, invoke, builtin, Sem.run_bind, Sem.run_pure, Result.andThen_ok, List.map_toArray, List.map_cons, List.map_nil, hs, hx, hr]
  refine hK _ _ (h v' w' h2 (own_kept hu h3 hd) ?_ (below_of_grown hown h3 hB))
  intro g hg hug
  rcases h5 with e | e
  · exact hd g (e ▸ hg) hug
  · rw [e] at hg
    have := own_lt hu hug
    injection hg with hg
    omega
theorem step_app2 {K : Act → World → Prop} {E : Prop} (hgd : o.guard = none) (s x : Operand) (ho : o.op = .call { callee := .builtin .append, args := #[s, x], argTypes := #[26, 26] })
    {B : Nat} {v u : Value} {l l2 lu : List UInt8} (hs : a.eval s = v) (hown : BytesW.Own w B v l) (hu : BytesW.Own w B u lu) (hd : DJ v u) {A : Option Addr} {c : Nat} (hx : a.eval x = .slice A l2.length c) (hAt : At w A l2) (hne : l2 ≠ []) (hl : l.length + l2.length ≤ 4000000) (hB : B ≤ w.heap.size)
    (h : ∀ v' w', BytesW.Own w' B v' (l ++ l2) → BytesW.Own w' B u lu → DJ v' u → Below B w w' → K (a.put o.dst v') w') : if Region.wanted o (yielded ops a.tmps) = true then Oper.wp Tryd.prog o a w K Q else E := by
  have hw : Region.wanted o (yielded ops a.tmps) = true := by simp [Region.wanted, hgd]
  rw [if_pos hw]
  obtain ⟨v', w', hr, h2, h3, h5⟩ := run_app2 hown (c := c) hAt hne hl hB o.type
  unfold Oper.wp execOp
  simp only [ho, resolve, invoke, builtin, Sem.run_bind, Sem.run_pure, Result.andThen_ok, List.map_toArray, List.map_cons, List.map_nil, hs, hx, hr]
  refine h v' w' h2 (own_kept hu h3 hd) ?_ (below_of_grown hown h3 hB)
  intro g hg hug
  rcases h5 with e | e
  · exact hd g (e ▸ hg) hug
  · rw [e] at hg
    have := own_lt hu hug
    injection hg with hg
    omega
end
end PackW
end Go.Proofs.YtdboebokjkkgkaaDoor
