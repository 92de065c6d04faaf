/-
  append of one element, as one run, whatever its cells (general).
-/
import Derived.Test.YtbnkaeigabifhaaDoorRowG
namespace Go.Proofs.YtbnkaeigabifhaaDoor
open Go.RowKit
set_option linter.unusedVariables false
set_option linter.unusedSimpArgs false
namespace PushG
open BlkP RowG
/-- append(v, y): y lies in a block of its own. -/
theorem run_pushG {α : Type} (e : Enc α) {T E : TypeId} {z : Value} {bytes : Nat} (hT : Tryd.prog.underlying T = some (.slice E)) (hI : (Tryd.prog.info? E).map (fun i => (i.zero, i.size, i.bytes)) = some (some z, e.k, bytes)) (hz : z.cells.size = e.k) (hk : 0 < e.k) (hby : bytes ≤ 100)
    {w0 : World} {B : Nat} {v : Value} {l : List α} {y : α} {c : Array Value} (hc : c.toList = e.f y) (hown : RowG.Own e E w0 B v l) (hl : l.length ≤ 1000000) (hB : B ≤ w0.heap.size) (ty : TypeId) :
    ∃ g cp w', (Builtin.append_ #[T, T] ty #[v, .slice (some ⟨w0.heap.size, 0, none⟩) 1 1]).run Tryd.prog (w0.alloc (.cells c E)) = .ok (.slice (some ⟨g, 0, none⟩) (l.length + 1) cp) w' ∧
      RowG.Own e E w' B (.slice (some ⟨g, 0, none⟩) (l.length + 1) cp) (l ++ [y]) ∧ w0.grownBy w' v.ownBlock ∧ ((Value.slice (some ⟨g, 0, none⟩) (l.length + 1) cp).ownBlock = v.ownBlock ∨ ∃ g', (Value.slice (some ⟨g, 0, none⟩) (l.length + 1) cp).ownBlock = some g' ∧ w0.heap.size ≤ g') := by
  obtain ⟨i, hi, hz0, hs1, hb0⟩ := info_parts hI
  have hm : maxLen = 9223372036854775807 := rfl
  have hown2 : (w0.alloc (.cells c E)).ownsRow B E e.k v l.length (flat e l) := hown.alloc _
  obtain ⟨v', w', hr, h2, h3, _, h5⟩ := run_append_own_at (P := Tryd.prog) (w0.alloc (.cells c E)) B T ty E i z e.k bytes hT hi hz0 hs1 hb0 hz hk v l.length (flat e l) hown2 ⟨w0.heap.size, 0, none⟩ 1 1 (e.f y) (by rw [e.len, Nat.one_mul]) (fun j u hu => by
    have hadd : (⟨w0.heap.size, 0, none⟩ : Addr).add j = ⟨w0.heap.size, j, none⟩ := by unfold Addr.add; split <;> simp_all
    rw [hadd, cell_of_row _ _ _ _ _ _ (heap_alloc_new w0 _), ← Array.getElem?_toList, hc]
    exact hu) (e.one y) (by omega) (by
      have : (l.length + 1) * bytes ≤ 1000001 * 100 := Nat.mul_le_mul (by omega) hby
      omega) (by simp; omega)
  have ho : RowG.Own e E w' B v' (l ++ [y]) := by
    unfold RowG.Own
    rw [flat_app, List.length_append]
    have : flat e [y] = e.f y := by simp [flat]
    rw [this]
    exact h2
  obtain ⟨A, cp, rfl, hc1, hc2, hA⟩ := ho.form (n := l.length + 1) (by simp)
  obtain ⟨g, rfl, hg1, hg2⟩ := hA (by omega)
  refine ⟨g, cp, w', hr, ho, World.grownBy.trans (World.grownBy_alloc w0 _ _) h3, ?_⟩
  rcases h5 with q | q
  · exact .inl q
  · exact .inr ⟨_, q, by simp⟩
/-- What an append leaves. -/
def Pushed {α : Type} (e : Enc α) (E : TypeId) (w0 : World) (B : Nat) (v : Value) (l : List α) (y : α) (n : Nat) (g c : Nat) (w' : World) : Prop :=
  RowG.Own e E w' B (.slice (some ⟨g, 0, none⟩) n c) (l ++ [y]) ∧ w0.grownBy w' v.ownBlock ∧ (v.ownBlock = some g ∨ w0.heap.size ≤ g)
end PushG
end Go.Proofs.YtbnkaeigabifhaaDoor
