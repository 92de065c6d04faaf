/-
  Plain facts: what begins a list, and one more. How a world keeps what is no cells.
-/
import Derived.RangeFuncNested
import Derived.Deep.Draws
namespace Go.Proofs.Ytokkomglbddgcaa
open Go
namespace PrefixP
theorem snoc {α : Type} {pre xs : List α} {x : α} (h : pre <+: xs) (hl : pre.length < xs.length) (hx : xs[pre.length] = x) : pre ++ [x] <+: xs := by
  obtain ⟨r, rfl⟩ := h
  cases r with
  | nil => simp at hl
  | cons y r => simp at hx; subst hx; exact ⟨r, by simp⟩
theorem snoc_at {α : Type} {pre xs : List α} {x : α} (h : pre ++ [x] <+: xs) (hl : pre.length < xs.length) : xs[pre.length] = x := by
  obtain ⟨r, rfl⟩ := h
  simp
theorem keeps_drewN (W : World) (n : Nat) : KeepsOthers W (W.drewN n) := ⟨Nat.le_refl _, fun _ _ h _ => h⟩
theorem ownFrom_block {β : Type} {B D : Nat} {o : Obj} (h : D < B) : OwnFrom B (fun (_ : β) W => W.heap[D]? = some o) := fun _ _ _ _ hs hg hr =>
  (hg.block D (Array.getElem?_eq_some_iff.1 hs).1 (fun e => by have := (hr D e.symm).1; omega)).trans hs
end PrefixP
end Go.Proofs.Ytokkomglbddgcaa
