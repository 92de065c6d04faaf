/-
  What stays where the blocks of a set are turned (general).
-/
import Derived.Test.YtbnkaeigabifhaaDoorRowG
import Derived.Test.YtbnkaeigabifhaaDoorHeldP
namespace Go.Proofs.YtbnkaeigabifhaaDoor
open Go.RowKit
set_option linter.unusedVariables false
set_option linter.unusedSimpArgs false
namespace FrS
open BlkP RowG
/-! ### What stays where the blocks of S are turned -/
structure Fr (S : Nat → Prop) (w w' : World) : Prop where
  os : w'.os = w.os
  tape : w'.tape = w.tape
  output : w'.output = w.output
  size : w.heap.size ≤ w'.heap.size
  block : ∀ k, k < w.heap.size → ¬ S k → w'.heap[k]? = w.heap[k]?
section
variable {S S' : Nat → Prop} {w w' w'' : World} {b : Nat} {T : TypeId} {vs : List Value}
theorem Fr.refl (S : Nat → Prop) (w : World) : Fr S w w := ⟨rfl, rfl, rfl, Nat.le_refl _, fun _ _ _ => rfl⟩
theorem Fr.trans (h : Fr S w w') (k : Fr S' w' w'') (hS : ∀ i, S' i → S i ∨ w.heap.size ≤ i) : Fr S w w'' :=
  ⟨k.os.trans h.os, k.tape.trans h.tape, k.output.trans h.output, Nat.le_trans h.size k.size, fun i hi hn => (k.block i (Nat.lt_of_lt_of_le hi h.size) (fun q => by
    rcases hS i q with q | q
    · exact hn q
    · omega)).trans (h.block i hi hn)⟩
theorem Fr.mono (h : Fr S w w') (hS : ∀ i, S i → S' i) : Fr S' w w' := ⟨h.os, h.tape, h.output, h.size, fun i hi hn => h.block i hi (fun q => hn (hS i q))⟩
theorem Fr.below (S : Nat → Prop) (h : Below w.heap.size w w') : Fr S w w' := ⟨h.os, h.tape, h.output, h.size, fun i hi _ => h.block i hi⟩
theorem Fr.grown {r : Option Nat} (h : w.grownBy w' r) (hr : ∀ i, r = some i → S i) : Fr S w w' := ⟨h.os, h.tape, h.output, h.size, fun i hi hn => h.block i hi (fun e => hn (hr i e.symm))⟩
theorem Fr.set (S : Nat → Prop) (w : World) (a : Addr) (v : Value) (h : S a.block) : Fr S w (w.setCell a v) := ⟨rfl, rfl, rfl, by simp, fun i _ hn => heap_setCell_other w a i v (fun e => hn (by rw [e]; exact h))⟩
theorem Fr.alloc (S : Nat → Prop) (w : World) (o : Obj) : Fr S w (w.alloc o) := Fr.below S ((Below.refl _ w).alloc (Nat.le_refl _) o)
theorem Fr.drew (h : Fr S w w') : Fr S w w'.drew := ⟨h.os, h.tape, h.output, h.size, h.block⟩
theorem Fr.drewN (h : Fr S w w') (n : Nat) : Fr S w (w'.drewN n) := ⟨h.os, h.tape, h.output, h.size, h.block⟩
theorem Fr.blk (h : Fr S w w') (hb : Blk w b T vs) (hn : ¬ S b) : Blk w' b T vs := (h.block b hb.lt hn).trans hb
theorem Fr.cell (h : Fr S w w') {p : Addr} (hl : p.block < w.heap.size) (hn : ¬ S p.block) : w'.cell? p = w.cell? p := by
  unfold World.cell?
  rw [h.block _ hl hn]
theorem Fr.toBelow (h : Fr S w w') {B : Nat} (hB : B ≤ w.heap.size) (hS : ∀ i, S i → B ≤ i) : Below B w w' := ⟨h.os, h.tape, h.output, h.size, fun k hk => h.block k (by omega) (fun q => by have := hS k q; omega)⟩
variable {α : Type} {e : Enc α} {E : TypeId} {B : Nat} {v : Value} {l : List α}
theorem Fr.own (h : Fr S w w') (ho : RowG.Own e E w B v l) (hn : ∀ g, v.ownBlock = some g → ¬ S g) : RowG.Own e E w' B v l := by
  have hge := ho.ge
  unfold RowG.Own at ho ⊢
  refine ⟨ho.1, ?_⟩
  rcases ho.2 with h1 | ⟨g, cap, cur, h2, h3, h4, h5⟩
  · exact .inl h1
  · subst h2
    exact .inr ⟨g, cap, cur, rfl, h3, (h.block g (hge g rfl).2 (hn g rfl)).trans h4, h5⟩
end
/-- The block of a row. -/
theorem own_cells {α : Type} {e : Enc α} {E : TypeId} {w : World} {B : Nat} {v : Value} {l : List α} {g : Nat} (h : RowG.Own e E w B v l) (hg : v.ownBlock = some g) : ∃ us, Blk w g E us := by
  unfold RowG.Own at h
  rcases h.2 with ⟨rfl, _⟩ | ⟨g', cap, cur, rfl, _, hgg, _⟩
  · cases hg
  · have : g' = g := by simpa [Value.ownBlock] using hg
    subst this
    exact ⟨cur.toList, hgg⟩
end FrS
end Go.Proofs.YtbnkaeigabifhaaDoor
