/-
  Bytes in memory: slices that hold a list of bytes, rows of the call's own, readers; the operations on them, as laws for the walk.
-/
import Derived.Test.YtjjnmkbjohiekaaDoorRows
import Derived.WalkKit
import Derived.WalkSpells
import Derived.WalkLawsBesides
import Derived.Deep.QuietTactic
import Derived.BigQuiet
import Derived.Outline
import Derived.OwnWalk
import Derived.Below
import Derived.Lib.Hide
import Derived.Maps.AppendAt
import Derived.Deep.AppendLies
import Derived.Deep.Draws
import Derived.Lib.AppendStr
import Derived.Laws.IdiomStrings
import Derived.Laws.BytesArg
import Derived.Laws.Concat
import Derived.Test.YtjjnmkbjohiekaaDoorHeldP
import Derived.Test.YtjjnmkbjohiekaaDoorBytesPlain
namespace Go.Proofs.YtjjnmkbjohiekaaDoor
open Go.RowKit
set_option linter.unusedVariables false
set_option linter.unusedSimpArgs false
namespace BytesW

/-- A byte's cell. -/
def bv (x : UInt8) : Value := .int .u8 (x.toNat : Int)
/-- The slice's place A, with the list's length, holds these bytes. -/
def At (w : World) (A : Option Addr) (l : List UInt8) : Prop :=
  l ≠ [] → ∃ b o cs fr, A = some ⟨b, o, none⟩ ∧ w.heap[b]? = some (.cells cs 5 fr) ∧ ∀ (i : Nat) (x : UInt8), l[i]? = some x → cs[o + i]? = some (bv x)
/-- The same of a slice that came in: its cells alone (what type its block has is not known). -/
def AtC (w : World) (A : Option Addr) (l : List UInt8) : Prop :=
  l ≠ [] → ∃ b o, A = some ⟨b, o, none⟩ ∧ b < w.heap.size ∧ ∀ (i : Nat) (x : UInt8), l[i]? = some x → w.cell? ⟨b, o + i, none⟩ = some (bv x)
/-- v is a row of the call's own, from block B on, of just these bytes. -/
def Own (w : World) (B : Nat) (v : Value) (l : List UInt8) : Prop := w.ownsRow B 5 1 v l.length (l.map bv)
/-- A reader of the program: at block p, what is left, its place and its capacity, whether it is broken. -/
def stv (b : Bool) : Int := if b then 2 else 1
/-- A slice of these bytes, wherever. -/
def Sl (w : World) (v : Value) (l : List UInt8) : Prop := ∃ A c, v = .slice A l.length c ∧ At w A l ∧ l.length ≤ c ∧ c ≤ maxLen

/-- Succeeds, and does nothing, where the operation at hand writes slot t. -/
theorem at_slot (t : Tmp) {P : Program} {w : World} {ops : Array Oper} {rest : List Oper} {a : Act} {Q : Exit → Act → World → Prop} {op : Op} {ty : TypeId} {pos : String} {af : _} {g : _} (h : wpList P ops Q ((⟨some t, op, ty, pos, af, g⟩ : Oper) :: rest) a w) : wpList P ops Q ((⟨some t, op, ty, pos, af, g⟩ : Oper) :: rest) a w := h
theorem lt_of_heap {w : World} {b : Nat} {o : Obj} (h : w.heap[b]? = some o) : b < w.heap.size := by
  rcases Nat.lt_or_ge b w.heap.size with hlt | hge
  · exact hlt
  · rw [Array.getElem?_eq_none hge] at h
    cases h
theorem At.nil {w : World} {A : Option Addr} : At w A [] := fun h => absurd rfl h
theorem At.keep {w w' : World} {A : Option Addr} {l : List UInt8} (h : At w A l) (hk : ∀ (b : Nat) (cs : Array Value) (fr : Nat × Nat), w.heap[b]? = some (Obj.cells cs 5 fr) → w'.heap[b]? = w.heap[b]?) : At w' A l := fun hl => by
  obtain ⟨b, o, cs, fr, hA, hb, hc⟩ := h hl
  exact ⟨b, o, cs, fr, hA, (hk b cs fr hb).trans hb, hc⟩
theorem At.below {w w' : World} {A : Option Addr} {l : List UInt8} (h : At w A l) (hb : Below w.heap.size w w') : At w' A l := h.keep fun b cs fr hh => hb.block b (lt_of_heap hh)
/-- Another block, of another type, is written. -/
theorem At.grown {w w' : World} {A : Option Addr} {l : List UInt8} (h : At w A l) {p : Nat} {cs' : Array Value} {t : TypeId} {fr' : Nat × Nat} (hp : w.heap[p]? = some (.cells cs' t fr')) (ht : t ≠ 5) (hg : w.grownBy w' (some p)) : At w' A l := h.keep fun b cs fr hh => hg.block b (lt_of_heap hh) (fun e => by
  injection e with e
  subst e
  rw [hp] at hh
  injection hh with hh
  injection hh with _ h2
  exact ht h2)
theorem At.cells {w : World} {A : Option Addr} {l : List UInt8} (h : At w A l) (hl : l ≠ []) : ∃ b o, A = some ⟨b, o, none⟩ ∧ ∀ (i : Nat) (x : UInt8), l[i]? = some x → w.cell? ⟨b, o + i, none⟩ = some (bv x) := by
  obtain ⟨b, o, cs, fr, hA, hb, hc⟩ := h hl
  exact ⟨b, o, hA, fun i x hx => (cell_of_row w b (o + i) cs _ fr hb).trans (hc i x hx)⟩
theorem At.take {w : World} {A : Option Addr} {l : List UInt8} (h : At w A l) (k : Nat) : At w A (l.take k) := fun hl => by
  obtain ⟨b, o, cs, fr, hA, hb, hc⟩ := h (fun e => hl (by rw [e]; simp))
  refine ⟨b, o, cs, fr, hA, hb, fun i x hx => hc i x ?_⟩
  rw [List.getElem?_take] at hx
  split at hx
  · exact hx
  · cases hx
theorem addr_add (b o k : Nat) : (⟨b, o, none⟩ : Addr).add k = ⟨b, o + k, none⟩ := by
  cases k <;> simp [Addr.add]
theorem At.drop {w : World} {A : Option Addr} {l : List UInt8} (h : At w A l) (k c : Nat) (hc : l.length ≤ c) : At w (if c = k then A else A.map (·.add k)) (l.drop k) := fun hl => by
  have hk : k < l.length := by
    rcases Nat.lt_or_ge k l.length with h1 | h1
    · exact h1
    · exact absurd (List.drop_eq_nil_of_le h1) hl
  obtain ⟨b, o, cs, fr, rfl, hb, hcs⟩ := h (fun e => by rw [e] at hk; simp at hk)
  refine ⟨b, o + k, cs, fr, ?_, hb, fun i x hx => ?_⟩
  · rw [if_neg (by omega)]
    simp [addr_add]
  · rw [List.getElem?_drop] at hx
    rw [Nat.add_assoc]
    exact hcs _ x hx

theorem At.c {w : World} {A : Option Addr} {l : List UInt8} (h : At w A l) : AtC w A l := fun hl => by
  obtain ⟨b, o, cs, fr, hA, hb, hc⟩ := h hl
  exact ⟨b, o, hA, lt_of_heap hb, fun i x hx => (cell_of_row w b (o + i) cs _ fr hb).trans (hc i x hx)⟩
theorem AtC.nil {w : World} {A : Option Addr} : AtC w A [] := fun h => absurd rfl h
theorem AtC.below {w w' : World} {A : Option Addr} {l : List UInt8} (h : AtC w A l) (hb : Below w.heap.size w w') : AtC w' A l := fun hl => by
  obtain ⟨b, o, hA, hlt, hc⟩ := h hl
  exact ⟨b, o, hA, Nat.lt_of_lt_of_le hlt hb.size, fun i x hx => (hb.cell (p := ⟨b, o + i, none⟩) hlt).trans (hc i x hx)⟩
theorem AtC.cells {w : World} {A : Option Addr} {l : List UInt8} (h : AtC w A l) (hl : l ≠ []) : ∃ b o, A = some ⟨b, o, none⟩ ∧ ∀ (i : Nat) (x : UInt8), l[i]? = some x → w.cell? ⟨b, o + i, none⟩ = some (bv x) := by
  obtain ⟨b, o, hA, _, hc⟩ := h hl
  exact ⟨b, o, hA, hc⟩
theorem AtC.take {w : World} {A : Option Addr} {l : List UInt8} (h : AtC w A l) (k : Nat) : AtC w A (l.take k) := fun hl => by
  obtain ⟨b, o, hA, hb, hc⟩ := h (fun e => hl (by rw [e]; simp))
  refine ⟨b, o, hA, hb, fun i x hx => hc i x ?_⟩
  rw [List.getElem?_take] at hx
  split at hx
  · exact hx
  · cases hx
theorem AtC.drop {w : World} {A : Option Addr} {l : List UInt8} (h : AtC w A l) (k c : Nat) (hc : l.length ≤ c) : AtC w (if c = k then A else A.map (·.add k)) (l.drop k) := fun hl => by
  have hk : k < l.length := by
    rcases Nat.lt_or_ge k l.length with h1 | h1
    · exact h1
    · exact absurd (List.drop_eq_nil_of_le h1) hl
  obtain ⟨b, o, rfl, hb, hcs⟩ := h (fun e => by rw [e] at hk; simp at hk)
  refine ⟨b, o + k, ?_, hb, fun i x hx => ?_⟩
  · rw [if_neg (by omega)]
    simp [addr_add]
  · rw [List.getElem?_drop] at hx
    rw [Nat.add_assoc]
    exact hcs _ x hx
theorem at_ltC {w : World} {b o : Nat} {l : List UInt8} (h : AtC w (some ⟨b, o, none⟩) l) (hl : l ≠ []) : b < w.heap.size := by
  obtain ⟨b', o', e, hb, _⟩ := h hl
  injection e with e
  injection e with e1 e2 e3
  subst e1
  exact hb
theorem at_lt {w : World} {b o : Nat} {l : List UInt8} (h : At w (some ⟨b, o, none⟩) l) (hl : l ≠ []) : b < w.heap.size := by
  obtain ⟨b', o', cs, fr, e, hb, _⟩ := h hl
  injection e with e
  injection e with e1 e2 e3
  subst e1
  exact lt_of_heap hb
theorem at_one {w : World} {x : UInt8} {X : Int} (hX : X = (x.toNat : Int)) : At (w.alloc (.cells #[.int .u8 X] 5)) (some ⟨w.heap.size, 0, none⟩) [x] := fun _ => ⟨w.heap.size, 0, #[.int .u8 X], (0, 0), rfl, heap_alloc_new w _, fun i y hy => by
  match i, hy with
  | 0, hy =>
    have : x = y := by simpa using hy
    subst this
    rw [hX]
    rfl⟩
theorem Own.nil (w : World) (B : Nat) : Own w B (.slice none 0 0) [] := World.ownsRow_nil w B _ 1
theorem Own.sl {w : World} {B : Nat} {v : Value} {l : List UInt8} (h : Own w B v l) : Sl w v l := by
  unfold Own at h
  rcases h.2 with ⟨rfl, hn⟩ | ⟨g, cap, cur, rfl, _, hg, hn, hc, hs, ht⟩
  · have : l = [] := List.eq_nil_of_length_eq_zero hn
    subst this
    exact ⟨none, 0, rfl, At.nil, by simp, by simp [maxLen]⟩
  · refine ⟨_, cap, rfl, fun _ => ⟨g, 0, cur, (0, 0), rfl, hg, fun i x hx => ?_⟩, hn, hc⟩
    have h1 : (l.map bv)[i]? = some (bv x) := by rw [List.getElem?_map, hx]; rfl
    rw [← ht, List.getElem?_take] at h1
    split at h1
    · rw [Nat.zero_add, ← Array.getElem?_toList]
      exact h1
    · cases h1
theorem Own.below {w w' : World} {B : Nat} {v : Value} {l : List UInt8} (h : Own w B v l) (hb : Below w.heap.size w w') : Own w' B v l := by
  unfold Own at h ⊢
  exact h.kept (row := none) ⟨hb.os, hb.tape, hb.output, hb.size, fun k hk _ => hb.block k hk⟩ (by cases h' : v.ownBlock <;> simp)
theorem Own.alloc {w : World} {B : Nat} {v : Value} {l : List UInt8} (h : Own w B v l) (o : Obj) : Own (w.alloc o) B v l := World.ownsRow.alloc h o
theorem Own.mono {w : World} {B B' : Nat} {v : Value} {l : List UInt8} (h : Own w B v l) (hB : B' ≤ B) : Own w B' v l := by
  unfold Own at h ⊢
  refine ⟨h.1, ?_⟩
  rcases h.2 with h1 | ⟨g, cap, cur, h2, h3, h4⟩
  · exact .inl h1
  · exact .inr ⟨g, cap, cur, h2, Nat.le_trans hB h3, h4⟩
theorem Sl.below {w w' : World} {v : Value} {l : List UInt8} (h : Sl w v l) (hb : Below w.heap.size w w') : Sl w' v l := by
  obtain ⟨A, c, h1, h2, h3⟩ := h
  exact ⟨A, c, h1, h2.below hb, h3⟩

theorem under9 : Tryd.prog.underlying 9 = some .string := Tryd.underlying9
theorem under5 : Tryd.prog.underlying 5 = some (.int .u8) := Tryd.underlying5
theorem info5 : (Tryd.prog.info? 5).map (fun i => (i.zero, i.size, i.bytes)) = some (some (.int .u8 0), 1, 1) := by kernel_rfl

section
variable {w : World} {ops : Array Oper} {rest : List Oper} {o : Oper} {a : Act} {Q : Exit → Act → World → Prop}
theorem below_of_grown {w w' : World} {B : Nat} {v : Value} {l : List UInt8} (h : Own w B v l) (hg : w.grownBy w' v.ownBlock) (hB : B ≤ w.heap.size) : Below B w w' :=
  (Below.refl B w).grown hg hB (fun k hk => (World.ownsRow.lt h k hk).1)

end
end BytesW
end Go.Proofs.YtjjnmkbjohiekaaDoor
