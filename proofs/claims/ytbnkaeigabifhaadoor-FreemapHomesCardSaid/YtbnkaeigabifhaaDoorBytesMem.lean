/-
  Bytes in memory: slices that hold a list of bytes, rows of the call's own, readers; the operations on them, as laws for the walk.
-/
import Derived.Test.YtbnkaeigabifhaaDoorRows
import Derived.WalkKit
import Derived.WalkSpells
import Derived.WalkLawsBesides
import Derived.Deep.QuietTactic
import Derived.BigQuiet
import Derived.Outline
import Derived.OwnWalk
import Derived.Below
import Derived.Lib.Hide
import Derived.Maps.AppendAt
import Derived.Deep.AppendLies
import Derived.Deep.Draws
import Derived.Lib.AppendStr
import Derived.Laws.IdiomStrings
import Derived.Laws.BytesArg
import Derived.Laws.Concat
import Derived.Test.YtbnkaeigabifhaaDoorHeldP
import Derived.Test.YtbnkaeigabifhaaDoorBytesPlain
namespace Go.Proofs.YtbnkaeigabifhaaDoor
open Go.RowKit
set_option linter.unusedVariables false
set_option linter.unusedSimpArgs false
namespace BytesW

/-- A byte's cell. -/
def bv (x : UInt8) : Value := .int .u8 (x.toNat : Int)
/-- The slice's place A, with the list's length, holds these bytes. -/
def At (w : World) (A : Option Addr) (l : List UInt8) : Prop :=
  l ≠ [] → ∃ b o cs fr, A = some ⟨b, o, none⟩ ∧ w.heap[b]? = some (.cells cs 5 fr) ∧ ∀ (i : Nat) (x : UInt8), l[i]? = some x → cs[o + i]? = some (bv x)
/-- The same of a slice that came in: its cells alone (what type its block has is not known). -/
def AtC (w : World) (A : Option Addr) (l : List UInt8) : Prop :=
  l ≠ [] → ∃ b o, A = some ⟨b, o, none⟩ ∧ b < w.heap.size ∧ ∀ (i : Nat) (x : UInt8), l[i]? = some x → w.cell? ⟨b, o + i, none⟩ = some (bv x)
/-- v is a row of the call's own, from block B on, of just these bytes. -/
def Own (w : World) (B : Nat) (v : Value) (l : List UInt8) : Prop := w.ownsRow B 5 1 v l.length (l.map bv)
/-- A reader of the program: at block p, what is left, its place and its capacity, whether it is broken. -/
def stv (b : Bool) : Int := if b then 2 else 1
/-- A slice of these bytes, wherever. -/
def Sl (w : World) (v : Value) (l : List UInt8) : Prop := ∃ A c, v = .slice A l.length c ∧ At w A l ∧ l.length ≤ c ∧ c ≤ maxLen

/-- Succeeds, and does nothing, where the operation at hand writes slot t. -/
theorem at_slot (t : Tmp) {P : Program} {w : World} {ops : Array Oper} {rest : List Oper} {a : Act} {Q : Exit → Act → World → Prop} {op : Op} {ty : TypeId} {pos : String} {af : _} {g : _} (h : wpList P ops Q ((⟨some t, op, ty, pos, af, g⟩ : Oper) :: rest) a w) : wpList P ops Q ((⟨some t, op, ty, pos, af, g⟩ : Oper) :: rest) a w := h
theorem lt_of_heap {w : World} {b : Nat} {o : Obj} (h : w.heap[b]? = some o) : b < w.heap.size := by
  rcases Nat.lt_or_ge b w.heap.size with hlt | hge
  · exact hlt
  · rw [Array.getElem?_eq_none hge] at h
    cases h
theorem At.nil {w : World} {A : Option Addr} : At w A [] := fun h => absurd rfl h
theorem At.keep {w w' : World} {A : Option Addr} {l : List UInt8} (h : At w A l) (hk : ∀ (b : Nat) (cs : Array Value) (fr : Nat × Nat), w.heap[b]? = some (Obj.cells cs 5 fr) → w'.heap[b]? = w.heap[b]?) : At w' A l := fun hl => by
  obtain ⟨b, o, cs, fr, hA, hb, hc⟩ := h hl
  exact ⟨b, o, cs, fr, hA, (hk b cs fr hb).trans hb, hc⟩
theorem At.below {w w' : World} {A : Option Addr} {l : List UInt8} (h : At w A l) (hb : Below w.heap.size w w') : At w' A l := h.keep fun b cs fr hh => hb.block b (lt_of_heap hh)
/-- Another block, of another type, is written. -/
theorem At.grown {w w' : World} {A : Option Addr} {l : List UInt8} (h : At w A l) {p : Nat} {cs' : Array Value} {t : TypeId} {fr' : Nat × Nat} (hp : w.heap[p]? = some (.cells cs' t fr')) (ht : t ≠ 5) (hg : w.grownBy w' (some p)) : At w' A l := h.keep fun b cs fr hh => hg.block b (lt_of_heap hh) (fun e => by
  injection e with e
  subst e
  rw [hp] at hh
  injection hh with hh
  injection hh with _ h2
  exact ht h2)
theorem At.cells {w : World} {A : Option Addr} {l : List UInt8} (h : At w A l) (hl : l ≠ []) : ∃ b o, A = some ⟨b, o, none⟩ ∧ ∀ (i : Nat) (x : UInt8), l[i]? = some x → w.cell? ⟨b, o + i, none⟩ = some (bv x) := by
  obtain ⟨b, o, cs, fr, hA, hb, hc⟩ := h hl
  exact ⟨b, o, hA, fun i x hx => (cell_of_row w b (o + i) cs _ fr hb).trans (hc i x hx)⟩
theorem At.take {w : World} {A : Option Addr} {l : List UInt8} (h : At w A l) (k : Nat) : At w A (l.take k) := fun hl => by
  obtain ⟨b, o, cs, fr, hA, hb, hc⟩ := h (fun e => hl (by rw [e]; simp))
  refine ⟨b, o, cs, fr, hA, hb, fun i x hx => hc i x ?_⟩
  rw [List.getElem?_take] at hx
  split at hx
  · exact hx
  · cases hx
theorem addr_add (b o k : Nat) : (⟨b, o, none⟩ : Addr).add k = ⟨b, o + k, none⟩ := by
  cases k <;> simp [Addr.add]
theorem At.drop {w : World} {A : Option Addr} {l : List UInt8} (h : At w A l) (k c : Nat) (hc : l.length ≤ c) : At w (if c = k then A else A.map (·.add k)) (l.drop k) := fun hl => by
  have hk : k < l.length := by
    rcases Nat.lt_or_ge k l.length with h1 | h1
    · exact h1
    · exact absurd (List.drop_eq_nil_of_le h1) hl
  obtain ⟨b, o, cs, fr, rfl, hb, hcs⟩ := h (fun e => by rw [e] at hk; simp at hk)
  refine ⟨b, o + k, cs, fr, ?_, hb, fun i x hx => ?_⟩
  · rw [if_neg (by omega)]
    simp [addr_add]
  · rw [List.getElem?_drop] at hx
    rw [Nat.add_assoc]
    exact hcs _ x hx

theorem At.c {w : World} {A : Option Addr} {l : List UInt8} (h : At w A l) : AtC w A l := fun hl => by
  obtain ⟨b, o, cs, fr, hA, hb, hc⟩ := h hl
  exact ⟨b, o, hA, lt_of_heap hb, fun i x hx => (cell_of_row w b (o + i) cs _ fr hb).trans (hc i x hx)⟩
theorem AtC.nil {w : World} {A : Option Addr} : AtC w A [] := fun h => absurd rfl h
theorem AtC.below {w w' : World} {A : Option Addr} {l : List UInt8} (h : AtC w A l) (hb : Below w.heap.size w w') : AtC w' A l := fun hl => by
  obtain ⟨b, o, hA, hlt, hc⟩ := h hl
  exact ⟨b, o, hA, Nat.lt_of_lt_of_le hlt hb.size, fun i x hx => (hb.cell (p := ⟨b, o + i, none⟩) hlt).trans (hc i x hx)⟩
theorem AtC.cells {w : World} {A : Option Addr} {l : List UInt8} (h : AtC w A l) (hl : l ≠ []) : ∃ b o, A = some ⟨b, o, none⟩ ∧ ∀ (i : Nat) (x : UInt8), l[i]? = some x → w.cell? ⟨b, o + i, none⟩ = some (bv x) := by
  obtain ⟨b, o, hA, _, hc⟩ := h hl
  exact ⟨b, o, hA, hc⟩
theorem AtC.take {w : World} {A : Option Addr} {l : List UInt8} (h : AtC w A l) (k : Nat) : AtC w A (l.take k) := fun hl => by
  obtain ⟨b, o, hA, hb, hc⟩ := h (fun e => hl (by rw [e]; simp))
  refine ⟨b, o, hA, hb, fun i x hx => hc i x ?_⟩
  rw [List.getElem?_take] at hx
  split at hx
  · exact hx
  · cases hx
theorem AtC.drop {w : World} {A : Option Addr} {l : List UInt8} (h : AtC w A l) (k c : Nat) (hc : l.length ≤ c) : AtC w (if c = k then A else A.map (·.add k)) (l.drop k) := fun hl => by
  have hk : k < l.length := by
    rcases Nat.lt_or_ge k l.length with h1 | h1
    · exact h1
    · exact absurd (List.drop_eq_nil_of_le h1) hl
  obtain ⟨b, o, rfl, hb, hcs⟩ := h (fun e => by rw [e] at hk; simp at hk)
  refine ⟨b, o + k, ?_, hb, fun i x hx => ?_⟩
  · rw [if_neg (by omega)]
    simp [addr_add]
  · rw [List.getElem?_drop] at hx
    rw [Nat.add_assoc]
    exact hcs _ x hx
theorem at_ltC {w : World} {b o : Nat} {l : List UInt8} (h : AtC w (some ⟨b, o, none⟩) l) (hl : l ≠ []) : b < w.heap.size := by
  obtain ⟨b', o', e, hb, _⟩ := h hl
  injection e with e
  injection e with e1 e2 e3
  subst e1
  exact hb
theorem at_lt {w : World} {b o : Nat} {l : List UInt8} (h : At w (some ⟨b, o, none⟩) l) (hl : l ≠ []) : b < w.heap.size := by
  obtain ⟨b', o', cs, fr, e, hb, _⟩ := h hl
  injection e with e
  injection e with e1 e2 e3
  subst e1
  exact lt_of_heap hb
theorem at_one {w : World} {x : UInt8} {X : Int} (hX : X = (x.toNat : Int)) : At (w.alloc (.cells #[.int .u8 X] 5)) (some ⟨w.heap.size, 0, none⟩) [x] := fun _ => ⟨w.heap.size, 0, #[.int .u8 X], (0, 0), rfl, heap_alloc_new w _, fun i y hy => by
  match i, hy with
  | 0, hy =>
    have : x = y := by simpa using hy
    subst this
    rw [hX]
    rfl⟩
theorem Own.nil (w : World) (B : Nat) : Own w B (.slice none 0 0) [] := World.ownsRow_nil w B _ 1
theorem Own.sl {w : World} {B : Nat} {v : Value} {l : List UInt8} (h : Own w B v l) : Sl w v l := by
  unfold Own at h
  rcases h.2 with ⟨rfl, hn⟩ | ⟨g, cap, cur, rfl, _, hg, hn, hc, hs, ht⟩
  · have : l = [] := List.eq_nil_of_length_eq_zero hn
    subst this
    exact ⟨none, 0, rfl, At.nil, by simp, by simp [maxLen]⟩
  · refine ⟨_, cap, rfl, fun _ => ⟨g, 0, cur, (0, 0), rfl, hg, fun i x hx => ?_⟩, hn, hc⟩
    have h1 : (l.map bv)[i]? = some (bv x) := by rw [List.getElem?_map, hx]; rfl
    rw [← ht, List.getElem?_take] at h1
    split at h1
    · rw [Nat.zero_add, ← Array.getElem?_toList]
      exact h1
    · cases h1
theorem Own.below {w w' : World} {B : Nat} {v : Value} {l : List UInt8} (h : Own w B v l) (hb : Below w.heap.size w w') : Own w' B v l := by
  unfold Own at h ⊢
  exact h.kept (row := none) ⟨hb.os, hb.tape, hb.output, hb.size, fun k hk _ => hb.block k hk⟩ (by cases h' : v.ownBlock <;> simp)
theorem Own.alloc {w : World} {B : Nat} {v : Value} {l : List UInt8} (h : Own w B v l) (o : Obj) : Own (w.alloc o) B v l := World.ownsRow.alloc h o
theorem Own.mono {w : World} {B B' : Nat} {v : Value} {l : List UInt8} (h : Own w B v l) (hB : B' ≤ B) : Own w B' v l := by
  unfold Own at h ⊢
  refine ⟨h.1, ?_⟩
  rcases h.2 with h1 | ⟨g, cap, cur, h2, h3, h4⟩
  · exact .inl h1
  · exact .inr ⟨g, cap, cur, h2, Nat.le_trans hB h3, h4⟩
theorem Sl.below {w w' : World} {v : Value} {l : List UInt8} (h : Sl w v l) (hb : Below w.heap.size w w') : Sl w' v l := by
  obtain ⟨A, c, h1, h2, h3⟩ := h
  exact ⟨A, c, h1, h2.below hb, h3⟩

theorem under9 : Tryd.prog.underlying 9 = some .string := Tryd.underlying9
theorem under26 : Tryd.prog.underlying 51 = some (.slice 5) := Tryd.underlying51
theorem under5 : Tryd.prog.underlying 5 = some (.int .u8) := Tryd.underlying5
theorem info5 : (Tryd.prog.info? 5).map (fun i => (i.zero, i.size, i.bytes)) = some (some (.int .u8 0), 1, 1) := by kernel_rfl

theorem run_strC (w : World) {A : Option Addr} {l : List UInt8} (c : Nat) (h : AtC w A l) : (convert 51 9 (.slice A l.length c)).run Tryd.prog w = .ok (.string ⟨l.toArray⟩) w := by
  rcases A with _ | ⟨b, o, s⟩
  · have : l = [] := by
      rcases l with _ | ⟨x, l⟩
      · rfl
      · obtain ⟨b, o, hA, _⟩ := h (by simp)
        cases hA
    subst this
    exact run_convert_bytes_nil w _ _ under26 under5 _ _ _ under9
  · refine run_convert_bytes_back w _ _ _ ⟨b, o, s⟩ c l under26 under5 under9 fun j hj => ?_
    obtain ⟨b', o', hA, hc⟩ := h.cells (fun e => by subst e; simp at hj)
    injection hA with hA
    injection hA with h1 h2 h3
    subst h1 h2 h3
    rw [addr_add]
    exact hc j l[j] (List.getElem?_eq_getElem hj)

theorem run_str (w : World) {A : Option Addr} {l : List UInt8} (c : Nat) (h : At w A l) : (convert 51 9 (.slice A l.length c)).run Tryd.prog w = .ok (.string ⟨l.toArray⟩) w := run_strC w c h.c

section
variable {w : World} {ops : Array Oper} {rest : List Oper} {o : Oper} {a : Act} {Q : Exit → Act → World → Prop}
/-- string(b). -/
theorem wp_strC (hgd : o.guard = none) (x : Operand) (ho : o.op = .convert 51 9 x) {A : Option Addr} {c : Nat} {l : List UInt8} (hx : a.eval x = .slice A l.length c) (hAt : AtC w A l)
    (h : wpList Tryd.prog ops Q rest (a.put o.dst (.string ⟨l.toArray⟩)) w) : wpList Tryd.prog ops Q (o :: rest) a w := by
  refine wpList_plain hgd fun K hK => ?_
  have hr := run_strC w c hAt
  unfold Oper.wp
  simp [execOp, ho, hx, hr, Result.andThen]
  exact hK _ _ h
/-- string(b). -/
theorem wp_str (hgd : o.guard = none) (x : Operand) (ho : o.op = .convert 51 9 x) {A : Option Addr} {c : Nat} {l : List UInt8} (hx : a.eval x = .slice A l.length c) (hAt : At w A l)
    (h : wpList Tryd.prog ops Q rest (a.put o.dst (.string ⟨l.toArray⟩)) w) : wpList Tryd.prog ops Q (o :: rest) a w := wp_strC hgd x ho hx hAt.c h
/-- []byte(s): a new block, just of these bytes (and room). -/
theorem wp_bytes (hgd : o.guard = none) (x : Operand) (ho : o.op = .convert 9 51 x) {l : List UInt8} (hx : a.eval x = .string ⟨l.toArray⟩)
    (h : ∀ c w' cs, w'.heap[w.heap.size]? = some (.cells cs 5 (cs.size, cs.size + 1)) → l.length ≤ c → c ≤ maxLen → l.length ≤ cs.size → (∀ (i : Nat) (x : UInt8), l[i]? = some x → cs[i]? = some (bv x)) → Below w.heap.size w w' → w.heap.size < w'.heap.size →
      wpList Tryd.prog ops Q rest (a.put o.dst (.slice (some ⟨w.heap.size, 0, none⟩) l.length c)) w')
    (hl : l.length ≤ maxLen) : wpList Tryd.prog ops Q (o :: rest) a w := by
  refine wpList_plain hgd fun K hK => ?_
  have hr := run_bytes_of_string (P := Tryd.prog) w 9 51 5 ⟨l.toArray⟩ under9 under26 under5
  have hs : (⟨l.toArray⟩ : ByteArray).size = l.length := by simp [ByteArray.size]
  rw [hs] at hr
  unfold Oper.wp
  simp [execOp, ho, hx, hr, Result.andThen, -World.alloc_eq, -World.drew_eq]
  refine hK _ _ (h _ _ (bytesRow ⟨l.toArray⟩ (grownCap w l.length 0 5)) (by simpa [bytesRow, hs] using heap_alloc_new w.drew _) (grownCap_ge _ _ _ _) (grownCap_le_maxLen _ _ _ _ hl) (by simp [bytesRow]) (fun i x hx => ?_) ?_ (by simp))
  · have hi := (List.getElem?_eq_some_iff.1 hx).1
    simp only [bytesRow]
    rw [Array.getElem?_append_left (by simpa using hi)]
    simp [hx, bv]
  · exact ((Below.refl _ w).drew).alloc (Nat.le_refl _) _
/-- b[:n]. -/
theorem wp_upto (hgd : o.guard = none) (x y : Operand) (ho : o.op = .slice 51 x none (some y) none) {A : Option Addr} {L c : Nat} {n : Int} (hx : a.eval x = .slice A L c) (hy : a.eval y = .int .i64 n) (h0 : 0 ≤ n) (h1 : n ≤ L) (h2 : L ≤ c)
    (h : wpList Tryd.prog ops Q rest (a.put o.dst (.slice A n.toNat c)) w) : wpList Tryd.prog ops Q (o :: rest) a w := by
  refine wpList_plain hgd fun K hK => ?_
  have e : (if c = 0 then A else A.map (·.add 0)) = A := by
    split
    · rfl
    · cases A <;> simp [Addr.add]
  unfold Oper.wp
  have h3 : n ≤ c := by omega
  obtain ⟨i, hi, _, hs, _⟩ := info_parts info5
  have hr : (Instr.sliceAt 51 (.slice A L c) none (some (.int .i64 n)) none).run Tryd.prog w = .ok (.slice A n.toNat c) w := by
    simp [Instr.sliceAt, Instr.slice, run_underlying under26, Instr.sliceBounds, run_sliceBound, h0, h3, e, Result.andThen, sizeOf, typeInfo, hi, hs]
  simp [execOp, ho, hx, hy, hr, Result.andThen]
  exact hK _ _ h
/-- b[n:]: at some address, of which is known what it holds. -/
theorem wp_from (hgd : o.guard = none) (x y : Operand) (ho : o.op = .slice 51 x (some y) none none) {A : Option Addr} {c k : Nat} {l : List UInt8} (hx : a.eval x = .slice A l.length c) (hy : a.eval y = .int .i64 k) (hA : At w A l) (h1 : k ≤ l.length) (h2 : l.length ≤ c)
    (h : ∀ A', At w A' (l.drop k) → wpList Tryd.prog ops Q rest (a.put o.dst (.slice A' (l.length - k) (c - k))) w) : wpList Tryd.prog ops Q (o :: rest) a w := by
  refine wpList_plain hgd fun K hK => ?_
  unfold Oper.wp
  obtain ⟨i, hi, _, hs, _⟩ := info_parts info5
  have h0 : (k : Int) ≤ l.length := by omega
  have hr : (Instr.sliceAt 51 (.slice A l.length c) (some (.int .i64 k)) none none).run Tryd.prog w = .ok (.slice (if c = k then A else A.map (·.add k)) (l.length - k) (c - k)) w := by
    simp [Instr.sliceAt, Instr.slice, run_underlying under26, Instr.sliceBounds, run_sliceBound, h0, h1, Result.andThen, sizeOf, typeInfo, hi, hs]
  simp [execOp, ho, hx, hy, hr, Result.andThen]
  exact hK _ _ (h _ (hA.drop k c h2))

/-- b[n:]: at some address, of which is known what it holds. -/
theorem wp_fromC (hgd : o.guard = none) (x y : Operand) (ho : o.op = .slice 51 x (some y) none none) {A : Option Addr} {c k : Nat} {l : List UInt8} (hx : a.eval x = .slice A l.length c) (hy : a.eval y = .int .i64 k) (hA : AtC w A l) (h1 : k ≤ l.length) (h2 : l.length ≤ c)
    (h : ∀ A', AtC w A' (l.drop k) → wpList Tryd.prog ops Q rest (a.put o.dst (.slice A' (l.length - k) (c - k))) w) : wpList Tryd.prog ops Q (o :: rest) a w := by
  refine wpList_plain hgd fun K hK => ?_
  unfold Oper.wp
  obtain ⟨i, hi, _, hs, _⟩ := info_parts info5
  have h0 : (k : Int) ≤ l.length := by omega
  have hr : (Instr.sliceAt 51 (.slice A l.length c) (some (.int .i64 k)) none none).run Tryd.prog w = .ok (.slice (if c = k then A else A.map (·.add k)) (l.length - k) (c - k)) w := by
    simp [Instr.sliceAt, Instr.slice, run_underlying under26, Instr.sliceBounds, run_sliceBound, h0, h1, Result.andThen, sizeOf, typeInfo, hi, hs]
  simp [execOp, ho, hx, hy, hr, Result.andThen]
  exact hK _ _ (h _ (hA.drop k c h2))

theorem below_of_grown {w w' : World} {B : Nat} {v : Value} {l : List UInt8} (h : Own w B v l) (hg : w.grownBy w' v.ownBlock) (hB : B ≤ w.heap.size) : Below B w w' :=
  (Below.refl B w).grown hg hB (fun k hk => (World.ownsRow.lt h k hk).1)

/-- append(v, b..): v of the call's own. -/
theorem wp_appendC (hgd : o.guard = none) (s x : Operand) (ho : o.op = .call { callee := .builtin .append, args := #[s, x], argTypes := #[51, 51] })
    {B : Nat} {v : Value} {l l2 : List UInt8} (hs : a.eval s = v) (hown : Own w B v l) {A : Option Addr} {c : Nat} (hx : a.eval x = .slice A l2.length c) (hAt : AtC w A l2) (hl : l.length + l2.length ≤ 4000000) (hB : B ≤ w.heap.size)
    (h : ∀ v' w', Own w' B v' (l ++ l2) → Below B w w' → wpList Tryd.prog ops Q rest (a.put o.dst v') w') : wpList Tryd.prog ops Q (o :: rest) a w := by
  refine wpList_plain hgd fun K hK => ?_
  obtain ⟨i, hi, hz, hs1, hby⟩ := info_parts info5
  have hm : maxLen = 9223372036854775807 := rfl
  rcases A with _ | ad
  · have h0 : l2 = [] := by
      rcases l2 with _ | ⟨y, l2⟩
      · rfl
      · obtain ⟨b, o, hA, _⟩ := hAt (by simp)
        cases hA
    subst h0
    have hr : (Builtin.append_ #[51, 51] o.type #[v, .slice none 0 c]).run Tryd.prog w = .ok v w := by
      rcases hown.2 with ⟨rfl, hn⟩ | ⟨g, cap, cur, rfl, _, _, hnc, _⟩
      · simp [Builtin.append_, run_underlying under26, sizeOf, typeInfo, hi, Builtin.lenOf, Builtin.firstCells]
      · simp [Builtin.append_, run_underlying under26, sizeOf, typeInfo, hi, Builtin.lenOf, Builtin.firstCells, hnc, storeCells]
    unfold Oper.wp
    simp [execOp, ho, resolve, invoke, builtin, hs, hx, hr, Result.andThen]
    exact hK _ _ (h v w (by simpa using hown) (Below.refl _ _))
  · have hnews : ∀ j u, (l2.map bv)[j]? = some u → w.cell? (ad.add j) = some u := fun j u hu => by
      rw [List.getElem?_map] at hu
      obtain ⟨y, hy, rfl⟩ := Option.map_eq_some_iff.1 hu
      obtain ⟨b, o, hA, hc⟩ := hAt.cells (fun e => by subst e; simp at hy)
      obtain rfl := Option.some.inj hA
      rw [addr_add]
      exact hc j y hy
    obtain ⟨v', w', hr, h2, h3, _, _⟩ := run_append_own_at (P := Tryd.prog) w B 51 o.type 5 i _ 1 1 under26 hi hz hs1 hby rfl (by omega) v l.length (l.map bv) hown ad l2.length c (l2.map bv) (by simp) hnews
      (fun u hu => by obtain ⟨y, _, rfl⟩ := List.mem_map.1 hu; rfl) (by omega) (by omega) hB
    unfold Oper.wp execOp
    simp only [ho, resolve, invoke, builtin, Sem.run_bind, Sem.run_pure, Result.andThen_ok, List.map_toArray, List.map_cons, List.map_nil, hs, hx, hr]
    refine hK _ _ (h v' w' ?_ (below_of_grown hown h3 hB))
    unfold Own
    rw [List.length_append, List.map_append]
    exact h2

/-- append(v, b..): v of the call's own. -/
theorem wp_append (hgd : o.guard = none) (s x : Operand) (ho : o.op = .call { callee := .builtin .append, args := #[s, x], argTypes := #[51, 51] })
    {B : Nat} {v : Value} {l l2 : List UInt8} (hs : a.eval s = v) (hown : Own w B v l) {A : Option Addr} {c : Nat} (hx : a.eval x = .slice A l2.length c) (hAt : At w A l2) (hl : l.length + l2.length ≤ 4000000) (hB : B ≤ w.heap.size)
    (h : ∀ v' w', Own w' B v' (l ++ l2) → Below B w w' → wpList Tryd.prog ops Q rest (a.put o.dst v') w') : wpList Tryd.prog ops Q (o :: rest) a w := wp_appendC hgd s x ho hs hown hx hAt.c hl hB h

/-- append(v, s..), s a string. -/
theorem wp_append_str (hgd : o.guard = none) (s x : Operand) (ho : o.op = .call { callee := .builtin .append, args := #[s, x], argTypes := #[51, 9] })
    {B : Nat} {v : Value} {l l2 : List UInt8} (hs : a.eval s = v) (hown : Own w B v l) (hx : a.eval x = .string ⟨l2.toArray⟩) (hl : l.length + l2.length ≤ 4000000) (hB : B ≤ w.heap.size)
    (h : ∀ v' w', Own w' B v' (l ++ l2) → Below B w w' → wpList Tryd.prog ops Q rest (a.put o.dst v') w') : wpList Tryd.prog ops Q (o :: rest) a w := by
  obtain ⟨i, hi, hz, hs1, hby⟩ := info_parts info5
  have hm : maxLen = 9223372036854775807 := rfl
  have e : (⟨l2.toArray⟩ : ByteArray).size = l2.length := by simp [ByteArray.size]
  refine Lib.wpList_append_own_string w hgd s x _ _ ho B _ i under26 under9 hi hz hs1 hby v l.length (l.map bv) hs hown ⟨l2.toArray⟩ hx (by omega) (by omega) hB fun v' w' h1 h2 _ => h v' w' ?_ (below_of_grown hown h2 hB)
  unfold Own
  rw [List.length_append, List.map_append]
  rw [e] at h1
  exact h1

/-- append(v, x) of one byte: x lies in a new block of its own. -/
theorem wp_push (hgd : o.guard = none) (s x : Operand) (ho : o.op = .call { callee := .builtin .append, args := #[s, x], argTypes := #[51, 51] })
    {B : Nat} {v : Value} {l : List UInt8} (w0 : World) (e : Int) (hw : w = w0.alloc (.cells #[.int .u8 e] 5)) (hs : a.eval s = v) (hown : Own w0 B v l) (y : UInt8) (he : e = y.toNat) (hx : a.eval x = .slice (some ⟨w0.heap.size, 0, none⟩) 1 1) (hl : l.length ≤ 2000000) (hB : B ≤ w0.heap.size)
    (h : ∀ v' w', Own w' B v' (l ++ [y]) → Below B w0 w' → wpList Tryd.prog ops Q rest (a.put o.dst v') w') : wpList Tryd.prog ops Q (o :: rest) a w := by
  subst hw he
  refine wp_append hgd s x ho (l2 := [y]) hs (hown.alloc _) hx (fun _ => ⟨w0.heap.size, 0, #[bv y], (0, 0), rfl, heap_alloc_new w0 _, fun i x hx => ?_⟩) (by simp; omega) (by simp; omega) fun v' w' h1 h2 => h v' w' h1 (((Below.refl B w0).alloc hB _).trans h2)
  match i, hx with
  | 0, hx =>
    have : y = x := by simpa using hx
    subst this
    rfl
end
end BytesW
end Go.Proofs.YtbnkaeigabifhaaDoor
