/-
  Arguments that fit their types, opened: a struct's or an array's cells, one by one, of plain kinds.
-/
import Derived.Test.YtbnkaeigabifhaaDoorRows
import Derived.ProofKit
import Derived.OpenShut
import Derived.Carry
import Derived.Lib.SmallJoins
namespace Go.Proofs.YtbnkaeigabifhaaDoor
open Go.ChangeShapes Go.WideShapes Go.ChangeAt Go.RowKit
set_option linter.unusedVariables false
namespace OpenP
theorem own : ownKnob Tryd.prog.godebug = none := by kernel_rfl
theorem laidOut : laidOutB Tryd.prog = true := by kernel_rfl

section
variable {P : Program} {w : World} {r : Reach} {b : Nat} {t : TypeId} {v : Value}
theorem c_int {k : IntKind} {lo hi : Int} (ht : P.underlying t = some (.int k)) (hlo : k.min = lo) (hhi : k.max = hi) (h : Cell.okWide P w r b t v) : ∃ n : Int, v = .int k n ∧ lo ≤ n ∧ n ≤ hi := by
  subst hlo hhi
  unfold Cell.okWide at h
  rw [ht] at h
  cases v <;> simp_all [Cell.ok, IntKind.has]
theorem c_bool (ht : P.underlying t = some .bool) (h : Cell.okWide P w r b t v) : ∃ n : Bool, v = .bool n := by
  unfold Cell.okWide at h
  rw [ht] at h
  cases v <;> simp_all [Cell.ok]
theorem c_string (ht : P.underlying t = some .string) (h : Cell.okWide P w r b t v) : ∃ s : ByteArray, v = .string s ∧ s.size ≤ 9223372036854775807 := by
  unfold Cell.okWide at h
  rw [ht] at h
  have e : IntKind.i64.max = 9223372036854775807 := rfl
  cases v <;> simp_all [Cell.ok]
  omega
theorem v_int {k : IntKind} {lo hi : Int} (ht : P.underlying t = some (.int k)) (hlo : k.min = lo) (hhi : k.max = hi) (h : Value.okWide P w r b t v) : ∃ n : Int, v = .int k n ∧ lo ≤ n ∧ n ≤ hi := by
  unfold Value.okWide at h
  rw [ht] at h
  exact c_int ht hlo hhi h
theorem v_bool (ht : P.underlying t = some .bool) (h : Value.okWide P w r b t v) : ∃ n : Bool, v = .bool n := by
  unfold Value.okWide at h
  rw [ht] at h
  exact c_bool ht h
theorem v_string (ht : P.underlying t = some .string) (h : Value.okWide P w r b t v) : ∃ s : ByteArray, v = .string s ∧ s.size ≤ 9223372036854775807 := by
  unfold Value.okWide at h
  rw [ht] at h
  exact c_string ht h
/-- The cells of a struct or an array. -/
theorem v_agg {n : Nat} {ts : List TypeId} (ht : (∃ fs, P.underlying t = some (.struct fs)) ∨ (∃ m e, P.underlying t = some (.array m e))) (hts : P.cellTypes P.depth t = some ts) (hl : ts.length = n) (hc : P.cellsOf t = n) (h : Value.okWide P w r b t v) :
    ∃ l : List Value, v = .agg l.toArray ∧ l.length = n ∧ ∀ (i : Nat) (u : TypeId), ts[i]? = some u → ∃ x, l[i]? = some x ∧ Cell.okWide P w r b u x := by
  have h' : ∃ cs, v = .agg cs ∧ cs.size = P.cellsOf t ∧ Row.okWide P w r b t cs := by
    unfold Value.okWide at h
    rcases ht with ⟨fs, e⟩ | ⟨m, el, e⟩ <;> (rw [e] at h; exact h)
  obtain ⟨⟨l⟩, rfl, hs, ts', hts', _, hf⟩ := h'
  rw [hts] at hts'
  obtain rfl := Option.some.inj hts'
  have hs' : l.length = n := by rw [← hc, ← hs]; rfl
  refine ⟨l, rfl, hs', fun i u hu => ?_⟩
  have hi : i < ts.length := (List.getElem?_eq_some_iff.1 hu).1
  have hx : i < l.length := by omega
  obtain ⟨u', hu', hk⟩ := hf i l[i] (by simp [hx])
  rw [Nat.mod_eq_of_lt hi, hu] at hu'
  obtain rfl := Option.some.inj hu'
  exact ⟨_, List.getElem?_eq_getElem hx, hk⟩
/-- The arguments of a law read behind a call that turns nothing below as they read ahead of it. -/
theorem all_keep {H : Type} {enc : TypeId × Value → H} (hl : laidOutB P = true) {W W' : World} (hb : Below W.heap.size W W') :
    ∀ {ts : List TypeId} {vs : List Value} {ds : List (DataW H)} {ps : List MemPlace}, (∀ t ∈ ts, P.readableRec t = true ∧ t < P.types.size) → DataW.TrodAll enc P W 0 (fun _ => true) true ts vs ds ps → (∀ x ∈ ps, x.block < W.heap.size) →
      DataW.TrodAll enc P W' 0 (fun b => decide (b < W.heap.size)) true ts vs ds ps
  | [], vs, ds, ps, _, h, _ => by
    obtain ⟨rfl, rfl, rfl⟩ := trodAll_nil h
    exact trodAll_mk0
  | t :: ts, vs, ds, ps, ht, h, hlt => by
    obtain ⟨v, vs', d, ds', p, q, rfl, rfl, rfl, hd, hrest⟩ := trodAll_cons h
    obtain ⟨h1, h2⟩ := ht t (by simp)
    exact trodAll_cons_mk (Below.trod hl h1 h2 hd hb (fun x hx => hlt x (by simp [hx]))) (all_keep hl hb (fun u hu => ht u (by simp [hu])) hrest (fun x hx => hlt x (by simp [hx])))
theorem all_len {H : Type} {enc : TypeId × Value → H} {W : World} : ∀ {ts : List TypeId} {vs : List Value} {ds : List (DataW H)} {ps : List MemPlace}, DataW.TrodAll enc P W 0 (fun _ => true) true ts vs ds ps → vs.length = ts.length ∧ ds.length = ts.length
  | [], vs, ds, ps, h => by
    obtain ⟨rfl, rfl, rfl⟩ := trodAll_nil h
    exact ⟨rfl, rfl⟩
  | t :: ts, vs, ds, ps, h => by
    obtain ⟨v, vs', d, ds', p, q, rfl, rfl, rfl, hd, hrest⟩ := trodAll_cons h
    obtain ⟨h1, h2⟩ := all_len hrest
    exact ⟨by simp [h1], by simp [h2]⟩
end
theorem len0 {α : Type} {l : List α} (h : l.length = 0) : l = [] := by
  match l, h with
  | [], _ => exact rfl
theorem arr0 {α : Type} {l : Array α} (h : l.toList.length = 0) : l = #[] := by
  obtain ⟨l⟩ := l
  match l, h with
  | [], _ => exact rfl
theorem len1 {α : Type} {l : List α} (h : l.length = 1) : ∃ a0 : α, l = [a0] := by
  match l, h with
  | [a0], _ => exact ⟨_, rfl⟩
theorem arr1 {α : Type} {l : Array α} (h : l.toList.length = 1) : ∃ a0 : α, l = #[a0] := by
  obtain ⟨l⟩ := l
  match l, h with
  | [a0], _ => exact ⟨_, rfl⟩
theorem len2 {α : Type} {l : List α} (h : l.length = 2) : ∃ a0 a1 : α, l = [a0, a1] := by
  match l, h with
  | [a0, a1], _ => exact ⟨_, _, rfl⟩
theorem arr2 {α : Type} {l : Array α} (h : l.toList.length = 2) : ∃ a0 a1 : α, l = #[a0, a1] := by
  obtain ⟨l⟩ := l
  match l, h with
  | [a0, a1], _ => exact ⟨_, _, rfl⟩
theorem len3 {α : Type} {l : List α} (h : l.length = 3) : ∃ a0 a1 a2 : α, l = [a0, a1, a2] := by
  match l, h with
  | [a0, a1, a2], _ => exact ⟨_, _, _, rfl⟩
theorem arr3 {α : Type} {l : Array α} (h : l.toList.length = 3) : ∃ a0 a1 a2 : α, l = #[a0, a1, a2] := by
  obtain ⟨l⟩ := l
  match l, h with
  | [a0, a1, a2], _ => exact ⟨_, _, _, rfl⟩
theorem len4 {α : Type} {l : List α} (h : l.length = 4) : ∃ a0 a1 a2 a3 : α, l = [a0, a1, a2, a3] := by
  match l, h with
  | [a0, a1, a2, a3], _ => exact ⟨_, _, _, _, rfl⟩
theorem arr4 {α : Type} {l : Array α} (h : l.toList.length = 4) : ∃ a0 a1 a2 a3 : α, l = #[a0, a1, a2, a3] := by
  obtain ⟨l⟩ := l
  match l, h with
  | [a0, a1, a2, a3], _ => exact ⟨_, _, _, _, rfl⟩
theorem len5 {α : Type} {l : List α} (h : l.length = 5) : ∃ a0 a1 a2 a3 a4 : α, l = [a0, a1, a2, a3, a4] := by
  match l, h with
  | [a0, a1, a2, a3, a4], _ => exact ⟨_, _, _, _, _, rfl⟩
theorem arr5 {α : Type} {l : Array α} (h : l.toList.length = 5) : ∃ a0 a1 a2 a3 a4 : α, l = #[a0, a1, a2, a3, a4] := by
  obtain ⟨l⟩ := l
  match l, h with
  | [a0, a1, a2, a3, a4], _ => exact ⟨_, _, _, _, _, rfl⟩
theorem len6 {α : Type} {l : List α} (h : l.length = 6) : ∃ a0 a1 a2 a3 a4 a5 : α, l = [a0, a1, a2, a3, a4, a5] := by
  match l, h with
  | [a0, a1, a2, a3, a4, a5], _ => exact ⟨_, _, _, _, _, _, rfl⟩
theorem arr6 {α : Type} {l : Array α} (h : l.toList.length = 6) : ∃ a0 a1 a2 a3 a4 a5 : α, l = #[a0, a1, a2, a3, a4, a5] := by
  obtain ⟨l⟩ := l
  match l, h with
  | [a0, a1, a2, a3, a4, a5], _ => exact ⟨_, _, _, _, _, _, rfl⟩
theorem len7 {α : Type} {l : List α} (h : l.length = 7) : ∃ a0 a1 a2 a3 a4 a5 a6 : α, l = [a0, a1, a2, a3, a4, a5, a6] := by
  match l, h with
  | [a0, a1, a2, a3, a4, a5, a6], _ => exact ⟨_, _, _, _, _, _, _, rfl⟩
theorem arr7 {α : Type} {l : Array α} (h : l.toList.length = 7) : ∃ a0 a1 a2 a3 a4 a5 a6 : α, l = #[a0, a1, a2, a3, a4, a5, a6] := by
  obtain ⟨l⟩ := l
  match l, h with
  | [a0, a1, a2, a3, a4, a5, a6], _ => exact ⟨_, _, _, _, _, _, _, rfl⟩
theorem len8 {α : Type} {l : List α} (h : l.length = 8) : ∃ a0 a1 a2 a3 a4 a5 a6 a7 : α, l = [a0, a1, a2, a3, a4, a5, a6, a7] := by
  match l, h with
  | [a0, a1, a2, a3, a4, a5, a6, a7], _ => exact ⟨_, _, _, _, _, _, _, _, rfl⟩
theorem arr8 {α : Type} {l : Array α} (h : l.toList.length = 8) : ∃ a0 a1 a2 a3 a4 a5 a6 a7 : α, l = #[a0, a1, a2, a3, a4, a5, a6, a7] := by
  obtain ⟨l⟩ := l
  match l, h with
  | [a0, a1, a2, a3, a4, a5, a6, a7], _ => exact ⟨_, _, _, _, _, _, _, _, rfl⟩
end OpenP
end Go.Proofs.YtbnkaeigabifhaaDoor
