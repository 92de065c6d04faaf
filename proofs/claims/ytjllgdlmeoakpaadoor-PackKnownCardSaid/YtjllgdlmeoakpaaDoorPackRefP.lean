/-
  PackRefused: a cell that may not be, a light above fifteen, or a tick that may not be, anywhere, refuses the chunk.
-/
import Derived.Test.YtjllgdlmeoakpaaDoorPackLawBack
namespace Go.Proofs.YtjllgdlmeoakpaaDoor
open Go.RowKit
set_option linter.unusedVariables false
set_option linter.unusedSimpArgs false
namespace PackW
open BytesW RunsW

theorem u8_of {X : Int} (h0 : 0 ≤ X) (h1 : X ≤ 255) : ∃ c : UInt8, X = (c.toNat : Int) := ⟨X.toNat.toUInt8, by rw [toU8 (by omega)]; omega⟩
theorem all_set {l : List Cell} {f : Cell → Bool} {i : Nat} {x : Cell} (h : l.all f = true) (hi : i < l.length) : (l.set i x).all f = f x := by
  cases hf : f x with
  | true =>
    refine List.all_eq_true.2 fun y hy => ?_
    rcases List.mem_or_eq_of_mem_set hy with h1 | rfl
    · exact List.all_eq_true.1 h y h1
    · exact hf
  | false =>
    cases hs : (l.set i x).all f with
    | false => rfl
    | true =>
      have hm : x ∈ l.set i x := List.mem_of_getElem? (i := i) (by rw [List.getElem?_set_self hi])
      rw [List.all_eq_true.1 hs x hm] at hf
      cases hf
theorem can_set {C L : List Cell} {a : Nat} {c l : Cell} {due : Int} (h : can ⟨C, L, []⟩ = true) (hC : C.length = 4096) (hL : L.length = 4096) (ha : a < 4096) :
    can ⟨C.set a c, L.set a l, [((a : Int), due)]⟩ = (mayC c && mayL l && (decide (1 ≤ due) && decide (due ≤ 2199023255552))) := by
  simp only [can, mayT, Bool.and_true, Bool.and_eq_true] at h
  have h1 : decide ((0 : Int) ≤ (a : Int)) = true := by simp
  have h2 : decide ((a : Int) < 4096) = true := by simp; omega
  simp only [can, mayT, all_set h.1 (show a < C.length by omega), all_set h.2 (show a < L.length by omega), h1, h2, Bool.and_true, Bool.true_and]
theorem can_two {C L : List Cell} {a : Int} : can ⟨C, L, [(a, 1), (a, 2)]⟩ = false := by
  have h : decide (a + 1 ≤ a) = false := by simp; omega
  simp only [can, mayT, h, Bool.false_and, Bool.and_false]
theorem pairA_one {w : World} {E : TypeId} {a d : Int} : PairA tkv E (w.alloc (.cells #[.int .i64 a, .int .i64 d] E)) (some ⟨w.heap.size, 0, none⟩) [(a, d)] := fun _ =>
  ⟨w.heap.size, 0, _, _, rfl, heap_alloc_new w _, fun i x hx => by
    match i, hx with
    | 0, hx =>
      obtain rfl : (a, d) = x := by simpa using hx
      exact ⟨rfl, rfl⟩⟩
theorem pairA_two {w : World} {E : TypeId} {a d b e : Int} : PairA tkv E (w.alloc (.cells #[.int .i64 a, .int .i64 d, .int .i64 b, .int .i64 e] E)) (some ⟨w.heap.size, 0, none⟩) [(a, d), (b, e)] := fun _ =>
  ⟨w.heap.size, 0, _, _, rfl, heap_alloc_new w _, fun i x hx => by
    match i, hx with
    | 0, hx =>
      obtain rfl : (a, d) = x := by simpa using hx
      exact ⟨rfl, rfl⟩
    | 1, hx =>
      obtain rfl : (b, e) = x := by simpa using hx
      exact ⟨rfl, rfl⟩⟩
theorem tick_one {w : World} {p : Nat} {C L : List Cell} {v : Value} {a d : Int} (h : Chk w p C L v) :
    ChkK ((w.setCell ⟨p, 16384, none⟩ (.slice (some ⟨w.heap.size, 0, none⟩) 1 1)).alloc (.cells #[.int .i64 a, .int .i64 d] 55)) p ⟨C, L, [(a, d)]⟩ := by
  have h2 := h.setT (.slice (some ⟨w.heap.size, 0, none⟩) 1 1)
  have h3 := pairA_one (w := w.setCell ⟨p, 16384, none⟩ (.slice (some ⟨w.heap.size, 0, none⟩) 1 1)) (E := 55) (a := a) (d := d)
  rw [heap_setSz] at h3
  exact ⟨_, 1, h2.below ((Below.refl _ _).alloc (Nat.le_refl _) _), h3.c, by simp, by simp [maxLen], by simp⟩
theorem tick_two {w : World} {p : Nat} {C L : List Cell} {v : Value} {a d b e : Int} (h : Chk w p C L v) :
    ChkK ((w.setCell ⟨p, 16384, none⟩ (.slice (some ⟨w.heap.size, 0, none⟩) 2 2)).alloc (.cells #[.int .i64 a, .int .i64 d, .int .i64 b, .int .i64 e] 55)) p ⟨C, L, [(a, d), (b, e)]⟩ := by
  have h2 := h.setT (.slice (some ⟨w.heap.size, 0, none⟩) 2 2)
  have h3 := pairA_two (w := w.setCell ⟨p, 16384, none⟩ (.slice (some ⟨w.heap.size, 0, none⟩) 2 2)) (E := 55) (a := a) (d := d) (b := b) (e := e)
  rw [heap_setSz] at h3
  exact ⟨_, 2, h2.below ((Below.refl _ _).alloc (Nat.le_refl _) _), h3.c, by simp, by simp [maxLen], by simp⟩
/-- The world at the end of a region, by a name. -/
theorem x_named {K : Exit → Act → World → Prop} {a : Act} {e : Exit} {W : World} (S : World → Prop) (h : S W) (k : ∀ W', S W' → K e a W') : K e a W := k W h
end PackW
end Go.Proofs.YtjllgdlmeoakpaaDoor
