/-
  replace, Due.
-/
import Derived.Test.YtjjnmkbjohiekaaDoorChunkConcat
namespace Go.Proofs.YtjjnmkbjohiekaaDoor
open Go.RowKit
set_option linter.unusedVariables false
set_option linter.unusedSimpArgs false
namespace ChunkW
open BytesW PackW

theorem run_fromT (w : World) {A : Option Addr} {L c k : Nat} (h1 : k ≤ L) : (Instr.sliceAt 45 (.slice A L c) (some (.int .i64 (k : Int))) none none).run Tryd.prog w = .ok (.slice (if c = k then A else A.map (·.add (k * 2))) (L - k) (c - k)) w := by
  obtain ⟨i, hi, _, hs, _⟩ := info_parts infoTick
  have h0 : (k : Int) ≤ L := by omega
  simp [Instr.sliceAt, Instr.slice, run_underlying underTicks, Instr.sliceBounds, run_sliceBound, h0, h1, Result.andThen, sizeOf, typeInfo, hi, hs]
theorem PairC.drop {α : Type} {f : α → Value × Value} {w : World} {A : Option Addr} {l : List α} (h : PairC f w A l) (k c : Nat) (hc : l.length ≤ c) : PairC f w (if c = k then A else A.map (·.add (k * 2))) (l.drop k) := fun hl => by
  have hk : k < l.length := by
    rcases Nat.lt_or_ge k l.length with h1 | h1
    · exact h1
    · exact absurd (List.drop_of_length_le h1) hl
  obtain ⟨b, o, rfl, hb, hcs⟩ := h (fun e => by rw [e] at hk; simp at hk)
  rw [if_neg (by omega)]
  refine ⟨b, o + k * 2, by simp [Addr.add], hb, fun i x hx => ?_⟩
  rw [List.getElem?_drop] at hx
  have := hcs (k + i) x hx
  rw [show o + (k + i) * 2 = o + k * 2 + i * 2 by omega] at this
  exact this
end ChunkW
end Go.Proofs.YtjjnmkbjohiekaaDoor
