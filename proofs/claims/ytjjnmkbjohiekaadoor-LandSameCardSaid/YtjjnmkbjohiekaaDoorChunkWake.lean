/-
  Drop, Wake.
-/
import Derived.Test.YtjjnmkbjohiekaaDoorChunkRepl
namespace Go.Proofs.YtjjnmkbjohiekaaDoor
open Go.RowKit
set_option linter.unusedVariables false
set_option linter.unusedSimpArgs false
namespace ChunkW
open BytesW PackW

theorem grown_of {w w1 w2 : World} {p : Nat} (hb : Below w.heap.size w w1) (hg : w1.grownBy w2 (some p)) : w.grownBy w2 (some p) := World.grownBy.trans ⟨hb.os, hb.tape, hb.output, hb.size, fun k hk _ => hb.block k hk⟩ hg
theorem chk_set {w : World} {p B n tc : Nat} {C L : List Cell} {v : Value} {TA : Option Addr} {l : List Tick} (h : Chk w p C L v) (ho : OwnP tkv 56 w B (.slice TA n tc) l) (hl : l.length ≤ 1000000) : ChkK (w.setCell ⟨p, 16384, none⟩ (.slice TA n tc)) p ⟨C, L, l⟩ := by
  obtain ⟨A, c, e, hA, h1, h2⟩ := ho.typed
  injection e with e1 e2 e3
  subst e1 e2 e3
  exact ⟨_, _, h.setT _, (pair_chk hA (by decide) h (grown_set w p 16384 _)).c, h1, h2, hl⟩
theorem own_sl {w : World} {B : Nat} {v : Value} {l : List Tick} (h : OwnP tkv 56 w B v l) : ∃ TA tc, v = .slice TA l.length tc := by
  obtain ⟨A, c, e, _⟩ := h.typed
  exact ⟨A, c, e⟩
/-- What Wake and Drop leave. -/
def LeavesP (w : World) (p : Nat) (k : Ck) (e : Ending) (w' : World) : Prop := e = .returned (.tuple #[]) ∧ ChkK w' p k ∧ w.grownBy w' (some p)

theorem cellG {w w' : World} {p b i : Nat} {v : Value} (h : w.cell? ⟨b, i, none⟩ = some v) (hb : b < w.heap.size) (hne : b ≠ p) (hg : w.grownBy w' (some p)) : w'.cell? ⟨b, i, none⟩ = some v := by
  rw [← h]
  unfold World.cell?
  simp only [hg.block b hb (fun e => hne (by injection e))]
theorem one_pair {W : World} {g : Nat} {t : Tick} (hg : g < W.heap.size) (h0 : W.cell? ⟨g, 0, none⟩ = some (.int .i64 t.1)) (h1 : W.cell? ⟨g, 1, none⟩ = some (.int .i64 t.2)) : PairC tkv W (some ⟨g, 0, none⟩) [t] := fun _ => ⟨g, 0, rfl, hg, fun i x hx => by
  match i, hx with
  | 0, hx =>
    obtain rfl : t = x := by simpa using hx
    exact ⟨h0, h1⟩
  | k + 1, hx => simp at hx⟩

end ChunkW
end Go.Proofs.YtjjnmkbjohiekaaDoor
