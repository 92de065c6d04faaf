/-
  How many cells a slice that came in has, where what is read is of bounded bulk.
-/
import Derived.Test.YtlcnhommlcdilaaDoorRows
import Derived.Test.YtlcnhommlcdilaaDoorCellsArg
namespace Go.Proofs.YtlcnhommlcdilaaDoor
open Go.ChangeShapes Go.WideShapes Go.ChangeAt Go.RowKit Go.Deep
set_option linter.unusedVariables false
namespace FallW
open CellsW
theorem bulk_pos {H : Type} (d : DataW H) : 0 < Rows.uptoBulk d := by
  cases d with
  | lit l => cases l <;> simp [Rows.uptoBulk]
  | _ => simp [Rows.uptoBulk]
theorem bulk_len {H : Type} : ∀ l : List (DataW H), l.length ≤ Rows.uptoBulkAll l
  | [] => Nat.zero_le _
  | d :: r => by
    have h1 := bulk_pos d
    have h2 := bulk_len r
    simp only [Rows.uptoBulkAll, List.length_cons]
    omega
theorem cells_bulk {H : Type} {enc : TypeId × Value → H} {W : World} {A : Option Addr} {n c : Nat} {d : DataW H} {p : List MemPlace} (h : DataW.Trod enc Tryd.prog W 0 (fun _ => true) true TKS (.slice A n c) d p) : n ≤ Rows.uptoBulk d := by
  obtain ⟨fuel, hf⟩ := h
  rcases DataW.trod_slice (cs := [.slice A n c]) Tryd.underlying38 hf with ⟨h0, _⟩ | ⟨a, len, cap, elems, rest, m, _, hcs, he, _, _, _, hl, _⟩
  · injection h0 with h0 _
    injection h0 with _ h0 _
    omega
  · injection hcs with hcs _
    injection hcs with _ hn _
    have hy : d = DataW.slice (elems.map (·.1)) (rest.map (·.1)) := by
      have := congrArg Prod.fst he
      simpa using this
    have h2 := bulk_len (elems.map (·.1))
    rw [List.length_map] at h2
    rw [hy]
    simp only [Rows.uptoBulk]
    omega
end FallW
end Go.Proofs.YtlcnhommlcdilaaDoor
