/-
  written, with its disk at hand.
-/
import Derived.Test.YtjcmpcdalghniaaDoorSectorWorks
namespace Go.Proofs.YtjcmpcdalghniaaDoor
open Go.RowKit
set_option linter.unusedVariables false
set_option linter.unusedSimpArgs false
set_option maxRecDepth 100000
namespace SecW
open BlkP RowG FrS PushG JournalP SecP
theorem run_upto {w : World} {s : Sec} {k : Nat} (h : k ≤ s.length) : (Instr.sliceAt 9 (.string (str s)) none (some (.int .i64 (k : Int))) none).run Tryd.prog w = .ok (.string (str (s.take k))) w := by
  have h1 : (k : Int) ≤ (s.length : Int) := by omega
  have hz := str_size s
  have he : (str s).extract 0 k = str (s.take k) := by
    unfold str
    apply ByteArray.ext
    simp [ByteArray.extract, ByteArray.copySlice]
  simp [Instr.sliceAt, Instr.slice, run_underlying BytesW.under9, Instr.sliceBounds, run_sliceBound, h1, h, Result.andThen, hz, he]
theorem written_i {w : World} {A : Option Addr} {n c : Nat} {L : List (Int × Sec)} {mark : Int} {dd : Dk} (hR : Rd encL w (.slice A n c) L) (hn : L.length = n) (hd : writtenTo L mark (min n 40) = dd) :
    Calls Tryd.prog 21 #[.slice A n c, .int .i64 mark] w fun e w' => ∃ p, e = .returned (.tuple #[.pointer (some ⟨p, 0, none⟩), .int .i64 (dd.ws.length : Int)]) ∧ Made w p dd w' := by
  subst hd
  exact written_c hR hn
end SecW
end Go.Proofs.YtjcmpcdalghniaaDoor
