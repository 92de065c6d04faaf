/-
  A disk's calls with their answers at hand.
-/
import Derived.Test.YtknckaegpdganaaDoorSectorWrite
import Derived.Test.YtknckaegpdganaaDoorSectorLog
-- mine: whole_c same_c awake_c take_c step_c back_c
namespace Go.Proofs.YtknckaegpdganaaDoor
open Go.RowKit
set_option linter.unusedVariables false
set_option linter.unusedSimpArgs false
set_option maxRecDepth 100000
namespace SecW
open BlkP RowG FrS PushG JournalP SecP
theorem Dsk.drew {w : World} {B pd : Nat} {d : Dk} {S : Nat → Prop} (h : Dsk w B pd d S) : Dsk w.drew B pd d S := h.below ((Below.refl _ w).drew)
/-- Calls at any number that is a natural one. -/
theorem New_i {w : World} {n : Int} {k : Nat} (hn : n = (k : Int)) (g1 : 256 ≤ k) (g2 : k ≤ 131072) : Calls Tryd.prog 26 #[.int .i64 n] w fun e w' => ∃ pd, e = .returned (.tuple #[.pointer (some ⟨pd, 0, none⟩), .int .i64 0]) ∧ Made w pd (SecP.mk k) w' := by
  subst hn
  exact New_c g1 g2
/-- Read with its answer at hand; Write with its answer at hand. -/
theorem Read_i {w : World} {B pd : Nat} {d : Dk} {S : Nat → Prop} {i z : Int} {s : Sec} (h : Dsk w B pd d S) (hs : readD d i = s) (hz : readE d i = z) :
    Calls Tryd.prog 49 #[.pointer (some ⟨pd, 0, none⟩), .int .i64 i] w fun e w' => e = .returned (.tuple #[.string (str s), .int .i64 z]) ∧ Below w.heap.size w w' := by
  subst hs hz
  exact Read_c h trivial
theorem Write_i {w : World} {B pd : Nat} {d d' : Dk} {S : Nat → Prop} {i z : Int} {s : Sec} (h : Dsk w B pd d S) (hl : d.ws.length ≤ 1000) (hd : writeD d i s = d') (hz : writeE d i s = z) :
    Calls Tryd.prog 28 #[.pointer (some ⟨pd, 0, none⟩), .int .i64 i, .string (str s)] w fun e w' => e = .returned (.int .i64 z) ∧ Turned w B pd S d' w' := by
  subst hd hz
  exact Write_c h hl
theorem run_idx {w : World} {s : Sec} {i : Int} {k : Nat} {b : UInt8} {z : Int} (hi : i = (k : Int)) (h : s[k]? = some b) (hz : (b.toNat : Int) = z) : (Instr.index 9 (.string (str s)) (.int .i64 i)).run Tryd.prog w = .ok (.int .u8 z) w := by
  subst hi hz
  have hl := (List.getElem?_eq_some_iff.1 h).1
  rw [run_index_string w _ (str s) .i64 (k : Int) BytesW.under9, dif_pos ⟨by omega, by rw [str_size]; omega⟩]
  congr 3
  have e := (List.getElem?_eq_some_iff.1 h).2
  have : (str s)[k]'(by rw [str_size]; exact hl) = s[k] := rfl
  simp only [Int.toNat_natCast]
  rw [this, e]
/-- Writes that came in: any number, any bytes. -/
def encL : Enc (Int × Sec) := ⟨fun q => [.int .i64 q.1, .string (str q.2)], 2, fun _ => rfl, fun x v h => by
  simp only [List.mem_cons, List.not_mem_nil, or_false] at h
  rcases h with rfl | rfl <;> rfl⟩
theorem int_at {w : World} {B g n c i : Nat} {l : List Int} {x : Int} (h : RowG.Own RowG.encI 3 w B (.slice (some ⟨g, 0, none⟩) n c) l) (hx : l[i]? = some x) : w.cell? ⟨g, i, none⟩ = some (.int .i64 x) := by
  have := h.cell (j := 0) hx rfl
  have e : i * RowG.encI.k + 0 = i := by
    show i * 1 + 0 = i
    omega
  rw [e] at this
  exact this
end SecW
end Go.Proofs.YtknckaegpdganaaDoor
