/-
  The law's own helpers: row, over, falls, pushes, awake.
-/
import Derived.Test.YtlahkmkipciiiaaDoorFallRun
namespace Go.Proofs.YtlahkmkipciiiaaDoor
open Go.RowKit
set_option linter.unusedVariables false
set_option linter.unusedSimpArgs false
namespace FallW
open BlkP RowG FrS PushG CellsW NearW
open FallP hiding Cl
abbrev TU : TypeId := 5
/-- Kinds. -/
def encU : Enc Nat := ⟨fun k => [.int .u8 (k : Int)], 1, fun _ => rfl, fun x v h => by
  simp only [List.mem_cons, List.not_mem_nil, or_false] at h
  subst h
  rfl⟩
def cells (ks : List Nat) : List Cl := ks.map fun k => (k, 0)
theorem cells_len (ks : List Nat) : (cells ks).length = ks.length := List.length_map _
theorem rdU {w : World} {g n : Nat} {ks : List Nat} (h : Blk w g TU (flat encU ks)) (hn : ks.length = n) (h1 : n ≤ 1000000) : Rd encU w (.slice (some ⟨g, 0, none⟩) n n) ks := (own_lit (e := encU) (B := 0) h (Nat.zero_le _) hn h1).rd
theorem results_Ni {i : Nat} {fn : Func} {tmps : Array Value} {w : World} {b : Nat} {n : Nr} (hr : fn.results = #[.cell i TN]) (ht : tmps.getD i undef = .pointer (some ⟨b, 0, none⟩)) (h : Blk w b TN (vals n)) : (results fn tmps).run Tryd.prog w = .ok (nv n) w := by
  have hl := run_loadN h
  unfold results
  rw [hr]
  simp only [Array.mapM_eq_mapM_toList, List.mapM_cons, List.mapM_nil, map_eq_pure_bind, ht, asAddr, bind_assoc, pure_bind, Sem.run_bind, Sem.run_pure, hl, Result.andThen_ok]
  rfl
theorem field_deed (w : World) (A : Option Addr) (n c : Nat) : (Instr.field TD (.agg #[.slice A n c, .int .i64 0, .int .i64 0]) 0).run Tryd.prog w = .ok (.slice A n c) w := by kernel_rfl
/-- A cell of one kind over one of another; all else Air. -/
def ovr (k b : Nat) : Nr := {nz with s := (k, 0), sd := upd nz.sd 5 (b, 0)}
theorem ovr_s (k b : Nat) : (ovr k b).s = (k, 0) := rfl
theorem ovr_5 (k b : Nat) : (ovr k b).sd 5 = (b, 0) := rfl
end FallW
end Go.Proofs.YtlahkmkipciiiaaDoor
