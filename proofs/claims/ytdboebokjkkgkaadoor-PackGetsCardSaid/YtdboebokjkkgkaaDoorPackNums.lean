/-
  A chunk's lights as numbers.
-/
import Derived.Laws.CopyOwn
import Derived.Deep.RegionLaw
import Derived.Deep.OwnRows
import Derived.Laws.OwnMore
import Derived.RegionTactic
import Derived.Test.YtdboebokjkkgkaaDoorPackMem
import Derived.Test.YtdboebokjkkgkaaDoorRunsRepeat
namespace Go.Proofs.YtdboebokjkkgkaaDoor
open Go.RowKit
set_option linter.unusedVariables false
set_option linter.unusedSimpArgs false
namespace PackW
open BytesW RunsW

def NumRel (w : World) (g : Nat) (l : List Value) (v : Value) (wr : World) : Prop := ∃ j : Nat, v = .int .i64 j ∧ j ≤ 4096 ∧ wr.heap[g]? = some (.cells (fillL l j 4096 (.int .u8 0)).toArray 5 (0, 0)) ∧ Below w.heap.size w wr ∧ g < wr.heap.size

set_option maxRecDepth 100000 in
set_option maxHeartbeats 4000000 in
theorem numbers_c {w : World} {p o : Nat} {L : List Cell} (hA : PairC cv w (some ⟨p, o, none⟩) L) (hL : L.length = 4096) :
    Calls Tryd.prog 26 #[.pointer (some ⟨p, o, none⟩)] w (Gives w (L.map lnum)) := by
  obtain ⟨i, hi, hz, hs1, hby⟩ := info_parts info5
  obtain ⟨N, hN⟩ : ∃ N, N = 4096 := ⟨_, rfl⟩
  have HN := Lib.hid hN
  have HB := Lib.hid (show i.bytes * N ≤ 281474976710656 by rw [hby]; omega)
  have HI := Lib.hid hi
  have HZ := Lib.hid hz
  have HS := Lib.hid hs1
  have HA := Lib.hid hA
  have HL := Lib.hid hL
  clear hi hz hs1 hby hN hA
  go_enter Tryd.func26, Tryd.ntmps26
  go_wp2_with (first
    | ((with_reducible refine at_slot 6 ?_); refine wpList_make_row _ rfl _ _ 26 rfl 5 i (.int .u8 0) under26 HI.out HZ.out HS.out rfl .i64 .i64 N (by rw [HN.out]; rfl) (by rw [HN.out]; rfl) HB.out (by have := HN.out; omega) ?_; rw [madeCells_list]))
  go_loopw [8] (NumRel w w.heap.size ((L.map lnum).map bv)) (fun v _ => 4096 - (intOf v).toNat)
  case atStart =>
    refine ⟨0, rfl, by omega, ?_, (Below.refl _ _).alloc (Nat.le_refl _) _, by simp⟩
    rw [heap_alloc_new, HN.out, fillL_start]
  case round =>
    obtain ⟨j, rfl, hj, hg, hbw, hlt⟩ := hrel
    have HG := Lib.hid hg
    have HB := Lib.hid hbw
    clear hg hbw
    by_cases hj4 : j < 4096
    · have hjI : (j : Int) < 4096 := by omega
      obtain ⟨b, o', e, hbl, hcs⟩ := (HA.out.below HB.out).cells (fun e => by rw [e] at hL; simp at hL)
      simp only [Option.some.injEq, Addr.mk.injEq] at e
      obtain ⟨rfl, rfl, _⟩ := e
      obtain ⟨⟨x, y⟩, hx⟩ : ∃ x, L[j]? = some x := ⟨_, List.getElem?_eq_getElem (by omega)⟩
      obtain ⟨h0, h1⟩ := hcs j _ hx
      obtain ⟨X, hX⟩ : ∃ X : Int, X = (x.toNat : Int) := ⟨_, rfl⟩
      obtain ⟨Y, hY⟩ : ∃ Y : Int, Y = (y.toNat : Int) := ⟨_, rfl⟩
      simp only [cv, bv, ← hX, ← hY] at h0 h1
      have hX0 : 0 ≤ X := by omega
      have hX1 : X < 256 := by have := x.toNat_lt; omega
      have hY0 : 0 ≤ Y := by omega
      have hY1 : Y < 256 := by have := y.toNat_lt; omega
      have HX := Lib.hid hX
      have HY := Lib.hid hY
      have Hx := Lib.hid hx
      clear hX hY hcs hx
      go_wp2_with fail
      go_region
      have g2 : wr.cell? ⟨w.heap.size, j, none⟩ = some (.int .u8 0) := by
        rw [cell_of_row wr w.heap.size j _ _ _ HG.out, List.getElem?_toArray, fillL_last hj4 (by simp [hL])]
      have f2 : wr.frozen? ⟨w.heap.size, j, none⟩ = false := by simp [World.frozen?, HG.out]
      have hne : w.heap.size ≠ wr.heap.size := by omega
      have hjN : (j : Int) < N := by have := HN.out; omega
      go_wp2_with fail
      go_roundw
      case rel =>
        refine ⟨j + 1, by go_num, by omega, ?_, (((HB.out.setCell (by simp) _).alloc (by rw [heap_setSz]; omega) _).drew), by simp [World.setCell]; omega⟩
        show ((wr.setCell ⟨w.heap.size, j, none⟩ (.int .u8 ((16 * X + Y) % 256))).alloc _).heap[w.heap.size]? = _
        rw [Below.heap_alloc _ _ _ (by rw [heap_setSz]; omega), heap_set HG.out, List.setIfInBounds_toArray, fillL_set ?_ (by simp [hL])]
        rw [List.getElem?_map, List.getElem?_map, Hx.out]
        simp only [Option.map_some, bv, lnum, UInt8.toNat_add, UInt8.toNat_mul, UInt8.reduceToNat]
        have hX := HX.out
        have hY := HY.out
        congr 2
        omega
      case measure => simp [intOf]; omega
    · have hjI : ¬ (j : Int) < 4096 := by omega
      go_wp2_with fail
      go_ret
      obtain rfl : j = 4096 := by omega
      refine ⟨_, rfl, own_full ?_ (Nat.le_refl _) (by simp [hL, HN.out]) (by simp [hL]), HB.out⟩
      rw [HG.out]
      have := fillL_all ((L.map lnum).map bv) (.int .u8 0)
      simp only [List.length_map, hL] at this
      rw [this]
end PackW
end Go.Proofs.YtdboebokjkkgkaaDoor
