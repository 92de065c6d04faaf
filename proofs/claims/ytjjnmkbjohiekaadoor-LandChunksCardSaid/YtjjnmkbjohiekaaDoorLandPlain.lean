/-
  The land, plainly: its cells and lights by height; its chunk's.
-/
import Derived.Test.YtjjnmkbjohiekaaDoorRows
import Derived.Test.YtjjnmkbjohiekaaDoorPackMem
import Derived.Test.YtjjnmkbjohiekaaDoorPlaceWalks2
namespace Go.Proofs.YtjjnmkbjohiekaaDoor
open Go.RowKit
set_option linter.unusedVariables false
namespace LandP
open BytesW PackW PlaceW

/-- The kind of layer k. -/
def lay (k : Nat) : Nat := if k = 0 then 1 else if k = 1 then 2 else if k = 2 then 3 else 0
/-- How many layers end below a height. -/
def below_ (y : Int) : Nat := if y < 1 then 0 else if y < 12 then 1 else if y < 16 then 2 else 3
def cellY (y : Int) : Cell := (UInt8.ofNat (lay (below_ y)), 0)
def lightY (y : Int) : Cell := (if y < 16 then 0 else 15, 0)
/-- The cell, the light at a place. -/
def cellA (x y z : Int) : Cell := if mayB x y z = true then cellY y else (0, 0)
def lightA (x y z : Int) : Cell := if mayB x y z = true then lightY y else (0, 0)
def yOf (y : Int) (i : Nat) : Int := 16 * y + (i : Int) / 256
def landC (y : Int) : List Cell := (List.range 4096).map fun i => cellY (yOf y i)
def landL (y : Int) : List Cell := (List.range 4096).map fun i => lightY (yOf y i)
def landK (y : Int) : Ck := ⟨landC y, landL y, []⟩
theorem landC_len (y : Int) : (landC y).length = 4096 := by simp [landC]
theorem landL_len (y : Int) : (landL y).length = 4096 := by simp [landL]
theorem landC_get {y : Int} {i : Nat} (h : i < 4096) : (landC y)[i]? = some (cellY (yOf y i)) := by simp [landC, h]
theorem landL_get {y : Int} {i : Nat} (h : i < 4096) : (landL y)[i]? = some (lightY (yOf y i)) := by simp [landL, h]
/-- What is filled so far. -/
def fillU (l : List Cell) (j : Nat) : List Cell := l.take j ++ zeros.drop j
theorem fillU_zero (l : List Cell) : fillU l 0 = zeros := by simp [fillU]
theorem fillU_all {l : List Cell} (h : l.length = 4096) : fillU l 4096 = l := by
  rw [fillU, List.take_of_length_le (by omega), List.drop_of_length_le (by rw [zeros_len]; omega), List.append_nil]
theorem fillU_len {l : List Cell} {j : Nat} (h : l.length = 4096) (hj : j ≤ 4096) : (fillU l j).length = 4096 := by
  simp [fillU, h, zeros_len]
  omega
theorem fillU_set {l : List Cell} {j : Nat} {c : Cell} (h : l[j]? = some c) (hl : l.length = 4096) : (fillU l j).set j c = fillU l (j + 1) := by
  obtain ⟨hj, e⟩ := List.getElem?_eq_some_iff.1 h
  rw [fillU, upd_set (by simp; omega) (by rw [zeros_len]; omega), fillU, List.take_succ_eq_append_getElem hj, e]
/-- The table of layers lies in its variable. -/
structure LTab (w : World) : Prop where
  lay : ∀ k, k < 4 → w.cell? ⟨0, k, none⟩ = some (.int .u8 (lay k))
  size : 0 < w.heap.size
theorem LTab.below {w w' : World} (h : LTab w) (b : Below w.heap.size w w') : LTab w' :=
  ⟨fun k hk => (b.cell (p := ⟨0, _, none⟩) h.size).trans (h.lay k hk), Nat.lt_of_lt_of_le h.size b.size⟩
theorem LTab.grown {w w' : World} (h : LTab w) {p : Nat} (hp : p ≠ 0) (b : w.grownBy w' (some p)) : LTab w' := by
  have e : w'.heap[0]? = w.heap[0]? := b.block _ h.size (fun e => hp (by injection e with e; exact e.symm))
  refine ⟨fun k hk => ?_, Nat.lt_of_lt_of_le h.size b.size⟩
  rw [← h.lay k hk]
  unfold World.cell?
  simp only [e]
theorem bv_lay (k : Nat) : bv (UInt8.ofNat (lay k)) = .int .u8 (lay k) := by
  unfold lay bv
  split
  · rfl
  · split
    · rfl
    · split <;> rfl
theorem yOf_le {y : Int} {i : Nat} (h0 : 0 ≤ y) (h4 : y < 4) (hi : i < 4096) : 0 ≤ yOf y i ∧ yOf y i < 64 := by
  unfold yOf
  omega
end LandP
end Go.Proofs.YtjjnmkbjohiekaaDoor
