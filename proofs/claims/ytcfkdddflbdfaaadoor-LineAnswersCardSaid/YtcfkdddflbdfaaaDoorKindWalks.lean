/-
  The walks of package kind and of its reference: what each function answers, said by the plain functions of KindPlain, given that the table lies in its variable.
-/
import Derived.Test.YtcfkdddflbdfaaaDoorRows
import Derived.Test.YtcfkdddflbdfaaaDoorKindPlain
import Derived.WalkKit
import Derived.WalkSpells
import Derived.WalkLawsBesides
import Derived.Deep.QuietTactic
import Derived.BigQuiet
import Derived.Lib.Hide
namespace Go.Proofs.YtcfkdddflbdfaaaDoor
open Go.RowKit
namespace KindW
open KindP

/-- The table lies in its variable. -/
structure Tab (w : World) : Prop where
  name : ∀ k, k < 15 → w.cell? ⟨0, k * 4, none⟩ = some (.string ⟨(nm k).toArray⟩)
  least : ∀ k, k < 15 → w.cell? ⟨0, k * 4 + 1, none⟩ = some (.int .u8 (least k))
  most : ∀ k, k < 15 → w.cell? ⟨0, k * 4 + 2, none⟩ = some (.int .u8 (most k))
  trait : ∀ k, k < 15 → w.cell? ⟨0, k * 4 + 3, none⟩ = some (.int .u8 (trait k))
  size : 0 < w.heap.size

theorem Tab.below {w w' : World} (h : Tab w) (b : Below w.heap.size w w') : Tab w' :=
  ⟨fun k hk => (b.cell (p := ⟨0, _, none⟩) h.size).trans (h.name k hk), fun k hk => (b.cell (p := ⟨0, _, none⟩) h.size).trans (h.least k hk),
    fun k hk => (b.cell (p := ⟨0, _, none⟩) h.size).trans (h.most k hk), fun k hk => (b.cell (p := ⟨0, _, none⟩) h.size).trans (h.trait k hk), Nat.lt_of_lt_of_le h.size b.size⟩

set_option maxHeartbeats 400000 in
theorem name_any (k : Nat) (w : World) (hT : Tab w) :
    Calls Tryd.prog 52 #[.int .u8 k] w fun e w' => e = .returned (.string ⟨(nm k).toArray⟩) ∧ w = w' := by
  by_cases h : k < 15
  · have hc := hT.name k h
    clear hT
    go_enter Tryd.func52, Tryd.ntmps52
    go_wp2
    go_ret
    exact ⟨rfl, rfl⟩
  · have e : Hid (nm k = []) := Lib.hid (nm_out (by omega))
    clear hT
    go_enter Tryd.func52, Tryd.ntmps52
    go_wp2
    go_ret
    exact ⟨by rw [e.out]; rfl, rfl⟩

/-- The bits of a kind, asked by package kind. -/
def bit (k : Nat) (t : Int) : Bool := bits BinOp.and IntKind.u8 (KindP.trait k) t != 0
def hasB (k : Nat) (t : Int) : Bool := decide (k < 15) && bit k t

theorem inL_out {l : List Nat} {k : Nat} (h : 15 ≤ k) (hl : ∀ x ∈ l, x < 15) : inL l k = false := by
  unfold inL
  rw [List.contains_eq_any_beq, List.any_eq_false]
  intro x hx
  have := hl x hx
  simp
  omega
theorem hasB_of {f : Nat → Bool} {t : Int} (h : ∀ k, k < 15 → bit k t = f k) (ho : ∀ k, 15 ≤ k → f k = false) (k : Nat) : hasB k t = f k := by
  by_cases hk : k < 15
  · simp [hasB, hk, h k hk]
  · simp [hasB, hk, ho k (by omega)]
theorem b_clear (k : Nat) : hasB k 1 = clear k := hasB_of (by decide) (fun _ h => inL_out h (by decide)) k
theorem b_movable (k : Nat) : hasB k 2 = movable k := hasB_of (by decide) (fun _ h => inL_out h (by decide)) k
theorem b_yields (k : Nat) : hasB k 4 = yields k := hasB_of (by decide) (fun _ h => inL_out h (by decide)) k
theorem b_soaks (k : Nat) : hasB k 8 = soaks k := hasB_of (by decide) (fun _ h => inL_out h (by decide)) k
theorem b_falls (k : Nat) : hasB k 16 = falls k := hasB_of (by decide) (fun _ h => inL_out h (by decide)) k
theorem b_burns (k : Nat) : hasB k 32 = burns k := hasB_of (by decide) (fun _ h => inL_out h (by decide)) k

/-- The list that a slice's block holds. -/
def Row (w : World) (b : Nat) (l : List Nat) : Prop := ∀ i, i < l.length → w.cell? ⟨b, i, none⟩ = some (.int .u8 (l.getD i 0))

end KindW
end Go.Proofs.YtcfkdddflbdfaaaDoor


/-
  The walks of package kind and of its reference, continued: the lists of the reference, levels, cells that may be, lamps, names looked up.
-/
namespace Go.Proofs.YtcfkdddflbdfaaaDoor
open Go.RowKit
namespace KindW
open KindP

theorem row_new (w : World) (l : List Nat) (t : TypeId) : Row (w.alloc (.cells (l.map fun (n : Nat) => Value.int .u8 (n : Int)).toArray t)) w.heap.size l := by
  intro i hi
  rw [World.cell?_alloc_new]
  simp [hi]

set_option maxHeartbeats 400000 in
theorem r_name (k : Nat) (w : World) :
    Calls Tryd.prog 24 #[.int .u8 k] w fun e w' => e = .returned (.string ⟨(nm k).toArray⟩) ∧ Below w.heap.size w w' := by
  by_cases h : k < 15
  · go_enter Tryd.func24, Tryd.ntmps24
    go_wp2
    go_ret
    refine ⟨?_, (Below.refl _ _).alloc (Nat.le_refl _) _⟩
    match k, h with
    | 0, _ | 1, _ | 2, _ | 3, _ | 4, _ | 5, _ | 6, _ | 7, _ | 8, _ | 9, _ | 10, _ | 11, _ | 12, _ | 13, _ | 14, _ => rfl
  · have e : Hid (nm k = []) := Lib.hid (nm_out (by omega))
    go_enter Tryd.func24, Tryd.ntmps24
    go_wp2
    go_ret
    exact ⟨by rw [e.out]; rfl, (Below.refl _ _).alloc (Nat.le_refl _) _⟩

end KindW
end Go.Proofs.YtcfkdddflbdfaaaDoor


/-
  Walks, third part.
-/
namespace Go.Proofs.YtcfkdddflbdfaaaDoor
open Go.RowKit
namespace KindW
open KindP

theorem dec_lt {a b : Nat} {v : Bool} (h : decide (a < b) = v) : decide ((a : Int) < (b : Int)) = v := by
  rw [← h]; simp
theorem dec_le {a b : Nat} {v : Bool} (h : decide (a ≤ b) = v) : decide ((a : Int) ≤ (b : Int)) = v := by
  rw [← h]; simp

theorem may_levels (k l : Nat) : may k l = (decide (k < 15) && !decide (KindP.most k < l) && (!(k == 11) || decide (0 < l))) := by
  by_cases h11 : k = 11
  · subst h11
    rw [Bool.eq_iff_iff]
    simp [may, show KindP.least 11 = 1 from rfl, show KindP.most 11 = 15 from rfl]
    omega
  · by_cases h : k < 15
    · have h0 : KindP.least k = 0 := by
        revert h11
        revert h
        revert k
        decide
      rw [Bool.eq_iff_iff]
      simp [may, h0, h11]
    · simp [may, h]

end KindW
end Go.Proofs.YtcfkdddflbdfaaaDoor
