/-
  What a world holds in blocks laid since a call began, as one list: it is kept by whatever turns nothing below the world's own size.
-/
import Derived.Test.YtbnkaeigabifhaaDoorRows
import Derived.WalkKit
import Derived.Below
import Derived.Deep.Draws
namespace Go.Proofs.YtbnkaeigabifhaaDoor
open Go.RowKit
set_option linter.unusedVariables false
set_option linter.unusedSimpArgs false
namespace HeldP

/-- W holds these cells, in blocks below its size; and it is as w was below that one's size. -/
def CellsB (w W : World) : List (Nat × Nat × Value) → Prop
  | [] => w.heap.size ≤ W.heap.size ∧ Below w.heap.size w W
  | (b, i, v) :: r => (W.cell? ⟨b, i, none⟩ = some v ∧ b < W.heap.size) ∧ CellsB w W r

theorem CellsB.keep {w W W' : World} (hb : Below W.heap.size W W') : ∀ {l : List (Nat × Nat × Value)}, CellsB w W l → CellsB w W' l
  | [], ⟨hs, h⟩ => ⟨Nat.le_trans hs hb.size, h.trans (hb.mono hs)⟩
  | (b, i, v) :: r, ⟨⟨hc, hl⟩, h⟩ => ⟨⟨(hb.cell (p := ⟨b, i, none⟩) hl).trans hc, Nat.lt_of_lt_of_le hl hb.size⟩, CellsB.keep hb h⟩
theorem CellsB.below {w W : World} : ∀ {l : List (Nat × Nat × Value)}, CellsB w W l → Below w.heap.size w W
  | [], h => h.2
  | _ :: _, h => CellsB.below h.2
theorem CellsB.alloc {w W : World} {l : List (Nat × Nat × Value)} (o : Obj) (h : CellsB w W l) : CellsB w (W.alloc o) l := h.keep ((Below.refl _ _).alloc (Nat.le_refl _) o)
theorem CellsB.drew {w W : World} {l : List (Nat × Nat × Value)} (h : CellsB w W l) : CellsB w W.drew l := h.keep (Below.refl _ _).drew
/-- A new block's cells. -/
theorem CellsB.new {w W : World} {l : List (Nat × Nat × Value)} (vs : Array Value) (T : TypeId) (i : Nat) (v : Value) (hv : vs[i]? = some v) (h : CellsB w (W.alloc (.cells vs T)) l) :
    CellsB w (W.alloc (.cells vs T)) ((W.heap.size, i, v) :: l) :=
  ⟨⟨(World.cell?_alloc_new _ _ _ _).trans hv, by simp⟩, h⟩
theorem CellsB.one {w W : World} {l : List (Nat × Nat × Value)} {b i : Nat} {v : Value} (hc : W.cell? ⟨b, i, none⟩ = some v) (hl : b < W.heap.size) (h : CellsB w W l) : CellsB w W ((b, i, v) :: l) := ⟨⟨hc, hl⟩, h⟩
theorem CellsB.nil {w W : World} (hs : w.heap.size ≤ W.heap.size) (h : Below w.heap.size w W) : CellsB w W [] := ⟨hs, h⟩
section
variable {W : World} {a b : Addr} {u v : Value} {r : Option Value} {m : Option Bool} {k n : Nat}
theorem c_drew (h : W.cell? a = r) : W.drew.cell? a = r := h
theorem c_drewN (h : W.cell? a = r) : (W.drewN n).cell? a = r := h
theorem c_other (hne : a ≠ b) (h : W.cell? b = r) : (W.setCell a v).cell? b = r := (World.cell?_setCell_other _ _ _ _ hne).trans h
theorem c_same {k' i : Nat} (hk : k' = k) (h : ∃ u, W.cell? ⟨k, i, none⟩ = some u) : (W.setCell ⟨k', i, none⟩ v).cell? ⟨k, i, none⟩ = some v := by
  subst hk
  obtain ⟨u, h⟩ := h
  exact World.cell?_setCell_same _ _ _ h
theorem e_drew (h : ∃ u, W.cell? a = some u) : ∃ u, W.drew.cell? a = some u := h
theorem e_drewN (h : ∃ u, W.cell? a = some u) : ∃ u, (W.drewN n).cell? a = some u := h
theorem e_set (h : ∃ u, W.cell? b = some u) : ∃ u, (W.setCell a v).cell? b = some u := by
  obtain ⟨u, h⟩ := h
  by_cases e : a = b
  · subst e
    exact ⟨_, World.cell?_setCell_same _ _ _ h⟩
  · exact ⟨u, (World.cell?_setCell_other _ _ _ _ e).trans h⟩
theorem e_alloc {o : Obj} (hl : a.block < W.heap.size) (h : ∃ u, W.cell? a = some u) : ∃ u, (W.alloc o).cell? a = some u := by
  obtain ⟨u, h⟩ := h
  exact ⟨u, (World.cell?_alloc_lt _ _ _ hl).trans h⟩
theorem e_new {c : Array Value} {t : TypeId} {i : Nat} (hb : k = W.heap.size) (h : ∃ u, c[i]? = some u) : ∃ u, (W.alloc (.cells c t)).cell? ⟨k, i, none⟩ = some u := by
  subst hb
  obtain ⟨u, h⟩ := h
  exact ⟨u, (World.cell?_alloc_new _ c t i).trans h⟩
theorem c_alloc {o : Obj} (hl : a.block < W.heap.size) (h : W.cell? a = r) : (W.alloc o).cell? a = r := (World.cell?_alloc_lt _ _ _ hl).trans h
theorem c_new {c : Array Value} {t : TypeId} {i : Nat} (hb : k = W.heap.size) (h : c[i]? = r) : (W.alloc (.cells c t)).cell? ⟨k, i, none⟩ = r := by
  subst hb
  exact (World.cell?_alloc_new _ c t i).trans h
theorem c_below {B : Nat} {W' : World} (hb : Below B W W') (hl : a.block < B) (h : W.cell? a = r) : W'.cell? a = r := (hb.cell hl).trans h
theorem f_below {x : Bool} {B : Nat} {W' : World} (hb : Below B W W') (hl : a.block < B) (h : W.frozen? a = x) : W'.frozen? a = x := (hb.frozen hl).trans h
theorem f_drew {x : Bool} (h : W.frozen? a = x) : W.drew.frozen? a = x := h
theorem f_drewN {x : Bool} (h : W.frozen? a = x) : (W.drewN n).frozen? a = x := h
theorem f_set {x : Bool} (h : W.frozen? b = x) : (W.setCell a v).frozen? b = x := (World.frozen?_setCell _ _ _ _).trans h
theorem f_alloc {x : Bool} {o : Obj} (hl : a.block < W.heap.size) (h : W.frozen? a = x) : (W.alloc o).frozen? a = x := (World.frozen?_alloc_old _ _ _ (Nat.ne_of_lt hl)).trans h
theorem f_new {c : Array Value} {t : TypeId} {i : Nat} (hb : k = W.heap.size) : (W.alloc (.cells c t)).frozen? ⟨k, i, none⟩ = false := by
  subst hb
  exact World.frozen?_alloc_new _ c t i
theorem s_drew (h : k < W.heap.size) : k < W.drew.heap.size := h
theorem s_drewN (h : k < W.heap.size) : k < (W.drewN n).heap.size := h
theorem s_set (h : k < W.heap.size) : k < (W.setCell a v).heap.size := by simpa [World.setCell] using h
theorem s_alloc {o : Obj} (h : k < W.heap.size) : k < (W.alloc o).heap.size := by simp; omega
theorem s_new {o : Obj} (h : k = W.heap.size) : k < (W.alloc o).heap.size := by simp; omega
end
/-- The world at hand gets a name: of it is known what S says. -/
theorem wp_named {P : Program} {c : Code} {Q : Exit → Act → World → Prop} {a : Act} {W : World} (S : World → Prop) (h : S W) (k : ∀ W', S W' → c.wp P Q a W') : c.wp P Q a W := k W h
theorem bp_named {P : Program} {fn : Func} {R : Ending → World → Prop} {e : Exit} {a : Act} {W : World} (S : World → Prop) (h : S W) (k : ∀ W', S W' → bodyPost P fn R e a W') : bodyPost P fn R e a W := k W h
end HeldP
end Go.Proofs.YtbnkaeigabifhaaDoor


/-
  Small words for every seat: what lies below a world's size stays.
-/
namespace Go.Proofs.YtbnkaeigabifhaaDoor
open Go.RowKit
namespace BaseP
theorem bcell {W w1 : World} (hb : Below W.heap.size W w1) : (∀ b o, b < W.heap.size → w1.cell? ⟨b, o, none⟩ = W.cell? ⟨b, o, none⟩) ∧ (∀ b o, b < W.heap.size → w1.frozen? ⟨b, o, none⟩ = W.frozen? ⟨b, o, none⟩) :=
  ⟨fun b o h => hb.cell (p := ⟨b, o, none⟩) h, fun b o h => hb.frozen (p := ⟨b, o, none⟩) h⟩
theorem below_drewN {B : Nat} {a w : World} (h : Below B a w) (n : Nat) : Below B a (w.drewN n) := ⟨h.os, h.tape, h.output, h.size, h.block⟩
theorem p2 {α β : Type} {a a' : α} {b b' : β} (h : (a, b) = (a', b')) : a = a' ∧ b = b' := by simpa using h
theorem p3 {α β γ : Type} {a a' : α} {b b' : β} {c c' : γ} (h : (a, b, c) = (a', b', c')) : a = a' ∧ b = b' ∧ c = c' := by simpa using h
theorem p4 {α β γ δ : Type} {a a' : α} {b b' : β} {c c' : γ} {d d' : δ} (h : (a, b, c, d) = (a', b', c', d')) : a = a' ∧ b = b' ∧ c = c' ∧ d = d' := by simpa using h
end BaseP
end Go.Proofs.YtbnkaeigabifhaaDoor


/-
  The world at hand gets a name, behind a region.
-/
namespace Go.Proofs.YtbnkaeigabifhaaDoor
open Go.RowKit
namespace HeldP
theorem then_named {K : Act → World → Prop} {Q : Exit → Act → World → Prop} {a : Act} {W : World} (S : World → Prop) (h : S W) (k : ∀ W', S W' → Exit.then K Q .normal a W') : Exit.then K Q .normal a W := k W h
end HeldP
end Go.Proofs.YtbnkaeigabifhaaDoor
