/-
  bedrocklaw10.works: a stone between two cells of air; what Light answers, whatever the box.
-/
import Derived.Test.YtbkadecfmjjadaaDoorGlowLight
namespace Go.Proofs.YtbkadecfmjjadaaDoor
open Go.RowKit
set_option linter.unusedVariables false
set_option linter.unusedSimpArgs false
namespace GlowW
open BlkP RowG KindP KindW

/-- A law's end. -/
def HoldsP (w : World) (e : Ending) (w' : World) : Prop := e = .returned (.bool true) ∧ Below w.heap.size w w'
theorem ex1_is : lightA 1 3 1 [(0, 0), (2, 0), (0, 0)] = [(0, 0), (0, 0), (15, 0)] := by decide +kernel
/-- Cells of a literal row. -/
theorem rd_new {w : World} {n : Nat} {l : List (Nat × Nat)} {c : Array Value} (hc : c.toList = flat enc2 l) (hn : n = l.length) (hn2 : n ≤ 9223372036854775807) : Rd enc2 (w.alloc (.cells c 32)) (.slice (some ⟨w.heap.size, 0, none⟩) n n) l := by
  subst hn
  refine ⟨some ⟨w.heap.size, 0, none⟩, l.length, rfl, Nat.le_refl _, hn2, fun _ => ⟨w.heap.size, 0, rfl, by simp, fun i x hx j u hu => ?_⟩⟩
  have hj : j < enc2.k := by
    rw [← enc2.len x]
    exact (List.getElem?_eq_some_iff.1 hu).1
  have hb := Blk.newA' (w := w) (b := w.heap.size) (T := 32) (c := c) rfl hc
  rw [Nat.zero_add]
  exact hb.cell ((flat_get hx hj).trans hu)
/-- Light, of numbers however spelled. -/
theorem light_i {w : World} {x y z : Int} {X Y Z : Nat} {A : Option Addr} {n c : Nat} {cs : List (Nat × Nat)} (hT : Tab w) (hR : Rd enc2 w (.slice A n c) cs) (hx : x = X) (hy : y = Y) (hz : z = Z) (hcs : n = cs.length) (hX : 1 ≤ X ∧ X ≤ 256) (hY : 1 ≤ Y ∧ Y ≤ 256) (hZ : 1 ≤ Z ∧ Z ≤ 256) (hn : X * Y * Z = n) (hn2 : n ≤ 262144) :
    Calls Tryd.prog 14 #[.agg #[.int .i64 x, .int .i64 y, .int .i64 z, .slice A n c]] w (LightP w n (lightA X Y Z cs)) := by
  subst hx hy hz
  exact light_c hT hR hcs hX hY hZ hn hn2
/-- A light of the answer, as its two cells. -/
theorem lit2 {w : World} {g : Nat} {ls : List (Nat × Nat)} (h : Blk w g 37 (flat enc2 ls)) {i a b : Nat} (hi : ls[i]? = some (a, b)) : w.cell? ⟨g, i * 2, none⟩ = some (.int .u8 a) ∧ w.cell? ⟨g, i * 2 + 1, none⟩ = some (.int .u8 b) :=
  ⟨h.cell (flat2_get hi).1, h.cell (flat2_get hi).2⟩
set_option maxRecDepth 100000 in
set_option maxHeartbeats 4000000 in
theorem works_c {w : World} (hT : Tab w) : Calls Tryd.prog 13 #[] w (HoldsP w) := by
  have HT := Lib.hid hT
  clear hT
  go_enter Tryd.func13, Tryd.ntmps13
  go_wp2_with fail
  have hb0 : Below w.heap.size w (w.alloc (.cells #[.int .u8 0, .int .u8 0, .int .u8 2, .int .u8 0, .int .u8 0, .int .u8 0] 32)) := (Below.refl _ _).alloc (Nat.le_refl _) _
  have HB0 := Lib.hid hb0
  refine (light_i (X := 1) (Y := 3) (Z := 1) (n := 3) (cs := [(0, 0), (2, 0), (0, 0)]) (HT.out.below hb0) (rd_new rfl rfl (by omega)) rfl rfl rfl rfl (by omega) (by omega) (by omega) rfl (by omega)).mono ?_
  rintro e w1 ⟨g, rfl, hg, hge, hb1⟩
  rw [ex1_is] at hg
  have HB1 := Lib.hid hb1
  obtain ⟨a0, a1⟩ := lit2 hg (i := 0) rfl
  obtain ⟨a2, a3⟩ := lit2 hg (i := 2) rfl
  clear hg hb0 hb1
  go_wp2_with fail
  go_ret
  have hb0 := HB0.out
  have hb1 := HB1.out
  exact ⟨rfl, by (repeat' (first | (with_reducible exact Below.refl _ _) | (with_reducible refine Below.setCell ?_ (by (first | omega | (simp; done) | (simp; omega))) _) | (with_reducible refine Below.alloc ?_ (by (first | omega | (simp; done) | (simp; omega))) _) | (with_reducible refine Below.drew ?_) | (with_reducible refine below_drewN ?_ _) | (with_reducible refine Below.trans ?_ (Below.mono hb0 (by (first | omega | (simp; done) | (simp; omega))))) | (with_reducible refine Below.trans ?_ (Below.mono hb1 (by (first | omega | (simp; done) | (simp; omega)))))))⟩
end GlowW
end Go.Proofs.YtbkadecfmjjadaaDoor
