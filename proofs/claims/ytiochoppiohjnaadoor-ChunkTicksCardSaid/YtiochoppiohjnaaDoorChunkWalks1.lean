/-
  Whether a chunk may be: its cells, its lights.
-/
import Derived.Deep.RegionHeld3
import Derived.RegionTactic
import Derived.BigQuiet
import Derived.Test.YtiochoppiohjnaaDoorHeldP
import Derived.Test.YtiochoppiohjnaaDoorChkLoad
import Derived.Test.YtiochoppiohjnaaDoorPairRows
import Derived.Test.YtiochoppiohjnaaDoorChunkPlain
import Derived.Test.YtiochoppiohjnaaDoorKindWalks
namespace Go.Proofs.YtiochoppiohjnaaDoor
open Go.RowKit
set_option linter.unusedVariables false
set_option linter.unusedSimpArgs false
namespace ChunkW
open BytesW PackW

theorem isIndex_c {w : World} {i : Int} {r : Bool} (hr : isIx i = r) : Calls Tryd.prog 48 #[.int .i64 i] w fun e w' => e = .returned (.bool r) ∧ w = w' := by
  by_cases h0 : 0 ≤ i
  · have e0 : decide (0 ≤ i) = true := by simpa using h0
    by_cases h1 : i < 4096
    · have e1 : decide (i < 4096) = true := by simpa using h1
      have HR : Hid (r = true) := Lib.hid (by rw [← hr, isIx, e0, e1]; rfl)
      clear hr h0 h1
      go_enter Tryd.func48, Tryd.ntmps48
      go_wp2_with fail
      go_ret
      exact ⟨by rw [HR.out]; rfl, rfl⟩
    · have e1 : decide (i < 4096) = false := by simpa using h1
      have HR : Hid (r = false) := Lib.hid (by rw [← hr, isIx, e0, e1]; rfl)
      clear hr h0 h1
      go_enter Tryd.func48, Tryd.ntmps48
      go_wp2_with fail
      go_ret
      exact ⟨by rw [HR.out]; rfl, rfl⟩
  · have e0 : decide (0 ≤ i) = false := by simpa using h0
    have HR : Hid (r = false) := Lib.hid (by rw [← hr, isIx, e0]; rfl)
    clear hr h0
    go_enter Tryd.func48, Tryd.ntmps48
    go_wp2_with fail
    go_ret
    exact ⟨by rw [HR.out]; rfl, rfl⟩

theorem all_take {α : Type} {l : List α} {f : α → Bool} {j : Nat} {x : α} (h : (l.take j).all f = true) (hx : l[j]? = some x) (hf : f x = true) : (l.take (j + 1)).all f = true := by
  rw [List.take_add_one, hx, List.all_append, h]
  simp [hf]
theorem all_no {α : Type} {l : List α} {f : α → Bool} {j : Nat} {x : α} (hx : l[j]? = some x) (hf : f x = false) : l.all f = false := by
  rw [List.all_eq_false]
  exact ⟨x, List.mem_of_getElem? hx, by simp [hf]⟩
def AllRel {α : Type} (w : World) (n : Nat) (C : List α) (f : α → Bool) (i : Value) (wr : World) : Prop := ∃ j : Nat, i = .int .i64 j ∧ j ≤ n ∧ (C.take j).all f = true ∧ Below w.heap.size w wr

set_option maxRecDepth 100000 in
set_option maxHeartbeats 4000000 in
theorem cellsMay_c {w : World} {p o : Nat} {C : List Cell} {r : Bool} (hT : KindW.Tab w) (hp : p < w.heap.size) (hA : PairC cv w (some ⟨p, o, none⟩) C) (hC : C.length = 4096) (hr : C.all mayC = r) :
    Calls Tryd.prog 32 #[.pointer (some ⟨p, o, none⟩)] w fun e w' => e = .returned (.bool r) ∧ Below w.heap.size w w' := by
  have HT := Lib.hid hT
  have HA := Lib.hid hA
  have HR := Lib.hid hr
  have HC := Lib.hid hC
  clear hT hA hr hC
  go_enter Tryd.func32, Tryd.ntmps32
  go_wp2_with fail
  go_loopw [6] (AllRel w 4096 C mayC) (fun v _ => 4096 - (intOf v).toNat)
  case atStart => exact ⟨0, rfl, by omega, rfl, Below.refl _ _⟩
  case round =>
    obtain ⟨j, rfl, hj, hall, hbw⟩ := hrel
    have HB := Lib.hid hbw
    have HAL := Lib.hid hall
    have hz := hbw.size
    clear hbw hall
    by_cases hj4 : j < 4096
    · have hjI : (j : Int) < 4096 := by omega
      obtain ⟨x, hx⟩ : ∃ x, C[j]? = some x := ⟨_, List.getElem?_eq_getElem (by have := HC.out; omega)⟩
      obtain ⟨b, o', e, hbl, hcs⟩ := (HA.out.below HB.out).cells (fun e => by rw [e] at hx; simp at hx)
      injection e with e
      injection e with e1 e2
      subst e1 e2
      obtain ⟨g0, g1⟩ := hcs j x hx
      obtain ⟨X, hX⟩ : ∃ X : Int, X = (x.1.toNat : Int) := ⟨_, rfl⟩
      obtain ⟨Y, hY⟩ : ∃ Y : Int, Y = (x.2.toNat : Int) := ⟨_, rfl⟩
      obtain ⟨m, hm⟩ : ∃ m, mayC x = m := ⟨_, rfl⟩
      simp only [cv, bv, ← hX, ← hY] at g0 g1
      have HMAY : Hid (∀ w : World, KindW.Tab w → Calls Tryd.prog 50 #[.agg #[.int .u8 X, .int .u8 Y]] w fun e w' => e = .returned (.bool m) ∧ Below w.heap.size w w') := Lib.hid (fun w h => by rw [hX, hY, ← hm]; exact KindW.k_may _ _ w h)
      have Hx := Lib.hid hx
      have HM := Lib.hid hm
      clear hx hX hY hm hcs
      go_wp2_with fail
      go_at_call 50
      refine calls_namedW (fun W => Below w.heap.size w W) (by have HBo := HB.out; (repeat' (first | (with_reducible exact Below.refl _ _) | (with_reducible refine Below.setCell ?_ (by (first | omega | (simp; done) | (simp; omega))) _) | (with_reducible refine Below.alloc ?_ (by (first | omega | (simp; done) | (simp; omega))) _) | (with_reducible refine Below.drew ?_) | (with_reducible refine below_drewN ?_ _) | (with_reducible refine Below.trans ?_ (Below.mono HBo (by (first | omega | (simp; done) | (simp; omega)))))))) ?_
      rintro w1 hb1
      refine (HMAY.out _ (HT.out.below hb1)).mono ?_
      rintro e w2 ⟨rfl, hb2⟩
      have HB2 := Lib.hid (below_t hb1 hb2)
      clear hb1 hb2 g0 g1
      cases m
      · have HF : Hid (r = false) := Lib.hid (by rw [← HR.out, all_no Hx.out HM.out])
        go_wp2_with fail
        go_ret
        exact ⟨by rw [HF.out]; rfl, HB2.out⟩
      · go_wp2_with fail
        go_roundw
        case rel => exact ⟨j + 1, by go_num, by omega, all_take HAL.out Hx.out HM.out, HB2.out⟩
        case measure => simp [intOf]; omega
    · have hjI : ¬ (j : Int) < 4096 := by omega
      have HF : Hid (r = true) := Lib.hid (by rw [← HR.out]; have h := HAL.out; rw [List.take_of_length_le (by have := HC.out; omega)] at h; exact h)
      go_wp2_with fail
      go_ret
      exact ⟨by rw [HF.out]; rfl, HB.out⟩

set_option maxRecDepth 100000 in
set_option maxHeartbeats 4000000 in
theorem lightsMay_c {w : World} {p o : Nat} {C : List Cell} {r : Bool} (hp : p < w.heap.size) (hA : PairC cv w (some ⟨p, o, none⟩) C) (hC : C.length = 4096) (hr : C.all mayL = r) :
    Calls Tryd.prog 33 #[.pointer (some ⟨p, o, none⟩)] w fun e w' => e = .returned (.bool r) ∧ Below w.heap.size w w' := by
  have HA := Lib.hid hA
  have HR := Lib.hid hr
  have HC := Lib.hid hC
  clear hA hr hC
  go_enter Tryd.func33, Tryd.ntmps33
  go_wp2_with fail
  go_loopw [6] (AllRel w 4096 C mayL) (fun v _ => 4096 - (intOf v).toNat)
  case atStart => exact ⟨0, rfl, by omega, rfl, Below.refl _ _⟩
  case round =>
    obtain ⟨j, rfl, hj, hall, hbw⟩ := hrel
    have HB := Lib.hid hbw
    have HAL := Lib.hid hall
    have hz := hbw.size
    clear hbw hall
    by_cases hj4 : j < 4096
    · have hjI : (j : Int) < 4096 := by omega
      obtain ⟨x, hx⟩ : ∃ x, C[j]? = some x := ⟨_, List.getElem?_eq_getElem (by have := HC.out; omega)⟩
      obtain ⟨b, o', e, hbl, hcs⟩ := (HA.out.below HB.out).cells (fun e => by rw [e] at hx; simp at hx)
      injection e with e
      injection e with e1 e2
      subst e1 e2
      obtain ⟨g0, g1⟩ := hcs j x hx
      obtain ⟨X, hX⟩ : ∃ X : Int, X = (x.1.toNat : Int) := ⟨_, rfl⟩
      obtain ⟨Y, hY⟩ : ∃ Y : Int, Y = (x.2.toNat : Int) := ⟨_, rfl⟩
      simp only [cv, bv, ← hX, ← hY] at g0 g1
      have Hx := Lib.hid hx
      have HX := Lib.hid hX
      have HY := Lib.hid hY
      clear hx hX hY hcs
      by_cases c1 : 15 < X
      · have e1 : decide (15 < X) = true := by simpa using c1
        have HF : Hid (r = false) := Lib.hid (by
          rw [← HR.out]
          refine all_no Hx.out ?_
          have := HX.out
          simp [mayL]
          omega)
        clear c1
        go_wp2_with fail
        go_ret
        exact ⟨by rw [HF.out]; rfl, by have HBo := HB.out; (repeat' (first | (with_reducible exact Below.refl _ _) | (with_reducible refine Below.setCell ?_ (by (first | omega | (simp; done) | (simp; omega))) _) | (with_reducible refine Below.alloc ?_ (by (first | omega | (simp; done) | (simp; omega))) _) | (with_reducible refine Below.drew ?_) | (with_reducible refine below_drewN ?_ _) | (with_reducible refine Below.trans ?_ (Below.mono HBo (by (first | omega | (simp; done) | (simp; omega)))))))⟩
      · have e1 : decide (15 < X) = false := by simpa using c1
        by_cases c2 : 15 < Y
        · have e2 : decide (15 < Y) = true := by simpa using c2
          have HF : Hid (r = false) := Lib.hid (by
            rw [← HR.out]
            refine all_no Hx.out ?_
            have := HY.out
            simp [mayL]
            omega)
          clear c1 c2
          go_wp2_with fail
          go_ret
          exact ⟨by rw [HF.out]; rfl, by have HBo := HB.out; (repeat' (first | (with_reducible exact Below.refl _ _) | (with_reducible refine Below.setCell ?_ (by (first | omega | (simp; done) | (simp; omega))) _) | (with_reducible refine Below.alloc ?_ (by (first | omega | (simp; done) | (simp; omega))) _) | (with_reducible refine Below.drew ?_) | (with_reducible refine below_drewN ?_ _) | (with_reducible refine Below.trans ?_ (Below.mono HBo (by (first | omega | (simp; done) | (simp; omega)))))))⟩
        · have e2 : decide (15 < Y) = false := by simpa using c2
          have HG : Hid (mayL x = true) := Lib.hid (by
            have := HX.out
            have := HY.out
            simp [mayL]
            omega)
          clear c1 c2
          go_wp2_with fail
          go_roundw
          case rel => exact ⟨j + 1, by go_num, by omega, all_take HAL.out Hx.out HG.out, by have HBo := HB.out; (repeat' (first | (with_reducible exact Below.refl _ _) | (with_reducible refine Below.setCell ?_ (by (first | omega | (simp; done) | (simp; omega))) _) | (with_reducible refine Below.alloc ?_ (by (first | omega | (simp; done) | (simp; omega))) _) | (with_reducible refine Below.drew ?_) | (with_reducible refine below_drewN ?_ _) | (with_reducible refine Below.trans ?_ (Below.mono HBo (by (first | omega | (simp; done) | (simp; omega)))))))⟩
          case measure => simp [intOf]; omega
    · have hjI : ¬ (j : Int) < 4096 := by omega
      have HF : Hid (r = true) := Lib.hid (by rw [← HR.out]; have h := HAL.out; rw [List.take_of_length_le (by have := HC.out; omega)] at h; exact h)
      go_wp2_with fail
      go_ret
      exact ⟨by rw [HF.out]; rfl, HB.out⟩
end ChunkW
end Go.Proofs.YtiochoppiohjnaaDoor
