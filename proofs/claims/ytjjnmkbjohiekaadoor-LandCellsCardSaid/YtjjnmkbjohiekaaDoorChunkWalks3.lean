/-
  New, Check, Movable of the program; Check, Movable of the reference.
-/
import Derived.Test.YtjjnmkbjohiekaaDoorChunkWalks2
namespace Go.Proofs.YtjjnmkbjohiekaaDoor
open Go.RowKit
set_option linter.unusedVariables false
set_option linter.unusedSimpArgs false
namespace ChunkW
open BytesW PackW

theorem ChkK.new7 {w : World} {p : Nat} (h : Chk w p zeros zeros (.slice none 0 0)) : ChkK w p ⟨zeros, zeros, []⟩ := ⟨none, 0, h, PairC.nil, by simp, by simp [maxLen], by simp⟩
set_option maxRecDepth 100000 in
theorem new_c {w : World} : Calls Tryd.prog 22 #[] w fun e w' => e = .returned (.pointer (some ⟨w.heap.size, 0, none⟩)) ∧ Chk w' w.heap.size zeros zeros (.slice none 0 0) ∧ w'.heap.size = w.heap.size + 1 ∧ Below w.heap.size w w' := by
  go_enter Tryd.func22, Tryd.ntmps22
  go_wp2_with (first
    | ((with_reducible refine at_slot 1 ?_); refine PackW.wp_build rfl rfl ?_)
    | ((with_reducible refine at_slot 2 ?_); refine wp_box rfl (.tmp 1) rfl rfl ?_; intro w1 hk1 hb1 hz1))
  go_ret
  exact ⟨rfl, hk1, hz1, hb1⟩
/-- What Check answers. -/
def checkA (k : Ck) : Int := if k.cs.all mayC then if k.ls.all mayL then if mayT 0 k.ts then 0 else 4 else 2 else 11
set_option maxRecDepth 100000 in
set_option maxHeartbeats 4000000 in
theorem check_c {w : World} {p : Nat} {k : Ck} {r : Int} (hT : KindW.Tab w) (hk : ChkK w p k) (hr : checkA k = r) :
    Calls Tryd.prog 23 #[.pointer (some ⟨p, 0, none⟩)] w fun e w' => e = .returned (.int .i64 r) ∧ Below w.heap.size w w' := by
  obtain ⟨C, L, ts⟩ := k
  obtain ⟨TA, tc, h1, h2, h3, h4, h5⟩ := hk
  simp only at h1 h2 h3 h5
  have HT := Lib.hid hT
  have HR := Lib.hid hr
  have HK := Lib.hid h1
  have HP := Lib.hid h2
  have H5 := Lib.hid h5
  obtain ⟨b1, e1⟩ : ∃ b, C.all mayC = b := ⟨_, rfl⟩
  obtain ⟨b2, e2⟩ : ∃ b, L.all mayL = b := ⟨_, rfl⟩
  obtain ⟨b3, e3⟩ : ∃ b, mayT 0 ts = b := ⟨_, rfl⟩
  have HRR : Hid (r = if b1 then if b2 then if b3 then 0 else 4 else 2 else 11) := Lib.hid (by rw [← hr, checkA, e1, e2, e3])
  have E1 := Lib.hid e1
  have E2 := Lib.hid e2
  have E3 := Lib.hid e3
  clear hT hr h1 h2 h3 h4 h5 e1 e2 e3
  go_enter Tryd.func23, Tryd.ntmps23
  go_wp2_with fail
  go_at_call 37
  refine (cellsMay_c HT.out HK.out.lt HK.out.atC HK.out.2.1 E1.out).mono ?_
  rintro e w1 ⟨rfl, hb1⟩
  have HB1 := Lib.hid hb1
  clear hb1
  cases b1
  · go_wp2_with fail
    go_ret
    exact ⟨by rw [HRR.out]; rfl, HB1.out⟩
  · go_wp2_with fail
    go_at_call 38
    refine (lightsMay_c (HK.out.below HB1.out).lt (HK.out.below HB1.out).atL HK.out.2.2 E2.out).mono ?_
    rintro e w2 ⟨rfl, hb2⟩
    have HB2 := Lib.hid (below_t HB1.out hb2)
    clear hb2
    cases b2
    · go_wp2_with fail
      go_ret
      exact ⟨by rw [HRR.out]; rfl, HB2.out⟩
    · have ht := (HK.out.below HB2.out).t
      go_wp2_with fail
      go_at_call 39
      refine (ticksMay_c (HP.out.below HB2.out) H5.out E3.out).mono ?_
      rintro e w3 ⟨rfl, hb3⟩
      have HB3 := Lib.hid (below_t HB2.out hb3)
      clear hb3
      cases b3
      · go_wp2_with fail
        go_ret
        exact ⟨by rw [HRR.out]; rfl, HB3.out⟩
      · go_wp2_with fail
        go_ret
        exact ⟨by rw [HRR.out]; rfl, HB3.out⟩
/-- How many cells are movable. -/
def movN (C : List Cell) : Nat := C.countP fun c => KindP.movable c.1.toNat
theorem mov_next {C : List Cell} {j : Nat} {x : Cell} (h : C[j]? = some x) : movN (C.take (j + 1)) = movN (C.take j) + (if KindP.movable x.1.toNat = true then 1 else 0) := by
  rw [List.take_add_one, h]
  simp [movN, List.countP_append, List.countP_cons]
theorem mov_le (C : List Cell) : movN C ≤ C.length := List.countP_le_length
def MovRel (w : World) (C : List Cell) (n i : Value) (wr : World) : Prop := ∃ (j : Nat) (m : Int), i = .int .i64 j ∧ n = .int .i64 m ∧ m = (movN (C.take j) : Int) ∧ 0 ≤ m ∧ m ≤ j ∧ j ≤ 4096 ∧ Below w.heap.size w wr

set_option maxRecDepth 100000 in
set_option maxHeartbeats 4000000 in
theorem mov_c {w : World} {p : Nat} {k : Ck} {r : Nat} (hT : KindW.Tab w) (hk : ChkK w p k) (hr : movN k.cs = r) :
    Calls Tryd.prog 27 #[.pointer (some ⟨p, 0, none⟩)] w fun e w' => e = .returned (.int .i64 (r : Int)) ∧ Below w.heap.size w w' := by
  obtain ⟨C, L, ts⟩ := k
  obtain ⟨TA, tc, h1, h2, h3, h4, h5⟩ := hk
  simp only at h1 h2 h3 h5 hr
  have HT := Lib.hid hT
  have HR := Lib.hid hr
  have HK := Lib.hid h1
  have hpl := h1.lt
  clear hT hr h1 h2 h3 h4 h5
  go_enter Tryd.func27, Tryd.ntmps27
  go_wp2_with fail
  go_loopw [3, 11] (MovRel w C) (fun _ v _ => 4096 - (intOf v).toNat)
  case atStart => exact ⟨0, 0, rfl, rfl, by simp [movN], by omega, by omega, by omega, Below.refl _ _⟩
  case round =>
    obtain ⟨j, m, rfl, rfl, hm, hm0, hmj, hj, hbw⟩ := hrel
    have HB := Lib.hid hbw
    have HM := Lib.hid hm
    have hz := hbw.size
    clear hbw hm
    by_cases hj4 : j < 4096
    · have hjI : (j : Int) < 4096 := by omega
      obtain ⟨x, hx⟩ : ∃ x, C[j]? = some x := ⟨_, List.getElem?_eq_getElem (by have := HK.out.2.1; omega)⟩
      have hkr := HK.out.below HB.out
      have g0 := (hkr.cell (j * 2)).trans (ckV_c hkr.2.1 hx).1
      have g1 := (hkr.cell (j * 2 + 1)).trans (ckV_c hkr.2.1 hx).2
      obtain ⟨X, hX⟩ : ∃ X : Int, X = (x.1.toNat : Int) := ⟨_, rfl⟩
      obtain ⟨Y, hY⟩ : ∃ Y : Int, Y = (x.2.toNat : Int) := ⟨_, rfl⟩
      obtain ⟨b, hb⟩ : ∃ b, KindP.movable x.1.toNat = b := ⟨_, rfl⟩
      simp only [bv, ← hX, ← hY] at g0 g1
      have HMV : Hid (∀ w : World, KindW.Tab w → Calls Tryd.prog 40 #[.int .u8 X] w fun e w' => e = .returned (.bool b) ∧ w = w') := Lib.hid (fun w h => by rw [hX, ← hb]; exact KindW.k_movable _ w h)
      have HMN : Hid (movN (C.take (j + 1)) = movN (C.take j) + (if b = true then 1 else 0)) := Lib.hid (by rw [mov_next hx, hb])
      clear hx hkr hX hY hb
      go_wp2_with fail
      go_at_call 40
      refine calls_namedW (fun W => Below w.heap.size w W) (by have HBo := HB.out; (repeat' (first | (with_reducible exact Below.refl _ _) | (with_reducible refine Below.setCell ?_ (by (first | omega | (simp; done) | (simp; omega))) _) | (with_reducible refine Below.alloc ?_ (by (first | omega | (simp; done) | (simp; omega))) _) | (with_reducible refine Below.drew ?_) | (with_reducible refine below_drewN ?_ _) | (with_reducible refine Below.trans ?_ (Below.mono HBo (by (first | omega | (simp; done) | (simp; omega)))))))) ?_
      rintro w1 hb1
      refine (HMV.out _ (HT.out.below hb1)).mono ?_
      rintro e w2 ⟨rfl, rfl⟩
      have HB2 := Lib.hid hb1
      clear hb1 g0 g1
      cases b
      · go_wp2_with fail
        go_roundw
        case rel => exact ⟨j + 1, m, by go_num, rfl, by rw [HMN.out, HM.out]; simp, hm0, by omega, by omega, HB2.out⟩
        case measure => simp [intOf]; omega
      · go_wp2_with fail
        go_roundw
        case rel => exact ⟨j + 1, m + 1, by go_num, by go_num, by rw [HMN.out, HM.out]; simp, by omega, by omega, by omega, HB2.out⟩
        case measure => simp [intOf]; omega
    · have hjI : ¬ (j : Int) < 4096 := by omega
      have HF : Hid (m = (r : Int)) := Lib.hid (by rw [HM.out, ← HR.out, List.take_of_length_le (by have := HK.out.2.1; omega)])
      go_wp2_with fail
      go_ret
      exact ⟨by rw [HF.out]; rfl, HB.out⟩

end ChunkW
end Go.Proofs.YtjjnmkbjohiekaaDoor
