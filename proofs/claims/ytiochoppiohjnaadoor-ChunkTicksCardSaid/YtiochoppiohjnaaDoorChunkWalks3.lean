/-
  New, Check, Movable of the program; Check, Movable of the reference.
-/
import Derived.Test.YtiochoppiohjnaaDoorChunkWalks2
namespace Go.Proofs.YtiochoppiohjnaaDoor
open Go.RowKit
set_option linter.unusedVariables false
set_option linter.unusedSimpArgs false
namespace ChunkW
open BytesW PackW

theorem ChkK.new7 {w : World} {p : Nat} (h : Chk w p zeros zeros (.slice none 0 0)) : ChkK w p ⟨zeros, zeros, []⟩ := ⟨none, 0, h, PairC.nil, by simp, by simp [maxLen], by simp⟩
set_option maxRecDepth 100000 in
theorem new_c {w : World} : Calls Tryd.prog 29 #[] w fun e w' => e = .returned (.pointer (some ⟨w.heap.size, 0, none⟩)) ∧ Chk w' w.heap.size zeros zeros (.slice none 0 0) ∧ w'.heap.size = w.heap.size + 1 ∧ Below w.heap.size w w' := by
  go_enter Tryd.func29, Tryd.ntmps29
  go_wp2_with (first
    | ((with_reducible refine at_slot 1 ?_); refine wp_build rfl rfl ?_)
    | ((with_reducible refine at_slot 2 ?_); refine wp_box rfl (.tmp 1) rfl rfl ?_; intro w1 hk1 hb1 hz1))
  go_ret
  exact ⟨rfl, hk1, hz1, hb1⟩
/-- What Check answers. -/
def checkA (k : Ck) : Int := if k.cs.all mayC then if k.ls.all mayL then if mayT 0 k.ts then 0 else 4 else 2 else 11
set_option maxRecDepth 100000 in
set_option maxHeartbeats 4000000 in
theorem check_c {w : World} {p : Nat} {k : Ck} {r : Int} (hT : KindW.Tab w) (hk : ChkK w p k) (hr : checkA k = r) :
    Calls Tryd.prog 11 #[.pointer (some ⟨p, 0, none⟩)] w fun e w' => e = .returned (.int .i64 r) ∧ Below w.heap.size w w' := by
  obtain ⟨C, L, ts⟩ := k
  obtain ⟨TA, tc, h1, h2, h3, h4, h5⟩ := hk
  simp only at h1 h2 h3 h5
  have HT := Lib.hid hT
  have HR := Lib.hid hr
  have HK := Lib.hid h1
  have HP := Lib.hid h2
  have H5 := Lib.hid h5
  obtain ⟨b1, e1⟩ : ∃ b, C.all mayC = b := ⟨_, rfl⟩
  obtain ⟨b2, e2⟩ : ∃ b, L.all mayL = b := ⟨_, rfl⟩
  obtain ⟨b3, e3⟩ : ∃ b, mayT 0 ts = b := ⟨_, rfl⟩
  have HRR : Hid (r = if b1 then if b2 then if b3 then 0 else 4 else 2 else 11) := Lib.hid (by rw [← hr, checkA, e1, e2, e3])
  have E1 := Lib.hid e1
  have E2 := Lib.hid e2
  have E3 := Lib.hid e3
  clear hT hr h1 h2 h3 h4 h5 e1 e2 e3
  go_enter Tryd.func11, Tryd.ntmps11
  go_wp2_with fail
  go_at_call 32
  refine (cellsMay_c HT.out HK.out.lt HK.out.atC HK.out.2.1 E1.out).mono ?_
  rintro e w1 ⟨rfl, hb1⟩
  have HB1 := Lib.hid hb1
  clear hb1
  cases b1
  · go_wp2_with fail
    go_ret
    exact ⟨by rw [HRR.out]; rfl, HB1.out⟩
  · go_wp2_with fail
    go_at_call 33
    refine (lightsMay_c (HK.out.below HB1.out).lt (HK.out.below HB1.out).atL HK.out.2.2 E2.out).mono ?_
    rintro e w2 ⟨rfl, hb2⟩
    have HB2 := Lib.hid (below_t HB1.out hb2)
    clear hb2
    cases b2
    · go_wp2_with fail
      go_ret
      exact ⟨by rw [HRR.out]; rfl, HB2.out⟩
    · have ht := (HK.out.below HB2.out).t
      go_wp2_with fail
      go_at_call 34
      refine (ticksMay_c (HP.out.below HB2.out) H5.out E3.out).mono ?_
      rintro e w3 ⟨rfl, hb3⟩
      have HB3 := Lib.hid (below_t HB2.out hb3)
      clear hb3
      cases b3
      · go_wp2_with fail
        go_ret
        exact ⟨by rw [HRR.out]; rfl, HB3.out⟩
      · go_wp2_with fail
        go_ret
        exact ⟨by rw [HRR.out]; rfl, HB3.out⟩
/-- How many cells are movable. -/
def movN (C : List Cell) : Nat := C.countP fun c => KindP.movable c.1.toNat
theorem mov_next {C : List Cell} {j : Nat} {x : Cell} (h : C[j]? = some x) : movN (C.take (j + 1)) = movN (C.take j) + (if KindP.movable x.1.toNat = true then 1 else 0) := by
  rw [List.take_add_one, h]
  simp [movN, List.countP_append, List.countP_cons]
theorem mov_le (C : List Cell) : movN C ≤ C.length := List.countP_le_length
def MovRel (w : World) (C : List Cell) (n i : Value) (wr : World) : Prop := ∃ (j : Nat) (m : Int), i = .int .i64 j ∧ n = .int .i64 m ∧ m = (movN (C.take j) : Int) ∧ 0 ≤ m ∧ m ≤ j ∧ j ≤ 4096 ∧ Below w.heap.size w wr

set_option maxRecDepth 100000 in
set_option maxHeartbeats 4000000 in
theorem mov_c {w : World} {p : Nat} {k : Ck} {r : Nat} (hT : KindW.Tab w) (hk : ChkK w p k) (hr : movN k.cs = r) :
    Calls Tryd.prog 13 #[.pointer (some ⟨p, 0, none⟩)] w fun e w' => e = .returned (.int .i64 (r : Int)) ∧ Below w.heap.size w w' := by
  obtain ⟨C, L, ts⟩ := k
  obtain ⟨TA, tc, h1, h2, h3, h4, h5⟩ := hk
  simp only at h1 h2 h3 h5 hr
  have HT := Lib.hid hT
  have HR := Lib.hid hr
  have HK := Lib.hid h1
  have hpl := h1.lt
  clear hT hr h1 h2 h3 h4 h5
  go_enter Tryd.func13, Tryd.ntmps13
  go_wp2_with fail
  go_loopw [3, 11] (MovRel w C) (fun _ v _ => 4096 - (intOf v).toNat)
  case atStart => exact ⟨0, 0, rfl, rfl, by simp [movN], by omega, by omega, by omega, Below.refl _ _⟩
  case round =>
    obtain ⟨j, m, rfl, rfl, hm, hm0, hmj, hj, hbw⟩ := hrel
    have HB := Lib.hid hbw
    have HM := Lib.hid hm
    have hz := hbw.size
    clear hbw hm
    by_cases hj4 : j < 4096
    · have hjI : (j : Int) < 4096 := by omega
      obtain ⟨x, hx⟩ : ∃ x, C[j]? = some x := ⟨_, List.getElem?_eq_getElem (by have := HK.out.2.1; omega)⟩
      have hkr := HK.out.below HB.out
      have g0 := (hkr.cell (j * 2)).trans (ckV_c hkr.2.1 hx).1
      have g1 := (hkr.cell (j * 2 + 1)).trans (ckV_c hkr.2.1 hx).2
      obtain ⟨X, hX⟩ : ∃ X : Int, X = (x.1.toNat : Int) := ⟨_, rfl⟩
      obtain ⟨Y, hY⟩ : ∃ Y : Int, Y = (x.2.toNat : Int) := ⟨_, rfl⟩
      obtain ⟨b, hb⟩ : ∃ b, KindP.movable x.1.toNat = b := ⟨_, rfl⟩
      simp only [bv, ← hX, ← hY] at g0 g1
      have HMV : Hid (∀ w : World, KindW.Tab w → Calls Tryd.prog 36 #[.int .u8 X] w fun e w' => e = .returned (.bool b) ∧ w = w') := Lib.hid (fun w h => by rw [hX, ← hb]; exact KindW.k_movable _ w h)
      have HMN : Hid (movN (C.take (j + 1)) = movN (C.take j) + (if b = true then 1 else 0)) := Lib.hid (by rw [mov_next hx, hb])
      clear hx hkr hX hY hb
      go_wp2_with fail
      go_at_call 36
      refine calls_namedW (fun W => Below w.heap.size w W) (by have HBo := HB.out; (repeat' (first | (with_reducible exact Below.refl _ _) | (with_reducible refine Below.setCell ?_ (by (first | omega | (simp; done) | (simp; omega))) _) | (with_reducible refine Below.alloc ?_ (by (first | omega | (simp; done) | (simp; omega))) _) | (with_reducible refine Below.drew ?_) | (with_reducible refine below_drewN ?_ _) | (with_reducible refine Below.trans ?_ (Below.mono HBo (by (first | omega | (simp; done) | (simp; omega)))))))) ?_
      rintro w1 hb1
      refine (HMV.out _ (HT.out.below hb1)).mono ?_
      rintro e w2 ⟨rfl, rfl⟩
      have HB2 := Lib.hid hb1
      clear hb1 g0 g1
      cases b
      · go_wp2_with fail
        go_roundw
        case rel => exact ⟨j + 1, m, by go_num, rfl, by rw [HMN.out, HM.out]; simp, hm0, by omega, by omega, HB2.out⟩
        case measure => simp [intOf]; omega
      · go_wp2_with fail
        go_roundw
        case rel => exact ⟨j + 1, m + 1, by go_num, by go_num, by rw [HMN.out, HM.out]; simp, by omega, by omega, by omega, HB2.out⟩
        case measure => simp [intOf]; omega
    · have hjI : ¬ (j : Int) < 4096 := by omega
      have HF : Hid (m = (r : Int)) := Lib.hid (by rw [HM.out, ← HR.out, List.take_of_length_le (by have := HK.out.2.1; omega)])
      go_wp2_with fail
      go_ret
      exact ⟨by rw [HF.out]; rfl, HB.out⟩

set_option maxRecDepth 100000 in
set_option maxHeartbeats 4000000 in
theorem rmov_c {w : World} {p : Nat} {k : Ck} {r : Nat} (hk : ChkK w p k) (hr : movN k.cs = r) :
    Calls Tryd.prog 14 #[.pointer (some ⟨p, 0, none⟩)] w fun e w' => e = .returned (.int .i64 (r : Int)) ∧ Below w.heap.size w w' := by
  obtain ⟨C, L, ts⟩ := k
  obtain ⟨TA, tc, h1, h2, h3, h4, h5⟩ := hk
  simp only at h1 h2 h3 h5 hr
  skip
  have HR := Lib.hid hr
  have HK := Lib.hid h1
  have hpl := h1.lt
  clear hr h1 h2 h3 h4 h5
  go_enter Tryd.func14, Tryd.ntmps14
  go_wp2_with fail
  go_loopw [3, 4] (MovRel w C) (fun _ v _ => 4096 - (intOf v).toNat)
  case atStart => exact ⟨0, 0, rfl, rfl, by simp [movN], by omega, by omega, by omega, Below.refl _ _⟩
  case round =>
    obtain ⟨j, m, rfl, rfl, hm, hm0, hmj, hj, hbw⟩ := hrel
    have HB := Lib.hid hbw
    have HM := Lib.hid hm
    have hz := hbw.size
    clear hbw hm
    by_cases hj4 : j < 4096
    · have hjI : (j : Int) < 4096 := by omega
      obtain ⟨x, hx⟩ : ∃ x, C[j]? = some x := ⟨_, List.getElem?_eq_getElem (by have := HK.out.2.1; omega)⟩
      have hkr := HK.out.below HB.out
      have g0 := (hkr.cell (j * 2)).trans (ckV_c hkr.2.1 hx).1
      have g1 := (hkr.cell (j * 2 + 1)).trans (ckV_c hkr.2.1 hx).2
      obtain ⟨X, hX⟩ : ∃ X : Int, X = (x.1.toNat : Int) := ⟨_, rfl⟩
      obtain ⟨Y, hY⟩ : ∃ Y : Int, Y = (x.2.toNat : Int) := ⟨_, rfl⟩
      obtain ⟨b, hb⟩ : ∃ b, KindP.movable x.1.toNat = b := ⟨_, rfl⟩
      simp only [bv, ← hX, ← hY] at g0 g1
      have HMV : Hid (∀ w : World, Calls Tryd.prog 37 #[.int .u8 X] w fun e w' => e = .returned (.bool b) ∧ Below w.heap.size w w') := Lib.hid (fun w => by rw [hX, ← hb]; exact KindW.r_movable _ w)
      have HMN : Hid (movN (C.take (j + 1)) = movN (C.take j) + (if b = true then 1 else 0)) := Lib.hid (by rw [mov_next hx, hb])
      clear hx hkr hX hY hb
      go_wp2_with fail
      go_at_call 37
      refine (HMV.out _).mono ?_
      rintro e w2 ⟨rfl, hb2⟩
      have HB2 := Lib.hid (below_t HB.out hb2)
      clear hb2 g0 g1
      cases b
      · go_wp2_with fail
        go_roundw
        case rel => exact ⟨j + 1, m, by go_num, rfl, by rw [HMN.out, HM.out]; simp, hm0, by omega, by omega, HB2.out⟩
        case measure => simp [intOf]; omega
      · go_wp2_with fail
        go_roundw
        case rel => exact ⟨j + 1, m + 1, by go_num, by go_num, by rw [HMN.out, HM.out]; simp, by omega, by omega, by omega, HB2.out⟩
        case measure => simp [intOf]; omega
    · have hjI : ¬ (j : Int) < 4096 := by omega
      have HF : Hid (m = (r : Int)) := Lib.hid (by rw [HM.out, ← HR.out, List.take_of_length_le (by have := HK.out.2.1; omega)])
      go_wp2_with fail
      go_ret
      exact ⟨by rw [HF.out]; rfl, HB.out⟩

set_option maxRecDepth 100000 in
set_option maxHeartbeats 8000000 in
theorem rcheck_c {w : World} {p : Nat} {k : Ck} {r : Int} (hk : ChkK w p k) (hr : checkA k = r) :
    Calls Tryd.prog 12 #[.pointer (some ⟨p, 0, none⟩)] w fun e w' => e = .returned (.int .i64 r) ∧ Below w.heap.size w w' := by
  obtain ⟨C, L, ts⟩ := k
  obtain ⟨TA, tc, h1, h2, h3, h4, h5⟩ := hk
  simp only at h1 h2 h3 h5
  obtain ⟨n, hn⟩ : ∃ n, n = ts.length := ⟨_, rfl⟩
  rw [← hn] at h1 h3 h5
  have HN := Lib.hid hn
  have HR := Lib.hid hr
  have HK := Lib.hid h1
  have HPT := Lib.hid h2
  have hpl := h1.lt
  clear hr h1 h2 h4 hn
  go_enter Tryd.func12, Tryd.ntmps12
  go_wp2_with fail
  go_loopw [3] (AllRel w 4096 C mayC) (fun v _ => 4096 - (intOf v).toNat)
  case atStart => exact ⟨0, rfl, by omega, rfl, Below.refl _ _⟩
  case round =>
    obtain ⟨j, rfl, hj, hall, hbw⟩ := hrel
    have HB := Lib.hid hbw
    have HAL := Lib.hid hall
    have hz := hbw.size
    clear hbw hall
    by_cases hj4 : j < 4096
    · have hjI : (j : Int) < 4096 := by omega
      obtain ⟨x, hx⟩ : ∃ x, C[j]? = some x := ⟨_, List.getElem?_eq_getElem (by have := HK.out.2.1; omega)⟩
      have hkr := HK.out.below HB.out
      have g0 := (hkr.cell (j * 2)).trans (ckV_c hkr.2.1 hx).1
      have g1 := (hkr.cell (j * 2 + 1)).trans (ckV_c hkr.2.1 hx).2
      obtain ⟨X, hX⟩ : ∃ X : Int, X = (x.1.toNat : Int) := ⟨_, rfl⟩
      obtain ⟨Y, hY⟩ : ∃ Y : Int, Y = (x.2.toNat : Int) := ⟨_, rfl⟩
      obtain ⟨m, hm⟩ : ∃ m, mayC x = m := ⟨_, rfl⟩
      simp only [bv, ← hX, ← hY] at g0 g1
      have HMAY : Hid (∀ w : World, Calls Tryd.prog 35 #[.agg #[.int .u8 X, .int .u8 Y]] w fun e w' => e = .returned (.bool m) ∧ Below w.heap.size w w') := Lib.hid (fun w => by rw [hX, hY, ← hm]; exact KindW.r_may _ _ w)
      have Hx := Lib.hid hx
      have HM := Lib.hid hm
      clear hx hX hY hm hkr
      go_wp2_with fail
      go_at_call 35
      refine (HMAY.out _).mono ?_
      rintro e w2 ⟨rfl, hb2⟩
      have HB2 := Lib.hid (below_t HB.out hb2)
      clear hb2 g0 g1
      cases m
      · have HF : Hid (r = 11) := Lib.hid (by rw [← HR.out, checkA, all_no Hx.out HM.out]; rfl)
        go_wp2_with fail
        go_ret
        exact ⟨by rw [HF.out]; rfl, HB2.out⟩
      · go_wp2_with fail
        go_roundw
        case rel => exact ⟨j + 1, by go_num, by omega, all_take HAL.out Hx.out HM.out, HB2.out⟩
        case measure => simp [intOf]; omega
    · have hjI : ¬ (j : Int) < 4096 := by omega
      have HCA : Hid (C.all mayC = true) := Lib.hid (by have h := HAL.out; rw [List.take_of_length_le (by have := HK.out.2.1; omega)] at h; exact h)
      obtain ⟨wo, rfl⟩ : ∃ wo : World, wo = wr := ⟨_, rfl⟩
      go_wp2_with fail
      go_loopw [4] (AllRel w 4096 L mayL) (fun v _ => 4096 - (intOf v).toNat)
      case atStart => exact ⟨0, rfl, by omega, rfl, HB.out⟩
      case round =>
        obtain ⟨q, rfl, hq, hall, hbw⟩ := hrel
        have HB2 := Lib.hid hbw
        have HAL2 := Lib.hid hall
        have hz2 := hbw.size
        clear hbw hall
        by_cases hq4 : q < 4096
        · have hqI : (q : Int) < 4096 := by omega
          obtain ⟨x, hx⟩ : ∃ x, L[q]? = some x := ⟨_, List.getElem?_eq_getElem (by have := HK.out.2.2; omega)⟩
          have hkr := HK.out.below HB2.out
          have g0 := (hkr.cell (8192 + q * 2)).trans (ckV_l hkr.2.1 hx).1
          have g1 := (hkr.cell (8192 + q * 2 + 1)).trans (ckV_l hkr.2.1 hx).2
          obtain ⟨X, hX⟩ : ∃ X : Int, X = (x.1.toNat : Int) := ⟨_, rfl⟩
          obtain ⟨Y, hY⟩ : ∃ Y : Int, Y = (x.2.toNat : Int) := ⟨_, rfl⟩
          simp only [bv, ← hX, ← hY] at g0 g1
          have Hx := Lib.hid hx
          have HX := Lib.hid hX
          have HY := Lib.hid hY
          clear hx hX hY hkr
          by_cases c1 : 15 < X
          · have e1 : decide (15 < X) = true := by simpa using c1
            have HF : Hid (r = 2) := Lib.hid (by
              have h : mayL x = false := by
                have := HX.out
                simp [mayL]
                omega
              rw [← HR.out, checkA, HCA.out, all_no Hx.out h]
              rfl)
            clear c1
            go_wp2_with fail
            go_ret
            exact ⟨by rw [HF.out]; rfl, HB2.out⟩
          · have e1 : decide (15 < X) = false := by simpa using c1
            by_cases c2 : 15 < Y
            · have e2 : decide (15 < Y) = true := by simpa using c2
              have HF : Hid (r = 2) := Lib.hid (by
                have h : mayL x = false := by
                  have := HY.out
                  simp [mayL]
                  omega
                rw [← HR.out, checkA, HCA.out, all_no Hx.out h]
                rfl)
              clear c1 c2
              go_wp2_with fail
              go_ret
              exact ⟨by rw [HF.out]; rfl, HB2.out⟩
            · have e2 : decide (15 < Y) = false := by simpa using c2
              have HG : Hid (mayL x = true) := Lib.hid (by
                have := HX.out
                have := HY.out
                simp [mayL]
                omega)
              clear c1 c2
              go_wp2_with fail
              go_roundw
              case rel => exact ⟨q + 1, by go_num, by omega, all_take HAL2.out Hx.out HG.out, HB2.out⟩
              case measure => simp [intOf]; omega
        · have hqI : ¬ (q : Int) < 4096 := by omega
          have HLA : Hid (L.all mayL = true) := Lib.hid (by have h := HAL2.out; rw [List.take_of_length_le (by have := HK.out.2.2; omega)] at h; exact h)
          have HRR : Hid (r = if mayT 0 ts then 0 else 4) := Lib.hid (by rw [← HR.out, checkA, HCA.out, HLA.out]; rfl)
          obtain ⟨wo2, rfl⟩ : ∃ wo : World, wo = wr := ⟨_, rfl⟩
          go_wp2_with fail
          go_loopw [5] (TMRel w ts) (fun v _ => n - (intOf v).toNat)
          case atStart => exact ⟨0, 0, rfl, by omega, by omega, by omega, rfl, .inl ⟨rfl, rfl⟩, HB2.out⟩
          case round =>
            obtain ⟨i, nx, rfl, hx0, hx4, hi, hmt, hpr, hbw⟩ := hrel
            have HB3 := Lib.hid hbw
            have HMT := Lib.hid hmt
            have HPR := Lib.hid hpr
            have hz3 := hbw.size
            have hin : i ≤ n := by have := HN.out; omega
            have ht := (HK.out.below HB3.out).t
            have hpw : p < wr.heap.size := by omega
            clear hbw hmt hi hpr
            by_cases hil : i < n
            · have hiI : (i : Int) < n := by omega
              have hiI0 : (0 : Int) ≤ i := by omega
              obtain ⟨⟨a, d⟩, hx⟩ : ∃ x, ts[i]? = some x := ⟨_, List.getElem?_eq_getElem (by have := HN.out; omega)⟩
              obtain ⟨b, o, rfl, hbl, hcs⟩ := (HPT.out.below HB3.out).cells (fun e => by rw [e] at hx; simp at hx)
              obtain ⟨p0, p1⟩ := hcs _ _ hx
              have HC2 := Lib.hid hcs
              simp only [tkv] at p0 p1
              have hd : ts.drop i = (a, d) :: ts.drop (i + 1) := by
                obtain ⟨h1, h2⟩ := List.getElem?_eq_some_iff.1 hx
                rw [List.drop_eq_getElem_cons h1, h2]
              have HDD : Hid (mayT nx (ts.drop i) = (decide (nx ≤ a) && decide (a < 4096) && decide (1 ≤ d) && decide (d ≤ 2199023255552) && mayT (a + 1) (ts.drop (i + 1)))) := Lib.hid (by rw [hd]; rfl)
              have HD : Hid (mayT 0 ts = (decide (nx ≤ a) && decide (a < 4096) && decide (1 ≤ d) && decide (d ≤ 2199023255552) && mayT (a + 1) (ts.drop (i + 1)))) := Lib.hid (by rw [HMT.out, HDD.out])
              have HXX := Lib.hid hx
              clear hcs hx hd
              by_cases hi0 : i = 0
              · have hnx : nx = 0 := by
                  rcases HPR.out with ⟨_, h⟩ | ⟨t, _, _, h⟩
                  · exact h
                  · omega
                have hiz : decide ((0 : Int) < (i : Int)) = false := by simp; omega
                have hiz2 : decide (0 < i) = false := by simp; omega
                clear hi0
                by_cases c0 : a < 0
                · have ec0 : decide (a < 0) = true := by simpa using c0
                  have HF : Hid (r = 4) := Lib.hid (by rw [HRR.out, HD.out, if_neg]; simp; omega)
                  clear c0
                  go_wp2_with fail
                  go_quiet (fail)
                  go_wp2_with fail
                  go_ret
                  exact ⟨by rw [HF.out]; rfl, by have HBo := HB3.out; (repeat' (first | (with_reducible exact Below.refl _ _) | (with_reducible refine Below.setCell ?_ (by (first | omega | (simp; done) | (simp; omega))) _) | (with_reducible refine Below.alloc ?_ (by (first | omega | (simp; done) | (simp; omega))) _) | (with_reducible refine Below.drew ?_) | (with_reducible refine below_drewN ?_ _) | (with_reducible refine Below.trans ?_ (Below.mono HBo (by (first | omega | (simp; done) | (simp; omega)))))))⟩
                · have ec0 : decide (a < 0) = false := by simp; omega
                  by_cases c1 : 4095 < a
                  · have ec1 : decide (4095 < a) = true := by simpa using c1
                    have HF : Hid (r = 4) := Lib.hid (by rw [HRR.out, HD.out, if_neg]; simp; omega)
                    clear c0 c1
                    go_wp2_with fail
                    go_quiet (fail)
                    go_wp2_with fail
                    go_ret
                    exact ⟨by rw [HF.out]; rfl, by have HBo := HB3.out; (repeat' (first | (with_reducible exact Below.refl _ _) | (with_reducible refine Below.setCell ?_ (by (first | omega | (simp; done) | (simp; omega))) _) | (with_reducible refine Below.alloc ?_ (by (first | omega | (simp; done) | (simp; omega))) _) | (with_reducible refine Below.drew ?_) | (with_reducible refine below_drewN ?_ _) | (with_reducible refine Below.trans ?_ (Below.mono HBo (by (first | omega | (simp; done) | (simp; omega)))))))⟩
                  · have ec1 : decide (4095 < a) = false := by simp; omega
                    by_cases c2 : d < 1
                    · have ec2 : decide (d < 1) = true := by simpa using c2
                      have HF : Hid (r = 4) := Lib.hid (by rw [HRR.out, HD.out, if_neg]; simp; omega)
                      clear c0 c1 c2
                      go_wp2_with fail
                      go_quiet (fail)
                      go_wp2_with fail
                      go_ret
                      exact ⟨by rw [HF.out]; rfl, by have HBo := HB3.out; (repeat' (first | (with_reducible exact Below.refl _ _) | (with_reducible refine Below.setCell ?_ (by (first | omega | (simp; done) | (simp; omega))) _) | (with_reducible refine Below.alloc ?_ (by (first | omega | (simp; done) | (simp; omega))) _) | (with_reducible refine Below.drew ?_) | (with_reducible refine below_drewN ?_ _) | (with_reducible refine Below.trans ?_ (Below.mono HBo (by (first | omega | (simp; done) | (simp; omega)))))))⟩
                    · have ec2 : decide (d < 1) = false := by simp; omega
                      by_cases c3 : 2199023255552 < d
                      · have ec3 : decide (2199023255552 < d) = true := by simpa using c3
                        have HF : Hid (r = 4) := Lib.hid (by rw [HRR.out, HD.out, if_neg]; simp; omega)
                        clear c0 c1 c2 c3
                        go_wp2_with fail
                        go_quiet (fail)
                        go_wp2_with fail
                        go_ret
                        exact ⟨by rw [HF.out]; rfl, by have HBo := HB3.out; (repeat' (first | (with_reducible exact Below.refl _ _) | (with_reducible refine Below.setCell ?_ (by (first | omega | (simp; done) | (simp; omega))) _) | (with_reducible refine Below.alloc ?_ (by (first | omega | (simp; done) | (simp; omega))) _) | (with_reducible refine Below.drew ?_) | (with_reducible refine below_drewN ?_ _) | (with_reducible refine Below.trans ?_ (Below.mono HBo (by (first | omega | (simp; done) | (simp; omega)))))))⟩
                      · have ec3 : decide (2199023255552 < d) = false := by simp; omega
                        have HG : Hid (mayT 0 ts = mayT (a + 1) (ts.drop (i + 1))) := Lib.hid (by
                          rw [HMT.out, HDD.out, decide_eq_true (by omega : nx ≤ a), decide_eq_true (by omega : a < 4096), decide_eq_true (by omega : 1 ≤ d), decide_eq_true (by omega : d ≤ 2199023255552)]
                          simp)
                        have a0 : 0 ≤ a := by omega
                        have a4 : a < 4096 := by omega
                        clear c0 c1 c2 c3
                        go_wp2_with fail
                        go_quiet (fail)
                        go_wp2_with fail
                        go_roundw
                        case rel => exact ⟨i + 1, a + 1, by go_num, by omega, by omega, by have := HN.out; omega, HG.out, .inr ⟨(a, d), HXX.out, rfl, by omega⟩, by have HBo := HB3.out; (repeat' (first | (with_reducible exact Below.refl _ _) | (with_reducible refine Below.setCell ?_ (by (first | omega | (simp; done) | (simp; omega))) _) | (with_reducible refine Below.alloc ?_ (by (first | omega | (simp; done) | (simp; omega))) _) | (with_reducible refine Below.drew ?_) | (with_reducible refine below_drewN ?_ _) | (with_reducible refine Below.trans ?_ (Below.mono HBo (by (first | omega | (simp; done) | (simp; omega)))))))⟩
                        case measure => simp [intOf]; omega
              · obtain ⟨⟨pa, pd⟩, hpx, hnx⟩ : ∃ t : Tick, ts[i - 1]? = some t ∧ nx = t.1 + 1 := by
                  rcases HPR.out with ⟨h, _⟩ | ⟨t, h1, h2, _⟩
                  · exact absurd h hi0
                  · exact ⟨t, h1, h2⟩
                simp only at hnx
                obtain ⟨i1, hi1⟩ : ∃ i1, i1 = i - 1 := ⟨_, rfl⟩
                have hiz : decide ((0 : Int) < (i : Int)) = true := by simp; omega
                have hiz2 : decide (0 < i) = true := by simp; omega
                rw [← hi1] at hpx
                have r0 := (HC2.out i1 _ hpx).1
                simp only [tkv] at r0
                have hwr : IntKind.i64.wrap ((i : Int) - 1) = (i1 : Int) := by rw [IntKind.wrap_i64]; omega
                have hI1 : (i1 : Int) < n := by omega
                have hI0 : (0 : Int) ≤ (i1 : Int) := by omega
                clear hpx hi1 hi0
                by_cases c0 : a < 0
                · have ec0 : decide (a < 0) = true := by simpa using c0
                  have HF : Hid (r = 4) := Lib.hid (by rw [HRR.out, HD.out, if_neg]; simp; omega)
                  clear c0
                  go_wp2_with fail
                  go_quiet (fail)
                  go_wp2_with fail
                  go_ret
                  exact ⟨by rw [HF.out]; rfl, by have HBo := HB3.out; (repeat' (first | (with_reducible exact Below.refl _ _) | (with_reducible refine Below.setCell ?_ (by (first | omega | (simp; done) | (simp; omega))) _) | (with_reducible refine Below.alloc ?_ (by (first | omega | (simp; done) | (simp; omega))) _) | (with_reducible refine Below.drew ?_) | (with_reducible refine below_drewN ?_ _) | (with_reducible refine Below.trans ?_ (Below.mono HBo (by (first | omega | (simp; done) | (simp; omega)))))))⟩
                · have ec0 : decide (a < 0) = false := by simp; omega
                  by_cases c1 : 4095 < a
                  · have ec1 : decide (4095 < a) = true := by simpa using c1
                    have HF : Hid (r = 4) := Lib.hid (by rw [HRR.out, HD.out, if_neg]; simp; omega)
                    clear c0 c1
                    go_wp2_with fail
                    go_quiet (fail)
                    go_wp2_with fail
                    go_ret
                    exact ⟨by rw [HF.out]; rfl, by have HBo := HB3.out; (repeat' (first | (with_reducible exact Below.refl _ _) | (with_reducible refine Below.setCell ?_ (by (first | omega | (simp; done) | (simp; omega))) _) | (with_reducible refine Below.alloc ?_ (by (first | omega | (simp; done) | (simp; omega))) _) | (with_reducible refine Below.drew ?_) | (with_reducible refine below_drewN ?_ _) | (with_reducible refine Below.trans ?_ (Below.mono HBo (by (first | omega | (simp; done) | (simp; omega)))))))⟩
                  · have ec1 : decide (4095 < a) = false := by simp; omega
                    by_cases c2 : d < 1
                    · have ec2 : decide (d < 1) = true := by simpa using c2
                      have HF : Hid (r = 4) := Lib.hid (by rw [HRR.out, HD.out, if_neg]; simp; omega)
                      clear c0 c1 c2
                      go_wp2_with fail
                      go_quiet (fail)
                      go_wp2_with fail
                      go_ret
                      exact ⟨by rw [HF.out]; rfl, by have HBo := HB3.out; (repeat' (first | (with_reducible exact Below.refl _ _) | (with_reducible refine Below.setCell ?_ (by (first | omega | (simp; done) | (simp; omega))) _) | (with_reducible refine Below.alloc ?_ (by (first | omega | (simp; done) | (simp; omega))) _) | (with_reducible refine Below.drew ?_) | (with_reducible refine below_drewN ?_ _) | (with_reducible refine Below.trans ?_ (Below.mono HBo (by (first | omega | (simp; done) | (simp; omega)))))))⟩
                    · have ec2 : decide (d < 1) = false := by simp; omega
                      by_cases c3 : 2199023255552 < d
                      · have ec3 : decide (2199023255552 < d) = true := by simpa using c3
                        have HF : Hid (r = 4) := Lib.hid (by rw [HRR.out, HD.out, if_neg]; simp; omega)
                        clear c0 c1 c2 c3
                        go_wp2_with fail
                        go_quiet (fail)
                        go_wp2_with fail
                        go_ret
                        exact ⟨by rw [HF.out]; rfl, by have HBo := HB3.out; (repeat' (first | (with_reducible exact Below.refl _ _) | (with_reducible refine Below.setCell ?_ (by (first | omega | (simp; done) | (simp; omega))) _) | (with_reducible refine Below.alloc ?_ (by (first | omega | (simp; done) | (simp; omega))) _) | (with_reducible refine Below.drew ?_) | (with_reducible refine below_drewN ?_ _) | (with_reducible refine Below.trans ?_ (Below.mono HBo (by (first | omega | (simp; done) | (simp; omega)))))))⟩
                      · have ec3 : decide (2199023255552 < d) = false := by simp; omega
                        by_cases c4 : a ≤ pa
                        · have ec4 : decide (a ≤ pa) = true := by simpa using c4
                          have HF : Hid (r = 4) := Lib.hid (by rw [HRR.out, HD.out, if_neg]; simp; omega)
                          clear c0 c1 c2 c3 c4
                          go_wp2_with fail
                          go_quiet (fail)
                          go_wp2_with fail
                          go_ret
                          exact ⟨by rw [HF.out]; rfl, by have HBo := HB3.out; (repeat' (first | (with_reducible exact Below.refl _ _) | (with_reducible refine Below.setCell ?_ (by (first | omega | (simp; done) | (simp; omega))) _) | (with_reducible refine Below.alloc ?_ (by (first | omega | (simp; done) | (simp; omega))) _) | (with_reducible refine Below.drew ?_) | (with_reducible refine below_drewN ?_ _) | (with_reducible refine Below.trans ?_ (Below.mono HBo (by (first | omega | (simp; done) | (simp; omega)))))))⟩
                        · have ec4 : decide (a ≤ pa) = false := by simp; omega
                          have HG : Hid (mayT 0 ts = mayT (a + 1) (ts.drop (i + 1))) := Lib.hid (by
                            rw [HMT.out, HDD.out, decide_eq_true (by omega : nx ≤ a), decide_eq_true (by omega : a < 4096), decide_eq_true (by omega : 1 ≤ d), decide_eq_true (by omega : d ≤ 2199023255552)]
                            simp)
                          have a0 : 0 ≤ a := by omega
                          have a4 : a < 4096 := by omega
                          clear c0 c1 c2 c3 c4
                          go_wp2_with fail
                          go_quiet (fail)
                          go_wp2_with fail
                          go_roundw
                          case rel => exact ⟨i + 1, a + 1, by go_num, by omega, by omega, by have := HN.out; omega, HG.out, .inr ⟨(a, d), HXX.out, rfl, by omega⟩, by have HBo := HB3.out; (repeat' (first | (with_reducible exact Below.refl _ _) | (with_reducible refine Below.setCell ?_ (by (first | omega | (simp; done) | (simp; omega))) _) | (with_reducible refine Below.alloc ?_ (by (first | omega | (simp; done) | (simp; omega))) _) | (with_reducible refine Below.drew ?_) | (with_reducible refine below_drewN ?_ _) | (with_reducible refine Below.trans ?_ (Below.mono HBo (by (first | omega | (simp; done) | (simp; omega)))))))⟩
                          case measure => simp [intOf]; omega
            · have hiI : ¬ (i : Int) < n := by omega
              have HF : Hid (r = 0) := Lib.hid (by
                rw [HRR.out, HMT.out, List.drop_of_length_le (by have := HN.out; omega)]
                rfl)
              go_wp2_with fail
              go_ret
              exact ⟨by rw [HF.out]; rfl, HB3.out⟩
end ChunkW
end Go.Proofs.YtiochoppiohjnaaDoor
