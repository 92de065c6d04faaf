/-
  Rows that are held against each other, element by element.
-/
import Derived.Test.YtbnkaeigabifhaaDoorFreeSmall
import Derived.Deep.QuietTactic
import Derived.BigQuiet
-- mine: whole_c same_c awake_c take_c step_c back_c Made number_c next_c fixed_c clone_c int_c end_c put_c
namespace Go.Proofs.YtbnkaeigabifhaaDoor
open Go.RowKit
set_option linter.unusedVariables false
set_option linter.unusedSimpArgs false
set_option maxRecDepth 100000
namespace FreW
open BlkP RowG FrS PushG FreP
theorem str_toL (x : List UInt8) : (⟨x.toArray⟩ : ByteArray).toList = x := by simp
theorem str_eq {x y : List UInt8} : (⟨x.toArray⟩ : ByteArray) = ⟨y.toArray⟩ ↔ x = y := ⟨fun h => by
  injection h with h
  exact List.toArray_inj h, fun h => by rw [h]⟩
theorem take_next {α : Type} {l : List α} {i : Nat} {x : α} (h : l[i]? = some x) : l.take (i + 1) = l.take i ++ [x] := by
  rw [List.take_add_one, h]
  rfl

set_option maxHeartbeats 4000000 in
theorem Equal_c {w : World} {A1 A2 : Option Addr} {n1 n2 c1 c2 : Nat} {l1 l2 : List (List UInt8)} (h1 : Rd encS w (.slice A1 n1 c1) l1) (h2 : Rd encS w (.slice A2 n2 c2) l2) (e1 : l1.length = n1) (e2 : l2.length = n2) {r : Bool} (hr : decide (l1 = l2) = r) :
    Calls Tryd.prog 57 #[.slice A1 n1 c1, .slice A2 n2 c2] w fun e w' => e = .returned (.bool r) ∧ Below w.heap.size w w' := by
  have H1 := Lib.hid h1
  have H2 := Lib.hid h2
  have E1 := Lib.hid e1
  have E2 := Lib.hid e2
  have HR := Lib.hid hr
  have hb1 : n1 ≤ 9223372036854775807 := by
    obtain ⟨A, c, e, q1, q2⟩ := h1.form e1
    omega
  have hb2 : n2 ≤ 9223372036854775807 := by
    obtain ⟨A, c, e, q1, q2⟩ := h2.form e2
    omega
  clear h1 h2 e1 e2 hr
  by_cases hn : n1 = n2
  · subst hn
    go_enter Tryd.func57, Tryd.ntmps57
    go_wp2_with fail
    go_loopw [5, 13] (fun v5 v13 wr => ∃ i : Nat, v13 = .int .i64 (i : Int) ∧ i ≤ n1 ∧ l1.take i = l2.take i ∧ Below w.heap.size w wr) (fun v5 v13 _ => n1 - (RowKit.intOf v13).toNat)
    case atStart => exact ⟨0, rfl, Nat.zero_le _, rfl, Below.refl _ _⟩
    case round =>
      obtain ⟨i, rfl, hin, hT, hbr⟩ := hrel
      have B1 := Lib.hid hbr
      have HTK := Lib.hid hT
      clear hbr hT
      by_cases hi : i < n1
      · obtain ⟨x, hx⟩ : ∃ x, l1[i]? = some x := ⟨_, List.getElem?_eq_getElem (by rw [E1.out]; exact hi)⟩
        obtain ⟨y, hy⟩ : ∃ y, l2[i]? = some y := ⟨_, List.getElem?_eq_getElem (by rw [E2.out]; exact hi)⟩
        obtain ⟨b1, o1, rfl, hl1, hcs1⟩ := (H1.out.below B1.out).at hx
        obtain ⟨b2, o2, rfl, hl2, hcs2⟩ := (H2.out.below B1.out).at hy
        have x0 : wr.cell? ⟨b1, o1 + i, none⟩ = some (.string ⟨x.toArray⟩) := by
          have := hcs1 0 _ rfl
          rwa [show o1 + i * (encS).k + 0 = o1 + i from by have : (encS).k = 1 := rfl; rw [this]; omega] at this
        have y0 : wr.cell? ⟨b2, o2 + i, none⟩ = some (.string ⟨y.toArray⟩) := by
          have := hcs2 0 _ rfl
          rwa [show o2 + i * (encS).k + 0 = o2 + i from by have : (encS).k = 1 := rfl; rw [this]; omega] at this
        have TX := Lib.hid (take_next hx)
        have TY := Lib.hid (take_next hy)
        obtain ⟨X, hX⟩ : ∃ X : ByteArray, X = ⟨x.toArray⟩ := ⟨_, rfl⟩
        obtain ⟨Y, hY⟩ : ∃ Y : ByteArray, Y = ⟨y.toArray⟩ := ⟨_, rfl⟩
        rw [← hX] at x0
        rw [← hY] at y0
        have HXY : Hid (X = Y ↔ x = y) := Lib.hid (by rw [hX, hY]; exact str_eq)
        have HNE : Hid (¬ x = y → (X.toList == Y.toList) = false) := Lib.hid (fun h => by rw [hX, hY, str_toL, str_toL]; simpa using h)
        clear hX hY
        clear hx hy hcs1 hcs2
        by_cases hxy : X = Y
        · have HX2 := Lib.hid (HXY.out.1 hxy)
          clear HXY
          subst hxy
          go_wp2_with fail
          go_quiet (fail)
          go_wp2_with fail
          go_roundw
          case rel => exact ⟨i + 1, by first | rfl | go_num | (congr 1; omega), by omega, by rw [TX.out, TY.out, HTK.out, HX2.out], bel_drewN B1.out _⟩
          case measure => first | (simp [RowKit.intOf]; done) | (simp [RowKit.intOf]; omega)
        · have hr : r = false := by
            rw [← HR.out]
            simp only [decide_eq_false_iff_not]
            intro e
            have h3 := TX.out
            rw [e, TY.out] at h3
            have := List.append_cancel_left h3
            simp at this
            exact hxy (HXY.out.2 this.symm)
          subst hr
          have hn := HNE.out (fun e => hxy (HXY.out.2 e))
          clear HXY
          go_wp2_with fail
          go_quiet (fail)
          go_wp2_with fail
          go_ret
          exact ⟨rfl, bel_drewN B1.out _⟩
      · have hr : r = true := by
          rw [← HR.out]
          simp only [decide_eq_true_eq]
          have e := HTK.out
          rwa [List.take_of_length_le (by rw [E1.out]; omega), List.take_of_length_le (by rw [E2.out]; omega)] at e
        subst hr
        go_wp2_with fail
        go_ret
        exact ⟨rfl, B1.out⟩
  · have hr : r = false := by
      rw [← HR.out]
      simp only [decide_eq_false_iff_not]
      intro e
      rw [e, E2.out] at E1
      exact hn E1.out.symm
    subst hr
    go_enter Tryd.func57, Tryd.ntmps57
    go_wp2_with fail
    go_ret
    exact ⟨rfl, Below.refl _ _⟩

set_option maxHeartbeats 4000000 in
theorem Same_c {w : World} {A1 A2 : Option Addr} {n1 n2 c1 c2 : Nat} {l1 l2 : List (List UInt8)} (h1 : Rd encS w (.slice A1 n1 c1) l1) (h2 : Rd encS w (.slice A2 n2 c2) l2) (e1 : l1.length = n1) (e2 : l2.length = n2) {r : Bool} (hr : decide (l1 = l2) = r) :
    Calls Tryd.prog 31 #[.slice A1 n1 c1, .slice A2 n2 c2] w fun e w' => e = .returned (.bool r) ∧ Below w.heap.size w w' := by
  have H1 := Lib.hid h1
  have H2 := Lib.hid h2
  have E1 := Lib.hid e1
  have E2 := Lib.hid e2
  have HR := Lib.hid hr
  have hb1 : n1 ≤ 9223372036854775807 := by
    obtain ⟨A, c, e, q1, q2⟩ := h1.form e1
    omega
  have hb2 : n2 ≤ 9223372036854775807 := by
    obtain ⟨A, c, e, q1, q2⟩ := h2.form e2
    omega
  clear h1 h2 e1 e2 hr
  by_cases hn : n1 = n2
  · subst hn
    go_enter Tryd.func31, Tryd.ntmps31
    go_wp2_with fail
    go_loopw [5] (fun v5 wr => ∃ i : Nat, v5 = .int .i64 (i : Int) ∧ i ≤ n1 ∧ l1.take i = l2.take i ∧ Below w.heap.size w wr) (fun v5 _ => n1 - (RowKit.intOf v5).toNat)
    case atStart => exact ⟨0, rfl, Nat.zero_le _, rfl, Below.refl _ _⟩
    case round =>
      obtain ⟨i, rfl, hin, hT, hbr⟩ := hrel
      have B1 := Lib.hid hbr
      have HTK := Lib.hid hT
      clear hbr hT
      by_cases hi : i < n1
      · obtain ⟨x, hx⟩ : ∃ x, l1[i]? = some x := ⟨_, List.getElem?_eq_getElem (by rw [E1.out]; exact hi)⟩
        obtain ⟨y, hy⟩ : ∃ y, l2[i]? = some y := ⟨_, List.getElem?_eq_getElem (by rw [E2.out]; exact hi)⟩
        obtain ⟨b1, o1, rfl, hl1, hcs1⟩ := (H1.out.below B1.out).at hx
        obtain ⟨b2, o2, rfl, hl2, hcs2⟩ := (H2.out.below B1.out).at hy
        have x0 : wr.cell? ⟨b1, o1 + i, none⟩ = some (.string ⟨x.toArray⟩) := by
          have := hcs1 0 _ rfl
          rwa [show o1 + i * (encS).k + 0 = o1 + i from by have : (encS).k = 1 := rfl; rw [this]; omega] at this
        have y0 : wr.cell? ⟨b2, o2 + i, none⟩ = some (.string ⟨y.toArray⟩) := by
          have := hcs2 0 _ rfl
          rwa [show o2 + i * (encS).k + 0 = o2 + i from by have : (encS).k = 1 := rfl; rw [this]; omega] at this
        have TX := Lib.hid (take_next hx)
        have TY := Lib.hid (take_next hy)
        obtain ⟨X, hX⟩ : ∃ X : ByteArray, X = ⟨x.toArray⟩ := ⟨_, rfl⟩
        obtain ⟨Y, hY⟩ : ∃ Y : ByteArray, Y = ⟨y.toArray⟩ := ⟨_, rfl⟩
        rw [← hX] at x0
        rw [← hY] at y0
        have HXY : Hid (X = Y ↔ x = y) := Lib.hid (by rw [hX, hY]; exact str_eq)
        have HNE : Hid (¬ x = y → (X.toList == Y.toList) = false) := Lib.hid (fun h => by rw [hX, hY, str_toL, str_toL]; simpa using h)
        clear hX hY
        clear hx hy hcs1 hcs2
        by_cases hxy : X = Y
        · have HX2 := Lib.hid (HXY.out.1 hxy)
          clear HXY
          subst hxy
          go_wp2_with fail
          go_quiet (fail)
          go_wp2_with fail
          go_roundw
          case rel => exact ⟨i + 1, by first | rfl | go_num | (congr 1; omega), by omega, by rw [TX.out, TY.out, HTK.out, HX2.out], bel_drewN B1.out _⟩
          case measure => first | (simp [RowKit.intOf]; done) | (simp [RowKit.intOf]; omega)
        · have hr : r = false := by
            rw [← HR.out]
            simp only [decide_eq_false_iff_not]
            intro e
            have h3 := TX.out
            rw [e, TY.out] at h3
            have := List.append_cancel_left h3
            simp at this
            exact hxy (HXY.out.2 this.symm)
          subst hr
          have hn := HNE.out (fun e => hxy (HXY.out.2 e))
          clear HXY
          go_wp2_with fail
          go_quiet (fail)
          go_wp2_with fail
          go_ret
          exact ⟨rfl, bel_drewN B1.out _⟩
      · have hr : r = true := by
          rw [← HR.out]
          simp only [decide_eq_true_eq]
          have e := HTK.out
          rwa [List.take_of_length_le (by rw [E1.out]; omega), List.take_of_length_le (by rw [E2.out]; omega)] at e
        subst hr
        go_wp2_with fail
        go_ret
        exact ⟨rfl, B1.out⟩
  · have hr : r = false := by
      rw [← HR.out]
      simp only [decide_eq_false_iff_not]
      intro e
      rw [e, E2.out] at E1
      exact hn E1.out.symm
    subst hr
    go_enter Tryd.func31, Tryd.ntmps31
    go_wp2_with fail
    go_ret
    exact ⟨rfl, Below.refl _ _⟩

set_option maxHeartbeats 4000000 in
theorem alike_c {w : World} {A1 A2 : Option Addr} {n1 n2 c1 c2 : Nat} {l1 l2 : List (List UInt8)} (h1 : Rd encS w (.slice A1 n1 c1) l1) (h2 : Rd encS w (.slice A2 n2 c2) l2) (e1 : l1.length = n1) (e2 : l2.length = n2) {r : Bool} (hr : decide (l1 = l2) = r) :
    Calls Tryd.prog 35 #[.slice A1 n1 c1, .slice A2 n2 c2] w fun e w' => e = .returned (.bool r) ∧ Below w.heap.size w w' := by
  have H1 := Lib.hid h1
  have H2 := Lib.hid h2
  have E1 := Lib.hid e1
  have E2 := Lib.hid e2
  have HR := Lib.hid hr
  have hb1 : n1 ≤ 9223372036854775807 := by
    obtain ⟨A, c, e, q1, q2⟩ := h1.form e1
    omega
  have hb2 : n2 ≤ 9223372036854775807 := by
    obtain ⟨A, c, e, q1, q2⟩ := h2.form e2
    omega
  clear h1 h2 e1 e2 hr
  by_cases hn : n1 = n2
  · subst hn
    go_enter Tryd.func35, Tryd.ntmps35
    go_wp2_with fail
    go_loopw [5] (fun v5 wr => ∃ i : Nat, v5 = .int .i64 (i : Int) ∧ i ≤ n1 ∧ l1.take i = l2.take i ∧ Below w.heap.size w wr) (fun v5 _ => n1 - (RowKit.intOf v5).toNat)
    case atStart => exact ⟨0, rfl, Nat.zero_le _, rfl, Below.refl _ _⟩
    case round =>
      obtain ⟨i, rfl, hin, hT, hbr⟩ := hrel
      have B1 := Lib.hid hbr
      have HTK := Lib.hid hT
      clear hbr hT
      by_cases hi : i < n1
      · obtain ⟨x, hx⟩ : ∃ x, l1[i]? = some x := ⟨_, List.getElem?_eq_getElem (by rw [E1.out]; exact hi)⟩
        obtain ⟨y, hy⟩ : ∃ y, l2[i]? = some y := ⟨_, List.getElem?_eq_getElem (by rw [E2.out]; exact hi)⟩
        obtain ⟨b1, o1, rfl, hl1, hcs1⟩ := (H1.out.below B1.out).at hx
        obtain ⟨b2, o2, rfl, hl2, hcs2⟩ := (H2.out.below B1.out).at hy
        have x0 : wr.cell? ⟨b1, o1 + i, none⟩ = some (.string ⟨x.toArray⟩) := by
          have := hcs1 0 _ rfl
          rwa [show o1 + i * (encS).k + 0 = o1 + i from by have : (encS).k = 1 := rfl; rw [this]; omega] at this
        have y0 : wr.cell? ⟨b2, o2 + i, none⟩ = some (.string ⟨y.toArray⟩) := by
          have := hcs2 0 _ rfl
          rwa [show o2 + i * (encS).k + 0 = o2 + i from by have : (encS).k = 1 := rfl; rw [this]; omega] at this
        have TX := Lib.hid (take_next hx)
        have TY := Lib.hid (take_next hy)
        obtain ⟨X, hX⟩ : ∃ X : ByteArray, X = ⟨x.toArray⟩ := ⟨_, rfl⟩
        obtain ⟨Y, hY⟩ : ∃ Y : ByteArray, Y = ⟨y.toArray⟩ := ⟨_, rfl⟩
        rw [← hX] at x0
        rw [← hY] at y0
        have HXY : Hid (X = Y ↔ x = y) := Lib.hid (by rw [hX, hY]; exact str_eq)
        have HNE : Hid (¬ x = y → (X.toList == Y.toList) = false) := Lib.hid (fun h => by rw [hX, hY, str_toL, str_toL]; simpa using h)
        clear hX hY
        clear hx hy hcs1 hcs2
        by_cases hxy : X = Y
        · have HX2 := Lib.hid (HXY.out.1 hxy)
          clear HXY
          subst hxy
          go_wp2_with fail
          go_quiet (fail)
          go_wp2_with fail
          go_roundw
          case rel => exact ⟨i + 1, by first | rfl | go_num | (congr 1; omega), by omega, by rw [TX.out, TY.out, HTK.out, HX2.out], bel_drewN B1.out _⟩
          case measure => first | (simp [RowKit.intOf]; done) | (simp [RowKit.intOf]; omega)
        · have hr : r = false := by
            rw [← HR.out]
            simp only [decide_eq_false_iff_not]
            intro e
            have h3 := TX.out
            rw [e, TY.out] at h3
            have := List.append_cancel_left h3
            simp at this
            exact hxy (HXY.out.2 this.symm)
          subst hr
          have hn := HNE.out (fun e => hxy (HXY.out.2 e))
          clear HXY
          go_wp2_with fail
          go_quiet (fail)
          go_wp2_with fail
          go_ret
          exact ⟨rfl, bel_drewN B1.out _⟩
      · have hr : r = true := by
          rw [← HR.out]
          simp only [decide_eq_true_eq]
          have e := HTK.out
          rwa [List.take_of_length_le (by rw [E1.out]; omega), List.take_of_length_le (by rw [E2.out]; omega)] at e
        subst hr
        go_wp2_with fail
        go_ret
        exact ⟨rfl, B1.out⟩
  · have hr : r = false := by
      rw [← HR.out]
      simp only [decide_eq_false_iff_not]
      intro e
      rw [e, E2.out] at E1
      exact hn E1.out.symm
    subst hr
    go_enter Tryd.func35, Tryd.ntmps35
    go_wp2_with fail
    go_ret
    exact ⟨rfl, Below.refl _ _⟩

set_option maxHeartbeats 4000000 in
theorem SameInts_q {w : World} {A1 A2 : Option Addr} {n1 n2 c1 c2 : Nat} {l1 l2 : List Int} (h1 : Rd RowG.encI w (.slice A1 n1 c1) l1) (h2 : Rd RowG.encI w (.slice A2 n2 c2) l2) (e1 : l1.length = n1) (e2 : l2.length = n2) {r : Bool} (hr : decide (l1 = l2) = r) :
    Calls Tryd.prog 18 #[.slice A1 n1 c1, .slice A2 n2 c2] w fun e w' => e = .returned (.bool r) ∧ ∃ q, w' = w.drewN q := by
  have H1 := Lib.hid h1
  have H2 := Lib.hid h2
  have E1 := Lib.hid e1
  have E2 := Lib.hid e2
  have HR := Lib.hid hr
  have hb1 : n1 ≤ 9223372036854775807 := by
    obtain ⟨A, c, e, q1, q2⟩ := h1.form e1
    omega
  have hb2 : n2 ≤ 9223372036854775807 := by
    obtain ⟨A, c, e, q1, q2⟩ := h2.form e2
    omega
  clear h1 h2 e1 e2 hr
  by_cases hn : n1 = n2
  · subst hn
    go_enter Tryd.func18, Tryd.ntmps18
    go_wp2_with fail
    go_loopw [5] (fun v5 wr => ∃ i : Nat, v5 = .int .i64 (i : Int) ∧ i ≤ n1 ∧ l1.take i = l2.take i ∧ ∃ q, wr = w.drewN q) (fun v5 _ => n1 - (RowKit.intOf v5).toNat)
    case atStart => exact ⟨0, rfl, Nat.zero_le _, rfl, 0, rfl⟩
    case round =>
      obtain ⟨i, rfl, hin, hT, q0, hq0⟩ := hrel
      have HQ0 := Lib.hid hq0
      have B1 := Lib.hid (show Below w.heap.size w wr by rw [hq0]; exact bel_drewN (Below.refl _ _) _)
      have HTK := Lib.hid hT
      clear hq0 hT
      by_cases hi : i < n1
      · obtain ⟨x, hx⟩ : ∃ x, l1[i]? = some x := ⟨_, List.getElem?_eq_getElem (by rw [E1.out]; exact hi)⟩
        obtain ⟨y, hy⟩ : ∃ y, l2[i]? = some y := ⟨_, List.getElem?_eq_getElem (by rw [E2.out]; exact hi)⟩
        obtain ⟨b1, o1, rfl, hl1, hcs1⟩ := (H1.out.below B1.out).at hx
        obtain ⟨b2, o2, rfl, hl2, hcs2⟩ := (H2.out.below B1.out).at hy
        have x0 : wr.cell? ⟨b1, o1 + i, none⟩ = some (.int .i64 x) := by
          have := hcs1 0 _ rfl
          rwa [show o1 + i * (RowG.encI).k + 0 = o1 + i from by have : (RowG.encI).k = 1 := rfl; rw [this]; omega] at this
        have y0 : wr.cell? ⟨b2, o2 + i, none⟩ = some (.int .i64 y) := by
          have := hcs2 0 _ rfl
          rwa [show o2 + i * (RowG.encI).k + 0 = o2 + i from by have : (RowG.encI).k = 1 := rfl; rw [this]; omega] at this
        have TX := Lib.hid (take_next hx)
        have TY := Lib.hid (take_next hy)
        obtain ⟨X, hX⟩ : ∃ X : Int, X = x := ⟨_, rfl⟩
        obtain ⟨Y, hY⟩ : ∃ Y : Int, Y = y := ⟨_, rfl⟩
        rw [← hX] at x0
        rw [← hY] at y0
        have HXY : Hid (X = Y ↔ x = y) := Lib.hid (by rw [hX, hY])
        have HNE : Hid (¬ x = y → (X != Y) = true) := Lib.hid (fun h => by rw [hX, hY]; simpa using h)
        clear hX hY
        clear hx hy hcs1 hcs2
        by_cases hxy : X = Y
        · have HX2 := Lib.hid (HXY.out.1 hxy)
          clear HXY
          subst hxy
          go_wp2_with fail
          go_quiet (fail)
          go_wp2_with fail
          go_roundw
          case rel => exact ⟨i + 1, by first | rfl | go_num | (congr 1; omega), by omega, by rw [TX.out, TY.out, HTK.out, HX2.out], by rw [HQ0.out]; exact ⟨_, World.drewN_drewN _ _ _⟩⟩
          case measure => first | (simp [RowKit.intOf]; done) | (simp [RowKit.intOf]; omega)
        · have hr : r = false := by
            rw [← HR.out]
            simp only [decide_eq_false_iff_not]
            intro e
            have h3 := TX.out
            rw [e, TY.out] at h3
            have := List.append_cancel_left h3
            simp at this
            exact hxy (HXY.out.2 this.symm)
          subst hr
          have hn := HNE.out (fun e => hxy (HXY.out.2 e))
          clear HXY
          go_wp2_with fail
          go_quiet (fail)
          go_wp2_with fail
          go_ret
          exact ⟨rfl, by rw [HQ0.out]; exact ⟨_, World.drewN_drewN _ _ _⟩⟩
      · have hr : r = true := by
          rw [← HR.out]
          simp only [decide_eq_true_eq]
          have e := HTK.out
          rwa [List.take_of_length_le (by rw [E1.out]; omega), List.take_of_length_le (by rw [E2.out]; omega)] at e
        subst hr
        go_wp2_with fail
        go_ret
        exact ⟨rfl, q0, HQ0.out⟩
  · have hr : r = false := by
      rw [← HR.out]
      simp only [decide_eq_false_iff_not]
      intro e
      rw [e, E2.out] at E1
      exact hn E1.out.symm
    subst hr
    go_enter Tryd.func18, Tryd.ntmps18
    go_wp2_with fail
    go_ret
    exact ⟨rfl, 0, rfl⟩

set_option maxHeartbeats 4000000 in
theorem SameInts_c {w : World} {A1 A2 : Option Addr} {n1 n2 c1 c2 : Nat} {l1 l2 : List Int} (h1 : Rd RowG.encI w (.slice A1 n1 c1) l1) (h2 : Rd RowG.encI w (.slice A2 n2 c2) l2) (e1 : l1.length = n1) (e2 : l2.length = n2) {r : Bool} (hr : decide (l1 = l2) = r) :
    Calls Tryd.prog 18 #[.slice A1 n1 c1, .slice A2 n2 c2] w fun e w' => e = .returned (.bool r) ∧ Below w.heap.size w w' := by
  have H1 := Lib.hid h1
  have H2 := Lib.hid h2
  have E1 := Lib.hid e1
  have E2 := Lib.hid e2
  have HR := Lib.hid hr
  have hb1 : n1 ≤ 9223372036854775807 := by
    obtain ⟨A, c, e, q1, q2⟩ := h1.form e1
    omega
  have hb2 : n2 ≤ 9223372036854775807 := by
    obtain ⟨A, c, e, q1, q2⟩ := h2.form e2
    omega
  clear h1 h2 e1 e2 hr
  by_cases hn : n1 = n2
  · subst hn
    go_enter Tryd.func18, Tryd.ntmps18
    go_wp2_with fail
    go_loopw [5] (fun v5 wr => ∃ i : Nat, v5 = .int .i64 (i : Int) ∧ i ≤ n1 ∧ l1.take i = l2.take i ∧ Below w.heap.size w wr) (fun v5 _ => n1 - (RowKit.intOf v5).toNat)
    case atStart => exact ⟨0, rfl, Nat.zero_le _, rfl, Below.refl _ _⟩
    case round =>
      obtain ⟨i, rfl, hin, hT, hbr⟩ := hrel
      have B1 := Lib.hid hbr
      have HTK := Lib.hid hT
      clear hbr hT
      by_cases hi : i < n1
      · obtain ⟨x, hx⟩ : ∃ x, l1[i]? = some x := ⟨_, List.getElem?_eq_getElem (by rw [E1.out]; exact hi)⟩
        obtain ⟨y, hy⟩ : ∃ y, l2[i]? = some y := ⟨_, List.getElem?_eq_getElem (by rw [E2.out]; exact hi)⟩
        obtain ⟨b1, o1, rfl, hl1, hcs1⟩ := (H1.out.below B1.out).at hx
        obtain ⟨b2, o2, rfl, hl2, hcs2⟩ := (H2.out.below B1.out).at hy
        have x0 : wr.cell? ⟨b1, o1 + i, none⟩ = some (.int .i64 x) := by
          have := hcs1 0 _ rfl
          rwa [show o1 + i * (RowG.encI).k + 0 = o1 + i from by have : (RowG.encI).k = 1 := rfl; rw [this]; omega] at this
        have y0 : wr.cell? ⟨b2, o2 + i, none⟩ = some (.int .i64 y) := by
          have := hcs2 0 _ rfl
          rwa [show o2 + i * (RowG.encI).k + 0 = o2 + i from by have : (RowG.encI).k = 1 := rfl; rw [this]; omega] at this
        have TX := Lib.hid (take_next hx)
        have TY := Lib.hid (take_next hy)
        obtain ⟨X, hX⟩ : ∃ X : Int, X = x := ⟨_, rfl⟩
        obtain ⟨Y, hY⟩ : ∃ Y : Int, Y = y := ⟨_, rfl⟩
        rw [← hX] at x0
        rw [← hY] at y0
        have HXY : Hid (X = Y ↔ x = y) := Lib.hid (by rw [hX, hY])
        have HNE : Hid (¬ x = y → (X != Y) = true) := Lib.hid (fun h => by rw [hX, hY]; simpa using h)
        clear hX hY
        clear hx hy hcs1 hcs2
        by_cases hxy : X = Y
        · have HX2 := Lib.hid (HXY.out.1 hxy)
          clear HXY
          subst hxy
          go_wp2_with fail
          go_quiet (fail)
          go_wp2_with fail
          go_roundw
          case rel => exact ⟨i + 1, by first | rfl | go_num | (congr 1; omega), by omega, by rw [TX.out, TY.out, HTK.out, HX2.out], bel_drewN B1.out _⟩
          case measure => first | (simp [RowKit.intOf]; done) | (simp [RowKit.intOf]; omega)
        · have hr : r = false := by
            rw [← HR.out]
            simp only [decide_eq_false_iff_not]
            intro e
            have h3 := TX.out
            rw [e, TY.out] at h3
            have := List.append_cancel_left h3
            simp at this
            exact hxy (HXY.out.2 this.symm)
          subst hr
          have hn := HNE.out (fun e => hxy (HXY.out.2 e))
          clear HXY
          go_wp2_with fail
          go_quiet (fail)
          go_wp2_with fail
          go_ret
          exact ⟨rfl, bel_drewN B1.out _⟩
      · have hr : r = true := by
          rw [← HR.out]
          simp only [decide_eq_true_eq]
          have e := HTK.out
          rwa [List.take_of_length_le (by rw [E1.out]; omega), List.take_of_length_le (by rw [E2.out]; omega)] at e
        subst hr
        go_wp2_with fail
        go_ret
        exact ⟨rfl, B1.out⟩
  · have hr : r = false := by
      rw [← HR.out]
      simp only [decide_eq_false_iff_not]
      intro e
      rw [e, E2.out] at E1
      exact hn E1.out.symm
    subst hr
    go_enter Tryd.func18, Tryd.ntmps18
    go_wp2_with fail
    go_ret
    exact ⟨rfl, Below.refl _ _⟩
end FreW
end Go.Proofs.YtbnkaeigabifhaaDoor
