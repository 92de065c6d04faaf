/-
  ReactLittle: few changes, each of the cell or a side, none twice, to cells that may be; what is hard stays; cells without a delay do nothing; light, draw and what is below the sides count for some kinds alone.
-/
import Derived.Deep.CutRange
import Derived.Test.YtlahkmkipciiiaaDoorReactOver
namespace Go.Proofs.YtlahkmkipciiiaaDoor
open Go.RowKit
set_option linter.unusedVariables false
set_option linter.unusedSimpArgs false
namespace ReactW
open BlkP RowG FrS PushG CellsW NearW BurnP BurnW ReactP DeedW

def setsL (us : List Value) : Nat → List Value → List Value
  | _, [] => us
  | o, x :: r => setsL (us.set o x) (o + 1) r
theorem blk_sets {g : Nat} {T : TypeId} : ∀ (xs : List Value) (o : Nat) (w : World) (us : List Value), Blk w g T us → Blk (w.setCells g o xs) g T (setsL us o xs)
  | [], _, _, _, h => h
  | x :: r, o, w, us, h => blk_sets r (o + 1) _ _ (h.set o x)
theorem grown_sets (g : Nat) : ∀ (xs : List Value) (o : Nat) (w : World), w.grownBy (w.setCells g o xs) (some g)
  | [], _, w => World.grownBy.refl _ _
  | x :: r, o, w => (grown_set w g o x).trans (grown_sets g r (o + 1) _)
theorem size_sets (g : Nat) : ∀ (xs : List Value) (o : Nat) (w : World), (w.setCells g o xs).heap.size = w.heap.size
  | [], _, w => rfl
  | x :: r, o, w => by
    have := size_sets g r (o + 1) (w.setCell ⟨g, o, none⟩ x)
    simp only [World.setCells]
    rw [this]
    simp
theorem sets_un (n : Nr) (f : Nat → Cl) : setsL (vals n) 14 (valsU f) = vals {n with un := f} := rfl
theorem at_vals {n : Nr} {j : Nat} (h : j < 24) : ((vals n)[j]?).isSome = true := by
  rw [List.getElem?_eq_getElem (by rw [vals_len]; exact h)]
  rfl
theorem wp_storeU {w : World} {ops : Array Oper} {rest : List Oper} {o : Oper} {a : Act} {Q : Exit → Act → World → Prop} (hgd : o.guard = none) (x y : Operand) (ho : o.op = .store TU4 x y) {g : Nat} {n : Nr} {f : Nat → Cl} (hx : a.eval x = .pointer (some ⟨g, 14, none⟩)) (hy : a.eval y = .agg (valsU f).toArray) (hk : Blk w g TN (vals n))
    (h : ∀ w', Blk w' g TN (vals {n with un := f}) → w.grownBy w' (some g) → w'.heap.size = w.heap.size → wpList Tryd.prog ops Q rest (a.put o.dst undef) w') : wpList Tryd.prog ops Q (o :: rest) a w := by
  refine wpList_store_mid hgd TU4 x y ho g 14 (valsU f).toArray hx hy (fun j hj => ?_) (by rw [sizeU4]; rfl) (by simp [valsU, u8, Value.oneCell']) ?_
  · have hj8 : j < 8 := hj
    refine ⟨?_, hk.frozen _⟩
    have := NearW.Blk.cell_eq hk (14 + j)
    rw [this]
    exact at_vals (by omega)
  · exact h _ (sets_un n f ▸ blk_sets (valsU f) 14 w (vals n) hk) (grown_sets g _ _ _) (size_sets g _ _ _)
theorem vals_lt (n : Nr) (y : Nat) : (vals n).set 22 (.int .u8 (y : Int)) = vals {n with lt := y} := rfl
theorem vals_dr (n : Nr) (y : Int) : (vals n).set 23 (.int .u64 y) = vals {n with dr := y} := rfl
set_option maxRecDepth 100000 in
set_option maxHeartbeats 32000000 in
theorem law_little {w : World} (hT : KindW.Tab w) (n : Nr) {d : Nat} (h8 : n.s.1 < 256) (hd : n.dr = (d : Int)) (hd2 : d ≤ 18446744073709551615) (y : Nat) {e : Nat} (he2 : e ≤ 18446744073709551615) (f : Nat → Cl) : Calls Tryd.prog 7 #[nv n, .int .u8 (y : Int), .int .u64 (e : Int), .agg (valsU f).toArray] w fun e w' => e = .returned (.bool true) ∧ Below w.heap.size w w' := by
  have HT := Lib.hid hT
  have HDR := Lib.hid hd
  have H8 := Lib.hid h8
  obtain ⟨⟨L, ag, dl⟩, hD⟩ : ∃ D, ndeed n d = D := ⟨_, rfl⟩
  have HD := Lib.hid hD
  obtain ⟨k, hk⟩ : ∃ k, L.length = k := ⟨_, rfl⟩
  have HK := Lib.hid hk
  have HZL := Lib.hid (show (zl L).length = k from by rw [zl_len, hk])
  have hf := deed_fine n d
  rw [hD] at hf
  simp only at hf
  obtain ⟨hf1, hf2, hf3⟩ := hf
  have HPW := Lib.hid hf2
  have HLO := Lib.hid hf3
  rw [hk] at hf1
  have HK4 := Lib.hid hf1
  obtain ⟨⟨k0, l0⟩, hs0⟩ : ∃ c, n.s = c := ⟨_, rfl⟩
  have HS0 := Lib.hid hs0
  have HK08 := Lib.hid (show k0 < 256 from by rw [hs0] at h8; exact h8)
  obtain ⟨q, hq⟩ : ∃ x, delay k0 = x := ⟨_, rfl⟩
  have HQ := Lib.hid hq
  have HAG := Lib.hid (show ag = 0 ∨ ag = q from by
    have := deed_again n d
    rw [hD, hs0] at this
    simp only at this
    rw [hq] at this
    exact this)
  have HID := Lib.hid (show q = 0 → k = 0 ∧ ag = 0 from fun h => by
    have := deed_idle n d (by rw [hs0]; simp only; rw [hq, h])
    rw [hD] at this
    injection this with h1 h2 h3
    exact ⟨by rw [← hk, h1]; rfl, h2⟩)
  obtain ⟨s, hs⟩ : ∃ s, w.heap.size = s := ⟨_, rfl⟩
  have HS := Lib.hid hs
  clear hT hd hD hk h8 hf1 hf2 hf3 hs0 hq
  go_enter Tryd.func7, Tryd.ntmps7
  go_wp2_with ((with_reducible refine at_slot 4 ?_); refine Classical.byContradiction (fun hG => ?_))
  refine hG ?_
  clear hG
  refine wp_boxN rfl (.tmp 0) rfl rfl ?_
  intro w1 h1 hb1 hz1
  rw [hs] at h1 hz1
  try rw [hs]
  have HB1 := Lib.hid hb1
  have H1 := Lib.hid h1
  clear h1 hb1
  go_wp2_with ((with_reducible refine at_slot 15 ?_); refine Classical.byContradiction (fun hG => ?_))
  refine hG ?_
  clear hG
  refine list_named (S := fun W => Below w.heap.size w W ∧ Blk W s TN (vals n) ∧ Blk W (s + 1) TU4 (valsU f)) ⟨by have zz := HB1.out.size; (repeat' (first | (with_reducible exact Below.refl _ _) | (with_reducible refine Below.setCell ?_ (by (first | omega | (simp; done) | (simp; omega))) _) | (with_reducible refine Below.alloc ?_ (by (first | omega | (simp; done) | (simp; omega))) _) | (with_reducible refine Below.drew ?_) | (with_reducible refine below_drewN ?_ _) | (with_reducible refine Below.trans ?_ (Below.mono HB1.out (by (first | omega | (simp; done) | (simp; omega))))))), by (repeat' (first | (with_reducible exact H1.out) | (with_reducible refine BlkP.Blk.drew ?_) | (with_reducible refine BlkP.Blk.drewN ?_ _) | (with_reducible refine BlkP.Blk.setAt (us := ?_) (by first | omega | (simp; done) | (simp; omega)) rfl ?_ ?_) | (with_reducible refine BlkP.Blk.otherAt ?_ (by first | omega | (simp; done) | (simp; omega))) | (with_reducible refine BlkP.Blk.newA' (by first | omega | (simp; done) | (simp; omega)) rfl) | (with_reducible refine BlkP.Blk.alloc ?_ _) | (exact rfl))), by (repeat' (first | (with_reducible refine BlkP.Blk.drew ?_) | (with_reducible refine BlkP.Blk.drewN ?_ _) | (with_reducible refine BlkP.Blk.setAt (us := ?_) (by first | omega | (simp; done) | (simp; omega)) rfl ?_ ?_) | (with_reducible refine BlkP.Blk.otherAt ?_ (by first | omega | (simp; done) | (simp; omega))) | (with_reducible refine BlkP.Blk.newA' (by first | omega | (simp; done) | (simp; omega)) rfl) | (with_reducible refine BlkP.Blk.alloc ?_ _) | (exact rfl)))⟩ ?_
  rintro w2 ⟨hb2, h2, hu2⟩
  try rw [hz1]
  have HB2 := Lib.hid hb2
  have H2 := Lib.hid h2
  have HU2 := Lib.hid hu2
  clear hb2 h2 hu2 hz1 hs
  refine wp_loadN rfl (.tmp 4) rfl rfl (n := n) H2.out ?_
  go_wp2_with fail
  refine (Next_q (HT.out.below HB2.out) H8.out HDR.out hd2 HD.out).mono ?_
  rintro e w3 ⟨v, rfl, ho, hb3⟩
  obtain ⟨A1, c1, rfl, _, _, _⟩ := ho.form HK.out
  have HB3 := Lib.hid (below_t HB2.out hb3)
  have H3 := Lib.hid (H2.out.below hb3)
  have HU3 := Lib.hid (HU2.out.below hb3)
  have HO3 := Lib.hid ho.rd
  have hz3 := HB3.out.size
  clear hb3 ho
  go_wp2_with fail
  refine HeldP.wp_named (S := fun W => Below w.heap.size w W ∧ Blk W s TN (vals n) ∧ Blk W (s + 1) TU4 (valsU f) ∧ Rd encX W (.slice A1 k c1) L ∧ ∃ a, a = w3.heap.size ∧ Blk W a TD [.slice A1 k c1, .int .i64 ag, .int .i64 dl]) ⟨by (repeat' (first | (with_reducible exact Below.refl _ _) | (with_reducible refine Below.setCell ?_ (by (first | omega | (simp; done) | (simp; omega))) _) | (with_reducible refine Below.alloc ?_ (by (first | omega | (simp; done) | (simp; omega))) _) | (with_reducible refine Below.drew ?_) | (with_reducible refine below_drewN ?_ _) | (with_reducible refine Below.trans ?_ (Below.mono HB3.out (by (first | omega | (simp; done) | (simp; omega))))))), by (repeat' (first | (with_reducible exact H3.out) | (with_reducible refine BlkP.Blk.drew ?_) | (with_reducible refine BlkP.Blk.drewN ?_ _) | (with_reducible refine BlkP.Blk.setAt (us := ?_) (by first | omega | (simp; done) | (simp; omega)) rfl ?_ ?_) | (with_reducible refine BlkP.Blk.otherAt ?_ (by first | omega | (simp; done) | (simp; omega))) | (with_reducible refine BlkP.Blk.newA' (by first | omega | (simp; done) | (simp; omega)) rfl) | (with_reducible refine BlkP.Blk.alloc ?_ _) | (exact rfl))), by (repeat' (first | (with_reducible exact HU3.out) | (with_reducible refine BlkP.Blk.drew ?_) | (with_reducible refine BlkP.Blk.drewN ?_ _) | (with_reducible refine BlkP.Blk.setAt (us := ?_) (by first | omega | (simp; done) | (simp; omega)) rfl ?_ ?_) | (with_reducible refine BlkP.Blk.otherAt ?_ (by first | omega | (simp; done) | (simp; omega))) | (with_reducible refine BlkP.Blk.newA' (by first | omega | (simp; done) | (simp; omega)) rfl) | (with_reducible refine BlkP.Blk.alloc ?_ _) | (exact rfl))), HO3.out.below (by (repeat' (first | (with_reducible exact Below.refl _ _) | (with_reducible refine Below.setCell ?_ (by (first | omega | (simp; done) | (simp; omega))) _) | (with_reducible refine Below.alloc ?_ (by (first | omega | (simp; done) | (simp; omega))) _) | (with_reducible refine Below.drew ?_) | (with_reducible refine below_drewN ?_ _)))), w3.heap.size, rfl, by (repeat' (first | (with_reducible refine BlkP.Blk.drew ?_) | (with_reducible refine BlkP.Blk.drewN ?_ _) | (with_reducible refine BlkP.Blk.setAt (us := ?_) (by first | omega | (simp; done) | (simp; omega)) rfl ?_ ?_) | (with_reducible refine BlkP.Blk.otherAt ?_ (by first | omega | (simp; done) | (simp; omega))) | (with_reducible refine BlkP.Blk.newA' (by first | omega | (simp; done) | (simp; omega)) rfl) | (with_reducible refine BlkP.Blk.alloc ?_ _) | (exact rfl)))⟩ ?_
  rintro w5 ⟨hb5, h5, hu5, ho5, a, ha, ha5⟩
  try rw [← ha]
  have HB5 := Lib.hid hb5
  have H5 := Lib.hid h5
  have HU5 := Lib.hid hu5
  have HO5 := Lib.hid ho5
  have HA5 := Lib.hid ha5
  clear hb5 h5 hu5 ho5 ha5 ha hz3
  go_cut [52] from 17 to 51 (fun s52 W => s52 = .bool false ∧ Below w5.heap.size w5 W)
  case first =>
    have a0 := HA5.out.cell (i := 0) rfl
    have a1 := HA5.out.cell (i := 1) rfl
    have la := HA5.out.lt
    have c0 := H5.out.cell (i := 0) (g_kind n)
    rw [HS0.out] at c0
    simp only at c0
    have ls := H5.out.lt
    have hk4 : ¬ (4 : Int) < (k : Int) := by have := HK4.out; omega
    by_cases hq0 : q = 0
    · obtain ⟨hk0, hag0⟩ := HID.out hq0
      have hkz : ¬ (0 : Int) < (k : Int) := by omega
      have hqI : (q == 0) = true := by simp; exact hq0
      rw [hag0] at a1
      have HKZ := Lib.hid hk0
      clear hk0 hag0 hq0
      refine wp_region_noPanic ?_
      refine wp_region_held_drew (S := fun W => Below w5.heap.size w5 W) (by kernel_rfl) ((Below.refl _ w5).drew) (fun hHeld => ?_)
      refine wpAnyH_take (i := 0) (oi := ⟨some 17, _, _, _, _, _⟩) (v := .pointer (some ⟨a, 0, none⟩)) rfl (by kernel_rfl) (by kernel_rfl) (by kernel_rfl) (fun _ _ _ h => h) (Or.inl ⟨by rfl, fun W hSW => by go_simp⟩) hHeld ?_
      simp only [Act.put, List.setIfInBounds_toArray, List.set_cons_zero, List.set_cons_succ]
      refine wpAnyH_take (i := 1) (oi := ⟨some 18, _, _, _, _, _⟩) (v := .slice A1 k c1) rfl (by kernel_rfl) (by kernel_rfl) (by kernel_rfl) (fun _ _ _ h => h) (Or.inl ⟨by rfl, fun W hSW => by have a0 := (hSW.cell (p := ⟨a, 0, none⟩) la).trans a0; go_simp⟩) hHeld ?_
      simp only [Act.put, List.setIfInBounds_toArray, List.set_cons_zero, List.set_cons_succ]
      refine wpAnyH_take (i := 2) (oi := ⟨some 19, _, _, _, _, _⟩) (v := .int .i64 (k : Int)) rfl (by kernel_rfl) (by kernel_rfl) (by kernel_rfl) (fun _ _ _ h => h) (Or.inl ⟨by rfl, fun W hSW => by go_simp⟩) hHeld ?_
      simp only [Act.put, List.setIfInBounds_toArray, List.set_cons_zero, List.set_cons_succ]
      refine wpAnyH_take (i := 3) (oi := ⟨some 20, _, _, _, _, _⟩) (v := .bool false) rfl (by kernel_rfl) (by kernel_rfl) (by kernel_rfl) (fun _ _ _ h => h) (Or.inl ⟨by rfl, fun W hSW => by go_simp⟩) hHeld ?_
      simp only [Act.put, List.setIfInBounds_toArray, List.set_cons_zero, List.set_cons_succ]
      refine wpAnyH_take (i := 4) (oi := ⟨some 21, _, _, _, _, _⟩) (v := .bool false) rfl (by kernel_rfl) (by kernel_rfl) (by kernel_rfl) (fun _ _ _ h => h) (Or.inl ⟨by rfl, fun W hSW => by go_simp⟩) hHeld ?_
      simp only [Act.put, List.setIfInBounds_toArray, List.set_cons_zero, List.set_cons_succ]
      refine wpAnyH_take (i := 5) (oi := ⟨some 22, _, _, _, _, _⟩) (v := .pointer (some ⟨a, 1, none⟩)) rfl (by kernel_rfl) (by kernel_rfl) (by kernel_rfl) (fun _ _ _ h => h) (Or.inl ⟨by rfl, fun W hSW => by go_simp⟩) hHeld ?_
      simp only [Act.put, List.setIfInBounds_toArray, List.set_cons_zero, List.set_cons_succ]
      refine wpAnyH_take (i := 6) (oi := ⟨some 23, _, _, _, _, _⟩) (v := .int .i64 0) rfl (by kernel_rfl) (by kernel_rfl) (by kernel_rfl) (fun _ _ _ h => h) (Or.inl ⟨by rfl, fun W hSW => by have a0 := (hSW.cell (p := ⟨a, 1, none⟩) la).trans a1; go_simp⟩) hHeld ?_
      simp only [Act.put, List.setIfInBounds_toArray, List.set_cons_zero, List.set_cons_succ]
      refine wpAnyH_take (i := 7) (oi := ⟨some 24, _, _, _, _, _⟩) (v := .bool false) rfl (by kernel_rfl) (by kernel_rfl) (by kernel_rfl) (fun _ _ _ h => h) (Or.inl ⟨by rfl, fun W hSW => by go_simp⟩) hHeld ?_
      simp only [Act.put, List.setIfInBounds_toArray, List.set_cons_zero, List.set_cons_succ]
      refine wpAnyH_take (i := 8) (oi := ⟨some 25, _, _, _, _, _⟩) (v := .bool false) rfl (by kernel_rfl) (by kernel_rfl) (by kernel_rfl) (fun _ _ _ h => h) (Or.inl ⟨by rfl, fun W hSW => by go_simp⟩) hHeld ?_
      simp only [Act.put, List.setIfInBounds_toArray, List.set_cons_zero, List.set_cons_succ]
      refine wpAnyH_take (i := 9) (oi := ⟨some 26, _, _, _, _, _⟩) (v := undef) rfl (by kernel_rfl) (by kernel_rfl) (by kernel_rfl) (fun _ _ _ h => h) (Or.inr ⟨by kernel_rfl, rfl⟩) hHeld ?_
      simp only [Act.put, List.setIfInBounds_toArray, List.set_cons_zero, List.set_cons_succ]
      refine wpAnyH_take (i := 10) (oi := ⟨some 27, _, _, _, _, _⟩) (v := undef) rfl (by kernel_rfl) (by kernel_rfl) (by kernel_rfl) (fun _ _ _ h => h) (Or.inr ⟨by kernel_rfl, rfl⟩) hHeld ?_
      simp only [Act.put, List.setIfInBounds_toArray, List.set_cons_zero, List.set_cons_succ]
      refine wpAnyH_take (i := 11) (oi := ⟨some 28, _, _, _, _, _⟩) (v := undef) rfl (by kernel_rfl) (by kernel_rfl) (by kernel_rfl) (fun _ _ _ h => h) (Or.inr ⟨by kernel_rfl, rfl⟩) hHeld ?_
      simp only [Act.put, List.setIfInBounds_toArray, List.set_cons_zero, List.set_cons_succ]
      refine wpAnyH_take (i := 12) (oi := ⟨some 29, _, _, _, _, _⟩) (v := undef) rfl (by kernel_rfl) (by kernel_rfl) (by kernel_rfl) (fun _ _ _ h => h) (Or.inr ⟨by kernel_rfl, rfl⟩) hHeld ?_
      simp only [Act.put, List.setIfInBounds_toArray, List.set_cons_zero, List.set_cons_succ]
      refine wpAnyH_take (i := 13) (oi := ⟨some 30, _, _, _, _, _⟩) (v := undef) rfl (by kernel_rfl) (by kernel_rfl) (by kernel_rfl) (fun _ _ _ h => h) (Or.inr ⟨by kernel_rfl, rfl⟩) hHeld ?_
      simp only [Act.put, List.setIfInBounds_toArray, List.set_cons_zero, List.set_cons_succ]
      refine wpAnyH_take (i := 14) (oi := ⟨some 31, _, _, _, _, _⟩) (v := undef) rfl (by kernel_rfl) (by kernel_rfl) (by kernel_rfl) (fun _ _ _ h => h) (Or.inr ⟨by kernel_rfl, rfl⟩) hHeld ?_
      simp only [Act.put, List.setIfInBounds_toArray, List.set_cons_zero, List.set_cons_succ]
      refine wpAnyH_take (i := 15) (oi := ⟨some 32, _, _, _, _, _⟩) (v := undef) rfl (by kernel_rfl) (by kernel_rfl) (by kernel_rfl) (fun _ _ _ h => h) (Or.inr ⟨by kernel_rfl, rfl⟩) hHeld ?_
      simp only [Act.put, List.setIfInBounds_toArray, List.set_cons_zero, List.set_cons_succ]
      refine wpAnyH_take (i := 16) (oi := ⟨some 33, _, _, _, _, _⟩) (v := .bool false) rfl (by kernel_rfl) (by kernel_rfl) (by kernel_rfl) (fun _ _ _ h => h) (Or.inl ⟨by rfl, fun W hSW => by go_simp⟩) hHeld ?_
      simp only [Act.put, List.setIfInBounds_toArray, List.set_cons_zero, List.set_cons_succ]
      refine wpAnyH_take (i := 17) (oi := ⟨some 34, _, _, _, _, _⟩) (v := .bool false) rfl (by kernel_rfl) (by kernel_rfl) (by kernel_rfl) (fun _ _ _ h => h) (Or.inl ⟨by rfl, fun W hSW => by go_simp⟩) hHeld ?_
      simp only [Act.put, List.setIfInBounds_toArray, List.set_cons_zero, List.set_cons_succ]
      refine wpAnyH_take (i := 18) (oi := ⟨some 35, _, _, _, _, _⟩) (v := .bool false) rfl (by kernel_rfl) (by kernel_rfl) (by kernel_rfl) (fun _ _ _ h => h) (Or.inl ⟨by rfl, fun W hSW => by go_simp⟩) hHeld ?_
      simp only [Act.put, List.setIfInBounds_toArray, List.set_cons_zero, List.set_cons_succ]
      refine wpAnyH_take (i := 19) (oi := ⟨some 36, _, _, _, _, _⟩) (v := .pointer (some ⟨s, 0, none⟩)) rfl (by kernel_rfl) (by kernel_rfl) (by kernel_rfl) (fun _ _ _ h => h) (Or.inl ⟨by rfl, fun W hSW => by go_simp⟩) hHeld ?_
      simp only [Act.put, List.setIfInBounds_toArray, List.set_cons_zero, List.set_cons_succ]
      refine wpAnyH_take (i := 20) (oi := ⟨some 37, _, _, _, _, _⟩) (v := .pointer (some ⟨s, 0, none⟩)) rfl (by kernel_rfl) (by kernel_rfl) (by kernel_rfl) (fun _ _ _ h => h) (Or.inl ⟨by rfl, fun W hSW => by go_simp⟩) hHeld ?_
      simp only [Act.put, List.setIfInBounds_toArray, List.set_cons_zero, List.set_cons_succ]
      refine wpAnyH_take (i := 21) (oi := ⟨some 38, _, _, _, _, _⟩) (v := .int .u8 (k0 : Int)) rfl (by kernel_rfl) (by kernel_rfl) (by kernel_rfl) (fun _ _ _ h => h) (Or.inl ⟨by rfl, fun W hSW => by have a0 := (hSW.cell (p := ⟨s, 0, none⟩) ls).trans c0; go_simp⟩) hHeld ?_
      simp only [Act.put, List.setIfInBounds_toArray, List.set_cons_zero, List.set_cons_succ]
      refine wpAnyH_ready (rs := [22]) (by kernel_rfl) (by simp) ?_
      refine AllReadyH.cons (o := ⟨some 39, _, _, _, _, _⟩) rfl (fun K hK => ?_) AllReadyH.nil
      go_simp
      refine (Delay_c HK08.out HQ.out).mono ?_
      rintro e w7 ⟨rfl, hb7⟩
      go_wp2_with fail
      refine hK.out _ _ (below_t hHeld hb7) (fun hHeld => ?_)
      clear hK K hb7
      refine wpAnyH_take (i := 23) (oi := ⟨some 40, _, _, _, _, _⟩) (v := .bool true) rfl (by kernel_rfl) (by kernel_rfl) (by kernel_rfl) (fun _ _ _ h => h) (Or.inl ⟨by rfl, fun W hSW => by go_simp⟩) hHeld ?_
      simp only [Act.put, List.setIfInBounds_toArray, List.set_cons_zero, List.set_cons_succ]
      refine wpAnyH_take (i := 24) (oi := ⟨some 41, _, _, _, _, _⟩) (v := .bool true) rfl (by kernel_rfl) (by kernel_rfl) (by kernel_rfl) (fun _ _ _ h => h) (Or.inl ⟨by rfl, fun W hSW => by go_simp⟩) hHeld ?_
      simp only [Act.put, List.setIfInBounds_toArray, List.set_cons_zero, List.set_cons_succ]
      refine wpAnyH_take (i := 25) (oi := ⟨some 42, _, _, _, _, _⟩) (v := .pointer (some ⟨a, 0, none⟩)) rfl (by kernel_rfl) (by kernel_rfl) (by kernel_rfl) (fun _ _ _ h => h) (Or.inl ⟨by rfl, fun W hSW => by go_simp⟩) hHeld ?_
      simp only [Act.put, List.setIfInBounds_toArray, List.set_cons_zero, List.set_cons_succ]
      refine wpAnyH_take (i := 26) (oi := ⟨some 43, _, _, _, _, _⟩) (v := .slice A1 k c1) rfl (by kernel_rfl) (by kernel_rfl) (by kernel_rfl) (fun _ _ _ h => h) (Or.inl ⟨by rfl, fun W hSW => by have a0 := (hSW.cell (p := ⟨a, 0, none⟩) la).trans a0; go_simp⟩) hHeld ?_
      simp only [Act.put, List.setIfInBounds_toArray, List.set_cons_zero, List.set_cons_succ]
      refine wpAnyH_take (i := 27) (oi := ⟨some 44, _, _, _, _, _⟩) (v := .int .i64 (k : Int)) rfl (by kernel_rfl) (by kernel_rfl) (by kernel_rfl) (fun _ _ _ h => h) (Or.inl ⟨by rfl, fun W hSW => by go_simp⟩) hHeld ?_
      simp only [Act.put, List.setIfInBounds_toArray, List.set_cons_zero, List.set_cons_succ]
      refine wpAnyH_take (i := 28) (oi := ⟨some 45, _, _, _, _, _⟩) (v := .bool false) rfl (by kernel_rfl) (by kernel_rfl) (by kernel_rfl) (fun _ _ _ h => h) (Or.inl ⟨by rfl, fun W hSW => by go_simp; exact HKZ.out⟩) hHeld ?_
      simp only [Act.put, List.setIfInBounds_toArray, List.set_cons_zero, List.set_cons_succ]
      refine wpAnyH_take (i := 29) (oi := ⟨some 46, _, _, _, _, _⟩) (v := .bool false) rfl (by kernel_rfl) (by kernel_rfl) (by kernel_rfl) (fun _ _ _ h => h) (Or.inl ⟨by rfl, fun W hSW => by go_simp⟩) hHeld ?_
      simp only [Act.put, List.setIfInBounds_toArray, List.set_cons_zero, List.set_cons_succ]
      refine wpAnyH_take (i := 30) (oi := ⟨some 47, _, _, _, _, _⟩) (v := .pointer (some ⟨a, 1, none⟩)) rfl (by kernel_rfl) (by kernel_rfl) (by kernel_rfl) (fun _ _ _ h => h) (Or.inl ⟨by rfl, fun W hSW => by go_simp⟩) hHeld ?_
      simp only [Act.put, List.setIfInBounds_toArray, List.set_cons_zero, List.set_cons_succ]
      refine wpAnyH_take (i := 31) (oi := ⟨some 48, _, _, _, _, _⟩) (v := .int .i64 0) rfl (by kernel_rfl) (by kernel_rfl) (by kernel_rfl) (fun _ _ _ h => h) (Or.inl ⟨by rfl, fun W hSW => by have a0 := (hSW.cell (p := ⟨a, 1, none⟩) la).trans a1; go_simp⟩) hHeld ?_
      simp only [Act.put, List.setIfInBounds_toArray, List.set_cons_zero, List.set_cons_succ]
      refine wpAnyH_take (i := 32) (oi := ⟨some 49, _, _, _, _, _⟩) (v := .bool false) rfl (by kernel_rfl) (by kernel_rfl) (by kernel_rfl) (fun _ _ _ h => h) (Or.inl ⟨by rfl, fun W hSW => by go_simp⟩) hHeld ?_
      simp only [Act.put, List.setIfInBounds_toArray, List.set_cons_zero, List.set_cons_succ]
      refine wpAnyH_take (i := 33) (oi := ⟨some 50, _, _, _, _, _⟩) (v := .bool false) rfl (by kernel_rfl) (by kernel_rfl) (by kernel_rfl) (fun _ _ _ h => h) (Or.inl ⟨by rfl, fun W hSW => by go_simp⟩) hHeld ?_
      simp only [Act.put, List.setIfInBounds_toArray, List.set_cons_zero, List.set_cons_succ]
      refine wpAnyH_take (i := 34) (oi := ⟨some 51, _, _, _, _, _⟩) (v := .bool false) rfl (by kernel_rfl) (by kernel_rfl) (by kernel_rfl) (fun _ _ _ h => h) (Or.inl ⟨by rfl, fun W hSW => by go_simp⟩) hHeld ?_
      simp only [Act.put, List.setIfInBounds_toArray, List.set_cons_zero, List.set_cons_succ]
      refine wpAnyH_take (i := 35) (oi := ⟨some 52, _, _, _, _, _⟩) (v := .bool false) rfl (by kernel_rfl) (by kernel_rfl) (by kernel_rfl) (fun _ _ _ h => h) (Or.inl ⟨by rfl, fun W hSW => by go_simp⟩) hHeld ?_
      simp only [Act.put, List.setIfInBounds_toArray, List.set_cons_zero, List.set_cons_succ]
      refine wpAnyH_done (by kernel_rfl) ?_ _
      refine NoPanic.normal ?_
      go_wp2_with fail
      go_meet
      case rel => exact ⟨rfl, hHeld⟩
    · have hqI : (q == 0) = false := by simp; exact hq0
      by_cases hag0 : ag = 0
      · rw [hag0] at a1
        clear hag0 hq0
        refine wp_region_noPanic ?_
        refine wp_region_held_drew (S := fun W => Below w5.heap.size w5 W) (by kernel_rfl) ((Below.refl _ w5).drew) (fun hHeld => ?_)
        refine wpAnyH_take (i := 0) (oi := ⟨some 17, _, _, _, _, _⟩) (v := .pointer (some ⟨a, 0, none⟩)) rfl (by kernel_rfl) (by kernel_rfl) (by kernel_rfl) (fun _ _ _ h => h) (Or.inl ⟨by rfl, fun W hSW => by go_simp⟩) hHeld ?_
        simp only [Act.put, List.setIfInBounds_toArray, List.set_cons_zero, List.set_cons_succ]
        refine wpAnyH_take (i := 1) (oi := ⟨some 18, _, _, _, _, _⟩) (v := .slice A1 k c1) rfl (by kernel_rfl) (by kernel_rfl) (by kernel_rfl) (fun _ _ _ h => h) (Or.inl ⟨by rfl, fun W hSW => by have a0 := (hSW.cell (p := ⟨a, 0, none⟩) la).trans a0; go_simp⟩) hHeld ?_
        simp only [Act.put, List.setIfInBounds_toArray, List.set_cons_zero, List.set_cons_succ]
        refine wpAnyH_take (i := 2) (oi := ⟨some 19, _, _, _, _, _⟩) (v := .int .i64 (k : Int)) rfl (by kernel_rfl) (by kernel_rfl) (by kernel_rfl) (fun _ _ _ h => h) (Or.inl ⟨by rfl, fun W hSW => by go_simp⟩) hHeld ?_
        simp only [Act.put, List.setIfInBounds_toArray, List.set_cons_zero, List.set_cons_succ]
        refine wpAnyH_take (i := 3) (oi := ⟨some 20, _, _, _, _, _⟩) (v := .bool false) rfl (by kernel_rfl) (by kernel_rfl) (by kernel_rfl) (fun _ _ _ h => h) (Or.inl ⟨by rfl, fun W hSW => by go_simp⟩) hHeld ?_
        simp only [Act.put, List.setIfInBounds_toArray, List.set_cons_zero, List.set_cons_succ]
        refine wpAnyH_take (i := 4) (oi := ⟨some 21, _, _, _, _, _⟩) (v := .bool false) rfl (by kernel_rfl) (by kernel_rfl) (by kernel_rfl) (fun _ _ _ h => h) (Or.inl ⟨by rfl, fun W hSW => by go_simp⟩) hHeld ?_
        simp only [Act.put, List.setIfInBounds_toArray, List.set_cons_zero, List.set_cons_succ]
        refine wpAnyH_take (i := 5) (oi := ⟨some 22, _, _, _, _, _⟩) (v := .pointer (some ⟨a, 1, none⟩)) rfl (by kernel_rfl) (by kernel_rfl) (by kernel_rfl) (fun _ _ _ h => h) (Or.inl ⟨by rfl, fun W hSW => by go_simp⟩) hHeld ?_
        simp only [Act.put, List.setIfInBounds_toArray, List.set_cons_zero, List.set_cons_succ]
        refine wpAnyH_take (i := 6) (oi := ⟨some 23, _, _, _, _, _⟩) (v := .int .i64 0) rfl (by kernel_rfl) (by kernel_rfl) (by kernel_rfl) (fun _ _ _ h => h) (Or.inl ⟨by rfl, fun W hSW => by have a0 := (hSW.cell (p := ⟨a, 1, none⟩) la).trans a1; go_simp⟩) hHeld ?_
        simp only [Act.put, List.setIfInBounds_toArray, List.set_cons_zero, List.set_cons_succ]
        refine wpAnyH_take (i := 7) (oi := ⟨some 24, _, _, _, _, _⟩) (v := .bool false) rfl (by kernel_rfl) (by kernel_rfl) (by kernel_rfl) (fun _ _ _ h => h) (Or.inl ⟨by rfl, fun W hSW => by go_simp⟩) hHeld ?_
        simp only [Act.put, List.setIfInBounds_toArray, List.set_cons_zero, List.set_cons_succ]
        refine wpAnyH_take (i := 8) (oi := ⟨some 25, _, _, _, _, _⟩) (v := .bool false) rfl (by kernel_rfl) (by kernel_rfl) (by kernel_rfl) (fun _ _ _ h => h) (Or.inl ⟨by rfl, fun W hSW => by go_simp⟩) hHeld ?_
        simp only [Act.put, List.setIfInBounds_toArray, List.set_cons_zero, List.set_cons_succ]
        refine wpAnyH_take (i := 9) (oi := ⟨some 26, _, _, _, _, _⟩) (v := undef) rfl (by kernel_rfl) (by kernel_rfl) (by kernel_rfl) (fun _ _ _ h => h) (Or.inr ⟨by kernel_rfl, rfl⟩) hHeld ?_
        simp only [Act.put, List.setIfInBounds_toArray, List.set_cons_zero, List.set_cons_succ]
        refine wpAnyH_take (i := 10) (oi := ⟨some 27, _, _, _, _, _⟩) (v := undef) rfl (by kernel_rfl) (by kernel_rfl) (by kernel_rfl) (fun _ _ _ h => h) (Or.inr ⟨by kernel_rfl, rfl⟩) hHeld ?_
        simp only [Act.put, List.setIfInBounds_toArray, List.set_cons_zero, List.set_cons_succ]
        refine wpAnyH_take (i := 11) (oi := ⟨some 28, _, _, _, _, _⟩) (v := undef) rfl (by kernel_rfl) (by kernel_rfl) (by kernel_rfl) (fun _ _ _ h => h) (Or.inr ⟨by kernel_rfl, rfl⟩) hHeld ?_
        simp only [Act.put, List.setIfInBounds_toArray, List.set_cons_zero, List.set_cons_succ]
        refine wpAnyH_take (i := 12) (oi := ⟨some 29, _, _, _, _, _⟩) (v := undef) rfl (by kernel_rfl) (by kernel_rfl) (by kernel_rfl) (fun _ _ _ h => h) (Or.inr ⟨by kernel_rfl, rfl⟩) hHeld ?_
        simp only [Act.put, List.setIfInBounds_toArray, List.set_cons_zero, List.set_cons_succ]
        refine wpAnyH_take (i := 13) (oi := ⟨some 30, _, _, _, _, _⟩) (v := undef) rfl (by kernel_rfl) (by kernel_rfl) (by kernel_rfl) (fun _ _ _ h => h) (Or.inr ⟨by kernel_rfl, rfl⟩) hHeld ?_
        simp only [Act.put, List.setIfInBounds_toArray, List.set_cons_zero, List.set_cons_succ]
        refine wpAnyH_take (i := 14) (oi := ⟨some 31, _, _, _, _, _⟩) (v := undef) rfl (by kernel_rfl) (by kernel_rfl) (by kernel_rfl) (fun _ _ _ h => h) (Or.inr ⟨by kernel_rfl, rfl⟩) hHeld ?_
        simp only [Act.put, List.setIfInBounds_toArray, List.set_cons_zero, List.set_cons_succ]
        refine wpAnyH_take (i := 15) (oi := ⟨some 32, _, _, _, _, _⟩) (v := undef) rfl (by kernel_rfl) (by kernel_rfl) (by kernel_rfl) (fun _ _ _ h => h) (Or.inr ⟨by kernel_rfl, rfl⟩) hHeld ?_
        simp only [Act.put, List.setIfInBounds_toArray, List.set_cons_zero, List.set_cons_succ]
        refine wpAnyH_take (i := 16) (oi := ⟨some 33, _, _, _, _, _⟩) (v := .bool false) rfl (by kernel_rfl) (by kernel_rfl) (by kernel_rfl) (fun _ _ _ h => h) (Or.inl ⟨by rfl, fun W hSW => by go_simp⟩) hHeld ?_
        simp only [Act.put, List.setIfInBounds_toArray, List.set_cons_zero, List.set_cons_succ]
        refine wpAnyH_take (i := 17) (oi := ⟨some 34, _, _, _, _, _⟩) (v := .bool false) rfl (by kernel_rfl) (by kernel_rfl) (by kernel_rfl) (fun _ _ _ h => h) (Or.inl ⟨by rfl, fun W hSW => by go_simp⟩) hHeld ?_
        simp only [Act.put, List.setIfInBounds_toArray, List.set_cons_zero, List.set_cons_succ]
        refine wpAnyH_take (i := 18) (oi := ⟨some 35, _, _, _, _, _⟩) (v := .bool false) rfl (by kernel_rfl) (by kernel_rfl) (by kernel_rfl) (fun _ _ _ h => h) (Or.inl ⟨by rfl, fun W hSW => by go_simp⟩) hHeld ?_
        simp only [Act.put, List.setIfInBounds_toArray, List.set_cons_zero, List.set_cons_succ]
        refine wpAnyH_take (i := 19) (oi := ⟨some 36, _, _, _, _, _⟩) (v := .pointer (some ⟨s, 0, none⟩)) rfl (by kernel_rfl) (by kernel_rfl) (by kernel_rfl) (fun _ _ _ h => h) (Or.inl ⟨by rfl, fun W hSW => by go_simp⟩) hHeld ?_
        simp only [Act.put, List.setIfInBounds_toArray, List.set_cons_zero, List.set_cons_succ]
        refine wpAnyH_take (i := 20) (oi := ⟨some 37, _, _, _, _, _⟩) (v := .pointer (some ⟨s, 0, none⟩)) rfl (by kernel_rfl) (by kernel_rfl) (by kernel_rfl) (fun _ _ _ h => h) (Or.inl ⟨by rfl, fun W hSW => by go_simp⟩) hHeld ?_
        simp only [Act.put, List.setIfInBounds_toArray, List.set_cons_zero, List.set_cons_succ]
        refine wpAnyH_take (i := 21) (oi := ⟨some 38, _, _, _, _, _⟩) (v := .int .u8 (k0 : Int)) rfl (by kernel_rfl) (by kernel_rfl) (by kernel_rfl) (fun _ _ _ h => h) (Or.inl ⟨by rfl, fun W hSW => by have a0 := (hSW.cell (p := ⟨s, 0, none⟩) ls).trans c0; go_simp⟩) hHeld ?_
        simp only [Act.put, List.setIfInBounds_toArray, List.set_cons_zero, List.set_cons_succ]
        refine wpAnyH_ready (rs := [22]) (by kernel_rfl) (by simp) ?_
        refine AllReadyH.cons (o := ⟨some 39, _, _, _, _, _⟩) rfl (fun K hK => ?_) AllReadyH.nil
        go_simp
        refine (Delay_c HK08.out HQ.out).mono ?_
        rintro e w7 ⟨rfl, hb7⟩
        go_wp2_with fail
        refine hK.out _ _ (below_t hHeld hb7) (fun hHeld => ?_)
        clear hK K hb7
        refine wpAnyH_take (i := 23) (oi := ⟨some 40, _, _, _, _, _⟩) (v := .bool false) rfl (by kernel_rfl) (by kernel_rfl) (by kernel_rfl) (fun _ _ _ h => h) (Or.inl ⟨by rfl, fun W hSW => by go_simp⟩) hHeld ?_
        simp only [Act.put, List.setIfInBounds_toArray, List.set_cons_zero, List.set_cons_succ]
        refine wpAnyH_take (i := 24) (oi := ⟨some 41, _, _, _, _, _⟩) (v := .bool false) rfl (by kernel_rfl) (by kernel_rfl) (by kernel_rfl) (fun _ _ _ h => h) (Or.inl ⟨by rfl, fun W hSW => by go_simp⟩) hHeld ?_
        simp only [Act.put, List.setIfInBounds_toArray, List.set_cons_zero, List.set_cons_succ]
        refine wpAnyH_take (i := 25) (oi := ⟨some 42, _, _, _, _, _⟩) (v := undef) rfl (by kernel_rfl) (by kernel_rfl) (by kernel_rfl) (fun _ _ _ h => h) (Or.inr ⟨by kernel_rfl, rfl⟩) hHeld ?_
        simp only [Act.put, List.setIfInBounds_toArray, List.set_cons_zero, List.set_cons_succ]
        refine wpAnyH_take (i := 26) (oi := ⟨some 43, _, _, _, _, _⟩) (v := undef) rfl (by kernel_rfl) (by kernel_rfl) (by kernel_rfl) (fun _ _ _ h => h) (Or.inr ⟨by kernel_rfl, rfl⟩) hHeld ?_
        simp only [Act.put, List.setIfInBounds_toArray, List.set_cons_zero, List.set_cons_succ]
        refine wpAnyH_take (i := 27) (oi := ⟨some 44, _, _, _, _, _⟩) (v := undef) rfl (by kernel_rfl) (by kernel_rfl) (by kernel_rfl) (fun _ _ _ h => h) (Or.inr ⟨by kernel_rfl, rfl⟩) hHeld ?_
        simp only [Act.put, List.setIfInBounds_toArray, List.set_cons_zero, List.set_cons_succ]
        refine wpAnyH_take (i := 28) (oi := ⟨some 45, _, _, _, _, _⟩) (v := undef) rfl (by kernel_rfl) (by kernel_rfl) (by kernel_rfl) (fun _ _ _ h => h) (Or.inr ⟨by kernel_rfl, rfl⟩) hHeld ?_
        simp only [Act.put, List.setIfInBounds_toArray, List.set_cons_zero, List.set_cons_succ]
        refine wpAnyH_take (i := 29) (oi := ⟨some 46, _, _, _, _, _⟩) (v := undef) rfl (by kernel_rfl) (by kernel_rfl) (by kernel_rfl) (fun _ _ _ h => h) (Or.inr ⟨by kernel_rfl, rfl⟩) hHeld ?_
        simp only [Act.put, List.setIfInBounds_toArray, List.set_cons_zero, List.set_cons_succ]
        refine wpAnyH_take (i := 30) (oi := ⟨some 47, _, _, _, _, _⟩) (v := undef) rfl (by kernel_rfl) (by kernel_rfl) (by kernel_rfl) (fun _ _ _ h => h) (Or.inr ⟨by kernel_rfl, rfl⟩) hHeld ?_
        simp only [Act.put, List.setIfInBounds_toArray, List.set_cons_zero, List.set_cons_succ]
        refine wpAnyH_take (i := 31) (oi := ⟨some 48, _, _, _, _, _⟩) (v := undef) rfl (by kernel_rfl) (by kernel_rfl) (by kernel_rfl) (fun _ _ _ h => h) (Or.inr ⟨by kernel_rfl, rfl⟩) hHeld ?_
        simp only [Act.put, List.setIfInBounds_toArray, List.set_cons_zero, List.set_cons_succ]
        refine wpAnyH_take (i := 32) (oi := ⟨some 49, _, _, _, _, _⟩) (v := undef) rfl (by kernel_rfl) (by kernel_rfl) (by kernel_rfl) (fun _ _ _ h => h) (Or.inr ⟨by kernel_rfl, rfl⟩) hHeld ?_
        simp only [Act.put, List.setIfInBounds_toArray, List.set_cons_zero, List.set_cons_succ]
        refine wpAnyH_take (i := 33) (oi := ⟨some 50, _, _, _, _, _⟩) (v := undef) rfl (by kernel_rfl) (by kernel_rfl) (by kernel_rfl) (fun _ _ _ h => h) (Or.inr ⟨by kernel_rfl, rfl⟩) hHeld ?_
        simp only [Act.put, List.setIfInBounds_toArray, List.set_cons_zero, List.set_cons_succ]
        refine wpAnyH_take (i := 34) (oi := ⟨some 51, _, _, _, _, _⟩) (v := .bool false) rfl (by kernel_rfl) (by kernel_rfl) (by kernel_rfl) (fun _ _ _ h => h) (Or.inl ⟨by rfl, fun W hSW => by go_simp⟩) hHeld ?_
        simp only [Act.put, List.setIfInBounds_toArray, List.set_cons_zero, List.set_cons_succ]
        refine wpAnyH_take (i := 35) (oi := ⟨some 52, _, _, _, _, _⟩) (v := .bool false) rfl (by kernel_rfl) (by kernel_rfl) (by kernel_rfl) (fun _ _ _ h => h) (Or.inl ⟨by rfl, fun W hSW => by go_simp⟩) hHeld ?_
        simp only [Act.put, List.setIfInBounds_toArray, List.set_cons_zero, List.set_cons_succ]
        refine wpAnyH_done (by kernel_rfl) ?_ _
        refine NoPanic.normal ?_
        go_wp2_with fail
        go_meet
        case rel => exact ⟨rfl, hHeld⟩
      · have hagI : (ag != 0) = true := by simp; exact hag0
        have hagq : (ag != q) = false := by
          have := HAG.out
          simp
          omega
        clear hag0 hq0
        refine wp_region_noPanic ?_
        refine wp_region_held_drew (S := fun W => Below w5.heap.size w5 W) (by kernel_rfl) ((Below.refl _ w5).drew) (fun hHeld => ?_)
        refine wpAnyH_take (i := 0) (oi := ⟨some 17, _, _, _, _, _⟩) (v := .pointer (some ⟨a, 0, none⟩)) rfl (by kernel_rfl) (by kernel_rfl) (by kernel_rfl) (fun _ _ _ h => h) (Or.inl ⟨by rfl, fun W hSW => by go_simp⟩) hHeld ?_
        simp only [Act.put, List.setIfInBounds_toArray, List.set_cons_zero, List.set_cons_succ]
        refine wpAnyH_take (i := 1) (oi := ⟨some 18, _, _, _, _, _⟩) (v := .slice A1 k c1) rfl (by kernel_rfl) (by kernel_rfl) (by kernel_rfl) (fun _ _ _ h => h) (Or.inl ⟨by rfl, fun W hSW => by have a0 := (hSW.cell (p := ⟨a, 0, none⟩) la).trans a0; go_simp⟩) hHeld ?_
        simp only [Act.put, List.setIfInBounds_toArray, List.set_cons_zero, List.set_cons_succ]
        refine wpAnyH_take (i := 2) (oi := ⟨some 19, _, _, _, _, _⟩) (v := .int .i64 (k : Int)) rfl (by kernel_rfl) (by kernel_rfl) (by kernel_rfl) (fun _ _ _ h => h) (Or.inl ⟨by rfl, fun W hSW => by go_simp⟩) hHeld ?_
        simp only [Act.put, List.setIfInBounds_toArray, List.set_cons_zero, List.set_cons_succ]
        refine wpAnyH_take (i := 3) (oi := ⟨some 20, _, _, _, _, _⟩) (v := .bool false) rfl (by kernel_rfl) (by kernel_rfl) (by kernel_rfl) (fun _ _ _ h => h) (Or.inl ⟨by rfl, fun W hSW => by go_simp⟩) hHeld ?_
        simp only [Act.put, List.setIfInBounds_toArray, List.set_cons_zero, List.set_cons_succ]
        refine wpAnyH_take (i := 4) (oi := ⟨some 21, _, _, _, _, _⟩) (v := .bool false) rfl (by kernel_rfl) (by kernel_rfl) (by kernel_rfl) (fun _ _ _ h => h) (Or.inl ⟨by rfl, fun W hSW => by go_simp⟩) hHeld ?_
        simp only [Act.put, List.setIfInBounds_toArray, List.set_cons_zero, List.set_cons_succ]
        refine wpAnyH_take (i := 5) (oi := ⟨some 22, _, _, _, _, _⟩) (v := .pointer (some ⟨a, 1, none⟩)) rfl (by kernel_rfl) (by kernel_rfl) (by kernel_rfl) (fun _ _ _ h => h) (Or.inl ⟨by rfl, fun W hSW => by go_simp⟩) hHeld ?_
        simp only [Act.put, List.setIfInBounds_toArray, List.set_cons_zero, List.set_cons_succ]
        refine wpAnyH_take (i := 6) (oi := ⟨some 23, _, _, _, _, _⟩) (v := .int .i64 ag) rfl (by kernel_rfl) (by kernel_rfl) (by kernel_rfl) (fun _ _ _ h => h) (Or.inl ⟨by rfl, fun W hSW => by have a0 := (hSW.cell (p := ⟨a, 1, none⟩) la).trans a1; go_simp⟩) hHeld ?_
        simp only [Act.put, List.setIfInBounds_toArray, List.set_cons_zero, List.set_cons_succ]
        refine wpAnyH_take (i := 7) (oi := ⟨some 24, _, _, _, _, _⟩) (v := .bool true) rfl (by kernel_rfl) (by kernel_rfl) (by kernel_rfl) (fun _ _ _ h => h) (Or.inl ⟨by rfl, fun W hSW => by go_simp⟩) hHeld ?_
        simp only [Act.put, List.setIfInBounds_toArray, List.set_cons_zero, List.set_cons_succ]
        refine wpAnyH_take (i := 8) (oi := ⟨some 25, _, _, _, _, _⟩) (v := .bool true) rfl (by kernel_rfl) (by kernel_rfl) (by kernel_rfl) (fun _ _ _ h => h) (Or.inl ⟨by rfl, fun W hSW => by go_simp⟩) hHeld ?_
        simp only [Act.put, List.setIfInBounds_toArray, List.set_cons_zero, List.set_cons_succ]
        refine wpAnyH_take (i := 9) (oi := ⟨some 26, _, _, _, _, _⟩) (v := .pointer (some ⟨a, 1, none⟩)) rfl (by kernel_rfl) (by kernel_rfl) (by kernel_rfl) (fun _ _ _ h => h) (Or.inl ⟨by rfl, fun W hSW => by go_simp⟩) hHeld ?_
        simp only [Act.put, List.setIfInBounds_toArray, List.set_cons_zero, List.set_cons_succ]
        refine wpAnyH_take (i := 10) (oi := ⟨some 27, _, _, _, _, _⟩) (v := .int .i64 ag) rfl (by kernel_rfl) (by kernel_rfl) (by kernel_rfl) (fun _ _ _ h => h) (Or.inl ⟨by rfl, fun W hSW => by have a0 := (hSW.cell (p := ⟨a, 1, none⟩) la).trans a1; go_simp⟩) hHeld ?_
        simp only [Act.put, List.setIfInBounds_toArray, List.set_cons_zero, List.set_cons_succ]
        refine wpAnyH_take (i := 11) (oi := ⟨some 28, _, _, _, _, _⟩) (v := .pointer (some ⟨s, 0, none⟩)) rfl (by kernel_rfl) (by kernel_rfl) (by kernel_rfl) (fun _ _ _ h => h) (Or.inl ⟨by rfl, fun W hSW => by go_simp⟩) hHeld ?_
        simp only [Act.put, List.setIfInBounds_toArray, List.set_cons_zero, List.set_cons_succ]
        refine wpAnyH_take (i := 12) (oi := ⟨some 29, _, _, _, _, _⟩) (v := .pointer (some ⟨s, 0, none⟩)) rfl (by kernel_rfl) (by kernel_rfl) (by kernel_rfl) (fun _ _ _ h => h) (Or.inl ⟨by rfl, fun W hSW => by go_simp⟩) hHeld ?_
        simp only [Act.put, List.setIfInBounds_toArray, List.set_cons_zero, List.set_cons_succ]
        refine wpAnyH_take (i := 13) (oi := ⟨some 30, _, _, _, _, _⟩) (v := .int .u8 (k0 : Int)) rfl (by kernel_rfl) (by kernel_rfl) (by kernel_rfl) (fun _ _ _ h => h) (Or.inl ⟨by rfl, fun W hSW => by have a0 := (hSW.cell (p := ⟨s, 0, none⟩) ls).trans c0; go_simp⟩) hHeld ?_
        simp only [Act.put, List.setIfInBounds_toArray, List.set_cons_zero, List.set_cons_succ]
        refine wpAnyH_ready (rs := [14]) (by kernel_rfl) (by simp) ?_
        refine AllReadyH.cons (o := ⟨some 31, _, _, _, _, _⟩) rfl (fun K hK => ?_) AllReadyH.nil
        go_simp
        refine (Delay_c HK08.out HQ.out).mono ?_
        rintro e w6 ⟨rfl, hb6⟩
        go_wp2_with fail
        refine hK.out _ _ (below_t hHeld hb6) (fun hHeld => ?_)
        clear hK K hb6
        refine wpAnyH_take (i := 15) (oi := ⟨some 32, _, _, _, _, _⟩) (v := .bool false) rfl (by kernel_rfl) (by kernel_rfl) (by kernel_rfl) (fun _ _ _ h => h) (Or.inl ⟨by rfl, fun W hSW => by go_simp⟩) hHeld ?_
        simp only [Act.put, List.setIfInBounds_toArray, List.set_cons_zero, List.set_cons_succ]
        refine wpAnyH_take (i := 16) (oi := ⟨some 33, _, _, _, _, _⟩) (v := .bool false) rfl (by kernel_rfl) (by kernel_rfl) (by kernel_rfl) (fun _ _ _ h => h) (Or.inl ⟨by rfl, fun W hSW => by go_simp⟩) hHeld ?_
        simp only [Act.put, List.setIfInBounds_toArray, List.set_cons_zero, List.set_cons_succ]
        refine wpAnyH_take (i := 17) (oi := ⟨some 34, _, _, _, _, _⟩) (v := .bool false) rfl (by kernel_rfl) (by kernel_rfl) (by kernel_rfl) (fun _ _ _ h => h) (Or.inl ⟨by rfl, fun W hSW => by go_simp⟩) hHeld ?_
        simp only [Act.put, List.setIfInBounds_toArray, List.set_cons_zero, List.set_cons_succ]
        refine wpAnyH_take (i := 18) (oi := ⟨some 35, _, _, _, _, _⟩) (v := .bool false) rfl (by kernel_rfl) (by kernel_rfl) (by kernel_rfl) (fun _ _ _ h => h) (Or.inl ⟨by rfl, fun W hSW => by go_simp⟩) hHeld ?_
        simp only [Act.put, List.setIfInBounds_toArray, List.set_cons_zero, List.set_cons_succ]
        refine wpAnyH_take (i := 19) (oi := ⟨some 36, _, _, _, _, _⟩) (v := .pointer (some ⟨s, 0, none⟩)) rfl (by kernel_rfl) (by kernel_rfl) (by kernel_rfl) (fun _ _ _ h => h) (Or.inl ⟨by rfl, fun W hSW => by go_simp⟩) hHeld ?_
        simp only [Act.put, List.setIfInBounds_toArray, List.set_cons_zero, List.set_cons_succ]
        refine wpAnyH_take (i := 20) (oi := ⟨some 37, _, _, _, _, _⟩) (v := .pointer (some ⟨s, 0, none⟩)) rfl (by kernel_rfl) (by kernel_rfl) (by kernel_rfl) (fun _ _ _ h => h) (Or.inl ⟨by rfl, fun W hSW => by go_simp⟩) hHeld ?_
        simp only [Act.put, List.setIfInBounds_toArray, List.set_cons_zero, List.set_cons_succ]
        refine wpAnyH_take (i := 21) (oi := ⟨some 38, _, _, _, _, _⟩) (v := .int .u8 (k0 : Int)) rfl (by kernel_rfl) (by kernel_rfl) (by kernel_rfl) (fun _ _ _ h => h) (Or.inl ⟨by rfl, fun W hSW => by have a0 := (hSW.cell (p := ⟨s, 0, none⟩) ls).trans c0; go_simp⟩) hHeld ?_
        simp only [Act.put, List.setIfInBounds_toArray, List.set_cons_zero, List.set_cons_succ]
        refine wpAnyH_ready (rs := [22]) (by kernel_rfl) (by simp) ?_
        refine AllReadyH.cons (o := ⟨some 39, _, _, _, _, _⟩) rfl (fun K hK => ?_) AllReadyH.nil
        go_simp
        refine (Delay_c HK08.out HQ.out).mono ?_
        rintro e w7 ⟨rfl, hb7⟩
        go_wp2_with fail
        refine hK.out _ _ (below_t hHeld hb7) (fun hHeld => ?_)
        clear hK K hb7
        refine wpAnyH_take (i := 23) (oi := ⟨some 40, _, _, _, _, _⟩) (v := .bool false) rfl (by kernel_rfl) (by kernel_rfl) (by kernel_rfl) (fun _ _ _ h => h) (Or.inl ⟨by rfl, fun W hSW => by go_simp⟩) hHeld ?_
        simp only [Act.put, List.setIfInBounds_toArray, List.set_cons_zero, List.set_cons_succ]
        refine wpAnyH_take (i := 24) (oi := ⟨some 41, _, _, _, _, _⟩) (v := .bool false) rfl (by kernel_rfl) (by kernel_rfl) (by kernel_rfl) (fun _ _ _ h => h) (Or.inl ⟨by rfl, fun W hSW => by go_simp⟩) hHeld ?_
        simp only [Act.put, List.setIfInBounds_toArray, List.set_cons_zero, List.set_cons_succ]
        refine wpAnyH_take (i := 25) (oi := ⟨some 42, _, _, _, _, _⟩) (v := undef) rfl (by kernel_rfl) (by kernel_rfl) (by kernel_rfl) (fun _ _ _ h => h) (Or.inr ⟨by kernel_rfl, rfl⟩) hHeld ?_
        simp only [Act.put, List.setIfInBounds_toArray, List.set_cons_zero, List.set_cons_succ]
        refine wpAnyH_take (i := 26) (oi := ⟨some 43, _, _, _, _, _⟩) (v := undef) rfl (by kernel_rfl) (by kernel_rfl) (by kernel_rfl) (fun _ _ _ h => h) (Or.inr ⟨by kernel_rfl, rfl⟩) hHeld ?_
        simp only [Act.put, List.setIfInBounds_toArray, List.set_cons_zero, List.set_cons_succ]
        refine wpAnyH_take (i := 27) (oi := ⟨some 44, _, _, _, _, _⟩) (v := undef) rfl (by kernel_rfl) (by kernel_rfl) (by kernel_rfl) (fun _ _ _ h => h) (Or.inr ⟨by kernel_rfl, rfl⟩) hHeld ?_
        simp only [Act.put, List.setIfInBounds_toArray, List.set_cons_zero, List.set_cons_succ]
        refine wpAnyH_take (i := 28) (oi := ⟨some 45, _, _, _, _, _⟩) (v := undef) rfl (by kernel_rfl) (by kernel_rfl) (by kernel_rfl) (fun _ _ _ h => h) (Or.inr ⟨by kernel_rfl, rfl⟩) hHeld ?_
        simp only [Act.put, List.setIfInBounds_toArray, List.set_cons_zero, List.set_cons_succ]
        refine wpAnyH_take (i := 29) (oi := ⟨some 46, _, _, _, _, _⟩) (v := undef) rfl (by kernel_rfl) (by kernel_rfl) (by kernel_rfl) (fun _ _ _ h => h) (Or.inr ⟨by kernel_rfl, rfl⟩) hHeld ?_
        simp only [Act.put, List.setIfInBounds_toArray, List.set_cons_zero, List.set_cons_succ]
        refine wpAnyH_take (i := 30) (oi := ⟨some 47, _, _, _, _, _⟩) (v := undef) rfl (by kernel_rfl) (by kernel_rfl) (by kernel_rfl) (fun _ _ _ h => h) (Or.inr ⟨by kernel_rfl, rfl⟩) hHeld ?_
        simp only [Act.put, List.setIfInBounds_toArray, List.set_cons_zero, List.set_cons_succ]
        refine wpAnyH_take (i := 31) (oi := ⟨some 48, _, _, _, _, _⟩) (v := undef) rfl (by kernel_rfl) (by kernel_rfl) (by kernel_rfl) (fun _ _ _ h => h) (Or.inr ⟨by kernel_rfl, rfl⟩) hHeld ?_
        simp only [Act.put, List.setIfInBounds_toArray, List.set_cons_zero, List.set_cons_succ]
        refine wpAnyH_take (i := 32) (oi := ⟨some 49, _, _, _, _, _⟩) (v := undef) rfl (by kernel_rfl) (by kernel_rfl) (by kernel_rfl) (fun _ _ _ h => h) (Or.inr ⟨by kernel_rfl, rfl⟩) hHeld ?_
        simp only [Act.put, List.setIfInBounds_toArray, List.set_cons_zero, List.set_cons_succ]
        refine wpAnyH_take (i := 33) (oi := ⟨some 50, _, _, _, _, _⟩) (v := undef) rfl (by kernel_rfl) (by kernel_rfl) (by kernel_rfl) (fun _ _ _ h => h) (Or.inr ⟨by kernel_rfl, rfl⟩) hHeld ?_
        simp only [Act.put, List.setIfInBounds_toArray, List.set_cons_zero, List.set_cons_succ]
        refine wpAnyH_take (i := 34) (oi := ⟨some 51, _, _, _, _, _⟩) (v := .bool false) rfl (by kernel_rfl) (by kernel_rfl) (by kernel_rfl) (fun _ _ _ h => h) (Or.inl ⟨by rfl, fun W hSW => by go_simp⟩) hHeld ?_
        simp only [Act.put, List.setIfInBounds_toArray, List.set_cons_zero, List.set_cons_succ]
        refine wpAnyH_take (i := 35) (oi := ⟨some 52, _, _, _, _, _⟩) (v := .bool false) rfl (by kernel_rfl) (by kernel_rfl) (by kernel_rfl) (fun _ _ _ h => h) (Or.inl ⟨by rfl, fun W hSW => by go_simp⟩) hHeld ?_
        simp only [Act.put, List.setIfInBounds_toArray, List.set_cons_zero, List.set_cons_succ]
        refine wpAnyH_done (by kernel_rfl) ?_ _
        refine NoPanic.normal ?_
        go_wp2_with fail
        go_meet
        case rel => exact ⟨rfl, hHeld⟩
  case rest =>
    obtain ⟨rfl, hbc⟩ := hcut
    have HBC := Lib.hid hbc
    go_wp2_with fail
    refine HeldP.wp_named (S := fun W => Below w5.heap.size w5 W) (by (repeat' (first | (with_reducible exact Below.refl _ _) | (with_reducible refine Below.setCell ?_ (by (first | omega | (simp; done) | (simp; omega))) _) | (with_reducible refine Below.alloc ?_ (by (first | omega | (simp; done) | (simp; omega))) _) | (with_reducible refine Below.drew ?_) | (with_reducible refine below_drewN ?_ _) | (with_reducible refine Below.trans ?_ (Below.mono hbc (by (first | omega | (simp; done) | (simp; omega)))))))) ?_
    clear HBC hbc
    rintro w6 hb6
    have HB6 := Lib.hid (below_t HB5.out hb6)
    have H6 := Lib.hid (H5.out.below hb6)
    have HU6 := Lib.hid (HU5.out.below hb6)
    have HO6 := Lib.hid (HO5.out.below hb6)
    have HA6 := Lib.hid (HA5.out.below hb6)
    clear hb6
    go_loopw [10, 11, 12, 13] (fun v10 _ _ _ wr => ∃ j : Nat, v10 = .int .i64 (j : Nat) ∧ j ≤ k ∧ Below w6.heap.size w6 wr) (fun v _ _ _ _ => k - (intOf v).toNat)
    case atStart => exact ⟨0, rfl, by omega, Below.refl _ _⟩
    case round =>
      obtain ⟨j, rfl, hj, hbr⟩ := hrel
      have HBR := Lib.hid hbr
      have HB9 := Lib.hid (below_t HB6.out hbr)
      have r0 := (HA6.out.below hbr).cell (i := 0) rfl
      have rl := (HA6.out.below hbr).lt
      by_cases hjl : j < k
      · have hjI : (j : Int) < (k : Int) := by omega
        have hj1 : (j : Int) < 4 := by have := HK4.out; omega
        have hj4 : j < 4 := by have := HK4.out; omega
        have HWR := Lib.hid (show wrap64 ((j : Int) + 1) = ((j + 1 : Nat) : Int) by rw [wr64 (by omega) (by omega)]; omega)
        obtain ⟨⟨d1, kk, mm⟩, hx⟩ : ∃ x, L[j]? = some x := ⟨_, List.getElem?_eq_getElem (by rw [HK.out]; exact hjl)⟩
        have HX := Lib.hid hx
        have hok := HLO.out _ (List.mem_of_getElem? hx)
        obtain ⟨hd6, hmay, hwm, hwh⟩ := hok
        simp only at hd6 hmay hwm hwh
        have HWM := Lib.hid hwm
        have HWH := Lib.hid hwh
        have HMAY := Lib.hid hmay
        have HD6 := Lib.hid hd6
        obtain ⟨b1, o, hA, hlt, hc⟩ := (HO6.out.below hbr).at hx
        subst hA
        have p0 : wr.cell? ⟨b1, o + j * 3, none⟩ = some (.int .i64 (d1 : Int)) := hc 0 _ rfl
        have p1 : wr.cell? ⟨b1, o + j * 3 + 1, none⟩ = some (.int .u8 (kk : Int)) := hc 1 _ rfl
        have p2 : wr.cell? ⟨b1, o + j * 3 + 2, none⟩ = some (.int .u8 (mm : Int)) := hc 2 _ rfl
        obtain ⟨bx, hbx⟩ : ∃ b, wr.heap.size = b := ⟨_, rfl⟩
        rw [hbx] at hlt rl
        have hd6J : ¬ (6 : Int) < (d1 : Int) := by omega
        have hd0J : ¬ (d1 : Int) < 0 := by omega
        clear hbr hc hx hjl hwm hwh hmay
        go_wp2_with ((with_reducible refine at_slot 65 ?_); refine Classical.byContradiction (fun hG => ?_))
        refine hG ?_
        clear hG
        refine list_named (S := fun W => Below w6.heap.size w6 W ∧ Blk W bx TX [.int .i64 (d1 : Int), .int .u8 (kk : Int), .int .u8 (mm : Int)]) ⟨by have := HBR.out.size; (repeat' (first | (with_reducible exact Below.refl _ _) | (with_reducible refine Below.setCell ?_ (by (first | omega | (simp; done) | (simp; omega))) _) | (with_reducible refine Below.alloc ?_ (by (first | omega | (simp; done) | (simp; omega))) _) | (with_reducible refine Below.drew ?_) | (with_reducible refine below_drewN ?_ _) | (with_reducible refine Below.trans ?_ (Below.mono HBR.out (by (first | omega | (simp; done) | (simp; omega))))))), by subst hbx; (repeat' (first | (with_reducible refine BlkP.Blk.drew ?_) | (with_reducible refine BlkP.Blk.drewN ?_ _) | (with_reducible refine BlkP.Blk.setAt (us := ?_) (by first | omega | (simp; done) | (simp; omega)) rfl ?_ ?_) | (with_reducible refine BlkP.Blk.otherAt ?_ (by first | omega | (simp; done) | (simp; omega))) | (with_reducible refine BlkP.Blk.newA' (by first | omega | (simp; done) | (simp; omega)) rfl) | (with_reducible refine BlkP.Blk.alloc ?_ _) | (exact rfl)))⟩ ?_
        rintro w7 ⟨hb7, hx7⟩
        try rw [hbx]
        have HB7 := Lib.hid hb7
        have HX7 := Lib.hid hx7
        have x0 := hx7.cell (i := 0) rfl
        have x1 := hx7.cell (i := 1) rfl
        have x2 := hx7.cell (i := 2) rfl
        have lx := hx7.lt
        clear hb7 hx7 p0 p1 p2 rl r0 hbx
        go_wp2_with fail
        refine (KindW.k_may_b (b := true) HMAY.out _ (HT.out.below (below_t HB6.out HB7.out))).mono ?_
        rintro e w8 ⟨rfl, hb8⟩
        have HB8 := Lib.hid (below_t HB7.out hb8)
        have HX8 := Lib.hid (HX7.out.below hb8)
        clear hb8 x0 x1 x2 lx
        go_wp2_with fail
        go_loopw [12] (fun v12 wr => ∃ t : Nat, v12 = .int .i64 (t : Nat) ∧ t ≤ j ∧ Below w8.heap.size w8 wr) (fun v _ => j - (intOf v).toNat)
        case atStart => exact ⟨0, rfl, by omega, Below.refl _ _⟩
        case round =>
          obtain ⟨t, rfl, ht, hbq⟩ := hrel
          have HBQ := Lib.hid hbq
          have HB9q := Lib.hid (below_t HB8.out hbq)
          by_cases htl : t < j
          · have htI : (t : Int) < (j : Int) := by omega
            have htk : (t : Int) < (k : Int) := by omega
            have htD : decide ((t : Int) < (k : Int)) = true := decide_eq_true htk
            have htE : decide (t < k) = true := decide_eq_true (by omega)
            have HWT := Lib.hid (show wrap64 ((t : Int) + 1) = ((t + 1 : Nat) : Int) by rw [wr64 (by omega) (by omega)]; omega)
            obtain ⟨⟨d2, kk2, mm2⟩, hx2⟩ : ∃ x, L[t]? = some x := ⟨_, List.getElem?_eq_getElem (by rw [HK.out]; omega)⟩
            have hne : d2 ≠ d1 := by
              have h1 := List.getElem?_eq_some_iff.1 hx2
              have h2 := List.getElem?_eq_some_iff.1 HX.out
              obtain ⟨g1, e1⟩ := h1
              obtain ⟨g2, e2⟩ := h2
              have := List.pairwise_iff_getElem.1 HPW.out t j g1 g2 htl
              rw [e1, e2] at this
              exact this
            have hneI : ((d2 : Int) == (d1 : Int)) = false := by simp; omega
            obtain ⟨b2, o2, hA2, hlt2, hc2⟩ := (HO6.out.below HB9q.out).at hx2
            injection hA2 with hA2
            injection hA2 with hA2 hA3
            subst hA2
            subst hA3
            have p0 : wr.cell? ⟨b1, o + t * 3, none⟩ = some (.int .i64 (d2 : Int)) := hc2 0 _ rfl
            have r0 := (HA6.out.below HB9q.out).cell (i := 0) rfl
            have rl := (HA6.out.below HB9q.out).lt
            have x0 := (HX8.out.below hbq).cell (i := 0) rfl
            have lx := (HX8.out.below hbq).lt
            clear hbq hc2 hx2 htl hne
            go_wp2_with fail
            refine wp_region_noPanic ?_
            refine wp_region_held_drew (S := fun W => Below wr.heap.size wr W) (by kernel_rfl) ((Below.refl _ wr).drew) (fun hHeld => ?_)
            refine wpAnyH_take (i := 0) (oi := ⟨some 84, _, _, _, _, _⟩) (v := .pointer (some ⟨a, 0, none⟩)) rfl (by kernel_rfl) (by kernel_rfl) (by kernel_rfl) (fun _ _ _ h => h) (Or.inl ⟨by rfl, fun W hSW => by go_simp⟩) hHeld ?_
            simp only [Act.put, List.setIfInBounds_toArray, List.set_cons_zero, List.set_cons_succ]
            refine wpAnyH_take (i := 1) (oi := ⟨some 85, _, _, _, _, _⟩) (v := .slice (some ⟨b1, o, none⟩) k c1) rfl (by kernel_rfl) (by kernel_rfl) (by kernel_rfl) (fun _ _ _ h => h) (Or.inl ⟨by rfl, fun W hSW => by have a0 := (hSW.cell (p := ⟨a, 0, none⟩) rl).trans r0; go_simp⟩) hHeld ?_
            simp only [Act.put, List.setIfInBounds_toArray, List.set_cons_zero, List.set_cons_succ]
            refine wpAnyH_take (i := 2) (oi := ⟨some 86, _, _, _, _, _⟩) (v := .int .i64 (t : Int)) rfl (by kernel_rfl) (by kernel_rfl) (by kernel_rfl) (fun _ _ _ h => h) (Or.inl ⟨by rfl, fun W hSW => by go_simp⟩) hHeld ?_
            simp only [Act.put, List.setIfInBounds_toArray, List.set_cons_zero, List.set_cons_succ]
            refine wpAnyH_take (i := 3) (oi := ⟨some 87, _, _, _, _, _⟩) (v := .pointer (some ⟨b1, o + t * 3, none⟩)) rfl (by kernel_rfl) (by kernel_rfl) (by kernel_rfl) (fun _ _ _ h => h) (Or.inl ⟨by rfl, fun W hSW => by go_simp⟩) hHeld ?_
            simp only [Act.put, List.setIfInBounds_toArray, List.set_cons_zero, List.set_cons_succ]
            refine wpAnyH_take (i := 4) (oi := ⟨some 88, _, _, _, _, _⟩) (v := .pointer (some ⟨b1, o + t * 3, none⟩)) rfl (by kernel_rfl) (by kernel_rfl) (by kernel_rfl) (fun _ _ _ h => h) (Or.inl ⟨by rfl, fun W hSW => by go_simp⟩) hHeld ?_
            simp only [Act.put, List.setIfInBounds_toArray, List.set_cons_zero, List.set_cons_succ]
            refine wpAnyH_take (i := 5) (oi := ⟨some 89, _, _, _, _, _⟩) (v := .int .i64 (d2 : Int)) rfl (by kernel_rfl) (by kernel_rfl) (by kernel_rfl) (fun _ _ _ h => h) (Or.inl ⟨by rfl, fun W hSW => by have a0 := (hSW.cell (p := ⟨b1, o + t * 3, none⟩) hlt2).trans p0; go_simp⟩) hHeld ?_
            simp only [Act.put, List.setIfInBounds_toArray, List.set_cons_zero, List.set_cons_succ]
            refine wpAnyH_take (i := 6) (oi := ⟨some 90, _, _, _, _, _⟩) (v := .pointer (some ⟨bx, 0, none⟩)) rfl (by kernel_rfl) (by kernel_rfl) (by kernel_rfl) (fun _ _ _ h => h) (Or.inl ⟨by rfl, fun W hSW => by go_simp⟩) hHeld ?_
            simp only [Act.put, List.setIfInBounds_toArray, List.set_cons_zero, List.set_cons_succ]
            refine wpAnyH_take (i := 7) (oi := ⟨some 91, _, _, _, _, _⟩) (v := .int .i64 (d1 : Int)) rfl (by kernel_rfl) (by kernel_rfl) (by kernel_rfl) (fun _ _ _ h => h) (Or.inl ⟨by rfl, fun W hSW => by have a0 := (hSW.cell (p := ⟨bx, 0, none⟩) lx).trans x0; go_simp⟩) hHeld ?_
            simp only [Act.put, List.setIfInBounds_toArray, List.set_cons_zero, List.set_cons_succ]
            refine wpAnyH_take (i := 8) (oi := ⟨some 92, _, _, _, _, _⟩) (v := .bool false) rfl (by kernel_rfl) (by kernel_rfl) (by kernel_rfl) (fun _ _ _ h => h) (Or.inl ⟨by rfl, fun W hSW => by go_simp⟩) hHeld ?_
            simp only [Act.put, List.setIfInBounds_toArray, List.set_cons_zero, List.set_cons_succ]
            refine wpAnyH_done (by kernel_rfl) ?_ _
            refine NoPanic.normal ?_
            refine HeldP.then_named (S := fun W => Below wr.heap.size wr W) hHeld ?_
            rintro X0 hx0
            have HXX := Lib.hid (below_t HBQ.out hx0)
            clear hHeld hx0 p0 r0 rl x0 lx
            go_wp2_with fail
            go_roundw
            case rel => exact ⟨t + 1, by first | rfl | rw [HWT.out] | (congr 1; omega), by omega, HXX.out⟩
            case measure =>
              simp only [intOf]
              omega
          · have htI : ¬ (t : Int) < (j : Int) := by omega
            have HXq := Lib.hid (HX8.out.below hbq)
            have HNq := Lib.hid (H6.out.below HB9q.out)
            have c0 := HNq.out.cell (i := 0) (g_kind n)
            have c1' := HNq.out.cell (i := 1) (g_lev n)
            have ls := HNq.out.lt
            have x0 := HXq.out.cell (i := 0) rfl
            have lx := HXq.out.lt
            obtain ⟨by', hby⟩ : ∃ b, wr.heap.size = b := ⟨_, rfl⟩
            rw [hby] at ls lx
            have hd6 := HD6.out
            clear hbq htl
            by_cases hd0 : d1 = 0
            · subst hd0
              obtain ⟨⟨ka, la⟩, hka⟩ : ∃ c, n.s = c := ⟨_, rfl⟩
              have HWAS := Lib.hid (show was n 0 = (ka, la) from hka)
              rw [hka] at c0 c1'
              simp only at c0 c1'
              clear hka hd6
              go_wp2_with ((with_reducible refine at_slot 104 ?_); refine Classical.byContradiction (fun hG => ?_))
              refine hG ?_
              clear hG
              refine list_named (S := fun W => Below w6.heap.size w6 W ∧ Blk W by' TC [.int .u8 (ka : Int), .int .u8 (la : Int)]) ⟨by have := HB9q.out.size; (repeat' (first | (with_reducible exact Below.refl _ _) | (with_reducible refine Below.setCell ?_ (by (first | omega | (simp; done) | (simp; omega))) _) | (with_reducible refine Below.alloc ?_ (by (first | omega | (simp; done) | (simp; omega))) _) | (with_reducible refine Below.drew ?_) | (with_reducible refine below_drewN ?_ _) | (with_reducible refine Below.trans ?_ (Below.mono HB9q.out (by (first | omega | (simp; done) | (simp; omega))))))), by subst hby; (repeat' (first | (with_reducible refine BlkP.Blk.drew ?_) | (with_reducible refine BlkP.Blk.drewN ?_ _) | (with_reducible refine BlkP.Blk.setAt (us := ?_) (by first | omega | (simp; done) | (simp; omega)) rfl ?_ ?_) | (with_reducible refine BlkP.Blk.otherAt ?_ (by first | omega | (simp; done) | (simp; omega))) | (with_reducible refine BlkP.Blk.newA' (by first | omega | (simp; done) | (simp; omega)) rfl) | (with_reducible refine BlkP.Blk.alloc ?_ _) | (exact rfl)))⟩ ?_
              rintro w9 ⟨hb9, hy9⟩
              try rw [hby]
              have HB9w := Lib.hid hb9
              have HY9 := Lib.hid hy9
              have y0 := hy9.cell (i := 0) rfl
              have y1 := hy9.cell (i := 1) rfl
              have ly := hy9.lt
              clear hb9 hy9 c0 c1' x0 lx ls hby
              go_wp2_with fail
              refine (KindW.k_may_b (b := true) (by have := HWM.out; rw [HWAS.out] at this; exact this) _ (HT.out.below (below_t HB6.out HB9w.out))).mono ?_
              rintro e w10 ⟨rfl, hb10⟩
              have HB10 := Lib.hid (below_t HB9w.out hb10)
              have y0 := (HY9.out.below hb10).cell (i := 0) rfl
              have ly := (HY9.out.below hb10).lt
              have hwh := HWH.out
              rw [HWAS.out] at hwh
              unfold hard at hwh
              simp only at hwh
              have i1 : ((ka : Int) == 1) = false := by simp; omega
              have i2 : ((ka : Int) == 2) = false := by simp; omega
              have i3 : ((ka : Int) == 3) = false := by simp; omega
              have i9 : ((ka : Int) == 9) = false := by simp; omega
              have i10 : ((ka : Int) == 10) = false := by simp; omega
              clear hb10 hwh
              go_wp2_with fail
              go_roundw
              case rel => exact ⟨j + 1, by first | rfl | rw [HWR.out] | (congr 1; omega), by omega, HB10.out⟩
              case measure =>
                simp only [intOf]
                omega
            · have hdI : (0 : Int) < (d1 : Int) := by omega
              have hd5 : d1 - 1 < 6 := by omega
              have hd5I : (d1 : Int) - 1 < 6 := by omega
              have hd5J : 0 ≤ (d1 : Int) - 1 := by omega
              obtain ⟨⟨ka, la⟩, hka⟩ : ∃ c, n.sd (d1 - 1) = c := ⟨_, rfl⟩
              have HWAS := Lib.hid (show was n d1 = (ka, la) from by unfold was; rw [if_pos (by omega), hka])
              have q0 := HNq.out.cell (g_sk n (d := d1 - 1) hd5)
              have q1 := HNq.out.cell (g_sl n (d := d1 - 1) hd5)
              rw [hka] at q0 q1
              simp only at q0 q1
              clear hka hd6 hd0
              go_wp2_with ((with_reducible refine at_slot 104 ?_); refine Classical.byContradiction (fun hG => ?_))
              refine hG ?_
              clear hG
              refine list_named (S := fun W => Below w6.heap.size w6 W ∧ Blk W by' TC [.int .u8 (ka : Int), .int .u8 (la : Int)]) ⟨by have := HB9q.out.size; (repeat' (first | (with_reducible exact Below.refl _ _) | (with_reducible refine Below.setCell ?_ (by (first | omega | (simp; done) | (simp; omega))) _) | (with_reducible refine Below.alloc ?_ (by (first | omega | (simp; done) | (simp; omega))) _) | (with_reducible refine Below.drew ?_) | (with_reducible refine below_drewN ?_ _) | (with_reducible refine Below.trans ?_ (Below.mono HB9q.out (by (first | omega | (simp; done) | (simp; omega))))))), by subst hby; (repeat' (first | (with_reducible refine BlkP.Blk.drew ?_) | (with_reducible refine BlkP.Blk.drewN ?_ _) | (with_reducible refine BlkP.Blk.setAt (us := ?_) (by first | omega | (simp; done) | (simp; omega)) rfl ?_ ?_) | (with_reducible refine BlkP.Blk.otherAt ?_ (by first | omega | (simp; done) | (simp; omega))) | (with_reducible refine BlkP.Blk.newA' (by first | omega | (simp; done) | (simp; omega)) rfl) | (with_reducible refine BlkP.Blk.alloc ?_ _) | (exact rfl)))⟩ ?_
              rintro w9 ⟨hb9, hy9⟩
              try rw [hby]
              have HB9w := Lib.hid hb9
              have HY9 := Lib.hid hy9
              have y0 := hy9.cell (i := 0) rfl
              have y1 := hy9.cell (i := 1) rfl
              have ly := hy9.lt
              clear hb9 hy9 c0 c1' x0 lx ls hby q0 q1
              go_wp2_with fail
              refine (KindW.k_may_b (b := true) (by have := HWM.out; rw [HWAS.out] at this; exact this) _ (HT.out.below (below_t HB6.out HB9w.out))).mono ?_
              rintro e w10 ⟨rfl, hb10⟩
              have HB10 := Lib.hid (below_t HB9w.out hb10)
              have y0 := (HY9.out.below hb10).cell (i := 0) rfl
              have ly := (HY9.out.below hb10).lt
              have hwh := HWH.out
              rw [HWAS.out] at hwh
              unfold hard at hwh
              simp only at hwh
              have i1 : ((ka : Int) == 1) = false := by simp; omega
              have i2 : ((ka : Int) == 2) = false := by simp; omega
              have i3 : ((ka : Int) == 3) = false := by simp; omega
              have i9 : ((ka : Int) == 9) = false := by simp; omega
              have i10 : ((ka : Int) == 10) = false := by simp; omega
              clear hb10 hwh
              go_wp2_with fail
              go_roundw
              case rel => exact ⟨j + 1, by first | rfl | rw [HWR.out] | (congr 1; omega), by omega, HB10.out⟩
              case measure =>
                simp only [intOf]
                omega
      · have hjI : ¬ (j : Int) < (k : Int) := by omega
        have H9 := Lib.hid (H6.out.below hbr)
        have HU9 := Lib.hid (HU6.out.below hbr)
        have HO9 := Lib.hid (HO6.out.below hbr)
        have HA9 := Lib.hid (HA6.out.below hbr)
        clear hbr hjl
        go_wp2_with ((with_reducible refine at_slot 132 ?_); refine Classical.byContradiction (fun hG => ?_))
        refine hG ?_
        clear hG
        clear r0 rl
        refine wp_loadN rfl (.tmp 4) rfl rfl (n := n) H9.out ?_
        obtain ⟨z, hz⟩ : ∃ b, wr.heap.size = b := ⟨_, rfl⟩
        go_wp2_with ((with_reducible refine at_storeN ?_); refine Classical.byContradiction (fun hG => ?_))
        refine hG ?_
        clear hG
        refine list_named (S := fun W => Below wr.heap.size wr W ∧ Blk W z TN (vals nz)) ⟨by (repeat' (first | (with_reducible exact Below.refl _ _) | (with_reducible refine Below.setCell ?_ (by (first | omega | (simp; done) | (simp; omega))) _) | (with_reducible refine Below.alloc ?_ (by (first | omega | (simp; done) | (simp; omega))) _) | (with_reducible refine Below.drew ?_) | (with_reducible refine below_drewN ?_ _))), by subst hz; (repeat' (first | (with_reducible refine BlkP.Blk.drew ?_) | (with_reducible refine BlkP.Blk.drewN ?_ _) | (with_reducible refine BlkP.Blk.setAt (us := ?_) (by first | omega | (simp; done) | (simp; omega)) rfl ?_ ?_) | (with_reducible refine BlkP.Blk.otherAt ?_ (by first | omega | (simp; done) | (simp; omega))) | (with_reducible refine BlkP.Blk.newA' (by first | omega | (simp; done) | (simp; omega)) rfl) | (with_reducible refine BlkP.Blk.alloc ?_ _) | (exact rfl)))⟩ ?_
        rintro w10 ⟨hb10, hn10⟩
        try rw [hz]
        refine wp_storeN rfl (.tmp 14) (.tmp 132) rfl rfl (n := n) rfl hn10 rfl ?_
        intro w11 hm11 hg hzz
        have HB11 := Lib.hid (show Below wr.heap.size wr w11 from hb10.grown hg hb10.size (fun q hq => by injection hq with hq; omega))
        have HM11 := Lib.hid hm11
        have HSZ := Lib.hid (show s < z ∧ s + 1 < z ∧ a < z ∧ w.heap.size ≤ z from ⟨by have := H9.out.lt; omega, by have := HU9.out.lt; omega, by have := HA9.out.lt; omega, by have := HB9.out.size; omega⟩)
        have h11 := H9.out.below HB11.out
        have HU11 := Lib.hid (HU9.out.below HB11.out)
        have H11 := Lib.hid h11
        have c0 := h11.cell (i := 0) (g_kind n)
        rw [HS0.out] at c0
        simp only at c0
        have ls := h11.lt
        have m22 := hm11.cell (i := 22) (v := .int .u8 (n.lt : Int)) rfl
        have m23 := hm11.cell (i := 23) (v := .int .u64 n.dr) rfl
        have f22 := hm11.frozen 22
        have f23 := hm11.frozen 23
        have m14 := hm11.cell (i := 14) (v := .int .u8 ((n.un 0).1 : Int)) rfl
        have f14 := hm11.frozen 14
        have zu0 := HU11.out.cell (i := 0) (v := .int .u8 ((f 0).1 : Int)) rfl
        have m15 := hm11.cell (i := 15) (v := .int .u8 ((n.un 0).2 : Int)) rfl
        have f15 := hm11.frozen 15
        have zu1 := HU11.out.cell (i := 1) (v := .int .u8 ((f 0).2 : Int)) rfl
        have m16 := hm11.cell (i := 16) (v := .int .u8 ((n.un 1).1 : Int)) rfl
        have f16 := hm11.frozen 16
        have zu2 := HU11.out.cell (i := 2) (v := .int .u8 ((f 1).1 : Int)) rfl
        have m17 := hm11.cell (i := 17) (v := .int .u8 ((n.un 1).2 : Int)) rfl
        have f17 := hm11.frozen 17
        have zu3 := HU11.out.cell (i := 3) (v := .int .u8 ((f 1).2 : Int)) rfl
        have m18 := hm11.cell (i := 18) (v := .int .u8 ((n.un 2).1 : Int)) rfl
        have f18 := hm11.frozen 18
        have zu4 := HU11.out.cell (i := 4) (v := .int .u8 ((f 2).1 : Int)) rfl
        have m19 := hm11.cell (i := 19) (v := .int .u8 ((n.un 2).2 : Int)) rfl
        have f19 := hm11.frozen 19
        have zu5 := HU11.out.cell (i := 5) (v := .int .u8 ((f 2).2 : Int)) rfl
        have m20 := hm11.cell (i := 20) (v := .int .u8 ((n.un 3).1 : Int)) rfl
        have f20 := hm11.frozen 20
        have zu6 := HU11.out.cell (i := 6) (v := .int .u8 ((f 3).1 : Int)) rfl
        have m21 := hm11.cell (i := 21) (v := .int .u8 ((n.un 3).2 : Int)) rfl
        have f21 := hm11.frozen 21
        have zu7 := HU11.out.cell (i := 7) (v := .int .u8 ((f 3).2 : Int)) rfl
        have lm := hm11.lt
        have lu := HU11.out.lt
        obtain ⟨hsz, hs1z, haz, hwz⟩ := HSZ.out
        have hzw : wr.heap.size ≤ z := by omega
        have hzs : z ≠ s := by omega
        have hzs1 : z ≠ s + 1 := by omega
        clear hb10 hn10 hm11 hg hzz hz h11
        by_cases h12 : k0 = 12
        · have j12 : ((k0 : Int) != 12) = false := by simp; omega
          have j13 : ((k0 : Int) != 13) = true := by simp; omega
          have j14 : ((k0 : Int) != 14) = true := by simp; omega
          have HMD := Lib.hid (show ndeed ({n with un := f} : Nr) d = ⟨L, ag, dl⟩ from by
            rw [← HD.out]
            exact deed_blind (n := n) rfl rfl (fun h => by (try (rw [HS0.out] at h; simp only at h)) <;> first | rfl | (exfalso; omega)) (fun h => by (try (rw [HS0.out] at h; simp only at h)) <;> first | rfl | (exfalso; omega)) (fun h => by (try (rw [HS0.out] at h; simp only at h)) <;> first | rfl | (exfalso; omega)))
          go_wp2_with ((with_reducible refine at_slot 155 ?_); refine Classical.byContradiction (fun hG => ?_))
          refine hG ?_
          clear hG
          refine list_named (S := fun W => Below wr.heap.size wr W ∧ Blk W z TN (vals (n : Nr)) ∧ Blk W (s + 1) TU4 (valsU f)) ⟨by (repeat' (first | (with_reducible exact Below.refl _ _) | (with_reducible refine Below.setCell ?_ (by (first | omega | (simp; done) | (simp; omega))) _) | (with_reducible refine Below.alloc ?_ (by (first | omega | (simp; done) | (simp; omega))) _) | (with_reducible refine Below.drew ?_) | (with_reducible refine below_drewN ?_ _) | (with_reducible refine Below.trans ?_ (Below.mono HB11.out (by (first | omega | (simp; done) | (simp; omega))))))), HM11.out, by (repeat' (first | (with_reducible exact HU11.out) | (with_reducible refine BlkP.Blk.drew ?_) | (with_reducible refine BlkP.Blk.drewN ?_ _) | (with_reducible refine BlkP.Blk.setAt (us := ?_) (by first | omega | (simp; done) | (simp; omega)) rfl ?_ ?_) | (with_reducible refine BlkP.Blk.otherAt ?_ (by first | omega | (simp; done) | (simp; omega))) | (with_reducible refine BlkP.Blk.newA' (by first | omega | (simp; done) | (simp; omega)) rfl) | (with_reducible refine BlkP.Blk.alloc ?_ _) | (exact rfl)))⟩ ?_
          rintro w13 ⟨hb13, hm13, hu13⟩
          have zu0 := hu13.cell (i := 0) (v := .int .u8 ((f 0).1 : Int)) rfl
          have zu1 := hu13.cell (i := 1) (v := .int .u8 ((f 0).2 : Int)) rfl
          have zu2 := hu13.cell (i := 2) (v := .int .u8 ((f 1).1 : Int)) rfl
          have zu3 := hu13.cell (i := 3) (v := .int .u8 ((f 1).2 : Int)) rfl
          have zu4 := hu13.cell (i := 4) (v := .int .u8 ((f 2).1 : Int)) rfl
          have zu5 := hu13.cell (i := 5) (v := .int .u8 ((f 2).2 : Int)) rfl
          have zu6 := hu13.cell (i := 6) (v := .int .u8 ((f 3).1 : Int)) rfl
          have zu7 := hu13.cell (i := 7) (v := .int .u8 ((f 3).2 : Int)) rfl
          have lu := hu13.lt
          have HB13 := Lib.hid hb13
          have HM13 := Lib.hid hm13
          clear hb13 hm13 hu13
          go_wp2_with ((with_reducible refine at_storeT TU4 ?_); refine Classical.byContradiction (fun hG => ?_))
          refine hG ?_
          clear hG
          refine wp_storeU rfl (.tmp 156) (.tmp 155) rfl (n := (n : Nr)) (f := f) rfl rfl HM13.out ?_
          intro w12 hm12 hg12 hz12
          have HB12' := Lib.hid (show Below wr.heap.size wr w12 from HB13.out.grown hg12 HB13.out.size (fun q hq => by injection hq with hq; omega))
          have HM12 := Lib.hid (show Blk w12 z TN (vals ({n with un := f} : Nr)) from hm12)
          have HB12 := Lib.hid (below_t HB9.out HB12'.out)
          have HO12 := Lib.hid (rd_z (HO9.out.below HB12'.out))
          have ha12 := HA9.out.below HB12'.out
          have a0 := ha12.cell (i := 0) rfl
          have a1 := ha12.cell (i := 1) rfl
          have a2 := ha12.cell (i := 2) rfl
          have la := ha12.lt
          clear hm12 hg12 hz12 ha12 c0 ls m22 m23 f22 f23 lm lu hsz hs1z haz hwz hzs hzs1 m14 f14 zu0 m15 f15 zu1 m16 f16 zu2 m17 f17 zu3 m18 f18 zu4 m19 f19 zu5 m20 f20 zu6 m21 f21 zu7
          go_wp2_with fail
          refine wp_region_noPanic ?_
          refine wp_region_held_drew (S := fun W => Below w12.heap.size w12 W) (by kernel_rfl) ((Below.refl _ w12).drew) (fun hHeld => ?_)
          refine wpAnyH_take (i := 0) (oi := ⟨some 157, _, _, _, _, _⟩) (v := nv ({n with un := f} : Nr)) rfl (by kernel_rfl) (by kernel_rfl) (by kernel_rfl) (fun _ _ _ h => h) (Or.inl ⟨by rfl, fun W hSW => yieldN rfl rfl (HM12.out.below hSW)⟩) hHeld ?_
          simp only [Act.put, List.setIfInBounds_toArray, List.set_cons_zero, List.set_cons_succ]
          refine wpAnyH_take (i := 2) (oi := ⟨some 159, _, _, _, _, _⟩) (v := .agg #[.slice A1 k c1, .int .i64 ag, .int .i64 dl]) rfl (by kernel_rfl) (by kernel_rfl) (by kernel_rfl) (fun _ _ _ h => h) (Or.inl ⟨by rfl, fun W hSW => by have a0 := (hSW.cell (p := ⟨a, 0, none⟩) la).trans a0; have a1 := (hSW.cell (p := ⟨a, 1, none⟩) la).trans a1; have a2 := (hSW.cell (p := ⟨a, 2, none⟩) la).trans a2; go_simp⟩) hHeld ?_
          simp only [Act.put, List.setIfInBounds_toArray, List.set_cons_zero, List.set_cons_succ]
          refine wpAnyH_ready (rs := [1]) (by kernel_rfl) (by simp) ?_
          refine AllReadyH.cons (o := ⟨some 158, _, _, _, _, _⟩) rfl (fun K hK => ?_) AllReadyH.nil
          go_simp
          refine (Next_q (HT.out.below (below_t HB12.out hHeld)) (show ({n with un := f} : Nr).s.1 < 256 from H8.out) HDR.out hd2 HMD.out).mono ?_
          rintro e w20 ⟨v, rfl, ho, hb20⟩
          obtain ⟨A2, c2, rfl, _, _, _⟩ := ho.form (n := k) HK.out
          have HO2 := Lib.hid (rd_z ho.rd)
          clear ho
          go_wp2_with fail
          refine hK.out _ _ (below_t hHeld hb20) (fun hHeld => ?_)
          clear hK K hb20
          refine wpAnyH_ready (rs := [3]) (by kernel_rfl) (by simp) ?_
          refine AllReadyH.cons (o := ⟨some 160, _, _, _, _, _⟩) rfl (fun K hK => ?_) AllReadyH.nil
          go_simp
          refine (lsameZ_c HO2.out (HO12.out.below hHeld) HZL.out (by have := HK4.out; omega)).mono ?_
          rintro e w21 ⟨rfl, hb21⟩
          go_wp2_with fail
          refine hK.out _ _ (below_t hHeld hb21) (fun hHeld => ?_)
          clear hK K hb21
          refine wpAnyH_take (i := 4) (oi := ⟨some 161, _, _, _, _, _⟩) (v := .bool true) rfl (by kernel_rfl) (by kernel_rfl) (by kernel_rfl) (fun _ _ _ h => h) (Or.inl ⟨by rfl, fun W hSW => by go_simp⟩) hHeld ?_
          simp only [Act.put, List.setIfInBounds_toArray, List.set_cons_zero, List.set_cons_succ]
          refine wpAnyH_ready (rs := [5]) (by kernel_rfl) (by simp) ?_
          refine AllReadyH.cons (o := ⟨some 162, _, _, _, _, _⟩) rfl (fun K hK => ?_) AllReadyH.nil
          go_simp
          refine (awake15_c (HT.out.below (below_t HB12.out hHeld))).mono ?_
          rintro e w22 ⟨rfl, hb22⟩
          go_wp2_with fail
          refine hK.out _ _ (below_t hHeld hb22) (fun hHeld => ?_)
          clear hK K hb22
          refine wpAnyH_take (i := 6) (oi := ⟨some 163, _, _, _, _, _⟩) (v := .bool true) rfl (by kernel_rfl) (by kernel_rfl) (by kernel_rfl) (fun _ _ _ h => h) (Or.inl ⟨by rfl, fun W hSW => by go_simp⟩) hHeld ?_
          simp only [Act.put, List.setIfInBounds_toArray, List.set_cons_zero, List.set_cons_succ]
          refine wpAnyH_take (i := 7) (oi := ⟨some 8, _, _, _, _, _⟩) (v := .bool true) rfl (by kernel_rfl) (by kernel_rfl) (by kernel_rfl) (fun _ _ _ h => h) (Or.inl ⟨by rfl, fun W hSW => by go_simp⟩) hHeld ?_
          simp only [Act.put, List.setIfInBounds_toArray, List.set_cons_zero, List.set_cons_succ]
          refine wpAnyH_done (by kernel_rfl) ?_ _
          refine NoPanic.normal ?_
          have HB13 := Lib.hid (below_t HB12.out hHeld)
          clear hHeld a0 a1 a2 la
          go_wp2_with fail
          go_ret
          exact ⟨by first | rfl | simp, HB13.out⟩
        · by_cases h13 : k0 = 13
          · have j12 : ((k0 : Int) != 12) = true := by simp; omega
            have j13 : ((k0 : Int) != 13) = false := by simp; omega
            have j14 : ((k0 : Int) != 14) = true := by simp; omega
            have HMD := Lib.hid (show ndeed ({n with lt := y, dr := (e : Int)} : Nr) e = ⟨L, ag, dl⟩ from by
              rw [← HD.out]
              exact deed_blind (n := n) rfl rfl (fun h => by (try (rw [HS0.out] at h; simp only at h)) <;> first | rfl | (exfalso; omega)) (fun h => by (try (rw [HS0.out] at h; simp only at h)) <;> first | rfl | (exfalso; omega)) (fun h => by (try (rw [HS0.out] at h; simp only at h)) <;> first | rfl | (exfalso; omega)))
            go_wp2_with fail
            refine HeldP.wp_named (S := fun W => Below wr.heap.size wr W ∧ Blk W z TN (vals ({n with lt := y, dr := (e : Int)} : Nr))) ⟨by (repeat' (first | (with_reducible exact Below.refl _ _) | (with_reducible refine Below.setCell ?_ (by (first | omega | (simp; done) | (simp; omega))) _) | (with_reducible refine Below.alloc ?_ (by (first | omega | (simp; done) | (simp; omega))) _) | (with_reducible refine Below.drew ?_) | (with_reducible refine below_drewN ?_ _) | (with_reducible refine Below.trans ?_ (Below.mono HB11.out (by (first | omega | (simp; done) | (simp; omega))))))), (HM11.out.set _ _).setTo rfl⟩ ?_
            rintro w12 ⟨hb12, hm12⟩
            have HB12 := Lib.hid (below_t HB9.out hb12)
            have HM12 := Lib.hid hm12
            have HO12 := Lib.hid (rd_z (HO9.out.below hb12))
            have ha12 := HA9.out.below hb12
            have a0 := ha12.cell (i := 0) rfl
            have a1 := ha12.cell (i := 1) rfl
            have a2 := ha12.cell (i := 2) rfl
            have la := ha12.lt
            clear hb12 hm12 ha12 c0 ls m22 m23 f22 f23 lm lu hsz hs1z haz hwz hzs hzs1 m14 f14 zu0 m15 f15 zu1 m16 f16 zu2 m17 f17 zu3 m18 f18 zu4 m19 f19 zu5 m20 f20 zu6 m21 f21 zu7
            refine wp_region_noPanic ?_
            refine wp_region_held_drew (S := fun W => Below w12.heap.size w12 W) (by kernel_rfl) ((Below.refl _ w12).drew) (fun hHeld => ?_)
            refine wpAnyH_take (i := 0) (oi := ⟨some 157, _, _, _, _, _⟩) (v := nv ({n with lt := y, dr := (e : Int)} : Nr)) rfl (by kernel_rfl) (by kernel_rfl) (by kernel_rfl) (fun _ _ _ h => h) (Or.inl ⟨by rfl, fun W hSW => yieldN rfl rfl (HM12.out.below hSW)⟩) hHeld ?_
            simp only [Act.put, List.setIfInBounds_toArray, List.set_cons_zero, List.set_cons_succ]
            refine wpAnyH_take (i := 2) (oi := ⟨some 159, _, _, _, _, _⟩) (v := .agg #[.slice A1 k c1, .int .i64 ag, .int .i64 dl]) rfl (by kernel_rfl) (by kernel_rfl) (by kernel_rfl) (fun _ _ _ h => h) (Or.inl ⟨by rfl, fun W hSW => by have a0 := (hSW.cell (p := ⟨a, 0, none⟩) la).trans a0; have a1 := (hSW.cell (p := ⟨a, 1, none⟩) la).trans a1; have a2 := (hSW.cell (p := ⟨a, 2, none⟩) la).trans a2; go_simp⟩) hHeld ?_
            simp only [Act.put, List.setIfInBounds_toArray, List.set_cons_zero, List.set_cons_succ]
            refine wpAnyH_ready (rs := [1]) (by kernel_rfl) (by simp) ?_
            refine AllReadyH.cons (o := ⟨some 158, _, _, _, _, _⟩) rfl (fun K hK => ?_) AllReadyH.nil
            go_simp
            refine (Next_q (HT.out.below (below_t HB12.out hHeld)) (show ({n with lt := y, dr := (e : Int)} : Nr).s.1 < 256 from H8.out) rfl he2 HMD.out).mono ?_
            rintro e w20 ⟨v, rfl, ho, hb20⟩
            obtain ⟨A2, c2, rfl, _, _, _⟩ := ho.form (n := k) HK.out
            have HO2 := Lib.hid (rd_z ho.rd)
            clear ho
            go_wp2_with fail
            refine hK.out _ _ (below_t hHeld hb20) (fun hHeld => ?_)
            clear hK K hb20
            refine wpAnyH_ready (rs := [3]) (by kernel_rfl) (by simp) ?_
            refine AllReadyH.cons (o := ⟨some 160, _, _, _, _, _⟩) rfl (fun K hK => ?_) AllReadyH.nil
            go_simp
            refine (lsameZ_c HO2.out (HO12.out.below hHeld) HZL.out (by have := HK4.out; omega)).mono ?_
            rintro e w21 ⟨rfl, hb21⟩
            go_wp2_with fail
            refine hK.out _ _ (below_t hHeld hb21) (fun hHeld => ?_)
            clear hK K hb21
            refine wpAnyH_take (i := 4) (oi := ⟨some 161, _, _, _, _, _⟩) (v := .bool true) rfl (by kernel_rfl) (by kernel_rfl) (by kernel_rfl) (fun _ _ _ h => h) (Or.inl ⟨by rfl, fun W hSW => by go_simp⟩) hHeld ?_
            simp only [Act.put, List.setIfInBounds_toArray, List.set_cons_zero, List.set_cons_succ]
            refine wpAnyH_ready (rs := [5]) (by kernel_rfl) (by simp) ?_
            refine AllReadyH.cons (o := ⟨some 162, _, _, _, _, _⟩) rfl (fun K hK => ?_) AllReadyH.nil
            go_simp
            refine (awake15_c (HT.out.below (below_t HB12.out hHeld))).mono ?_
            rintro e w22 ⟨rfl, hb22⟩
            go_wp2_with fail
            refine hK.out _ _ (below_t hHeld hb22) (fun hHeld => ?_)
            clear hK K hb22
            refine wpAnyH_take (i := 6) (oi := ⟨some 163, _, _, _, _, _⟩) (v := .bool true) rfl (by kernel_rfl) (by kernel_rfl) (by kernel_rfl) (fun _ _ _ h => h) (Or.inl ⟨by rfl, fun W hSW => by go_simp⟩) hHeld ?_
            simp only [Act.put, List.setIfInBounds_toArray, List.set_cons_zero, List.set_cons_succ]
            refine wpAnyH_take (i := 7) (oi := ⟨some 8, _, _, _, _, _⟩) (v := .bool true) rfl (by kernel_rfl) (by kernel_rfl) (by kernel_rfl) (fun _ _ _ h => h) (Or.inl ⟨by rfl, fun W hSW => by go_simp⟩) hHeld ?_
            simp only [Act.put, List.setIfInBounds_toArray, List.set_cons_zero, List.set_cons_succ]
            refine wpAnyH_done (by kernel_rfl) ?_ _
            refine NoPanic.normal ?_
            have HB13 := Lib.hid (below_t HB12.out hHeld)
            clear hHeld a0 a1 a2 la
            go_wp2_with fail
            go_ret
            exact ⟨by first | rfl | simp, HB13.out⟩
          · by_cases h14 : k0 = 14
            · have j12 : ((k0 : Int) != 12) = true := by simp; omega
              have j13 : ((k0 : Int) != 13) = true := by simp; omega
              have j14 : ((k0 : Int) != 14) = false := by simp; omega
              have HMD := Lib.hid (show ndeed ({n with lt := y, un := f} : Nr) d = ⟨L, ag, dl⟩ from by
                rw [← HD.out]
                exact deed_blind (n := n) rfl rfl (fun h => by (try (rw [HS0.out] at h; simp only at h)) <;> first | rfl | (exfalso; omega)) (fun h => by (try (rw [HS0.out] at h; simp only at h)) <;> first | rfl | (exfalso; omega)) (fun h => by (try (rw [HS0.out] at h; simp only at h)) <;> first | rfl | (exfalso; omega)))
              go_wp2_with ((with_reducible refine at_slot 155 ?_); refine Classical.byContradiction (fun hG => ?_))
              refine hG ?_
              clear hG
              refine list_named (S := fun W => Below wr.heap.size wr W ∧ Blk W z TN (vals ({n with lt := y} : Nr)) ∧ Blk W (s + 1) TU4 (valsU f)) ⟨by (repeat' (first | (with_reducible exact Below.refl _ _) | (with_reducible refine Below.setCell ?_ (by (first | omega | (simp; done) | (simp; omega))) _) | (with_reducible refine Below.alloc ?_ (by (first | omega | (simp; done) | (simp; omega))) _) | (with_reducible refine Below.drew ?_) | (with_reducible refine below_drewN ?_ _) | (with_reducible refine Below.trans ?_ (Below.mono HB11.out (by (first | omega | (simp; done) | (simp; omega))))))), HM11.out.setTo rfl, by (repeat' (first | (with_reducible exact HU11.out) | (with_reducible refine BlkP.Blk.drew ?_) | (with_reducible refine BlkP.Blk.drewN ?_ _) | (with_reducible refine BlkP.Blk.setAt (us := ?_) (by first | omega | (simp; done) | (simp; omega)) rfl ?_ ?_) | (with_reducible refine BlkP.Blk.otherAt ?_ (by first | omega | (simp; done) | (simp; omega))) | (with_reducible refine BlkP.Blk.newA' (by first | omega | (simp; done) | (simp; omega)) rfl) | (with_reducible refine BlkP.Blk.alloc ?_ _) | (exact rfl)))⟩ ?_
              rintro w13 ⟨hb13, hm13, hu13⟩
              have zu0 := hu13.cell (i := 0) (v := .int .u8 ((f 0).1 : Int)) rfl
              have zu1 := hu13.cell (i := 1) (v := .int .u8 ((f 0).2 : Int)) rfl
              have zu2 := hu13.cell (i := 2) (v := .int .u8 ((f 1).1 : Int)) rfl
              have zu3 := hu13.cell (i := 3) (v := .int .u8 ((f 1).2 : Int)) rfl
              have zu4 := hu13.cell (i := 4) (v := .int .u8 ((f 2).1 : Int)) rfl
              have zu5 := hu13.cell (i := 5) (v := .int .u8 ((f 2).2 : Int)) rfl
              have zu6 := hu13.cell (i := 6) (v := .int .u8 ((f 3).1 : Int)) rfl
              have zu7 := hu13.cell (i := 7) (v := .int .u8 ((f 3).2 : Int)) rfl
              have lu := hu13.lt
              have HB13 := Lib.hid hb13
              have HM13 := Lib.hid hm13
              clear hb13 hm13 hu13
              go_wp2_with ((with_reducible refine at_storeT TU4 ?_); refine Classical.byContradiction (fun hG => ?_))
              refine hG ?_
              clear hG
              refine wp_storeU rfl (.tmp 156) (.tmp 155) rfl (n := ({n with lt := y} : Nr)) (f := f) rfl rfl HM13.out ?_
              intro w12 hm12 hg12 hz12
              have HB12' := Lib.hid (show Below wr.heap.size wr w12 from HB13.out.grown hg12 HB13.out.size (fun q hq => by injection hq with hq; omega))
              have HM12 := Lib.hid (show Blk w12 z TN (vals ({n with lt := y, un := f} : Nr)) from hm12)
              have HB12 := Lib.hid (below_t HB9.out HB12'.out)
              have HO12 := Lib.hid (rd_z (HO9.out.below HB12'.out))
              have ha12 := HA9.out.below HB12'.out
              have a0 := ha12.cell (i := 0) rfl
              have a1 := ha12.cell (i := 1) rfl
              have a2 := ha12.cell (i := 2) rfl
              have la := ha12.lt
              clear hm12 hg12 hz12 ha12 c0 ls m22 m23 f22 f23 lm lu hsz hs1z haz hwz hzs hzs1 m14 f14 zu0 m15 f15 zu1 m16 f16 zu2 m17 f17 zu3 m18 f18 zu4 m19 f19 zu5 m20 f20 zu6 m21 f21 zu7
              go_wp2_with fail
              refine wp_region_noPanic ?_
              refine wp_region_held_drew (S := fun W => Below w12.heap.size w12 W) (by kernel_rfl) ((Below.refl _ w12).drew) (fun hHeld => ?_)
              refine wpAnyH_take (i := 0) (oi := ⟨some 157, _, _, _, _, _⟩) (v := nv ({n with lt := y, un := f} : Nr)) rfl (by kernel_rfl) (by kernel_rfl) (by kernel_rfl) (fun _ _ _ h => h) (Or.inl ⟨by rfl, fun W hSW => yieldN rfl rfl (HM12.out.below hSW)⟩) hHeld ?_
              simp only [Act.put, List.setIfInBounds_toArray, List.set_cons_zero, List.set_cons_succ]
              refine wpAnyH_take (i := 2) (oi := ⟨some 159, _, _, _, _, _⟩) (v := .agg #[.slice A1 k c1, .int .i64 ag, .int .i64 dl]) rfl (by kernel_rfl) (by kernel_rfl) (by kernel_rfl) (fun _ _ _ h => h) (Or.inl ⟨by rfl, fun W hSW => by have a0 := (hSW.cell (p := ⟨a, 0, none⟩) la).trans a0; have a1 := (hSW.cell (p := ⟨a, 1, none⟩) la).trans a1; have a2 := (hSW.cell (p := ⟨a, 2, none⟩) la).trans a2; go_simp⟩) hHeld ?_
              simp only [Act.put, List.setIfInBounds_toArray, List.set_cons_zero, List.set_cons_succ]
              refine wpAnyH_ready (rs := [1]) (by kernel_rfl) (by simp) ?_
              refine AllReadyH.cons (o := ⟨some 158, _, _, _, _, _⟩) rfl (fun K hK => ?_) AllReadyH.nil
              go_simp
              refine (Next_q (HT.out.below (below_t HB12.out hHeld)) (show ({n with lt := y, un := f} : Nr).s.1 < 256 from H8.out) HDR.out hd2 HMD.out).mono ?_
              rintro e w20 ⟨v, rfl, ho, hb20⟩
              obtain ⟨A2, c2, rfl, _, _, _⟩ := ho.form (n := k) HK.out
              have HO2 := Lib.hid (rd_z ho.rd)
              clear ho
              go_wp2_with fail
              refine hK.out _ _ (below_t hHeld hb20) (fun hHeld => ?_)
              clear hK K hb20
              refine wpAnyH_ready (rs := [3]) (by kernel_rfl) (by simp) ?_
              refine AllReadyH.cons (o := ⟨some 160, _, _, _, _, _⟩) rfl (fun K hK => ?_) AllReadyH.nil
              go_simp
              refine (lsameZ_c HO2.out (HO12.out.below hHeld) HZL.out (by have := HK4.out; omega)).mono ?_
              rintro e w21 ⟨rfl, hb21⟩
              go_wp2_with fail
              refine hK.out _ _ (below_t hHeld hb21) (fun hHeld => ?_)
              clear hK K hb21
              refine wpAnyH_take (i := 4) (oi := ⟨some 161, _, _, _, _, _⟩) (v := .bool true) rfl (by kernel_rfl) (by kernel_rfl) (by kernel_rfl) (fun _ _ _ h => h) (Or.inl ⟨by rfl, fun W hSW => by go_simp⟩) hHeld ?_
              simp only [Act.put, List.setIfInBounds_toArray, List.set_cons_zero, List.set_cons_succ]
              refine wpAnyH_ready (rs := [5]) (by kernel_rfl) (by simp) ?_
              refine AllReadyH.cons (o := ⟨some 162, _, _, _, _, _⟩) rfl (fun K hK => ?_) AllReadyH.nil
              go_simp
              refine (awake15_c (HT.out.below (below_t HB12.out hHeld))).mono ?_
              rintro e w22 ⟨rfl, hb22⟩
              go_wp2_with fail
              refine hK.out _ _ (below_t hHeld hb22) (fun hHeld => ?_)
              clear hK K hb22
              refine wpAnyH_take (i := 6) (oi := ⟨some 163, _, _, _, _, _⟩) (v := .bool true) rfl (by kernel_rfl) (by kernel_rfl) (by kernel_rfl) (fun _ _ _ h => h) (Or.inl ⟨by rfl, fun W hSW => by go_simp⟩) hHeld ?_
              simp only [Act.put, List.setIfInBounds_toArray, List.set_cons_zero, List.set_cons_succ]
              refine wpAnyH_take (i := 7) (oi := ⟨some 8, _, _, _, _, _⟩) (v := .bool true) rfl (by kernel_rfl) (by kernel_rfl) (by kernel_rfl) (fun _ _ _ h => h) (Or.inl ⟨by rfl, fun W hSW => by go_simp⟩) hHeld ?_
              simp only [Act.put, List.setIfInBounds_toArray, List.set_cons_zero, List.set_cons_succ]
              refine wpAnyH_done (by kernel_rfl) ?_ _
              refine NoPanic.normal ?_
              have HB13 := Lib.hid (below_t HB12.out hHeld)
              clear hHeld a0 a1 a2 la
              go_wp2_with fail
              go_ret
              exact ⟨by first | rfl | simp, HB13.out⟩
            · have j12 : ((k0 : Int) != 12) = true := by simp; omega
              have j13 : ((k0 : Int) != 13) = true := by simp; omega
              have j14 : ((k0 : Int) != 14) = true := by simp; omega
              have HMD := Lib.hid (show ndeed ({n with lt := y, dr := (e : Int), un := f} : Nr) e = ⟨L, ag, dl⟩ from by
                rw [← HD.out]
                exact deed_blind (n := n) rfl rfl (fun h => by (try (rw [HS0.out] at h; simp only at h)) <;> first | rfl | (exfalso; omega)) (fun h => by (try (rw [HS0.out] at h; simp only at h)) <;> first | rfl | (exfalso; omega)) (fun h => by (try (rw [HS0.out] at h; simp only at h)) <;> first | rfl | (exfalso; omega)))
              go_wp2_with ((with_reducible refine at_slot 155 ?_); refine Classical.byContradiction (fun hG => ?_))
              refine hG ?_
              clear hG
              refine list_named (S := fun W => Below wr.heap.size wr W ∧ Blk W z TN (vals ({n with lt := y, dr := (e : Int)} : Nr)) ∧ Blk W (s + 1) TU4 (valsU f)) ⟨by (repeat' (first | (with_reducible exact Below.refl _ _) | (with_reducible refine Below.setCell ?_ (by (first | omega | (simp; done) | (simp; omega))) _) | (with_reducible refine Below.alloc ?_ (by (first | omega | (simp; done) | (simp; omega))) _) | (with_reducible refine Below.drew ?_) | (with_reducible refine below_drewN ?_ _) | (with_reducible refine Below.trans ?_ (Below.mono HB11.out (by (first | omega | (simp; done) | (simp; omega))))))), (HM11.out.set _ _).setTo rfl, by (repeat' (first | (with_reducible exact HU11.out) | (with_reducible refine BlkP.Blk.drew ?_) | (with_reducible refine BlkP.Blk.drewN ?_ _) | (with_reducible refine BlkP.Blk.setAt (us := ?_) (by first | omega | (simp; done) | (simp; omega)) rfl ?_ ?_) | (with_reducible refine BlkP.Blk.otherAt ?_ (by first | omega | (simp; done) | (simp; omega))) | (with_reducible refine BlkP.Blk.newA' (by first | omega | (simp; done) | (simp; omega)) rfl) | (with_reducible refine BlkP.Blk.alloc ?_ _) | (exact rfl)))⟩ ?_
              rintro w13 ⟨hb13, hm13, hu13⟩
              have zu0 := hu13.cell (i := 0) (v := .int .u8 ((f 0).1 : Int)) rfl
              have zu1 := hu13.cell (i := 1) (v := .int .u8 ((f 0).2 : Int)) rfl
              have zu2 := hu13.cell (i := 2) (v := .int .u8 ((f 1).1 : Int)) rfl
              have zu3 := hu13.cell (i := 3) (v := .int .u8 ((f 1).2 : Int)) rfl
              have zu4 := hu13.cell (i := 4) (v := .int .u8 ((f 2).1 : Int)) rfl
              have zu5 := hu13.cell (i := 5) (v := .int .u8 ((f 2).2 : Int)) rfl
              have zu6 := hu13.cell (i := 6) (v := .int .u8 ((f 3).1 : Int)) rfl
              have zu7 := hu13.cell (i := 7) (v := .int .u8 ((f 3).2 : Int)) rfl
              have lu := hu13.lt
              have HB13 := Lib.hid hb13
              have HM13 := Lib.hid hm13
              clear hb13 hm13 hu13
              go_wp2_with ((with_reducible refine at_storeT TU4 ?_); refine Classical.byContradiction (fun hG => ?_))
              refine hG ?_
              clear hG
              refine wp_storeU rfl (.tmp 156) (.tmp 155) rfl (n := ({n with lt := y, dr := (e : Int)} : Nr)) (f := f) rfl rfl HM13.out ?_
              intro w12 hm12 hg12 hz12
              have HB12' := Lib.hid (show Below wr.heap.size wr w12 from HB13.out.grown hg12 HB13.out.size (fun q hq => by injection hq with hq; omega))
              have HM12 := Lib.hid (show Blk w12 z TN (vals ({n with lt := y, dr := (e : Int), un := f} : Nr)) from hm12)
              have HB12 := Lib.hid (below_t HB9.out HB12'.out)
              have HO12 := Lib.hid (rd_z (HO9.out.below HB12'.out))
              have ha12 := HA9.out.below HB12'.out
              have a0 := ha12.cell (i := 0) rfl
              have a1 := ha12.cell (i := 1) rfl
              have a2 := ha12.cell (i := 2) rfl
              have la := ha12.lt
              clear hm12 hg12 hz12 ha12 c0 ls m22 m23 f22 f23 lm lu hsz hs1z haz hwz hzs hzs1 m14 f14 zu0 m15 f15 zu1 m16 f16 zu2 m17 f17 zu3 m18 f18 zu4 m19 f19 zu5 m20 f20 zu6 m21 f21 zu7
              go_wp2_with fail
              refine wp_region_noPanic ?_
              refine wp_region_held_drew (S := fun W => Below w12.heap.size w12 W) (by kernel_rfl) ((Below.refl _ w12).drew) (fun hHeld => ?_)
              refine wpAnyH_take (i := 0) (oi := ⟨some 157, _, _, _, _, _⟩) (v := nv ({n with lt := y, dr := (e : Int), un := f} : Nr)) rfl (by kernel_rfl) (by kernel_rfl) (by kernel_rfl) (fun _ _ _ h => h) (Or.inl ⟨by rfl, fun W hSW => yieldN rfl rfl (HM12.out.below hSW)⟩) hHeld ?_
              simp only [Act.put, List.setIfInBounds_toArray, List.set_cons_zero, List.set_cons_succ]
              refine wpAnyH_take (i := 2) (oi := ⟨some 159, _, _, _, _, _⟩) (v := .agg #[.slice A1 k c1, .int .i64 ag, .int .i64 dl]) rfl (by kernel_rfl) (by kernel_rfl) (by kernel_rfl) (fun _ _ _ h => h) (Or.inl ⟨by rfl, fun W hSW => by have a0 := (hSW.cell (p := ⟨a, 0, none⟩) la).trans a0; have a1 := (hSW.cell (p := ⟨a, 1, none⟩) la).trans a1; have a2 := (hSW.cell (p := ⟨a, 2, none⟩) la).trans a2; go_simp⟩) hHeld ?_
              simp only [Act.put, List.setIfInBounds_toArray, List.set_cons_zero, List.set_cons_succ]
              refine wpAnyH_ready (rs := [1]) (by kernel_rfl) (by simp) ?_
              refine AllReadyH.cons (o := ⟨some 158, _, _, _, _, _⟩) rfl (fun K hK => ?_) AllReadyH.nil
              go_simp
              refine (Next_q (HT.out.below (below_t HB12.out hHeld)) (show ({n with lt := y, dr := (e : Int), un := f} : Nr).s.1 < 256 from H8.out) rfl he2 HMD.out).mono ?_
              rintro e w20 ⟨v, rfl, ho, hb20⟩
              obtain ⟨A2, c2, rfl, _, _, _⟩ := ho.form (n := k) HK.out
              have HO2 := Lib.hid (rd_z ho.rd)
              clear ho
              go_wp2_with fail
              refine hK.out _ _ (below_t hHeld hb20) (fun hHeld => ?_)
              clear hK K hb20
              refine wpAnyH_ready (rs := [3]) (by kernel_rfl) (by simp) ?_
              refine AllReadyH.cons (o := ⟨some 160, _, _, _, _, _⟩) rfl (fun K hK => ?_) AllReadyH.nil
              go_simp
              refine (lsameZ_c HO2.out (HO12.out.below hHeld) HZL.out (by have := HK4.out; omega)).mono ?_
              rintro e w21 ⟨rfl, hb21⟩
              go_wp2_with fail
              refine hK.out _ _ (below_t hHeld hb21) (fun hHeld => ?_)
              clear hK K hb21
              refine wpAnyH_take (i := 4) (oi := ⟨some 161, _, _, _, _, _⟩) (v := .bool true) rfl (by kernel_rfl) (by kernel_rfl) (by kernel_rfl) (fun _ _ _ h => h) (Or.inl ⟨by rfl, fun W hSW => by go_simp⟩) hHeld ?_
              simp only [Act.put, List.setIfInBounds_toArray, List.set_cons_zero, List.set_cons_succ]
              refine wpAnyH_ready (rs := [5]) (by kernel_rfl) (by simp) ?_
              refine AllReadyH.cons (o := ⟨some 162, _, _, _, _, _⟩) rfl (fun K hK => ?_) AllReadyH.nil
              go_simp
              refine (awake15_c (HT.out.below (below_t HB12.out hHeld))).mono ?_
              rintro e w22 ⟨rfl, hb22⟩
              go_wp2_with fail
              refine hK.out _ _ (below_t hHeld hb22) (fun hHeld => ?_)
              clear hK K hb22
              refine wpAnyH_take (i := 6) (oi := ⟨some 163, _, _, _, _, _⟩) (v := .bool true) rfl (by kernel_rfl) (by kernel_rfl) (by kernel_rfl) (fun _ _ _ h => h) (Or.inl ⟨by rfl, fun W hSW => by go_simp⟩) hHeld ?_
              simp only [Act.put, List.setIfInBounds_toArray, List.set_cons_zero, List.set_cons_succ]
              refine wpAnyH_take (i := 7) (oi := ⟨some 8, _, _, _, _, _⟩) (v := .bool true) rfl (by kernel_rfl) (by kernel_rfl) (by kernel_rfl) (fun _ _ _ h => h) (Or.inl ⟨by rfl, fun W hSW => by go_simp⟩) hHeld ?_
              simp only [Act.put, List.setIfInBounds_toArray, List.set_cons_zero, List.set_cons_succ]
              refine wpAnyH_done (by kernel_rfl) ?_ _
              refine NoPanic.normal ?_
              have HB13 := Lib.hid (below_t HB12.out hHeld)
              clear hHeld a0 a1 a2 la
              go_wp2_with fail
              go_ret
              exact ⟨by first | rfl | simp, HB13.out⟩
end ReactW
end Go.Proofs.YtlahkmkipciiiaaDoor
