/-
  The reference: self, left, Same.
-/
import Derived.Test.YtlidcefmpoelkaaDoorBurnFire
namespace Go.Proofs.YtlidcefmpoelkaaDoor
open Go.RowKit
set_option linter.unusedVariables false
set_option linter.unusedSimpArgs false
namespace BurnW
open BlkP RowG FrS PushG CellsW NearW BurnP
/-- A row that is told cell by cell. -/
theorem own_lit {α : Type} {e : Enc α} {E : TypeId} {w : World} {g B n : Nat} {l : List α} (h : Blk w g E (flat e l)) (hB : B ≤ g) (hn : l.length = n) (hm : n ≤ 1000000) : RowG.Own e E w B (.slice (some ⟨g, 0, none⟩) n n) l := by
  subst hn
  have hm2 : maxLen = 9223372036854775807 := rfl
  unfold RowG.Own
  exact ⟨flat_len l, .inr ⟨g, l.length, (flat e l).toArray, rfl, hB, h, Nat.le_refl _, by omega, by simp [flat_len], List.take_of_length_le (by simp [flat_len])⟩⟩
set_option maxRecDepth 100000 in
set_option maxHeartbeats 4000000 in
theorem rself_c {w : World} {k l : Nat} {x : Int} : Calls Tryd.prog 32 #[.agg #[.int .u8 (k : Int), .int .u8 (l : Int)], .int .i64 x] w (DeedQ w ⟨[(0, (k, l))], 0, x⟩) := by
  obtain ⟨s, hs⟩ : ∃ s, w.heap.size = s := ⟨_, rfl⟩
  have HS := Lib.hid hs
  go_enter Tryd.func32, Tryd.ntmps32
  go_wp2_with ((with_reducible refine at_slot 9 ?_); refine Classical.byContradiction (fun hG => ?_))
  refine hG ?_
  clear hG
  refine list_named (S := fun W => Below w.heap.size w W ∧ Blk W (s + 1) TD [.slice none 0 0, .int .i64 0, .int .i64 0] ∧ Blk W (s + 2) TX [.int .i64 0, .int .u8 (k : Int), .int .u8 (l : Int)]) ⟨by (repeat' (first | (with_reducible exact Below.refl _ _) | (with_reducible refine Below.setCell ?_ (by (first | omega | (simp; done) | (simp; omega))) _) | (with_reducible refine Below.alloc ?_ (by (first | omega | (simp; done) | (simp; omega))) _) | (with_reducible refine Below.drew ?_) | (with_reducible refine below_drewN ?_ _))), by subst hs; (repeat' (first | (with_reducible refine BlkP.Blk.drew ?_) | (with_reducible refine BlkP.Blk.drewN ?_ _) | (with_reducible refine BlkP.Blk.setAt (us := ?_) (by first | omega | (simp; done) | (simp; omega)) rfl ?_ ?_) | (with_reducible refine BlkP.Blk.otherAt ?_ (by first | omega | (simp; done) | (simp; omega))) | (with_reducible refine BlkP.Blk.newA' (by first | omega | (simp; done) | (simp; omega)) rfl) | (with_reducible refine BlkP.Blk.alloc ?_ _) | (exact rfl))), by subst hs; (repeat' (first | (with_reducible refine BlkP.Blk.drew ?_) | (with_reducible refine BlkP.Blk.drewN ?_ _) | (with_reducible refine BlkP.Blk.setAt (us := ?_) (by first | omega | (simp; done) | (simp; omega)) rfl ?_ ?_) | (with_reducible refine BlkP.Blk.otherAt ?_ (by first | omega | (simp; done) | (simp; omega))) | (with_reducible refine BlkP.Blk.newA' (by first | omega | (simp; done) | (simp; omega)) rfl) | (with_reducible refine BlkP.Blk.alloc ?_ _) | (exact rfl)))⟩ ?_
  rintro w1 ⟨hb, hr, hx⟩
  try rw [hs]
  have HB := Lib.hid hb
  have HR := Lib.hid hr
  have HX := Lib.hid hx
  have r0 := hr.cell (i := 0) rfl
  have r1 := hr.cell (i := 1) rfl
  have r2 := hr.cell (i := 2) rfl
  have f0 := hr.frozen 0
  have f1 := hr.frozen 1
  have f2 := hr.frozen 2
  have rl := hr.lt
  clear hb hr hx hs
  go_wp2_with fail
  refine bodyPost_ret (v := .agg #[.slice (some ⟨s + 2, 0, none⟩) 1 1, .int .i64 0, .int .i64 x]) (by simp [results, Tryd.results32, go_sem, rl, r0, r1, r2]) rfl ?_
  have hs := HS.out
  refine ⟨_, rfl, own_set3 (own_lit (e := encX) (l := [(0, (k, l))]) HX.out (by omega) rfl (by omega)) HR.out, ((HB.out.setCell (by simp; omega) _).setCell (by simp; omega) _).setCell (by simp; omega) _⟩
set_option maxRecDepth 100000 in
set_option maxHeartbeats 8000000 in
theorem rleft_c {w : World} {n : Nr} : Calls Tryd.prog 29 #[nv n] w (DeedQ w (over1 n)) := by
  obtain ⟨⟨k0, l0⟩, hs0⟩ : ∃ c, n.s = c := ⟨_, rfl⟩
  have HS0 := Lib.hid hs0
  obtain ⟨s, hs⟩ : ∃ s, w.heap.size = s := ⟨_, rfl⟩
  have HS := Lib.hid hs
  clear hs0
  go_enter Tryd.func29, Tryd.ntmps29
  go_wp2_with ((with_reducible refine at_slot 1 ?_); refine Classical.byContradiction (fun hG => ?_))
  refine hG ?_
  clear hG
  refine wp_boxN rfl (.tmp 0) rfl rfl ?_
  intro w1 h1 hb1 hz1
  rw [hs] at h1 hz1
  try rw [hs]
  go_wp2_with ((with_reducible refine at_slot 3 ?_); refine Classical.byContradiction (fun hG => ?_))
  refine hG ?_
  clear hG
  refine list_named (S := fun W => Below w.heap.size w W ∧ Blk W s TN (vals n) ∧ Blk W (s + 1) TD [.slice none 0 0, .int .i64 0, .int .i64 0]) ⟨by (repeat' (first | (with_reducible exact Below.refl _ _) | (with_reducible refine Below.setCell ?_ (by (first | omega | (simp; done) | (simp; omega))) _) | (with_reducible refine Below.alloc ?_ (by (first | omega | (simp; done) | (simp; omega))) _) | (with_reducible refine Below.drew ?_) | (with_reducible refine below_drewN ?_ _) | (with_reducible refine Below.trans ?_ (Below.mono hb1 (by (first | omega | (simp; done) | (simp; omega))))))), by (repeat' (first | (with_reducible exact h1) | (with_reducible refine BlkP.Blk.drew ?_) | (with_reducible refine BlkP.Blk.drewN ?_ _) | (with_reducible refine BlkP.Blk.setAt (us := ?_) (by first | omega | (simp; done) | (simp; omega)) rfl ?_ ?_) | (with_reducible refine BlkP.Blk.otherAt ?_ (by first | omega | (simp; done) | (simp; omega))) | (with_reducible refine BlkP.Blk.newA' (by first | omega | (simp; done) | (simp; omega)) rfl) | (with_reducible refine BlkP.Blk.alloc ?_ _) | (exact rfl))), by (repeat' (first | (with_reducible refine BlkP.Blk.drew ?_) | (with_reducible refine BlkP.Blk.drewN ?_ _) | (with_reducible refine BlkP.Blk.setAt (us := ?_) (by first | omega | (simp; done) | (simp; omega)) rfl ?_ ?_) | (with_reducible refine BlkP.Blk.otherAt ?_ (by first | omega | (simp; done) | (simp; omega))) | (with_reducible refine BlkP.Blk.newA' (by first | omega | (simp; done) | (simp; omega)) rfl) | (with_reducible refine BlkP.Blk.alloc ?_ _) | (exact rfl)))⟩ ?_
  clear hb1 h1 hz1
  rintro w2 ⟨hb2, h2, hr2⟩
  have HB2 := Lib.hid hb2
  have HR2 := Lib.hid hr2
  have c1 := h2.cell (i := 1) (g_lev n)
  rw [HS0.out] at c1
  simp only at c1
  have ls := h2.lt
  clear hb2 h2 hr2 hs
  by_cases h1 : l0 = 1
  · have hI : ((l0 : Int) == 1) = true := by simp; omega
    have HL := Lib.hid (show left n.s.2 = (8, 0) from by rw [HS0.out]; simp [left, h1])
    clear h1
    go_wp2_with fail
    refine (rself_c (k := 8) (l := 0) (x := 1)).mono ?_
    rintro e w3 ⟨v, rfl, ho, hb3⟩
    have HB3 := Lib.hid (below_t HB2.out hb3)
    have HO := Lib.hid (ho.mono HB2.out.size)
    have hr := HR2.out.below hb3
    have HR := Lib.hid hr
    obtain ⟨A, cc, rfl, _, _, hAA⟩ := ho.form (n := 1) rfl
    have r0 := hr.cell (i := 0) rfl
    have f0 := hr.frozen 0
    have r1 := hr.cell (i := 1) rfl
    have f1 := hr.frozen 1
    have r2 := hr.cell (i := 2) rfl
    have f2 := hr.frozen 2
    have rl := hr.lt
    clear ho hb3 hr hAA c1 ls
    go_wp2_with fail
    refine bodyPost_ret (v := .agg #[.slice A 1 cc, .int .i64 0, .int .i64 1]) (by simp [results, Tryd.results29, go_sem, rl, r0, r1, r2]) rfl ?_
    have hD : over1 n = ⟨[(0, (8, 0))], 0, 1⟩ := by
      unfold over1
      rw [HL.out]
      rfl
    rw [hD]
    exact ⟨_, rfl, (deed_end (D := ⟨[(0, (8, 0))], 0, 1⟩) HS.out HB3.out HR.out HO.out).1, (deed_end (D := ⟨[(0, (8, 0))], 0, 1⟩) HS.out HB3.out HR.out HO.out).2⟩
  · have hI : ((l0 : Int) == 1) = false := by simp; omega
    have HL := Lib.hid (show left n.s.2 = (0, 0) from by rw [HS0.out]; simp [left, h1])
    clear h1
    go_wp2_with fail
    refine (rself_c (k := 0) (l := 0) (x := 0)).mono ?_
    rintro e w3 ⟨v, rfl, ho, hb3⟩
    have HB3 := Lib.hid (below_t HB2.out hb3)
    have HO := Lib.hid (ho.mono HB2.out.size)
    have hr := HR2.out.below hb3
    have HR := Lib.hid hr
    obtain ⟨A, cc, rfl, _, _, hAA⟩ := ho.form (n := 1) rfl
    have r0 := hr.cell (i := 0) rfl
    have f0 := hr.frozen 0
    have r1 := hr.cell (i := 1) rfl
    have f1 := hr.frozen 1
    have r2 := hr.cell (i := 2) rfl
    have f2 := hr.frozen 2
    have rl := hr.lt
    clear ho hb3 hr hAA c1 ls
    go_wp2_with fail
    refine bodyPost_ret (v := .agg #[.slice A 1 cc, .int .i64 0, .int .i64 0]) (by simp [results, Tryd.results29, go_sem, rl, r0, r1, r2]) rfl ?_
    have hD : over1 n = ⟨[(0, (0, 0))], 0, 0⟩ := by
      unfold over1
      rw [HL.out]
      rfl
    rw [hD]
    exact ⟨_, rfl, (deed_end (D := ⟨[(0, (0, 0))], 0, 0⟩) HS.out HB3.out HR.out HO.out).1, (deed_end (D := ⟨[(0, (0, 0))], 0, 0⟩) HS.out HB3.out HR.out HO.out).2⟩
set_option maxRecDepth 100000 in
set_option maxHeartbeats 16000000 in
theorem rsame_c {w : World} {A1 A2 : Option Addr} {n c1 c2 : Nat} {l : List (Nat × Cl)} {ag dl : Int} (h1 : Rd encX w (.slice A1 n c1) l) (h2 : Rd encX w (.slice A2 n c2) l) (hn : l.length = n) (h4 : n ≤ 100) :
    Calls Tryd.prog 14 #[.agg #[.slice A1 n c1, .int .i64 ag, .int .i64 dl], .agg #[.slice A2 n c2, .int .i64 ag, .int .i64 dl]] w fun e w' => e = .returned (.bool true) ∧ Below w.heap.size w w' := by
  have HR1 := Lib.hid h1
  have HR2 := Lib.hid h2
  have HN := Lib.hid hn
  have H4 := Lib.hid h4
  clear h1 h2 hn h4
  go_enter Tryd.func14, Tryd.ntmps14
  go_wp2_with fail
  obtain ⟨s, hs⟩ : ∃ s, w.heap.size = s := ⟨_, rfl⟩
  refine HeldP.wp_named (S := fun W => Below w.heap.size w W ∧ Blk W s TD [.slice A1 n c1, .int .i64 ag, .int .i64 dl] ∧ Blk W (s + 1) TD [.slice A2 n c2, .int .i64 ag, .int .i64 dl]) ⟨by (repeat' (first | (with_reducible exact Below.refl _ _) | (with_reducible refine Below.setCell ?_ (by (first | omega | (simp; done) | (simp; omega))) _) | (with_reducible refine Below.alloc ?_ (by (first | omega | (simp; done) | (simp; omega))) _) | (with_reducible refine Below.drew ?_) | (with_reducible refine below_drewN ?_ _))), by subst hs; (repeat' (first | (with_reducible refine BlkP.Blk.drew ?_) | (with_reducible refine BlkP.Blk.drewN ?_ _) | (with_reducible refine BlkP.Blk.setAt (us := ?_) (by first | omega | (simp; done) | (simp; omega)) rfl ?_ ?_) | (with_reducible refine BlkP.Blk.otherAt ?_ (by first | omega | (simp; done) | (simp; omega))) | (with_reducible refine BlkP.Blk.newA' (by first | omega | (simp; done) | (simp; omega)) rfl) | (with_reducible refine BlkP.Blk.alloc ?_ _) | (exact rfl))), by subst hs; (repeat' (first | (with_reducible refine BlkP.Blk.drew ?_) | (with_reducible refine BlkP.Blk.drewN ?_ _) | (with_reducible refine BlkP.Blk.setAt (us := ?_) (by first | omega | (simp; done) | (simp; omega)) rfl ?_ ?_) | (with_reducible refine BlkP.Blk.otherAt ?_ (by first | omega | (simp; done) | (simp; omega))) | (with_reducible refine BlkP.Blk.newA' (by first | omega | (simp; done) | (simp; omega)) rfl) | (with_reducible refine BlkP.Blk.alloc ?_ _) | (exact rfl)))⟩ ?_
  rintro w1 ⟨hb1, hx1, hy1⟩
  have HB1 := Lib.hid hb1
  have HX1 := Lib.hid hx1
  have HY1 := Lib.hid hy1
  have HS := Lib.hid hs
  rw [hs]
  clear hb1 hx1 hy1 hs
  go_loopw [5] (fun v5 wr => ∃ j : Nat, v5 = .int .i64 (j : Nat) ∧ j ≤ n ∧ Below w1.heap.size w1 wr) (fun v _ => n - (intOf v).toNat)
  case atStart => exact ⟨0, rfl, by omega, Below.refl _ _⟩
  case round =>
    obtain ⟨j, rfl, hj, hbr⟩ := hrel
    have HBR := Lib.hid hbr
    have HX := Lib.hid (HX1.out.below hbr)
    have HY := Lib.hid (HY1.out.below hbr)
    have x0 := HX.out.cell (i := 0) rfl
    have y0 := HY.out.cell (i := 0) rfl
    have lx := HX.out.lt
    have ly := HY.out.lt
    by_cases hjl : j < n
    · have hjI : (j : Int) < (n : Int) := by omega
      have hj1 : (j : Int) < 100 := by have := H4.out; omega
      have hj2 : j < 100 := by have := H4.out; omega
      have HWR := Lib.hid (show wrap64 ((j : Int) + 1) = ((j + 1 : Nat) : Int) by rw [wr64 (by omega) (by have := H4.out; omega)]; omega)
      obtain ⟨⟨d, k, m⟩, hl⟩ : ∃ x, l[j]? = some x := ⟨_, List.getElem?_eq_getElem (by rw [HN.out]; exact hjl)⟩
      obtain ⟨b1, o1, hA1, hlt1, hc1⟩ := (HR1.out.below (below_t HB1.out hbr)).at hl
      obtain ⟨b2, o2, hA2, hlt2, hc2⟩ := (HR2.out.below (below_t HB1.out hbr)).at hl
      subst hA1
      subst hA2
      have p0 : wr.cell? ⟨b1, o1 + j * 3, none⟩ = some (.int .i64 (d : Int)) := hc1 0 _ rfl
      have p1 : wr.cell? ⟨b1, o1 + j * 3 + 1, none⟩ = some (.int .u8 (k : Int)) := hc1 1 _ rfl
      have p2 : wr.cell? ⟨b1, o1 + j * 3 + 2, none⟩ = some (.int .u8 (m : Int)) := hc1 2 _ rfl
      have q0 : wr.cell? ⟨b2, o2 + j * 3, none⟩ = some (.int .i64 (d : Int)) := hc2 0 _ rfl
      have q1 : wr.cell? ⟨b2, o2 + j * 3 + 1, none⟩ = some (.int .u8 (k : Int)) := hc2 1 _ rfl
      have q2 : wr.cell? ⟨b2, o2 + j * 3 + 2, none⟩ = some (.int .u8 (m : Int)) := hc2 2 _ rfl
      clear hc1 hc2 hbr hl
      go_wp2_with fail
      refine wp_region_noPanic ?_
      refine wp_region_held_drew (S := fun W => Below wr.heap.size wr W) (by kernel_rfl) ((Below.refl _ wr).drew) (fun hHeld => ?_)
      refine wpAnyH_take (i := 0) (oi := ⟨some 34, _, _, _, _, _⟩) (v := .pointer (some ⟨s, 0, none⟩)) rfl (by kernel_rfl) (by kernel_rfl) (by kernel_rfl) (fun _ _ _ h => h) (Or.inl ⟨by rfl, fun W hSW => by go_simp⟩) hHeld ?_
      simp only [Act.put, List.setIfInBounds_toArray, List.set_cons_zero, List.set_cons_succ]
      refine wpAnyH_take (i := 1) (oi := ⟨some 35, _, _, _, _, _⟩) (v := .slice (some ⟨b1, o1, none⟩) n c1) rfl (by kernel_rfl) (by kernel_rfl) (by kernel_rfl) (fun _ _ _ h => h) (Or.inl ⟨by rfl, fun W hSW => by have a0 := (hSW.cell (p := ⟨s, 0, none⟩) lx).trans x0; go_simp⟩) hHeld ?_
      simp only [Act.put, List.setIfInBounds_toArray, List.set_cons_zero, List.set_cons_succ]
      refine wpAnyH_take (i := 2) (oi := ⟨some 36, _, _, _, _, _⟩) (v := .int .i64 (j : Int)) rfl (by kernel_rfl) (by kernel_rfl) (by kernel_rfl) (fun _ _ _ h => h) (Or.inl ⟨by rfl, fun W hSW => by go_simp⟩) hHeld ?_
      simp only [Act.put, List.setIfInBounds_toArray, List.set_cons_zero, List.set_cons_succ]
      refine wpAnyH_take (i := 3) (oi := ⟨some 37, _, _, _, _, _⟩) (v := .pointer (some ⟨b1, o1 + j * 3, none⟩)) rfl (by kernel_rfl) (by kernel_rfl) (by kernel_rfl) (fun _ _ _ h => h) (Or.inl ⟨by rfl, fun W hSW => by go_simp⟩) hHeld ?_
      simp only [Act.put, List.setIfInBounds_toArray, List.set_cons_zero, List.set_cons_succ]
      refine wpAnyH_take (i := 4) (oi := ⟨some 38, _, _, _, _, _⟩) (v := .agg #[.int .i64 (d : Int), .int .u8 (k : Int), .int .u8 (m : Int)]) rfl (by kernel_rfl) (by kernel_rfl) (by kernel_rfl) (fun _ _ _ h => h) (Or.inl ⟨by rfl, fun W hSW => by have a0 := (hSW.cell (p := ⟨b1, o1 + j * 3, none⟩) hlt1).trans p0; have a1 := (hSW.cell (p := ⟨b1, o1 + j * 3 + 1, none⟩) hlt1).trans p1; have a2 := (hSW.cell (p := ⟨b1, o1 + j * 3 + 2, none⟩) hlt1).trans p2; go_simp⟩) hHeld ?_
      simp only [Act.put, List.setIfInBounds_toArray, List.set_cons_zero, List.set_cons_succ]
      refine wpAnyH_take (i := 5) (oi := ⟨some 39, _, _, _, _, _⟩) (v := .pointer (some ⟨s + 1, 0, none⟩)) rfl (by kernel_rfl) (by kernel_rfl) (by kernel_rfl) (fun _ _ _ h => h) (Or.inl ⟨by rfl, fun W hSW => by go_simp⟩) hHeld ?_
      simp only [Act.put, List.setIfInBounds_toArray, List.set_cons_zero, List.set_cons_succ]
      refine wpAnyH_take (i := 6) (oi := ⟨some 40, _, _, _, _, _⟩) (v := .slice (some ⟨b2, o2, none⟩) n c2) rfl (by kernel_rfl) (by kernel_rfl) (by kernel_rfl) (fun _ _ _ h => h) (Or.inl ⟨by rfl, fun W hSW => by have a0 := (hSW.cell (p := ⟨s + 1, 0, none⟩) ly).trans y0; go_simp⟩) hHeld ?_
      simp only [Act.put, List.setIfInBounds_toArray, List.set_cons_zero, List.set_cons_succ]
      refine wpAnyH_take (i := 7) (oi := ⟨some 41, _, _, _, _, _⟩) (v := .int .i64 (j : Int)) rfl (by kernel_rfl) (by kernel_rfl) (by kernel_rfl) (fun _ _ _ h => h) (Or.inl ⟨by rfl, fun W hSW => by go_simp⟩) hHeld ?_
      simp only [Act.put, List.setIfInBounds_toArray, List.set_cons_zero, List.set_cons_succ]
      refine wpAnyH_take (i := 8) (oi := ⟨some 42, _, _, _, _, _⟩) (v := .pointer (some ⟨b2, o2 + j * 3, none⟩)) rfl (by kernel_rfl) (by kernel_rfl) (by kernel_rfl) (fun _ _ _ h => h) (Or.inl ⟨by rfl, fun W hSW => by go_simp⟩) hHeld ?_
      simp only [Act.put, List.setIfInBounds_toArray, List.set_cons_zero, List.set_cons_succ]
      refine wpAnyH_take (i := 9) (oi := ⟨some 43, _, _, _, _, _⟩) (v := .agg #[.int .i64 (d : Int), .int .u8 (k : Int), .int .u8 (m : Int)]) rfl (by kernel_rfl) (by kernel_rfl) (by kernel_rfl) (fun _ _ _ h => h) (Or.inl ⟨by rfl, fun W hSW => by have a0 := (hSW.cell (p := ⟨b2, o2 + j * 3, none⟩) hlt2).trans q0; have a1 := (hSW.cell (p := ⟨b2, o2 + j * 3 + 1, none⟩) hlt2).trans q1; have a2 := (hSW.cell (p := ⟨b2, o2 + j * 3 + 2, none⟩) hlt2).trans q2; go_simp⟩) hHeld ?_
      simp only [Act.put, List.setIfInBounds_toArray, List.set_cons_zero, List.set_cons_succ]
      refine wpAnyH_take (i := 10) (oi := ⟨some 44, _, _, _, _, _⟩) (v := .bool false) rfl (by kernel_rfl) (by kernel_rfl) (by kernel_rfl) (fun _ _ _ h => h) (Or.inl ⟨by rfl, fun W hSW => by go_simp⟩) hHeld ?_
      simp only [Act.put, List.setIfInBounds_toArray, List.set_cons_zero, List.set_cons_succ]
      refine wpAnyH_done (by kernel_rfl) ?_ _
      refine NoPanic.normal ?_
      refine HeldP.then_named (S := fun W => Below wr.heap.size wr W) hHeld ?_
      rintro X0 hx0
      have HX0 := Lib.hid (below_t HBR.out hx0)
      clear hHeld hx0 x0 y0 lx ly p0 p1 p2 q0 q1 q2
      go_wp2_with fail
      go_roundw
      case rel => exact ⟨j + 1, by first | rfl | rw [HWR.out] | (congr 1; omega), by omega, HX0.out⟩
      case measure =>
        simp only [intOf]
        omega
    · have hjI : ¬ (j : Int) < (n : Int) := by omega
      clear hbr
      go_wp2_with fail
      go_ret
      exact ⟨rfl, below_t HB1.out HBR.out⟩
end BurnW
end Go.Proofs.YtlidcefmpoelkaaDoor
