/-
  The reference's answers as lines.
-/
import Derived.BigQuiet
import Derived.BigRegion
import Derived.Lib.Hide
import Derived.Deep.RegionHeld3
import Derived.Deep.MidRow
import Derived.Test.YtcfkdddflbdfaaaDoorLineRef
namespace Go.Proofs.YtcfkdddflbdfaaaDoor
open Go.RowKit
set_option linter.unusedVariables false
set_option linter.unusedSimpArgs false
namespace LineW
open DigP LineP BlkP RowG
open BaseP (bcell below_drewN)
set_option maxRecDepth 100000 in
set_option maxHeartbeats 8000000 in
theorem rAnswer_c {k : Int} {a : Ans} (ha : a.Ok) (w : World) :
    Calls Tryd.prog 17 #[.int .i64 k, .agg #[.int .i64 a.e, .int .i64 a.p.1, .int .i64 a.p.2.1, .int .i64 a.p.2.2, .int .u8 (a.c.1 : Int), .int .u8 (a.c.2 : Int), .int .u8 (a.l.1 : Int), .int .u8 (a.l.2 : Int), .int .i64 a.due, .int .i64 a.n, .int .i64 a.g.1, .int .i64 a.g.2.1, .int .i64 a.g.2.2.1, .int .i64 a.g.2.2.2]] w fun e w' => e = .returned (.string ⟨(ansT k a).toArray⟩) ∧ Below w.heap.size w w' := by
  have HA := Lib.hid ha
  obtain ⟨s, hs⟩ : ∃ s, w.heap.size = s := ⟨_, rfl⟩
  have HLN := Lib.hid (show ∀ n : Int, In64 n → (num n).length ≤ 20 from fun n hn => num_len hn.1 (by have := hn.2; omega))
  clear ha
  by_cases he : a.e ≠ 0
  · have hle := orL_len (txt_len a.e) (Nat.le_trans (HLN.out a.e HA.out.e) (show 20 ≤ 60 by omega))
    obtain ⟨Q1, hq1⟩ : ∃ q, ([101, 114, 114, 111, 114, 32] : List UInt8) ++ orL (txt errsL a.e) (num a.e) = q := ⟨_, rfl⟩
    have HQ1 := Lib.hid hq1
    have lQ1 : Q1.length ≤ 160 := by rw [← hq1, List.length_append]; first | omega | (simp; omega)
    have HT := Lib.hid (show ansT k a = Q1 by rw [ansT, if_pos he, ← HQ1.out]; simp [DigP.join])
    have e0 : (a.e != 0) = true := by simpa using he
    clear he hq1
    go_enter Tryd.func17, Tryd.ntmps17
    go_wp2_with fail
    refine calls_named (S := fun W => Below w.heap.size w W ∧ Blk W s 41 [.int .i64 a.e, .int .i64 a.p.1, .int .i64 a.p.2.1, .int .i64 a.p.2.2, .int .u8 (a.c.1 : Int), .int .u8 (a.c.2 : Int), .int .u8 (a.l.1 : Int), .int .u8 (a.l.2 : Int), .int .i64 a.due, .int .i64 a.n, .int .i64 a.g.1, .int .i64 a.g.2.1, .int .i64 a.g.2.2.1, .int .i64 a.g.2.2.2]) ⟨by (repeat' (first | (with_reducible exact Below.refl _ _) | (with_reducible refine Below.setCell ?_ (by (first | omega | (simp; done) | (simp; omega))) _) | (with_reducible refine Below.alloc ?_ (by (first | omega | (simp; done) | (simp; omega))) _) | (with_reducible refine Below.drew ?_) | (with_reducible refine below_drewN ?_ _))), by subst hs; (repeat' (first | (with_reducible refine BlkP.Blk.drew ?_) | (with_reducible refine BlkP.Blk.drewN ?_ _) | (with_reducible refine BlkP.Blk.setAt (us := ?_) (by first | omega | (simp; done) | (simp; omega)) rfl ?_ ?_) | (with_reducible refine BlkP.Blk.otherAt ?_ (by first | omega | (simp; done) | (simp; omega))) | (with_reducible refine BlkP.Blk.newA' (by first | omega | (simp; done) | (simp; omega)) rfl) | (with_reducible refine BlkP.Blk.alloc ?_ _) | (exact rfl)))⟩ ?_
    try rw [hs]
    rintro wn ⟨hbn, hk⟩
    try rw [← hs] at hbn
    refine (rError_c _).mono ?_
    rintro e w1 ⟨rfl, hb1⟩
    have HB1 := Lib.hid (below_t hbn hb1)
    have hk1 := hk.below hb1
    have c0 := hk1.cell (i := 0) rfl
    have ml := hk1.lt
    clear hbn hb1 hk hk1 hs
    go_wp2_with fail
    refine (rNamed_c HA.out.e.1 HA.out.e.2 _).mono ?_
    rintro e w2 ⟨rfl, hb2⟩
    have HB2 := Lib.hid (below_t HB1.out hb2)
    clear hb2 c0 ml
    go_wp2_with ((with_reducible refine at_slot 17 ?_); refine wp_cat rfl _ _ _ rfl (lx := ([101, 114, 114, 111, 114, 32] : List UInt8)) (ly := orL (txt errsL a.e) (num a.e)) (lz := Q1) rfl rfl (by simp) (by omega) HQ1.out ?_)
    go_ret
    exact ⟨by rw [HT.out]; rfl, HB2.out⟩
  · have he : a.e = 0 := Classical.not_not.1 he
    have e0 : (a.e != 0) = false := by simp [he]
    have HE0 := Lib.hid he
    clear he
    have HW1 := Lib.hid (show IntKind.i64.wrap (a.c.1 : Int) = (a.c.1 : Int) by rw [IntKind.wrap_i64]; have := HA.out.c1; omega)
    have HW2 := Lib.hid (show IntKind.i64.wrap (a.c.2 : Int) = (a.c.2 : Int) by rw [IntKind.wrap_i64]; have := HA.out.c2; omega)
    have HL1 := Lib.hid (show IntKind.i64.wrap (a.l.1 : Int) = (a.l.1 : Int) by rw [IntKind.wrap_i64]; have := HA.out.l1; omega)
    have HL2 := Lib.hid (show IntKind.i64.wrap (a.l.2 : Int) = (a.l.2 : Int) by rw [IntKind.wrap_i64]; have := HA.out.l2; omega)
    have hc1 := HA.out.c1
    have hc2 := HA.out.c2
    have ho := orL_len (Nat.le_trans (nm_len a.c.1) (show 20 ≤ 20 by omega)) (HLN.out (a.c.1 : Int) ⟨by omega, by omega⟩)
    have hd2 := HLN.out (a.c.2 : Int) ⟨by omega, by omega⟩
    obtain ⟨D, hD⟩ : ∃ d, orL (KindP.nm a.c.1) (num (a.c.1 : Int)) ++ [32] = d := ⟨_, rfl⟩
    have HD := Lib.hid hD
    have lD : D.length ≤ 30 := by rw [← hD, List.length_append]; simp; omega
    obtain ⟨C, hC⟩ : ∃ d, D ++ num (a.c.2 : Int) = d := ⟨_, rfl⟩
    have HDC := Lib.hid hC
    have lC : C.length ≤ 60 := by rw [← hC, List.length_append]; omega
    have HC := Lib.hid (show cellT a.c = C by rw [← hC, ← hD]; simp [cellT, DigP.join])
    clear hD hC
    go_enter Tryd.func17, Tryd.ntmps17
    go_wp2_with fail
    refine HeldP.wp_named (S := fun W => Below w.heap.size w W ∧ Blk W s 41 [.int .i64 a.e, .int .i64 a.p.1, .int .i64 a.p.2.1, .int .i64 a.p.2.2, .int .u8 (a.c.1 : Int), .int .u8 (a.c.2 : Int), .int .u8 (a.l.1 : Int), .int .u8 (a.l.2 : Int), .int .i64 a.due, .int .i64 a.n, .int .i64 a.g.1, .int .i64 a.g.2.1, .int .i64 a.g.2.2.1, .int .i64 a.g.2.2.2]) ⟨by (repeat' (first | (with_reducible exact Below.refl _ _) | (with_reducible refine Below.setCell ?_ (by (first | omega | (simp; done) | (simp; omega))) _) | (with_reducible refine Below.alloc ?_ (by (first | omega | (simp; done) | (simp; omega))) _) | (with_reducible refine Below.drew ?_) | (with_reducible refine below_drewN ?_ _))), by subst hs; (repeat' (first | (with_reducible refine BlkP.Blk.drew ?_) | (with_reducible refine BlkP.Blk.drewN ?_ _) | (with_reducible refine BlkP.Blk.setAt (us := ?_) (by first | omega | (simp; done) | (simp; omega)) rfl ?_ ?_) | (with_reducible refine BlkP.Blk.otherAt ?_ (by first | omega | (simp; done) | (simp; omega))) | (with_reducible refine BlkP.Blk.newA' (by first | omega | (simp; done) | (simp; omega)) rfl) | (with_reducible refine BlkP.Blk.alloc ?_ _) | (exact rfl)))⟩ ?_
    try rw [hs]
    rintro wn ⟨hbn, hk⟩
    try rw [← hs] at hbn
    have HB := Lib.hid hbn
    have c0 := hk.cell (i := 0) rfl
    have c1 := hk.cell (i := 1) rfl
    have c2 := hk.cell (i := 2) rfl
    have c3 := hk.cell (i := 3) rfl
    have c4 := hk.cell (i := 4) rfl
    have c5 := hk.cell (i := 5) rfl
    have c6 := hk.cell (i := 6) rfl
    have c7 := hk.cell (i := 7) rfl
    have c8 := hk.cell (i := 8) rfl
    have c9 := hk.cell (i := 9) rfl
    have c10 := hk.cell (i := 10) rfl
    have c11 := hk.cell (i := 11) rfl
    have c12 := hk.cell (i := 12) rfl
    have c13 := hk.cell (i := 13) rfl
    have ml := hk.lt
    have hk0 := hk
    clear hk
    have HK := Lib.hid (show Blk wn s 41 [.int .i64 a.e, .int .i64 a.p.1, .int .i64 a.p.2.1, .int .i64 a.p.2.2, .int .u8 (a.c.1 : Int), .int .u8 (a.c.2 : Int), .int .u8 (a.l.1 : Int), .int .u8 (a.l.2 : Int), .int .i64 a.due, .int .i64 a.n, .int .i64 a.g.1, .int .i64 a.g.2.1, .int .i64 a.g.2.2.1, .int .i64 a.g.2.2.2] from hk0)
    refine wp_region_noPanic ?_
    refine wp_region_held_drew (S := fun W => Below wn.heap.size wn W) (by kernel_rfl) ((Below.refl _ wn).drew) (fun hHeld => ?_)
    refine wpAnyH_take (i := 0) (oi := ⟨some 18, _, _, _, _, _⟩) (v := .pointer (some ⟨s, 4, none⟩)) rfl (by kernel_rfl) (by kernel_rfl) (by kernel_rfl) (fun _ _ _ h => h) (Or.inl ⟨by rfl, fun W hSW => by go_simp⟩) hHeld ?_
    simp only [Act.put, List.setIfInBounds_toArray, List.set_cons_zero, List.set_cons_succ]
    refine wpAnyH_take (i := 1) (oi := ⟨some 19, _, _, _, _, _⟩) (v := .pointer (some ⟨s, 4, none⟩)) rfl (by kernel_rfl) (by kernel_rfl) (by kernel_rfl) (fun _ _ _ h => h) (Or.inl ⟨by rfl, fun W hSW => by go_simp⟩) hHeld ?_
    simp only [Act.put, List.setIfInBounds_toArray, List.set_cons_zero, List.set_cons_succ]
    refine wpAnyH_take (i := 2) (oi := ⟨some 20, _, _, _, _, _⟩) (v := .int .u8 (a.c.1 : Int)) rfl (by kernel_rfl) (by kernel_rfl) (by kernel_rfl) (fun _ _ _ h => h) (Or.inl ⟨by rfl, fun W hSW => by have a0 := (hSW.cell (p := ⟨s, 4, none⟩) ml).trans c4; go_simp⟩) hHeld ?_
    simp only [Act.put, List.setIfInBounds_toArray, List.set_cons_zero, List.set_cons_succ]
    refine wpAnyH_take (i := 4) (oi := ⟨some 22, _, _, _, _, _⟩) (v := .pointer (some ⟨s, 4, none⟩)) rfl (by kernel_rfl) (by kernel_rfl) (by kernel_rfl) (fun _ _ _ h => h) (Or.inl ⟨by rfl, fun W hSW => by go_simp⟩) hHeld ?_
    simp only [Act.put, List.setIfInBounds_toArray, List.set_cons_zero, List.set_cons_succ]
    refine wpAnyH_take (i := 5) (oi := ⟨some 23, _, _, _, _, _⟩) (v := .pointer (some ⟨s, 4, none⟩)) rfl (by kernel_rfl) (by kernel_rfl) (by kernel_rfl) (fun _ _ _ h => h) (Or.inl ⟨by rfl, fun W hSW => by go_simp⟩) hHeld ?_
    simp only [Act.put, List.setIfInBounds_toArray, List.set_cons_zero, List.set_cons_succ]
    refine wpAnyH_take (i := 6) (oi := ⟨some 24, _, _, _, _, _⟩) (v := .int .u8 (a.c.1 : Int)) rfl (by kernel_rfl) (by kernel_rfl) (by kernel_rfl) (fun _ _ _ h => h) (Or.inl ⟨by rfl, fun W hSW => by have a0 := (hSW.cell (p := ⟨s, 4, none⟩) ml).trans c4; go_simp⟩) hHeld ?_
    simp only [Act.put, List.setIfInBounds_toArray, List.set_cons_zero, List.set_cons_succ]
    refine wpAnyH_take (i := 7) (oi := ⟨some 25, _, _, _, _, _⟩) (v := .int .i64 (a.c.1 : Int)) rfl (by kernel_rfl) (by kernel_rfl) (by kernel_rfl) (fun _ _ _ h => h) (Or.inl ⟨by rfl, fun W hSW => by go_simp; exact HW1.out⟩) hHeld ?_
    simp only [Act.put, List.setIfInBounds_toArray, List.set_cons_zero, List.set_cons_succ]
    refine wpAnyH_take (i := 10) (oi := ⟨some 28, _, _, _, _, _⟩) (v := .pointer (some ⟨s, 4, none⟩)) rfl (by kernel_rfl) (by kernel_rfl) (by kernel_rfl) (fun _ _ _ h => h) (Or.inl ⟨by rfl, fun W hSW => by go_simp⟩) hHeld ?_
    simp only [Act.put, List.setIfInBounds_toArray, List.set_cons_zero, List.set_cons_succ]
    refine wpAnyH_take (i := 11) (oi := ⟨some 29, _, _, _, _, _⟩) (v := .pointer (some ⟨s, 5, none⟩)) rfl (by kernel_rfl) (by kernel_rfl) (by kernel_rfl) (fun _ _ _ h => h) (Or.inl ⟨by rfl, fun W hSW => by go_simp⟩) hHeld ?_
    simp only [Act.put, List.setIfInBounds_toArray, List.set_cons_zero, List.set_cons_succ]
    refine wpAnyH_take (i := 12) (oi := ⟨some 30, _, _, _, _, _⟩) (v := .int .u8 (a.c.2 : Int)) rfl (by kernel_rfl) (by kernel_rfl) (by kernel_rfl) (fun _ _ _ h => h) (Or.inl ⟨by rfl, fun W hSW => by have a0 := (hSW.cell (p := ⟨s, 5, none⟩) ml).trans c5; go_simp⟩) hHeld ?_
    simp only [Act.put, List.setIfInBounds_toArray, List.set_cons_zero, List.set_cons_succ]
    refine wpAnyH_take (i := 13) (oi := ⟨some 31, _, _, _, _, _⟩) (v := .int .i64 (a.c.2 : Int)) rfl (by kernel_rfl) (by kernel_rfl) (by kernel_rfl) (fun _ _ _ h => h) (Or.inl ⟨by rfl, fun W hSW => by go_simp; exact HW2.out⟩) hHeld ?_
    simp only [Act.put, List.setIfInBounds_toArray, List.set_cons_zero, List.set_cons_succ]
    refine wpAnyH_ready (rs := [3]) (by kernel_rfl) (by simp) ?_
    refine AllReadyH.cons (o := ⟨some 21, _, _, _, _, _⟩) rfl (fun K hK => ?_) AllReadyH.nil
    go_simp
    refine (KindW.r_name a.c.1 _).mono ?_
    rintro e w3 ⟨rfl, hb3⟩
    refine hK.out _ _ (below_t hHeld hb3) (fun hHeld => ?_)
    clear hK K hb3
    refine wpAnyH_ready (rs := [8]) (by kernel_rfl) (by simp) ?_
    refine AllReadyH.cons (o := ⟨some 26, _, _, _, _, _⟩) rfl (fun K hK => ?_) AllReadyH.nil
    go_simp
    refine (rNamed_c (by omega) (by omega) _).mono ?_
    rintro e w8 ⟨rfl, hb8⟩
    refine hK.out _ _ (below_t hHeld hb8) (fun hHeld => ?_)
    clear hK K hb8
    refine wpAnyH_take (i := 9) (oi := ⟨some 27, _, _, _, _, _⟩) (v := .string ⟨(D).toArray⟩) rfl (by kernel_rfl) (by kernel_rfl) (by kernel_rfl) (fun _ _ _ h => h) (Or.inl ⟨by rfl, fun W hSW => by exact exec_cat _ _ _ rfl (lx := orL (KindP.nm a.c.1) (num (a.c.1 : Int))) (ly := [32]) (lz := D) rfl rfl (by first | (simp; done) | (simp; omega) | omega) (by first | (simp; done) | (simp; omega) | omega) HD.out⟩) hHeld ?_
    simp only [Act.put, List.setIfInBounds_toArray, List.set_cons_zero, List.set_cons_succ]
    refine wpAnyH_ready (rs := [14]) (by kernel_rfl) (by simp) ?_
    refine AllReadyH.cons (o := ⟨some 32, _, _, _, _, _⟩) rfl (fun K hK => ?_) AllReadyH.nil
    go_simp
    refine (rDigits_c (by omega) (by omega) _).mono ?_
    rintro e w14 ⟨rfl, hb14⟩
    refine hK.out _ _ (below_t hHeld hb14) (fun hHeld => ?_)
    clear hK K hb14
    refine wpAnyH_take (i := 15) (oi := ⟨some 33, _, _, _, _, _⟩) (v := .string ⟨(C).toArray⟩) rfl (by kernel_rfl) (by kernel_rfl) (by kernel_rfl) (fun _ _ _ h => h) (Or.inl ⟨by rfl, fun W hSW => by exact exec_cat _ _ _ rfl (lx := D) (ly := num (a.c.2 : Int)) (lz := C) rfl rfl (by first | (simp; done) | (simp; omega) | omega) (by first | (simp; done) | (simp; omega) | omega) HDC.out⟩) hHeld ?_
    simp only [Act.put, List.setIfInBounds_toArray, List.set_cons_zero, List.set_cons_succ]
    refine wpAnyH_take (i := 16) (oi := ⟨some 6, _, _, _, _, _⟩) (v := .string ⟨(C).toArray⟩) rfl (by kernel_rfl) (by kernel_rfl) (by kernel_rfl) (fun _ _ _ h => h) (Or.inl ⟨by rfl, fun W hSW => by go_simp⟩) hHeld ?_
    simp only [Act.put, List.setIfInBounds_toArray, List.set_cons_zero, List.set_cons_succ]
    refine wpAnyH_done (by kernel_rfl) ?_ _
    refine NoPanic.normal ?_
    have BN := Lib.hid (below_t HB.out hHeld)
    have KN := Lib.hid (HK.out.below hHeld)
    clear hHeld hbn hs hk0 ml c0 c1 c2 c3 c4 c5 c6 c7 c8 c9 c10 c11 c12 c13
    by_cases h7 : k = 7
    · have HTK := Lib.hid (show DigP.join [cellT a.c, [115, 107, 121], num (a.l.1 : Int), [108, 97, 109, 112], num (a.l.2 : Int), [100, 117, 101], num a.due] = ansT 7 a by simp [ansT, HE0.out])
      subst h7
      have m0 := HLN.out a.due HA.out.due
      have m1 := HLN.out (a.l.1 : Int) ⟨by omega, by have := HA.out.l1; omega⟩
      have m2 := HLN.out (a.l.2 : Int) ⟨by omega, by have := HA.out.l2; omega⟩
      obtain ⟨Q1, hq1⟩ : ∃ q, C ++ [32, 115, 107, 121, 32] = q := ⟨_, rfl⟩
      have HQ1 := Lib.hid hq1
      have lQ1 : Q1.length ≤ 160 := by rw [← hq1, List.length_append]; first | omega | (simp; omega)
      obtain ⟨Q2, hq2⟩ : ∃ q, Q1 ++ num (a.l.1 : Int) = q := ⟨_, rfl⟩
      have HQ2 := Lib.hid hq2
      have lQ2 : Q2.length ≤ 220 := by rw [← hq2, List.length_append]; first | omega | (simp; omega)
      obtain ⟨Q3, hq3⟩ : ∃ q, Q2 ++ [32, 108, 97, 109, 112, 32] = q := ⟨_, rfl⟩
      have HQ3 := Lib.hid hq3
      have lQ3 : Q3.length ≤ 280 := by rw [← hq3, List.length_append]; first | omega | (simp; omega)
      obtain ⟨Q4, hq4⟩ : ∃ q, Q3 ++ num (a.l.2 : Int) = q := ⟨_, rfl⟩
      have HQ4 := Lib.hid hq4
      have lQ4 : Q4.length ≤ 340 := by rw [← hq4, List.length_append]; first | omega | (simp; omega)
      obtain ⟨Q5, hq5⟩ : ∃ q, Q4 ++ [32, 100, 117, 101, 32] = q := ⟨_, rfl⟩
      have HQ5 := Lib.hid hq5
      have lQ5 : Q5.length ≤ 400 := by rw [← hq5, List.length_append]; first | omega | (simp; omega)
      obtain ⟨Q6, hq6⟩ : ∃ q, Q5 ++ num a.due = q := ⟨_, rfl⟩
      have HQ6 := Lib.hid hq6
      have lQ6 : Q6.length ≤ 460 := by rw [← hq6, List.length_append]; first | omega | (simp; omega)
      have HT := Lib.hid (show ansT 7 a = Q6 by rw [← HTK.out, ← HQ6.out, ← HQ5.out, ← HQ4.out, ← HQ3.out, ← HQ2.out, ← HQ1.out, ← HC.out]; simp [DigP.join, cellT])
      clear hq1 hq2 hq3 hq4 hq5 hq6
      go_wp2_with fail
      refine HeldP.wp_named (S := fun W => Below w.heap.size w W ∧ Blk W s 41 [.int .i64 a.e, .int .i64 a.p.1, .int .i64 a.p.2.1, .int .i64 a.p.2.2, .int .u8 (a.c.1 : Int), .int .u8 (a.c.2 : Int), .int .u8 (a.l.1 : Int), .int .u8 (a.l.2 : Int), .int .i64 a.due, .int .i64 a.n, .int .i64 a.g.1, .int .i64 a.g.2.1, .int .i64 a.g.2.2.1, .int .i64 a.g.2.2.2]) ⟨by (repeat' (first | (with_reducible exact Below.refl _ _) | (with_reducible refine Below.setCell ?_ (by (first | omega | (simp; done) | (simp; omega))) _) | (with_reducible refine Below.alloc ?_ (by (first | omega | (simp; done) | (simp; omega))) _) | (with_reducible refine Below.drew ?_) | (with_reducible refine below_drewN ?_ _) | (with_reducible refine Below.trans ?_ (Below.mono BN.out (by (first | omega | (simp; done) | (simp; omega))))))), by (repeat' (first | (with_reducible exact KN.out) | (with_reducible refine BlkP.Blk.drew ?_) | (with_reducible refine BlkP.Blk.drewN ?_ _) | (with_reducible refine BlkP.Blk.setAt (us := ?_) (by first | omega | (simp; done) | (simp; omega)) rfl ?_ ?_) | (with_reducible refine BlkP.Blk.otherAt ?_ (by first | omega | (simp; done) | (simp; omega))) | (with_reducible refine BlkP.Blk.newA' (by first | omega | (simp; done) | (simp; omega)) rfl) | (with_reducible refine BlkP.Blk.alloc ?_ _) | (exact rfl)))⟩ ?_
      rintro wm ⟨hbm, hkm⟩
      have HBM := Lib.hid hbm
      have g0 := hkm.cell (i := 0) rfl
      have g1 := hkm.cell (i := 1) rfl
      have g2 := hkm.cell (i := 2) rfl
      have g3 := hkm.cell (i := 3) rfl
      have g4 := hkm.cell (i := 4) rfl
      have g5 := hkm.cell (i := 5) rfl
      have g6 := hkm.cell (i := 6) rfl
      have g7 := hkm.cell (i := 7) rfl
      have g8 := hkm.cell (i := 8) rfl
      have g9 := hkm.cell (i := 9) rfl
      have g10 := hkm.cell (i := 10) rfl
      have g11 := hkm.cell (i := 11) rfl
      have g12 := hkm.cell (i := 12) rfl
      have g13 := hkm.cell (i := 13) rfl
      have gl := hkm.lt
      clear hbm hkm
      refine wp_region_noPanic ?_
      refine wp_region_held_drew (S := fun W => Below wm.heap.size wm W) (by kernel_rfl) ((Below.refl _ wm).drew) (fun hHeld => ?_)
      refine wpAnyH_take (i := 0) (oi := ⟨some 37, _, _, _, _, _⟩) (v := .string ⟨(C).toArray⟩) rfl (by kernel_rfl) (by kernel_rfl) (by kernel_rfl) (fun _ _ _ h => h) (Or.inl ⟨by rfl, fun W hSW => by go_simp⟩) hHeld ?_
      simp only [Act.put, List.setIfInBounds_toArray, List.set_cons_zero, List.set_cons_succ]
      refine wpAnyH_take (i := 2) (oi := ⟨some 39, _, _, _, _, _⟩) (v := .pointer (some ⟨s, 6, none⟩)) rfl (by kernel_rfl) (by kernel_rfl) (by kernel_rfl) (fun _ _ _ h => h) (Or.inl ⟨by rfl, fun W hSW => by go_simp⟩) hHeld ?_
      simp only [Act.put, List.setIfInBounds_toArray, List.set_cons_zero, List.set_cons_succ]
      refine wpAnyH_take (i := 3) (oi := ⟨some 40, _, _, _, _, _⟩) (v := .pointer (some ⟨s, 6, none⟩)) rfl (by kernel_rfl) (by kernel_rfl) (by kernel_rfl) (fun _ _ _ h => h) (Or.inl ⟨by rfl, fun W hSW => by go_simp⟩) hHeld ?_
      simp only [Act.put, List.setIfInBounds_toArray, List.set_cons_zero, List.set_cons_succ]
      refine wpAnyH_take (i := 4) (oi := ⟨some 41, _, _, _, _, _⟩) (v := .int .u8 (a.l.1 : Int)) rfl (by kernel_rfl) (by kernel_rfl) (by kernel_rfl) (fun _ _ _ h => h) (Or.inl ⟨by rfl, fun W hSW => by have a0 := (hSW.cell (p := ⟨s, 6, none⟩) gl).trans g6; go_simp⟩) hHeld ?_
      simp only [Act.put, List.setIfInBounds_toArray, List.set_cons_zero, List.set_cons_succ]
      refine wpAnyH_take (i := 5) (oi := ⟨some 42, _, _, _, _, _⟩) (v := .int .i64 (a.l.1 : Int)) rfl (by kernel_rfl) (by kernel_rfl) (by kernel_rfl) (fun _ _ _ h => h) (Or.inl ⟨by rfl, fun W hSW => by go_simp; exact HL1.out⟩) hHeld ?_
      simp only [Act.put, List.setIfInBounds_toArray, List.set_cons_zero, List.set_cons_succ]
      refine wpAnyH_take (i := 9) (oi := ⟨some 46, _, _, _, _, _⟩) (v := .pointer (some ⟨s, 6, none⟩)) rfl (by kernel_rfl) (by kernel_rfl) (by kernel_rfl) (fun _ _ _ h => h) (Or.inl ⟨by rfl, fun W hSW => by go_simp⟩) hHeld ?_
      simp only [Act.put, List.setIfInBounds_toArray, List.set_cons_zero, List.set_cons_succ]
      refine wpAnyH_take (i := 10) (oi := ⟨some 47, _, _, _, _, _⟩) (v := .pointer (some ⟨s, 7, none⟩)) rfl (by kernel_rfl) (by kernel_rfl) (by kernel_rfl) (fun _ _ _ h => h) (Or.inl ⟨by rfl, fun W hSW => by go_simp⟩) hHeld ?_
      simp only [Act.put, List.setIfInBounds_toArray, List.set_cons_zero, List.set_cons_succ]
      refine wpAnyH_take (i := 11) (oi := ⟨some 48, _, _, _, _, _⟩) (v := .int .u8 (a.l.2 : Int)) rfl (by kernel_rfl) (by kernel_rfl) (by kernel_rfl) (fun _ _ _ h => h) (Or.inl ⟨by rfl, fun W hSW => by have a0 := (hSW.cell (p := ⟨s, 7, none⟩) gl).trans g7; go_simp⟩) hHeld ?_
      simp only [Act.put, List.setIfInBounds_toArray, List.set_cons_zero, List.set_cons_succ]
      refine wpAnyH_take (i := 12) (oi := ⟨some 49, _, _, _, _, _⟩) (v := .int .i64 (a.l.2 : Int)) rfl (by kernel_rfl) (by kernel_rfl) (by kernel_rfl) (fun _ _ _ h => h) (Or.inl ⟨by rfl, fun W hSW => by go_simp; exact HL2.out⟩) hHeld ?_
      simp only [Act.put, List.setIfInBounds_toArray, List.set_cons_zero, List.set_cons_succ]
      refine wpAnyH_take (i := 16) (oi := ⟨some 53, _, _, _, _, _⟩) (v := .pointer (some ⟨s, 8, none⟩)) rfl (by kernel_rfl) (by kernel_rfl) (by kernel_rfl) (fun _ _ _ h => h) (Or.inl ⟨by rfl, fun W hSW => by go_simp⟩) hHeld ?_
      simp only [Act.put, List.setIfInBounds_toArray, List.set_cons_zero, List.set_cons_succ]
      refine wpAnyH_take (i := 17) (oi := ⟨some 54, _, _, _, _, _⟩) (v := .int .i64 a.due) rfl (by kernel_rfl) (by kernel_rfl) (by kernel_rfl) (fun _ _ _ h => h) (Or.inl ⟨by rfl, fun W hSW => by have a0 := (hSW.cell (p := ⟨s, 8, none⟩) gl).trans g8; go_simp⟩) hHeld ?_
      simp only [Act.put, List.setIfInBounds_toArray, List.set_cons_zero, List.set_cons_succ]
      refine wpAnyH_take (i := 1) (oi := ⟨some 38, _, _, _, _, _⟩) (v := .string ⟨(Q1).toArray⟩) rfl (by kernel_rfl) (by kernel_rfl) (by kernel_rfl) (fun _ _ _ h => h) (Or.inl ⟨by rfl, fun W hSW => by exact exec_cat _ _ _ rfl (lx := C) (ly := [32, 115, 107, 121, 32]) (lz := Q1) rfl rfl (by first | (simp; done) | (simp; omega) | omega) (by first | (simp; done) | (simp; omega) | omega) HQ1.out⟩) hHeld ?_
      simp only [Act.put, List.setIfInBounds_toArray, List.set_cons_zero, List.set_cons_succ]
      refine wpAnyH_ready (rs := [6]) (by kernel_rfl) (by simp) ?_
      refine AllReadyH.cons (o := ⟨some 43, _, _, _, _, _⟩) rfl (fun K hK => ?_) AllReadyH.nil
      go_simp
      refine (rDigits_c (by have := HA.out.l1; omega) (by have := HA.out.l1; omega) _).mono ?_
      rintro e w6 ⟨rfl, hb6⟩
      refine hK.out _ _ (below_t hHeld hb6) (fun hHeld => ?_)
      clear hK K hb6
      refine wpAnyH_take (i := 7) (oi := ⟨some 44, _, _, _, _, _⟩) (v := .string ⟨(Q2).toArray⟩) rfl (by kernel_rfl) (by kernel_rfl) (by kernel_rfl) (fun _ _ _ h => h) (Or.inl ⟨by rfl, fun W hSW => by exact exec_cat _ _ _ rfl (lx := Q1) (ly := num (a.l.1 : Int)) (lz := Q2) rfl rfl (by first | (simp; done) | (simp; omega) | omega) (by first | (simp; done) | (simp; omega) | omega) HQ2.out⟩) hHeld ?_
      simp only [Act.put, List.setIfInBounds_toArray, List.set_cons_zero, List.set_cons_succ]
      refine wpAnyH_take (i := 8) (oi := ⟨some 45, _, _, _, _, _⟩) (v := .string ⟨(Q3).toArray⟩) rfl (by kernel_rfl) (by kernel_rfl) (by kernel_rfl) (fun _ _ _ h => h) (Or.inl ⟨by rfl, fun W hSW => by exact exec_cat _ _ _ rfl (lx := Q2) (ly := [32, 108, 97, 109, 112, 32]) (lz := Q3) rfl rfl (by first | (simp; done) | (simp; omega) | omega) (by first | (simp; done) | (simp; omega) | omega) HQ3.out⟩) hHeld ?_
      simp only [Act.put, List.setIfInBounds_toArray, List.set_cons_zero, List.set_cons_succ]
      refine wpAnyH_ready (rs := [13]) (by kernel_rfl) (by simp) ?_
      refine AllReadyH.cons (o := ⟨some 50, _, _, _, _, _⟩) rfl (fun K hK => ?_) AllReadyH.nil
      go_simp
      refine (rDigits_c (by have := HA.out.l2; omega) (by have := HA.out.l2; omega) _).mono ?_
      rintro e w13 ⟨rfl, hb13⟩
      refine hK.out _ _ (below_t hHeld hb13) (fun hHeld => ?_)
      clear hK K hb13
      refine wpAnyH_take (i := 14) (oi := ⟨some 51, _, _, _, _, _⟩) (v := .string ⟨(Q4).toArray⟩) rfl (by kernel_rfl) (by kernel_rfl) (by kernel_rfl) (fun _ _ _ h => h) (Or.inl ⟨by rfl, fun W hSW => by exact exec_cat _ _ _ rfl (lx := Q3) (ly := num (a.l.2 : Int)) (lz := Q4) rfl rfl (by first | (simp; done) | (simp; omega) | omega) (by first | (simp; done) | (simp; omega) | omega) HQ4.out⟩) hHeld ?_
      simp only [Act.put, List.setIfInBounds_toArray, List.set_cons_zero, List.set_cons_succ]
      refine wpAnyH_take (i := 15) (oi := ⟨some 52, _, _, _, _, _⟩) (v := .string ⟨(Q5).toArray⟩) rfl (by kernel_rfl) (by kernel_rfl) (by kernel_rfl) (fun _ _ _ h => h) (Or.inl ⟨by rfl, fun W hSW => by exact exec_cat _ _ _ rfl (lx := Q4) (ly := [32, 100, 117, 101, 32]) (lz := Q5) rfl rfl (by first | (simp; done) | (simp; omega) | omega) (by first | (simp; done) | (simp; omega) | omega) HQ5.out⟩) hHeld ?_
      simp only [Act.put, List.setIfInBounds_toArray, List.set_cons_zero, List.set_cons_succ]
      refine wpAnyH_ready (rs := [18]) (by kernel_rfl) (by simp) ?_
      refine AllReadyH.cons (o := ⟨some 55, _, _, _, _, _⟩) rfl (fun K hK => ?_) AllReadyH.nil
      go_simp
      refine (rDigits_c HA.out.due.1 HA.out.due.2 _).mono ?_
      rintro e w18 ⟨rfl, hb18⟩
      refine hK.out _ _ (below_t hHeld hb18) (fun hHeld => ?_)
      clear hK K hb18
      refine wpAnyH_take (i := 19) (oi := ⟨some 56, _, _, _, _, _⟩) (v := .string ⟨(Q6).toArray⟩) rfl (by kernel_rfl) (by kernel_rfl) (by kernel_rfl) (fun _ _ _ h => h) (Or.inl ⟨by rfl, fun W hSW => by exact exec_cat _ _ _ rfl (lx := Q5) (ly := num a.due) (lz := Q6) rfl rfl (by first | (simp; done) | (simp; omega) | omega) (by first | (simp; done) | (simp; omega) | omega) HQ6.out⟩) hHeld ?_
      simp only [Act.put, List.setIfInBounds_toArray, List.set_cons_zero, List.set_cons_succ]
      refine wpAnyH_take (i := 20) (oi := ⟨some 4, _, _, _, _, _⟩) (v := .string ⟨(Q6).toArray⟩) rfl (by kernel_rfl) (by kernel_rfl) (by kernel_rfl) (fun _ _ _ h => h) (Or.inl ⟨by rfl, fun W hSW => by go_simp⟩) hHeld ?_
      simp only [Act.put, List.setIfInBounds_toArray, List.set_cons_zero, List.set_cons_succ]
      refine wpAnyH_done (by kernel_rfl) ?_ _
      refine NoPanic.normal ?_
      have HF := Lib.hid (below_t HBM.out hHeld)
      clear hHeld gl g0 g1 g2 g3 g4 g5 g6 g7 g8 g9 g10 g11 g12 g13
      go_wp2_with fail
      go_ret
      exact ⟨by rw [HT.out]; rfl, HF.out⟩
    have e7 : (k == 7) = false := by simpa using h7
    by_cases h8 : k = 8
    · have HTK := Lib.hid (show DigP.join [num a.p.1, num a.p.2.1, num a.p.2.2, cellT a.c, [115, 116, 101, 112, 115], num a.n] = ansT 8 a by simp [ansT, HE0.out])
      subst h8
      have m0 := HLN.out a.p.1 HA.out.p0
      have m1 := HLN.out a.p.2.1 HA.out.p1
      have m2 := HLN.out a.p.2.2 HA.out.p2
      have m3 := HLN.out a.n HA.out.n
      obtain ⟨Q1, hq1⟩ : ∃ q, num a.p.1 ++ [32] = q := ⟨_, rfl⟩
      have HQ1 := Lib.hid hq1
      have lQ1 : Q1.length ≤ 160 := by rw [← hq1, List.length_append]; first | omega | (simp; omega)
      obtain ⟨Q2, hq2⟩ : ∃ q, Q1 ++ num a.p.2.1 = q := ⟨_, rfl⟩
      have HQ2 := Lib.hid hq2
      have lQ2 : Q2.length ≤ 220 := by rw [← hq2, List.length_append]; first | omega | (simp; omega)
      obtain ⟨Q3, hq3⟩ : ∃ q, Q2 ++ [32] = q := ⟨_, rfl⟩
      have HQ3 := Lib.hid hq3
      have lQ3 : Q3.length ≤ 280 := by rw [← hq3, List.length_append]; first | omega | (simp; omega)
      obtain ⟨Q4, hq4⟩ : ∃ q, Q3 ++ num a.p.2.2 = q := ⟨_, rfl⟩
      have HQ4 := Lib.hid hq4
      have lQ4 : Q4.length ≤ 340 := by rw [← hq4, List.length_append]; first | omega | (simp; omega)
      obtain ⟨Q5, hq5⟩ : ∃ q, Q4 ++ [32] = q := ⟨_, rfl⟩
      have HQ5 := Lib.hid hq5
      have lQ5 : Q5.length ≤ 400 := by rw [← hq5, List.length_append]; first | omega | (simp; omega)
      obtain ⟨Q6, hq6⟩ : ∃ q, Q5 ++ C = q := ⟨_, rfl⟩
      have HQ6 := Lib.hid hq6
      have lQ6 : Q6.length ≤ 460 := by rw [← hq6, List.length_append]; first | omega | (simp; omega)
      obtain ⟨Q7, hq7⟩ : ∃ q, Q6 ++ [32, 115, 116, 101, 112, 115, 32] = q := ⟨_, rfl⟩
      have HQ7 := Lib.hid hq7
      have lQ7 : Q7.length ≤ 520 := by rw [← hq7, List.length_append]; first | omega | (simp; omega)
      obtain ⟨Q8, hq8⟩ : ∃ q, Q7 ++ num a.n = q := ⟨_, rfl⟩
      have HQ8 := Lib.hid hq8
      have lQ8 : Q8.length ≤ 580 := by rw [← hq8, List.length_append]; first | omega | (simp; omega)
      have HT := Lib.hid (show ansT 8 a = Q8 by rw [← HTK.out, ← HQ8.out, ← HQ7.out, ← HQ6.out, ← HQ5.out, ← HQ4.out, ← HQ3.out, ← HQ2.out, ← HQ1.out, ← HC.out]; simp [DigP.join, cellT])
      clear hq1 hq2 hq3 hq4 hq5 hq6 hq7 hq8
      go_wp2_with fail
      refine HeldP.wp_named (S := fun W => Below w.heap.size w W ∧ Blk W s 41 [.int .i64 a.e, .int .i64 a.p.1, .int .i64 a.p.2.1, .int .i64 a.p.2.2, .int .u8 (a.c.1 : Int), .int .u8 (a.c.2 : Int), .int .u8 (a.l.1 : Int), .int .u8 (a.l.2 : Int), .int .i64 a.due, .int .i64 a.n, .int .i64 a.g.1, .int .i64 a.g.2.1, .int .i64 a.g.2.2.1, .int .i64 a.g.2.2.2]) ⟨by (repeat' (first | (with_reducible exact Below.refl _ _) | (with_reducible refine Below.setCell ?_ (by (first | omega | (simp; done) | (simp; omega))) _) | (with_reducible refine Below.alloc ?_ (by (first | omega | (simp; done) | (simp; omega))) _) | (with_reducible refine Below.drew ?_) | (with_reducible refine below_drewN ?_ _) | (with_reducible refine Below.trans ?_ (Below.mono BN.out (by (first | omega | (simp; done) | (simp; omega))))))), by (repeat' (first | (with_reducible exact KN.out) | (with_reducible refine BlkP.Blk.drew ?_) | (with_reducible refine BlkP.Blk.drewN ?_ _) | (with_reducible refine BlkP.Blk.setAt (us := ?_) (by first | omega | (simp; done) | (simp; omega)) rfl ?_ ?_) | (with_reducible refine BlkP.Blk.otherAt ?_ (by first | omega | (simp; done) | (simp; omega))) | (with_reducible refine BlkP.Blk.newA' (by first | omega | (simp; done) | (simp; omega)) rfl) | (with_reducible refine BlkP.Blk.alloc ?_ _) | (exact rfl)))⟩ ?_
      rintro wm ⟨hbm, hkm⟩
      have HBM := Lib.hid hbm
      have g0 := hkm.cell (i := 0) rfl
      have g1 := hkm.cell (i := 1) rfl
      have g2 := hkm.cell (i := 2) rfl
      have g3 := hkm.cell (i := 3) rfl
      have g4 := hkm.cell (i := 4) rfl
      have g5 := hkm.cell (i := 5) rfl
      have g6 := hkm.cell (i := 6) rfl
      have g7 := hkm.cell (i := 7) rfl
      have g8 := hkm.cell (i := 8) rfl
      have g9 := hkm.cell (i := 9) rfl
      have g10 := hkm.cell (i := 10) rfl
      have g11 := hkm.cell (i := 11) rfl
      have g12 := hkm.cell (i := 12) rfl
      have g13 := hkm.cell (i := 13) rfl
      have gl := hkm.lt
      clear hbm hkm
      refine wp_region_noPanic ?_
      refine wp_region_held_drew (S := fun W => Below wm.heap.size wm W) (by kernel_rfl) ((Below.refl _ wm).drew) (fun hHeld => ?_)
      refine wpAnyH_take (i := 0) (oi := ⟨some 59, _, _, _, _, _⟩) (v := .pointer (some ⟨s, 1, none⟩)) rfl (by kernel_rfl) (by kernel_rfl) (by kernel_rfl) (fun _ _ _ h => h) (Or.inl ⟨by rfl, fun W hSW => by go_simp⟩) hHeld ?_
      simp only [Act.put, List.setIfInBounds_toArray, List.set_cons_zero, List.set_cons_succ]
      refine wpAnyH_take (i := 1) (oi := ⟨some 60, _, _, _, _, _⟩) (v := .pointer (some ⟨s, 1, none⟩)) rfl (by kernel_rfl) (by kernel_rfl) (by kernel_rfl) (fun _ _ _ h => h) (Or.inl ⟨by rfl, fun W hSW => by go_simp⟩) hHeld ?_
      simp only [Act.put, List.setIfInBounds_toArray, List.set_cons_zero, List.set_cons_succ]
      refine wpAnyH_take (i := 2) (oi := ⟨some 61, _, _, _, _, _⟩) (v := .int .i64 a.p.1) rfl (by kernel_rfl) (by kernel_rfl) (by kernel_rfl) (fun _ _ _ h => h) (Or.inl ⟨by rfl, fun W hSW => by have a0 := (hSW.cell (p := ⟨s, 1, none⟩) gl).trans g1; go_simp⟩) hHeld ?_
      simp only [Act.put, List.setIfInBounds_toArray, List.set_cons_zero, List.set_cons_succ]
      refine wpAnyH_take (i := 5) (oi := ⟨some 64, _, _, _, _, _⟩) (v := .pointer (some ⟨s, 1, none⟩)) rfl (by kernel_rfl) (by kernel_rfl) (by kernel_rfl) (fun _ _ _ h => h) (Or.inl ⟨by rfl, fun W hSW => by go_simp⟩) hHeld ?_
      simp only [Act.put, List.setIfInBounds_toArray, List.set_cons_zero, List.set_cons_succ]
      refine wpAnyH_take (i := 6) (oi := ⟨some 65, _, _, _, _, _⟩) (v := .pointer (some ⟨s, 2, none⟩)) rfl (by kernel_rfl) (by kernel_rfl) (by kernel_rfl) (fun _ _ _ h => h) (Or.inl ⟨by rfl, fun W hSW => by go_simp⟩) hHeld ?_
      simp only [Act.put, List.setIfInBounds_toArray, List.set_cons_zero, List.set_cons_succ]
      refine wpAnyH_take (i := 7) (oi := ⟨some 66, _, _, _, _, _⟩) (v := .int .i64 a.p.2.1) rfl (by kernel_rfl) (by kernel_rfl) (by kernel_rfl) (fun _ _ _ h => h) (Or.inl ⟨by rfl, fun W hSW => by have a0 := (hSW.cell (p := ⟨s, 2, none⟩) gl).trans g2; go_simp⟩) hHeld ?_
      simp only [Act.put, List.setIfInBounds_toArray, List.set_cons_zero, List.set_cons_succ]
      refine wpAnyH_take (i := 11) (oi := ⟨some 70, _, _, _, _, _⟩) (v := .pointer (some ⟨s, 1, none⟩)) rfl (by kernel_rfl) (by kernel_rfl) (by kernel_rfl) (fun _ _ _ h => h) (Or.inl ⟨by rfl, fun W hSW => by go_simp⟩) hHeld ?_
      simp only [Act.put, List.setIfInBounds_toArray, List.set_cons_zero, List.set_cons_succ]
      refine wpAnyH_take (i := 12) (oi := ⟨some 71, _, _, _, _, _⟩) (v := .pointer (some ⟨s, 3, none⟩)) rfl (by kernel_rfl) (by kernel_rfl) (by kernel_rfl) (fun _ _ _ h => h) (Or.inl ⟨by rfl, fun W hSW => by go_simp⟩) hHeld ?_
      simp only [Act.put, List.setIfInBounds_toArray, List.set_cons_zero, List.set_cons_succ]
      refine wpAnyH_take (i := 13) (oi := ⟨some 72, _, _, _, _, _⟩) (v := .int .i64 a.p.2.2) rfl (by kernel_rfl) (by kernel_rfl) (by kernel_rfl) (fun _ _ _ h => h) (Or.inl ⟨by rfl, fun W hSW => by have a0 := (hSW.cell (p := ⟨s, 3, none⟩) gl).trans g3; go_simp⟩) hHeld ?_
      simp only [Act.put, List.setIfInBounds_toArray, List.set_cons_zero, List.set_cons_succ]
      refine wpAnyH_take (i := 17) (oi := ⟨some 76, _, _, _, _, _⟩) (v := .string ⟨(C).toArray⟩) rfl (by kernel_rfl) (by kernel_rfl) (by kernel_rfl) (fun _ _ _ h => h) (Or.inl ⟨by rfl, fun W hSW => by go_simp⟩) hHeld ?_
      simp only [Act.put, List.setIfInBounds_toArray, List.set_cons_zero, List.set_cons_succ]
      refine wpAnyH_take (i := 20) (oi := ⟨some 79, _, _, _, _, _⟩) (v := .pointer (some ⟨s, 9, none⟩)) rfl (by kernel_rfl) (by kernel_rfl) (by kernel_rfl) (fun _ _ _ h => h) (Or.inl ⟨by rfl, fun W hSW => by go_simp⟩) hHeld ?_
      simp only [Act.put, List.setIfInBounds_toArray, List.set_cons_zero, List.set_cons_succ]
      refine wpAnyH_take (i := 21) (oi := ⟨some 80, _, _, _, _, _⟩) (v := .int .i64 a.n) rfl (by kernel_rfl) (by kernel_rfl) (by kernel_rfl) (fun _ _ _ h => h) (Or.inl ⟨by rfl, fun W hSW => by have a0 := (hSW.cell (p := ⟨s, 9, none⟩) gl).trans g9; go_simp⟩) hHeld ?_
      simp only [Act.put, List.setIfInBounds_toArray, List.set_cons_zero, List.set_cons_succ]
      refine wpAnyH_ready (rs := [3]) (by kernel_rfl) (by simp) ?_
      refine AllReadyH.cons (o := ⟨some 62, _, _, _, _, _⟩) rfl (fun K hK => ?_) AllReadyH.nil
      go_simp
      refine (rDigits_c HA.out.p0.1 HA.out.p0.2 _).mono ?_
      rintro e w3 ⟨rfl, hb3⟩
      refine hK.out _ _ (below_t hHeld hb3) (fun hHeld => ?_)
      clear hK K hb3
      refine wpAnyH_take (i := 4) (oi := ⟨some 63, _, _, _, _, _⟩) (v := .string ⟨(Q1).toArray⟩) rfl (by kernel_rfl) (by kernel_rfl) (by kernel_rfl) (fun _ _ _ h => h) (Or.inl ⟨by rfl, fun W hSW => by exact exec_cat _ _ _ rfl (lx := num a.p.1) (ly := [32]) (lz := Q1) rfl rfl (by first | (simp; done) | (simp; omega) | omega) (by first | (simp; done) | (simp; omega) | omega) HQ1.out⟩) hHeld ?_
      simp only [Act.put, List.setIfInBounds_toArray, List.set_cons_zero, List.set_cons_succ]
      refine wpAnyH_ready (rs := [8]) (by kernel_rfl) (by simp) ?_
      refine AllReadyH.cons (o := ⟨some 67, _, _, _, _, _⟩) rfl (fun K hK => ?_) AllReadyH.nil
      go_simp
      refine (rDigits_c HA.out.p1.1 HA.out.p1.2 _).mono ?_
      rintro e w8 ⟨rfl, hb8⟩
      refine hK.out _ _ (below_t hHeld hb8) (fun hHeld => ?_)
      clear hK K hb8
      refine wpAnyH_take (i := 9) (oi := ⟨some 68, _, _, _, _, _⟩) (v := .string ⟨(Q2).toArray⟩) rfl (by kernel_rfl) (by kernel_rfl) (by kernel_rfl) (fun _ _ _ h => h) (Or.inl ⟨by rfl, fun W hSW => by exact exec_cat _ _ _ rfl (lx := Q1) (ly := num a.p.2.1) (lz := Q2) rfl rfl (by first | (simp; done) | (simp; omega) | omega) (by first | (simp; done) | (simp; omega) | omega) HQ2.out⟩) hHeld ?_
      simp only [Act.put, List.setIfInBounds_toArray, List.set_cons_zero, List.set_cons_succ]
      refine wpAnyH_take (i := 10) (oi := ⟨some 69, _, _, _, _, _⟩) (v := .string ⟨(Q3).toArray⟩) rfl (by kernel_rfl) (by kernel_rfl) (by kernel_rfl) (fun _ _ _ h => h) (Or.inl ⟨by rfl, fun W hSW => by exact exec_cat _ _ _ rfl (lx := Q2) (ly := [32]) (lz := Q3) rfl rfl (by first | (simp; done) | (simp; omega) | omega) (by first | (simp; done) | (simp; omega) | omega) HQ3.out⟩) hHeld ?_
      simp only [Act.put, List.setIfInBounds_toArray, List.set_cons_zero, List.set_cons_succ]
      refine wpAnyH_ready (rs := [14]) (by kernel_rfl) (by simp) ?_
      refine AllReadyH.cons (o := ⟨some 73, _, _, _, _, _⟩) rfl (fun K hK => ?_) AllReadyH.nil
      go_simp
      refine (rDigits_c HA.out.p2.1 HA.out.p2.2 _).mono ?_
      rintro e w14 ⟨rfl, hb14⟩
      refine hK.out _ _ (below_t hHeld hb14) (fun hHeld => ?_)
      clear hK K hb14
      refine wpAnyH_take (i := 15) (oi := ⟨some 74, _, _, _, _, _⟩) (v := .string ⟨(Q4).toArray⟩) rfl (by kernel_rfl) (by kernel_rfl) (by kernel_rfl) (fun _ _ _ h => h) (Or.inl ⟨by rfl, fun W hSW => by exact exec_cat _ _ _ rfl (lx := Q3) (ly := num a.p.2.2) (lz := Q4) rfl rfl (by first | (simp; done) | (simp; omega) | omega) (by first | (simp; done) | (simp; omega) | omega) HQ4.out⟩) hHeld ?_
      simp only [Act.put, List.setIfInBounds_toArray, List.set_cons_zero, List.set_cons_succ]
      refine wpAnyH_take (i := 16) (oi := ⟨some 75, _, _, _, _, _⟩) (v := .string ⟨(Q5).toArray⟩) rfl (by kernel_rfl) (by kernel_rfl) (by kernel_rfl) (fun _ _ _ h => h) (Or.inl ⟨by rfl, fun W hSW => by exact exec_cat _ _ _ rfl (lx := Q4) (ly := [32]) (lz := Q5) rfl rfl (by first | (simp; done) | (simp; omega) | omega) (by first | (simp; done) | (simp; omega) | omega) HQ5.out⟩) hHeld ?_
      simp only [Act.put, List.setIfInBounds_toArray, List.set_cons_zero, List.set_cons_succ]
      refine wpAnyH_take (i := 18) (oi := ⟨some 77, _, _, _, _, _⟩) (v := .string ⟨(Q6).toArray⟩) rfl (by kernel_rfl) (by kernel_rfl) (by kernel_rfl) (fun _ _ _ h => h) (Or.inl ⟨by rfl, fun W hSW => by exact exec_cat _ _ _ rfl (lx := Q5) (ly := C) (lz := Q6) rfl rfl (by first | (simp; done) | (simp; omega) | omega) (by first | (simp; done) | (simp; omega) | omega) HQ6.out⟩) hHeld ?_
      simp only [Act.put, List.setIfInBounds_toArray, List.set_cons_zero, List.set_cons_succ]
      refine wpAnyH_take (i := 19) (oi := ⟨some 78, _, _, _, _, _⟩) (v := .string ⟨(Q7).toArray⟩) rfl (by kernel_rfl) (by kernel_rfl) (by kernel_rfl) (fun _ _ _ h => h) (Or.inl ⟨by rfl, fun W hSW => by exact exec_cat _ _ _ rfl (lx := Q6) (ly := [32, 115, 116, 101, 112, 115, 32]) (lz := Q7) rfl rfl (by first | (simp; done) | (simp; omega) | omega) (by first | (simp; done) | (simp; omega) | omega) HQ7.out⟩) hHeld ?_
      simp only [Act.put, List.setIfInBounds_toArray, List.set_cons_zero, List.set_cons_succ]
      refine wpAnyH_ready (rs := [22]) (by kernel_rfl) (by simp) ?_
      refine AllReadyH.cons (o := ⟨some 81, _, _, _, _, _⟩) rfl (fun K hK => ?_) AllReadyH.nil
      go_simp
      refine (rDigits_c HA.out.n.1 HA.out.n.2 _).mono ?_
      rintro e w22 ⟨rfl, hb22⟩
      refine hK.out _ _ (below_t hHeld hb22) (fun hHeld => ?_)
      clear hK K hb22
      refine wpAnyH_take (i := 23) (oi := ⟨some 82, _, _, _, _, _⟩) (v := .string ⟨(Q8).toArray⟩) rfl (by kernel_rfl) (by kernel_rfl) (by kernel_rfl) (fun _ _ _ h => h) (Or.inl ⟨by rfl, fun W hSW => by exact exec_cat _ _ _ rfl (lx := Q7) (ly := num a.n) (lz := Q8) rfl rfl (by first | (simp; done) | (simp; omega) | omega) (by first | (simp; done) | (simp; omega) | omega) HQ8.out⟩) hHeld ?_
      simp only [Act.put, List.setIfInBounds_toArray, List.set_cons_zero, List.set_cons_succ]
      refine wpAnyH_take (i := 24) (oi := ⟨some 4, _, _, _, _, _⟩) (v := .string ⟨(Q8).toArray⟩) rfl (by kernel_rfl) (by kernel_rfl) (by kernel_rfl) (fun _ _ _ h => h) (Or.inl ⟨by rfl, fun W hSW => by go_simp⟩) hHeld ?_
      simp only [Act.put, List.setIfInBounds_toArray, List.set_cons_zero, List.set_cons_succ]
      refine wpAnyH_done (by kernel_rfl) ?_ _
      refine NoPanic.normal ?_
      have HF := Lib.hid (below_t HBM.out hHeld)
      clear hHeld gl g0 g1 g2 g3 g4 g5 g6 g7 g8 g9 g10 g11 g12 g13
      go_wp2_with fail
      go_ret
      exact ⟨by rw [HT.out]; rfl, HF.out⟩
    have e8 : (k == 8) = false := by simpa using h8
    by_cases h10 : k = 10
    · have HTK := Lib.hid (show DigP.join [[110, 111, 119], num a.n, [112, 108, 97, 99, 101, 100], num a.g.1, [98, 114, 111, 107, 101, 110], num a.g.2.1, [103, 114, 111, 119, 110], num a.g.2.2.1, [98, 117, 114, 110, 116], num a.g.2.2.2] = ansT 10 a by simp [ansT, HE0.out])
      subst h10
      have m0 := HLN.out a.n HA.out.n
      have m1 := HLN.out a.g.1 HA.out.g0
      have m2 := HLN.out a.g.2.1 HA.out.g1
      have m3 := HLN.out a.g.2.2.1 HA.out.g2
      have m4 := HLN.out a.g.2.2.2 HA.out.g3
      obtain ⟨Q1, hq1⟩ : ∃ q, ([110, 111, 119, 32] : List UInt8) ++ num a.n = q := ⟨_, rfl⟩
      have HQ1 := Lib.hid hq1
      have lQ1 : Q1.length ≤ 160 := by rw [← hq1, List.length_append]; first | omega | (simp; omega)
      obtain ⟨Q2, hq2⟩ : ∃ q, Q1 ++ [32, 112, 108, 97, 99, 101, 100, 32] = q := ⟨_, rfl⟩
      have HQ2 := Lib.hid hq2
      have lQ2 : Q2.length ≤ 220 := by rw [← hq2, List.length_append]; first | omega | (simp; omega)
      obtain ⟨Q3, hq3⟩ : ∃ q, Q2 ++ num a.g.1 = q := ⟨_, rfl⟩
      have HQ3 := Lib.hid hq3
      have lQ3 : Q3.length ≤ 280 := by rw [← hq3, List.length_append]; first | omega | (simp; omega)
      obtain ⟨Q4, hq4⟩ : ∃ q, Q3 ++ [32, 98, 114, 111, 107, 101, 110, 32] = q := ⟨_, rfl⟩
      have HQ4 := Lib.hid hq4
      have lQ4 : Q4.length ≤ 340 := by rw [← hq4, List.length_append]; first | omega | (simp; omega)
      obtain ⟨Q5, hq5⟩ : ∃ q, Q4 ++ num a.g.2.1 = q := ⟨_, rfl⟩
      have HQ5 := Lib.hid hq5
      have lQ5 : Q5.length ≤ 400 := by rw [← hq5, List.length_append]; first | omega | (simp; omega)
      obtain ⟨Q6, hq6⟩ : ∃ q, Q5 ++ [32, 103, 114, 111, 119, 110, 32] = q := ⟨_, rfl⟩
      have HQ6 := Lib.hid hq6
      have lQ6 : Q6.length ≤ 460 := by rw [← hq6, List.length_append]; first | omega | (simp; omega)
      obtain ⟨Q7, hq7⟩ : ∃ q, Q6 ++ num a.g.2.2.1 = q := ⟨_, rfl⟩
      have HQ7 := Lib.hid hq7
      have lQ7 : Q7.length ≤ 520 := by rw [← hq7, List.length_append]; first | omega | (simp; omega)
      obtain ⟨Q8, hq8⟩ : ∃ q, Q7 ++ [32, 98, 117, 114, 110, 116, 32] = q := ⟨_, rfl⟩
      have HQ8 := Lib.hid hq8
      have lQ8 : Q8.length ≤ 580 := by rw [← hq8, List.length_append]; first | omega | (simp; omega)
      obtain ⟨Q9, hq9⟩ : ∃ q, Q8 ++ num a.g.2.2.2 = q := ⟨_, rfl⟩
      have HQ9 := Lib.hid hq9
      have lQ9 : Q9.length ≤ 640 := by rw [← hq9, List.length_append]; first | omega | (simp; omega)
      have HT := Lib.hid (show ansT 10 a = Q9 by rw [← HTK.out, ← HQ9.out, ← HQ8.out, ← HQ7.out, ← HQ6.out, ← HQ5.out, ← HQ4.out, ← HQ3.out, ← HQ2.out, ← HQ1.out]; simp [DigP.join, cellT])
      clear hq1 hq2 hq3 hq4 hq5 hq6 hq7 hq8 hq9
      go_wp2_with fail
      refine HeldP.wp_named (S := fun W => Below w.heap.size w W ∧ Blk W s 41 [.int .i64 a.e, .int .i64 a.p.1, .int .i64 a.p.2.1, .int .i64 a.p.2.2, .int .u8 (a.c.1 : Int), .int .u8 (a.c.2 : Int), .int .u8 (a.l.1 : Int), .int .u8 (a.l.2 : Int), .int .i64 a.due, .int .i64 a.n, .int .i64 a.g.1, .int .i64 a.g.2.1, .int .i64 a.g.2.2.1, .int .i64 a.g.2.2.2]) ⟨by (repeat' (first | (with_reducible exact Below.refl _ _) | (with_reducible refine Below.setCell ?_ (by (first | omega | (simp; done) | (simp; omega))) _) | (with_reducible refine Below.alloc ?_ (by (first | omega | (simp; done) | (simp; omega))) _) | (with_reducible refine Below.drew ?_) | (with_reducible refine below_drewN ?_ _) | (with_reducible refine Below.trans ?_ (Below.mono BN.out (by (first | omega | (simp; done) | (simp; omega))))))), by (repeat' (first | (with_reducible exact KN.out) | (with_reducible refine BlkP.Blk.drew ?_) | (with_reducible refine BlkP.Blk.drewN ?_ _) | (with_reducible refine BlkP.Blk.setAt (us := ?_) (by first | omega | (simp; done) | (simp; omega)) rfl ?_ ?_) | (with_reducible refine BlkP.Blk.otherAt ?_ (by first | omega | (simp; done) | (simp; omega))) | (with_reducible refine BlkP.Blk.newA' (by first | omega | (simp; done) | (simp; omega)) rfl) | (with_reducible refine BlkP.Blk.alloc ?_ _) | (exact rfl)))⟩ ?_
      rintro wm ⟨hbm, hkm⟩
      have HBM := Lib.hid hbm
      have g0 := hkm.cell (i := 0) rfl
      have g1 := hkm.cell (i := 1) rfl
      have g2 := hkm.cell (i := 2) rfl
      have g3 := hkm.cell (i := 3) rfl
      have g4 := hkm.cell (i := 4) rfl
      have g5 := hkm.cell (i := 5) rfl
      have g6 := hkm.cell (i := 6) rfl
      have g7 := hkm.cell (i := 7) rfl
      have g8 := hkm.cell (i := 8) rfl
      have g9 := hkm.cell (i := 9) rfl
      have g10 := hkm.cell (i := 10) rfl
      have g11 := hkm.cell (i := 11) rfl
      have g12 := hkm.cell (i := 12) rfl
      have g13 := hkm.cell (i := 13) rfl
      have gl := hkm.lt
      clear hbm hkm
      refine wp_region_noPanic ?_
      refine wp_region_held_drew (S := fun W => Below wm.heap.size wm W) (by kernel_rfl) ((Below.refl _ wm).drew) (fun hHeld => ?_)
      refine wpAnyH_take (i := 0) (oi := ⟨some 85, _, _, _, _, _⟩) (v := .pointer (some ⟨s, 9, none⟩)) rfl (by kernel_rfl) (by kernel_rfl) (by kernel_rfl) (fun _ _ _ h => h) (Or.inl ⟨by rfl, fun W hSW => by go_simp⟩) hHeld ?_
      simp only [Act.put, List.setIfInBounds_toArray, List.set_cons_zero, List.set_cons_succ]
      refine wpAnyH_take (i := 1) (oi := ⟨some 86, _, _, _, _, _⟩) (v := .int .i64 a.n) rfl (by kernel_rfl) (by kernel_rfl) (by kernel_rfl) (fun _ _ _ h => h) (Or.inl ⟨by rfl, fun W hSW => by have a0 := (hSW.cell (p := ⟨s, 9, none⟩) gl).trans g9; go_simp⟩) hHeld ?_
      simp only [Act.put, List.setIfInBounds_toArray, List.set_cons_zero, List.set_cons_succ]
      refine wpAnyH_take (i := 5) (oi := ⟨some 90, _, _, _, _, _⟩) (v := .pointer (some ⟨s, 10, none⟩)) rfl (by kernel_rfl) (by kernel_rfl) (by kernel_rfl) (fun _ _ _ h => h) (Or.inl ⟨by rfl, fun W hSW => by go_simp⟩) hHeld ?_
      simp only [Act.put, List.setIfInBounds_toArray, List.set_cons_zero, List.set_cons_succ]
      refine wpAnyH_take (i := 6) (oi := ⟨some 91, _, _, _, _, _⟩) (v := .pointer (some ⟨s, 10, none⟩)) rfl (by kernel_rfl) (by kernel_rfl) (by kernel_rfl) (fun _ _ _ h => h) (Or.inl ⟨by rfl, fun W hSW => by go_simp⟩) hHeld ?_
      simp only [Act.put, List.setIfInBounds_toArray, List.set_cons_zero, List.set_cons_succ]
      refine wpAnyH_take (i := 7) (oi := ⟨some 92, _, _, _, _, _⟩) (v := .int .i64 a.g.1) rfl (by kernel_rfl) (by kernel_rfl) (by kernel_rfl) (fun _ _ _ h => h) (Or.inl ⟨by rfl, fun W hSW => by have a0 := (hSW.cell (p := ⟨s, 10, none⟩) gl).trans g10; go_simp⟩) hHeld ?_
      simp only [Act.put, List.setIfInBounds_toArray, List.set_cons_zero, List.set_cons_succ]
      refine wpAnyH_take (i := 11) (oi := ⟨some 96, _, _, _, _, _⟩) (v := .pointer (some ⟨s, 10, none⟩)) rfl (by kernel_rfl) (by kernel_rfl) (by kernel_rfl) (fun _ _ _ h => h) (Or.inl ⟨by rfl, fun W hSW => by go_simp⟩) hHeld ?_
      simp only [Act.put, List.setIfInBounds_toArray, List.set_cons_zero, List.set_cons_succ]
      refine wpAnyH_take (i := 12) (oi := ⟨some 97, _, _, _, _, _⟩) (v := .pointer (some ⟨s, 11, none⟩)) rfl (by kernel_rfl) (by kernel_rfl) (by kernel_rfl) (fun _ _ _ h => h) (Or.inl ⟨by rfl, fun W hSW => by go_simp⟩) hHeld ?_
      simp only [Act.put, List.setIfInBounds_toArray, List.set_cons_zero, List.set_cons_succ]
      refine wpAnyH_take (i := 13) (oi := ⟨some 98, _, _, _, _, _⟩) (v := .int .i64 a.g.2.1) rfl (by kernel_rfl) (by kernel_rfl) (by kernel_rfl) (fun _ _ _ h => h) (Or.inl ⟨by rfl, fun W hSW => by have a0 := (hSW.cell (p := ⟨s, 11, none⟩) gl).trans g11; go_simp⟩) hHeld ?_
      simp only [Act.put, List.setIfInBounds_toArray, List.set_cons_zero, List.set_cons_succ]
      refine wpAnyH_take (i := 17) (oi := ⟨some 102, _, _, _, _, _⟩) (v := .pointer (some ⟨s, 10, none⟩)) rfl (by kernel_rfl) (by kernel_rfl) (by kernel_rfl) (fun _ _ _ h => h) (Or.inl ⟨by rfl, fun W hSW => by go_simp⟩) hHeld ?_
      simp only [Act.put, List.setIfInBounds_toArray, List.set_cons_zero, List.set_cons_succ]
      refine wpAnyH_take (i := 18) (oi := ⟨some 103, _, _, _, _, _⟩) (v := .pointer (some ⟨s, 12, none⟩)) rfl (by kernel_rfl) (by kernel_rfl) (by kernel_rfl) (fun _ _ _ h => h) (Or.inl ⟨by rfl, fun W hSW => by go_simp⟩) hHeld ?_
      simp only [Act.put, List.setIfInBounds_toArray, List.set_cons_zero, List.set_cons_succ]
      refine wpAnyH_take (i := 19) (oi := ⟨some 104, _, _, _, _, _⟩) (v := .int .i64 a.g.2.2.1) rfl (by kernel_rfl) (by kernel_rfl) (by kernel_rfl) (fun _ _ _ h => h) (Or.inl ⟨by rfl, fun W hSW => by have a0 := (hSW.cell (p := ⟨s, 12, none⟩) gl).trans g12; go_simp⟩) hHeld ?_
      simp only [Act.put, List.setIfInBounds_toArray, List.set_cons_zero, List.set_cons_succ]
      refine wpAnyH_take (i := 23) (oi := ⟨some 108, _, _, _, _, _⟩) (v := .pointer (some ⟨s, 10, none⟩)) rfl (by kernel_rfl) (by kernel_rfl) (by kernel_rfl) (fun _ _ _ h => h) (Or.inl ⟨by rfl, fun W hSW => by go_simp⟩) hHeld ?_
      simp only [Act.put, List.setIfInBounds_toArray, List.set_cons_zero, List.set_cons_succ]
      refine wpAnyH_take (i := 24) (oi := ⟨some 109, _, _, _, _, _⟩) (v := .pointer (some ⟨s, 13, none⟩)) rfl (by kernel_rfl) (by kernel_rfl) (by kernel_rfl) (fun _ _ _ h => h) (Or.inl ⟨by rfl, fun W hSW => by go_simp⟩) hHeld ?_
      simp only [Act.put, List.setIfInBounds_toArray, List.set_cons_zero, List.set_cons_succ]
      refine wpAnyH_take (i := 25) (oi := ⟨some 110, _, _, _, _, _⟩) (v := .int .i64 a.g.2.2.2) rfl (by kernel_rfl) (by kernel_rfl) (by kernel_rfl) (fun _ _ _ h => h) (Or.inl ⟨by rfl, fun W hSW => by have a0 := (hSW.cell (p := ⟨s, 13, none⟩) gl).trans g13; go_simp⟩) hHeld ?_
      simp only [Act.put, List.setIfInBounds_toArray, List.set_cons_zero, List.set_cons_succ]
      refine wpAnyH_ready (rs := [2]) (by kernel_rfl) (by simp) ?_
      refine AllReadyH.cons (o := ⟨some 87, _, _, _, _, _⟩) rfl (fun K hK => ?_) AllReadyH.nil
      go_simp
      refine (rDigits_c HA.out.n.1 HA.out.n.2 _).mono ?_
      rintro e w2 ⟨rfl, hb2⟩
      refine hK.out _ _ (below_t hHeld hb2) (fun hHeld => ?_)
      clear hK K hb2
      refine wpAnyH_take (i := 3) (oi := ⟨some 88, _, _, _, _, _⟩) (v := .string ⟨(Q1).toArray⟩) rfl (by kernel_rfl) (by kernel_rfl) (by kernel_rfl) (fun _ _ _ h => h) (Or.inl ⟨by rfl, fun W hSW => by exact exec_cat _ _ _ rfl (lx := ([110, 111, 119, 32] : List UInt8)) (ly := num a.n) (lz := Q1) rfl rfl (by first | (simp; done) | (simp; omega) | omega) (by first | (simp; done) | (simp; omega) | omega) HQ1.out⟩) hHeld ?_
      simp only [Act.put, List.setIfInBounds_toArray, List.set_cons_zero, List.set_cons_succ]
      refine wpAnyH_take (i := 4) (oi := ⟨some 89, _, _, _, _, _⟩) (v := .string ⟨(Q2).toArray⟩) rfl (by kernel_rfl) (by kernel_rfl) (by kernel_rfl) (fun _ _ _ h => h) (Or.inl ⟨by rfl, fun W hSW => by exact exec_cat _ _ _ rfl (lx := Q1) (ly := [32, 112, 108, 97, 99, 101, 100, 32]) (lz := Q2) rfl rfl (by first | (simp; done) | (simp; omega) | omega) (by first | (simp; done) | (simp; omega) | omega) HQ2.out⟩) hHeld ?_
      simp only [Act.put, List.setIfInBounds_toArray, List.set_cons_zero, List.set_cons_succ]
      refine wpAnyH_ready (rs := [8]) (by kernel_rfl) (by simp) ?_
      refine AllReadyH.cons (o := ⟨some 93, _, _, _, _, _⟩) rfl (fun K hK => ?_) AllReadyH.nil
      go_simp
      refine (rDigits_c HA.out.g0.1 HA.out.g0.2 _).mono ?_
      rintro e w8 ⟨rfl, hb8⟩
      refine hK.out _ _ (below_t hHeld hb8) (fun hHeld => ?_)
      clear hK K hb8
      refine wpAnyH_take (i := 9) (oi := ⟨some 94, _, _, _, _, _⟩) (v := .string ⟨(Q3).toArray⟩) rfl (by kernel_rfl) (by kernel_rfl) (by kernel_rfl) (fun _ _ _ h => h) (Or.inl ⟨by rfl, fun W hSW => by exact exec_cat _ _ _ rfl (lx := Q2) (ly := num a.g.1) (lz := Q3) rfl rfl (by first | (simp; done) | (simp; omega) | omega) (by first | (simp; done) | (simp; omega) | omega) HQ3.out⟩) hHeld ?_
      simp only [Act.put, List.setIfInBounds_toArray, List.set_cons_zero, List.set_cons_succ]
      refine wpAnyH_take (i := 10) (oi := ⟨some 95, _, _, _, _, _⟩) (v := .string ⟨(Q4).toArray⟩) rfl (by kernel_rfl) (by kernel_rfl) (by kernel_rfl) (fun _ _ _ h => h) (Or.inl ⟨by rfl, fun W hSW => by exact exec_cat _ _ _ rfl (lx := Q3) (ly := [32, 98, 114, 111, 107, 101, 110, 32]) (lz := Q4) rfl rfl (by first | (simp; done) | (simp; omega) | omega) (by first | (simp; done) | (simp; omega) | omega) HQ4.out⟩) hHeld ?_
      simp only [Act.put, List.setIfInBounds_toArray, List.set_cons_zero, List.set_cons_succ]
      refine wpAnyH_ready (rs := [14]) (by kernel_rfl) (by simp) ?_
      refine AllReadyH.cons (o := ⟨some 99, _, _, _, _, _⟩) rfl (fun K hK => ?_) AllReadyH.nil
      go_simp
      refine (rDigits_c HA.out.g1.1 HA.out.g1.2 _).mono ?_
      rintro e w14 ⟨rfl, hb14⟩
      refine hK.out _ _ (below_t hHeld hb14) (fun hHeld => ?_)
      clear hK K hb14
      refine wpAnyH_take (i := 15) (oi := ⟨some 100, _, _, _, _, _⟩) (v := .string ⟨(Q5).toArray⟩) rfl (by kernel_rfl) (by kernel_rfl) (by kernel_rfl) (fun _ _ _ h => h) (Or.inl ⟨by rfl, fun W hSW => by exact exec_cat _ _ _ rfl (lx := Q4) (ly := num a.g.2.1) (lz := Q5) rfl rfl (by first | (simp; done) | (simp; omega) | omega) (by first | (simp; done) | (simp; omega) | omega) HQ5.out⟩) hHeld ?_
      simp only [Act.put, List.setIfInBounds_toArray, List.set_cons_zero, List.set_cons_succ]
      refine wpAnyH_take (i := 16) (oi := ⟨some 101, _, _, _, _, _⟩) (v := .string ⟨(Q6).toArray⟩) rfl (by kernel_rfl) (by kernel_rfl) (by kernel_rfl) (fun _ _ _ h => h) (Or.inl ⟨by rfl, fun W hSW => by exact exec_cat _ _ _ rfl (lx := Q5) (ly := [32, 103, 114, 111, 119, 110, 32]) (lz := Q6) rfl rfl (by first | (simp; done) | (simp; omega) | omega) (by first | (simp; done) | (simp; omega) | omega) HQ6.out⟩) hHeld ?_
      simp only [Act.put, List.setIfInBounds_toArray, List.set_cons_zero, List.set_cons_succ]
      refine wpAnyH_ready (rs := [20]) (by kernel_rfl) (by simp) ?_
      refine AllReadyH.cons (o := ⟨some 105, _, _, _, _, _⟩) rfl (fun K hK => ?_) AllReadyH.nil
      go_simp
      refine (rDigits_c HA.out.g2.1 HA.out.g2.2 _).mono ?_
      rintro e w20 ⟨rfl, hb20⟩
      refine hK.out _ _ (below_t hHeld hb20) (fun hHeld => ?_)
      clear hK K hb20
      refine wpAnyH_take (i := 21) (oi := ⟨some 106, _, _, _, _, _⟩) (v := .string ⟨(Q7).toArray⟩) rfl (by kernel_rfl) (by kernel_rfl) (by kernel_rfl) (fun _ _ _ h => h) (Or.inl ⟨by rfl, fun W hSW => by exact exec_cat _ _ _ rfl (lx := Q6) (ly := num a.g.2.2.1) (lz := Q7) rfl rfl (by first | (simp; done) | (simp; omega) | omega) (by first | (simp; done) | (simp; omega) | omega) HQ7.out⟩) hHeld ?_
      simp only [Act.put, List.setIfInBounds_toArray, List.set_cons_zero, List.set_cons_succ]
      refine wpAnyH_take (i := 22) (oi := ⟨some 107, _, _, _, _, _⟩) (v := .string ⟨(Q8).toArray⟩) rfl (by kernel_rfl) (by kernel_rfl) (by kernel_rfl) (fun _ _ _ h => h) (Or.inl ⟨by rfl, fun W hSW => by exact exec_cat _ _ _ rfl (lx := Q7) (ly := [32, 98, 117, 114, 110, 116, 32]) (lz := Q8) rfl rfl (by first | (simp; done) | (simp; omega) | omega) (by first | (simp; done) | (simp; omega) | omega) HQ8.out⟩) hHeld ?_
      simp only [Act.put, List.setIfInBounds_toArray, List.set_cons_zero, List.set_cons_succ]
      refine wpAnyH_ready (rs := [26]) (by kernel_rfl) (by simp) ?_
      refine AllReadyH.cons (o := ⟨some 111, _, _, _, _, _⟩) rfl (fun K hK => ?_) AllReadyH.nil
      go_simp
      refine (rDigits_c HA.out.g3.1 HA.out.g3.2 _).mono ?_
      rintro e w26 ⟨rfl, hb26⟩
      refine hK.out _ _ (below_t hHeld hb26) (fun hHeld => ?_)
      clear hK K hb26
      refine wpAnyH_take (i := 27) (oi := ⟨some 112, _, _, _, _, _⟩) (v := .string ⟨(Q9).toArray⟩) rfl (by kernel_rfl) (by kernel_rfl) (by kernel_rfl) (fun _ _ _ h => h) (Or.inl ⟨by rfl, fun W hSW => by exact exec_cat _ _ _ rfl (lx := Q8) (ly := num a.g.2.2.2) (lz := Q9) rfl rfl (by first | (simp; done) | (simp; omega) | omega) (by first | (simp; done) | (simp; omega) | omega) HQ9.out⟩) hHeld ?_
      simp only [Act.put, List.setIfInBounds_toArray, List.set_cons_zero, List.set_cons_succ]
      refine wpAnyH_take (i := 28) (oi := ⟨some 4, _, _, _, _, _⟩) (v := .string ⟨(Q9).toArray⟩) rfl (by kernel_rfl) (by kernel_rfl) (by kernel_rfl) (fun _ _ _ h => h) (Or.inl ⟨by rfl, fun W hSW => by go_simp⟩) hHeld ?_
      simp only [Act.put, List.setIfInBounds_toArray, List.set_cons_zero, List.set_cons_succ]
      refine wpAnyH_done (by kernel_rfl) ?_ _
      refine NoPanic.normal ?_
      have HF := Lib.hid (below_t HBM.out hHeld)
      clear hHeld gl g0 g1 g2 g3 g4 g5 g6 g7 g8 g9 g10 g11 g12 g13
      go_wp2_with fail
      go_ret
      exact ⟨by rw [HT.out]; rfl, HF.out⟩
    have e10 : (k == 10) = false := by simpa using h10
    have HT := Lib.hid (show ansT k a = [111, 107] by simp [ansT, HE0.out, h7, h8, h10])
    clear h7 h8 h10
    go_wp2_with fail
    go_ret
    exact ⟨by rw [HT.out]; rfl, BN.out⟩
end LineW
end Go.Proofs.YtcfkdddflbdfaaaDoor
