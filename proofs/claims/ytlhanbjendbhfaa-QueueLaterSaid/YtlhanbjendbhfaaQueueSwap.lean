/-
  Swap of two ticks of a heap.
-/
import Derived.Test.YtlhanbjendbhfaaQueueMem
namespace Go.Proofs.Ytlhanbjendbhfaa
open Go.RowKit
set_option linter.unusedVariables false
set_option linter.unusedSimpArgs false
namespace QueW
open BlkP RowG FrS PushG HeapP ChunkW

theorem own_setT {w : World} {B g n c i i2 : Nat} {l : List Tick} {x y : Tick} (h : RowG.Own encT TT w B (.slice (some ⟨g, 0, none⟩) n c) l) (hx : l[i]? = some x) (hi : i2 = i * 2) :
    RowG.Own encT TT ((w.setCell ⟨g, i2, none⟩ (.int .i64 y.1)).setCell ⟨g, i2 + 1, none⟩ (.int .i64 y.2)) B (.slice (some ⟨g, 0, none⟩) n c) (l.set i y) := by
  subst hi
  have h1 := (h.store (i := i) (j := 0) (y := (y.1, x.2)) (u := .int .i64 y.1) hx (by decide) rfl).1
  have h2 := (h1.store (i := i) (j := 1) (x := (y.1, x.2)) (y := y) (u := .int .i64 y.2) (by
    rw [List.getElem?_set_self (List.getElem?_eq_some_iff.1 hx).1]) (by decide) rfl).1
  rw [List.set_set] at h2
  exact h2
theorem fr_setT {w : World} {g i i2 : Nat} {u v : Value} : Fr (fun k => k = g) w ((w.setCell ⟨g, i, none⟩ u).setCell ⟨g, i2, none⟩ v) :=
  (Fr.set (fun k => k = g) w ⟨g, i, none⟩ u rfl).trans (Fr.set (fun k => k = g) _ ⟨g, i2, none⟩ v rfl) (fun i hi => .inl hi)
set_option maxRecDepth 100000 in
set_option maxHeartbeats 16000000 in
theorem Swap_c {w : World} {pb B g n c i j a a2 : Nat} {d d2 : Int} {l : List Tick} {W : Nat → Nat} (h : Pd w B pb (.slice (some ⟨g, 0, none⟩) n c) l W) (hn : l.length = n) (hn2 : n ≤ 5000) (hi : l[i]? = some ((a : Int), d)) (hj : l[j]? = some ((a2 : Int), d2)) (ha : a < 4096) (ha2 : a2 < 4096) :
    Calls Try.prog 88 #[.pointer (some ⟨pb, 0, none⟩), .int .i64 (i : Int), .int .i64 (j : Int)] w fun e w' => e = .returned (.tuple #[]) ∧ Pd w' B pb (.slice (some ⟨g, 0, none⟩) n c) (swp l i j) (upd (upd W a2 (i + 1)) a (j + 1)) ∧ Fr (Sp pb (.slice (some ⟨g, 0, none⟩) n c)) w w' := by
  have hne : pb ≠ g := fun e => h.ne (by rw [e]; rfl)
  have hg : g < w.heap.size := (h.row.ge g rfl).2
  have hp := h.lt
  have hi2 : i < n := by rw [← hn]; exact (List.getElem?_eq_some_iff.1 hi).1
  have hj2 : j < n := by rw [← hn]; exact (List.getElem?_eq_some_iff.1 hj).1
  have hiI : (i : Int) < (n : Int) := by omega
  have hjI : (j : Int) < (n : Int) := by omega
  have hnI : (n : Int) ≤ 5000 := by omega
  have HN := Lib.hid hn
  have HI := Lib.hid hi
  have HJ := Lib.hid hj
  have HH := Lib.hid h
  clear h hn hi hj
  go_enter Try.func88, Try.ntmps88
  go_wp2_with fail
  refine wp_region_noPanic ?_
  refine wp_region_held_drew (S := fun Xw => Fr (fun k => k = g) w Xw) (by kernel_rfl) ((Fr.refl _ w).drew) (fun hHeld => ?_)
  refine wpAnyH_take (i := 0) (oi := ⟨some 6, _, _, _, _, _⟩) (v := .pointer (some ⟨pb, 0, none⟩)) rfl (by kernel_rfl) (by kernel_rfl) (by kernel_rfl) (fun _ _ _ h => h) (Or.inl ⟨by rfl, fun Xw hSW => by go_simp⟩) hHeld ?_
  simp only [Act.put, List.setIfInBounds_toArray, List.set_cons_zero, List.set_cons_succ]
  refine wpAnyH_take (i := 1) (oi := ⟨some 7, _, _, _, _, _⟩) (v := .pointer (some ⟨pb, 0, none⟩)) rfl (by kernel_rfl) (by kernel_rfl) (by kernel_rfl) (fun _ _ _ h => h) (Or.inl ⟨by rfl, fun Xw hSW => by go_simp⟩) hHeld ?_
  simp only [Act.put, List.setIfInBounds_toArray, List.set_cons_zero, List.set_cons_succ]
  refine wpAnyH_take (i := 2) (oi := ⟨some 8, _, _, _, _, _⟩) (v := .pointer (some ⟨pb, 0, none⟩)) rfl (by kernel_rfl) (by kernel_rfl) (by kernel_rfl) (fun _ _ _ h => h) (Or.inl ⟨by rfl, fun Xw hSW => by go_simp⟩) hHeld ?_
  simp only [Act.put, List.setIfInBounds_toArray, List.set_cons_zero, List.set_cons_succ]
  refine wpAnyH_take (i := 3) (oi := ⟨some 9, _, _, _, _, _⟩) (v := .slice (some ⟨g, 0, none⟩) n c) rfl (by kernel_rfl) (by kernel_rfl) (by kernel_rfl) (fun _ _ _ h => h) (Or.inl ⟨by rfl, fun Xw hSW => by have q := (hSW.blk HH.out.blk hne).cell (i := 0) rfl; go_simp⟩) hHeld ?_
  simp only [Act.put, List.setIfInBounds_toArray, List.set_cons_zero, List.set_cons_succ]
  refine wpAnyH_take (i := 4) (oi := ⟨some 10, _, _, _, _, _⟩) (v := .int .i64 (i : Int)) rfl (by kernel_rfl) (by kernel_rfl) (by kernel_rfl) (fun _ _ _ h => h) (Or.inl ⟨by rfl, fun Xw hSW => by go_simp⟩) hHeld ?_
  simp only [Act.put, List.setIfInBounds_toArray, List.set_cons_zero, List.set_cons_succ]
  refine wpAnyH_take (i := 5) (oi := ⟨some 11, _, _, _, _, _⟩) (v := .pointer (some ⟨pb, 0, none⟩)) rfl (by kernel_rfl) (by kernel_rfl) (by kernel_rfl) (fun _ _ _ h => h) (Or.inl ⟨by rfl, fun Xw hSW => by go_simp⟩) hHeld ?_
  simp only [Act.put, List.setIfInBounds_toArray, List.set_cons_zero, List.set_cons_succ]
  refine wpAnyH_take (i := 6) (oi := ⟨some 12, _, _, _, _, _⟩) (v := .pointer (some ⟨pb, 0, none⟩)) rfl (by kernel_rfl) (by kernel_rfl) (by kernel_rfl) (fun _ _ _ h => h) (Or.inl ⟨by rfl, fun Xw hSW => by go_simp⟩) hHeld ?_
  simp only [Act.put, List.setIfInBounds_toArray, List.set_cons_zero, List.set_cons_succ]
  refine wpAnyH_take (i := 7) (oi := ⟨some 13, _, _, _, _, _⟩) (v := .pointer (some ⟨pb, 0, none⟩)) rfl (by kernel_rfl) (by kernel_rfl) (by kernel_rfl) (fun _ _ _ h => h) (Or.inl ⟨by rfl, fun Xw hSW => by go_simp⟩) hHeld ?_
  simp only [Act.put, List.setIfInBounds_toArray, List.set_cons_zero, List.set_cons_succ]
  refine wpAnyH_take (i := 8) (oi := ⟨some 14, _, _, _, _, _⟩) (v := .slice (some ⟨g, 0, none⟩) n c) rfl (by kernel_rfl) (by kernel_rfl) (by kernel_rfl) (fun _ _ _ h => h) (Or.inl ⟨by rfl, fun Xw hSW => by have q := (hSW.blk HH.out.blk hne).cell (i := 0) rfl; go_simp⟩) hHeld ?_
  simp only [Act.put, List.setIfInBounds_toArray, List.set_cons_zero, List.set_cons_succ]
  refine wpAnyH_take (i := 9) (oi := ⟨some 15, _, _, _, _, _⟩) (v := .int .i64 (j : Int)) rfl (by kernel_rfl) (by kernel_rfl) (by kernel_rfl) (fun _ _ _ h => h) (Or.inl ⟨by rfl, fun Xw hSW => by go_simp⟩) hHeld ?_
  simp only [Act.put, List.setIfInBounds_toArray, List.set_cons_zero, List.set_cons_succ]
  refine wpAnyH_take (i := 10) (oi := ⟨some 16, _, _, _, _, _⟩) (v := .pointer (some ⟨pb, 0, none⟩)) rfl (by kernel_rfl) (by kernel_rfl) (by kernel_rfl) (fun _ _ _ h => h) (Or.inl ⟨by rfl, fun Xw hSW => by go_simp⟩) hHeld ?_
  simp only [Act.put, List.setIfInBounds_toArray, List.set_cons_zero, List.set_cons_succ]
  refine wpAnyH_take (i := 11) (oi := ⟨some 17, _, _, _, _, _⟩) (v := .pointer (some ⟨pb, 0, none⟩)) rfl (by kernel_rfl) (by kernel_rfl) (by kernel_rfl) (fun _ _ _ h => h) (Or.inl ⟨by rfl, fun Xw hSW => by go_simp⟩) hHeld ?_
  simp only [Act.put, List.setIfInBounds_toArray, List.set_cons_zero, List.set_cons_succ]
  refine wpAnyH_take (i := 12) (oi := ⟨some 18, _, _, _, _, _⟩) (v := .pointer (some ⟨pb, 0, none⟩)) rfl (by kernel_rfl) (by kernel_rfl) (by kernel_rfl) (fun _ _ _ h => h) (Or.inl ⟨by rfl, fun Xw hSW => by go_simp⟩) hHeld ?_
  simp only [Act.put, List.setIfInBounds_toArray, List.set_cons_zero, List.set_cons_succ]
  refine wpAnyH_take (i := 13) (oi := ⟨some 19, _, _, _, _, _⟩) (v := .slice (some ⟨g, 0, none⟩) n c) rfl (by kernel_rfl) (by kernel_rfl) (by kernel_rfl) (fun _ _ _ h => h) (Or.inl ⟨by rfl, fun Xw hSW => by have q := (hSW.blk HH.out.blk hne).cell (i := 0) rfl; go_simp⟩) hHeld ?_
  simp only [Act.put, List.setIfInBounds_toArray, List.set_cons_zero, List.set_cons_succ]
  refine wpAnyH_take (i := 14) (oi := ⟨some 20, _, _, _, _, _⟩) (v := .int .i64 (j : Int)) rfl (by kernel_rfl) (by kernel_rfl) (by kernel_rfl) (fun _ _ _ h => h) (Or.inl ⟨by rfl, fun Xw hSW => by go_simp⟩) hHeld ?_
  simp only [Act.put, List.setIfInBounds_toArray, List.set_cons_zero, List.set_cons_succ]
  refine wpAnyH_take (i := 15) (oi := ⟨some 21, _, _, _, _, _⟩) (v := .pointer (some ⟨g, j * 2, none⟩)) rfl (by kernel_rfl) (by kernel_rfl) (by kernel_rfl) (fun _ _ _ h => h) (Or.inl ⟨by rfl, fun Xw hSW => by go_simp⟩) hHeld ?_
  simp only [Act.put, List.setIfInBounds_toArray, List.set_cons_zero, List.set_cons_succ]
  refine wpAnyH_take (i := 17) (oi := ⟨some 23, _, _, _, _, _⟩) (v := .pointer (some ⟨pb, 0, none⟩)) rfl (by kernel_rfl) (by kernel_rfl) (by kernel_rfl) (fun _ _ _ h => h) (Or.inl ⟨by rfl, fun Xw hSW => by go_simp⟩) hHeld ?_
  simp only [Act.put, List.setIfInBounds_toArray, List.set_cons_zero, List.set_cons_succ]
  refine wpAnyH_take (i := 18) (oi := ⟨some 24, _, _, _, _, _⟩) (v := .pointer (some ⟨pb, 0, none⟩)) rfl (by kernel_rfl) (by kernel_rfl) (by kernel_rfl) (fun _ _ _ h => h) (Or.inl ⟨by rfl, fun Xw hSW => by go_simp⟩) hHeld ?_
  simp only [Act.put, List.setIfInBounds_toArray, List.set_cons_zero, List.set_cons_succ]
  refine wpAnyH_take (i := 19) (oi := ⟨some 25, _, _, _, _, _⟩) (v := .pointer (some ⟨pb, 0, none⟩)) rfl (by kernel_rfl) (by kernel_rfl) (by kernel_rfl) (fun _ _ _ h => h) (Or.inl ⟨by rfl, fun Xw hSW => by go_simp⟩) hHeld ?_
  simp only [Act.put, List.setIfInBounds_toArray, List.set_cons_zero, List.set_cons_succ]
  refine wpAnyH_take (i := 20) (oi := ⟨some 26, _, _, _, _, _⟩) (v := .slice (some ⟨g, 0, none⟩) n c) rfl (by kernel_rfl) (by kernel_rfl) (by kernel_rfl) (fun _ _ _ h => h) (Or.inl ⟨by rfl, fun Xw hSW => by have q := (hSW.blk HH.out.blk hne).cell (i := 0) rfl; go_simp⟩) hHeld ?_
  simp only [Act.put, List.setIfInBounds_toArray, List.set_cons_zero, List.set_cons_succ]
  refine wpAnyH_take (i := 21) (oi := ⟨some 27, _, _, _, _, _⟩) (v := .int .i64 (i : Int)) rfl (by kernel_rfl) (by kernel_rfl) (by kernel_rfl) (fun _ _ _ h => h) (Or.inl ⟨by rfl, fun Xw hSW => by go_simp⟩) hHeld ?_
  simp only [Act.put, List.setIfInBounds_toArray, List.set_cons_zero, List.set_cons_succ]
  refine wpAnyH_take (i := 22) (oi := ⟨some 28, _, _, _, _, _⟩) (v := .pointer (some ⟨g, i * 2, none⟩)) rfl (by kernel_rfl) (by kernel_rfl) (by kernel_rfl) (fun _ _ _ h => h) (Or.inl ⟨by rfl, fun Xw hSW => by go_simp⟩) hHeld ?_
  simp only [Act.put, List.setIfInBounds_toArray, List.set_cons_zero, List.set_cons_succ]
  refine wpAnyH_ready (rs := [16, 23]) (by kernel_rfl) (by simp) ?_
  refine AllReadyH.cons (o := ⟨some 22, _, _, _, _, _⟩) rfl (fun K hK => ?_) (AllReadyH.cons (o := ⟨some 29, _, _, _, _, _⟩) rfl (fun K hK => ?_) AllReadyH.nil)
  · have x0 := HH.out.row.cell (j := 0) HJ.out rfl
    have x1 := HH.out.row.cell (j := 1) HJ.out rfl
    simp only [show encT.k = 2 from rfl, Nat.add_zero] at x0 x1
    go_simp
    refine hK.out _ _ hHeld (fun hHeld => ?_)
    clear hK K x0 x1
    refine wpAnyH_ready (rs := [23]) (by kernel_rfl) (by simp) ?_
    refine AllReadyH.cons (o := ⟨some 29, _, _, _, _, _⟩) rfl (fun K hK => ?_) AllReadyH.nil
    have x0 := HH.out.row.cell (j := 0) HI.out rfl
    have x1 := HH.out.row.cell (j := 1) HI.out rfl
    simp only [show encT.k = 2 from rfl, Nat.add_zero] at x0 x1
    go_simp
    refine hK.out _ _ hHeld (fun hHeld => ?_)
    clear hK K x0 x1
    refine wpAnyH_take (i := 24) (oi := ⟨some 30, _, _, _, _, _⟩) (v := .pointer (some ⟨g, i * 2, none⟩)) rfl (by kernel_rfl) (by kernel_rfl) (by kernel_rfl) (fun _ _ _ h => h) (Or.inl ⟨by rfl, fun Xw hSW => by go_simp⟩) hHeld ?_
    simp only [Act.put, List.setIfInBounds_toArray, List.set_cons_zero, List.set_cons_succ]
    refine wpAnyH_ready (rs := [25]) (by kernel_rfl) (by simp) ?_
    refine AllReadyH.cons (o := ⟨none, _, _, _, _, _⟩) rfl (fun K hK => ?_) AllReadyH.nil
    have f0 := fun o => HH.out.row.frozen o
    have x0 := HH.out.row.cell (j := 0) HI.out rfl
    have x1 := HH.out.row.cell (j := 1) HI.out rfl
    simp only [show encT.k = 2 from rfl, Nat.add_zero] at x0 x1
    go_simp
    have ho1 := own_setT (w := w.drew) (y := ((a2 : Int), d2)) HH.out.row HI.out rfl
    have hf1 := (Fr.refl (fun k => k = g) w).drew.trans (fr_setT (w := w.drew) (g := g) (i := i * 2) (i2 := i * 2 + 1) (u := .int .i64 (a2 : Int)) (v := .int .i64 d2)) (fun i hi => .inl hi)
    refine hK.out _ _ hf1 (fun hHeld => ?_)
    clear hK K x0 x1 f0
    refine any_named (fun W' => RowG.Own encT TT W' B (.slice (some ⟨g, 0, none⟩) n c) (l.set i ((a2 : Int), d2)) ∧ Fr (fun k => k = g) w W') ⟨ho1, hf1⟩ ?_
    clear ho1 hf1 hHeld
    rintro w1 ⟨ho1, hHeld⟩
    have HO1 := Lib.hid ho1
    obtain ⟨⟨y1, y2⟩, hy⟩ : ∃ y, (l.set i ((a2 : Int), d2))[j]? = some y := ⟨_, List.getElem?_eq_getElem (by rw [List.length_set, HN.out]; exact hj2)⟩
    have HY := Lib.hid hy
    clear ho1 hy
    refine wpAnyH_take (i := 26) (oi := ⟨some 31, _, _, _, _, _⟩) (v := .pointer (some ⟨g, j * 2, none⟩)) rfl (by kernel_rfl) (by kernel_rfl) (by kernel_rfl) (fun _ _ _ h => h) (Or.inl ⟨by rfl, fun Xw hSW => by go_simp⟩) hHeld ?_
    simp only [Act.put, List.setIfInBounds_toArray, List.set_cons_zero, List.set_cons_succ]
    refine wpAnyH_ready (rs := [27]) (by kernel_rfl) (by simp) ?_
    refine AllReadyH.cons (o := ⟨none, _, _, _, _, _⟩) rfl (fun K hK => ?_) AllReadyH.nil
    have f0 := fun o => HO1.out.frozen o
    have x0 := HO1.out.cell (j := 0) HY.out rfl
    have x1 := HO1.out.cell (j := 1) HY.out rfl
    simp only [show encT.k = 2 from rfl, Nat.add_zero] at x0 x1
    have hg1 := (HO1.out.ge g rfl).2
    go_simp
    have ho2 := own_setT (y := ((a : Int), d)) HO1.out HY.out rfl
    have hf2 := hHeld.trans (fr_setT (w := w1) (g := g) (i := j * 2) (i2 := j * 2 + 1) (u := .int .i64 (a : Int)) (v := .int .i64 d)) (fun i hi => .inl hi)
    refine hK.out _ _ hf2 (fun hHeld => ?_)
    clear hK K x0 x1 f0
    refine wpAnyH_done (by kernel_rfl) ?_ _
    refine NoPanic.normal ?_
    refine HeldP.then_named (S := fun W' => RowG.Own encT TT W' B (.slice (some ⟨g, 0, none⟩) n c) (swp l i j) ∧ Fr (fun k => k = g) w W') ⟨?_, hf2⟩ ?_
    · unfold swp
      rw [gt_at HI.out, gt_at HJ.out]
      exact ho2
    clear ho2 hf2 hHeld
    rintro w2 ⟨ho2, hf2⟩
    have hp2 := hf2.blk HH.out.blk hne
    have H2 := Lib.hid ho2
    have F2 := Lib.hid hf2
    have P2 := Lib.hid hp2
    have HL2 := Lib.hid (show (swp l i j).length = n by rw [swp_len, HN.out])
    have HI2 := Lib.hid (show (swp l i j)[i]? = some ((a2 : Int), d2) by
      rw [swp_at (by rw [HN.out]; exact hi2) (by rw [HN.out]; exact hj2), if_pos rfl, gt_at HJ.out])
    have HJ2 := Lib.hid (show (swp l i j)[j]? = some ((a : Int), d) by
      rw [swp_at (by rw [HN.out]; exact hi2) (by rw [HN.out]; exact hj2)]
      split
      · rename_i e
        subst e
        have := HI.out.symm.trans HJ.out
        rw [gt_at HJ.out, ← this]
      · rw [if_pos rfl, gt_at HI.out])
    clear ho2 hf2 hp2
    go_wp2_with fail
    refine (note_c P2.out H2.out HL2.out hn2 HI2.out ha2).mono ?_
    rintro e w3 ⟨rfl, hb3, hf3⟩
    have H3 := Lib.hid hb3
    have O3 := Lib.hid (hf3.own H2.out (fun q hq e => hne (by
      have : g = q := by simpa [Value.ownBlock] using hq
      rw [this, e])))
    have F3 := Lib.hid hf3
    clear hb3 hf3
    go_wp2_with fail
    refine (note_c H3.out O3.out HL2.out hn2 HJ2.out ha).mono ?_
    rintro e w4 ⟨rfl, hb4, hf4⟩
    have H4 := Lib.hid hb4
    have O4 := Lib.hid (hf4.own O3.out (fun q hq e => hne (by
      have : g = q := by simpa [Value.ownBlock] using hq
      rw [this, e])))
    have F4 := Lib.hid hf4
    clear hb4 hf4
    go_wp2_with fail
    go_end0
    refine ⟨rfl, ⟨H4.out, O4.out, HH.out.ne⟩, ?_⟩
    exact ((F2.out.mono (S' := Sp pb (.slice (some ⟨g, 0, none⟩) n c)) (fun i hi => .inr (by rw [hi]; rfl))).trans (F3.out.mono (S' := Sp pb (.slice (some ⟨g, 0, none⟩) n c)) (fun i hi => .inl hi)) (fun i hi => .inl hi)).trans (F4.out.mono (S' := Sp pb (.slice (some ⟨g, 0, none⟩) n c)) (fun i hi => .inl hi)) (fun i hi => .inl hi)
  · have x0 := HH.out.row.cell (j := 0) HI.out rfl
    have x1 := HH.out.row.cell (j := 1) HI.out rfl
    simp only [show encT.k = 2 from rfl, Nat.add_zero] at x0 x1
    go_simp
    refine hK.out _ _ hHeld (fun hHeld => ?_)
    clear hK K x0 x1
    refine wpAnyH_ready (rs := [16]) (by kernel_rfl) (by simp) ?_
    refine AllReadyH.cons (o := ⟨some 22, _, _, _, _, _⟩) rfl (fun K hK => ?_) AllReadyH.nil
    have x0 := HH.out.row.cell (j := 0) HJ.out rfl
    have x1 := HH.out.row.cell (j := 1) HJ.out rfl
    simp only [show encT.k = 2 from rfl, Nat.add_zero] at x0 x1
    go_simp
    refine hK.out _ _ hHeld (fun hHeld => ?_)
    clear hK K x0 x1
    refine wpAnyH_take (i := 24) (oi := ⟨some 30, _, _, _, _, _⟩) (v := .pointer (some ⟨g, i * 2, none⟩)) rfl (by kernel_rfl) (by kernel_rfl) (by kernel_rfl) (fun _ _ _ h => h) (Or.inl ⟨by rfl, fun Xw hSW => by go_simp⟩) hHeld ?_
    simp only [Act.put, List.setIfInBounds_toArray, List.set_cons_zero, List.set_cons_succ]
    refine wpAnyH_ready (rs := [25]) (by kernel_rfl) (by simp) ?_
    refine AllReadyH.cons (o := ⟨none, _, _, _, _, _⟩) rfl (fun K hK => ?_) AllReadyH.nil
    have f0 := fun o => HH.out.row.frozen o
    have x0 := HH.out.row.cell (j := 0) HI.out rfl
    have x1 := HH.out.row.cell (j := 1) HI.out rfl
    simp only [show encT.k = 2 from rfl, Nat.add_zero] at x0 x1
    go_simp
    have ho1 := own_setT (w := w.drew) (y := ((a2 : Int), d2)) HH.out.row HI.out rfl
    have hf1 := (Fr.refl (fun k => k = g) w).drew.trans (fr_setT (w := w.drew) (g := g) (i := i * 2) (i2 := i * 2 + 1) (u := .int .i64 (a2 : Int)) (v := .int .i64 d2)) (fun i hi => .inl hi)
    refine hK.out _ _ hf1 (fun hHeld => ?_)
    clear hK K x0 x1 f0
    refine any_named (fun W' => RowG.Own encT TT W' B (.slice (some ⟨g, 0, none⟩) n c) (l.set i ((a2 : Int), d2)) ∧ Fr (fun k => k = g) w W') ⟨ho1, hf1⟩ ?_
    clear ho1 hf1 hHeld
    rintro w1 ⟨ho1, hHeld⟩
    have HO1 := Lib.hid ho1
    obtain ⟨⟨y1, y2⟩, hy⟩ : ∃ y, (l.set i ((a2 : Int), d2))[j]? = some y := ⟨_, List.getElem?_eq_getElem (by rw [List.length_set, HN.out]; exact hj2)⟩
    have HY := Lib.hid hy
    clear ho1 hy
    refine wpAnyH_take (i := 26) (oi := ⟨some 31, _, _, _, _, _⟩) (v := .pointer (some ⟨g, j * 2, none⟩)) rfl (by kernel_rfl) (by kernel_rfl) (by kernel_rfl) (fun _ _ _ h => h) (Or.inl ⟨by rfl, fun Xw hSW => by go_simp⟩) hHeld ?_
    simp only [Act.put, List.setIfInBounds_toArray, List.set_cons_zero, List.set_cons_succ]
    refine wpAnyH_ready (rs := [27]) (by kernel_rfl) (by simp) ?_
    refine AllReadyH.cons (o := ⟨none, _, _, _, _, _⟩) rfl (fun K hK => ?_) AllReadyH.nil
    have f0 := fun o => HO1.out.frozen o
    have x0 := HO1.out.cell (j := 0) HY.out rfl
    have x1 := HO1.out.cell (j := 1) HY.out rfl
    simp only [show encT.k = 2 from rfl, Nat.add_zero] at x0 x1
    have hg1 := (HO1.out.ge g rfl).2
    go_simp
    have ho2 := own_setT (y := ((a : Int), d)) HO1.out HY.out rfl
    have hf2 := hHeld.trans (fr_setT (w := w1) (g := g) (i := j * 2) (i2 := j * 2 + 1) (u := .int .i64 (a : Int)) (v := .int .i64 d)) (fun i hi => .inl hi)
    refine hK.out _ _ hf2 (fun hHeld => ?_)
    clear hK K x0 x1 f0
    refine wpAnyH_done (by kernel_rfl) ?_ _
    refine NoPanic.normal ?_
    refine HeldP.then_named (S := fun W' => RowG.Own encT TT W' B (.slice (some ⟨g, 0, none⟩) n c) (swp l i j) ∧ Fr (fun k => k = g) w W') ⟨?_, hf2⟩ ?_
    · unfold swp
      rw [gt_at HI.out, gt_at HJ.out]
      exact ho2
    clear ho2 hf2 hHeld
    rintro w2 ⟨ho2, hf2⟩
    have hp2 := hf2.blk HH.out.blk hne
    have H2 := Lib.hid ho2
    have F2 := Lib.hid hf2
    have P2 := Lib.hid hp2
    have HL2 := Lib.hid (show (swp l i j).length = n by rw [swp_len, HN.out])
    have HI2 := Lib.hid (show (swp l i j)[i]? = some ((a2 : Int), d2) by
      rw [swp_at (by rw [HN.out]; exact hi2) (by rw [HN.out]; exact hj2), if_pos rfl, gt_at HJ.out])
    have HJ2 := Lib.hid (show (swp l i j)[j]? = some ((a : Int), d) by
      rw [swp_at (by rw [HN.out]; exact hi2) (by rw [HN.out]; exact hj2)]
      split
      · rename_i e
        subst e
        have := HI.out.symm.trans HJ.out
        rw [gt_at HJ.out, ← this]
      · rw [if_pos rfl, gt_at HI.out])
    clear ho2 hf2 hp2
    go_wp2_with fail
    refine (note_c P2.out H2.out HL2.out hn2 HI2.out ha2).mono ?_
    rintro e w3 ⟨rfl, hb3, hf3⟩
    have H3 := Lib.hid hb3
    have O3 := Lib.hid (hf3.own H2.out (fun q hq e => hne (by
      have : g = q := by simpa [Value.ownBlock] using hq
      rw [this, e])))
    have F3 := Lib.hid hf3
    clear hb3 hf3
    go_wp2_with fail
    refine (note_c H3.out O3.out HL2.out hn2 HJ2.out ha).mono ?_
    rintro e w4 ⟨rfl, hb4, hf4⟩
    have H4 := Lib.hid hb4
    have O4 := Lib.hid (hf4.own O3.out (fun q hq e => hne (by
      have : g = q := by simpa [Value.ownBlock] using hq
      rw [this, e])))
    have F4 := Lib.hid hf4
    clear hb4 hf4
    go_wp2_with fail
    go_end0
    refine ⟨rfl, ⟨H4.out, O4.out, HH.out.ne⟩, ?_⟩
    exact ((F2.out.mono (S' := Sp pb (.slice (some ⟨g, 0, none⟩) n c)) (fun i hi => .inr (by rw [hi]; rfl))).trans (F3.out.mono (S' := Sp pb (.slice (some ⟨g, 0, none⟩) n c)) (fun i hi => .inl hi)) (fun i hi => .inl hi)).trans (F4.out.mono (S' := Sp pb (.slice (some ⟨g, 0, none⟩) n c)) (fun i hi => .inl hi)) (fun i hi => .inl hi)
end QueW
end Go.Proofs.Ytlhanbjendbhfaa
