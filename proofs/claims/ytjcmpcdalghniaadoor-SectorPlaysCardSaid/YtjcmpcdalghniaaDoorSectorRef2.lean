/-
  The reference's disk: Cut, Copy, Log.
-/
import Derived.Test.YtjcmpcdalghniaaDoorSectorRef
namespace Go.Proofs.YtjcmpcdalghniaaDoor
open Go.RowKit
set_option linter.unusedVariables false
set_option linter.unusedSimpArgs false
set_option maxRecDepth 100000
namespace SecW
open BlkP RowG FrS PushG JournalP SecP
set_option maxHeartbeats 16000000 in
theorem rCut_out {w : World} {B pq m : Nat} {d : Dk} {S : Nat → Prop} {i : Int} (h : Rsk w B pq m d S) (hm : m ≤ 1000) (hi : i < 0 ∨ (d.ws.length : Int) < i) :
    Calls Tryd.prog 17 #[.pointer (some ⟨pq, 0, none⟩), .int .i64 i] w fun e w' => e = .returned (.tuple #[.pointer none, .int .i64 2]) ∧ Below w.heap.size w w' := by
  have H := Lib.hid h
  clear h
  by_cases h0 : i < 0
  · clear hi
    go_enter Tryd.func17, Tryd.ntmps17
    go_wp2_with fail
    refine bodyPost_ret (v := .tuple #[.pointer none, .int .i64 2]) (by simp [results, Tryd.results17, go_sem]) rfl ?_
    exact ⟨rfl, Below.refl _ _⟩
  · have h1 : (d.ws.length : Int) < i := by omega
    clear hi
    go_enter Tryd.func17, Tryd.ntmps17
    go_wp2_with fail
    refine (rWrites_c H.out hm).mono ?_
    rintro e w1 ⟨rfl, hb1⟩
    go_wp2_with fail
    refine bodyPost_ret (v := .tuple #[.pointer none, .int .i64 2]) (by simp [results, Tryd.results17, go_sem]) rfl ?_
    exact ⟨rfl, hb1⟩
set_option maxHeartbeats 16000000 in
theorem rCut_c {w : World} {B pq m : Nat} {d : Dk} {S : Nat → Prop} {j : Nat} (h : Rsk w B pq m d S) (hm : m ≤ 1000) (hj : j ≤ d.ws.length) :
    Calls Tryd.prog 17 #[.pointer (some ⟨pq, 0, none⟩), .int .i64 (j : Int)] w fun e w' => ∃ p, e = .returned (.tuple #[.pointer (some ⟨p, 0, none⟩), .int .i64 0]) ∧ RMade w p m (d.cut j) w' := by
  have H := Lib.hid h
  have hj0 : ¬ (j : Int) < 0 := by omega
  have hj1 : ¬ (d.ws.length : Int) < (j : Int) := by omega
  have HJ := Lib.hid hj
  clear h hj
  go_enter Tryd.func17, Tryd.ntmps17
  go_wp2_with fail
  refine (rWrites_c H.out hm).mono ?_
  rintro e w1 ⟨rfl, hb1⟩
  have h := H.out.below hb1
  have B1 := Lib.hid hb1
  have hbz := hb1.size
  clear hb1
  obtain ⟨v, A, kept, hr, hS⟩ := h
  have HP := Lib.hid hr
  have HS := Lib.hid hS
  have c0 := hr.bq.cell (i := 0) rfl
  have c1 := hr.bq.cell (i := 1) rfl
  have c2 := hr.bq.cell (i := 2) rfl
  have lq := hr.bq.lt
  obtain ⟨n, hn⟩ : ∃ n, A.length = n := ⟨_, rfl⟩
  have HN := Lib.hid hn
  have hnm : n ≤ m := by have := hr.len; omega
  obtain ⟨Av, cA, rfl, hcn, hcm, hAv⟩ := hr.row.form hn
  have HAV := Lib.hid hAv
  clear hAv hn
  have hk := hr.hk
  have hjn : kept + j ≤ n := by
    have := HJ.out
    rw [hr.ws, List.length_drop] at this
    have := HN.out
    omega
  obtain ⟨k2, hk2⟩ : ∃ k2, kept + j = k2 := ⟨_, rfl⟩
  have HK2 := Lib.hid hk2
  have HP1 := Lib.hid hr
  have HKJ := Lib.hid (show IntKind.i64.wrap ((kept : Int) + (j : Int)) = (k2 : Int) by rw [IntKind.wrap_i64]; omega)
  clear hr hS
  go_wp2_with fail
  refine wp_region_noPanic ?_
  refine wp_region_held_drew (S := fun W => Below w1.heap.size w1 W) (by kernel_rfl) ((Below.refl _ w1).drew) (fun hHeld => ?_)
  refine wpAnyH_take (i := 0) (oi := ⟨some 15, _, _, _, _, _⟩) (v := .slice none 0 0) rfl (by kernel_rfl) (by kernel_rfl) (by kernel_rfl) (fun _ _ _ h => h) (Or.inl ⟨by rfl, fun W hSW => by go_simp⟩) hHeld ?_
  simp only [Act.put, List.setIfInBounds_toArray, List.set_cons_zero, List.set_cons_succ]
  refine wpAnyH_take (i := 1) (oi := ⟨some 16, _, _, _, _, _⟩) (v := .pointer (some ⟨pq, 0, none⟩)) rfl (by kernel_rfl) (by kernel_rfl) (by kernel_rfl) (fun _ _ _ h => h) (Or.inl ⟨by rfl, fun W hSW => by go_simp⟩) hHeld ?_
  simp only [Act.put, List.setIfInBounds_toArray, List.set_cons_zero, List.set_cons_succ]
  refine wpAnyH_take (i := 2) (oi := ⟨some 17, _, _, _, _, _⟩) (v := .pointer (some ⟨pq, 0, none⟩)) rfl (by kernel_rfl) (by kernel_rfl) (by kernel_rfl) (fun _ _ _ h => h) (Or.inl ⟨by rfl, fun W hSW => by go_simp⟩) hHeld ?_
  simp only [Act.put, List.setIfInBounds_toArray, List.set_cons_zero, List.set_cons_succ]
  refine wpAnyH_take (i := 3) (oi := ⟨some 18, _, _, _, _, _⟩) (v := .pointer (some ⟨pq, 1, none⟩)) rfl (by kernel_rfl) (by kernel_rfl) (by kernel_rfl) (fun _ _ _ h => h) (Or.inl ⟨by rfl, fun W hSW => by go_simp⟩) hHeld ?_
  simp only [Act.put, List.setIfInBounds_toArray, List.set_cons_zero, List.set_cons_succ]
  refine wpAnyH_take (i := 4) (oi := ⟨some 19, _, _, _, _, _⟩) (v := .slice Av n cA) rfl (by kernel_rfl) (by kernel_rfl) (by kernel_rfl) (fun _ _ _ h => h) (Or.inl ⟨by rfl, fun W hSW => by have a0 := (hSW.cell (p := ⟨pq, 1, none⟩) lq).trans c1; go_simp⟩) hHeld ?_
  simp only [Act.put, List.setIfInBounds_toArray, List.set_cons_zero, List.set_cons_succ]
  refine wpAnyH_take (i := 5) (oi := ⟨some 20, _, _, _, _, _⟩) (v := .pointer (some ⟨pq, 0, none⟩)) rfl (by kernel_rfl) (by kernel_rfl) (by kernel_rfl) (fun _ _ _ h => h) (Or.inl ⟨by rfl, fun W hSW => by go_simp⟩) hHeld ?_
  simp only [Act.put, List.setIfInBounds_toArray, List.set_cons_zero, List.set_cons_succ]
  refine wpAnyH_take (i := 6) (oi := ⟨some 21, _, _, _, _, _⟩) (v := .pointer (some ⟨pq, 0, none⟩)) rfl (by kernel_rfl) (by kernel_rfl) (by kernel_rfl) (fun _ _ _ h => h) (Or.inl ⟨by rfl, fun W hSW => by go_simp⟩) hHeld ?_
  simp only [Act.put, List.setIfInBounds_toArray, List.set_cons_zero, List.set_cons_succ]
  refine wpAnyH_take (i := 7) (oi := ⟨some 22, _, _, _, _, _⟩) (v := .pointer (some ⟨pq, 2, none⟩)) rfl (by kernel_rfl) (by kernel_rfl) (by kernel_rfl) (fun _ _ _ h => h) (Or.inl ⟨by rfl, fun W hSW => by go_simp⟩) hHeld ?_
  simp only [Act.put, List.setIfInBounds_toArray, List.set_cons_zero, List.set_cons_succ]
  refine wpAnyH_take (i := 8) (oi := ⟨some 23, _, _, _, _, _⟩) (v := .int .i64 (kept : Int)) rfl (by kernel_rfl) (by kernel_rfl) (by kernel_rfl) (fun _ _ _ h => h) (Or.inl ⟨by rfl, fun W hSW => by have a0 := (hSW.cell (p := ⟨pq, 2, none⟩) lq).trans c2; go_simp⟩) hHeld ?_
  simp only [Act.put, List.setIfInBounds_toArray, List.set_cons_zero, List.set_cons_succ]
  refine wpAnyH_take (i := 9) (oi := ⟨some 24, _, _, _, _, _⟩) (v := .int .i64 (j : Int)) rfl (by kernel_rfl) (by kernel_rfl) (by kernel_rfl) (fun _ _ _ h => h) (Or.inl ⟨by rfl, fun W hSW => by go_simp⟩) hHeld ?_
  simp only [Act.put, List.setIfInBounds_toArray, List.set_cons_zero, List.set_cons_succ]
  refine wpAnyH_take (i := 10) (oi := ⟨some 25, _, _, _, _, _⟩) (v := .int .i64 (k2 : Int)) rfl (by kernel_rfl) (by kernel_rfl) (by kernel_rfl) (fun _ _ _ h => h) (Or.inl ⟨by rfl, fun W hSW => by have e := HKJ.out; go_simp; try (first | exact e | (rw [e]))⟩) hHeld ?_
  simp only [Act.put, List.setIfInBounds_toArray, List.set_cons_zero, List.set_cons_succ]
  refine wpAnyH_take (i := 11) (oi := ⟨some 26, _, _, _, _, _⟩) (v := .slice Av k2 cA) rfl (by kernel_rfl) (by kernel_rfl) (by kernel_rfl) (fun _ _ _ h => h) (Or.inl ⟨by rfl, fun W hSW => by have e := RowE.run_uptoE tyA W (A := Av) (L := n) (c := cA) (k := k2) (by have := HK2.out; omega) (by have := HK2.out; omega); go_simp⟩) hHeld ?_
  simp only [Act.put, List.setIfInBounds_toArray, List.set_cons_zero, List.set_cons_succ]
  refine wpAnyH_ready (rs := [12]) (by kernel_rfl) (by simp) ?_
  refine AllReadyH.cons (o := ⟨some 27, _, _, _, _, _⟩) rfl (fun K hK => ?_) AllReadyH.nil
  refine RowE.step_appE tyA rfl (.tmp 15) (.tmp 26) rfl (B := w1.heap.size) (l0 := []) (l := A.take k2) rfl rfl (Own.nil _ _ _ _) (RowE.rd_take (HP1.out.row.rd.below ((Below.refl _ w1).drew)) (by have := HN.out; have := HK2.out; omega)) (by have := HK2.out; simp; omega) (by have := HK2.out; simp; omega) (Nat.le_refl _) ?_
  intro v' w5 ho5 hg5 hv5
  have HO5 := Lib.hid (show RowG.Own encA TA w5 w1.heap.size v' (A.take k2) by simpa using ho5)
  have HB5 := Lib.hid (show Below w1.heap.size w1 w5 from ((Below.refl _ w1).drew).grown hg5 (Nat.le_refl _) (fun k hk => by cases hk))
  clear ho5 hg5 hv5
  obtain ⟨A5, c5, rfl, _, _, _⟩ := HO5.out.form (n := k2) (by rw [List.length_take]; have := HN.out; have := HK2.out; omega)
  refine hK.out _ _ HB5.out (fun hHeldA => ?_)
  clear hK K
  refine wpAnyH_ready (rs := [13]) (by kernel_rfl) (by simp) ?_
  refine AllReadyH.cons (o := ⟨some 6, _, _, _, _, _⟩) rfl (fun K hK => ?_) AllReadyH.nil
  go_simp
  refine hK.out _ _ HB5.out (fun hHeldB => ?_)
  clear hK K
  refine wpAnyH_done (by kernel_rfl) ?_ _
  refine NoPanic.normal ?_
  clear hHeld hHeldA hHeldB c0 c1 c2 lq
  have HP5 := Lib.hid (HP.out.fr (Fr.below (fun _ => False) HB5.out) (fun _ _ q => q))
  have c0 := HP5.out.bq.cell (i := 0) rfl
  have lq := HP5.out.bq.lt
  have hz5 := HB5.out.size
  go_wp2_with fail
  refine bodyPost_ret (v := .tuple #[.pointer (some ⟨w5.heap.size, 0, none⟩), .int .i64 0]) (by simp [results, Tryd.results17, go_sem]) rfl ?_
  have hcut : (d.cut j) = ofAll d.n (A.take k2) k2 := by
    have e := all_cut (n := d.n) (A := A) (kept := kept) (k := j) (by have := HN.out; omega)
    rw [HP.out.is, HK2.out] at e
    exact e
  have hlen : (A.take k2).length = k2 := by rw [List.length_take]; have := HN.out; have := HK2.out; omega
  refine ⟨w5.heap.size, rfl, fun k => k = w5.heap.size ∨ (Value.slice A5 k2 c5).ownBlock = some k, ⟨_, A.take k2, k2, ⟨by (repeat' (first | (with_reducible refine BlkP.Blk.drew ?_) | (with_reducible refine BlkP.Blk.drewN ?_ _) | (with_reducible refine BlkP.Blk.setAt (us := ?_) (by first | omega | (simp; done) | (simp; omega)) rfl ?_ ?_) | (with_reducible refine BlkP.Blk.otherAt ?_ (by first | omega | (simp; done) | (simp; omega))) | (with_reducible refine BlkP.Blk.newA' (by first | omega | (simp; done) | (simp; omega)) rfl) | (with_reducible refine BlkP.Blk.alloc ?_ _) | (exact rfl))), (HO5.out.alloc _).mono hbz, by omega, ?_, HP.out.ok.cut j, fun x hx => HP.out.all x (List.mem_of_mem_take hx), by omega, by omega⟩, fun k => Iff.rfl⟩, by (repeat' (first | (with_reducible exact Below.refl _ _) | (with_reducible refine Below.setCell ?_ (by (first | omega | (simp; done) | (simp; omega))) _) | (with_reducible refine Below.alloc ?_ (by (first | omega | (simp; done) | (simp; omega))) _) | (with_reducible refine Below.drew ?_) | (with_reducible refine below_drewN ?_ _) | (with_reducible refine Below.trans ?_ (Below.mono HB5.out (by (first | omega | (simp; done) | (simp; omega))))) | (with_reducible refine Below.trans ?_ (Below.mono B1.out (by (first | omega | (simp; done) | (simp; omega)))))))⟩
  have e1 : (d.cut j).n = d.n := rfl
  rw [e1]
  exact hcut.symm
set_option maxHeartbeats 16000000 in
theorem rCopy_c {w : World} {B pq m : Nat} {d : Dk} {S : Nat → Prop} (h : Rsk w B pq m d S) (hm : m ≤ 1000) :
    Calls Tryd.prog 19 #[.pointer (some ⟨pq, 0, none⟩)] w fun e w' => ∃ p, e = .returned (.pointer (some ⟨p, 0, none⟩)) ∧ RMade w p m d w' := by
  obtain ⟨v, A, kept, hr, hS⟩ := h
  have HP := Lib.hid hr
  have HS := Lib.hid hS
  have c0 := hr.bq.cell (i := 0) rfl
  have c1 := hr.bq.cell (i := 1) rfl
  have c2 := hr.bq.cell (i := 2) rfl
  have lq := hr.bq.lt
  obtain ⟨n, hn⟩ : ∃ n, A.length = n := ⟨_, rfl⟩
  have HN := Lib.hid hn
  have hnm : n ≤ m := by have := hr.len; omega
  obtain ⟨Av, cA, rfl, hcn, hcm, hAv⟩ := hr.row.form hn
  have HAV := Lib.hid hAv
  clear hAv hn
  clear hr hS
  go_enter Tryd.func19, Tryd.ntmps19
  go_wp2_with ((with_reducible refine at_slot 9 ?_); refine Classical.byContradiction (fun hG => ?_))
  refine hG ?_
  clear hG
  refine RowE.wp_appE tyA rfl (.tmp 4) (.tmp 8) rfl (B := w.heap.size) (l0 := []) (l := A) rfl rfl (Own.nil _ _ _ _) HP.out.row.rd (by simp; omega) (by simp; omega) (Nat.le_refl _) ?_
  intro v' w1 ho hg hv
  have HO1 := Lib.hid (show RowG.Own encA TA w1 w.heap.size v' A by simpa using ho)
  have B1 := Lib.hid (show Below w.heap.size w w1 from (Below.refl _ w).grown hg (Nat.le_refl _) (fun k hk => by cases hk))
  obtain ⟨A5, c5, rfl, _, _, _⟩ := HO1.out.form HN.out
  have HP5 := Lib.hid (HP.out.fr (Fr.below (fun _ => False) B1.out) (fun _ _ q => q))
  clear ho hg hv c0 c1 c2 lq
  have c0 := HP5.out.bq.cell (i := 0) rfl
  have c2 := HP5.out.bq.cell (i := 2) rfl
  have lq := HP5.out.bq.lt
  have hz1 := B1.out.size
  go_wp2_with fail
  refine wp_region_noPanic ?_
  refine wp_region_held_drew (S := fun W => Below w1.heap.size w1 W) (by kernel_rfl) ((Below.refl _ w1).drew) (fun hHeld => ?_)
  refine wpAnyH_take (i := 0) (oi := ⟨some 10, _, _, _, _, _⟩) (v := .pointer (some ⟨pq, 0, none⟩)) rfl (by kernel_rfl) (by kernel_rfl) (by kernel_rfl) (fun _ _ _ h => h) (Or.inl ⟨by rfl, fun W hSW => by go_simp⟩) hHeld ?_
  simp only [Act.put, List.setIfInBounds_toArray, List.set_cons_zero, List.set_cons_succ]
  refine wpAnyH_take (i := 1) (oi := ⟨some 11, _, _, _, _, _⟩) (v := .pointer (some ⟨pq, 0, none⟩)) rfl (by kernel_rfl) (by kernel_rfl) (by kernel_rfl) (fun _ _ _ h => h) (Or.inl ⟨by rfl, fun W hSW => by go_simp⟩) hHeld ?_
  simp only [Act.put, List.setIfInBounds_toArray, List.set_cons_zero, List.set_cons_succ]
  refine wpAnyH_take (i := 2) (oi := ⟨some 12, _, _, _, _, _⟩) (v := .pointer (some ⟨pq, 0, none⟩)) rfl (by kernel_rfl) (by kernel_rfl) (by kernel_rfl) (fun _ _ _ h => h) (Or.inl ⟨by rfl, fun W hSW => by go_simp⟩) hHeld ?_
  simp only [Act.put, List.setIfInBounds_toArray, List.set_cons_zero, List.set_cons_succ]
  refine wpAnyH_take (i := 3) (oi := ⟨some 13, _, _, _, _, _⟩) (v := .int .i64 (d.n : Int)) rfl (by kernel_rfl) (by kernel_rfl) (by kernel_rfl) (fun _ _ _ h => h) (Or.inl ⟨by rfl, fun W hSW => by have a0 := (hSW.cell (p := ⟨pq, 0, none⟩) lq).trans c0; go_simp⟩) hHeld ?_
  simp only [Act.put, List.setIfInBounds_toArray, List.set_cons_zero, List.set_cons_succ]
  refine wpAnyH_take (i := 4) (oi := ⟨some 14, _, _, _, _, _⟩) (v := .slice A5 n c5) rfl (by kernel_rfl) (by kernel_rfl) (by kernel_rfl) (fun _ _ _ h => h) (Or.inl ⟨by rfl, fun W hSW => by go_simp⟩) hHeld ?_
  simp only [Act.put, List.setIfInBounds_toArray, List.set_cons_zero, List.set_cons_succ]
  refine wpAnyH_take (i := 5) (oi := ⟨some 15, _, _, _, _, _⟩) (v := .pointer (some ⟨pq, 0, none⟩)) rfl (by kernel_rfl) (by kernel_rfl) (by kernel_rfl) (fun _ _ _ h => h) (Or.inl ⟨by rfl, fun W hSW => by go_simp⟩) hHeld ?_
  simp only [Act.put, List.setIfInBounds_toArray, List.set_cons_zero, List.set_cons_succ]
  refine wpAnyH_take (i := 6) (oi := ⟨some 16, _, _, _, _, _⟩) (v := .pointer (some ⟨pq, 0, none⟩)) rfl (by kernel_rfl) (by kernel_rfl) (by kernel_rfl) (fun _ _ _ h => h) (Or.inl ⟨by rfl, fun W hSW => by go_simp⟩) hHeld ?_
  simp only [Act.put, List.setIfInBounds_toArray, List.set_cons_zero, List.set_cons_succ]
  refine wpAnyH_take (i := 7) (oi := ⟨some 17, _, _, _, _, _⟩) (v := .pointer (some ⟨pq, 2, none⟩)) rfl (by kernel_rfl) (by kernel_rfl) (by kernel_rfl) (fun _ _ _ h => h) (Or.inl ⟨by rfl, fun W hSW => by go_simp⟩) hHeld ?_
  simp only [Act.put, List.setIfInBounds_toArray, List.set_cons_zero, List.set_cons_succ]
  refine wpAnyH_take (i := 8) (oi := ⟨some 18, _, _, _, _, _⟩) (v := .int .i64 (kept : Int)) rfl (by kernel_rfl) (by kernel_rfl) (by kernel_rfl) (fun _ _ _ h => h) (Or.inl ⟨by rfl, fun W hSW => by have a0 := (hSW.cell (p := ⟨pq, 2, none⟩) lq).trans c2; go_simp⟩) hHeld ?_
  simp only [Act.put, List.setIfInBounds_toArray, List.set_cons_zero, List.set_cons_succ]
  refine wpAnyH_take (i := 9) (oi := ⟨some 19, _, _, _, _, _⟩) (v := .agg #[.int .i64 (d.n : Int), .slice A5 n c5, .int .i64 (kept : Int)]) rfl (by kernel_rfl) (by kernel_rfl) (by kernel_rfl) (fun _ _ _ h => h) (Or.inl ⟨by rfl, fun W hSW => by go_simp⟩) hHeld ?_
  simp only [Act.put, List.setIfInBounds_toArray, List.set_cons_zero, List.set_cons_succ]
  refine wpAnyH_ready (rs := [10]) (by kernel_rfl) (by simp) ?_
  refine AllReadyH.cons (o := ⟨some 20, _, _, _, _, _⟩) rfl (fun K hK => ?_) AllReadyH.nil
  go_simp
  refine hK.out _ _ (Below.alloc hHeld (by first | omega | (simp; done) | (simp; omega)) _) (fun hHeld => ?_)
  clear hK K
  refine wpAnyH_ready (rs := [11]) (by kernel_rfl) (by simp) ?_
  refine AllReadyH.cons (o := ⟨some 2, _, _, _, _, _⟩) rfl (fun K hK => ?_) AllReadyH.nil
  go_simp
  refine hK.out _ _ hHeld (fun hHeld => ?_)
  clear hK K
  refine wpAnyH_done (by kernel_rfl) ?_ _
  refine NoPanic.normal ?_
  clear hHeld
  go_wp2_with fail
  go_ret
  refine ⟨w1.heap.size, rfl, fun k => k = w1.heap.size ∨ (Value.slice A5 n c5).ownBlock = some k, ⟨_, A, kept, ⟨by (repeat' (first | (with_reducible refine BlkP.Blk.drew ?_) | (with_reducible refine BlkP.Blk.drewN ?_ _) | (with_reducible refine BlkP.Blk.setAt (us := ?_) (by first | omega | (simp; done) | (simp; omega)) rfl ?_ ?_) | (with_reducible refine BlkP.Blk.otherAt ?_ (by first | omega | (simp; done) | (simp; omega))) | (with_reducible refine BlkP.Blk.newA' (by first | omega | (simp; done) | (simp; omega)) rfl) | (with_reducible refine BlkP.Blk.alloc ?_ _) | (exact rfl))), HO1.out.drew.alloc _, HP.out.hk, HP.out.is, HP.out.ok, HP.out.all, HP.out.len, by omega⟩, fun k => Iff.rfl⟩, by (repeat' (first | (with_reducible exact Below.refl _ _) | (with_reducible refine Below.setCell ?_ (by (first | omega | (simp; done) | (simp; omega))) _) | (with_reducible refine Below.alloc ?_ (by (first | omega | (simp; done) | (simp; omega))) _) | (with_reducible refine Below.drew ?_) | (with_reducible refine below_drewN ?_ _) | (with_reducible refine Below.trans ?_ (Below.mono B1.out (by (first | omega | (simp; done) | (simp; omega)))))))⟩
set_option maxHeartbeats 16000000 in
theorem rLog_c {w : World} {B pq m : Nat} {d : Dk} {S : Nat → Prop} (h : Rsk w B pq m d S) (hm : m ≤ 1000) :
    Calls Tryd.prog 39 #[.pointer (some ⟨pq, 0, none⟩)] w fun e w' => ∃ v, e = .returned v ∧ Told w v d.ws w' := by
  obtain ⟨v, A, kept, hr, hS⟩ := h
  have HP := Lib.hid hr
  have HS := Lib.hid hS
  have c0 := hr.bq.cell (i := 0) rfl
  have c1 := hr.bq.cell (i := 1) rfl
  have c2 := hr.bq.cell (i := 2) rfl
  have lq := hr.bq.lt
  obtain ⟨n, hn⟩ : ∃ n, A.length = n := ⟨_, rfl⟩
  have HN := Lib.hid hn
  have hnm : n ≤ m := by have := hr.len; omega
  obtain ⟨Av, cA, rfl, hcn, hcm, hAv⟩ := hr.row.form hn
  have HAV := Lib.hid hAv
  clear hAv hn
  have hk := hr.hk
  have hws := hr.ws
  obtain ⟨A2, hA2⟩ : ∃ A2, (if cA = kept then Av else Av.map (·.add (kept * encA.k))) = A2 := ⟨_, rfl⟩
  have hkn : kept ≤ n := by have := HN.out; omega
  have HSL := Lib.hid (show ∀ W, (Instr.sliceAt TAs (.slice Av n cA) (some (.int .i64 (kept : Int))) none none).run Tryd.prog W = .ok (.slice A2 (n - kept) (cA - kept)) W from fun W => by
    rw [← hA2]
    exact RowE.run_fromE tyA W hkn hcn)
  have HRD := Lib.hid (show Rd encA w.drew (.slice A2 (n - kept) (cA - kept)) (A.drop kept) from by
    rw [← hA2]
    exact RowE.rd_drop (hr.row.rd.below ((Below.refl _ w).drew)) hk)
  rw [hws]
  clear hr hS hk hws hA2
  go_enter Tryd.func39, Tryd.ntmps39
  go_wp2_with fail
  refine wp_region_noPanic ?_
  refine wp_region_held_drew (S := fun W => Below w.heap.size w W) (by kernel_rfl) ((Below.refl _ w).drew) (fun hHeld => ?_)
  refine wpAnyH_take (i := 0) (oi := ⟨some 4, _, _, _, _, _⟩) (v := .slice none 0 0) rfl (by kernel_rfl) (by kernel_rfl) (by kernel_rfl) (fun _ _ _ h => h) (Or.inl ⟨by rfl, fun W hSW => by go_simp⟩) hHeld ?_
  simp only [Act.put, List.setIfInBounds_toArray, List.set_cons_zero, List.set_cons_succ]
  refine wpAnyH_take (i := 1) (oi := ⟨some 5, _, _, _, _, _⟩) (v := .pointer (some ⟨pq, 0, none⟩)) rfl (by kernel_rfl) (by kernel_rfl) (by kernel_rfl) (fun _ _ _ h => h) (Or.inl ⟨by rfl, fun W hSW => by go_simp⟩) hHeld ?_
  simp only [Act.put, List.setIfInBounds_toArray, List.set_cons_zero, List.set_cons_succ]
  refine wpAnyH_take (i := 2) (oi := ⟨some 6, _, _, _, _, _⟩) (v := .pointer (some ⟨pq, 0, none⟩)) rfl (by kernel_rfl) (by kernel_rfl) (by kernel_rfl) (fun _ _ _ h => h) (Or.inl ⟨by rfl, fun W hSW => by go_simp⟩) hHeld ?_
  simp only [Act.put, List.setIfInBounds_toArray, List.set_cons_zero, List.set_cons_succ]
  refine wpAnyH_take (i := 3) (oi := ⟨some 7, _, _, _, _, _⟩) (v := .pointer (some ⟨pq, 1, none⟩)) rfl (by kernel_rfl) (by kernel_rfl) (by kernel_rfl) (fun _ _ _ h => h) (Or.inl ⟨by rfl, fun W hSW => by go_simp⟩) hHeld ?_
  simp only [Act.put, List.setIfInBounds_toArray, List.set_cons_zero, List.set_cons_succ]
  refine wpAnyH_take (i := 4) (oi := ⟨some 8, _, _, _, _, _⟩) (v := .slice Av n cA) rfl (by kernel_rfl) (by kernel_rfl) (by kernel_rfl) (fun _ _ _ h => h) (Or.inl ⟨by rfl, fun W hSW => by have a0 := (hSW.cell (p := ⟨pq, 1, none⟩) lq).trans c1; go_simp⟩) hHeld ?_
  simp only [Act.put, List.setIfInBounds_toArray, List.set_cons_zero, List.set_cons_succ]
  refine wpAnyH_take (i := 5) (oi := ⟨some 9, _, _, _, _, _⟩) (v := .pointer (some ⟨pq, 0, none⟩)) rfl (by kernel_rfl) (by kernel_rfl) (by kernel_rfl) (fun _ _ _ h => h) (Or.inl ⟨by rfl, fun W hSW => by go_simp⟩) hHeld ?_
  simp only [Act.put, List.setIfInBounds_toArray, List.set_cons_zero, List.set_cons_succ]
  refine wpAnyH_take (i := 6) (oi := ⟨some 10, _, _, _, _, _⟩) (v := .pointer (some ⟨pq, 0, none⟩)) rfl (by kernel_rfl) (by kernel_rfl) (by kernel_rfl) (fun _ _ _ h => h) (Or.inl ⟨by rfl, fun W hSW => by go_simp⟩) hHeld ?_
  simp only [Act.put, List.setIfInBounds_toArray, List.set_cons_zero, List.set_cons_succ]
  refine wpAnyH_take (i := 7) (oi := ⟨some 11, _, _, _, _, _⟩) (v := .pointer (some ⟨pq, 2, none⟩)) rfl (by kernel_rfl) (by kernel_rfl) (by kernel_rfl) (fun _ _ _ h => h) (Or.inl ⟨by rfl, fun W hSW => by go_simp⟩) hHeld ?_
  simp only [Act.put, List.setIfInBounds_toArray, List.set_cons_zero, List.set_cons_succ]
  refine wpAnyH_take (i := 8) (oi := ⟨some 12, _, _, _, _, _⟩) (v := .int .i64 (kept : Int)) rfl (by kernel_rfl) (by kernel_rfl) (by kernel_rfl) (fun _ _ _ h => h) (Or.inl ⟨by rfl, fun W hSW => by have a0 := (hSW.cell (p := ⟨pq, 2, none⟩) lq).trans c2; go_simp⟩) hHeld ?_
  simp only [Act.put, List.setIfInBounds_toArray, List.set_cons_zero, List.set_cons_succ]
  refine wpAnyH_take (i := 9) (oi := ⟨some 13, _, _, _, _, _⟩) (v := .slice A2 (n - kept) (cA - kept)) rfl (by kernel_rfl) (by kernel_rfl) (by kernel_rfl) (fun _ _ _ h => h) (Or.inl ⟨by rfl, fun W hSW => by have e := HSL.out W; go_simp⟩) hHeld ?_
  simp only [Act.put, List.setIfInBounds_toArray, List.set_cons_zero, List.set_cons_succ]
  refine wpAnyH_ready (rs := [10]) (by kernel_rfl) (by simp) ?_
  refine AllReadyH.cons (o := ⟨some 14, _, _, _, _, _⟩) rfl (fun K hK => ?_) AllReadyH.nil
  refine RowE.step_appE tyA rfl (.tmp 4) (.tmp 13) rfl (B := w.heap.size) (l0 := []) (l := A.drop kept) rfl rfl (Own.nil _ _ _ _) HRD.out (by simp; omega) (by simp; omega) (Nat.le_refl _) ?_
  intro v' w5 ho5 hg5 hv5
  have HO5 := Lib.hid (show RowG.Own encA TA w5 w.heap.size v' (A.drop kept) by simpa using ho5)
  have HB5 := Lib.hid (show Below w.heap.size w w5 from ((Below.refl _ w).drew).grown hg5 (Nat.le_refl _) (fun k hk => by cases hk))
  clear ho5 hg5 hv5
  refine hK.out _ _ HB5.out (fun hHeldA => ?_)
  clear hK K
  refine wpAnyH_ready (rs := [11]) (by kernel_rfl) (by simp) ?_
  refine AllReadyH.cons (o := ⟨some 2, _, _, _, _, _⟩) rfl (fun K hK => ?_) AllReadyH.nil
  go_simp
  refine hK.out _ _ HB5.out (fun hHeldB => ?_)
  clear hK K
  refine wpAnyH_done (by kernel_rfl) ?_ _
  refine NoPanic.normal ?_
  clear hHeld hHeldA hHeldB
  go_wp2_with fail
  go_ret
  exact ⟨_, rfl, HO5.out, HB5.out⟩
end SecW
end Go.Proofs.YtjcmpcdalghniaaDoor
