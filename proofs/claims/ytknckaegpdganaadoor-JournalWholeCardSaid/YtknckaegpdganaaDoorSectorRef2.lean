/-
  The reference's disk: Cut, Copy, Log.
-/
import Derived.Test.YtknckaegpdganaaDoorSectorRef
-- mine: whole_c same_c awake_c take_c step_c back_c
namespace Go.Proofs.YtknckaegpdganaaDoor
open Go.RowKit
set_option linter.unusedVariables false
set_option linter.unusedSimpArgs false
set_option maxRecDepth 100000
namespace SecW
open BlkP RowG FrS PushG JournalP SecP
set_option maxHeartbeats 16000000 in
theorem rLog_c {w : World} {B pq m : Nat} {d : Dk} {S : Nat → Prop} (h : Rsk w B pq m d S) (hm : m ≤ 1000) :
    Calls Tryd.prog 12 #[.pointer (some ⟨pq, 0, none⟩)] w fun e w' => ∃ v, e = .returned v ∧ Told w v d.ws w' := by
  obtain ⟨v, A, kept, hr, hS⟩ := h
  have HP := Lib.hid hr
  have HS := Lib.hid hS
  have c0 := hr.bq.cell (i := 0) rfl
  have c1 := hr.bq.cell (i := 1) rfl
  have c2 := hr.bq.cell (i := 2) rfl
  have lq := hr.bq.lt
  obtain ⟨n, hn⟩ : ∃ n, A.length = n := ⟨_, rfl⟩
  have HN := Lib.hid hn
  have hnm : n ≤ m := by have := hr.len; omega
  obtain ⟨Av, cA, rfl, hcn, hcm, hAv⟩ := hr.row.form hn
  have HAV := Lib.hid hAv
  clear hAv hn
  have hk := hr.hk
  have hws := hr.ws
  obtain ⟨A2, hA2⟩ : ∃ A2, (if cA = kept then Av else Av.map (·.add (kept * encA.k))) = A2 := ⟨_, rfl⟩
  have hkn : kept ≤ n := by have := HN.out; omega
  have HSL := Lib.hid (show ∀ W, (Instr.sliceAt TAs (.slice Av n cA) (some (.int .i64 (kept : Int))) none none).run Tryd.prog W = .ok (.slice A2 (n - kept) (cA - kept)) W from fun W => by
    rw [← hA2]
    exact RowE.run_fromE tyA W hkn hcn)
  have HRD := Lib.hid (show Rd encA w.drew (.slice A2 (n - kept) (cA - kept)) (A.drop kept) from by
    rw [← hA2]
    exact RowE.rd_drop (hr.row.rd.below ((Below.refl _ w).drew)) hk)
  rw [hws]
  clear hr hS hk hws hA2
  go_enter Tryd.func12, Tryd.ntmps12
  go_wp2_with fail
  refine wp_region_noPanic ?_
  refine wp_region_held_drew (S := fun W => Below w.heap.size w W) (by kernel_rfl) ((Below.refl _ w).drew) (fun hHeld => ?_)
  refine wpAnyH_take (i := 0) (oi := ⟨some 4, _, _, _, _, _⟩) (v := .slice none 0 0) rfl (by kernel_rfl) (by kernel_rfl) (by kernel_rfl) (fun _ _ _ h => h) (Or.inl ⟨by rfl, fun W hSW => by go_simp⟩) hHeld ?_
  simp only [Act.put, List.setIfInBounds_toArray, List.set_cons_zero, List.set_cons_succ]
  refine wpAnyH_take (i := 1) (oi := ⟨some 5, _, _, _, _, _⟩) (v := .pointer (some ⟨pq, 0, none⟩)) rfl (by kernel_rfl) (by kernel_rfl) (by kernel_rfl) (fun _ _ _ h => h) (Or.inl ⟨by rfl, fun W hSW => by go_simp⟩) hHeld ?_
  simp only [Act.put, List.setIfInBounds_toArray, List.set_cons_zero, List.set_cons_succ]
  refine wpAnyH_take (i := 2) (oi := ⟨some 6, _, _, _, _, _⟩) (v := .pointer (some ⟨pq, 0, none⟩)) rfl (by kernel_rfl) (by kernel_rfl) (by kernel_rfl) (fun _ _ _ h => h) (Or.inl ⟨by rfl, fun W hSW => by go_simp⟩) hHeld ?_
  simp only [Act.put, List.setIfInBounds_toArray, List.set_cons_zero, List.set_cons_succ]
  refine wpAnyH_take (i := 3) (oi := ⟨some 7, _, _, _, _, _⟩) (v := .pointer (some ⟨pq, 1, none⟩)) rfl (by kernel_rfl) (by kernel_rfl) (by kernel_rfl) (fun _ _ _ h => h) (Or.inl ⟨by rfl, fun W hSW => by go_simp⟩) hHeld ?_
  simp only [Act.put, List.setIfInBounds_toArray, List.set_cons_zero, List.set_cons_succ]
  refine wpAnyH_take (i := 4) (oi := ⟨some 8, _, _, _, _, _⟩) (v := .slice Av n cA) rfl (by kernel_rfl) (by kernel_rfl) (by kernel_rfl) (fun _ _ _ h => h) (Or.inl ⟨by rfl, fun W hSW => by have a0 := (hSW.cell (p := ⟨pq, 1, none⟩) lq).trans c1; go_simp⟩) hHeld ?_
  simp only [Act.put, List.setIfInBounds_toArray, List.set_cons_zero, List.set_cons_succ]
  refine wpAnyH_take (i := 5) (oi := ⟨some 9, _, _, _, _, _⟩) (v := .pointer (some ⟨pq, 0, none⟩)) rfl (by kernel_rfl) (by kernel_rfl) (by kernel_rfl) (fun _ _ _ h => h) (Or.inl ⟨by rfl, fun W hSW => by go_simp⟩) hHeld ?_
  simp only [Act.put, List.setIfInBounds_toArray, List.set_cons_zero, List.set_cons_succ]
  refine wpAnyH_take (i := 6) (oi := ⟨some 10, _, _, _, _, _⟩) (v := .pointer (some ⟨pq, 0, none⟩)) rfl (by kernel_rfl) (by kernel_rfl) (by kernel_rfl) (fun _ _ _ h => h) (Or.inl ⟨by rfl, fun W hSW => by go_simp⟩) hHeld ?_
  simp only [Act.put, List.setIfInBounds_toArray, List.set_cons_zero, List.set_cons_succ]
  refine wpAnyH_take (i := 7) (oi := ⟨some 11, _, _, _, _, _⟩) (v := .pointer (some ⟨pq, 2, none⟩)) rfl (by kernel_rfl) (by kernel_rfl) (by kernel_rfl) (fun _ _ _ h => h) (Or.inl ⟨by rfl, fun W hSW => by go_simp⟩) hHeld ?_
  simp only [Act.put, List.setIfInBounds_toArray, List.set_cons_zero, List.set_cons_succ]
  refine wpAnyH_take (i := 8) (oi := ⟨some 12, _, _, _, _, _⟩) (v := .int .i64 (kept : Int)) rfl (by kernel_rfl) (by kernel_rfl) (by kernel_rfl) (fun _ _ _ h => h) (Or.inl ⟨by rfl, fun W hSW => by have a0 := (hSW.cell (p := ⟨pq, 2, none⟩) lq).trans c2; go_simp⟩) hHeld ?_
  simp only [Act.put, List.setIfInBounds_toArray, List.set_cons_zero, List.set_cons_succ]
  refine wpAnyH_take (i := 9) (oi := ⟨some 13, _, _, _, _, _⟩) (v := .slice A2 (n - kept) (cA - kept)) rfl (by kernel_rfl) (by kernel_rfl) (by kernel_rfl) (fun _ _ _ h => h) (Or.inl ⟨by rfl, fun W hSW => by have e := HSL.out W; go_simp⟩) hHeld ?_
  simp only [Act.put, List.setIfInBounds_toArray, List.set_cons_zero, List.set_cons_succ]
  refine wpAnyH_ready (rs := [10]) (by kernel_rfl) (by simp) ?_
  refine AllReadyH.cons (o := ⟨some 14, _, _, _, _, _⟩) rfl (fun K hK => ?_) AllReadyH.nil
  refine RowE.step_appE tyA rfl (.tmp 4) (.tmp 13) rfl (B := w.heap.size) (l0 := []) (l := A.drop kept) rfl rfl (Own.nil _ _ _ _) HRD.out (by simp; omega) (by simp; omega) (Nat.le_refl _) ?_
  intro v' w5 ho5 hg5 hv5
  have HO5 := Lib.hid (show RowG.Own encA TA w5 w.heap.size v' (A.drop kept) by simpa using ho5)
  have HB5 := Lib.hid (show Below w.heap.size w w5 from ((Below.refl _ w).drew).grown hg5 (Nat.le_refl _) (fun k hk => by cases hk))
  clear ho5 hg5 hv5
  refine hK.out _ _ HB5.out (fun hHeldA => ?_)
  clear hK K
  refine wpAnyH_ready (rs := [11]) (by kernel_rfl) (by simp) ?_
  refine AllReadyH.cons (o := ⟨some 2, _, _, _, _, _⟩) rfl (fun K hK => ?_) AllReadyH.nil
  go_simp
  refine hK.out _ _ HB5.out (fun hHeldB => ?_)
  clear hK K
  refine wpAnyH_done (by kernel_rfl) ?_ _
  refine NoPanic.normal ?_
  clear hHeld hHeldA hHeldB
  go_wp2_with fail
  go_ret
  exact ⟨_, rfl, HO5.out, HB5.out⟩
end SecW
end Go.Proofs.YtknckaegpdganaaDoor
