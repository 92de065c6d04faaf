/-
  What a cell does, by its kind: the program's Next, and the reference's.
-/
import Derived.Test.YtlahkmkipciiiaaDoorReactMem
namespace Go.Proofs.YtlahkmkipciiiaaDoor
open Go.RowKit
set_option linter.unusedVariables false
set_option linter.unusedSimpArgs false
namespace ReactW
open BlkP RowG FrS PushG CellsW NearW BurnP BurnW ReactP DeedW

theorem ndeed_raw (n : Nr) (d : Nat) : ndeed n d = if n.s.1 = 4 ∨ n.s.1 = 5 ∨ n.s.1 = 8 then ⟨fallD n, 0, 0⟩ else if n.s.1 = 13 then ⟨FlowP.deed (toF n), 0, 0⟩ else if n.s.1 = 14 then fire n d else if n.s.1 = 12 then plant n d else ⟨[], 0, 0⟩ := by
  by_cases hm : KindP.may n.s.1 n.s.2 = true
  · unfold ndeed
    rw [kd_may hm]
  · have hk : kd n.s = 1 := by
      unfold kd
      rw [if_neg hm]
    have h1 : fallD n = [] := by
      unfold fallD
      rw [show FallP.falls n.s = KindP.falls (kd n.s) from rfl, hk]
      rfl
    have h2 : FlowP.deed (toF n) = [] := List.eq_nil_iff_forall_not_mem.2 fun x hx => by
      have := (flow_facts hx).1
      omega
    have h3 : fire n d = ⟨[], 0, 0⟩ := by
      unfold fire
      rw [if_neg (by omega)]
    have h4 : plant n d = ⟨[], 0, 0⟩ := by
      unfold plant
      rw [if_neg (by omega)]
    rw [h1, h2, h3, h4]
    unfold ndeed
    rw [hk, if_neg (by omega), if_neg (by omega), if_neg (by omega), if_neg (by omega)]
    split
    · rfl
    · split
      · rfl
      · split
        · rfl
        · split <;> rfl
theorem ndeed_no {n : Nr} (d : Nat) (hm : KindP.may n.s.1 n.s.2 = false) : ndeed n d = ⟨[], 0, 0⟩ := by
  have hk : kd n.s = 1 := by
    unfold kd
    rw [hm]
    rfl
  unfold ndeed
  rw [hk, if_neg (by omega), if_neg (by omega), if_neg (by omega), if_neg (by omega)]
theorem fallN_q {w : World} {n : Nr} (hT : KindW.Tab w) : Calls Tryd.prog 20 #[nv n] w (DeedQ w ⟨fallD n, 0, 0⟩) := FallW.Next_c hT
theorem flowN_q {w : World} {n : Nr} (hT : KindW.Tab w) : Calls Tryd.prog 21 #[nv n] w (DeedQ w ⟨FlowP.deed (toF n), 0, 0⟩) := FlowW.Next_c (n := toF n) hT
theorem rfallN_q {w : World} {n : Nr} : Calls Tryd.prog 26 #[nv n] w (DeedQ w ⟨fallD n, 0, 0⟩) := FallW.rNext_c
theorem rflowN_q {w : World} {n : Nr} : Calls Tryd.prog 27 #[nv n] w (DeedQ w ⟨FlowP.deed (toF n), 0, 0⟩) := FlowW.rNext_c (n := toF n)
set_option maxRecDepth 100000 in
set_option maxHeartbeats 16000000 in
theorem Next_q {w : World} {n : Nr} {d : Nat} {D : Dd} (hT : KindW.Tab w) (h8 : n.s.1 < 256) (hd : n.dr = (d : Int)) (hd2 : d ≤ 18446744073709551615) (hD : ndeed n d = D) : Calls Tryd.prog 9 #[nv n] w (DeedQ w D) := by
  have HT := Lib.hid hT
  have HDR := Lib.hid hd
  have HD := Lib.hid hD
  obtain ⟨⟨k0, l0⟩, hs0⟩ : ∃ c, n.s = c := ⟨_, rfl⟩
  have HS0 := Lib.hid hs0
  have HRAW := Lib.hid (show D = _ from hD ▸ ndeed_raw n d)
  obtain ⟨s, hs⟩ : ∃ s, w.heap.size = s := ⟨_, rfl⟩
  have HS := Lib.hid hs
  rw [hs0] at h8
  simp only at h8
  clear hT hd hD hs0
  go_enter Tryd.func9, Tryd.ntmps9
  go_wp2_with ((with_reducible refine at_slot 1 ?_); refine Classical.byContradiction (fun hG => ?_))
  refine hG ?_
  clear hG
  refine wp_boxN rfl (.tmp 0) rfl rfl ?_
  intro w1 h1 hb1 hz1
  rw [hs] at h1 hz1
  try rw [hs]
  have HB1 := Lib.hid hb1
  have H1 := Lib.hid h1
  clear h1 hb1
  go_wp2_with ((with_reducible refine at_slot 4 ?_); refine Classical.byContradiction (fun hG => ?_))
  refine hG ?_
  clear hG
  refine list_named (S := fun W => Below w.heap.size w W ∧ Blk W s TN (vals n) ∧ Blk W (s + 1) TD [.slice none 0 0, .int .i64 0, .int .i64 0]) ⟨by have zz := HB1.out.size; (repeat' (first | (with_reducible exact Below.refl _ _) | (with_reducible refine Below.setCell ?_ (by (first | omega | (simp; done) | (simp; omega))) _) | (with_reducible refine Below.alloc ?_ (by (first | omega | (simp; done) | (simp; omega))) _) | (with_reducible refine Below.drew ?_) | (with_reducible refine below_drewN ?_ _) | (with_reducible refine Below.trans ?_ (Below.mono HB1.out (by (first | omega | (simp; done) | (simp; omega))))))), by (repeat' (first | (with_reducible exact H1.out) | (with_reducible refine BlkP.Blk.drew ?_) | (with_reducible refine BlkP.Blk.drewN ?_ _) | (with_reducible refine BlkP.Blk.setAt (us := ?_) (by first | omega | (simp; done) | (simp; omega)) rfl ?_ ?_) | (with_reducible refine BlkP.Blk.otherAt ?_ (by first | omega | (simp; done) | (simp; omega))) | (with_reducible refine BlkP.Blk.newA' (by first | omega | (simp; done) | (simp; omega)) rfl) | (with_reducible refine BlkP.Blk.alloc ?_ _) | (exact rfl))), by (repeat' (first | (with_reducible refine BlkP.Blk.drew ?_) | (with_reducible refine BlkP.Blk.drewN ?_ _) | (with_reducible refine BlkP.Blk.setAt (us := ?_) (by first | omega | (simp; done) | (simp; omega)) rfl ?_ ?_) | (with_reducible refine BlkP.Blk.otherAt ?_ (by first | omega | (simp; done) | (simp; omega))) | (with_reducible refine BlkP.Blk.newA' (by first | omega | (simp; done) | (simp; omega)) rfl) | (with_reducible refine BlkP.Blk.alloc ?_ _) | (exact rfl)))⟩ ?_
  rintro w2 ⟨hb2, h2, hr2⟩
  try rw [hz1]
  have HB2 := Lib.hid hb2
  have H2 := Lib.hid h2
  have HR2 := Lib.hid hr2
  have c0 := h2.cell (i := 0) (g_kind n)
  rw [HS0.out] at c0
  simp only at c0
  have ls := h2.lt
  clear hb2 h2 hr2 hz1 hs
  go_wp2_with fail
  by_cases hfall : k0 = 4 ∨ k0 = 5 ∨ k0 = 8
  · have HF := Lib.hid (show fnv k0 = .func (.func 20) #[] #[] from by unfold fnv; rw [if_pos (by omega)])
    have HDD := Lib.hid (show ⟨fallD n, 0, 0⟩ = D from by
      have h := HRAW.out
      rw [HS0.out] at h
      simp only at h
      rw [if_pos (by omega)] at h
      exact h.symm)
    clear hfall
    refine (habit_c (d := delay k0) h8 rfl HF.out).mono ?_
    rintro e w3 ⟨rfl, hb3⟩
    have HB3 := Lib.hid (below_t HB2.out hb3)
    have H3 := Lib.hid (H2.out.below hb3)
    have HR3 := Lib.hid (HR2.out.below hb3)
    have ls3 := H3.out.lt
    obtain ⟨q, hq⟩ : ∃ q, delay k0 = q := ⟨_, rfl⟩
    rw [hq]
    clear hb3 c0 ls hq
    obtain ⟨b, hb⟩ : ∃ b, w3.heap.size = b := ⟨_, rfl⟩
    go_wp2_with ((with_reducible refine at_storeT TH ?_); refine Classical.byContradiction (fun hG => ?_))
    refine hG ?_
    clear hG
    refine list_named (S := fun W => Below w.heap.size w W ∧ Blk W s TN (vals n) ∧ Blk W (s + 1) TD [.slice none 0 0, .int .i64 0, .int .i64 0] ∧ Blk W b TH [.int .i64 0, .nilFunc]) ⟨by have := HB3.out.size; (repeat' (first | (with_reducible exact Below.refl _ _) | (with_reducible refine Below.setCell ?_ (by (first | omega | (simp; done) | (simp; omega))) _) | (with_reducible refine Below.alloc ?_ (by (first | omega | (simp; done) | (simp; omega))) _) | (with_reducible refine Below.drew ?_) | (with_reducible refine below_drewN ?_ _) | (with_reducible refine Below.trans ?_ (Below.mono HB3.out (by (first | omega | (simp; done) | (simp; omega))))))), by (repeat' (first | (with_reducible exact H3.out) | (with_reducible refine BlkP.Blk.drew ?_) | (with_reducible refine BlkP.Blk.drewN ?_ _) | (with_reducible refine BlkP.Blk.setAt (us := ?_) (by first | omega | (simp; done) | (simp; omega)) rfl ?_ ?_) | (with_reducible refine BlkP.Blk.otherAt ?_ (by first | omega | (simp; done) | (simp; omega))) | (with_reducible refine BlkP.Blk.newA' (by first | omega | (simp; done) | (simp; omega)) rfl) | (with_reducible refine BlkP.Blk.alloc ?_ _) | (exact rfl))), by (repeat' (first | (with_reducible exact HR3.out) | (with_reducible refine BlkP.Blk.drew ?_) | (with_reducible refine BlkP.Blk.drewN ?_ _) | (with_reducible refine BlkP.Blk.setAt (us := ?_) (by first | omega | (simp; done) | (simp; omega)) rfl ?_ ?_) | (with_reducible refine BlkP.Blk.otherAt ?_ (by first | omega | (simp; done) | (simp; omega))) | (with_reducible refine BlkP.Blk.newA' (by first | omega | (simp; done) | (simp; omega)) rfl) | (with_reducible refine BlkP.Blk.alloc ?_ _) | (exact rfl))), by subst hb; (repeat' (first | (with_reducible refine BlkP.Blk.drew ?_) | (with_reducible refine BlkP.Blk.drewN ?_ _) | (with_reducible refine BlkP.Blk.setAt (us := ?_) (by first | omega | (simp; done) | (simp; omega)) rfl ?_ ?_) | (with_reducible refine BlkP.Blk.otherAt ?_ (by first | omega | (simp; done) | (simp; omega))) | (with_reducible refine BlkP.Blk.newA' (by first | omega | (simp; done) | (simp; omega)) rfl) | (with_reducible refine BlkP.Blk.alloc ?_ _) | (exact rfl)))⟩ ?_
    rintro w5 ⟨hb5, h5, hr5, hbb5⟩
    try rw [hb]
    have hbs : w.heap.size ≤ b ∧ s + 1 < b := ⟨by have := HB3.out.size; omega, by have := HR3.out.lt; omega⟩
    refine wp_storeT TH rfl (.tmp 3) (.tmp 7) rfl (vs := [.int .i64 q, .func (.func 20) #[] #[]]) (us := [.int .i64 0, .nilFunc]) sizeH (two_one rfl) rfl rfl rfl hbb5 rfl ?_
    intro w4 hbb hg4 hz4
    have HB4 := Lib.hid (show Below w.heap.size w w4 from hb5.grown hg4 hb5.size (fun q hq => by injection hq with hq; omega))
    have H4 := Lib.hid (h5.grown hg4 (fun q => by injection q with q; omega))
    have HR4 := Lib.hid (hr5.grown hg4 (fun q => by injection q with q; omega))
    have b1 := hbb.cell (i := 1) rfl
    have lb := hbb.lt
    clear hb5 h5 hr5 hbb5 hg4 hz4 hbb hb hbs
    go_wp2_with ((with_reducible refine at_slot 10 ?_); refine Classical.byContradiction (fun hG => ?_))
    refine hG ?_
    clear hG
    refine wp_known rfl (v := .bool false) (by kernel_rfl) ?_
    go_wp2_with ((with_reducible refine at_slot 14 ?_); refine Classical.byContradiction (fun hG => ?_))
    refine hG ?_
    clear hG
    refine wp_loadN rfl (.tmp 1) rfl rfl (n := n) H4.out ?_
    go_wp2_with fail
    refine (fallN_q (HT.out.below HB4.out)).mono ?_
    rintro e w5 ⟨v, rfl, ho, hb5⟩
    rw [HDD.out] at ho ⊢
    obtain ⟨A, cc, rfl, _, _, hAA⟩ := ho.form (n := D.l.length) rfl
    have HB5 := Lib.hid (below_t HB4.out hb5)
    have hr := HR4.out.below hb5
    have HR5 := Lib.hid hr
    have HO := Lib.hid (ho.mono HB4.out.size)
    have r0 := hr.cell (i := 0) rfl
    have f0 := hr.frozen 0
    have r1 := hr.cell (i := 1) rfl
    have f1 := hr.frozen 1
    have r2 := hr.cell (i := 2) rfl
    have f2 := hr.frozen 2
    have rl := hr.lt
    clear ho hb5 hr hAA
    go_wp2_with fail
    refine bodyPost_ret (v := .agg #[.slice A D.l.length cc, .int .i64 D.ag, .int .i64 D.dl]) (by simp [results, Tryd.results9, go_sem, rl, r0, r1, r2]) rfl ?_
    exact ⟨_, rfl, (deed_end HS.out HB5.out HR5.out HO.out).1, (deed_end (D := D) HS.out HB5.out HR5.out HO.out).2⟩
  by_cases hflow : k0 = 13
  · have HF := Lib.hid (show fnv k0 = .func (.func 21) #[] #[] from by unfold fnv; rw [if_neg (by omega), if_pos (by omega)])
    have HDD := Lib.hid (show ⟨FlowP.deed (toF n), 0, 0⟩ = D from by
      have h := HRAW.out
      rw [HS0.out] at h
      simp only at h
      rw [if_neg (by omega), if_pos (by omega)] at h
      exact h.symm)
    clear hfall hflow
    refine (habit_c (d := delay k0) h8 rfl HF.out).mono ?_
    rintro e w3 ⟨rfl, hb3⟩
    have HB3 := Lib.hid (below_t HB2.out hb3)
    have H3 := Lib.hid (H2.out.below hb3)
    have HR3 := Lib.hid (HR2.out.below hb3)
    have ls3 := H3.out.lt
    obtain ⟨q, hq⟩ : ∃ q, delay k0 = q := ⟨_, rfl⟩
    rw [hq]
    clear hb3 c0 ls hq
    obtain ⟨b, hb⟩ : ∃ b, w3.heap.size = b := ⟨_, rfl⟩
    go_wp2_with ((with_reducible refine at_storeT TH ?_); refine Classical.byContradiction (fun hG => ?_))
    refine hG ?_
    clear hG
    refine list_named (S := fun W => Below w.heap.size w W ∧ Blk W s TN (vals n) ∧ Blk W (s + 1) TD [.slice none 0 0, .int .i64 0, .int .i64 0] ∧ Blk W b TH [.int .i64 0, .nilFunc]) ⟨by have := HB3.out.size; (repeat' (first | (with_reducible exact Below.refl _ _) | (with_reducible refine Below.setCell ?_ (by (first | omega | (simp; done) | (simp; omega))) _) | (with_reducible refine Below.alloc ?_ (by (first | omega | (simp; done) | (simp; omega))) _) | (with_reducible refine Below.drew ?_) | (with_reducible refine below_drewN ?_ _) | (with_reducible refine Below.trans ?_ (Below.mono HB3.out (by (first | omega | (simp; done) | (simp; omega))))))), by (repeat' (first | (with_reducible exact H3.out) | (with_reducible refine BlkP.Blk.drew ?_) | (with_reducible refine BlkP.Blk.drewN ?_ _) | (with_reducible refine BlkP.Blk.setAt (us := ?_) (by first | omega | (simp; done) | (simp; omega)) rfl ?_ ?_) | (with_reducible refine BlkP.Blk.otherAt ?_ (by first | omega | (simp; done) | (simp; omega))) | (with_reducible refine BlkP.Blk.newA' (by first | omega | (simp; done) | (simp; omega)) rfl) | (with_reducible refine BlkP.Blk.alloc ?_ _) | (exact rfl))), by (repeat' (first | (with_reducible exact HR3.out) | (with_reducible refine BlkP.Blk.drew ?_) | (with_reducible refine BlkP.Blk.drewN ?_ _) | (with_reducible refine BlkP.Blk.setAt (us := ?_) (by first | omega | (simp; done) | (simp; omega)) rfl ?_ ?_) | (with_reducible refine BlkP.Blk.otherAt ?_ (by first | omega | (simp; done) | (simp; omega))) | (with_reducible refine BlkP.Blk.newA' (by first | omega | (simp; done) | (simp; omega)) rfl) | (with_reducible refine BlkP.Blk.alloc ?_ _) | (exact rfl))), by subst hb; (repeat' (first | (with_reducible refine BlkP.Blk.drew ?_) | (with_reducible refine BlkP.Blk.drewN ?_ _) | (with_reducible refine BlkP.Blk.setAt (us := ?_) (by first | omega | (simp; done) | (simp; omega)) rfl ?_ ?_) | (with_reducible refine BlkP.Blk.otherAt ?_ (by first | omega | (simp; done) | (simp; omega))) | (with_reducible refine BlkP.Blk.newA' (by first | omega | (simp; done) | (simp; omega)) rfl) | (with_reducible refine BlkP.Blk.alloc ?_ _) | (exact rfl)))⟩ ?_
    rintro w5 ⟨hb5, h5, hr5, hbb5⟩
    try rw [hb]
    have hbs : w.heap.size ≤ b ∧ s + 1 < b := ⟨by have := HB3.out.size; omega, by have := HR3.out.lt; omega⟩
    refine wp_storeT TH rfl (.tmp 3) (.tmp 7) rfl (vs := [.int .i64 q, .func (.func 21) #[] #[]]) (us := [.int .i64 0, .nilFunc]) sizeH (two_one rfl) rfl rfl rfl hbb5 rfl ?_
    intro w4 hbb hg4 hz4
    have HB4 := Lib.hid (show Below w.heap.size w w4 from hb5.grown hg4 hb5.size (fun q hq => by injection hq with hq; omega))
    have H4 := Lib.hid (h5.grown hg4 (fun q => by injection q with q; omega))
    have HR4 := Lib.hid (hr5.grown hg4 (fun q => by injection q with q; omega))
    have b1 := hbb.cell (i := 1) rfl
    have lb := hbb.lt
    clear hb5 h5 hr5 hbb5 hg4 hz4 hbb hb hbs
    go_wp2_with ((with_reducible refine at_slot 10 ?_); refine Classical.byContradiction (fun hG => ?_))
    refine hG ?_
    clear hG
    refine wp_known rfl (v := .bool false) (by kernel_rfl) ?_
    go_wp2_with ((with_reducible refine at_slot 14 ?_); refine Classical.byContradiction (fun hG => ?_))
    refine hG ?_
    clear hG
    refine wp_loadN rfl (.tmp 1) rfl rfl (n := n) H4.out ?_
    go_wp2_with fail
    refine (flowN_q (HT.out.below HB4.out)).mono ?_
    rintro e w5 ⟨v, rfl, ho, hb5⟩
    rw [HDD.out] at ho ⊢
    obtain ⟨A, cc, rfl, _, _, hAA⟩ := ho.form (n := D.l.length) rfl
    have HB5 := Lib.hid (below_t HB4.out hb5)
    have hr := HR4.out.below hb5
    have HR5 := Lib.hid hr
    have HO := Lib.hid (ho.mono HB4.out.size)
    have r0 := hr.cell (i := 0) rfl
    have f0 := hr.frozen 0
    have r1 := hr.cell (i := 1) rfl
    have f1 := hr.frozen 1
    have r2 := hr.cell (i := 2) rfl
    have f2 := hr.frozen 2
    have rl := hr.lt
    clear ho hb5 hr hAA
    go_wp2_with fail
    refine bodyPost_ret (v := .agg #[.slice A D.l.length cc, .int .i64 D.ag, .int .i64 D.dl]) (by simp [results, Tryd.results9, go_sem, rl, r0, r1, r2]) rfl ?_
    exact ⟨_, rfl, (deed_end HS.out HB5.out HR5.out HO.out).1, (deed_end (D := D) HS.out HB5.out HR5.out HO.out).2⟩
  by_cases hfire : k0 = 14
  · have HF := Lib.hid (show fnv k0 = .func (.func 22) #[] #[] from by unfold fnv; rw [if_neg (by omega), if_neg (by omega), if_pos (by omega)])
    have HDD := Lib.hid (show fire n d = D from by
      have h := HRAW.out
      rw [HS0.out] at h
      simp only at h
      rw [if_neg (by omega), if_neg (by omega), if_pos (by omega)] at h
      exact h.symm)
    clear hfall hflow hfire
    refine (habit_c (d := delay k0) h8 rfl HF.out).mono ?_
    rintro e w3 ⟨rfl, hb3⟩
    have HB3 := Lib.hid (below_t HB2.out hb3)
    have H3 := Lib.hid (H2.out.below hb3)
    have HR3 := Lib.hid (HR2.out.below hb3)
    have ls3 := H3.out.lt
    obtain ⟨q, hq⟩ : ∃ q, delay k0 = q := ⟨_, rfl⟩
    rw [hq]
    clear hb3 c0 ls hq
    obtain ⟨b, hb⟩ : ∃ b, w3.heap.size = b := ⟨_, rfl⟩
    go_wp2_with ((with_reducible refine at_storeT TH ?_); refine Classical.byContradiction (fun hG => ?_))
    refine hG ?_
    clear hG
    refine list_named (S := fun W => Below w.heap.size w W ∧ Blk W s TN (vals n) ∧ Blk W (s + 1) TD [.slice none 0 0, .int .i64 0, .int .i64 0] ∧ Blk W b TH [.int .i64 0, .nilFunc]) ⟨by have := HB3.out.size; (repeat' (first | (with_reducible exact Below.refl _ _) | (with_reducible refine Below.setCell ?_ (by (first | omega | (simp; done) | (simp; omega))) _) | (with_reducible refine Below.alloc ?_ (by (first | omega | (simp; done) | (simp; omega))) _) | (with_reducible refine Below.drew ?_) | (with_reducible refine below_drewN ?_ _) | (with_reducible refine Below.trans ?_ (Below.mono HB3.out (by (first | omega | (simp; done) | (simp; omega))))))), by (repeat' (first | (with_reducible exact H3.out) | (with_reducible refine BlkP.Blk.drew ?_) | (with_reducible refine BlkP.Blk.drewN ?_ _) | (with_reducible refine BlkP.Blk.setAt (us := ?_) (by first | omega | (simp; done) | (simp; omega)) rfl ?_ ?_) | (with_reducible refine BlkP.Blk.otherAt ?_ (by first | omega | (simp; done) | (simp; omega))) | (with_reducible refine BlkP.Blk.newA' (by first | omega | (simp; done) | (simp; omega)) rfl) | (with_reducible refine BlkP.Blk.alloc ?_ _) | (exact rfl))), by (repeat' (first | (with_reducible exact HR3.out) | (with_reducible refine BlkP.Blk.drew ?_) | (with_reducible refine BlkP.Blk.drewN ?_ _) | (with_reducible refine BlkP.Blk.setAt (us := ?_) (by first | omega | (simp; done) | (simp; omega)) rfl ?_ ?_) | (with_reducible refine BlkP.Blk.otherAt ?_ (by first | omega | (simp; done) | (simp; omega))) | (with_reducible refine BlkP.Blk.newA' (by first | omega | (simp; done) | (simp; omega)) rfl) | (with_reducible refine BlkP.Blk.alloc ?_ _) | (exact rfl))), by subst hb; (repeat' (first | (with_reducible refine BlkP.Blk.drew ?_) | (with_reducible refine BlkP.Blk.drewN ?_ _) | (with_reducible refine BlkP.Blk.setAt (us := ?_) (by first | omega | (simp; done) | (simp; omega)) rfl ?_ ?_) | (with_reducible refine BlkP.Blk.otherAt ?_ (by first | omega | (simp; done) | (simp; omega))) | (with_reducible refine BlkP.Blk.newA' (by first | omega | (simp; done) | (simp; omega)) rfl) | (with_reducible refine BlkP.Blk.alloc ?_ _) | (exact rfl)))⟩ ?_
    rintro w5 ⟨hb5, h5, hr5, hbb5⟩
    try rw [hb]
    have hbs : w.heap.size ≤ b ∧ s + 1 < b := ⟨by have := HB3.out.size; omega, by have := HR3.out.lt; omega⟩
    refine wp_storeT TH rfl (.tmp 3) (.tmp 7) rfl (vs := [.int .i64 q, .func (.func 22) #[] #[]]) (us := [.int .i64 0, .nilFunc]) sizeH (two_one rfl) rfl rfl rfl hbb5 rfl ?_
    intro w4 hbb hg4 hz4
    have HB4 := Lib.hid (show Below w.heap.size w w4 from hb5.grown hg4 hb5.size (fun q hq => by injection hq with hq; omega))
    have H4 := Lib.hid (h5.grown hg4 (fun q => by injection q with q; omega))
    have HR4 := Lib.hid (hr5.grown hg4 (fun q => by injection q with q; omega))
    have b1 := hbb.cell (i := 1) rfl
    have lb := hbb.lt
    clear hb5 h5 hr5 hbb5 hg4 hz4 hbb hb hbs
    go_wp2_with ((with_reducible refine at_slot 10 ?_); refine Classical.byContradiction (fun hG => ?_))
    refine hG ?_
    clear hG
    refine wp_known rfl (v := .bool false) (by kernel_rfl) ?_
    go_wp2_with ((with_reducible refine at_slot 14 ?_); refine Classical.byContradiction (fun hG => ?_))
    refine hG ?_
    clear hG
    refine wp_loadN rfl (.tmp 1) rfl rfl (n := n) H4.out ?_
    go_wp2_with fail
    refine (Fire_c (HT.out.below HB4.out) HDR.out hd2).mono ?_
    rintro e w5 ⟨v, rfl, ho, hb5⟩
    rw [HDD.out] at ho ⊢
    obtain ⟨A, cc, rfl, _, _, hAA⟩ := ho.form (n := D.l.length) rfl
    have HB5 := Lib.hid (below_t HB4.out hb5)
    have hr := HR4.out.below hb5
    have HR5 := Lib.hid hr
    have HO := Lib.hid (ho.mono HB4.out.size)
    have r0 := hr.cell (i := 0) rfl
    have f0 := hr.frozen 0
    have r1 := hr.cell (i := 1) rfl
    have f1 := hr.frozen 1
    have r2 := hr.cell (i := 2) rfl
    have f2 := hr.frozen 2
    have rl := hr.lt
    clear ho hb5 hr hAA
    go_wp2_with fail
    refine bodyPost_ret (v := .agg #[.slice A D.l.length cc, .int .i64 D.ag, .int .i64 D.dl]) (by simp [results, Tryd.results9, go_sem, rl, r0, r1, r2]) rfl ?_
    exact ⟨_, rfl, (deed_end HS.out HB5.out HR5.out HO.out).1, (deed_end (D := D) HS.out HB5.out HR5.out HO.out).2⟩
  by_cases hplant : k0 = 12
  · have HF := Lib.hid (show fnv k0 = .func (.func 23) #[] #[] from by unfold fnv; rw [if_neg (by omega), if_neg (by omega), if_neg (by omega), if_pos (by omega)])
    have HDD := Lib.hid (show plant n d = D from by
      have h := HRAW.out
      rw [HS0.out] at h
      simp only at h
      rw [if_neg (by omega), if_neg (by omega), if_neg (by omega), if_pos (by omega)] at h
      exact h.symm)
    clear hfall hflow hfire hplant
    refine (habit_c (d := delay k0) h8 rfl HF.out).mono ?_
    rintro e w3 ⟨rfl, hb3⟩
    have HB3 := Lib.hid (below_t HB2.out hb3)
    have H3 := Lib.hid (H2.out.below hb3)
    have HR3 := Lib.hid (HR2.out.below hb3)
    have ls3 := H3.out.lt
    obtain ⟨q, hq⟩ : ∃ q, delay k0 = q := ⟨_, rfl⟩
    rw [hq]
    clear hb3 c0 ls hq
    obtain ⟨b, hb⟩ : ∃ b, w3.heap.size = b := ⟨_, rfl⟩
    go_wp2_with ((with_reducible refine at_storeT TH ?_); refine Classical.byContradiction (fun hG => ?_))
    refine hG ?_
    clear hG
    refine list_named (S := fun W => Below w.heap.size w W ∧ Blk W s TN (vals n) ∧ Blk W (s + 1) TD [.slice none 0 0, .int .i64 0, .int .i64 0] ∧ Blk W b TH [.int .i64 0, .nilFunc]) ⟨by have := HB3.out.size; (repeat' (first | (with_reducible exact Below.refl _ _) | (with_reducible refine Below.setCell ?_ (by (first | omega | (simp; done) | (simp; omega))) _) | (with_reducible refine Below.alloc ?_ (by (first | omega | (simp; done) | (simp; omega))) _) | (with_reducible refine Below.drew ?_) | (with_reducible refine below_drewN ?_ _) | (with_reducible refine Below.trans ?_ (Below.mono HB3.out (by (first | omega | (simp; done) | (simp; omega))))))), by (repeat' (first | (with_reducible exact H3.out) | (with_reducible refine BlkP.Blk.drew ?_) | (with_reducible refine BlkP.Blk.drewN ?_ _) | (with_reducible refine BlkP.Blk.setAt (us := ?_) (by first | omega | (simp; done) | (simp; omega)) rfl ?_ ?_) | (with_reducible refine BlkP.Blk.otherAt ?_ (by first | omega | (simp; done) | (simp; omega))) | (with_reducible refine BlkP.Blk.newA' (by first | omega | (simp; done) | (simp; omega)) rfl) | (with_reducible refine BlkP.Blk.alloc ?_ _) | (exact rfl))), by (repeat' (first | (with_reducible exact HR3.out) | (with_reducible refine BlkP.Blk.drew ?_) | (with_reducible refine BlkP.Blk.drewN ?_ _) | (with_reducible refine BlkP.Blk.setAt (us := ?_) (by first | omega | (simp; done) | (simp; omega)) rfl ?_ ?_) | (with_reducible refine BlkP.Blk.otherAt ?_ (by first | omega | (simp; done) | (simp; omega))) | (with_reducible refine BlkP.Blk.newA' (by first | omega | (simp; done) | (simp; omega)) rfl) | (with_reducible refine BlkP.Blk.alloc ?_ _) | (exact rfl))), by subst hb; (repeat' (first | (with_reducible refine BlkP.Blk.drew ?_) | (with_reducible refine BlkP.Blk.drewN ?_ _) | (with_reducible refine BlkP.Blk.setAt (us := ?_) (by first | omega | (simp; done) | (simp; omega)) rfl ?_ ?_) | (with_reducible refine BlkP.Blk.otherAt ?_ (by first | omega | (simp; done) | (simp; omega))) | (with_reducible refine BlkP.Blk.newA' (by first | omega | (simp; done) | (simp; omega)) rfl) | (with_reducible refine BlkP.Blk.alloc ?_ _) | (exact rfl)))⟩ ?_
    rintro w5 ⟨hb5, h5, hr5, hbb5⟩
    try rw [hb]
    have hbs : w.heap.size ≤ b ∧ s + 1 < b := ⟨by have := HB3.out.size; omega, by have := HR3.out.lt; omega⟩
    refine wp_storeT TH rfl (.tmp 3) (.tmp 7) rfl (vs := [.int .i64 q, .func (.func 23) #[] #[]]) (us := [.int .i64 0, .nilFunc]) sizeH (two_one rfl) rfl rfl rfl hbb5 rfl ?_
    intro w4 hbb hg4 hz4
    have HB4 := Lib.hid (show Below w.heap.size w w4 from hb5.grown hg4 hb5.size (fun q hq => by injection hq with hq; omega))
    have H4 := Lib.hid (h5.grown hg4 (fun q => by injection q with q; omega))
    have HR4 := Lib.hid (hr5.grown hg4 (fun q => by injection q with q; omega))
    have b1 := hbb.cell (i := 1) rfl
    have lb := hbb.lt
    clear hb5 h5 hr5 hbb5 hg4 hz4 hbb hb hbs
    go_wp2_with ((with_reducible refine at_slot 10 ?_); refine Classical.byContradiction (fun hG => ?_))
    refine hG ?_
    clear hG
    refine wp_known rfl (v := .bool false) (by kernel_rfl) ?_
    go_wp2_with ((with_reducible refine at_slot 14 ?_); refine Classical.byContradiction (fun hG => ?_))
    refine hG ?_
    clear hG
    refine wp_loadN rfl (.tmp 1) rfl rfl (n := n) H4.out ?_
    go_wp2_with fail
    refine (Plant_c (HT.out.below HB4.out) HDR.out hd2).mono ?_
    rintro e w5 ⟨v, rfl, ho, hb5⟩
    rw [HDD.out] at ho ⊢
    obtain ⟨A, cc, rfl, _, _, hAA⟩ := ho.form (n := D.l.length) rfl
    have HB5 := Lib.hid (below_t HB4.out hb5)
    have hr := HR4.out.below hb5
    have HR5 := Lib.hid hr
    have HO := Lib.hid (ho.mono HB4.out.size)
    have r0 := hr.cell (i := 0) rfl
    have f0 := hr.frozen 0
    have r1 := hr.cell (i := 1) rfl
    have f1 := hr.frozen 1
    have r2 := hr.cell (i := 2) rfl
    have f2 := hr.frozen 2
    have rl := hr.lt
    clear ho hb5 hr hAA
    go_wp2_with fail
    refine bodyPost_ret (v := .agg #[.slice A D.l.length cc, .int .i64 D.ag, .int .i64 D.dl]) (by simp [results, Tryd.results9, go_sem, rl, r0, r1, r2]) rfl ?_
    exact ⟨_, rfl, (deed_end HS.out HB5.out HR5.out HO.out).1, (deed_end (D := D) HS.out HB5.out HR5.out HO.out).2⟩
  have HF := Lib.hid (show fnv k0 = .nilFunc from by unfold fnv; rw [if_neg (by omega), if_neg (by omega), if_neg (by omega), if_neg (by omega)])
  have HDD := Lib.hid (show (⟨[], 0, 0⟩ : Dd) = D from by
    have h := HRAW.out
    rw [HS0.out] at h
    simp only at h
    rw [if_neg (by omega), if_neg (by omega), if_neg (by omega), if_neg (by omega)] at h
    exact h.symm)
  clear hfall hflow hfire hplant
  refine (habit_c (d := delay k0) h8 rfl HF.out).mono ?_
  rintro e w3 ⟨rfl, hb3⟩
  have HB3 := Lib.hid (below_t HB2.out hb3)
  have H3 := Lib.hid (H2.out.below hb3)
  have HR3 := Lib.hid (HR2.out.below hb3)
  have ls3 := H3.out.lt
  obtain ⟨q, hq⟩ : ∃ q, delay k0 = q := ⟨_, rfl⟩
  rw [hq]
  clear hb3 c0 ls hq
  obtain ⟨b, hb⟩ : ∃ b, w3.heap.size = b := ⟨_, rfl⟩
  go_wp2_with ((with_reducible refine at_storeT TH ?_); refine Classical.byContradiction (fun hG => ?_))
  refine hG ?_
  clear hG
  refine list_named (S := fun W => Below w.heap.size w W ∧ Blk W s TN (vals n) ∧ Blk W (s + 1) TD [.slice none 0 0, .int .i64 0, .int .i64 0] ∧ Blk W b TH [.int .i64 0, .nilFunc]) ⟨by have := HB3.out.size; (repeat' (first | (with_reducible exact Below.refl _ _) | (with_reducible refine Below.setCell ?_ (by (first | omega | (simp; done) | (simp; omega))) _) | (with_reducible refine Below.alloc ?_ (by (first | omega | (simp; done) | (simp; omega))) _) | (with_reducible refine Below.drew ?_) | (with_reducible refine below_drewN ?_ _) | (with_reducible refine Below.trans ?_ (Below.mono HB3.out (by (first | omega | (simp; done) | (simp; omega))))))), by (repeat' (first | (with_reducible exact H3.out) | (with_reducible refine BlkP.Blk.drew ?_) | (with_reducible refine BlkP.Blk.drewN ?_ _) | (with_reducible refine BlkP.Blk.setAt (us := ?_) (by first | omega | (simp; done) | (simp; omega)) rfl ?_ ?_) | (with_reducible refine BlkP.Blk.otherAt ?_ (by first | omega | (simp; done) | (simp; omega))) | (with_reducible refine BlkP.Blk.newA' (by first | omega | (simp; done) | (simp; omega)) rfl) | (with_reducible refine BlkP.Blk.alloc ?_ _) | (exact rfl))), by (repeat' (first | (with_reducible exact HR3.out) | (with_reducible refine BlkP.Blk.drew ?_) | (with_reducible refine BlkP.Blk.drewN ?_ _) | (with_reducible refine BlkP.Blk.setAt (us := ?_) (by first | omega | (simp; done) | (simp; omega)) rfl ?_ ?_) | (with_reducible refine BlkP.Blk.otherAt ?_ (by first | omega | (simp; done) | (simp; omega))) | (with_reducible refine BlkP.Blk.newA' (by first | omega | (simp; done) | (simp; omega)) rfl) | (with_reducible refine BlkP.Blk.alloc ?_ _) | (exact rfl))), by subst hb; (repeat' (first | (with_reducible refine BlkP.Blk.drew ?_) | (with_reducible refine BlkP.Blk.drewN ?_ _) | (with_reducible refine BlkP.Blk.setAt (us := ?_) (by first | omega | (simp; done) | (simp; omega)) rfl ?_ ?_) | (with_reducible refine BlkP.Blk.otherAt ?_ (by first | omega | (simp; done) | (simp; omega))) | (with_reducible refine BlkP.Blk.newA' (by first | omega | (simp; done) | (simp; omega)) rfl) | (with_reducible refine BlkP.Blk.alloc ?_ _) | (exact rfl)))⟩ ?_
  rintro w5 ⟨hb5, h5, hr5, hbb5⟩
  try rw [hb]
  have hbs : w.heap.size ≤ b ∧ s + 1 < b := ⟨by have := HB3.out.size; omega, by have := HR3.out.lt; omega⟩
  refine wp_storeT TH rfl (.tmp 3) (.tmp 7) rfl (vs := [.int .i64 q, .nilFunc]) (us := [.int .i64 0, .nilFunc]) sizeH (two_one rfl) rfl rfl rfl hbb5 rfl ?_
  intro w4 hbb hg4 hz4
  have HB4 := Lib.hid (show Below w.heap.size w w4 from hb5.grown hg4 hb5.size (fun q hq => by injection hq with hq; omega))
  have H4 := Lib.hid (h5.grown hg4 (fun q => by injection q with q; omega))
  have HR4 := Lib.hid (hr5.grown hg4 (fun q => by injection q with q; omega))
  have b1 := hbb.cell (i := 1) rfl
  have lb := hbb.lt
  clear hb5 h5 hr5 hbb5 hg4 hz4 hbb hb hbs
  go_wp2_with ((with_reducible refine at_slot 10 ?_); refine Classical.byContradiction (fun hG => ?_))
  refine hG ?_
  clear hG
  refine wp_known rfl (v := .bool true) (by kernel_rfl) ?_
  have hr := HR4.out
  have r0 := hr.cell (i := 0) rfl
  have f0 := hr.frozen 0
  have r1 := hr.cell (i := 1) rfl
  have f1 := hr.frozen 1
  have r2 := hr.cell (i := 2) rfl
  have f2 := hr.frozen 2
  have rl := hr.lt
  clear hr
  go_wp2_with fail
  refine bodyPost_ret (v := .agg #[.slice none 0 0, .int .i64 0, .int .i64 0]) (by simp [results, Tryd.results9, go_sem, rl, r0, r1, r2]) rfl ?_
  rw [← HDD.out]
  exact ⟨_, rfl, (deed_end (D := ⟨[], 0, 0⟩) HS.out HB4.out HR4.out (Own.nil _ _ _ _)).1, (deed_end (D := ⟨[], 0, 0⟩) HS.out HB4.out HR4.out (Own.nil _ _ _ _)).2⟩
set_option maxRecDepth 100000 in
set_option maxHeartbeats 16000000 in
theorem rNext_q {w : World} {n : Nr} {d : Nat} {D : Dd} (hd : n.dr = (d : Int)) (hd2 : d ≤ 18446744073709551615) (hD : ndeed n d = D) : Calls Tryd.prog 8 #[nv n] w (DeedQ w D) := by
  have HDR := Lib.hid hd
  have HD := Lib.hid hD
  obtain ⟨⟨k0, l0⟩, hs0⟩ : ∃ c, n.s = c := ⟨_, rfl⟩
  have HS0 := Lib.hid hs0
  have HRAW := Lib.hid (show D = _ from hD ▸ ndeed_raw n d)
  obtain ⟨s, hs⟩ : ∃ s, w.heap.size = s := ⟨_, rfl⟩
  have HS := Lib.hid hs
  have HNO := Lib.hid (show KindP.may k0 l0 = false → D = ⟨[], 0, 0⟩ from fun h => hD ▸ ndeed_no d (by rw [hs0]; exact h))
  clear hd hD hs0
  go_enter Tryd.func8, Tryd.ntmps8
  go_wp2_with ((with_reducible refine at_slot 1 ?_); refine Classical.byContradiction (fun hG => ?_))
  refine hG ?_
  clear hG
  refine wp_boxN rfl (.tmp 0) rfl rfl ?_
  intro w1 h1 hb1 hz1
  rw [hs] at h1 hz1
  try rw [hs]
  have HB1 := Lib.hid hb1
  have H1 := Lib.hid h1
  clear h1 hb1
  go_wp2_with ((with_reducible refine at_slot 3 ?_); refine Classical.byContradiction (fun hG => ?_))
  refine hG ?_
  clear hG
  refine list_named (S := fun W => Below w.heap.size w W ∧ Blk W s TN (vals n) ∧ Blk W (s + 1) TD [.slice none 0 0, .int .i64 0, .int .i64 0]) ⟨by have zz := HB1.out.size; (repeat' (first | (with_reducible exact Below.refl _ _) | (with_reducible refine Below.setCell ?_ (by (first | omega | (simp; done) | (simp; omega))) _) | (with_reducible refine Below.alloc ?_ (by (first | omega | (simp; done) | (simp; omega))) _) | (with_reducible refine Below.drew ?_) | (with_reducible refine below_drewN ?_ _) | (with_reducible refine Below.trans ?_ (Below.mono HB1.out (by (first | omega | (simp; done) | (simp; omega))))))), by (repeat' (first | (with_reducible exact H1.out) | (with_reducible refine BlkP.Blk.drew ?_) | (with_reducible refine BlkP.Blk.drewN ?_ _) | (with_reducible refine BlkP.Blk.setAt (us := ?_) (by first | omega | (simp; done) | (simp; omega)) rfl ?_ ?_) | (with_reducible refine BlkP.Blk.otherAt ?_ (by first | omega | (simp; done) | (simp; omega))) | (with_reducible refine BlkP.Blk.newA' (by first | omega | (simp; done) | (simp; omega)) rfl) | (with_reducible refine BlkP.Blk.alloc ?_ _) | (exact rfl))), by (repeat' (first | (with_reducible refine BlkP.Blk.drew ?_) | (with_reducible refine BlkP.Blk.drewN ?_ _) | (with_reducible refine BlkP.Blk.setAt (us := ?_) (by first | omega | (simp; done) | (simp; omega)) rfl ?_ ?_) | (with_reducible refine BlkP.Blk.otherAt ?_ (by first | omega | (simp; done) | (simp; omega))) | (with_reducible refine BlkP.Blk.newA' (by first | omega | (simp; done) | (simp; omega)) rfl) | (with_reducible refine BlkP.Blk.alloc ?_ _) | (exact rfl)))⟩ ?_
  rintro w2 ⟨hb2, h2, hr2⟩
  try rw [hz1]
  have HB2 := Lib.hid hb2
  have H2 := Lib.hid h2
  have HR2 := Lib.hid hr2
  have c0 := h2.cell (i := 0) (g_kind n)
  have c1 := h2.cell (i := 1) (g_lev n)
  rw [HS0.out] at c0 c1
  simp only at c0 c1
  have ls := h2.lt
  clear hb2 h2 hr2 hz1 hs
  go_wp2_with fail
  obtain ⟨bm, hm⟩ : ∃ b, KindP.may k0 l0 = b := ⟨_, rfl⟩
  refine (KindW.r_may_b hm _).mono ?_
  rintro e w3 ⟨rfl, hb3⟩
  have HB3 := Lib.hid (below_t HB2.out hb3)
  have h3 := H2.out.below hb3
  have H3 := Lib.hid h3
  have HR3 := Lib.hid (HR2.out.below hb3)
  have c0 := h3.cell (i := 0) (g_kind n)
  rw [HS0.out] at c0
  simp only at c0
  have ls := h3.lt
  clear hb3 c1 h3
  cases bm with
  | false =>
    have HDD := Lib.hid (show (⟨[], 0, 0⟩ : Dd) = D from (HNO.out hm).symm)
    clear hm
    have hr := HR3.out
    have r0 := hr.cell (i := 0) rfl
    have f0 := hr.frozen 0
    have r1 := hr.cell (i := 1) rfl
    have f1 := hr.frozen 1
    have r2 := hr.cell (i := 2) rfl
    have f2 := hr.frozen 2
    have rl := hr.lt
    clear hr
    go_wp2_with fail
    refine bodyPost_ret (v := .agg #[.slice none 0 0, .int .i64 0, .int .i64 0]) (by simp [results, Tryd.results8, go_sem, rl, r0, r1, r2]) rfl ?_
    rw [← HDD.out]
    exact ⟨_, rfl, (deed_end (D := ⟨[], 0, 0⟩) HS.out HB3.out HR3.out (Own.nil _ _ _ _)).1, (deed_end (D := ⟨[], 0, 0⟩) HS.out HB3.out HR3.out (Own.nil _ _ _ _)).2⟩
  | true =>
    clear hm
    by_cases h4 : k0 = 4
    · have HDD := Lib.hid (show ⟨fallD n, 0, 0⟩ = D from by
        have h := HRAW.out
        rw [HS0.out] at h
        simp only at h
        rw [if_pos (by omega)] at h
        exact h.symm)
      subst h4
      go_wp2_with ((with_reducible refine at_slot 15 ?_); refine Classical.byContradiction (fun hG => ?_))
      refine hG ?_
      clear hG
      refine wp_loadN rfl (.tmp 1) rfl rfl (n := n) H3.out ?_
      go_wp2_with fail
      refine (rfallN_q).mono ?_
      rintro e w4 ⟨v, rfl, ho, hb4⟩
      rw [HDD.out] at ho ⊢
      obtain ⟨A, cc, rfl, _, _, hAA⟩ := ho.form (n := D.l.length) rfl
      have HB4 := Lib.hid (below_t HB3.out hb4)
      have hr := HR3.out.below hb4
      have HR4 := Lib.hid hr
      have HO := Lib.hid (ho.mono HB3.out.size)
      have r0 := hr.cell (i := 0) rfl
      have f0 := hr.frozen 0
      have r1 := hr.cell (i := 1) rfl
      have f1 := hr.frozen 1
      have r2 := hr.cell (i := 2) rfl
      have f2 := hr.frozen 2
      have rl := hr.lt
      clear ho hb4 hr hAA
      go_wp2_with fail
      refine bodyPost_ret (v := .agg #[.slice A D.l.length cc, .int .i64 D.ag, .int .i64 D.dl]) (by simp [results, Tryd.results8, go_sem, rl, r0, r1, r2]) rfl ?_
      exact ⟨_, rfl, (deed_end HS.out HB4.out HR4.out HO.out).1, (deed_end (D := D) HS.out HB4.out HR4.out HO.out).2⟩
    by_cases h5 : k0 = 5
    · have HDD := Lib.hid (show ⟨fallD n, 0, 0⟩ = D from by
        have h := HRAW.out
        rw [HS0.out] at h
        simp only at h
        rw [if_pos (by omega)] at h
        exact h.symm)
      subst h5
      go_wp2_with ((with_reducible refine at_slot 15 ?_); refine Classical.byContradiction (fun hG => ?_))
      refine hG ?_
      clear hG
      refine wp_loadN rfl (.tmp 1) rfl rfl (n := n) H3.out ?_
      go_wp2_with fail
      refine (rfallN_q).mono ?_
      rintro e w4 ⟨v, rfl, ho, hb4⟩
      rw [HDD.out] at ho ⊢
      obtain ⟨A, cc, rfl, _, _, hAA⟩ := ho.form (n := D.l.length) rfl
      have HB4 := Lib.hid (below_t HB3.out hb4)
      have hr := HR3.out.below hb4
      have HR4 := Lib.hid hr
      have HO := Lib.hid (ho.mono HB3.out.size)
      have r0 := hr.cell (i := 0) rfl
      have f0 := hr.frozen 0
      have r1 := hr.cell (i := 1) rfl
      have f1 := hr.frozen 1
      have r2 := hr.cell (i := 2) rfl
      have f2 := hr.frozen 2
      have rl := hr.lt
      clear ho hb4 hr hAA
      go_wp2_with fail
      refine bodyPost_ret (v := .agg #[.slice A D.l.length cc, .int .i64 D.ag, .int .i64 D.dl]) (by simp [results, Tryd.results8, go_sem, rl, r0, r1, r2]) rfl ?_
      exact ⟨_, rfl, (deed_end HS.out HB4.out HR4.out HO.out).1, (deed_end (D := D) HS.out HB4.out HR4.out HO.out).2⟩
    by_cases h8 : k0 = 8
    · have HDD := Lib.hid (show ⟨fallD n, 0, 0⟩ = D from by
        have h := HRAW.out
        rw [HS0.out] at h
        simp only at h
        rw [if_pos (by omega)] at h
        exact h.symm)
      subst h8
      go_wp2_with ((with_reducible refine at_slot 15 ?_); refine Classical.byContradiction (fun hG => ?_))
      refine hG ?_
      clear hG
      refine wp_loadN rfl (.tmp 1) rfl rfl (n := n) H3.out ?_
      go_wp2_with fail
      refine (rfallN_q).mono ?_
      rintro e w4 ⟨v, rfl, ho, hb4⟩
      rw [HDD.out] at ho ⊢
      obtain ⟨A, cc, rfl, _, _, hAA⟩ := ho.form (n := D.l.length) rfl
      have HB4 := Lib.hid (below_t HB3.out hb4)
      have hr := HR3.out.below hb4
      have HR4 := Lib.hid hr
      have HO := Lib.hid (ho.mono HB3.out.size)
      have r0 := hr.cell (i := 0) rfl
      have f0 := hr.frozen 0
      have r1 := hr.cell (i := 1) rfl
      have f1 := hr.frozen 1
      have r2 := hr.cell (i := 2) rfl
      have f2 := hr.frozen 2
      have rl := hr.lt
      clear ho hb4 hr hAA
      go_wp2_with fail
      refine bodyPost_ret (v := .agg #[.slice A D.l.length cc, .int .i64 D.ag, .int .i64 D.dl]) (by simp [results, Tryd.results8, go_sem, rl, r0, r1, r2]) rfl ?_
      exact ⟨_, rfl, (deed_end HS.out HB4.out HR4.out HO.out).1, (deed_end (D := D) HS.out HB4.out HR4.out HO.out).2⟩
    by_cases h13 : k0 = 13
    · have HDD := Lib.hid (show ⟨FlowP.deed (toF n), 0, 0⟩ = D from by
        have h := HRAW.out
        rw [HS0.out] at h
        simp only at h
        rw [if_neg (by omega), if_pos (by omega)] at h
        exact h.symm)
      subst h13
      go_wp2_with ((with_reducible refine at_slot 19 ?_); refine Classical.byContradiction (fun hG => ?_))
      refine hG ?_
      clear hG
      refine wp_loadN rfl (.tmp 1) rfl rfl (n := n) H3.out ?_
      go_wp2_with fail
      refine (rflowN_q).mono ?_
      rintro e w4 ⟨v, rfl, ho, hb4⟩
      rw [HDD.out] at ho ⊢
      obtain ⟨A, cc, rfl, _, _, hAA⟩ := ho.form (n := D.l.length) rfl
      have HB4 := Lib.hid (below_t HB3.out hb4)
      have hr := HR3.out.below hb4
      have HR4 := Lib.hid hr
      have HO := Lib.hid (ho.mono HB3.out.size)
      have r0 := hr.cell (i := 0) rfl
      have f0 := hr.frozen 0
      have r1 := hr.cell (i := 1) rfl
      have f1 := hr.frozen 1
      have r2 := hr.cell (i := 2) rfl
      have f2 := hr.frozen 2
      have rl := hr.lt
      clear ho hb4 hr hAA
      go_wp2_with fail
      refine bodyPost_ret (v := .agg #[.slice A D.l.length cc, .int .i64 D.ag, .int .i64 D.dl]) (by simp [results, Tryd.results8, go_sem, rl, r0, r1, r2]) rfl ?_
      exact ⟨_, rfl, (deed_end HS.out HB4.out HR4.out HO.out).1, (deed_end (D := D) HS.out HB4.out HR4.out HO.out).2⟩
    by_cases h14 : k0 = 14
    · have HDD := Lib.hid (show fire n d = D from by
        have h := HRAW.out
        rw [HS0.out] at h
        simp only at h
        rw [if_neg (by omega), if_neg (by omega), if_pos (by omega)] at h
        exact h.symm)
      subst h14
      go_wp2_with ((with_reducible refine at_slot 23 ?_); refine Classical.byContradiction (fun hG => ?_))
      refine hG ?_
      clear hG
      refine wp_loadN rfl (.tmp 1) rfl rfl (n := n) H3.out ?_
      go_wp2_with fail
      refine (rFire_c HDR.out hd2).mono ?_
      rintro e w4 ⟨v, rfl, ho, hb4⟩
      rw [HDD.out] at ho ⊢
      obtain ⟨A, cc, rfl, _, _, hAA⟩ := ho.form (n := D.l.length) rfl
      have HB4 := Lib.hid (below_t HB3.out hb4)
      have hr := HR3.out.below hb4
      have HR4 := Lib.hid hr
      have HO := Lib.hid (ho.mono HB3.out.size)
      have r0 := hr.cell (i := 0) rfl
      have f0 := hr.frozen 0
      have r1 := hr.cell (i := 1) rfl
      have f1 := hr.frozen 1
      have r2 := hr.cell (i := 2) rfl
      have f2 := hr.frozen 2
      have rl := hr.lt
      clear ho hb4 hr hAA
      go_wp2_with fail
      refine bodyPost_ret (v := .agg #[.slice A D.l.length cc, .int .i64 D.ag, .int .i64 D.dl]) (by simp [results, Tryd.results8, go_sem, rl, r0, r1, r2]) rfl ?_
      exact ⟨_, rfl, (deed_end HS.out HB4.out HR4.out HO.out).1, (deed_end (D := D) HS.out HB4.out HR4.out HO.out).2⟩
    by_cases h12 : k0 = 12
    · have HDD := Lib.hid (show plant n d = D from by
        have h := HRAW.out
        rw [HS0.out] at h
        simp only at h
        rw [if_neg (by omega), if_neg (by omega), if_neg (by omega), if_pos (by omega)] at h
        exact h.symm)
      subst h12
      go_wp2_with ((with_reducible refine at_slot 27 ?_); refine Classical.byContradiction (fun hG => ?_))
      refine hG ?_
      clear hG
      refine wp_loadN rfl (.tmp 1) rfl rfl (n := n) H3.out ?_
      go_wp2_with fail
      refine (rPlant_c HDR.out hd2).mono ?_
      rintro e w4 ⟨v, rfl, ho, hb4⟩
      rw [HDD.out] at ho ⊢
      obtain ⟨A, cc, rfl, _, _, hAA⟩ := ho.form (n := D.l.length) rfl
      have HB4 := Lib.hid (below_t HB3.out hb4)
      have hr := HR3.out.below hb4
      have HR4 := Lib.hid hr
      have HO := Lib.hid (ho.mono HB3.out.size)
      have r0 := hr.cell (i := 0) rfl
      have f0 := hr.frozen 0
      have r1 := hr.cell (i := 1) rfl
      have f1 := hr.frozen 1
      have r2 := hr.cell (i := 2) rfl
      have f2 := hr.frozen 2
      have rl := hr.lt
      clear ho hb4 hr hAA
      go_wp2_with fail
      refine bodyPost_ret (v := .agg #[.slice A D.l.length cc, .int .i64 D.ag, .int .i64 D.dl]) (by simp [results, Tryd.results8, go_sem, rl, r0, r1, r2]) rfl ?_
      exact ⟨_, rfl, (deed_end HS.out HB4.out HR4.out HO.out).1, (deed_end (D := D) HS.out HB4.out HR4.out HO.out).2⟩
    have HDD := Lib.hid (show (⟨[], 0, 0⟩ : Dd) = D from by
      have h := HRAW.out
      rw [HS0.out] at h
      simp only at h
      rw [if_neg (by omega), if_neg (by omega), if_neg (by omega), if_neg (by omega)] at h
      exact h.symm)
    have i4 : ((k0 : Int) == 4) = false := by simp; omega
    have i5 : ((k0 : Int) == 5) = false := by simp; omega
    have i8 : ((k0 : Int) == 8) = false := by simp; omega
    have i13 : ((k0 : Int) == 13) = false := by simp; omega
    have i14 : ((k0 : Int) == 14) = false := by simp; omega
    have i12 : ((k0 : Int) == 12) = false := by simp; omega
    clear h4 h5 h8 h13 h14 h12
    have hr := HR3.out
    have r0 := hr.cell (i := 0) rfl
    have f0 := hr.frozen 0
    have r1 := hr.cell (i := 1) rfl
    have f1 := hr.frozen 1
    have r2 := hr.cell (i := 2) rfl
    have f2 := hr.frozen 2
    have rl := hr.lt
    clear hr
    go_wp2_with fail
    refine bodyPost_ret (v := .agg #[.slice none 0 0, .int .i64 0, .int .i64 0]) (by simp [results, Tryd.results8, go_sem, rl, r0, r1, r2]) rfl ?_
    rw [← HDD.out]
    exact ⟨_, rfl, (deed_end (D := ⟨[], 0, 0⟩) HS.out HB3.out HR3.out (Own.nil _ _ _ _)).1, (deed_end (D := ⟨[], 0, 0⟩) HS.out HB3.out HR3.out (Own.nil _ _ _ _)).2⟩
end ReactW
end Go.Proofs.YtlahkmkipciiiaaDoor
