/-
  The reference's disk: New, Blank, Read, Writes, Mark, Write.
-/
import Derived.Test.YtknckaegpdganaaDoorSectorBlank
-- mine: whole_c same_c awake_c take_c step_c back_c
namespace Go.Proofs.YtknckaegpdganaaDoor
open Go.RowKit
set_option linter.unusedVariables false
set_option linter.unusedSimpArgs false
set_option maxRecDepth 100000
namespace SecW
open BlkP RowG FrS PushG JournalP SecP
theorem run_from {w : World} {s : Sec} {k : Nat} (h : k ≤ s.length) : (Instr.sliceAt 9 (.string (str s)) (some (.int .i64 (k : Int))) none none).run Tryd.prog w = .ok (.string (str (s.drop k))) w := by
  have h1 : (k : Int) ≤ (s.length : Int) := by omega
  have hz := str_size s
  have he : (str s).extract k s.length = str (s.drop k) := by
    unfold str
    apply ByteArray.ext
    simp [ByteArray.extract, ByteArray.copySlice]
    try exact List.take_of_length_le (by rw [List.length_drop]; exact Nat.le_refl _)
  simp [Instr.sliceAt, Instr.slice, run_underlying BytesW.under9, Instr.sliceBounds, run_sliceBound, h1, h, Result.andThen, hz, he]
theorem run_catP {w : World} {s : Sec} (h : s.length ≤ 512) : (binOp .add 9 (.string (str s)) (.string (str (SecP.blank.drop s.length)))).run Tryd.prog w = .ok (.string (str (pad s))) w := by
  have h2 := run_string_add_lists (P := Tryd.prog) w s (SecP.blank.drop s.length) (by omega) (by rw [List.length_drop, blank_len]; omega)
  rw [pad_drop] at h2
  rw [binOp_string_add]
  exact h2
theorem cat_pad {s : Sec} : str s ++ str (SecP.blank.drop s.length) = str (pad s) := by
  unfold str
  rw [ByteArray.mk_append_mk, pad_drop]
theorem drop_len {s : Sec} (h : s.length ≤ 512) : (SecP.blank.drop s.length).length = 512 - s.length := by rw [List.length_drop, blank_len]
theorem RTurned.mono1 {w w' : World} {B pq m : Nat} {d : Dk} {S : Nat → Prop} (h : RTurned w B pq m S d w') : RTurned w B pq (m + 1) S d w' := by
  obtain ⟨S', h1, h2, h3⟩ := h
  exact ⟨S', h1.mono (Nat.le_refl _) (Nat.le_succ _), h2, h3⟩
set_option maxHeartbeats 16000000 in
theorem rNew_no {w : World} {n : Int} (hn : n < 256 ∨ 131072 < n) :
    Calls Tryd.prog 27 #[.int .i64 n] w fun e w' => e = .returned (.tuple #[.pointer none, .int .i64 2]) ∧ w' = w := by
  rcases hn with hn | hn
  · go_enter Tryd.func27, Tryd.ntmps27
    go_wp2_with fail
    refine bodyPost_ret (v := .tuple #[.pointer none, .int .i64 2]) (by simp [results, Tryd.results27, go_sem]) rfl ?_
    exact ⟨rfl, rfl⟩
  · have hn2 : ¬ n < 256 := by omega
    go_enter Tryd.func27, Tryd.ntmps27
    go_wp2_with fail
    refine bodyPost_ret (v := .tuple #[.pointer none, .int .i64 2]) (by simp [results, Tryd.results27, go_sem]) rfl ?_
    exact ⟨rfl, rfl⟩
set_option maxHeartbeats 16000000 in
theorem rNew_c {w : World} {k : Nat} (g1 : 256 ≤ k) (g2 : k ≤ 131072) :
    Calls Tryd.prog 27 #[.int .i64 (k : Int)] w fun e w' => ∃ p, e = .returned (.tuple #[.pointer (some ⟨p, 0, none⟩), .int .i64 0]) ∧ RMade w p 0 (SecP.mk k) w' := by
  have h1 : ¬ (k : Int) < 256 := by omega
  have h2 : ¬ 131072 < (k : Int) := by omega
  have G := Lib.hid (And.intro g1 g2)
  clear g1 g2
  go_enter Tryd.func27, Tryd.ntmps27
  go_wp2_with fail
  refine bodyPost_ret (v := .tuple #[.pointer (some ⟨w.heap.size, 0, none⟩), .int .i64 0]) (by simp [results, Tryd.results27, go_sem]) rfl ?_
  refine ⟨w.heap.size, rfl, _, ⟨.slice none 0 0, [], 0, ⟨by (repeat' (first | (with_reducible refine BlkP.Blk.drew ?_) | (with_reducible refine BlkP.Blk.drewN ?_ _) | (with_reducible refine BlkP.Blk.setAt (us := ?_) (by first | omega | (simp; done) | (simp; omega)) rfl ?_ ?_) | (with_reducible refine BlkP.Blk.otherAt ?_ (by first | omega | (simp; done) | (simp; omega))) | (with_reducible refine BlkP.Blk.newA' (by first | omega | (simp; done) | (simp; omega)) rfl) | (with_reducible refine BlkP.Blk.alloc ?_ _) | (exact rfl))), Own.nil _ _ _ _, Nat.le_refl _, all_new k, Ok.new G.out.1 G.out.2, fun x hx => (by cases hx), Nat.le_refl _, Nat.le_refl _⟩, fun k => Iff.rfl⟩, by (repeat' (first | (with_reducible exact Below.refl _ _) | (with_reducible refine Below.setCell ?_ (by (first | omega | (simp; done) | (simp; omega))) _) | (with_reducible refine Below.alloc ?_ (by (first | omega | (simp; done) | (simp; omega))) _) | (with_reducible refine Below.drew ?_) | (with_reducible refine below_drewN ?_ _)))⟩
set_option maxHeartbeats 16000000 in
theorem rBlank_c {w : World} :
    Calls Tryd.prog 41 #[] w fun e w' => e = .returned (.string (str SecP.blank)) ∧ Below w.heap.size w w' := by
  go_enter Tryd.func41, Tryd.ntmps41
  go_wp2_with ((with_reducible refine at_slot 1 ?_); refine Classical.byContradiction (fun hG => ?_))
  refine hG ?_
  clear hG
  refine wp_makeZ rfl _ _ rfl (n := 512) (z := 512) rfl rfl rfl (by omega) ?_
  intro w1 ha hb
  have HAT := Lib.hid ha
  have B1 := Lib.hid hb
  clear ha hb
  go_wp2_with ((with_reducible refine at_slot 2 ?_); refine Classical.byContradiction (fun hG => ?_))
  refine hG ?_
  clear hG
  refine BytesW.wp_strC rfl (.tmp 1) rfl (c := 512) (l := List.replicate 512 0) (by rw [List.length_replicate]; rfl) HAT.out ?_
  have e0 : (Value.string ⟨(List.replicate 512 (0 : UInt8)).toArray⟩) = .string (str SecP.blank) := rfl
  rw [e0]
  clear e0
  go_wp2_with fail
  go_ret
  exact ⟨rfl, B1.out⟩
set_option maxHeartbeats 16000000 in
theorem rRead_c {w : World} {B pq m : Nat} {d : Dk} {S : Nat → Prop} {i : Int} (h : Rsk w B pq m d S) (hm : m ≤ 1000) :
    Calls Tryd.prog 40 #[.pointer (some ⟨pq, 0, none⟩), .int .i64 i] w fun e w' => e = .returned (.tuple #[.string (str (readD d i)), .int .i64 (readE d i)]) ∧ Below w.heap.size w w' := by
  obtain ⟨v, A, kept, hr, hS⟩ := h
  have HP := Lib.hid hr
  have HS := Lib.hid hS
  have c0 := hr.bq.cell (i := 0) rfl
  have c1 := hr.bq.cell (i := 1) rfl
  have c2 := hr.bq.cell (i := 2) rfl
  have lq := hr.bq.lt
  obtain ⟨n, hn⟩ : ∃ n, A.length = n := ⟨_, rfl⟩
  have HN := Lib.hid hn
  have hnm : n ≤ m := by have := hr.len; omega
  obtain ⟨Av, cA, rfl, hcn, hcm, hAv⟩ := hr.row.form hn
  have HAV := Lib.hid hAv
  clear hAv hn
  clear hr hS
  by_cases hi : 0 ≤ i ∧ i < d.n
  · obtain ⟨j, rfl⟩ : ∃ j : Nat, i = (j : Int) := ⟨i.toNat, by omega⟩
    have hj : j < d.n := by omega
    have hb : inD d (j : Int) = true := inD_iff.2 hi
    have HR := Lib.hid (show readD d (j : Int) = d.now j by unfold readD; rw [if_pos hb]; rfl)
    have HE := Lib.hid (show readE d (j : Int) = 0 by unfold readE; rw [if_pos hb])
    have hi0 : ¬ (j : Int) < 0 := by omega
    have hi1 : ¬ (d.n : Int) ≤ (j : Int) := by omega
    clear hi hb
    rw [HR.out, HE.out]
    go_enter Tryd.func40, Tryd.ntmps40
    go_wp2_with fail
    go_loopw [6] (fun v6 wr => ∃ (k : Nat) (q : Int), v6 = .int .i64 q ∧ q = (k : Int) - 1 ∧ k ≤ n ∧ (∀ t x, k ≤ t → A[t]? = some x → x.1 ≠ j) ∧ wr = w) (fun v _ => (RowKit.intOf v + 1).toNat)
    case atStart => exact ⟨n, _, rfl, by first | rfl | (unfold wrap64; omega) | (simp; omega), Nat.le_refl _, fun t x ht hx => absurd (List.getElem?_eq_some_iff.1 hx).1 (by have := HN.out; omega), rfl⟩
    case round =>
      obtain ⟨k, q, rfl, hq, hk, hno, rfl⟩ := hrel
      cases k with
      | zero =>
        have hq0 : ¬ (0 : Int) ≤ q := by omega
        have HV := Lib.hid (show d.now j = SecP.blank by
          rw [HP.out.now]
          exact app_never (f := zero) (fun t y hy => hno t y (Nat.zero_le _) hy))
        clear hno hq
        go_wp2_with fail
        refine rBlank_c.mono ?_
        rintro e w1 ⟨rfl, hb1⟩
        go_wp2_with fail
        refine bodyPost_ret (v := .tuple #[.string (str SecP.blank), .int .i64 0]) (by simp [results, Tryd.results40, go_sem]) rfl ?_
        exact ⟨by rw [HV.out], hb1⟩
      | succ k =>
        obtain rfl : q = (k : Int) := by omega
        obtain ⟨⟨xa, xs⟩, hx⟩ : ∃ x, A[k]? = some x := ⟨_, List.getElem?_eq_getElem (by have := HN.out; omega)⟩
        obtain ⟨g, rfl, _, _⟩ := HAV.out (by omega)
        have x0 : wr.cell? ⟨g, k * 2, none⟩ = some (.int .i64 (xa : Int)) := HP.out.row.cell (j := 0) hx rfl
        have x1 : wr.cell? ⟨g, k * 2 + 1, none⟩ = some (.string (str xs)) := HP.out.row.cell (j := 1) hx rfl
        have gl := (HP.out.row.ge g rfl).2
        have hkI : (k : Int) < (n : Int) := by omega
        have hge : (0 : Int) ≤ (k : Int) := by omega
        have HNO := Lib.hid hno
        have HX := Lib.hid hx
        clear hno hq hx
        by_cases hxj : xa = j
        · subst hxj
          have HV := Lib.hid (show d.now xa = xs by
            rw [HP.out.now]
            exact app_last HX.out (fun t ht y hy => HNO.out t y ht hy))
          go_wp2_with fail
          refine bodyPost_ret (v := .tuple #[.string (str xs), .int .i64 0]) (by simp [results, Tryd.results40, go_sem]) rfl ?_
          exact ⟨by rw [HV.out], Below.refl _ _⟩
        · have hxI : ¬ (xa : Int) = (j : Int) := by omega
          have HNO2 := Lib.hid (show ∀ t x, k ≤ t → A[t]? = some x → x.1 ≠ j from fun t x ht hx2 => by
            rcases Nat.eq_or_lt_of_le ht with e | e
            · subst e
              rw [HX.out] at hx2
              injection hx2 with hx2
              rw [← hx2]
              exact hxj
            · exact HNO.out t x e hx2)
          clear hxj
          go_wp2_with fail
          go_roundw
          case measure => first | (simp [RowKit.intOf]; done) | (simp [RowKit.intOf]; omega)
          case rel => exact ⟨k, _, rfl, by first | rfl | (unfold wrap64; omega) | (simp; omega), by omega, HNO2.out, by first | rfl | trivial⟩
  · have hb : inD d i = false := by
      cases hq : inD d i with
      | false => rfl
      | true => exact absurd (inD_iff.1 hq) hi
    have HR := Lib.hid (show readD d i = [] by unfold readD; rw [hb]; rfl)
    have HE := Lib.hid (show readE d i = 2 by unfold readE; rw [hb]; rfl)
    clear hb
    rw [HR.out, HE.out]
    by_cases hi0 : i < 0
    · clear hi
      go_enter Tryd.func40, Tryd.ntmps40
      go_wp2_with fail
      refine bodyPost_ret (v := .tuple #[.string ⟨#[]⟩, .int .i64 2]) (by simp [results, Tryd.results40, go_sem]) rfl ?_
      exact ⟨rfl, Below.refl _ _⟩
    · have hi1 : (d.n : Int) ≤ i := by omega
      clear hi
      go_enter Tryd.func40, Tryd.ntmps40
      go_wp2_with fail
      refine bodyPost_ret (v := .tuple #[.string ⟨#[]⟩, .int .i64 2]) (by simp [results, Tryd.results40, go_sem]) rfl ?_
      exact ⟨rfl, Below.refl _ _⟩
set_option maxHeartbeats 16000000 in
theorem rMark_c {w : World} {B pq m : Nat} {d : Dk} {S : Nat → Prop} (h : Rsk w B pq m d S) (hm : m ≤ 1000) :
    Calls Tryd.prog 30 #[.pointer (some ⟨pq, 0, none⟩)] w fun e w' => e = .returned (.tuple #[]) ∧ RTurned w B pq m S d.mark w' := by
  obtain ⟨v, A, kept, hr, hS⟩ := h
  have HP := Lib.hid hr
  have HS := Lib.hid hS
  have c0 := hr.bq.cell (i := 0) rfl
  have c1 := hr.bq.cell (i := 1) rfl
  have c2 := hr.bq.cell (i := 2) rfl
  have lq := hr.bq.lt
  obtain ⟨n, hn⟩ : ∃ n, A.length = n := ⟨_, rfl⟩
  have HN := Lib.hid hn
  have hnm : n ≤ m := by have := hr.len; omega
  obtain ⟨Av, cA, rfl, hcn, hcm, hAv⟩ := hr.row.form hn
  have HAV := Lib.hid hAv
  clear hAv hn
  have fq := hr.bq.frozen 2
  clear hr hS
  go_enter Tryd.func30, Tryd.ntmps30
  go_wp2_with fail
  go_end0
  have hmk : d.mark = ofAll d.n A A.length := by
    have := all_mark d.n A kept
    rw [HP.out.is] at this
    exact this
  refine ⟨rfl, S, ⟨_, A, n, ⟨HP.out.bq.set 2 _, HP.out.row.grown (grown_set _ pq 2 _) (.inr HP.out.pqv), by have := HN.out; omega, ?_, HP.out.ok.mark, HP.out.all, HP.out.len, HP.out.lq⟩, HS.out⟩, Fr.set S _ ⟨pq, 2, none⟩ _ ((HS.out pq).2 (.inl rfl)), fun k hk => .inl hk⟩
  rw [← HN.out]
  exact hmk.symm
set_option maxHeartbeats 16000000 in
theorem rWrite_c {w : World} {B pq m : Nat} {d : Dk} {S : Nat → Prop} {i : Int} {s : Sec} (h : Rsk w B pq m d S) (hm : m ≤ 1000) :
    Calls Tryd.prog 29 #[.pointer (some ⟨pq, 0, none⟩), .int .i64 i, .string (str s)] w fun e w' => e = .returned (.int .i64 (writeE d i s)) ∧ RTurned w B pq (m + 1) S (writeD d i s) w' := by
  obtain ⟨v, A, kept, hr, hS⟩ := h
  have HP := Lib.hid hr
  have HS := Lib.hid hS
  have c0 := hr.bq.cell (i := 0) rfl
  have c1 := hr.bq.cell (i := 1) rfl
  have c2 := hr.bq.cell (i := 2) rfl
  have lq := hr.bq.lt
  obtain ⟨n, hn⟩ : ∃ n, A.length = n := ⟨_, rfl⟩
  have HN := Lib.hid hn
  have hnm : n ≤ m := by have := hr.len; omega
  obtain ⟨Av, cA, rfl, hcn, hcm, hAv⟩ := hr.row.form hn
  have HAV := Lib.hid hAv
  clear hAv hn
  have HBZ := Lib.hid (show B ≤ w.heap.size by have := hr.lq; omega)
  have hsz := str_size s
  clear hr hS
  by_cases hi : 0 ≤ i ∧ i < d.n
  · obtain ⟨j, rfl⟩ : ∃ j : Nat, i = (j : Int) := ⟨i.toNat, by omega⟩
    have hj : j < d.n := by omega
    have hb : inD d (j : Int) = true := inD_iff.2 hi
    have hi0 : ¬ (j : Int) < 0 := by omega
    have hi1 : ¬ (d.n : Int) ≤ (j : Int) := by omega
    clear hi
    by_cases hs : s.length ≤ 512
    · have HLS := Lib.hid hs
      have HWD := Lib.hid (show writeD d (j : Int) s = d.write j s by unfold writeD; rw [hb]; simp [hs])
      have HWE := Lib.hid (show writeE d (j : Int) s = 0 by unfold writeE; rw [hb]; simp [hs])
      rw [HWE.out]
      have hsI : ¬ (512 : Int) < (s.length : Int) := by omega
      clear hb hs
      go_enter Tryd.func29, Tryd.ntmps29
      go_wp2_with fail
      refine wp_region_noPanic ?_
      refine wp_region_held_drew (S := fun W => Fr (fun k => k = pq ∨ (Value.slice Av n cA).ownBlock = some k) w W) (by kernel_rfl) ((Fr.refl _ w).drew) (fun hHeld => ?_)
      refine wpAnyH_take (i := 0) (oi := ⟨some 20, _, _, _, _, _⟩) (v := .pointer (some ⟨pq, 0, none⟩)) rfl (by kernel_rfl) (by kernel_rfl) (by kernel_rfl) (fun _ _ _ h => h) (Or.inl ⟨by rfl, fun W hSW => by go_simp⟩) hHeld ?_
      simp only [Act.put, List.setIfInBounds_toArray, List.set_cons_zero, List.set_cons_succ]
      refine wpAnyH_take (i := 1) (oi := ⟨some 21, _, _, _, _, _⟩) (v := .pointer (some ⟨pq, 0, none⟩)) rfl (by kernel_rfl) (by kernel_rfl) (by kernel_rfl) (fun _ _ _ h => h) (Or.inl ⟨by rfl, fun W hSW => by go_simp⟩) hHeld ?_
      simp only [Act.put, List.setIfInBounds_toArray, List.set_cons_zero, List.set_cons_succ]
      refine wpAnyH_take (i := 2) (oi := ⟨some 22, _, _, _, _, _⟩) (v := .pointer (some ⟨pq, 0, none⟩)) rfl (by kernel_rfl) (by kernel_rfl) (by kernel_rfl) (fun _ _ _ h => h) (Or.inl ⟨by rfl, fun W hSW => by go_simp⟩) hHeld ?_
      simp only [Act.put, List.setIfInBounds_toArray, List.set_cons_zero, List.set_cons_succ]
      refine wpAnyH_take (i := 3) (oi := ⟨some 23, _, _, _, _, _⟩) (v := .pointer (some ⟨pq, 1, none⟩)) rfl (by kernel_rfl) (by kernel_rfl) (by kernel_rfl) (fun _ _ _ h => h) (Or.inl ⟨by rfl, fun W hSW => by go_simp⟩) hHeld ?_
      simp only [Act.put, List.setIfInBounds_toArray, List.set_cons_zero, List.set_cons_succ]
      refine wpAnyH_take (i := 5) (oi := ⟨some 25, _, _, _, _, _⟩) (v := .int .i64 (j : Int)) rfl (by kernel_rfl) (by kernel_rfl) (by kernel_rfl) (fun _ _ _ h => h) (Or.inl ⟨by rfl, fun W hSW => by go_simp⟩) hHeld ?_
      simp only [Act.put, List.setIfInBounds_toArray, List.set_cons_zero, List.set_cons_succ]
      refine wpAnyH_take (i := 6) (oi := ⟨some 26, _, _, _, _, _⟩) (v := .string (str s)) rfl (by kernel_rfl) (by kernel_rfl) (by kernel_rfl) (fun _ _ _ h => h) (Or.inl ⟨by rfl, fun W hSW => by go_simp⟩) hHeld ?_
      simp only [Act.put, List.setIfInBounds_toArray, List.set_cons_zero, List.set_cons_succ]
      refine wpAnyH_take (i := 8) (oi := ⟨some 28, _, _, _, _, _⟩) (v := .string (str s)) rfl (by kernel_rfl) (by kernel_rfl) (by kernel_rfl) (fun _ _ _ h => h) (Or.inl ⟨by rfl, fun W hSW => by go_simp⟩) hHeld ?_
      simp only [Act.put, List.setIfInBounds_toArray, List.set_cons_zero, List.set_cons_succ]
      refine wpAnyH_take (i := 9) (oi := ⟨some 29, _, _, _, _, _⟩) (v := .int .i64 (s.length : Int)) rfl (by kernel_rfl) (by kernel_rfl) (by kernel_rfl) (fun _ _ _ h => h) (Or.inl ⟨by rfl, fun W hSW => by have e := hsz; go_simp⟩) hHeld ?_
      simp only [Act.put, List.setIfInBounds_toArray, List.set_cons_zero, List.set_cons_succ]
      refine wpAnyH_ready (rs := [4, 7]) (by kernel_rfl) (by simp) ?_
      refine AllReadyH.cons (o := ⟨some 24, _, _, _, _, _⟩) rfl (fun K hK => ?_) (AllReadyH.cons (o := ⟨some 27, _, _, _, _, _⟩) rfl (fun K hK => ?_) AllReadyH.nil)
      · go_simp
        refine hK.out _ _ hHeld (fun hHeldL => ?_)
        clear hK K
        refine wpAnyH_ready (rs := [7]) (by kernel_rfl) (by simp) ?_
        refine AllReadyH.cons (o := ⟨some 27, _, _, _, _, _⟩) rfl (fun K hK => ?_) AllReadyH.nil
        go_simp
        refine (rBlank_c).mono ?_
        rintro e w2 ⟨rfl, hb2⟩
        go_wp2_with fail
        have HF2 := Lib.hid (show Fr (fun k => k = pq ∨ (Value.slice Av n cA).ownBlock = some k) w w2 from (Fr.refl _ w).drew.trans (Fr.below (fun k => k = pq ∨ (Value.slice Av n cA).ownBlock = some k) hb2) (fun i hi => .inl hi))
        have HB2 := Lib.hid (show Below w.heap.size w w2 from ((Below.refl _ w).drew).trans hb2)
        have HR2 := Lib.hid (HP.out.fr (Fr.below (fun _ => False) HB2.out) (fun _ _ q => q))
        refine hK.out _ _ HF2.out (fun hHeldC => ?_)
        clear hK K hb2
        refine wpAnyH_take (i := 10) (oi := ⟨some 30, _, _, _, _, _⟩) (v := .string (str (SecP.blank.drop s.length))) rfl (by kernel_rfl) (by kernel_rfl) (by kernel_rfl) (fun _ _ _ h => h) (Or.inl ⟨by rfl, fun W hSW => by have e := run_from (w := W) (s := SecP.blank) (k := s.length) (by rw [blank_len]; exact HLS.out); go_simp⟩) hHeldC ?_
        simp only [Act.put, List.setIfInBounds_toArray, List.set_cons_zero, List.set_cons_succ]
        refine wpAnyH_take (i := 11) (oi := ⟨some 31, _, _, _, _, _⟩) (v := .string (str (pad s))) rfl (by kernel_rfl) (by kernel_rfl) (by kernel_rfl) (fun _ _ _ h => h) (Or.inl ⟨by rfl, fun W hSW => by have e1 := cat_pad (s := s); have e2 := str_size (SecP.blank.drop s.length); have e3 := drop_len HLS.out; rw [e3] at e2; have e4 : ¬ (9223372036854775807 < s.length + (512 - s.length)) := (by have := HLS.out; omega); go_simp⟩) hHeldC ?_
        simp only [Act.put, List.setIfInBounds_toArray, List.set_cons_zero, List.set_cons_succ]
        refine wpAnyH_take (i := 12) (oi := ⟨some 32, _, _, _, _, _⟩) (v := .agg #[.int .i64 (j : Int), .string (str (pad s))]) rfl (by kernel_rfl) (by kernel_rfl) (by kernel_rfl) (fun _ _ _ h => h) (Or.inl ⟨by rfl, fun W hSW => by go_simp⟩) hHeldC ?_
        simp only [Act.put, List.setIfInBounds_toArray, List.set_cons_zero, List.set_cons_succ]
        refine wpAnyH_ready (rs := [13]) (by kernel_rfl) (by simp) ?_
        refine AllReadyH.cons (o := ⟨some 33, _, _, _, _, _⟩) rfl (fun K hK => ?_) AllReadyH.nil
        go_simp
        refine hK.out _ _ (HF2.out.trans (Fr.alloc _ _ _) (fun i hi => .inl hi)) (fun hHeldB => ?_)
        clear hK K
        refine wpAnyH_ready (rs := [14]) (by kernel_rfl) (by simp) ?_
        refine AllReadyH.cons (o := ⟨some 34, _, _, _, _, _⟩) rfl (fun K hK => ?_) AllReadyH.nil
        refine RowE.step_pushE tyA (by decide) rfl (.tmp 24) (.tmp 33) rfl (w0 := w2) (B := B) (v := .slice Av n cA) (l := A) (y := (j, pad s)) rfl rfl rfl HR2.out.row rfl rfl (by have := HN.out; omega) (by have := HBZ.out; have := HB2.out.size; omega) ?_
        intro g c w5 hpu
        rw [HN.out] at hpu ⊢
        have hfr : Fr (fun k => k = pq ∨ (Value.slice Av n cA).ownBlock = some k) w w5 := HF2.out.trans (Fr.grown (S := (fun k => k = pq ∨ (Value.slice Av n cA).ownBlock = some k)) hpu.2.1 (fun i hi => .inr hi)) (fun i hi => .inl hi)
        have HFR := Lib.hid hfr
        have HO5 := Lib.hid hpu.1
        have HG5 := Lib.hid (show (Value.slice Av n cA).ownBlock = some g ∨ w2.heap.size ≤ g from hpu.2.2)
        have hb5 : Blk w5 pq TRD [.int .i64 (d.n : Int), .slice Av n cA, .int .i64 (kept : Int)] := HR2.out.bq.grown hpu.2.1 (fun e => HP.out.pqv e.symm)
        have HB5 := Lib.hid hb5
        clear hpu
        refine hK.out _ _ hfr (fun hHeldD => ?_)
        clear hK K hfr
        refine wpAnyH_take (i := 15) (oi := ⟨some 35, _, _, _, _, _⟩) (v := .pointer (some ⟨pq, 0, none⟩)) rfl (by kernel_rfl) (by kernel_rfl) (by kernel_rfl) (fun _ _ _ h => h) (Or.inl ⟨by rfl, fun W hSW => by go_simp⟩) hHeldD ?_
        simp only [Act.put, List.setIfInBounds_toArray, List.set_cons_zero, List.set_cons_succ]
        refine wpAnyH_take (i := 16) (oi := ⟨some 36, _, _, _, _, _⟩) (v := .pointer (some ⟨pq, 1, none⟩)) rfl (by kernel_rfl) (by kernel_rfl) (by kernel_rfl) (fun _ _ _ h => h) (Or.inl ⟨by rfl, fun W hSW => by go_simp⟩) hHeldD ?_
        simp only [Act.put, List.setIfInBounds_toArray, List.set_cons_zero, List.set_cons_succ]
        refine wpAnyH_ready (rs := [17]) (by kernel_rfl) (by simp) ?_
        refine AllReadyH.cons (o := ⟨none, _, _, _, _, _⟩) rfl (fun K hK => ?_) AllReadyH.nil
        have f0 := hb5.frozen 1
        have e0 := hb5.cell (i := 1) rfl
        have l0 := hb5.lt
        clear hb5
        go_simp
        refine hK.out _ _ (HFR.out.trans (Fr.set (fun k => k = pq ∨ (Value.slice Av n cA).ownBlock = some k) _ _ _ (.inl rfl)) (fun i hi => .inl hi)) (fun hHeldE => ?_)
        clear hK K f0 e0 l0
        refine wpAnyH_done (by kernel_rfl) ?_ _
        refine NoPanic.normal ?_
        have hz2 := HB2.out.size
        refine HeldP.then_named (S := fun W => RTurned w B pq (m + 1) S (d.write j s) W) ?_ ?_
        · have hgp : g ≠ pq := fun e => by
            rcases HG5.out with q | q
            · exact HP.out.pqv (by rw [q, e])
            · have := HP.out.bq.lt
              omega
          refine ⟨fun k => k = pq ∨ (Value.slice (some ⟨g, 0, none⟩) (n + 1) c).ownBlock = some k, ⟨_, A ++ [(j, pad s)], kept, ⟨HB5.out.set 1 _, HO5.out.grown (grown_set _ pq 1 _) (.inr (fun e => hgp (by simpa [Value.ownBlock] using e))), ?_, ?_, HP.out.ok.writeN hj HLS.out, ?_, ?_, HP.out.lq⟩, fun k => Iff.rfl⟩, hHeldE.mono (fun k hk => (HS.out k).2 hk), fun k hk => ?_⟩
          · have := HP.out.hk
            rw [List.length_append]
            omega
          · have e1 : (d.write j s).n = d.n := rfl
            rw [e1, ← all_write HP.out.hk, HP.out.is]
          · intro x hx
            rcases List.mem_append.1 hx with hx | hx
            · exact HP.out.all x hx
            · obtain rfl := List.mem_singleton.1 hx
              exact ⟨hj, pad_len HLS.out⟩
          · rw [List.length_append]
            have := HP.out.len
            simp
            omega
          · rcases hk with q | q
            · exact .inl ((HS.out k).2 (.inl q))
            · have e : g = k := by simpa [Value.ownBlock] using q
              subst e
              rcases HG5.out with q2 | q2
              · exact .inl ((HS.out g).2 (.inr q2))
              · exact .inr (by omega)
        rintro w6 ht6
        have T6 := Lib.hid ht6
        clear ht6
        go_wp2_with fail
        go_ret
        rw [HWD.out]
        exact ⟨rfl, T6.out⟩
      · go_simp
        refine (rBlank_c).mono ?_
        rintro e w2 ⟨rfl, hb2⟩
        go_wp2_with fail
        have HF2 := Lib.hid (show Fr (fun k => k = pq ∨ (Value.slice Av n cA).ownBlock = some k) w w2 from (Fr.refl _ w).drew.trans (Fr.below (fun k => k = pq ∨ (Value.slice Av n cA).ownBlock = some k) hb2) (fun i hi => .inl hi))
        have HB2 := Lib.hid (show Below w.heap.size w w2 from ((Below.refl _ w).drew).trans hb2)
        have HR2 := Lib.hid (HP.out.fr (Fr.below (fun _ => False) HB2.out) (fun _ _ q => q))
        refine hK.out _ _ HF2.out (fun hHeldC => ?_)
        clear hK K hb2
        refine wpAnyH_take (i := 10) (oi := ⟨some 30, _, _, _, _, _⟩) (v := .string (str (SecP.blank.drop s.length))) rfl (by kernel_rfl) (by kernel_rfl) (by kernel_rfl) (fun _ _ _ h => h) (Or.inl ⟨by rfl, fun W hSW => by have e := run_from (w := W) (s := SecP.blank) (k := s.length) (by rw [blank_len]; exact HLS.out); go_simp⟩) hHeldC ?_
        simp only [Act.put, List.setIfInBounds_toArray, List.set_cons_zero, List.set_cons_succ]
        refine wpAnyH_take (i := 11) (oi := ⟨some 31, _, _, _, _, _⟩) (v := .string (str (pad s))) rfl (by kernel_rfl) (by kernel_rfl) (by kernel_rfl) (fun _ _ _ h => h) (Or.inl ⟨by rfl, fun W hSW => by have e1 := cat_pad (s := s); have e2 := str_size (SecP.blank.drop s.length); have e3 := drop_len HLS.out; rw [e3] at e2; have e4 : ¬ (9223372036854775807 < s.length + (512 - s.length)) := (by have := HLS.out; omega); go_simp⟩) hHeldC ?_
        simp only [Act.put, List.setIfInBounds_toArray, List.set_cons_zero, List.set_cons_succ]
        refine wpAnyH_take (i := 12) (oi := ⟨some 32, _, _, _, _, _⟩) (v := .agg #[.int .i64 (j : Int), .string (str (pad s))]) rfl (by kernel_rfl) (by kernel_rfl) (by kernel_rfl) (fun _ _ _ h => h) (Or.inl ⟨by rfl, fun W hSW => by go_simp⟩) hHeldC ?_
        simp only [Act.put, List.setIfInBounds_toArray, List.set_cons_zero, List.set_cons_succ]
        refine wpAnyH_ready (rs := [4, 13]) (by kernel_rfl) (by simp) ?_
        refine AllReadyH.cons (o := ⟨some 24, _, _, _, _, _⟩) rfl (fun K hK => ?_) (AllReadyH.cons (o := ⟨some 33, _, _, _, _, _⟩) rfl (fun K hK => ?_) AllReadyH.nil)
        · have c1b := HR2.out.bq.cell (i := 1) rfl
          have lqb := HR2.out.bq.lt
          go_simp
          refine hK.out _ _ hHeldC (fun hHeldL => ?_)
          clear hK K c1b lqb
          refine wpAnyH_ready (rs := [13]) (by kernel_rfl) (by simp) ?_
          refine AllReadyH.cons (o := ⟨some 33, _, _, _, _, _⟩) rfl (fun K hK => ?_) AllReadyH.nil
          go_simp
          refine hK.out _ _ (HF2.out.trans (Fr.alloc _ _ _) (fun i hi => .inl hi)) (fun hHeldB => ?_)
          clear hK K
          refine wpAnyH_ready (rs := [14]) (by kernel_rfl) (by simp) ?_
          refine AllReadyH.cons (o := ⟨some 34, _, _, _, _, _⟩) rfl (fun K hK => ?_) AllReadyH.nil
          refine RowE.step_pushE tyA (by decide) rfl (.tmp 24) (.tmp 33) rfl (w0 := w2) (B := B) (v := .slice Av n cA) (l := A) (y := (j, pad s)) rfl rfl rfl HR2.out.row rfl rfl (by have := HN.out; omega) (by have := HBZ.out; have := HB2.out.size; omega) ?_
          intro g c w5 hpu
          rw [HN.out] at hpu ⊢
          have hfr : Fr (fun k => k = pq ∨ (Value.slice Av n cA).ownBlock = some k) w w5 := HF2.out.trans (Fr.grown (S := (fun k => k = pq ∨ (Value.slice Av n cA).ownBlock = some k)) hpu.2.1 (fun i hi => .inr hi)) (fun i hi => .inl hi)
          have HFR := Lib.hid hfr
          have HO5 := Lib.hid hpu.1
          have HG5 := Lib.hid (show (Value.slice Av n cA).ownBlock = some g ∨ w2.heap.size ≤ g from hpu.2.2)
          have hb5 : Blk w5 pq TRD [.int .i64 (d.n : Int), .slice Av n cA, .int .i64 (kept : Int)] := HR2.out.bq.grown hpu.2.1 (fun e => HP.out.pqv e.symm)
          have HB5 := Lib.hid hb5
          clear hpu
          refine hK.out _ _ hfr (fun hHeldD => ?_)
          clear hK K hfr
          refine wpAnyH_take (i := 15) (oi := ⟨some 35, _, _, _, _, _⟩) (v := .pointer (some ⟨pq, 0, none⟩)) rfl (by kernel_rfl) (by kernel_rfl) (by kernel_rfl) (fun _ _ _ h => h) (Or.inl ⟨by rfl, fun W hSW => by go_simp⟩) hHeldD ?_
          simp only [Act.put, List.setIfInBounds_toArray, List.set_cons_zero, List.set_cons_succ]
          refine wpAnyH_take (i := 16) (oi := ⟨some 36, _, _, _, _, _⟩) (v := .pointer (some ⟨pq, 1, none⟩)) rfl (by kernel_rfl) (by kernel_rfl) (by kernel_rfl) (fun _ _ _ h => h) (Or.inl ⟨by rfl, fun W hSW => by go_simp⟩) hHeldD ?_
          simp only [Act.put, List.setIfInBounds_toArray, List.set_cons_zero, List.set_cons_succ]
          refine wpAnyH_ready (rs := [17]) (by kernel_rfl) (by simp) ?_
          refine AllReadyH.cons (o := ⟨none, _, _, _, _, _⟩) rfl (fun K hK => ?_) AllReadyH.nil
          have f0 := hb5.frozen 1
          have e0 := hb5.cell (i := 1) rfl
          have l0 := hb5.lt
          clear hb5
          go_simp
          refine hK.out _ _ (HFR.out.trans (Fr.set (fun k => k = pq ∨ (Value.slice Av n cA).ownBlock = some k) _ _ _ (.inl rfl)) (fun i hi => .inl hi)) (fun hHeldE => ?_)
          clear hK K f0 e0 l0
          refine wpAnyH_done (by kernel_rfl) ?_ _
          refine NoPanic.normal ?_
          have hz2 := HB2.out.size
          refine HeldP.then_named (S := fun W => RTurned w B pq (m + 1) S (d.write j s) W) ?_ ?_
          · have hgp : g ≠ pq := fun e => by
              rcases HG5.out with q | q
              · exact HP.out.pqv (by rw [q, e])
              · have := HP.out.bq.lt
                omega
            refine ⟨fun k => k = pq ∨ (Value.slice (some ⟨g, 0, none⟩) (n + 1) c).ownBlock = some k, ⟨_, A ++ [(j, pad s)], kept, ⟨HB5.out.set 1 _, HO5.out.grown (grown_set _ pq 1 _) (.inr (fun e => hgp (by simpa [Value.ownBlock] using e))), ?_, ?_, HP.out.ok.writeN hj HLS.out, ?_, ?_, HP.out.lq⟩, fun k => Iff.rfl⟩, hHeldE.mono (fun k hk => (HS.out k).2 hk), fun k hk => ?_⟩
            · have := HP.out.hk
              rw [List.length_append]
              omega
            · have e1 : (d.write j s).n = d.n := rfl
              rw [e1, ← all_write HP.out.hk, HP.out.is]
            · intro x hx
              rcases List.mem_append.1 hx with hx | hx
              · exact HP.out.all x hx
              · obtain rfl := List.mem_singleton.1 hx
                exact ⟨hj, pad_len HLS.out⟩
            · rw [List.length_append]
              have := HP.out.len
              simp
              omega
            · rcases hk with q | q
              · exact .inl ((HS.out k).2 (.inl q))
              · have e : g = k := by simpa [Value.ownBlock] using q
                subst e
                rcases HG5.out with q2 | q2
                · exact .inl ((HS.out g).2 (.inr q2))
                · exact .inr (by omega)
          rintro w6 ht6
          have T6 := Lib.hid ht6
          clear ht6
          go_wp2_with fail
          go_ret
          rw [HWD.out]
          exact ⟨rfl, T6.out⟩
        · go_simp
          refine hK.out _ _ (HF2.out.trans (Fr.alloc _ _ _) (fun i hi => .inl hi)) (fun hHeldB => ?_)
          clear hK K
          refine wpAnyH_ready (rs := [4]) (by kernel_rfl) (by simp) ?_
          refine AllReadyH.cons (o := ⟨some 24, _, _, _, _, _⟩) rfl (fun K hK => ?_) AllReadyH.nil
          have c1b := HR2.out.bq.cell (i := 1) rfl
          have lqb := HR2.out.bq.lt
          have c1c : (w2.alloc (.cells #[.int .i64 (j : Int), .string (str (pad s))] TA)).cell? ⟨pq, 1, none⟩ = some (.slice Av n cA) := (World.cell?_alloc_lt _ _ _ lqb).trans c1b
          have lqc := Nat.lt_of_lt_of_le lqb (Nat.le_succ _)
          go_simp
          refine hK.out _ _ hHeldB (fun hHeldL => ?_)
          clear hK K c1b lqb c1c lqc
          refine wpAnyH_ready (rs := [14]) (by kernel_rfl) (by simp) ?_
          refine AllReadyH.cons (o := ⟨some 34, _, _, _, _, _⟩) rfl (fun K hK => ?_) AllReadyH.nil
          refine RowE.step_pushE tyA (by decide) rfl (.tmp 24) (.tmp 33) rfl (w0 := w2) (B := B) (v := .slice Av n cA) (l := A) (y := (j, pad s)) rfl rfl rfl HR2.out.row rfl rfl (by have := HN.out; omega) (by have := HBZ.out; have := HB2.out.size; omega) ?_
          intro g c w5 hpu
          rw [HN.out] at hpu ⊢
          have hfr : Fr (fun k => k = pq ∨ (Value.slice Av n cA).ownBlock = some k) w w5 := HF2.out.trans (Fr.grown (S := (fun k => k = pq ∨ (Value.slice Av n cA).ownBlock = some k)) hpu.2.1 (fun i hi => .inr hi)) (fun i hi => .inl hi)
          have HFR := Lib.hid hfr
          have HO5 := Lib.hid hpu.1
          have HG5 := Lib.hid (show (Value.slice Av n cA).ownBlock = some g ∨ w2.heap.size ≤ g from hpu.2.2)
          have hb5 : Blk w5 pq TRD [.int .i64 (d.n : Int), .slice Av n cA, .int .i64 (kept : Int)] := HR2.out.bq.grown hpu.2.1 (fun e => HP.out.pqv e.symm)
          have HB5 := Lib.hid hb5
          clear hpu
          refine hK.out _ _ hfr (fun hHeldD => ?_)
          clear hK K hfr
          refine wpAnyH_take (i := 15) (oi := ⟨some 35, _, _, _, _, _⟩) (v := .pointer (some ⟨pq, 0, none⟩)) rfl (by kernel_rfl) (by kernel_rfl) (by kernel_rfl) (fun _ _ _ h => h) (Or.inl ⟨by rfl, fun W hSW => by go_simp⟩) hHeldD ?_
          simp only [Act.put, List.setIfInBounds_toArray, List.set_cons_zero, List.set_cons_succ]
          refine wpAnyH_take (i := 16) (oi := ⟨some 36, _, _, _, _, _⟩) (v := .pointer (some ⟨pq, 1, none⟩)) rfl (by kernel_rfl) (by kernel_rfl) (by kernel_rfl) (fun _ _ _ h => h) (Or.inl ⟨by rfl, fun W hSW => by go_simp⟩) hHeldD ?_
          simp only [Act.put, List.setIfInBounds_toArray, List.set_cons_zero, List.set_cons_succ]
          refine wpAnyH_ready (rs := [17]) (by kernel_rfl) (by simp) ?_
          refine AllReadyH.cons (o := ⟨none, _, _, _, _, _⟩) rfl (fun K hK => ?_) AllReadyH.nil
          have f0 := hb5.frozen 1
          have e0 := hb5.cell (i := 1) rfl
          have l0 := hb5.lt
          clear hb5
          go_simp
          refine hK.out _ _ (HFR.out.trans (Fr.set (fun k => k = pq ∨ (Value.slice Av n cA).ownBlock = some k) _ _ _ (.inl rfl)) (fun i hi => .inl hi)) (fun hHeldE => ?_)
          clear hK K f0 e0 l0
          refine wpAnyH_done (by kernel_rfl) ?_ _
          refine NoPanic.normal ?_
          have hz2 := HB2.out.size
          refine HeldP.then_named (S := fun W => RTurned w B pq (m + 1) S (d.write j s) W) ?_ ?_
          · have hgp : g ≠ pq := fun e => by
              rcases HG5.out with q | q
              · exact HP.out.pqv (by rw [q, e])
              · have := HP.out.bq.lt
                omega
            refine ⟨fun k => k = pq ∨ (Value.slice (some ⟨g, 0, none⟩) (n + 1) c).ownBlock = some k, ⟨_, A ++ [(j, pad s)], kept, ⟨HB5.out.set 1 _, HO5.out.grown (grown_set _ pq 1 _) (.inr (fun e => hgp (by simpa [Value.ownBlock] using e))), ?_, ?_, HP.out.ok.writeN hj HLS.out, ?_, ?_, HP.out.lq⟩, fun k => Iff.rfl⟩, hHeldE.mono (fun k hk => (HS.out k).2 hk), fun k hk => ?_⟩
            · have := HP.out.hk
              rw [List.length_append]
              omega
            · have e1 : (d.write j s).n = d.n := rfl
              rw [e1, ← all_write HP.out.hk, HP.out.is]
            · intro x hx
              rcases List.mem_append.1 hx with hx | hx
              · exact HP.out.all x hx
              · obtain rfl := List.mem_singleton.1 hx
                exact ⟨hj, pad_len HLS.out⟩
            · rw [List.length_append]
              have := HP.out.len
              simp
              omega
            · rcases hk with q | q
              · exact .inl ((HS.out k).2 (.inl q))
              · have e : g = k := by simpa [Value.ownBlock] using q
                subst e
                rcases HG5.out with q2 | q2
                · exact .inl ((HS.out g).2 (.inr q2))
                · exact .inr (by omega)
          rintro w6 ht6
          have T6 := Lib.hid ht6
          clear ht6
          go_wp2_with fail
          go_ret
          rw [HWD.out]
          exact ⟨rfl, T6.out⟩
    · have HWD := Lib.hid (show writeD d (j : Int) s = d by unfold writeD; rw [hb]; simp [hs])
      have HWE := Lib.hid (show writeE d (j : Int) s = 3 by unfold writeE; rw [hb]; simp [hs])
      rw [HWE.out, HWD.out]
      have hsI : (512 : Int) < (s.length : Int) := by omega
      clear hb hs
      go_enter Tryd.func29, Tryd.ntmps29
      go_wp2_with fail
      go_ret
      exact ⟨rfl, (RTurned.same (⟨_, A, kept, HP.out, HS.out⟩ : Rsk w B pq m d S) (Below.refl _ _)).mono1⟩
  · have hb : inD d i = false := by
      cases hq : inD d i with
      | false => rfl
      | true => exact absurd (inD_iff.1 hq) hi
    have HWD := Lib.hid (show writeD d i s = d by unfold writeD; rw [hb]; rfl)
    have HWE := Lib.hid (show writeE d i s = 2 by unfold writeE; rw [hb]; rfl)
    rw [HWE.out, HWD.out]
    clear hb
    by_cases hi0 : i < 0
    · clear hi
      go_enter Tryd.func29, Tryd.ntmps29
      go_wp2_with fail
      go_ret
      exact ⟨rfl, (RTurned.same (⟨_, A, kept, HP.out, HS.out⟩ : Rsk w B pq m d S) (Below.refl _ _)).mono1⟩
    · have hi1 : (d.n : Int) ≤ i := by omega
      clear hi
      go_enter Tryd.func29, Tryd.ntmps29
      go_wp2_with fail
      go_ret
      exact ⟨rfl, (RTurned.same (⟨_, A, kept, HP.out, HS.out⟩ : Rsk w B pq m d S) (Below.refl _ _)).mono1⟩
end SecW
end Go.Proofs.YtknckaegpdganaaDoor
