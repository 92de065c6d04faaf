/-
  The reference's Put, Drop, Take, New.
-/
import Derived.Test.YtlhanbjendbhfaaQueueRef
import Derived.BigQuiet
namespace Go.Proofs.Ytlhanbjendbhfaa
open Go.RowKit
set_option linter.unusedVariables false
set_option linter.unusedSimpArgs false
namespace QueW
open BlkP RowG FrS PushG HeapP ChunkW

section
variable {w : World} {rb : Nat} {L : List Tick} {T : Nat → Prop}
theorem rturned_of {w1 w' : World} {v v' : Value} {L' : List Tick} (hq : Blk w rb TRQ [v]) (hT : ∀ k, T k ↔ (k = rb ∨ v.ownBlock = some k)) (hb1 : Below w.heap.size w w1) (ho : RowG.Own encT TT w1 w.heap.size v' L') (hg : Good L') (hw : w' = w1.setCell ⟨rb, 0, none⟩ v') : RTurned w rb T L' w' := by
  subst hw
  have hl := hq.lt
  have hne : ∀ g, v'.ownBlock = some g → w.heap.size ≤ g := fun g hg => (ho.ge g hg).1
  refine ⟨fun k => k = rb ∨ v'.ownBlock = some k, ⟨v', (hq.below hb1).set 0 v', ((Fr.set (fun k => k = rb) w1 ⟨rb, 0, none⟩ v' rfl).own (ho.mono (Nat.zero_le _)) (fun g hg2 e => by have := hne g hg2; omega)), hg, fun k => Iff.rfl⟩, (Fr.below _ hb1).trans (Fr.set (fun k => k = rb) w1 ⟨rb, 0, none⟩ v' rfl) (fun i hi => .inl hi), fun k hk => ?_⟩
  rcases hk with hk | hk
  · exact .inl ((hT k).2 (.inl hk))
  · exact .inr (hne k hk)
/-- What the reference's New answers. -/
def RNewP (w : World) (R : Int × List Tick) (e : Ending) (w' : World) : Prop := Below w.heap.size w w' ∧ ((R.1 ≠ 0 ∧ e = .returned (.tuple #[.pointer none, .int .i64 R.1])) ∨ (R.1 = 0 ∧ ∃ rb T, e = .returned (.tuple #[.pointer (some ⟨rb, 0, none⟩), .int .i64 0]) ∧ RQ w' rb R.2 T ∧ ∀ k, T k → w.heap.size ≤ k))
set_option maxRecDepth 100000 in
set_option maxHeartbeats 16000000 in
theorem rDrop_c {a : Int} {b : Bool} (h : RQ w rb L T) (hb : decide (dueL a L ≠ 0) = b) :
    Calls Try.prog 17 #[.pointer (some ⟨rb, 0, none⟩), .int .i64 a] w fun e w' => e = .returned (.bool b) ∧ RTurned w rb T (delL a L) w' := by
  have HL := Lib.hid h
  obtain ⟨v, hq, ho, hg, hT⟩ := h
  have HQ := Lib.hid hq
  have HO := Lib.hid ho
  have HG := Lib.hid hg
  have HTT := Lib.hid hT
  have c0 := hq.cell (i := 0) rfl
  have l0 := hq.lt
  obtain ⟨n, hn⟩ : ∃ n, L.length = n := ⟨_, rfl⟩
  have HN := Lib.hid hn
  have hn4 : n ≤ 4096 := by rw [← hn]; exact hg.len
  have hnI : (n : Int) ≤ 4096 := by omega
  obtain ⟨A, c, rfl, _, _, hA⟩ := own_len ho hn
  have HA := Lib.hid hA
  obtain ⟨p, hp⟩ : ∃ p, plcL a L = p := ⟨_, rfl⟩
  have HP := Lib.hid hp
  by_cases hz : dueL a L = 0
  · obtain rfl : false = b := by rw [← hb]; simp [hz]
    have HZ := Lib.hid hz
    clear hq ho hg hT hn hA hp hb hz
    go_enter Try.func17, Try.ntmps17
    go_wp2_with fail
    refine (place_c HL.out).mono ?_
    rw [HP.out, HZ.out]
    rintro e w1 ⟨rfl, hb1⟩
    have B1 := Lib.hid hb1
    clear hb1
    go_wp2_with fail
    go_ret
    refine ⟨rfl, ?_⟩
    rw [del_same HG.out.1 HZ.out]
    exact RTurned.same HL.out B1.out
  · obtain rfl : true = b := by rw [← hb]; simp [hz]
    have hy := (plc_due (a := a) hg.1).1 hz
    rw [hp] at hy
    have hpn : p < n := by rw [← hn]; exact (List.getElem?_eq_some_iff.1 hy).1
    have hpI : (p : Int) + 1 ≤ (n : Int) := by omega
    obtain ⟨g, rfl, _, hgl⟩ := hA (by omega)
    have HD := Lib.hid (show delL a L = L.take p ++ L.drop (p + 1) by rw [del_plc hg.1 hz, hp])
    have HGD := Lib.hid (good_del (i := a) hg)
    have hdx : decide (dueL a L ≠ 0) = true := by simp [hz]
    have HDX := Lib.hid hdx
    clear hq ho hg hT hn hA hp hb hy hdx hz
    go_enter Try.func17, Try.ntmps17
    go_wp2_with fail
    refine (place_c HL.out).mono ?_
    rw [HP.out, HDX.out]
    rintro e w1 ⟨rfl, hb1⟩
    have B1 := Lib.hid hb1
    have q1 := HQ.out.below hb1
    have Q1 := Lib.hid q1
    have c0 := q1.cell (i := 0) rfl
    have l0 := q1.lt
    have R1 := Lib.hid ((HO.out.below hb1).rd)
    clear hb1 q1
    go_wp2_with ((with_reducible refine at_slot 22 ?_); refine Classical.byContradiction (fun hG => ?_))
    refine hG ?_
    clear hG
    refine wp_uptoR rfl (.tmp 20) (.tmp 21) rfl (n := p) rfl rfl R1.out (by rw [HN.out]; omega) ?_
    intro hup
    have U1 := Lib.hid hup
    clear hup
    go_wp2_with ((with_reducible refine at_slot 23 ?_); refine Classical.byContradiction (fun hG => ?_))
    refine hG ?_
    clear hG
    refine wp_appT rfl (.tmp 16) (.tmp 22) rfl (B := w.heap.size) (l0 := []) (v := .slice none 0 0) rfl rfl (Own.nil _ _ _ _) U1.out (by rw [List.length_take, HN.out]; omega) (by simp; omega) (by have := B1.out.size; omega) ?_
    intro v2 w2 ho2 hg2
    rw [List.nil_append] at ho2
    have O2 := Lib.hid ho2
    have B2' := Lib.hid (show Below w1.heap.size w1 w2 from Below.grown (Below.refl _ w1) hg2 (Nat.le_refl _) (fun k hk => by cases hk))
    have B2 := Lib.hid (below_t B1.out B2'.out)
    have q2 := Q1.out.below B2'.out
    have Q2 := Lib.hid q2
    have R2 := Lib.hid (R1.out.below B2'.out)
    have c0 := q2.cell (i := 0) rfl
    have l0 := q2.lt
    clear ho2 hg2 q2
    go_wp2_with ((with_reducible refine at_slot 32 ?_); refine Classical.byContradiction (fun hG => ?_))
    refine hG ?_
    clear hG
    refine wp_fromR rfl (.tmp 29) (.tmp 31) rfl (k := p + 1) rfl (by first | rfl | (simp [Act.eval]; omega)) R2.out (by rw [HN.out]; omega) ?_
    intro A3 hfrom
    have F3 := Lib.hid hfrom
    clear hfrom
    refine wp_appT rfl (.tmp 25) (.tmp 32) rfl (B := w.heap.size) rfl rfl O2.out F3.out (by rw [List.length_drop, HN.out]) (by rw [List.length_take, HN.out]; omega) (by have := B2.out.size; omega) ?_
    intro v4 w4 ho4 hg4
    obtain ⟨N4, hN4⟩ : ∃ N4, (List.take p L ++ List.drop (p + 1) L).length = N4 := ⟨_, rfl⟩
    obtain ⟨A4, c4, rfl, _, _, _⟩ := own_len ho4 hN4
    clear hN4
    have O4 := Lib.hid ho4
    have B4 := Lib.hid (show Below w.heap.size w w4 from B2.out.grown hg4 B2.out.size (fun k hk => (O2.out.ge k hk).1))
    have q4 := HQ.out.below B4.out
    have c0 := q4.cell (i := 0) rfl
    have f0 := q4.frozen 0
    have l0 := q4.lt
    clear ho4 hg4 q4
    go_wp2_with fail
    go_ret
    refine ⟨rfl, ?_⟩
    rw [HD.out]
    rw [HD.out] at HGD
    exact rturned_of HQ.out HTT.out B4.out O4.out HGD.out rfl
set_option maxRecDepth 100000 in
set_option maxHeartbeats 16000000 in
theorem rPut_c {a d m : Int} {b : Bool} (h : RQ w rb L T) (hb : (mayB (a, d) && putsB L (a, d)) = b) (hm2 : (if mayB (a, d) then 0 else 2) = m) :
    Calls Try.prog 15 #[.pointer (some ⟨rb, 0, none⟩), .agg #[.int .i64 a, .int .i64 d]] w fun e w' => e = .returned (.tuple #[.bool b, .int .i64 m]) ∧ RTurned w rb T (putT L (a, d)) w' := by
  have HL := Lib.hid h
  obtain ⟨v, hq, ho, hg, hT⟩ := h
  have HQ := Lib.hid hq
  have HO := Lib.hid ho
  have HG := Lib.hid hg
  have HTT := Lib.hid hT
  have c0 := hq.cell (i := 0) rfl
  have l0 := hq.lt
  obtain ⟨n, hn⟩ : ∃ n, L.length = n := ⟨_, rfl⟩
  have HN := Lib.hid hn
  have hn4 : n ≤ 4096 := by rw [← hn]; exact hg.len
  have hnI : (n : Int) ≤ 4096 := by omega
  obtain ⟨A, c, rfl, _, _, hA⟩ := own_len ho hn
  have HA := Lib.hid hA
  cases hm : mayB (a, d) with
  | false =>
    obtain rfl : false = b := by rw [← hb, hm]; rfl
    obtain rfl : 2 = m := by rw [← hm2, hm]; rfl
    have HM := Lib.hid hm
    clear hq ho hg hT hn hA hm hb hm2
    go_enter Try.func15, Try.ntmps15
    go_wp2_with fail
    refine (rMay_c HM.out).mono ?_
    rintro e w1 ⟨rfl, hw1⟩
    have hb1' : Below w.heap.size w w1 := by (repeat' (first | (with_reducible exact Below.refl _ _) | (with_reducible refine Below.setCell ?_ (by (first | omega | (simp; done) | (simp; omega))) _) | (with_reducible refine Below.alloc ?_ (by (first | omega | (simp; done) | (simp; omega))) _) | (with_reducible refine Below.drew ?_) | (with_reducible refine below_drewN ?_ _) | (with_reducible refine Below.trans ?_ (Below.mono hw1 (by (first | omega | (simp; done) | (simp; omega)))))))
    have B1 := Lib.hid hb1'
    have t1 : Blk w1 w.heap.size TT [.int .i64 a, .int .i64 d] := (show Blk (w.alloc (.cells #[.int .i64 a, .int .i64 d] TT)) w.heap.size TT [.int .i64 a, .int .i64 d] by (repeat' (first | (with_reducible refine BlkP.Blk.drew ?_) | (with_reducible refine BlkP.Blk.drewN ?_ _) | (with_reducible refine BlkP.Blk.setAt (us := ?_) (by first | omega | (simp; done) | (simp; omega)) rfl ?_ ?_) | (with_reducible refine BlkP.Blk.otherAt ?_ (by first | omega | (simp; done) | (simp; omega))) | (with_reducible refine BlkP.Blk.newA' (by first | omega | (simp; done) | (simp; omega)) rfl) | (with_reducible refine BlkP.Blk.alloc ?_ _) | (exact rfl)))).below hw1
    have T1 := Lib.hid t1
    have x0 := t1.cell (i := 0) rfl
    have xl := t1.lt
    clear hw1 hb1' t1
    go_wp2_with fail
    go_ret2
    refine ⟨rfl, ?_⟩
    unfold putT
    rw [HM.out]
    exact RTurned.same HL.out B1.out
  | true =>
    obtain ⟨m1, m2, m3, m4⟩ := mayB_iff.1 hm
    simp only at m1 m2 m3 m4
    obtain rfl : 0 = m := by rw [← hm2, hm]; rfl
    obtain ⟨p, hp⟩ : ∃ p, plcL a L = p := ⟨_, rfl⟩
    have HP := Lib.hid hp
    have hpn : p ≤ n := by rw [← hp, ← hn]; exact plc_le a L
    have hpI : (p : Int) ≤ (n : Int) := by omega
    obtain ⟨x, hx⟩ : ∃ x, dueL a L = x := ⟨_, rfl⟩
    have HT0 : putT L (a, d) = putL a d L := by unfold putT; rw [hm]; rfl
    have HM := Lib.hid hm
    by_cases hz : x = 0
    · obtain rfl : true = b := by rw [← hb, hm]; unfold putsB; simp only; rw [hx, hz]; simp
      have HD := Lib.hid (show putT L (a, d) = L.take p ++ [(a, d)] ++ L.drop p by rw [HT0, put_plc_new hg.1 (by rw [hx, hz]), hp])
      have HGD := Lib.hid (good_putT (t := (a, d)) hg)
      have HDX := Lib.hid (show decide (dueL a L ≠ 0) = false by rw [hx, hz]; simp)
      clear hq ho hg hT hn hA hm hb hm2 hp hx HT0 hz m1 m2 m3 m4
      go_enter Try.func15, Try.ntmps15
      go_wp2_with fail
      refine (rMay_c HM.out).mono ?_
      rintro e w1 ⟨rfl, hw1⟩
      have hb1' : Below w.heap.size w w1 := by (repeat' (first | (with_reducible exact Below.refl _ _) | (with_reducible refine Below.setCell ?_ (by (first | omega | (simp; done) | (simp; omega))) _) | (with_reducible refine Below.alloc ?_ (by (first | omega | (simp; done) | (simp; omega))) _) | (with_reducible refine Below.drew ?_) | (with_reducible refine below_drewN ?_ _) | (with_reducible refine Below.trans ?_ (Below.mono hw1 (by (first | omega | (simp; done) | (simp; omega)))))))
      have B1 := Lib.hid hb1'
      have t1 : Blk w1 w.heap.size TT [.int .i64 a, .int .i64 d] := (show Blk (w.alloc (.cells #[.int .i64 a, .int .i64 d] TT)) w.heap.size TT [.int .i64 a, .int .i64 d] by (repeat' (first | (with_reducible refine BlkP.Blk.drew ?_) | (with_reducible refine BlkP.Blk.drewN ?_ _) | (with_reducible refine BlkP.Blk.setAt (us := ?_) (by first | omega | (simp; done) | (simp; omega)) rfl ?_ ?_) | (with_reducible refine BlkP.Blk.otherAt ?_ (by first | omega | (simp; done) | (simp; omega))) | (with_reducible refine BlkP.Blk.newA' (by first | omega | (simp; done) | (simp; omega)) rfl) | (with_reducible refine BlkP.Blk.alloc ?_ _) | (exact rfl)))).below hw1
      have T1 := Lib.hid t1
      have x0 := t1.cell (i := 0) rfl
      have xl := t1.lt
      clear hw1 hb1' t1
      go_wp2_with fail
      refine (place_c (HL.out.below B1.out)).mono ?_
      rw [HP.out, HDX.out]
      rintro e w2 ⟨rfl, hb2⟩
      have B2' := Lib.hid hb2
      have B2 := Lib.hid (below_t B1.out hb2)
      have t2 := T1.out.below hb2
      have T2 := Lib.hid t2
      have q2 := HQ.out.below B2.out
      have c0 := q2.cell (i := 0) rfl
      have l0 := q2.lt
      have x0 := t2.cell (i := 0) rfl
      have x1 := t2.cell (i := 1) rfl
      have xl := t2.lt
      clear hb2 t2 q2
      go_wp2_with fail
      go_quiet (fail)
      refine HeldP.then_named (S := fun W => Below w.heap.size w W ∧ Blk W w.heap.size TT [.int .i64 a, .int .i64 d]) ⟨by (repeat' (first | (with_reducible exact Below.refl _ _) | (with_reducible refine Below.setCell ?_ (by (first | omega | (simp; done) | (simp; omega))) _) | (with_reducible refine Below.alloc ?_ (by (first | omega | (simp; done) | (simp; omega))) _) | (with_reducible refine Below.drew ?_) | (with_reducible refine below_drewN ?_ _) | (with_reducible refine Below.trans ?_ (Below.mono B2.out (by (first | omega | (simp; done) | (simp; omega))))))), by (repeat' (first | (with_reducible exact T2.out) | (with_reducible refine BlkP.Blk.drew ?_) | (with_reducible refine BlkP.Blk.drewN ?_ _) | (with_reducible refine BlkP.Blk.setAt (us := ?_) (by first | omega | (simp; done) | (simp; omega)) rfl ?_ ?_) | (with_reducible refine BlkP.Blk.otherAt ?_ (by first | omega | (simp; done) | (simp; omega))) | (with_reducible refine BlkP.Blk.newA' (by first | omega | (simp; done) | (simp; omega)) rfl) | (with_reducible refine BlkP.Blk.alloc ?_ _) | (exact rfl)))⟩ ?_
      rintro w3 ⟨hb3, t3⟩
      have B3 := Lib.hid hb3
      have T3 := Lib.hid t3
      have q3 := HQ.out.below B3.out
      have Q3 := Lib.hid q3
      have R3 := Lib.hid ((HO.out.below B3.out).rd)
      have c0 := q3.cell (i := 0) rfl
      have l0 := q3.lt
      clear hb3 t3 q3
      go_wp2_with ((with_reducible refine at_slot 39 ?_); refine Classical.byContradiction (fun hG => ?_))
      refine hG ?_
      clear hG
      refine wp_uptoR rfl (.tmp 37) (.tmp 38) rfl (n := p) rfl rfl R3.out (by rw [HN.out]; omega) ?_
      intro hup
      have U3 := Lib.hid hup
      clear hup
      go_wp2_with ((with_reducible refine at_slot 40 ?_); refine Classical.byContradiction (fun hG => ?_))
      refine hG ?_
      clear hG
      refine wp_appT rfl (.tmp 33) (.tmp 39) rfl (B := w.heap.size) (l0 := []) (v := .slice none 0 0) rfl rfl (Own.nil _ _ _ _) U3.out (by rw [List.length_take, HN.out]; omega) (by simp; omega) (by have := B3.out.size; omega) ?_
      intro v4 w4 ho4 hg4
      rw [List.nil_append] at ho4
      have O4 := Lib.hid ho4
      have B4' := Lib.hid (show Below w3.heap.size w3 w4 from Below.grown (Below.refl _ w3) hg4 (Nat.le_refl _) (fun k hk => by cases hk))
      have B4 := Lib.hid (below_t B3.out B4'.out)
      have T4 := Lib.hid (T3.out.below B4'.out)
      have x0 := T4.out.cell (i := 0) rfl
      have x1 := T4.out.cell (i := 1) rfl
      have xl := T4.out.lt
      clear ho4 hg4 c0 l0
      go_wp2_with ((with_reducible refine at_slot 44 ?_); refine Classical.byContradiction (fun hG => ?_))
      refine hG ?_
      clear hG
      refine RowG.wp_push encT rfl (.tmp 41) (.tmp 43) rfl underS infoT rfl (by decide) w4 #[.int .i64 a, .int .i64 d] rfl (a, d) rfl rfl (v := v4) (B := w.heap.size) O4.out rfl (by rw [List.length_take, HN.out]; have : maxLen = 9223372036854775807 := rfl; omega) (by rw [List.length_take, HN.out]; omega) (by have := B4.out.size; omega) ?_
      intro v5 w5 ho5 hg5 hv5
      have O5 := Lib.hid ho5
      have B5' := Lib.hid (show Below w.heap.size w4 w5 from Below.grown (Below.refl _ w4) hg5 (by have := B4.out.size; omega) (fun k hk => (O4.out.ge k hk).1))
      have B5 := Lib.hid (B4.out.trans B5'.out)
      have q5 := HQ.out.below B5.out
      have c0 := q5.cell (i := 0) rfl
      have l0 := q5.lt
      have R5 := Lib.hid ((HO.out.below B5.out).rd)
      clear ho5 hg5 hv5 q5 x0 x1 xl
      go_wp2_with ((with_reducible refine at_slot 55 ?_); refine Classical.byContradiction (fun hG => ?_))
      refine hG ?_
      clear hG
      refine wp_fromR rfl (.tmp 53) (.tmp 54) rfl (k := p) rfl (by first | rfl | (simp [Act.eval]; omega)) R5.out (by rw [HN.out]; omega) ?_
      intro A6 hfrom
      have F6 := Lib.hid hfrom
      clear hfrom
      refine wp_appT rfl (.tmp 49) (.tmp 55) rfl (B := w.heap.size) rfl rfl O5.out F6.out (by rw [List.length_drop, HN.out]) (by rw [List.length_append, List.length_take, HN.out]; simp; omega) (by have := B5.out.size; omega) ?_
      intro v7 w7 ho7 hg7
      obtain ⟨N7, hN7⟩ : ∃ N7, (List.take p L ++ [(a, d)] ++ List.drop (p) L).length = N7 := ⟨_, rfl⟩
      obtain ⟨A7, c7, rfl, _, _, _⟩ := own_len ho7 hN7
      clear hN7
      have O7 := Lib.hid ho7
      have B7 := Lib.hid (show Below w.heap.size w w7 from B5.out.grown hg7 B5.out.size (fun k hk => (O5.out.ge k hk).1))
      have q7 := HQ.out.below B7.out
      have c0 := q7.cell (i := 0) rfl
      have f0 := q7.frozen 0
      have l0 := q7.lt
      clear ho7 hg7 q7
      go_wp2_with fail
      go_ret2
      refine ⟨rfl, ?_⟩
      rw [HD.out]
      rw [HD.out] at HGD
      exact rturned_of HQ.out HTT.out B7.out O7.out HGD.out rfl
    · have hy := (plc_due (a := a) hg.1).1 (by rw [hx]; exact hz)
      rw [hx, hp] at hy
      have hpn2 : p < n := by rw [← hn]; exact (List.getElem?_eq_some_iff.1 hy).1
      have hpI2 : (p : Int) < (n : Int) := by omega
      have hp1I : (p : Int) + 1 ≤ (n : Int) := by omega
      obtain ⟨g, rfl, _, hgl⟩ := hA (by omega)
      have HY := Lib.hid hy
      have HDX := Lib.hid (show decide (dueL a L ≠ 0) = true by rw [hx]; simp [hz])
      by_cases hlt : d < x
      · obtain rfl : true = b := by rw [← hb, hm]; unfold putsB; simp only; rw [hx]; simp [hlt]
        have HD := Lib.hid (show putT L (a, d) = L.take p ++ [(a, d)] ++ L.drop (p + 1) by rw [HT0, put_plc_old hg.1 (by rw [hx]; exact hz) (by rw [hx]; exact hlt), hp])
        have HGD := Lib.hid (good_putT (t := (a, d)) hg)
        have hle : decide (x ≤ d) = false := decide_eq_false (by omega)
        clear hq ho hg hT hn hA hm hb hm2 hp hx HT0 hz m1 m2 m3 m4 hy
        go_enter Try.func15, Try.ntmps15
        go_wp2_with fail
        refine (rMay_c HM.out).mono ?_
        rintro e w1 ⟨rfl, hw1⟩
        have hb1' : Below w.heap.size w w1 := by (repeat' (first | (with_reducible exact Below.refl _ _) | (with_reducible refine Below.setCell ?_ (by (first | omega | (simp; done) | (simp; omega))) _) | (with_reducible refine Below.alloc ?_ (by (first | omega | (simp; done) | (simp; omega))) _) | (with_reducible refine Below.drew ?_) | (with_reducible refine below_drewN ?_ _) | (with_reducible refine Below.trans ?_ (Below.mono hw1 (by (first | omega | (simp; done) | (simp; omega)))))))
        have B1 := Lib.hid hb1'
        have t1 : Blk w1 w.heap.size TT [.int .i64 a, .int .i64 d] := (show Blk (w.alloc (.cells #[.int .i64 a, .int .i64 d] TT)) w.heap.size TT [.int .i64 a, .int .i64 d] by (repeat' (first | (with_reducible refine BlkP.Blk.drew ?_) | (with_reducible refine BlkP.Blk.drewN ?_ _) | (with_reducible refine BlkP.Blk.setAt (us := ?_) (by first | omega | (simp; done) | (simp; omega)) rfl ?_ ?_) | (with_reducible refine BlkP.Blk.otherAt ?_ (by first | omega | (simp; done) | (simp; omega))) | (with_reducible refine BlkP.Blk.newA' (by first | omega | (simp; done) | (simp; omega)) rfl) | (with_reducible refine BlkP.Blk.alloc ?_ _) | (exact rfl)))).below hw1
        have T1 := Lib.hid t1
        have x0 := t1.cell (i := 0) rfl
        have xl := t1.lt
        clear hw1 hb1' t1
        go_wp2_with fail
        refine (place_c (HL.out.below B1.out)).mono ?_
        rw [HP.out, HDX.out]
        rintro e w2 ⟨rfl, hb2⟩
        have B2' := Lib.hid hb2
        have B2 := Lib.hid (below_t B1.out hb2)
        have t2 := T1.out.below hb2
        have T2 := Lib.hid t2
        have q2 := HQ.out.below B2.out
        have c0 := q2.cell (i := 0) rfl
        have l0 := q2.lt
        have x0 := t2.cell (i := 0) rfl
        have x1 := t2.cell (i := 1) rfl
        have xl := t2.lt
        have O2 := HO.out.below B2.out
        have hgl := (O2.ge g rfl).2
        have y0 := Own.cell O2 (j := 0) HY.out rfl
        have y1 := Own.cell O2 (j := 1) HY.out rfl
        simp only [show encT.k = 2 from rfl, Nat.add_zero] at y0 y1
        clear hb2 t2 q2
        go_wp2_with fail
        go_quiet (fail)
        refine HeldP.then_named (S := fun W => Below w.heap.size w W ∧ Blk W w.heap.size TT [.int .i64 a, .int .i64 d]) ⟨by (repeat' (first | (with_reducible exact Below.refl _ _) | (with_reducible refine Below.setCell ?_ (by (first | omega | (simp; done) | (simp; omega))) _) | (with_reducible refine Below.alloc ?_ (by (first | omega | (simp; done) | (simp; omega))) _) | (with_reducible refine Below.drew ?_) | (with_reducible refine below_drewN ?_ _) | (with_reducible refine Below.trans ?_ (Below.mono B2.out (by (first | omega | (simp; done) | (simp; omega))))))), by (repeat' (first | (with_reducible exact T2.out) | (with_reducible refine BlkP.Blk.drew ?_) | (with_reducible refine BlkP.Blk.drewN ?_ _) | (with_reducible refine BlkP.Blk.setAt (us := ?_) (by first | omega | (simp; done) | (simp; omega)) rfl ?_ ?_) | (with_reducible refine BlkP.Blk.otherAt ?_ (by first | omega | (simp; done) | (simp; omega))) | (with_reducible refine BlkP.Blk.newA' (by first | omega | (simp; done) | (simp; omega)) rfl) | (with_reducible refine BlkP.Blk.alloc ?_ _) | (exact rfl)))⟩ ?_
        rintro w3 ⟨hb3, t3⟩
        have B3 := Lib.hid hb3
        have T3 := Lib.hid t3
        have q3 := HQ.out.below B3.out
        have Q3 := Lib.hid q3
        have R3 := Lib.hid ((HO.out.below B3.out).rd)
        have c0 := q3.cell (i := 0) rfl
        have l0 := q3.lt
        clear hb3 t3 q3
        clear y0 y1
        go_wp2_with ((with_reducible refine at_slot 39 ?_); refine Classical.byContradiction (fun hG => ?_))
        refine hG ?_
        clear hG
        refine wp_uptoR rfl (.tmp 37) (.tmp 38) rfl (n := p) rfl rfl R3.out (by rw [HN.out]; omega) ?_
        intro hup
        have U3 := Lib.hid hup
        clear hup
        go_wp2_with ((with_reducible refine at_slot 40 ?_); refine Classical.byContradiction (fun hG => ?_))
        refine hG ?_
        clear hG
        refine wp_appT rfl (.tmp 33) (.tmp 39) rfl (B := w.heap.size) (l0 := []) (v := .slice none 0 0) rfl rfl (Own.nil _ _ _ _) U3.out (by rw [List.length_take, HN.out]; omega) (by simp; omega) (by have := B3.out.size; omega) ?_
        intro v4 w4 ho4 hg4
        rw [List.nil_append] at ho4
        have O4 := Lib.hid ho4
        have B4' := Lib.hid (show Below w3.heap.size w3 w4 from Below.grown (Below.refl _ w3) hg4 (Nat.le_refl _) (fun k hk => by cases hk))
        have B4 := Lib.hid (below_t B3.out B4'.out)
        have T4 := Lib.hid (T3.out.below B4'.out)
        have x0 := T4.out.cell (i := 0) rfl
        have x1 := T4.out.cell (i := 1) rfl
        have xl := T4.out.lt
        clear ho4 hg4 c0 l0
        go_wp2_with ((with_reducible refine at_slot 44 ?_); refine Classical.byContradiction (fun hG => ?_))
        refine hG ?_
        clear hG
        refine RowG.wp_push encT rfl (.tmp 41) (.tmp 43) rfl underS infoT rfl (by decide) w4 #[.int .i64 a, .int .i64 d] rfl (a, d) rfl rfl (v := v4) (B := w.heap.size) O4.out rfl (by rw [List.length_take, HN.out]; have : maxLen = 9223372036854775807 := rfl; omega) (by rw [List.length_take, HN.out]; omega) (by have := B4.out.size; omega) ?_
        intro v5 w5 ho5 hg5 hv5
        have O5 := Lib.hid ho5
        have B5' := Lib.hid (show Below w.heap.size w4 w5 from Below.grown (Below.refl _ w4) hg5 (by have := B4.out.size; omega) (fun k hk => (O4.out.ge k hk).1))
        have B5 := Lib.hid (B4.out.trans B5'.out)
        have q5 := HQ.out.below B5.out
        have c0 := q5.cell (i := 0) rfl
        have l0 := q5.lt
        have R5 := Lib.hid ((HO.out.below B5.out).rd)
        clear ho5 hg5 hv5 q5 x0 x1 xl
        go_wp2_with ((with_reducible refine at_slot 55 ?_); refine Classical.byContradiction (fun hG => ?_))
        refine hG ?_
        clear hG
        refine wp_fromR rfl (.tmp 53) (.tmp 54) rfl (k := p + 1) rfl (by first | rfl | (simp [Act.eval]; omega)) R5.out (by rw [HN.out]; omega) ?_
        intro A6 hfrom
        have F6 := Lib.hid hfrom
        clear hfrom
        refine wp_appT rfl (.tmp 49) (.tmp 55) rfl (B := w.heap.size) rfl rfl O5.out F6.out (by rw [List.length_drop, HN.out]) (by rw [List.length_append, List.length_take, HN.out]; simp; omega) (by have := B5.out.size; omega) ?_
        intro v7 w7 ho7 hg7
        obtain ⟨N7, hN7⟩ : ∃ N7, (List.take p L ++ [(a, d)] ++ List.drop (p + 1) L).length = N7 := ⟨_, rfl⟩
        obtain ⟨A7, c7, rfl, _, _, _⟩ := own_len ho7 hN7
        clear hN7
        have O7 := Lib.hid ho7
        have B7 := Lib.hid (show Below w.heap.size w w7 from B5.out.grown hg7 B5.out.size (fun k hk => (O5.out.ge k hk).1))
        have q7 := HQ.out.below B7.out
        have c0 := q7.cell (i := 0) rfl
        have f0 := q7.frozen 0
        have l0 := q7.lt
        clear ho7 hg7 q7
        go_wp2_with fail
        go_ret2
        refine ⟨rfl, ?_⟩
        rw [HD.out]
        rw [HD.out] at HGD
        exact rturned_of HQ.out HTT.out B7.out O7.out HGD.out rfl
      · obtain rfl : false = b := by rw [← hb, hm]; unfold putsB; simp only; rw [hx]; simp [hlt, hz]
        have HD := Lib.hid (show putT L (a, d) = L by rw [HT0, put_same (by omega) hg.1 (by rw [hx]; exact hz) (by rw [hx]; exact hlt)])
        have hle : decide (x ≤ d) = true := decide_eq_true (by omega)
        clear hq ho hg hT hn hA hm hb hm2 hp hx HT0 hz m1 m2 m3 m4 hy
        go_enter Try.func15, Try.ntmps15
        go_wp2_with fail
        refine (rMay_c HM.out).mono ?_
        rintro e w1 ⟨rfl, hw1⟩
        have hb1' : Below w.heap.size w w1 := by (repeat' (first | (with_reducible exact Below.refl _ _) | (with_reducible refine Below.setCell ?_ (by (first | omega | (simp; done) | (simp; omega))) _) | (with_reducible refine Below.alloc ?_ (by (first | omega | (simp; done) | (simp; omega))) _) | (with_reducible refine Below.drew ?_) | (with_reducible refine below_drewN ?_ _) | (with_reducible refine Below.trans ?_ (Below.mono hw1 (by (first | omega | (simp; done) | (simp; omega)))))))
        have B1 := Lib.hid hb1'
        have t1 : Blk w1 w.heap.size TT [.int .i64 a, .int .i64 d] := (show Blk (w.alloc (.cells #[.int .i64 a, .int .i64 d] TT)) w.heap.size TT [.int .i64 a, .int .i64 d] by (repeat' (first | (with_reducible refine BlkP.Blk.drew ?_) | (with_reducible refine BlkP.Blk.drewN ?_ _) | (with_reducible refine BlkP.Blk.setAt (us := ?_) (by first | omega | (simp; done) | (simp; omega)) rfl ?_ ?_) | (with_reducible refine BlkP.Blk.otherAt ?_ (by first | omega | (simp; done) | (simp; omega))) | (with_reducible refine BlkP.Blk.newA' (by first | omega | (simp; done) | (simp; omega)) rfl) | (with_reducible refine BlkP.Blk.alloc ?_ _) | (exact rfl)))).below hw1
        have T1 := Lib.hid t1
        have x0 := t1.cell (i := 0) rfl
        have xl := t1.lt
        clear hw1 hb1' t1
        go_wp2_with fail
        refine (place_c (HL.out.below B1.out)).mono ?_
        rw [HP.out, HDX.out]
        rintro e w2 ⟨rfl, hb2⟩
        have B2' := Lib.hid hb2
        have B2 := Lib.hid (below_t B1.out hb2)
        have t2 := T1.out.below hb2
        have T2 := Lib.hid t2
        have q2 := HQ.out.below B2.out
        have c0 := q2.cell (i := 0) rfl
        have l0 := q2.lt
        have x0 := t2.cell (i := 0) rfl
        have x1 := t2.cell (i := 1) rfl
        have xl := t2.lt
        have O2 := HO.out.below B2.out
        have hgl := (O2.ge g rfl).2
        have y0 := Own.cell O2 (j := 0) HY.out rfl
        have y1 := Own.cell O2 (j := 1) HY.out rfl
        simp only [show encT.k = 2 from rfl, Nat.add_zero] at y0 y1
        clear hb2 t2 q2
        go_wp2_with fail
        go_quiet (fail)
        go_wp2_with fail
        go_ret2
        refine ⟨rfl, ?_⟩
        rw [HD.out]
        exact RTurned.same HL.out (by (repeat' (first | (with_reducible exact Below.refl _ _) | (with_reducible refine Below.setCell ?_ (by (first | omega | (simp; done) | (simp; omega))) _) | (with_reducible refine Below.alloc ?_ (by (first | omega | (simp; done) | (simp; omega))) _) | (with_reducible refine Below.drew ?_) | (with_reducible refine below_drewN ?_ _) | (with_reducible refine Below.trans ?_ (Below.mono B2.out (by (first | omega | (simp; done) | (simp; omega))))))))
set_option maxRecDepth 100000 in
set_option maxHeartbeats 16000000 in
theorem rTake_c {a d now : Int} {b : Bool} (h : RQ w rb L T) (hv : takeV L now = (a, d)) (hb : takeB L now = b) :
    Calls Try.prog 19 #[.pointer (some ⟨rb, 0, none⟩), .int .i64 now] w fun e w' => e = .returned (.tuple #[.agg #[.int .i64 a, .int .i64 d], .bool b]) ∧ RTurned w rb T (takeT L now) w' := by
  have HL := Lib.hid h
  obtain ⟨⟨fa, fd⟩, hf⟩ : ∃ f, firstL L = f := ⟨_, rfl⟩
  have HF := Lib.hid hf
  cases b with
  | false =>
    obtain ⟨rfl, rfl⟩ : 0 = a ∧ 0 = d := by
      unfold takeV at hv
      rw [hb] at hv
      simpa using hv
    have HT := Lib.hid (show takeT L now = L by unfold takeT; rw [hb]; rfl)
    by_cases h0 : L = []
    · have HD := Lib.hid (show decide (L ≠ []) = false by simp [h0])
      clear h hv hb hf h0
      go_enter Try.func19, Try.ntmps19
      go_wp2_with fail
      refine (rFirst_c (HL.out.below (by (repeat' (first | (with_reducible exact Below.refl _ _) | (with_reducible refine Below.setCell ?_ (by (first | omega | (simp; done) | (simp; omega))) _) | (with_reducible refine Below.alloc ?_ (by (first | omega | (simp; done) | (simp; omega))) _) | (with_reducible refine Below.drew ?_) | (with_reducible refine below_drewN ?_ _))))) HF.out HD.out).mono ?_
      rintro e w1 ⟨rfl, hw1⟩
      have HB1 := Lib.hid (show Below w.heap.size w w1 by (repeat' (first | (with_reducible exact Below.refl _ _) | (with_reducible refine Below.setCell ?_ (by (first | omega | (simp; done) | (simp; omega))) _) | (with_reducible refine Below.alloc ?_ (by (first | omega | (simp; done) | (simp; omega))) _) | (with_reducible refine Below.drew ?_) | (with_reducible refine below_drewN ?_ _) | (with_reducible refine Below.trans ?_ (Below.mono hw1 (by (first | omega | (simp; done) | (simp; omega))))))))
      have z1 := hw1.size
      have r0 : w1.cell? ⟨w.heap.size, 0, none⟩ = some (.int .i64 0) := (hw1.cell (by simp)).trans (by simp)
      have r1 : w1.cell? ⟨w.heap.size, 1, none⟩ = some (.int .i64 0) := (hw1.cell (by simp)).trans (by simp)
      have rf : ∀ o, w1.frozen? ⟨w.heap.size, o, none⟩ = false := fun o => (hw1.frozen (by simp)).trans (by simp)
      have rl : w.heap.size < w1.heap.size := by simp at z1; omega
      have rne : w.heap.size ≠ w1.heap.size := by omega
      have R := Lib.hid (show Blk w1 w.heap.size TT [.int .i64 0, .int .i64 0] from (show Blk (w.alloc (.cells #[.int .i64 0, .int .i64 0] TT)) w.heap.size TT [.int .i64 0, .int .i64 0] by (repeat' (first | (with_reducible refine BlkP.Blk.drew ?_) | (with_reducible refine BlkP.Blk.drewN ?_ _) | (with_reducible refine BlkP.Blk.setAt (us := ?_) (by first | omega | (simp; done) | (simp; omega)) rfl ?_ ?_) | (with_reducible refine BlkP.Blk.otherAt ?_ (by first | omega | (simp; done) | (simp; omega))) | (with_reducible refine BlkP.Blk.newA' (by first | omega | (simp; done) | (simp; omega)) rfl) | (with_reducible refine BlkP.Blk.alloc ?_ _) | (exact rfl)))).below hw1)
      clear hw1 z1
      go_wp2_with fail
      refine HeldP.bp_named (S := fun W => Below w.heap.size w W ∧ Blk W w.heap.size TT [.int .i64 0, .int .i64 0]) ⟨by (repeat' (first | (with_reducible exact Below.refl _ _) | (with_reducible refine Below.setCell ?_ (by (first | omega | (simp; done) | (simp; omega))) _) | (with_reducible refine Below.alloc ?_ (by (first | omega | (simp; done) | (simp; omega))) _) | (with_reducible refine Below.drew ?_) | (with_reducible refine below_drewN ?_ _) | (with_reducible refine Below.trans ?_ (Below.mono HB1.out (by (first | omega | (simp; done) | (simp; omega))))))), by (repeat' (first | (with_reducible exact R.out) | (with_reducible refine BlkP.Blk.drew ?_) | (with_reducible refine BlkP.Blk.drewN ?_ _) | (with_reducible refine BlkP.Blk.setAt (us := ?_) (by first | omega | (simp; done) | (simp; omega)) rfl ?_ ?_) | (with_reducible refine BlkP.Blk.otherAt ?_ (by first | omega | (simp; done) | (simp; omega))) | (with_reducible refine BlkP.Blk.newA' (by first | omega | (simp; done) | (simp; omega)) rfl) | (with_reducible refine BlkP.Blk.alloc ?_ _) | (exact rfl)))⟩ ?_
      rintro w9 ⟨hb9, r9⟩
      have HB9 := Lib.hid hb9
      have q0 := r9.cell (i := 0) rfl
      have q1 := r9.cell (i := 1) rfl
      clear hb9 r0 r1
      refine bodyPost_ret (v := .tuple #[.agg #[.int .i64 0, .int .i64 0], .bool false]) (by simp [results, Try.results19, go_sem, q0, q1]) rfl ?_
      refine ⟨rfl, ?_⟩
      rw [HT.out]
      exact RTurned.same HL.out HB9.out
    · have HD := Lib.hid (show decide (L ≠ []) = true by simp [h0])
      have hdn : ¬ fd ≤ now := by
        unfold takeB at hb
        rw [hf] at hb
        simpa [h0] using hb
      have hdn2 : now < fd := by omega
      clear h hv hb hf h0
      go_enter Try.func19, Try.ntmps19
      go_wp2_with fail
      refine (rFirst_c (HL.out.below (by (repeat' (first | (with_reducible exact Below.refl _ _) | (with_reducible refine Below.setCell ?_ (by (first | omega | (simp; done) | (simp; omega))) _) | (with_reducible refine Below.alloc ?_ (by (first | omega | (simp; done) | (simp; omega))) _) | (with_reducible refine Below.drew ?_) | (with_reducible refine below_drewN ?_ _))))) HF.out HD.out).mono ?_
      rintro e w1 ⟨rfl, hw1⟩
      have HB1 := Lib.hid (show Below w.heap.size w w1 by (repeat' (first | (with_reducible exact Below.refl _ _) | (with_reducible refine Below.setCell ?_ (by (first | omega | (simp; done) | (simp; omega))) _) | (with_reducible refine Below.alloc ?_ (by (first | omega | (simp; done) | (simp; omega))) _) | (with_reducible refine Below.drew ?_) | (with_reducible refine below_drewN ?_ _) | (with_reducible refine Below.trans ?_ (Below.mono hw1 (by (first | omega | (simp; done) | (simp; omega))))))))
      have z1 := hw1.size
      have r0 : w1.cell? ⟨w.heap.size, 0, none⟩ = some (.int .i64 0) := (hw1.cell (by simp)).trans (by simp)
      have r1 : w1.cell? ⟨w.heap.size, 1, none⟩ = some (.int .i64 0) := (hw1.cell (by simp)).trans (by simp)
      have rf : ∀ o, w1.frozen? ⟨w.heap.size, o, none⟩ = false := fun o => (hw1.frozen (by simp)).trans (by simp)
      have rl : w.heap.size < w1.heap.size := by simp at z1; omega
      have rne : w.heap.size ≠ w1.heap.size := by omega
      have R := Lib.hid (show Blk w1 w.heap.size TT [.int .i64 0, .int .i64 0] from (show Blk (w.alloc (.cells #[.int .i64 0, .int .i64 0] TT)) w.heap.size TT [.int .i64 0, .int .i64 0] by (repeat' (first | (with_reducible refine BlkP.Blk.drew ?_) | (with_reducible refine BlkP.Blk.drewN ?_ _) | (with_reducible refine BlkP.Blk.setAt (us := ?_) (by first | omega | (simp; done) | (simp; omega)) rfl ?_ ?_) | (with_reducible refine BlkP.Blk.otherAt ?_ (by first | omega | (simp; done) | (simp; omega))) | (with_reducible refine BlkP.Blk.newA' (by first | omega | (simp; done) | (simp; omega)) rfl) | (with_reducible refine BlkP.Blk.alloc ?_ _) | (exact rfl)))).below hw1)
      clear hw1 z1
      go_wp2_with fail
      refine HeldP.bp_named (S := fun W => Below w.heap.size w W ∧ Blk W w.heap.size TT [.int .i64 0, .int .i64 0]) ⟨by (repeat' (first | (with_reducible exact Below.refl _ _) | (with_reducible refine Below.setCell ?_ (by (first | omega | (simp; done) | (simp; omega))) _) | (with_reducible refine Below.alloc ?_ (by (first | omega | (simp; done) | (simp; omega))) _) | (with_reducible refine Below.drew ?_) | (with_reducible refine below_drewN ?_ _) | (with_reducible refine Below.trans ?_ (Below.mono HB1.out (by (first | omega | (simp; done) | (simp; omega))))))), by (repeat' (first | (with_reducible exact R.out) | (with_reducible refine BlkP.Blk.drew ?_) | (with_reducible refine BlkP.Blk.drewN ?_ _) | (with_reducible refine BlkP.Blk.setAt (us := ?_) (by first | omega | (simp; done) | (simp; omega)) rfl ?_ ?_) | (with_reducible refine BlkP.Blk.otherAt ?_ (by first | omega | (simp; done) | (simp; omega))) | (with_reducible refine BlkP.Blk.newA' (by first | omega | (simp; done) | (simp; omega)) rfl) | (with_reducible refine BlkP.Blk.alloc ?_ _) | (exact rfl)))⟩ ?_
      rintro w9 ⟨hb9, r9⟩
      have HB9 := Lib.hid hb9
      have q0 := r9.cell (i := 0) rfl
      have q1 := r9.cell (i := 1) rfl
      clear hb9 r0 r1
      refine bodyPost_ret (v := .tuple #[.agg #[.int .i64 0, .int .i64 0], .bool false]) (by simp [results, Try.results19, go_sem, q0, q1]) rfl ?_
      refine ⟨rfl, ?_⟩
      rw [HT.out]
      exact RTurned.same HL.out HB9.out
  | true =>
    have h0 : L ≠ [] ∧ fd ≤ now := by
      unfold takeB at hb
      rw [hf] at hb
      simpa using hb
    obtain ⟨rfl, rfl⟩ : fa = a ∧ fd = d := by
      unfold takeV at hv
      rw [hb, hf] at hv
      simpa using hv
    have HT := Lib.hid (show takeT L now = delL fa L by unfold takeT; rw [hb, hf]; rfl)
    have HD := Lib.hid (show decide (L ≠ []) = true by simp [h0.1])
    have hle := h0.2
    have hnl : ¬ now < fd := by omega
    have hrl := h.lt h.self
    clear h hv hb hf h0
    go_enter Try.func19, Try.ntmps19
    go_wp2_with fail
    refine (rFirst_c (HL.out.below (by (repeat' (first | (with_reducible exact Below.refl _ _) | (with_reducible refine Below.setCell ?_ (by (first | omega | (simp; done) | (simp; omega))) _) | (with_reducible refine Below.alloc ?_ (by (first | omega | (simp; done) | (simp; omega))) _) | (with_reducible refine Below.drew ?_) | (with_reducible refine below_drewN ?_ _))))) HF.out HD.out).mono ?_
    rintro e w1 ⟨rfl, hw1⟩
    have hb1' : Below w.heap.size w w1 := by (repeat' (first | (with_reducible exact Below.refl _ _) | (with_reducible refine Below.setCell ?_ (by (first | omega | (simp; done) | (simp; omega))) _) | (with_reducible refine Below.alloc ?_ (by (first | omega | (simp; done) | (simp; omega))) _) | (with_reducible refine Below.drew ?_) | (with_reducible refine below_drewN ?_ _) | (with_reducible refine Below.trans ?_ (Below.mono hw1 (by (first | omega | (simp; done) | (simp; omega)))))))
    have HB1 := Lib.hid hb1'
    have z1 := hw1.size
    have rl : w.heap.size < w1.heap.size := by simp at z1; omega
    have rne : w.heap.size ≠ w1.heap.size := by omega
    have R := Lib.hid (show Blk w1 w.heap.size TT [.int .i64 0, .int .i64 0] from (show Blk (w.alloc (.cells #[.int .i64 0, .int .i64 0] TT)) w.heap.size TT [.int .i64 0, .int .i64 0] by (repeat' (first | (with_reducible refine BlkP.Blk.drew ?_) | (with_reducible refine BlkP.Blk.drewN ?_ _) | (with_reducible refine BlkP.Blk.setAt (us := ?_) (by first | omega | (simp; done) | (simp; omega)) rfl ?_ ?_) | (with_reducible refine BlkP.Blk.otherAt ?_ (by first | omega | (simp; done) | (simp; omega))) | (with_reducible refine BlkP.Blk.newA' (by first | omega | (simp; done) | (simp; omega)) rfl) | (with_reducible refine BlkP.Blk.alloc ?_ _) | (exact rfl)))).below hw1)
    have r0 := R.out.cell (i := 0) rfl
    have r1 := R.out.cell (i := 1) rfl
    have rf := R.out.frozen 0
    have rf1 := R.out.frozen 1
    clear hw1 z1 hb1'
    go_wp2_with fail
    refine calls_named (S := fun W => Below w.heap.size w W ∧ Blk W w.heap.size TT [.int .i64 0, .int .i64 0] ∧ Blk W w1.heap.size TT [.int .i64 fa, .int .i64 fd]) ⟨by (repeat' (first | (with_reducible exact Below.refl _ _) | (with_reducible refine Below.setCell ?_ (by (first | omega | (simp; done) | (simp; omega))) _) | (with_reducible refine Below.alloc ?_ (by (first | omega | (simp; done) | (simp; omega))) _) | (with_reducible refine Below.drew ?_) | (with_reducible refine below_drewN ?_ _) | (with_reducible refine Below.trans ?_ (Below.mono HB1.out (by (first | omega | (simp; done) | (simp; omega))))))), by (repeat' (first | (with_reducible exact R.out) | (with_reducible refine BlkP.Blk.drew ?_) | (with_reducible refine BlkP.Blk.drewN ?_ _) | (with_reducible refine BlkP.Blk.setAt (us := ?_) (by first | omega | (simp; done) | (simp; omega)) rfl ?_ ?_) | (with_reducible refine BlkP.Blk.otherAt ?_ (by first | omega | (simp; done) | (simp; omega))) | (with_reducible refine BlkP.Blk.newA' (by first | omega | (simp; done) | (simp; omega)) rfl) | (with_reducible refine BlkP.Blk.alloc ?_ _) | (exact rfl))), by (repeat' (first | (with_reducible refine BlkP.Blk.drew ?_) | (with_reducible refine BlkP.Blk.drewN ?_ _) | (with_reducible refine BlkP.Blk.setAt (us := ?_) (by first | omega | (simp; done) | (simp; omega)) rfl ?_ ?_) | (with_reducible refine BlkP.Blk.otherAt ?_ (by first | omega | (simp; done) | (simp; omega))) | (with_reducible refine BlkP.Blk.newA' (by first | omega | (simp; done) | (simp; omega)) rfl) | (with_reducible refine BlkP.Blk.alloc ?_ _) | (exact rfl)))⟩ ?_
    rintro w2 ⟨hb2', r2, t2⟩
    have HB2 := Lib.hid hb2'
    have R2 := Lib.hid r2
    have T2 := Lib.hid t2
    clear hb2' r2 t2 r0 r1 rf rf1
    refine (rDrop_c (HL.out.below HB2.out) rfl).mono ?_
    rintro e w3 ⟨rfl, T', hq3, hf3, hn3⟩
    have HQ3 := Lib.hid hq3
    have HF3 := Lib.hid hf3
    have HN3 := Lib.hid hn3
    have r3 := hf3.blk R2.out (fun q => by omega)
    have t3 := hf3.blk T2.out (fun q => by omega)
    have R3 := Lib.hid r3
    have r0 := r3.cell (i := 0) rfl
    have r1 := r3.cell (i := 1) rfl
    have t0 := t3.cell (i := 0) rfl
    have t1 := t3.cell (i := 1) rfl
    have rf := r3.frozen 0
    have rf1 := r3.frozen 1
    have rl3 := r3.lt
    have tl3 := t3.lt
    clear hq3 hf3 hn3 r3 t3
    go_wp2_with fail
    refine HeldP.bp_named (S := fun W => Fr (fun k => k = w.heap.size) w3 W ∧ Blk W w.heap.size TT [.int .i64 fa, .int .i64 fd]) ⟨(Fr.set (fun k => k = w.heap.size) w3 ⟨w.heap.size, 0, none⟩ _ rfl).trans (Fr.set (fun k => k = w.heap.size) _ ⟨w.heap.size, 1, none⟩ _ rfl) (fun i hi => .inl hi), by (repeat' (first | (with_reducible exact R3.out) | (with_reducible refine BlkP.Blk.drew ?_) | (with_reducible refine BlkP.Blk.drewN ?_ _) | (with_reducible refine BlkP.Blk.setAt (us := ?_) (by first | omega | (simp; done) | (simp; omega)) rfl ?_ ?_) | (with_reducible refine BlkP.Blk.otherAt ?_ (by first | omega | (simp; done) | (simp; omega))) | (with_reducible refine BlkP.Blk.newA' (by first | omega | (simp; done) | (simp; omega)) rfl) | (with_reducible refine BlkP.Blk.alloc ?_ _) | (exact rfl)))⟩ ?_
    rintro w9 ⟨hf9, r9⟩
    have HF9 := Lib.hid hf9
    have q0 := r9.cell (i := 0) rfl
    have q1 := r9.cell (i := 1) rfl
    clear hf9 r9 r0 r1 t0 t1
    refine bodyPost_ret (v := .tuple #[.agg #[.int .i64 fa, .int .i64 fd], .bool true]) (by simp [results, Try.results19, go_sem, q0, q1]) rfl ?_
    refine ⟨rfl, ?_⟩
    rw [HT.out]
    have hz2 := HB2.out.size
    have hw2 : w1.heap.size < w2.heap.size := T2.out.lt
    refine ⟨T', HQ3.out.fr HF9.out (fun k hk e => ?_), ((Fr.below _ HB2.out).trans HF3.out (fun k hk => .inl hk)).trans HF9.out (fun k hk => .inr (by omega)), fun k hk => ?_⟩
    · rcases HN3.out k hk with q | q
      · have := HL.out.lt q
        omega
      · omega
    · rcases HN3.out k hk with q | q
      · exact .inl q
      · exact .inr (by omega)
set_option maxRecDepth 100000 in
set_option maxHeartbeats 16000000 in
theorem rNew_c {A : Option Addr} {n c : Nat} {l : List Tick} {R : Int × List Tick} (hR : Rd encT w (.slice A n c) l) (hn : l.length = n) (hn5 : n ≤ 5000) (hRR : newL l = R) :
    Calls Try.prog 11 #[.slice A n c] w (RNewP w R) := by
  have HR := Lib.hid hR
  have HN := Lib.hid hn
  by_cases h4 : 4096 < n
  · have h4I : (4096 : Int) < (n : Int) := by omega
    obtain rfl : (3, []) = R := by rw [← hRR]; unfold newL; rw [hn, if_pos h4]
    clear hR hn hRR
    go_enter Try.func11, Try.ntmps11
    go_wp2_with fail
    go_ret2
    exact ⟨Below.refl _ _, .inl ⟨by decide, rfl⟩⟩
  have h4I : ¬ (4096 : Int) < (n : Int) := by omega
  have hRR2 : makeL [] l = R := by rw [← hRR]; unfold newL; rw [hn, if_neg h4]
  have HRR := Lib.hid hRR2
  obtain ⟨rb, hs⟩ : ∃ s, w.heap.size = s := ⟨_, rfl⟩
  have HS := Lib.hid hs
  clear hR hn hRR hRR2 hs
  go_enter Try.func11, Try.ntmps11
  go_wp2_with fail
  refine HeldP.wp_named (S := fun W => Below w.heap.size w W ∧ Blk W w.heap.size TRQ [.slice none 0 0]) ⟨by (repeat' (first | (with_reducible exact Below.refl _ _) | (with_reducible refine Below.setCell ?_ (by (first | omega | (simp; done) | (simp; omega))) _) | (with_reducible refine Below.alloc ?_ (by (first | omega | (simp; done) | (simp; omega))) _) | (with_reducible refine Below.drew ?_) | (with_reducible refine below_drewN ?_ _))), by (repeat' (first | (with_reducible refine BlkP.Blk.drew ?_) | (with_reducible refine BlkP.Blk.drewN ?_ _) | (with_reducible refine BlkP.Blk.setAt (us := ?_) (by first | omega | (simp; done) | (simp; omega)) rfl ?_ ?_) | (with_reducible refine BlkP.Blk.otherAt ?_ (by first | omega | (simp; done) | (simp; omega))) | (with_reducible refine BlkP.Blk.newA' (by first | omega | (simp; done) | (simp; omega)) rfl) | (with_reducible refine BlkP.Blk.alloc ?_ _) | (exact rfl)))⟩ ?_
  rintro w1 ⟨hb1, q1⟩
  have B1 := Lib.hid hb1
  have Q1 := Lib.hid (show RQ w1 w.heap.size [] (fun k => k = w.heap.size) from ⟨_, q1, Own.nil _ _ _ _, good_nil, fun k => ⟨.inl, fun h => h.elim id (fun h => by cases h)⟩⟩)
  rw [HS.out] at q1 Q1 ⊢
  clear hb1 q1
  go_loopw [5] (fun v5 wr => ∃ (k : Nat) (L1 : List Tick) (T1 : Nat → Prop), v5 = .int .i64 (k : Nat) ∧ k ≤ n ∧ RQ wr rb L1 T1 ∧ (∀ k, T1 k → rb ≤ k) ∧ makeL L1 (l.drop k) = R ∧ Below w.heap.size w wr) (fun v _ => 5000 - (intOf v).toNat)
  case atStart => exact ⟨0, [], _, rfl, Nat.zero_le _, Q1.out, fun k hk => by omega, HRR.out, B1.out⟩
  case round =>
    obtain ⟨k, L1, T1, rfl, hk, hq1, hT1, hm1, hbr⟩ := hrel
    have Q2 := Lib.hid hq1
    have T2 := Lib.hid hT1
    have M1 := Lib.hid hm1
    have BR := Lib.hid hbr
    have RR := Lib.hid (HR.out.below hbr)
    clear hq1 hT1 hm1 hbr
    by_cases hkn : k < n
    · have hkI : (k : Int) < (n : Int) := by omega
      have hnI : (n : Int) ≤ 4096 := by omega
      have hk1I : (k : Int) + 1 ≤ 4096 := by omega
      obtain ⟨⟨a, d⟩, hx⟩ : ∃ x, l[k]? = some x := ⟨_, List.getElem?_eq_getElem (by rw [HN.out]; exact hkn)⟩
      obtain ⟨b0, o0, rfl, hl0, hs0⟩ := RR.out.at hx
      have x0 := hs0 0 _ rfl
      have x1 := hs0 1 _ rfl
      simp only [show encT.k = 2 from rfl, Nat.add_zero] at x0 x1
      obtain ⟨e1, e2⟩ := make_step (L1 := L1) hx
      have M2 := M1.out
      rw [e1] at M2
      rw [makeL] at M2
      clear e1 e2 hs0
      cases hm : mayB (a, d) with
      | false =>
        obtain rfl : (2, []) = R := by rw [← M2, hm]; rfl
        have HM := Lib.hid hm
        clear hm M2 hx
        go_wp2_with fail
        refine (rMay_c HM.out).mono ?_
        rintro e w3 ⟨rfl, hb3⟩
        have B3 := Lib.hid (below_t BR.out hb3)
        clear hb3
        go_wp2_with fail
        go_ret2
        exact ⟨B3.out, .inl ⟨by decide, rfl⟩⟩
      | true =>
        rw [hm] at M2
        simp only [Bool.true_eq_false, if_false] at M2
        have HM := Lib.hid hm
        have HX := Lib.hid hx
        by_cases hd : dueL a L1 = 0
        · have HD := Lib.hid (show decide (dueL a L1 ≠ 0) = false by simp [hd])
          rw [if_neg (by rw [hd]; simp)] at M2
          have HM2 := Lib.hid (show makeL (putT L1 (a, d)) (l.drop (k + 1)) = R by unfold putT; rw [hm]; exact M2)
          clear hm M2 hd hx
          go_wp2_with fail
          refine (rMay_c HM.out).mono ?_
          rintro e w3 ⟨rfl, hb3⟩
          have B3 := Lib.hid hb3
          have R3 := RR.out.below hb3
          obtain ⟨b3, o3, hA3, hl3, hs3⟩ := R3.at HX.out
          injection hA3 with hA3
          injection hA3 with e1 e2
          subst e1 e2
          have x0 := hs3 0 _ rfl
          simp only [show encT.k = 2 from rfl, Nat.add_zero] at x0
          clear hb3 R3 hs3
          go_wp2_with fail
          refine (place_c (Q2.out.below B3.out)).mono ?_
          rw [HD.out]
          rintro e w4 ⟨rfl, hb4⟩
          have B4 := Lib.hid (below_t B3.out hb4)
          have R4 := RR.out.below B4.out
          obtain ⟨b3, o3, hA3, hl4, hs4⟩ := R4.at HX.out
          injection hA3 with hA3
          injection hA3 with e1 e2
          subst e1 e2
          have x0 := hs4 0 _ rfl
          have x1 := hs4 1 _ rfl
          simp only [show encT.k = 2 from rfl, Nat.add_zero] at x0 x1
          clear hb4 R4 hs4
          go_wp2_with fail
          refine (rPut_c (Q2.out.below B4.out) rfl rfl).mono ?_
          rintro e w5 ⟨rfl, T5, hq5, hf5, hn5'⟩
          have Q5 := Lib.hid hq5
          have F5 := Lib.hid hf5
          have N5 := Lib.hid hn5'
          clear hq5 hf5 hn5'
          go_wp2_with fail
          go_roundw
          case measure =>
            simp only [intOf]
            omega
          case rel =>
            have hz := BR.out.size
            have hz4 := B4.out.size
            have hS := HS.out
            refine ⟨k + 1, _, T5, by first | rfl | (congr 1; omega), by omega, Q5.out, fun j hj => ?_, HM2.out, ?_⟩
            · rcases N5.out j hj with q | q
              · exact T2.out j q
              · omega
            · exact (BR.out.trans (B4.out.mono hz)).trans (F5.out.toBelow (by omega) (fun i hi => by omega))
        · have HD := Lib.hid (show decide (dueL a L1 ≠ 0) = true by simp [hd])
          obtain rfl : (6, []) = R := by rw [← M2, if_pos hd]
          clear hm M2 hd hx
          go_wp2_with fail
          refine (rMay_c HM.out).mono ?_
          rintro e w3 ⟨rfl, hb3⟩
          have B3 := Lib.hid hb3
          have R3 := RR.out.below hb3
          obtain ⟨b3, o3, hA3, hl3, hs3⟩ := R3.at HX.out
          injection hA3 with hA3
          injection hA3 with e1 e2
          subst e1 e2
          have x0 := hs3 0 _ rfl
          simp only [show encT.k = 2 from rfl, Nat.add_zero] at x0
          clear hb3 R3 hs3
          go_wp2_with fail
          refine (place_c (Q2.out.below B3.out)).mono ?_
          rw [HD.out]
          rintro e w4 ⟨rfl, hb4⟩
          have B4 := Lib.hid (below_t B3.out hb4)
          clear hb4
          go_wp2_with fail
          go_ret2
          exact ⟨BR.out.trans (B4.out.mono BR.out.size), .inl ⟨by decide, rfl⟩⟩
    · have hkI : ¬ (k : Int) < (n : Int) := by omega
      obtain rfl : k = n := by omega
      have M2 := M1.out
      rw [List.drop_eq_nil_of_le (by rw [HN.out]; exact Nat.le_refl _), makeL] at M2
      subst M2
      go_wp2_with fail
      go_ret2
      have hS := HS.out
      exact ⟨BR.out, .inr ⟨rfl, rb, T1, rfl, Q2.out, fun k hk => by have := T2.out k hk; omega⟩⟩
end
end QueW
end Go.Proofs.Ytlhanbjendbhfaa
