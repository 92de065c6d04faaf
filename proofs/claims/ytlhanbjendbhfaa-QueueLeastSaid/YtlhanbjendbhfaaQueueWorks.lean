/-
  The laws' works, put, same, may.
-/
import Derived.Test.YtlhanbjendbhfaaQueueRefb
import Derived.BigQuiet
namespace Go.Proofs.Ytlhanbjendbhfaa
open Go.RowKit
set_option linter.unusedVariables false
set_option linter.unusedSimpArgs false
namespace QueW
open BlkP RowG FrS PushG HeapP ChunkW

theorem rd_blk {w : World} {g c : Nat} {l : List Tick} {vs : List Value} (h : Blk w g TT vs) (hv : vs = flat encT l) (hc : l.length ≤ c) (hc2 : c ≤ 9223372036854775807) : Rd encT w (.slice (some ⟨g, 0, none⟩) l.length c) l := by
  subst hv
  exact ⟨_, c, rfl, hc, hc2, fun _ => ⟨g, 0, rfl, h.lt, fun i x hx j u hu => by
    have hj : j < encT.k := by
      rw [← encT.len x]
      exact (List.getElem?_eq_some_iff.1 hu).1
    rw [Nat.zero_add]
    exact h.cell ((flat_get hx hj).trans hu)⟩⟩
theorem run_eqT (w : World) (a d : Int) : (binOp .eql TT (.agg #[.int .i64 a, .int .i64 d]) (.agg #[.int .i64 a, .int .i64 d])).run Try.prog w = .ok (.bool true) w := by go_simp
theorem run_neT (w : World) (a d : Int) : (binOp .neq TT (.agg #[.int .i64 a, .int .i64 d]) (.agg #[.int .i64 a, .int .i64 d])).run Try.prog w = .ok (.bool false) w := by go_simp
/-- What the laws' put answers. -/
def PutsP (w : World) (L : List Tick) (e : Ending) (w' : World) : Prop := ∃ qb S, e = .returned (.pointer (some ⟨qb, 0, none⟩)) ∧ Que w' w.heap.size qb L S ∧ Below w.heap.size w w'
section
variable {w : World} {rb B qb : Nat} {L : List Tick} {S T : Nat → Prop}
set_option maxRecDepth 100000 in
set_option maxHeartbeats 16000000 in
theorem works_c  :
    Calls Try.prog 12 #[] w fun e w' => e = .returned (.bool true) ∧ Below w.heap.size w w' := by
  have qe := fun w => run_eqT w 7 3
  go_enter Try.func12, Try.ntmps12
  go_wp2_with fail
  refine calls_named (S := fun W => Below w.heap.size w W ∧ Rd encT W (.slice (some ⟨w.heap.size, 0, none⟩) 2 2) [(5, 9), (7, 3)]) ⟨by (repeat' (first | (with_reducible exact Below.refl _ _) | (with_reducible refine Below.setCell ?_ (by (first | omega | (simp; done) | (simp; omega))) _) | (with_reducible refine Below.alloc ?_ (by (first | omega | (simp; done) | (simp; omega))) _) | (with_reducible refine Below.drew ?_) | (with_reducible refine below_drewN ?_ _))), rd_blk (l := [(5, 9), (7, 3)]) (vs := [.int .i64 5, .int .i64 9, .int .i64 7, .int .i64 3]) (by (repeat' (first | (with_reducible refine BlkP.Blk.drew ?_) | (with_reducible refine BlkP.Blk.drewN ?_ _) | (with_reducible refine BlkP.Blk.setAt (us := ?_) (by first | omega | (simp; done) | (simp; omega)) rfl ?_ ?_) | (with_reducible refine BlkP.Blk.otherAt ?_ (by first | omega | (simp; done) | (simp; omega))) | (with_reducible refine BlkP.Blk.newA' (by first | omega | (simp; done) | (simp; omega)) rfl) | (with_reducible refine BlkP.Blk.alloc ?_ _) | (exact rfl)))) rfl (by decide) (by decide)⟩ ?_
  rintro w1 ⟨hb1, hr1⟩
  have B1 := Lib.hid hb1
  refine (New_c hr1 rfl (by omega) (show newL [(5, 9), (7, 3)] = (0, [(5, 9), (7, 3)]) by decide)).mono ?_
  rintro e w2 ⟨hb2, h2⟩
  rcases h2 with ⟨h, _⟩ | ⟨_, qb, S, rfl, hq⟩
  · exact absurd rfl h
  have B2 := Lib.hid (below_t B1.out hb2)
  have Q2 := Lib.hid (show Que w2 w1.heap.size qb [(5, 9), (7, 3)] S from hq)
  clear hb1 hr1 hb2 hq
  go_wp2_with fail
  refine (First_c (a := 7) (d := 3) (b := true) Q2.out (by decide) (by decide)).mono ?_
  rintro e w3 ⟨rfl, hb3⟩
  have B3 := Lib.hid (below_t B2.out hb3)
  have hz3 := B3.out.size
  have Q3 := Lib.hid (Q2.out.below hb3)
  clear hb3
  go_wp2_with fail
  refine calls_named (S := fun W => Below w.heap.size w W ∧ Que W w1.heap.size qb [(5, 9), (7, 3)] S) ⟨by (repeat' (first | (with_reducible exact Below.refl _ _) | (with_reducible refine Below.setCell ?_ (by (first | omega | (simp; done) | (simp; omega))) _) | (with_reducible refine Below.alloc ?_ (by (first | omega | (simp; done) | (simp; omega))) _) | (with_reducible refine Below.drew ?_) | (with_reducible refine below_drewN ?_ _) | (with_reducible refine Below.trans ?_ (Below.mono B3.out (by (first | omega | (simp; done) | (simp; omega))))))), Q3.out.below (by (repeat' (first | (with_reducible exact Below.refl _ _) | (with_reducible refine Below.setCell ?_ (by (first | omega | (simp; done) | (simp; omega))) _) | (with_reducible refine Below.alloc ?_ (by (first | omega | (simp; done) | (simp; omega))) _) | (with_reducible refine Below.drew ?_) | (with_reducible refine below_drewN ?_ _))))⟩ ?_
  rintro w4 ⟨hb4, hq4⟩
  have B4 := Lib.hid hb4
  refine (qLen_c hq4).mono ?_
  rintro e w5 ⟨rfl, rfl⟩
  clear hb4 hq4
  go_wp2_with fail
  go_ret
  exact ⟨rfl, B4.out⟩
set_option maxRecDepth 100000 in
set_option maxHeartbeats 16000000 in
theorem put_c {A : Option Addr} {n c : Nat} {l : List Tick} (hR : Rd encT w (.slice A n c) l) (hn : l.length = n) (hn2 : n ≤ 5000) :
    Calls Try.prog 22 #[.slice A n c] w (PutsP w (putsT l)) := by
  have HR := Lib.hid hR
  have HN := Lib.hid hn
  clear hR hn
  go_enter Try.func22, Try.ntmps22
  go_wp2_with fail
  refine (New_c (A := none) (l := []) (Rd.nil _ _) rfl (by omega) (show newL [] = (0, []) by decide)).mono ?_
  rintro e w1 ⟨hb1, h1⟩
  rcases h1 with ⟨h, _⟩ | ⟨_, qb, S, rfl, hq⟩
  · exact absurd rfl h
  have B1 := Lib.hid hb1
  have Q1 := Lib.hid (show Que w1 w.heap.size qb [] S from hq)
  clear hb1 hq
  go_wp2_with fail
  go_loopw [5] (fun v5 wr => ∃ (k : Nat) (S1 : Nat → Prop), v5 = .int .i64 (k : Nat) ∧ k ≤ n ∧ Que wr w.heap.size qb ((l.take k).foldl putT []) S1 ∧ Below w.heap.size w wr) (fun v _ => 6000 - (intOf v).toNat)
  case atStart => exact ⟨0, S, rfl, Nat.zero_le _, Q1.out, B1.out⟩
  case round =>
    obtain ⟨k, S1, rfl, hk, hq, hbr⟩ := hrel
    have Q := Lib.hid hq
    have BR := Lib.hid hbr
    clear hq hbr
    by_cases hkn : k < n
    · have hkI : (k : Int) < (n : Int) := by omega
      have hk1 : (k : Int) + 1 ≤ 5000 := by omega
      obtain ⟨⟨a, d⟩, hx⟩ : ∃ x, l[k]? = some x := ⟨_, List.getElem?_eq_getElem (by rw [HN.out]; exact hkn)⟩
      obtain ⟨b0, o0, rfl, hl0, hs0⟩ := (HR.out.below BR.out).at hx
      have x0 := hs0 0 _ rfl
      have x1 := hs0 1 _ rfl
      simp only [show encT.k = 2 from rfl, Nat.add_zero] at x0 x1
      have HX := Lib.hid hx
      clear hs0 hx
      go_wp2_with fail
      refine (Put_c Q.out rfl rfl).mono ?_
      rintro e w3 ⟨rfl, S3, hq3, hf3, hn3⟩
      have Q3 := Lib.hid hq3
      have F3 := Lib.hid (Q.out.toBelow hf3)
      clear hq3 hf3 hn3
      go_wp2_with fail
      go_roundw
      case measure =>
        simp only [intOf]
        omega
      case rel =>
        refine ⟨k + 1, S3, by first | rfl | (congr 1; omega), by omega, ?_, BR.out.trans F3.out⟩
        rw [(make_step (L1 := []) HX.out).2, List.foldl_append]
        exact Q3.out
    · have hkI : ¬ (k : Int) < (n : Int) := by omega
      obtain rfl : k = n := by omega
      go_wp2_with fail
      go_ret
      refine ⟨qb, S1, rfl, ?_, BR.out⟩
      have q := Q.out
      rw [List.take_of_length_le (by rw [HN.out]; exact Nat.le_refl _)] at q
      exact q
set_option maxRecDepth 100000 in
set_option maxHeartbeats 16000000 in
theorem same_c (hq : Que w B qb L S) (hr : RQ w rb L T) :
    Calls Try.prog 13 #[.pointer (some ⟨qb, 0, none⟩), .pointer (some ⟨rb, 0, none⟩)] w fun e w' => e = .returned (.bool true) ∧ Below w.heap.size w w' := by
  have HQ := Lib.hid hq
  obtain ⟨⟨fa, fd⟩, hf⟩ : ∃ f, firstL L = f := ⟨_, rfl⟩
  have HF := Lib.hid hf
  obtain ⟨n, hn⟩ : ∃ n, L.length = n := ⟨_, rfl⟩
  have HN := Lib.hid hn
  have hn4 : n ≤ 4096 := by rw [← hn]; exact hq.good.len
  have HR := Lib.hid hr
  obtain ⟨bb, hbb⟩ : ∃ bb, decide (L ≠ []) = bb := ⟨_, rfl⟩
  have HB := Lib.hid hbb
  have qn := fun w => run_neT w fa fd
  have qb2 : (bb != bb) = false := by simp
  have qnn : ((n : Int) != (n : Int)) = false := by simp
  have hnI : (n : Int) ≤ 4096 := by omega
  clear hq hr hf hn hbb
  go_enter Try.func13, Try.ntmps13
  go_wp2_with fail
  refine (First_c HQ.out HF.out HB.out).mono ?_
  rintro e w1 ⟨rfl, hb1⟩
  have B1 := Lib.hid hb1
  have lz1 := hb1.size
  clear hb1
  go_wp2_with fail
  refine calls_named (S := fun W => Below w.heap.size w W ∧ Blk W w1.heap.size TT [.int .i64 fa, .int .i64 fd]) ⟨by (repeat' (first | (with_reducible exact Below.refl _ _) | (with_reducible refine Below.setCell ?_ (by (first | omega | (simp; done) | (simp; omega))) _) | (with_reducible refine Below.alloc ?_ (by (first | omega | (simp; done) | (simp; omega))) _) | (with_reducible refine Below.drew ?_) | (with_reducible refine below_drewN ?_ _) | (with_reducible refine Below.trans ?_ (Below.mono B1.out (by (first | omega | (simp; done) | (simp; omega))))))), by (repeat' (first | (with_reducible refine BlkP.Blk.drew ?_) | (with_reducible refine BlkP.Blk.drewN ?_ _) | (with_reducible refine BlkP.Blk.setAt (us := ?_) (by first | omega | (simp; done) | (simp; omega)) rfl ?_ ?_) | (with_reducible refine BlkP.Blk.otherAt ?_ (by first | omega | (simp; done) | (simp; omega))) | (with_reducible refine BlkP.Blk.newA' (by first | omega | (simp; done) | (simp; omega)) rfl) | (with_reducible refine BlkP.Blk.alloc ?_ _) | (exact rfl)))⟩ ?_
  rintro w2 ⟨hb2, t2⟩
  have B2 := Lib.hid hb2
  have T2 := Lib.hid t2
  have tl2 := t2.lt
  clear hb2 t2
  refine (rFirst_c (HR.out.below B2.out) HF.out HB.out).mono ?_
  rintro e w3 ⟨rfl, hb3⟩
  have B3 := Lib.hid (below_t B2.out hb3)
  have T3 := Lib.hid (T2.out.below hb3)
  have lz3 := hb3.size
  clear hb3
  go_wp2_with fail
  refine HeldP.wp_named (S := fun W => Below w.heap.size w W ∧ Blk W w1.heap.size TT [.int .i64 fa, .int .i64 fd] ∧ Blk W w3.heap.size TT [.int .i64 fa, .int .i64 fd]) ⟨by (repeat' (first | (with_reducible exact Below.refl _ _) | (with_reducible refine Below.setCell ?_ (by (first | omega | (simp; done) | (simp; omega))) _) | (with_reducible refine Below.alloc ?_ (by (first | omega | (simp; done) | (simp; omega))) _) | (with_reducible refine Below.drew ?_) | (with_reducible refine below_drewN ?_ _) | (with_reducible refine Below.trans ?_ (Below.mono B3.out (by (first | omega | (simp; done) | (simp; omega))))))), by (repeat' (first | (with_reducible exact T3.out) | (with_reducible refine BlkP.Blk.drew ?_) | (with_reducible refine BlkP.Blk.drewN ?_ _) | (with_reducible refine BlkP.Blk.setAt (us := ?_) (by first | omega | (simp; done) | (simp; omega)) rfl ?_ ?_) | (with_reducible refine BlkP.Blk.otherAt ?_ (by first | omega | (simp; done) | (simp; omega))) | (with_reducible refine BlkP.Blk.newA' (by first | omega | (simp; done) | (simp; omega)) rfl) | (with_reducible refine BlkP.Blk.alloc ?_ _) | (exact rfl))), by (repeat' (first | (with_reducible refine BlkP.Blk.drew ?_) | (with_reducible refine BlkP.Blk.drewN ?_ _) | (with_reducible refine BlkP.Blk.setAt (us := ?_) (by first | omega | (simp; done) | (simp; omega)) rfl ?_ ?_) | (with_reducible refine BlkP.Blk.otherAt ?_ (by first | omega | (simp; done) | (simp; omega))) | (with_reducible refine BlkP.Blk.newA' (by first | omega | (simp; done) | (simp; omega)) rfl) | (with_reducible refine BlkP.Blk.alloc ?_ _) | (exact rfl)))⟩ ?_
  rintro w4 ⟨hb4, t4, u4⟩
  have B4 := Lib.hid hb4
  have HLEN := Lib.hid (show ∀ k, Calls Try.prog 24 #[.pointer (some ⟨qb, 0, none⟩)] (w4.drewN k) fun e w' => e = .returned (.int .i64 (n : Int)) ∧ w' = w4.drewN k from fun k => by
    have q := qLen_c ((HQ.out.below hb4).below (w' := w4.drewN k) (BaseP.below_drewN (Below.refl _ _) k))
    rw [HN.out] at q
    exact q)
  obtain ⟨v, rq, ro, rg, rT⟩ := HR.out.below hb4
  obtain ⟨A, c, rfl, _, _, _⟩ := own_len ro HN.out
  have RO := Lib.hid ro
  have RQ' := Lib.hid rq
  have r0 := rq.cell (i := 0) rfl
  have rl := rq.lt
  have t0 := t4.cell (i := 0) rfl
  have t1 := t4.cell (i := 1) rfl
  have u0 := u4.cell (i := 0) rfl
  have u1 := u4.cell (i := 1) rfl
  have tl4 := t4.lt
  have ul4 := u4.lt
  clear hb4 t4 u4 rq ro rg rT
  go_quiet ((go_at_call 24; (with_reducible refine Calls.quiet_of_same (HLEN.out _))))
  refine HeldP.then_named (S := fun W => Below w4.heap.size w4 W) (by (repeat' (first | (with_reducible exact Below.refl _ _) | (with_reducible refine Below.setCell ?_ (by (first | omega | (simp; done) | (simp; omega))) _) | (with_reducible refine Below.alloc ?_ (by (first | omega | (simp; done) | (simp; omega))) _) | (with_reducible refine Below.drew ?_) | (with_reducible refine below_drewN ?_ _)))) ?_
  rintro w5 hb5
  have B5 := Lib.hid (below_t B4.out hb5)
  have B45 := Lib.hid hb5
  clear hb5 t0 t1 u0 u1 r0 rl
  go_wp2_with fail
  refine (List_c (HQ.out.below B5.out)).mono ?_
  rintro e w6 ⟨v', rfl, ho6, hb6⟩
  obtain ⟨A6, c6, rfl, _, _, hA6⟩ := own_len ho6 HN.out
  have B6 := Lib.hid (below_t B5.out hb6)
  have B46 := Lib.hid (below_t B45.out hb6)
  have O6 := Lib.hid ho6
  have HA6 := Lib.hid hA6
  have q6 := RQ'.out.below B46.out
  have r0 := q6.cell (i := 0) rfl
  have rl := q6.lt
  clear ho6 hb6 hA6 q6
  go_wp2_with fail
  refine (rSame_c (l := L) O6.out.rd (Own.rd (RO.out.below B46.out)) HN.out (by omega)).mono ?_
  rintro e w7 ⟨rfl, hb7⟩
  have B7 := Lib.hid (below_t B6.out hb7)
  have O7 := Lib.hid (O6.out.below hb7)
  have hz7 := hb7.size
  have hz5 := B5.out.size
  clear hb7 r0 rl
  go_wp2_with fail
  go_loopw [10] (fun v10 wr => ∃ (i : Nat) (l1 : List Tick), v10 = .int .i64 (i : Nat) ∧ i ≤ n ∧ l1.length = n ∧ RowG.Own encT TT wr w5.heap.size (.slice A6 n c6) l1 ∧ Below w.heap.size w wr) (fun v _ => 6000 - (intOf v).toNat)
  case atStart => exact ⟨0, L, rfl, Nat.zero_le _, HN.out, O7.out, B7.out⟩
  case round =>
    obtain ⟨i, l1, rfl, hi, hl1, ho, hbr⟩ := hrel
    have O := Lib.hid ho
    have BR := Lib.hid hbr
    have L1 := Lib.hid hl1
    clear ho hbr hl1
    by_cases hin : i < n
    · have hiI : (i : Int) < (n : Int) := by omega
      have hi1 : (i : Int) + 1 ≤ 4096 := by omega
      obtain ⟨g, rfl, hg1, hg2⟩ := HA6.out (by omega)
      obtain ⟨⟨a, d⟩, hx⟩ : ∃ x, l1[i]? = some x := ⟨_, List.getElem?_eq_getElem (by rw [L1.out]; exact hin)⟩
      have HX := Lib.hid hx
      have x0 := Own.cell O.out (j := 0) hx rfl
      have x1 := Own.cell O.out (j := 1) hx rfl
      simp only [show encT.k = 2 from rfl, Nat.add_zero] at x0 x1
      have f0 := fun o => O.out.frozen o
      have hgr := (O.out.ge g rfl).2
      clear hx
      go_wp2_with fail
      go_roundw
      case measure =>
        simp only [intOf]
        omega
      case rel =>
        refine ⟨i + 1, l1.set i (1, 1), by first | rfl | (congr 1; omega), by omega, by rw [List.length_set]; exact L1.out, own_setT (y := (1, 1)) O.out HX.out rfl, by (repeat' (first | (with_reducible exact Below.refl _ _) | (with_reducible refine Below.setCell ?_ (by (first | omega | (simp; done) | (simp; omega))) _) | (with_reducible refine Below.alloc ?_ (by (first | omega | (simp; done) | (simp; omega))) _) | (with_reducible refine Below.drew ?_) | (with_reducible refine below_drewN ?_ _) | (with_reducible refine Below.trans ?_ (Below.mono BR.out (by (first | omega | (simp; done) | (simp; omega)))))))⟩
    · have hiI : ¬ (i : Int) < (n : Int) := by omega
      go_wp2_with fail
      go_ret
      exact ⟨rfl, BR.out⟩
set_option maxRecDepth 100000 in
set_option maxHeartbeats 16000000 in
theorem lmay_c {a d : Int} {b : Bool} (h : mayB (a, d) = b) :
    Calls Try.prog 23 #[.agg #[.int .i64 a, .int .i64 d]] w fun e w' => e = .returned (.bool b) ∧ Below w.heap.size w w' := by
  by_cases h0 : 0 ≤ a
  · by_cases h1 : a < 4096
    · by_cases h2 : 1 ≤ d
      · by_cases h3 : d ≤ 2199023255552
        · obtain rfl : true = b := by rw [← h]; simp [mayB, h0, h1, h2, h3]
          have e3 := decide_eq_true h3
          clear h
          go_enter Try.func23, Try.ntmps23
          go_wp2_with fail
          go_ret
          exact ⟨rfl, by (repeat' (first | (with_reducible exact Below.refl _ _) | (with_reducible refine Below.setCell ?_ (by (first | omega | (simp; done) | (simp; omega))) _) | (with_reducible refine Below.alloc ?_ (by (first | omega | (simp; done) | (simp; omega))) _) | (with_reducible refine Below.drew ?_) | (with_reducible refine below_drewN ?_ _)))⟩
        · obtain rfl : false = b := by rw [← h]; simp [mayB, h0, h1, h2, h3]
          have e3 := decide_eq_false h3
          clear h
          go_enter Try.func23, Try.ntmps23
          go_wp2_with fail
          go_ret
          exact ⟨rfl, by (repeat' (first | (with_reducible exact Below.refl _ _) | (with_reducible refine Below.setCell ?_ (by (first | omega | (simp; done) | (simp; omega))) _) | (with_reducible refine Below.alloc ?_ (by (first | omega | (simp; done) | (simp; omega))) _) | (with_reducible refine Below.drew ?_) | (with_reducible refine below_drewN ?_ _)))⟩
      · obtain rfl : false = b := by rw [← h]; simp [mayB, h0, h1, h2]
        have e2 := decide_eq_false h2
        clear h
        go_enter Try.func23, Try.ntmps23
        go_wp2_with fail
        go_ret
        exact ⟨rfl, by (repeat' (first | (with_reducible exact Below.refl _ _) | (with_reducible refine Below.setCell ?_ (by (first | omega | (simp; done) | (simp; omega))) _) | (with_reducible refine Below.alloc ?_ (by (first | omega | (simp; done) | (simp; omega))) _) | (with_reducible refine Below.drew ?_) | (with_reducible refine below_drewN ?_ _)))⟩
    · obtain rfl : false = b := by rw [← h]; simp [mayB, h0, h1]
      have e1 := decide_eq_false h1
      clear h
      go_enter Try.func23, Try.ntmps23
      go_wp2_with fail
      go_ret
      exact ⟨rfl, by (repeat' (first | (with_reducible exact Below.refl _ _) | (with_reducible refine Below.setCell ?_ (by (first | omega | (simp; done) | (simp; omega))) _) | (with_reducible refine Below.alloc ?_ (by (first | omega | (simp; done) | (simp; omega))) _) | (with_reducible refine Below.drew ?_) | (with_reducible refine below_drewN ?_ _)))⟩
  · obtain rfl : false = b := by rw [← h]; simp [mayB, h0]
    have e0 := decide_eq_false h0
    clear h
    go_enter Try.func23, Try.ntmps23
    go_wp2_with fail
    go_ret
    exact ⟨rfl, by (repeat' (first | (with_reducible exact Below.refl _ _) | (with_reducible refine Below.setCell ?_ (by (first | omega | (simp; done) | (simp; omega))) _) | (with_reducible refine Below.alloc ?_ (by (first | omega | (simp; done) | (simp; omega))) _) | (with_reducible refine Below.drew ?_) | (with_reducible refine below_drewN ?_ _)))⟩
end
end QueW
end Go.Proofs.Ytlhanbjendbhfaa
