/-
  The reference's May, place, First, Due, Same.
-/
import Derived.Test.YtlhanbjendbhfaaQueueRow
import Derived.BigQuiet
namespace Go.Proofs.Ytlhanbjendbhfaa
open Go.RowKit
set_option linter.unusedVariables false
set_option linter.unusedSimpArgs false
namespace QueW
open BlkP RowG FrS PushG HeapP ChunkW

section
variable {w : World} {rb : Nat} {L : List Tick} {T : Nat → Prop}
set_option maxRecDepth 100000 in
set_option maxHeartbeats 16000000 in
theorem rMay_c {a d : Int} {b : Bool} (h : mayB (a, d) = b) :
    Calls Try.prog 32 #[.agg #[.int .i64 a, .int .i64 d]] w fun e w' => e = .returned (.bool b) ∧ Below w.heap.size w w' := by
  by_cases h0 : 0 ≤ a
  · by_cases h1 : a < 4096
    · by_cases h2 : 1 ≤ d
      · by_cases h3 : d ≤ 2199023255552
        · obtain rfl : true = b := by rw [← h]; simp [mayB, h0, h1, h2, h3]
          have e3 := decide_eq_true h3
          clear h
          go_enter Try.func32, Try.ntmps32
          go_wp2_with fail
          go_ret
          exact ⟨rfl, by (repeat' (first | (with_reducible exact Below.refl _ _) | (with_reducible refine Below.setCell ?_ (by (first | omega | (simp; done) | (simp; omega))) _) | (with_reducible refine Below.alloc ?_ (by (first | omega | (simp; done) | (simp; omega))) _) | (with_reducible refine Below.drew ?_) | (with_reducible refine below_drewN ?_ _)))⟩
        · obtain rfl : false = b := by rw [← h]; simp [mayB, h0, h1, h2, h3]
          have e3 := decide_eq_false h3
          clear h
          go_enter Try.func32, Try.ntmps32
          go_wp2_with fail
          go_ret
          exact ⟨rfl, by (repeat' (first | (with_reducible exact Below.refl _ _) | (with_reducible refine Below.setCell ?_ (by (first | omega | (simp; done) | (simp; omega))) _) | (with_reducible refine Below.alloc ?_ (by (first | omega | (simp; done) | (simp; omega))) _) | (with_reducible refine Below.drew ?_) | (with_reducible refine below_drewN ?_ _)))⟩
      · obtain rfl : false = b := by rw [← h]; simp [mayB, h0, h1, h2]
        have e2 := decide_eq_false h2
        clear h
        go_enter Try.func32, Try.ntmps32
        go_wp2_with fail
        go_ret
        exact ⟨rfl, by (repeat' (first | (with_reducible exact Below.refl _ _) | (with_reducible refine Below.setCell ?_ (by (first | omega | (simp; done) | (simp; omega))) _) | (with_reducible refine Below.alloc ?_ (by (first | omega | (simp; done) | (simp; omega))) _) | (with_reducible refine Below.drew ?_) | (with_reducible refine below_drewN ?_ _)))⟩
    · obtain rfl : false = b := by rw [← h]; simp [mayB, h0, h1]
      have e1 := decide_eq_false h1
      clear h
      go_enter Try.func32, Try.ntmps32
      go_wp2_with fail
      go_ret
      exact ⟨rfl, by (repeat' (first | (with_reducible exact Below.refl _ _) | (with_reducible refine Below.setCell ?_ (by (first | omega | (simp; done) | (simp; omega))) _) | (with_reducible refine Below.alloc ?_ (by (first | omega | (simp; done) | (simp; omega))) _) | (with_reducible refine Below.drew ?_) | (with_reducible refine below_drewN ?_ _)))⟩
  · obtain rfl : false = b := by rw [← h]; simp [mayB, h0]
    have e0 := decide_eq_false h0
    clear h
    go_enter Try.func32, Try.ntmps32
    go_wp2_with fail
    go_ret
    exact ⟨rfl, by (repeat' (first | (with_reducible exact Below.refl _ _) | (with_reducible refine Below.setCell ?_ (by (first | omega | (simp; done) | (simp; omega))) _) | (with_reducible refine Below.alloc ?_ (by (first | omega | (simp; done) | (simp; omega))) _) | (with_reducible refine Below.drew ?_) | (with_reducible refine below_drewN ?_ _)))⟩
set_option maxRecDepth 100000 in
set_option maxHeartbeats 16000000 in
theorem place_c {a : Int} (h : RQ w rb L T) :
    Calls Try.prog 33 #[.pointer (some ⟨rb, 0, none⟩), .int .i64 a] w fun e w' => e = .returned (.tuple #[.int .i64 (plcL a L : Int), .bool (decide (dueL a L ≠ 0))]) ∧ Below w.heap.size w w' := by
  obtain ⟨v, hq, ho, hg, hT⟩ := h
  have HQ := Lib.hid hq
  have HO := Lib.hid ho
  have HG := Lib.hid hg
  have HTT := Lib.hid hT
  have c0 := hq.cell (i := 0) rfl
  have l0 := hq.lt
  obtain ⟨n, hn⟩ : ∃ n, L.length = n := ⟨_, rfl⟩
  have HN := Lib.hid hn
  have hn4 : n ≤ 4096 := by rw [← hn]; exact hg.len
  have hnI : (n : Int) ≤ 4096 := by omega
  obtain ⟨A, c, rfl, _, _, hA⟩ := own_len ho hn
  have HA := Lib.hid hA
  obtain ⟨p, hp⟩ : ∃ p, plcL a L = p := ⟨_, rfl⟩
  have HP := Lib.hid hp
  obtain ⟨B, hB⟩ : ∃ B, decide (dueL a L ≠ 0) = B := ⟨_, rfl⟩
  have HB := Lib.hid hB
  rw [hp, hB]
  clear hq ho hg hT hn hA hp hB
  go_enter Try.func33, Try.ntmps33
  go_wp2_with fail
  go_loopw [6] (fun v6 wr => ∃ i : Nat, v6 = .int .i64 (i : Nat) ∧ i ≤ n ∧ (∀ j t, j < i → L[j]? = some t → t.1 < a) ∧ wr = w) (fun v _ => 5000 - (intOf v).toNat)
  case atStart => exact ⟨0, rfl, Nat.zero_le _, fun j t h => by omega, rfl⟩
  case round =>
    obtain ⟨i, rfl, hi, hall, rfl⟩ := hrel
    have HALL := Lib.hid hall
    clear hall
    by_cases hin : i < n
    · have hiI : (i : Int) < (n : Int) := by omega
      have hd : decide ((i : Int) < (n : Int)) = true := decide_eq_true hiI
      obtain ⟨g, rfl, _, hgl⟩ := HA.out (by omega)
      obtain ⟨⟨ta, td⟩, hx⟩ : ∃ t, L[i]? = some t := ⟨_, List.getElem?_eq_getElem (by rw [HN.out]; exact hin)⟩
      have HX := Lib.hid hx
      have x0 := Own.cell HO.out (j := 0) hx rfl
      have x1 := Own.cell HO.out (j := 1) hx rfl
      simp only [show encT.k = 2 from rfl, Nat.add_zero] at x0 x1
      clear hx
      by_cases hlt : ta < a
      · have hi1 : (i : Int) + 1 ≤ 4096 := by omega
        go_wp2_with fail
        go_roundw
        case measure =>
          simp only [intOf]
          omega
        case rel =>
          refine ⟨i + 1, by first | rfl | (congr 1; omega), by omega, fun j t hj ht => ?_, by first | rfl | trivial⟩
          by_cases e : j = i
          · subst e
            have := HX.out.symm.trans ht
            have e2 : (ta, td) = t := Option.some.inj this
            rw [← e2]
            exact hlt
          · exact HALL.out j t (by omega) ht
      · have hpi : p = i := by
          rw [← HP.out]
          exact plc_is (by rw [HN.out]; omega) HALL.out (fun t ht => by
            have e2 : (ta, td) = t := Option.some.inj (HX.out.symm.trans ht)
            rw [← e2]
            exact hlt)
        subst hpi
        have hdl := decide_eq_false hlt
        obtain ⟨d1, d2⟩ := plc_due (a := a) HG.out.1
        by_cases hz : dueL a L = 0
        · have hta : ¬ ta = a := by
            have := d2 hz (ta, td) (by rw [HP.out]; exact HX.out)
            exact this
          have hte : (ta == a) = false := by simp [hta]
          obtain rfl : false = B := by rw [← HB.out]; simp [hz]
          clear d1 d2 hz
          go_wp2_with fail
          go_quiet (fail)
          go_wp2_with fail
          refine bodyPost_ret (v := .tuple #[.int .i64 (p : Int), .bool false]) (by simp [results, Try.results33, go_sem]) rfl ?_
          refine ⟨rfl, by (repeat' (first | (with_reducible exact Below.refl _ _) | (with_reducible refine Below.setCell ?_ (by (first | omega | (simp; done) | (simp; omega))) _) | (with_reducible refine Below.alloc ?_ (by (first | omega | (simp; done) | (simp; omega))) _) | (with_reducible refine Below.drew ?_) | (with_reducible refine below_drewN ?_ _)))⟩
        · obtain rfl : ta = a := by
            have := d1 hz
            rw [HP.out, HX.out] at this
            have e2 := Option.some.inj this
            exact congrArg Prod.fst e2
          obtain rfl : true = B := by rw [← HB.out]; simp [hz]
          clear d1 d2 hz
          go_wp2_with fail
          go_quiet (fail)
          go_wp2_with fail
          refine bodyPost_ret (v := .tuple #[.int .i64 (p : Int), .bool true]) (by simp [results, Try.results33, go_sem]) rfl ?_
          refine ⟨rfl, by (repeat' (first | (with_reducible exact Below.refl _ _) | (with_reducible refine Below.setCell ?_ (by (first | omega | (simp; done) | (simp; omega))) _) | (with_reducible refine Below.alloc ?_ (by (first | omega | (simp; done) | (simp; omega))) _) | (with_reducible refine Below.drew ?_) | (with_reducible refine below_drewN ?_ _)))⟩
    · have hiI : ¬ (i : Int) < (n : Int) := by omega
      have hd : decide ((i : Int) < (n : Int)) = false := decide_eq_false hiI
      obtain rfl : i = n := by omega
      have hpi : p = i := by
        rw [← HP.out]
        exact plc_is (by rw [HN.out]; omega) HALL.out (fun t ht => by
          rw [List.getElem?_eq_none (by rw [HN.out]; omega)] at ht
          cases ht)
      obtain rfl : false = B := by
        rw [← HB.out]
        have hz : dueL a L = 0 := by
          apply Classical.byContradiction
          intro hz
          have := (plc_due (a := a) HG.out.1).1 hz
          rw [List.getElem?_eq_none (by rw [HP.out, HN.out]; omega)] at this
          cases this
        simp [hz]
      subst hpi
      go_wp2_with fail
      go_quiet (fail)
      go_wp2_with fail
      refine bodyPost_ret (v := .tuple #[.int .i64 (p : Int), .bool false]) (by simp [results, Try.results33, go_sem]) rfl ?_
      refine ⟨rfl, by (repeat' (first | (with_reducible exact Below.refl _ _) | (with_reducible refine Below.setCell ?_ (by (first | omega | (simp; done) | (simp; omega))) _) | (with_reducible refine Below.alloc ?_ (by (first | omega | (simp; done) | (simp; omega))) _) | (with_reducible refine Below.drew ?_) | (with_reducible refine below_drewN ?_ _)))⟩
set_option maxRecDepth 100000 in
set_option maxHeartbeats 16000000 in
theorem rDue_c {a x : Int} {b : Bool} (h : RQ w rb L T) (hx : dueL a L = x) (hb : decide (x ≠ 0) = b) :
    Calls Try.prog 21 #[.pointer (some ⟨rb, 0, none⟩), .int .i64 a] w fun e w' => e = .returned (.tuple #[.int .i64 x, .bool b]) ∧ Below w.heap.size w w' := by
  have HL := Lib.hid h
  obtain ⟨v, hq, ho, hg, hT⟩ := h
  have HQ := Lib.hid hq
  have HO := Lib.hid ho
  have HG := Lib.hid hg
  have HTT := Lib.hid hT
  have c0 := hq.cell (i := 0) rfl
  have l0 := hq.lt
  obtain ⟨n, hn⟩ : ∃ n, L.length = n := ⟨_, rfl⟩
  have HN := Lib.hid hn
  have hn4 : n ≤ 4096 := by rw [← hn]; exact hg.len
  have hnI : (n : Int) ≤ 4096 := by omega
  obtain ⟨A, c, rfl, _, _, hA⟩ := own_len ho hn
  have HA := Lib.hid hA
  obtain ⟨p, hp⟩ : ∃ p, plcL a L = p := ⟨_, rfl⟩
  have HP := Lib.hid hp
  by_cases hz : x = 0
  · subst hz
    obtain rfl : false = b := by rw [← hb]; simp
    have HX := Lib.hid hx
    clear hq ho hg hT hn hA hp hx hb
    go_enter Try.func21, Try.ntmps21
    go_wp2_with fail
    refine (place_c HL.out).mono ?_
    rw [HP.out, HX.out]
    rintro e w1 ⟨rfl, hb1⟩
    have B1 := Lib.hid hb1
    clear hb1
    go_wp2_with fail
    refine bodyPost_ret (v := .tuple #[.int .i64 0, .bool false]) (by simp [results, Try.results21, go_sem]) rfl ?_
    exact ⟨rfl, B1.out⟩
  · obtain rfl : true = b := by rw [← hb]; simp [hz]
    have hy := (plc_due (a := a) hg.1).1 (by rw [hx]; exact hz)
    rw [hx, hp] at hy
    have hpn : p < n := by rw [← hn]; exact (List.getElem?_eq_some_iff.1 hy).1
    have hpI : (p : Int) < (n : Int) := by omega
    obtain ⟨g, rfl, _, hgl⟩ := hA (by omega)
    have HY := Lib.hid hy
    have hdx : decide (dueL a L ≠ 0) = true := by rw [hx]; simp [hz]
    have HDX := Lib.hid hdx
    clear hq ho hg hT hn hA hp hx hb hy hdx
    go_enter Try.func21, Try.ntmps21
    go_wp2_with fail
    refine (place_c HL.out).mono ?_
    rw [HP.out, HDX.out]
    rintro e w1 ⟨rfl, hb1⟩
    have B1 := Lib.hid hb1
    have O1 := HO.out.below hb1
    have q1 := HQ.out.below hb1
    have c0 := q1.cell (i := 0) rfl
    have l0 := q1.lt
    have hgl := (O1.ge g rfl).2
    have x0 := Own.cell O1 (j := 0) HY.out rfl
    have x1 := Own.cell O1 (j := 1) HY.out rfl
    simp only [show encT.k = 2 from rfl, Nat.add_zero] at x0 x1
    clear hb1 O1 q1
    go_wp2_with fail
    refine bodyPost_ret (v := .tuple #[.int .i64 x, .bool true]) (by simp [results, Try.results21, go_sem]) rfl ?_
    exact ⟨rfl, B1.out⟩
set_option maxRecDepth 100000 in
set_option maxHeartbeats 16000000 in
theorem rFirst_c {a d : Int} {b : Bool} (h : RQ w rb L T) (hf : firstL L = (a, d)) (hb : decide (L ≠ []) = b) :
    Calls Try.prog 34 #[.pointer (some ⟨rb, 0, none⟩)] w fun e w' => e = .returned (.tuple #[.agg #[.int .i64 a, .int .i64 d], .bool b]) ∧ Below w.heap.size w w' := by
  obtain ⟨v, hq, ho, hg, hT⟩ := h
  have HQ := Lib.hid hq
  have HO := Lib.hid ho
  have HG := Lib.hid hg
  have HTT := Lib.hid hT
  have c0 := hq.cell (i := 0) rfl
  have l0 := hq.lt
  obtain ⟨n, hn⟩ : ∃ n, L.length = n := ⟨_, rfl⟩
  have HN := Lib.hid hn
  have hn4 : n ≤ 4096 := by rw [← hn]; exact hg.len
  have hnI : (n : Int) ≤ 4096 := by omega
  obtain ⟨A, c, rfl, _, _, hA⟩ := own_len ho hn
  have HA := Lib.hid hA
  by_cases h0 : L = []
  · subst h0
    obtain ⟨rfl, rfl⟩ : 0 = a ∧ 0 = d := by
      have : ((0 : Int), (0 : Int)) = (a, d) := hf
      simpa using this
    obtain rfl : false = b := by rw [← hb]; simp
    obtain rfl : 0 = n := HN.out
    clear hq ho hg hT hA hf hb
    go_enter Try.func34, Try.ntmps34
    go_wp2_with fail
    refine bodyPost_ret (v := .tuple #[.agg #[.int .i64 0, .int .i64 0], .bool false]) (by simp [results, Try.results34, go_sem]) rfl ?_
    exact ⟨rfl, by (repeat' (first | (with_reducible exact Below.refl _ _) | (with_reducible refine Below.setCell ?_ (by (first | omega | (simp; done) | (simp; omega))) _) | (with_reducible refine Below.alloc ?_ (by (first | omega | (simp; done) | (simp; omega))) _) | (with_reducible refine Below.drew ?_) | (with_reducible refine below_drewN ?_ _)))⟩
  · obtain rfl : true = b := by rw [← hb]; simp [h0]
    have hpos : 0 < n := by rw [← hn]; exact List.length_pos_iff.2 h0
    have hneI : ((n : Int) == 0) = false := by simp; omega
    have hposI : 0 < (n : Int) := by omega
    obtain ⟨g, rfl, _, hgl⟩ := hA hpos
    obtain ⟨⟨fa, fd⟩, hx⟩ : ∃ t, L[0]? = some t := ⟨_, List.getElem?_eq_getElem (by omega)⟩
    have x0 := Own.cell ho (j := 0) hx rfl
    have x1 := Own.cell ho (j := 1) hx rfl
    simp only [show encT.k = 2 from rfl, Nat.add_zero] at x0 x1
    simp only [Nat.zero_mul, Nat.zero_add] at x0 x1
    have HF := Lib.hid (show bestL (fa, fd) (L.drop 1) = (a, d) by
      rw [← hf]
      cases L with
      | nil => exact absurd rfl h0
      | cons t r =>
        have : t = (fa, fd) := by simpa using hx
        subst this
        rfl)
    have HL := Lib.hid (show RQ w rb L T from ⟨_, hq, ho, hg, hT⟩)
    obtain ⟨s, hs⟩ : ∃ s, w.heap.size = s := ⟨_, rfl⟩
    have HS := Lib.hid hs
    clear hq ho hg hT hn hA hf hb hx h0 hs
    go_enter Try.func34, Try.ntmps34
    go_wp2_with fail
    refine HeldP.wp_named (S := fun W => Below w.heap.size w W ∧ Blk W s TT [.int .i64 0, .int .i64 0] ∧ Blk W (s + 1) TT [.int .i64 fa, .int .i64 fd]) ⟨by (repeat' (first | (with_reducible exact Below.refl _ _) | (with_reducible refine Below.setCell ?_ (by (first | omega | (simp; done) | (simp; omega))) _) | (with_reducible refine Below.alloc ?_ (by (first | omega | (simp; done) | (simp; omega))) _) | (with_reducible refine Below.drew ?_) | (with_reducible refine below_drewN ?_ _))), by rw [← HS.out]; (repeat' (first | (with_reducible refine BlkP.Blk.drew ?_) | (with_reducible refine BlkP.Blk.drewN ?_ _) | (with_reducible refine BlkP.Blk.setAt (us := ?_) (by first | omega | (simp; done) | (simp; omega)) rfl ?_ ?_) | (with_reducible refine BlkP.Blk.otherAt ?_ (by first | omega | (simp; done) | (simp; omega))) | (with_reducible refine BlkP.Blk.newA' (by first | omega | (simp; done) | (simp; omega)) rfl) | (with_reducible refine BlkP.Blk.alloc ?_ _) | (exact rfl))), by rw [← HS.out]; (repeat' (first | (with_reducible refine BlkP.Blk.drew ?_) | (with_reducible refine BlkP.Blk.drewN ?_ _) | (with_reducible refine BlkP.Blk.setAt (us := ?_) (by first | omega | (simp; done) | (simp; omega)) rfl ?_ ?_) | (with_reducible refine BlkP.Blk.otherAt ?_ (by first | omega | (simp; done) | (simp; omega))) | (with_reducible refine BlkP.Blk.newA' (by first | omega | (simp; done) | (simp; omega)) rfl) | (with_reducible refine BlkP.Blk.alloc ?_ _) | (exact rfl)))⟩ ?_
    rintro w1 ⟨hb1, r1, t1⟩
    have B1 := Lib.hid hb1
    have R1 := Lib.hid r1
    have T1 := Lib.hid t1
    rw [HS.out]
    clear hb1 r1 t1 x0 x1
    go_loopw [5] (fun v5 wr => ∃ (i : Nat) (b1 b2 : Int), v5 = .int .i64 (i : Nat) ∧ 1 ≤ i ∧ i ≤ n ∧ bestL (b1, b2) (L.drop i) = (a, d) ∧ Blk wr s TT [.int .i64 0, .int .i64 0] ∧ Blk wr (s + 1) TT [.int .i64 b1, .int .i64 b2] ∧ Below w.heap.size w wr) (fun v _ => 5000 - (intOf v).toNat)
    case atStart => exact ⟨1, fa, fd, rfl, Nat.le_refl _, hpos, HF.out, R1.out, T1.out, B1.out⟩
    case round =>
      obtain ⟨i, b1, b2, rfl, hi1, hi, hbest, hr, ht, hbr⟩ := hrel
      have HBEST := Lib.hid hbest
      have R := Lib.hid hr
      have TT1 := Lib.hid ht
      have BR := Lib.hid hbr
      have q0 := HQ.out.below hbr
      have c0 := q0.cell (i := 0) rfl
      have l0 := q0.lt
      have O := Lib.hid (HO.out.below hbr)
      have t0 := ht.cell (i := 0) rfl
      have t1 := ht.cell (i := 1) rfl
      have tl1 := ht.lt
      have tf0 := ht.frozen 0
      have tf1 := ht.frozen 1
      clear hbest hr ht hbr q0
      by_cases hin : i < n
      · have hiI : (i : Int) < (n : Int) := by omega
        have hi1I : (i : Int) + 1 ≤ 4096 := by omega
        have hgr := (O.out.ge g rfl).2
        obtain ⟨⟨xa, xd⟩, hx⟩ : ∃ t, L[i]? = some t := ⟨_, List.getElem?_eq_getElem (by rw [HN.out]; exact hin)⟩
        have x0 := Own.cell O.out (j := 0) hx rfl
        have x1 := Own.cell O.out (j := 1) hx rfl
        simp only [show encT.k = 2 from rfl, Nat.add_zero] at x0 x1
        have hbs := HBEST.out
        rw [(make_step (L1 := L) hx).1, bestL] at hbs
        have HX := Lib.hid hx
        clear hx
        by_cases hlt : xd < b2
        · rw [if_pos hlt] at hbs
          have HBS := Lib.hid hbs
          clear hbs
          go_wp2_with fail
          go_quiet (fail)
          go_wp2_with fail
          go_roundw
          case measure =>
            simp only [intOf]
            omega
          case rel =>
            have hS := HS.out
            refine ⟨i + 1, xa, xd, by first | rfl | (congr 1; omega), by omega, by omega, HBS.out, by (repeat' (first | (with_reducible exact R.out) | (with_reducible refine BlkP.Blk.drew ?_) | (with_reducible refine BlkP.Blk.drewN ?_ _) | (with_reducible refine BlkP.Blk.setAt (us := ?_) (by first | omega | (simp; done) | (simp; omega)) rfl ?_ ?_) | (with_reducible refine BlkP.Blk.otherAt ?_ (by first | omega | (simp; done) | (simp; omega))) | (with_reducible refine BlkP.Blk.newA' (by first | omega | (simp; done) | (simp; omega)) rfl) | (with_reducible refine BlkP.Blk.alloc ?_ _) | (exact rfl))), by (repeat' (first | (with_reducible exact TT1.out) | (with_reducible refine BlkP.Blk.drew ?_) | (with_reducible refine BlkP.Blk.drewN ?_ _) | (with_reducible refine BlkP.Blk.setAt (us := ?_) (by first | omega | (simp; done) | (simp; omega)) rfl ?_ ?_) | (with_reducible refine BlkP.Blk.otherAt ?_ (by first | omega | (simp; done) | (simp; omega))) | (with_reducible refine BlkP.Blk.newA' (by first | omega | (simp; done) | (simp; omega)) rfl) | (with_reducible refine BlkP.Blk.alloc ?_ _) | (exact rfl))), by (repeat' (first | (with_reducible exact Below.refl _ _) | (with_reducible refine Below.setCell ?_ (by (first | omega | (simp; done) | (simp; omega))) _) | (with_reducible refine Below.alloc ?_ (by (first | omega | (simp; done) | (simp; omega))) _) | (with_reducible refine Below.drew ?_) | (with_reducible refine below_drewN ?_ _) | (with_reducible refine Below.trans ?_ (Below.mono BR.out (by (first | omega | (simp; done) | (simp; omega)))))))⟩
        · rw [if_neg hlt] at hbs
          have HBS := Lib.hid hbs
          have hle : b2 ≤ xd := by omega
          clear hbs
          go_wp2_with fail
          go_quiet (fail)
          go_wp2_with fail
          go_roundw
          case measure =>
            simp only [intOf]
            omega
          case rel =>
            refine ⟨i + 1, b1, b2, by first | rfl | (congr 1; omega), by omega, by omega, HBS.out, by (repeat' (first | (with_reducible exact R.out) | (with_reducible refine BlkP.Blk.drew ?_) | (with_reducible refine BlkP.Blk.drewN ?_ _) | (with_reducible refine BlkP.Blk.setAt (us := ?_) (by first | omega | (simp; done) | (simp; omega)) rfl ?_ ?_) | (with_reducible refine BlkP.Blk.otherAt ?_ (by first | omega | (simp; done) | (simp; omega))) | (with_reducible refine BlkP.Blk.newA' (by first | omega | (simp; done) | (simp; omega)) rfl) | (with_reducible refine BlkP.Blk.alloc ?_ _) | (exact rfl))), by (repeat' (first | (with_reducible exact TT1.out) | (with_reducible refine BlkP.Blk.drew ?_) | (with_reducible refine BlkP.Blk.drewN ?_ _) | (with_reducible refine BlkP.Blk.setAt (us := ?_) (by first | omega | (simp; done) | (simp; omega)) rfl ?_ ?_) | (with_reducible refine BlkP.Blk.otherAt ?_ (by first | omega | (simp; done) | (simp; omega))) | (with_reducible refine BlkP.Blk.newA' (by first | omega | (simp; done) | (simp; omega)) rfl) | (with_reducible refine BlkP.Blk.alloc ?_ _) | (exact rfl))), by (repeat' (first | (with_reducible exact Below.refl _ _) | (with_reducible refine Below.setCell ?_ (by (first | omega | (simp; done) | (simp; omega))) _) | (with_reducible refine Below.alloc ?_ (by (first | omega | (simp; done) | (simp; omega))) _) | (with_reducible refine Below.drew ?_) | (with_reducible refine below_drewN ?_ _) | (with_reducible refine Below.trans ?_ (Below.mono BR.out (by (first | omega | (simp; done) | (simp; omega)))))))⟩
      · have hiI : ¬ (i : Int) < (n : Int) := by omega
        have hbs := HBEST.out
        rw [List.drop_eq_nil_of_le (by rw [HN.out]; omega), bestL] at hbs
        obtain ⟨rfl, rfl⟩ : b1 = a ∧ b2 = d := by simpa using hbs
        have r0 := R.out.cell (i := 0) rfl
        have r1 := R.out.cell (i := 1) rfl
        have rl := R.out.lt
        have rf0 := R.out.frozen 0
        have rf1 := R.out.frozen 1
        clear hbs
        go_wp2_with fail
        refine HeldP.bp_named (S := fun W => Below w.heap.size w W ∧ Blk W s TT [.int .i64 b1, .int .i64 b2]) ⟨by have hS := HS.out; (repeat' (first | (with_reducible exact Below.refl _ _) | (with_reducible refine Below.setCell ?_ (by (first | omega | (simp; done) | (simp; omega))) _) | (with_reducible refine Below.alloc ?_ (by (first | omega | (simp; done) | (simp; omega))) _) | (with_reducible refine Below.drew ?_) | (with_reducible refine below_drewN ?_ _) | (with_reducible refine Below.trans ?_ (Below.mono BR.out (by (first | omega | (simp; done) | (simp; omega))))))), by (repeat' (first | (with_reducible exact R.out) | (with_reducible refine BlkP.Blk.drew ?_) | (with_reducible refine BlkP.Blk.drewN ?_ _) | (with_reducible refine BlkP.Blk.setAt (us := ?_) (by first | omega | (simp; done) | (simp; omega)) rfl ?_ ?_) | (with_reducible refine BlkP.Blk.otherAt ?_ (by first | omega | (simp; done) | (simp; omega))) | (with_reducible refine BlkP.Blk.newA' (by first | omega | (simp; done) | (simp; omega)) rfl) | (with_reducible refine BlkP.Blk.alloc ?_ _) | (exact rfl)))⟩ ?_
        rintro w9 ⟨hb9, r9⟩
        have q0 := r9.cell (i := 0) rfl
        have q1 := r9.cell (i := 1) rfl
        have HB9 := Lib.hid hb9
        clear hb9 r9 r0 r1
        refine bodyPost_ret (v := .tuple #[.agg #[.int .i64 b1, .int .i64 b2], .bool true]) (by simp [results, Try.results34, go_sem, q0, q1]) rfl ?_
        exact ⟨rfl, HB9.out⟩
set_option maxRecDepth 100000 in
set_option maxHeartbeats 16000000 in
theorem rSame_c {A1 A2 : Option Addr} {n c1 c2 : Nat} {l : List Tick} (h1 : Rd encT w (.slice A1 n c1) l) (h2 : Rd encT w (.slice A2 n c2) l) (hn : l.length = n) (hn5 : n ≤ 5000) :
    Calls Try.prog 35 #[.slice A1 n c1, .slice A2 n c2] w fun e w' => e = .returned (.bool true) ∧ Below w.heap.size w w' := by
  have H1 := Lib.hid h1
  have H2 := Lib.hid h2
  have HN := Lib.hid hn
  have hnI : (n : Int) ≤ 5000 := by omega
  have qn : ∀ (w : World) (a d : Int), (binOp .neq TT (.agg #[.int .i64 a, .int .i64 d]) (.agg #[.int .i64 a, .int .i64 d])).run Try.prog w = .ok (.bool false) w := fun w a d => by go_simp
  clear hn h1 h2
  go_enter Try.func35, Try.ntmps35
  go_wp2_with fail
  go_loopw [5] (fun v5 wr => ∃ i : Nat, v5 = .int .i64 (i : Nat) ∧ i ≤ n ∧ Below w.heap.size w wr) (fun v _ => 6000 - (intOf v).toNat)
  case atStart => exact ⟨0, rfl, Nat.zero_le _, Below.refl _ _⟩
  case round =>
    obtain ⟨i, rfl, hi, hbr⟩ := hrel
    have BR := Lib.hid hbr
    clear hbr
    by_cases hin : i < n
    · have hiI : (i : Int) < (n : Int) := by omega
      have hi1I : (i : Int) + 1 ≤ 5000 := by omega
      obtain ⟨⟨xa, xd⟩, hx⟩ : ∃ t, l[i]? = some t := ⟨_, List.getElem?_eq_getElem (by rw [HN.out]; exact hin)⟩
      obtain ⟨b1, o1, rfl, hl1, hs1⟩ := (H1.out.below BR.out).at hx
      obtain ⟨b2, o2, rfl, hl2, hs2⟩ := (H2.out.below BR.out).at hx
      have x0 := hs1 0 _ rfl
      have x1 := hs1 1 _ rfl
      have y0 := hs2 0 _ rfl
      have y1 := hs2 1 _ rfl
      simp only [show encT.k = 2 from rfl, Nat.add_zero] at x0 x1 y0 y1
      clear hx hs1 hs2
      go_wp2_with fail
      go_quiet (fail)
      go_wp2_with fail
      go_roundw
      case measure =>
        simp only [intOf]
        omega
      case rel =>
        refine ⟨i + 1, by first | rfl | (congr 1; omega), by omega, by (repeat' (first | (with_reducible exact Below.refl _ _) | (with_reducible refine Below.setCell ?_ (by (first | omega | (simp; done) | (simp; omega))) _) | (with_reducible refine Below.alloc ?_ (by (first | omega | (simp; done) | (simp; omega))) _) | (with_reducible refine Below.drew ?_) | (with_reducible refine below_drewN ?_ _) | (with_reducible refine Below.trans ?_ (Below.mono BR.out (by (first | omega | (simp; done) | (simp; omega)))))))⟩
    · have hiI : ¬ (i : Int) < (n : Int) := by omega
      go_wp2_with fail
      go_ret
      exact ⟨rfl, BR.out⟩
end
end QueW
end Go.Proofs.Ytlhanbjendbhfaa
