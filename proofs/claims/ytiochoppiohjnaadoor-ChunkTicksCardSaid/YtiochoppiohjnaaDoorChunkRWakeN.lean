/-
  The reference's Wake of a tick that is not there.
-/
import Derived.LaidEql
import Derived.Test.YtiochoppiohjnaaDoorChunkRWake
namespace Go.Proofs.YtiochoppiohjnaaDoor
open Go.RowKit
set_option linter.unusedVariables false
set_option linter.unusedSimpArgs false
namespace ChunkW
open BytesW PackW

/-- The row behind j rounds. -/
def rowN (ts : List Tick) (b : Nat) (p : Tick) (j : Nat) : List Tick := if j ≤ b then ts.take j else ts.take b ++ p :: (ts.drop b).take (j - b)
open SortW in
theorem rowN_lo {ts : List Tick} {b j : Nat} {p t : Tick} (h : ts[j]? = some t) (hj : j < b) : rowN ts b p (j + 1) = rowN ts b p j ++ [t] := by
  rw [rowN, if_pos (by omega), rowN, if_pos (by omega), take_next h]
theorem drop_get {ts : List Tick} {b j : Nat} {t : Tick} (h : ts[j]? = some t) (hj : b ≤ j) : (ts.drop b)[j - b]? = some t := by
  rw [List.getElem?_drop, show b + (j - b) = j by omega, h]
theorem rowN_at {ts : List Tick} {b : Nat} {p t : Tick} (h : ts[b]? = some t) : rowN ts b p (b + 1) = (rowN ts b p b ++ [p]) ++ [t] := by
  rw [rowN, if_neg (by omega), rowN, if_pos (by omega), show b + 1 - b = (b - b) + 1 by omega, take_next (drop_get h (Nat.le_refl _))]
  simp
theorem rowN_hi {ts : List Tick} {b j : Nat} {p t : Tick} (h : ts[j]? = some t) (hj : b < j) : rowN ts b p (j + 1) = rowN ts b p j ++ [t] := by
  rw [rowN, if_neg (by omega), rowN, if_neg (by omega), show j + 1 - b = (j - b) + 1 by omega, take_next (drop_get h (by omega))]
  simp
theorem rowN_end {ts : List Tick} {b n : Nat} {p : Tick} (hn : n = ts.length) (hb : b < n) : rowN ts b p n = replT ts b b [p] := by
  rw [rowN, if_neg (by omega), List.take_of_length_le (l := ts.drop b) (by simp; omega)]
  simp [replT]
theorem rowN_end2 {ts : List Tick} {b n : Nat} {p : Tick} (hn : n = ts.length) (hb : n ≤ b) : rowN ts b p n ++ [p] = replT ts b b [p] := by
  rw [rowN, if_pos hb, List.take_of_length_le (by omega)]
  simp [replT, List.take_of_length_le (show ts.length ≤ b by omega), List.drop_of_length_le (show ts.length ≤ b by omega)]
theorem rowN_len (ts : List Tick) (b : Nat) (p : Tick) (j : Nat) : (rowN ts b p j).length ≤ ts.length + 1 := by
  unfold rowN
  split
  · simp; omega
  · simp; omega
def RNRel (w : World) (n b : Nat) (ts : List Tick) (p : Tick) (v g i : Value) (wr : World) : Prop := ∃ j : Nat, g = .bool (decide (b < j)) ∧ i = .int .i64 j ∧ j ≤ n ∧ OwnP tkv 63 wr w.heap.size v (rowN ts b p j) ∧ Below w.heap.size w wr
set_option maxRecDepth 100000 in
set_option maxHeartbeats 8000000 in
theorem rwake_new {w : World} {A : Option Addr} {ts : List Tick} {n c : Nat} {x d : Int} (hA : PairC tkv w A ts) (hn : n = ts.length) (hl : n ≤ 900000) (h1 : 0 ≤ x) (h2 : x ≤ 4095) (h3 : ¬ d < 1) (hk : findT ts x = none) :
    Calls Tryd.prog 26 #[.slice A n c, .int .i64 x, .int .i64 d] w (GivesT w (wakeT ts x d)) := by
  have HC := Lib.hid (rplace_c (c := c) hA hn (by omega) (show findI ts x = -1 by rw [findI, hk]))
  have hix : isIx x = true := by unfold isIx; simp; omega
  have hE : wakeT ts x d = replT ts (behindT ts x) (behindT ts x) [(x, d)] := by
    rw [wakeT, if_neg (by rw [hix]; simp; omega), hk]
  have hbl := behind_le ts x
  have hov : ∀ (j : Nat) t, ts[j]? = some t → (j < behindT ts x → ¬ x < t.1) ∧ (j = behindT ts x → x < t.1) := fun j t ht => by
    unfold behindT
    rcases hq : idx (overP x) ts with _ | k
    · have := idx_none hq t (List.mem_of_getElem? ht)
      have hj := (List.getElem?_eq_some_iff.1 ht).1
      simp only [Option.getD_none]
      simp only [overP, decide_eq_false_iff_not] at this
      exact ⟨fun _ => this, fun h => by omega⟩
    · obtain ⟨_, ⟨t2, ht2, hp⟩, hall⟩ := idx_some hq
      simp only [Option.getD_some]
      refine ⟨fun h => ?_, fun h => ?_⟩
      · have := hall j h t ht
        simpa [overP] using this
      · subst h
        rw [ht2] at ht
        injection ht with ht
        subst ht
        simpa [overP] using hp
  rw [hE]
  obtain ⟨b, hb⟩ : ∃ b, b = behindT ts x := ⟨_, rfl⟩
  rw [← hb] at hbl hov ⊢
  have HOV := Lib.hid hov
  have HP := Lib.hid hA
  have HN := Lib.hid hn
  have hbn : b ≤ n := by omega
  have e1 : decide (x < 0) = false := by simp; omega
  have e2 : decide (4095 < x) = false := by simp; omega
  have e3 : decide (d < 1) = false := by simp; omega
  clear hA hn hk hix hE hov hb hbl
  go_enter Tryd.func26, Tryd.ntmps26
  go_wp2_with fail
  go_at_call 47
  refine (HC.out).mono ?_
  rintro e w1 ⟨rfl, hb1⟩
  have HB1 := Lib.hid hb1
  clear hb1
  go_wp2_with fail
  clear e1 e2 e3
  go_loopw [7, 9, 10] (RNRel w n b ts (x, d)) (fun _ _ v _ => n - (intOf v).toNat)
  case atStart => exact ⟨0, by first | rfl | simp, rfl, by omega, by rw [show rowN ts b (x, d) 0 = [] by simp [rowN]]; exact OwnP.nil _ _ _, HB1.out⟩
  case round =>
    obtain ⟨j, rfl, rfl, hj, hown, hbw⟩ := hrel
    have HB := Lib.hid hbw
    have HO := Lib.hid hown
    have HBR := Lib.hid (Below.refl wr.heap.size wr)
    have hz := hbw.size
    have hlen := rowN_len ts b (x, d) j
    have HLEN : Hid ((rowN ts b (x, d) j).length ≤ 1000000) := Lib.hid (by have := HN.out; omega)
    clear hbw hown hlen
    by_cases hjl : j < n
    · have hjI : (j : Int) < n := by omega
      have hjI0 : (0 : Int) ≤ j := by omega
      obtain ⟨⟨a, q⟩, hx⟩ : ∃ x, ts[j]? = some x := ⟨_, List.getElem?_eq_getElem (by have := HN.out; omega)⟩
      have HX := Lib.hid hx
      obtain ⟨bb, o, rfl, hbl, hcs⟩ := (HP.out.below HB.out).cells (fun e => by rw [e] at hx; simp at hx)
      obtain ⟨c0, c1⟩ := hcs _ _ hx
      simp only [tkv] at c0 c1
      have e9 : ((j : Int) == -1) = false := by first | (simp; done) | (simp; omega)
      clear hx hcs
      by_cases hjb : b < j
      · have e7 : decide (b < j) = true := by simpa using hjb
        have HNX : Hid (rowN ts b (x, d) (j + 1) = rowN ts b (x, d) j ++ [(a, q)]) := Lib.hid (rowN_hi HX.out hjb)
        rw [e7]
        go_wp2_with ((with_reducible refine at_slot 72 ?_); refine Classical.byContradiction (fun hG => ?_))
        refine hG ?_
        clear hG
        refine list_named (fun W => ∃ w4, W = w4.alloc (.cells #[.int .i64 a, .int .i64 q] 63) ∧ Below wr.heap.size wr w4 ∧ w4.heap.size = wr.heap.size + 1) ⟨_, rfl, by have HBo := HBR.out; (repeat' (first | (with_reducible exact Below.refl _ _) | (with_reducible refine Below.setCell ?_ (by (first | omega | (simp; done) | (simp; omega))) _) | (with_reducible refine Below.alloc ?_ (by (first | omega | (simp; done) | (simp; omega))) _) | (with_reducible refine Below.drew ?_) | (with_reducible refine below_drewN ?_ _) | (with_reducible refine Below.trans ?_ (Below.mono HBo (by (first | omega | (simp; done) | (simp; omega))))))), by simp⟩ ?_
        rintro _ ⟨w4, rfl, hb4, hz4⟩
        have HB4 := Lib.hid hb4
        have HO4 := Lib.hid (HO.out.below hb4)
        have hz6 : w.heap.size ≤ w4.heap.size := by have := HB.out.size; omega
        clear hb4
        refine wp_pushP rfl (.tmp 69) (.tmp 71) rfl underTicks infoTick rfl (by omega) one_tk w4 _ _ rfl rfl HO4.out (a, q) rfl rfl (by rw [hz4]; rfl) (by have := HLEN.out; omega) hz6 ?_
        intro v6 w6 hown6 hb6
        go_wp2
        go_roundw
        case rel => exact ⟨j + 1, by simp; omega, by go_num, by omega, by rw [HNX.out]; exact hown6, HB.out.trans ((HB4.out.mono hz).trans hb6)⟩
        case measure => simp [intOf]; omega
      · have e7 : decide (b < j) = false := by simpa using hjb
        rw [e7]
        by_cases hjb2 : j < b
        · have HNX : Hid (rowN ts b (x, d) (j + 1) = rowN ts b (x, d) j ++ [(a, q)]) := Lib.hid (rowN_lo HX.out hjb2)
          have ha : ¬ x < a := by have h := (HOV.out _ _ HX.out).1 hjb2; simp only at h; omega
          have e6 : decide (x < a) = false := by simpa using ha
          go_wp2_with ((with_reducible refine at_slot 72 ?_); refine Classical.byContradiction (fun hG => ?_))
          refine hG ?_
          clear hG
          refine list_named (fun W => ∃ w4, W = w4.alloc (.cells #[.int .i64 a, .int .i64 q] 63) ∧ Below wr.heap.size wr w4 ∧ w4.heap.size = wr.heap.size + 1) ⟨_, rfl, by have HBo := HBR.out; (repeat' (first | (with_reducible exact Below.refl _ _) | (with_reducible refine Below.setCell ?_ (by (first | omega | (simp; done) | (simp; omega))) _) | (with_reducible refine Below.alloc ?_ (by (first | omega | (simp; done) | (simp; omega))) _) | (with_reducible refine Below.drew ?_) | (with_reducible refine below_drewN ?_ _) | (with_reducible refine Below.trans ?_ (Below.mono HBo (by (first | omega | (simp; done) | (simp; omega))))))), by simp⟩ ?_
          rintro _ ⟨w4, rfl, hb4, hz4⟩
          have HB4 := Lib.hid hb4
          have HO4 := Lib.hid (HO.out.below hb4)
          have hz6 : w.heap.size ≤ w4.heap.size := by have := HB.out.size; omega
          clear hb4
          refine wp_pushP rfl (.tmp 69) (.tmp 71) rfl underTicks infoTick rfl (by omega) one_tk w4 _ _ rfl rfl HO4.out (a, q) rfl rfl (by rw [hz4]; rfl) (by have := HLEN.out; omega) hz6 ?_
          intro v6 w6 hown6 hb6
          go_wp2
          go_roundw
          case rel => exact ⟨j + 1, by simp; omega, by go_num, by omega, by rw [HNX.out]; exact hown6, HB.out.trans ((HB4.out.mono hz).trans hb6)⟩
          case measure => simp [intOf]; omega
        · have hjb3 : j = b := by omega
          have ha : x < a := (HOV.out _ _ HX.out).2 hjb3
          have e6 : decide (x < a) = true := by simpa using ha
          have HNX : Hid (rowN ts b (x, d) (j + 1) = (rowN ts b (x, d) j ++ [(x, d)]) ++ [(a, q)]) := Lib.hid (by
            have hx := HX.out
            rw [hjb3] at hx ⊢
            exact rowN_at hx)
          have HJB := Lib.hid hjb3
          clear hjb hjb2 hjb3
          go_wp2_with ((with_reducible refine at_slot 53 ?_); refine Classical.byContradiction (fun hG => ?_))
          refine hG ?_
          clear hG
          refine wp_pushP rfl (.tmp 48) (.tmp 52) rfl underTicks infoTick rfl (by omega) one_tk wr _ _ rfl rfl HO.out (x, d) rfl rfl rfl (by have := HLEN.out; omega) hz ?_
          intro v5 w5 hown5 hb5
          have HO5 := Lib.hid hown5
          have HB5 := Lib.hid (HB.out.trans hb5)
          have hz5 := HB5.out.size
          obtain ⟨b2, o2, eb, hbl2, hcs2⟩ := (HP.out.below HB5.out).cells (fun e => by have hx := HX.out; rw [e] at hx; simp at hx)
          injection eb with eb
          injection eb with eb1 eb2
          subst eb1 eb2
          obtain ⟨c2, c3⟩ := hcs2 _ _ HX.out
          simp only [tkv] at c2 c3
          clear hown5 hb5 hcs2 c0 c1 HBR
          have HBR := Lib.hid (Below.refl w5.heap.size w5)
          go_wp2_with ((with_reducible refine at_slot 72 ?_); refine Classical.byContradiction (fun hG => ?_))
          refine hG ?_
          clear hG
          refine list_named (fun W => ∃ w4, W = w4.alloc (.cells #[.int .i64 a, .int .i64 q] 63) ∧ Below w5.heap.size w5 w4 ∧ w4.heap.size = w5.heap.size + 1) ⟨_, rfl, by have HBo := HBR.out; (repeat' (first | (with_reducible exact Below.refl _ _) | (with_reducible refine Below.setCell ?_ (by (first | omega | (simp; done) | (simp; omega))) _) | (with_reducible refine Below.alloc ?_ (by (first | omega | (simp; done) | (simp; omega))) _) | (with_reducible refine Below.drew ?_) | (with_reducible refine below_drewN ?_ _) | (with_reducible refine Below.trans ?_ (Below.mono HBo (by (first | omega | (simp; done) | (simp; omega))))))), by simp⟩ ?_
          rintro _ ⟨w4, rfl, hb4, hz4⟩
          have HB4 := Lib.hid hb4
          have HO4 := Lib.hid (HO5.out.below hb4)
          have hz6 : w.heap.size ≤ w4.heap.size := by have := HB5.out.size; omega
          clear hb4
          refine wp_pushP rfl (.tmp 69) (.tmp 71) rfl underTicks infoTick rfl (by omega) one_tk w4 _ _ rfl rfl HO4.out (a, q) rfl rfl (by rw [hz4]; rfl) (by have := HLEN.out; simp; omega) hz6 ?_
          intro v6 w6 hown6 hb6
          go_wp2
          go_roundw
          case rel => exact ⟨j + 1, by have := HJB.out; simp; omega, by go_num, by omega, by rw [HNX.out]; exact hown6, HB5.out.trans ((HB4.out.mono HB5.out.size).trans hb6)⟩
          case measure => simp [intOf]; omega
    · have hjI : ¬ (j : Int) < n := by omega
      have hjn : j = n := by omega
      by_cases hjb : b < j
      · have e7 : decide (b < j) = true := by simpa using hjb
        have HF : Hid (rowN ts b (x, d) j = replT ts b b [(x, d)]) := Lib.hid (by rw [hjn]; exact rowN_end HN.out (by omega))
        rw [e7]
        clear hjn
        go_wp2_with fail
        go_ret
        exact ⟨_, rfl, by rw [← HF.out]; exact HO.out, HB.out⟩
      · have e7 : decide (b < j) = false := by simpa using hjb
        have HF : Hid (rowN ts b (x, d) j ++ [(x, d)] = replT ts b b [(x, d)]) := Lib.hid (by rw [hjn]; exact rowN_end2 HN.out (by omega))
        rw [e7]
        clear hjn
        go_wp2_with ((with_reducible refine at_slot 80 ?_); refine Classical.byContradiction (fun hG => ?_))
        refine hG ?_
        clear hG
        refine wp_pushP rfl (.tmp 75) (.tmp 79) rfl underTicks infoTick rfl (by omega) one_tk wr _ _ rfl rfl HO.out (x, d) rfl rfl rfl (by have := HLEN.out; omega) hz ?_
        intro v5 w5 hown5 hb5
        go_wp2
        go_ret
        exact ⟨_, rfl, by rw [← HF.out]; exact hown5, HB.out.trans hb5⟩
end ChunkW
end Go.Proofs.YtiochoppiohjnaaDoor
