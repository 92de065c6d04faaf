/-
  New.
-/
import Derived.Test.YtlhanbjendbhfaaQueueBox
namespace Go.Proofs.Ytlhanbjendbhfaa
open Go.RowKit
set_option linter.unusedVariables false
set_option linter.unusedSimpArgs false
namespace QueW
open BlkP RowG FrS PushG HeapP ChunkW

/-- What New answers. -/
def NewP (w : World) (R : Int × List Tick) (e : Ending) (w' : World) : Prop := Below w.heap.size w w' ∧ ((R.1 ≠ 0 ∧ e = .returned (.tuple #[.pointer none, .int .i64 R.1])) ∨ (R.1 = 0 ∧ ∃ qb S, e = .returned (.tuple #[.pointer (some ⟨qb, 0, none⟩), .int .i64 0]) ∧ Que w' w.heap.size qb R.2 S))
theorem make_step {l L1 : List Tick} {k : Nat} {t : Tick} (hk : l[k]? = some t) : l.drop k = t :: l.drop (k + 1) ∧ l.take (k + 1) = l.take k ++ [t] := by
  have hlt := (List.getElem?_eq_some_iff.1 hk).1
  have he : l[k] = t := (List.getElem?_eq_some_iff.1 hk).2
  exact ⟨by rw [List.drop_eq_getElem_cons hlt, he], by rw [List.take_succ_eq_append_getElem hlt, he]⟩
section
variable {w : World}
set_option maxRecDepth 100000 in
set_option maxHeartbeats 16000000 in
theorem New_c {A : Option Addr} {n c : Nat} {l : List Tick} {R : Int × List Tick} (hR : Rd encT w (.slice A n c) l) (hn : l.length = n) (hn5 : n ≤ 5000) (hRR : newL l = R) :
    Calls Try.prog 10 #[.slice A n c] w (NewP w R) := by
  have HR := Lib.hid hR
  have HN := Lib.hid hn
  by_cases h4 : 4096 < n
  · have h4I : (4096 : Int) < (n : Int) := by omega
    obtain rfl : (3, []) = R := by rw [← hRR]; unfold newL; rw [hn, if_pos h4]
    clear hR hn hRR
    go_enter Try.func10, Try.ntmps10
    go_wp2_with fail
    go_ret2
    exact ⟨Below.refl _ _, .inl ⟨by decide, rfl⟩⟩
  have h4I : ¬ (4096 : Int) < (n : Int) := by omega
  have hRR2 : makeL [] l = R := by rw [← hRR]; unfold newL; rw [hn, if_neg h4]
  have HRR := Lib.hid hRR2
  clear hR hn hRR hRR2
  go_enter Try.func10, Try.ntmps10
  go_wp2_with fail
  refine (cloneS_c HR.out HN.out (by omega)).mono ?_
  rintro e w1 ⟨v', rfl, ho1, hb1⟩
  obtain ⟨A1, c1, rfl, _, _, hA1⟩ := own_len ho1 HN.out
  have B1 := Lib.hid hb1
  have O1 := Lib.hid ho1
  have HA1 := Lib.hid hA1
  clear hb1 ho1 hA1
  go_wp2_with ((with_reducible refine at_slot 12 ?_); refine Classical.byContradiction (fun hG => ?_))
  refine hG ?_
  clear hG
  refine wp_buildP rfl (.tmp 11) rfl (A := A1) (n := n) (c := c1) rfl ?_
  go_wp2_with ((with_reducible refine at_slot 13 ?_); refine Classical.byContradiction (fun hG => ?_))
  refine hG ?_
  clear hG
  refine wp_boxP rfl (.tmp 12) rfl rfl ?_
  intro w2 hp2 hb2 hz2
  have P2 := Lib.hid (show Pd w2 w.heap.size w1.heap.size (.slice A1 n c1) l noW from ⟨hp2, O1.out.below hb2, fun e => by
    have := (O1.out.ge _ e).2
    omega⟩)
  have B2 := Lib.hid (below_t B1.out hb2)
  have p0 := hp2.cell (pv_0 _ _)
  have pl := hp2.lt
  obtain ⟨pb, hpb⟩ : ∃ pb, w1.heap.size = pb := ⟨_, rfl⟩
  have HPB := Lib.hid (show w.heap.size ≤ pb by have := B1.out.size; omega)
  rw [hpb] at p0 pl P2 ⊢
  clear hp2 hb2 hz2 hpb
  go_wp2_with fail
  go_loopw [19] (fun v19 wr => ∃ (k : Nat) (L1 : List Tick) (W1 : Nat → Nat), v19 = .int .i64 (k : Nat) ∧ k ≤ n ∧ Pd wr w.heap.size pb (.slice A1 n c1) l W1 ∧ Ws (l.take k) W1 L1 ∧ makeL L1 (l.drop k) = R ∧ Below w.heap.size w wr) (fun v _ => 5000 - (intOf v).toNat)
  case atStart => exact ⟨0, [], noW, rfl, Nat.zero_le _, P2.out, by rw [List.take_zero]; exact Ws.nil, HRR.out, B2.out⟩
  case round =>
    obtain ⟨k, L1, W1, rfl, hk, hp1, hw1, hm1, hbr⟩ := hrel
    have P1 := Lib.hid hp1
    have WS := Lib.hid hw1
    have M1 := Lib.hid hm1
    have BR := Lib.hid hbr
    have p0 := hp1.cell0
    have pl := hp1.lt
    clear hp1 hw1 hm1 hbr
    by_cases hkn : k < n
    · have hkI : (k : Int) < (n : Int) := by omega
      have hnI : (n : Int) ≤ 4096 := by omega
      obtain ⟨g, rfl, hg1, hg2⟩ := HA1.out (by omega)
      obtain ⟨⟨a, d⟩, hx⟩ : ∃ x, l[k]? = some x := ⟨_, List.getElem?_eq_getElem (by rw [HN.out]; exact hkn)⟩
      have HX := Lib.hid hx
      have x0 := P1.out.row.cell (j := 0) hx rfl
      have x1 := P1.out.row.cell (j := 1) hx rfl
      simp only [show encT.k = 2 from rfl, Nat.add_zero] at x0 x1
      have hgr : g < wr.heap.size := (P1.out.row.ge g rfl).2
      obtain ⟨e1, e2⟩ := make_step (L1 := L1) hx
      have E2 := Lib.hid e2
      have M2 := M1.out
      rw [e1] at M2
      rw [makeL] at M2
      clear hx e1 e2
      cases hm : mayB (a, d) with
      | false =>
        obtain rfl : (2, []) = R := by rw [← M2, hm]; rfl
        have HM := Lib.hid hm
        clear hm M2
        go_wp2_with fail
        refine (may_c HM.out).mono ?_
        rintro e w3 ⟨rfl, hb3⟩
        have B3 := Lib.hid (show Below w.heap.size w w3 by (repeat' (first | (with_reducible exact Below.refl _ _) | (with_reducible refine Below.setCell ?_ (by (first | omega | (simp; done) | (simp; omega))) _) | (with_reducible refine Below.alloc ?_ (by (first | omega | (simp; done) | (simp; omega))) _) | (with_reducible refine Below.drew ?_) | (with_reducible refine below_drewN ?_ _) | (with_reducible refine Below.trans ?_ (Below.mono hb3 (by (first | omega | (simp; done) | (simp; omega))))) | (with_reducible refine Below.trans ?_ (Below.mono BR.out (by (first | omega | (simp; done) | (simp; omega))))))))
        clear hb3
        go_wp2_with fail
        go_ret2
        exact ⟨B3.out, .inl ⟨by decide, rfl⟩⟩
      | true =>
        obtain ⟨m1, m2, m3, m4⟩ := mayB_iff.1 hm
        simp only at m1 m2 m3 m4
        obtain ⟨a, rfl⟩ := nat_of m1
        have ha : a < 4096 := by omega
        have hw := WS.out.where_ m1 m2
        rw [Int.toNat_natCast] at hw
        rw [hm] at M2
        simp only [Bool.true_eq_false, if_false] at M2
        have HM := Lib.hid hm
        by_cases hd : dueL (a : Int) L1 = 0
        · have HW := Lib.hid (hw.1 hd)
          have HD := Lib.hid hd
          rw [if_neg (by rw [hd]; simp)] at M2
          have HM2 := Lib.hid M2
          clear hm M2 hw hd
          go_wp2_with fail
          refine (may_c HM.out).mono ?_
          rintro e w3 ⟨rfl, hb3⟩
          have hb3' : Below wr.heap.size wr w3 := by (repeat' (first | (with_reducible exact Below.refl _ _) | (with_reducible refine Below.setCell ?_ (by (first | omega | (simp; done) | (simp; omega))) _) | (with_reducible refine Below.alloc ?_ (by (first | omega | (simp; done) | (simp; omega))) _) | (with_reducible refine Below.drew ?_) | (with_reducible refine below_drewN ?_ _) | (with_reducible refine Below.trans ?_ (Below.mono hb3 (by (first | omega | (simp; done) | (simp; omega)))))))
          have B3 := Lib.hid hb3'
          have t3 : Blk w3 wr.heap.size TT [.int .i64 (a : Int), .int .i64 d] := Blk.below (by (repeat' (first | (with_reducible refine BlkP.Blk.drew ?_) | (with_reducible refine BlkP.Blk.drewN ?_ _) | (with_reducible refine BlkP.Blk.setAt (us := ?_) (by first | omega | (simp; done) | (simp; omega)) rfl ?_ ?_) | (with_reducible refine BlkP.Blk.otherAt ?_ (by first | omega | (simp; done) | (simp; omega))) | (with_reducible refine BlkP.Blk.newA' (by first | omega | (simp; done) | (simp; omega)) rfl) | (with_reducible refine BlkP.Blk.alloc ?_ _) | (exact rfl)))) hb3
          have t0 := t3.cell (i := 0) rfl
          have tz := t3.lt
          clear hb3 hb3' t3
          go_wp2_with fail
          refine (find_c (P1.out.below B3.out).blk ha HW.out (by omega)).mono ?_
          rintro e w4 ⟨rfl, rfl⟩
          go_wp2_with fail
          refine (note_c (P1.out.below B3.out).blk (P1.out.below B3.out).row HN.out (by omega) HX.out ha).mono ?_
          rintro e w5 ⟨rfl, hb5, hf5⟩
          have H5 := Lib.hid hb5
          have F5 := Lib.hid hf5
          clear hb5 hf5
          go_wp2_with fail
          go_roundw
          case measure =>
            simp only [intOf]
            omega
          case rel =>
            have hgp : g ≠ pb := fun e => P1.out.ne (by rw [← e]; rfl)
            refine ⟨k + 1, putL (a : Int) d L1, _, by first | rfl | (congr 1; omega), by omega, ⟨H5.out, F5.out.own (P1.out.below B3.out).row (fun q hq e => hgp (by
              have : g = q := by simpa [Value.ownBlock] using hq
              rw [this, e])), P1.out.ne⟩, ?_, HM2.out, ?_⟩
            · rw [E2.out]
              have z := WS.out.push (t := ((a : Int), d)) HM.out HD.out
              have hlk : (l.take k).length = k := by simp [HN.out]; omega
              rw [hlk, Int.toNat_natCast] at z
              exact z
            · refine (BR.out.trans (B3.out.mono BR.out.size)).trans ?_
              exact F5.out.toBelow (by have := BR.out.size; have := B3.out.size; omega) (fun i hi => by rw [hi]; exact HPB.out)
        · obtain ⟨i, hi1, hi2, hi3⟩ := hw.2 hd
          have hi4 : i < 4096 := by simp at hi2; omega
          have HW := Lib.hid hi1
          have hiI : ((i + 1 : Nat) : Int) - 1 = (i : Int) := by omega
          obtain rfl : (6, []) = R := by rw [← M2, if_pos hd]
          clear hm M2 hw hd hi1 hi2 hi3
          go_wp2_with fail
          refine (may_c HM.out).mono ?_
          rintro e w3 ⟨rfl, hb3⟩
          have hb3' : Below wr.heap.size wr w3 := by (repeat' (first | (with_reducible exact Below.refl _ _) | (with_reducible refine Below.setCell ?_ (by (first | omega | (simp; done) | (simp; omega))) _) | (with_reducible refine Below.alloc ?_ (by (first | omega | (simp; done) | (simp; omega))) _) | (with_reducible refine Below.drew ?_) | (with_reducible refine below_drewN ?_ _) | (with_reducible refine Below.trans ?_ (Below.mono hb3 (by (first | omega | (simp; done) | (simp; omega)))))))
          have B3 := Lib.hid hb3'
          have t3 : Blk w3 wr.heap.size TT [.int .i64 (a : Int), .int .i64 d] := Blk.below (by (repeat' (first | (with_reducible refine BlkP.Blk.drew ?_) | (with_reducible refine BlkP.Blk.drewN ?_ _) | (with_reducible refine BlkP.Blk.setAt (us := ?_) (by first | omega | (simp; done) | (simp; omega)) rfl ?_ ?_) | (with_reducible refine BlkP.Blk.otherAt ?_ (by first | omega | (simp; done) | (simp; omega))) | (with_reducible refine BlkP.Blk.newA' (by first | omega | (simp; done) | (simp; omega)) rfl) | (with_reducible refine BlkP.Blk.alloc ?_ _) | (exact rfl)))) hb3
          have t0 := t3.cell (i := 0) rfl
          have tz := t3.lt
          clear hb3 hb3' t3
          go_wp2_with fail
          refine (find_c (P1.out.below B3.out).blk ha HW.out (by omega)).mono ?_
          rw [hiI]
          rintro e w4 ⟨rfl, rfl⟩
          go_wp2_with fail
          go_ret2
          exact ⟨BR.out.trans (B3.out.mono BR.out.size), .inl ⟨by decide, rfl⟩⟩
    · have hkI : ¬ (k : Int) < (n : Int) := by omega
      obtain rfl : k = n := by omega
      have M2 := M1.out
      rw [List.drop_eq_nil_of_le (by rw [HN.out]; exact Nat.le_refl _), makeL] at M2
      subst M2
      have W2 := WS.out
      rw [List.take_of_length_le (by rw [HN.out]; exact Nat.le_refl _)] at W2
      have HW2 := Lib.hid W2
      clear W2
      go_wp2_with fail
      refine (Init_c P1.out HW2.out).mono ?_
      rintro e w3 ⟨rfl, hp3, hf3⟩
      have P3 := Lib.hid hp3
      have F3 := Lib.hid hf3
      have hz3 := hf3.size
      clear hp3 hf3
      go_wp2_with fail
      go_ret2
      have hb9 : Below w.heap.size w w3 := BR.out.trans (F3.out.toBelow BR.out.size (fun i hi => by
        rcases hi with hi | hi
        · rw [hi]; exact HPB.out
        · exact (P1.out.row.ge _ hi).1))
      have hz9 := hb9.size
      refine ⟨by (repeat' (first | (with_reducible exact Below.refl _ _) | (with_reducible refine Below.setCell ?_ (by (first | omega | (simp; done) | (simp; omega))) _) | (with_reducible refine Below.alloc ?_ (by (first | omega | (simp; done) | (simp; omega))) _) | (with_reducible refine Below.drew ?_) | (with_reducible refine below_drewN ?_ _) | (with_reducible refine Below.trans ?_ (Below.mono hb9 (by (first | omega | (simp; done) | (simp; omega))))))), .inr ⟨rfl, w3.heap.size, fun j => j = w3.heap.size ∨ Sp pb (.slice A1 k c1) j, rfl, pb, _, by (repeat' (first | (with_reducible refine BlkP.Blk.drew ?_) | (with_reducible refine BlkP.Blk.drewN ?_ _) | (with_reducible refine BlkP.Blk.setAt (us := ?_) (by first | omega | (simp; done) | (simp; omega)) rfl ?_ ?_) | (with_reducible refine BlkP.Blk.otherAt ?_ (by first | omega | (simp; done) | (simp; omega))) | (with_reducible refine BlkP.Blk.newA' (by first | omega | (simp; done) | (simp; omega)) rfl) | (with_reducible refine BlkP.Blk.alloc ?_ _) | (exact rfl))), (P3.out.fr (Fr.alloc (fun _ => False) _ _) (fun q => q) (fun _ _ q => q)), by have := BR.out.size; omega, HPB.out, fun h => ?_, fun j => Iff.rfl⟩⟩
      rcases h with h | h
      · have := P1.out.lt
        omega
      · have := (P1.out.row.ge _ h).2
        omega
end
end QueW
end Go.Proofs.Ytlhanbjendbhfaa
