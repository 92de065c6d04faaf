/-
  QueuePlays.
-/
import Derived.Test.YtlhanbjendbhfaaQueueWorks
import Derived.Test.YtlhanbjendbhfaaQueueLawP
import Derived.BigQuiet
namespace Go.Proofs.Ytlhanbjendbhfaa
open Go.RowKit
set_option linter.unusedVariables false
set_option linter.unusedSimpArgs false
namespace QueW
open BlkP RowG FrS PushG HeapP ChunkW
/-- A call of the law's: what, its tick. -/
def encDo : Enc (Int × Tick) := ⟨fun x => [.int .i64 x.1, .int .i64 x.2.1, .int .i64 x.2.2], 3, fun _ => rfl, fun x v h => by
  simp only [List.mem_cons, List.not_mem_nil, or_false] at h
  rcases h with rfl | rfl | rfl <;> rfl⟩
section
variable {w : World}
set_option maxRecDepth 100000 in
set_option maxHeartbeats 16000000 in
theorem law_plays {A : Option Addr} {n c : Nat} {l : List (Int × Tick)} (hR : Rd encDo w (.slice A n c) l) (hn : l.length = n) :
    Calls Try.prog 4 #[.slice A n c] w fun e w' => e = .returned (.bool true) ∧ Below w.heap.size w w' := by
  have HR := Lib.hid hR
  have HN := Lib.hid hn
  clear hR hn
  go_enter Try.func4, Try.ntmps4
  go_wp2_with fail
  refine (New_c (A := none) (l := []) (Rd.nil _ _) rfl (by omega) (show newL [] = (0, []) by decide)).mono ?_
  rintro e w1 ⟨hb1, h1⟩
  rcases h1 with ⟨h, _⟩ | ⟨_, qb, S, rfl, hq⟩
  · exact absurd rfl h
  have B1 := Lib.hid hb1
  have Q1 := Lib.hid (show Que w1 w.heap.size qb [] S from hq)
  have hz1 := hb1.size
  clear hb1 hq
  go_wp2_with fail
  refine HeldP.wp_named (S := fun W => Below w.heap.size w W ∧ Below w1.heap.size w1 W ∧ Blk W w1.heap.size TRQ [.slice none 0 0]) ⟨by (repeat' (first | (with_reducible exact Below.refl _ _) | (with_reducible refine Below.setCell ?_ (by (first | omega | (simp; done) | (simp; omega))) _) | (with_reducible refine Below.alloc ?_ (by (first | omega | (simp; done) | (simp; omega))) _) | (with_reducible refine Below.drew ?_) | (with_reducible refine below_drewN ?_ _) | (with_reducible refine Below.trans ?_ (Below.mono B1.out (by (first | omega | (simp; done) | (simp; omega))))))), by (repeat' (first | (with_reducible exact Below.refl _ _) | (with_reducible refine Below.setCell ?_ (by (first | omega | (simp; done) | (simp; omega))) _) | (with_reducible refine Below.alloc ?_ (by (first | omega | (simp; done) | (simp; omega))) _) | (with_reducible refine Below.drew ?_) | (with_reducible refine below_drewN ?_ _))), by (repeat' (first | (with_reducible refine BlkP.Blk.drew ?_) | (with_reducible refine BlkP.Blk.drewN ?_ _) | (with_reducible refine BlkP.Blk.setAt (us := ?_) (by first | omega | (simp; done) | (simp; omega)) rfl ?_ ?_) | (with_reducible refine BlkP.Blk.otherAt ?_ (by first | omega | (simp; done) | (simp; omega))) | (with_reducible refine BlkP.Blk.newA' (by first | omega | (simp; done) | (simp; omega)) rfl) | (with_reducible refine BlkP.Blk.alloc ?_ _) | (exact rfl)))⟩ ?_
  rintro w0 ⟨hb0, hb01, q0⟩
  have Q0 := Lib.hid (Q1.out.below hb01)
  have B0 := Lib.hid hb0
  have R0 := Lib.hid (show RQ w0 w1.heap.size [] (fun k => k = w1.heap.size) from ⟨_, q0, Own.nil _ _ _ _, good_nil, fun k => ⟨.inl, fun h => h.elim id (fun h => by cases h)⟩⟩)
  have D0 := Lib.hid (show ∀ k, S k → ¬ k = w1.heap.size from fun k hk e => by have := (Q1.out.ge hk).2; omega)
  obtain ⟨rb, hrb⟩ : ∃ rb, w1.heap.size = rb := ⟨_, rfl⟩
  have HRB := Lib.hid (show w.heap.size ≤ rb by omega)
  rw [hrb] at R0 D0 ⊢
  clear hb0 hb01 q0 hrb hz1
  go_loopw [6] (fun v6 wr => ∃ (i : Nat) (L1 : List Tick) (S1 T1 : Nat → Prop), v6 = .int .i64 (i : Nat) ∧ Que wr w.heap.size qb L1 S1 ∧ RQ wr rb L1 T1 ∧ (∀ k, S1 k → ¬ T1 k) ∧ Below w.heap.size w wr) (fun v _ => 6000 - (intOf v).toNat)
  case atStart => exact ⟨0, [], S, _, rfl, Q0.out, R0.out, D0.out, B0.out⟩
  case round =>
    obtain ⟨i, L1, S1, T1, rfl, hq, hr, hd, hbr⟩ := hrel
    have Q := Lib.hid hq
    have R := Lib.hid hr
    have D := Lib.hid hd
    have BR := Lib.hid hbr
    have hbz := hbr.size
    clear hq hr hd hbr
    by_cases hin : i < n
    · have hiI : (i : Int) < (n : Int) := by omega
      by_cases h150 : i < 150
      · have h150I : (i : Int) < 150 := by omega
        have hi1 : (i : Int) + 1 ≤ 150 := by omega
        obtain ⟨⟨z, a, d⟩, hx⟩ : ∃ x, l[i]? = some x := ⟨_, List.getElem?_eq_getElem (by rw [HN.out]; exact hin)⟩
        obtain ⟨b0, o0, rfl, hl0, hs0⟩ := (HR.out.below BR.out).at hx
        have x0 := hs0 0 _ rfl
        have x1 := hs0 1 _ rfl
        have x2 := hs0 2 _ rfl
        simp only [show encDo.k = 3 from rfl, Nat.add_zero] at x0 x1 x2
        obtain ⟨r, hr⟩ : ∃ r, z.tmod 4 = r := ⟨_, rfl⟩
        clear hx hs0
        by_cases r0 : r = 0
        · have e0 : (r == 0) = true := by simp [r0]
          clear r0
          obtain ⟨b, hb⟩ : ∃ b, (mayB (a, d) && putsB L1 (a, d)) = b := ⟨_, rfl⟩
          obtain ⟨m, hm⟩ : ∃ m : Int, (if mayB (a, d) then 0 else 2) = m := ⟨_, rfl⟩
          have HB := Lib.hid hb
          have HM := Lib.hid hm
          have hbb : (b == b) = true := by simp
          have hmm : (m == m) = true := by simp
          clear hb hm
          go_wp2_with fail
          refine calls_named (S := fun W => Below wr.heap.size wr W ∧ Blk W wr.heap.size TT [.int .i64 a, .int .i64 d]) ⟨by (repeat' (first | (with_reducible exact Below.refl _ _) | (with_reducible refine Below.setCell ?_ (by (first | omega | (simp; done) | (simp; omega))) _) | (with_reducible refine Below.alloc ?_ (by (first | omega | (simp; done) | (simp; omega))) _) | (with_reducible refine Below.drew ?_) | (with_reducible refine below_drewN ?_ _))), by (repeat' (first | (with_reducible refine BlkP.Blk.drew ?_) | (with_reducible refine BlkP.Blk.drewN ?_ _) | (with_reducible refine BlkP.Blk.setAt (us := ?_) (by first | omega | (simp; done) | (simp; omega)) rfl ?_ ?_) | (with_reducible refine BlkP.Blk.otherAt ?_ (by first | omega | (simp; done) | (simp; omega))) | (with_reducible refine BlkP.Blk.newA' (by first | omega | (simp; done) | (simp; omega)) rfl) | (with_reducible refine BlkP.Blk.alloc ?_ _) | (exact rfl)))⟩ ?_
          rintro w2 ⟨hb2, t2⟩
          have Q2 := Lib.hid (Q.out.below hb2)
          have R2 := Lib.hid (R.out.below hb2)
          have B2 := Lib.hid (BR.out.trans (hb2.mono BR.out.size))
          have T2 := Lib.hid t2
          have TN := Lib.hid (show ¬ S1 wr.heap.size ∧ wr.heap.size ≠ rb from ⟨fun h => by have := (Q.out.ge h).2; omega, fun h => by have := R.out.lt R.out.self; omega⟩)
          clear hb2 t2
          refine (Put_c Q2.out HB.out HM.out).mono ?_
          rintro e w3 ⟨rfl, S3, hq3, hf3, hn3⟩
          have Q3 := Lib.hid hq3
          have R3 := Lib.hid (R2.out.fr hf3 (fun k h1 h2 => D.out k h2 h1))
          have D3 := Lib.hid (show ∀ k, S3 k → ¬ T1 k from fun k h3 h1 => by
            rcases hn3 k h3 with q | q
            · exact D.out k q h1
            · have := R2.out.lt h1
              omega)
          have B3 := Lib.hid (B2.out.trans (Q2.out.toBelow hf3))
          have T3 := Lib.hid (hf3.blk T2.out TN.out.1)
          clear hq3 hf3 hn3
          have t0 := T3.out.cell (i := 0) rfl
          have t1 := T3.out.cell (i := 1) rfl
          have tl := T3.out.lt
          go_wp2_with fail
          refine (rPut_c R3.out HB.out HM.out).mono ?_
          rintro e w4 ⟨rfl, T4, hr4, hf4, hn4⟩
          have R4 := Lib.hid hr4
          have Q4 := Lib.hid (Q3.out.fr hf4 (fun k h3 e => D3.out k h3 (by rw [e]; exact R3.out.self)))
          have D4 := Lib.hid (show ∀ k, S3 k → ¬ T4 k from fun k h3 h4 => by
            rcases hn4 k h4 with q | q
            · exact D3.out k h3 q
            · have := (Q3.out.ge h3).2
              omega)
          have B4 := Lib.hid (B3.out.trans (hf4.toBelow B3.out.size (fun k hk => by rw [hk]; exact HRB.out)))
          have T4' := Lib.hid (hf4.blk T3.out TN.out.2)
          clear hr4 hf4 hn4
          clear t0 t1 tl
          go_wp2_with fail
          refine (same_c Q4.out R4.out).mono ?_
          rintro e w9 ⟨rfl, hb9⟩
          have Q9 := Lib.hid (Que.below Q4.out hb9)
          have R9 := Lib.hid (RQ.below R4.out hb9)
          have B9 := Lib.hid (Below.trans B4.out (hb9.mono (Below.size B4.out)))
          clear hb9
          go_wp2_with fail
          go_roundw
          case measure =>
            simp only [intOf]
            omega
          case rel =>
            exact ⟨i + 1, _, S3, T4, by first | rfl | (congr 1; omega), Q9.out, R9.out, D4.out, B9.out⟩
        have e0 : (r == 0) = false := by simp [r0]
        by_cases r1 : r = 1
        · have e1 : (r == 1) = true := by simp [r1]
          clear r0 r1
          obtain ⟨b, hb⟩ : ∃ b, decide (dueL a L1 ≠ 0) = b := ⟨_, rfl⟩
          have HB := Lib.hid hb
          have hbb : (b == b) = true := by simp
          clear hb
          go_wp2_with fail
          refine HeldP.wp_named (S := fun W => Below wr.heap.size wr W ∧ Blk W wr.heap.size TT [.int .i64 a, .int .i64 d]) ⟨by (repeat' (first | (with_reducible exact Below.refl _ _) | (with_reducible refine Below.setCell ?_ (by (first | omega | (simp; done) | (simp; omega))) _) | (with_reducible refine Below.alloc ?_ (by (first | omega | (simp; done) | (simp; omega))) _) | (with_reducible refine Below.drew ?_) | (with_reducible refine below_drewN ?_ _))), by (repeat' (first | (with_reducible refine BlkP.Blk.drew ?_) | (with_reducible refine BlkP.Blk.drewN ?_ _) | (with_reducible refine BlkP.Blk.setAt (us := ?_) (by first | omega | (simp; done) | (simp; omega)) rfl ?_ ?_) | (with_reducible refine BlkP.Blk.otherAt ?_ (by first | omega | (simp; done) | (simp; omega))) | (with_reducible refine BlkP.Blk.newA' (by first | omega | (simp; done) | (simp; omega)) rfl) | (with_reducible refine BlkP.Blk.alloc ?_ _) | (exact rfl)))⟩ ?_
          rintro w2 ⟨hb2, t2⟩
          have Q2 := Lib.hid (Q.out.below hb2)
          have R2 := Lib.hid (R.out.below hb2)
          have B2 := Lib.hid (BR.out.trans (hb2.mono BR.out.size))
          have T2 := Lib.hid t2
          have TN := Lib.hid (show ¬ S1 wr.heap.size ∧ wr.heap.size ≠ rb from ⟨fun h => by have := (Q.out.ge h).2; omega, fun h => by have := R.out.lt R.out.self; omega⟩)
          clear hb2 t2
          refine wp_region_noPanic ?_
          refine wp_region_held_drew (S := fun Xw => Fr (fun k => S1 k ∨ k = rb) w2 Xw) (by kernel_rfl) ((Fr.refl _ w2).drew) (fun hHeld => ?_)
          refine wpAnyH_take (i := 0) (oi := ⟨some 98, _, _, _, _, _⟩) (v := .pointer (some ⟨qb, 0, none⟩)) rfl (by kernel_rfl) (by kernel_rfl) (by kernel_rfl) (fun _ _ _ h => h) (Or.inl ⟨by rfl, fun Xw hSW => by go_simp⟩) hHeld ?_
          simp only [Act.put, List.setIfInBounds_toArray, List.set_cons_zero, List.set_cons_succ]
          refine wpAnyH_take (i := 1) (oi := ⟨some 99, _, _, _, _, _⟩) (v := .pointer (some ⟨wr.heap.size, 0, none⟩)) rfl (by kernel_rfl) (by kernel_rfl) (by kernel_rfl) (fun _ _ _ h => h) (Or.inl ⟨by rfl, fun Xw hSW => by go_simp⟩) hHeld ?_
          simp only [Act.put, List.setIfInBounds_toArray, List.set_cons_zero, List.set_cons_succ]
          refine wpAnyH_take (i := 2) (oi := ⟨some 100, _, _, _, _, _⟩) (v := .int .i64 a) rfl (by kernel_rfl) (by kernel_rfl) (by kernel_rfl) (fun _ _ _ h => h) (Or.inl ⟨by rfl, fun Xw hSW => by have q := (hSW.blk T2.out (fun h => h.elim TN.out.1 TN.out.2)).cell (i := 0) rfl; go_simp⟩) hHeld ?_
          simp only [Act.put, List.setIfInBounds_toArray, List.set_cons_zero, List.set_cons_succ]
          refine wpAnyH_take (i := 4) (oi := ⟨some 102, _, _, _, _, _⟩) (v := .pointer (some ⟨rb, 0, none⟩)) rfl (by kernel_rfl) (by kernel_rfl) (by kernel_rfl) (fun _ _ _ h => h) (Or.inl ⟨by rfl, fun Xw hSW => by go_simp⟩) hHeld ?_
          simp only [Act.put, List.setIfInBounds_toArray, List.set_cons_zero, List.set_cons_succ]
          refine wpAnyH_take (i := 5) (oi := ⟨some 103, _, _, _, _, _⟩) (v := .pointer (some ⟨wr.heap.size, 0, none⟩)) rfl (by kernel_rfl) (by kernel_rfl) (by kernel_rfl) (fun _ _ _ h => h) (Or.inl ⟨by rfl, fun Xw hSW => by go_simp⟩) hHeld ?_
          simp only [Act.put, List.setIfInBounds_toArray, List.set_cons_zero, List.set_cons_succ]
          refine wpAnyH_take (i := 6) (oi := ⟨some 104, _, _, _, _, _⟩) (v := .int .i64 a) rfl (by kernel_rfl) (by kernel_rfl) (by kernel_rfl) (fun _ _ _ h => h) (Or.inl ⟨by rfl, fun Xw hSW => by have q := (hSW.blk T2.out (fun h => h.elim TN.out.1 TN.out.2)).cell (i := 0) rfl; go_simp⟩) hHeld ?_
          simp only [Act.put, List.setIfInBounds_toArray, List.set_cons_zero, List.set_cons_succ]
          refine wpAnyH_ready (rs := [3]) (by kernel_rfl) (by simp) ?_
          refine AllReadyH.cons (o := ⟨some 101, _, _, _, _, _⟩) rfl (fun K hK => ?_) AllReadyH.nil
          go_simp
          refine (Drop_c (Q2.out.below ((Below.refl _ w2).drew)) rfl HB.out).mono ?_
          rintro e w3 ⟨rfl, S3, hq3, hf3', hn3'⟩
          have hn3 : ∀ k, S3 k → S1 k ∨ w2.heap.size ≤ k := hn3'
          have hf3 : Fr S1 w2 w3 := ((Fr.refl S1 w2).drew).trans hf3' (fun k hk => .inl hk)
          have HF3 := Lib.hid (hf3.mono (S' := fun k => S1 k ∨ k = rb) (fun k hk => .inl hk))
          have Q3 := Lib.hid hq3
          have R3 := Lib.hid (R2.out.fr hf3 (fun k h1 h2 => D.out k h2 h1))
          have D3 := Lib.hid (show ∀ k, S3 k → ¬ T1 k from fun k h3 h1 => by
            rcases hn3 k h3 with q | q
            · exact D.out k q h1
            · have := R2.out.lt h1
              omega)
          have B3 := Lib.hid (B2.out.trans (Q2.out.toBelow hf3))
          have T3 := Lib.hid (hf3.blk T2.out TN.out.1)
          clear hq3 hf3 hn3
          go_wp2_with fail
          refine hK.out _ _ HF3.out (fun hHeld => ?_)
          clear hK K hHeld hf3' hn3'
          refine wpAnyH_ready (rs := [7]) (by kernel_rfl) (by simp) ?_
          refine AllReadyH.cons (o := ⟨some 105, _, _, _, _, _⟩) rfl (fun K hK => ?_) AllReadyH.nil
          go_simp
          refine (rDrop_c R3.out HB.out).mono ?_
          rintro e w4 ⟨rfl, T4, hr4, hf4, hn4⟩
          have HF4 := Lib.hid (HF3.out.trans (hf4.mono (S' := fun k => S1 k ∨ k = rb) (fun k hk => .inr hk)) (fun k hk => .inl hk))
          have R4 := Lib.hid hr4
          have Q4 := Lib.hid (Q3.out.fr hf4 (fun k h3 e => D3.out k h3 (by rw [e]; exact R3.out.self)))
          have D4 := Lib.hid (show ∀ k, S3 k → ¬ T4 k from fun k h3 h4 => by
            rcases hn4 k h4 with q | q
            · exact D3.out k h3 q
            · have := (Q3.out.ge h3).2
              omega)
          have B4 := Lib.hid (B3.out.trans (hf4.toBelow B3.out.size (fun k hk => by rw [hk]; exact HRB.out)))
          have T4' := Lib.hid (hf4.blk T3.out TN.out.2)
          clear hr4 hf4 hn4
          go_wp2_with fail
          refine hK.out _ _ HF4.out (fun hHeld => ?_)
          clear hK K
          refine wpAnyH_take (i := 8) (oi := ⟨some 13, _, _, _, _, _⟩) (v := .bool b) rfl (by kernel_rfl) (by kernel_rfl) (by kernel_rfl) (fun _ _ _ h => h) (Or.inl ⟨by rfl, fun Xw hSW => by go_simp⟩) hHeld ?_
          simp only [Act.put, List.setIfInBounds_toArray, List.set_cons_zero, List.set_cons_succ]
          refine wpAnyH_take (i := 9) (oi := ⟨some 14, _, _, _, _, _⟩) (v := .bool b) rfl (by kernel_rfl) (by kernel_rfl) (by kernel_rfl) (fun _ _ _ h => h) (Or.inl ⟨by rfl, fun Xw hSW => by go_simp⟩) hHeld ?_
          simp only [Act.put, List.setIfInBounds_toArray, List.set_cons_zero, List.set_cons_succ]
          refine wpAnyH_done (by kernel_rfl) ?_ _
          refine NoPanic.normal ?_
          clear hHeld
          go_wp2_with fail
          refine (same_c Q4.out R4.out).mono ?_
          rintro e w9 ⟨rfl, hb9⟩
          have Q9 := Lib.hid (Que.below Q4.out hb9)
          have R9 := Lib.hid (RQ.below R4.out hb9)
          have B9 := Lib.hid (Below.trans B4.out (hb9.mono (Below.size B4.out)))
          clear hb9
          go_wp2_with fail
          go_roundw
          case measure =>
            simp only [intOf]
            omega
          case rel =>
            exact ⟨i + 1, _, S3, T4, by first | rfl | (congr 1; omega), Q9.out, R9.out, D4.out, B9.out⟩
        have e1 : (r == 1) = false := by simp [r1]
        by_cases r2 : r = 2
        · have e2 : (r == 2) = true := by simp [r2]
          clear r0 r1 r2
          obtain ⟨b, hb⟩ : ∃ b, takeB L1 d = b := ⟨_, rfl⟩
          obtain ⟨⟨fa, fd⟩, hv⟩ : ∃ v, takeV L1 d = v := ⟨_, rfl⟩
          have HB := Lib.hid hb
          have HV := Lib.hid hv
          have hbb : (b == b) = true := by simp
          have qe := fun w => run_eqT w fa fd
          clear hb hv
          go_wp2_with fail
          refine calls_named (S := fun W => Below wr.heap.size wr W ∧ Blk W wr.heap.size TT [.int .i64 a, .int .i64 d]) ⟨by (repeat' (first | (with_reducible exact Below.refl _ _) | (with_reducible refine Below.setCell ?_ (by (first | omega | (simp; done) | (simp; omega))) _) | (with_reducible refine Below.alloc ?_ (by (first | omega | (simp; done) | (simp; omega))) _) | (with_reducible refine Below.drew ?_) | (with_reducible refine below_drewN ?_ _))), by (repeat' (first | (with_reducible refine BlkP.Blk.drew ?_) | (with_reducible refine BlkP.Blk.drewN ?_ _) | (with_reducible refine BlkP.Blk.setAt (us := ?_) (by first | omega | (simp; done) | (simp; omega)) rfl ?_ ?_) | (with_reducible refine BlkP.Blk.otherAt ?_ (by first | omega | (simp; done) | (simp; omega))) | (with_reducible refine BlkP.Blk.newA' (by first | omega | (simp; done) | (simp; omega)) rfl) | (with_reducible refine BlkP.Blk.alloc ?_ _) | (exact rfl)))⟩ ?_
          rintro w2 ⟨hb2, t2⟩
          have Q2 := Lib.hid (Q.out.below hb2)
          have R2 := Lib.hid (R.out.below hb2)
          have B2 := Lib.hid (BR.out.trans (hb2.mono BR.out.size))
          have T2 := Lib.hid t2
          have TN := Lib.hid (show ¬ S1 wr.heap.size ∧ wr.heap.size ≠ rb from ⟨fun h => by have := (Q.out.ge h).2; omega, fun h => by have := R.out.lt R.out.self; omega⟩)
          clear hb2 t2
          refine (Take_c Q2.out HV.out HB.out).mono ?_
          rintro e w3 ⟨rfl, S3, hq3, hf3, hn3⟩
          have Q3 := Lib.hid hq3
          have R3 := Lib.hid (R2.out.fr hf3 (fun k h1 h2 => D.out k h2 h1))
          have D3 := Lib.hid (show ∀ k, S3 k → ¬ T1 k from fun k h3 h1 => by
            rcases hn3 k h3 with q | q
            · exact D.out k q h1
            · have := R2.out.lt h1
              omega)
          have B3 := Lib.hid (B2.out.trans (Q2.out.toBelow hf3))
          have T3 := Lib.hid (hf3.blk T2.out TN.out.1)
          clear hq3 hf3 hn3
          have t0 := T3.out.cell (i := 0) rfl
          have t1 := T3.out.cell (i := 1) rfl
          have tl := T3.out.lt
          have hz3 := B3.out.size
          go_wp2_with fail
          refine calls_named (S := fun W => Below w3.heap.size w3 W ∧ Blk W w3.heap.size TT [.int .i64 fa, .int .i64 fd]) ⟨by (repeat' (first | (with_reducible exact Below.refl _ _) | (with_reducible refine Below.setCell ?_ (by (first | omega | (simp; done) | (simp; omega))) _) | (with_reducible refine Below.alloc ?_ (by (first | omega | (simp; done) | (simp; omega))) _) | (with_reducible refine Below.drew ?_) | (with_reducible refine below_drewN ?_ _))), by (repeat' (first | (with_reducible refine BlkP.Blk.drew ?_) | (with_reducible refine BlkP.Blk.drewN ?_ _) | (with_reducible refine BlkP.Blk.setAt (us := ?_) (by first | omega | (simp; done) | (simp; omega)) rfl ?_ ?_) | (with_reducible refine BlkP.Blk.otherAt ?_ (by first | omega | (simp; done) | (simp; omega))) | (with_reducible refine BlkP.Blk.newA' (by first | omega | (simp; done) | (simp; omega)) rfl) | (with_reducible refine BlkP.Blk.alloc ?_ _) | (exact rfl)))⟩ ?_
          rintro w5 ⟨hb5, t5⟩
          have Q5 := Lib.hid (Q3.out.below hb5)
          have R5 := Lib.hid (R3.out.below hb5)
          have B5 := Lib.hid (B3.out.trans (hb5.mono hz3))
          have T5 := Lib.hid t5
          have TN5 := Lib.hid (show w3.heap.size ≠ rb from fun h => by have := R3.out.lt R3.out.self; omega)
          clear hb5 t5 t0 t1 tl
          refine (rTake_c R5.out HV.out HB.out).mono ?_
          rintro e w4 ⟨rfl, T4, hr4, hf4, hn4⟩
          have U4 := Lib.hid (hf4.blk T5.out TN5.out)
          have R4 := Lib.hid hr4
          have Q4 := Lib.hid (Q5.out.fr hf4 (fun k h3 e => D3.out k h3 (by rw [e]; exact R5.out.self)))
          have D4 := Lib.hid (show ∀ k, S3 k → ¬ T4 k from fun k h3 h4 => by
            rcases hn4 k h4 with q | q
            · exact D3.out k h3 q
            · have := (Q5.out.ge h3).2
              omega)
          have B4 := Lib.hid (B5.out.trans (hf4.toBelow B5.out.size (fun k hk => by rw [hk]; exact HRB.out)))
          clear hr4 hf4 hn4
          have hz4 := B4.out.size
          have u0 := U4.out.cell (i := 0) rfl
          have u1 := U4.out.cell (i := 1) rfl
          have ul := U4.out.lt
          go_wp2_with fail
          refine calls_named (S := fun W => Below w4.heap.size w4 W) (by (repeat' (first | (with_reducible exact Below.refl _ _) | (with_reducible refine Below.setCell ?_ (by (first | omega | (simp; done) | (simp; omega))) _) | (with_reducible refine Below.alloc ?_ (by (first | omega | (simp; done) | (simp; omega))) _) | (with_reducible refine Below.drew ?_) | (with_reducible refine below_drewN ?_ _)))) ?_
          rintro w6 hb6
          have Q6 := Lib.hid (Q4.out.below hb6)
          have R6 := Lib.hid (R4.out.below hb6)
          have B6 := Lib.hid (B4.out.trans (hb6.mono hz4))
          clear hb6 u0 u1 ul
          refine (same_c Q6.out R6.out).mono ?_
          rintro e w9 ⟨rfl, hb9⟩
          have Q9 := Lib.hid (Que.below Q6.out hb9)
          have R9 := Lib.hid (RQ.below R6.out hb9)
          have B9 := Lib.hid (Below.trans B6.out (hb9.mono (Below.size B6.out)))
          clear hb9
          go_wp2_with fail
          go_roundw
          case measure =>
            simp only [intOf]
            omega
          case rel =>
            exact ⟨i + 1, _, S3, T4, by first | rfl | (congr 1; omega), Q9.out, R9.out, D4.out, B9.out⟩
        have e2 : (r == 2) = false := by simp [r2]
        clear r0 r1 r2
        obtain ⟨x, hx⟩ : ∃ x, dueL a L1 = x := ⟨_, rfl⟩
        obtain ⟨b, hb⟩ : ∃ b, decide (x ≠ 0) = b := ⟨_, rfl⟩
        have HB := Lib.hid hb
        have HX := Lib.hid hx
        have hbb : (b == b) = true := by simp
        have hxx : (x == x) = true := by simp
        clear hb hx
        go_wp2_with fail
        refine calls_named (S := fun W => Below wr.heap.size wr W ∧ Blk W wr.heap.size TT [.int .i64 a, .int .i64 d]) ⟨by (repeat' (first | (with_reducible exact Below.refl _ _) | (with_reducible refine Below.setCell ?_ (by (first | omega | (simp; done) | (simp; omega))) _) | (with_reducible refine Below.alloc ?_ (by (first | omega | (simp; done) | (simp; omega))) _) | (with_reducible refine Below.drew ?_) | (with_reducible refine below_drewN ?_ _))), by (repeat' (first | (with_reducible refine BlkP.Blk.drew ?_) | (with_reducible refine BlkP.Blk.drewN ?_ _) | (with_reducible refine BlkP.Blk.setAt (us := ?_) (by first | omega | (simp; done) | (simp; omega)) rfl ?_ ?_) | (with_reducible refine BlkP.Blk.otherAt ?_ (by first | omega | (simp; done) | (simp; omega))) | (with_reducible refine BlkP.Blk.newA' (by first | omega | (simp; done) | (simp; omega)) rfl) | (with_reducible refine BlkP.Blk.alloc ?_ _) | (exact rfl)))⟩ ?_
        rintro w2 ⟨hb2, t2⟩
        have Q2 := Lib.hid (Q.out.below hb2)
        have R2 := Lib.hid (R.out.below hb2)
        have B2 := Lib.hid (BR.out.trans (hb2.mono BR.out.size))
        have T2 := Lib.hid t2
        have TN := Lib.hid (show ¬ S1 wr.heap.size ∧ wr.heap.size ≠ rb from ⟨fun h => by have := (Q.out.ge h).2; omega, fun h => by have := R.out.lt R.out.self; omega⟩)
        clear hb2 t2
        refine (Due_c Q2.out HX.out HB.out).mono ?_
        rintro e w3 ⟨rfl, rfl⟩
        have t0 := T2.out.cell (i := 0) rfl
        have t1 := T2.out.cell (i := 1) rfl
        have tl := T2.out.lt
        go_wp2_with fail
        refine (rDue_c R2.out HX.out HB.out).mono ?_
        rintro e w4 ⟨rfl, hb4⟩
        have Q4 := Lib.hid (Q2.out.below hb4)
        have R4 := Lib.hid (R2.out.below hb4)
        have B4 := Lib.hid (B2.out.trans (hb4.mono B2.out.size))
        clear hb4 t0 t1 tl
        go_wp2_with fail
        refine (same_c Q4.out R4.out).mono ?_
        rintro e w9 ⟨rfl, hb9⟩
        have Q9 := Lib.hid (Que.below Q4.out hb9)
        have R9 := Lib.hid (RQ.below R4.out hb9)
        have B9 := Lib.hid (Below.trans B4.out (hb9.mono (Below.size B4.out)))
        clear hb9
        go_wp2_with fail
        go_roundw
        case measure =>
          simp only [intOf]
          omega
        case rel =>
          exact ⟨i + 1, _, S1, T1, by first | rfl | (congr 1; omega), Q9.out, R9.out, D.out, B9.out⟩
      · have h150I : ¬ (i : Int) < 150 := by omega
        go_wp2_with fail
        refine (works_c).mono ?_
        rintro e wz ⟨rfl, hbz'⟩
        have BZ := Lib.hid (BR.out.trans (hbz'.mono hbz))
        clear hbz'
        go_wp2_with fail
        go_ret
        exact ⟨rfl, BZ.out⟩
    · have hiI : ¬ (i : Int) < (n : Int) := by omega
      go_wp2_with fail
      refine (works_c).mono ?_
      rintro e wz ⟨rfl, hbz'⟩
      have BZ := Lib.hid (BR.out.trans (hbz'.mono hbz))
      clear hbz'
      go_wp2_with fail
      go_ret
      exact ⟨rfl, BZ.out⟩
end
end QueW
end Go.Proofs.Ytlhanbjendbhfaa
