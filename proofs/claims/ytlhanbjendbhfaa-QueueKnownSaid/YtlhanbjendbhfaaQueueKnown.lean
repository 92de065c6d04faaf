/-
  QueueKnown.
-/
import Derived.Test.YtlhanbjendbhfaaQueueNo
import Derived.Test.YtlhanbjendbhfaaQueueLawP
namespace Go.Proofs.Ytlhanbjendbhfaa
open Go.RowKit
set_option linter.unusedVariables false
set_option linter.unusedSimpArgs false
namespace QueW
open BlkP RowG FrS PushG HeapP ChunkW
section
variable {w : World}
set_option maxRecDepth 100000 in
set_option maxHeartbeats 16000000 in
theorem law_known  :
    Calls Try.prog 9 #[] w fun e w' => e = .returned (.bool true) ∧ Below w.heap.size w w' := by
  go_enter Try.func9, Try.ntmps9
  go_wp2_with fail
  refine calls_named (S := fun W => Below w.heap.size w W ∧ Rd encT W (.slice (some ⟨w.heap.size, 0, none⟩) 3 3) [(5, 9), (7, 3), (2, 3)]) ⟨by (repeat' (first | (with_reducible exact Below.refl _ _) | (with_reducible refine Below.setCell ?_ (by (first | omega | (simp; done) | (simp; omega))) _) | (with_reducible refine Below.alloc ?_ (by (first | omega | (simp; done) | (simp; omega))) _) | (with_reducible refine Below.drew ?_) | (with_reducible refine below_drewN ?_ _))), rd_blk (l := [(5, 9), (7, 3), (2, 3)]) (vs := [.int .i64 5, .int .i64 9, .int .i64 7, .int .i64 3, .int .i64 2, .int .i64 3]) (by (repeat' (first | (with_reducible refine BlkP.Blk.drew ?_) | (with_reducible refine BlkP.Blk.drewN ?_ _) | (with_reducible refine BlkP.Blk.setAt (us := ?_) (by first | omega | (simp; done) | (simp; omega)) rfl ?_ ?_) | (with_reducible refine BlkP.Blk.otherAt ?_ (by first | omega | (simp; done) | (simp; omega))) | (with_reducible refine BlkP.Blk.newA' (by first | omega | (simp; done) | (simp; omega)) rfl) | (with_reducible refine BlkP.Blk.alloc ?_ _) | (exact rfl)))) rfl (by decide) (by decide)⟩ ?_
  rintro w1 ⟨hb1, hr1⟩
  have B1 := Lib.hid hb1
  refine (New_c hr1 rfl (by omega) (show newL [(5, 9), (7, 3), (2, 3)] = (0, [(2, 3), (5, 9), (7, 3)]) by decide)).mono ?_
  rintro e w2 ⟨hb2, h2⟩
  rcases h2 with ⟨h, _⟩ | ⟨_, qb, S2, rfl, hq⟩
  · exact absurd rfl h
  have B2 := Lib.hid (below_t B1.out hb2)
  have BB := Lib.hid hb1.size
  have Q2 := Lib.hid (show Que w2 w1.heap.size qb [(2, 3), (5, 9), (7, 3)] S2 from hq)
  clear hb1 hr1 hb2 hq
  go_wp2_with fail
  refine (List_c Q2.out).mono ?_
  rintro e w3 ⟨v', rfl, ho3, hb3⟩
  obtain ⟨A3, c3, rfl, _, _, hA3⟩ := own_len ho3 (n := 3) rfl
  obtain ⟨g, rfl, hg1, hg2⟩ := hA3 (by decide)
  have B3 := Lib.hid (below_t B2.out hb3)
  have Q3 := Lib.hid (Q2.out.below hb3)
  have O3 := Lib.hid ho3
  clear ho3 hb3 hA3 hg1 hg2
  go_wp2_with fail
  refine (First_c (a := 2) (d := 3) (b := true) Q3.out (by decide) (by decide)).mono ?_
  rintro e w4 ⟨rfl, hb4⟩
  have B4 := Lib.hid (below_t B3.out hb4)
  have Q4 := Lib.hid (Q3.out.below hb4)
  have o4 := O3.out.below hb4
  have z0 : w4.cell? ⟨g, 0, none⟩ = some (.int .i64 2) := o4.cell (i := 0) (j := 0) rfl rfl
  have z2 : w4.cell? ⟨g, 2, none⟩ = some (.int .i64 5) := o4.cell (i := 1) (j := 0) rfl rfl
  have z4 : w4.cell? ⟨g, 4, none⟩ = some (.int .i64 7) := o4.cell (i := 2) (j := 0) rfl rfl
  have gl := (o4.ge g rfl).2
  clear hb4 o4
  go_wp2_with fail
  refine calls_named (S := fun W => Below w4.heap.size w4 W) (by (repeat' (first | (with_reducible exact Below.refl _ _) | (with_reducible refine Below.setCell ?_ (by (first | omega | (simp; done) | (simp; omega))) _) | (with_reducible refine Below.alloc ?_ (by (first | omega | (simp; done) | (simp; omega))) _) | (with_reducible refine Below.drew ?_) | (with_reducible refine below_drewN ?_ _)))) ?_
  rintro w5 hb
  have Q5 := Lib.hid (Q4.out.below hb)
  have B5 := Lib.hid (below_t B4.out hb)
  clear hb
  clear z0 z2 z4 gl
  refine (Put_c (a := 5) (d := 10) (n := 0) (b := false) Q5.out (by decide) (by decide)).mono ?_
  rintro e w6 ⟨rfl, S6, hq, hf, hn⟩
  rw [show putT [(2, 3), (5, 9), (7, 3)] (5, 10) = [(2, 3), (5, 9), (7, 3)] by decide] at hq
  have Q6 := Lib.hid hq
  have B6 := Lib.hid (B5.out.trans ((Q5.out.toBelow hf).mono (by have := BB.out; omega)))
  clear hq hf hn
  go_wp2_with fail
  refine (Put_c (a := 5) (d := 9) (n := 0) (b := false) Q6.out (by decide) (by decide)).mono ?_
  rintro e w7 ⟨rfl, S7, hq, hf, hn⟩
  rw [show putT [(2, 3), (5, 9), (7, 3)] (5, 9) = [(2, 3), (5, 9), (7, 3)] by decide] at hq
  have Q7 := Lib.hid hq
  have B7 := Lib.hid (B6.out.trans ((Q6.out.toBelow hf).mono (by have := BB.out; omega)))
  clear hq hf hn
  go_wp2_with fail
  refine (Put_c (a := 5) (d := 1) (n := 0) (b := true) Q7.out (by decide) (by decide)).mono ?_
  rintro e w8 ⟨rfl, S8, hq, hf, hn⟩
  rw [show putT [(2, 3), (5, 9), (7, 3)] (5, 1) = [(2, 3), (5, 1), (7, 3)] by decide] at hq
  have Q8 := Lib.hid hq
  have B8 := Lib.hid (B7.out.trans ((Q7.out.toBelow hf).mono (by have := BB.out; omega)))
  clear hq hf hn
  go_wp2_with fail
  refine (Take_c (a := 0) (d := 0) (now := 0) (b := false) Q8.out (by decide) (by decide)).mono ?_
  rintro e w9 ⟨rfl, S9, hq, hf, hn⟩
  rw [show takeT [(2, 3), (5, 1), (7, 3)] 0 = [(2, 3), (5, 1), (7, 3)] by decide] at hq
  have Q9 := Lib.hid hq
  have B9 := Lib.hid (B8.out.trans ((Q8.out.toBelow hf).mono (by have := BB.out; omega)))
  clear hq hf hn
  go_wp2_with fail
  refine calls_named (S := fun W => Below w9.heap.size w9 W) (by (repeat' (first | (with_reducible exact Below.refl _ _) | (with_reducible refine Below.setCell ?_ (by (first | omega | (simp; done) | (simp; omega))) _) | (with_reducible refine Below.alloc ?_ (by (first | omega | (simp; done) | (simp; omega))) _) | (with_reducible refine Below.drew ?_) | (with_reducible refine below_drewN ?_ _)))) ?_
  rintro w10 hb
  have Q10 := Lib.hid (Q9.out.below hb)
  have B10 := Lib.hid (below_t B9.out hb)
  clear hb
  refine (Take_c (a := 5) (d := 1) (now := 3) (b := true) Q10.out (by decide) (by decide)).mono ?_
  rintro e w11 ⟨rfl, S11, hq, hf, hn⟩
  rw [show takeT [(2, 3), (5, 1), (7, 3)] 3 = [(2, 3), (7, 3)] by decide] at hq
  have Q11 := Lib.hid hq
  have B11 := Lib.hid (B10.out.trans ((Q10.out.toBelow hf).mono (by have := BB.out; omega)))
  clear hq hf hn
  go_wp2_with fail
  refine calls_named (S := fun W => Below w11.heap.size w11 W ∧ Blk W w11.heap.size TT [.int .i64 5, .int .i64 1]) ⟨by (repeat' (first | (with_reducible exact Below.refl _ _) | (with_reducible refine Below.setCell ?_ (by (first | omega | (simp; done) | (simp; omega))) _) | (with_reducible refine Below.alloc ?_ (by (first | omega | (simp; done) | (simp; omega))) _) | (with_reducible refine Below.drew ?_) | (with_reducible refine below_drewN ?_ _))), by (repeat' (first | (with_reducible refine BlkP.Blk.drew ?_) | (with_reducible refine BlkP.Blk.drewN ?_ _) | (with_reducible refine BlkP.Blk.setAt (us := ?_) (by first | omega | (simp; done) | (simp; omega)) rfl ?_ ?_) | (with_reducible refine BlkP.Blk.otherAt ?_ (by first | omega | (simp; done) | (simp; omega))) | (with_reducible refine BlkP.Blk.newA' (by first | omega | (simp; done) | (simp; omega)) rfl) | (with_reducible refine BlkP.Blk.alloc ?_ _) | (exact rfl)))⟩ ?_
  rintro w12 ⟨hb, tb⟩
  have Q12 := Lib.hid (Q11.out.below hb)
  have B12 := Lib.hid (below_t B11.out hb)
  have Ta12 := Lib.hid tb
  have Na12 := Lib.hid (show ¬ S11 w11.heap.size from fun h => by have := (Q11.out.ge h).2; omega)
  clear tb
  clear hb
  refine (Take_c (a := 2) (d := 3) (now := 3) (b := true) Q12.out (by decide) (by decide)).mono ?_
  rintro e w13 ⟨rfl, S13, hq, hf, hn⟩
  rw [show takeT [(2, 3), (7, 3)] 3 = [(7, 3)] by decide] at hq
  have Q13 := Lib.hid hq
  have B13 := Lib.hid (B12.out.trans ((Q12.out.toBelow hf).mono (by have := BB.out; omega)))
  have hl := Ta12.out.lt
  have Ta13 := Lib.hid (hf.blk Ta12.out Na12.out)
  have Na13 := Lib.hid (show ¬ S13 w11.heap.size from fun h => (hn _ h).elim Na12.out (fun q => by omega))
  clear hl
  clear hq hf hn
  go_wp2_with fail
  refine calls_named (S := fun W => Below w13.heap.size w13 W ∧ Blk W w13.heap.size TT [.int .i64 2, .int .i64 3]) ⟨by (repeat' (first | (with_reducible exact Below.refl _ _) | (with_reducible refine Below.setCell ?_ (by (first | omega | (simp; done) | (simp; omega))) _) | (with_reducible refine Below.alloc ?_ (by (first | omega | (simp; done) | (simp; omega))) _) | (with_reducible refine Below.drew ?_) | (with_reducible refine below_drewN ?_ _))), by (repeat' (first | (with_reducible refine BlkP.Blk.drew ?_) | (with_reducible refine BlkP.Blk.drewN ?_ _) | (with_reducible refine BlkP.Blk.setAt (us := ?_) (by first | omega | (simp; done) | (simp; omega)) rfl ?_ ?_) | (with_reducible refine BlkP.Blk.otherAt ?_ (by first | omega | (simp; done) | (simp; omega))) | (with_reducible refine BlkP.Blk.newA' (by first | omega | (simp; done) | (simp; omega)) rfl) | (with_reducible refine BlkP.Blk.alloc ?_ _) | (exact rfl)))⟩ ?_
  rintro w14 ⟨hb, tb⟩
  have Q14 := Lib.hid (Q13.out.below hb)
  have Ta14 := Lib.hid (Ta13.out.below hb)
  have Na14 := Na13
  have B14 := Lib.hid (below_t B13.out hb)
  have Tb14 := Lib.hid tb
  have Nb14 := Lib.hid (show ¬ S13 w13.heap.size from fun h => by have := (Q13.out.ge h).2; omega)
  clear tb
  clear hb
  refine (Take_c (a := 7) (d := 3) (now := 3) (b := true) Q14.out (by decide) (by decide)).mono ?_
  rintro e w15 ⟨rfl, S15, hq, hf, hn⟩
  rw [show takeT [(7, 3)] 3 = [] by decide] at hq
  have Q15 := Lib.hid hq
  have B15 := Lib.hid (B14.out.trans ((Q14.out.toBelow hf).mono (by have := BB.out; omega)))
  have hl := Ta14.out.lt
  have Ta15 := Lib.hid (hf.blk Ta14.out Na14.out)
  have Na15 := Lib.hid (show ¬ S15 w11.heap.size from fun h => (hn _ h).elim Na14.out (fun q => by omega))
  clear hl
  have hl := Tb14.out.lt
  have Tb15 := Lib.hid (hf.blk Tb14.out Nb14.out)
  have Nb15 := Lib.hid (show ¬ S15 w13.heap.size from fun h => (hn _ h).elim Nb14.out (fun q => by omega))
  clear hl
  clear hq hf hn
  go_wp2_with fail
  refine calls_named (S := fun W => Below w15.heap.size w15 W ∧ Blk W w15.heap.size TT [.int .i64 7, .int .i64 3]) ⟨by (repeat' (first | (with_reducible exact Below.refl _ _) | (with_reducible refine Below.setCell ?_ (by (first | omega | (simp; done) | (simp; omega))) _) | (with_reducible refine Below.alloc ?_ (by (first | omega | (simp; done) | (simp; omega))) _) | (with_reducible refine Below.drew ?_) | (with_reducible refine below_drewN ?_ _))), by (repeat' (first | (with_reducible refine BlkP.Blk.drew ?_) | (with_reducible refine BlkP.Blk.drewN ?_ _) | (with_reducible refine BlkP.Blk.setAt (us := ?_) (by first | omega | (simp; done) | (simp; omega)) rfl ?_ ?_) | (with_reducible refine BlkP.Blk.otherAt ?_ (by first | omega | (simp; done) | (simp; omega))) | (with_reducible refine BlkP.Blk.newA' (by first | omega | (simp; done) | (simp; omega)) rfl) | (with_reducible refine BlkP.Blk.alloc ?_ _) | (exact rfl)))⟩ ?_
  rintro w16 ⟨hb, tb⟩
  have Q16 := Lib.hid (Q15.out.below hb)
  have Ta16 := Lib.hid (Ta15.out.below hb)
  have Na16 := Na15
  have Tb16 := Lib.hid (Tb15.out.below hb)
  have Nb16 := Nb15
  have B16 := Lib.hid (below_t B15.out hb)
  have Tc16 := Lib.hid tb
  have Nc16 := Lib.hid (show ¬ S15 w15.heap.size from fun h => by have := (Q15.out.ge h).2; omega)
  clear tb
  clear hb
  refine (Take_c (a := 0) (d := 0) (now := 3) (b := false) Q16.out (by decide) (by decide)).mono ?_
  rintro e w17 ⟨rfl, S17, hq, hf, hn⟩
  rw [show takeT [] 3 = [] by decide] at hq
  have Q17 := Lib.hid hq
  have B17 := Lib.hid (B16.out.trans ((Q16.out.toBelow hf).mono (by have := BB.out; omega)))
  have hl := Ta16.out.lt
  have Ta17 := Lib.hid (hf.blk Ta16.out Na16.out)
  have Na17 := Lib.hid (show ¬ S17 w11.heap.size from fun h => (hn _ h).elim Na16.out (fun q => by omega))
  clear hl
  have hl := Tb16.out.lt
  have Tb17 := Lib.hid (hf.blk Tb16.out Nb16.out)
  have Nb17 := Lib.hid (show ¬ S17 w13.heap.size from fun h => (hn _ h).elim Nb16.out (fun q => by omega))
  clear hl
  have hl := Tc16.out.lt
  have Tc17 := Lib.hid (hf.blk Tc16.out Nc16.out)
  have Nc17 := Lib.hid (show ¬ S17 w15.heap.size from fun h => (hn _ h).elim Nc16.out (fun q => by omega))
  clear hl
  clear hq hf hn
  have a0 := Ta17.out.cell (i := 0) rfl
  have al := Ta17.out.lt
  have b0 := Tb17.out.cell (i := 0) rfl
  have bl := Tb17.out.lt
  have c0 := Tc17.out.cell (i := 0) rfl
  have cl := Tc17.out.lt
  go_wp2_with fail
  refine calls_named (S := fun W => Below w17.heap.size w17 W) (by (repeat' (first | (with_reducible exact Below.refl _ _) | (with_reducible refine Below.setCell ?_ (by (first | omega | (simp; done) | (simp; omega))) _) | (with_reducible refine Below.alloc ?_ (by (first | omega | (simp; done) | (simp; omega))) _) | (with_reducible refine Below.drew ?_) | (with_reducible refine below_drewN ?_ _)))) ?_
  rintro w18 hb
  have Q18 := Lib.hid (Q17.out.below hb)
  have Ta18 := Lib.hid (Ta17.out.below hb)
  have Na18 := Na17
  have Tb18 := Lib.hid (Tb17.out.below hb)
  have Nb18 := Nb17
  have Tc18 := Lib.hid (Tc17.out.below hb)
  have Nc18 := Nc17
  have B18 := Lib.hid (below_t B17.out hb)
  clear hb
  clear a0 al b0 bl c0 cl
  refine (Put_c (a := 1) (d := 0) (n := 2) (b := false) Q18.out (by decide) (by decide)).mono ?_
  rintro e w19 ⟨rfl, S19, hq, hf, hn⟩
  rw [show putT [] (1, 0) = [] by decide] at hq
  have Q19 := Lib.hid hq
  have B19 := Lib.hid (B18.out.trans ((Q18.out.toBelow hf).mono (by have := BB.out; omega)))
  clear hq hf hn
  go_wp2_with fail
  refine (Put_c (a := 4096) (d := 1) (n := 2) (b := false) Q19.out (by decide) (by decide)).mono ?_
  rintro e w20 ⟨rfl, S20, hq, hf, hn⟩
  rw [show putT [] (4096, 1) = [] by decide] at hq
  have Q20 := Lib.hid hq
  have B20 := Lib.hid (B19.out.trans ((Q19.out.toBelow hf).mono (by have := BB.out; omega)))
  clear hq hf hn
  go_wp2_with fail
  refine (Put_c (a := 1) (d := 2199023255553) (n := 2) (b := false) Q20.out (by decide) (by decide)).mono ?_
  rintro e w21 ⟨rfl, S21, hq, hf, hn⟩
  rw [show putT [] (1, 2199023255553) = [] by decide] at hq
  have Q21 := Lib.hid hq
  have B21 := Lib.hid (B20.out.trans ((Q20.out.toBelow hf).mono (by have := BB.out; omega)))
  clear hq hf hn
  go_wp2_with fail
  refine calls_named (S := fun W => Below w21.heap.size w21 W ∧ Rd encT W (.slice (some ⟨w21.heap.size, 0, none⟩) 2 2) [(1, 1), (1, 2)]) ⟨by (repeat' (first | (with_reducible exact Below.refl _ _) | (with_reducible refine Below.setCell ?_ (by (first | omega | (simp; done) | (simp; omega))) _) | (with_reducible refine Below.alloc ?_ (by (first | omega | (simp; done) | (simp; omega))) _) | (with_reducible refine Below.drew ?_) | (with_reducible refine below_drewN ?_ _))), rd_blk (l := [(1, 1), (1, 2)]) (vs := [.int .i64 1, .int .i64 1, .int .i64 1, .int .i64 2]) (by (repeat' (first | (with_reducible refine BlkP.Blk.drew ?_) | (with_reducible refine BlkP.Blk.drewN ?_ _) | (with_reducible refine BlkP.Blk.setAt (us := ?_) (by first | omega | (simp; done) | (simp; omega)) rfl ?_ ?_) | (with_reducible refine BlkP.Blk.otherAt ?_ (by first | omega | (simp; done) | (simp; omega))) | (with_reducible refine BlkP.Blk.newA' (by first | omega | (simp; done) | (simp; omega)) rfl) | (with_reducible refine BlkP.Blk.alloc ?_ _) | (exact rfl)))) rfl (by decide) (by decide)⟩ ?_
  rintro w22 ⟨hb, hr⟩
  have Q22 := Lib.hid (Q21.out.below hb)
  have B22 := Lib.hid (below_t B21.out hb)
  have R22 := Lib.hid hr
  clear hb hr
  refine (New_c R22.out rfl (by omega) (show newL [(1, 1), (1, 2)] = (6, []) by decide)).mono ?_
  rintro e w23 ⟨hb, h2⟩
  obtain rfl : e = .returned (.tuple #[.pointer none, .int .i64 6]) := by
    rcases h2 with ⟨_, h⟩ | ⟨h, _⟩
    · exact h
    · exact absurd h (by decide)
  clear h2
  have Q23 := Lib.hid (Q22.out.below hb)
  have B23 := Lib.hid (below_t B22.out hb)
  clear hb
  go_wp2_with ((with_reducible refine at_slot 188 ?_); refine Classical.byContradiction (fun hG => ?_))
  refine hG ?_
  clear hG
  refine wp_makeT _ rfl (.const (.int .i64 4097)) (.const (.int .i64 4097)) rfl 4097 rfl rfl (by decide) ?_
  intro w24 hm hb
  have Q24 := Lib.hid (Q23.out.below hb)
  have B24 := Lib.hid (below_t B23.out hb)
  have M24 := Lib.hid hm
  clear hm hb
  go_wp2_with fail
  have hrd : Rd encT w24 (.slice (some ⟨w23.heap.size, 0, none⟩) 4097 4097) (List.replicate 4097 (0, 0)) := by
    have q := rd_blk (l := List.replicate 4097 (0, 0)) (c := 4097) M24.out rfl (by rw [List.length_replicate]; exact Nat.le_refl _) (by decide)
    rw [List.length_replicate] at q
    exact q
  refine (New_c hrd List.length_replicate (by decide) (show newL (List.replicate 4097 (0, 0)) = (3, []) by unfold newL; rw [List.length_replicate, if_pos (by decide)])).mono ?_
  rintro e w25 ⟨hb, h2⟩
  obtain rfl : e = .returned (.tuple #[.pointer none, .int .i64 3]) := by
    rcases h2 with ⟨_, h⟩ | ⟨h, _⟩
    · exact h
    · exact absurd h (by decide)
  clear hrd h2
  have Q25 := Lib.hid (Q24.out.below hb)
  have B25 := Lib.hid (below_t B24.out hb)
  clear hb
  go_wp2_with fail
  refine calls_named (S := fun W => Below w25.heap.size w25 W ∧ Blk W w25.heap.size TQ [.pointer none]) ⟨by (repeat' (first | (with_reducible exact Below.refl _ _) | (with_reducible refine Below.setCell ?_ (by (first | omega | (simp; done) | (simp; omega))) _) | (with_reducible refine Below.alloc ?_ (by (first | omega | (simp; done) | (simp; omega))) _) | (with_reducible refine Below.drew ?_) | (with_reducible refine below_drewN ?_ _))), by (repeat' (first | (with_reducible refine BlkP.Blk.drew ?_) | (with_reducible refine BlkP.Blk.drewN ?_ _) | (with_reducible refine BlkP.Blk.setAt (us := ?_) (by first | omega | (simp; done) | (simp; omega)) rfl ?_ ?_) | (with_reducible refine BlkP.Blk.otherAt ?_ (by first | omega | (simp; done) | (simp; omega))) | (with_reducible refine BlkP.Blk.newA' (by first | omega | (simp; done) | (simp; omega)) rfl) | (with_reducible refine BlkP.Blk.alloc ?_ _) | (exact rfl)))⟩ ?_
  rintro w26 ⟨hb, he⟩
  have Q26 := Lib.hid (Q25.out.below hb)
  have B26 := Lib.hid (below_t B25.out hb)
  have E26 := Lib.hid (show NoQ w26 (some ⟨w25.heap.size, 0, none⟩) from .inr ⟨_, rfl, he⟩)
  clear hb he
  refine (Put_no (a := 1) (d := 1) (.inl rfl)).mono ?_
  rintro e w27 ⟨rfl, hb⟩
  have Q27 := Lib.hid (Q26.out.below hb)
  have E27 := Lib.hid (E26.out.below hb)
  have B27 := Lib.hid (below_t B26.out hb)
  clear hb
  go_wp2_with fail
  refine (Put_no (a := 1) (d := 1) E27.out).mono ?_
  rintro e w28 ⟨rfl, hb⟩
  have Q28 := Lib.hid (Q27.out.below hb)
  have E28 := Lib.hid (E27.out.below hb)
  have B28 := Lib.hid (below_t B27.out hb)
  clear hb
  go_wp2_with fail
  refine (First_no (.inl rfl)).mono ?_
  rintro e w29 ⟨rfl, hb⟩
  have Q29 := Lib.hid (Q28.out.below hb)
  have E29 := Lib.hid (E28.out.below hb)
  have B29 := Lib.hid (below_t B28.out hb)
  clear hb
  go_wp2_with fail
  refine calls_named (S := fun W => Below w29.heap.size w29 W) (by (repeat' (first | (with_reducible exact Below.refl _ _) | (with_reducible refine Below.setCell ?_ (by (first | omega | (simp; done) | (simp; omega))) _) | (with_reducible refine Below.alloc ?_ (by (first | omega | (simp; done) | (simp; omega))) _) | (with_reducible refine Below.drew ?_) | (with_reducible refine below_drewN ?_ _)))) ?_
  rintro w30 hb
  have Q30 := Lib.hid (Q29.out.below hb)
  have E30 := Lib.hid (E29.out.below hb)
  have B30 := Lib.hid (below_t B29.out hb)
  clear hb
  refine (Len_no (.inl rfl)).mono ?_
  rintro e wz ⟨rfl, rfl⟩
  go_wp2_with fail
  refine (List_no E30.out).mono ?_
  rintro e wz ⟨rfl, rfl⟩
  go_wp2_with fail
  refine (Drop_no (a := 1) (.inl rfl)).mono ?_
  rintro e wz ⟨rfl, rfl⟩
  go_wp2_with fail
  refine (works_c).mono ?_
  rintro e w31 ⟨rfl, hb⟩
  have Q31 := Lib.hid (Q30.out.below hb)
  have E31 := Lib.hid (E30.out.below hb)
  have B31 := Lib.hid (below_t B30.out hb)
  clear hb
  go_wp2_with fail
  go_ret
  exact ⟨rfl, B31.out⟩
end
end QueW
end Go.Proofs.Ytlhanbjendbhfaa
