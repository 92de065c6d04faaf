/-
  Drop, Take, Put.
-/
import Derived.Test.YtlhanbjendbhfaaQueueOps
namespace Go.Proofs.Ytlhanbjendbhfaa
open Go.RowKit
set_option linter.unusedVariables false
set_option linter.unusedSimpArgs false
namespace QueW
open BlkP RowG FrS PushG HeapP ChunkW

section
variable {w : World} {B qb pb : Nat} {L : List Tick} {S : Nat → Prop}
theorem turned_of {w1 w' : World} {v v' : Value} {L' : List Tick} (hq : Blk w qb TQ [.pointer (some ⟨pb, 0, none⟩)]) (hb1 : B ≤ qb) (hb2 : B ≤ pb) (hns : ¬ Sp pb v qb) (hS : ∀ k, S k ↔ (k = qb ∨ Sp pb v k)) (hb : Below w.heap.size w w1) (hp : Hp w' B pb v' L') (hf : Fr (Sp pb v) w1 w') (hv : ∀ g, v'.ownBlock = some g → v.ownBlock = some g ∨ w.heap.size ≤ g) : Turned w B qb S L' w' := by
  have hf2 : Fr (Sp pb v) w w' := (Fr.below _ hb).trans hf (fun i hi => .inl hi)
  have hl := hq.lt
  refine ⟨fun k => k = qb ∨ Sp pb v' k, ⟨pb, v', hf2.blk hq hns, hp, hb1, hb2, fun h => ?_, fun k => Iff.rfl⟩, hf2.mono (fun k hk => (hS k).2 (.inr hk)), fun k hk => ?_⟩
  · rcases h with h | h
    · exact hns (.inl h)
    · rcases hv _ h with q | q
      · exact hns (.inr q)
      · omega
  · rcases hk with hk | hk | hk
    · exact .inl ((hS k).2 (.inl hk))
    · exact .inl ((hS k).2 (.inr (.inl hk)))
    · rcases hv _ hk with q | q
      · exact .inl ((hS k).2 (.inr (.inr q)))
      · exact .inr q
theorem que_of {w1 w' : World} {v v' : Value} {L' : List Tick} (hq : Blk w qb TQ [.pointer (some ⟨pb, 0, none⟩)]) (hb1 : B ≤ qb) (hb2 : B ≤ pb) (hns : ¬ Sp pb v qb) (hS : ∀ k, S k ↔ (k = qb ∨ Sp pb v k)) (hb : Below w.heap.size w w1) (hp : Hp w' B pb v' L') (hf : Fr (Sp pb v) w1 w') (hv : v'.ownBlock = v.ownBlock) : Que w' B qb L' S ∧ Fr S w w' := by
  have hf2 : Fr (Sp pb v) w w' := (Fr.below _ hb).trans hf (fun i hi => .inl hi)
  have e : Sp pb v' = Sp pb v := by
    unfold Sp
    rw [hv]
  exact ⟨⟨pb, v', hf2.blk hq hns, hp, hb1, hb2, by rw [e]; exact hns, by rw [e]; exact hS⟩, hf2.mono (fun k hk => (hS k).2 (.inr hk))⟩
theorem nat_of {a : Int} (h : 0 ≤ a) : ∃ b : Nat, a = (b : Int) := ⟨a.toNat, by omega⟩
theorem calls_named {P : Program} {f : Nat} {args : Array Value} {Q : Ending → World → Prop} {W : World} (S : World → Prop) (h : S W) (k : ∀ W', S W' → Calls P f args W' Q) : Calls P f args W Q := k W h
set_option maxRecDepth 100000 in
set_option maxHeartbeats 16000000 in
theorem Drop_c {a x : Int} {b : Bool} (h : Que w B qb L S) (hx : dueL a L = x) (hb : decide (x ≠ 0) = b) :
    Calls Try.prog 16 #[.pointer (some ⟨qb, 0, none⟩), .int .i64 a] w fun e w' => e = .returned (.bool b) ∧ Turned w B qb S (delL a L) w' := by
  have HL := Lib.hid h
  obtain ⟨pb, v, hq, ⟨l, W, hp, hw, hh⟩, hb1, hb2, hns, hS⟩ := h
  have HQ := Lib.hid hq
  have HP := Lib.hid hp
  have HW := Lib.hid hw
  have HH := Lib.hid hh
  have HS := Lib.hid hS
  have HNS := Lib.hid hns
  have c0 := hq.cell (i := 0) rfl
  have l0 := hq.lt
  have p0 := hp.cell0
  have pl := hp.lt
  by_cases h0 : x = 0
  · subst h0
    obtain rfl : false = b := by rw [← hb]; simp
    have HX := Lib.hid hx
    clear hq hp hw hh hS hns hb hx
    go_enter Try.func16, Try.ntmps16
    go_wp2_with fail
    refine (qfind_no HQ.out HP.out HW.out HX.out).mono ?_
    rintro e w1 ⟨rfl, rfl⟩
    go_wp2_with fail
    go_ret
    refine ⟨rfl, ?_⟩
    rw [del_same HL.out.good.1 HX.out]
    exact Turned.same HL.out (Below.refl _ _)
  · obtain rfl : true = b := by rw [← hb]; simp [h0]
    have hm := hw.good.mem ((due_mem hw.good.1).2 ⟨hx, h0⟩)
    obtain ⟨m1, m2, _, _⟩ := mayB_iff.1 hm
    simp only at m1 m2
    obtain ⟨i, hi1, hi2, hi3⟩ := (hw.where_ m1 m2).2 (by rw [hx]; exact h0)
    obtain ⟨a, rfl⟩ := nat_of m1
    rw [Int.toNat_natCast] at hi1
    rw [hx] at hi3
    have hf5 := hw.few
    have hiI : (i : Int) < (l.length : Int) := by omega
    have hlI : (l.length : Int) ≤ 4096 := by omega
    have HI := Lib.hid hi1
    have HI3 := Lib.hid hi3
    have ha : a < 4096 := by omega
    clear hq hp hw hh hS hns hb hx hm hi1 hi3
    go_enter Try.func16, Try.ntmps16
    go_wp2_with fail
    refine (qfind_at HQ.out HP.out ha HI.out (by omega)).mono ?_
    rintro e w1 ⟨rfl, rfl⟩
    go_wp2_with fail
    refine (Remove_c HP.out HW.out HH.out HI3.out ha).mono ?_
    rintro e w2 ⟨rfl, v', hp2, hf2, hv2⟩
    have HT := Lib.hid (turned_of (w1 := w1) HQ.out hb1 hb2 HNS.out HS.out (Below.refl _ _) hp2 hf2 (fun q hq => .inl (by rw [← hv2]; exact hq)))
    clear hp2 hf2 hv2
    go_wp2_with fail
    go_ret
    exact ⟨rfl, HT.out⟩
set_option maxRecDepth 100000 in
set_option maxHeartbeats 16000000 in
theorem Take_c {a d now : Int} {b : Bool} (h : Que w B qb L S) (hv : takeV L now = (a, d)) (hb : takeB L now = b) :
    Calls Try.prog 18 #[.pointer (some ⟨qb, 0, none⟩), .int .i64 now] w fun e w' => e = .returned (.tuple #[.agg #[.int .i64 a, .int .i64 d], .bool b]) ∧ Turned w B qb S (takeT L now) w' := by
  have HL := Lib.hid h
  obtain ⟨⟨fa, fd⟩, hf⟩ : ∃ f, firstL L = f := ⟨_, rfl⟩
  have HF := Lib.hid hf
  cases b with
  | false =>
    obtain ⟨rfl, rfl⟩ : 0 = a ∧ 0 = d := by
      unfold takeV at hv
      rw [hb] at hv
      simpa using hv
    have HT := Lib.hid (show takeT L now = L by unfold takeT; rw [hb]; rfl)
    by_cases h0 : L = []
    · have HD := Lib.hid (show decide (L ≠ []) = false by simp [h0])
      clear h hv hb hf h0
      go_enter Try.func18, Try.ntmps18
      go_wp2_with fail
      refine (First_c (HL.out.below (by (repeat' (first | (with_reducible exact Below.refl _ _) | (with_reducible refine Below.setCell ?_ (by (first | omega | (simp; done) | (simp; omega))) _) | (with_reducible refine Below.alloc ?_ (by (first | omega | (simp; done) | (simp; omega))) _) | (with_reducible refine Below.drew ?_) | (with_reducible refine below_drewN ?_ _))))) HF.out HD.out).mono ?_
      rintro e w1 ⟨rfl, hw1⟩
      have HB1 := Lib.hid (show Below w.heap.size w w1 by (repeat' (first | (with_reducible exact Below.refl _ _) | (with_reducible refine Below.setCell ?_ (by (first | omega | (simp; done) | (simp; omega))) _) | (with_reducible refine Below.alloc ?_ (by (first | omega | (simp; done) | (simp; omega))) _) | (with_reducible refine Below.drew ?_) | (with_reducible refine below_drewN ?_ _) | (with_reducible refine Below.trans ?_ (Below.mono hw1 (by (first | omega | (simp; done) | (simp; omega))))))))
      have z1 := hw1.size
      have r0 : w1.cell? ⟨w.heap.size, 0, none⟩ = some (.int .i64 0) := (hw1.cell (by simp)).trans (by simp)
      have r1 : w1.cell? ⟨w.heap.size, 1, none⟩ = some (.int .i64 0) := (hw1.cell (by simp)).trans (by simp)
      have rf : ∀ o, w1.frozen? ⟨w.heap.size, o, none⟩ = false := fun o => (hw1.frozen (by simp)).trans (by simp)
      have rl : w.heap.size < w1.heap.size := by simp at z1; omega
      have rne : w.heap.size ≠ w1.heap.size := by omega
      have R := Lib.hid (show Blk w1 w.heap.size TT [.int .i64 0, .int .i64 0] from (show Blk (w.alloc (.cells #[.int .i64 0, .int .i64 0] TT)) w.heap.size TT [.int .i64 0, .int .i64 0] by (repeat' (first | (with_reducible refine BlkP.Blk.drew ?_) | (with_reducible refine BlkP.Blk.drewN ?_ _) | (with_reducible refine BlkP.Blk.setAt (us := ?_) (by first | omega | (simp; done) | (simp; omega)) rfl ?_ ?_) | (with_reducible refine BlkP.Blk.otherAt ?_ (by first | omega | (simp; done) | (simp; omega))) | (with_reducible refine BlkP.Blk.newA' (by first | omega | (simp; done) | (simp; omega)) rfl) | (with_reducible refine BlkP.Blk.alloc ?_ _) | (exact rfl)))).below hw1)
      clear hw1 z1
      go_wp2_with fail
      refine HeldP.bp_named (S := fun W => Below w.heap.size w W ∧ Blk W w.heap.size TT [.int .i64 0, .int .i64 0]) ⟨by (repeat' (first | (with_reducible exact Below.refl _ _) | (with_reducible refine Below.setCell ?_ (by (first | omega | (simp; done) | (simp; omega))) _) | (with_reducible refine Below.alloc ?_ (by (first | omega | (simp; done) | (simp; omega))) _) | (with_reducible refine Below.drew ?_) | (with_reducible refine below_drewN ?_ _) | (with_reducible refine Below.trans ?_ (Below.mono HB1.out (by (first | omega | (simp; done) | (simp; omega))))))), by (repeat' (first | (with_reducible exact R.out) | (with_reducible refine BlkP.Blk.drew ?_) | (with_reducible refine BlkP.Blk.drewN ?_ _) | (with_reducible refine BlkP.Blk.setAt (us := ?_) (by first | omega | (simp; done) | (simp; omega)) rfl ?_ ?_) | (with_reducible refine BlkP.Blk.otherAt ?_ (by first | omega | (simp; done) | (simp; omega))) | (with_reducible refine BlkP.Blk.newA' (by first | omega | (simp; done) | (simp; omega)) rfl) | (with_reducible refine BlkP.Blk.alloc ?_ _) | (exact rfl)))⟩ ?_
      rintro w9 ⟨hb9, r9⟩
      have HB9 := Lib.hid hb9
      have q0 := r9.cell (i := 0) rfl
      have q1 := r9.cell (i := 1) rfl
      clear hb9 r0 r1
      refine bodyPost_ret (v := .tuple #[.agg #[.int .i64 0, .int .i64 0], .bool false]) (by simp [results, Try.results18, go_sem, q0, q1]) rfl ?_
      refine ⟨rfl, ?_⟩
      rw [HT.out]
      exact Turned.same HL.out HB9.out
    · have HD := Lib.hid (show decide (L ≠ []) = true by simp [h0])
      have hdn : ¬ fd ≤ now := by
        unfold takeB at hb
        rw [hf] at hb
        simpa [h0] using hb
      have hdn2 : now < fd := by omega
      clear h hv hb hf h0
      go_enter Try.func18, Try.ntmps18
      go_wp2_with fail
      refine (First_c (HL.out.below (by (repeat' (first | (with_reducible exact Below.refl _ _) | (with_reducible refine Below.setCell ?_ (by (first | omega | (simp; done) | (simp; omega))) _) | (with_reducible refine Below.alloc ?_ (by (first | omega | (simp; done) | (simp; omega))) _) | (with_reducible refine Below.drew ?_) | (with_reducible refine below_drewN ?_ _))))) HF.out HD.out).mono ?_
      rintro e w1 ⟨rfl, hw1⟩
      have HB1 := Lib.hid (show Below w.heap.size w w1 by (repeat' (first | (with_reducible exact Below.refl _ _) | (with_reducible refine Below.setCell ?_ (by (first | omega | (simp; done) | (simp; omega))) _) | (with_reducible refine Below.alloc ?_ (by (first | omega | (simp; done) | (simp; omega))) _) | (with_reducible refine Below.drew ?_) | (with_reducible refine below_drewN ?_ _) | (with_reducible refine Below.trans ?_ (Below.mono hw1 (by (first | omega | (simp; done) | (simp; omega))))))))
      have z1 := hw1.size
      have r0 : w1.cell? ⟨w.heap.size, 0, none⟩ = some (.int .i64 0) := (hw1.cell (by simp)).trans (by simp)
      have r1 : w1.cell? ⟨w.heap.size, 1, none⟩ = some (.int .i64 0) := (hw1.cell (by simp)).trans (by simp)
      have rf : ∀ o, w1.frozen? ⟨w.heap.size, o, none⟩ = false := fun o => (hw1.frozen (by simp)).trans (by simp)
      have rl : w.heap.size < w1.heap.size := by simp at z1; omega
      have rne : w.heap.size ≠ w1.heap.size := by omega
      have R := Lib.hid (show Blk w1 w.heap.size TT [.int .i64 0, .int .i64 0] from (show Blk (w.alloc (.cells #[.int .i64 0, .int .i64 0] TT)) w.heap.size TT [.int .i64 0, .int .i64 0] by (repeat' (first | (with_reducible refine BlkP.Blk.drew ?_) | (with_reducible refine BlkP.Blk.drewN ?_ _) | (with_reducible refine BlkP.Blk.setAt (us := ?_) (by first | omega | (simp; done) | (simp; omega)) rfl ?_ ?_) | (with_reducible refine BlkP.Blk.otherAt ?_ (by first | omega | (simp; done) | (simp; omega))) | (with_reducible refine BlkP.Blk.newA' (by first | omega | (simp; done) | (simp; omega)) rfl) | (with_reducible refine BlkP.Blk.alloc ?_ _) | (exact rfl)))).below hw1)
      clear hw1 z1
      go_wp2_with fail
      refine HeldP.bp_named (S := fun W => Below w.heap.size w W ∧ Blk W w.heap.size TT [.int .i64 0, .int .i64 0]) ⟨by (repeat' (first | (with_reducible exact Below.refl _ _) | (with_reducible refine Below.setCell ?_ (by (first | omega | (simp; done) | (simp; omega))) _) | (with_reducible refine Below.alloc ?_ (by (first | omega | (simp; done) | (simp; omega))) _) | (with_reducible refine Below.drew ?_) | (with_reducible refine below_drewN ?_ _) | (with_reducible refine Below.trans ?_ (Below.mono HB1.out (by (first | omega | (simp; done) | (simp; omega))))))), by (repeat' (first | (with_reducible exact R.out) | (with_reducible refine BlkP.Blk.drew ?_) | (with_reducible refine BlkP.Blk.drewN ?_ _) | (with_reducible refine BlkP.Blk.setAt (us := ?_) (by first | omega | (simp; done) | (simp; omega)) rfl ?_ ?_) | (with_reducible refine BlkP.Blk.otherAt ?_ (by first | omega | (simp; done) | (simp; omega))) | (with_reducible refine BlkP.Blk.newA' (by first | omega | (simp; done) | (simp; omega)) rfl) | (with_reducible refine BlkP.Blk.alloc ?_ _) | (exact rfl)))⟩ ?_
      rintro w9 ⟨hb9, r9⟩
      have HB9 := Lib.hid hb9
      have q0 := r9.cell (i := 0) rfl
      have q1 := r9.cell (i := 1) rfl
      clear hb9 r0 r1
      refine bodyPost_ret (v := .tuple #[.agg #[.int .i64 0, .int .i64 0], .bool false]) (by simp [results, Try.results18, go_sem, q0, q1]) rfl ?_
      refine ⟨rfl, ?_⟩
      rw [HT.out]
      exact Turned.same HL.out HB9.out
  | true =>
    have h0 : L ≠ [] ∧ fd ≤ now := by
      unfold takeB at hb
      rw [hf] at hb
      simpa using hb
    obtain ⟨rfl, rfl⟩ : fa = a ∧ fd = d := by
      unfold takeV at hv
      rw [hb, hf] at hv
      simpa using hv
    have HT := Lib.hid (show takeT L now = delL fa L by unfold takeT; rw [hb, hf]; rfl)
    have HD := Lib.hid (show decide (L ≠ []) = true by simp [h0.1])
    have hle := h0.2
    have hnl : ¬ now < fd := by omega
    obtain ⟨pb, v, hq, ⟨l, W, hp, hw, hh⟩, hb1, hb2, hns, hS⟩ := h
    have HQ := Lib.hid hq
    have HP := Lib.hid hp
    have HW := Lib.hid hw
    have HH := Lib.hid hh
    have HS := Lib.hid hS
    have HNS := Lib.hid hns
    have c0 := hq.cell (i := 0) rfl
    have l0 := hq.lt
    have p0 := hp.cell0
    have pl := hp.lt
    have hlen := hw.len
    have hpos : 0 < L.length := List.length_pos_iff.2 h0.1
    have hx := (hw.first hh (by omega)).2
    rw [hf] at hx
    have hm := mayB_iff.1 (hw.may hx)
    simp only at hm
    obtain ⟨fa, rfl⟩ := nat_of hm.1
    have hfa : fa < 4096 := by omega
    have HX := Lib.hid hx
    clear hv hb hf h0 hq hp hw hh hS hns hlen hpos hx hm c0 l0 p0 pl
    go_enter Try.func18, Try.ntmps18
    go_wp2_with fail
    refine (First_c (HL.out.below (by (repeat' (first | (with_reducible exact Below.refl _ _) | (with_reducible refine Below.setCell ?_ (by (first | omega | (simp; done) | (simp; omega))) _) | (with_reducible refine Below.alloc ?_ (by (first | omega | (simp; done) | (simp; omega))) _) | (with_reducible refine Below.drew ?_) | (with_reducible refine below_drewN ?_ _))))) HF.out HD.out).mono ?_
    rintro e w1 ⟨rfl, hw1⟩
    have hb1' : Below w.heap.size w w1 := by (repeat' (first | (with_reducible exact Below.refl _ _) | (with_reducible refine Below.setCell ?_ (by (first | omega | (simp; done) | (simp; omega))) _) | (with_reducible refine Below.alloc ?_ (by (first | omega | (simp; done) | (simp; omega))) _) | (with_reducible refine Below.drew ?_) | (with_reducible refine below_drewN ?_ _) | (with_reducible refine Below.trans ?_ (Below.mono hw1 (by (first | omega | (simp; done) | (simp; omega)))))))
    have HB1 := Lib.hid hb1'
    have z1 := hw1.size
    have q1 := HQ.out.below hb1'
    have c0 := q1.cell (i := 0) rfl
    have l0 := q1.lt
    have hql : qb < w.heap.size := HQ.out.lt
    have r0 : w1.cell? ⟨w.heap.size, 0, none⟩ = some (.int .i64 0) := (hw1.cell (by simp)).trans (by simp)
    have r1 : w1.cell? ⟨w.heap.size, 1, none⟩ = some (.int .i64 0) := (hw1.cell (by simp)).trans (by simp)
    have rf : ∀ o, w1.frozen? ⟨w.heap.size, o, none⟩ = false := fun o => (hw1.frozen (by simp)).trans (by simp)
    have rl : w.heap.size < w1.heap.size := by simp at z1; omega
    have rne : w.heap.size ≠ w1.heap.size := by omega
    have qne : qb ≠ w1.heap.size := by omega
    have qne2 : qb ≠ w.heap.size := by omega
    have R := Lib.hid (show Blk w1 w.heap.size TT [.int .i64 0, .int .i64 0] from (show Blk (w.alloc (.cells #[.int .i64 0, .int .i64 0] TT)) w.heap.size TT [.int .i64 0, .int .i64 0] by (repeat' (first | (with_reducible refine BlkP.Blk.drew ?_) | (with_reducible refine BlkP.Blk.drewN ?_ _) | (with_reducible refine BlkP.Blk.setAt (us := ?_) (by first | omega | (simp; done) | (simp; omega)) rfl ?_ ?_) | (with_reducible refine BlkP.Blk.otherAt ?_ (by first | omega | (simp; done) | (simp; omega))) | (with_reducible refine BlkP.Blk.newA' (by first | omega | (simp; done) | (simp; omega)) rfl) | (with_reducible refine BlkP.Blk.alloc ?_ _) | (exact rfl)))).below hw1)
    clear hw1 z1 hb1' q1
    go_wp2_with fail
    refine calls_named (S := fun W => Below w.heap.size w W ∧ Blk W w.heap.size TT [.int .i64 0, .int .i64 0] ∧ Blk W w1.heap.size TT [.int .i64 (fa : Int), .int .i64 fd]) ⟨by (repeat' (first | (with_reducible exact Below.refl _ _) | (with_reducible refine Below.setCell ?_ (by (first | omega | (simp; done) | (simp; omega))) _) | (with_reducible refine Below.alloc ?_ (by (first | omega | (simp; done) | (simp; omega))) _) | (with_reducible refine Below.drew ?_) | (with_reducible refine below_drewN ?_ _) | (with_reducible refine Below.trans ?_ (Below.mono HB1.out (by (first | omega | (simp; done) | (simp; omega))))))), by (repeat' (first | (with_reducible exact R.out) | (with_reducible refine BlkP.Blk.drew ?_) | (with_reducible refine BlkP.Blk.drewN ?_ _) | (with_reducible refine BlkP.Blk.setAt (us := ?_) (by first | omega | (simp; done) | (simp; omega)) rfl ?_ ?_) | (with_reducible refine BlkP.Blk.otherAt ?_ (by first | omega | (simp; done) | (simp; omega))) | (with_reducible refine BlkP.Blk.newA' (by first | omega | (simp; done) | (simp; omega)) rfl) | (with_reducible refine BlkP.Blk.alloc ?_ _) | (exact rfl))), by (repeat' (first | (with_reducible refine BlkP.Blk.drew ?_) | (with_reducible refine BlkP.Blk.drewN ?_ _) | (with_reducible refine BlkP.Blk.setAt (us := ?_) (by first | omega | (simp; done) | (simp; omega)) rfl ?_ ?_) | (with_reducible refine BlkP.Blk.otherAt ?_ (by first | omega | (simp; done) | (simp; omega))) | (with_reducible refine BlkP.Blk.newA' (by first | omega | (simp; done) | (simp; omega)) rfl) | (with_reducible refine BlkP.Blk.alloc ?_ _) | (exact rfl)))⟩ ?_
    rintro w2 ⟨hb2', r2, t2⟩
    have HB2 := Lib.hid hb2'
    have R2 := Lib.hid r2
    have T2 := Lib.hid t2
    clear hb2' r2 t2 r0 r1 rf
    have hspl : ∀ k, Sp pb v k → k < w.heap.size := fun k hk => by
      rcases hk with rfl | hk
      · exact HP.out.lt
      · exact (HP.out.row.ge k hk).2
    have HSL := Lib.hid hspl
    refine (hPop_d (i := 0) (HP.out.below HB2.out) HW.out HH.out rfl HX.out hfa).mono ?_
    rintro e w3 ⟨rfl, v', hp3, hf3, hv3⟩
    have HTN := Lib.hid (que_of HQ.out hb1 hb2 HNS.out HS.out HB2.out hp3 hf3 hv3)
    have r3 := hf3.blk R2.out (fun q => by have := hspl _ q; omega)
    have t3 := hf3.blk T2.out (fun q => by have := hspl _ q; omega)
    have R3 := Lib.hid r3
    have r0 := r3.cell (i := 0) rfl
    have r1 := r3.cell (i := 1) rfl
    have t0 := t3.cell (i := 0) rfl
    have t1 := t3.cell (i := 1) rfl
    have rf := r3.frozen 0
    have rf1 := r3.frozen 1
    have rl3 := r3.lt
    have tl3 := t3.lt
    clear hp3 hf3 hv3 r3 t3 hspl
    go_wp2_with fail
    refine HeldP.bp_named (S := fun W => Fr (fun k => k = w.heap.size) w3 W ∧ Blk W w.heap.size TT [.int .i64 (fa : Int), .int .i64 fd]) ⟨(Fr.set (fun k => k = w.heap.size) w3 ⟨w.heap.size, 0, none⟩ _ rfl).trans (Fr.set (fun k => k = w.heap.size) _ ⟨w.heap.size, 1, none⟩ _ rfl) (fun i hi => .inl hi), by (repeat' (first | (with_reducible exact R3.out) | (with_reducible refine BlkP.Blk.drew ?_) | (with_reducible refine BlkP.Blk.drewN ?_ _) | (with_reducible refine BlkP.Blk.setAt (us := ?_) (by first | omega | (simp; done) | (simp; omega)) rfl ?_ ?_) | (with_reducible refine BlkP.Blk.otherAt ?_ (by first | omega | (simp; done) | (simp; omega))) | (with_reducible refine BlkP.Blk.newA' (by first | omega | (simp; done) | (simp; omega)) rfl) | (with_reducible refine BlkP.Blk.alloc ?_ _) | (exact rfl)))⟩ ?_
    rintro w9 ⟨hf9, r9⟩
    have HF9 := Lib.hid hf9
    have q0 := r9.cell (i := 0) rfl
    have q1 := r9.cell (i := 1) rfl
    clear hf9 r9 r0 r1 t0 t1
    refine bodyPost_ret (v := .tuple #[.agg #[.int .i64 (fa : Int), .int .i64 fd], .bool true]) (by simp [results, Try.results18, go_sem, q0, q1]) rfl ?_
    refine ⟨rfl, ?_⟩
    rw [HT.out]
    refine ⟨S, HTN.out.1.fr HF9.out (fun k hk e => ?_), HTN.out.2.trans HF9.out (fun k hk => .inr (by omega)), fun k hk => .inl hk⟩
    have := (HL.out.ge hk).2
    omega
set_option maxRecDepth 100000 in
set_option maxHeartbeats 16000000 in
theorem Put_c {a d n : Int} {b : Bool} (h : Que w B qb L S) (hb : (mayB (a, d) && putsB L (a, d)) = b) (hn : (if mayB (a, d) then 0 else 2) = n) :
    Calls Try.prog 14 #[.pointer (some ⟨qb, 0, none⟩), .agg #[.int .i64 a, .int .i64 d]] w fun e w' => e = .returned (.tuple #[.bool b, .int .i64 n]) ∧ Turned w B qb S (putT L (a, d)) w' := by
  have HL := Lib.hid h
  obtain ⟨pb, v, hq, ⟨l, W, hp, hw, hh⟩, hb1, hb2, hns, hS⟩ := h
  have HQ := Lib.hid hq
  have HP := Lib.hid hp
  have HW := Lib.hid hw
  have HH := Lib.hid hh
  have HS := Lib.hid hS
  have HNS := Lib.hid hns
  cases hm : mayB (a, d) with
  | false =>
    obtain rfl : false = b := by rw [← hb, hm]; rfl
    obtain rfl : 2 = n := by rw [← hn, hm]; rfl
    have HM := Lib.hid hm
    clear hq hp hw hh hS hns hb hn hm
    go_enter Try.func14, Try.ntmps14
    go_wp2_with fail
    refine (isMade_c (HQ.out.below (by (repeat' (first | (with_reducible exact Below.refl _ _) | (with_reducible refine Below.setCell ?_ (by (first | omega | (simp; done) | (simp; omega))) _) | (with_reducible refine Below.alloc ?_ (by (first | omega | (simp; done) | (simp; omega))) _) | (with_reducible refine Below.drew ?_) | (with_reducible refine below_drewN ?_ _)))))).mono ?_
    rintro e w1 ⟨rfl, rfl⟩
    go_wp2_with fail
    refine (may_c HM.out).mono ?_
    rintro e w1 ⟨rfl, hw1⟩
    have hb1' : Below w.heap.size w w1 := by (repeat' (first | (with_reducible exact Below.refl _ _) | (with_reducible refine Below.setCell ?_ (by (first | omega | (simp; done) | (simp; omega))) _) | (with_reducible refine Below.alloc ?_ (by (first | omega | (simp; done) | (simp; omega))) _) | (with_reducible refine Below.drew ?_) | (with_reducible refine below_drewN ?_ _) | (with_reducible refine Below.trans ?_ (Below.mono hw1 (by (first | omega | (simp; done) | (simp; omega)))))))
    have HB1 := Lib.hid hb1'
    have t1 : Blk w1 w.heap.size TT [.int .i64 a, .int .i64 d] := (show Blk (w.alloc (.cells #[.int .i64 a, .int .i64 d] TT)) w.heap.size TT [.int .i64 a, .int .i64 d] by (repeat' (first | (with_reducible refine BlkP.Blk.drew ?_) | (with_reducible refine BlkP.Blk.drewN ?_ _) | (with_reducible refine BlkP.Blk.setAt (us := ?_) (by first | omega | (simp; done) | (simp; omega)) rfl ?_ ?_) | (with_reducible refine BlkP.Blk.otherAt ?_ (by first | omega | (simp; done) | (simp; omega))) | (with_reducible refine BlkP.Blk.newA' (by first | omega | (simp; done) | (simp; omega)) rfl) | (with_reducible refine BlkP.Blk.alloc ?_ _) | (exact rfl)))).below hw1
    have T1 := Lib.hid t1
    have x0 := t1.cell (i := 0) rfl
    have x1 := t1.cell (i := 1) rfl
    have xl := t1.lt
    have hQ1 := HQ.out.below hb1'
    have c0 := hQ1.cell (i := 0) rfl
    have l0 := hQ1.lt
    have HP1 := Lib.hid (HP.out.below hb1')
    have p0 := HP1.out.cell0
    have pl := HP1.out.lt
    clear hw1 hb1' t1 hQ1
    go_wp2_with fail
    go_ret2
    refine ⟨rfl, ?_⟩
    unfold putT
    rw [HM.out]
    exact Turned.same HL.out HB1.out
  | true =>
    obtain ⟨m1, m2, m3, m4⟩ := mayB_iff.1 hm
    simp only at m1 m2 m3 m4
    obtain rfl : 0 = n := by rw [← hn, hm]; rfl
    obtain ⟨a, rfl⟩ := nat_of m1
    have ha : a < 4096 := by omega
    have HT := Lib.hid (show putT L ((a : Int), d) = putL (a : Int) d L by unfold putT; rw [hm]; rfl)
    have HM := Lib.hid hm
    obtain ⟨x, hx⟩ : ∃ x, dueL (a : Int) L = x := ⟨_, rfl⟩
    have HX := Lib.hid hx
    by_cases h0 : x = 0
    · obtain rfl : true = b := by rw [← hb, hm]; unfold putsB; simp only; rw [hx, h0]; simp
      have hW := (hw.where_ m1 m2).1 (by rw [hx, h0])
      rw [Int.toNat_natCast] at hW
      have HWA := Lib.hid hW
      have hBw : B ≤ w.heap.size := by have := hp.lt; omega
      clear hq hp hw hh hS hns hb hn hm hx hW
      go_enter Try.func14, Try.ntmps14
      go_wp2_with fail
      refine (isMade_c (HQ.out.below (by (repeat' (first | (with_reducible exact Below.refl _ _) | (with_reducible refine Below.setCell ?_ (by (first | omega | (simp; done) | (simp; omega))) _) | (with_reducible refine Below.alloc ?_ (by (first | omega | (simp; done) | (simp; omega))) _) | (with_reducible refine Below.drew ?_) | (with_reducible refine below_drewN ?_ _)))))).mono ?_
      rintro e w1 ⟨rfl, rfl⟩
      go_wp2_with fail
      refine (may_c HM.out).mono ?_
      rintro e w1 ⟨rfl, hw1⟩
      have hb1' : Below w.heap.size w w1 := by (repeat' (first | (with_reducible exact Below.refl _ _) | (with_reducible refine Below.setCell ?_ (by (first | omega | (simp; done) | (simp; omega))) _) | (with_reducible refine Below.alloc ?_ (by (first | omega | (simp; done) | (simp; omega))) _) | (with_reducible refine Below.drew ?_) | (with_reducible refine below_drewN ?_ _) | (with_reducible refine Below.trans ?_ (Below.mono hw1 (by (first | omega | (simp; done) | (simp; omega)))))))
      have HB1 := Lib.hid hb1'
      have t1 : Blk w1 w.heap.size TT [.int .i64 a, .int .i64 d] := (show Blk (w.alloc (.cells #[.int .i64 a, .int .i64 d] TT)) w.heap.size TT [.int .i64 a, .int .i64 d] by (repeat' (first | (with_reducible refine BlkP.Blk.drew ?_) | (with_reducible refine BlkP.Blk.drewN ?_ _) | (with_reducible refine BlkP.Blk.setAt (us := ?_) (by first | omega | (simp; done) | (simp; omega)) rfl ?_ ?_) | (with_reducible refine BlkP.Blk.otherAt ?_ (by first | omega | (simp; done) | (simp; omega))) | (with_reducible refine BlkP.Blk.newA' (by first | omega | (simp; done) | (simp; omega)) rfl) | (with_reducible refine BlkP.Blk.alloc ?_ _) | (exact rfl)))).below hw1
      have T1 := Lib.hid t1
      have x0 := t1.cell (i := 0) rfl
      have x1 := t1.cell (i := 1) rfl
      have xl := t1.lt
      have hQ1 := HQ.out.below hb1'
      have c0 := hQ1.cell (i := 0) rfl
      have l0 := hQ1.lt
      have HP1 := Lib.hid (HP.out.below hb1')
      have p0 := HP1.out.cell0
      have pl := HP1.out.lt
      clear hw1 hb1' t1 hQ1
      go_wp2_with fail
      refine (find_c HP1.out.blk ha HWA.out (by omega)).mono ?_
      rintro e w2 ⟨rfl, rfl⟩
      go_wp2_with fail
      refine (hPush_c ⟨l, W, HP1.out, HW.out, HH.out⟩ HM.out (by rw [HX.out]; exact h0) (by have := HB1.out.size; omega)).mono ?_
      rintro e w3 ⟨rfl, v', hp3, hf3, hv3⟩
      have HTN := Lib.hid (turned_of HQ.out hb1 hb2 HNS.out HS.out HB1.out hp3 hf3 (fun q hq => (hv3 q hq).imp id (fun z => by have := HB1.out.size; omega)))
      clear hp3 hf3 hv3
      go_wp2_with fail
      go_ret2
      refine ⟨rfl, ?_⟩
      rw [HT.out]
      exact HTN.out
    · obtain ⟨i, hi1, hi2, hi3⟩ := (hw.where_ m1 m2).2 (by rw [hx]; exact h0)
      rw [Int.toNat_natCast] at hi1
      rw [hx] at hi3
      have hf5 := hw.few
      obtain ⟨g, c, rfl⟩ := own_some hp.row (by omega)
      have hiI : (i : Int) < (l.length : Int) := by omega
      have hlI : (l.length : Int) ≤ 4096 := by omega
      have hi1I : ((i + 1 : Nat) : Int) - 1 = (i : Int) := by omega
      have hi0I : ¬ (i : Int) < 0 := by omega
      have HI := Lib.hid hi1
      have HI3 := Lib.hid hi3
      by_cases hlt : d < x
      · obtain rfl : true = b := by rw [← hb, hm]; unfold putsB; simp only; rw [hx]; simp [hlt]
        clear hq hp hw hh hS hns hb hn hm hx hi1 hi3
        go_enter Try.func14, Try.ntmps14
        go_wp2_with fail
        refine (isMade_c (HQ.out.below (by (repeat' (first | (with_reducible exact Below.refl _ _) | (with_reducible refine Below.setCell ?_ (by (first | omega | (simp; done) | (simp; omega))) _) | (with_reducible refine Below.alloc ?_ (by (first | omega | (simp; done) | (simp; omega))) _) | (with_reducible refine Below.drew ?_) | (with_reducible refine below_drewN ?_ _)))))).mono ?_
        rintro e w1 ⟨rfl, rfl⟩
        go_wp2_with fail
        refine (may_c HM.out).mono ?_
        rintro e w1 ⟨rfl, hw1⟩
        have hb1' : Below w.heap.size w w1 := by (repeat' (first | (with_reducible exact Below.refl _ _) | (with_reducible refine Below.setCell ?_ (by (first | omega | (simp; done) | (simp; omega))) _) | (with_reducible refine Below.alloc ?_ (by (first | omega | (simp; done) | (simp; omega))) _) | (with_reducible refine Below.drew ?_) | (with_reducible refine below_drewN ?_ _) | (with_reducible refine Below.trans ?_ (Below.mono hw1 (by (first | omega | (simp; done) | (simp; omega)))))))
        have HB1 := Lib.hid hb1'
        have t1 : Blk w1 w.heap.size TT [.int .i64 a, .int .i64 d] := (show Blk (w.alloc (.cells #[.int .i64 a, .int .i64 d] TT)) w.heap.size TT [.int .i64 a, .int .i64 d] by (repeat' (first | (with_reducible refine BlkP.Blk.drew ?_) | (with_reducible refine BlkP.Blk.drewN ?_ _) | (with_reducible refine BlkP.Blk.setAt (us := ?_) (by first | omega | (simp; done) | (simp; omega)) rfl ?_ ?_) | (with_reducible refine BlkP.Blk.otherAt ?_ (by first | omega | (simp; done) | (simp; omega))) | (with_reducible refine BlkP.Blk.newA' (by first | omega | (simp; done) | (simp; omega)) rfl) | (with_reducible refine BlkP.Blk.alloc ?_ _) | (exact rfl)))).below hw1
        have T1 := Lib.hid t1
        have x0 := t1.cell (i := 0) rfl
        have x1 := t1.cell (i := 1) rfl
        have xl := t1.lt
        have hQ1 := HQ.out.below hb1'
        have c0 := hQ1.cell (i := 0) rfl
        have l0 := hQ1.lt
        have HP1 := Lib.hid (HP.out.below hb1')
        have p0 := HP1.out.cell0
        have pl := HP1.out.lt
        clear hw1 hb1' t1 hQ1
        have y0 := HP1.out.row.cell (j := 0) HI3.out rfl
        have y1 := HP1.out.row.cell (j := 1) HI3.out rfl
        simp only [show encT.k = 2 from rfl, Nat.add_zero] at y0 y1
        have hg1 := (HP1.out.row.ge g rfl).2
        have fz := fun o => HP1.out.row.frozen o
        go_wp2_with fail
        refine (find_c HP1.out.blk ha HI.out (by omega)).mono ?_
        rw [hi1I]
        rintro e w2 ⟨rfl, rfl⟩
        go_wp2_with fail
        go_region
        go_wp2_with fail
        go_region
        go_wp2_with fail
        have hgp : pb ≠ g := fun e => HP1.out.ne (by rw [e]; rfl)
        refine calls_named (S := fun W' => Pd W' B pb (.slice (some ⟨g, 0, none⟩) l.length c) (l.set i ((a : Int), d)) W ∧ Fr (Sp pb (.slice (some ⟨g, 0, none⟩) l.length c)) w2 W') ⟨⟨((HP1.out.blk.other (a := ⟨g, i * 2, none⟩) hgp (.int .i64 (a : Int))).other (a := ⟨g, i * 2 + 1, none⟩) hgp (.int .i64 d)), own_setT (w := w2) (y := ((a : Int), d)) HP1.out.row HI3.out rfl, HP1.out.ne⟩, ((fr_setT (w := w2)).drew.drew).mono (fun k hk => .inr (by rw [hk]; rfl))⟩ ?_
        rintro w4 ⟨hp4, hf4⟩
        have HP4 := Lib.hid hp4
        have HF4 := Lib.hid hf4
        clear hp4 hf4 y0 y1 fz c0 p0 x0 x1
        refine (Fix_c (L := putL (a : Int) d L) HP4.out (HW.out.set (t := ((a : Int), d)) HI3.out HM.out hlt) (by rw [List.length_set]; exact hi2) (by
          rw [List.length_set]
          exact Heap.both tl_ord HH.out hi2 (fun k hk hne => by
            unfold gt
            rw [List.getD_eq_getElem?_getD, List.getD_eq_getElem?_getD, List.getElem?_set_ne (Ne.symm hne)]))).mono ?_
        rintro e w3 ⟨rfl, hp3, hf3⟩
        have HTN := Lib.hid (turned_of HQ.out hb1 hb2 HNS.out HS.out HB1.out hp3 (HF4.out.trans hf3 (fun k hk => .inl hk)) (fun q hq => .inl hq))
        clear hp3 hf3
        go_wp2_with fail
        go_ret2
        refine ⟨rfl, ?_⟩
        rw [HT.out]
        exact HTN.out
      · obtain rfl : false = b := by rw [← hb, hm]; unfold putsB; simp only; rw [hx]; simp [hlt, h0]
        clear hq hp hw hh hS hns hb hn hm hx hi1 hi3
        go_enter Try.func14, Try.ntmps14
        go_wp2_with fail
        refine (isMade_c (HQ.out.below (by (repeat' (first | (with_reducible exact Below.refl _ _) | (with_reducible refine Below.setCell ?_ (by (first | omega | (simp; done) | (simp; omega))) _) | (with_reducible refine Below.alloc ?_ (by (first | omega | (simp; done) | (simp; omega))) _) | (with_reducible refine Below.drew ?_) | (with_reducible refine below_drewN ?_ _)))))).mono ?_
        rintro e w1 ⟨rfl, rfl⟩
        go_wp2_with fail
        refine (may_c HM.out).mono ?_
        rintro e w1 ⟨rfl, hw1⟩
        have hb1' : Below w.heap.size w w1 := by (repeat' (first | (with_reducible exact Below.refl _ _) | (with_reducible refine Below.setCell ?_ (by (first | omega | (simp; done) | (simp; omega))) _) | (with_reducible refine Below.alloc ?_ (by (first | omega | (simp; done) | (simp; omega))) _) | (with_reducible refine Below.drew ?_) | (with_reducible refine below_drewN ?_ _) | (with_reducible refine Below.trans ?_ (Below.mono hw1 (by (first | omega | (simp; done) | (simp; omega)))))))
        have HB1 := Lib.hid hb1'
        have t1 : Blk w1 w.heap.size TT [.int .i64 a, .int .i64 d] := (show Blk (w.alloc (.cells #[.int .i64 a, .int .i64 d] TT)) w.heap.size TT [.int .i64 a, .int .i64 d] by (repeat' (first | (with_reducible refine BlkP.Blk.drew ?_) | (with_reducible refine BlkP.Blk.drewN ?_ _) | (with_reducible refine BlkP.Blk.setAt (us := ?_) (by first | omega | (simp; done) | (simp; omega)) rfl ?_ ?_) | (with_reducible refine BlkP.Blk.otherAt ?_ (by first | omega | (simp; done) | (simp; omega))) | (with_reducible refine BlkP.Blk.newA' (by first | omega | (simp; done) | (simp; omega)) rfl) | (with_reducible refine BlkP.Blk.alloc ?_ _) | (exact rfl)))).below hw1
        have T1 := Lib.hid t1
        have x0 := t1.cell (i := 0) rfl
        have x1 := t1.cell (i := 1) rfl
        have xl := t1.lt
        have hQ1 := HQ.out.below hb1'
        have c0 := hQ1.cell (i := 0) rfl
        have l0 := hQ1.lt
        have HP1 := Lib.hid (HP.out.below hb1')
        have p0 := HP1.out.cell0
        have pl := HP1.out.lt
        clear hw1 hb1' t1 hQ1
        have y0 := HP1.out.row.cell (j := 0) HI3.out rfl
        have y1 := HP1.out.row.cell (j := 1) HI3.out rfl
        simp only [show encT.k = 2 from rfl, Nat.add_zero] at y0 y1
        have hg1 := (HP1.out.row.ge g rfl).2
        go_wp2_with fail
        refine (find_c HP1.out.blk ha HI.out (by omega)).mono ?_
        rw [hi1I]
        rintro e w2 ⟨rfl, rfl⟩
        go_wp2_with fail
        go_region
        go_wp2_with fail
        go_ret2
        refine ⟨rfl, ?_⟩
        rw [HT.out, put_same (by omega) HL.out.good.1 (by rw [HX.out]; exact h0) (by rw [HX.out]; omega)]
        exact Turned.same HL.out HB1.out.drew
end
end QueW
end Go.Proofs.Ytlhanbjendbhfaa
