/-
  The reference: self, left, Same.
-/
import Derived.Test.YtlahkmkipciiiaaDoorBurnFire
namespace Go.Proofs.YtlahkmkipciiiaaDoor
open Go.RowKit
set_option linter.unusedVariables false
set_option linter.unusedSimpArgs false
namespace BurnW
open BlkP RowG FrS PushG CellsW NearW BurnP
/-- A row that is told cell by cell. -/
theorem own_lit {α : Type} {e : Enc α} {E : TypeId} {w : World} {g B n : Nat} {l : List α} (h : Blk w g E (flat e l)) (hB : B ≤ g) (hn : l.length = n) (hm : n ≤ 1000000) : RowG.Own e E w B (.slice (some ⟨g, 0, none⟩) n n) l := by
  subst hn
  have hm2 : maxLen = 9223372036854775807 := rfl
  unfold RowG.Own
  exact ⟨flat_len l, .inr ⟨g, l.length, (flat e l).toArray, rfl, hB, h, Nat.le_refl _, by omega, by simp [flat_len], List.take_of_length_le (by simp [flat_len])⟩⟩
set_option maxRecDepth 100000 in
set_option maxHeartbeats 4000000 in
theorem rself_c {w : World} {k l : Nat} {x : Int} : Calls Tryd.prog 61 #[.agg #[.int .u8 (k : Int), .int .u8 (l : Int)], .int .i64 x] w (DeedQ w ⟨[(0, (k, l))], 0, x⟩) := by
  obtain ⟨s, hs⟩ : ∃ s, w.heap.size = s := ⟨_, rfl⟩
  have HS := Lib.hid hs
  go_enter Tryd.func61, Tryd.ntmps61
  go_wp2_with ((with_reducible refine at_slot 9 ?_); refine Classical.byContradiction (fun hG => ?_))
  refine hG ?_
  clear hG
  refine list_named (S := fun W => Below w.heap.size w W ∧ Blk W (s + 1) TD [.slice none 0 0, .int .i64 0, .int .i64 0] ∧ Blk W (s + 2) TX [.int .i64 0, .int .u8 (k : Int), .int .u8 (l : Int)]) ⟨by (repeat' (first | (with_reducible exact Below.refl _ _) | (with_reducible refine Below.setCell ?_ (by (first | omega | (simp; done) | (simp; omega))) _) | (with_reducible refine Below.alloc ?_ (by (first | omega | (simp; done) | (simp; omega))) _) | (with_reducible refine Below.drew ?_) | (with_reducible refine below_drewN ?_ _))), by subst hs; (repeat' (first | (with_reducible refine BlkP.Blk.drew ?_) | (with_reducible refine BlkP.Blk.drewN ?_ _) | (with_reducible refine BlkP.Blk.setAt (us := ?_) (by first | omega | (simp; done) | (simp; omega)) rfl ?_ ?_) | (with_reducible refine BlkP.Blk.otherAt ?_ (by first | omega | (simp; done) | (simp; omega))) | (with_reducible refine BlkP.Blk.newA' (by first | omega | (simp; done) | (simp; omega)) rfl) | (with_reducible refine BlkP.Blk.alloc ?_ _) | (exact rfl))), by subst hs; (repeat' (first | (with_reducible refine BlkP.Blk.drew ?_) | (with_reducible refine BlkP.Blk.drewN ?_ _) | (with_reducible refine BlkP.Blk.setAt (us := ?_) (by first | omega | (simp; done) | (simp; omega)) rfl ?_ ?_) | (with_reducible refine BlkP.Blk.otherAt ?_ (by first | omega | (simp; done) | (simp; omega))) | (with_reducible refine BlkP.Blk.newA' (by first | omega | (simp; done) | (simp; omega)) rfl) | (with_reducible refine BlkP.Blk.alloc ?_ _) | (exact rfl)))⟩ ?_
  rintro w1 ⟨hb, hr, hx⟩
  try rw [hs]
  have HB := Lib.hid hb
  have HR := Lib.hid hr
  have HX := Lib.hid hx
  have r0 := hr.cell (i := 0) rfl
  have r1 := hr.cell (i := 1) rfl
  have r2 := hr.cell (i := 2) rfl
  have f0 := hr.frozen 0
  have f1 := hr.frozen 1
  have f2 := hr.frozen 2
  have rl := hr.lt
  clear hb hr hx hs
  go_wp2_with fail
  refine bodyPost_ret (v := .agg #[.slice (some ⟨s + 2, 0, none⟩) 1 1, .int .i64 0, .int .i64 x]) (by simp [results, Tryd.results61, go_sem, rl, r0, r1, r2]) rfl ?_
  have hs := HS.out
  refine ⟨_, rfl, own_set3 (own_lit (e := encX) (l := [(0, (k, l))]) HX.out (by omega) rfl (by omega)) HR.out, ((HB.out.setCell (by simp; omega) _).setCell (by simp; omega) _).setCell (by simp; omega) _⟩
set_option maxRecDepth 100000 in
set_option maxHeartbeats 8000000 in
theorem rleft_c {w : World} {n : Nr} : Calls Tryd.prog 59 #[nv n] w (DeedQ w (over1 n)) := by
  obtain ⟨⟨k0, l0⟩, hs0⟩ : ∃ c, n.s = c := ⟨_, rfl⟩
  have HS0 := Lib.hid hs0
  obtain ⟨s, hs⟩ : ∃ s, w.heap.size = s := ⟨_, rfl⟩
  have HS := Lib.hid hs
  clear hs0
  go_enter Tryd.func59, Tryd.ntmps59
  go_wp2_with ((with_reducible refine at_slot 1 ?_); refine Classical.byContradiction (fun hG => ?_))
  refine hG ?_
  clear hG
  refine wp_boxN rfl (.tmp 0) rfl rfl ?_
  intro w1 h1 hb1 hz1
  rw [hs] at h1 hz1
  try rw [hs]
  go_wp2_with ((with_reducible refine at_slot 3 ?_); refine Classical.byContradiction (fun hG => ?_))
  refine hG ?_
  clear hG
  refine list_named (S := fun W => Below w.heap.size w W ∧ Blk W s TN (vals n) ∧ Blk W (s + 1) TD [.slice none 0 0, .int .i64 0, .int .i64 0]) ⟨by (repeat' (first | (with_reducible exact Below.refl _ _) | (with_reducible refine Below.setCell ?_ (by (first | omega | (simp; done) | (simp; omega))) _) | (with_reducible refine Below.alloc ?_ (by (first | omega | (simp; done) | (simp; omega))) _) | (with_reducible refine Below.drew ?_) | (with_reducible refine below_drewN ?_ _) | (with_reducible refine Below.trans ?_ (Below.mono hb1 (by (first | omega | (simp; done) | (simp; omega))))))), by (repeat' (first | (with_reducible exact h1) | (with_reducible refine BlkP.Blk.drew ?_) | (with_reducible refine BlkP.Blk.drewN ?_ _) | (with_reducible refine BlkP.Blk.setAt (us := ?_) (by first | omega | (simp; done) | (simp; omega)) rfl ?_ ?_) | (with_reducible refine BlkP.Blk.otherAt ?_ (by first | omega | (simp; done) | (simp; omega))) | (with_reducible refine BlkP.Blk.newA' (by first | omega | (simp; done) | (simp; omega)) rfl) | (with_reducible refine BlkP.Blk.alloc ?_ _) | (exact rfl))), by (repeat' (first | (with_reducible refine BlkP.Blk.drew ?_) | (with_reducible refine BlkP.Blk.drewN ?_ _) | (with_reducible refine BlkP.Blk.setAt (us := ?_) (by first | omega | (simp; done) | (simp; omega)) rfl ?_ ?_) | (with_reducible refine BlkP.Blk.otherAt ?_ (by first | omega | (simp; done) | (simp; omega))) | (with_reducible refine BlkP.Blk.newA' (by first | omega | (simp; done) | (simp; omega)) rfl) | (with_reducible refine BlkP.Blk.alloc ?_ _) | (exact rfl)))⟩ ?_
  clear hb1 h1 hz1
  rintro w2 ⟨hb2, h2, hr2⟩
  have HB2 := Lib.hid hb2
  have HR2 := Lib.hid hr2
  have c1 := h2.cell (i := 1) (g_lev n)
  rw [HS0.out] at c1
  simp only at c1
  have ls := h2.lt
  clear hb2 h2 hr2 hs
  by_cases h1 : l0 = 1
  · have hI : ((l0 : Int) == 1) = true := by simp; omega
    have HL := Lib.hid (show left n.s.2 = (8, 0) from by rw [HS0.out]; simp [left, h1])
    clear h1
    go_wp2_with fail
    refine (rself_c (k := 8) (l := 0) (x := 1)).mono ?_
    rintro e w3 ⟨v, rfl, ho, hb3⟩
    have HB3 := Lib.hid (below_t HB2.out hb3)
    have HO := Lib.hid (ho.mono HB2.out.size)
    have hr := HR2.out.below hb3
    have HR := Lib.hid hr
    obtain ⟨A, cc, rfl, _, _, hAA⟩ := ho.form (n := 1) rfl
    have r0 := hr.cell (i := 0) rfl
    have f0 := hr.frozen 0
    have r1 := hr.cell (i := 1) rfl
    have f1 := hr.frozen 1
    have r2 := hr.cell (i := 2) rfl
    have f2 := hr.frozen 2
    have rl := hr.lt
    clear ho hb3 hr hAA c1 ls
    go_wp2_with fail
    refine bodyPost_ret (v := .agg #[.slice A 1 cc, .int .i64 0, .int .i64 1]) (by simp [results, Tryd.results59, go_sem, rl, r0, r1, r2]) rfl ?_
    have hD : over1 n = ⟨[(0, (8, 0))], 0, 1⟩ := by
      unfold over1
      rw [HL.out]
      rfl
    rw [hD]
    exact ⟨_, rfl, (deed_end (D := ⟨[(0, (8, 0))], 0, 1⟩) HS.out HB3.out HR.out HO.out).1, (deed_end (D := ⟨[(0, (8, 0))], 0, 1⟩) HS.out HB3.out HR.out HO.out).2⟩
  · have hI : ((l0 : Int) == 1) = false := by simp; omega
    have HL := Lib.hid (show left n.s.2 = (0, 0) from by rw [HS0.out]; simp [left, h1])
    clear h1
    go_wp2_with fail
    refine (rself_c (k := 0) (l := 0) (x := 0)).mono ?_
    rintro e w3 ⟨v, rfl, ho, hb3⟩
    have HB3 := Lib.hid (below_t HB2.out hb3)
    have HO := Lib.hid (ho.mono HB2.out.size)
    have hr := HR2.out.below hb3
    have HR := Lib.hid hr
    obtain ⟨A, cc, rfl, _, _, hAA⟩ := ho.form (n := 1) rfl
    have r0 := hr.cell (i := 0) rfl
    have f0 := hr.frozen 0
    have r1 := hr.cell (i := 1) rfl
    have f1 := hr.frozen 1
    have r2 := hr.cell (i := 2) rfl
    have f2 := hr.frozen 2
    have rl := hr.lt
    clear ho hb3 hr hAA c1 ls
    go_wp2_with fail
    refine bodyPost_ret (v := .agg #[.slice A 1 cc, .int .i64 0, .int .i64 0]) (by simp [results, Tryd.results59, go_sem, rl, r0, r1, r2]) rfl ?_
    have hD : over1 n = ⟨[(0, (0, 0))], 0, 0⟩ := by
      unfold over1
      rw [HL.out]
      rfl
    rw [hD]
    exact ⟨_, rfl, (deed_end (D := ⟨[(0, (0, 0))], 0, 0⟩) HS.out HB3.out HR.out HO.out).1, (deed_end (D := ⟨[(0, (0, 0))], 0, 0⟩) HS.out HB3.out HR.out HO.out).2⟩
end BurnW
end Go.Proofs.YtlahkmkipciiiaaDoor
