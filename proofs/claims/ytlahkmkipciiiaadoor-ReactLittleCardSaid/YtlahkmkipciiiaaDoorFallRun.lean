/-
  Next, Lands, Row: what they answer.
-/
import Derived.Test.YtlahkmkipciiiaaDoorFallLead
namespace Go.Proofs.YtlahkmkipciiiaaDoor
open Go.RowKit
set_option linter.unusedVariables false
set_option linter.unusedSimpArgs false
namespace FallW
open BlkP RowG FrS PushG CellsW NearW
open FallP hiding Cl
theorem lead_take (p : Cl → Bool) : ∀ (l : List Cl) (m : Nat), lead p (l.take m) = min (lead p l) m
  | [], m => by simp [lead]
  | x :: r, 0 => by simp [lead]
  | x :: r, m + 1 => by
    rw [List.take_succ_cons]
    simp only [lead]
    rw [lead_take p r m]
    split <;> omega
/-- A row that is told cell by cell. -/
theorem own_lit {α : Type} {e : Enc α} {E : TypeId} {w : World} {g B n : Nat} {l : List α} (h : Blk w g E (flat e l)) (hB : B ≤ g) (hn : l.length = n) (hm : n ≤ 1000000) : RowG.Own e E w B (.slice (some ⟨g, 0, none⟩) n n) l := by
  subst hn
  have hm2 : maxLen = 9223372036854775807 := rfl
  unfold RowG.Own
  exact ⟨flat_len l, .inr ⟨g, l.length, (flat e l).toArray, rfl, hB, h, Nat.le_refl _, by omega, by simp [flat_len], List.take_of_length_le (by simp [flat_len])⟩⟩
/-- P13.1: the changes. -/
def nextD (n : Nr) : List (Nat × Cl) := if falls n.s && yields (n.sd 5) then [(6, n.s), (0, (0, 0))] else []
set_option maxRecDepth 100000 in
set_option maxHeartbeats 8000000 in
theorem Next_c {w : World} {n : Nr} (hT : KindW.Tab w) : Calls Tryd.prog 20 #[nv n] w (DeedP w (nextD n)) := by
  have HT := Lib.hid hT
  clear hT
  obtain ⟨⟨k0, l0⟩, hs0⟩ : ∃ c, n.s = c := ⟨_, rfl⟩
  obtain ⟨⟨k5, l5⟩, hs5⟩ : ∃ c, n.sd 5 = c := ⟨_, rfl⟩
  have HS0 := Lib.hid hs0
  have HS5 := Lib.hid hs5
  obtain ⟨f, hf⟩ : ∃ f, falls (k0, l0) = f := ⟨_, rfl⟩
  obtain ⟨y, hy⟩ : ∃ y, yields (k5, l5) = y := ⟨_, rfl⟩
  have HF := Lib.hid hf
  have HY := Lib.hid hy
  have HD := Lib.hid (show nextD n = if f && y then [(6, (k0, l0)), (0, (0, 0))] else [] from by
    unfold nextD
    rw [hs0, hs5, hf, hy])
  clear hs0 hs5 hf hy
  go_enter Tryd.func20, Tryd.ntmps20
  go_wp2_with ((with_reducible refine at_slot 1 ?_); refine Classical.byContradiction (fun hG => ?_))
  refine hG ?_
  clear hG
  refine wp_boxN rfl (.tmp 0) rfl rfl ?_
  intro w1 h1 hb1 hz1
  obtain ⟨s, hs⟩ : ∃ s, w.heap.size = s := ⟨_, rfl⟩
  rw [hs] at h1 hz1
  rw [hs]
  have HB1 := Lib.hid hb1
  have H1 := Lib.hid h1
  have HS := Lib.hid hs
  have hs1 : s < w1.heap.size := h1.lt
  clear h1 hb1 hs
  go_wp2_with ((with_reducible refine at_slot 3 ?_); refine Classical.byContradiction (fun hG => ?_))
  refine hG ?_
  clear hG
  refine list_named (S := fun W => Below w.heap.size w W ∧ Blk W s TN (vals n) ∧ Blk W (s + 1) TD [.slice none 0 0, .int .i64 0, .int .i64 0]) ⟨by have zz := HB1.out.size; (repeat' (first | (with_reducible exact Below.refl _ _) | (with_reducible refine Below.setCell ?_ (by (first | omega | (simp; done) | (simp; omega))) _) | (with_reducible refine Below.alloc ?_ (by (first | omega | (simp; done) | (simp; omega))) _) | (with_reducible refine Below.drew ?_) | (with_reducible refine below_drewN ?_ _) | (with_reducible refine Below.trans ?_ (Below.mono HB1.out (by (first | omega | (simp; done) | (simp; omega))))))), by (repeat' (first | (with_reducible exact H1.out) | (with_reducible refine BlkP.Blk.drew ?_) | (with_reducible refine BlkP.Blk.drewN ?_ _) | (with_reducible refine BlkP.Blk.setAt (us := ?_) (by first | omega | (simp; done) | (simp; omega)) rfl ?_ ?_) | (with_reducible refine BlkP.Blk.otherAt ?_ (by first | omega | (simp; done) | (simp; omega))) | (with_reducible refine BlkP.Blk.newA' (by first | omega | (simp; done) | (simp; omega)) rfl) | (with_reducible refine BlkP.Blk.alloc ?_ _) | (exact rfl))), by (repeat' (first | (with_reducible refine BlkP.Blk.drew ?_) | (with_reducible refine BlkP.Blk.drewN ?_ _) | (with_reducible refine BlkP.Blk.setAt (us := ?_) (by first | omega | (simp; done) | (simp; omega)) rfl ?_ ?_) | (with_reducible refine BlkP.Blk.otherAt ?_ (by first | omega | (simp; done) | (simp; omega))) | (with_reducible refine BlkP.Blk.newA' (by first | omega | (simp; done) | (simp; omega)) rfl) | (with_reducible refine BlkP.Blk.alloc ?_ _) | (exact rfl)))⟩ ?_
  rintro w2 ⟨hb2, h2, hr2⟩
  try rw [hz1]
  have HB2 := Lib.hid hb2
  have H2 := Lib.hid h2
  have HR2 := Lib.hid hr2
  have c0 := h2.cell (i := 0) (g_kind n)
  have c1 := h2.cell (i := 1) (g_lev n)
  rw [HS0.out] at c0 c1
  clear hb2 h2 hr2 hs1 hz1
  go_wp2_with fail
  refine (falls_c (HT.out.below HB2.out) HF.out).mono ?_
  rintro e w3 ⟨rfl, hb3⟩
  have HB3 := Lib.hid (below_t HB2.out hb3)
  have H3 := Lib.hid (H2.out.below hb3)
  have HR3 := Lib.hid (HR2.out.below hb3)
  clear hb3 c0 c1
  cases f with
  | false =>
    have HE := Lib.hid (show nextD n = [] from by rw [HD.out]; rfl)
    have r0 := HR3.out.cell (i := 0) rfl
    have r1 := HR3.out.cell (i := 1) rfl
    have r2 := HR3.out.cell (i := 2) rfl
    have z0 := HR3.out.frozen 0
    have z1 := HR3.out.frozen 1
    have z2 := HR3.out.frozen 2
    have rl := HR3.out.lt
    go_wp2_with fail
    refine bodyPost_ret (v := .agg #[.slice none 0 0, .int .i64 0, .int .i64 0]) (by simp [results, Tryd.results20, go_sem, rl, r0, r1, r2]) rfl ?_
    refine ⟨_, rfl, ?_, ?_⟩
    · rw [HE.out]
      exact Own.nil _ _ _ _
    · have := HS.out
      exact ((HB3.out.setCell (by simp; omega) _).setCell (by simp; omega) _).setCell (by simp; omega) _
  | true =>
    have c0 := H3.out.cell (g_sk n (d := 5) (by omega))
    have c1 := H3.out.cell (g_sl n (d := 5) (by omega))
    rw [HS5.out] at c0 c1
    simp only at c0 c1
    have hs3 : s < w3.heap.size := H3.out.lt
    go_wp2_with fail
    refine (yields_c (HT.out.below HB3.out) HY.out).mono ?_
    rintro e w4 ⟨rfl, hb4⟩
    have HB4 := Lib.hid (below_t HB3.out hb4)
    have H4 := Lib.hid (H3.out.below hb4)
    have HR4 := Lib.hid (HR3.out.below hb4)
    clear hb4 c0 c1 hs3
    cases y with
    | false =>
      have HE := Lib.hid (show nextD n = [] from by rw [HD.out]; rfl)
      have r0 := HR4.out.cell (i := 0) rfl
      have r1 := HR4.out.cell (i := 1) rfl
      have r2 := HR4.out.cell (i := 2) rfl
      have z0 := HR4.out.frozen 0
      have z1 := HR4.out.frozen 1
      have z2 := HR4.out.frozen 2
      have rl := HR4.out.lt
      go_wp2_with fail
      refine bodyPost_ret (v := .agg #[.slice none 0 0, .int .i64 0, .int .i64 0]) (by simp [results, Tryd.results20, go_sem, rl, r0, r1, r2]) rfl ?_
      refine ⟨_, rfl, ?_, ?_⟩
      · rw [HE.out]
        exact Own.nil _ _ _ _
      · have := HS.out
        exact ((HB4.out.setCell (by simp; omega) _).setCell (by simp; omega) _).setCell (by simp; omega) _
    | true =>
      have HE := Lib.hid (show nextD n = [(6, (k0, l0)), (0, (0, 0))] from by rw [HD.out]; rfl)
      have c0 := H4.out.cell (i := 0) (g_kind n)
      have c1 := H4.out.cell (i := 1) (g_lev n)
      rw [HS0.out] at c0 c1
      have hs4 : s < w4.heap.size := H4.out.lt
      obtain ⟨g, hg⟩ : ∃ g, w4.heap.size = g := ⟨_, rfl⟩
      go_wp2_with fail
      refine calls_named (S := fun W => Below w.heap.size w W ∧ Blk W (s + 1) TD [.slice none 0 0, .int .i64 0, .int .i64 0] ∧ Blk W g TX [.int .i64 6, .int .u8 (k0 : Int), .int .u8 (l0 : Int), .int .i64 0, .int .u8 0, .int .u8 0]) ⟨by have zz := HB4.out.size; (repeat' (first | (with_reducible exact Below.refl _ _) | (with_reducible refine Below.setCell ?_ (by (first | omega | (simp; done) | (simp; omega))) _) | (with_reducible refine Below.alloc ?_ (by (first | omega | (simp; done) | (simp; omega))) _) | (with_reducible refine Below.drew ?_) | (with_reducible refine below_drewN ?_ _) | (with_reducible refine Below.trans ?_ (Below.mono HB4.out (by (first | omega | (simp; done) | (simp; omega))))))), by (repeat' (first | (with_reducible exact HR4.out) | (with_reducible refine BlkP.Blk.drew ?_) | (with_reducible refine BlkP.Blk.drewN ?_ _) | (with_reducible refine BlkP.Blk.setAt (us := ?_) (by first | omega | (simp; done) | (simp; omega)) rfl ?_ ?_) | (with_reducible refine BlkP.Blk.otherAt ?_ (by first | omega | (simp; done) | (simp; omega))) | (with_reducible refine BlkP.Blk.newA' (by first | omega | (simp; done) | (simp; omega)) rfl) | (with_reducible refine BlkP.Blk.alloc ?_ _) | (exact rfl))), by subst hg; (repeat' (first | (with_reducible refine BlkP.Blk.drew ?_) | (with_reducible refine BlkP.Blk.drewN ?_ _) | (with_reducible refine BlkP.Blk.setAt (us := ?_) (by first | omega | (simp; done) | (simp; omega)) rfl ?_ ?_) | (with_reducible refine BlkP.Blk.otherAt ?_ (by first | omega | (simp; done) | (simp; omega))) | (with_reducible refine BlkP.Blk.newA' (by first | omega | (simp; done) | (simp; omega)) rfl) | (with_reducible refine BlkP.Blk.alloc ?_ _) | (exact rfl)))⟩ ?_
      rintro w5 ⟨hb5, hr5, hx5⟩
      try rw [hg]
      refine deed_c.mono ?_
      rintro e w6 ⟨rfl, hb6⟩
      have HB6 := Lib.hid (below_t hb5 hb6)
      have HR6 := Lib.hid (hr5.below hb6)
      have HX6 := Lib.hid (hx5.below hb6)
      have r0 := HR6.out.cell (i := 0) rfl
      have r1 := HR6.out.cell (i := 1) rfl
      have r2 := HR6.out.cell (i := 2) rfl
      have z0 := HR6.out.frozen 0
      have z1 := HR6.out.frozen 1
      have z2 := HR6.out.frozen 2
      have rl := HR6.out.lt
      have HG := Lib.hid (show w.heap.size ≤ g ∧ s < g from ⟨by rw [← hg]; exact HB4.out.size, by omega⟩)
      clear hb5 hr5 hx5 hb6 c0 c1 hs4 hg
      go_wp2_with fail
      refine bodyPost_ret (v := .agg #[.slice (some ⟨g, 0, none⟩) 2 2, .int .i64 0, .int .i64 0]) (by simp [results, Tryd.results20, go_sem, rl, r0, r1, r2]) rfl ?_
      refine ⟨_, rfl, ?_, ?_⟩
      · rw [HE.out]
        exact own_set3 (own_lit (e := encX) (l := [(6, (k0, l0)), (0, (0, 0))]) HX6.out HG.out.1 rfl (by omega)) HR6.out
      · have := HS.out
        exact ((HB6.out.setCell (by simp; omega) _).setCell (by simp; omega) _).setCell (by simp; omega) _
end FallW
end Go.Proofs.YtlahkmkipciiiaaDoor
