/-
  The reference: put, Next.
-/
import Derived.Test.YtlahkmkipciiiaaDoorFlowRef
namespace Go.Proofs.YtlahkmkipciiiaaDoor
open Go.RowKit
set_option linter.unusedVariables false
set_option linter.unusedSimpArgs false
namespace FlowW
open BlkP RowG FrS PushG FlowP
/-- A deed with a change more. -/
def PutP (w : World) (B : Nat) (v : Value) (l : List (Nat × Cl)) (e : Ending) (w' : World) : Prop := ∃ v', e = .returned (.agg #[v', .int .i64 0, .int .i64 0]) ∧ RowG.Own encX TX w' B v' l ∧ Fr (fun k => v.ownBlock = some k) w w'
set_option maxRecDepth 100000 in
set_option maxHeartbeats 16000000 in
theorem rput_c {w : World} {B n : Nat} {A : Option Addr} {c d k m : Nat} {l : List (Nat × Cl)} (h : RowG.Own encX TX w B (.slice A n c) l) (hn : l.length = n) (hl : n ≤ 100) (hB : B ≤ w.heap.size) :
    Calls Tryd.prog 56 #[.agg #[.slice A n c, .int .i64 0, .int .i64 0], .int .i64 (d : Int), .agg #[.int .u8 (k : Int), .int .u8 (m : Int)]] w (PutP w B (.slice A n c) (l ++ [(d, (k, m))])) := by
  have H := Lib.hid h
  have HB := Lib.hid hB
  have HN := Lib.hid hn
  have HL := Lib.hid hl
  clear h hn hl hB
  go_enter Tryd.func56, Tryd.ntmps56
  obtain ⟨s, hs⟩ : ∃ s, w.heap.size = s := ⟨_, rfl⟩
  go_wp2_with ((with_reducible refine at_slot 7 ?_); refine Classical.byContradiction (fun hG => ?_))
  refine hG ?_
  clear hG
  refine list_named (S := fun W => Below w.heap.size w W ∧ Blk W s TD [.slice A n c, .int .i64 0, .int .i64 0] ∧ Blk W (s + 1) TC [.int .u8 (k : Int), .int .u8 (m : Int)] ∧ Blk W (s + 2) TD [.slice none 0 0, .int .i64 0, .int .i64 0] ∧ W.heap.size = s + 3) ⟨by (repeat' (first | (with_reducible exact Below.refl _ _) | (with_reducible refine Below.setCell ?_ (by (first | omega | (simp; done) | (simp; omega))) _) | (with_reducible refine Below.alloc ?_ (by (first | omega | (simp; done) | (simp; omega))) _) | (with_reducible refine Below.drew ?_) | (with_reducible refine below_drewN ?_ _))), by subst hs; (repeat' (first | (with_reducible refine BlkP.Blk.drew ?_) | (with_reducible refine BlkP.Blk.drewN ?_ _) | (with_reducible refine BlkP.Blk.setAt (us := ?_) (by first | omega | (simp; done) | (simp; omega)) rfl ?_ ?_) | (with_reducible refine BlkP.Blk.otherAt ?_ (by first | omega | (simp; done) | (simp; omega))) | (with_reducible refine BlkP.Blk.newA' (by first | omega | (simp; done) | (simp; omega)) rfl) | (with_reducible refine BlkP.Blk.alloc ?_ _) | (exact rfl))), by subst hs; (repeat' (first | (with_reducible refine BlkP.Blk.drew ?_) | (with_reducible refine BlkP.Blk.drewN ?_ _) | (with_reducible refine BlkP.Blk.setAt (us := ?_) (by first | omega | (simp; done) | (simp; omega)) rfl ?_ ?_) | (with_reducible refine BlkP.Blk.otherAt ?_ (by first | omega | (simp; done) | (simp; omega))) | (with_reducible refine BlkP.Blk.newA' (by first | omega | (simp; done) | (simp; omega)) rfl) | (with_reducible refine BlkP.Blk.alloc ?_ _) | (exact rfl))), by subst hs; (repeat' (first | (with_reducible refine BlkP.Blk.drew ?_) | (with_reducible refine BlkP.Blk.drewN ?_ _) | (with_reducible refine BlkP.Blk.setAt (us := ?_) (by first | omega | (simp; done) | (simp; omega)) rfl ?_ ?_) | (with_reducible refine BlkP.Blk.otherAt ?_ (by first | omega | (simp; done) | (simp; omega))) | (with_reducible refine BlkP.Blk.newA' (by first | omega | (simp; done) | (simp; omega)) rfl) | (with_reducible refine BlkP.Blk.alloc ?_ _) | (exact rfl))), by simp; omega⟩ ?_
  rintro w1 ⟨hb1, hd1, hc1, hr1, hz1⟩
  try rw [hs]
  have HB1 := Lib.hid hb1
  have HD1 := Lib.hid hd1
  have HR1 := Lib.hid hr1
  have HS := Lib.hid hs
  have HZ1 := Lib.hid hz1
  have a0 := hd1.cell (i := 0) rfl
  have b0 := hc1.cell (i := 0) rfl
  have b1 := hc1.cell (i := 1) rfl
  clear hb1 hd1 hc1 hr1 hs hz1
  go_wp2_with ((with_reducible refine at_slot 13 ?_); refine Classical.byContradiction (fun hG => ?_))
  refine hG ?_
  clear hG
  refine wp_pushX (w0 := w1) (y := (d, (k, m))) rfl (.tmp 8) (.tmp 12) rfl rfl rfl (H.out.below HB1.out) rfl rfl HN.out (by have := HL.out; omega) (by have h1 := HB.out; have h2 := HB1.out.size; omega) ?_
  intro g c2 w2 hpu
  have HD2 := Lib.hid (show Blk w2 s TD [.slice A n c, .int .i64 0, .int .i64 0] from HD1.out.grown hpu.2.1 (fun e => own_ne (H.out.below HB1.out) HD1.out (by decide) e.symm))
  have HR2 := Lib.hid (show Blk w2 (s + 2) TD [.slice none 0 0, .int .i64 0, .int .i64 0] from HR1.out.grown hpu.2.1 (fun e => own_ne (H.out.below HB1.out) HR1.out (by decide) e.symm))
  have HPU := Lib.hid hpu
  have f0 := HD2.out.frozen 0
  have e0 := HD2.out.cell (i := 0) rfl
  have e1 := HD2.out.cell (i := 1) rfl
  have e2 := HD2.out.cell (i := 2) rfl
  have r0 := HR2.out.cell (i := 0) rfl
  have r1 := HR2.out.cell (i := 1) rfl
  have r2 := HR2.out.cell (i := 2) rfl
  have z0 := HR2.out.frozen 0
  have z1 := HR2.out.frozen 1
  have z2 := HR2.out.frozen 2
  have rl := HR2.out.lt
  have rl2 := HD2.out.lt
  clear hpu a0 b0 b1
  go_wp2_with fail
  refine bodyPost_ret (v := .agg #[.slice (some ⟨g, 0, none⟩) (n + 1) c2, .int .i64 0, .int .i64 0]) (by simp [results, Tryd.results56, go_sem, rl, r0, r1, r2]) rfl ?_
  refine ⟨_, rfl, own_set3 (own_setD HPU.out.1 HD2.out) (HR2.out.other (by simp) _), ?_⟩
  have h1 : Fr (fun k => (Value.slice A n c).ownBlock = some k) w w1 := Fr.below _ HB1.out
  have h2 : Fr (fun k => (Value.slice A n c).ownBlock = some k) w w2 := h1.trans (Fr.grown (S := fun k => (Value.slice A n c).ownBlock = some k) HPU.out.2.1 (fun i hi => hi)) (fun i hi => .inl hi)
  have hS := HS.out
  exact (((h2.trans (Fr.set (fun k => k = s) _ ⟨s, 0, none⟩ _ rfl) (fun i hi => .inr (by omega))).trans (Fr.set (fun k => k = s + 2) _ ⟨s + 2, 0, none⟩ _ rfl) (fun i hi => .inr (by omega))).trans (Fr.set (fun k => k = s + 2) _ ⟨s + 2, 1, none⟩ _ rfl) (fun i hi => .inr (by omega))).trans (Fr.set (fun k => k = s + 2) _ ⟨s + 2, 2, none⟩ _ rfl) (fun i hi => .inr (by omega))
end FlowW
end Go.Proofs.YtlahkmkipciiiaaDoor
