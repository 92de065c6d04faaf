/-
  FlowGoes: what water does is what the document says.
-/
import Derived.Test.YtjdoglihebfamaaDoorFlowRef3
namespace Go.Proofs.YtjdoglihebfamaaDoor
open Go.RowKit
set_option linter.unusedVariables false
set_option linter.unusedSimpArgs false
namespace FlowW
open BlkP RowG FrS PushG FlowP
set_option maxRecDepth 100000 in
set_option maxHeartbeats 16000000 in
theorem law_goes {w : World} (hT : KindW.Tab w) (n : Nr) : Calls Tryd.prog 4 #[nv n] w fun e w' => e = .returned (.bool true) ∧ Below w.heap.size w w' := by
  have HT := Lib.hid hT
  clear hT
  obtain ⟨l, hl⟩ : ∃ l, deed n = l := ⟨_, rfl⟩
  have HL := Lib.hid hl
  obtain ⟨k, hk⟩ : ∃ k, l.length = k := ⟨_, rfl⟩
  have HK := Lib.hid hk
  have HK4 := Lib.hid (show k ≤ 100 from by
    have q := deed_len (snd n)
    rw [show deedS (snd n) = l from hl, hk] at q
    omega)
  clear hl hk
  go_enter Tryd.func4, Tryd.ntmps4
  go_wp2_with ((with_reducible refine at_slot 1 ?_); refine Classical.byContradiction (fun hG => ?_))
  refine hG ?_
  clear hG
  refine wp_boxN rfl (.tmp 0) rfl rfl ?_
  intro w1 h1 hb1 hz1
  have HB1 := Lib.hid hb1
  have H1 := Lib.hid h1
  clear h1 hb1 hz1
  go_wp2_with ((with_reducible refine at_slot 5 ?_); refine Classical.byContradiction (fun hG => ?_))
  refine hG ?_
  clear hG
  refine wp_loadN rfl (.tmp 1) rfl rfl (n := n) H1.out ?_
  go_wp2_with fail
  refine (Next_c (HT.out.below HB1.out)).mono ?_
  rintro e w3 ⟨v, rfl, ho, hb3⟩
  rw [HL.out] at ho
  obtain ⟨A, c, rfl, _, _, _⟩ := ho.form HK.out
  have HB3 := Lib.hid (below_t HB1.out hb3)
  have H3 := Lib.hid (H1.out.below hb3)
  have HR3 := Lib.hid ho.rd
  have hz3 := HB3.out.size
  clear ho hb3
  go_wp2_with ((with_reducible refine at_slot 7 ?_); refine Classical.byContradiction (fun hG => ?_))
  refine hG ?_
  clear hG
  obtain ⟨D, hD⟩ : ∃ D, w3.heap.size = D := ⟨_, rfl⟩
  refine list_named (S := fun W => Below w3.heap.size w3 W ∧ Blk W D TD [.slice A k c, .int .i64 0, .int .i64 0]) ⟨by (repeat' (first | (with_reducible exact Below.refl _ _) | (with_reducible refine Below.setCell ?_ (by (first | omega | (simp; done) | (simp; omega))) _) | (with_reducible refine Below.alloc ?_ (by (first | omega | (simp; done) | (simp; omega))) _) | (with_reducible refine Below.drew ?_) | (with_reducible refine below_drewN ?_ _))), by subst hD; (repeat' (first | (with_reducible refine BlkP.Blk.drew ?_) | (with_reducible refine BlkP.Blk.drewN ?_ _) | (with_reducible refine BlkP.Blk.setAt (us := ?_) (by first | omega | (simp; done) | (simp; omega)) rfl ?_ ?_) | (with_reducible refine BlkP.Blk.otherAt ?_ (by first | omega | (simp; done) | (simp; omega))) | (with_reducible refine BlkP.Blk.newA' (by first | omega | (simp; done) | (simp; omega)) rfl) | (with_reducible refine BlkP.Blk.alloc ?_ _) | (exact rfl)))⟩ ?_
  rintro w4 ⟨hb4, hd4⟩
  try rw [hD]
  have HB4 := Lib.hid (below_t HB3.out hb4)
  have H4 := Lib.hid (H3.out.below hb4)
  have HR4 := Lib.hid (HR3.out.below hb4)
  have HD4 := Lib.hid hd4
  clear hb4 hd4 hz3 hD
  refine wp_loadN rfl (.tmp 1) rfl rfl (n := n) H4.out ?_
  go_wp2_with fail
  refine rNext_c.mono ?_
  rintro e w5 ⟨v, rfl, ho, hb5⟩
  rw [HL.out] at ho
  obtain ⟨A2, c2, rfl, _, _, _⟩ := ho.form HK.out
  have HB5 := Lib.hid (below_t HB4.out hb5)
  have HR5 := Lib.hid (HR4.out.below hb5)
  have HD5 := Lib.hid (HD4.out.below hb5)
  have HQ5 := Lib.hid ho.rd
  have hz5 := HB5.out.size
  clear ho hb5
  go_wp2_with ((with_reducible refine at_slot 9 ?_); refine Classical.byContradiction (fun hG => ?_))
  refine hG ?_
  clear hG
  obtain ⟨D2, hD2⟩ : ∃ D2, w5.heap.size = D2 := ⟨_, rfl⟩
  refine list_named (S := fun W => Below w5.heap.size w5 W ∧ Blk W D2 TD [.slice A2 k c2, .int .i64 0, .int .i64 0]) ⟨by (repeat' (first | (with_reducible exact Below.refl _ _) | (with_reducible refine Below.setCell ?_ (by (first | omega | (simp; done) | (simp; omega))) _) | (with_reducible refine Below.alloc ?_ (by (first | omega | (simp; done) | (simp; omega))) _) | (with_reducible refine Below.drew ?_) | (with_reducible refine below_drewN ?_ _))), by subst hD2; (repeat' (first | (with_reducible refine BlkP.Blk.drew ?_) | (with_reducible refine BlkP.Blk.drewN ?_ _) | (with_reducible refine BlkP.Blk.setAt (us := ?_) (by first | omega | (simp; done) | (simp; omega)) rfl ?_ ?_) | (with_reducible refine BlkP.Blk.otherAt ?_ (by first | omega | (simp; done) | (simp; omega))) | (with_reducible refine BlkP.Blk.newA' (by first | omega | (simp; done) | (simp; omega)) rfl) | (with_reducible refine BlkP.Blk.alloc ?_ _) | (exact rfl)))⟩ ?_
  rintro w6 ⟨hb6, hd6⟩
  try rw [hD2]
  have HB6 := Lib.hid (below_t HB5.out hb6)
  have HR6 := Lib.hid (HR5.out.below hb6)
  have HQ6 := Lib.hid (HQ5.out.below hb6)
  have hDb := HD5.out.below hb6
  have a0 := hDb.cell (i := 0) rfl
  have a1 := hDb.cell (i := 1) rfl
  have a2 := hDb.cell (i := 2) rfl
  have b0 := hd6.cell (i := 0) rfl
  have b1 := hd6.cell (i := 1) rfl
  have b2 := hd6.cell (i := 2) rfl
  clear hb6 hd6 hz5 hD2 hDb
  go_wp2_with fail
  refine (rsame_c HR6.out HQ6.out HK.out HK4.out).mono ?_
  rintro e x1 ⟨rfl, hbx⟩
  have HX1 := Lib.hid (below_t HB6.out hbx)
  clear hbx a0 a1 a2 b0 b1 b2
  go_wp2_with fail
  refine (works_c (HT.out.below HX1.out)).mono ?_
  rintro e x2 ⟨rfl, hbx⟩
  have HX2 := Lib.hid (below_t HX1.out hbx)
  clear hbx
  go_wp2_with fail
  go_ret
  exact ⟨rfl, HX2.out⟩
end FlowW
end Go.Proofs.YtjdoglihebfamaaDoor
