/-
  BurnDark: a plant without light enough is as it was, or gone; one over something else than soil is gone.
-/
import Derived.Test.YtlidcefmpoelkaaDoorBurnLaw1
namespace Go.Proofs.YtlidcefmpoelkaaDoor
open Go.RowKit
set_option linter.unusedVariables false
set_option linter.unusedSimpArgs false
namespace BurnW
open BlkP RowG FrS PushG CellsW NearW BurnP
theorem kd12 {l : Nat} (hl : l ≤ 3) : kd (12, l) = 12 := by
  have : ∀ l, l ≤ 3 → kd (12, l) = 12 := by decide
  exact this l hl
theorem soil_iff (c : Cl) : kd c = 3 ↔ c = (3, 0) := by
  constructor
  · intro h
    have h1 := kd_of (c := c) (by omega)
    have h2 := may_of (c := c) (by omega)
    rw [h] at h1
    rw [h1] at h2
    have h3 : c.2 = 0 := by
      simp [KindP.may, KindP.most, KindP.mosts] at h2
      omega
    exact Prod.ext h1 h3
  · rintro rfl
    rfl
theorem plant_gone {n : Nr} {l d : Nat} (hl : l ≤ 3) (h : n.sd 5 ≠ (3, 0)) : plant {n with s := (12, l)} d = ⟨[(0, (0, 0))], 0, 0⟩ := by
  unfold plant
  rw [if_pos (kd12 hl), if_neg (fun q => h ((soil_iff _).1 q))]
theorem plant_waits {n : Nr} {l d : Nat} (hl : l ≤ 3) (h : n.sd 5 = (3, 0)) (h9 : n.lt < 9 ∨ d % 4 ≠ 0) : plant {n with s := (12, l)} d = ⟨[], 5, 0⟩ := by
  unfold plant
  rw [if_pos (kd12 hl), if_pos ((soil_iff _).2 h), if_pos h9]
set_option maxRecDepth 100000 in
set_option maxHeartbeats 32000000 in
theorem law_dark {w : World} (hT : KindW.Tab w) (n : Nr) {d : Nat} (hd : n.dr = (d : Int)) (hd2 : d ≤ 18446744073709551615) (st : Nat) : Calls Tryd.prog 9 #[nv n, .int .u8 (st : Int)] w fun e w' => e = .returned (.bool true) ∧ Below w.heap.size w w' := by
  have HT := Lib.hid hT
  have HDR := Lib.hid hd
  obtain ⟨s, hs⟩ : ∃ s, w.heap.size = s := ⟨_, rfl⟩
  have HS := Lib.hid hs
  obtain ⟨l, hl⟩ : ∃ l, st % 4 = l := ⟨_, rfl⟩
  have HL := Lib.hid (show (st : Int) % 4 = (l : Int) by omega)
  have HL3 := Lib.hid (show l ≤ 3 by omega)
  obtain ⟨⟨k5, l5⟩, hs5⟩ : ∃ c, n.sd 5 = c := ⟨_, rfl⟩
  have HS5 := Lib.hid hs5
  obtain ⟨lt, hlt⟩ : ∃ c, n.lt = c := ⟨_, rfl⟩
  have HLT := Lib.hid hlt
  obtain ⟨⟨L, ag, dl⟩, hD⟩ : ∃ D, plant {n with s := (12, l)} d = D := ⟨_, rfl⟩
  have HD := Lib.hid hD
  obtain ⟨k, hk⟩ : ∃ k, L.length = k := ⟨_, rfl⟩
  have HK := Lib.hid hk
  clear hT hd hl hs5 hlt hD hk
  go_enter Tryd.func9, Tryd.ntmps9
  go_wp2_with ((with_reducible refine at_slot 2 ?_); refine Classical.byContradiction (fun hG => ?_))
  refine hG ?_
  clear hG
  refine wp_boxN rfl (.tmp 0) rfl rfl ?_
  intro w1 h1 hb1 hz1
  rw [hs] at h1 hz1
  try rw [hs]
  have HB1 := Lib.hid hb1
  have H1 := Lib.hid h1
  have c0 := h1.cell (i := 0) (g_kind n)
  have c1 := h1.cell (i := 1) (g_lev n)
  have f0 := h1.frozen 0
  have f1 := h1.frozen 1
  have ls := h1.lt
  clear h1 hb1 hz1
  go_wp2_with ((with_reducible refine at_slot 10 ?_); refine Classical.byContradiction (fun hG => ?_))
  refine hG ?_
  clear hG
  try rw [HL.out]
  refine list_named (S := fun W => Below w.heap.size w W ∧ Blk W s TN (vals {n with s := (12, l)})) ⟨by have := HS.out; (repeat' (first | (with_reducible exact Below.refl _ _) | (with_reducible refine Below.setCell ?_ (by (first | omega | (simp; done) | (simp; omega))) _) | (with_reducible refine Below.alloc ?_ (by (first | omega | (simp; done) | (simp; omega))) _) | (with_reducible refine Below.drew ?_) | (with_reducible refine below_drewN ?_ _) | (with_reducible refine Below.trans ?_ (Below.mono HB1.out (by (first | omega | (simp; done) | (simp; omega))))))), by (repeat' (first | (with_reducible exact H1.out) | (with_reducible refine BlkP.Blk.drew ?_) | (with_reducible refine BlkP.Blk.drewN ?_ _) | (with_reducible refine BlkP.Blk.setAt (us := ?_) (by first | omega | (simp; done) | (simp; omega)) rfl ?_ ?_) | (with_reducible refine BlkP.Blk.otherAt ?_ (by first | omega | (simp; done) | (simp; omega))) | (with_reducible refine BlkP.Blk.newA' (by first | omega | (simp; done) | (simp; omega)) rfl) | (with_reducible refine BlkP.Blk.alloc ?_ _) | (exact rfl)))⟩ ?_
  clear c0 c1 f0 f1 ls
  rintro w2 ⟨hb2, h2⟩
  have HB2 := Lib.hid hb2
  have H2 := Lib.hid h2
  clear hb2 h2
  refine wp_loadN rfl (.tmp 2) rfl rfl (n := {n with s := (12, l)}) H2.out ?_
  go_wp2_with fail
  refine (Plant_d (n := {n with s := (12, l)}) (HT.out.below HB2.out) HDR.out hd2 HD.out).mono ?_
  rintro e w4 ⟨v, rfl, ho, hb4⟩
  obtain ⟨A1, cap, rfl, _, _, hAA⟩ := ho.form (n := k) HK.out
  have HAA := Lib.hid hAA
  have HB4 := Lib.hid (below_t HB2.out hb4)
  have H4 := Lib.hid (H2.out.below hb4)
  have HO4 := Lib.hid ho
  have hz4 := HB4.out.size
  clear hb4 ho hAA
  go_wp2_with ((with_reducible refine at_slot 12 ?_); refine Classical.byContradiction (fun hG => ?_))
  refine hG ?_
  clear hG
  refine list_named (S := fun W => Below w.heap.size w W ∧ Blk W s TN (vals {n with s := (12, l)}) ∧ RowG.Own encX TX W w2.heap.size (.slice A1 k cap) L ∧ ∃ a, a = w4.heap.size ∧ Blk W a TD [.slice A1 k cap, .int .i64 ag, .int .i64 dl]) ⟨by have := HS.out; (repeat' (first | (with_reducible exact Below.refl _ _) | (with_reducible refine Below.setCell ?_ (by (first | omega | (simp; done) | (simp; omega))) _) | (with_reducible refine Below.alloc ?_ (by (first | omega | (simp; done) | (simp; omega))) _) | (with_reducible refine Below.drew ?_) | (with_reducible refine below_drewN ?_ _) | (with_reducible refine Below.trans ?_ (Below.mono HB4.out (by (first | omega | (simp; done) | (simp; omega))))))), by (repeat' (first | (with_reducible exact H4.out) | (with_reducible refine BlkP.Blk.drew ?_) | (with_reducible refine BlkP.Blk.drewN ?_ _) | (with_reducible refine BlkP.Blk.setAt (us := ?_) (by first | omega | (simp; done) | (simp; omega)) rfl ?_ ?_) | (with_reducible refine BlkP.Blk.otherAt ?_ (by first | omega | (simp; done) | (simp; omega))) | (with_reducible refine BlkP.Blk.newA' (by first | omega | (simp; done) | (simp; omega)) rfl) | (with_reducible refine BlkP.Blk.alloc ?_ _) | (exact rfl))), HO4.out.below (by (repeat' (first | (with_reducible exact Below.refl _ _) | (with_reducible refine Below.setCell ?_ (by (first | omega | (simp; done) | (simp; omega))) _) | (with_reducible refine Below.alloc ?_ (by (first | omega | (simp; done) | (simp; omega))) _) | (with_reducible refine Below.drew ?_) | (with_reducible refine below_drewN ?_ _)))), w4.heap.size, rfl, by (repeat' (first | (with_reducible refine BlkP.Blk.drew ?_) | (with_reducible refine BlkP.Blk.drewN ?_ _) | (with_reducible refine BlkP.Blk.setAt (us := ?_) (by first | omega | (simp; done) | (simp; omega)) rfl ?_ ?_) | (with_reducible refine BlkP.Blk.otherAt ?_ (by first | omega | (simp; done) | (simp; omega))) | (with_reducible refine BlkP.Blk.newA' (by first | omega | (simp; done) | (simp; omega)) rfl) | (with_reducible refine BlkP.Blk.alloc ?_ _) | (exact rfl)))⟩ ?_
  rintro w5 ⟨hb5, h5, ho5, a, ha, ha5⟩
  try rw [← ha]
  have HB5 := Lib.hid hb5
  have HO5 := Lib.hid ho5
  have a0 := ha5.cell (i := 0) rfl
  have a1 := ha5.cell (i := 1) rfl
  have la := ha5.lt
  have e0 := h5.cell (g_sk {n with s := (12, l)} (d := 5) (by omega))
  have e1 := h5.cell (g_sl {n with s := (12, l)} (d := 5) (by omega))
  rw [show ({n with s := (12, l)} : Nr).sd 5 = (k5, l5) from HS5.out] at e0 e1
  simp only at e0 e1
  have e22 : w5.cell? ⟨s, 22, none⟩ = some (.int .u8 (lt : Int)) := by
    have q := h5.cell (i := 22) (v := .int .u8 (n.lt : Int)) rfl
    rw [HLT.out] at q
    exact q
  have ls := h5.lt
  clear hb5 h5 ho5 ha ha5 hz4
  by_cases hso : (k5, l5) = ((3, 0) : Cl)
  · obtain ⟨rfl, rfl⟩ := Prod.mk.inj hso
    by_cases h9 : lt < 9
    · have h9I : (lt : Int) < 9 := by omega
      have hq := HD.out
      rw [plant_waits HL3.out HS5.out (.inl (by rw [HLT.out]; exact h9))] at hq
      obtain ⟨rfl, rfl, rfl⟩ := Dd.mk.inj hq
      obtain rfl : 0 = k := HK.out
      clear h9 hq hso
      go_wp2_with fail
      refine (works_c (HT.out.below HB5.out)).mono ?_
      rintro e w8 ⟨rfl, hb8⟩
      have HB8 := Lib.hid (below_t HB5.out hb8)
      clear hb8
      go_wp2_with fail
      go_ret
      exact ⟨by first | rfl | simp, HS.out ▸ HB8.out⟩
    · have h9I : ¬ (lt : Int) < 9 := by omega
      clear h9 hso
      go_wp2_with fail
      refine (works_c (HT.out.below HB5.out)).mono ?_
      rintro e w8 ⟨rfl, hb8⟩
      have HB8 := Lib.hid (below_t HB5.out hb8)
      clear hb8
      go_wp2_with fail
      go_ret
      exact ⟨by first | rfl | simp, HS.out ▸ HB8.out⟩
  · have hq := HD.out
    rw [plant_gone HL3.out (by rw [HS5.out]; exact hso)] at hq
    obtain ⟨rfl, rfl, rfl⟩ := Dd.mk.inj hq
    obtain rfl : 1 = k := HK.out
    obtain ⟨g, rfl, hg1, hg2⟩ := HAA.out (by omega)
    have p0 : w5.cell? ⟨g, 0, none⟩ = some (.int .i64 0) := HO5.out.cell (i := 0) (j := 0) rfl rfl
    have p1 : w5.cell? ⟨g, 1, none⟩ = some (.int .u8 0) := HO5.out.cell (i := 0) (j := 1) rfl rfl
    have p2 : w5.cell? ⟨g, 2, none⟩ = some (.int .u8 0) := HO5.out.cell (i := 0) (j := 2) rfl rfl
    clear hq hg1 hg2
    by_cases hk3 : k5 = 3
    · have hl0 : ((l5 : Int) == 0) = false := by
        have : l5 ≠ 0 := fun q => hso (by rw [hk3, q])
        simp
        omega
      subst hk3
      clear hso
      go_wp2_with fail
      refine (works_c (HT.out.below HB5.out)).mono ?_
      rintro e w8 ⟨rfl, hb8⟩
      have HB8 := Lib.hid (below_t HB5.out hb8)
      clear hb8
      go_wp2_with fail
      go_ret
      exact ⟨by first | rfl | simp, HS.out ▸ HB8.out⟩
    · have hk0 : ((k5 : Int) == 3) = false := by simp; omega
      clear hso hk3
      go_wp2_with fail
      refine (works_c (HT.out.below HB5.out)).mono ?_
      rintro e w8 ⟨rfl, hb8⟩
      have HB8 := Lib.hid (below_t HB5.out hb8)
      clear hb8
      go_wp2_with fail
      go_ret
      exact ⟨by first | rfl | simp, HS.out ▸ HB8.out⟩
end BurnW
end Go.Proofs.YtlidcefmpoelkaaDoor
