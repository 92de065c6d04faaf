/-
  BurnGrows: a plant over soil, in the light, is Leaves behind four draws that are multiples of four; other draws do nothing to it.
-/
import Derived.Test.YtlidcefmpoelkaaDoorBurnLaw6
import Derived.Test.YtlidcefmpoelkaaDoorBurnArg
namespace Go.Proofs.YtlidcefmpoelkaaDoor
open Go.RowKit
set_option linter.unusedVariables false
set_option linter.unusedSimpArgs false
namespace BurnW
open BlkP RowG FrS PushG CellsW NearW BurnP
/-- A plant that has grown so often. -/
def stage (g : Nat) : Cl := if g < 4 then (12, g) else (7, 0)
def gN (n : Nr) (g lt : Nat) (x : Int) : Nr := {n with s := stage g, sd := upd n.sd 5 (3, 0), lt := lt, dr := x}
theorem grow_no {n : Nr} {g lt d : Nat} {x : Int} (hg : g < 4) (hd : d % 4 ≠ 0) : plant (gN n g lt x) d = ⟨[], 5, 0⟩ := by
  unfold plant
  have h1 : kd (gN n g lt x).s = 12 := by
    show kd (stage g) = 12
    unfold stage
    rw [if_pos hg]
    exact kd12 (by omega)
  rw [if_pos h1, if_pos (show kd ((gN n g lt x).sd 5) = 3 from rfl), if_pos (.inr hd)]
theorem grow_yes {n : Nr} {g lt d : Nat} {x : Int} (hg : g < 4) (hlt : 9 ≤ lt) (hd : d % 4 = 0) : ∃ dl, plant (gN n g lt x) d = ⟨[(0, stage (g + 1))], 0, dl⟩ := by
  unfold plant
  have hs : (gN n g lt x).s = (12, g) := by
    show stage g = (12, g)
    unfold stage
    rw [if_pos hg]
  have h1 : kd (gN n g lt x).s = 12 := by
    rw [hs]
    exact kd12 (by omega)
  rw [if_pos h1, if_pos (show kd ((gN n g lt x).sd 5) = 3 from rfl), if_neg (by
    show ¬ (lt < 9 ∨ d % 4 ≠ 0)
    omega)]
  by_cases h3 : g < 3
  · rw [if_pos (show (gN n g lt x).s.2 < 3 by rw [hs]; exact h3)]
    refine ⟨0, ?_⟩
    unfold stage
    rw [if_pos (by omega), hs]
  · rw [if_neg (show ¬ (gN n g lt x).s.2 < 3 by rw [hs]; exact h3)]
    refine ⟨1, ?_⟩
    unfold stage
    rw [if_neg (by omega)]
set_option maxRecDepth 100000 in
set_option maxHeartbeats 32000000 in
theorem law_grows {w : World} (hT : KindW.Tab w) (n : Nr) {A : Option Addr} {c : Nat} {xs : List Nat} (hR : Rd encD w (.slice A xs.length c) xs) (hxs : ∀ x ∈ xs, x ≤ 18446744073709551615) : Calls Tryd.prog 10 #[nv n, .slice A xs.length c] w fun e w' => e = .returned (.bool true) ∧ Below w.heap.size w w' := by
  obtain ⟨k, hk⟩ : ∃ k, xs.length = k := ⟨_, rfl⟩
  rw [hk] at hR ⊢
  have HT := Lib.hid hT
  have HR := Lib.hid hR
  have HK := Lib.hid hk
  have HXS := Lib.hid hxs
  obtain ⟨s, hs⟩ : ∃ s, w.heap.size = s := ⟨_, rfl⟩
  have HS := Lib.hid hs
  obtain ⟨lt, hlt⟩ : ∃ c, n.lt = c := ⟨_, rfl⟩
  have HLT := Lib.hid hlt
  obtain ⟨m7, hm7⟩ : ∃ m, lt % 7 = m := ⟨_, rfl⟩
  have HM7 := Lib.hid (show (lt : Int) % 7 = (m7 : Int) by omega)
  obtain ⟨l9, hl9⟩ : ∃ m, 9 + m7 = m := ⟨_, rfl⟩
  have HL9 := Lib.hid (show (9 + (m7 : Int)) = (l9 : Int) by omega)
  have HL99 := Lib.hid (show 9 ≤ l9 by omega)
  have hm8 : (m7 : Int) < 7 := by omega
  have hm0 : (0 : Int) ≤ m7 := by omega
  clear hT hR hk hxs hlt hm7 hl9
  go_enter Tryd.func10, Tryd.ntmps10
  go_wp2_with ((with_reducible refine at_slot 2 ?_); refine Classical.byContradiction (fun hG => ?_))
  refine hG ?_
  clear hG
  refine wp_boxN rfl (.tmp 0) rfl rfl ?_
  intro w1 h1 hb1 hz1
  rw [hs] at h1 hz1
  try rw [hs]
  have HB1 := Lib.hid hb1
  have H1 := Lib.hid h1
  have c0 := h1.cell (i := 0) (g_kind n)
  have c1 := h1.cell (i := 1) (g_lev n)
  have c12 := h1.cell (g_sk n (d := 5) (by omega))
  have c13 := h1.cell (g_sl n (d := 5) (by omega))
  have c22 : w1.cell? ⟨s, 22, none⟩ = some (.int .u8 (lt : Int)) := by
    have q := h1.cell (i := 22) (v := .int .u8 (n.lt : Int)) rfl
    rw [HLT.out] at q
    exact q
  have f0 := h1.frozen 0
  have f1 := h1.frozen 1
  have f12 := h1.frozen 12
  have f13 := h1.frozen 13
  have f22 := h1.frozen 22
  have ls := h1.lt
  clear h1 hb1 hz1
  go_wp2_with ((with_reducible refine at_slot 16 ?_); refine Classical.byContradiction (fun hG => ?_))
  refine hG ?_
  clear hG
  rw [HM7.out]
  go_wp2_with ((with_reducible refine at_slot 17 ?_); refine Classical.byContradiction (fun hG => ?_))
  refine hG ?_
  clear hG
  try rw [HL9.out]
  go_wp2_with fail
  refine HeldP.wp_named (S := fun W => Below w.heap.size w W ∧ Blk W s TN (vals (gN n 0 l9 n.dr))) ⟨by have := HS.out; (repeat' (first | (with_reducible exact Below.refl _ _) | (with_reducible refine Below.setCell ?_ (by (first | omega | (simp; done) | (simp; omega))) _) | (with_reducible refine Below.alloc ?_ (by (first | omega | (simp; done) | (simp; omega))) _) | (with_reducible refine Below.drew ?_) | (with_reducible refine below_drewN ?_ _) | (with_reducible refine Below.trans ?_ (Below.mono HB1.out (by (first | omega | (simp; done) | (simp; omega))))))), by (repeat' (first | (with_reducible exact H1.out) | (with_reducible refine BlkP.Blk.drew ?_) | (with_reducible refine BlkP.Blk.drewN ?_ _) | (with_reducible refine BlkP.Blk.setAt (us := ?_) (by first | omega | (simp; done) | (simp; omega)) rfl ?_ ?_) | (with_reducible refine BlkP.Blk.otherAt ?_ (by first | omega | (simp; done) | (simp; omega))) | (with_reducible refine BlkP.Blk.newA' (by first | omega | (simp; done) | (simp; omega)) rfl) | (with_reducible refine BlkP.Blk.alloc ?_ _) | (exact rfl)))⟩ ?_
  clear c0 c1 c12 c13 c22 f0 f1 f12 f13 f22 ls
  rintro w2 ⟨hb2, h2⟩
  have HB2 := Lib.hid hb2
  have H2 := Lib.hid h2
  clear hb2 h2
  go_loopw [5, 6, 7] (fun v5 v6 _ wr => ∃ (j g : Nat) (x : Int), v6 = .int .i64 (j : Nat) ∧ v5 = .int .i64 (g : Nat) ∧ j ≤ 40 ∧ g ≤ 4 ∧ Blk wr s TN (vals (gN n g l9 x)) ∧ Below w.heap.size w wr) (fun _ v _ _ => 40 - (intOf v).toNat)
  case atStart => exact ⟨0, 0, n.dr, rfl, rfl, by omega, by omega, H2.out, HB2.out⟩
  case round =>
    obtain ⟨j, g, x, rfl, rfl, hj, hg, hgb, hbr⟩ := hrel
    have HG := Lib.hid hgb
    have HB9 := Lib.hid hbr
    have hz9 := HB9.out.size
    clear hgb hbr
    by_cases hjk : j < k
    · have hjI : (j : Int) < (k : Int) := by omega
      by_cases hj40 : j < 40
      · have hjJ : (j : Int) < 40 := by omega
        by_cases hg4 : g < 4
        · have hgI : (g : Int) < 4 := by omega
          have HWR := Lib.hid (show wrap64 ((j : Int) + 1) = ((j + 1 : Nat) : Int) by rw [wr64 (by omega) (by omega)]; omega)
          have HWG := Lib.hid (show wrap64 ((g : Int) + 1) = ((g + 1 : Nat) : Int) by rw [wr64 (by omega) (by omega)]; omega)
          obtain ⟨y, hy⟩ : ∃ y, xs[j]? = some y := ⟨_, List.getElem?_eq_getElem (by rw [HK.out]; exact hjk)⟩
          have HY := Lib.hid hy
          have HYB := Lib.hid (HXS.out _ (List.mem_of_getElem? hy))
          obtain ⟨b, o, hA, hlt, hc⟩ := HR.out.at hy
          subst hA
          have x0 : w.cell? ⟨b, o + j, none⟩ = some (.int .u64 (y : Int)) := by
            have := hc 0 _ rfl
            rw [show o + j * encD.k + 0 = o + j from by show o + j * 1 + 0 = o + j; omega] at this
            exact this
          have HX0 := Lib.hid x0
          have HLB := Lib.hid hlt
          have x1 := (HB9.out.cell (p := ⟨b, o + j, none⟩) hlt).trans x0
          have hbs : b ≠ s := by have := HS.out; omega
          have hsb : s ≠ b := by have := HS.out; omega
          have c23 : wr.cell? ⟨s, 23, none⟩ = some (.int .u64 x) := HG.out.cell rfl
          have f23 := HG.out.frozen 23
          have ls := HG.out.lt
          have hbl : b < wr.heap.size := by omega
          clear x0 hc hy hlt hjk hj40
          go_wp2_with ((with_reducible refine at_slot 37 ?_); refine Classical.byContradiction (fun hG => ?_))
          refine hG ?_
          clear hG
          refine list_named (S := fun W => Below w.heap.size w W ∧ Blk W s TN (vals (gN n g l9 (y : Int)))) ⟨by have := HS.out; (repeat' (first | (with_reducible exact Below.refl _ _) | (with_reducible refine Below.setCell ?_ (by (first | omega | (simp; done) | (simp; omega))) _) | (with_reducible refine Below.alloc ?_ (by (first | omega | (simp; done) | (simp; omega))) _) | (with_reducible refine Below.drew ?_) | (with_reducible refine below_drewN ?_ _) | (with_reducible refine Below.trans ?_ (Below.mono HB9.out (by (first | omega | (simp; done) | (simp; omega))))))), by (repeat' (first | (with_reducible exact HG.out) | (with_reducible refine BlkP.Blk.drew ?_) | (with_reducible refine BlkP.Blk.drewN ?_ _) | (with_reducible refine BlkP.Blk.setAt (us := ?_) (by first | omega | (simp; done) | (simp; omega)) rfl ?_ ?_) | (with_reducible refine BlkP.Blk.otherAt ?_ (by first | omega | (simp; done) | (simp; omega))) | (with_reducible refine BlkP.Blk.newA' (by first | omega | (simp; done) | (simp; omega)) rfl) | (with_reducible refine BlkP.Blk.alloc ?_ _) | (exact rfl)))⟩ ?_
          clear c23 f23 ls x1
          rintro w3 ⟨hb3, h3⟩
          have HB3 := Lib.hid hb3
          have H3 := Lib.hid h3
          clear hb3 h3
          refine wp_loadN rfl (.tmp 2) rfl rfl (n := gN n g l9 (y : Int)) H3.out ?_
          go_wp2_with fail
          by_cases hy4 : y % 4 = 0
          · have hyI : ((y : Int) % 4 != 0) = false := by simp; omega
            obtain ⟨dl, hdl⟩ := grow_yes (n := n) (lt := l9) (x := (y : Int)) hg4 HL99.out hy4
            have HDL := Lib.hid hdl
            obtain ⟨⟨ka, la⟩, hst⟩ : ∃ c, stage (g + 1) = c := ⟨_, rfl⟩
            have HST := Lib.hid hst
            clear hdl hy4 hst
            refine (Plant_d (n := gN n g l9 (y : Int)) (d := y) (D := ⟨[(0, (ka, la))], 0, dl⟩) (HT.out.below HB3.out) rfl HYB.out (by rw [HDL.out, HST.out])).mono ?_
            rintro e w4 ⟨v, rfl, ho, hb4⟩
            obtain ⟨A1, cap, rfl, _, _, hAA⟩ := ho.form (n := 1) rfl
            obtain ⟨q, rfl, hq1, hq2⟩ := hAA (by omega)
            have HB4 := Lib.hid (below_t HB3.out hb4)
            have H4 := Lib.hid (H3.out.below hb4)
            have p0 : w4.cell? ⟨q, 0, none⟩ = some (.int .i64 0) := ho.cell (i := 0) (j := 0) rfl rfl
            have p1 : w4.cell? ⟨q, 1, none⟩ = some (.int .u8 (ka : Int)) := ho.cell (i := 0) (j := 1) rfl rfl
            have p2 : w4.cell? ⟨q, 2, none⟩ = some (.int .u8 (la : Int)) := ho.cell (i := 0) (j := 2) rfl rfl
            have x1 := (HB4.out.cell (p := ⟨b, o + j, none⟩) HLB.out).trans HX0.out
            have c0 : w4.cell? ⟨s, 0, none⟩ = some (.int .u8 ((stage g).1 : Int)) := H4.out.cell rfl
            have c1 : w4.cell? ⟨s, 1, none⟩ = some (.int .u8 ((stage g).2 : Int)) := H4.out.cell rfl
            have f0 := H4.out.frozen 0
            have f1 := H4.out.frozen 1
            have ls := H4.out.lt
            have hz4 := HB4.out.size
            have hbl4 : b < w4.heap.size := by have := HLB.out; omega
            have hqs : q ≠ s := by have := H3.out.lt; omega
            have hqn : q ≠ w4.heap.size := by omega
            have hsn : s ≠ w4.heap.size := by omega
            clear ho hb4 hAA hq1
            go_wp2_with fail
            go_roundw
            case rel =>
              refine ⟨j + 1, g + 1, (y : Int), by first | rfl | rw [HWR.out] | (congr 1; omega), by first | rfl | rw [HWG.out] | (congr 1; omega), by omega, by omega, ?_, ?_⟩
              · have e : vals (gN n (g + 1) l9 (y : Int)) = ((vals (gN n g l9 (y : Int))).set 0 (.int .u8 (ka : Int))).set 1 (.int .u8 (la : Int)) := by
                  show vals {gN n g l9 (y : Int) with s := stage (g + 1)} = _
                  rw [HST.out]
                  rfl
                rw [e]
                (repeat' (first | (with_reducible exact H4.out) | (with_reducible refine BlkP.Blk.drew ?_) | (with_reducible refine BlkP.Blk.drewN ?_ _) | (with_reducible refine BlkP.Blk.setAt (us := ?_) (by first | omega | (simp; done) | (simp; omega)) rfl ?_ ?_) | (with_reducible refine BlkP.Blk.otherAt ?_ (by first | omega | (simp; done) | (simp; omega))) | (with_reducible refine BlkP.Blk.newA' (by first | omega | (simp; done) | (simp; omega)) rfl) | (with_reducible refine BlkP.Blk.alloc ?_ _) | (exact rfl)))
              · have := HS.out
                (repeat' (first | (with_reducible exact Below.refl _ _) | (with_reducible refine Below.setCell ?_ (by (first | omega | (simp; done) | (simp; omega))) _) | (with_reducible refine Below.alloc ?_ (by (first | omega | (simp; done) | (simp; omega))) _) | (with_reducible refine Below.drew ?_) | (with_reducible refine below_drewN ?_ _) | (with_reducible refine Below.trans ?_ (Below.mono HB4.out (by (first | omega | (simp; done) | (simp; omega)))))))
            case measure =>
              simp only [intOf]
              omega
          · have hyI : ((y : Int) % 4 != 0) = true := by simp; omega
            have HDL := Lib.hid (grow_no (n := n) (lt := l9) (x := (y : Int)) hg4 hy4)
            clear hy4
            refine (Plant_d (n := gN n g l9 (y : Int)) (d := y) (D := ⟨[], 5, 0⟩) (HT.out.below HB3.out) rfl HYB.out HDL.out).mono ?_
            rintro e w4 ⟨v, rfl, ho, hb4⟩
            obtain ⟨A1, cap, rfl, _, _, hAA⟩ := ho.form (n := 0) rfl
            have HB4 := Lib.hid (below_t HB3.out hb4)
            have H4 := Lib.hid (H3.out.below hb4)
            have x1 := (HB4.out.cell (p := ⟨b, o + j, none⟩) HLB.out).trans HX0.out
            have hz4 := HB4.out.size
            have hbl4 : b < w4.heap.size := by have := HLB.out; omega
            have hbn4 : b ≠ w4.heap.size := by omega
            clear ho hb4 hAA
            go_wp2_with fail
            go_roundw
            case rel =>
              refine ⟨j + 1, g, (y : Int), by first | rfl | rw [HWR.out] | (congr 1; omega), rfl, by omega, by omega, ?_, ?_⟩
              · (repeat' (first | (with_reducible exact H4.out) | (with_reducible refine BlkP.Blk.drew ?_) | (with_reducible refine BlkP.Blk.drewN ?_ _) | (with_reducible refine BlkP.Blk.setAt (us := ?_) (by first | omega | (simp; done) | (simp; omega)) rfl ?_ ?_) | (with_reducible refine BlkP.Blk.otherAt ?_ (by first | omega | (simp; done) | (simp; omega))) | (with_reducible refine BlkP.Blk.newA' (by first | omega | (simp; done) | (simp; omega)) rfl) | (with_reducible refine BlkP.Blk.alloc ?_ _) | (exact rfl)))
              · have := HS.out
                (repeat' (first | (with_reducible exact Below.refl _ _) | (with_reducible refine Below.setCell ?_ (by (first | omega | (simp; done) | (simp; omega))) _) | (with_reducible refine Below.alloc ?_ (by (first | omega | (simp; done) | (simp; omega))) _) | (with_reducible refine Below.drew ?_) | (with_reducible refine below_drewN ?_ _) | (with_reducible refine Below.trans ?_ (Below.mono HB4.out (by (first | omega | (simp; done) | (simp; omega)))))))
            case measure =>
              simp only [intOf]
              omega
        · have hgI : ¬ (g : Int) < 4 := by omega
          obtain rfl : g = 4 := by omega
          have c0 : wr.cell? ⟨s, 0, none⟩ = some (.int .u8 7) := HG.out.cell rfl
          have c1 : wr.cell? ⟨s, 1, none⟩ = some (.int .u8 0) := HG.out.cell rfl
          have ls := HG.out.lt
          clear hjk hj40 hg4 hg
          go_wp2_with fail
          refine (works_c (HT.out.below HB9.out)).mono ?_
          rintro e w8 ⟨rfl, hb8⟩
          have HB8 := Lib.hid (below_t HB9.out hb8)
          clear hb8
          go_wp2_with fail
          go_ret
          exact ⟨by first | rfl | simp, HS.out ▸ HB8.out⟩
      · have hjJ : ¬ (j : Int) < 40 := by omega
        clear hjk hj40
        rcases (show g = 4 ∨ g = 0 ∨ g = 1 ∨ g = 2 ∨ g = 3 by omega) with hge | hge | hge | hge | hge
        · subst hge
          have c0 : wr.cell? ⟨s, 0, none⟩ = some (.int .u8 7) := HG.out.cell rfl
          have c1 : wr.cell? ⟨s, 1, none⟩ = some (.int .u8 0) := HG.out.cell rfl
          have ls := HG.out.lt
          clear hg
          go_wp2_with fail
          refine (works_c (HT.out.below HB9.out)).mono ?_
          rintro e w8 ⟨rfl, hb8⟩
          have HB8 := Lib.hid (below_t HB9.out hb8)
          clear hb8
          go_wp2_with fail
          go_ret
          exact ⟨by first | rfl | simp, HS.out ▸ HB8.out⟩
        · subst hge
          have c0 : wr.cell? ⟨s, 0, none⟩ = some (.int .u8 12) := HG.out.cell rfl
          have c1 : wr.cell? ⟨s, 1, none⟩ = some (.int .u8 0) := HG.out.cell rfl
          have ls := HG.out.lt
          clear hg
          go_wp2_with fail
          refine (works_c (HT.out.below HB9.out)).mono ?_
          rintro e w8 ⟨rfl, hb8⟩
          have HB8 := Lib.hid (below_t HB9.out hb8)
          clear hb8
          go_wp2_with fail
          go_ret
          exact ⟨by first | rfl | simp, HS.out ▸ HB8.out⟩
        · subst hge
          have c0 : wr.cell? ⟨s, 0, none⟩ = some (.int .u8 12) := HG.out.cell rfl
          have c1 : wr.cell? ⟨s, 1, none⟩ = some (.int .u8 1) := HG.out.cell rfl
          have ls := HG.out.lt
          clear hg
          go_wp2_with fail
          refine (works_c (HT.out.below HB9.out)).mono ?_
          rintro e w8 ⟨rfl, hb8⟩
          have HB8 := Lib.hid (below_t HB9.out hb8)
          clear hb8
          go_wp2_with fail
          go_ret
          exact ⟨by first | rfl | simp, HS.out ▸ HB8.out⟩
        · subst hge
          have c0 : wr.cell? ⟨s, 0, none⟩ = some (.int .u8 12) := HG.out.cell rfl
          have c1 : wr.cell? ⟨s, 1, none⟩ = some (.int .u8 2) := HG.out.cell rfl
          have ls := HG.out.lt
          clear hg
          go_wp2_with fail
          refine (works_c (HT.out.below HB9.out)).mono ?_
          rintro e w8 ⟨rfl, hb8⟩
          have HB8 := Lib.hid (below_t HB9.out hb8)
          clear hb8
          go_wp2_with fail
          go_ret
          exact ⟨by first | rfl | simp, HS.out ▸ HB8.out⟩
        · subst hge
          have c0 : wr.cell? ⟨s, 0, none⟩ = some (.int .u8 12) := HG.out.cell rfl
          have c1 : wr.cell? ⟨s, 1, none⟩ = some (.int .u8 3) := HG.out.cell rfl
          have ls := HG.out.lt
          clear hg
          go_wp2_with fail
          refine (works_c (HT.out.below HB9.out)).mono ?_
          rintro e w8 ⟨rfl, hb8⟩
          have HB8 := Lib.hid (below_t HB9.out hb8)
          clear hb8
          go_wp2_with fail
          go_ret
          exact ⟨by first | rfl | simp, HS.out ▸ HB8.out⟩
    · have hjI : ¬ (j : Int) < (k : Int) := by omega
      clear hjk
      rcases (show g = 4 ∨ g = 0 ∨ g = 1 ∨ g = 2 ∨ g = 3 by omega) with hge | hge | hge | hge | hge
      · subst hge
        have c0 : wr.cell? ⟨s, 0, none⟩ = some (.int .u8 7) := HG.out.cell rfl
        have c1 : wr.cell? ⟨s, 1, none⟩ = some (.int .u8 0) := HG.out.cell rfl
        have ls := HG.out.lt
        clear hg
        go_wp2_with fail
        refine (works_c (HT.out.below HB9.out)).mono ?_
        rintro e w8 ⟨rfl, hb8⟩
        have HB8 := Lib.hid (below_t HB9.out hb8)
        clear hb8
        go_wp2_with fail
        go_ret
        exact ⟨by first | rfl | simp, HS.out ▸ HB8.out⟩
      · subst hge
        have c0 : wr.cell? ⟨s, 0, none⟩ = some (.int .u8 12) := HG.out.cell rfl
        have c1 : wr.cell? ⟨s, 1, none⟩ = some (.int .u8 0) := HG.out.cell rfl
        have ls := HG.out.lt
        clear hg
        go_wp2_with fail
        refine (works_c (HT.out.below HB9.out)).mono ?_
        rintro e w8 ⟨rfl, hb8⟩
        have HB8 := Lib.hid (below_t HB9.out hb8)
        clear hb8
        go_wp2_with fail
        go_ret
        exact ⟨by first | rfl | simp, HS.out ▸ HB8.out⟩
      · subst hge
        have c0 : wr.cell? ⟨s, 0, none⟩ = some (.int .u8 12) := HG.out.cell rfl
        have c1 : wr.cell? ⟨s, 1, none⟩ = some (.int .u8 1) := HG.out.cell rfl
        have ls := HG.out.lt
        clear hg
        go_wp2_with fail
        refine (works_c (HT.out.below HB9.out)).mono ?_
        rintro e w8 ⟨rfl, hb8⟩
        have HB8 := Lib.hid (below_t HB9.out hb8)
        clear hb8
        go_wp2_with fail
        go_ret
        exact ⟨by first | rfl | simp, HS.out ▸ HB8.out⟩
      · subst hge
        have c0 : wr.cell? ⟨s, 0, none⟩ = some (.int .u8 12) := HG.out.cell rfl
        have c1 : wr.cell? ⟨s, 1, none⟩ = some (.int .u8 2) := HG.out.cell rfl
        have ls := HG.out.lt
        clear hg
        go_wp2_with fail
        refine (works_c (HT.out.below HB9.out)).mono ?_
        rintro e w8 ⟨rfl, hb8⟩
        have HB8 := Lib.hid (below_t HB9.out hb8)
        clear hb8
        go_wp2_with fail
        go_ret
        exact ⟨by first | rfl | simp, HS.out ▸ HB8.out⟩
      · subst hge
        have c0 : wr.cell? ⟨s, 0, none⟩ = some (.int .u8 12) := HG.out.cell rfl
        have c1 : wr.cell? ⟨s, 1, none⟩ = some (.int .u8 3) := HG.out.cell rfl
        have ls := HG.out.lt
        clear hg
        go_wp2_with fail
        refine (works_c (HT.out.below HB9.out)).mono ?_
        rintro e w8 ⟨rfl, hb8⟩
        have HB8 := Lib.hid (below_t HB9.out hb8)
        clear hb8
        go_wp2_with fail
        go_ret
        exact ⟨by first | rfl | simp, HS.out ▸ HB8.out⟩
end BurnW
end Go.Proofs.YtlidcefmpoelkaaDoor
