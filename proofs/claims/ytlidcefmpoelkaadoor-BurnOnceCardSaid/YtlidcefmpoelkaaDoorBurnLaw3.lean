/-
  BurnOnce: there is one change at most, of the cell itself, or to fire, of a side that burns, to a cell that may be.
-/
import Derived.Test.YtlidcefmpoelkaaDoorBurnLaw2
namespace Go.Proofs.YtlidcefmpoelkaaDoor
open Go.RowKit
set_option linter.unusedVariables false
set_option linter.unusedSimpArgs false
namespace BurnW
open BlkP RowG FrS PushG CellsW NearW BurnP
set_option maxRecDepth 100000 in
set_option maxHeartbeats 32000000 in
theorem law_once {w : World} (hT : KindW.Tab w) (n : Nr) {d : Nat} (hd : n.dr = (d : Int)) (hd2 : d ≤ 18446744073709551615) : Calls Tryd.prog 6 #[nv n] w fun e w' => e = .returned (.bool true) ∧ Below w.heap.size w w' := by
  have HT := Lib.hid hT
  have HDR := Lib.hid hd
  obtain ⟨⟨L, ag, dl⟩, hD⟩ : ∃ D, fire n d = D := ⟨_, rfl⟩
  have HD := Lib.hid hD
  obtain ⟨⟨M, bg, ml⟩, hE⟩ : ∃ D, plant n d = D := ⟨_, rfl⟩
  have HE := Lib.hid hE
  have HLO := Lib.hid (show ∀ x ∈ L, fireOk n x from fun x hx => fire_ok n d x (by rw [hD]; exact hx))
  have HMO := Lib.hid (show ∀ x ∈ M, plantOk n x from fun x hx => plant_ok n d x (by rw [hE]; exact hx))
  obtain ⟨k, hk⟩ : ∃ k, L.length = k := ⟨_, rfl⟩
  obtain ⟨m, hm⟩ : ∃ k, M.length = k := ⟨_, rfl⟩
  have HK := Lib.hid hk
  have HM := Lib.hid hm
  have HK1 := Lib.hid (show k ≤ 1 from by have := fire_len n d; rw [hD] at this; simp only at this; omega)
  have HM1 := Lib.hid (show m ≤ 1 from by have := plant_len n d; rw [hE] at this; simp only at this; omega)
  have HK14 := Lib.hid (show 0 < k → n.s.1 = 14 from fun h => (HLO.out _ (List.getElem_mem (l := L) (n := 0) (by omega))).2.2.1)
  have HM12 := Lib.hid (show 0 < m → n.s.1 = 12 from fun h => (HMO.out _ (List.getElem_mem (l := M) (n := 0) (by omega))).2.2.1)
  obtain ⟨⟨k0, l0⟩, hs0⟩ : ∃ c, n.s = c := ⟨_, rfl⟩
  have HS0 := Lib.hid hs0
  obtain ⟨s, hs⟩ : ∃ s, w.heap.size = s := ⟨_, rfl⟩
  have HS := Lib.hid hs
  clear hT hd hD hE hk hm hs0
  go_enter Tryd.func6, Tryd.ntmps6
  go_wp2_with ((with_reducible refine at_slot 1 ?_); refine Classical.byContradiction (fun hG => ?_))
  refine hG ?_
  clear hG
  refine wp_boxN rfl (.tmp 0) rfl rfl ?_
  intro w1 h1 hb1 hz1
  rw [hs] at h1 hz1
  try rw [hs]
  have HB1 := Lib.hid hb1
  have H1 := Lib.hid h1
  clear h1 hb1 hz1
  go_wp2_with ((with_reducible refine at_slot 9 ?_); refine Classical.byContradiction (fun hG => ?_))
  refine hG ?_
  clear hG
  refine wp_loadN rfl (.tmp 1) rfl rfl (n := n) H1.out ?_
  go_wp2_with fail
  refine (Fire_d (HT.out.below HB1.out) HDR.out hd2 HD.out).mono ?_
  rintro e w2 ⟨v, rfl, ho, hb2⟩
  obtain ⟨A1, c1, rfl, _, _, _⟩ := ho.form HK.out
  have HB2 := Lib.hid (below_t HB1.out hb2)
  have H2 := Lib.hid (H1.out.below hb2)
  have HO2 := Lib.hid ho.rd
  have hz2 := HB2.out.size
  clear hb2 ho
  go_wp2_with ((with_reducible refine at_slot 11 ?_); refine Classical.byContradiction (fun hG => ?_))
  refine hG ?_
  clear hG
  refine list_named (S := fun W => Below w.heap.size w W ∧ Blk W s TN (vals n) ∧ Rd encX W (.slice A1 k c1) L ∧ ∃ a, a = w2.heap.size ∧ Blk W a TD [.slice A1 k c1, .int .i64 ag, .int .i64 dl]) ⟨by (repeat' (first | (with_reducible exact Below.refl _ _) | (with_reducible refine Below.setCell ?_ (by (first | omega | (simp; done) | (simp; omega))) _) | (with_reducible refine Below.alloc ?_ (by (first | omega | (simp; done) | (simp; omega))) _) | (with_reducible refine Below.drew ?_) | (with_reducible refine below_drewN ?_ _) | (with_reducible refine Below.trans ?_ (Below.mono HB2.out (by (first | omega | (simp; done) | (simp; omega))))))), by (repeat' (first | (with_reducible exact H2.out) | (with_reducible refine BlkP.Blk.drew ?_) | (with_reducible refine BlkP.Blk.drewN ?_ _) | (with_reducible refine BlkP.Blk.setAt (us := ?_) (by first | omega | (simp; done) | (simp; omega)) rfl ?_ ?_) | (with_reducible refine BlkP.Blk.otherAt ?_ (by first | omega | (simp; done) | (simp; omega))) | (with_reducible refine BlkP.Blk.newA' (by first | omega | (simp; done) | (simp; omega)) rfl) | (with_reducible refine BlkP.Blk.alloc ?_ _) | (exact rfl))), HO2.out.below (by (repeat' (first | (with_reducible exact Below.refl _ _) | (with_reducible refine Below.setCell ?_ (by (first | omega | (simp; done) | (simp; omega))) _) | (with_reducible refine Below.alloc ?_ (by (first | omega | (simp; done) | (simp; omega))) _) | (with_reducible refine Below.drew ?_) | (with_reducible refine below_drewN ?_ _)))), w2.heap.size, rfl, by (repeat' (first | (with_reducible refine BlkP.Blk.drew ?_) | (with_reducible refine BlkP.Blk.drewN ?_ _) | (with_reducible refine BlkP.Blk.setAt (us := ?_) (by first | omega | (simp; done) | (simp; omega)) rfl ?_ ?_) | (with_reducible refine BlkP.Blk.otherAt ?_ (by first | omega | (simp; done) | (simp; omega))) | (with_reducible refine BlkP.Blk.newA' (by first | omega | (simp; done) | (simp; omega)) rfl) | (with_reducible refine BlkP.Blk.alloc ?_ _) | (exact rfl)))⟩ ?_
  rintro w3 ⟨hb3, h3, ho3, a, ha, ha3⟩
  try rw [← ha]
  have HB3 := Lib.hid hb3
  have H3 := Lib.hid h3
  have HO3 := Lib.hid ho3
  have HA3 := Lib.hid ha3
  clear hb3 h3 ho3 ha3 ha hz2
  refine wp_loadN rfl (.tmp 1) rfl rfl (n := n) H3.out ?_
  go_wp2_with fail
  refine (Plant_d (HT.out.below HB3.out) HDR.out hd2 HE.out).mono ?_
  rintro e w4 ⟨v, rfl, ho, hb4⟩
  obtain ⟨A2, c2, rfl, _, _, _⟩ := ho.form HM.out
  have HB4 := Lib.hid (below_t HB3.out hb4)
  have H4 := Lib.hid (H3.out.below hb4)
  have HO4 := Lib.hid (HO3.out.below hb4)
  have HA4 := Lib.hid (HA3.out.below hb4)
  have HP4 := Lib.hid ho.rd
  have hz4 := HB4.out.size
  clear hb4 ho
  go_wp2_with ((with_reducible refine at_slot 13 ?_); refine Classical.byContradiction (fun hG => ?_))
  refine hG ?_
  clear hG
  refine list_named (S := fun W => Below w.heap.size w W ∧ Blk W s TN (vals n) ∧ Blk W a TD [.slice A1 k c1, .int .i64 ag, .int .i64 dl] ∧ Rd encX W (.slice A1 k c1) L ∧ Rd encX W (.slice A2 m c2) M ∧ ∃ b, b = w4.heap.size ∧ Blk W b TD [.slice A2 m c2, .int .i64 bg, .int .i64 ml]) ⟨by (repeat' (first | (with_reducible exact Below.refl _ _) | (with_reducible refine Below.setCell ?_ (by (first | omega | (simp; done) | (simp; omega))) _) | (with_reducible refine Below.alloc ?_ (by (first | omega | (simp; done) | (simp; omega))) _) | (with_reducible refine Below.drew ?_) | (with_reducible refine below_drewN ?_ _) | (with_reducible refine Below.trans ?_ (Below.mono HB4.out (by (first | omega | (simp; done) | (simp; omega))))))), by (repeat' (first | (with_reducible exact H4.out) | (with_reducible refine BlkP.Blk.drew ?_) | (with_reducible refine BlkP.Blk.drewN ?_ _) | (with_reducible refine BlkP.Blk.setAt (us := ?_) (by first | omega | (simp; done) | (simp; omega)) rfl ?_ ?_) | (with_reducible refine BlkP.Blk.otherAt ?_ (by first | omega | (simp; done) | (simp; omega))) | (with_reducible refine BlkP.Blk.newA' (by first | omega | (simp; done) | (simp; omega)) rfl) | (with_reducible refine BlkP.Blk.alloc ?_ _) | (exact rfl))), by (repeat' (first | (with_reducible exact HA4.out) | (with_reducible refine BlkP.Blk.drew ?_) | (with_reducible refine BlkP.Blk.drewN ?_ _) | (with_reducible refine BlkP.Blk.setAt (us := ?_) (by first | omega | (simp; done) | (simp; omega)) rfl ?_ ?_) | (with_reducible refine BlkP.Blk.otherAt ?_ (by first | omega | (simp; done) | (simp; omega))) | (with_reducible refine BlkP.Blk.newA' (by first | omega | (simp; done) | (simp; omega)) rfl) | (with_reducible refine BlkP.Blk.alloc ?_ _) | (exact rfl))), HO4.out.below (by (repeat' (first | (with_reducible exact Below.refl _ _) | (with_reducible refine Below.setCell ?_ (by (first | omega | (simp; done) | (simp; omega))) _) | (with_reducible refine Below.alloc ?_ (by (first | omega | (simp; done) | (simp; omega))) _) | (with_reducible refine Below.drew ?_) | (with_reducible refine below_drewN ?_ _)))), HP4.out.below (by (repeat' (first | (with_reducible exact Below.refl _ _) | (with_reducible refine Below.setCell ?_ (by (first | omega | (simp; done) | (simp; omega))) _) | (with_reducible refine Below.alloc ?_ (by (first | omega | (simp; done) | (simp; omega))) _) | (with_reducible refine Below.drew ?_) | (with_reducible refine below_drewN ?_ _)))), w4.heap.size, rfl, by (repeat' (first | (with_reducible refine BlkP.Blk.drew ?_) | (with_reducible refine BlkP.Blk.drewN ?_ _) | (with_reducible refine BlkP.Blk.setAt (us := ?_) (by first | omega | (simp; done) | (simp; omega)) rfl ?_ ?_) | (with_reducible refine BlkP.Blk.otherAt ?_ (by first | omega | (simp; done) | (simp; omega))) | (with_reducible refine BlkP.Blk.newA' (by first | omega | (simp; done) | (simp; omega)) rfl) | (with_reducible refine BlkP.Blk.alloc ?_ _) | (exact rfl)))⟩ ?_
  rintro w5 ⟨hb5, h5, ha5, ho5, hp5, b, hb, hbb5⟩
  try rw [← hb]
  have HB5 := Lib.hid hb5
  have H5 := Lib.hid h5
  have HO5 := Lib.hid ho5
  have HP5 := Lib.hid hp5
  have HA5 := Lib.hid ha5
  have HQ5 := Lib.hid hbb5
  have a0 := ha5.cell (i := 0) rfl
  have a1 := ha5.cell (i := 1) rfl
  have a2 := ha5.cell (i := 2) rfl
  have b0 := hbb5.cell (i := 0) rfl
  have b1 := hbb5.cell (i := 1) rfl
  have b2 := hbb5.cell (i := 2) rfl
  have la := ha5.lt
  have lb := hbb5.lt
  clear hb5 h5 ha5 ho5 hp5 hb hbb5 hz4
  by_cases hk0 : 0 < k
  · have hk14 := HK14.out hk0
    rw [HS0.out] at hk14
    have hm0 : ¬ 0 < m := fun q => by
      have := HM12.out q
      rw [HS0.out] at this
      simp only at this hk14
      omega
    simp only at hk14
    have hkI : (0 : Int) < (k : Int) := by omega
    have hkJ : ¬ (1 : Int) < (k : Int) := by have := HK1.out; omega
    have hmI : ¬ (0 : Int) < (m : Int) := by omega
    have hmJ : ¬ (1 : Int) < (m : Int) := by omega
    have hq : ((k0 : Int) != 14) = false := by simp; omega
    clear hk0 hm0 hk14
    have c0 := H5.out.cell (i := 0) (g_kind n)
    rw [HS0.out] at c0
    simp only at c0
    have ls := H5.out.lt
    go_wp2_with fail
    go_loopw [5, 6] (fun v5 _ wr => ∃ j : Nat, v5 = .int .i64 (j : Nat) ∧ j ≤ k ∧ Below w5.heap.size w5 wr) (fun v _ _ => k - (intOf v).toNat)
    case atStart => exact ⟨0, rfl, by omega, Below.refl _ _⟩
    case round =>
      obtain ⟨j, rfl, hj, hbr⟩ := hrel
      have HBR := Lib.hid hbr
      have HB9 := Lib.hid (below_t HB5.out hbr)
      have r0 := (HA5.out.below hbr).cell (i := 0) rfl
      have rl := (HA5.out.below hbr).lt
      by_cases hjl : j < k
      · have hjI : (j : Int) < (k : Int) := by omega
        have hj1 : (j : Int) < 100 := by omega
        have HWR := Lib.hid (show wrap64 ((j : Int) + 1) = ((j + 1 : Nat) : Int) by rw [wr64 (by omega) (by omega)]; omega)
        obtain ⟨⟨d1, kk, mm⟩, hx⟩ : ∃ x, L[j]? = some x := ⟨_, List.getElem?_eq_getElem (by rw [HK.out]; exact hjl)⟩
        have hok := HLO.out _ (List.mem_of_getElem? hx)
        obtain ⟨b1, o, hA, hlt, hc⟩ := (HO5.out.below hbr).at hx
        subst hA
        have p0 : wr.cell? ⟨b1, o + j * 3, none⟩ = some (.int .i64 (d1 : Int)) := hc 0 _ rfl
        have p1 : wr.cell? ⟨b1, o + j * 3 + 1, none⟩ = some (.int .u8 (kk : Int)) := hc 1 _ rfl
        have p2 : wr.cell? ⟨b1, o + j * 3 + 2, none⟩ = some (.int .u8 (mm : Int)) := hc 2 _ rfl
        have hN9 := H5.out.below hbr
        have HN9 := Lib.hid hN9
        have c0 := hN9.cell (i := 0) (g_kind n)
        have c1 := hN9.cell (i := 1) (g_lev n)
        rw [HS0.out] at c0 c1
        simp only at c0 c1
        have ls := hN9.lt
        obtain ⟨bx, hbx⟩ : ∃ b, wr.heap.size = b := ⟨_, rfl⟩
        rw [hbx] at hlt ls rl
        clear hbr hc hx hN9 hjl
        obtain ⟨hd6, hmay, _, hcase⟩ := hok
        simp only at hd6 hmay hcase
        have hd6I : (d1 : Int) ≤ 6 := by omega
        have hd6J : ¬ (6 : Int) < (d1 : Int) := by omega
        have hd0J : ¬ (d1 : Int) < 0 := by omega
        go_wp2_with ((with_reducible refine at_slot 59 ?_); refine Classical.byContradiction (fun hG => ?_))
        refine hG ?_
        clear hG
        refine list_named (S := fun W => Below wr.heap.size wr W ∧ Blk W bx TX [.int .i64 (d1 : Int), .int .u8 (kk : Int), .int .u8 (mm : Int)]) ⟨by (repeat' (first | (with_reducible exact Below.refl _ _) | (with_reducible refine Below.setCell ?_ (by (first | omega | (simp; done) | (simp; omega))) _) | (with_reducible refine Below.alloc ?_ (by (first | omega | (simp; done) | (simp; omega))) _) | (with_reducible refine Below.drew ?_) | (with_reducible refine below_drewN ?_ _))), by subst hbx; (repeat' (first | (with_reducible refine BlkP.Blk.drew ?_) | (with_reducible refine BlkP.Blk.drewN ?_ _) | (with_reducible refine BlkP.Blk.setAt (us := ?_) (by first | omega | (simp; done) | (simp; omega)) rfl ?_ ?_) | (with_reducible refine BlkP.Blk.otherAt ?_ (by first | omega | (simp; done) | (simp; omega))) | (with_reducible refine BlkP.Blk.newA' (by first | omega | (simp; done) | (simp; omega)) rfl) | (with_reducible refine BlkP.Blk.alloc ?_ _) | (exact rfl)))⟩ ?_
        rintro w6 ⟨hb6, hx6⟩
        try rw [hbx]
        have HB6 := Lib.hid (below_t HB9.out hb6)
        have HBR6 := Lib.hid (below_t HBR.out hb6)
        have HX6 := Lib.hid hx6
        have HN6 := Lib.hid (HN9.out.below hb6)
        have x0 := hx6.cell (i := 0) rfl
        have x1 := hx6.cell (i := 1) rfl
        have x2 := hx6.cell (i := 2) rfl
        have c0 := HN6.out.cell (i := 0) (g_kind n)
        have c1 := HN6.out.cell (i := 1) (g_lev n)
        rw [HS0.out] at c0 c1
        simp only at c0 c1
        have lx := hx6.lt
        have ls := HN6.out.lt
        clear hb6 hx6 p0 p1 p2 rl hbx r0
        rcases hcase with ⟨hz, hkk⟩ | ⟨h1, hkk, hbu⟩
        · subst hz
          rcases hkk with rfl | rfl
          · clear hd6 hd6I hd6J hd0J
            go_wp2_with fail
            refine (KindW.k_may_b (b := true) hmay _ (HT.out.below HB6.out)).mono ?_
            rintro e w7 ⟨rfl, hb7⟩
            have HB7 := Lib.hid (below_t HB6.out hb7)
            have HBW := Lib.hid (below_t HBR6.out hb7)
            have x0 := (HX6.out.below hb7).cell (i := 0) rfl
            have x1 := (HX6.out.below hb7).cell (i := 1) rfl
            have x2 := (HX6.out.below hb7).cell (i := 2) rfl
            have lx := (HX6.out.below hb7).lt
            have hN7 := HN6.out.below hb7
            have ls := hN7.lt
            have c0 := hN7.cell (i := 0) (g_kind n)
            have c1 := hN7.cell (i := 1) (g_lev n)
            rw [HS0.out] at c0 c1
            simp only at c0 c1
            clear hmay hb7 hN7
            go_wp2_with fail
            go_roundw
            case rel => exact ⟨j + 1, by first | rfl | rw [HWR.out] | (congr 1; omega), by omega, HBW.out⟩
            case measure =>
              simp only [intOf]
              omega
          · clear hd6 hd6I hd6J hd0J
            go_wp2_with fail
            refine (KindW.k_may_b (b := true) hmay _ (HT.out.below HB6.out)).mono ?_
            rintro e w7 ⟨rfl, hb7⟩
            have HB7 := Lib.hid (below_t HB6.out hb7)
            have HBW := Lib.hid (below_t HBR6.out hb7)
            have x0 := (HX6.out.below hb7).cell (i := 0) rfl
            have x1 := (HX6.out.below hb7).cell (i := 1) rfl
            have x2 := (HX6.out.below hb7).cell (i := 2) rfl
            have lx := (HX6.out.below hb7).lt
            have hN7 := HN6.out.below hb7
            have ls := hN7.lt
            have c0 := hN7.cell (i := 0) (g_kind n)
            have c1 := hN7.cell (i := 1) (g_lev n)
            rw [HS0.out] at c0 c1
            simp only at c0 c1
            clear hmay hb7 hN7
            go_wp2_with fail
            go_roundw
            case rel => exact ⟨j + 1, by first | rfl | rw [HWR.out] | (congr 1; omega), by omega, HBW.out⟩
            case measure =>
              simp only [intOf]
              omega
        · subst hkk
          have hpI : (0 : Int) < (d1 : Int) := by omega
          have hzb : ((d1 : Int) == 0) = false := by simp; omega
          have hd5 : d1 - 1 < 6 := by omega
          have hd5I : (d1 : Int) - 1 < 6 := by omega
          have hd5J : 0 ≤ (d1 : Int) - 1 := by omega
          go_wp2_with fail
          refine (KindW.k_may_b (b := true) hmay _ (HT.out.below HB6.out)).mono ?_
          rintro e w7 ⟨rfl, hb7⟩
          have HB7 := Lib.hid (below_t HB6.out hb7)
          have HBW := Lib.hid (below_t HBR6.out hb7)
          have x0 := (HX6.out.below hb7).cell (i := 0) rfl
          have x1 := (HX6.out.below hb7).cell (i := 1) rfl
          have x2 := (HX6.out.below hb7).cell (i := 2) rfl
          have lx := (HX6.out.below hb7).lt
          have hN7 := HN6.out.below hb7
          have ls := hN7.lt
          have c0 := hN7.cell (i := 0) (g_kind n)
          have c1 := hN7.cell (i := 1) (g_lev n)
          rw [HS0.out] at c0 c1
          simp only at c0 c1
          have a0 := hN7.cell (g_sk n (d := d1 - 1) hd5)
          obtain ⟨ks, hks⟩ : ∃ q, (n.sd (d1 - 1)).1 = q := ⟨_, rfl⟩
          rw [hks] at a0
          have HBU := Lib.hid (show KindP.burns ks = true from by rw [← hks]; exact hbu)
          clear hmay hb7 hN7 hks hbu hd6
          go_wp2_with fail
          refine (KindW.k_burns ks _ (HT.out.below HB7.out)).mono ?_
          rw [HBU.out]
          rintro e w8 ⟨rfl, rfl⟩
          go_wp2_with fail
          go_roundw
          case rel => exact ⟨j + 1, by first | rfl | rw [HWR.out] | (congr 1; omega), by omega, HBW.out⟩
          case measure =>
            simp only [intOf]
            omega
      · have hjI : ¬ (j : Int) < (k : Int) := by omega
        have hle : (k : Int) ≤ (j : Int) := by omega
        clear hbr
        go_wp2_with fail
        have HB5w := Lib.hid HB9.out
        have H5w := Lib.hid (H5.out.below HBR.out)
        have HP5w := Lib.hid (HP5.out.below HBR.out)
        have HQ5w := Lib.hid (HQ5.out.below HBR.out)
        obtain ⟨wz, hwz⟩ : ∃ z, z = wr := ⟨_, rfl⟩
        rw [← hwz] at HB5w H5w HP5w HQ5w
        rw [← hwz]
        clear HB9 HBR r0 rl hwz hle hjI hj
        go_loopw [7, 8] (fun v7 _ wr => ∃ j : Nat, v7 = .int .i64 (j : Nat) ∧ j ≤ m ∧ Below wz.heap.size wz wr) (fun v _ _ => m - (intOf v).toNat)
        case atStart => exact ⟨0, rfl, by omega, Below.refl _ _⟩
        case round =>
          obtain ⟨j, rfl, hj, hbr⟩ := hrel
          have HBR := Lib.hid hbr
          have HB9 := Lib.hid (below_t HB5w.out hbr)
          have r0 := (HQ5w.out.below hbr).cell (i := 0) rfl
          have rl := (HQ5w.out.below hbr).lt
          by_cases hjl : j < m
          · have hjI : (j : Int) < (m : Int) := by omega
            have hj1 : (j : Int) < 100 := by omega
            have HWR := Lib.hid (show wrap64 ((j : Int) + 1) = ((j + 1 : Nat) : Int) by rw [wr64 (by omega) (by omega)]; omega)
            obtain ⟨⟨d1, kk, mm⟩, hx⟩ : ∃ x, M[j]? = some x := ⟨_, List.getElem?_eq_getElem (by rw [HM.out]; exact hjl)⟩
            have hok := HMO.out _ (List.mem_of_getElem? hx)
            obtain ⟨b1, o, hA, hlt, hc⟩ := (HP5w.out.below hbr).at hx
            subst hA
            have p0 : wr.cell? ⟨b1, o + j * 3, none⟩ = some (.int .i64 (d1 : Int)) := hc 0 _ rfl
            have p1 : wr.cell? ⟨b1, o + j * 3 + 1, none⟩ = some (.int .u8 (kk : Int)) := hc 1 _ rfl
            have p2 : wr.cell? ⟨b1, o + j * 3 + 2, none⟩ = some (.int .u8 (mm : Int)) := hc 2 _ rfl
            have hN9 := H5w.out.below hbr
            have HN9 := Lib.hid hN9
            have c0 := hN9.cell (i := 0) (g_kind n)
            have c1 := hN9.cell (i := 1) (g_lev n)
            rw [HS0.out] at c0 c1
            simp only at c0 c1
            have ls := hN9.lt
            obtain ⟨bx, hbx⟩ : ∃ b, wr.heap.size = b := ⟨_, rfl⟩
            rw [hbx] at hlt ls rl
            clear hbr hc hx hN9 hjl
            exfalso
            have := HN9
            omega
          · have hjI : ¬ (j : Int) < (m : Int) := by omega
            have hle : (m : Int) ≤ (j : Int) := by omega
            clear hbr
            go_wp2_with fail
            refine (works_c (HT.out.below HB9.out)).mono ?_
            rintro e w8 ⟨rfl, hb8⟩
            have HB8 := Lib.hid (below_t HB9.out hb8)
            clear hb8
            go_wp2_with fail
            go_ret
            exact ⟨by first | rfl | simp, HS.out ▸ HB8.out⟩
  · by_cases hm0 : 0 < m
    · have hm12 := HM12.out hm0
      rw [HS0.out] at hm12
      simp only at hm12
      have hkI : ¬ (0 : Int) < (k : Int) := by omega
      have hkJ : ¬ (1 : Int) < (k : Int) := by omega
      have hmI : (0 : Int) < (m : Int) := by omega
      have hmJ : ¬ (1 : Int) < (m : Int) := by have := HM1.out; omega
      have hq : ((k0 : Int) != 12) = false := by simp; omega
      clear hk0 hm0 hm12
      have c0 := H5.out.cell (i := 0) (g_kind n)
      rw [HS0.out] at c0
      simp only at c0
      have ls := H5.out.lt
      go_wp2_with fail
      go_loopw [5, 6] (fun v5 _ wr => ∃ j : Nat, v5 = .int .i64 (j : Nat) ∧ j ≤ k ∧ Below w5.heap.size w5 wr) (fun v _ _ => k - (intOf v).toNat)
      case atStart => exact ⟨0, rfl, by omega, Below.refl _ _⟩
      case round =>
        obtain ⟨j, rfl, hj, hbr⟩ := hrel
        have HBR := Lib.hid hbr
        have HB9 := Lib.hid (below_t HB5.out hbr)
        have r0 := (HA5.out.below hbr).cell (i := 0) rfl
        have rl := (HA5.out.below hbr).lt
        by_cases hjl : j < k
        · have hjI : (j : Int) < (k : Int) := by omega
          have hj1 : (j : Int) < 100 := by omega
          have HWR := Lib.hid (show wrap64 ((j : Int) + 1) = ((j + 1 : Nat) : Int) by rw [wr64 (by omega) (by omega)]; omega)
          obtain ⟨⟨d1, kk, mm⟩, hx⟩ : ∃ x, L[j]? = some x := ⟨_, List.getElem?_eq_getElem (by rw [HK.out]; exact hjl)⟩
          have hok := HLO.out _ (List.mem_of_getElem? hx)
          obtain ⟨b1, o, hA, hlt, hc⟩ := (HO5.out.below hbr).at hx
          subst hA
          have p0 : wr.cell? ⟨b1, o + j * 3, none⟩ = some (.int .i64 (d1 : Int)) := hc 0 _ rfl
          have p1 : wr.cell? ⟨b1, o + j * 3 + 1, none⟩ = some (.int .u8 (kk : Int)) := hc 1 _ rfl
          have p2 : wr.cell? ⟨b1, o + j * 3 + 2, none⟩ = some (.int .u8 (mm : Int)) := hc 2 _ rfl
          have hN9 := H5.out.below hbr
          have HN9 := Lib.hid hN9
          have c0 := hN9.cell (i := 0) (g_kind n)
          have c1 := hN9.cell (i := 1) (g_lev n)
          rw [HS0.out] at c0 c1
          simp only at c0 c1
          have ls := hN9.lt
          obtain ⟨bx, hbx⟩ : ∃ b, wr.heap.size = b := ⟨_, rfl⟩
          rw [hbx] at hlt ls rl
          clear hbr hc hx hN9 hjl
          exfalso
          have := HN9
          omega
        · have hjI : ¬ (j : Int) < (k : Int) := by omega
          have hle : (k : Int) ≤ (j : Int) := by omega
          clear hbr
          go_wp2_with fail
          have HB5w := Lib.hid HB9.out
          have H5w := Lib.hid (H5.out.below HBR.out)
          have HP5w := Lib.hid (HP5.out.below HBR.out)
          have HQ5w := Lib.hid (HQ5.out.below HBR.out)
          obtain ⟨wz, hwz⟩ : ∃ z, z = wr := ⟨_, rfl⟩
          rw [← hwz] at HB5w H5w HP5w HQ5w
          rw [← hwz]
          clear HB9 HBR r0 rl hwz hle hjI hj
          go_loopw [7, 8] (fun v7 _ wr => ∃ j : Nat, v7 = .int .i64 (j : Nat) ∧ j ≤ m ∧ Below wz.heap.size wz wr) (fun v _ _ => m - (intOf v).toNat)
          case atStart => exact ⟨0, rfl, by omega, Below.refl _ _⟩
          case round =>
            obtain ⟨j, rfl, hj, hbr⟩ := hrel
            have HBR := Lib.hid hbr
            have HB9 := Lib.hid (below_t HB5w.out hbr)
            have r0 := (HQ5w.out.below hbr).cell (i := 0) rfl
            have rl := (HQ5w.out.below hbr).lt
            by_cases hjl : j < m
            · have hjI : (j : Int) < (m : Int) := by omega
              have hj1 : (j : Int) < 100 := by omega
              have HWR := Lib.hid (show wrap64 ((j : Int) + 1) = ((j + 1 : Nat) : Int) by rw [wr64 (by omega) (by omega)]; omega)
              obtain ⟨⟨d1, kk, mm⟩, hx⟩ : ∃ x, M[j]? = some x := ⟨_, List.getElem?_eq_getElem (by rw [HM.out]; exact hjl)⟩
              have hok := HMO.out _ (List.mem_of_getElem? hx)
              obtain ⟨b1, o, hA, hlt, hc⟩ := (HP5w.out.below hbr).at hx
              subst hA
              have p0 : wr.cell? ⟨b1, o + j * 3, none⟩ = some (.int .i64 (d1 : Int)) := hc 0 _ rfl
              have p1 : wr.cell? ⟨b1, o + j * 3 + 1, none⟩ = some (.int .u8 (kk : Int)) := hc 1 _ rfl
              have p2 : wr.cell? ⟨b1, o + j * 3 + 2, none⟩ = some (.int .u8 (mm : Int)) := hc 2 _ rfl
              have hN9 := H5w.out.below hbr
              have HN9 := Lib.hid hN9
              have c0 := hN9.cell (i := 0) (g_kind n)
              have c1 := hN9.cell (i := 1) (g_lev n)
              rw [HS0.out] at c0 c1
              simp only at c0 c1
              have ls := hN9.lt
              obtain ⟨bx, hbx⟩ : ∃ b, wr.heap.size = b := ⟨_, rfl⟩
              rw [hbx] at hlt ls rl
              clear hbr hc hx hN9 hjl
              obtain ⟨hz, hmay, _, hneq⟩ := hok
              simp only at hz hmay hneq
              rw [HS0.out] at hneq
              have HZ := Lib.hid hz
              clear hz
              go_wp2_with ((with_reducible refine at_slot 124 ?_); refine Classical.byContradiction (fun hG => ?_))
              refine hG ?_
              clear hG
              refine list_named (S := fun W => Below wr.heap.size wr W ∧ Blk W bx TX [.int .i64 (d1 : Int), .int .u8 (kk : Int), .int .u8 (mm : Int)]) ⟨by (repeat' (first | (with_reducible exact Below.refl _ _) | (with_reducible refine Below.setCell ?_ (by (first | omega | (simp; done) | (simp; omega))) _) | (with_reducible refine Below.alloc ?_ (by (first | omega | (simp; done) | (simp; omega))) _) | (with_reducible refine Below.drew ?_) | (with_reducible refine below_drewN ?_ _))), by subst hbx; (repeat' (first | (with_reducible refine BlkP.Blk.drew ?_) | (with_reducible refine BlkP.Blk.drewN ?_ _) | (with_reducible refine BlkP.Blk.setAt (us := ?_) (by first | omega | (simp; done) | (simp; omega)) rfl ?_ ?_) | (with_reducible refine BlkP.Blk.otherAt ?_ (by first | omega | (simp; done) | (simp; omega))) | (with_reducible refine BlkP.Blk.newA' (by first | omega | (simp; done) | (simp; omega)) rfl) | (with_reducible refine BlkP.Blk.alloc ?_ _) | (exact rfl)))⟩ ?_
              rintro w6 ⟨hb6, hx6⟩
              try rw [hbx]
              have HB6 := Lib.hid (below_t HB9.out hb6)
              have HBR6 := Lib.hid (below_t HBR.out hb6)
              have HX6 := Lib.hid hx6
              have HN6 := Lib.hid (HN9.out.below hb6)
              have x0 := hx6.cell (i := 0) rfl
              have x1 := hx6.cell (i := 1) rfl
              have x2 := hx6.cell (i := 2) rfl
              have c0 := HN6.out.cell (i := 0) (g_kind n)
              have c1 := HN6.out.cell (i := 1) (g_lev n)
              rw [HS0.out] at c0 c1
              simp only at c0 c1
              have lx := hx6.lt
              have ls := HN6.out.lt
              clear hb6 hx6 p0 p1 p2 rl hbx r0
              have hz := HZ.out
              clear HZ
              subst hz
              go_wp2_with fail
              refine (KindW.k_may_b (b := true) hmay _ (HT.out.below HB6.out)).mono ?_
              rintro e w7 ⟨rfl, hb7⟩
              have HB7 := Lib.hid (below_t HB6.out hb7)
              have HBW := Lib.hid (below_t HBR6.out hb7)
              have x0 := (HX6.out.below hb7).cell (i := 0) rfl
              have x1 := (HX6.out.below hb7).cell (i := 1) rfl
              have x2 := (HX6.out.below hb7).cell (i := 2) rfl
              have lx := (HX6.out.below hb7).lt
              have hN7 := HN6.out.below hb7
              have ls := hN7.lt
              have c0 := hN7.cell (i := 0) (g_kind n)
              have c1 := hN7.cell (i := 1) (g_lev n)
              rw [HS0.out] at c0 c1
              simp only at c0 c1
              by_cases hkk : kk = k0
              · have hq : ((mm : Int) == (l0 : Int)) = false := by
                  have : mm ≠ l0 := fun q => hneq (by rw [hkk, q])
                  simp
                  omega
                subst hkk
                clear hmay hb7 hN7 hneq
                go_wp2_with fail
                go_roundw
                case rel => exact ⟨j + 1, by first | rfl | rw [HWR.out] | (congr 1; omega), by omega, HBW.out⟩
                case measure =>
                  simp only [intOf]
                  omega
              · have hq : ((kk : Int) == (k0 : Int)) = false := by simp; omega
                clear hmay hb7 hN7 hneq hkk
                go_wp2_with fail
                go_roundw
                case rel => exact ⟨j + 1, by first | rfl | rw [HWR.out] | (congr 1; omega), by omega, HBW.out⟩
                case measure =>
                  simp only [intOf]
                  omega
            · have hjI : ¬ (j : Int) < (m : Int) := by omega
              have hle : (m : Int) ≤ (j : Int) := by omega
              clear hbr
              go_wp2_with fail
              refine (works_c (HT.out.below HB9.out)).mono ?_
              rintro e w8 ⟨rfl, hb8⟩
              have HB8 := Lib.hid (below_t HB9.out hb8)
              clear hb8
              go_wp2_with fail
              go_ret
              exact ⟨by first | rfl | simp, HS.out ▸ HB8.out⟩
    · have hkI : ¬ (0 : Int) < (k : Int) := by omega
      have hkJ : ¬ (1 : Int) < (k : Int) := by omega
      have hmI : ¬ (0 : Int) < (m : Int) := by omega
      have hmJ : ¬ (1 : Int) < (m : Int) := by omega
      clear hk0 hm0
      have c0 := H5.out.cell (i := 0) (g_kind n)
      rw [HS0.out] at c0
      simp only at c0
      have ls := H5.out.lt
      go_wp2_with fail
      go_loopw [5, 6] (fun v5 _ wr => ∃ j : Nat, v5 = .int .i64 (j : Nat) ∧ j ≤ k ∧ Below w5.heap.size w5 wr) (fun v _ _ => k - (intOf v).toNat)
      case atStart => exact ⟨0, rfl, by omega, Below.refl _ _⟩
      case round =>
        obtain ⟨j, rfl, hj, hbr⟩ := hrel
        have HBR := Lib.hid hbr
        have HB9 := Lib.hid (below_t HB5.out hbr)
        have r0 := (HA5.out.below hbr).cell (i := 0) rfl
        have rl := (HA5.out.below hbr).lt
        by_cases hjl : j < k
        · have hjI : (j : Int) < (k : Int) := by omega
          have hj1 : (j : Int) < 100 := by omega
          have HWR := Lib.hid (show wrap64 ((j : Int) + 1) = ((j + 1 : Nat) : Int) by rw [wr64 (by omega) (by omega)]; omega)
          obtain ⟨⟨d1, kk, mm⟩, hx⟩ : ∃ x, L[j]? = some x := ⟨_, List.getElem?_eq_getElem (by rw [HK.out]; exact hjl)⟩
          have hok := HLO.out _ (List.mem_of_getElem? hx)
          obtain ⟨b1, o, hA, hlt, hc⟩ := (HO5.out.below hbr).at hx
          subst hA
          have p0 : wr.cell? ⟨b1, o + j * 3, none⟩ = some (.int .i64 (d1 : Int)) := hc 0 _ rfl
          have p1 : wr.cell? ⟨b1, o + j * 3 + 1, none⟩ = some (.int .u8 (kk : Int)) := hc 1 _ rfl
          have p2 : wr.cell? ⟨b1, o + j * 3 + 2, none⟩ = some (.int .u8 (mm : Int)) := hc 2 _ rfl
          have hN9 := H5.out.below hbr
          have HN9 := Lib.hid hN9
          have c0 := hN9.cell (i := 0) (g_kind n)
          have c1 := hN9.cell (i := 1) (g_lev n)
          rw [HS0.out] at c0 c1
          simp only at c0 c1
          have ls := hN9.lt
          obtain ⟨bx, hbx⟩ : ∃ b, wr.heap.size = b := ⟨_, rfl⟩
          rw [hbx] at hlt ls rl
          clear hbr hc hx hN9 hjl
          exfalso
          have := HN9
          omega
        · have hjI : ¬ (j : Int) < (k : Int) := by omega
          have hle : (k : Int) ≤ (j : Int) := by omega
          clear hbr
          go_wp2_with fail
          have HB5w := Lib.hid HB9.out
          have H5w := Lib.hid (H5.out.below HBR.out)
          have HP5w := Lib.hid (HP5.out.below HBR.out)
          have HQ5w := Lib.hid (HQ5.out.below HBR.out)
          obtain ⟨wz, hwz⟩ : ∃ z, z = wr := ⟨_, rfl⟩
          rw [← hwz] at HB5w H5w HP5w HQ5w
          rw [← hwz]
          clear HB9 HBR r0 rl hwz hle hjI hj
          go_loopw [7, 8] (fun v7 _ wr => ∃ j : Nat, v7 = .int .i64 (j : Nat) ∧ j ≤ m ∧ Below wz.heap.size wz wr) (fun v _ _ => m - (intOf v).toNat)
          case atStart => exact ⟨0, rfl, by omega, Below.refl _ _⟩
          case round =>
            obtain ⟨j, rfl, hj, hbr⟩ := hrel
            have HBR := Lib.hid hbr
            have HB9 := Lib.hid (below_t HB5w.out hbr)
            have r0 := (HQ5w.out.below hbr).cell (i := 0) rfl
            have rl := (HQ5w.out.below hbr).lt
            by_cases hjl : j < m
            · have hjI : (j : Int) < (m : Int) := by omega
              have hj1 : (j : Int) < 100 := by omega
              have HWR := Lib.hid (show wrap64 ((j : Int) + 1) = ((j + 1 : Nat) : Int) by rw [wr64 (by omega) (by omega)]; omega)
              obtain ⟨⟨d1, kk, mm⟩, hx⟩ : ∃ x, M[j]? = some x := ⟨_, List.getElem?_eq_getElem (by rw [HM.out]; exact hjl)⟩
              have hok := HMO.out _ (List.mem_of_getElem? hx)
              obtain ⟨b1, o, hA, hlt, hc⟩ := (HP5w.out.below hbr).at hx
              subst hA
              have p0 : wr.cell? ⟨b1, o + j * 3, none⟩ = some (.int .i64 (d1 : Int)) := hc 0 _ rfl
              have p1 : wr.cell? ⟨b1, o + j * 3 + 1, none⟩ = some (.int .u8 (kk : Int)) := hc 1 _ rfl
              have p2 : wr.cell? ⟨b1, o + j * 3 + 2, none⟩ = some (.int .u8 (mm : Int)) := hc 2 _ rfl
              have hN9 := H5w.out.below hbr
              have HN9 := Lib.hid hN9
              have c0 := hN9.cell (i := 0) (g_kind n)
              have c1 := hN9.cell (i := 1) (g_lev n)
              rw [HS0.out] at c0 c1
              simp only at c0 c1
              have ls := hN9.lt
              obtain ⟨bx, hbx⟩ : ∃ b, wr.heap.size = b := ⟨_, rfl⟩
              rw [hbx] at hlt ls rl
              clear hbr hc hx hN9 hjl
              exfalso
              have := HN9
              omega
            · have hjI : ¬ (j : Int) < (m : Int) := by omega
              have hle : (m : Int) ≤ (j : Int) := by omega
              clear hbr
              go_wp2_with fail
              refine (works_c (HT.out.below HB9.out)).mono ?_
              rintro e w8 ⟨rfl, hb8⟩
              have HB8 := Lib.hid (below_t HB9.out hb8)
              clear hb8
              go_wp2_with fail
              go_ret
              exact ⟨by first | rfl | simp, HS.out ▸ HB8.out⟩
end BurnW
end Go.Proofs.YtlidcefmpoelkaaDoor
