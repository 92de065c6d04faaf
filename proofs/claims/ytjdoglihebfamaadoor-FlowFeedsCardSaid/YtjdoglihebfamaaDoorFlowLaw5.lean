/-
  FlowFeeds: what water gives to a side, that side then wants, or a lesser level.
-/
import Derived.Test.YtjdoglihebfamaaDoorFlowWorks
namespace Go.Proofs.YtjdoglihebfamaaDoor
open Go.RowKit
set_option linter.unusedVariables false
set_option linter.unusedSimpArgs false
namespace FlowW
open BlkP RowG FrS PushG FlowP
theorem dir_facts {n : Nr} {x : Nat × Cl} (h : x ∈ deed n) : x.1 = 0 ∨ x.1 = 6 ∨ x.1 = 1 ∨ x.1 = 2 ∨ x.1 = 3 ∨ x.1 = 4 := by
  obtain ⟨_, ⟨_, _, _, rfl⟩ | ⟨_, _, _, _, rfl⟩ | ⟨_, _, rfl⟩ | ⟨_, _, _, _, d, hd, rfl, _⟩⟩ := deed_mem h
  · exact .inl rfl
  · exact .inl rfl
  · exact .inr (.inl rfl)
  · simp only
    omega
set_option maxRecDepth 100000 in
set_option maxHeartbeats 32000000 in
theorem law_feeds {w : World} (hT : KindW.Tab w) (n side : Nr) : Calls Tryd.prog 7 #[nv n, nv side] w fun e w' => e = .returned (.bool true) ∧ Below w.heap.size w w' := by
  have HT := Lib.hid hT
  clear hT
  obtain ⟨⟨ks, ls⟩, hms⟩ : ∃ c, n.s = c := ⟨_, rfl⟩
  obtain ⟨⟨k5, l5⟩, hm5⟩ : ∃ c, n.sd 5 = c := ⟨_, rfl⟩
  have HMS := Lib.hid hms
  have HM5 := Lib.hid hm5
  clear hms hm5
  go_enter Tryd.func7, Tryd.ntmps7
  go_wp2_with ((with_reducible refine at_slot 2 ?_); refine Classical.byContradiction (fun hG => ?_))
  refine hG ?_
  clear hG
  refine wp_boxN rfl (.tmp 0) rfl rfl ?_
  intro w0 h0 hb0 hz0
  go_wp2_with ((with_reducible refine at_slot 3 ?_); refine Classical.byContradiction (fun hG => ?_))
  refine hG ?_
  clear hG
  refine wp_boxN rfl (.tmp 1) rfl rfl ?_
  intro w1 h1 hb1 hz1
  obtain ⟨s, hs⟩ : ∃ s, w.heap.size = s := ⟨_, rfl⟩
  rw [hz0, hs] at h1
  rw [hs] at h0
  have HB1 := Lib.hid (below_t hb0 hb1)
  have H1 := Lib.hid (h0.below hb1)
  have G1 := Lib.hid h1
  have HS := Lib.hid hs
  rw [hz0, hs]
  have hz1' : w1.heap.size = s + 2 := by rw [hz1, hz0, hs]
  clear h0 hb0 h1 hb1 hz1 hz0 hs
  go_wp2_with ((with_reducible refine at_slot 14 ?_); refine Classical.byContradiction (fun hG => ?_))
  refine hG ?_
  clear hG
  refine wp_loadN rfl (.tmp 2) rfl rfl (n := n) H1.out ?_
  go_wp2_with fail
  refine (Next_c (HT.out.below HB1.out)).mono ?_
  rintro e w3 ⟨v, rfl, ho, hb3⟩
  have HB3 := Lib.hid (below_t HB1.out hb3)
  have H3 := Lib.hid (H1.out.below hb3)
  have G3 := Lib.hid (G1.out.below hb3)
  obtain ⟨l, hl⟩ : ∃ l, deed n = l := ⟨_, rfl⟩
  rw [hl] at ho
  obtain ⟨k, hk⟩ : ∃ k, l.length = k := ⟨_, rfl⟩
  obtain ⟨A, c, rfl, _, _, _⟩ := ho.form (n := k) hk
  have HR3 := Lib.hid ho.rd
  have HL := Lib.hid hl
  have HK := Lib.hid hk
  have hz3 := HB3.out.size
  have hk4 : k ≤ 4 := by
    rw [← hk, ← hl]
    exact deed_len (snd n)
  have hk4I : (k : Int) ≤ 4 := by omega
  clear ho hb3 hl hk hz1'
  go_wp2_with fail
  obtain ⟨D, hD⟩ : ∃ D, w3.heap.size = D := ⟨_, rfl⟩
  refine HeldP.wp_named (S := fun W => Below w3.heap.size w3 W ∧ Blk W D TD [.slice A k c, .int .i64 0, .int .i64 0]) ⟨by (repeat' (first | (with_reducible exact Below.refl _ _) | (with_reducible refine Below.setCell ?_ (by (first | omega | (simp; done) | (simp; omega))) _) | (with_reducible refine Below.alloc ?_ (by (first | omega | (simp; done) | (simp; omega))) _) | (with_reducible refine Below.drew ?_) | (with_reducible refine below_drewN ?_ _))), by subst hD; (repeat' (first | (with_reducible refine BlkP.Blk.drew ?_) | (with_reducible refine BlkP.Blk.drewN ?_ _) | (with_reducible refine BlkP.Blk.setAt (us := ?_) (by first | omega | (simp; done) | (simp; omega)) rfl ?_ ?_) | (with_reducible refine BlkP.Blk.otherAt ?_ (by first | omega | (simp; done) | (simp; omega))) | (with_reducible refine BlkP.Blk.newA' (by first | omega | (simp; done) | (simp; omega)) rfl) | (with_reducible refine BlkP.Blk.alloc ?_ _) | (exact rfl)))⟩ ?_
  rintro w4 ⟨hb4, hd4⟩
  try rw [hD]
  have HB4 := Lib.hid (below_t HB3.out hb4)
  have H4 := Lib.hid (H3.out.below hb4)
  have G4 := Lib.hid (G3.out.below hb4)
  have HR4 := Lib.hid (HR3.out.below hb4)
  have HD4 := Lib.hid hd4
  clear hb4 hd4 hz3 hD
  go_loopw [6] (fun v6 wr => ∃ j : Nat, v6 = .int .i64 (j : Nat) ∧ j ≤ k ∧ Below w4.heap.size w4 wr) (fun v _ => k - (intOf v).toNat)
  case atStart => exact ⟨0, rfl, by omega, Below.refl _ _⟩
  case round =>
    obtain ⟨j, rfl, hj, hbr⟩ := hrel
    have HBR := Lib.hid hbr
    have HD := Lib.hid (HD4.out.below hbr)
    have d0 := HD.out.cell (i := 0) rfl
    by_cases hjl : j < k
    · have hjI : (j : Int) < (k : Int) := by omega
      have hj4 : j < 4 := by omega
      have hj4I : (j : Int) < 4 := by omega
      have HWR := Lib.hid (show wrap64 ((j : Int) + 1) = ((j + 1 : Nat) : Int) by rw [wr64 (by omega) (by omega)]; omega)
      obtain ⟨⟨xd, xk, xm⟩, hx⟩ : ∃ x, l[j]? = some x := ⟨_, List.getElem?_eq_getElem (by rw [HK.out]; exact hjl)⟩
      obtain ⟨b, o, hA, hlt, hc⟩ := (HR4.out.below hbr).at hx
      subst hA
      have x0 : wr.cell? ⟨b, o + j * 3, none⟩ = some (.int .i64 (xd : Int)) := hc 0 _ rfl
      have x1 : wr.cell? ⟨b, o + j * 3 + 1, none⟩ = some (.int .u8 (xk : Int)) := hc 1 _ rfl
      have x2 : wr.cell? ⟨b, o + j * 3 + 2, none⟩ = some (.int .u8 (xm : Int)) := hc 2 _ rfl
      have hmem : (xd, (xk, xm)) ∈ deed n := by rw [HL.out]; exact List.mem_of_getElem? hx
      have HMEM := Lib.hid hmem
      have hdir := dir_facts hmem
      simp only at hdir
      have HDIR := Lib.hid hdir
      have z4 := HB4.out.size
      have zr := hbr.size
      clear hc hmem hx hdir
      go_wp2_with ((with_reducible refine at_slot 28 ?_); refine Classical.byContradiction (fun hG => ?_))
      refine hG ?_
      clear hG
      obtain ⟨X, hX⟩ : ∃ X, wr.heap.size = X := ⟨_, rfl⟩
      refine list_named (S := fun W => Below w4.heap.size w4 W ∧ Blk W X TX [.int .i64 (xd : Int), .int .u8 (xk : Int), .int .u8 (xm : Int)] ∧ X < W.heap.size) ⟨by (repeat' (first | (with_reducible exact Below.refl _ _) | (with_reducible refine Below.setCell ?_ (by (first | omega | (simp; done) | (simp; omega))) _) | (with_reducible refine Below.alloc ?_ (by (first | omega | (simp; done) | (simp; omega))) _) | (with_reducible refine Below.drew ?_) | (with_reducible refine below_drewN ?_ _) | (with_reducible refine Below.trans ?_ (Below.mono hbr (by (first | omega | (simp; done) | (simp; omega))))))), by subst hX; (repeat' (first | (with_reducible refine BlkP.Blk.drew ?_) | (with_reducible refine BlkP.Blk.drewN ?_ _) | (with_reducible refine BlkP.Blk.setAt (us := ?_) (by first | omega | (simp; done) | (simp; omega)) rfl ?_ ?_) | (with_reducible refine BlkP.Blk.otherAt ?_ (by first | omega | (simp; done) | (simp; omega))) | (with_reducible refine BlkP.Blk.newA' (by first | omega | (simp; done) | (simp; omega)) rfl) | (with_reducible refine BlkP.Blk.alloc ?_ _) | (exact rfl))), by simp; omega⟩ ?_
      rintro w5 ⟨hb5, hx5, hl5⟩
      try rw [hX]
      have HB5 := Lib.hid hb5
      have HX5 := Lib.hid hx5
      have HLX := Lib.hid (show D < X ∧ s + 2 ≤ X ∧ X < w5.heap.size from ⟨by rw [← hX]; exact HD.out.lt, by rw [← hX]; have := (G4.out.below hbr).lt; omega, hl5⟩)
      clear x0 x1 x2 hbr hb5 hx5 d0 z4 zr hX hl5
      refine wp_loadN rfl (.tmp 3) rfl rfl (n := side) (G4.out.below HB5.out) ?_
      go_wp2_with ((with_reducible refine at_storeN ?_); refine Classical.byContradiction (fun hG => ?_))
      refine hG ?_
      clear hG
      obtain ⟨M, hM⟩ : ∃ M, w5.heap.size = M := ⟨_, rfl⟩
      have z4 := HB4.out.size
      have z5 := HB5.out.size
      refine list_named (S := fun W => Below w4.heap.size w4 W ∧ Blk W X TX [.int .i64 (xd : Int), .int .u8 (xk : Int), .int .u8 (xm : Int)] ∧ Blk W M TN (vals nz)) ⟨by (repeat' (first | (with_reducible exact Below.refl _ _) | (with_reducible refine Below.setCell ?_ (by (first | omega | (simp; done) | (simp; omega))) _) | (with_reducible refine Below.alloc ?_ (by (first | omega | (simp; done) | (simp; omega))) _) | (with_reducible refine Below.drew ?_) | (with_reducible refine below_drewN ?_ _) | (with_reducible refine Below.trans ?_ (Below.mono HB5.out (by (first | omega | (simp; done) | (simp; omega))))))), by (repeat' (first | (with_reducible exact HX5.out) | (with_reducible refine BlkP.Blk.drew ?_) | (with_reducible refine BlkP.Blk.drewN ?_ _) | (with_reducible refine BlkP.Blk.setAt (us := ?_) (by first | omega | (simp; done) | (simp; omega)) rfl ?_ ?_) | (with_reducible refine BlkP.Blk.otherAt ?_ (by first | omega | (simp; done) | (simp; omega))) | (with_reducible refine BlkP.Blk.newA' (by first | omega | (simp; done) | (simp; omega)) rfl) | (with_reducible refine BlkP.Blk.alloc ?_ _) | (exact rfl))), by subst hM; (repeat' (first | (with_reducible refine BlkP.Blk.drew ?_) | (with_reducible refine BlkP.Blk.drewN ?_ _) | (with_reducible refine BlkP.Blk.setAt (us := ?_) (by first | omega | (simp; done) | (simp; omega)) rfl ?_ ?_) | (with_reducible refine BlkP.Blk.otherAt ?_ (by first | omega | (simp; done) | (simp; omega))) | (with_reducible refine BlkP.Blk.newA' (by first | omega | (simp; done) | (simp; omega)) rfl) | (with_reducible refine BlkP.Blk.alloc ?_ _) | (exact rfl)))⟩ ?_
      rintro w6 ⟨hb6, hx6, hm6⟩
      try rw [hM]
      refine wp_storeN rfl (.tmp 8) (.tmp 28) rfl rfl rfl hm6 rfl ?_
      intro w7 h7 hg7 hz7
      have HLM := Lib.hid (show X < M ∧ w4.heap.size ≤ M from ⟨by rw [← hM]; exact HLX.out.2.2, by rw [← hM]; exact z5⟩)
      have HB7 := Lib.hid (show Below w4.heap.size w4 w7 from hb6.grown hg7 (by have := hb6.size; omega) (fun k hk => by injection hk with hk; have := HLM.out; omega))
      have HX7 := Lib.hid (hx6.grown hg7 (by have := HLM.out; simp; omega))
      have HM7 := Lib.hid h7
      have p0 := HX7.out.cell (i := 0) rfl
      have p1 := HX7.out.cell (i := 1) rfl
      have p2 := HX7.out.cell (i := 2) rfl
      clear hb6 hx6 hm6 h7 hg7 hz7 hM z4 z5
      have e0 := (HD4.out.below HB7.out).cell (i := 0) rfl
      have q0 : w7.cell? ⟨s, 0, none⟩ = some (.int .u8 (ks : Int)) := by
        have q := (H4.out.below HB7.out).cell (i := 0) (g_kind n)
        rw [HMS.out] at q
        exact q
      have q1 : w7.cell? ⟨s, 1, none⟩ = some (.int .u8 (ls : Int)) := by
        have q := (H4.out.below HB7.out).cell (i := 1) (g_lev n)
        rw [HMS.out] at q
        exact q
      have r0 : w7.cell? ⟨s, 12, none⟩ = some (.int .u8 (k5 : Int)) := by
        have q := (H4.out.below HB7.out).cell (g_sk n (d := 5) (by omega))
        rw [HM5.out] at q
        exact q
      have r1 : w7.cell? ⟨s, 13, none⟩ = some (.int .u8 (l5 : Int)) := by
        have q := (H4.out.below HB7.out).cell (g_sl n (d := 5) (by omega))
        rw [HM5.out] at q
        exact q
      have sM : s ≠ M := by have h1 := HLM.out; have h2 := HLX.out; omega
      have sD : D ≠ M := by have h1 := HLM.out; have h2 := HLX.out; omega
      have sX : X ≠ M := by have h1 := HLM.out; omega
      rcases HDIR.out with hd | hd | hd | hd | hd | hd
      · have hdI : (xd : Int) = 0 := by omega
        go_wp2_with fail
        go_roundw
        case rel => exact ⟨j + 1, by first | rfl | rw [HWR.out] | (congr 1; omega), by omega, HB7.out⟩
        case measure =>
          simp only [intOf]
          omega
      · have hdI : (xd : Int) = 6 := by omega
        have f10 := HM7.out.frozen 10
        have f11 := HM7.out.frozen 11
        have m10 : w7.cell? ⟨M, 10, none⟩ = some (.int .u8 ((side.sd 4).1 : Int)) := HM7.out.cell (g_sk side (d := 4) (by omega))
        have m11 : w7.cell? ⟨M, 11, none⟩ = some (.int .u8 ((side.sd 4).2 : Int)) := HM7.out.cell (g_sl side (d := 4) (by omega))
        go_wp2_with ((with_reducible refine at_slot 40 ?_); refine Classical.byContradiction (fun hG => ?_))
        refine hG ?_
        clear hG
        refine list_named (S := fun W => Below w4.heap.size w4 W ∧ Blk W X TX [.int .i64 (xd : Int), .int .u8 (xk : Int), .int .u8 (xm : Int)] ∧ Blk W M TN (vals {side with sd := upd side.sd 4 n.s})) ⟨(HB7.out.setCell (by have := HLM.out; simp; omega) _).setCell (by have := HLM.out; simp; omega) _, (HX7.out.other (by simpa using sX) _).other (by simpa using sX) _, by rw [← set_side side (d := 4) (by omega) n.s, HMS.out]; exact (HM7.out.set _ _).set _ _⟩ ?_
        rintro w8 ⟨hb8, hx8, hm8⟩
        have HB8 := Lib.hid hb8
        have HX8 := Lib.hid hx8
        have HM8 := Lib.hid hm8
        clear p0 p1 p2 e0 q0 q1 r0 r1 hb8 hx8 hm8
        refine wp_loadN rfl (.tmp 8) rfl rfl (n := {side with sd := upd side.sd 4 n.s}) HM8.out ?_
        go_wp2_with fail
        refine (Want_c (HT.out.below (below_t HB4.out HB8.out))).mono ?_
        rintro e w9 ⟨rfl, hb9⟩
        have HB9 := Lib.hid (below_t HB8.out hb9)
        have HX9 := Lib.hid (HX8.out.below hb9)
        have p0 := HX9.out.cell (i := 0) rfl
        have p1 := HX9.out.cell (i := 1) rfl
        have p2 := HX9.out.cell (i := 2) rfl
        have e0 := (HD4.out.below HB9.out).cell (i := 0) rfl
        clear hb9
        have hfd := feeds_down (n := n) (m := side) HMEM.out (by simp only; omega)
        have hxm : xm = 1 := hfd.2
        rw [hfd.1]
        have hxmI : ((1 : Int) != (xm : Int)) = false := by
          simp
          omega
        clear hfd hxm
        go_wp2_with fail
        go_roundw
        case rel => exact ⟨j + 1, by first | rfl | rw [HWR.out] | (congr 1; omega), by omega, HB9.out⟩
        case measure =>
          simp only [intOf]
          omega
      · have hdI : (xd : Int) = 1 := by omega
        have f4 := HM7.out.frozen 4
        have f5 := HM7.out.frozen 5
        have f16 := HM7.out.frozen 16
        have f17 := HM7.out.frozen 17
        have m4 : w7.cell? ⟨M, 4, none⟩ = some (.int .u8 ((side.sd 1).1 : Int)) := HM7.out.cell (g_sk side (d := 1) (by omega))
        have m5 : w7.cell? ⟨M, 5, none⟩ = some (.int .u8 ((side.sd 1).2 : Int)) := HM7.out.cell (g_sl side (d := 1) (by omega))
        have m16 : w7.cell? ⟨M, 16, none⟩ = some (.int .u8 ((side.un 1).1 : Int)) := HM7.out.cell (g_uk side (d := 1) (by omega))
        have m17 : w7.cell? ⟨M, 17, none⟩ = some (.int .u8 ((side.un 1).2 : Int)) := HM7.out.cell (g_ul side (d := 1) (by omega))
        go_wp2_with ((with_reducible refine at_slot 75 ?_); refine Classical.byContradiction (fun hG => ?_))
        refine hG ?_
        clear hG
        refine list_named (S := fun W => Below w4.heap.size w4 W ∧ Blk W X TX [.int .i64 (xd : Int), .int .u8 (xk : Int), .int .u8 (xm : Int)] ∧ Blk W M TN (vals {side with sd := upd side.sd 1 n.s, un := upd side.un 1 (n.sd 5)})) ⟨(((HB7.out.setCell (by have := HLM.out; simp; omega) _).setCell (by have := HLM.out; simp; omega) _).setCell (by have := HLM.out; simp; omega) _).setCell (by have := HLM.out; simp; omega) _, (((HX7.out.other (by simpa using sX) _).other (by simpa using sX) _).other (by simpa using sX) _).other (by simpa using sX) _, by
          have e1 := set_side side (d := 1) (by omega) n.s
          have e2 := set_under {side with sd := upd side.sd 1 n.s} (d := 1) (by omega) (n.sd 5)
          rw [← e2, ← e1, HMS.out, HM5.out]
          exact (((HM7.out.set _ _).set _ _).set _ _).set _ _⟩ ?_
        rintro w8 ⟨hb8, hx8, hm8⟩
        have HB8 := Lib.hid hb8
        have HX8 := Lib.hid hx8
        have HM8 := Lib.hid hm8
        clear p0 p1 p2 e0 q0 q1 r0 r1 hb8 hx8 hm8
        refine wp_loadN rfl (.tmp 8) rfl rfl (n := {side with sd := upd side.sd 1 n.s, un := upd side.un 1 (n.sd 5)}) HM8.out ?_
        go_wp2_with fail
        refine (Want_c (HT.out.below (below_t HB4.out HB8.out))).mono ?_
        rintro e w9 ⟨rfl, hb9⟩
        have HB9 := Lib.hid (below_t HB8.out hb9)
        have HX9 := Lib.hid (HX8.out.below hb9)
        have p0 := HX9.out.cell (i := 0) rfl
        have p1 := HX9.out.cell (i := 1) rfl
        have p2 := HX9.out.cell (i := 2) rfl
        have e0 := (HD4.out.below HB9.out).cell (i := 0) rfl
        clear hb9
        obtain ⟨hf1, hf2⟩ := feeds_side (n := n) (m := side) HMEM.out (d := 0) (back := 1) (by omega) (by simp only; omega) (by omega)
        obtain ⟨⟨wl, wb⟩, hwt⟩ : ∃ x, want {side with sd := upd side.sd 1 n.s, un := upd side.un 1 (n.sd 5)} = x := ⟨_, rfl⟩
        rw [hwt] at hf1 hf2
        rw [hwt]
        simp only at hf1 hf2
        subst hf1
        have hle : ¬ (xm : Int) < (wl : Int) := by omega
        clear hf2 hwt
        go_wp2_with fail
        go_roundw
        case rel => exact ⟨j + 1, by first | rfl | rw [HWR.out] | (congr 1; omega), by omega, HB9.out⟩
        case measure =>
          simp only [intOf]
          omega
      · have hdI : (xd : Int) = 2 := by omega
        have f2 := HM7.out.frozen 2
        have f3 := HM7.out.frozen 3
        have f14 := HM7.out.frozen 14
        have f15 := HM7.out.frozen 15
        have m2 : w7.cell? ⟨M, 2, none⟩ = some (.int .u8 ((side.sd 0).1 : Int)) := HM7.out.cell (g_sk side (d := 0) (by omega))
        have m3 : w7.cell? ⟨M, 3, none⟩ = some (.int .u8 ((side.sd 0).2 : Int)) := HM7.out.cell (g_sl side (d := 0) (by omega))
        have m14 : w7.cell? ⟨M, 14, none⟩ = some (.int .u8 ((side.un 0).1 : Int)) := HM7.out.cell (g_uk side (d := 0) (by omega))
        have m15 : w7.cell? ⟨M, 15, none⟩ = some (.int .u8 ((side.un 0).2 : Int)) := HM7.out.cell (g_ul side (d := 0) (by omega))
        go_wp2_with ((with_reducible refine at_slot 75 ?_); refine Classical.byContradiction (fun hG => ?_))
        refine hG ?_
        clear hG
        refine list_named (S := fun W => Below w4.heap.size w4 W ∧ Blk W X TX [.int .i64 (xd : Int), .int .u8 (xk : Int), .int .u8 (xm : Int)] ∧ Blk W M TN (vals {side with sd := upd side.sd 0 n.s, un := upd side.un 0 (n.sd 5)})) ⟨(((HB7.out.setCell (by have := HLM.out; simp; omega) _).setCell (by have := HLM.out; simp; omega) _).setCell (by have := HLM.out; simp; omega) _).setCell (by have := HLM.out; simp; omega) _, (((HX7.out.other (by simpa using sX) _).other (by simpa using sX) _).other (by simpa using sX) _).other (by simpa using sX) _, by
          have e1 := set_side side (d := 0) (by omega) n.s
          have e2 := set_under {side with sd := upd side.sd 0 n.s} (d := 0) (by omega) (n.sd 5)
          rw [← e2, ← e1, HMS.out, HM5.out]
          exact (((HM7.out.set _ _).set _ _).set _ _).set _ _⟩ ?_
        rintro w8 ⟨hb8, hx8, hm8⟩
        have HB8 := Lib.hid hb8
        have HX8 := Lib.hid hx8
        have HM8 := Lib.hid hm8
        clear p0 p1 p2 e0 q0 q1 r0 r1 hb8 hx8 hm8
        refine wp_loadN rfl (.tmp 8) rfl rfl (n := {side with sd := upd side.sd 0 n.s, un := upd side.un 0 (n.sd 5)}) HM8.out ?_
        go_wp2_with fail
        refine (Want_c (HT.out.below (below_t HB4.out HB8.out))).mono ?_
        rintro e w9 ⟨rfl, hb9⟩
        have HB9 := Lib.hid (below_t HB8.out hb9)
        have HX9 := Lib.hid (HX8.out.below hb9)
        have p0 := HX9.out.cell (i := 0) rfl
        have p1 := HX9.out.cell (i := 1) rfl
        have p2 := HX9.out.cell (i := 2) rfl
        have e0 := (HD4.out.below HB9.out).cell (i := 0) rfl
        clear hb9
        obtain ⟨hf1, hf2⟩ := feeds_side (n := n) (m := side) HMEM.out (d := 1) (back := 0) (by omega) (by simp only; omega) (by omega)
        obtain ⟨⟨wl, wb⟩, hwt⟩ : ∃ x, want {side with sd := upd side.sd 0 n.s, un := upd side.un 0 (n.sd 5)} = x := ⟨_, rfl⟩
        rw [hwt] at hf1 hf2
        rw [hwt]
        simp only at hf1 hf2
        subst hf1
        have hle : ¬ (xm : Int) < (wl : Int) := by omega
        clear hf2 hwt
        go_wp2_with fail
        go_roundw
        case rel => exact ⟨j + 1, by first | rfl | rw [HWR.out] | (congr 1; omega), by omega, HB9.out⟩
        case measure =>
          simp only [intOf]
          omega
      · have hdI : (xd : Int) = 3 := by omega
        have f8 := HM7.out.frozen 8
        have f9 := HM7.out.frozen 9
        have f20 := HM7.out.frozen 20
        have f21 := HM7.out.frozen 21
        have m8 : w7.cell? ⟨M, 8, none⟩ = some (.int .u8 ((side.sd 3).1 : Int)) := HM7.out.cell (g_sk side (d := 3) (by omega))
        have m9 : w7.cell? ⟨M, 9, none⟩ = some (.int .u8 ((side.sd 3).2 : Int)) := HM7.out.cell (g_sl side (d := 3) (by omega))
        have m20 : w7.cell? ⟨M, 20, none⟩ = some (.int .u8 ((side.un 3).1 : Int)) := HM7.out.cell (g_uk side (d := 3) (by omega))
        have m21 : w7.cell? ⟨M, 21, none⟩ = some (.int .u8 ((side.un 3).2 : Int)) := HM7.out.cell (g_ul side (d := 3) (by omega))
        go_wp2_with ((with_reducible refine at_slot 75 ?_); refine Classical.byContradiction (fun hG => ?_))
        refine hG ?_
        clear hG
        refine list_named (S := fun W => Below w4.heap.size w4 W ∧ Blk W X TX [.int .i64 (xd : Int), .int .u8 (xk : Int), .int .u8 (xm : Int)] ∧ Blk W M TN (vals {side with sd := upd side.sd 3 n.s, un := upd side.un 3 (n.sd 5)})) ⟨(((HB7.out.setCell (by have := HLM.out; simp; omega) _).setCell (by have := HLM.out; simp; omega) _).setCell (by have := HLM.out; simp; omega) _).setCell (by have := HLM.out; simp; omega) _, (((HX7.out.other (by simpa using sX) _).other (by simpa using sX) _).other (by simpa using sX) _).other (by simpa using sX) _, by
          have e1 := set_side side (d := 3) (by omega) n.s
          have e2 := set_under {side with sd := upd side.sd 3 n.s} (d := 3) (by omega) (n.sd 5)
          rw [← e2, ← e1, HMS.out, HM5.out]
          exact (((HM7.out.set _ _).set _ _).set _ _).set _ _⟩ ?_
        rintro w8 ⟨hb8, hx8, hm8⟩
        have HB8 := Lib.hid hb8
        have HX8 := Lib.hid hx8
        have HM8 := Lib.hid hm8
        clear p0 p1 p2 e0 q0 q1 r0 r1 hb8 hx8 hm8
        refine wp_loadN rfl (.tmp 8) rfl rfl (n := {side with sd := upd side.sd 3 n.s, un := upd side.un 3 (n.sd 5)}) HM8.out ?_
        go_wp2_with fail
        refine (Want_c (HT.out.below (below_t HB4.out HB8.out))).mono ?_
        rintro e w9 ⟨rfl, hb9⟩
        have HB9 := Lib.hid (below_t HB8.out hb9)
        have HX9 := Lib.hid (HX8.out.below hb9)
        have p0 := HX9.out.cell (i := 0) rfl
        have p1 := HX9.out.cell (i := 1) rfl
        have p2 := HX9.out.cell (i := 2) rfl
        have e0 := (HD4.out.below HB9.out).cell (i := 0) rfl
        clear hb9
        obtain ⟨hf1, hf2⟩ := feeds_side (n := n) (m := side) HMEM.out (d := 2) (back := 3) (by omega) (by simp only; omega) (by omega)
        obtain ⟨⟨wl, wb⟩, hwt⟩ : ∃ x, want {side with sd := upd side.sd 3 n.s, un := upd side.un 3 (n.sd 5)} = x := ⟨_, rfl⟩
        rw [hwt] at hf1 hf2
        rw [hwt]
        simp only at hf1 hf2
        subst hf1
        have hle : ¬ (xm : Int) < (wl : Int) := by omega
        clear hf2 hwt
        go_wp2_with fail
        go_roundw
        case rel => exact ⟨j + 1, by first | rfl | rw [HWR.out] | (congr 1; omega), by omega, HB9.out⟩
        case measure =>
          simp only [intOf]
          omega
      · have hdI : (xd : Int) = 4 := by omega
        have f6 := HM7.out.frozen 6
        have f7 := HM7.out.frozen 7
        have f18 := HM7.out.frozen 18
        have f19 := HM7.out.frozen 19
        have m6 : w7.cell? ⟨M, 6, none⟩ = some (.int .u8 ((side.sd 2).1 : Int)) := HM7.out.cell (g_sk side (d := 2) (by omega))
        have m7 : w7.cell? ⟨M, 7, none⟩ = some (.int .u8 ((side.sd 2).2 : Int)) := HM7.out.cell (g_sl side (d := 2) (by omega))
        have m18 : w7.cell? ⟨M, 18, none⟩ = some (.int .u8 ((side.un 2).1 : Int)) := HM7.out.cell (g_uk side (d := 2) (by omega))
        have m19 : w7.cell? ⟨M, 19, none⟩ = some (.int .u8 ((side.un 2).2 : Int)) := HM7.out.cell (g_ul side (d := 2) (by omega))
        go_wp2_with ((with_reducible refine at_slot 75 ?_); refine Classical.byContradiction (fun hG => ?_))
        refine hG ?_
        clear hG
        refine list_named (S := fun W => Below w4.heap.size w4 W ∧ Blk W X TX [.int .i64 (xd : Int), .int .u8 (xk : Int), .int .u8 (xm : Int)] ∧ Blk W M TN (vals {side with sd := upd side.sd 2 n.s, un := upd side.un 2 (n.sd 5)})) ⟨(((HB7.out.setCell (by have := HLM.out; simp; omega) _).setCell (by have := HLM.out; simp; omega) _).setCell (by have := HLM.out; simp; omega) _).setCell (by have := HLM.out; simp; omega) _, (((HX7.out.other (by simpa using sX) _).other (by simpa using sX) _).other (by simpa using sX) _).other (by simpa using sX) _, by
          have e1 := set_side side (d := 2) (by omega) n.s
          have e2 := set_under {side with sd := upd side.sd 2 n.s} (d := 2) (by omega) (n.sd 5)
          rw [← e2, ← e1, HMS.out, HM5.out]
          exact (((HM7.out.set _ _).set _ _).set _ _).set _ _⟩ ?_
        rintro w8 ⟨hb8, hx8, hm8⟩
        have HB8 := Lib.hid hb8
        have HX8 := Lib.hid hx8
        have HM8 := Lib.hid hm8
        clear p0 p1 p2 e0 q0 q1 r0 r1 hb8 hx8 hm8
        refine wp_loadN rfl (.tmp 8) rfl rfl (n := {side with sd := upd side.sd 2 n.s, un := upd side.un 2 (n.sd 5)}) HM8.out ?_
        go_wp2_with fail
        refine (Want_c (HT.out.below (below_t HB4.out HB8.out))).mono ?_
        rintro e w9 ⟨rfl, hb9⟩
        have HB9 := Lib.hid (below_t HB8.out hb9)
        have HX9 := Lib.hid (HX8.out.below hb9)
        have p0 := HX9.out.cell (i := 0) rfl
        have p1 := HX9.out.cell (i := 1) rfl
        have p2 := HX9.out.cell (i := 2) rfl
        have e0 := (HD4.out.below HB9.out).cell (i := 0) rfl
        clear hb9
        obtain ⟨hf1, hf2⟩ := feeds_side (n := n) (m := side) HMEM.out (d := 3) (back := 2) (by omega) (by simp only; omega) (by omega)
        obtain ⟨⟨wl, wb⟩, hwt⟩ : ∃ x, want {side with sd := upd side.sd 2 n.s, un := upd side.un 2 (n.sd 5)} = x := ⟨_, rfl⟩
        rw [hwt] at hf1 hf2
        rw [hwt]
        simp only at hf1 hf2
        subst hf1
        have hle : ¬ (xm : Int) < (wl : Int) := by omega
        clear hf2 hwt
        go_wp2_with fail
        go_roundw
        case rel => exact ⟨j + 1, by first | rfl | rw [HWR.out] | (congr 1; omega), by omega, HB9.out⟩
        case measure =>
          simp only [intOf]
          omega
    · have hjI : ¬ (j : Int) < (k : Int) := by omega
      clear hbr
      go_wp2_with fail
      refine (works_c (HT.out.below (below_t HB4.out HBR.out))).mono ?_
      rintro e w6 ⟨rfl, hb6⟩
      have HB6 := Lib.hid (below_t (below_t HB4.out HBR.out) hb6)
      clear hb6
      go_wp2_with fail
      go_ret
      exact ⟨rfl, HB6.out⟩
end FlowW
end Go.Proofs.YtjdoglihebfamaaDoor
