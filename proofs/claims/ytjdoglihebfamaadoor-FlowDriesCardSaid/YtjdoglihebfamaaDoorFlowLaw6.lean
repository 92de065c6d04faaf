/-
  FlowStays: a source is never changed; flowing water is, just if the place wants another level, or none.
-/
import Derived.Test.YtjdoglihebfamaaDoorFlowWorks
namespace Go.Proofs.YtjdoglihebfamaaDoor
open Go.RowKit
set_option linter.unusedVariables false
set_option linter.unusedSimpArgs false
namespace FlowW
open BlkP RowG FrS PushG FlowP
theorem spread_pos {m : Nr} {x : Nat × Cl} {r : List (Nat × Cl)} (h : spreadS m = x :: r) : 1 ≤ x.1 ∧ x.1 ≤ 6 := by
  have hx : x ∈ spreadS m := by rw [h]; simp
  unfold spreadS at hx
  split at hx
  · obtain rfl : x = _ := by simpa using hx
    simp
  · split at hx
    · cases hx
    · obtain ⟨d, hd, rfl, _⟩ := goes_mem 4 hx
      simp only
      omega
theorem stays_sure {l : Nat} (h : l < 8) : sure (13, l) = (13, l) := sure_of (by
  simp [KindP.may, KindP.most, KindP.mosts, KindP.least, KindP.leasts]
  omega)
set_option maxRecDepth 100000 in
set_option maxHeartbeats 16000000 in
theorem law_stays {w : World} (hT : KindW.Tab w) (n : Nr) (level : Nat) : Calls Tryd.prog 8 #[nv n, .int .u8 (level : Int)] w fun e w' => e = .returned (.bool true) ∧ Below w.heap.size w w' := by
  have HT := Lib.hid hT
  clear hT
  obtain ⟨lev, hlev⟩ : ∃ x, level % 8 = x := ⟨_, rfl⟩
  have hmod : (level : Int).tmod 8 = (lev : Int) := by
    rw [Int.tmod_eq_emod_of_nonneg (by omega)]
    omega
  have h8 : lev < 8 := by omega
  have H8 := Lib.hid h8
  obtain ⟨n', hn'⟩ : ∃ n', {n with s := (13, lev)} = n' := ⟨_, rfl⟩
  have HN' := Lib.hid hn'
  obtain ⟨m, hm⟩ : ∃ m, snd n' = m := ⟨_, rfl⟩
  have HM := Lib.hid hm
  have HMS := Lib.hid (show m.s = (13, lev) from by
    rw [← hm, ← hn']
    exact stays_sure h8)
  clear hlev hm h8
  go_enter Tryd.func8, Tryd.ntmps8
  go_wp2_with ((with_reducible refine at_slot 2 ?_); refine Classical.byContradiction (fun hG => ?_))
  refine hG ?_
  clear hG
  refine wp_boxN rfl (.tmp 0) rfl rfl ?_
  intro w1 h1 hb1 hz1
  obtain ⟨s, hs⟩ : ∃ s, w.heap.size = s := ⟨_, rfl⟩
  rw [hs] at h1 hz1
  rw [hs]
  have c0 := h1.cell (i := 0) (g_kind n)
  have c1 := h1.cell (i := 1) (g_lev n)
  have f0 := h1.frozen 0
  have f1 := h1.frozen 1
  go_wp2_with ((with_reducible refine at_slot 13 ?_); refine Classical.byContradiction (fun hG => ?_))
  refine hG ?_
  clear hG
  refine list_named (S := fun W => Below w.heap.size w W ∧ Blk W s TN (vals n')) ⟨by (repeat' (first | (with_reducible exact Below.refl _ _) | (with_reducible refine Below.setCell ?_ (by (first | omega | (simp; done) | (simp; omega))) _) | (with_reducible refine Below.alloc ?_ (by (first | omega | (simp; done) | (simp; omega))) _) | (with_reducible refine Below.drew ?_) | (with_reducible refine below_drewN ?_ _) | (with_reducible refine Below.trans ?_ (Below.mono hb1 (by (first | omega | (simp; done) | (simp; omega))))))), by rw [← hn', ← set_s n (13, lev)]; exact (h1.set 0 _).set 1 _⟩ ?_
  rintro w2 ⟨hb2, h2⟩
  have HB2 := Lib.hid hb2
  have H2 := Lib.hid h2
  have HS := Lib.hid hs
  clear h1 hb1 hz1 c0 c1 f0 f1 hb2 h2 hn'
  refine wp_loadN rfl (.tmp 2) rfl rfl (n := n') H2.out ?_
  go_wp2_with fail
  refine (Next_c (HT.out.below HB2.out)).mono ?_
  rintro e w3 ⟨v, rfl, ho, hb3⟩
  have HB3 := Lib.hid (below_t HB2.out hb3)
  have H3 := Lib.hid (H2.out.below hb3)
  obtain ⟨l, hl⟩ : ∃ l, deed n' = l := ⟨_, rfl⟩
  rw [hl] at ho
  obtain ⟨k, hk⟩ : ∃ k, l.length = k := ⟨_, rfl⟩
  obtain ⟨A, c, rfl, _, _, _⟩ := ho.form (n := k) hk
  have HR3 := Lib.hid ho.rd
  have HL := Lib.hid hl
  have HK := Lib.hid hk
  have hz3 := HB3.out.size
  clear ho hb3 hl hk
  go_wp2_with ((with_reducible refine at_slot 16 ?_); refine Classical.byContradiction (fun hG => ?_))
  refine hG ?_
  clear hG
  obtain ⟨D, hD⟩ : ∃ D, w3.heap.size = D := ⟨_, rfl⟩
  refine list_named (S := fun W => Below w3.heap.size w3 W ∧ Blk W D TD [.slice A k c, .int .i64 0, .int .i64 0]) ⟨by (repeat' (first | (with_reducible exact Below.refl _ _) | (with_reducible refine Below.setCell ?_ (by (first | omega | (simp; done) | (simp; omega))) _) | (with_reducible refine Below.alloc ?_ (by (first | omega | (simp; done) | (simp; omega))) _) | (with_reducible refine Below.drew ?_) | (with_reducible refine below_drewN ?_ _))), by subst hD; (repeat' (first | (with_reducible refine BlkP.Blk.drew ?_) | (with_reducible refine BlkP.Blk.drewN ?_ _) | (with_reducible refine BlkP.Blk.setAt (us := ?_) (by first | omega | (simp; done) | (simp; omega)) rfl ?_ ?_) | (with_reducible refine BlkP.Blk.otherAt ?_ (by first | omega | (simp; done) | (simp; omega))) | (with_reducible refine BlkP.Blk.newA' (by first | omega | (simp; done) | (simp; omega)) rfl) | (with_reducible refine BlkP.Blk.alloc ?_ _) | (exact rfl)))⟩ ?_
  rintro w4 ⟨hb4, hd4⟩
  rw [hD]
  have HB4 := Lib.hid (below_t HB3.out hb4)
  have H4 := Lib.hid (H3.out.below hb4)
  have HR4 := Lib.hid (HR3.out.below hb4)
  have HD4 := Lib.hid hd4
  clear hb4 hd4 hz3 hD hs
  refine wp_loadN rfl (.tmp 2) rfl rfl (n := n') H4.out ?_
  go_wp2_with fail
  refine (Want_c (HT.out.below HB4.out)).mono ?_
  rintro e w5 ⟨rfl, hb5⟩
  have HB5 := Lib.hid (below_t HB4.out hb5)
  have HR5 := Lib.hid (HR4.out.below hb5)
  have HD5 := Lib.hid (HD4.out.below hb5)
  have d0 := HD5.out.cell (i := 0) rfl
  clear hb5
  rw [show want n' = wantS m from by rw [← HM.out]; rfl]
  obtain ⟨⟨wl, wb⟩, hwt⟩ : ∃ x, wantS m = x := ⟨_, rfl⟩
  rw [hwt]
  have HWT := Lib.hid hwt
  have HDS := Lib.hid (show deed n' = deedS m from by rw [← HM.out]; rfl)
  have HWET := Lib.hid (show wet m.s = true from by rw [HMS.out]; rfl)
  clear hwt
  by_cases h0 : lev = 0
  · subst h0
    have HE := Lib.hid (show deedS m = spreadS m from by
      rw [deedS, if_pos HWET.out, if_neg (by rw [HMS.out]; simp), if_neg (by rw [HMS.out]; simp)])
    cases hsp : spreadS m with
    | nil =>
      have HK0 := Lib.hid (show k = 0 from by rw [← HK.out, ← HL.out, HDS.out, HE.out, hsp]; rfl)
      obtain rfl : k = 0 := HK0.out
      clear hsp
      go_wp2_with fail
      refine (works_c (HT.out.below HB5.out)).mono ?_
      rintro e w6 ⟨rfl, hb6⟩
      have HB6 := Lib.hid (below_t HB5.out hb6)
      clear hb6
      go_wp2_with fail
      go_ret
      exact ⟨rfl, HB6.out⟩
    | cons x r =>
      obtain ⟨xd, xk, xm⟩ := x
      have hx1 := spread_pos hsp
      simp only at hx1
      have hk0 : 0 < k := by rw [← HK.out, ← HL.out, HDS.out, HE.out, hsp]; simp
      have hk0I : (0 : Int) < (k : Int) := by omega
      have hxd : ((xd : Int) == 0) = false := by simp; omega
      obtain ⟨b, o, hA, _, hc⟩ := HR5.out.at (i := 0) (x := (xd, (xk, xm))) (by rw [← HL.out, HDS.out, HE.out, hsp]; rfl)
      subst hA
      have x0 : w5.cell? ⟨b, o, none⟩ = some (.int .i64 ((xd : Nat) : Int)) := by simpa using hc 0 _ rfl
      have x1 : w5.cell? ⟨b, o + 1, none⟩ = some (.int .u8 ((xk : Nat) : Int)) := by simpa [encX] using hc 1 _ rfl
      have x2 : w5.cell? ⟨b, o + 2, none⟩ = some (.int .u8 ((xm : Nat) : Int)) := by simpa [encX] using hc 2 _ rfl
      clear hc
      clear hsp hx1
      go_wp2_with fail
      refine (works_c (HT.out.below HB5.out)).mono ?_
      rintro e w6 ⟨rfl, hb6⟩
      have HB6 := Lib.hid (below_t HB5.out hb6)
      clear hb6
      go_wp2_with fail
      go_ret
      exact ⟨rfl, HB6.out⟩
  · have h0I : ((lev : Int) == 0) = false := by simp; omega
    have h0p : 0 < lev := by omega
    cases wb with
    | false =>
      have HE := Lib.hid (show deedS m = [(0, (0, 0))] from by
        rw [deedS, if_pos HWET.out, if_pos ⟨by rw [HMS.out]; exact h0p, by rw [HWT.out]⟩])
      have HK0 := Lib.hid (show k = 1 from by rw [← HK.out, ← HL.out, HDS.out, HE.out]; rfl)
      obtain rfl : k = 1 := HK0.out
      obtain ⟨b, o, hA, _, hc⟩ := HR5.out.at (i := 0) (x := (0, (0, 0))) (by rw [← HL.out, HDS.out, HE.out]; rfl)
      subst hA
      have x0 : w5.cell? ⟨b, o, none⟩ = some (.int .i64 ((0 : Nat) : Int)) := by simpa using hc 0 _ rfl
      have x1 : w5.cell? ⟨b, o + 1, none⟩ = some (.int .u8 ((0 : Nat) : Int)) := by simpa [encX] using hc 1 _ rfl
      have x2 : w5.cell? ⟨b, o + 2, none⟩ = some (.int .u8 ((0 : Nat) : Int)) := by simpa [encX] using hc 2 _ rfl
      clear hc
      go_wp2_with fail
      refine (works_c (HT.out.below HB5.out)).mono ?_
      rintro e w6 ⟨rfl, hb6⟩
      have HB6 := Lib.hid (below_t HB5.out hb6)
      clear hb6
      go_wp2_with fail
      go_ret
      exact ⟨rfl, HB6.out⟩
    | true =>
      by_cases hl : wl = lev
      · subst hl
        have HE := Lib.hid (show deedS m = spreadS m from by
          rw [deedS, if_pos HWET.out, if_neg (by rw [HWT.out]; simp), if_neg (by rw [HWT.out, HMS.out]; simp)])
        cases hsp : spreadS m with
        | nil =>
          have HK0 := Lib.hid (show k = 0 from by rw [← HK.out, ← HL.out, HDS.out, HE.out, hsp]; rfl)
          obtain rfl : k = 0 := HK0.out
          clear hsp
          go_wp2_with fail
          refine (works_c (HT.out.below HB5.out)).mono ?_
          rintro e w6 ⟨rfl, hb6⟩
          have HB6 := Lib.hid (below_t HB5.out hb6)
          clear hb6
          go_wp2_with fail
          go_ret
          exact ⟨rfl, HB6.out⟩
        | cons x r =>
          obtain ⟨xd, xk, xm⟩ := x
          have hx1 := spread_pos hsp
          simp only at hx1
          have hk0 : 0 < k := by rw [← HK.out, ← HL.out, HDS.out, HE.out, hsp]; simp
          have hk0I : (0 : Int) < (k : Int) := by omega
          have hxd : ((xd : Int) == 0) = false := by simp; omega
          obtain ⟨b, o, hA, _, hc⟩ := HR5.out.at (i := 0) (x := (xd, (xk, xm))) (by rw [← HL.out, HDS.out, HE.out, hsp]; rfl)
          subst hA
          have x0 : w5.cell? ⟨b, o, none⟩ = some (.int .i64 ((xd : Nat) : Int)) := by simpa using hc 0 _ rfl
          have x1 : w5.cell? ⟨b, o + 1, none⟩ = some (.int .u8 ((xk : Nat) : Int)) := by simpa [encX] using hc 1 _ rfl
          have x2 : w5.cell? ⟨b, o + 2, none⟩ = some (.int .u8 ((xm : Nat) : Int)) := by simpa [encX] using hc 2 _ rfl
          clear hc
          clear hsp hx1
          go_wp2_with fail
          refine (works_c (HT.out.below HB5.out)).mono ?_
          rintro e w6 ⟨rfl, hb6⟩
          have HB6 := Lib.hid (below_t HB5.out hb6)
          clear hb6
          go_wp2_with fail
          go_ret
          exact ⟨rfl, HB6.out⟩
      · have hlI : ((wl : Int) != (lev : Int)) = true := by
          rw [bne_iff_ne]
          omega
        have HE := Lib.hid (show deedS m = [(0, (13, wl))] from by
          rw [deedS, if_pos HWET.out, if_neg (by rw [HWT.out]; simp), if_pos ⟨by rw [HMS.out]; exact h0p, by rw [HWT.out, HMS.out]; exact fun e => hl e.symm⟩, HWT.out])
        have HK0 := Lib.hid (show k = 1 from by rw [← HK.out, ← HL.out, HDS.out, HE.out]; rfl)
        obtain rfl : k = 1 := HK0.out
        obtain ⟨b, o, hA, _, hc⟩ := HR5.out.at (i := 0) (x := (0, (13, wl))) (by rw [← HL.out, HDS.out, HE.out]; rfl)
        subst hA
        have x0 : w5.cell? ⟨b, o, none⟩ = some (.int .i64 ((0 : Nat) : Int)) := by simpa using hc 0 _ rfl
        have x1 : w5.cell? ⟨b, o + 1, none⟩ = some (.int .u8 ((13 : Nat) : Int)) := by simpa [encX] using hc 1 _ rfl
        have x2 : w5.cell? ⟨b, o + 2, none⟩ = some (.int .u8 ((wl : Nat) : Int)) := by simpa [encX] using hc 2 _ rfl
        clear hc
        go_wp2_with fail
        refine (works_c (HT.out.below HB5.out)).mono ?_
        rintro e w6 ⟨rfl, hb6⟩
        have HB6 := Lib.hid (below_t HB5.out hb6)
        clear hb6
        go_wp2_with fail
        go_ret
        exact ⟨rfl, HB6.out⟩
end FlowW
end Go.Proofs.YtjdoglihebfamaaDoor
