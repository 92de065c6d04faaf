/-
  FlowSoaks: only what soaks is changed, to water, and the water itself, to water or Air; each once.
-/
import Derived.Test.YtjdoglihebfamaaDoorFlowWorks
namespace Go.Proofs.YtjdoglihebfamaaDoor
open Go.RowKit
set_option linter.unusedVariables false
set_option linter.unusedSimpArgs false
namespace FlowW
open BlkP RowG FrS PushG FlowP
theorem soak_raw {c : Cl} (h : soak (sure c) = true) : KindP.soaks c.1 = true := by
  unfold sure at h
  split at h
  · exact h
  · exact absurd h (by decide)
/-- What a change is, of whatever is near. -/
theorem soaks_facts {n : Nr} {x : Nat × Cl} (h : x ∈ deed n) : n.s.1 = 13 ∧ KindP.may x.2.1 x.2.2 = true ∧
    ((0 < n.s.2 ∧ (deed n).length = 1 ∧ x = (0, (0, 0))) ∨ (0 < n.s.2 ∧ (deed n).length = 1 ∧ ∃ q, q ≠ n.s.2 ∧ x = (0, (13, q))) ∨
      ∃ d q, d < 6 ∧ d ≠ 4 ∧ x = (1 + d, (13, q)) ∧ 1 ≤ q ∧ KindP.soaks (n.sd d).1 = true) := by
  have hw := want_le (snd n)
  have may : ∀ q, q ≤ 7 → KindP.may 13 q = true := fun q hq => by
    simp [KindP.may, KindP.most, KindP.mosts, KindP.least, KindP.leasts]
    exact hq
  obtain ⟨h1, h2⟩ := deed_mem h
  obtain ⟨h3, h4, h5⟩ := wet_lev h1
  have hs : (snd n).s = n.s := h4
  rcases h2 with ⟨a1, a2, a3, rfl⟩ | ⟨a1, a2, a3, a4, rfl⟩ | ⟨a1, a2, rfl⟩ | ⟨a1, a2, a3, a4, d, hd, rfl, a5⟩
  · rw [hs] at a1
    exact ⟨h5, by decide, .inl ⟨a1, by rw [deed, a3]; rfl, rfl⟩⟩
  · rw [hs] at a1 a3
    exact ⟨h5, may _ hw, .inr (.inl ⟨a1, by rw [deed, a4]; rfl, _, fun e => a3 e.symm, rfl⟩)⟩
  · exact ⟨h5, by decide, .inr (.inr ⟨5, 1, by omega, by omega, rfl, by omega, soak_raw a1⟩)⟩
  · exact ⟨h5, may _ (show (snd n).s.2 + 1 ≤ 7 by omega), .inr (.inr ⟨d, _, by omega, by omega, rfl, by omega, soak_raw a5⟩)⟩
theorem up_next {l : List (Nat × Cl)} (h : l.Pairwise (fun a b => a.1 < b.1)) {j : Nat} {x y : Nat × Cl} (hx : l[j]? = some x) (hy : l[j + 1]? = some y) : x.1 < y.1 := by
  obtain ⟨h1, rfl⟩ := List.getElem?_eq_some_iff.1 hx
  obtain ⟨h2, rfl⟩ := List.getElem?_eq_some_iff.1 hy
  exact List.pairwise_iff_getElem.1 h j (j + 1) h1 h2 (by omega)
set_option maxRecDepth 100000 in
set_option maxHeartbeats 16000000 in
theorem law_soaks {w : World} (hT : KindW.Tab w) (n : Nr) : Calls Tryd.prog 6 #[nv n] w fun e w' => e = .returned (.bool true) ∧ Below w.heap.size w w' := by
  have HT := Lib.hid hT
  clear hT
  obtain ⟨⟨ks, ls⟩, hms⟩ : ∃ c, n.s = c := ⟨_, rfl⟩
  have HMS := Lib.hid hms
  clear hms
  go_enter Tryd.func6, Tryd.ntmps6
  go_wp2_with ((with_reducible refine at_slot 1 ?_); refine Classical.byContradiction (fun hG => ?_))
  refine hG ?_
  clear hG
  refine wp_boxN rfl (.tmp 0) rfl rfl ?_
  intro w1 h1 hb1 hz1
  obtain ⟨s, hs⟩ : ∃ s, w.heap.size = s := ⟨_, rfl⟩
  rw [hs] at h1 hz1
  rw [hs]
  have HB1 := Lib.hid hb1
  have H1 := Lib.hid h1
  have HS := Lib.hid hs
  clear h1 hb1 hz1 hs
  go_wp2_with ((with_reducible refine at_slot 7 ?_); refine Classical.byContradiction (fun hG => ?_))
  refine hG ?_
  clear hG
  refine wp_loadN rfl (.tmp 1) rfl rfl (n := n) H1.out ?_
  go_wp2_with fail
  refine (Next_c (HT.out.below HB1.out)).mono ?_
  rintro e w3 ⟨v, rfl, ho, hb3⟩
  have HB3 := Lib.hid (below_t HB1.out hb3)
  have H3 := Lib.hid (H1.out.below hb3)
  obtain ⟨l, hl⟩ : ∃ l, deed n = l := ⟨_, rfl⟩
  rw [hl] at ho
  obtain ⟨k, hk⟩ : ∃ k, l.length = k := ⟨_, rfl⟩
  obtain ⟨A, c, rfl, _, _, _⟩ := ho.form (n := k) hk
  have HR3 := Lib.hid ho.rd
  have HL := Lib.hid hl
  have HK := Lib.hid hk
  have hz3 := HB3.out.size
  have hk4 : k ≤ 4 := by
    rw [← hk, ← hl]
    exact deed_len (snd n)
  have hk4I : ¬ (4 : Int) < (k : Int) := by omega
  have HUP := Lib.hid (show l.Pairwise (fun a b => a.1 < b.1) from by rw [← hl]; exact deed_up (snd n))
  clear ho hb3 hl hk
  obtain ⟨D, hD⟩ : ∃ D, w3.heap.size = D := ⟨_, rfl⟩
  go_wp2_with ((with_reducible refine at_slot 9 ?_); refine Classical.byContradiction (fun hG => ?_))
  refine hG ?_
  clear hG
  refine list_named (S := fun W => Below w3.heap.size w3 W ∧ Blk W D TD [.slice A k c, .int .i64 0, .int .i64 0]) ⟨by (repeat' (first | (with_reducible exact Below.refl _ _) | (with_reducible refine Below.setCell ?_ (by (first | omega | (simp; done) | (simp; omega))) _) | (with_reducible refine Below.alloc ?_ (by (first | omega | (simp; done) | (simp; omega))) _) | (with_reducible refine Below.drew ?_) | (with_reducible refine below_drewN ?_ _))), by subst hD; (repeat' (first | (with_reducible refine BlkP.Blk.drew ?_) | (with_reducible refine BlkP.Blk.drewN ?_ _) | (with_reducible refine BlkP.Blk.setAt (us := ?_) (by first | omega | (simp; done) | (simp; omega)) rfl ?_ ?_) | (with_reducible refine BlkP.Blk.otherAt ?_ (by first | omega | (simp; done) | (simp; omega))) | (with_reducible refine BlkP.Blk.newA' (by first | omega | (simp; done) | (simp; omega)) rfl) | (with_reducible refine BlkP.Blk.alloc ?_ _) | (exact rfl)))⟩ ?_
  rintro w4 ⟨hb4, hd4⟩
  try rw [hD]
  have HB4 := Lib.hid (below_t HB3.out hb4)
  have H4 := Lib.hid (H3.out.below hb4)
  have HR4 := Lib.hid (HR3.out.below hb4)
  have HD4 := Lib.hid hd4
  have d0 := hd4.cell (i := 0) rfl
  have d1 := hd4.cell (i := 1) rfl
  have d2 := hd4.cell (i := 2) rfl
  have c0 := H4.out.cell (i := 0) (g_kind n)
  rw [HMS.out] at c0
  clear hb4 hd4 hz3 hD
  by_cases hk0 : k = 0
  · subst hk0
    go_wp2_with fail
    clear c0 d0 d1 d2
    go_loopw [4, 5] (fun v4 v5 wr => ∃ (j : Nat) (W : Int), v4 = .int .i64 W ∧ v5 = .int .i64 (j : Nat) ∧ j ≤ 0 ∧ (∀ x, l[j]? = some x → W < (x.1 : Int)) ∧ Below w4.heap.size w4 wr) (fun _ v _ => 0 - (intOf v).toNat)
    case atStart => exact ⟨0, -1, rfl, rfl, by omega, fun x _ => by omega, Below.refl _ _⟩
    case round =>
      obtain ⟨j, W, rfl, rfl, hj, hW, hbr⟩ := hrel
      have HBR := Lib.hid hbr
      have HD := Lib.hid (HD4.out.below hbr)
      have HN := Lib.hid (H4.out.below hbr)
      have d0 := HD.out.cell (i := 0) rfl
      have hjI : ¬ (j : Int) < 0 := by omega
      clear hW hbr
      go_wp2_with fail
      refine (works_c (HT.out.below (below_t HB4.out HBR.out))).mono ?_
      rintro e w6 ⟨rfl, hb6⟩
      have HB6 := Lib.hid (below_t (below_t HB4.out HBR.out) hb6)
      clear hb6
      go_wp2_with fail
      go_ret
      exact ⟨rfl, HB6.out⟩
  · have hk0I : (0 : Int) < (k : Int) := by omega
    have hks13 : ks = 13 := by
      obtain ⟨x, hx⟩ : ∃ x, l[0]? = some x := ⟨_, List.getElem?_eq_getElem (by rw [HK.out]; omega)⟩
      have f1 := (soaks_facts (n := n) (x := x) (by rw [HL.out]; exact List.mem_of_getElem? hx)).1
      rw [HMS.out] at f1
      exact f1
    rw [hks13] at c0
    have c0 : w4.cell? ⟨s, 0, none⟩ = some (.int .u8 13) := c0
    clear hks13
    go_wp2_with fail
    clear c0 d0 d1 d2
    go_loopw [4, 5] (fun v4 v5 wr => ∃ (j : Nat) (W : Int), v4 = .int .i64 W ∧ v5 = .int .i64 (j : Nat) ∧ j ≤ k ∧ (∀ x, l[j]? = some x → W < (x.1 : Int)) ∧ Below w4.heap.size w4 wr) (fun _ v _ => k - (intOf v).toNat)
    case atStart => exact ⟨0, -1, rfl, rfl, by omega, fun x _ => by omega, Below.refl _ _⟩
    case round =>
      obtain ⟨j, W, rfl, rfl, hj, hW, hbr⟩ := hrel
      have HBR := Lib.hid hbr
      have HD := Lib.hid (HD4.out.below hbr)
      have HN := Lib.hid (H4.out.below hbr)
      have d0 := HD.out.cell (i := 0) rfl
      by_cases hjl : j < k
      · have hjI : (j : Int) < (k : Int) := by omega
        have hj4 : j < 4 := by omega
        have hj4I : (j : Int) < 4 := by omega
        have HWR := Lib.hid (show wrap64 ((j : Int) + 1) = ((j + 1 : Nat) : Int) by rw [wr64 (by omega) (by omega)]; omega)
        obtain ⟨⟨xd, xk, xm⟩, hx⟩ : ∃ x, l[j]? = some x := ⟨_, List.getElem?_eq_getElem (by rw [HK.out]; exact hjl)⟩
        have hWx := hW _ hx
        simp only at hWx
        obtain ⟨b, o, hA, hlt, hc⟩ := (HR4.out.below hbr).at hx
        subst hA
        have x0 : wr.cell? ⟨b, o + j * 3, none⟩ = some (.int .i64 (xd : Int)) := hc 0 _ rfl
        have x1 : wr.cell? ⟨b, o + j * 3 + 1, none⟩ = some (.int .u8 (xk : Int)) := hc 1 _ rfl
        have x2 : wr.cell? ⟨b, o + j * 3 + 2, none⟩ = some (.int .u8 (xm : Int)) := hc 2 _ rfl
        have hmem : (xd, (xk, xm)) ∈ deed n := by rw [HL.out]; exact List.mem_of_getElem? hx
        obtain ⟨f1, f2, f3⟩ := soaks_facts hmem
        have f2' : KindP.may xk xm = true := f2
        have HMAY := Lib.hid f2'
        have HNX := Lib.hid (show ∀ x, l[j + 1]? = some x → (xd : Int) < (x.1 : Int) from fun y hy => by
          have := up_next HUP.out hx hy
          simp only at this
          omega)
        have hW6 : ¬ (6 : Int) < (xd : Int) := by
          rcases f3 with ⟨_, _, e⟩ | ⟨_, _, q, _, e⟩ | ⟨d, q, hd, _, e, _⟩
          · injection e with e _
            omega
          · injection e with e _
            omega
          · injection e with e _
            omega
        have hWx2 : ¬ (xd : Int) ≤ W := by omega
        have hks : ks = 13 := by rw [HMS.out] at f1; exact f1
        have HX := Lib.hid hx
        have z4 := HB4.out.size
        have zr := hbr.size
        clear hc hmem hW hWx f1 f2 f2' hx
        go_wp2_with fail
        refine (KindW.k_may_b HMAY.out _ (HT.out.below (by (repeat' (first | (with_reducible exact Below.refl _ _) | (with_reducible refine Below.setCell ?_ (by (first | omega | (simp; done) | (simp; omega))) _) | (with_reducible refine Below.alloc ?_ (by (first | omega | (simp; done) | (simp; omega))) _) | (with_reducible refine Below.drew ?_) | (with_reducible refine below_drewN ?_ _) | (with_reducible refine Below.trans ?_ (Below.mono HB4.out (by (first | omega | (simp; done) | (simp; omega))))) | (with_reducible refine Below.trans ?_ (Below.mono hbr (by (first | omega | (simp; done) | (simp; omega)))))))))).mono ?_
        rintro e w5 ⟨rfl, hb5⟩
        have HB5 := Lib.hid (show Below w4.heap.size w4 w5 by (repeat' (first | (with_reducible exact Below.refl _ _) | (with_reducible refine Below.setCell ?_ (by (first | omega | (simp; done) | (simp; omega))) _) | (with_reducible refine Below.alloc ?_ (by (first | omega | (simp; done) | (simp; omega))) _) | (with_reducible refine Below.drew ?_) | (with_reducible refine below_drewN ?_ _) | (with_reducible refine Below.trans ?_ (Below.mono hbr (by (first | omega | (simp; done) | (simp; omega))))) | (with_reducible refine Below.trans ?_ (Below.mono hb5 (by (first | omega | (simp; done) | (simp; omega))))))))
        have HX5 := Lib.hid (show Blk w5 wr.heap.size TX [.int .i64 (xd : Int), .int .u8 (xk : Int), .int .u8 (xm : Int)] from Blk.below (by (repeat' (first | (with_reducible refine BlkP.Blk.drew ?_) | (with_reducible refine BlkP.Blk.drewN ?_ _) | (with_reducible refine BlkP.Blk.setAt (us := ?_) (by first | omega | (simp; done) | (simp; omega)) rfl ?_ ?_) | (with_reducible refine BlkP.Blk.otherAt ?_ (by first | omega | (simp; done) | (simp; omega))) | (with_reducible refine BlkP.Blk.newA' (by first | omega | (simp; done) | (simp; omega)) rfl) | (with_reducible refine BlkP.Blk.alloc ?_ _) | (exact rfl)))) hb5)
        have p0 := HX5.out.cell (i := 0) rfl
        have p1 := HX5.out.cell (i := 1) rfl
        have p2 := HX5.out.cell (i := 2) rfl
        have e0 := (HD4.out.below HB5.out).cell (i := 0) rfl
        clear x0 x1 x2 hbr hb5 d0 z4 zr
        rcases f3 with ⟨g1, g2, e⟩ | ⟨g1, g2, q, g3, e⟩ | ⟨d, q, hd, hd4, e, hq1, hso⟩
        · injection e with e1 e2
          injection e2 with e2 e3
          subst e1 e2 e3
          have s0 := (H4.out.below HB5.out).cell (i := 0) (g_kind n)
          have s1 := (H4.out.below HB5.out).cell (i := 1) (g_lev n)
          rw [HMS.out] at s0 s1
          simp only at s0 s1
          subst hks
          rw [HMS.out] at g1
          simp only at g1
          have hlsI : ((ls : Int) == 0) = false := by simp; omega
          have hkI : ((k : Int) != 1) = false := by
            rw [HL.out, HK.out] at g2
            simp
            omega
          clear g1 g2
          go_wp2_with fail
          go_roundw
          case rel => exact ⟨j + 1, 0, by first | rfl | simp, by first | rfl | rw [HWR.out] | (congr 1; omega), by omega, HNX.out, HB5.out⟩
          case measure =>
            simp only [intOf]
            omega
        · injection e with e1 e2
          injection e2 with e2 e3
          subst e1 e2 e3
          have s0 := (H4.out.below HB5.out).cell (i := 0) (g_kind n)
          have s1 := (H4.out.below HB5.out).cell (i := 1) (g_lev n)
          rw [HMS.out] at s0 s1
          simp only at s0 s1
          subst hks
          rw [HMS.out] at g1
          simp only at g1
          have hlsI : ((ls : Int) == 0) = false := by simp; omega
          have hkI : ((k : Int) != 1) = false := by
            rw [HL.out, HK.out] at g2
            simp
            omega
          rw [HMS.out] at g3
          simp only at g3
          have hxl : ((xm : Int) == (ls : Int)) = false := by simp; omega
          clear g1 g2 g3
          go_wp2_with fail
          go_roundw
          case rel => exact ⟨j + 1, 0, by first | rfl | simp, by first | rfl | rw [HWR.out] | (congr 1; omega), by omega, HNX.out, HB5.out⟩
          case measure =>
            simp only [intOf]
            omega
        · injection e with e1 e2
          injection e2 with e2 e3
          subst e1 e2 e3
          have hi0 : (((1 + d : Nat) : Int) == 0) = false := by simp; omega
          have hi5 : (((1 + d : Nat) : Int) == 5) = false := by simp; omega
          have hi1 : ((1 + d : Nat) : Int) - 1 = (d : Int) := by omega
          have hm0 : ((xm : Int) == 0) = false := by simp; omega
          have hdI : (d : Int) < 6 := by omega
          obtain ⟨⟨kd, ld⟩, hcd⟩ : ∃ c, n.sd d = c := ⟨_, rfl⟩
          have s0 := (H4.out.below HB5.out).cell (g_sk n (d := d) hd)
          rw [hcd] at hso s0
          simp only at hso s0
          have HSO := Lib.hid hso
          obtain ⟨i1, hi⟩ : ∃ i1, 1 + d = i1 := ⟨_, rfl⟩
          rw [hi] at hi0 hi5 hi1 p0 hW6 hWx2
          have HI := Lib.hid hi
          have HNX' := Lib.hid (show ∀ x, l[j + 1]? = some x → (i1 : Int) < (x.1 : Int) from by rw [← hi]; exact HNX.out)
          simp only [hi]
          clear hso hcd hd4 hq1 hi
          go_wp2_with fail
          refine (soaks_b HSO.out _ (HT.out.below (below_t HB4.out HB5.out))).mono ?_
          rintro e w6 ⟨rfl, hb6⟩
          have HB6 := Lib.hid (below_t HB5.out hb6)
          have HX6 := Lib.hid (HX5.out.below hb6)
          have p0 := HX6.out.cell (i := 0) rfl
          have p1 := HX6.out.cell (i := 1) rfl
          have p2 := HX6.out.cell (i := 2) rfl
          rw [HI.out] at p0
          clear hb6 s0 e0
          go_wp2_with fail
          go_roundw
          case rel => exact ⟨j + 1, (i1 : Int), by first | rfl | simp, by first | rfl | rw [HWR.out] | (congr 1; omega), by omega, HNX'.out, HB6.out⟩
          case measure =>
            simp only [intOf]
            omega
      · have hjI : ¬ (j : Int) < (k : Int) := by omega
        clear hW hbr
        go_wp2_with fail
        refine (works_c (HT.out.below (below_t HB4.out HBR.out))).mono ?_
        rintro e w6 ⟨rfl, hb6⟩
        have HB6 := Lib.hid (below_t (below_t HB4.out HBR.out) hb6)
        clear hb6
        go_wp2_with fail
        go_ret
        exact ⟨rfl, HB6.out⟩
end FlowW
end Go.Proofs.YtjdoglihebfamaaDoor
