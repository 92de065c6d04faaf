/-
  ChunkKnown: the chapter's examples.
-/
import Derived.LaidEql
import Derived.Test.YtiodbbdibkeniaaDoorChunkBad
import Derived.Test.YtiodbbdibkeniaaDoorChunkLawSame
namespace Go.Proofs.YtiodbbdibkeniaaDoor
open Go.RowKit
set_option linter.unusedVariables false
set_option linter.unusedSimpArgs false
namespace ChunkW
open BytesW PackW
theorem not_tick {C L : List Cell} {v : Value} {x : Int} {i : Nat} (hv : ∀ x : Int, v ≠ .int .i64 x) : (ckV C L v)[i]? ≠ some (.int .i64 x) := fun h => by
  have hm := List.mem_of_getElem? h
  simp only [ckV, List.mem_append, List.mem_cons, List.not_mem_nil, or_false] at hm
  have aux : ∀ D : List Cell, (.int .i64 x : Value) ∉ flatP cv D := fun D hD => by
    obtain ⟨y, _, hy⟩ := List.mem_flatMap.1 hD
    simp only [cv, bv, List.mem_cons, List.not_mem_nil, or_false] at hy
    rcases hy with hy | hy <;> cases hy
  rcases hm with hm | hm | hm
  · exact aux _ hm
  · exact aux _ hm
  · exact hv x hm.symm
theorem setKind {w : World} {p j : Nat} {k : Ck} {c : Cell} {x : UInt8} (h : ChkK w p k) (hj : j < 4096) (hc : k.cs[j]? = some c) : ChkK (w.setCell ⟨p, j * 2, none⟩ (bv x)) p ⟨k.cs.set j (x, c.2), k.ls, k.ts⟩ := by
  obtain ⟨A, tc, h1, h2, h3, h4, h5⟩ := h
  have e : (ckV k.cs k.ls (.slice A k.ts.length tc)).set (j * 2) (bv x) = ckV (k.cs.set j (x, c.2)) k.ls (.slice A k.ts.length tc) := by
    rw [← ckV_setC (c := (x, c.2)) h1.2.1 hj]
    have hg := (ckV_c (L := k.ls) (v := .slice A k.ts.length tc) h1.2.1 hc).2
    obtain ⟨g1, g2⟩ := List.getElem?_eq_some_iff.1 hg
    have g3 : ((ckV k.cs k.ls (.slice A k.ts.length tc)).set (j * 2) (bv x))[j * 2 + 1]? = some (bv c.2) := by
      rw [List.getElem?_set_ne (by omega), hg]
    obtain ⟨g4, g5⟩ := List.getElem?_eq_some_iff.1 g3
    have e2 := List.set_getElem_self g4
    rw [g5] at e2
    exact e2.symm
  refine ⟨A, tc, ⟨?_, by simpa using h1.2.1, h1.2.2⟩, fun hl => ?_, h3, h4, h5⟩
  · rw [heap_set h1.1, ← e]
    simp
  · obtain ⟨b, o, e1, hb, hcs⟩ := h2 hl
    have hne : b ≠ p := fun e2 => by
      obtain ⟨t, ht⟩ : ∃ t, k.ts[0]? = some t := ⟨_, List.getElem?_eq_getElem (List.length_pos_iff.2 hl)⟩
      have := (hcs 0 t ht).1
      rw [e2, h1.cell] at this
      exact not_tick (fun x hx => by cases hx) this
    refine ⟨b, o, e1, by rw [heap_setSz]; exact hb, fun i t ht => ?_⟩
    have hg := grown_set w p (j * 2) (bv x)
    exact ⟨cellG (hcs i t ht).1 hb hne hg, cellG (hcs i t ht).2 hb hne hg⟩
set_option maxRecDepth 100000 in
set_option maxHeartbeats 8000000 in
theorem law_known {w : World} (hT : KindW.Tab w) : Calls Tryd.prog 6 #[] w fun e w' => e = .returned (.bool true) ∧ Below w.heap.size w w' := by
  have HT := Lib.hid hT
  have w1e : wakeT [] 9 5 = [(9, 5)] := by decide
  have w2e : wakeT [(9, 5)] 3 7 = [(3, 7), (9, 5)] := by decide
  have w3e : wakeT [(3, 7), (9, 5)] 9 6 = [(3, 7), (9, 5)] := by decide
  have w4e : wakeT [(3, 7), (9, 5)] 9 4 = [(3, 7), (9, 4)] := by decide
  have w5e : wakeT [(3, 7), (9, 4)] 4096 1 = [(3, 7), (9, 4)] := by decide
  have w6e : wakeT [(3, 7), (9, 4)] 1 0 = [(3, 7), (9, 4)] := by decide
  have d1e : dropT [(3, 7), (9, 4)] 9 = [(3, 7)] := by decide
  have d2e : dropT [(3, 7)] 9 = [(3, 7)] := by decide
  have r1e : readyT [(3, 7), (9, 4)] 3 = [] := by decide
  have r2e : readyT [(3, 7), (9, 4)] 7 = [(9, 4), (3, 7)] := by decide
  have v1e : movN zeros = 0 := by kernel_rfl
  have v2e : movN ((zeros.set 0 (2, 0)).set 4095 (9, 0)) = 2 := by kernel_rfl
  have W1 := Lib.hid w1e
  have W2 := Lib.hid w2e
  have W3 := Lib.hid w3e
  have W4 := Lib.hid w4e
  have W5 := Lib.hid w5e
  have W6 := Lib.hid w6e
  have D1 := Lib.hid d1e
  have D2 := Lib.hid d2e
  have R1 := Lib.hid r1e
  have R2 := Lib.hid r2e
  have V1 := Lib.hid v1e
  have V2 := Lib.hid v2e
  clear hT w1e w2e w3e w4e w5e w6e d1e d2e r1e r2e v1e v2e
  go_enter Tryd.func6, Tryd.ntmps6
  go_wp2_with fail
  go_at_call 29
  refine (new_c).mono ?_
  rintro e w1 ⟨rfl, hk1, hz1, hb1⟩
  obtain ⟨p, hp⟩ : ∃ p, p = w.heap.size := ⟨_, rfl⟩
  rw [← hp] at hk1 ⊢
  have HP : Hid (w.heap.size ≤ p) := Lib.hid (by omega)
  have HB1 := Lib.hid hb1
  have Hp1 := Lib.hid (ChkK.new7 hk1)
  clear hp hk1 hz1 hb1
  go_wp2_with fail
  go_at_call 9
  refine (awake_c (HT.out.below HB1.out)).mono ?_
  rintro e w2 ⟨rfl, hb⟩
  have Hp2 := Lib.hid (Hp1.out.below hb)
  have HB2 := Lib.hid (below_t HB1.out hb)
  clear hb
  go_wp2_with fail
  go_at_call 11
  refine (check_nil).mono ?_
  rintro e w' ⟨rfl, hw⟩
  subst w'
  go_wp2_with fail
  go_at_call 29
  refine (new_c).mono ?_
  rintro e w3 ⟨rfl, hk1, hz1, hb⟩
  obtain ⟨q, hq⟩ : ∃ q, q = w2.heap.size := ⟨_, rfl⟩
  rw [← hq] at hk1 ⊢
  have Hq3 := Lib.hid (ChkK.new7 hk1)
  have Hp3 := Lib.hid (Hp2.out.below hb)
  have HB3 := Lib.hid (below_t HB2.out hb)
  clear hq hk1 hz1 hb
  go_wp2_with fail
  go_at_call 17
  refine (same7_c Hp3.out Hq3.out (sameK_self _)).mono ?_
  rintro e w4 ⟨rfl, hb⟩
  have Hp4 := Lib.hid (Hp3.out.below hb)
  have Hq4 := Lib.hid (Hq3.out.below hb)
  have HB4 := Lib.hid (below_t HB3.out hb)
  clear hb
  go_wp2_with fail
  go_at_call 17
  refine (same_r).mono ?_
  rintro e w' ⟨rfl, hw⟩
  subst w'
  go_wp2_with fail
  go_at_call 17
  refine (same_n).mono ?_
  rintro e w' ⟨rfl, hw⟩
  subst w'
  go_wp2_with fail
  go_at_call 16
  refine (copy_nil).mono ?_
  rintro e w' ⟨rfl, hw⟩
  subst w'
  go_wp2_with fail
  go_at_call 25
  refine (wake_c Hp4.out (by simp)).mono ?_
  rintro e w5 ⟨rfl, hk, hg⟩
  simp only [W1.out] at hk
  have Hp5 := Lib.hid hk
  have HB5 := Lib.hid (below_g HB4.out HP.out hg)
  clear hk hg
  go_wp2_with fail
  go_at_call 25
  refine (wake_c Hp5.out (by simp)).mono ?_
  rintro e w6 ⟨rfl, hk, hg⟩
  simp only [W2.out] at hk
  have Hp6 := Lib.hid hk
  have HB6 := Lib.hid (below_g HB5.out HP.out hg)
  clear hk hg
  go_wp2_with fail
  go_at_call 25
  refine (wake_c Hp6.out (by simp)).mono ?_
  rintro e w7 ⟨rfl, hk, hg⟩
  simp only [W3.out] at hk
  have Hp7 := Lib.hid hk
  have HB7 := Lib.hid (below_g HB6.out HP.out hg)
  clear hk hg
  go_wp2_with fail
  go_at_call 25
  refine (wake_c Hp7.out (by simp)).mono ?_
  rintro e w8 ⟨rfl, hk, hg⟩
  simp only [W4.out] at hk
  have Hp8 := Lib.hid hk
  have HB8 := Lib.hid (below_g HB7.out HP.out hg)
  clear hk hg
  go_wp2_with fail
  go_at_call 25
  refine (wake_c Hp8.out (by simp)).mono ?_
  rintro e w9 ⟨rfl, hk, hg⟩
  simp only [W5.out] at hk
  have Hp9 := Lib.hid hk
  have HB9 := Lib.hid (below_g HB8.out HP.out hg)
  clear hk hg
  go_wp2_with fail
  go_at_call 25
  refine (wake_c Hp9.out (by simp)).mono ?_
  rintro e w10 ⟨rfl, hk, hg⟩
  simp only [W6.out] at hk
  have Hp10 := Lib.hid hk
  have HB10 := Lib.hid (below_g HB9.out HP.out hg)
  clear hk hg
  obtain ⟨TA10, tc10, g1, g2, g3, g4, g5⟩ := Hp10.out
  simp only [List.length_cons, List.length_nil, Nat.zero_add, Nat.reduceAdd] at g1 g2
  have t5 := g1.t
  have G2 := Lib.hid g2
  clear g1 g2 g3 g4 g5
  go_wp2_with fail
  go_at_call 30
  refine calls_namedW (fun W => Below w10.heap.size w10 W ∧ w10.heap.size < W.heap.size ∧ W.cell? ⟨w10.heap.size, 0, none⟩ = some (.int .i64 3) ∧ W.cell? ⟨w10.heap.size, 1, none⟩ = some (.int .i64 7) ∧ W.cell? ⟨w10.heap.size, 2, none⟩ = some (.int .i64 9) ∧ W.cell? ⟨w10.heap.size, 3, none⟩ = some (.int .i64 4)) ⟨by (repeat' (first | (with_reducible exact Below.refl _ _) | (with_reducible refine Below.setCell ?_ (by (first | omega | (simp; done) | (simp; omega))) _) | (with_reducible refine Below.alloc ?_ (by (first | omega | (simp; done) | (simp; omega))) _) | (with_reducible refine Below.drew ?_) | (with_reducible refine below_drewN ?_ _))), by (repeat' (first | (with_reducible assumption) | (with_reducible refine HeldP.c_drew ?_) | (with_reducible refine HeldP.c_drewN ?_) | (with_reducible refine HeldP.c_same (by omega) ?_) | (with_reducible refine HeldP.c_other ?_ ?_) | (with_reducible refine HeldP.c_new (by first | omega | (simp; done) | (simp; omega)) ?_) | (with_reducible refine HeldP.c_alloc ?_ ?_) | (with_reducible refine HeldP.e_drew ?_) | (with_reducible refine HeldP.e_drewN ?_) | (with_reducible refine HeldP.e_set ?_) | (with_reducible refine HeldP.e_new (by first | omega | (simp; done) | (simp; omega)) ⟨_, rfl⟩) | (with_reducible refine HeldP.e_alloc ?_ ?_) | (with_reducible refine HeldP.f_drew ?_) | (with_reducible refine HeldP.f_drewN ?_) | (with_reducible refine HeldP.f_set ?_) | (with_reducible refine HeldP.f_new (by first | omega | (simp; done) | (simp; omega))) | (with_reducible refine HeldP.f_alloc ?_ ?_) | (with_reducible refine HeldP.s_drew ?_) | (with_reducible refine HeldP.s_drewN ?_) | (with_reducible refine HeldP.s_set ?_) | (with_reducible refine HeldP.s_new (by first | omega | (simp; done) | (simp; omega))) | (with_reducible refine HeldP.s_alloc ?_) | (with_reducible exact ⟨_, by assumption⟩) | omega | (intro e; simp at e; done) | (intro e; simp at e; omega) | (exact rfl) | (simp; done) | (simp; omega))), by (repeat' (first | (with_reducible assumption) | (with_reducible refine HeldP.c_drew ?_) | (with_reducible refine HeldP.c_drewN ?_) | (with_reducible refine HeldP.c_same (by omega) ?_) | (with_reducible refine HeldP.c_other ?_ ?_) | (with_reducible refine HeldP.c_new (by first | omega | (simp; done) | (simp; omega)) ?_) | (with_reducible refine HeldP.c_alloc ?_ ?_) | (with_reducible refine HeldP.e_drew ?_) | (with_reducible refine HeldP.e_drewN ?_) | (with_reducible refine HeldP.e_set ?_) | (with_reducible refine HeldP.e_new (by first | omega | (simp; done) | (simp; omega)) ⟨_, rfl⟩) | (with_reducible refine HeldP.e_alloc ?_ ?_) | (with_reducible refine HeldP.f_drew ?_) | (with_reducible refine HeldP.f_drewN ?_) | (with_reducible refine HeldP.f_set ?_) | (with_reducible refine HeldP.f_new (by first | omega | (simp; done) | (simp; omega))) | (with_reducible refine HeldP.f_alloc ?_ ?_) | (with_reducible refine HeldP.s_drew ?_) | (with_reducible refine HeldP.s_drewN ?_) | (with_reducible refine HeldP.s_set ?_) | (with_reducible refine HeldP.s_new (by first | omega | (simp; done) | (simp; omega))) | (with_reducible refine HeldP.s_alloc ?_) | (with_reducible exact ⟨_, by assumption⟩) | omega | (intro e; simp at e; done) | (intro e; simp at e; omega) | (exact rfl) | (simp; done) | (simp; omega))), by (repeat' (first | (with_reducible assumption) | (with_reducible refine HeldP.c_drew ?_) | (with_reducible refine HeldP.c_drewN ?_) | (with_reducible refine HeldP.c_same (by omega) ?_) | (with_reducible refine HeldP.c_other ?_ ?_) | (with_reducible refine HeldP.c_new (by first | omega | (simp; done) | (simp; omega)) ?_) | (with_reducible refine HeldP.c_alloc ?_ ?_) | (with_reducible refine HeldP.e_drew ?_) | (with_reducible refine HeldP.e_drewN ?_) | (with_reducible refine HeldP.e_set ?_) | (with_reducible refine HeldP.e_new (by first | omega | (simp; done) | (simp; omega)) ⟨_, rfl⟩) | (with_reducible refine HeldP.e_alloc ?_ ?_) | (with_reducible refine HeldP.f_drew ?_) | (with_reducible refine HeldP.f_drewN ?_) | (with_reducible refine HeldP.f_set ?_) | (with_reducible refine HeldP.f_new (by first | omega | (simp; done) | (simp; omega))) | (with_reducible refine HeldP.f_alloc ?_ ?_) | (with_reducible refine HeldP.s_drew ?_) | (with_reducible refine HeldP.s_drewN ?_) | (with_reducible refine HeldP.s_set ?_) | (with_reducible refine HeldP.s_new (by first | omega | (simp; done) | (simp; omega))) | (with_reducible refine HeldP.s_alloc ?_) | (with_reducible exact ⟨_, by assumption⟩) | omega | (intro e; simp at e; done) | (intro e; simp at e; omega) | (exact rfl) | (simp; done) | (simp; omega))), by (repeat' (first | (with_reducible assumption) | (with_reducible refine HeldP.c_drew ?_) | (with_reducible refine HeldP.c_drewN ?_) | (with_reducible refine HeldP.c_same (by omega) ?_) | (with_reducible refine HeldP.c_other ?_ ?_) | (with_reducible refine HeldP.c_new (by first | omega | (simp; done) | (simp; omega)) ?_) | (with_reducible refine HeldP.c_alloc ?_ ?_) | (with_reducible refine HeldP.e_drew ?_) | (with_reducible refine HeldP.e_drewN ?_) | (with_reducible refine HeldP.e_set ?_) | (with_reducible refine HeldP.e_new (by first | omega | (simp; done) | (simp; omega)) ⟨_, rfl⟩) | (with_reducible refine HeldP.e_alloc ?_ ?_) | (with_reducible refine HeldP.f_drew ?_) | (with_reducible refine HeldP.f_drewN ?_) | (with_reducible refine HeldP.f_set ?_) | (with_reducible refine HeldP.f_new (by first | omega | (simp; done) | (simp; omega))) | (with_reducible refine HeldP.f_alloc ?_ ?_) | (with_reducible refine HeldP.s_drew ?_) | (with_reducible refine HeldP.s_drewN ?_) | (with_reducible refine HeldP.s_set ?_) | (with_reducible refine HeldP.s_new (by first | omega | (simp; done) | (simp; omega))) | (with_reducible refine HeldP.s_alloc ?_) | (with_reducible exact ⟨_, by assumption⟩) | omega | (intro e; simp at e; done) | (intro e; simp at e; omega) | (exact rfl) | (simp; done) | (simp; omega))), by (repeat' (first | (with_reducible assumption) | (with_reducible refine HeldP.c_drew ?_) | (with_reducible refine HeldP.c_drewN ?_) | (with_reducible refine HeldP.c_same (by omega) ?_) | (with_reducible refine HeldP.c_other ?_ ?_) | (with_reducible refine HeldP.c_new (by first | omega | (simp; done) | (simp; omega)) ?_) | (with_reducible refine HeldP.c_alloc ?_ ?_) | (with_reducible refine HeldP.e_drew ?_) | (with_reducible refine HeldP.e_drewN ?_) | (with_reducible refine HeldP.e_set ?_) | (with_reducible refine HeldP.e_new (by first | omega | (simp; done) | (simp; omega)) ⟨_, rfl⟩) | (with_reducible refine HeldP.e_alloc ?_ ?_) | (with_reducible refine HeldP.f_drew ?_) | (with_reducible refine HeldP.f_drewN ?_) | (with_reducible refine HeldP.f_set ?_) | (with_reducible refine HeldP.f_new (by first | omega | (simp; done) | (simp; omega))) | (with_reducible refine HeldP.f_alloc ?_ ?_) | (with_reducible refine HeldP.s_drew ?_) | (with_reducible refine HeldP.s_drewN ?_) | (with_reducible refine HeldP.s_set ?_) | (with_reducible refine HeldP.s_new (by first | omega | (simp; done) | (simp; omega))) | (with_reducible refine HeldP.s_alloc ?_) | (with_reducible exact ⟨_, by assumption⟩) | omega | (intro e; simp at e; done) | (intro e; simp at e; omega) | (exact rfl) | (simp; done) | (simp; omega)))⟩ ?_
  rintro w11 ⟨hb6, hz6, c0, c1, c2, c3⟩
  refine (lticks_c (ts := [(3, 7), (9, 4)]) (c := tc10) (d := 4) (m := 4) (G2.out.below hb6) hz6 (fun i t ht => by
    match i, ht with
    | 0, ht =>
      obtain rfl : ((3, 7) : Tick) = t := by simpa using ht
      exact ⟨c0, c1⟩
    | 1, ht =>
      obtain rfl : ((9, 4) : Tick) = t := by simpa using ht
      exact ⟨c2, c3⟩
    | k + 2, ht => simp at ht) rfl (by simp)).mono ?_
  rintro e w12 ⟨rfl, hb7⟩
  have hb := below_t hb6 hb7
  clear hb6 hb7 hz6 c0 c1 c2 c3
  have Hp12 := Lib.hid (Hp10.out.below hb)
  have HB12 := Lib.hid (below_t HB10.out hb)
  clear hb
  clear t5 G2
  go_wp2_with fail
  go_at_call 27
  refine (due_c (r := 0) Hp12.out (by decide)).mono ?_
  rintro e w13 ⟨rfl, hb⟩
  have Hp13 := Lib.hid (Hp12.out.below hb)
  have HB13 := Lib.hid (below_t HB12.out hb)
  clear hb
  go_wp2_with fail
  go_at_call 27
  refine (due_c (r := 0) Hp13.out (by decide)).mono ?_
  rintro e w14 ⟨rfl, hb⟩
  have Hp14 := Lib.hid (Hp13.out.below hb)
  have HB14 := Lib.hid (below_t HB13.out hb)
  clear hb
  go_wp2_with fail
  go_at_call 19
  refine (least_c (r := 4) Hp14.out (by decide)).mono ?_
  rintro e w15 ⟨rfl, hb⟩
  have Hp15 := Lib.hid (Hp14.out.below hb)
  have HB15 := Lib.hid (below_t HB14.out hb)
  clear hb
  go_wp2_with fail
  go_at_call 21
  refine (ready_c Hp15.out).mono ?_
  rintro e w16 ⟨v, rfl, hown, hb⟩
  obtain ⟨TR, tr, rfl⟩ := own_sl hown
  simp only [R1.out, List.length_cons, List.length_nil, Nat.zero_add, Nat.reduceAdd] at hown ⊢
  have HO := Lib.hid hown
  have Hp16 := Lib.hid (Hp15.out.below hb)
  have HB16 := Lib.hid (below_t HB15.out hb)
  clear hb hown
  go_wp2_with fail
  go_at_call 21
  refine (ready_c Hp16.out).mono ?_
  rintro e w17 ⟨v, rfl, hown, hb⟩
  obtain ⟨TR, tr, rfl⟩ := own_sl hown
  simp only [R2.out, List.length_cons, List.length_nil, Nat.zero_add, Nat.reduceAdd] at hown ⊢
  have HO := Lib.hid hown
  have Hp17 := Lib.hid (Hp16.out.below hb)
  have HB17 := Lib.hid (below_t HB16.out hb)
  clear hb hown
  obtain ⟨A9, c9, e9, HO9, _⟩ := HO.out.pairs
  injection e9 with e9a e9b e9c
  subst e9a e9c
  go_wp2_with fail
  go_at_call 30
  refine calls_namedW (fun W => Below w17.heap.size w17 W ∧ w17.heap.size < W.heap.size ∧ W.cell? ⟨w17.heap.size, 0, none⟩ = some (.int .i64 9) ∧ W.cell? ⟨w17.heap.size, 1, none⟩ = some (.int .i64 4) ∧ W.cell? ⟨w17.heap.size, 2, none⟩ = some (.int .i64 3) ∧ W.cell? ⟨w17.heap.size, 3, none⟩ = some (.int .i64 7)) ⟨by (repeat' (first | (with_reducible exact Below.refl _ _) | (with_reducible refine Below.setCell ?_ (by (first | omega | (simp; done) | (simp; omega))) _) | (with_reducible refine Below.alloc ?_ (by (first | omega | (simp; done) | (simp; omega))) _) | (with_reducible refine Below.drew ?_) | (with_reducible refine below_drewN ?_ _))), by (repeat' (first | (with_reducible assumption) | (with_reducible refine HeldP.c_drew ?_) | (with_reducible refine HeldP.c_drewN ?_) | (with_reducible refine HeldP.c_same (by omega) ?_) | (with_reducible refine HeldP.c_other ?_ ?_) | (with_reducible refine HeldP.c_new (by first | omega | (simp; done) | (simp; omega)) ?_) | (with_reducible refine HeldP.c_alloc ?_ ?_) | (with_reducible refine HeldP.e_drew ?_) | (with_reducible refine HeldP.e_drewN ?_) | (with_reducible refine HeldP.e_set ?_) | (with_reducible refine HeldP.e_new (by first | omega | (simp; done) | (simp; omega)) ⟨_, rfl⟩) | (with_reducible refine HeldP.e_alloc ?_ ?_) | (with_reducible refine HeldP.f_drew ?_) | (with_reducible refine HeldP.f_drewN ?_) | (with_reducible refine HeldP.f_set ?_) | (with_reducible refine HeldP.f_new (by first | omega | (simp; done) | (simp; omega))) | (with_reducible refine HeldP.f_alloc ?_ ?_) | (with_reducible refine HeldP.s_drew ?_) | (with_reducible refine HeldP.s_drewN ?_) | (with_reducible refine HeldP.s_set ?_) | (with_reducible refine HeldP.s_new (by first | omega | (simp; done) | (simp; omega))) | (with_reducible refine HeldP.s_alloc ?_) | (with_reducible exact ⟨_, by assumption⟩) | omega | (intro e; simp at e; done) | (intro e; simp at e; omega) | (exact rfl) | (simp; done) | (simp; omega))), by (repeat' (first | (with_reducible assumption) | (with_reducible refine HeldP.c_drew ?_) | (with_reducible refine HeldP.c_drewN ?_) | (with_reducible refine HeldP.c_same (by omega) ?_) | (with_reducible refine HeldP.c_other ?_ ?_) | (with_reducible refine HeldP.c_new (by first | omega | (simp; done) | (simp; omega)) ?_) | (with_reducible refine HeldP.c_alloc ?_ ?_) | (with_reducible refine HeldP.e_drew ?_) | (with_reducible refine HeldP.e_drewN ?_) | (with_reducible refine HeldP.e_set ?_) | (with_reducible refine HeldP.e_new (by first | omega | (simp; done) | (simp; omega)) ⟨_, rfl⟩) | (with_reducible refine HeldP.e_alloc ?_ ?_) | (with_reducible refine HeldP.f_drew ?_) | (with_reducible refine HeldP.f_drewN ?_) | (with_reducible refine HeldP.f_set ?_) | (with_reducible refine HeldP.f_new (by first | omega | (simp; done) | (simp; omega))) | (with_reducible refine HeldP.f_alloc ?_ ?_) | (with_reducible refine HeldP.s_drew ?_) | (with_reducible refine HeldP.s_drewN ?_) | (with_reducible refine HeldP.s_set ?_) | (with_reducible refine HeldP.s_new (by first | omega | (simp; done) | (simp; omega))) | (with_reducible refine HeldP.s_alloc ?_) | (with_reducible exact ⟨_, by assumption⟩) | omega | (intro e; simp at e; done) | (intro e; simp at e; omega) | (exact rfl) | (simp; done) | (simp; omega))), by (repeat' (first | (with_reducible assumption) | (with_reducible refine HeldP.c_drew ?_) | (with_reducible refine HeldP.c_drewN ?_) | (with_reducible refine HeldP.c_same (by omega) ?_) | (with_reducible refine HeldP.c_other ?_ ?_) | (with_reducible refine HeldP.c_new (by first | omega | (simp; done) | (simp; omega)) ?_) | (with_reducible refine HeldP.c_alloc ?_ ?_) | (with_reducible refine HeldP.e_drew ?_) | (with_reducible refine HeldP.e_drewN ?_) | (with_reducible refine HeldP.e_set ?_) | (with_reducible refine HeldP.e_new (by first | omega | (simp; done) | (simp; omega)) ⟨_, rfl⟩) | (with_reducible refine HeldP.e_alloc ?_ ?_) | (with_reducible refine HeldP.f_drew ?_) | (with_reducible refine HeldP.f_drewN ?_) | (with_reducible refine HeldP.f_set ?_) | (with_reducible refine HeldP.f_new (by first | omega | (simp; done) | (simp; omega))) | (with_reducible refine HeldP.f_alloc ?_ ?_) | (with_reducible refine HeldP.s_drew ?_) | (with_reducible refine HeldP.s_drewN ?_) | (with_reducible refine HeldP.s_set ?_) | (with_reducible refine HeldP.s_new (by first | omega | (simp; done) | (simp; omega))) | (with_reducible refine HeldP.s_alloc ?_) | (with_reducible exact ⟨_, by assumption⟩) | omega | (intro e; simp at e; done) | (intro e; simp at e; omega) | (exact rfl) | (simp; done) | (simp; omega))), by (repeat' (first | (with_reducible assumption) | (with_reducible refine HeldP.c_drew ?_) | (with_reducible refine HeldP.c_drewN ?_) | (with_reducible refine HeldP.c_same (by omega) ?_) | (with_reducible refine HeldP.c_other ?_ ?_) | (with_reducible refine HeldP.c_new (by first | omega | (simp; done) | (simp; omega)) ?_) | (with_reducible refine HeldP.c_alloc ?_ ?_) | (with_reducible refine HeldP.e_drew ?_) | (with_reducible refine HeldP.e_drewN ?_) | (with_reducible refine HeldP.e_set ?_) | (with_reducible refine HeldP.e_new (by first | omega | (simp; done) | (simp; omega)) ⟨_, rfl⟩) | (with_reducible refine HeldP.e_alloc ?_ ?_) | (with_reducible refine HeldP.f_drew ?_) | (with_reducible refine HeldP.f_drewN ?_) | (with_reducible refine HeldP.f_set ?_) | (with_reducible refine HeldP.f_new (by first | omega | (simp; done) | (simp; omega))) | (with_reducible refine HeldP.f_alloc ?_ ?_) | (with_reducible refine HeldP.s_drew ?_) | (with_reducible refine HeldP.s_drewN ?_) | (with_reducible refine HeldP.s_set ?_) | (with_reducible refine HeldP.s_new (by first | omega | (simp; done) | (simp; omega))) | (with_reducible refine HeldP.s_alloc ?_) | (with_reducible exact ⟨_, by assumption⟩) | omega | (intro e; simp at e; done) | (intro e; simp at e; omega) | (exact rfl) | (simp; done) | (simp; omega))), by (repeat' (first | (with_reducible assumption) | (with_reducible refine HeldP.c_drew ?_) | (with_reducible refine HeldP.c_drewN ?_) | (with_reducible refine HeldP.c_same (by omega) ?_) | (with_reducible refine HeldP.c_other ?_ ?_) | (with_reducible refine HeldP.c_new (by first | omega | (simp; done) | (simp; omega)) ?_) | (with_reducible refine HeldP.c_alloc ?_ ?_) | (with_reducible refine HeldP.e_drew ?_) | (with_reducible refine HeldP.e_drewN ?_) | (with_reducible refine HeldP.e_set ?_) | (with_reducible refine HeldP.e_new (by first | omega | (simp; done) | (simp; omega)) ⟨_, rfl⟩) | (with_reducible refine HeldP.e_alloc ?_ ?_) | (with_reducible refine HeldP.f_drew ?_) | (with_reducible refine HeldP.f_drewN ?_) | (with_reducible refine HeldP.f_set ?_) | (with_reducible refine HeldP.f_new (by first | omega | (simp; done) | (simp; omega))) | (with_reducible refine HeldP.f_alloc ?_ ?_) | (with_reducible refine HeldP.s_drew ?_) | (with_reducible refine HeldP.s_drewN ?_) | (with_reducible refine HeldP.s_set ?_) | (with_reducible refine HeldP.s_new (by first | omega | (simp; done) | (simp; omega))) | (with_reducible refine HeldP.s_alloc ?_) | (with_reducible exact ⟨_, by assumption⟩) | omega | (intro e; simp at e; done) | (intro e; simp at e; omega) | (exact rfl) | (simp; done) | (simp; omega)))⟩ ?_
  rintro w18 ⟨hb6, hz6, c0, c1, c2, c3⟩
  refine (lticks_c (ts := [(9, 4), (3, 7)]) (c := _) (d := 4) (m := 4) (HO9.below hb6) hz6 (fun i t ht => by
    match i, ht with
    | 0, ht =>
      obtain rfl : ((9, 4) : Tick) = t := by simpa using ht
      exact ⟨c0, c1⟩
    | 1, ht =>
      obtain rfl : ((3, 7) : Tick) = t := by simpa using ht
      exact ⟨c2, c3⟩
    | k + 2, ht => simp at ht) rfl (by simp)).mono ?_
  rintro e w19 ⟨rfl, hb7⟩
  have hb := below_t hb6 hb7
  clear hb6 hb7 hz6 c0 c1 c2 c3
  have Hp19 := Lib.hid (Hp17.out.below hb)
  have HB19 := Lib.hid (below_t HB17.out hb)
  clear hb
  go_wp2_with fail
  go_at_call 23
  refine (drop_c Hp19.out).mono ?_
  rintro e w20 ⟨rfl, hk, hg⟩
  simp only [D1.out] at hk
  have Hp20 := Lib.hid hk
  have HB20 := Lib.hid (below_g HB19.out HP.out hg)
  clear hk hg
  go_wp2_with fail
  go_at_call 23
  refine (drop_c Hp20.out).mono ?_
  rintro e w21 ⟨rfl, hk, hg⟩
  simp only [D2.out] at hk
  have Hp21 := Lib.hid hk
  have HB21 := Lib.hid (below_g HB20.out HP.out hg)
  clear hk hg
  obtain ⟨TA21, tc21, g1, g2, g3, g4, g5⟩ := Hp21.out
  simp only [List.length_cons, List.length_nil, Nat.zero_add, Nat.reduceAdd] at g1 g2
  have t5 := g1.t
  have G2 := Lib.hid g2
  clear g1 g2 g3 g4 g5
  go_wp2_with fail
  go_at_call 30
  refine calls_namedW (fun W => Below w21.heap.size w21 W ∧ w21.heap.size < W.heap.size ∧ W.cell? ⟨w21.heap.size, 0, none⟩ = some (.int .i64 3) ∧ W.cell? ⟨w21.heap.size, 1, none⟩ = some (.int .i64 7)) ⟨by (repeat' (first | (with_reducible exact Below.refl _ _) | (with_reducible refine Below.setCell ?_ (by (first | omega | (simp; done) | (simp; omega))) _) | (with_reducible refine Below.alloc ?_ (by (first | omega | (simp; done) | (simp; omega))) _) | (with_reducible refine Below.drew ?_) | (with_reducible refine below_drewN ?_ _))), by (repeat' (first | (with_reducible assumption) | (with_reducible refine HeldP.c_drew ?_) | (with_reducible refine HeldP.c_drewN ?_) | (with_reducible refine HeldP.c_same (by omega) ?_) | (with_reducible refine HeldP.c_other ?_ ?_) | (with_reducible refine HeldP.c_new (by first | omega | (simp; done) | (simp; omega)) ?_) | (with_reducible refine HeldP.c_alloc ?_ ?_) | (with_reducible refine HeldP.e_drew ?_) | (with_reducible refine HeldP.e_drewN ?_) | (with_reducible refine HeldP.e_set ?_) | (with_reducible refine HeldP.e_new (by first | omega | (simp; done) | (simp; omega)) ⟨_, rfl⟩) | (with_reducible refine HeldP.e_alloc ?_ ?_) | (with_reducible refine HeldP.f_drew ?_) | (with_reducible refine HeldP.f_drewN ?_) | (with_reducible refine HeldP.f_set ?_) | (with_reducible refine HeldP.f_new (by first | omega | (simp; done) | (simp; omega))) | (with_reducible refine HeldP.f_alloc ?_ ?_) | (with_reducible refine HeldP.s_drew ?_) | (with_reducible refine HeldP.s_drewN ?_) | (with_reducible refine HeldP.s_set ?_) | (with_reducible refine HeldP.s_new (by first | omega | (simp; done) | (simp; omega))) | (with_reducible refine HeldP.s_alloc ?_) | (with_reducible exact ⟨_, by assumption⟩) | omega | (intro e; simp at e; done) | (intro e; simp at e; omega) | (exact rfl) | (simp; done) | (simp; omega))), by (repeat' (first | (with_reducible assumption) | (with_reducible refine HeldP.c_drew ?_) | (with_reducible refine HeldP.c_drewN ?_) | (with_reducible refine HeldP.c_same (by omega) ?_) | (with_reducible refine HeldP.c_other ?_ ?_) | (with_reducible refine HeldP.c_new (by first | omega | (simp; done) | (simp; omega)) ?_) | (with_reducible refine HeldP.c_alloc ?_ ?_) | (with_reducible refine HeldP.e_drew ?_) | (with_reducible refine HeldP.e_drewN ?_) | (with_reducible refine HeldP.e_set ?_) | (with_reducible refine HeldP.e_new (by first | omega | (simp; done) | (simp; omega)) ⟨_, rfl⟩) | (with_reducible refine HeldP.e_alloc ?_ ?_) | (with_reducible refine HeldP.f_drew ?_) | (with_reducible refine HeldP.f_drewN ?_) | (with_reducible refine HeldP.f_set ?_) | (with_reducible refine HeldP.f_new (by first | omega | (simp; done) | (simp; omega))) | (with_reducible refine HeldP.f_alloc ?_ ?_) | (with_reducible refine HeldP.s_drew ?_) | (with_reducible refine HeldP.s_drewN ?_) | (with_reducible refine HeldP.s_set ?_) | (with_reducible refine HeldP.s_new (by first | omega | (simp; done) | (simp; omega))) | (with_reducible refine HeldP.s_alloc ?_) | (with_reducible exact ⟨_, by assumption⟩) | omega | (intro e; simp at e; done) | (intro e; simp at e; omega) | (exact rfl) | (simp; done) | (simp; omega))), by (repeat' (first | (with_reducible assumption) | (with_reducible refine HeldP.c_drew ?_) | (with_reducible refine HeldP.c_drewN ?_) | (with_reducible refine HeldP.c_same (by omega) ?_) | (with_reducible refine HeldP.c_other ?_ ?_) | (with_reducible refine HeldP.c_new (by first | omega | (simp; done) | (simp; omega)) ?_) | (with_reducible refine HeldP.c_alloc ?_ ?_) | (with_reducible refine HeldP.e_drew ?_) | (with_reducible refine HeldP.e_drewN ?_) | (with_reducible refine HeldP.e_set ?_) | (with_reducible refine HeldP.e_new (by first | omega | (simp; done) | (simp; omega)) ⟨_, rfl⟩) | (with_reducible refine HeldP.e_alloc ?_ ?_) | (with_reducible refine HeldP.f_drew ?_) | (with_reducible refine HeldP.f_drewN ?_) | (with_reducible refine HeldP.f_set ?_) | (with_reducible refine HeldP.f_new (by first | omega | (simp; done) | (simp; omega))) | (with_reducible refine HeldP.f_alloc ?_ ?_) | (with_reducible refine HeldP.s_drew ?_) | (with_reducible refine HeldP.s_drewN ?_) | (with_reducible refine HeldP.s_set ?_) | (with_reducible refine HeldP.s_new (by first | omega | (simp; done) | (simp; omega))) | (with_reducible refine HeldP.s_alloc ?_) | (with_reducible exact ⟨_, by assumption⟩) | omega | (intro e; simp at e; done) | (intro e; simp at e; omega) | (exact rfl) | (simp; done) | (simp; omega)))⟩ ?_
  rintro w22 ⟨hb6, hz6, c0, c1⟩
  refine (lticks_c (ts := [(3, 7)]) (c := tc21) (d := 2) (m := 2) (G2.out.below hb6) hz6 (fun i t ht => by
    match i, ht with
    | 0, ht =>
      obtain rfl : ((3, 7) : Tick) = t := by simpa using ht
      exact ⟨c0, c1⟩
    | k + 1, ht => simp at ht) rfl (by simp)).mono ?_
  rintro e w23 ⟨rfl, hb7⟩
  have hb := below_t hb6 hb7
  clear hb6 hb7 hz6 c0 c1
  have Hp23 := Lib.hid (Hp21.out.below hb)
  have HB23 := Lib.hid (below_t HB21.out hb)
  clear hb
  clear t5 G2
  go_wp2_with fail
  go_at_call 19
  refine (least_c (r := 7) Hp23.out (by decide)).mono ?_
  rintro e w24 ⟨rfl, hb⟩
  have Hp24 := Lib.hid (Hp23.out.below hb)
  have HB24 := Lib.hid (below_t HB23.out hb)
  clear hb
  go_wp2_with fail
  go_at_call 13
  refine (mov_c (HT.out.below HB24.out) Hp24.out V1.out).mono ?_
  rintro e w25 ⟨rfl, hb⟩
  have Hp25 := Lib.hid (Hp24.out.below hb)
  have HB25 := Lib.hid (below_t HB24.out hb)
  clear hb
  have hx := setKind (x := 9) (c := (0, 0)) (j := 4095) (setKind (x := 2) (c := (0, 0)) (j := 0) Hp25.out (by omega) (zero_at (by omega))) (by omega) (by simp only [List.getElem?_set_ne (show (0 : Nat) ≠ 4095 by omega)]; exact zero_at (by omega))
  have hy := (HB25.out.setCell (p := ⟨p, 0, none⟩) HP.out (.int .u8 2)).setCell (p := ⟨p, 8190, none⟩) HP.out (.int .u8 9)
  have HX := Lib.hid hx
  have HY := Lib.hid hy
  obtain ⟨TAx, tcx, gx, _⟩ := Hp25.out
  have f0 := gx.frozen 0
  have f1 := gx.frozen 8190
  have g0 : w25.cell? ⟨p, 0, none⟩ = some (.int .u8 0) := (gx.cell 0).trans (ckV_c (j := 0) zeros_len (zero_at (by omega))).1
  have g1 : w25.cell? ⟨p, 8190, none⟩ = some (.int .u8 0) := (gx.cell 8190).trans (ckV_c (j := 4095) zeros_len (zero_at (by omega))).1
  clear hx hy gx
  go_wp2_with fail
  go_at_call 25
  refine calls_namedW (fun W => ChkK W p ⟨(zeros.set 0 (2, 0)).set 4095 (9, 0), zeros, [(3, 7)]⟩ ∧ Below w.heap.size w W) ⟨by first | exact HX.out | exact (Below.drew (Below.refl _ _)) |> HX.out.below, by first | exact HY.out | exact HY.out.drew⟩ ?_
  rintro w26 ⟨hp4, hb4⟩
  have Hp26 := Lib.hid hp4
  have HB26 := Lib.hid hb4
  clear hp4 hb4 f0 f1 g0 g1
  refine (wake_nil).mono ?_
  rintro e w27 ⟨rfl, hb⟩
  have Hp27 := Lib.hid (Hp26.out.below hb)
  have HB27 := Lib.hid (below_t HB26.out hb)
  clear hb
  go_wp2_with fail
  go_at_call 23
  refine (drop_nil).mono ?_
  rintro e w28 ⟨rfl, hb⟩
  have Hp28 := Lib.hid (Hp27.out.below hb)
  have HB28 := Lib.hid (below_t HB27.out hb)
  clear hb
  go_wp2_with fail
  go_at_call 13
  refine (mov_c (HT.out.below HB28.out) Hp28.out V2.out).mono ?_
  rintro e w29 ⟨rfl, hb⟩
  have Hp29 := Lib.hid (Hp28.out.below hb)
  have HB29 := Lib.hid (below_t HB28.out hb)
  clear hb
  go_wp2_with fail
  go_at_call 13
  refine (mov_nil).mono ?_
  rintro e w' ⟨rfl, hw⟩
  subst w'
  go_wp2_with fail
  go_at_call 27
  refine (due_nil).mono ?_
  rintro e w30 ⟨rfl, hb⟩
  have Hp30 := Lib.hid (Hp29.out.below hb)
  have HB30 := Lib.hid (below_t HB29.out hb)
  clear hb
  go_wp2_with fail
  go_at_call 19
  refine (least_nil).mono ?_
  rintro e w' ⟨rfl, hw⟩
  subst w'
  go_wp2_with fail
  go_at_call 21
  refine (ready_nil).mono ?_
  rintro e w' ⟨rfl, hw⟩
  subst w'
  go_wp2_with fail
  go_at_call 31
  refine (bad_c (a := 11) (b := 0) (c := 0) (d := 0) (X1 := 11) (X2 := 0) (X3 := 0) (X4 := 0) (ts := []) (HT.out.below HB30.out) rfl rfl rfl rfl PairC.nil rfl (by simp) bad1).mono ?_
  rintro e w31 ⟨rfl, hb⟩
  have HB31 := Lib.hid (below_t HB30.out hb)
  clear hb
  go_wp2_with fail
  go_at_call 31
  refine (bad_c (a := 0) (b := 0) (c := 0) (d := 16) (X1 := 0) (X2 := 0) (X3 := 0) (X4 := 16) (ts := []) (HT.out.below HB31.out) rfl rfl rfl rfl PairC.nil rfl (by simp) bad2).mono ?_
  rintro e w32 ⟨rfl, hb⟩
  have HB32 := Lib.hid (below_t HB31.out hb)
  clear hb
  go_wp2_with fail
  go_at_call 31
  refine (bad_c (a := 0) (b := 0) (c := 16) (d := 0) (X1 := 0) (X2 := 0) (X3 := 16) (X4 := 0) (ts := []) (HT.out.below HB32.out) rfl rfl rfl rfl PairC.nil rfl (by simp) bad3).mono ?_
  rintro e w33 ⟨rfl, hb⟩
  have HB33 := Lib.hid (below_t HB32.out hb)
  clear hb
  go_wp2_with fail
  go_at_call 31
  refine calls_namedW (fun W => Below w33.heap.size w33 W ∧ w33.heap.size < W.heap.size ∧ W.cell? ⟨w33.heap.size, 0, none⟩ = some (.int .i64 3) ∧ W.cell? ⟨w33.heap.size, 1, none⟩ = some (.int .i64 1) ∧ W.cell? ⟨w33.heap.size, 2, none⟩ = some (.int .i64 3) ∧ W.cell? ⟨w33.heap.size, 3, none⟩ = some (.int .i64 2)) ⟨by (repeat' (first | (with_reducible exact Below.refl _ _) | (with_reducible refine Below.setCell ?_ (by (first | omega | (simp; done) | (simp; omega))) _) | (with_reducible refine Below.alloc ?_ (by (first | omega | (simp; done) | (simp; omega))) _) | (with_reducible refine Below.drew ?_) | (with_reducible refine below_drewN ?_ _))), by (repeat' (first | (with_reducible assumption) | (with_reducible refine HeldP.c_drew ?_) | (with_reducible refine HeldP.c_drewN ?_) | (with_reducible refine HeldP.c_same (by omega) ?_) | (with_reducible refine HeldP.c_other ?_ ?_) | (with_reducible refine HeldP.c_new (by first | omega | (simp; done) | (simp; omega)) ?_) | (with_reducible refine HeldP.c_alloc ?_ ?_) | (with_reducible refine HeldP.e_drew ?_) | (with_reducible refine HeldP.e_drewN ?_) | (with_reducible refine HeldP.e_set ?_) | (with_reducible refine HeldP.e_new (by first | omega | (simp; done) | (simp; omega)) ⟨_, rfl⟩) | (with_reducible refine HeldP.e_alloc ?_ ?_) | (with_reducible refine HeldP.f_drew ?_) | (with_reducible refine HeldP.f_drewN ?_) | (with_reducible refine HeldP.f_set ?_) | (with_reducible refine HeldP.f_new (by first | omega | (simp; done) | (simp; omega))) | (with_reducible refine HeldP.f_alloc ?_ ?_) | (with_reducible refine HeldP.s_drew ?_) | (with_reducible refine HeldP.s_drewN ?_) | (with_reducible refine HeldP.s_set ?_) | (with_reducible refine HeldP.s_new (by first | omega | (simp; done) | (simp; omega))) | (with_reducible refine HeldP.s_alloc ?_) | (with_reducible exact ⟨_, by assumption⟩) | omega | (intro e; simp at e; done) | (intro e; simp at e; omega) | (exact rfl) | (simp; done) | (simp; omega))), by (repeat' (first | (with_reducible assumption) | (with_reducible refine HeldP.c_drew ?_) | (with_reducible refine HeldP.c_drewN ?_) | (with_reducible refine HeldP.c_same (by omega) ?_) | (with_reducible refine HeldP.c_other ?_ ?_) | (with_reducible refine HeldP.c_new (by first | omega | (simp; done) | (simp; omega)) ?_) | (with_reducible refine HeldP.c_alloc ?_ ?_) | (with_reducible refine HeldP.e_drew ?_) | (with_reducible refine HeldP.e_drewN ?_) | (with_reducible refine HeldP.e_set ?_) | (with_reducible refine HeldP.e_new (by first | omega | (simp; done) | (simp; omega)) ⟨_, rfl⟩) | (with_reducible refine HeldP.e_alloc ?_ ?_) | (with_reducible refine HeldP.f_drew ?_) | (with_reducible refine HeldP.f_drewN ?_) | (with_reducible refine HeldP.f_set ?_) | (with_reducible refine HeldP.f_new (by first | omega | (simp; done) | (simp; omega))) | (with_reducible refine HeldP.f_alloc ?_ ?_) | (with_reducible refine HeldP.s_drew ?_) | (with_reducible refine HeldP.s_drewN ?_) | (with_reducible refine HeldP.s_set ?_) | (with_reducible refine HeldP.s_new (by first | omega | (simp; done) | (simp; omega))) | (with_reducible refine HeldP.s_alloc ?_) | (with_reducible exact ⟨_, by assumption⟩) | omega | (intro e; simp at e; done) | (intro e; simp at e; omega) | (exact rfl) | (simp; done) | (simp; omega))), by (repeat' (first | (with_reducible assumption) | (with_reducible refine HeldP.c_drew ?_) | (with_reducible refine HeldP.c_drewN ?_) | (with_reducible refine HeldP.c_same (by omega) ?_) | (with_reducible refine HeldP.c_other ?_ ?_) | (with_reducible refine HeldP.c_new (by first | omega | (simp; done) | (simp; omega)) ?_) | (with_reducible refine HeldP.c_alloc ?_ ?_) | (with_reducible refine HeldP.e_drew ?_) | (with_reducible refine HeldP.e_drewN ?_) | (with_reducible refine HeldP.e_set ?_) | (with_reducible refine HeldP.e_new (by first | omega | (simp; done) | (simp; omega)) ⟨_, rfl⟩) | (with_reducible refine HeldP.e_alloc ?_ ?_) | (with_reducible refine HeldP.f_drew ?_) | (with_reducible refine HeldP.f_drewN ?_) | (with_reducible refine HeldP.f_set ?_) | (with_reducible refine HeldP.f_new (by first | omega | (simp; done) | (simp; omega))) | (with_reducible refine HeldP.f_alloc ?_ ?_) | (with_reducible refine HeldP.s_drew ?_) | (with_reducible refine HeldP.s_drewN ?_) | (with_reducible refine HeldP.s_set ?_) | (with_reducible refine HeldP.s_new (by first | omega | (simp; done) | (simp; omega))) | (with_reducible refine HeldP.s_alloc ?_) | (with_reducible exact ⟨_, by assumption⟩) | omega | (intro e; simp at e; done) | (intro e; simp at e; omega) | (exact rfl) | (simp; done) | (simp; omega))), by (repeat' (first | (with_reducible assumption) | (with_reducible refine HeldP.c_drew ?_) | (with_reducible refine HeldP.c_drewN ?_) | (with_reducible refine HeldP.c_same (by omega) ?_) | (with_reducible refine HeldP.c_other ?_ ?_) | (with_reducible refine HeldP.c_new (by first | omega | (simp; done) | (simp; omega)) ?_) | (with_reducible refine HeldP.c_alloc ?_ ?_) | (with_reducible refine HeldP.e_drew ?_) | (with_reducible refine HeldP.e_drewN ?_) | (with_reducible refine HeldP.e_set ?_) | (with_reducible refine HeldP.e_new (by first | omega | (simp; done) | (simp; omega)) ⟨_, rfl⟩) | (with_reducible refine HeldP.e_alloc ?_ ?_) | (with_reducible refine HeldP.f_drew ?_) | (with_reducible refine HeldP.f_drewN ?_) | (with_reducible refine HeldP.f_set ?_) | (with_reducible refine HeldP.f_new (by first | omega | (simp; done) | (simp; omega))) | (with_reducible refine HeldP.f_alloc ?_ ?_) | (with_reducible refine HeldP.s_drew ?_) | (with_reducible refine HeldP.s_drewN ?_) | (with_reducible refine HeldP.s_set ?_) | (with_reducible refine HeldP.s_new (by first | omega | (simp; done) | (simp; omega))) | (with_reducible refine HeldP.s_alloc ?_) | (with_reducible exact ⟨_, by assumption⟩) | omega | (intro e; simp at e; done) | (intro e; simp at e; omega) | (exact rfl) | (simp; done) | (simp; omega))), by (repeat' (first | (with_reducible assumption) | (with_reducible refine HeldP.c_drew ?_) | (with_reducible refine HeldP.c_drewN ?_) | (with_reducible refine HeldP.c_same (by omega) ?_) | (with_reducible refine HeldP.c_other ?_ ?_) | (with_reducible refine HeldP.c_new (by first | omega | (simp; done) | (simp; omega)) ?_) | (with_reducible refine HeldP.c_alloc ?_ ?_) | (with_reducible refine HeldP.e_drew ?_) | (with_reducible refine HeldP.e_drewN ?_) | (with_reducible refine HeldP.e_set ?_) | (with_reducible refine HeldP.e_new (by first | omega | (simp; done) | (simp; omega)) ⟨_, rfl⟩) | (with_reducible refine HeldP.e_alloc ?_ ?_) | (with_reducible refine HeldP.f_drew ?_) | (with_reducible refine HeldP.f_drewN ?_) | (with_reducible refine HeldP.f_set ?_) | (with_reducible refine HeldP.f_new (by first | omega | (simp; done) | (simp; omega))) | (with_reducible refine HeldP.f_alloc ?_ ?_) | (with_reducible refine HeldP.s_drew ?_) | (with_reducible refine HeldP.s_drewN ?_) | (with_reducible refine HeldP.s_set ?_) | (with_reducible refine HeldP.s_new (by first | omega | (simp; done) | (simp; omega))) | (with_reducible refine HeldP.s_alloc ?_) | (with_reducible exact ⟨_, by assumption⟩) | omega | (intro e; simp at e; done) | (intro e; simp at e; omega) | (exact rfl) | (simp; done) | (simp; omega)))⟩ ?_
  rintro w34 ⟨hb6, hz6, c0, c1, c2, c3⟩
  have hpr : PairC tkv w34 (some ⟨w33.heap.size, 0, none⟩) [(3, 1), (3, 2)] := fun _ => ⟨_, 0, rfl, hz6, fun i t ht => by
    match i, ht with
    | 0, ht =>
      obtain rfl : ((3, 1) : Tick) = t := by simpa using ht
      exact ⟨c0, c1⟩
    | 1, ht =>
      obtain rfl : ((3, 2) : Tick) = t := by simpa using ht
      exact ⟨c2, c3⟩
    | k + 2, ht => simp at ht⟩
  refine (bad_c (a := 0) (b := 0) (c := 0) (d := 0) (X1 := 0) (X2 := 0) (X3 := 0) (X4 := 0) (HT.out.below (below_t HB33.out hb6)) rfl rfl rfl rfl hpr rfl (by simp) bad4).mono ?_
  rintro e w35 ⟨rfl, hb7⟩
  have HB35 := Lib.hid (below_t HB33.out (below_t hb6 hb7))
  clear hb6 hb7 hz6 hpr c0 c1 c2 c3
  go_wp2_with fail
  go_at_call 31
  refine calls_namedW (fun W => Below w35.heap.size w35 W ∧ w35.heap.size < W.heap.size ∧ W.cell? ⟨w35.heap.size, 0, none⟩ = some (.int .i64 4096) ∧ W.cell? ⟨w35.heap.size, 1, none⟩ = some (.int .i64 1)) ⟨by (repeat' (first | (with_reducible exact Below.refl _ _) | (with_reducible refine Below.setCell ?_ (by (first | omega | (simp; done) | (simp; omega))) _) | (with_reducible refine Below.alloc ?_ (by (first | omega | (simp; done) | (simp; omega))) _) | (with_reducible refine Below.drew ?_) | (with_reducible refine below_drewN ?_ _))), by (repeat' (first | (with_reducible assumption) | (with_reducible refine HeldP.c_drew ?_) | (with_reducible refine HeldP.c_drewN ?_) | (with_reducible refine HeldP.c_same (by omega) ?_) | (with_reducible refine HeldP.c_other ?_ ?_) | (with_reducible refine HeldP.c_new (by first | omega | (simp; done) | (simp; omega)) ?_) | (with_reducible refine HeldP.c_alloc ?_ ?_) | (with_reducible refine HeldP.e_drew ?_) | (with_reducible refine HeldP.e_drewN ?_) | (with_reducible refine HeldP.e_set ?_) | (with_reducible refine HeldP.e_new (by first | omega | (simp; done) | (simp; omega)) ⟨_, rfl⟩) | (with_reducible refine HeldP.e_alloc ?_ ?_) | (with_reducible refine HeldP.f_drew ?_) | (with_reducible refine HeldP.f_drewN ?_) | (with_reducible refine HeldP.f_set ?_) | (with_reducible refine HeldP.f_new (by first | omega | (simp; done) | (simp; omega))) | (with_reducible refine HeldP.f_alloc ?_ ?_) | (with_reducible refine HeldP.s_drew ?_) | (with_reducible refine HeldP.s_drewN ?_) | (with_reducible refine HeldP.s_set ?_) | (with_reducible refine HeldP.s_new (by first | omega | (simp; done) | (simp; omega))) | (with_reducible refine HeldP.s_alloc ?_) | (with_reducible exact ⟨_, by assumption⟩) | omega | (intro e; simp at e; done) | (intro e; simp at e; omega) | (exact rfl) | (simp; done) | (simp; omega))), by (repeat' (first | (with_reducible assumption) | (with_reducible refine HeldP.c_drew ?_) | (with_reducible refine HeldP.c_drewN ?_) | (with_reducible refine HeldP.c_same (by omega) ?_) | (with_reducible refine HeldP.c_other ?_ ?_) | (with_reducible refine HeldP.c_new (by first | omega | (simp; done) | (simp; omega)) ?_) | (with_reducible refine HeldP.c_alloc ?_ ?_) | (with_reducible refine HeldP.e_drew ?_) | (with_reducible refine HeldP.e_drewN ?_) | (with_reducible refine HeldP.e_set ?_) | (with_reducible refine HeldP.e_new (by first | omega | (simp; done) | (simp; omega)) ⟨_, rfl⟩) | (with_reducible refine HeldP.e_alloc ?_ ?_) | (with_reducible refine HeldP.f_drew ?_) | (with_reducible refine HeldP.f_drewN ?_) | (with_reducible refine HeldP.f_set ?_) | (with_reducible refine HeldP.f_new (by first | omega | (simp; done) | (simp; omega))) | (with_reducible refine HeldP.f_alloc ?_ ?_) | (with_reducible refine HeldP.s_drew ?_) | (with_reducible refine HeldP.s_drewN ?_) | (with_reducible refine HeldP.s_set ?_) | (with_reducible refine HeldP.s_new (by first | omega | (simp; done) | (simp; omega))) | (with_reducible refine HeldP.s_alloc ?_) | (with_reducible exact ⟨_, by assumption⟩) | omega | (intro e; simp at e; done) | (intro e; simp at e; omega) | (exact rfl) | (simp; done) | (simp; omega))), by (repeat' (first | (with_reducible assumption) | (with_reducible refine HeldP.c_drew ?_) | (with_reducible refine HeldP.c_drewN ?_) | (with_reducible refine HeldP.c_same (by omega) ?_) | (with_reducible refine HeldP.c_other ?_ ?_) | (with_reducible refine HeldP.c_new (by first | omega | (simp; done) | (simp; omega)) ?_) | (with_reducible refine HeldP.c_alloc ?_ ?_) | (with_reducible refine HeldP.e_drew ?_) | (with_reducible refine HeldP.e_drewN ?_) | (with_reducible refine HeldP.e_set ?_) | (with_reducible refine HeldP.e_new (by first | omega | (simp; done) | (simp; omega)) ⟨_, rfl⟩) | (with_reducible refine HeldP.e_alloc ?_ ?_) | (with_reducible refine HeldP.f_drew ?_) | (with_reducible refine HeldP.f_drewN ?_) | (with_reducible refine HeldP.f_set ?_) | (with_reducible refine HeldP.f_new (by first | omega | (simp; done) | (simp; omega))) | (with_reducible refine HeldP.f_alloc ?_ ?_) | (with_reducible refine HeldP.s_drew ?_) | (with_reducible refine HeldP.s_drewN ?_) | (with_reducible refine HeldP.s_set ?_) | (with_reducible refine HeldP.s_new (by first | omega | (simp; done) | (simp; omega))) | (with_reducible refine HeldP.s_alloc ?_) | (with_reducible exact ⟨_, by assumption⟩) | omega | (intro e; simp at e; done) | (intro e; simp at e; omega) | (exact rfl) | (simp; done) | (simp; omega)))⟩ ?_
  rintro w36 ⟨hb6, hz6, c0, c1⟩
  have hpr : PairC tkv w36 (some ⟨w35.heap.size, 0, none⟩) [(4096, 1)] := fun _ => ⟨_, 0, rfl, hz6, fun i t ht => by
    match i, ht with
    | 0, ht =>
      obtain rfl : ((4096, 1) : Tick) = t := by simpa using ht
      exact ⟨c0, c1⟩
    | k + 1, ht => simp at ht⟩
  refine (bad_c (a := 0) (b := 0) (c := 0) (d := 0) (X1 := 0) (X2 := 0) (X3 := 0) (X4 := 0) (HT.out.below (below_t HB35.out hb6)) rfl rfl rfl rfl hpr rfl (by simp) bad5).mono ?_
  rintro e w37 ⟨rfl, hb7⟩
  have HB37 := Lib.hid (below_t HB35.out (below_t hb6 hb7))
  clear hb6 hb7 hz6 hpr c0 c1
  go_wp2_with fail
  go_at_call 31
  refine calls_namedW (fun W => Below w37.heap.size w37 W ∧ w37.heap.size < W.heap.size ∧ W.cell? ⟨w37.heap.size, 0, none⟩ = some (.int .i64 1) ∧ W.cell? ⟨w37.heap.size, 1, none⟩ = some (.int .i64 0)) ⟨by (repeat' (first | (with_reducible exact Below.refl _ _) | (with_reducible refine Below.setCell ?_ (by (first | omega | (simp; done) | (simp; omega))) _) | (with_reducible refine Below.alloc ?_ (by (first | omega | (simp; done) | (simp; omega))) _) | (with_reducible refine Below.drew ?_) | (with_reducible refine below_drewN ?_ _))), by (repeat' (first | (with_reducible assumption) | (with_reducible refine HeldP.c_drew ?_) | (with_reducible refine HeldP.c_drewN ?_) | (with_reducible refine HeldP.c_same (by omega) ?_) | (with_reducible refine HeldP.c_other ?_ ?_) | (with_reducible refine HeldP.c_new (by first | omega | (simp; done) | (simp; omega)) ?_) | (with_reducible refine HeldP.c_alloc ?_ ?_) | (with_reducible refine HeldP.e_drew ?_) | (with_reducible refine HeldP.e_drewN ?_) | (with_reducible refine HeldP.e_set ?_) | (with_reducible refine HeldP.e_new (by first | omega | (simp; done) | (simp; omega)) ⟨_, rfl⟩) | (with_reducible refine HeldP.e_alloc ?_ ?_) | (with_reducible refine HeldP.f_drew ?_) | (with_reducible refine HeldP.f_drewN ?_) | (with_reducible refine HeldP.f_set ?_) | (with_reducible refine HeldP.f_new (by first | omega | (simp; done) | (simp; omega))) | (with_reducible refine HeldP.f_alloc ?_ ?_) | (with_reducible refine HeldP.s_drew ?_) | (with_reducible refine HeldP.s_drewN ?_) | (with_reducible refine HeldP.s_set ?_) | (with_reducible refine HeldP.s_new (by first | omega | (simp; done) | (simp; omega))) | (with_reducible refine HeldP.s_alloc ?_) | (with_reducible exact ⟨_, by assumption⟩) | omega | (intro e; simp at e; done) | (intro e; simp at e; omega) | (exact rfl) | (simp; done) | (simp; omega))), by (repeat' (first | (with_reducible assumption) | (with_reducible refine HeldP.c_drew ?_) | (with_reducible refine HeldP.c_drewN ?_) | (with_reducible refine HeldP.c_same (by omega) ?_) | (with_reducible refine HeldP.c_other ?_ ?_) | (with_reducible refine HeldP.c_new (by first | omega | (simp; done) | (simp; omega)) ?_) | (with_reducible refine HeldP.c_alloc ?_ ?_) | (with_reducible refine HeldP.e_drew ?_) | (with_reducible refine HeldP.e_drewN ?_) | (with_reducible refine HeldP.e_set ?_) | (with_reducible refine HeldP.e_new (by first | omega | (simp; done) | (simp; omega)) ⟨_, rfl⟩) | (with_reducible refine HeldP.e_alloc ?_ ?_) | (with_reducible refine HeldP.f_drew ?_) | (with_reducible refine HeldP.f_drewN ?_) | (with_reducible refine HeldP.f_set ?_) | (with_reducible refine HeldP.f_new (by first | omega | (simp; done) | (simp; omega))) | (with_reducible refine HeldP.f_alloc ?_ ?_) | (with_reducible refine HeldP.s_drew ?_) | (with_reducible refine HeldP.s_drewN ?_) | (with_reducible refine HeldP.s_set ?_) | (with_reducible refine HeldP.s_new (by first | omega | (simp; done) | (simp; omega))) | (with_reducible refine HeldP.s_alloc ?_) | (with_reducible exact ⟨_, by assumption⟩) | omega | (intro e; simp at e; done) | (intro e; simp at e; omega) | (exact rfl) | (simp; done) | (simp; omega))), by (repeat' (first | (with_reducible assumption) | (with_reducible refine HeldP.c_drew ?_) | (with_reducible refine HeldP.c_drewN ?_) | (with_reducible refine HeldP.c_same (by omega) ?_) | (with_reducible refine HeldP.c_other ?_ ?_) | (with_reducible refine HeldP.c_new (by first | omega | (simp; done) | (simp; omega)) ?_) | (with_reducible refine HeldP.c_alloc ?_ ?_) | (with_reducible refine HeldP.e_drew ?_) | (with_reducible refine HeldP.e_drewN ?_) | (with_reducible refine HeldP.e_set ?_) | (with_reducible refine HeldP.e_new (by first | omega | (simp; done) | (simp; omega)) ⟨_, rfl⟩) | (with_reducible refine HeldP.e_alloc ?_ ?_) | (with_reducible refine HeldP.f_drew ?_) | (with_reducible refine HeldP.f_drewN ?_) | (with_reducible refine HeldP.f_set ?_) | (with_reducible refine HeldP.f_new (by first | omega | (simp; done) | (simp; omega))) | (with_reducible refine HeldP.f_alloc ?_ ?_) | (with_reducible refine HeldP.s_drew ?_) | (with_reducible refine HeldP.s_drewN ?_) | (with_reducible refine HeldP.s_set ?_) | (with_reducible refine HeldP.s_new (by first | omega | (simp; done) | (simp; omega))) | (with_reducible refine HeldP.s_alloc ?_) | (with_reducible exact ⟨_, by assumption⟩) | omega | (intro e; simp at e; done) | (intro e; simp at e; omega) | (exact rfl) | (simp; done) | (simp; omega)))⟩ ?_
  rintro w38 ⟨hb6, hz6, c0, c1⟩
  have hpr : PairC tkv w38 (some ⟨w37.heap.size, 0, none⟩) [(1, 0)] := fun _ => ⟨_, 0, rfl, hz6, fun i t ht => by
    match i, ht with
    | 0, ht =>
      obtain rfl : ((1, 0) : Tick) = t := by simpa using ht
      exact ⟨c0, c1⟩
    | k + 1, ht => simp at ht⟩
  refine (bad_c (a := 0) (b := 0) (c := 0) (d := 0) (X1 := 0) (X2 := 0) (X3 := 0) (X4 := 0) (HT.out.below (below_t HB37.out hb6)) rfl rfl rfl rfl hpr rfl (by simp) bad6).mono ?_
  rintro e w39 ⟨rfl, hb7⟩
  have HB39 := Lib.hid (below_t HB37.out (below_t hb6 hb7))
  clear hb6 hb7 hz6 hpr c0 c1
  go_wp2_with fail
  go_at_call 31
  refine calls_namedW (fun W => Below w39.heap.size w39 W ∧ w39.heap.size < W.heap.size ∧ W.cell? ⟨w39.heap.size, 0, none⟩ = some (.int .i64 0) ∧ W.cell? ⟨w39.heap.size, 1, none⟩ = some (.int .i64 2199023255552)) ⟨by (repeat' (first | (with_reducible exact Below.refl _ _) | (with_reducible refine Below.setCell ?_ (by (first | omega | (simp; done) | (simp; omega))) _) | (with_reducible refine Below.alloc ?_ (by (first | omega | (simp; done) | (simp; omega))) _) | (with_reducible refine Below.drew ?_) | (with_reducible refine below_drewN ?_ _))), by (repeat' (first | (with_reducible assumption) | (with_reducible refine HeldP.c_drew ?_) | (with_reducible refine HeldP.c_drewN ?_) | (with_reducible refine HeldP.c_same (by omega) ?_) | (with_reducible refine HeldP.c_other ?_ ?_) | (with_reducible refine HeldP.c_new (by first | omega | (simp; done) | (simp; omega)) ?_) | (with_reducible refine HeldP.c_alloc ?_ ?_) | (with_reducible refine HeldP.e_drew ?_) | (with_reducible refine HeldP.e_drewN ?_) | (with_reducible refine HeldP.e_set ?_) | (with_reducible refine HeldP.e_new (by first | omega | (simp; done) | (simp; omega)) ⟨_, rfl⟩) | (with_reducible refine HeldP.e_alloc ?_ ?_) | (with_reducible refine HeldP.f_drew ?_) | (with_reducible refine HeldP.f_drewN ?_) | (with_reducible refine HeldP.f_set ?_) | (with_reducible refine HeldP.f_new (by first | omega | (simp; done) | (simp; omega))) | (with_reducible refine HeldP.f_alloc ?_ ?_) | (with_reducible refine HeldP.s_drew ?_) | (with_reducible refine HeldP.s_drewN ?_) | (with_reducible refine HeldP.s_set ?_) | (with_reducible refine HeldP.s_new (by first | omega | (simp; done) | (simp; omega))) | (with_reducible refine HeldP.s_alloc ?_) | (with_reducible exact ⟨_, by assumption⟩) | omega | (intro e; simp at e; done) | (intro e; simp at e; omega) | (exact rfl) | (simp; done) | (simp; omega))), by (repeat' (first | (with_reducible assumption) | (with_reducible refine HeldP.c_drew ?_) | (with_reducible refine HeldP.c_drewN ?_) | (with_reducible refine HeldP.c_same (by omega) ?_) | (with_reducible refine HeldP.c_other ?_ ?_) | (with_reducible refine HeldP.c_new (by first | omega | (simp; done) | (simp; omega)) ?_) | (with_reducible refine HeldP.c_alloc ?_ ?_) | (with_reducible refine HeldP.e_drew ?_) | (with_reducible refine HeldP.e_drewN ?_) | (with_reducible refine HeldP.e_set ?_) | (with_reducible refine HeldP.e_new (by first | omega | (simp; done) | (simp; omega)) ⟨_, rfl⟩) | (with_reducible refine HeldP.e_alloc ?_ ?_) | (with_reducible refine HeldP.f_drew ?_) | (with_reducible refine HeldP.f_drewN ?_) | (with_reducible refine HeldP.f_set ?_) | (with_reducible refine HeldP.f_new (by first | omega | (simp; done) | (simp; omega))) | (with_reducible refine HeldP.f_alloc ?_ ?_) | (with_reducible refine HeldP.s_drew ?_) | (with_reducible refine HeldP.s_drewN ?_) | (with_reducible refine HeldP.s_set ?_) | (with_reducible refine HeldP.s_new (by first | omega | (simp; done) | (simp; omega))) | (with_reducible refine HeldP.s_alloc ?_) | (with_reducible exact ⟨_, by assumption⟩) | omega | (intro e; simp at e; done) | (intro e; simp at e; omega) | (exact rfl) | (simp; done) | (simp; omega))), by (repeat' (first | (with_reducible assumption) | (with_reducible refine HeldP.c_drew ?_) | (with_reducible refine HeldP.c_drewN ?_) | (with_reducible refine HeldP.c_same (by omega) ?_) | (with_reducible refine HeldP.c_other ?_ ?_) | (with_reducible refine HeldP.c_new (by first | omega | (simp; done) | (simp; omega)) ?_) | (with_reducible refine HeldP.c_alloc ?_ ?_) | (with_reducible refine HeldP.e_drew ?_) | (with_reducible refine HeldP.e_drewN ?_) | (with_reducible refine HeldP.e_set ?_) | (with_reducible refine HeldP.e_new (by first | omega | (simp; done) | (simp; omega)) ⟨_, rfl⟩) | (with_reducible refine HeldP.e_alloc ?_ ?_) | (with_reducible refine HeldP.f_drew ?_) | (with_reducible refine HeldP.f_drewN ?_) | (with_reducible refine HeldP.f_set ?_) | (with_reducible refine HeldP.f_new (by first | omega | (simp; done) | (simp; omega))) | (with_reducible refine HeldP.f_alloc ?_ ?_) | (with_reducible refine HeldP.s_drew ?_) | (with_reducible refine HeldP.s_drewN ?_) | (with_reducible refine HeldP.s_set ?_) | (with_reducible refine HeldP.s_new (by first | omega | (simp; done) | (simp; omega))) | (with_reducible refine HeldP.s_alloc ?_) | (with_reducible exact ⟨_, by assumption⟩) | omega | (intro e; simp at e; done) | (intro e; simp at e; omega) | (exact rfl) | (simp; done) | (simp; omega)))⟩ ?_
  rintro w40 ⟨hb6, hz6, c0, c1⟩
  have hpr : PairC tkv w40 (some ⟨w39.heap.size, 0, none⟩) [(0, 2199023255552)] := fun _ => ⟨_, 0, rfl, hz6, fun i t ht => by
    match i, ht with
    | 0, ht =>
      obtain rfl : ((0, 2199023255552) : Tick) = t := by simpa using ht
      exact ⟨c0, c1⟩
    | k + 1, ht => simp at ht⟩
  refine (bad_c (a := 0) (b := 0) (c := 15) (d := 15) (X1 := 0) (X2 := 0) (X3 := 15) (X4 := 15) (HT.out.below (below_t HB39.out hb6)) rfl rfl rfl rfl hpr rfl (by simp) bad7).mono ?_
  rintro e w41 ⟨rfl, hb7⟩
  have HB41 := Lib.hid (below_t HB39.out (below_t hb6 hb7))
  clear hb6 hb7 hz6 hpr c0 c1
  go_wp2_with fail
  go_ret
  exact ⟨rfl, HB41.out⟩
end ChunkW
end Go.Proofs.YtiodbbdibkeniaaDoor
