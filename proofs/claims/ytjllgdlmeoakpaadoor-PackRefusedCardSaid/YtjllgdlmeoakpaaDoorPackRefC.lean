/- PackRefused's walk, ticks. -/
import Derived.Test.YtjllgdlmeoakpaaDoorPackRefP
namespace Go.Proofs.YtjllgdlmeoakpaaDoor
open Go.RowKit
set_option linter.unusedVariables false
set_option linter.unusedSimpArgs false
namespace PackW
open BytesW RunsW

set_option maxRecDepth 100000 in
set_option maxHeartbeats 8000000 in
theorem refused_low {w : World} {A : Option Addr} {l : List Pt} {c : Nat} {at_ many due : Int} {c1 c2 l1 l2 : UInt8} (hT : KindW.Tab w) (hl : l.length ≤ 9223372036854775807) (hA : PartC w A l ∧ ∀ q ∈ l, PtOk q)
    (hat : -9223372036854775808 ≤ at_ ∧ at_ ≤ 9223372036854775807) (hm : -9223372036854775808 ≤ many ∧ many ≤ 9223372036854775807) (hdu : -9223372036854775808 ≤ due ∧ due ≤ 9223372036854775807) (hcan : can ⟨(madeP 300 l).1, (madeP 300 l).2, []⟩ = true) (g1 : mayC (c1, c2) = true) (g2 : l1.toNat ≤ 15) (g3 : l2.toNat ≤ 15) (g4 : ¬ 1 ≤ due) :
    Calls Tryd.prog 9 #[.slice A l.length c, .agg #[.int .i64 at_, .int .i64 many, .int .u8 (c1.toNat : Int), .int .u8 (c2.toNat : Int), .int .u8 (l1.toNat : Int), .int .u8 (l2.toNat : Int)], .int .i64 due] w fun e w' => e = .returned (.bool true) ∧ Below w.heap.size w w' := by
  obtain ⟨C, hC⟩ : ∃ C, C = (madeP 300 l).1 := ⟨_, rfl⟩
  obtain ⟨L, hL⟩ : ∃ L, L = (madeP 300 l).2 := ⟨_, rfl⟩
  obtain ⟨hC4, hL4⟩ : C.length = 4096 ∧ L.length = 4096 := by rw [hC, hL]; exact madeP_len 300 l
  obtain ⟨X2, hX2⟩ : ∃ X : Int, X = (c1.toNat : Int) := ⟨_, rfl⟩
  obtain ⟨X3, hX3⟩ : ∃ X : Int, X = (c2.toNat : Int) := ⟨_, rfl⟩
  obtain ⟨X4, hX4⟩ : ∃ X : Int, X = (l1.toNat : Int) := ⟨_, rfl⟩
  obtain ⟨X5, hX5⟩ : ∃ X : Int, X = (l2.toNat : Int) := ⟨_, rfl⟩
  rw [← hX2, ← hX3, ← hX4, ← hX5]
  obtain ⟨w0, hw0⟩ : ∃ w0, w0 = w.alloc (.cells #[.int .i64 at_, .int .i64 many, .int .u8 X2, .int .u8 X3, .int .u8 X4, .int .u8 X5] 47) := ⟨_, rfl⟩
  have hb0 : Below w.heap.size w w0 := by rw [hw0]; exact (Below.refl _ _).alloc (Nat.le_refl _) _
  have hz0 : w.heap.size < w0.heap.size := by rw [hw0]; exact lt_of_heap (heap_alloc_new w _)
  have HCELL : Hid (∀ i v, #[Value.int .i64 at_, .int .i64 many, .int .u8 X2, .int .u8 X3, .int .u8 X4, .int .u8 X5][i]? = some v → w0.cell? ⟨w.heap.size, i, none⟩ = some v) := Lib.hid (by
    rw [hw0]
    exact fun i v hv => (cell_of_row _ _ i _ _ _ (heap_alloc_new w _)).trans hv)
  obtain ⟨a, hae⟩ : ∃ a, a = atOf ⟨at_, many, (c1, c2), (l1, l2)⟩ := ⟨_, rfl⟩
  have ha : a < 4096 := by rw [hae]; exact atOf_lt _
  have hand : bits .and .i64 at_ 4095 = (a : Int) := by rw [hae]; exact and4095 ⟨at_, many, (c1, c2), (l1, l2)⟩
  have haI : (a : Int) < 4096 := by omega
  rw [← hC, ← hL] at hcan
  have HPA : Hid (putA ⟨C, L, []⟩ = (putC ⟨C, L, []⟩, 0)) := Lib.hid (by rw [putA, hcan]; rfl)
  obtain ⟨C', hC'⟩ : ∃ C', C' = C.set a (c1, c2) := ⟨_, rfl⟩
  obtain ⟨L', hL'⟩ : ∃ L', L' = L.set a (l1, l2) := ⟨_, rfl⟩
  obtain ⟨R1, hR1⟩ : ∃ R1, R1 = putA ⟨C', L', [((a : Int), due)]⟩ := ⟨_, rfl⟩
  have HR2 : Hid (R1.2 = 2) := Lib.hid (by
    rw [hR1, putA, hC', hL', can_set hcan hC4 hL4 ha]
    simp only [mayL, g1, g2, g3, g4, decide_true, decide_false, Bool.and_true, Bool.true_and, Bool.and_false, Bool.false_and]
    rfl)
  have HP1 : Hid (putA ⟨C', L', [((a : Int), due)]⟩ = R1) := Lib.hid hR1.symm
  have HP2 : Hid (putA ⟨C', L', [((a : Int), 1), ((a : Int), 2)]⟩ = ([], 2)) := Lib.hid (by rw [putA, can_two]; rfl)
  have HG1 := Lib.hid g1
  have HC' := Lib.hid hC'
  have HL' := Lib.hid hL'
  have hf0 : X4 ≤ 15 := by omega
  have hf1 : X5 ≤ 15 := by omega
  have HT := Lib.hid (hT.below hb0)
  have HMADE : Hid (Calls Tryd.prog 18 #[.slice A l.length c, .slice none 0 0] w0 (makeLP w0 ⟨C, L, []⟩)) := Lib.hid (by rw [hC, hL]; exact makeL_c (B := none) (ts := []) (d := 0) (hA.1.below hb0) hA.2 hl PairC.nil (by simp) (by omega))
  have HW0 := Lib.hid hw0
  have HB0 := Lib.hid hb0
  have HX2 := Lib.hid hX2
  have HX3 := Lib.hid hX3
  have HX4 := Lib.hid hX4
  have HX5 := Lib.hid hX5
  clear hT hA hl hb0 hw0 hC hL hae hX2 hX3 hX4 hX5 hcan hR1 hC' hL' g1 g2 g3
  clear hat hm hdu
  go_enter Tryd.func9, Tryd.ntmps9
  go_wp2_with fail
  go_at_call 18
  rw [← HW0.out]
  refine (HMADE.out).mono ?_
  rintro e w1 ⟨p, rfl, hk1, hp1, hb1⟩
  have HK1 := Lib.hid hk1
  have HB1 := Lib.hid hb1
  clear hk1 hb1
  go_wp2_with fail
  go_at_call 12
  refine (put6_c (HT.out.below HB1.out) HK1.out HPA.out).mono ?_
  rintro e w2 ⟨v2, rfl, hown2, hb2⟩
  dsimp only at hown2
  obtain ⟨A2, c2', rfl, hA2, hc2, hm2⟩ := hown2.sl
  have HB2 := Lib.hid (below_m HB1.out hb2)
  have HK2 := Lib.hid (HK1.out.below hb2)
  clear hb2 hown2 hA2
  have HCL2 : Hid (∀ i v, #[Value.int .i64 at_, .int .i64 many, .int .u8 X2, .int .u8 X3, .int .u8 X4, .int .u8 X5][i]? = some v → w2.cell? ⟨w.heap.size, i, none⟩ = some v) := Lib.hid (fun i v hv => by rw [HB2.out.cell hz0]; exact HCELL.out i v hv)
  have b0 := HCL2.out 0 _ rfl
  have b2 := HCL2.out 2 _ rfl
  have b3 := HCL2.out 3 _ rfl
  go_wp2_with fail
  clear b0 b2 b3 hand
  go_at_call 20
  rw [HX2.out, HX3.out]
  refine (KindW.k_may c1.toNat c2.toNat w2 (HT.out.below HB2.out)).mono ?_
  rintro e w3 ⟨he, hb3⟩
  rw [show KindP.may c1.toNat c2.toNat = true from HG1.out] at he
  subst he
  rw [← HX2.out, ← HX3.out]
  have HB3 := Lib.hid (below_m HB2.out hb3)
  have HK3 := Lib.hid (HK2.out.below hb3)
  have hp3 : w.heap.size ≠ p := by omega
  have hz3 := HB3.out.size
  have b2 := (HB3.out.cell (p := ⟨w.heap.size, 2, none⟩) hz0).trans (HCELL.out 2 _ rfl)
  have b3 := (HB3.out.cell (p := ⟨w.heap.size, 3, none⟩) hz0).trans (HCELL.out 3 _ rfl)
  have b4 := (HB3.out.cell (p := ⟨w.heap.size, 4, none⟩) hz0).trans (HCELL.out 4 _ rfl)
  have b5 := (HB3.out.cell (p := ⟨w.heap.size, 5, none⟩) hz0).trans (HCELL.out 5 _ rfl)
  obtain ⟨TA, tc, hk3, _⟩ := HK3.out
  have HCK := Lib.hid hk3
  obtain ⟨y, hy⟩ : ∃ y, C[a]? = some y := ⟨_, List.getElem?_eq_getElem (by omega)⟩
  obtain ⟨z, hz2⟩ : ∃ z, L[a]? = some z := ⟨_, List.getElem?_eq_getElem (by omega)⟩
  have g0 := (HCK.out.cell (a * 2)).trans (ckV_c hC4 hy).1
  have g1 := (HCK.out.cell (a * 2 + 1)).trans (ckV_c hC4 hy).2
  have g2 := (HCK.out.cell (8192 + a * 2)).trans (ckV_l hC4 hz2).1
  have g3 := (HCK.out.cell (8192 + a * 2 + 1)).trans (ckV_l hC4 hz2).2
  have f0 := HCK.out.frozen (a * 2)
  have f1 := HCK.out.frozen (a * 2 + 1)
  have f2 := HCK.out.frozen (8192 + a * 2)
  have f3 := HCK.out.frozen (8192 + a * 2 + 1)
  clear hy hz2 hk3 hb3
  go_wp2_with fail
  go_region
  go_wp2_with fail
  go_region
  refine x_named (fun W => (∃ v, Chk W p C' L' v) ∧ Below w0.heap.size w0 W) ?_ ?_
  · have h2 := (HCK.out.setC (j := a) ha (c1, c2)).setL (j := a) ha (l1, l2)
    have e2 : bv c1 = .int .u8 X2 := by rw [HX2.out]; rfl
    have e3 : bv c2 = .int .u8 X3 := by rw [HX3.out]; rfl
    have e4 : bv l1 = .int .u8 X4 := by rw [HX4.out]; rfl
    have e5 : bv l2 = .int .u8 X5 := by rw [HX5.out]; rfl
    rw [e2, e3, e4, e5, ← HC'.out, ← HL'.out] at h2
    have hbel := (((HB3.out.setCell (p := ⟨p, a * 2, none⟩) hp1 (.int .u8 X2)).setCell (p := ⟨p, a * 2 + 1, none⟩) hp1 (.int .u8 X3)).setCell (p := ⟨p, 8192 + a * 2, none⟩) hp1 (.int .u8 X4)).setCell (p := ⟨p, 8192 + a * 2 + 1, none⟩) hp1 (.int .u8 X5)
    first | exact ⟨⟨_, h2.drew.drew⟩, hbel.drew.drew⟩ | exact ⟨⟨_, h2.drew⟩, hbel.drew⟩
  clear g0 g1 g2 g3 f0 f1 f2 f3 b2 b3 b4 b5 hz3 hc2 hm2
  rintro w4 ⟨⟨v4, hk4⟩, hb4⟩
  have HK4 := Lib.hid hk4
  have HB4 := Lib.hid hb4
  have q0 := hk4.t
  have q1 := hk4.frozen 16384
  have hlt4 := hk4.lt
  clear hk4 hb4
  go_wp2_with fail
  go_at_call 12
  have HK5 := Lib.hid (tick_one (a := (a : Int)) (d := due) HK4.out)
  have HB5 := Lib.hid ((HB4.out.setCell (p := ⟨p, 16384, none⟩) hp1 (.slice (some ⟨w4.heap.size, 0, none⟩) 1 1)).alloc (by rw [heap_setSz]; exact HB4.out.size) (.cells #[.int .i64 (a : Int), .int .i64 due] 55))
  refine (put6_c (HT.out.below HB5.out) HK5.out HP1.out).mono ?_
  rintro e w6 ⟨v6, rfl, _, hb6⟩
  rw [HR2.out]
  have HB6 := Lib.hid (below_m HB5.out hb6)
  have HK6 := Lib.hid (HK5.out.below hb6)
  clear q0 q1 hlt4 hb6
  obtain ⟨TA6, tc6, hk6, _⟩ := HK6.out
  have q0 := hk6.t
  have q1 := hk6.frozen 16384
  have hlt6 := hk6.lt
  have HC6 := Lib.hid hk6
  clear hk6
  go_wp2_with fail
  go_at_call 12
  have HK7 := Lib.hid (tick_two (a := (a : Int)) (d := 1) (b := (a : Int)) (e := 2) HC6.out)
  have HB7 := Lib.hid ((HB6.out.setCell (p := ⟨p, 16384, none⟩) hp1 (.slice (some ⟨w6.heap.size, 0, none⟩) 2 2)).alloc (by rw [heap_setSz]; exact HB6.out.size) (.cells #[.int .i64 (a : Int), .int .i64 1, .int .i64 (a : Int), .int .i64 2] 55))
  refine (put6_c (HT.out.below HB7.out) HK7.out HP2.out).mono ?_
  rintro e w8 ⟨v8, rfl, _, hb8⟩
  have HB8 := Lib.hid (below_m HB7.out hb8)
  clear q0 q1 hlt6 hb8
  go_wp2_with (go_at_call 15; refine (works_c (HT.out.below HB8.out)).mono ?_; rintro e w9 ⟨rfl, hb9⟩)
  go_ret
  exact ⟨(by first | rfl | (simp [g5]; done) | (simp only [hf2]; rfl)), below_m HB0.out (Below.mono (below_m HB8.out hb9) (by omega))⟩
set_option maxRecDepth 100000 in
set_option maxHeartbeats 8000000 in
theorem refused_high {w : World} {A : Option Addr} {l : List Pt} {c : Nat} {at_ many due : Int} {c1 c2 l1 l2 : UInt8} (hT : KindW.Tab w) (hl : l.length ≤ 9223372036854775807) (hA : PartC w A l ∧ ∀ q ∈ l, PtOk q)
    (hat : -9223372036854775808 ≤ at_ ∧ at_ ≤ 9223372036854775807) (hm : -9223372036854775808 ≤ many ∧ many ≤ 9223372036854775807) (hdu : -9223372036854775808 ≤ due ∧ due ≤ 9223372036854775807) (hcan : can ⟨(madeP 300 l).1, (madeP 300 l).2, []⟩ = true) (g1 : mayC (c1, c2) = true) (g2 : l1.toNat ≤ 15) (g3 : l2.toNat ≤ 15) (g4 : 1 ≤ due) (g5 : ¬ due ≤ 2199023255552) :
    Calls Tryd.prog 9 #[.slice A l.length c, .agg #[.int .i64 at_, .int .i64 many, .int .u8 (c1.toNat : Int), .int .u8 (c2.toNat : Int), .int .u8 (l1.toNat : Int), .int .u8 (l2.toNat : Int)], .int .i64 due] w fun e w' => e = .returned (.bool true) ∧ Below w.heap.size w w' := by
  obtain ⟨C, hC⟩ : ∃ C, C = (madeP 300 l).1 := ⟨_, rfl⟩
  obtain ⟨L, hL⟩ : ∃ L, L = (madeP 300 l).2 := ⟨_, rfl⟩
  obtain ⟨hC4, hL4⟩ : C.length = 4096 ∧ L.length = 4096 := by rw [hC, hL]; exact madeP_len 300 l
  obtain ⟨X2, hX2⟩ : ∃ X : Int, X = (c1.toNat : Int) := ⟨_, rfl⟩
  obtain ⟨X3, hX3⟩ : ∃ X : Int, X = (c2.toNat : Int) := ⟨_, rfl⟩
  obtain ⟨X4, hX4⟩ : ∃ X : Int, X = (l1.toNat : Int) := ⟨_, rfl⟩
  obtain ⟨X5, hX5⟩ : ∃ X : Int, X = (l2.toNat : Int) := ⟨_, rfl⟩
  rw [← hX2, ← hX3, ← hX4, ← hX5]
  obtain ⟨w0, hw0⟩ : ∃ w0, w0 = w.alloc (.cells #[.int .i64 at_, .int .i64 many, .int .u8 X2, .int .u8 X3, .int .u8 X4, .int .u8 X5] 47) := ⟨_, rfl⟩
  have hb0 : Below w.heap.size w w0 := by rw [hw0]; exact (Below.refl _ _).alloc (Nat.le_refl _) _
  have hz0 : w.heap.size < w0.heap.size := by rw [hw0]; exact lt_of_heap (heap_alloc_new w _)
  have HCELL : Hid (∀ i v, #[Value.int .i64 at_, .int .i64 many, .int .u8 X2, .int .u8 X3, .int .u8 X4, .int .u8 X5][i]? = some v → w0.cell? ⟨w.heap.size, i, none⟩ = some v) := Lib.hid (by
    rw [hw0]
    exact fun i v hv => (cell_of_row _ _ i _ _ _ (heap_alloc_new w _)).trans hv)
  obtain ⟨a, hae⟩ : ∃ a, a = atOf ⟨at_, many, (c1, c2), (l1, l2)⟩ := ⟨_, rfl⟩
  have ha : a < 4096 := by rw [hae]; exact atOf_lt _
  have hand : bits .and .i64 at_ 4095 = (a : Int) := by rw [hae]; exact and4095 ⟨at_, many, (c1, c2), (l1, l2)⟩
  have haI : (a : Int) < 4096 := by omega
  rw [← hC, ← hL] at hcan
  have HPA : Hid (putA ⟨C, L, []⟩ = (putC ⟨C, L, []⟩, 0)) := Lib.hid (by rw [putA, hcan]; rfl)
  obtain ⟨C', hC'⟩ : ∃ C', C' = C.set a (c1, c2) := ⟨_, rfl⟩
  obtain ⟨L', hL'⟩ : ∃ L', L' = L.set a (l1, l2) := ⟨_, rfl⟩
  obtain ⟨R1, hR1⟩ : ∃ R1, R1 = putA ⟨C', L', [((a : Int), due)]⟩ := ⟨_, rfl⟩
  have HR2 : Hid (R1.2 = 2) := Lib.hid (by
    rw [hR1, putA, hC', hL', can_set hcan hC4 hL4 ha]
    simp only [mayL, g1, g2, g3, g4, g5, decide_true, decide_false, Bool.and_true, Bool.true_and, Bool.and_false, Bool.false_and]
    rfl)
  have HP1 : Hid (putA ⟨C', L', [((a : Int), due)]⟩ = R1) := Lib.hid hR1.symm
  have HP2 : Hid (putA ⟨C', L', [((a : Int), 1), ((a : Int), 2)]⟩ = ([], 2)) := Lib.hid (by rw [putA, can_two]; rfl)
  have HG1 := Lib.hid g1
  have HC' := Lib.hid hC'
  have HL' := Lib.hid hL'
  have hf0 : X4 ≤ 15 := by omega
  have hf1 : X5 ≤ 15 := by omega
  have hf2 : decide (due ≤ 2199023255552) = false := by simpa using g5
  have HT := Lib.hid (hT.below hb0)
  have HMADE : Hid (Calls Tryd.prog 18 #[.slice A l.length c, .slice none 0 0] w0 (makeLP w0 ⟨C, L, []⟩)) := Lib.hid (by rw [hC, hL]; exact makeL_c (B := none) (ts := []) (d := 0) (hA.1.below hb0) hA.2 hl PairC.nil (by simp) (by omega))
  have HW0 := Lib.hid hw0
  have HB0 := Lib.hid hb0
  have HX2 := Lib.hid hX2
  have HX3 := Lib.hid hX3
  have HX4 := Lib.hid hX4
  have HX5 := Lib.hid hX5
  clear hT hA hl hb0 hw0 hC hL hae hX2 hX3 hX4 hX5 hcan hR1 hC' hL' g1 g2 g3
  clear hat hm hdu
  go_enter Tryd.func9, Tryd.ntmps9
  go_wp2_with fail
  go_at_call 18
  rw [← HW0.out]
  refine (HMADE.out).mono ?_
  rintro e w1 ⟨p, rfl, hk1, hp1, hb1⟩
  have HK1 := Lib.hid hk1
  have HB1 := Lib.hid hb1
  clear hk1 hb1
  go_wp2_with fail
  go_at_call 12
  refine (put6_c (HT.out.below HB1.out) HK1.out HPA.out).mono ?_
  rintro e w2 ⟨v2, rfl, hown2, hb2⟩
  dsimp only at hown2
  obtain ⟨A2, c2', rfl, hA2, hc2, hm2⟩ := hown2.sl
  have HB2 := Lib.hid (below_m HB1.out hb2)
  have HK2 := Lib.hid (HK1.out.below hb2)
  clear hb2 hown2 hA2
  have HCL2 : Hid (∀ i v, #[Value.int .i64 at_, .int .i64 many, .int .u8 X2, .int .u8 X3, .int .u8 X4, .int .u8 X5][i]? = some v → w2.cell? ⟨w.heap.size, i, none⟩ = some v) := Lib.hid (fun i v hv => by rw [HB2.out.cell hz0]; exact HCELL.out i v hv)
  have b0 := HCL2.out 0 _ rfl
  have b2 := HCL2.out 2 _ rfl
  have b3 := HCL2.out 3 _ rfl
  go_wp2_with fail
  clear b0 b2 b3 hand
  go_at_call 20
  rw [HX2.out, HX3.out]
  refine (KindW.k_may c1.toNat c2.toNat w2 (HT.out.below HB2.out)).mono ?_
  rintro e w3 ⟨he, hb3⟩
  rw [show KindP.may c1.toNat c2.toNat = true from HG1.out] at he
  subst he
  rw [← HX2.out, ← HX3.out]
  have HB3 := Lib.hid (below_m HB2.out hb3)
  have HK3 := Lib.hid (HK2.out.below hb3)
  have hp3 : w.heap.size ≠ p := by omega
  have hz3 := HB3.out.size
  have b2 := (HB3.out.cell (p := ⟨w.heap.size, 2, none⟩) hz0).trans (HCELL.out 2 _ rfl)
  have b3 := (HB3.out.cell (p := ⟨w.heap.size, 3, none⟩) hz0).trans (HCELL.out 3 _ rfl)
  have b4 := (HB3.out.cell (p := ⟨w.heap.size, 4, none⟩) hz0).trans (HCELL.out 4 _ rfl)
  have b5 := (HB3.out.cell (p := ⟨w.heap.size, 5, none⟩) hz0).trans (HCELL.out 5 _ rfl)
  obtain ⟨TA, tc, hk3, _⟩ := HK3.out
  have HCK := Lib.hid hk3
  obtain ⟨y, hy⟩ : ∃ y, C[a]? = some y := ⟨_, List.getElem?_eq_getElem (by omega)⟩
  obtain ⟨z, hz2⟩ : ∃ z, L[a]? = some z := ⟨_, List.getElem?_eq_getElem (by omega)⟩
  have g0 := (HCK.out.cell (a * 2)).trans (ckV_c hC4 hy).1
  have g1 := (HCK.out.cell (a * 2 + 1)).trans (ckV_c hC4 hy).2
  have g2 := (HCK.out.cell (8192 + a * 2)).trans (ckV_l hC4 hz2).1
  have g3 := (HCK.out.cell (8192 + a * 2 + 1)).trans (ckV_l hC4 hz2).2
  have f0 := HCK.out.frozen (a * 2)
  have f1 := HCK.out.frozen (a * 2 + 1)
  have f2 := HCK.out.frozen (8192 + a * 2)
  have f3 := HCK.out.frozen (8192 + a * 2 + 1)
  clear hy hz2 hk3 hb3
  go_wp2_with fail
  go_region
  go_wp2_with fail
  go_region
  refine x_named (fun W => (∃ v, Chk W p C' L' v) ∧ Below w0.heap.size w0 W) ?_ ?_
  · have h2 := (HCK.out.setC (j := a) ha (c1, c2)).setL (j := a) ha (l1, l2)
    have e2 : bv c1 = .int .u8 X2 := by rw [HX2.out]; rfl
    have e3 : bv c2 = .int .u8 X3 := by rw [HX3.out]; rfl
    have e4 : bv l1 = .int .u8 X4 := by rw [HX4.out]; rfl
    have e5 : bv l2 = .int .u8 X5 := by rw [HX5.out]; rfl
    rw [e2, e3, e4, e5, ← HC'.out, ← HL'.out] at h2
    have hbel := (((HB3.out.setCell (p := ⟨p, a * 2, none⟩) hp1 (.int .u8 X2)).setCell (p := ⟨p, a * 2 + 1, none⟩) hp1 (.int .u8 X3)).setCell (p := ⟨p, 8192 + a * 2, none⟩) hp1 (.int .u8 X4)).setCell (p := ⟨p, 8192 + a * 2 + 1, none⟩) hp1 (.int .u8 X5)
    first | exact ⟨⟨_, h2.drew.drew⟩, hbel.drew.drew⟩ | exact ⟨⟨_, h2.drew⟩, hbel.drew⟩
  clear g0 g1 g2 g3 f0 f1 f2 f3 b2 b3 b4 b5 hz3 hc2 hm2
  rintro w4 ⟨⟨v4, hk4⟩, hb4⟩
  have HK4 := Lib.hid hk4
  have HB4 := Lib.hid hb4
  have q0 := hk4.t
  have q1 := hk4.frozen 16384
  have hlt4 := hk4.lt
  clear hk4 hb4
  go_wp2_with fail
  go_at_call 12
  have HK5 := Lib.hid (tick_one (a := (a : Int)) (d := due) HK4.out)
  have HB5 := Lib.hid ((HB4.out.setCell (p := ⟨p, 16384, none⟩) hp1 (.slice (some ⟨w4.heap.size, 0, none⟩) 1 1)).alloc (by rw [heap_setSz]; exact HB4.out.size) (.cells #[.int .i64 (a : Int), .int .i64 due] 55))
  refine (put6_c (HT.out.below HB5.out) HK5.out HP1.out).mono ?_
  rintro e w6 ⟨v6, rfl, _, hb6⟩
  rw [HR2.out]
  have HB6 := Lib.hid (below_m HB5.out hb6)
  have HK6 := Lib.hid (HK5.out.below hb6)
  clear q0 q1 hlt4 hb6
  obtain ⟨TA6, tc6, hk6, _⟩ := HK6.out
  have q0 := hk6.t
  have q1 := hk6.frozen 16384
  have hlt6 := hk6.lt
  have HC6 := Lib.hid hk6
  clear hk6
  go_wp2_with fail
  go_at_call 12
  have HK7 := Lib.hid (tick_two (a := (a : Int)) (d := 1) (b := (a : Int)) (e := 2) HC6.out)
  have HB7 := Lib.hid ((HB6.out.setCell (p := ⟨p, 16384, none⟩) hp1 (.slice (some ⟨w6.heap.size, 0, none⟩) 2 2)).alloc (by rw [heap_setSz]; exact HB6.out.size) (.cells #[.int .i64 (a : Int), .int .i64 1, .int .i64 (a : Int), .int .i64 2] 55))
  refine (put6_c (HT.out.below HB7.out) HK7.out HP2.out).mono ?_
  rintro e w8 ⟨v8, rfl, _, hb8⟩
  have HB8 := Lib.hid (below_m HB7.out hb8)
  clear q0 q1 hlt6 hb8
  go_wp2_with (go_at_call 15; refine (works_c (HT.out.below HB8.out)).mono ?_; rintro e w9 ⟨rfl, hb9⟩)
  go_ret
  exact ⟨(by first | rfl | (simp [g5]; done) | (simp only [hf2]; rfl)), below_m HB0.out (Below.mono (below_m HB8.out hb9) (by omega))⟩
end PackW
end Go.Proofs.YtjllgdlmeoakpaaDoor
