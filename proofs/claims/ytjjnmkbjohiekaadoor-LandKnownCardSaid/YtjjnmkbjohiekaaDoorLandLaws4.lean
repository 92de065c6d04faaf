/-
  LandKnown.
-/
import Derived.Test.YtjjnmkbjohiekaaDoorLandIs
namespace Go.Proofs.YtjjnmkbjohiekaaDoor
open Go.RowKit
set_option linter.unusedVariables false
set_option linter.unusedSimpArgs false
namespace LandP
open BytesW PackW PlaceW ChunkW

theorem high {y : Int} (h : 1 ≤ y) : landC y = landC 1 ∧ landL y = landL 1 := by
  constructor
  · refine List.map_congr_left fun i _ => ?_
    have e : ∀ z : Int, 1 ≤ z → below_ (yOf z i) = 3 := fun z hz => by
      unfold below_ yOf
      rw [if_neg (by omega), if_neg (by omega), if_neg (by omega)]
    rw [cellY, cellY, e y h, e 1 (by omega)]
  · refine List.map_congr_left fun i _ => ?_
    have e : ∀ z : Int, 1 ≤ z → ¬ yOf z i < 16 := fun z hz => by
      unfold yOf
      omega
    rw [lightY, lightY, if_neg (e y h), if_neg (e 1 (by omega))]
theorem landK_cs (y : Int) : (landK y).cs = landC y := by simp only [landK]
theorem landK_ls (y : Int) : (landK y).ls = landL y := by simp only [landK]
theorem isL_yes {k : Ck} {y : Int} (h1 : k.cs = landC y) (h2 : k.ls = landL y) (h3 : k.ts = []) : isL k y = true := by
  rw [isL, decide_eq_true h1, decide_eq_true h2, h3]
  rfl
theorem is_13 : isL (landK 1) 3 = true := by
  obtain ⟨h1, h2⟩ := high (y := 3) (by omega)
  exact isL_yes ((landK_cs 1).trans h1.symm) ((landK_ls 1).trans h2.symm) rfl
theorem is_10 : isL (landK 1) 0 = false := by
  have h : (landK 1).cs ≠ landC 0 := fun e => by
    have h0 := landC_get (y := 0) (i := 0) (by omega)
    have h1 := landC_get (y := 1) (i := 0) (by omega)
    rw [← (landK_cs 1).symm.trans e, h1] at h0
    exact absurd h0 (by decide)
  rw [isL, decide_eq_false h, Bool.false_and]
theorem at5_c {w : World} {y : Int} {c : Cell} (hT : LTab w) (h : cellA 5 y 5 = c) :
    Calls Tryd.prog 28 #[.int .i64 y] w fun e w' => e = .returned (cval c) ∧ Below w.heap.size w w' := by
  have HT := Lib.hid hT
  have H := Lib.hid h
  obtain ⟨c1, c2⟩ := c
  clear hT h
  go_enter Tryd.func28, Tryd.ntmps28
  go_wp2_with (go_at_call 10; (with_reducible refine (cell_c (HT.out.below (by (repeat' (first | (with_reducible exact Below.refl _ _) | (with_reducible refine Below.setCell ?_ (by (first | omega | (simp; done) | (simp; omega))) _) | (with_reducible refine Below.alloc ?_ (by (first | omega | (simp; done) | (simp; omega))) _) | (with_reducible refine Below.drew ?_) | (with_reducible refine below_drewN ?_ _))))) H.out).mono ?_); rintro e w2 ⟨rfl, hb2⟩; simp only [cval, bv]; obtain ⟨hc2, hf2⟩ := bcell hb2; have hz2 : w.heap.size < w2.heap.size := (by have := hb2.size; (try simp at this); omega); have hn2_0 : w.heap.size ≠ w2.heap.size := (by omega))
  refine bodyPost_ret (v := .agg #[.int .u8 (c1.toNat : Int), .int .u8 (c2.toNat : Int)]) (by simp [results, Tryd.results28, go_sem, hc2, hf2, hz2]) rfl ?_
  refine ⟨rfl, ?_⟩
  (repeat' (first | (with_reducible exact Below.refl _ _) | (with_reducible refine Below.setCell ?_ (by (first | omega | (simp; done) | (simp; omega))) _) | (with_reducible refine Below.alloc ?_ (by (first | omega | (simp; done) | (simp; omega))) _) | (with_reducible refine Below.drew ?_) | (with_reducible refine below_drewN ?_ _) | (with_reducible refine Below.trans ?_ (Below.mono hb2 (by (first | omega | (simp; done) | (simp; omega)))))))
theorem at5_0 {w : World} (hT : LTab w) : Calls Tryd.prog 28 #[.int .i64 0] w fun e w' => e = .returned (.agg #[.int .u8 1, .int .u8 0]) ∧ Below w.heap.size w w' := at5_c (c := (1, 0)) hT (by decide)
theorem at5_1 {w : World} (hT : LTab w) : Calls Tryd.prog 28 #[.int .i64 1] w fun e w' => e = .returned (.agg #[.int .u8 2, .int .u8 0]) ∧ Below w.heap.size w w' := at5_c (c := (2, 0)) hT (by decide)
theorem at5_2 {w : World} (hT : LTab w) : Calls Tryd.prog 28 #[.int .i64 11] w fun e w' => e = .returned (.agg #[.int .u8 2, .int .u8 0]) ∧ Below w.heap.size w w' := at5_c (c := (2, 0)) hT (by decide)
theorem at5_3 {w : World} (hT : LTab w) : Calls Tryd.prog 28 #[.int .i64 12] w fun e w' => e = .returned (.agg #[.int .u8 3, .int .u8 0]) ∧ Below w.heap.size w w' := at5_c (c := (3, 0)) hT (by decide)
theorem at5_4 {w : World} (hT : LTab w) : Calls Tryd.prog 28 #[.int .i64 15] w fun e w' => e = .returned (.agg #[.int .u8 3, .int .u8 0]) ∧ Below w.heap.size w w' := at5_c (c := (3, 0)) hT (by decide)
theorem at5_5 {w : World} (hT : LTab w) : Calls Tryd.prog 28 #[.int .i64 16] w fun e w' => e = .returned (.agg #[.int .u8 0, .int .u8 0]) ∧ Below w.heap.size w w' := at5_c (c := (0, 0)) hT (by decide)
theorem at5_6 {w : World} (hT : LTab w) : Calls Tryd.prog 28 #[.int .i64 64] w fun e w' => e = .returned (.agg #[.int .u8 0, .int .u8 0]) ∧ Below w.heap.size w w' := at5_c (c := (0, 0)) hT (by decide)
theorem at5_7 {w : World} (hT : LTab w) : Calls Tryd.prog 28 #[.int .i64 (-1)] w fun e w' => e = .returned (.agg #[.int .u8 0, .int .u8 0]) ∧ Below w.heap.size w w' := at5_c (c := (0, 0)) hT (by decide)
theorem lt_0 {w : World} : Calls Tryd.prog 12 #[.agg #[.int .i64 0, .int .i64 15, .int .i64 0]] w fun e w' => e = .returned (.agg #[.int .u8 0, .int .u8 0]) ∧ Below w.heap.size w w' := light_c (c := (0, 0)) (by decide)
theorem lt_1 {w : World} : Calls Tryd.prog 12 #[.agg #[.int .i64 0, .int .i64 16, .int .i64 0]] w fun e w' => e = .returned (.agg #[.int .u8 15, .int .u8 0]) ∧ Below w.heap.size w w' := light_c (c := (15, 0)) (by decide)
theorem lt_2 {w : World} : Calls Tryd.prog 12 #[.agg #[.int .i64 0, .int .i64 64, .int .i64 0]] w fun e w' => e = .returned (.agg #[.int .u8 0, .int .u8 0]) ∧ Below w.heap.size w w' := light_c (c := (0, 0)) (by decide)

set_option maxRecDepth 100000 in
set_option maxHeartbeats 8000000 in
theorem law_known {w : World} (hK : KindW.Tab w) (hT : LTab w) :
    Calls Tryd.prog 9 #[] w fun e w' => e = .returned (.bool true) ∧ Below w.heap.size w w' := by
  have HT := Lib.hid hT
  have HKT := Lib.hid hK
  have HB0 := Lib.hid (Below.refl w.heap.size w)
  clear hT hK
  go_enter Tryd.func9, Tryd.ntmps9
  go_wp2_with fail
  go_at_call 28
  refine (at5_0 (HT.out.below HB0.out)).mono ?_
  rintro e w1 ⟨rfl, hb⟩
  have HB1 := Lib.hid (below_t HB0.out hb)
  clear hb
  go_wp2_with fail
  go_at_call 28
  refine (at5_1 (HT.out.below HB1.out)).mono ?_
  rintro e w2 ⟨rfl, hb⟩
  have HB2 := Lib.hid (below_t HB1.out hb)
  clear hb
  go_wp2_with fail
  go_at_call 28
  refine (at5_2 (HT.out.below HB2.out)).mono ?_
  rintro e w3 ⟨rfl, hb⟩
  have HB3 := Lib.hid (below_t HB2.out hb)
  clear hb
  go_wp2_with fail
  go_at_call 28
  refine (at5_3 (HT.out.below HB3.out)).mono ?_
  rintro e w4 ⟨rfl, hb⟩
  have HB4 := Lib.hid (below_t HB3.out hb)
  clear hb
  go_wp2_with fail
  go_at_call 28
  refine (at5_4 (HT.out.below HB4.out)).mono ?_
  rintro e w5 ⟨rfl, hb⟩
  have HB5 := Lib.hid (below_t HB4.out hb)
  clear hb
  go_wp2_with fail
  go_at_call 28
  refine (at5_5 (HT.out.below HB5.out)).mono ?_
  rintro e w6 ⟨rfl, hb⟩
  have HB6 := Lib.hid (below_t HB5.out hb)
  clear hb
  go_wp2_with fail
  go_at_call 28
  refine (at5_6 (HT.out.below HB6.out)).mono ?_
  rintro e w7 ⟨rfl, hb⟩
  have HB7 := Lib.hid (below_t HB6.out hb)
  clear hb
  go_wp2_with fail
  go_at_call 28
  refine (at5_7 (HT.out.below HB7.out)).mono ?_
  rintro e w8 ⟨rfl, hb⟩
  have HB8 := Lib.hid (below_t HB7.out hb)
  clear hb
  go_wp2_with fail
  go_at_call 15
  refine (chunk_c (HT.out.below HB8.out) (by decide)).mono ?_
  rintro e w9 ⟨p, rfl, hp, _, hb⟩
  have HB9 := Lib.hid (below_t HB8.out hb)
  have HP9 := Lib.hid hp
  clear hb hp
  go_wp2_with fail
  go_at_call 15
  refine (chunk_no (by decide)).mono ?_
  rintro e w10 ⟨rfl, hb⟩
  have HB10 := Lib.hid (below_t HB9.out hb)
  have HP10 := Lib.hid (HP9.out.below hb)
  clear hb
  go_wp2_with fail
  go_at_call 12
  refine (lt_0).mono ?_
  rintro e w11 ⟨rfl, hb⟩
  have HB11 := Lib.hid (below_t HB10.out hb)
  have HP11 := Lib.hid (HP10.out.below hb)
  clear hb
  go_wp2_with fail
  go_at_call 12
  refine (lt_1).mono ?_
  rintro e w12 ⟨rfl, hb⟩
  have HB12 := Lib.hid (below_t HB11.out hb)
  have HP12 := Lib.hid (HP11.out.below hb)
  clear hb
  go_wp2_with fail
  go_at_call 12
  refine (lt_2).mono ?_
  rintro e w13 ⟨rfl, hb⟩
  have HB13 := Lib.hid (below_t HB12.out hb)
  have HP13 := Lib.hid (HP12.out.below hb)
  clear hb
  go_wp2_with fail
  go_at_call 17
  refine (lm_c (HKT.out.below HB13.out) (HT.out.below HB13.out) (by decide) mov0).mono ?_
  rintro e w14 ⟨rfl, hb⟩
  have HB14 := Lib.hid (below_t HB13.out hb)
  have HP14 := Lib.hid (HP13.out.below hb)
  clear hb
  go_wp2_with fail
  go_at_call 17
  refine (lm_c (HKT.out.below HB14.out) (HT.out.below HB14.out) (by decide) mov1).mono ?_
  rintro e w15 ⟨rfl, hb⟩
  have HB15 := Lib.hid (below_t HB14.out hb)
  have HP15 := Lib.hid (HP14.out.below hb)
  clear hb
  go_wp2_with fail
  go_at_call 17
  refine (lm_no (by decide)).mono ?_
  rintro e w16 ⟨rfl, hb⟩
  have HB16 := Lib.hid (below_t HB15.out hb)
  have HP16 := Lib.hid (HP15.out.below hb)
  clear hb
  go_wp2_with fail
  go_at_call 21
  refine (is_nil (HT.out.below HB16.out)).mono ?_
  rintro e w17 ⟨rfl, hb⟩
  have HB17 := Lib.hid (below_t HB16.out hb)
  have HP17 := Lib.hid (HP16.out.below hb)
  clear hb
  go_wp2_with fail
  go_at_call 21
  refine (is_c (HT.out.below HB17.out) HP17.out (by decide) is_13).mono ?_
  rintro e w18 ⟨rfl, hb⟩
  have HB18 := Lib.hid (below_t HB17.out hb)
  have HP18 := Lib.hid (HP17.out.below hb)
  clear hb
  go_wp2_with fail
  go_at_call 21
  refine (is_c (HT.out.below HB18.out) HP18.out (by decide) is_10).mono ?_
  rintro e w19 ⟨rfl, hb⟩
  have HB19 := Lib.hid (below_t HB18.out hb)
  have HP19 := Lib.hid (HP18.out.below hb)
  clear hb
  go_wp2_with fail
  go_at_call 14
  refine (works_c (HT.out.below HB19.out)).mono ?_
  rintro e w20 ⟨rfl, hb⟩
  have HB20 := Lib.hid (below_t HB19.out hb)
  have HP20 := Lib.hid (HP19.out.below hb)
  clear hb
  go_wp2_with fail
  go_ret
  exact ⟨rfl, HB20.out⟩
end LandP
end Go.Proofs.YtjjnmkbjohiekaaDoor
