/-
  AnchorHangs: what ticks rises, by fours, is near an anchor, does not hang on which of the two is which; one that is put and lifted leaves the other.
-/
import Derived.BigQuiet
import Derived.BigRegion
import Derived.Lib.Hide
import Derived.Deep.RegionHeld3
import Derived.Deep.MidRow
import Derived.Laws.Tables
import Derived.Test.YtcmmfihhnmhhgaaAnchorAwake
namespace Go.Proofs.Ytcmmfihhnmhhgaa
open Go.RowKit
set_option linter.unusedVariables false
set_option linter.unusedSimpArgs false
namespace AncW
open BlkP RowG FrS PushG AncP
open PlaceW (bcell below_drewN)

theorem put_cases {a b c d : An} {id nn X Y Z : Int} {r : Bool} (h : putA a b id (X, Y, Z, r) = ((c, d), nn)) : (nn ≠ 0 ∧ ((0, 0, 0), false) = c ∧ ((0, 0, 0), false) = d) ∨ (nn = 0 ∧ r = true ∧ ((id = 0 ∧ ((X, Y, Z), true) = c ∧ b = d) ∨ (id = 1 ∧ a = c ∧ ((X, Y, Z), true) = d))) := by
  unfold putA at h
  by_cases hid : id = 0 ∨ id = 1
  · rw [if_pos hid] at h
    cases r with
    | false =>
      obtain ⟨⟨rfl, rfl⟩, rfl⟩ : (offA = c ∧ offA = d) ∧ 10 = nn := by simpa using h
      exact .inl ⟨by decide, rfl, rfl⟩
    | true =>
      rcases hid with rfl | rfl
      · obtain ⟨⟨rfl, rfl⟩, rfl⟩ : (((X, Y, Z), true) = c ∧ b = d) ∧ 0 = nn := by simpa using h
        exact .inr ⟨rfl, rfl, .inl ⟨rfl, rfl, rfl⟩⟩
      · obtain ⟨⟨rfl, rfl⟩, rfl⟩ : (a = c ∧ ((X, Y, Z), true) = d) ∧ 0 = nn := by simpa using h
        exact .inr ⟨rfl, rfl, .inr ⟨rfl, rfl, rfl⟩⟩
  · rw [if_neg hid] at h
    obtain ⟨⟨rfl, rfl⟩, rfl⟩ : (offA = c ∧ offA = d) ∧ 2 = nn := by simpa using h
    exact .inl ⟨by decide, rfl, rfl⟩
theorem home_may {x y z X Y Z : Int} (h : PlaceW.spotOf x y z = (X, Y, Z, true)) : may (X, Y, Z) = true := by
  unfold PlaceW.spotOf at h
  split at h
  · rename_i hm
    obtain ⟨rfl, rfl, rfl, _⟩ := PlaceW.p4 h
    have := PlaceW.mayB_true hm
    refine may_iff.2 ?_
    simp only
    omega
  · obtain ⟨_, _, _, h⟩ := PlaceW.p4 h
    cases h
theorem home_self {X Y Z : Int} : besides ((X, Y, Z), true) (X, Y, Z) = true := besides_iff.2 ⟨rfl, by constructor <;> (simp only; omega), by constructor <;> (simp only; omega)⟩
theorem home_a {b : An} {x y z X Y Z : Int} (h : PlaceW.spotOf x y z = (X, Y, Z, true)) : inL ((X, Y, Z), true) b (X, Y, Z) = true := by rw [inL, home_may h, home_self]; rfl
theorem home_b {a : An} {x y z X Y Z : Int} (h : PlaceW.spotOf x y z = (X, Y, Z, true)) : inL a ((X, Y, Z), true) (X, Y, Z) = true := by rw [inL, home_may h, home_self, Bool.or_true]; rfl
set_option maxRecDepth 100000 in
set_option maxHeartbeats 16000000 in
theorem law_hangs {w : World} {a b : An} {id x y z : Int} (ha : Is64 a.1) (hb : Is64 b.1) (i1 : -9223372036854775808 ≤ id) (i2 : id < 9223372036854775808) :
    Calls Try.prog 6 #[.agg #[.int .i64 a.1.1, .int .i64 a.1.2.1, .int .i64 a.1.2.2, .bool a.2, .int .i64 b.1.1, .int .i64 b.1.2.1, .int .i64 b.1.2.2, .bool b.2], .int .i64 id, .agg #[.int .i64 x, .int .i64 y, .int .i64 z]] w fun e w' => e = .returned (.bool true) ∧ Below w.heap.size w w' := by
  have HIA := Lib.hid ha
  have HIB := Lib.hid hb
  obtain ⟨L, hL⟩ : ∃ L, rspots a b = L := ⟨_, rfl⟩
  have HTK := Lib.hid (show Ticks a b L from hL ▸ rspots_ticks ha hb)
  have HSW := Lib.hid (show rspots b a = L from ticks_is (rspots_ticks hb ha) (ticks_swap HTK.out))
  obtain ⟨n, hn⟩ : ∃ n, L.length = n := ⟨_, rfl⟩
  have HN := Lib.hid hn
  have hn72 : n ≤ 72 := hn ▸ ticks_len ha hb HTK.out
  have HF := Lib.hid (ticks_four HTK.out)
  have h4 : ((n : Int).tmod 4) = 0 := by
    rw [Int.tmod_eq_emod_of_nonneg (by omega)]
    have := HF.out.1
    rw [hn] at this
    omega
  have hn72I : ¬ (72 : Int) < (n : Int) := by omega
  have HL := Lib.hid hL
  obtain ⟨s, hs⟩ : ∃ s, w.heap.size = s := ⟨_, rfl⟩
  clear ha hb hL hn
  go_enter Try.func6, Try.ntmps6
  go_wp2_with fail
  refine calls_named (S := fun W => Below w.heap.size w W ∧ Blk W s TT [.int .i64 a.1.1, .int .i64 a.1.2.1, .int .i64 a.1.2.2, .bool a.2, .int .i64 b.1.1, .int .i64 b.1.2.1, .int .i64 b.1.2.2, .bool b.2] ∧ Blk W (s + 1) 27 [.int .i64 x, .int .i64 y, .int .i64 z] ∧ True) ⟨by (repeat' (first | (with_reducible exact Below.refl _ _) | (with_reducible refine Below.setCell ?_ (by (first | omega | (simp; done) | (simp; omega))) _) | (with_reducible refine Below.alloc ?_ (by (first | omega | (simp; done) | (simp; omega))) _) | (with_reducible refine Below.drew ?_) | (with_reducible refine below_drewN ?_ _))), by subst hs; (repeat' (first | (with_reducible refine BlkP.Blk.drew ?_) | (with_reducible refine BlkP.Blk.drewN ?_ _) | (with_reducible refine BlkP.Blk.setAt (us := ?_) (by first | omega | (simp; done) | (simp; omega)) rfl ?_ ?_) | (with_reducible refine BlkP.Blk.otherAt ?_ (by first | omega | (simp; done) | (simp; omega))) | (with_reducible refine BlkP.Blk.newA' (by first | omega | (simp; done) | (simp; omega)) rfl) | (with_reducible refine BlkP.Blk.alloc ?_ _) | (exact rfl))), by subst hs; (repeat' (first | (with_reducible refine BlkP.Blk.drew ?_) | (with_reducible refine BlkP.Blk.drewN ?_ _) | (with_reducible refine BlkP.Blk.setAt (us := ?_) (by first | omega | (simp; done) | (simp; omega)) rfl ?_ ?_) | (with_reducible refine BlkP.Blk.otherAt ?_ (by first | omega | (simp; done) | (simp; omega))) | (with_reducible refine BlkP.Blk.newA' (by first | omega | (simp; done) | (simp; omega)) rfl) | (with_reducible refine BlkP.Blk.alloc ?_ _) | (exact rfl))), trivial⟩ ?_
  rintro w0a ⟨hb, k0, k1, -⟩
  refine (Spots_c HIA.out HIB.out).mono ?_
  rintro e w0 ⟨v1, rfl, o1, hb2⟩
  rw [HL.out] at o1
  have O1 := Lib.hid (o1.mono hb.size)
  clear o1
  have Bw0 := Lib.hid (below_t hb hb2)
  have hzw0 := Bw0.out.size
  have Hw0_0 := Lib.hid (k0.below hb2)
  have Hw0_1 := Lib.hid (k1.below hb2)
  clear hb hb2 k0 k1
  have s_0 := Hw0_0.out.cell (i := 0) rfl
  have s_1 := Hw0_0.out.cell (i := 1) rfl
  have s_2 := Hw0_0.out.cell (i := 2) rfl
  have s_3 := Hw0_0.out.cell (i := 3) rfl
  have s_4 := Hw0_0.out.cell (i := 4) rfl
  have s_5 := Hw0_0.out.cell (i := 5) rfl
  have s_6 := Hw0_0.out.cell (i := 6) rfl
  have s_7 := Hw0_0.out.cell (i := 7) rfl
  have s_l := Hw0_0.out.lt
  go_wp2_with fail
  refine calls_named (S := fun W => Below w.heap.size w W ∧ Blk W s TT [.int .i64 a.1.1, .int .i64 a.1.2.1, .int .i64 a.1.2.2, .bool a.2, .int .i64 b.1.1, .int .i64 b.1.2.1, .int .i64 b.1.2.2, .bool b.2] ∧ Blk W (s + 1) 27 [.int .i64 x, .int .i64 y, .int .i64 z] ∧ RowG.Own encS TS W w.heap.size v1 L ∧ True) ⟨by (repeat' (first | (with_reducible exact Below.refl _ _) | (with_reducible refine Below.setCell ?_ (by (first | omega | (simp; done) | (simp; omega))) _) | (with_reducible refine Below.alloc ?_ (by (first | omega | (simp; done) | (simp; omega))) _) | (with_reducible refine Below.drew ?_) | (with_reducible refine below_drewN ?_ _) | (with_reducible refine Below.trans ?_ (Below.mono Bw0.out (by (first | omega | (simp; done) | (simp; omega))))))), by (repeat' (first | (with_reducible exact Hw0_0.out) | (with_reducible refine BlkP.Blk.drew ?_) | (with_reducible refine BlkP.Blk.drewN ?_ _) | (with_reducible refine BlkP.Blk.setAt (us := ?_) (by first | omega | (simp; done) | (simp; omega)) rfl ?_ ?_) | (with_reducible refine BlkP.Blk.otherAt ?_ (by first | omega | (simp; done) | (simp; omega))) | (with_reducible refine BlkP.Blk.newA' (by first | omega | (simp; done) | (simp; omega)) rfl) | (with_reducible refine BlkP.Blk.alloc ?_ _) | (exact rfl))), by (repeat' (first | (with_reducible exact Hw0_1.out) | (with_reducible refine BlkP.Blk.drew ?_) | (with_reducible refine BlkP.Blk.drewN ?_ _) | (with_reducible refine BlkP.Blk.setAt (us := ?_) (by first | omega | (simp; done) | (simp; omega)) rfl ?_ ?_) | (with_reducible refine BlkP.Blk.otherAt ?_ (by first | omega | (simp; done) | (simp; omega))) | (with_reducible refine BlkP.Blk.newA' (by first | omega | (simp; done) | (simp; omega)) rfl) | (with_reducible refine BlkP.Blk.alloc ?_ _) | (exact rfl))), O1.out.below (by (repeat' (first | (with_reducible exact Below.refl _ _) | (with_reducible refine Below.setCell ?_ (by (first | omega | (simp; done) | (simp; omega))) _) | (with_reducible refine Below.alloc ?_ (by (first | omega | (simp; done) | (simp; omega))) _) | (with_reducible refine Below.drew ?_) | (with_reducible refine below_drewN ?_ _)))), trivial⟩ ?_
  rintro w1a ⟨hb, k0, k1, o1, -⟩
  refine (Spots_c HIB.out HIA.out).mono ?_
  rintro e w1 ⟨v2, rfl, o2, hb2⟩
  rw [HSW.out] at o2
  have O2 := Lib.hid (o2.mono hb.size)
  clear o2
  have Bw1 := Lib.hid (below_t hb hb2)
  have hzw1 := Bw1.out.size
  have Hw1_0 := Lib.hid (k0.below hb2)
  have Hw1_1 := Lib.hid (k1.below hb2)
  have O1 := Lib.hid (o1.below hb2)
  clear o1
  clear hb hb2 k0 k1 s_0 s_1 s_2 s_3 s_4 s_5 s_6 s_7 s_l
  obtain ⟨A1, cp1, rfl, _, _, hA1⟩ := own_len O1.out HN.out
  obtain ⟨A2, cp2, rfl, _, _, hA2⟩ := own_len O2.out HN.out
  have HA1 := Lib.hid hA1
  have HA2 := Lib.hid hA2
  clear hA1 hA2
  go_wp2_with fail
  go_loopw [9] (fun v9 wr => ∃ i : Nat, v9 = .int .i64 (i : Nat) ∧ i ≤ n ∧ Below w1.heap.size w1 wr) (fun v _ => 100 - (intOf v).toNat)
  case atStart => exact ⟨0, rfl, Nat.zero_le _, Below.refl _ _⟩
  case round =>
    obtain ⟨i, rfl, hi, hbr⟩ := hrel
    have BR := Lib.hid hbr
    have hbz := hbr.size
    clear hbr
    by_cases hin : i < n
    · have hiI : (i : Int) < (n : Int) := by omega
      obtain ⟨g1, rfl, _, _⟩ := HA1.out (by omega)
      obtain ⟨g2, rfl, _, _⟩ := HA2.out (by omega)
      obtain ⟨⟨qx, qy, qz⟩, hq⟩ : ∃ q, L[i]? = some q := ⟨_, List.getElem?_eq_getElem (by rw [HN.out]; exact hin)⟩
      have hmem := (HTK.out.2 (qx, qy, qz)).1 (List.mem_of_getElem? hq)
      have HM := Lib.hid (show may (qx, qy, qz) = true by
        rw [inL, Bool.and_eq_true] at hmem
        exact hmem.1)
      have hy4 := HF.out.2 i _ hq
      simp only at hy4
      have P1 := Lib.hid (O1.out.below BR.out)
      have P2 := Lib.hid (O2.out.below BR.out)
      obtain ⟨x0, x1, x2⟩ := spot_at P1.out hq
      obtain ⟨y0, y1, y2⟩ := spot_at P2.out hq
      have gl1 := own_at P1.out hq
      have gl2 := own_at P2.out hq
      simp only at x0 x1 x2 y0 y1 y2
      by_cases hi0 : i = 0
      · subst hi0
        have HY := Lib.hid (show (0 : Int).tmod 4 = qy by rw [hy4]; rfl)
        have HQ := Lib.hid hq
        clear hq hmem hy4
        simp only [Nat.zero_mul, Nat.zero_add] at x0 x1 x2 y0 y1 y2
        go_wp2_with fail
        refine wp_region_noPanic ?_
        refine wp_region_held_drew (S := fun W => Below wr.heap.size wr W) (by kernel_rfl) ((Below.refl _ wr).drew) (fun hHeld => ?_)
        refine wpAnyH_take (i := 0) (oi := ⟨some 48, _, _, _, _, _⟩) (v := .slice (some ⟨g1, 0, none⟩) n cp1) rfl (by kernel_rfl) (by kernel_rfl) (by kernel_rfl) (fun _ _ _ h => h) (Or.inl ⟨by rfl, fun W hSW => by go_simp⟩) hHeld ?_
        simp only [Act.put, List.setIfInBounds_toArray, List.set_cons_zero, List.set_cons_succ]
        refine wpAnyH_take (i := 1) (oi := ⟨some 49, _, _, _, _, _⟩) (v := .int .i64 0) rfl (by kernel_rfl) (by kernel_rfl) (by kernel_rfl) (fun _ _ _ h => h) (Or.inl ⟨by rfl, fun W hSW => by go_simp⟩) hHeld ?_
        simp only [Act.put, List.setIfInBounds_toArray, List.set_cons_zero, List.set_cons_succ]
        refine wpAnyH_take (i := 2) (oi := ⟨some 50, _, _, _, _, _⟩) (v := .pointer (some ⟨g1, 0, none⟩)) rfl (by kernel_rfl) (by kernel_rfl) (by kernel_rfl) (fun _ _ _ h => h) (Or.inl ⟨by rfl, fun W hSW => by go_simp⟩) hHeld ?_
        simp only [Act.put, List.setIfInBounds_toArray, List.set_cons_zero, List.set_cons_succ]
        refine wpAnyH_take (i := 3) (oi := ⟨some 51, _, _, _, _, _⟩) (v := .agg #[.int .i64 qx, .int .i64 qy, .int .i64 qz]) rfl (by kernel_rfl) (by kernel_rfl) (by kernel_rfl) (fun _ _ _ h => h) (Or.inl ⟨by rfl, fun W hSW => by have a0 := (hSW.cell (p := ⟨g1, 0, none⟩) gl1).trans x0; have a1 := (hSW.cell (p := ⟨g1, 1, none⟩) gl1).trans x1; have a2 := (hSW.cell (p := ⟨g1, 2, none⟩) gl1).trans x2; go_simp⟩) hHeld ?_
        simp only [Act.put, List.setIfInBounds_toArray, List.set_cons_zero, List.set_cons_succ]
        refine wpAnyH_take (i := 4) (oi := ⟨some 52, _, _, _, _, _⟩) (v := .slice (some ⟨g2, 0, none⟩) n cp2) rfl (by kernel_rfl) (by kernel_rfl) (by kernel_rfl) (fun _ _ _ h => h) (Or.inl ⟨by rfl, fun W hSW => by go_simp⟩) hHeld ?_
        simp only [Act.put, List.setIfInBounds_toArray, List.set_cons_zero, List.set_cons_succ]
        refine wpAnyH_take (i := 5) (oi := ⟨some 53, _, _, _, _, _⟩) (v := .int .i64 0) rfl (by kernel_rfl) (by kernel_rfl) (by kernel_rfl) (fun _ _ _ h => h) (Or.inl ⟨by rfl, fun W hSW => by go_simp⟩) hHeld ?_
        simp only [Act.put, List.setIfInBounds_toArray, List.set_cons_zero, List.set_cons_succ]
        refine wpAnyH_take (i := 6) (oi := ⟨some 54, _, _, _, _, _⟩) (v := .pointer (some ⟨g2, 0, none⟩)) rfl (by kernel_rfl) (by kernel_rfl) (by kernel_rfl) (fun _ _ _ h => h) (Or.inl ⟨by rfl, fun W hSW => by go_simp⟩) hHeld ?_
        simp only [Act.put, List.setIfInBounds_toArray, List.set_cons_zero, List.set_cons_succ]
        refine wpAnyH_take (i := 7) (oi := ⟨some 55, _, _, _, _, _⟩) (v := .agg #[.int .i64 qx, .int .i64 qy, .int .i64 qz]) rfl (by kernel_rfl) (by kernel_rfl) (by kernel_rfl) (fun _ _ _ h => h) (Or.inl ⟨by rfl, fun W hSW => by have a0 := (hSW.cell (p := ⟨g2, 0, none⟩) gl2).trans y0; have a1 := (hSW.cell (p := ⟨g2, 1, none⟩) gl2).trans y1; have a2 := (hSW.cell (p := ⟨g2, 2, none⟩) gl2).trans y2; go_simp⟩) hHeld ?_
        simp only [Act.put, List.setIfInBounds_toArray, List.set_cons_zero, List.set_cons_succ]
        refine wpAnyH_take (i := 8) (oi := ⟨some 56, _, _, _, _, _⟩) (v := .bool false) rfl (by kernel_rfl) (by kernel_rfl) (by kernel_rfl) (fun _ _ _ h => h) (Or.inl ⟨by rfl, fun W hSW => by have q := run_neS W (qx, qy, qz) (qx, qy, qz) (r := true) (by simp); go_simp⟩) hHeld ?_
        simp only [Act.put, List.setIfInBounds_toArray, List.set_cons_zero, List.set_cons_succ]
        refine wpAnyH_take (i := 9) (oi := ⟨some 57, _, _, _, _, _⟩) (v := .bool false) rfl (by kernel_rfl) (by kernel_rfl) (by kernel_rfl) (fun _ _ _ h => h) (Or.inl ⟨by rfl, fun W hSW => by go_simp⟩) hHeld ?_
        simp only [Act.put, List.setIfInBounds_toArray, List.set_cons_zero, List.set_cons_succ]
        refine wpAnyH_take (i := 10) (oi := ⟨some 58, _, _, _, _, _⟩) (v := .slice (some ⟨g1, 0, none⟩) n cp1) rfl (by kernel_rfl) (by kernel_rfl) (by kernel_rfl) (fun _ _ _ h => h) (Or.inl ⟨by rfl, fun W hSW => by go_simp⟩) hHeld ?_
        simp only [Act.put, List.setIfInBounds_toArray, List.set_cons_zero, List.set_cons_succ]
        refine wpAnyH_take (i := 11) (oi := ⟨some 59, _, _, _, _, _⟩) (v := .int .i64 0) rfl (by kernel_rfl) (by kernel_rfl) (by kernel_rfl) (fun _ _ _ h => h) (Or.inl ⟨by rfl, fun W hSW => by go_simp⟩) hHeld ?_
        simp only [Act.put, List.setIfInBounds_toArray, List.set_cons_zero, List.set_cons_succ]
        refine wpAnyH_take (i := 12) (oi := ⟨some 60, _, _, _, _, _⟩) (v := .pointer (some ⟨g1, 0, none⟩)) rfl (by kernel_rfl) (by kernel_rfl) (by kernel_rfl) (fun _ _ _ h => h) (Or.inl ⟨by rfl, fun W hSW => by go_simp⟩) hHeld ?_
        simp only [Act.put, List.setIfInBounds_toArray, List.set_cons_zero, List.set_cons_succ]
        refine wpAnyH_take (i := 13) (oi := ⟨some 61, _, _, _, _, _⟩) (v := .agg #[.int .i64 qx, .int .i64 qy, .int .i64 qz]) rfl (by kernel_rfl) (by kernel_rfl) (by kernel_rfl) (fun _ _ _ h => h) (Or.inl ⟨by rfl, fun W hSW => by have a0 := (hSW.cell (p := ⟨g1, 0, none⟩) gl1).trans x0; have a1 := (hSW.cell (p := ⟨g1, 1, none⟩) gl1).trans x1; have a2 := (hSW.cell (p := ⟨g1, 2, none⟩) gl1).trans x2; go_simp⟩) hHeld ?_
        simp only [Act.put, List.setIfInBounds_toArray, List.set_cons_zero, List.set_cons_succ]
        refine wpAnyH_ready (rs := [14]) (by kernel_rfl) (by simp) ?_
        refine AllReadyH.cons (o := ⟨some 62, _, _, _, _, _⟩) rfl (fun K hK => ?_) AllReadyH.nil
        go_simp
        refine (PlaceW.maySpot_b ((may_is qx qy qz).trans HM.out) _).mono ?_
        rintro e w14 ⟨rfl, hb14⟩
        refine hK.out _ _ (below_t hHeld hb14) (fun hHeld => ?_)
        clear hK K hb14
        refine wpAnyH_take (i := 15) (oi := ⟨some 63, _, _, _, _, _⟩) (v := .bool false) rfl (by kernel_rfl) (by kernel_rfl) (by kernel_rfl) (fun _ _ _ h => h) (Or.inl ⟨by rfl, fun W hSW => by go_simp⟩) hHeld ?_
        simp only [Act.put, List.setIfInBounds_toArray, List.set_cons_zero, List.set_cons_succ]
        refine wpAnyH_take (i := 16) (oi := ⟨some 64, _, _, _, _, _⟩) (v := .bool false) rfl (by kernel_rfl) (by kernel_rfl) (by kernel_rfl) (fun _ _ _ h => h) (Or.inl ⟨by rfl, fun W hSW => by go_simp⟩) hHeld ?_
        simp only [Act.put, List.setIfInBounds_toArray, List.set_cons_zero, List.set_cons_succ]
        refine wpAnyH_take (i := 17) (oi := ⟨some 65, _, _, _, _, _⟩) (v := .bool false) rfl (by kernel_rfl) (by kernel_rfl) (by kernel_rfl) (fun _ _ _ h => h) (Or.inl ⟨by rfl, fun W hSW => by go_simp⟩) hHeld ?_
        simp only [Act.put, List.setIfInBounds_toArray, List.set_cons_zero, List.set_cons_succ]
        refine wpAnyH_take (i := 18) (oi := ⟨some 66, _, _, _, _, _⟩) (v := .slice (some ⟨g1, 0, none⟩) n cp1) rfl (by kernel_rfl) (by kernel_rfl) (by kernel_rfl) (fun _ _ _ h => h) (Or.inl ⟨by rfl, fun W hSW => by go_simp⟩) hHeld ?_
        simp only [Act.put, List.setIfInBounds_toArray, List.set_cons_zero, List.set_cons_succ]
        refine wpAnyH_take (i := 19) (oi := ⟨some 67, _, _, _, _, _⟩) (v := .int .i64 0) rfl (by kernel_rfl) (by kernel_rfl) (by kernel_rfl) (fun _ _ _ h => h) (Or.inl ⟨by rfl, fun W hSW => by go_simp⟩) hHeld ?_
        simp only [Act.put, List.setIfInBounds_toArray, List.set_cons_zero, List.set_cons_succ]
        refine wpAnyH_take (i := 20) (oi := ⟨some 68, _, _, _, _, _⟩) (v := .pointer (some ⟨g1, 0, none⟩)) rfl (by kernel_rfl) (by kernel_rfl) (by kernel_rfl) (fun _ _ _ h => h) (Or.inl ⟨by rfl, fun W hSW => by go_simp⟩) hHeld ?_
        simp only [Act.put, List.setIfInBounds_toArray, List.set_cons_zero, List.set_cons_succ]
        refine wpAnyH_take (i := 21) (oi := ⟨some 69, _, _, _, _, _⟩) (v := .pointer (some ⟨g1, 1, none⟩)) rfl (by kernel_rfl) (by kernel_rfl) (by kernel_rfl) (fun _ _ _ h => h) (Or.inl ⟨by rfl, fun W hSW => by go_simp⟩) hHeld ?_
        simp only [Act.put, List.setIfInBounds_toArray, List.set_cons_zero, List.set_cons_succ]
        refine wpAnyH_take (i := 22) (oi := ⟨some 70, _, _, _, _, _⟩) (v := .int .i64 qy) rfl (by kernel_rfl) (by kernel_rfl) (by kernel_rfl) (fun _ _ _ h => h) (Or.inl ⟨by rfl, fun W hSW => by have a0 := (hSW.cell (p := ⟨g1, 1, none⟩) gl1).trans x1; go_simp⟩) hHeld ?_
        simp only [Act.put, List.setIfInBounds_toArray, List.set_cons_zero, List.set_cons_succ]
        refine wpAnyH_take (i := 23) (oi := ⟨some 71, _, _, _, _, _⟩) (v := .int .i64 0) rfl (by kernel_rfl) (by kernel_rfl) (by kernel_rfl) (fun _ _ _ h => h) (Or.inl ⟨by rfl, fun W hSW => by go_simp⟩) hHeld ?_
        simp only [Act.put, List.setIfInBounds_toArray, List.set_cons_zero, List.set_cons_succ]
        refine wpAnyH_take (i := 24) (oi := ⟨some 72, _, _, _, _, _⟩) (v := .int .i64 qy) rfl (by kernel_rfl) (by kernel_rfl) (by kernel_rfl) (fun _ _ _ h => h) (Or.inl ⟨by rfl, fun W hSW => by have e := HY.out; go_simp; try exact e⟩) hHeld ?_
        simp only [Act.put, List.setIfInBounds_toArray, List.set_cons_zero, List.set_cons_succ]
        refine wpAnyH_take (i := 25) (oi := ⟨some 73, _, _, _, _, _⟩) (v := .bool false) rfl (by kernel_rfl) (by kernel_rfl) (by kernel_rfl) (fun _ _ _ h => h) (Or.inl ⟨by rfl, fun W hSW => by go_simp⟩) hHeld ?_
        simp only [Act.put, List.setIfInBounds_toArray, List.set_cons_zero, List.set_cons_succ]
        refine wpAnyH_take (i := 26) (oi := ⟨some 74, _, _, _, _, _⟩) (v := .bool false) rfl (by kernel_rfl) (by kernel_rfl) (by kernel_rfl) (fun _ _ _ h => h) (Or.inl ⟨by rfl, fun W hSW => by go_simp⟩) hHeld ?_
        simp only [Act.put, List.setIfInBounds_toArray, List.set_cons_zero, List.set_cons_succ]
        refine wpAnyH_take (i := 27) (oi := ⟨some 75, _, _, _, _, _⟩) (v := .bool false) rfl (by kernel_rfl) (by kernel_rfl) (by kernel_rfl) (fun _ _ _ h => h) (Or.inl ⟨by rfl, fun W hSW => by go_simp⟩) hHeld ?_
        simp only [Act.put, List.setIfInBounds_toArray, List.set_cons_zero, List.set_cons_succ]
        refine wpAnyH_take (i := 28) (oi := ⟨some 76, _, _, _, _, _⟩) (v := .int .i64 0) rfl (by kernel_rfl) (by kernel_rfl) (by kernel_rfl) (fun _ _ _ h => h) (Or.inl ⟨by rfl, fun W hSW => by go_simp⟩) hHeld ?_
        simp only [Act.put, List.setIfInBounds_toArray, List.set_cons_zero, List.set_cons_succ]
        refine wpAnyH_take (i := 29) (oi := ⟨some 77, _, _, _, _, _⟩) (v := .bool false) rfl (by kernel_rfl) (by kernel_rfl) (by kernel_rfl) (fun _ _ _ h => h) (Or.inl ⟨by rfl, fun W hSW => by go_simp⟩) hHeld ?_
        simp only [Act.put, List.setIfInBounds_toArray, List.set_cons_zero, List.set_cons_succ]
        refine wpAnyH_take (i := 30) (oi := ⟨some 78, _, _, _, _, _⟩) (v := .bool false) rfl (by kernel_rfl) (by kernel_rfl) (by kernel_rfl) (fun _ _ _ h => h) (Or.inl ⟨by rfl, fun W hSW => by go_simp⟩) hHeld ?_
        simp only [Act.put, List.setIfInBounds_toArray, List.set_cons_zero, List.set_cons_succ]
        refine wpAnyH_take (i := 31) (oi := ⟨some 79, _, _, _, _, _⟩) (v := undef) rfl (by kernel_rfl) (by kernel_rfl) (by kernel_rfl) (fun _ _ _ h => h) (Or.inr ⟨by kernel_rfl, rfl⟩) hHeld ?_
        simp only [Act.put, List.setIfInBounds_toArray, List.set_cons_zero, List.set_cons_succ]
        refine wpAnyH_take (i := 32) (oi := ⟨some 80, _, _, _, _, _⟩) (v := undef) rfl (by kernel_rfl) (by kernel_rfl) (by kernel_rfl) (fun _ _ _ h => h) (Or.inr ⟨by kernel_rfl, rfl⟩) hHeld ?_
        simp only [Act.put, List.setIfInBounds_toArray, List.set_cons_zero, List.set_cons_succ]
        refine wpAnyH_take (i := 33) (oi := ⟨some 81, _, _, _, _, _⟩) (v := undef) rfl (by kernel_rfl) (by kernel_rfl) (by kernel_rfl) (fun _ _ _ h => h) (Or.inr ⟨by kernel_rfl, rfl⟩) hHeld ?_
        simp only [Act.put, List.setIfInBounds_toArray, List.set_cons_zero, List.set_cons_succ]
        refine wpAnyH_take (i := 34) (oi := ⟨some 82, _, _, _, _, _⟩) (v := undef) rfl (by kernel_rfl) (by kernel_rfl) (by kernel_rfl) (fun _ _ _ h => h) (Or.inr ⟨by kernel_rfl, rfl⟩) hHeld ?_
        simp only [Act.put, List.setIfInBounds_toArray, List.set_cons_zero, List.set_cons_succ]
        refine wpAnyH_take (i := 35) (oi := ⟨some 83, _, _, _, _, _⟩) (v := undef) rfl (by kernel_rfl) (by kernel_rfl) (by kernel_rfl) (fun _ _ _ h => h) (Or.inr ⟨by kernel_rfl, rfl⟩) hHeld ?_
        simp only [Act.put, List.setIfInBounds_toArray, List.set_cons_zero, List.set_cons_succ]
        refine wpAnyH_take (i := 36) (oi := ⟨some 84, _, _, _, _, _⟩) (v := undef) rfl (by kernel_rfl) (by kernel_rfl) (by kernel_rfl) (fun _ _ _ h => h) (Or.inr ⟨by kernel_rfl, rfl⟩) hHeld ?_
        simp only [Act.put, List.setIfInBounds_toArray, List.set_cons_zero, List.set_cons_succ]
        refine wpAnyH_take (i := 37) (oi := ⟨some 85, _, _, _, _, _⟩) (v := undef) rfl (by kernel_rfl) (by kernel_rfl) (by kernel_rfl) (fun _ _ _ h => h) (Or.inr ⟨by kernel_rfl, rfl⟩) hHeld ?_
        simp only [Act.put, List.setIfInBounds_toArray, List.set_cons_zero, List.set_cons_succ]
        refine wpAnyH_take (i := 38) (oi := ⟨some 86, _, _, _, _, _⟩) (v := undef) rfl (by kernel_rfl) (by kernel_rfl) (by kernel_rfl) (fun _ _ _ h => h) (Or.inr ⟨by kernel_rfl, rfl⟩) hHeld ?_
        simp only [Act.put, List.setIfInBounds_toArray, List.set_cons_zero, List.set_cons_succ]
        refine wpAnyH_take (i := 39) (oi := ⟨some 87, _, _, _, _, _⟩) (v := undef) rfl (by kernel_rfl) (by kernel_rfl) (by kernel_rfl) (fun _ _ _ h => h) (Or.inr ⟨by kernel_rfl, rfl⟩) hHeld ?_
        simp only [Act.put, List.setIfInBounds_toArray, List.set_cons_zero, List.set_cons_succ]
        refine wpAnyH_take (i := 40) (oi := ⟨some 88, _, _, _, _, _⟩) (v := undef) rfl (by kernel_rfl) (by kernel_rfl) (by kernel_rfl) (fun _ _ _ h => h) (Or.inr ⟨by kernel_rfl, rfl⟩) hHeld ?_
        simp only [Act.put, List.setIfInBounds_toArray, List.set_cons_zero, List.set_cons_succ]
        refine wpAnyH_take (i := 41) (oi := ⟨some 89, _, _, _, _, _⟩) (v := undef) rfl (by kernel_rfl) (by kernel_rfl) (by kernel_rfl) (fun _ _ _ h => h) (Or.inr ⟨by kernel_rfl, rfl⟩) hHeld ?_
        simp only [Act.put, List.setIfInBounds_toArray, List.set_cons_zero, List.set_cons_succ]
        refine wpAnyH_take (i := 42) (oi := ⟨some 90, _, _, _, _, _⟩) (v := .bool false) rfl (by kernel_rfl) (by kernel_rfl) (by kernel_rfl) (fun _ _ _ h => h) (Or.inl ⟨by rfl, fun W hSW => by go_simp⟩) hHeld ?_
        simp only [Act.put, List.setIfInBounds_toArray, List.set_cons_zero, List.set_cons_succ]
        refine wpAnyH_take (i := 43) (oi := ⟨some 91, _, _, _, _, _⟩) (v := .bool false) rfl (by kernel_rfl) (by kernel_rfl) (by kernel_rfl) (fun _ _ _ h => h) (Or.inl ⟨by rfl, fun W hSW => by go_simp⟩) hHeld ?_
        simp only [Act.put, List.setIfInBounds_toArray, List.set_cons_zero, List.set_cons_succ]
        refine wpAnyH_done (by kernel_rfl) ?_ _
        refine NoPanic.normal ?_
        have BE := Lib.hid (below_t BR.out hHeld)
        clear hHeld x0 x1 x2 y0 y1 y2 gl1 gl2
        go_wp2_with fail
        go_roundw
        case rel => exact ⟨1, by first | rfl | (congr 1; omega), by omega, BE.out⟩
        case measure =>
          simp only [intOf]
          omega
      · obtain ⟨j, hj⟩ : ∃ j, i = j + 1 := ⟨i - 1, by omega⟩
        have hip : (0 : Int) < (i : Int) := by omega
        have hip0 : 0 < i := by omega
        have HY := Lib.hid (show (i : Int).tmod 4 = qy by
          rw [hy4, Int.tmod_eq_emod_of_nonneg (by omega)]
          omega)
        have HJ := Lib.hid (show wrap64 ((i : Int) - 1) = (j : Int) by unfold wrap64; omega)
        obtain ⟨⟨px, py, pz⟩, hp⟩ : ∃ q, L[j]? = some q := ⟨_, List.getElem?_eq_getElem (by rw [HN.out]; omega)⟩
        obtain ⟨z0, z1, z2⟩ := spot_at P1.out hp
        simp only at z0 z1 z2
        obtain ⟨m, hm⟩ : ∃ m, PlaceW.cmpOf px py pz qx qy qz = m := ⟨_, rfl⟩
        have hm0 : m < 0 := (cmp_lt (p := (px, py, pz)) (q := (qx, qy, qz)) hm).2 (by
          have h1 := List.pairwise_iff_getElem.1 HTK.out.1 j i (by rw [HN.out]; omega) (by rw [HN.out]; omega) (by omega)
          have e1 := (List.getElem?_eq_some_iff.1 hp).2
          have e2 := (List.getElem?_eq_some_iff.1 hq).2
          rw [e1, e2] at h1
          exact h1)
        have hmn : ¬ 0 ≤ m := by omega
        have HCM := Lib.hid hm
        have hj1 : (i : Int) ≤ 72 := by omega
        have hjn : (j : Int) < (n : Int) := by omega
        have HJE := Lib.hid hj
        clear hq hp hmem hy4 hm hj
        go_wp2_with fail
        refine wp_region_noPanic ?_
        refine wp_region_held_drew (S := fun W => Below wr.heap.size wr W) (by kernel_rfl) ((Below.refl _ wr).drew) (fun hHeld => ?_)
        refine wpAnyH_take (i := 0) (oi := ⟨some 48, _, _, _, _, _⟩) (v := .slice (some ⟨g1, 0, none⟩) n cp1) rfl (by kernel_rfl) (by kernel_rfl) (by kernel_rfl) (fun _ _ _ h => h) (Or.inl ⟨by rfl, fun W hSW => by go_simp⟩) hHeld ?_
        simp only [Act.put, List.setIfInBounds_toArray, List.set_cons_zero, List.set_cons_succ]
        refine wpAnyH_take (i := 1) (oi := ⟨some 49, _, _, _, _, _⟩) (v := .int .i64 (i : Int)) rfl (by kernel_rfl) (by kernel_rfl) (by kernel_rfl) (fun _ _ _ h => h) (Or.inl ⟨by rfl, fun W hSW => by go_simp⟩) hHeld ?_
        simp only [Act.put, List.setIfInBounds_toArray, List.set_cons_zero, List.set_cons_succ]
        refine wpAnyH_take (i := 2) (oi := ⟨some 50, _, _, _, _, _⟩) (v := .pointer (some ⟨g1, i * 3, none⟩)) rfl (by kernel_rfl) (by kernel_rfl) (by kernel_rfl) (fun _ _ _ h => h) (Or.inl ⟨by rfl, fun W hSW => by go_simp⟩) hHeld ?_
        simp only [Act.put, List.setIfInBounds_toArray, List.set_cons_zero, List.set_cons_succ]
        refine wpAnyH_take (i := 3) (oi := ⟨some 51, _, _, _, _, _⟩) (v := .agg #[.int .i64 qx, .int .i64 qy, .int .i64 qz]) rfl (by kernel_rfl) (by kernel_rfl) (by kernel_rfl) (fun _ _ _ h => h) (Or.inl ⟨by rfl, fun W hSW => by have a0 := (hSW.cell (p := ⟨g1, i * 3, none⟩) gl1).trans x0; have a1 := (hSW.cell (p := ⟨g1, i * 3 + 1, none⟩) gl1).trans x1; have a2 := (hSW.cell (p := ⟨g1, i * 3 + 2, none⟩) gl1).trans x2; go_simp⟩) hHeld ?_
        simp only [Act.put, List.setIfInBounds_toArray, List.set_cons_zero, List.set_cons_succ]
        refine wpAnyH_take (i := 4) (oi := ⟨some 52, _, _, _, _, _⟩) (v := .slice (some ⟨g2, 0, none⟩) n cp2) rfl (by kernel_rfl) (by kernel_rfl) (by kernel_rfl) (fun _ _ _ h => h) (Or.inl ⟨by rfl, fun W hSW => by go_simp⟩) hHeld ?_
        simp only [Act.put, List.setIfInBounds_toArray, List.set_cons_zero, List.set_cons_succ]
        refine wpAnyH_take (i := 5) (oi := ⟨some 53, _, _, _, _, _⟩) (v := .int .i64 (i : Int)) rfl (by kernel_rfl) (by kernel_rfl) (by kernel_rfl) (fun _ _ _ h => h) (Or.inl ⟨by rfl, fun W hSW => by go_simp⟩) hHeld ?_
        simp only [Act.put, List.setIfInBounds_toArray, List.set_cons_zero, List.set_cons_succ]
        refine wpAnyH_take (i := 6) (oi := ⟨some 54, _, _, _, _, _⟩) (v := .pointer (some ⟨g2, i * 3, none⟩)) rfl (by kernel_rfl) (by kernel_rfl) (by kernel_rfl) (fun _ _ _ h => h) (Or.inl ⟨by rfl, fun W hSW => by go_simp⟩) hHeld ?_
        simp only [Act.put, List.setIfInBounds_toArray, List.set_cons_zero, List.set_cons_succ]
        refine wpAnyH_take (i := 7) (oi := ⟨some 55, _, _, _, _, _⟩) (v := .agg #[.int .i64 qx, .int .i64 qy, .int .i64 qz]) rfl (by kernel_rfl) (by kernel_rfl) (by kernel_rfl) (fun _ _ _ h => h) (Or.inl ⟨by rfl, fun W hSW => by have a0 := (hSW.cell (p := ⟨g2, i * 3, none⟩) gl2).trans y0; have a1 := (hSW.cell (p := ⟨g2, i * 3 + 1, none⟩) gl2).trans y1; have a2 := (hSW.cell (p := ⟨g2, i * 3 + 2, none⟩) gl2).trans y2; go_simp⟩) hHeld ?_
        simp only [Act.put, List.setIfInBounds_toArray, List.set_cons_zero, List.set_cons_succ]
        refine wpAnyH_take (i := 8) (oi := ⟨some 56, _, _, _, _, _⟩) (v := .bool false) rfl (by kernel_rfl) (by kernel_rfl) (by kernel_rfl) (fun _ _ _ h => h) (Or.inl ⟨by rfl, fun W hSW => by have q := run_neS W (qx, qy, qz) (qx, qy, qz) (r := true) (by simp); go_simp⟩) hHeld ?_
        simp only [Act.put, List.setIfInBounds_toArray, List.set_cons_zero, List.set_cons_succ]
        refine wpAnyH_take (i := 9) (oi := ⟨some 57, _, _, _, _, _⟩) (v := .bool false) rfl (by kernel_rfl) (by kernel_rfl) (by kernel_rfl) (fun _ _ _ h => h) (Or.inl ⟨by rfl, fun W hSW => by go_simp⟩) hHeld ?_
        simp only [Act.put, List.setIfInBounds_toArray, List.set_cons_zero, List.set_cons_succ]
        refine wpAnyH_take (i := 10) (oi := ⟨some 58, _, _, _, _, _⟩) (v := .slice (some ⟨g1, 0, none⟩) n cp1) rfl (by kernel_rfl) (by kernel_rfl) (by kernel_rfl) (fun _ _ _ h => h) (Or.inl ⟨by rfl, fun W hSW => by go_simp⟩) hHeld ?_
        simp only [Act.put, List.setIfInBounds_toArray, List.set_cons_zero, List.set_cons_succ]
        refine wpAnyH_take (i := 11) (oi := ⟨some 59, _, _, _, _, _⟩) (v := .int .i64 (i : Int)) rfl (by kernel_rfl) (by kernel_rfl) (by kernel_rfl) (fun _ _ _ h => h) (Or.inl ⟨by rfl, fun W hSW => by go_simp⟩) hHeld ?_
        simp only [Act.put, List.setIfInBounds_toArray, List.set_cons_zero, List.set_cons_succ]
        refine wpAnyH_take (i := 12) (oi := ⟨some 60, _, _, _, _, _⟩) (v := .pointer (some ⟨g1, i * 3, none⟩)) rfl (by kernel_rfl) (by kernel_rfl) (by kernel_rfl) (fun _ _ _ h => h) (Or.inl ⟨by rfl, fun W hSW => by go_simp⟩) hHeld ?_
        simp only [Act.put, List.setIfInBounds_toArray, List.set_cons_zero, List.set_cons_succ]
        refine wpAnyH_take (i := 13) (oi := ⟨some 61, _, _, _, _, _⟩) (v := .agg #[.int .i64 qx, .int .i64 qy, .int .i64 qz]) rfl (by kernel_rfl) (by kernel_rfl) (by kernel_rfl) (fun _ _ _ h => h) (Or.inl ⟨by rfl, fun W hSW => by have a0 := (hSW.cell (p := ⟨g1, i * 3, none⟩) gl1).trans x0; have a1 := (hSW.cell (p := ⟨g1, i * 3 + 1, none⟩) gl1).trans x1; have a2 := (hSW.cell (p := ⟨g1, i * 3 + 2, none⟩) gl1).trans x2; go_simp⟩) hHeld ?_
        simp only [Act.put, List.setIfInBounds_toArray, List.set_cons_zero, List.set_cons_succ]
        refine wpAnyH_ready (rs := [14]) (by kernel_rfl) (by simp) ?_
        refine AllReadyH.cons (o := ⟨some 62, _, _, _, _, _⟩) rfl (fun K hK => ?_) AllReadyH.nil
        go_simp
        refine (PlaceW.maySpot_b ((may_is qx qy qz).trans HM.out) _).mono ?_
        rintro e w14 ⟨rfl, hb14⟩
        refine hK.out _ _ (below_t hHeld hb14) (fun hHeld => ?_)
        clear hK K hb14
        refine wpAnyH_take (i := 15) (oi := ⟨some 63, _, _, _, _, _⟩) (v := .bool false) rfl (by kernel_rfl) (by kernel_rfl) (by kernel_rfl) (fun _ _ _ h => h) (Or.inl ⟨by rfl, fun W hSW => by go_simp⟩) hHeld ?_
        simp only [Act.put, List.setIfInBounds_toArray, List.set_cons_zero, List.set_cons_succ]
        refine wpAnyH_take (i := 16) (oi := ⟨some 64, _, _, _, _, _⟩) (v := .bool false) rfl (by kernel_rfl) (by kernel_rfl) (by kernel_rfl) (fun _ _ _ h => h) (Or.inl ⟨by rfl, fun W hSW => by go_simp⟩) hHeld ?_
        simp only [Act.put, List.setIfInBounds_toArray, List.set_cons_zero, List.set_cons_succ]
        refine wpAnyH_take (i := 17) (oi := ⟨some 65, _, _, _, _, _⟩) (v := .bool false) rfl (by kernel_rfl) (by kernel_rfl) (by kernel_rfl) (fun _ _ _ h => h) (Or.inl ⟨by rfl, fun W hSW => by go_simp⟩) hHeld ?_
        simp only [Act.put, List.setIfInBounds_toArray, List.set_cons_zero, List.set_cons_succ]
        refine wpAnyH_take (i := 18) (oi := ⟨some 66, _, _, _, _, _⟩) (v := .slice (some ⟨g1, 0, none⟩) n cp1) rfl (by kernel_rfl) (by kernel_rfl) (by kernel_rfl) (fun _ _ _ h => h) (Or.inl ⟨by rfl, fun W hSW => by go_simp⟩) hHeld ?_
        simp only [Act.put, List.setIfInBounds_toArray, List.set_cons_zero, List.set_cons_succ]
        refine wpAnyH_take (i := 19) (oi := ⟨some 67, _, _, _, _, _⟩) (v := .int .i64 (i : Int)) rfl (by kernel_rfl) (by kernel_rfl) (by kernel_rfl) (fun _ _ _ h => h) (Or.inl ⟨by rfl, fun W hSW => by go_simp⟩) hHeld ?_
        simp only [Act.put, List.setIfInBounds_toArray, List.set_cons_zero, List.set_cons_succ]
        refine wpAnyH_take (i := 20) (oi := ⟨some 68, _, _, _, _, _⟩) (v := .pointer (some ⟨g1, i * 3, none⟩)) rfl (by kernel_rfl) (by kernel_rfl) (by kernel_rfl) (fun _ _ _ h => h) (Or.inl ⟨by rfl, fun W hSW => by go_simp⟩) hHeld ?_
        simp only [Act.put, List.setIfInBounds_toArray, List.set_cons_zero, List.set_cons_succ]
        refine wpAnyH_take (i := 21) (oi := ⟨some 69, _, _, _, _, _⟩) (v := .pointer (some ⟨g1, i * 3 + 1, none⟩)) rfl (by kernel_rfl) (by kernel_rfl) (by kernel_rfl) (fun _ _ _ h => h) (Or.inl ⟨by rfl, fun W hSW => by go_simp⟩) hHeld ?_
        simp only [Act.put, List.setIfInBounds_toArray, List.set_cons_zero, List.set_cons_succ]
        refine wpAnyH_take (i := 22) (oi := ⟨some 70, _, _, _, _, _⟩) (v := .int .i64 qy) rfl (by kernel_rfl) (by kernel_rfl) (by kernel_rfl) (fun _ _ _ h => h) (Or.inl ⟨by rfl, fun W hSW => by have a0 := (hSW.cell (p := ⟨g1, i * 3 + 1, none⟩) gl1).trans x1; go_simp⟩) hHeld ?_
        simp only [Act.put, List.setIfInBounds_toArray, List.set_cons_zero, List.set_cons_succ]
        refine wpAnyH_take (i := 23) (oi := ⟨some 71, _, _, _, _, _⟩) (v := .int .i64 (i : Int)) rfl (by kernel_rfl) (by kernel_rfl) (by kernel_rfl) (fun _ _ _ h => h) (Or.inl ⟨by rfl, fun W hSW => by go_simp⟩) hHeld ?_
        simp only [Act.put, List.setIfInBounds_toArray, List.set_cons_zero, List.set_cons_succ]
        refine wpAnyH_take (i := 24) (oi := ⟨some 72, _, _, _, _, _⟩) (v := .int .i64 qy) rfl (by kernel_rfl) (by kernel_rfl) (by kernel_rfl) (fun _ _ _ h => h) (Or.inl ⟨by rfl, fun W hSW => by have e := HY.out; go_simp; try exact e⟩) hHeld ?_
        simp only [Act.put, List.setIfInBounds_toArray, List.set_cons_zero, List.set_cons_succ]
        refine wpAnyH_take (i := 25) (oi := ⟨some 73, _, _, _, _, _⟩) (v := .bool false) rfl (by kernel_rfl) (by kernel_rfl) (by kernel_rfl) (fun _ _ _ h => h) (Or.inl ⟨by rfl, fun W hSW => by go_simp⟩) hHeld ?_
        simp only [Act.put, List.setIfInBounds_toArray, List.set_cons_zero, List.set_cons_succ]
        refine wpAnyH_take (i := 26) (oi := ⟨some 74, _, _, _, _, _⟩) (v := .bool false) rfl (by kernel_rfl) (by kernel_rfl) (by kernel_rfl) (fun _ _ _ h => h) (Or.inl ⟨by rfl, fun W hSW => by go_simp⟩) hHeld ?_
        simp only [Act.put, List.setIfInBounds_toArray, List.set_cons_zero, List.set_cons_succ]
        refine wpAnyH_take (i := 27) (oi := ⟨some 75, _, _, _, _, _⟩) (v := .bool false) rfl (by kernel_rfl) (by kernel_rfl) (by kernel_rfl) (fun _ _ _ h => h) (Or.inl ⟨by rfl, fun W hSW => by go_simp⟩) hHeld ?_
        simp only [Act.put, List.setIfInBounds_toArray, List.set_cons_zero, List.set_cons_succ]
        refine wpAnyH_take (i := 28) (oi := ⟨some 76, _, _, _, _, _⟩) (v := .int .i64 (i : Int)) rfl (by kernel_rfl) (by kernel_rfl) (by kernel_rfl) (fun _ _ _ h => h) (Or.inl ⟨by rfl, fun W hSW => by go_simp⟩) hHeld ?_
        simp only [Act.put, List.setIfInBounds_toArray, List.set_cons_zero, List.set_cons_succ]
        refine wpAnyH_take (i := 29) (oi := ⟨some 77, _, _, _, _, _⟩) (v := .bool true) rfl (by kernel_rfl) (by kernel_rfl) (by kernel_rfl) (fun _ _ _ h => h) (Or.inl ⟨by rfl, fun W hSW => by go_simp⟩) hHeld ?_
        simp only [Act.put, List.setIfInBounds_toArray, List.set_cons_zero, List.set_cons_succ]
        refine wpAnyH_take (i := 30) (oi := ⟨some 78, _, _, _, _, _⟩) (v := .bool true) rfl (by kernel_rfl) (by kernel_rfl) (by kernel_rfl) (fun _ _ _ h => h) (Or.inl ⟨by rfl, fun W hSW => by go_simp⟩) hHeld ?_
        simp only [Act.put, List.setIfInBounds_toArray, List.set_cons_zero, List.set_cons_succ]
        refine wpAnyH_take (i := 31) (oi := ⟨some 79, _, _, _, _, _⟩) (v := .slice (some ⟨g1, 0, none⟩) n cp1) rfl (by kernel_rfl) (by kernel_rfl) (by kernel_rfl) (fun _ _ _ h => h) (Or.inl ⟨by rfl, fun W hSW => by go_simp⟩) hHeld ?_
        simp only [Act.put, List.setIfInBounds_toArray, List.set_cons_zero, List.set_cons_succ]
        refine wpAnyH_take (i := 32) (oi := ⟨some 80, _, _, _, _, _⟩) (v := .int .i64 (i : Int)) rfl (by kernel_rfl) (by kernel_rfl) (by kernel_rfl) (fun _ _ _ h => h) (Or.inl ⟨by rfl, fun W hSW => by go_simp⟩) hHeld ?_
        simp only [Act.put, List.setIfInBounds_toArray, List.set_cons_zero, List.set_cons_succ]
        refine wpAnyH_take (i := 33) (oi := ⟨some 81, _, _, _, _, _⟩) (v := .int .i64 (j : Int)) rfl (by kernel_rfl) (by kernel_rfl) (by kernel_rfl) (fun _ _ _ h => h) (Or.inl ⟨by rfl, fun W hSW => by have e := HJ.out; go_simp; try (first | (rw [wI]; exact e) | exact e)⟩) hHeld ?_
        simp only [Act.put, List.setIfInBounds_toArray, List.set_cons_zero, List.set_cons_succ]
        refine wpAnyH_take (i := 34) (oi := ⟨some 82, _, _, _, _, _⟩) (v := .pointer (some ⟨g1, j * 3, none⟩)) rfl (by kernel_rfl) (by kernel_rfl) (by kernel_rfl) (fun _ _ _ h => h) (Or.inl ⟨by rfl, fun W hSW => by go_simp⟩) hHeld ?_
        simp only [Act.put, List.setIfInBounds_toArray, List.set_cons_zero, List.set_cons_succ]
        refine wpAnyH_take (i := 35) (oi := ⟨some 83, _, _, _, _, _⟩) (v := .agg #[.int .i64 px, .int .i64 py, .int .i64 pz]) rfl (by kernel_rfl) (by kernel_rfl) (by kernel_rfl) (fun _ _ _ h => h) (Or.inl ⟨by rfl, fun W hSW => by have a0 := (hSW.cell (p := ⟨g1, j * 3, none⟩) gl1).trans z0; have a1 := (hSW.cell (p := ⟨g1, j * 3 + 1, none⟩) gl1).trans z1; have a2 := (hSW.cell (p := ⟨g1, j * 3 + 2, none⟩) gl1).trans z2; go_simp⟩) hHeld ?_
        simp only [Act.put, List.setIfInBounds_toArray, List.set_cons_zero, List.set_cons_succ]
        refine wpAnyH_take (i := 36) (oi := ⟨some 84, _, _, _, _, _⟩) (v := .slice (some ⟨g1, 0, none⟩) n cp1) rfl (by kernel_rfl) (by kernel_rfl) (by kernel_rfl) (fun _ _ _ h => h) (Or.inl ⟨by rfl, fun W hSW => by go_simp⟩) hHeld ?_
        simp only [Act.put, List.setIfInBounds_toArray, List.set_cons_zero, List.set_cons_succ]
        refine wpAnyH_take (i := 37) (oi := ⟨some 85, _, _, _, _, _⟩) (v := .int .i64 (i : Int)) rfl (by kernel_rfl) (by kernel_rfl) (by kernel_rfl) (fun _ _ _ h => h) (Or.inl ⟨by rfl, fun W hSW => by go_simp⟩) hHeld ?_
        simp only [Act.put, List.setIfInBounds_toArray, List.set_cons_zero, List.set_cons_succ]
        refine wpAnyH_take (i := 38) (oi := ⟨some 86, _, _, _, _, _⟩) (v := .pointer (some ⟨g1, i * 3, none⟩)) rfl (by kernel_rfl) (by kernel_rfl) (by kernel_rfl) (fun _ _ _ h => h) (Or.inl ⟨by rfl, fun W hSW => by go_simp⟩) hHeld ?_
        simp only [Act.put, List.setIfInBounds_toArray, List.set_cons_zero, List.set_cons_succ]
        refine wpAnyH_take (i := 39) (oi := ⟨some 87, _, _, _, _, _⟩) (v := .agg #[.int .i64 qx, .int .i64 qy, .int .i64 qz]) rfl (by kernel_rfl) (by kernel_rfl) (by kernel_rfl) (fun _ _ _ h => h) (Or.inl ⟨by rfl, fun W hSW => by have a0 := (hSW.cell (p := ⟨g1, i * 3, none⟩) gl1).trans x0; have a1 := (hSW.cell (p := ⟨g1, i * 3 + 1, none⟩) gl1).trans x1; have a2 := (hSW.cell (p := ⟨g1, i * 3 + 2, none⟩) gl1).trans x2; go_simp⟩) hHeld ?_
        simp only [Act.put, List.setIfInBounds_toArray, List.set_cons_zero, List.set_cons_succ]
        refine wpAnyH_ready (rs := [40]) (by kernel_rfl) (by simp) ?_
        refine AllReadyH.cons (o := ⟨some 88, _, _, _, _, _⟩) rfl (fun K hK => ?_) AllReadyH.nil
        go_simp
        refine (PlaceW.cmpSpot_c HCM.out _).mono ?_
        rintro e w40 ⟨rfl, hb40⟩
        refine hK.out _ _ (below_t hHeld hb40) (fun hHeld => ?_)
        clear hK K hb40
        refine wpAnyH_take (i := 41) (oi := ⟨some 89, _, _, _, _, _⟩) (v := .bool false) rfl (by kernel_rfl) (by kernel_rfl) (by kernel_rfl) (fun _ _ _ h => h) (Or.inl ⟨by rfl, fun W hSW => by go_simp⟩) hHeld ?_
        simp only [Act.put, List.setIfInBounds_toArray, List.set_cons_zero, List.set_cons_succ]
        refine wpAnyH_take (i := 42) (oi := ⟨some 90, _, _, _, _, _⟩) (v := .bool false) rfl (by kernel_rfl) (by kernel_rfl) (by kernel_rfl) (fun _ _ _ h => h) (Or.inl ⟨by rfl, fun W hSW => by go_simp⟩) hHeld ?_
        simp only [Act.put, List.setIfInBounds_toArray, List.set_cons_zero, List.set_cons_succ]
        refine wpAnyH_take (i := 43) (oi := ⟨some 91, _, _, _, _, _⟩) (v := .bool false) rfl (by kernel_rfl) (by kernel_rfl) (by kernel_rfl) (fun _ _ _ h => h) (Or.inl ⟨by rfl, fun W hSW => by go_simp⟩) hHeld ?_
        simp only [Act.put, List.setIfInBounds_toArray, List.set_cons_zero, List.set_cons_succ]
        refine wpAnyH_done (by kernel_rfl) ?_ _
        refine NoPanic.normal ?_
        have BE := Lib.hid (below_t BR.out hHeld)
        clear hHeld x0 x1 x2 y0 y1 y2 z0 z1 z2 gl1 gl2
        go_wp2_with fail
        go_roundw
        case rel => exact ⟨i + 1, by first | rfl | (congr 1; omega), by omega, BE.out⟩
        case measure =>
          simp only [intOf]
          omega
    · have hiI : ¬ (i : Int) < (n : Int) := by omega
      have K0 := Lib.hid (Hw1_0.out.below BR.out)
      have K1 := Lib.hid (Hw1_1.out.below BR.out)
      have BW := Lib.hid (Bw1.out.trans (BR.out.mono Bw1.out.size))
      have hwz := BW.out.size
      clear h4 hn72I
      obtain ⟨⟨X, Y, Z, r⟩, hsp⟩ : ∃ q, PlaceW.spotOf x y z = q := ⟨_, rfl⟩
      have HSP := Lib.hid hsp
      obtain ⟨⟨⟨c, d⟩, nn⟩, hput⟩ : ∃ q, putA a b id (PlaceW.spotOf x y z) = q := ⟨_, rfl⟩
      have HPUT := Lib.hid hput
      have hcase : (nn ≠ 0 ∧ ((0, 0, 0), false) = c ∧ ((0, 0, 0), false) = d) ∨ (nn = 0 ∧ r = true ∧ ((id = 0 ∧ ((X, Y, Z), true) = c ∧ b = d) ∨ (id = 1 ∧ a = c ∧ ((X, Y, Z), true) = d))) := put_cases (by rw [← hsp]; exact hput)
      clear hput
      rcases hcase with ⟨hnn, rfl, rfl⟩ | ⟨rfl, rfl, ⟨rfl, rfl, rfl⟩ | ⟨rfl, rfl, rfl⟩⟩
      · have n0 : (nn != 0) = true := by simp [hnn]
        have s_0 := K0.out.cell (i := 0) rfl
        have s_1 := K0.out.cell (i := 1) rfl
        have s_2 := K0.out.cell (i := 2) rfl
        have s_3 := K0.out.cell (i := 3) rfl
        have s_4 := K0.out.cell (i := 4) rfl
        have s_5 := K0.out.cell (i := 5) rfl
        have s_6 := K0.out.cell (i := 6) rfl
        have s_7 := K0.out.cell (i := 7) rfl
        have s_l := K0.out.lt
        have s1_0 := K1.out.cell (i := 0) rfl
        have s1_1 := K1.out.cell (i := 1) rfl
        have s1_2 := K1.out.cell (i := 2) rfl
        have s1_l := K1.out.lt
        go_wp2_with fail
        refine calls_named (S := fun W => Below w.heap.size w W ∧ Blk W s TT [.int .i64 a.1.1, .int .i64 a.1.2.1, .int .i64 a.1.2.2, .bool a.2, .int .i64 b.1.1, .int .i64 b.1.2.1, .int .i64 b.1.2.2, .bool b.2] ∧ Blk W (s + 1) 27 [.int .i64 x, .int .i64 y, .int .i64 z] ∧ True) ⟨by (repeat' (first | (with_reducible exact Below.refl _ _) | (with_reducible refine Below.setCell ?_ (by (first | omega | (simp; done) | (simp; omega))) _) | (with_reducible refine Below.alloc ?_ (by (first | omega | (simp; done) | (simp; omega))) _) | (with_reducible refine Below.drew ?_) | (with_reducible refine below_drewN ?_ _) | (with_reducible refine Below.trans ?_ (Below.mono BW.out (by (first | omega | (simp; done) | (simp; omega))))))), by (repeat' (first | (with_reducible exact K0.out) | (with_reducible refine BlkP.Blk.drew ?_) | (with_reducible refine BlkP.Blk.drewN ?_ _) | (with_reducible refine BlkP.Blk.setAt (us := ?_) (by first | omega | (simp; done) | (simp; omega)) rfl ?_ ?_) | (with_reducible refine BlkP.Blk.otherAt ?_ (by first | omega | (simp; done) | (simp; omega))) | (with_reducible refine BlkP.Blk.newA' (by first | omega | (simp; done) | (simp; omega)) rfl) | (with_reducible refine BlkP.Blk.alloc ?_ _) | (exact rfl))), by (repeat' (first | (with_reducible exact K1.out) | (with_reducible refine BlkP.Blk.drew ?_) | (with_reducible refine BlkP.Blk.drewN ?_ _) | (with_reducible refine BlkP.Blk.setAt (us := ?_) (by first | omega | (simp; done) | (simp; omega)) rfl ?_ ?_) | (with_reducible refine BlkP.Blk.otherAt ?_ (by first | omega | (simp; done) | (simp; omega))) | (with_reducible refine BlkP.Blk.newA' (by first | omega | (simp; done) | (simp; omega)) rfl) | (with_reducible refine BlkP.Blk.alloc ?_ _) | (exact rfl))), trivial⟩ ?_
        rintro u0a ⟨hb, k0, k1, -⟩
        refine (Put_c HPUT.out _).mono ?_
        rintro e u0 ⟨rfl, hb2⟩
        have Bu0 := Lib.hid (below_t hb hb2)
        have hzu0 := Bu0.out.size
        have Hu0_0 := Lib.hid (k0.below hb2)
        have Hu0_1 := Lib.hid (k1.below hb2)
        clear hb hb2 k0 k1 s_0 s_1 s_2 s_3 s_4 s_5 s_6 s_7 s_l s1_0 s1_1 s1_2 s1_l
        obtain ⟨rr, hrr⟩ : ∃ r, u0.heap.size = r := ⟨_, rfl⟩
        have qe := fun w => run_sameAA w ((0, 0, 0), false) ((0, 0, 0), false)
        simp only at qe
        go_wp2_with fail
        refine calls_named (S := fun W => Below w.heap.size w W) (by (repeat' (first | (with_reducible exact Below.refl _ _) | (with_reducible refine Below.setCell ?_ (by (first | omega | (simp; done) | (simp; omega))) _) | (with_reducible refine Below.alloc ?_ (by (first | omega | (simp; done) | (simp; omega))) _) | (with_reducible refine Below.drew ?_) | (with_reducible refine below_drewN ?_ _) | (with_reducible refine Below.trans ?_ (Below.mono Bu0.out (by (first | omega | (simp; done) | (simp; omega)))))))) ?_
        intro u1 hb1
        have B1 := Lib.hid hb1
        clear hb1
        refine awake_c.mono ?_
        rintro e u2 ⟨rfl, hb2⟩
        have B2 := Lib.hid (below_t B1.out hb2)
        clear hb2
        go_wp2_with fail
        go_ret
        exact ⟨rfl, B2.out⟩
      · have HHOME := Lib.hid (home_a (b := b) HSP.out)
        have hand : bits .and .i64 0 1 = 0 := by decide
        have s_0 := K0.out.cell (i := 0) rfl
        have s_1 := K0.out.cell (i := 1) rfl
        have s_2 := K0.out.cell (i := 2) rfl
        have s_3 := K0.out.cell (i := 3) rfl
        have s_4 := K0.out.cell (i := 4) rfl
        have s_5 := K0.out.cell (i := 5) rfl
        have s_6 := K0.out.cell (i := 6) rfl
        have s_7 := K0.out.cell (i := 7) rfl
        have s_l := K0.out.lt
        have s1_0 := K1.out.cell (i := 0) rfl
        have s1_1 := K1.out.cell (i := 1) rfl
        have s1_2 := K1.out.cell (i := 2) rfl
        have s1_l := K1.out.lt
        go_wp2_with fail
        refine calls_named (S := fun W => Below w.heap.size w W ∧ Blk W s TT [.int .i64 a.1.1, .int .i64 a.1.2.1, .int .i64 a.1.2.2, .bool a.2, .int .i64 b.1.1, .int .i64 b.1.2.1, .int .i64 b.1.2.2, .bool b.2] ∧ Blk W (s + 1) 27 [.int .i64 x, .int .i64 y, .int .i64 z] ∧ True) ⟨by (repeat' (first | (with_reducible exact Below.refl _ _) | (with_reducible refine Below.setCell ?_ (by (first | omega | (simp; done) | (simp; omega))) _) | (with_reducible refine Below.alloc ?_ (by (first | omega | (simp; done) | (simp; omega))) _) | (with_reducible refine Below.drew ?_) | (with_reducible refine below_drewN ?_ _) | (with_reducible refine Below.trans ?_ (Below.mono BW.out (by (first | omega | (simp; done) | (simp; omega))))))), by (repeat' (first | (with_reducible exact K0.out) | (with_reducible refine BlkP.Blk.drew ?_) | (with_reducible refine BlkP.Blk.drewN ?_ _) | (with_reducible refine BlkP.Blk.setAt (us := ?_) (by first | omega | (simp; done) | (simp; omega)) rfl ?_ ?_) | (with_reducible refine BlkP.Blk.otherAt ?_ (by first | omega | (simp; done) | (simp; omega))) | (with_reducible refine BlkP.Blk.newA' (by first | omega | (simp; done) | (simp; omega)) rfl) | (with_reducible refine BlkP.Blk.alloc ?_ _) | (exact rfl))), by (repeat' (first | (with_reducible exact K1.out) | (with_reducible refine BlkP.Blk.drew ?_) | (with_reducible refine BlkP.Blk.drewN ?_ _) | (with_reducible refine BlkP.Blk.setAt (us := ?_) (by first | omega | (simp; done) | (simp; omega)) rfl ?_ ?_) | (with_reducible refine BlkP.Blk.otherAt ?_ (by first | omega | (simp; done) | (simp; omega))) | (with_reducible refine BlkP.Blk.newA' (by first | omega | (simp; done) | (simp; omega)) rfl) | (with_reducible refine BlkP.Blk.alloc ?_ _) | (exact rfl))), trivial⟩ ?_
        rintro u0a ⟨hb, k0, k1, -⟩
        refine (Put_c HPUT.out _).mono ?_
        rintro e u0 ⟨rfl, hb2⟩
        have Bu0 := Lib.hid (below_t hb hb2)
        have hzu0 := Bu0.out.size
        have Hu0_0 := Lib.hid (k0.below hb2)
        have Hu0_1 := Lib.hid (k1.below hb2)
        clear hb hb2 k0 k1 s_0 s_1 s_2 s_3 s_4 s_5 s_6 s_7 s_l s1_0 s1_1 s1_2 s1_l
        obtain ⟨rr, hrr⟩ : ∃ r, u0.heap.size = r := ⟨_, rfl⟩
        have s1_0 := Hu0_1.out.cell (i := 0) rfl
        have s1_1 := Hu0_1.out.cell (i := 1) rfl
        have s1_2 := Hu0_1.out.cell (i := 2) rfl
        have s1_l := Hu0_1.out.lt
        try rw [hrr] at s1_l
        go_wp2_with fail
        refine calls_named (S := fun W => Below w.heap.size w W ∧ Blk W s TT [.int .i64 a.1.1, .int .i64 a.1.2.1, .int .i64 a.1.2.2, .bool a.2, .int .i64 b.1.1, .int .i64 b.1.2.1, .int .i64 b.1.2.2, .bool b.2] ∧ Blk W (s + 1) 27 [.int .i64 x, .int .i64 y, .int .i64 z] ∧ Blk W rr TT [.int .i64 X, .int .i64 Y, .int .i64 Z, .bool true, .int .i64 b.1.1, .int .i64 b.1.2.1, .int .i64 b.1.2.2, .bool b.2] ∧ True) ⟨by (repeat' (first | (with_reducible exact Below.refl _ _) | (with_reducible refine Below.setCell ?_ (by (first | omega | (simp; done) | (simp; omega))) _) | (with_reducible refine Below.alloc ?_ (by (first | omega | (simp; done) | (simp; omega))) _) | (with_reducible refine Below.drew ?_) | (with_reducible refine below_drewN ?_ _) | (with_reducible refine Below.trans ?_ (Below.mono Bu0.out (by (first | omega | (simp; done) | (simp; omega))))))), by (repeat' (first | (with_reducible exact Hu0_0.out) | (with_reducible refine BlkP.Blk.drew ?_) | (with_reducible refine BlkP.Blk.drewN ?_ _) | (with_reducible refine BlkP.Blk.setAt (us := ?_) (by first | omega | (simp; done) | (simp; omega)) rfl ?_ ?_) | (with_reducible refine BlkP.Blk.otherAt ?_ (by first | omega | (simp; done) | (simp; omega))) | (with_reducible refine BlkP.Blk.newA' (by first | omega | (simp; done) | (simp; omega)) rfl) | (with_reducible refine BlkP.Blk.alloc ?_ _) | (exact rfl))), by (repeat' (first | (with_reducible exact Hu0_1.out) | (with_reducible refine BlkP.Blk.drew ?_) | (with_reducible refine BlkP.Blk.drewN ?_ _) | (with_reducible refine BlkP.Blk.setAt (us := ?_) (by first | omega | (simp; done) | (simp; omega)) rfl ?_ ?_) | (with_reducible refine BlkP.Blk.otherAt ?_ (by first | omega | (simp; done) | (simp; omega))) | (with_reducible refine BlkP.Blk.newA' (by first | omega | (simp; done) | (simp; omega)) rfl) | (with_reducible refine BlkP.Blk.alloc ?_ _) | (exact rfl))), by subst hrr; (repeat' (first | (with_reducible refine BlkP.Blk.drew ?_) | (with_reducible refine BlkP.Blk.drewN ?_ _) | (with_reducible refine BlkP.Blk.setAt (us := ?_) (by first | omega | (simp; done) | (simp; omega)) rfl ?_ ?_) | (with_reducible refine BlkP.Blk.otherAt ?_ (by first | omega | (simp; done) | (simp; omega))) | (with_reducible refine BlkP.Blk.newA' (by first | omega | (simp; done) | (simp; omega)) rfl) | (with_reducible refine BlkP.Blk.alloc ?_ _) | (exact rfl))), trivial⟩ ?_
        rintro u1a ⟨hb, k0, k1, k2, -⟩
        refine (PlaceW.spot_c HSP.out _).mono ?_
        rintro e u1 ⟨rfl, hb2⟩
        have Bu1 := Lib.hid (below_t hb hb2)
        have hzu1 := Bu1.out.size
        have Hu1_0 := Lib.hid (k0.below hb2)
        have Hu1_1 := Lib.hid (k1.below hb2)
        have Hu1_2 := Lib.hid (k2.below hb2)
        clear hb hb2 k0 k1 k2 s1_0 s1_1 s1_2 s1_l
        obtain ⟨rq, hrq⟩ : ∃ r, u1.heap.size = r := ⟨_, rfl⟩
        go_wp2_with fail
        refine HeldP.wp_named (S := fun W => Below w.heap.size w W ∧ Blk W s TT [.int .i64 a.1.1, .int .i64 a.1.2.1, .int .i64 a.1.2.2, .bool a.2, .int .i64 b.1.1, .int .i64 b.1.2.1, .int .i64 b.1.2.2, .bool b.2] ∧ Blk W (s + 1) 27 [.int .i64 x, .int .i64 y, .int .i64 z] ∧ Blk W rr TT [.int .i64 X, .int .i64 Y, .int .i64 Z, .bool true, .int .i64 b.1.1, .int .i64 b.1.2.1, .int .i64 b.1.2.2, .bool b.2] ∧ Blk W rq TS [.int .i64 X, .int .i64 Y, .int .i64 Z] ∧ True) ⟨by (repeat' (first | (with_reducible exact Below.refl _ _) | (with_reducible refine Below.setCell ?_ (by (first | omega | (simp; done) | (simp; omega))) _) | (with_reducible refine Below.alloc ?_ (by (first | omega | (simp; done) | (simp; omega))) _) | (with_reducible refine Below.drew ?_) | (with_reducible refine below_drewN ?_ _) | (with_reducible refine Below.trans ?_ (Below.mono Bu1.out (by (first | omega | (simp; done) | (simp; omega))))))), by (repeat' (first | (with_reducible exact Hu1_0.out) | (with_reducible refine BlkP.Blk.drew ?_) | (with_reducible refine BlkP.Blk.drewN ?_ _) | (with_reducible refine BlkP.Blk.setAt (us := ?_) (by first | omega | (simp; done) | (simp; omega)) rfl ?_ ?_) | (with_reducible refine BlkP.Blk.otherAt ?_ (by first | omega | (simp; done) | (simp; omega))) | (with_reducible refine BlkP.Blk.newA' (by first | omega | (simp; done) | (simp; omega)) rfl) | (with_reducible refine BlkP.Blk.alloc ?_ _) | (exact rfl))), by (repeat' (first | (with_reducible exact Hu1_1.out) | (with_reducible refine BlkP.Blk.drew ?_) | (with_reducible refine BlkP.Blk.drewN ?_ _) | (with_reducible refine BlkP.Blk.setAt (us := ?_) (by first | omega | (simp; done) | (simp; omega)) rfl ?_ ?_) | (with_reducible refine BlkP.Blk.otherAt ?_ (by first | omega | (simp; done) | (simp; omega))) | (with_reducible refine BlkP.Blk.newA' (by first | omega | (simp; done) | (simp; omega)) rfl) | (with_reducible refine BlkP.Blk.alloc ?_ _) | (exact rfl))), by (repeat' (first | (with_reducible exact Hu1_2.out) | (with_reducible refine BlkP.Blk.drew ?_) | (with_reducible refine BlkP.Blk.drewN ?_ _) | (with_reducible refine BlkP.Blk.setAt (us := ?_) (by first | omega | (simp; done) | (simp; omega)) rfl ?_ ?_) | (with_reducible refine BlkP.Blk.otherAt ?_ (by first | omega | (simp; done) | (simp; omega))) | (with_reducible refine BlkP.Blk.newA' (by first | omega | (simp; done) | (simp; omega)) rfl) | (with_reducible refine BlkP.Blk.alloc ?_ _) | (exact rfl))), by subst hrq; (repeat' (first | (with_reducible refine BlkP.Blk.drew ?_) | (with_reducible refine BlkP.Blk.drewN ?_ _) | (with_reducible refine BlkP.Blk.setAt (us := ?_) (by first | omega | (simp; done) | (simp; omega)) rfl ?_ ?_) | (with_reducible refine BlkP.Blk.otherAt ?_ (by first | omega | (simp; done) | (simp; omega))) | (with_reducible refine BlkP.Blk.newA' (by first | omega | (simp; done) | (simp; omega)) rfl) | (with_reducible refine BlkP.Blk.alloc ?_ _) | (exact rfl))), trivial⟩ ?_
        rintro u2a ⟨hb, k0, k1, k2, k3, -⟩
        have HV0 := Lib.hid k0
        have HV1 := Lib.hid k1
        have HV2 := Lib.hid k2
        have HV3 := Lib.hid k3
        have BV := Lib.hid hb
        have hzv := hb.size
        try rw [hrq]
        clear hb k0 k1 k2 k3
        have s_0 := HV0.out.cell (i := 0) rfl
        have s_1 := HV0.out.cell (i := 1) rfl
        have s_2 := HV0.out.cell (i := 2) rfl
        have s_3 := HV0.out.cell (i := 3) rfl
        have s_4 := HV0.out.cell (i := 4) rfl
        have s_5 := HV0.out.cell (i := 5) rfl
        have s_6 := HV0.out.cell (i := 6) rfl
        have s_7 := HV0.out.cell (i := 7) rfl
        have s_l := HV0.out.lt
        try rw [hrq] at s_l
        have rr_0 := HV2.out.cell (i := 0) rfl
        have rr_1 := HV2.out.cell (i := 1) rfl
        have rr_2 := HV2.out.cell (i := 2) rfl
        have rr_3 := HV2.out.cell (i := 3) rfl
        have rr_4 := HV2.out.cell (i := 4) rfl
        have rr_5 := HV2.out.cell (i := 5) rfl
        have rr_6 := HV2.out.cell (i := 6) rfl
        have rr_7 := HV2.out.cell (i := 7) rfl
        have rr_l := HV2.out.lt
        try rw [hrq] at rr_l
        have rq_0 := HV3.out.cell (i := 0) rfl
        have rq_1 := HV3.out.cell (i := 1) rfl
        have rq_2 := HV3.out.cell (i := 2) rfl
        have rq_l := HV3.out.lt
        try rw [hrq] at rq_l
        refine wp_region_noPanic ?_
        refine wp_region_held_drew (S := fun W => Below u2a.heap.size u2a W) (by kernel_rfl) ((Below.refl _ u2a).drew) (fun hHeld => ?_)
        refine wpAnyH_take (i := 0) (oi := ⟨some 115, _, _, _, _, _⟩) (v := .bool true) rfl (by kernel_rfl) (by kernel_rfl) (by kernel_rfl) (fun _ _ _ h => h) (Or.inl ⟨by rfl, fun W hSW => by go_simp⟩) hHeld ?_
        simp only [Act.put, List.setIfInBounds_toArray, List.set_cons_zero, List.set_cons_succ]
        refine wpAnyH_take (i := 1) (oi := ⟨some 116, _, _, _, _, _⟩) (v := .bool false) rfl (by kernel_rfl) (by kernel_rfl) (by kernel_rfl) (fun _ _ _ h => h) (Or.inl ⟨by rfl, fun W hSW => by go_simp⟩) hHeld ?_
        simp only [Act.put, List.setIfInBounds_toArray, List.set_cons_zero, List.set_cons_succ]
        refine wpAnyH_take (i := 2) (oi := ⟨some 117, _, _, _, _, _⟩) (v := .bool false) rfl (by kernel_rfl) (by kernel_rfl) (by kernel_rfl) (fun _ _ _ h => h) (Or.inl ⟨by rfl, fun W hSW => by go_simp⟩) hHeld ?_
        simp only [Act.put, List.setIfInBounds_toArray, List.set_cons_zero, List.set_cons_succ]
        refine wpAnyH_take (i := 3) (oi := ⟨some 118, _, _, _, _, _⟩) (v := .agg #[.int .i64 X, .int .i64 Y, .int .i64 Z, .bool true, .int .i64 b.1.1, .int .i64 b.1.2.1, .int .i64 b.1.2.2, .bool b.2]) rfl (by kernel_rfl) (by kernel_rfl) (by kernel_rfl) (fun _ _ _ h => h) (Or.inl ⟨by rfl, fun W hSW => by have a0 := (hSW.cell (p := ⟨rr, 0, none⟩) rr_l).trans rr_0; have a1 := (hSW.cell (p := ⟨rr, 1, none⟩) rr_l).trans rr_1; have a2 := (hSW.cell (p := ⟨rr, 2, none⟩) rr_l).trans rr_2; have a3 := (hSW.cell (p := ⟨rr, 3, none⟩) rr_l).trans rr_3; have a4 := (hSW.cell (p := ⟨rr, 4, none⟩) rr_l).trans rr_4; have a5 := (hSW.cell (p := ⟨rr, 5, none⟩) rr_l).trans rr_5; have a6 := (hSW.cell (p := ⟨rr, 6, none⟩) rr_l).trans rr_6; have a7 := (hSW.cell (p := ⟨rr, 7, none⟩) rr_l).trans rr_7; go_simp⟩) hHeld ?_
        simp only [Act.put, List.setIfInBounds_toArray, List.set_cons_zero, List.set_cons_succ]
        refine wpAnyH_take (i := 4) (oi := ⟨some 119, _, _, _, _, _⟩) (v := .agg #[.int .i64 X, .int .i64 Y, .int .i64 Z]) rfl (by kernel_rfl) (by kernel_rfl) (by kernel_rfl) (fun _ _ _ h => h) (Or.inl ⟨by rfl, fun W hSW => by have a0 := (hSW.cell (p := ⟨rq, 0, none⟩) rq_l).trans rq_0; have a1 := (hSW.cell (p := ⟨rq, 1, none⟩) rq_l).trans rq_1; have a2 := (hSW.cell (p := ⟨rq, 2, none⟩) rq_l).trans rq_2; go_simp⟩) hHeld ?_
        simp only [Act.put, List.setIfInBounds_toArray, List.set_cons_zero, List.set_cons_succ]
        refine wpAnyH_ready (rs := [5]) (by kernel_rfl) (by simp) ?_
        refine AllReadyH.cons (o := ⟨some 120, _, _, _, _, _⟩) rfl (fun K hK => ?_) AllReadyH.nil
        go_simp
        refine (In_c (a := ((X, Y, Z), true)) (b := b) HHOME.out).mono ?_
        rintro e w5 ⟨rfl, hb5⟩
        refine hK.out _ _ (below_t hHeld hb5) (fun hHeld => ?_)
        clear hK K hb5
        refine wpAnyH_take (i := 6) (oi := ⟨some 121, _, _, _, _, _⟩) (v := .bool false) rfl (by kernel_rfl) (by kernel_rfl) (by kernel_rfl) (fun _ _ _ h => h) (Or.inl ⟨by rfl, fun W hSW => by go_simp⟩) hHeld ?_
        simp only [Act.put, List.setIfInBounds_toArray, List.set_cons_zero, List.set_cons_succ]
        refine wpAnyH_take (i := 7) (oi := ⟨some 122, _, _, _, _, _⟩) (v := .bool false) rfl (by kernel_rfl) (by kernel_rfl) (by kernel_rfl) (fun _ _ _ h => h) (Or.inl ⟨by rfl, fun W hSW => by go_simp⟩) hHeld ?_
        simp only [Act.put, List.setIfInBounds_toArray, List.set_cons_zero, List.set_cons_succ]
        refine wpAnyH_take (i := 8) (oi := ⟨some 123, _, _, _, _, _⟩) (v := .bool false) rfl (by kernel_rfl) (by kernel_rfl) (by kernel_rfl) (fun _ _ _ h => h) (Or.inl ⟨by rfl, fun W hSW => by go_simp⟩) hHeld ?_
        simp only [Act.put, List.setIfInBounds_toArray, List.set_cons_zero, List.set_cons_succ]
        refine wpAnyH_take (i := 9) (oi := ⟨some 124, _, _, _, _, _⟩) (v := .int .i64 1) rfl (by kernel_rfl) (by kernel_rfl) (by kernel_rfl) (fun _ _ _ h => h) (Or.inl ⟨by rfl, fun W hSW => by go_simp⟩) hHeld ?_
        simp only [Act.put, List.setIfInBounds_toArray, List.set_cons_zero, List.set_cons_succ]
        refine wpAnyH_take (i := 10) (oi := ⟨some 125, _, _, _, _, _⟩) (v := .pointer (some ⟨rr, 4, none⟩)) rfl (by kernel_rfl) (by kernel_rfl) (by kernel_rfl) (fun _ _ _ h => h) (Or.inl ⟨by rfl, fun W hSW => by go_simp⟩) hHeld ?_
        simp only [Act.put, List.setIfInBounds_toArray, List.set_cons_zero, List.set_cons_succ]
        refine wpAnyH_take (i := 11) (oi := ⟨some 126, _, _, _, _, _⟩) (v := .agg #[.int .i64 b.1.1, .int .i64 b.1.2.1, .int .i64 b.1.2.2, .bool b.2]) rfl (by kernel_rfl) (by kernel_rfl) (by kernel_rfl) (fun _ _ _ h => h) (Or.inl ⟨by rfl, fun W hSW => by have a0 := (hSW.cell (p := ⟨rr, 4, none⟩) rr_l).trans rr_4; have a1 := (hSW.cell (p := ⟨rr, 5, none⟩) rr_l).trans rr_5; have a2 := (hSW.cell (p := ⟨rr, 6, none⟩) rr_l).trans rr_6; have a3 := (hSW.cell (p := ⟨rr, 7, none⟩) rr_l).trans rr_7; go_simp⟩) hHeld ?_
        simp only [Act.put, List.setIfInBounds_toArray, List.set_cons_zero, List.set_cons_succ]
        refine wpAnyH_take (i := 12) (oi := ⟨some 127, _, _, _, _, _⟩) (v := .int .i64 1) rfl (by kernel_rfl) (by kernel_rfl) (by kernel_rfl) (fun _ _ _ h => h) (Or.inl ⟨by rfl, fun W hSW => by go_simp⟩) hHeld ?_
        simp only [Act.put, List.setIfInBounds_toArray, List.set_cons_zero, List.set_cons_succ]
        refine wpAnyH_take (i := 13) (oi := ⟨some 128, _, _, _, _, _⟩) (v := .pointer (some ⟨s, 4, none⟩)) rfl (by kernel_rfl) (by kernel_rfl) (by kernel_rfl) (fun _ _ _ h => h) (Or.inl ⟨by rfl, fun W hSW => by go_simp⟩) hHeld ?_
        simp only [Act.put, List.setIfInBounds_toArray, List.set_cons_zero, List.set_cons_succ]
        refine wpAnyH_take (i := 14) (oi := ⟨some 129, _, _, _, _, _⟩) (v := .agg #[.int .i64 b.1.1, .int .i64 b.1.2.1, .int .i64 b.1.2.2, .bool b.2]) rfl (by kernel_rfl) (by kernel_rfl) (by kernel_rfl) (fun _ _ _ h => h) (Or.inl ⟨by rfl, fun W hSW => by have a0 := (hSW.cell (p := ⟨s, 4, none⟩) s_l).trans s_4; have a1 := (hSW.cell (p := ⟨s, 5, none⟩) s_l).trans s_5; have a2 := (hSW.cell (p := ⟨s, 6, none⟩) s_l).trans s_6; have a3 := (hSW.cell (p := ⟨s, 7, none⟩) s_l).trans s_7; go_simp⟩) hHeld ?_
        simp only [Act.put, List.setIfInBounds_toArray, List.set_cons_zero, List.set_cons_succ]
        refine wpAnyH_take (i := 15) (oi := ⟨some 130, _, _, _, _, _⟩) (v := .bool false) rfl (by kernel_rfl) (by kernel_rfl) (by kernel_rfl) (fun _ _ _ h => h) (Or.inl ⟨by rfl, fun W hSW => by have q := run_sameA W b; go_simp⟩) hHeld ?_
        simp only [Act.put, List.setIfInBounds_toArray, List.set_cons_zero, List.set_cons_succ]
        refine wpAnyH_take (i := 16) (oi := ⟨some 131, _, _, _, _, _⟩) (v := .bool false) rfl (by kernel_rfl) (by kernel_rfl) (by kernel_rfl) (fun _ _ _ h => h) (Or.inl ⟨by rfl, fun W hSW => by go_simp⟩) hHeld ?_
        simp only [Act.put, List.setIfInBounds_toArray, List.set_cons_zero, List.set_cons_succ]
        refine wpAnyH_done (by kernel_rfl) ?_ _
        refine NoPanic.normal ?_
        have BX := Lib.hid (below_t BV.out hHeld)
        have hzx := BX.out.size
        have HX0 := Lib.hid (HV0.out.below hHeld)
        have HX1 := Lib.hid (HV1.out.below hHeld)
        have HX2 := Lib.hid (HV2.out.below hHeld)
        have HX3 := Lib.hid (HV3.out.below hHeld)
        clear hHeld s_0 s_1 s_2 s_3 s_4 s_5 s_6 s_7 s_l rr_0 rr_1 rr_2 rr_3 rr_4 rr_5 rr_6 rr_7 rr_l rq_0 rq_1 rq_2 rq_l
        have rr_0 := HX2.out.cell (i := 0) rfl
        have rr_1 := HX2.out.cell (i := 1) rfl
        have rr_2 := HX2.out.cell (i := 2) rfl
        have rr_3 := HX2.out.cell (i := 3) rfl
        have rr_4 := HX2.out.cell (i := 4) rfl
        have rr_5 := HX2.out.cell (i := 5) rfl
        have rr_6 := HX2.out.cell (i := 6) rfl
        have rr_7 := HX2.out.cell (i := 7) rfl
        have rr_l := HX2.out.lt
        try rw [hrq] at rr_l
        go_wp2_with fail
        refine calls_named (S := fun W => Below w.heap.size w W ∧ Blk W s TT [.int .i64 a.1.1, .int .i64 a.1.2.1, .int .i64 a.1.2.2, .bool a.2, .int .i64 b.1.1, .int .i64 b.1.2.1, .int .i64 b.1.2.2, .bool b.2] ∧ Blk W rr TT [.int .i64 X, .int .i64 Y, .int .i64 Z, .bool true, .int .i64 b.1.1, .int .i64 b.1.2.1, .int .i64 b.1.2.2, .bool b.2] ∧ True) ⟨by (repeat' (first | (with_reducible exact Below.refl _ _) | (with_reducible refine Below.setCell ?_ (by (first | omega | (simp; done) | (simp; omega))) _) | (with_reducible refine Below.alloc ?_ (by (first | omega | (simp; done) | (simp; omega))) _) | (with_reducible refine Below.drew ?_) | (with_reducible refine below_drewN ?_ _) | (with_reducible refine Below.trans ?_ (Below.mono BX.out (by (first | omega | (simp; done) | (simp; omega))))))), by (repeat' (first | (with_reducible exact HX0.out) | (with_reducible refine BlkP.Blk.drew ?_) | (with_reducible refine BlkP.Blk.drewN ?_ _) | (with_reducible refine BlkP.Blk.setAt (us := ?_) (by first | omega | (simp; done) | (simp; omega)) rfl ?_ ?_) | (with_reducible refine BlkP.Blk.otherAt ?_ (by first | omega | (simp; done) | (simp; omega))) | (with_reducible refine BlkP.Blk.newA' (by first | omega | (simp; done) | (simp; omega)) rfl) | (with_reducible refine BlkP.Blk.alloc ?_ _) | (exact rfl))), by (repeat' (first | (with_reducible exact HX2.out) | (with_reducible refine BlkP.Blk.drew ?_) | (with_reducible refine BlkP.Blk.drewN ?_ _) | (with_reducible refine BlkP.Blk.setAt (us := ?_) (by first | omega | (simp; done) | (simp; omega)) rfl ?_ ?_) | (with_reducible refine BlkP.Blk.otherAt ?_ (by first | omega | (simp; done) | (simp; omega))) | (with_reducible refine BlkP.Blk.newA' (by first | omega | (simp; done) | (simp; omega)) rfl) | (with_reducible refine BlkP.Blk.alloc ?_ _) | (exact rfl))), trivial⟩ ?_
        rintro u6a ⟨hb, k0, k1, -⟩
        refine (Lift_c (a := ((X, Y, Z), true)) (b := b) (c := ((0, 0, 0), false)) (d := b) (n := 0) (by simp [liftA, offA]) _).mono ?_
        rintro e u6 ⟨rfl, hb2⟩
        have Bu6 := Lib.hid (below_t hb hb2)
        have hzu6 := Bu6.out.size
        have Hu6_0 := Lib.hid (k0.below hb2)
        have Hu6_1 := Lib.hid (k1.below hb2)
        clear hb hb2 k0 k1 rr_0 rr_1 rr_2 rr_3 rr_4 rr_5 rr_6 rr_7 rr_l
        obtain ⟨rb, hrb⟩ : ∃ r, u6.heap.size = r := ⟨_, rfl⟩
        have s_0 := Hu6_0.out.cell (i := 0) rfl
        have s_1 := Hu6_0.out.cell (i := 1) rfl
        have s_2 := Hu6_0.out.cell (i := 2) rfl
        have s_3 := Hu6_0.out.cell (i := 3) rfl
        have s_4 := Hu6_0.out.cell (i := 4) rfl
        have s_5 := Hu6_0.out.cell (i := 5) rfl
        have s_6 := Hu6_0.out.cell (i := 6) rfl
        have s_7 := Hu6_0.out.cell (i := 7) rfl
        have s_l := Hu6_0.out.lt
        try rw [hrb] at s_l
        have qe := fun w => run_sameAA w ((0, 0, 0), false) b
        simp only at qe
        go_wp2_with fail
        refine calls_named (S := fun W => Below w.heap.size w W) (by (repeat' (first | (with_reducible exact Below.refl _ _) | (with_reducible refine Below.setCell ?_ (by (first | omega | (simp; done) | (simp; omega))) _) | (with_reducible refine Below.alloc ?_ (by (first | omega | (simp; done) | (simp; omega))) _) | (with_reducible refine Below.drew ?_) | (with_reducible refine below_drewN ?_ _) | (with_reducible refine Below.trans ?_ (Below.mono Bu6.out (by (first | omega | (simp; done) | (simp; omega)))))))) ?_
        intro w7 hb7
        have B7 := Lib.hid hb7
        refine awake_c.mono ?_
        rintro e w8 ⟨rfl, hb⟩
        have B8 := Lib.hid (below_t B7.out hb)
        clear hb hb7 qe s_0 s_1 s_2 s_3 s_4 s_5 s_6 s_7 s_l
        go_wp2_with fail
        go_ret
        exact ⟨rfl, B8.out⟩
      · have HHOME := Lib.hid (home_b (a := a) HSP.out)
        have hand : bits .and .i64 1 1 = 1 := by decide
        have s_0 := K0.out.cell (i := 0) rfl
        have s_1 := K0.out.cell (i := 1) rfl
        have s_2 := K0.out.cell (i := 2) rfl
        have s_3 := K0.out.cell (i := 3) rfl
        have s_4 := K0.out.cell (i := 4) rfl
        have s_5 := K0.out.cell (i := 5) rfl
        have s_6 := K0.out.cell (i := 6) rfl
        have s_7 := K0.out.cell (i := 7) rfl
        have s_l := K0.out.lt
        have s1_0 := K1.out.cell (i := 0) rfl
        have s1_1 := K1.out.cell (i := 1) rfl
        have s1_2 := K1.out.cell (i := 2) rfl
        have s1_l := K1.out.lt
        go_wp2_with fail
        refine calls_named (S := fun W => Below w.heap.size w W ∧ Blk W s TT [.int .i64 a.1.1, .int .i64 a.1.2.1, .int .i64 a.1.2.2, .bool a.2, .int .i64 b.1.1, .int .i64 b.1.2.1, .int .i64 b.1.2.2, .bool b.2] ∧ Blk W (s + 1) 27 [.int .i64 x, .int .i64 y, .int .i64 z] ∧ True) ⟨by (repeat' (first | (with_reducible exact Below.refl _ _) | (with_reducible refine Below.setCell ?_ (by (first | omega | (simp; done) | (simp; omega))) _) | (with_reducible refine Below.alloc ?_ (by (first | omega | (simp; done) | (simp; omega))) _) | (with_reducible refine Below.drew ?_) | (with_reducible refine below_drewN ?_ _) | (with_reducible refine Below.trans ?_ (Below.mono BW.out (by (first | omega | (simp; done) | (simp; omega))))))), by (repeat' (first | (with_reducible exact K0.out) | (with_reducible refine BlkP.Blk.drew ?_) | (with_reducible refine BlkP.Blk.drewN ?_ _) | (with_reducible refine BlkP.Blk.setAt (us := ?_) (by first | omega | (simp; done) | (simp; omega)) rfl ?_ ?_) | (with_reducible refine BlkP.Blk.otherAt ?_ (by first | omega | (simp; done) | (simp; omega))) | (with_reducible refine BlkP.Blk.newA' (by first | omega | (simp; done) | (simp; omega)) rfl) | (with_reducible refine BlkP.Blk.alloc ?_ _) | (exact rfl))), by (repeat' (first | (with_reducible exact K1.out) | (with_reducible refine BlkP.Blk.drew ?_) | (with_reducible refine BlkP.Blk.drewN ?_ _) | (with_reducible refine BlkP.Blk.setAt (us := ?_) (by first | omega | (simp; done) | (simp; omega)) rfl ?_ ?_) | (with_reducible refine BlkP.Blk.otherAt ?_ (by first | omega | (simp; done) | (simp; omega))) | (with_reducible refine BlkP.Blk.newA' (by first | omega | (simp; done) | (simp; omega)) rfl) | (with_reducible refine BlkP.Blk.alloc ?_ _) | (exact rfl))), trivial⟩ ?_
        rintro u0a ⟨hb, k0, k1, -⟩
        refine (Put_c HPUT.out _).mono ?_
        rintro e u0 ⟨rfl, hb2⟩
        have Bu0 := Lib.hid (below_t hb hb2)
        have hzu0 := Bu0.out.size
        have Hu0_0 := Lib.hid (k0.below hb2)
        have Hu0_1 := Lib.hid (k1.below hb2)
        clear hb hb2 k0 k1 s_0 s_1 s_2 s_3 s_4 s_5 s_6 s_7 s_l s1_0 s1_1 s1_2 s1_l
        obtain ⟨rr, hrr⟩ : ∃ r, u0.heap.size = r := ⟨_, rfl⟩
        have s1_0 := Hu0_1.out.cell (i := 0) rfl
        have s1_1 := Hu0_1.out.cell (i := 1) rfl
        have s1_2 := Hu0_1.out.cell (i := 2) rfl
        have s1_l := Hu0_1.out.lt
        try rw [hrr] at s1_l
        go_wp2_with fail
        refine calls_named (S := fun W => Below w.heap.size w W ∧ Blk W s TT [.int .i64 a.1.1, .int .i64 a.1.2.1, .int .i64 a.1.2.2, .bool a.2, .int .i64 b.1.1, .int .i64 b.1.2.1, .int .i64 b.1.2.2, .bool b.2] ∧ Blk W (s + 1) 27 [.int .i64 x, .int .i64 y, .int .i64 z] ∧ Blk W rr TT [.int .i64 a.1.1, .int .i64 a.1.2.1, .int .i64 a.1.2.2, .bool a.2, .int .i64 X, .int .i64 Y, .int .i64 Z, .bool true] ∧ True) ⟨by (repeat' (first | (with_reducible exact Below.refl _ _) | (with_reducible refine Below.setCell ?_ (by (first | omega | (simp; done) | (simp; omega))) _) | (with_reducible refine Below.alloc ?_ (by (first | omega | (simp; done) | (simp; omega))) _) | (with_reducible refine Below.drew ?_) | (with_reducible refine below_drewN ?_ _) | (with_reducible refine Below.trans ?_ (Below.mono Bu0.out (by (first | omega | (simp; done) | (simp; omega))))))), by (repeat' (first | (with_reducible exact Hu0_0.out) | (with_reducible refine BlkP.Blk.drew ?_) | (with_reducible refine BlkP.Blk.drewN ?_ _) | (with_reducible refine BlkP.Blk.setAt (us := ?_) (by first | omega | (simp; done) | (simp; omega)) rfl ?_ ?_) | (with_reducible refine BlkP.Blk.otherAt ?_ (by first | omega | (simp; done) | (simp; omega))) | (with_reducible refine BlkP.Blk.newA' (by first | omega | (simp; done) | (simp; omega)) rfl) | (with_reducible refine BlkP.Blk.alloc ?_ _) | (exact rfl))), by (repeat' (first | (with_reducible exact Hu0_1.out) | (with_reducible refine BlkP.Blk.drew ?_) | (with_reducible refine BlkP.Blk.drewN ?_ _) | (with_reducible refine BlkP.Blk.setAt (us := ?_) (by first | omega | (simp; done) | (simp; omega)) rfl ?_ ?_) | (with_reducible refine BlkP.Blk.otherAt ?_ (by first | omega | (simp; done) | (simp; omega))) | (with_reducible refine BlkP.Blk.newA' (by first | omega | (simp; done) | (simp; omega)) rfl) | (with_reducible refine BlkP.Blk.alloc ?_ _) | (exact rfl))), by subst hrr; (repeat' (first | (with_reducible refine BlkP.Blk.drew ?_) | (with_reducible refine BlkP.Blk.drewN ?_ _) | (with_reducible refine BlkP.Blk.setAt (us := ?_) (by first | omega | (simp; done) | (simp; omega)) rfl ?_ ?_) | (with_reducible refine BlkP.Blk.otherAt ?_ (by first | omega | (simp; done) | (simp; omega))) | (with_reducible refine BlkP.Blk.newA' (by first | omega | (simp; done) | (simp; omega)) rfl) | (with_reducible refine BlkP.Blk.alloc ?_ _) | (exact rfl))), trivial⟩ ?_
        rintro u1a ⟨hb, k0, k1, k2, -⟩
        refine (PlaceW.spot_c HSP.out _).mono ?_
        rintro e u1 ⟨rfl, hb2⟩
        have Bu1 := Lib.hid (below_t hb hb2)
        have hzu1 := Bu1.out.size
        have Hu1_0 := Lib.hid (k0.below hb2)
        have Hu1_1 := Lib.hid (k1.below hb2)
        have Hu1_2 := Lib.hid (k2.below hb2)
        clear hb hb2 k0 k1 k2 s1_0 s1_1 s1_2 s1_l
        obtain ⟨rq, hrq⟩ : ∃ r, u1.heap.size = r := ⟨_, rfl⟩
        go_wp2_with fail
        refine HeldP.wp_named (S := fun W => Below w.heap.size w W ∧ Blk W s TT [.int .i64 a.1.1, .int .i64 a.1.2.1, .int .i64 a.1.2.2, .bool a.2, .int .i64 b.1.1, .int .i64 b.1.2.1, .int .i64 b.1.2.2, .bool b.2] ∧ Blk W (s + 1) 27 [.int .i64 x, .int .i64 y, .int .i64 z] ∧ Blk W rr TT [.int .i64 a.1.1, .int .i64 a.1.2.1, .int .i64 a.1.2.2, .bool a.2, .int .i64 X, .int .i64 Y, .int .i64 Z, .bool true] ∧ Blk W rq TS [.int .i64 X, .int .i64 Y, .int .i64 Z] ∧ True) ⟨by (repeat' (first | (with_reducible exact Below.refl _ _) | (with_reducible refine Below.setCell ?_ (by (first | omega | (simp; done) | (simp; omega))) _) | (with_reducible refine Below.alloc ?_ (by (first | omega | (simp; done) | (simp; omega))) _) | (with_reducible refine Below.drew ?_) | (with_reducible refine below_drewN ?_ _) | (with_reducible refine Below.trans ?_ (Below.mono Bu1.out (by (first | omega | (simp; done) | (simp; omega))))))), by (repeat' (first | (with_reducible exact Hu1_0.out) | (with_reducible refine BlkP.Blk.drew ?_) | (with_reducible refine BlkP.Blk.drewN ?_ _) | (with_reducible refine BlkP.Blk.setAt (us := ?_) (by first | omega | (simp; done) | (simp; omega)) rfl ?_ ?_) | (with_reducible refine BlkP.Blk.otherAt ?_ (by first | omega | (simp; done) | (simp; omega))) | (with_reducible refine BlkP.Blk.newA' (by first | omega | (simp; done) | (simp; omega)) rfl) | (with_reducible refine BlkP.Blk.alloc ?_ _) | (exact rfl))), by (repeat' (first | (with_reducible exact Hu1_1.out) | (with_reducible refine BlkP.Blk.drew ?_) | (with_reducible refine BlkP.Blk.drewN ?_ _) | (with_reducible refine BlkP.Blk.setAt (us := ?_) (by first | omega | (simp; done) | (simp; omega)) rfl ?_ ?_) | (with_reducible refine BlkP.Blk.otherAt ?_ (by first | omega | (simp; done) | (simp; omega))) | (with_reducible refine BlkP.Blk.newA' (by first | omega | (simp; done) | (simp; omega)) rfl) | (with_reducible refine BlkP.Blk.alloc ?_ _) | (exact rfl))), by (repeat' (first | (with_reducible exact Hu1_2.out) | (with_reducible refine BlkP.Blk.drew ?_) | (with_reducible refine BlkP.Blk.drewN ?_ _) | (with_reducible refine BlkP.Blk.setAt (us := ?_) (by first | omega | (simp; done) | (simp; omega)) rfl ?_ ?_) | (with_reducible refine BlkP.Blk.otherAt ?_ (by first | omega | (simp; done) | (simp; omega))) | (with_reducible refine BlkP.Blk.newA' (by first | omega | (simp; done) | (simp; omega)) rfl) | (with_reducible refine BlkP.Blk.alloc ?_ _) | (exact rfl))), by subst hrq; (repeat' (first | (with_reducible refine BlkP.Blk.drew ?_) | (with_reducible refine BlkP.Blk.drewN ?_ _) | (with_reducible refine BlkP.Blk.setAt (us := ?_) (by first | omega | (simp; done) | (simp; omega)) rfl ?_ ?_) | (with_reducible refine BlkP.Blk.otherAt ?_ (by first | omega | (simp; done) | (simp; omega))) | (with_reducible refine BlkP.Blk.newA' (by first | omega | (simp; done) | (simp; omega)) rfl) | (with_reducible refine BlkP.Blk.alloc ?_ _) | (exact rfl))), trivial⟩ ?_
        rintro u2a ⟨hb, k0, k1, k2, k3, -⟩
        have HV0 := Lib.hid k0
        have HV1 := Lib.hid k1
        have HV2 := Lib.hid k2
        have HV3 := Lib.hid k3
        have BV := Lib.hid hb
        have hzv := hb.size
        try rw [hrq]
        clear hb k0 k1 k2 k3
        have s_0 := HV0.out.cell (i := 0) rfl
        have s_1 := HV0.out.cell (i := 1) rfl
        have s_2 := HV0.out.cell (i := 2) rfl
        have s_3 := HV0.out.cell (i := 3) rfl
        have s_4 := HV0.out.cell (i := 4) rfl
        have s_5 := HV0.out.cell (i := 5) rfl
        have s_6 := HV0.out.cell (i := 6) rfl
        have s_7 := HV0.out.cell (i := 7) rfl
        have s_l := HV0.out.lt
        try rw [hrq] at s_l
        have rr_0 := HV2.out.cell (i := 0) rfl
        have rr_1 := HV2.out.cell (i := 1) rfl
        have rr_2 := HV2.out.cell (i := 2) rfl
        have rr_3 := HV2.out.cell (i := 3) rfl
        have rr_4 := HV2.out.cell (i := 4) rfl
        have rr_5 := HV2.out.cell (i := 5) rfl
        have rr_6 := HV2.out.cell (i := 6) rfl
        have rr_7 := HV2.out.cell (i := 7) rfl
        have rr_l := HV2.out.lt
        try rw [hrq] at rr_l
        have rq_0 := HV3.out.cell (i := 0) rfl
        have rq_1 := HV3.out.cell (i := 1) rfl
        have rq_2 := HV3.out.cell (i := 2) rfl
        have rq_l := HV3.out.lt
        try rw [hrq] at rq_l
        refine wp_region_noPanic ?_
        refine wp_region_held_drew (S := fun W => Below u2a.heap.size u2a W) (by kernel_rfl) ((Below.refl _ u2a).drew) (fun hHeld => ?_)
        refine wpAnyH_take (i := 0) (oi := ⟨some 115, _, _, _, _, _⟩) (v := .bool true) rfl (by kernel_rfl) (by kernel_rfl) (by kernel_rfl) (fun _ _ _ h => h) (Or.inl ⟨by rfl, fun W hSW => by go_simp⟩) hHeld ?_
        simp only [Act.put, List.setIfInBounds_toArray, List.set_cons_zero, List.set_cons_succ]
        refine wpAnyH_take (i := 1) (oi := ⟨some 116, _, _, _, _, _⟩) (v := .bool false) rfl (by kernel_rfl) (by kernel_rfl) (by kernel_rfl) (fun _ _ _ h => h) (Or.inl ⟨by rfl, fun W hSW => by go_simp⟩) hHeld ?_
        simp only [Act.put, List.setIfInBounds_toArray, List.set_cons_zero, List.set_cons_succ]
        refine wpAnyH_take (i := 2) (oi := ⟨some 117, _, _, _, _, _⟩) (v := .bool false) rfl (by kernel_rfl) (by kernel_rfl) (by kernel_rfl) (fun _ _ _ h => h) (Or.inl ⟨by rfl, fun W hSW => by go_simp⟩) hHeld ?_
        simp only [Act.put, List.setIfInBounds_toArray, List.set_cons_zero, List.set_cons_succ]
        refine wpAnyH_take (i := 3) (oi := ⟨some 118, _, _, _, _, _⟩) (v := .agg #[.int .i64 a.1.1, .int .i64 a.1.2.1, .int .i64 a.1.2.2, .bool a.2, .int .i64 X, .int .i64 Y, .int .i64 Z, .bool true]) rfl (by kernel_rfl) (by kernel_rfl) (by kernel_rfl) (fun _ _ _ h => h) (Or.inl ⟨by rfl, fun W hSW => by have a0 := (hSW.cell (p := ⟨rr, 0, none⟩) rr_l).trans rr_0; have a1 := (hSW.cell (p := ⟨rr, 1, none⟩) rr_l).trans rr_1; have a2 := (hSW.cell (p := ⟨rr, 2, none⟩) rr_l).trans rr_2; have a3 := (hSW.cell (p := ⟨rr, 3, none⟩) rr_l).trans rr_3; have a4 := (hSW.cell (p := ⟨rr, 4, none⟩) rr_l).trans rr_4; have a5 := (hSW.cell (p := ⟨rr, 5, none⟩) rr_l).trans rr_5; have a6 := (hSW.cell (p := ⟨rr, 6, none⟩) rr_l).trans rr_6; have a7 := (hSW.cell (p := ⟨rr, 7, none⟩) rr_l).trans rr_7; go_simp⟩) hHeld ?_
        simp only [Act.put, List.setIfInBounds_toArray, List.set_cons_zero, List.set_cons_succ]
        refine wpAnyH_take (i := 4) (oi := ⟨some 119, _, _, _, _, _⟩) (v := .agg #[.int .i64 X, .int .i64 Y, .int .i64 Z]) rfl (by kernel_rfl) (by kernel_rfl) (by kernel_rfl) (fun _ _ _ h => h) (Or.inl ⟨by rfl, fun W hSW => by have a0 := (hSW.cell (p := ⟨rq, 0, none⟩) rq_l).trans rq_0; have a1 := (hSW.cell (p := ⟨rq, 1, none⟩) rq_l).trans rq_1; have a2 := (hSW.cell (p := ⟨rq, 2, none⟩) rq_l).trans rq_2; go_simp⟩) hHeld ?_
        simp only [Act.put, List.setIfInBounds_toArray, List.set_cons_zero, List.set_cons_succ]
        refine wpAnyH_ready (rs := [5]) (by kernel_rfl) (by simp) ?_
        refine AllReadyH.cons (o := ⟨some 120, _, _, _, _, _⟩) rfl (fun K hK => ?_) AllReadyH.nil
        go_simp
        refine (In_c (a := a) (b := ((X, Y, Z), true)) HHOME.out).mono ?_
        rintro e w5 ⟨rfl, hb5⟩
        refine hK.out _ _ (below_t hHeld hb5) (fun hHeld => ?_)
        clear hK K hb5
        refine wpAnyH_take (i := 6) (oi := ⟨some 121, _, _, _, _, _⟩) (v := .bool false) rfl (by kernel_rfl) (by kernel_rfl) (by kernel_rfl) (fun _ _ _ h => h) (Or.inl ⟨by rfl, fun W hSW => by go_simp⟩) hHeld ?_
        simp only [Act.put, List.setIfInBounds_toArray, List.set_cons_zero, List.set_cons_succ]
        refine wpAnyH_take (i := 7) (oi := ⟨some 122, _, _, _, _, _⟩) (v := .bool false) rfl (by kernel_rfl) (by kernel_rfl) (by kernel_rfl) (fun _ _ _ h => h) (Or.inl ⟨by rfl, fun W hSW => by go_simp⟩) hHeld ?_
        simp only [Act.put, List.setIfInBounds_toArray, List.set_cons_zero, List.set_cons_succ]
        refine wpAnyH_take (i := 8) (oi := ⟨some 123, _, _, _, _, _⟩) (v := .bool false) rfl (by kernel_rfl) (by kernel_rfl) (by kernel_rfl) (fun _ _ _ h => h) (Or.inl ⟨by rfl, fun W hSW => by go_simp⟩) hHeld ?_
        simp only [Act.put, List.setIfInBounds_toArray, List.set_cons_zero, List.set_cons_succ]
        refine wpAnyH_take (i := 9) (oi := ⟨some 124, _, _, _, _, _⟩) (v := .int .i64 0) rfl (by kernel_rfl) (by kernel_rfl) (by kernel_rfl) (fun _ _ _ h => h) (Or.inl ⟨by rfl, fun W hSW => by go_simp⟩) hHeld ?_
        simp only [Act.put, List.setIfInBounds_toArray, List.set_cons_zero, List.set_cons_succ]
        refine wpAnyH_take (i := 10) (oi := ⟨some 125, _, _, _, _, _⟩) (v := .pointer (some ⟨rr, 0, none⟩)) rfl (by kernel_rfl) (by kernel_rfl) (by kernel_rfl) (fun _ _ _ h => h) (Or.inl ⟨by rfl, fun W hSW => by go_simp⟩) hHeld ?_
        simp only [Act.put, List.setIfInBounds_toArray, List.set_cons_zero, List.set_cons_succ]
        refine wpAnyH_take (i := 11) (oi := ⟨some 126, _, _, _, _, _⟩) (v := .agg #[.int .i64 a.1.1, .int .i64 a.1.2.1, .int .i64 a.1.2.2, .bool a.2]) rfl (by kernel_rfl) (by kernel_rfl) (by kernel_rfl) (fun _ _ _ h => h) (Or.inl ⟨by rfl, fun W hSW => by have a0 := (hSW.cell (p := ⟨rr, 0, none⟩) rr_l).trans rr_0; have a1 := (hSW.cell (p := ⟨rr, 1, none⟩) rr_l).trans rr_1; have a2 := (hSW.cell (p := ⟨rr, 2, none⟩) rr_l).trans rr_2; have a3 := (hSW.cell (p := ⟨rr, 3, none⟩) rr_l).trans rr_3; go_simp⟩) hHeld ?_
        simp only [Act.put, List.setIfInBounds_toArray, List.set_cons_zero, List.set_cons_succ]
        refine wpAnyH_take (i := 12) (oi := ⟨some 127, _, _, _, _, _⟩) (v := .int .i64 0) rfl (by kernel_rfl) (by kernel_rfl) (by kernel_rfl) (fun _ _ _ h => h) (Or.inl ⟨by rfl, fun W hSW => by go_simp⟩) hHeld ?_
        simp only [Act.put, List.setIfInBounds_toArray, List.set_cons_zero, List.set_cons_succ]
        refine wpAnyH_take (i := 13) (oi := ⟨some 128, _, _, _, _, _⟩) (v := .pointer (some ⟨s, 0, none⟩)) rfl (by kernel_rfl) (by kernel_rfl) (by kernel_rfl) (fun _ _ _ h => h) (Or.inl ⟨by rfl, fun W hSW => by go_simp⟩) hHeld ?_
        simp only [Act.put, List.setIfInBounds_toArray, List.set_cons_zero, List.set_cons_succ]
        refine wpAnyH_take (i := 14) (oi := ⟨some 129, _, _, _, _, _⟩) (v := .agg #[.int .i64 a.1.1, .int .i64 a.1.2.1, .int .i64 a.1.2.2, .bool a.2]) rfl (by kernel_rfl) (by kernel_rfl) (by kernel_rfl) (fun _ _ _ h => h) (Or.inl ⟨by rfl, fun W hSW => by have a0 := (hSW.cell (p := ⟨s, 0, none⟩) s_l).trans s_0; have a1 := (hSW.cell (p := ⟨s, 1, none⟩) s_l).trans s_1; have a2 := (hSW.cell (p := ⟨s, 2, none⟩) s_l).trans s_2; have a3 := (hSW.cell (p := ⟨s, 3, none⟩) s_l).trans s_3; go_simp⟩) hHeld ?_
        simp only [Act.put, List.setIfInBounds_toArray, List.set_cons_zero, List.set_cons_succ]
        refine wpAnyH_take (i := 15) (oi := ⟨some 130, _, _, _, _, _⟩) (v := .bool false) rfl (by kernel_rfl) (by kernel_rfl) (by kernel_rfl) (fun _ _ _ h => h) (Or.inl ⟨by rfl, fun W hSW => by have q := run_sameA W a; go_simp⟩) hHeld ?_
        simp only [Act.put, List.setIfInBounds_toArray, List.set_cons_zero, List.set_cons_succ]
        refine wpAnyH_take (i := 16) (oi := ⟨some 131, _, _, _, _, _⟩) (v := .bool false) rfl (by kernel_rfl) (by kernel_rfl) (by kernel_rfl) (fun _ _ _ h => h) (Or.inl ⟨by rfl, fun W hSW => by go_simp⟩) hHeld ?_
        simp only [Act.put, List.setIfInBounds_toArray, List.set_cons_zero, List.set_cons_succ]
        refine wpAnyH_done (by kernel_rfl) ?_ _
        refine NoPanic.normal ?_
        have BX := Lib.hid (below_t BV.out hHeld)
        have hzx := BX.out.size
        have HX0 := Lib.hid (HV0.out.below hHeld)
        have HX1 := Lib.hid (HV1.out.below hHeld)
        have HX2 := Lib.hid (HV2.out.below hHeld)
        have HX3 := Lib.hid (HV3.out.below hHeld)
        clear hHeld s_0 s_1 s_2 s_3 s_4 s_5 s_6 s_7 s_l rr_0 rr_1 rr_2 rr_3 rr_4 rr_5 rr_6 rr_7 rr_l rq_0 rq_1 rq_2 rq_l
        have rr_0 := HX2.out.cell (i := 0) rfl
        have rr_1 := HX2.out.cell (i := 1) rfl
        have rr_2 := HX2.out.cell (i := 2) rfl
        have rr_3 := HX2.out.cell (i := 3) rfl
        have rr_4 := HX2.out.cell (i := 4) rfl
        have rr_5 := HX2.out.cell (i := 5) rfl
        have rr_6 := HX2.out.cell (i := 6) rfl
        have rr_7 := HX2.out.cell (i := 7) rfl
        have rr_l := HX2.out.lt
        try rw [hrq] at rr_l
        go_wp2_with fail
        refine calls_named (S := fun W => Below w.heap.size w W ∧ Blk W s TT [.int .i64 a.1.1, .int .i64 a.1.2.1, .int .i64 a.1.2.2, .bool a.2, .int .i64 b.1.1, .int .i64 b.1.2.1, .int .i64 b.1.2.2, .bool b.2] ∧ Blk W rr TT [.int .i64 a.1.1, .int .i64 a.1.2.1, .int .i64 a.1.2.2, .bool a.2, .int .i64 X, .int .i64 Y, .int .i64 Z, .bool true] ∧ True) ⟨by (repeat' (first | (with_reducible exact Below.refl _ _) | (with_reducible refine Below.setCell ?_ (by (first | omega | (simp; done) | (simp; omega))) _) | (with_reducible refine Below.alloc ?_ (by (first | omega | (simp; done) | (simp; omega))) _) | (with_reducible refine Below.drew ?_) | (with_reducible refine below_drewN ?_ _) | (with_reducible refine Below.trans ?_ (Below.mono BX.out (by (first | omega | (simp; done) | (simp; omega))))))), by (repeat' (first | (with_reducible exact HX0.out) | (with_reducible refine BlkP.Blk.drew ?_) | (with_reducible refine BlkP.Blk.drewN ?_ _) | (with_reducible refine BlkP.Blk.setAt (us := ?_) (by first | omega | (simp; done) | (simp; omega)) rfl ?_ ?_) | (with_reducible refine BlkP.Blk.otherAt ?_ (by first | omega | (simp; done) | (simp; omega))) | (with_reducible refine BlkP.Blk.newA' (by first | omega | (simp; done) | (simp; omega)) rfl) | (with_reducible refine BlkP.Blk.alloc ?_ _) | (exact rfl))), by (repeat' (first | (with_reducible exact HX2.out) | (with_reducible refine BlkP.Blk.drew ?_) | (with_reducible refine BlkP.Blk.drewN ?_ _) | (with_reducible refine BlkP.Blk.setAt (us := ?_) (by first | omega | (simp; done) | (simp; omega)) rfl ?_ ?_) | (with_reducible refine BlkP.Blk.otherAt ?_ (by first | omega | (simp; done) | (simp; omega))) | (with_reducible refine BlkP.Blk.newA' (by first | omega | (simp; done) | (simp; omega)) rfl) | (with_reducible refine BlkP.Blk.alloc ?_ _) | (exact rfl))), trivial⟩ ?_
        rintro u6a ⟨hb, k0, k1, -⟩
        refine (Lift_c (a := a) (b := ((X, Y, Z), true)) (c := a) (d := ((0, 0, 0), false)) (n := 0) (by simp [liftA, offA]) _).mono ?_
        rintro e u6 ⟨rfl, hb2⟩
        have Bu6 := Lib.hid (below_t hb hb2)
        have hzu6 := Bu6.out.size
        have Hu6_0 := Lib.hid (k0.below hb2)
        have Hu6_1 := Lib.hid (k1.below hb2)
        clear hb hb2 k0 k1 rr_0 rr_1 rr_2 rr_3 rr_4 rr_5 rr_6 rr_7 rr_l
        obtain ⟨rb, hrb⟩ : ∃ r, u6.heap.size = r := ⟨_, rfl⟩
        have s_0 := Hu6_0.out.cell (i := 0) rfl
        have s_1 := Hu6_0.out.cell (i := 1) rfl
        have s_2 := Hu6_0.out.cell (i := 2) rfl
        have s_3 := Hu6_0.out.cell (i := 3) rfl
        have s_4 := Hu6_0.out.cell (i := 4) rfl
        have s_5 := Hu6_0.out.cell (i := 5) rfl
        have s_6 := Hu6_0.out.cell (i := 6) rfl
        have s_7 := Hu6_0.out.cell (i := 7) rfl
        have s_l := Hu6_0.out.lt
        try rw [hrb] at s_l
        have qe := fun w => run_sameAA w a ((0, 0, 0), false)
        simp only at qe
        go_wp2_with fail
        refine calls_named (S := fun W => Below w.heap.size w W) (by (repeat' (first | (with_reducible exact Below.refl _ _) | (with_reducible refine Below.setCell ?_ (by (first | omega | (simp; done) | (simp; omega))) _) | (with_reducible refine Below.alloc ?_ (by (first | omega | (simp; done) | (simp; omega))) _) | (with_reducible refine Below.drew ?_) | (with_reducible refine below_drewN ?_ _) | (with_reducible refine Below.trans ?_ (Below.mono Bu6.out (by (first | omega | (simp; done) | (simp; omega)))))))) ?_
        intro w7 hb7
        have B7 := Lib.hid hb7
        refine awake_c.mono ?_
        rintro e w8 ⟨rfl, hb⟩
        have B8 := Lib.hid (below_t B7.out hb)
        clear hb hb7 qe s_0 s_1 s_2 s_3 s_4 s_5 s_6 s_7 s_l
        go_wp2_with fail
        go_ret
        exact ⟨rfl, B8.out⟩
end AncW
end Go.Proofs.Ytcmmfihhnmhhgaa
