/-
  ChunkSame: whether two chunks are the same, and a copy; they stay.
-/
import Derived.LaidEql
import Derived.Test.YtiodbbdibkeniaaDoorChunkSame
namespace Go.Proofs.YtiodbbdibkeniaaDoor
open Go.RowKit
set_option linter.unusedVariables false
set_option linter.unusedSimpArgs false
namespace ChunkW
open BytesW PackW

theorem sameK_symm (k m : Ck) : sameK k m = sameK m k := by
  simp only [sameK, eq_comm]
theorem run_ptr_neIn (w : World) (d : Nat) {g p : Nat} (h : g ≠ p) (hs2 : (sameAddr ⟨g, 0, none⟩ ⟨p, 0, none⟩).run Tryd.prog w = .ok false w) (hu : Tryd.prog.underlying 25 = some (.pointer (Tryd.prog.pointee 25))) : (Op.equalIn (d + 1) 25 (.pointer (some ⟨g, 0, none⟩)) (.pointer (some ⟨p, 0, none⟩))).run Tryd.prog w = .ok false w := by
  have hs : (sizeOf (Tryd.prog.pointee 25)).run Tryd.prog w = .ok 16385 w := by kernel_rfl
  simp [Op.equalIn, run_underlying hu, hs, hs2]
theorem run_ptr_equal (w : World) {g p : Nat} (h : g ≠ p) (hs2 : (sameAddr ⟨g, 0, none⟩ ⟨p, 0, none⟩).run Tryd.prog w = .ok false w) : (Op.equal 25 (.pointer (some ⟨g, 0, none⟩)) (.pointer (some ⟨p, 0, none⟩))).run Tryd.prog w = .ok false w := run_ptr_neIn w 9999 h hs2 (by kernel_rfl)
theorem run_ptr_ne {w : World} {g p : Nat} {k m : Ck} (h : g ≠ p) (hg : ChkK w g k) (hp : ChkK w p m) : (binOp .eql 25 (.pointer (some ⟨g, 0, none⟩)) (.pointer (some ⟨p, 0, none⟩))).run Tryd.prog w = .ok (.bool false) w := by
  obtain ⟨_, _, h1, _⟩ := hg
  obtain ⟨_, _, h2, _⟩ := hp
  have h3 := run_ptr_equal w h (run_sameAddr_other (P := Tryd.prog) w (a := ⟨g, 0, none⟩) (b := ⟨p, 0, none⟩) (fun e => h (by injection e)) h1.1 h2.1)
  simp only [binOp]
  simp [h3]
theorem chkK_lt {w : World} {p : Nat} {k : Ck} (h : ChkK w p k) : p < w.heap.size := by
  obtain ⟨A, c, h1, _⟩ := h
  exact h1.lt
set_option maxRecDepth 100000 in
set_option maxHeartbeats 8000000 in
theorem law_same {w : World} {A1 A2 B1 B2 : Option Addr} {l1 l2 : List Ed} {t1 t2 : List Tick} {c1 c2 d1 d2 : Nat} (hT : KindW.Tab w) (hl1 : l1.length ≤ 9223372036854775807) (hA1 : EditC w A1 l1 ∧ ∀ q ∈ l1, EdOk q) (hl2 : l2.length ≤ 9223372036854775807) (hA2 : EditC w A2 l2 ∧ ∀ q ∈ l2, EdOk q) (hd1 : t1.length ≤ d1 ∧ d1 ≤ 9223372036854775807) (hB1 : PairC tkv w B1 t1) (hd2 : t2.length ≤ d2 ∧ d2 ≤ 9223372036854775807) (hB2 : PairC tkv w B2 t2) :
    Calls Tryd.prog 4 #[.slice A1 l1.length c1, .slice A2 l2.length c2, .slice B1 t1.length d1, .slice B2 t2.length d2] w fun e w' => e = .returned (.bool true) ∧ Below w.heap.size w w' := by
  have HT := Lib.hid hT
  obtain ⟨n1, hn1⟩ : ∃ n, n = l1.length := ⟨_, rfl⟩
  obtain ⟨n2, hn2⟩ : ∃ n, n = l2.length := ⟨_, rfl⟩
  obtain ⟨m1, hm1⟩ : ∃ m, m = t1.length := ⟨_, rfl⟩
  obtain ⟨m2, hm2⟩ : ∃ m, m = t2.length := ⟨_, rfl⟩
  have HOF1 : Hid (n1 ≤ 1000000 → m1 ≤ 1000000 → ∀ W, Below w.heap.size w W → Calls Tryd.prog 10 #[.slice A1 n1 c1, .slice B1 m1 d1] W (OfP W (ckOf l1 t1))) := Lib.hid (fun h1 h2 W hW => by
    rw [hn1] at h1 ⊢
    rw [hm1] at h2 ⊢
    exact of_c (hA1.1.below hW) hA1.2 h1 (hB1.below hW) h2)
  have HOF2 : Hid (n2 ≤ 1000000 → m2 ≤ 1000000 → ∀ W, Below w.heap.size w W → Calls Tryd.prog 10 #[.slice A2 n2 c2, .slice B2 m2 d2] W (OfP W (ckOf l2 t2))) := Lib.hid (fun h1 h2 W hW => by
    rw [hn2] at h1 ⊢
    rw [hm2] at h2 ⊢
    exact of_c (hA2.1.below hW) hA2.2 h1 (hB2.below hW) h2)
  rw [← hn1, ← hn2, ← hm1, ← hm2]
  obtain ⟨k, hk⟩ : ∃ k, k = ckOf l1 t1 := ⟨_, rfl⟩
  obtain ⟨m, hm⟩ : ∃ m, m = ckOf l2 t2 := ⟨_, rfl⟩
  rw [← hk] at HOF1
  rw [← hm] at HOF2
  obtain ⟨r, hr⟩ : ∃ r, sameK k m = r := ⟨_, rfl⟩
  have HR1 := Lib.hid hr
  have HR2 : Hid (sameK m k = r) := Lib.hid (by rw [sameK_symm, hr])
  clear hT hl1 hA1 hl2 hA2 hd1 hB1 hd2 hB2 hn1 hn2 hm1 hm2 hk hm hr
  by_cases h0 : 300 < n1
  · have e0 : decide ((300 : Int) < n1) = true := by simp; omega
    clear h0
    go_enter Tryd.func4, Tryd.ntmps4
    go_wp2_with (go_at_call 9; refine (awake_c HT.out).mono ?_; rintro e w1 ⟨rfl, hb1⟩)
    go_ret
    exact ⟨rfl, hb1⟩
  · have e0 : decide ((300 : Int) < n1) = false := by simp; omega
    by_cases h1 : 300 < n2
    · have e1 : decide ((300 : Int) < n2) = true := by simp; omega
      clear h0 h1
      go_enter Tryd.func4, Tryd.ntmps4
      go_wp2_with (go_at_call 9; refine (awake_c HT.out).mono ?_; rintro e w1 ⟨rfl, hb1⟩)
      go_ret
      exact ⟨rfl, hb1⟩
    · have e1 : decide ((300 : Int) < n2) = false := by simp; omega
      by_cases h2 : 300 < m1
      · have e2 : decide ((300 : Int) < m1) = true := by simp; omega
        clear h0 h1 h2
        go_enter Tryd.func4, Tryd.ntmps4
        go_wp2_with (go_at_call 9; refine (awake_c HT.out).mono ?_; rintro e w1 ⟨rfl, hb1⟩)
        go_ret
        exact ⟨rfl, hb1⟩
      · have e2 : decide ((300 : Int) < m1) = false := by simp; omega
        by_cases h3 : 300 < m2
        · have e3 : decide ((300 : Int) < m2) = true := by simp; omega
          clear h0 h1 h2 h3
          go_enter Tryd.func4, Tryd.ntmps4
          go_wp2_with (go_at_call 9; refine (awake_c HT.out).mono ?_; rintro e w1 ⟨rfl, hb1⟩)
          go_ret
          exact ⟨rfl, hb1⟩
        · have e3 : decide ((300 : Int) < m2) = false := by simp; omega
          have HO1 := Lib.hid (HOF1.out (by omega) (by omega))
          have HO2 := Lib.hid (HOF2.out (by omega) (by omega))
          clear h0 h1 h2 h3 HOF1 HOF2
          cases r
          · go_enter Tryd.func4, Tryd.ntmps4
            go_wp2_with fail
            go_at_call 10
            refine (HO1.out _ (Below.refl _ _)).mono ?_
            rintro e w1 ⟨p, rfl, hk, hgep, hb⟩
            have HB1 := Lib.hid hb
            have Hp1 := Lib.hid hk
            clear hb hk
            go_wp2_with fail
            go_at_call 10
            refine (HO2.out _ HB1.out).mono ?_
            rintro e w2 ⟨q, rfl, hk, hgeq, hb⟩
            have Hp2 := Lib.hid (Hp1.out.below hb)
            have HB2 := Lib.hid (below_t HB1.out hb)
            have Hq2 := Lib.hid hk
            clear hb hk
            go_wp2_with fail
            go_at_call 16
            refine (copy_c Hp2.out).mono ?_
            rintro e w3 ⟨g, TA, tc, rfl, hk, hown, hgg, hl3, hb⟩
            have hpg : p < g := Nat.lt_of_lt_of_le (chkK_lt Hp2.out) hgg
            have hgp : g ≠ p := by omega
            have hkk : ChkK w3 g k := CopyP.k rfl hk hown hl3
            have Hp3 := Lib.hid (Hp2.out.below hb)
            have Hq3 := Lib.hid (Hq2.out.below hb)
            have HB3 := Lib.hid (below_t HB2.out hb)
            have Hg3 := Lib.hid hkk
            clear hb hk hkk hown hl3
            have rq := run_ptr_ne hgp Hg3.out Hp3.out
            go_wp2_with fail
            go_at_call 15
            refine (rsame7_c Hg3.out Hp3.out (sameK_self k)).mono ?_
            rintro e w4 ⟨rfl, hb⟩
            have Hp4 := Lib.hid (Hp3.out.below hb)
            have Hq4 := Lib.hid (Hq3.out.below hb)
            have Hg4 := Lib.hid (Hg3.out.below hb)
            have HB4 := Lib.hid (below_t HB3.out hb)
            clear hb
            go_wp2_with fail
            go_at_call 17
            refine (same7_c Hg4.out Hp4.out (sameK_self k)).mono ?_
            rintro e w5 ⟨rfl, hb⟩
            have Hp5 := Lib.hid (Hp4.out.below hb)
            have Hq5 := Lib.hid (Hq4.out.below hb)
            have Hg5 := Lib.hid (Hg4.out.below hb)
            have HB5 := Lib.hid (below_t HB4.out hb)
            clear hb
            go_wp2_with fail
            go_at_call 17
            refine (same7_c Hp5.out Hq5.out HR1.out).mono ?_
            rintro e w6 ⟨rfl, hb⟩
            have Hp6 := Lib.hid (Hp5.out.below hb)
            have Hq6 := Lib.hid (Hq5.out.below hb)
            have Hg6 := Lib.hid (Hg5.out.below hb)
            have HB6 := Lib.hid (below_t HB5.out hb)
            clear hb
            go_wp2_with fail
            go_at_call 15
            refine (rsame7_c Hp6.out Hq6.out HR1.out).mono ?_
            rintro e w7 ⟨rfl, hb⟩
            have Hp7 := Lib.hid (Hp6.out.below hb)
            have Hq7 := Lib.hid (Hq6.out.below hb)
            have Hg7 := Lib.hid (Hg6.out.below hb)
            have HB7 := Lib.hid (below_t HB6.out hb)
            clear hb
            go_wp2_with fail
            go_at_call 17
            refine (same7_c Hq7.out Hp7.out HR2.out).mono ?_
            rintro e w8 ⟨rfl, hb⟩
            have Hp8 := Lib.hid (Hp7.out.below hb)
            have Hq8 := Lib.hid (Hq7.out.below hb)
            have Hg8 := Lib.hid (Hg7.out.below hb)
            have HB8 := Lib.hid (below_t HB7.out hb)
            clear hb
            go_wp2_with fail
            go_at_call 15
            refine (rsame7_c Hp8.out Hq8.out HR1.out).mono ?_
            rintro e w9 ⟨rfl, hb⟩
            have Hp9 := Lib.hid (Hp8.out.below hb)
            have Hq9 := Lib.hid (Hq8.out.below hb)
            have Hg9 := Lib.hid (Hg8.out.below hb)
            have HB9 := Lib.hid (below_t HB8.out hb)
            clear hb
            go_wp2_with fail
            go_at_call 17
            refine (same_r).mono ?_
            rintro e w' ⟨rfl, rfl⟩
            go_wp2_with fail
            go_at_call 17
            refine (same_l).mono ?_
            rintro e w' ⟨rfl, rfl⟩
            go_wp2_with fail
            go_at_call 10
            refine (HO1.out _ HB9.out).mono ?_
            rintro e w10 ⟨p2, rfl, hk, hgep2, hb⟩
            have Hp10 := Lib.hid (Hp9.out.below hb)
            have Hq10 := Lib.hid (Hq9.out.below hb)
            have Hg10 := Lib.hid (Hg9.out.below hb)
            have HB10 := Lib.hid (below_t HB9.out hb)
            have Hp210 := Lib.hid hk
            clear hb hk
            go_wp2_with fail
            go_at_call 15
            refine (rsame7_c Hp10.out Hp210.out (sameK_self k)).mono ?_
            rintro e w11 ⟨rfl, hb⟩
            have Hp11 := Lib.hid (Hp10.out.below hb)
            have Hq11 := Lib.hid (Hq10.out.below hb)
            have Hg11 := Lib.hid (Hg10.out.below hb)
            have Hp211 := Lib.hid (Hp210.out.below hb)
            have HB11 := Lib.hid (below_t HB10.out hb)
            clear hb
            go_wp2_with fail
            go_at_call 10
            refine (HO2.out _ HB11.out).mono ?_
            rintro e w12 ⟨q2, rfl, hk, hgeq2, hb⟩
            have Hp12 := Lib.hid (Hp11.out.below hb)
            have Hq12 := Lib.hid (Hq11.out.below hb)
            have Hg12 := Lib.hid (Hg11.out.below hb)
            have Hp212 := Lib.hid (Hp211.out.below hb)
            have HB12 := Lib.hid (below_t HB11.out hb)
            have Hq212 := Lib.hid hk
            clear hb hk
            go_wp2_with fail
            go_at_call 15
            refine (rsame7_c Hq12.out Hq212.out (sameK_self m)).mono ?_
            rintro e w13 ⟨rfl, hb⟩
            have Hp13 := Lib.hid (Hp12.out.below hb)
            have Hq13 := Lib.hid (Hq12.out.below hb)
            have Hg13 := Lib.hid (Hg12.out.below hb)
            have Hp213 := Lib.hid (Hp212.out.below hb)
            have Hq213 := Lib.hid (Hq212.out.below hb)
            have HB13 := Lib.hid (below_t HB12.out hb)
            clear hb
            go_wp2_with (go_at_call 9; refine (awake_c (HT.out.below HB13.out)).mono ?_; rintro e w' ⟨rfl, hb⟩)
            go_ret
            exact ⟨rfl, below_t HB13.out hb⟩
          · go_enter Tryd.func4, Tryd.ntmps4
            go_wp2_with fail
            go_at_call 10
            refine (HO1.out _ (Below.refl _ _)).mono ?_
            rintro e w1 ⟨p, rfl, hk, hgep, hb⟩
            have HB1 := Lib.hid hb
            have Hp1 := Lib.hid hk
            clear hb hk
            go_wp2_with fail
            go_at_call 10
            refine (HO2.out _ HB1.out).mono ?_
            rintro e w2 ⟨q, rfl, hk, hgeq, hb⟩
            have Hp2 := Lib.hid (Hp1.out.below hb)
            have HB2 := Lib.hid (below_t HB1.out hb)
            have Hq2 := Lib.hid hk
            clear hb hk
            go_wp2_with fail
            go_at_call 16
            refine (copy_c Hp2.out).mono ?_
            rintro e w3 ⟨g, TA, tc, rfl, hk, hown, hgg, hl3, hb⟩
            have hpg : p < g := Nat.lt_of_lt_of_le (chkK_lt Hp2.out) hgg
            have hgp : g ≠ p := by omega
            have hkk : ChkK w3 g k := CopyP.k rfl hk hown hl3
            have Hp3 := Lib.hid (Hp2.out.below hb)
            have Hq3 := Lib.hid (Hq2.out.below hb)
            have HB3 := Lib.hid (below_t HB2.out hb)
            have Hg3 := Lib.hid hkk
            clear hb hk hkk hown hl3
            have rq := run_ptr_ne hgp Hg3.out Hp3.out
            go_wp2_with fail
            go_at_call 15
            refine (rsame7_c Hg3.out Hp3.out (sameK_self k)).mono ?_
            rintro e w4 ⟨rfl, hb⟩
            have Hp4 := Lib.hid (Hp3.out.below hb)
            have Hq4 := Lib.hid (Hq3.out.below hb)
            have Hg4 := Lib.hid (Hg3.out.below hb)
            have HB4 := Lib.hid (below_t HB3.out hb)
            clear hb
            go_wp2_with fail
            go_at_call 17
            refine (same7_c Hg4.out Hp4.out (sameK_self k)).mono ?_
            rintro e w5 ⟨rfl, hb⟩
            have Hp5 := Lib.hid (Hp4.out.below hb)
            have Hq5 := Lib.hid (Hq4.out.below hb)
            have Hg5 := Lib.hid (Hg4.out.below hb)
            have HB5 := Lib.hid (below_t HB4.out hb)
            clear hb
            go_wp2_with fail
            go_at_call 17
            refine (same7_c Hp5.out Hq5.out HR1.out).mono ?_
            rintro e w6 ⟨rfl, hb⟩
            have Hp6 := Lib.hid (Hp5.out.below hb)
            have Hq6 := Lib.hid (Hq5.out.below hb)
            have Hg6 := Lib.hid (Hg5.out.below hb)
            have HB6 := Lib.hid (below_t HB5.out hb)
            clear hb
            go_wp2_with fail
            go_at_call 15
            refine (rsame7_c Hp6.out Hq6.out HR1.out).mono ?_
            rintro e w7 ⟨rfl, hb⟩
            have Hp7 := Lib.hid (Hp6.out.below hb)
            have Hq7 := Lib.hid (Hq6.out.below hb)
            have Hg7 := Lib.hid (Hg6.out.below hb)
            have HB7 := Lib.hid (below_t HB6.out hb)
            clear hb
            go_wp2_with fail
            go_at_call 17
            refine (same7_c Hq7.out Hp7.out HR2.out).mono ?_
            rintro e w8 ⟨rfl, hb⟩
            have Hp8 := Lib.hid (Hp7.out.below hb)
            have Hq8 := Lib.hid (Hq7.out.below hb)
            have Hg8 := Lib.hid (Hg7.out.below hb)
            have HB8 := Lib.hid (below_t HB7.out hb)
            clear hb
            go_wp2_with fail
            go_at_call 15
            refine (rsame7_c Hp8.out Hq8.out HR1.out).mono ?_
            rintro e w9 ⟨rfl, hb⟩
            have Hp9 := Lib.hid (Hp8.out.below hb)
            have Hq9 := Lib.hid (Hq8.out.below hb)
            have Hg9 := Lib.hid (Hg8.out.below hb)
            have HB9 := Lib.hid (below_t HB8.out hb)
            clear hb
            go_wp2_with fail
            go_at_call 17
            refine (same_r).mono ?_
            rintro e w' ⟨rfl, rfl⟩
            go_wp2_with fail
            go_at_call 17
            refine (same_l).mono ?_
            rintro e w' ⟨rfl, rfl⟩
            go_wp2_with fail
            go_at_call 10
            refine (HO1.out _ HB9.out).mono ?_
            rintro e w10 ⟨p2, rfl, hk, hgep2, hb⟩
            have Hp10 := Lib.hid (Hp9.out.below hb)
            have Hq10 := Lib.hid (Hq9.out.below hb)
            have Hg10 := Lib.hid (Hg9.out.below hb)
            have HB10 := Lib.hid (below_t HB9.out hb)
            have Hp210 := Lib.hid hk
            clear hb hk
            go_wp2_with fail
            go_at_call 15
            refine (rsame7_c Hp10.out Hp210.out (sameK_self k)).mono ?_
            rintro e w11 ⟨rfl, hb⟩
            have Hp11 := Lib.hid (Hp10.out.below hb)
            have Hq11 := Lib.hid (Hq10.out.below hb)
            have Hg11 := Lib.hid (Hg10.out.below hb)
            have Hp211 := Lib.hid (Hp210.out.below hb)
            have HB11 := Lib.hid (below_t HB10.out hb)
            clear hb
            go_wp2_with fail
            go_at_call 10
            refine (HO2.out _ HB11.out).mono ?_
            rintro e w12 ⟨q2, rfl, hk, hgeq2, hb⟩
            have Hp12 := Lib.hid (Hp11.out.below hb)
            have Hq12 := Lib.hid (Hq11.out.below hb)
            have Hg12 := Lib.hid (Hg11.out.below hb)
            have Hp212 := Lib.hid (Hp211.out.below hb)
            have HB12 := Lib.hid (below_t HB11.out hb)
            have Hq212 := Lib.hid hk
            clear hb hk
            go_wp2_with fail
            go_at_call 15
            refine (rsame7_c Hq12.out Hq212.out (sameK_self m)).mono ?_
            rintro e w13 ⟨rfl, hb⟩
            have Hp13 := Lib.hid (Hp12.out.below hb)
            have Hq13 := Lib.hid (Hq12.out.below hb)
            have Hg13 := Lib.hid (Hg12.out.below hb)
            have Hp213 := Lib.hid (Hp212.out.below hb)
            have Hq213 := Lib.hid (Hq212.out.below hb)
            have HB13 := Lib.hid (below_t HB12.out hb)
            clear hb
            go_wp2_with (go_at_call 9; refine (awake_c (HT.out.below HB13.out)).mono ?_; rintro e w' ⟨rfl, hb⟩)
            go_ret
            exact ⟨rfl, below_t HB13.out hb⟩
end ChunkW
end Go.Proofs.YtiodbbdibkeniaaDoor
