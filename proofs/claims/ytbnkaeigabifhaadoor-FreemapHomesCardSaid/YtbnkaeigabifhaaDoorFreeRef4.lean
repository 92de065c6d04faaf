/-
  The reference's map that homes say.
-/
import Derived.Test.YtbnkaeigabifhaaDoorFreeRef3
-- mine: whole_c same_c awake_c take_c step_c back_c Made number_c next_c fixed_c clone_c int_c end_c put_c
namespace Go.Proofs.YtbnkaeigabifhaaDoor
open Go.RowKit
set_option linter.unusedVariables false
set_option linter.unusedSimpArgs false
set_option maxRecDepth 100000
namespace FreW
open BlkP RowG FrS PushG FreP
open CrcW (Tab)
/-- The first i as told, all others free. -/
def uptoT (f : Nat → Bool) (n i : Nat) : List Bool := (List.range n).map fun j => if j < i then f j else true
theorem uptoT_len (f : Nat → Bool) (n i : Nat) : (uptoT f n i).length = n := by simp [uptoT]
theorem uptoT_zero (f : Nat → Bool) (n : Nat) : uptoT f n 0 = fullL n := by
  unfold uptoT fullL bitsL
  apply List.map_congr_left
  intro j _
  simp
theorem uptoT_all (f : Nat → Bool) (n : Nat) : uptoT f n n = bitsL f n := by
  unfold uptoT bitsL
  apply List.map_congr_left
  intro j hj
  rw [if_pos (List.mem_range.1 hj)]
theorem uptoT_succ (f : Nat → Bool) {n i : Nat} (h : i < n) : uptoT f n (i + 1) = (uptoT f n i).set i (f i) := by
  apply List.ext_getElem?
  intro j
  rw [List.getElem?_set, uptoT_len]
  by_cases e : i = j
  · subst e
    rw [if_pos rfl, if_pos h]
    simp [uptoT, h]
  · rw [if_neg e]
    simp only [uptoT, List.getElem?_map]
    rcases Nat.lt_or_ge j n with q | q
    · rw [List.getElem?_range q]
      simp only [Option.map_some]
      congr 1
      by_cases h1 : j < i
      · rw [if_pos h1, if_pos (by omega)]
      · rw [if_neg h1, if_neg (by omega)]
    · rw [List.getElem?_eq_none (by simpa using q)]
      rfl
def ROfP (w : World) (n : Nat) (l : List (List UInt8)) (e : Ending) (w' : World) : Prop :=
  (∃ L p, ofM n l = some L ∧ e = .returned (.tuple #[.pointer (some ⟨p, 0, none⟩), .int .i64 0]) ∧ RMade w p n L w') ∨ (ofM n l = none ∧ e = .returned (.tuple #[.pointer none, .int .i64 4]) ∧ Below w.heap.size w w')
theorem rOf_no {n : Int} (h : isM n = false) {w : World} {A : Option Addr} {m c : Nat} :
    Calls Tryd.prog 33 #[.int .i64 n, .slice A m c] w fun e w' => e = .returned (.tuple #[.pointer none, .int .i64 2]) ∧ Below w.heap.size w w' := by
  go_enter Tryd.func33, Tryd.ntmps33
  go_wp2_with fail
  go_at_call 12
  refine (rNew_no h _).mono ?_
  rintro e w1 ⟨rfl, hw⟩
  obtain rfl := hw.symm
  go_wp2_with fail
  refine bodyPost_ret (v := .tuple #[.pointer none, .int .i64 2]) (by simp [results, Tryd.results33, go_sem]) rfl ?_
  exact ⟨rfl, Below.refl _ _⟩
theorem bit_mod (Y t : Nat) : (((Y / 2 ^ t % 2 : Nat) : Int) == 1) = Y.testBit t := bit_is Y t
set_option maxHeartbeats 4000000 in
theorem rOf_i {n : Nat} (lo : 256 ≤ n) (hi : n ≤ 131072) {w : World} {A : Option Addr} {m c : Nat} {l : List (List UInt8)} (h : Rd encS w (.slice A m c) l) (hm : l.length = m) :
    Calls Tryd.prog 33 #[.int .i64 (n : Int), .slice A m c] w (ROfP w n l) := by
  have H := Lib.hid h
  have HL := Lib.hid hm
  have hmb : m ≤ 9223372036854775807 := by
    obtain ⟨A, c, e, q1, q2⟩ := h.form hm
    omega
  obtain ⟨K, hK⟩ : ∃ K, K = FreP.hs n := ⟨_, rfl⟩
  have hK33 : K ≤ 33 := by rw [hK]; exact hs_le hi
  have HK := Lib.hid hK
  have HSZ : Hid (∀ w, Calls Tryd.prog 14 #[.int .i64 (n : Int)] w fun e w' => e = .returned (.int .i64 (K : Int)) ∧ w' = w) := Lib.hid (fun w => by
    have := rSize_c (n : Int) w
    rw [size_i lo hi, ← hK] at this
    exact this)
  clear h hm hK
  go_enter Tryd.func33, Tryd.ntmps33
  go_wp2_with fail
  go_at_call 12
  refine (rNew_i lo hi _).mono ?_
  rintro e w1 ⟨p, rfl, S, ⟨g, c1, hP1, hS1⟩, hb1⟩
  have P1 := Lib.hid hP1
  have B1 := Lib.hid hb1
  clear hP1 hS1 hb1
  by_cases hmK : m = K
  · subst hmK
    go_wp2_with fail
    go_at_call 14
    refine (HSZ.out _).mono ?_
    rintro e w2 ⟨rfl, hw⟩
    obtain rfl := hw.symm
    go_wp2_with fail
    go_loopw [8, 9, 10] (fun v8 v9 v10 wr => ∃ i : Nat, v8 = .int .i64 (i : Int) ∧ i ≤ n ∧ RMP wr w.heap.size p g c1 n (uptoT (bitH l) n i) ∧ (∀ a s, 4000 * a < i → l[a]? = some s → s.length = 512) ∧ Below w.heap.size w wr) (fun v8 v9 v10 _ => n - (RowKit.intOf v8).toNat)
    case atStart => exact ⟨0, rfl, by omega, by rw [uptoT_zero]; exact P1.out, fun a s ha => by omega, B1.out⟩
    case round =>
      obtain ⟨i, rfl, hin, hP, hall, hbr⟩ := hrel
      have MP := Lib.hid hP
      have BR := Lib.hid hbr
      have HALL := Lib.hid hall
      clear hall
      by_cases hlt : i < n
      · obtain ⟨a, ha⟩ : ∃ a, a = i / 4000 := ⟨_, rfl⟩
        obtain ⟨b, hb⟩ : ∃ b, b = i % 4000 := ⟨_, rfl⟩
        obtain ⟨d, hd⟩ : ∃ d, d = b / 8 := ⟨_, rfl⟩
        obtain ⟨t, ht⟩ : ∃ t, t = b % 8 := ⟨_, rfl⟩
        have ham : a < m := by rw [HK.out, ha]; exact hs_at hlt
        obtain ⟨x, hx⟩ : ∃ x, l[a]? = some x := ⟨_, List.getElem?_eq_getElem (by rw [HL.out]; exact ham)⟩
        obtain ⟨bb, o, rfl, hbl, hc⟩ := rd_str (H.out.below hbr) hx
        have hw1 : IntKind.i64.wrap ((i : Int) / 4000) = (a : Int) := by rw [IntKind.wrap_i64]; omega
        have hr1 : (i : Int) % 4000 = (b : Int) := by omega
        obtain ⟨X, hX⟩ : ∃ X : ByteArray, X = ⟨x.toArray⟩ := ⟨_, rfl⟩
        have hXs : X.size = x.length := by rw [hX]; simp [ByteArray.size]
        rw [← hX] at hc
        by_cases h5 : x.length = 512
        · rw [h5] at hXs
          have hb4 : b < 4000 := by omega
          have hd5 : d < 512 := by omega
          have hd5I : (d : Int) < 512 := by omega
          have ht8 : t < 8 := by omega
          obtain ⟨y, hy⟩ : ∃ y, x[d]? = some y := ⟨_, List.getElem?_eq_getElem (by omega)⟩
          obtain ⟨Y, hY⟩ : ∃ Y : Nat, Y = y.toNat := ⟨_, rfl⟩
          have hXb : ∀ h, ((X[d]'h).toNat : Int) = (Y : Int) := fun h => by
            subst hX
            obtain ⟨h1, h2⟩ := List.getElem?_eq_some_iff.1 hy
            rw [hY, ← h2]
            rfl
          have HXB := Lib.hid hXb
          have hB : bitH l i = Y.testBit t := by
            unfold bitH
            rw [← ha, ← hb, ← hd, ← ht, hY]
            simp only [List.getD_eq_getElem?_getD, hx, hy, Option.getD_some]
          have hw2 : IntKind.i64.wrap ((b : Int) / 8) = (d : Int) := by rw [IntKind.wrap_i64]; omega
          have hr2 : (b : Int) % 8 = (t : Int) := by omega
          have HT8 := Lib.hid (show (b : Int).tmod 8 = (t : Int) by rw [Int.tmod_eq_emod_of_nonneg (by omega)]; exact hr2)
          have hY8 : Y < 256 := by rw [hY]; exact y.toNat_lt
          obtain ⟨Q, hQ⟩ : ∃ Q : Nat, Q = Y / 2 ^ t := ⟨_, rfl⟩
          have hQ8 : Q < 256 := by rw [hQ]; exact Nat.lt_of_le_of_lt (Nat.div_le_self _ _) hY8
          have HQ1 : Hid ((Y : Int) / 2 ^ t = (Q : Int)) := Lib.hid (by rw [hQ]; simp [Int.natCast_ediv, Int.natCast_pow])
          obtain ⟨R, hR⟩ : ∃ R : Nat, R = Q % 2 := ⟨_, rfl⟩
          have HR1 : Hid ((Q : Int) % 2 = (R : Int)) := Lib.hid (by omega)
          have HR2 := Lib.hid (show (Q : Int).tmod 2 = (R : Int) by rw [Int.tmod_eq_emod_of_nonneg (by omega)]; omega)
          have HF : Hid (((R : Int) == 1) = bitH l i) := Lib.hid (by rw [hR, hQ, hB]; exact bit_is Y t)
          obtain ⟨r, hr⟩ : ∃ r, r = bitH l i := ⟨_, rfl⟩
          have HSU := Lib.hid (uptoT_succ (bitH l) hlt)
          rw [← hr] at HF HSU
          have c0 := hP.bp.cell (i := 0) (v := .slice (some ⟨g, 0, none⟩) n c1) rfl
          have hpl := hP.bp.lt
          have hpg : ¬ p = g := hP.ne
          have hgl := hP.gb.2
          have cb := hP.bit hlt
          have hfz := hP.row.frozen i
          have HA2 : Hid (∀ a s, 4000 * a < i + 1 → l[a]? = some s → s.length = 512) := Lib.hid (fun a' s h1 h2 => by
            by_cases q : 4000 * a' < i
            · exact HALL.out a' s q h2
            · have e : a' = a := by omega
              rw [e, hx] at h2
              injection h2 with h2
              rw [← h2]
              exact h5)
          have hmI : (a : Int) < (m : Int) := by omega
          clear hX hXb hY hB hx hy hP hbr ha hb hd ht hr hQ hR h5
          go_wp2_with fail
          refine wp_region_noPanic ?_
          refine wp_region_held_drew (S := fun Xw => Fr (fun b => b = g) wr Xw) (by kernel_rfl) ((Fr.refl _ wr).drew) (fun hHeld => ?_)
          refine wpAnyH_take (i := 0) (oi := ⟨some 41, _, _, _, _, _⟩) (v := .pointer (some ⟨p, 0, none⟩)) rfl (by kernel_rfl) (by kernel_rfl) (by kernel_rfl) (fun _ _ _ h => h) (Or.inl ⟨by rfl, fun Xw hSW => by go_simp⟩) hHeld ?_
          simp only [Act.put, List.setIfInBounds_toArray, List.set_cons_zero, List.set_cons_succ]
          refine wpAnyH_take (i := 1) (oi := ⟨some 42, _, _, _, _, _⟩) (v := .pointer (some ⟨p, 0, none⟩)) rfl (by kernel_rfl) (by kernel_rfl) (by kernel_rfl) (fun _ _ _ h => h) (Or.inl ⟨by rfl, fun Xw hSW => by go_simp⟩) hHeld ?_
          simp only [Act.put, List.setIfInBounds_toArray, List.set_cons_zero, List.set_cons_succ]
          refine wpAnyH_take (i := 2) (oi := ⟨some 43, _, _, _, _, _⟩) (v := .pointer (some ⟨p, 0, none⟩)) rfl (by kernel_rfl) (by kernel_rfl) (by kernel_rfl) (fun _ _ _ h => h) (Or.inl ⟨by rfl, fun Xw hSW => by go_simp⟩) hHeld ?_
          simp only [Act.put, List.setIfInBounds_toArray, List.set_cons_zero, List.set_cons_succ]
          refine wpAnyH_take (i := 3) (oi := ⟨some 44, _, _, _, _, _⟩) (v := .slice (some ⟨g, 0, none⟩) n c1) rfl (by kernel_rfl) (by kernel_rfl) (by kernel_rfl) (fun _ _ _ h => h) (Or.inl ⟨by rfl, fun Xw hSW => by have a := (hSW.cell (p := ⟨p, 0, none⟩) hpl hpg).trans c0; go_simp⟩) hHeld ?_
          simp only [Act.put, List.setIfInBounds_toArray, List.set_cons_zero, List.set_cons_succ]
          refine wpAnyH_take (i := 4) (oi := ⟨some 45, _, _, _, _, _⟩) (v := .int .i64 (i : Int)) rfl (by kernel_rfl) (by kernel_rfl) (by kernel_rfl) (fun _ _ _ h => h) (Or.inl ⟨by rfl, fun Xw hSW => by go_simp⟩) hHeld ?_
          simp only [Act.put, List.setIfInBounds_toArray, List.set_cons_zero, List.set_cons_succ]
          refine wpAnyH_take (i := 5) (oi := ⟨some 46, _, _, _, _, _⟩) (v := .string X) rfl (by kernel_rfl) (by kernel_rfl) (by kernel_rfl) (fun _ _ _ h => h) (Or.inl ⟨by rfl, fun Xw hSW => by go_simp⟩) hHeld ?_
          simp only [Act.put, List.setIfInBounds_toArray, List.set_cons_zero, List.set_cons_succ]
          refine wpAnyH_take (i := 6) (oi := ⟨some 47, _, _, _, _, _⟩) (v := .int .i64 (b : Int)) rfl (by kernel_rfl) (by kernel_rfl) (by kernel_rfl) (fun _ _ _ h => h) (Or.inl ⟨by rfl, fun Xw hSW => by go_simp⟩) hHeld ?_
          simp only [Act.put, List.setIfInBounds_toArray, List.set_cons_zero, List.set_cons_succ]
          refine wpAnyH_take (i := 7) (oi := ⟨some 48, _, _, _, _, _⟩) (v := .int .i64 (d : Int)) rfl (by kernel_rfl) (by kernel_rfl) (by kernel_rfl) (fun _ _ _ h => h) (Or.inl ⟨by rfl, fun Xw hSW => by go_simp⟩) hHeld ?_
          simp only [Act.put, List.setIfInBounds_toArray, List.set_cons_zero, List.set_cons_succ]
          refine wpAnyH_take (i := 8) (oi := ⟨some 49, _, _, _, _, _⟩) (v := .int .u8 (Y : Int)) rfl (by kernel_rfl) (by kernel_rfl) (by kernel_rfl) (fun _ _ _ h => h) (Or.inl ⟨by rfl, fun Xw hSW => by go_simp <;> first | exact HXB.out _ | (rw [HXB.out]; done) | (intros; omega)⟩) hHeld ?_
          simp only [Act.put, List.setIfInBounds_toArray, List.set_cons_zero, List.set_cons_succ]
          refine wpAnyH_take (i := 9) (oi := ⟨some 50, _, _, _, _, _⟩) (v := .int .i64 (b : Int)) rfl (by kernel_rfl) (by kernel_rfl) (by kernel_rfl) (fun _ _ _ h => h) (Or.inl ⟨by rfl, fun Xw hSW => by go_simp⟩) hHeld ?_
          simp only [Act.put, List.setIfInBounds_toArray, List.set_cons_zero, List.set_cons_succ]
          refine wpAnyH_take (i := 10) (oi := ⟨some 51, _, _, _, _, _⟩) (v := .int .i64 (t : Int)) rfl (by kernel_rfl) (by kernel_rfl) (by kernel_rfl) (fun _ _ _ h => h) (Or.inl ⟨by rfl, fun Xw hSW => by go_simp <;> first | rfl | exact HT8.out⟩) hHeld ?_
          simp only [Act.put, List.setIfInBounds_toArray, List.set_cons_zero, List.set_cons_succ]
          refine wpAnyH_take (i := 11) (oi := ⟨some 52, _, _, _, _, _⟩) (v := .int .u8 (Q : Int)) rfl (by kernel_rfl) (by kernel_rfl) (by kernel_rfl) (fun _ _ _ h => h) (Or.inl ⟨by rfl, fun Xw hSW => by go_simp <;> first | exact HQ1.out | (rw [HQ1.out]; done)⟩) hHeld ?_
          simp only [Act.put, List.setIfInBounds_toArray, List.set_cons_zero, List.set_cons_succ]
          refine wpAnyH_take (i := 12) (oi := ⟨some 53, _, _, _, _, _⟩) (v := .int .u8 (R : Int)) rfl (by kernel_rfl) (by kernel_rfl) (by kernel_rfl) (fun _ _ _ h => h) (Or.inl ⟨by rfl, fun Xw hSW => by go_simp <;> first | exact HR2.out | exact HR1.out | omega⟩) hHeld ?_
          simp only [Act.put, List.setIfInBounds_toArray, List.set_cons_zero, List.set_cons_succ]
          refine wpAnyH_take (i := 13) (oi := ⟨some 54, _, _, _, _, _⟩) (v := .bool r) rfl (by kernel_rfl) (by kernel_rfl) (by kernel_rfl) (fun _ _ _ h => h) (Or.inl ⟨by rfl, fun Xw hSW => by go_simp <;> first | exact HF.out | (rw [← HF.out]; rfl)⟩) hHeld ?_
          simp only [Act.put, List.setIfInBounds_toArray, List.set_cons_zero, List.set_cons_succ]
          refine wpAnyH_take (i := 14) (oi := ⟨some 55, _, _, _, _, _⟩) (v := .pointer (some ⟨g, i, none⟩)) rfl (by kernel_rfl) (by kernel_rfl) (by kernel_rfl) (fun _ _ _ h => h) (Or.inl ⟨by rfl, fun Xw hSW => by go_simp⟩) hHeld ?_
          simp only [Act.put, List.setIfInBounds_toArray, List.set_cons_zero, List.set_cons_succ]
          refine wpAnyH_ready (rs := [15]) (by kernel_rfl) (by simp) ?_
          refine AllReadyH.cons (o := ⟨none, _, _, _, _, _⟩) rfl (fun K hK => ?_) AllReadyH.nil
          go_simp
          refine hK.out _ _ (hHeld.trans (Fr.set _ _ _ _ rfl) (fun _ q => .inl q.symm)) (fun hHeld => ?_)
          clear hK K
          refine wpAnyH_done (by kernel_rfl) ?_ _
          refine NoPanic.normal ?_
          go_wp2_with fail
          go_roundw
          case rel =>
            refine ⟨i + 1, by go_num, by omega, ?_, HA2.out, BR.out.trans (hHeld.toBelow BR.out.size (fun b hb => by rw [hb]; exact (MP.out.gb).1))⟩
            rw [HSU.out]
            exact (MP.out.fr (Fr.below (fun _ => False) (Below.refl _ _).drew) (fun _ _ q => q)).set hlt r
          case measure => simp [RowKit.intOf]; omega
        · have HN : Hid (ofM n l = none) := Lib.hid (ofM_lens (by
            unfold lensH
            simp only [Bool.and_eq_false_iff]
            right
            rw [List.all_eq_false]
            exact ⟨x, List.mem_of_getElem? hx, by simp [h5]⟩))
          obtain ⟨q, hq⟩ : ∃ q, q = x.length := ⟨_, rfl⟩
          rw [← hq] at hXs h5
          have hne : ((q : Int) != 512) = true := by simp; omega
          clear hX hx hq hP hbr ha hb hd ht
          go_wp2_with fail
          refine bodyPost_ret (v := .tuple #[.pointer none, .int .i64 4]) (by simp [results, Tryd.results33, go_sem]) rfl ?_
          exact .inr ⟨HN.out, rfl, BR.out⟩
      · obtain rfl : i = n := by omega
        have HLY : Hid (lensH i l = true) := Lib.hid (by
          unfold lensH
          rw [HL.out, ← HK.out]
          simp only [decide_true, Bool.true_and, List.all_eq_true, decide_eq_true_eq]
          intro s hs
          obtain ⟨a, ha⟩ := List.getElem?_of_mem hs
          refine HALL.out a s ?_ ha
          have h1 := (List.getElem?_eq_some_iff.1 ha).1
          rw [HL.out, HK.out] at h1
          unfold FreP.hs at h1
          omega)
        have MQ : Hid (RMP wr w.heap.size p g c1 i (bitsL (bitH l) i)) := Lib.hid (by rw [← uptoT_all]; exact hP)
        have HHL := Lib.hid (show (homes (bitsL (bitH l) i)).length = m by rw [homes_len, bitsL_len, HK.out])
        obtain ⟨M, hM⟩ : ∃ M, M = bitsL (bitH l) i := ⟨_, rfl⟩
        have HOF : Hid (homes M = l → ofM i l = some M) := Lib.hid (fun e => by
          unfold ofM
          rw [← hM, if_pos ⟨HLY.out, e⟩])
        have HON : Hid (¬ homes M = l → ofM i l = none) := Lib.hid (fun e => by
          unfold ofM
          rw [← hM, if_neg (fun q => e q.2)])
        rw [← hM] at MQ HHL
        have HHI := Lib.hid (show ∀ k, k < m → (homes M)[k]? = some (home (has M) k) from fun k hk => homes_at (by rw [hM, bitsL_len, ← HK.out]; exact hk))
        clear hP hbr hM MP
        go_wp2_with fail
        go_loopw [11, 12] (fun v11 v12 wy => ∃ k : Nat, v11 = .int .i64 (k : Int) ∧ k ≤ m ∧ RMP wy w.heap.size p g c1 i M ∧ (homes M).take k = l.take k ∧ Below w.heap.size w wy) (fun v11 v12 _ => m - (RowKit.intOf v11).toNat)
        case atStart => exact ⟨0, rfl, by omega, MQ.out, rfl, BR.out⟩
        case round =>
          obtain ⟨k, rfl, hk, hP, htk, hbr⟩ := hrel
          clear MQ BR
          have MQ := Lib.hid hP
          have BR := Lib.hid hbr
          have HTK := Lib.hid htk
          by_cases hkm : k < m
          · obtain ⟨y, hy⟩ : ∃ y, l[k]? = some y := ⟨_, List.getElem?_eq_getElem (by rw [HL.out]; exact hkm)⟩
            obtain ⟨b2, o2, hA2, hl2, hc2⟩ := rd_str (H.out.below hbr) hy
            subst hA2
            have TX := Lib.hid (take_next (HHI.out k hkm))
            have TY := Lib.hid (take_next hy)
            obtain ⟨x, hx⟩ : ∃ x, x = home (has M) k := ⟨_, rfl⟩
            rw [← hx] at TX
            have HHC : Hid (Calls Tryd.prog 52 #[.pointer (some ⟨p, 0, none⟩), .int .i64 (k : Int)] wr fun e w' => e = .returned (.string ⟨x.toArray⟩) ∧ Below wr.heap.size wr w') := Lib.hid (by
              rw [hx]
              exact rhome_c (S := fun b => b = p ∨ b = g) ⟨g, c1, hP, fun _ => Iff.rfl⟩ (by omega))
            obtain ⟨X, hX⟩ : ∃ X : ByteArray, X = ⟨x.toArray⟩ := ⟨_, rfl⟩
            obtain ⟨Z, hZ⟩ : ∃ Z : ByteArray, Z = ⟨y.toArray⟩ := ⟨_, rfl⟩
            rw [← hX] at HHC
            rw [← hZ] at hc2
            have HXY : Hid (X = Z ↔ x = y) := Lib.hid (by rw [hX, hZ]; exact str_eq)
            have HNE : Hid (¬ x = y → (X.toList == Z.toList) = false) := Lib.hid (fun h => by rw [hX, hZ, str_toL, str_toL]; simpa using h)
            have HNX : Hid (¬ x = y → ¬ homes M = l) := Lib.hid (fun h e => h (by
              have h3 := TX.out
              rw [e, TY.out] at h3
              have := List.append_cancel_left h3
              simp at this
              exact this.symm))
            clear hX hZ hx hy hP hbr htk
            by_cases hxy : X = Z
            · have HX2 := Lib.hid (HXY.out.1 hxy)
              clear HXY
              subst hxy
              go_wp2_with fail
              go_at_call 52
              refine HHC.out.mono ?_
              rintro e w5 ⟨rfl, hb5⟩
              have MQ5 := Lib.hid (MQ.out.fr (Fr.below (fun _ => False) hb5) (fun _ _ q => q))
              have B5 := Lib.hid (BR.out.trans (hb5.mono BR.out.size))
              have hc5 := (hb5.cell (p := ⟨b2, o2 + k, none⟩) hl2).trans hc2
              clear hb5
              go_wp2_with fail
              go_roundw
              case rel => exact ⟨k + 1, by go_num, by omega, MQ5.out, by rw [TX.out, TY.out, HTK.out, HX2.out], B5.out⟩
              case measure => simp [RowKit.intOf]; omega
            · have hne := HNE.out (fun e => hxy (HXY.out.2 e))
              have HN := Lib.hid (HON.out (HNX.out (fun e => hxy (HXY.out.2 e))))
              clear HXY
              go_wp2_with fail
              go_at_call 52
              refine HHC.out.mono ?_
              rintro e w5 ⟨rfl, hb5⟩
              have B5 := Lib.hid (BR.out.trans (hb5.mono BR.out.size))
              have hc5 := (hb5.cell (p := ⟨b2, o2 + k, none⟩) hl2).trans hc2
              clear hb5
              go_wp2_with fail
              refine bodyPost_ret (v := .tuple #[.pointer none, .int .i64 4]) (by simp [results, Tryd.results33, go_sem]) rfl ?_
              exact .inr ⟨HN.out, rfl, B5.out⟩
          · obtain rfl : k = m := by omega
            have HE := Lib.hid (HOF.out (by
              have e := HTK.out
              rwa [List.take_of_length_le (by rw [HHL.out]; omega), List.take_of_length_le (by rw [HL.out]; omega)] at e))
            clear hP hbr htk
            go_wp2_with fail
            refine bodyPost_ret (v := .tuple #[.pointer (some ⟨p, 0, none⟩), .int .i64 0]) (by simp [results, Tryd.results33, go_sem]) rfl ?_
            exact .inl ⟨M, p, HE.out, rfl, fun b => b = p ∨ b = g, ⟨g, c1, MQ.out, fun _ => Iff.rfl⟩, BR.out⟩
  · have HN : Hid (ofM n l = none) := Lib.hid (ofM_lens (by
      unfold lensH
      rw [HL.out, ← HK.out]
      simp [hmK]))
    have hne : ((m : Int) != (K : Int)) = true := by simp; omega
    go_wp2_with fail
    go_at_call 14
    refine (HSZ.out _).mono ?_
    rintro e w2 ⟨rfl, hw⟩
    obtain rfl := hw.symm
    go_wp2_with fail
    refine bodyPost_ret (v := .tuple #[.pointer none, .int .i64 4]) (by simp [results, Tryd.results33, go_sem]) rfl ?_
    exact .inr ⟨HN.out, rfl, B1.out⟩
end FreW
end Go.Proofs.YtbnkaeigabifhaaDoor
