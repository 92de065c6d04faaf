/-
  A map's homes: Homes.
-/
import Derived.Test.YtbnkaeigabifhaaDoorFreeHomes
-- mine: whole_c same_c awake_c take_c step_c back_c Made number_c next_c fixed_c clone_c int_c end_c put_c
namespace Go.Proofs.YtbnkaeigabifhaaDoor
open Go.RowKit
set_option linter.unusedVariables false
set_option linter.unusedSimpArgs false
set_option maxRecDepth 100000
namespace FreW
open BlkP RowG FrS PushG FreP
open BytesW (bv AtC fx fx_length)
open CrcP (nat)
open CrcW (Tab)
/-- The first k homes, one behind the other, and zeros. -/
def rowB (L : List Bool) (K k : Nat) : List UInt8 := ((homes L).take k).flatten ++ List.replicate (512 * (K - k)) 0
theorem flat_take {L : List Bool} {k : Nat} (h : k ≤ hs L.length) : ((homes L).take k).flatten.length = 512 * k := by
  induction k with
  | zero => simp
  | succ k ih =>
    rw [List.take_add_one, homes_at (by omega), List.flatten_append, List.length_append, ih (by omega)]
    simp [home_len]
    omega
theorem flat_succ {L : List Bool} {k : Nat} (h : k < hs L.length) : ((homes L).take (k + 1)).flatten = ((homes L).take k).flatten ++ home (has L) k := by
  rw [List.take_add_one, homes_at h, List.flatten_append]
  simp
theorem own_zeros {w1 : World} {B g m : Nat} (h : w1.ownsRow B T8 1 (.slice (some ⟨g, 0, none⟩) m m) m (madeCells (Value.int .u8 0).cells (m * 1)).toList) : BytesW.Own w1 B (.slice (some ⟨g, 0, none⟩) m m) (List.replicate m 0) := by
  unfold BytesW.Own
  have e : (List.replicate m (0 : UInt8)).map bv = (madeCells (Value.int .u8 0).cells (m * 1)).toList := by
    apply List.ext_getElem?
    intro i
    rcases Nat.lt_or_ge i m with hi | hi
    · simp [madeCells, Value.cells, hi, bv, Nat.mod_one]
    · rw [List.getElem?_eq_none (by simpa using hi), List.getElem?_eq_none (by simp [madeCells]; omega)]
  rw [List.length_replicate, e]
  exact h
theorem rows_ne {w : World} {B B' g n c : Nat} {R : List UInt8} {v : Value} {l : List (List UInt8)} (h : BytesW.Own w B (.slice (some ⟨g, 0, none⟩) n c) R) (hv : RowG.Own encS TS w B' v l) : v.ownBlock ≠ some g := fun q => by
  obtain ⟨us, hu⟩ := own_cells hv q
  unfold BytesW.Own at h
  rcases h.2 with ⟨h0, _⟩ | ⟨g', cap, cur, h0, _, hg, _⟩
  · cases h0
  · injection h0 with h0
    injection h0 with h0
    injection h0 with h0
    subst h0
    unfold Blk at hu
    rw [hg] at hu
    injection hu with hu
    injection hu with _ h2
    exact absurd h2 (by decide)
theorem own_grownB {w w' : World} {B : Nat} {v : Value} {l : List UInt8} (h : BytesW.Own w B v l) {r : Option Nat} (hg : w.grownBy w' r) (hne : v.ownBlock = none ∨ v.ownBlock ≠ r) : BytesW.Own w' B v l := by
  unfold BytesW.Own at h ⊢
  exact h.kept hg hne
theorem row_step {P : List UInt8} {f : Nat → Bool} {k j q : Nat} (hj : j < q) : (P ++ (octs f k j ++ List.replicate (q - j) 0)).set (P.length + j) (oct f (4000 * k + 8 * j)) = P ++ (octs f k (j + 1) ++ List.replicate (q - (j + 1)) 0) := by
  obtain ⟨d, hd⟩ : ∃ d, q - j = d + 1 := ⟨q - j - 1, by omega⟩
  rw [hd, show q - (j + 1) = d by omega, List.set_append_right _ _ (by omega), Nat.add_sub_cancel_left, List.set_append_right _ _ (by rw [octs_len]; exact Nat.le_refl _), octs_len, Nat.sub_self, List.replicate_succ, List.set_cons_zero, octs_succ, List.append_assoc, List.singleton_append]
theorem drop_zeros (a b : Nat) : (List.replicate a (0 : UInt8)).drop b = List.replicate (a - b) 0 := by simp
theorem row_home {P : List UInt8} {f : Nat → Bool} {k q : Nat} (hq : 512 ≤ q) : P ++ ((body f k ++ fx (sumB f k) 4) ++ List.replicate (q - 508) 0) = P ++ (home f k ++ List.replicate (q - 512) 0) := by
  have e : List.replicate (q - 508) (0 : UInt8) = [0, 0, 0, 0] ++ List.replicate (q - 512) 0 := by
    obtain ⟨d, hd⟩ : ∃ d, q = d + 512 := ⟨q - 512, by omega⟩
    subst hd
    rw [show d + 512 - 508 = 4 + d by omega, show d + 512 - 512 = d by omega, ← List.replicate_append_replicate]
    rfl
  rw [e]
  unfold home
  simp [List.append_assoc]
theorem nat_toNat (l : List UInt8) : nat (CrcP.sum l) = ((CrcP.sum l).toNat : Int) := rfl
section
variable {w : World} {B p n : Nat} {L : List Bool} {S : Nat → Prop}
set_option maxHeartbeats 16000000 in
theorem Homes_i (h : Mp w B p n L S) (hT : Tab w) :
    Calls Tryd.prog 29 #[.pointer (some ⟨p, 0, none⟩)] w fun e w' => ∃ v, e = .returned v ∧ RowG.Own encS TS w' w.heap.size v (homes L) ∧ Below w.heap.size w w' := by
  have HM := Lib.hid h
  have HT := Lib.hid hT
  have HLN := Lib.hid h.len
  have lo := h.lo
  have hi := h.hi
  obtain ⟨K, hK⟩ : ∃ K, K = hs n := ⟨_, rfl⟩
  have hK33 : K ≤ 33 := by rw [hK]; exact hs_le hi
  have hKp : 0 < K := by rw [hK]; exact hs_pos lo
  have HK : Hid (K = hs L.length) := Lib.hid (by rw [hK, h.len])
  have HSZ : Hid (∀ w, Calls Tryd.prog 13 #[.int .i64 (n : Int)] w fun e w' => e = .returned (.int .i64 (K : Int)) ∧ w' = w) := Lib.hid (fun w => by
    have := Size_c (n : Int) w
    rw [size_i lo hi, ← hK] at this
    exact this)
  obtain ⟨i8, hi8, hz8, hs8, hby8⟩ := info_parts BytesW.info5
  have HI8 := Lib.hid hi8
  have HZ8 := Lib.hid hz8
  have HS8 := Lib.hid hs8
  have HB8 := Lib.hid hby8
  obtain ⟨iS, hiS, hzS, hsS, hbyS⟩ := info_parts infoS
  have HIS := Lib.hid hiS
  have HZS := Lib.hid hzS
  have HSS := Lib.hid hsS
  have HBS := Lib.hid hbyS
  have hm : maxLen = 9223372036854775807 := rfl
  obtain ⟨N, hN⟩ : ∃ N, N = 512 * K := ⟨_, rfl⟩
  have hNc : (K : Int) * 512 = (N : Int) := by omega
  have HN := Lib.hid hN
  clear hN h hT hK hi8 hz8 hs8 hby8 hiS hzS hsS hbyS
  go_enter Tryd.func29, Tryd.ntmps29
  go_wp2_with fail
  go_at_call 24
  refine (Len_i HM.out).mono ?_
  rintro e w1 ⟨rfl, hw⟩
  obtain rfl := hw.symm
  go_wp2_with fail
  go_at_call 13
  refine (HSZ.out _).mono ?_
  rintro e w1 ⟨rfl, hw⟩
  obtain rfl := hw.symm
  go_wp2_with (first
    | ((with_reducible refine at_slot 16 ?_); refine wpList_make_full _ rfl _ _ T8s rfl w.heap.size T8 i8 (.int .u8 0) 1 BytesW.under26 HI8.out HZ8.out HS8.out .i64 .i64 _ _ N rfl rfl (by omega) (by omega) (by rw [HB8.out]; have := HN.out; omega) (by have := HN.out; omega) (Nat.le_refl _) ?_; intro w1 hown1 hg1; have OR1 := Lib.hid (own_zeros hown1); have B1 := Lib.hid (show Below w.heap.size w w1 from (Below.refl _ w).grown hg1 (Nat.le_refl _) (by simp)); have hs1 := B1.out.size; clear hown1 hg1)
    | ((with_reducible refine at_slot 18 ?_); refine wpList_make_own _ rfl _ _ TSs rfl w1.heap.size TS iS (.string ⟨#[]⟩) 1 underSs HIS.out HZS.out HSS.out .i64 .i64 _ K rfl rfl (by omega) (by rw [HBS.out]; omega) (by omega) (Nat.le_refl _) ?_; intro w2 hown2 hg2; have OS2 := Lib.hid (show RowG.Own encS TS w2 w1.heap.size (.slice (some ⟨w1.heap.size, 0, none⟩) 0 K) [] from hown2); have hb2 : Below w1.heap.size w1 w2 := (Below.refl _ w1).grown hg2 (Nat.le_refl _) (by simp); have OR2 := Lib.hid (OR1.out.below hb2); have B2 := Lib.hid (B1.out.trans (hb2.mono hs1)); clear hown2 hg2 hb2))
  go_loopw [5, 6, 7, 8, 9, 10, 20] (fun v5 v6 v7 v8 v9 v10 v20 wr => ∃ k : Nat, v20 = .int .i64 (k : Int) ∧ k ≤ K ∧ RowG.Own encS TS wr w.heap.size v5 ((homes L).take k) ∧ BytesW.Own wr w.heap.size (.slice (some ⟨w.heap.size, 0, none⟩) N N) (rowB L K k) ∧ Below w.heap.size w wr) (fun v5 v6 v7 v8 v9 v10 v20 _ => K - (RowKit.intOf v20).toNat)
  case atStart =>
    refine ⟨0, rfl, by omega, OS2.out.mono hs1, ?_, B2.out⟩
    have := OR2.out
    have e : rowB L K 0 = List.replicate N 0 := by
      unfold rowB
      rw [HN.out]
      simp
    rw [e]
    exact this
  case round =>
    obtain ⟨k, rfl, hk, hv, hr, hbr⟩ := hrel
    have OV := Lib.hid hv
    have OR := Lib.hid hr
    have BR := Lib.hid hbr
    have HVL := Lib.hid (show ((homes L).take k).length = k by
      rw [List.length_take, homes_len, ← HK.out]
      omega)
    obtain ⟨Av, cv, rfl, hcv1, hcv2, hfv⟩ := hv.form HVL.out
    clear hv hr hbr hfv
    by_cases hlt : k < K
    · have h500 : k * 512 + 500 - k * 512 = 500 := by omega
      have h512 : (k + 1) * 512 - k * 512 = 512 := by omega
      obtain ⟨P, hP⟩ : ∃ P, P = ((homes L).take k).flatten := ⟨_, rfl⟩
      have HPL := Lib.hid (show P.length = k * 512 by rw [hP, Nat.mul_comm k]; exact flat_take (by rw [← HK.out]; omega))
      obtain ⟨q, hq⟩ : ∃ q, q = 512 * (K - k) := ⟨_, rfl⟩
      have hq512 : 512 ≤ q := by omega
      have hFN : k * 512 + q = N := by have := HN.out; omega
      have HFN := Lib.hid hFN
      have HQ := Lib.hid hq
      have OR0 : Hid (BytesW.Own wr w.heap.size (.slice (some ⟨w.heap.size, 0, none⟩) N N) (P ++ (octs (has L) k 0 ++ List.replicate (q - 0) 0))) := Lib.hid (by
        have := OR.out
        unfold rowB at this
        rw [← hP, ← hq] at this
        exact this)
      have HP := Lib.hid hP
      clear OR hP hq hFN
      go_wp2_with fail
      simp only [h500, h512]
      go_loopw [10, 36] (fun v10 v36 wy => ∃ j : Nat, v36 = .int .i64 (j : Int) ∧ j ≤ 500 ∧ RowG.Own encS TS wy w.heap.size (.slice Av k cv) ((homes L).take k) ∧ BytesW.Own wy w.heap.size (.slice (some ⟨w.heap.size, 0, none⟩) N N) (P ++ (octs (has L) k j ++ List.replicate (q - j) 0)) ∧ Below w.heap.size w wy) (fun v10 v36 _ => 500 - (RowKit.intOf v36).toNat)
      case atStart => exact ⟨0, rfl, by omega, OV.out, OR0.out, BR.out⟩
      case round =>
        obtain ⟨j, rfl, hj, hv, hr, hbr⟩ := hrel
        clear OV OR0 BR
        have OV := Lib.hid hv
        have OR := Lib.hid hr
        have BR := Lib.hid hbr
        by_cases hj5 : j < 500
        · have h0 : (P ++ (octs (has L) k j ++ List.replicate (q - j) 0))[k * 512 + j]? = some 0 := by
            rw [List.getElem?_append_right (by rw [HPL.out]; omega), HPL.out, Nat.add_sub_cancel_left, List.getElem?_append_right (by rw [octs_len]; exact Nat.le_refl _), octs_len, Nat.sub_self, List.getElem?_replicate, if_pos (by omega)]
          obtain ⟨cw, hfz, hgl, _⟩ := own_at hr h0
          unfold bv at cw
          have HS := Lib.hid (row_step (P := P) (f := has L) (k := k) (j := j) (q := q) (by omega))
          obtain ⟨y, hy⟩ : ∃ y, y = oct (has L) (4000 * k + 8 * j) := ⟨_, rfl⟩
          rw [← hy] at HS
          have HY := Lib.hid (show ((wordN (has L) 8 (4000 * k + 8 * j) : Nat) : Int) = (y.toNat : Int) by rw [hy, oct_nat])
          have hy8 : (y.toNat : Int) < 256 := by have := y.toNat_lt; omega
          have hxi : (k : Int) * 4000 + (j : Int) * 8 = ((4000 * k + 8 * j : Nat) : Int) := by omega
          have HXI := Lib.hid hxi
          have MP := Lib.hid (HM.out.below hbr)
          clear hy hv hr hbr h0 hxi
          go_wp2_with fail
          go_at_call 49
          refine (octet_x MP.out (i := 4000 * k + 8 * j) (by first | exact HXI.out | omega) (by omega) (by omega)).mono ?_
          rintro e w4 ⟨rfl, hw⟩
          obtain rfl := hw.symm
          rw [HY.out]
          go_wp2_with fail
          go_roundw
          case rel =>
            obtain ⟨s1, s2⟩ := CrcM.own_store OR.out (k * 512 + j) y
            refine ⟨j + 1, by go_num, by omega, ?_, ?_, ?_⟩
            · exact OV.out.grown s2 (.inr (rows_ne OR.out OV.out))
            · rw [← HPL.out, HS.out, HPL.out] at s1
              exact s1
            · exact BR.out.trans ((Below.refl _ _).grown s2 BR.out.size (fun i hi => by injection hi with hi; omega))
          case measure => simp [RowKit.intOf]; omega
        · obtain rfl : j = 500 := by omega
          have HZ1 := Lib.hid (drop_zeros (q - 500) 4)
          have HZ2 := Lib.hid (drop_zeros (q - 504) 4)
          have HBD := Lib.hid (show octs (has L) k 500 ++ fx k 4 = body (has L) k from rfl)
          have HBL := Lib.hid (body_len (has L) k)
          have hs32 : sumB (has L) k < 4294967296 := sum_lt _
          have HSB := Lib.hid (show nat (CrcP.sum (body (has L) k)) = ((sumB (has L) k : Nat) : Int) from rfl)
          obtain ⟨sb, hsb⟩ : ∃ sb, sb = sumB (has L) k := ⟨_, rfl⟩
          have HRH := Lib.hid (row_home (P := P) (f := has L) (k := k) hq512)
          have HHL := Lib.hid (home_len (has L) k)
          have HHE : Hid ((home (has L) k).length = (k + 1) * 512 - k * 512) := Lib.hid (by rw [home_len, h512])
          rw [← hsb] at hs32 HSB HRH
          clear hv hr hbr hsb
          go_wp2_with fail
          go_at_call 50
          refine (putF_c (n := k) (by omega) rfl).mono ?_
          rintro e w4 ⟨v4, rfl, ho4, hb4⟩
          obtain ⟨A4, c4, rfl, hc4, _, hA4, _⟩ := CrcM.own_form ho4 (n := 4) (fx_length _ _)
          have A4H := Lib.hid hA4
          have OV4 := Lib.hid (OV.out.below hb4)
          have OR4 := Lib.hid (OR.out.below hb4)
          have B4 := Lib.hid (BR.out.trans (hb4.mono BR.out.size))
          clear ho4 hb4 hA4
          go_wp2_with ((with_reducible refine at_slot 54 ?_); refine Classical.byContradiction (fun hG => ?_))
          refine hG ?_
          clear hG
          refine wp_room (n := 500) (m := 4) (c := 512) rfl (.tmp 50) (.tmp 53) rfl HPL.out rfl rfl OR4.out (octs_len _ _ _) (fx_length k 4) (by simp; omega) (by omega) (by omega) A4H.out ?_
          intro w5 h5 hg5
          rw [HZ1.out, HBD.out] at h5
          have OR5 := Lib.hid h5
          have OV5 := Lib.hid (OV4.out.grown hg5 (.inr (rows_ne OR4.out OV4.out)))
          have B5 := Lib.hid (B4.out.trans ((Below.refl _ _).grown hg5 B4.out.size (fun i hi => by injection hi with hi; omega)))
          have T5 := Lib.hid (HT.out.below B5.out)
          have A5H := Lib.hid (show AtC w5 (some ⟨w.heap.size, k * 512, none⟩) (body (has L) k) by
            have := atC_sub h5
            rwa [HPL.out] at this)
          clear h5 hg5
          go_wp2_with fail
          go_at_call 51
          refine (CrcW.Sum_c T5.out HBL.out (by omega) A5H.out).mono ?_
          rintro e w6 ⟨rfl, hw⟩
          obtain rfl := hw.symm
          rw [HSB.out]
          go_wp2_with fail
          go_at_call 50
          refine (putF_c (n := sb) (by omega) (by first | rfl | omega)).mono ?_
          rintro e w7 ⟨v7, rfl, ho7, hb7⟩
          obtain ⟨A7, c7, rfl, hc7, _, hA7, _⟩ := CrcM.own_form ho7 (n := 4) (fx_length _ _)
          have A7H := Lib.hid hA7
          have OV7 := Lib.hid (OV5.out.below hb7)
          have OR7 := Lib.hid (OR5.out.below hb7)
          have B7 := Lib.hid (B5.out.trans (hb7.mono B5.out.size))
          clear ho7 hb7 hA7
          go_wp2_with ((with_reducible refine at_slot 60 ?_); refine Classical.byContradiction (fun hG => ?_))
          refine hG ?_
          clear hG
          refine wp_room (n := 504) (m := 4) (c := 512) rfl (.tmp 55) (.tmp 59) rfl HPL.out rfl rfl OR7.out HBL.out (fx_length sb 4) (by simp; omega) (by omega) (by omega) A7H.out ?_
          intro w8 h8 hg8
          rw [show q - 500 - 4 = q - 504 by omega, HZ2.out, show q - 504 - 4 = q - 508 by omega, HRH.out] at h8
          have OR8 := Lib.hid h8
          have OV8 := Lib.hid (OV7.out.grown hg8 (.inr (rows_ne OR7.out OV7.out)))
          have B8 := Lib.hid (B7.out.trans ((Below.refl _ _).grown hg8 B7.out.size (fun i hi => by injection hi with hi; omega)))
          have A8H := Lib.hid (show AtC w8 (some ⟨w.heap.size, k * 512, none⟩) (home (has L) k) by
            have := atC_sub h8
            rwa [HPL.out] at this)
          clear h8 hg8
          go_wp2_with ((with_reducible refine at_slot 66 ?_); refine Classical.byContradiction (fun hG => ?_))
          refine hG ?_
          clear hG
          refine BytesW.wp_strC rfl (.tmp 65) rfl (l := home (has L) k) (by rw [HHE.out]; rfl) A8H.out ?_
          go_wp2_with ((with_reducible refine at_slot 68 ?_); refine Classical.byContradiction (fun hG => ?_))
          refine hG ?_
          clear hG
          refine RowG.wp_push encS rfl (.tmp 61) (.tmp 67) rfl underSs infoS rfl (by decide) w8 #[.string ⟨(home (has L) k).toArray⟩] rfl (home (has L) k) rfl rfl (B := w.heap.size) OV8.out rfl (by rw [HVL.out]; have : maxLen = 9223372036854775807 := rfl; omega) (by rw [HVL.out]; omega) B8.out.size ?_
          intro v9 w9 ho9 hg9 _
          have OV9 := Lib.hid ho9
          have OR9 := Lib.hid (own_grownB OR8.out hg9 (.inr (fun e => rows_ne OR8.out OV8.out e.symm)))
          have B9 := Lib.hid (B8.out.trans (OV8.out.grownB hg9 B8.out.size))
          clear ho9 hg9
          go_wp2_with fail
          go_roundw
          case rel =>
            refine ⟨k + 1, by go_num, by omega, ?_, ?_, B9.out⟩
            · rw [List.take_add_one, homes_at (by rw [← HK.out]; omega)]
              exact OV9.out
            · unfold rowB
              rw [flat_succ (by rw [← HK.out]; omega), List.append_assoc, ← HP.out, show 512 * (K - (k + 1)) = q - 512 by have := HQ.out; omega]
              exact OR9.out
          case measure => simp [RowKit.intOf]; omega
    · obtain rfl : k = K := by omega
      have HE := Lib.hid (show (homes L).take k = homes L from List.take_of_length_le (by rw [homes_len, ← HK.out]; omega))
      go_wp2_with fail
      go_ret
      refine ⟨_, rfl, ?_, BR.out⟩
      rw [← HE.out]
      exact OV.out
end
end FreW
end Go.Proofs.YtbnkaeigabifhaaDoor
