/-
  The reference's homes.
-/
import Derived.Test.YtbnkaeigabifhaaDoorFreeRef2
import Derived.Test.YtbnkaeigabifhaaDoorFreeOf
import Derived.Test.YtbnkaeigabifhaaDoorBytesRefs
-- mine: whole_c same_c awake_c take_c step_c back_c Made number_c next_c fixed_c clone_c int_c end_c put_c
namespace Go.Proofs.YtbnkaeigabifhaaDoor
open Go.RowKit
set_option linter.unusedVariables false
set_option linter.unusedSimpArgs false
set_option maxRecDepth 100000
namespace FreW
open BlkP RowG FrS PushG FreP
open BytesW (bv AtC fx fx_length)
open CrcP (nat)
theorem rfix_c {w : World} {n : Nat} {x : Int} (hn : n < 18446744073709551616) (hx : x = (n : Int)) : Calls Tryd.prog 62 #[.int .u64 x, .int .i64 4] w (BytesW.Gives w (fx n 4)) :=
  BytesW.r_fixed_c (k := 4) hn hx
theorem inL_has (L : List Bool) (j : Nat) : (inL L (j : Int) && has L (j : Int).toNat) = has L j := by
  rw [show ((j : Nat) : Int).toNat = j from rfl]
  cases h : has L j
  · simp
  · have := has_true h
    rw [inL_iff.2 ⟨by omega, by omega⟩]
    rfl
theorem rHas_n {w : World} {B p n : Nat} {L : List Bool} {S : Nat → Prop} (h : Rm w B p n L S) {j : Nat} {x : Int} (hx : x = (j : Int)) : Calls Tryd.prog 28 #[.pointer (some ⟨p, 0, none⟩), .int .i64 x] w fun e w' => e = .returned (.bool (has L j)) ∧ w' = w := by
  subst hx
  have := rHas_i h (j : Int)
  rwa [inL_has] at this
theorem wrap_pow8 (i : Nat) : IntKind.u8.wrap ((2 : Int) ^ (i % 8)) = ((2 ^ (i % 8) : Nat) : Int) := by
  have h : 2 ^ (i % 8) < 256 := Nat.pow_lt_pow_right (m := i % 8) (n := 8) (by decide) (Nat.mod_lt _ (by decide))
  have e : (2 : Int) ^ (i % 8) = ((2 ^ (i % 8) : Nat) : Int) := by simp
  rw [IntKind.wrap_u8, e]
  generalize 2 ^ (i % 8) = P at h ⊢
  omega
theorem oct_sum {f : Nat → Bool} {k i : Nat} (hf : f (4000 * k + i) = true) : (octN f k i (i / 8)).toNat + 2 ^ (i % 8) = (octN f k (i + 1) (i / 8)).toNat := by
  rw [octN_step, hf]
  simp
theorem at_zeros {w0 : World} : AtC (w0.alloc (.cells #[.int .u8 0, .int .u8 0, .int .u8 0, .int .u8 0] T8)) (some ⟨w0.heap.size, 0, none⟩) [0, 0, 0, 0] := BytesW.At.c (fun _ => ⟨w0.heap.size, 0, _, (0, 0), rfl, heap_alloc_new w0 _, fun i x hx => by
  match i, hx with
  | 0, hx | 1, hx | 2, hx | 3, hx =>
    have : x = 0 := by simpa using hx.symm
    subst this
    rfl⟩)
section
variable {w : World} {B p n : Nat} {L : List Bool} {S : Nat → Prop}
set_option maxHeartbeats 4000000 in
theorem rhome_c (h : Rm w B p n L S) {k : Nat} (hk : k ≤ 40) : Calls Tryd.prog 52 #[.pointer (some ⟨p, 0, none⟩), .int .i64 (k : Int)] w fun e w' => e = .returned (.string ⟨(home (has L) k).toArray⟩) ∧ Below w.heap.size w w' := by
  have HM := Lib.hid h
  obtain ⟨i8, hi8, hz8, hs8, hby8⟩ := info_parts BytesW.info5
  have HI8 := Lib.hid hi8
  have HZ8 := Lib.hid hz8
  have HS8 := Lib.hid hs8
  have HB8 := Lib.hid hby8
  have hm : maxLen = 9223372036854775807 := rfl
  clear h hi8 hz8 hs8 hby8
  go_enter Tryd.func52, Tryd.ntmps52
  go_wp2_with ((with_reducible refine at_slot 8 ?_); refine wpList_make_full _ rfl _ _ T8s rfl w.heap.size T8 i8 (.int .u8 0) 1 BytesW.under26 HI8.out HZ8.out HS8.out .i64 .i64 _ _ 500 rfl rfl rfl rfl (by rw [HB8.out]; omega) (by omega) (Nat.le_refl _) ?_; intro w1 hown1 hg1; have OR1 := Lib.hid (own_zeros hown1); have B1 := Lib.hid (show Below w.heap.size w w1 from (Below.refl _ w).grown hg1 (Nat.le_refl _) (by simp)); have hs1 := B1.out.size; clear hown1 hg1)
  go_loopw [6] (fun v6 wr => ∃ i : Nat, v6 = .int .i64 (i : Int) ∧ i ≤ 4000 ∧ BytesW.Own wr w.heap.size (.slice (some ⟨w.heap.size, 0, none⟩) 500 500) (octsN (has L) k i) ∧ Below w.heap.size w wr) (fun v6 _ => 4000 - (RowKit.intOf v6).toNat)
  case atStart => exact ⟨0, rfl, by omega, by rw [octsN_zero]; exact OR1.out, B1.out⟩
  case round =>
    obtain ⟨i, rfl, hi, hr, hbr⟩ := hrel
    have OR := Lib.hid hr
    have BR := Lib.hid hbr
    by_cases hlt : i < 4000
    · have MP := Lib.hid (HM.out.below hbr)
      have hxi : (4000 : Int) * (k : Int) + (i : Int) = ((4000 * k + i : Nat) : Int) := by omega
      have HXI := Lib.hid hxi
      obtain ⟨d, hd⟩ : ∃ d, d = i / 8 := ⟨_, rfl⟩
      have hw : IntKind.i64.wrap ((i : Int) / 8) = (d : Int) := by rw [IntKind.wrap_i64]; omega
      have hd5 : d < 500 := by omega
      have hx := octsN_at (f := has L) (k := k) (i := i) (j := d) hd5
      obtain ⟨cb, hfz, hgl, _⟩ := own_at hr hx
      have HSM := Lib.hid (fun h => octsN_same (f := has L) (k := k) (i := i) hlt h)
      have HSU := Lib.hid (octsN_succ (f := has L) (k := k) (i := i) hlt)
      have HOS := Lib.hid (fun h => oct_sum (f := has L) (k := k) (i := i) h)
      rw [← hd] at HSU HOS
      obtain ⟨y, hy⟩ : ∃ y, y = octN (has L) k i d := ⟨_, rfl⟩
      obtain ⟨z, hz⟩ : ∃ z, z = octN (has L) k (i + 1) d := ⟨_, rfl⟩
      rw [← hy] at cb HOS
      rw [← hz] at HOS HSU
      obtain ⟨P, hP⟩ : ∃ P : Nat, P = 2 ^ (i % 8) := ⟨_, rfl⟩
      have HPW : Hid (IntKind.u8.wrap ((2 : Int) ^ (i % 8)) = (P : Int)) := Lib.hid (by rw [hP]; exact wrap_pow8 i)
      rw [← hP] at HOS
      unfold bv at cb
      have hy8 := y.toNat_lt
      have hz8 := z.toNat_lt
      clear hy hz hP hd hx hxi hr hbr
      cases hf : has L (4000 * k + i)
      · have HF := Lib.hid hf
        have HSM2 := Lib.hid (HSM.out hf)
        clear hf
        go_wp2_with fail
        go_at_call 28
        refine (rHas_n MP.out (j := 4000 * k + i) (by first | exact HXI.out | omega)).mono ?_
        rintro e w4 ⟨rfl, hw4⟩
        obtain rfl := hw4.symm
        rw [HF.out]
        go_wp2_with fail
        go_roundw
        case rel => exact ⟨i + 1, by go_num, by omega, by rw [HSM2.out]; exact OR.out, BR.out⟩
        case measure => simp [RowKit.intOf]; omega
      · have HF := Lib.hid hf
        have hsum := HOS.out hf
        obtain ⟨Y, hY⟩ : ∃ Y : Nat, Y = y.toNat := ⟨_, rfl⟩
        obtain ⟨Z, hZ⟩ : ∃ Z : Nat, Z = z.toNat := ⟨_, rfl⟩
        rw [← hY] at cb hsum hy8
        rw [← hZ] at hsum hz8
        have HZA : Hid (IntKind.u8.wrap ((Y : Int) + (P : Int)) = (Z : Int)) := Lib.hid (by rw [IntKind.wrap_u8]; omega)
        have HBZ : Hid (bv z = .int .u8 (Z : Int)) := Lib.hid (by unfold bv; rw [hZ])
        have HST := Lib.hid (CrcM.own_store OR.out d z)
        clear hf hY hZ hsum
        go_wp2_with fail
        go_at_call 28
        refine (rHas_n MP.out (j := 4000 * k + i) (by first | exact HXI.out | omega)).mono ?_
        rintro e w4 ⟨rfl, hw4⟩
        obtain rfl := hw4.symm
        rw [HF.out]
        go_wp2_with fail
        refine wp_region_noPanic ?_
        refine wp_region_held_drew (S := fun Xw => Fr (fun b => b = w.heap.size) wr Xw) (by kernel_rfl) ((Fr.refl _ wr).drew) (fun hHeld => ?_)
        refine wpAnyH_take (i := 0) (oi := ⟨some 19, _, _, _, _, _⟩) (v := .slice (some ⟨w.heap.size, 0, none⟩) 500 500) rfl (by kernel_rfl) (by kernel_rfl) (by kernel_rfl) (fun _ _ _ h => h) (Or.inl ⟨by rfl, fun Xw hSW => by go_simp⟩) hHeld ?_
        simp only [Act.put, List.setIfInBounds_toArray, List.set_cons_zero, List.set_cons_succ]
        refine wpAnyH_take (i := 1) (oi := ⟨some 20, _, _, _, _, _⟩) (v := .int .i64 (i : Int)) rfl (by kernel_rfl) (by kernel_rfl) (by kernel_rfl) (fun _ _ _ h => h) (Or.inl ⟨by rfl, fun Xw hSW => by go_simp⟩) hHeld ?_
        simp only [Act.put, List.setIfInBounds_toArray, List.set_cons_zero, List.set_cons_succ]
        refine wpAnyH_take (i := 2) (oi := ⟨some 21, _, _, _, _, _⟩) (v := .int .i64 (d : Int)) rfl (by kernel_rfl) (by kernel_rfl) (by kernel_rfl) (fun _ _ _ h => h) (Or.inl ⟨by rfl, fun Xw hSW => by go_simp⟩) hHeld ?_
        simp only [Act.put, List.setIfInBounds_toArray, List.set_cons_zero, List.set_cons_succ]
        refine wpAnyH_take (i := 3) (oi := ⟨some 22, _, _, _, _, _⟩) (v := .slice (some ⟨w.heap.size, 0, none⟩) 500 500) rfl (by kernel_rfl) (by kernel_rfl) (by kernel_rfl) (fun _ _ _ h => h) (Or.inl ⟨by rfl, fun Xw hSW => by go_simp⟩) hHeld ?_
        simp only [Act.put, List.setIfInBounds_toArray, List.set_cons_zero, List.set_cons_succ]
        refine wpAnyH_take (i := 4) (oi := ⟨some 23, _, _, _, _, _⟩) (v := .int .i64 (i : Int)) rfl (by kernel_rfl) (by kernel_rfl) (by kernel_rfl) (fun _ _ _ h => h) (Or.inl ⟨by rfl, fun Xw hSW => by go_simp⟩) hHeld ?_
        simp only [Act.put, List.setIfInBounds_toArray, List.set_cons_zero, List.set_cons_succ]
        refine wpAnyH_take (i := 5) (oi := ⟨some 24, _, _, _, _, _⟩) (v := .int .i64 (d : Int)) rfl (by kernel_rfl) (by kernel_rfl) (by kernel_rfl) (fun _ _ _ h => h) (Or.inl ⟨by rfl, fun Xw hSW => by go_simp⟩) hHeld ?_
        simp only [Act.put, List.setIfInBounds_toArray, List.set_cons_zero, List.set_cons_succ]
        refine wpAnyH_take (i := 6) (oi := ⟨some 25, _, _, _, _, _⟩) (v := .pointer (some ⟨w.heap.size, d, none⟩)) rfl (by kernel_rfl) (by kernel_rfl) (by kernel_rfl) (fun _ _ _ h => h) (Or.inl ⟨by rfl, fun Xw hSW => by go_simp <;> (intros; omega)⟩) hHeld ?_
        simp only [Act.put, List.setIfInBounds_toArray, List.set_cons_zero, List.set_cons_succ]
        refine wpAnyH_take (i := 8) (oi := ⟨some 27, _, _, _, _, _⟩) (v := .int .i64 (i : Int)) rfl (by kernel_rfl) (by kernel_rfl) (by kernel_rfl) (fun _ _ _ h => h) (Or.inl ⟨by rfl, fun Xw hSW => by go_simp⟩) hHeld ?_
        simp only [Act.put, List.setIfInBounds_toArray, List.set_cons_zero, List.set_cons_succ]
        refine wpAnyH_take (i := 9) (oi := ⟨some 28, _, _, _, _, _⟩) (v := .int .i64 ((i : Int) % 8)) rfl (by kernel_rfl) (by kernel_rfl) (by kernel_rfl) (fun _ _ _ h => h) (Or.inl ⟨by rfl, fun Xw hSW => by go_simp <;> first | rfl | exact Int.tmod_eq_emod_of_nonneg (by omega)⟩) hHeld ?_
        simp only [Act.put, List.setIfInBounds_toArray, List.set_cons_zero, List.set_cons_succ]
        refine wpAnyH_take (i := 10) (oi := ⟨some 29, _, _, _, _, _⟩) (v := .int .u8 (P : Int)) rfl (by kernel_rfl) (by kernel_rfl) (by kernel_rfl) (fun _ _ _ h => h) (Or.inl ⟨by rfl, fun Xw hSW => by go_simp <;> first | exact HPW.out | (rw [HPW.out]; done) | (simp only [HPW.out]; done)⟩) hHeld ?_
        simp only [Act.put, List.setIfInBounds_toArray, List.set_cons_zero, List.set_cons_succ]
        refine wpAnyH_ready (rs := [7]) (by kernel_rfl) (by simp) ?_
        refine AllReadyH.cons (o := ⟨some 26, _, _, _, _, _⟩) rfl (fun K hK => ?_) AllReadyH.nil
        go_simp
        refine hK.out _ _ (hHeld) (fun hHeld => ?_)
        clear hK K
        refine wpAnyH_take (i := 11) (oi := ⟨some 30, _, _, _, _, _⟩) (v := .int .u8 (Z : Int)) rfl (by kernel_rfl) (by kernel_rfl) (by kernel_rfl) (fun _ _ _ h => h) (Or.inl ⟨by rfl, fun Xw hSW => by go_simp <;> first | exact HZA.out | (rw [HZA.out]; done) | (have := HZA.out; omega)⟩) hHeld ?_
        simp only [Act.put, List.setIfInBounds_toArray, List.set_cons_zero, List.set_cons_succ]
        refine wpAnyH_take (i := 12) (oi := ⟨some 31, _, _, _, _, _⟩) (v := .pointer (some ⟨w.heap.size, d, none⟩)) rfl (by kernel_rfl) (by kernel_rfl) (by kernel_rfl) (fun _ _ _ h => h) (Or.inl ⟨by rfl, fun Xw hSW => by go_simp <;> (intros; omega)⟩) hHeld ?_
        simp only [Act.put, List.setIfInBounds_toArray, List.set_cons_zero, List.set_cons_succ]
        refine wpAnyH_ready (rs := [13]) (by kernel_rfl) (by simp) ?_
        refine AllReadyH.cons (o := ⟨none, _, _, _, _, _⟩) rfl (fun K hK => ?_) AllReadyH.nil
        go_simp
        refine hK.out _ _ (hHeld.trans (Fr.set _ _ _ _ rfl) (fun _ q => .inl q.symm)) (fun hHeld => ?_)
        clear hK K
        refine wpAnyH_done (by kernel_rfl) ?_ _
        refine NoPanic.normal ?_
        go_wp2_with fail
        go_roundw
        case rel =>
          have hg2 := HST.out.2
          have ho2 := HST.out.1
          rw [HBZ.out] at hg2 ho2
          refine ⟨i + 1, by go_num, by omega, ?_, ?_⟩
          · rw [HSU.out]
            exact ho2
          · exact BR.out.trans (hHeld.toBelow BR.out.size (fun b hb => by rw [hb]; exact Nat.le_refl _))
        case measure => simp [RowKit.intOf]; omega
    · obtain rfl : i = 4000 := by omega
      have OA : Hid (BytesW.Own wr w.heap.size (.slice (some ⟨w.heap.size, 0, none⟩) 500 500) (octs (has L) k 500)) := Lib.hid (by rw [← octsN_all]; exact hr)
      have HBD := Lib.hid (show octs (has L) k 500 ++ fx k 4 = body (has L) k from rfl)
      have HBL := Lib.hid (body_len (has L) k)
      have hs32 : sumB (has L) k < 4294967296 := sum_lt _
      have HSB := Lib.hid (show nat (CrcP.sum (body (has L) k)) = ((sumB (has L) k : Nat) : Int) from rfl)
      obtain ⟨sb, hsb⟩ : ∃ sb, sb = sumB (has L) k := ⟨_, rfl⟩
      have HHM : Hid ((body (has L) k ++ fx sb 4) ++ [0, 0, 0, 0] = home (has L) k) := Lib.hid (by rw [hsb]; rfl)
      have HHL := Lib.hid (home_len (has L) k)
      rw [← hsb] at hs32 HSB
      clear hr hbr hsb OR
      go_wp2_with fail
      go_at_call 62
      refine (rfix_c (n := k) (by omega) rfl).mono ?_
      rintro e w4 ⟨v4, rfl, ho4, hb4⟩
      obtain ⟨A4, c4, rfl, hc4, _, hA4, _⟩ := CrcM.own_form ho4 (n := 4) (fx_length _ _)
      have A4H := Lib.hid hA4
      have O4 := Lib.hid (OA.out.below hb4)
      have B4 := Lib.hid (BR.out.trans (hb4.mono BR.out.size))
      clear ho4 hb4 hA4
      go_wp2_with ((with_reducible refine at_slot 36 ?_); refine Classical.byContradiction (fun hG => ?_))
      refine hG ?_
      clear hG
      refine CrcM.wp_appG rfl (.tmp 32) (.tmp 35) rfl (l2 := fx k 4) rfl O4.out rfl A4H.out (by rw [octs_len, fx_length]; omega) B4.out.size ?_
      intro v5 w5 ho5 hb5
      rw [HBD.out] at ho5
      obtain ⟨A5, c5, rfl, hc5, hm5, hA5, _⟩ := CrcM.own_form ho5 (n := 504) HBL.out
      have O5 := Lib.hid ho5
      have B5 := Lib.hid (B4.out.trans hb5)
      have A5H := Lib.hid hA5
      clear ho5 hb5 hA5
      go_wp2_with fail
      go_at_call 63
      refine (CrcW.rSum_c HBL.out ⟨hc5, hm5⟩ A5H.out).mono ?_
      rintro e w6 ⟨rfl, hw⟩
      obtain rfl := hw.symm
      rw [HSB.out]
      go_wp2_with fail
      go_at_call 62
      refine (rfix_c (n := sb) (by omega) (by first | rfl | omega)).mono ?_
      rintro e w7 ⟨v7, rfl, ho7, hb7⟩
      obtain ⟨A7, c7, rfl, hc7, _, hA7, _⟩ := CrcM.own_form ho7 (n := 4) (fx_length _ _)
      have A7H := Lib.hid hA7
      have O7 := Lib.hid (O5.out.below hb7)
      have B7 := Lib.hid (B5.out.trans (hb7.mono B5.out.size))
      clear ho7 hb7 hA7
      go_wp2_with ((with_reducible refine at_slot 43 ?_); refine Classical.byContradiction (fun hG => ?_))
      refine hG ?_
      clear hG
      refine CrcM.wp_appG rfl (.tmp 39) (.tmp 42) rfl (l2 := fx sb 4) rfl O7.out rfl A7H.out (by rw [HBL.out, fx_length]; omega) B7.out.size ?_
      intro v8 w8 ho8 hb8
      obtain ⟨A8, c8, rfl, hc8, hm8, hA8, _⟩ := CrcM.own_form ho8 (n := 508) (by rw [List.length_append, HBL.out, fx_length])
      have O8 := Lib.hid ho8
      have B8 := Lib.hid (B7.out.trans hb8)
      clear ho8 hb8 hA8
      go_wp2_with ((with_reducible refine at_slot 46 ?_); refine Classical.byContradiction (fun hG => ?_))
      refine hG ?_
      clear hG
      refine CrcM.wp_appG rfl (.tmp 44) (.tmp 45) rfl (l2 := [0, 0, 0, 0]) rfl (O8.out.alloc _) rfl at_zeros (by rw [List.length_append, HBL.out, fx_length]; simp) (by have := B8.out.size; simp; omega) ?_
      intro v9 w9 ho9 hb9
      rw [HHM.out] at ho9
      obtain ⟨A9, c9, rfl, hc9, hm9, hA9, _⟩ := CrcM.own_form ho9 (n := 512) HHL.out
      have B9 := Lib.hid ((B8.out.alloc B8.out.size _).trans hb9)
      have A9H := Lib.hid hA9
      clear ho9 hb9 hA9
      go_wp2_with ((with_reducible refine at_slot 48 ?_); refine Classical.byContradiction (fun hG => ?_))
      refine hG ?_
      clear hG
      refine BytesW.wp_strC rfl (.tmp 47) rfl (l := home (has L) k) (by rw [HHL.out]; rfl) A9H.out ?_
      go_wp2_with fail
      go_ret
      exact ⟨rfl, B9.out⟩
set_option maxHeartbeats 4000000 in
theorem rHomes_i (h : Rm w B p n L S) :
    Calls Tryd.prog 30 #[.pointer (some ⟨p, 0, none⟩)] w fun e w' => ∃ v, e = .returned v ∧ RowG.Own encS TS w' w.heap.size v (homes L) ∧ Below w.heap.size w w' := by
  have HM := Lib.hid h
  have HLN := Lib.hid h.len
  have lo := h.lo
  have hi := h.hi
  obtain ⟨g, c, hP, hS⟩ := h
  have HP := Lib.hid hP
  have hpl := hP.bp.lt
  obtain ⟨K, hK⟩ : ∃ K, K = hs n := ⟨_, rfl⟩
  have hK33 : K ≤ 33 := by rw [hK]; exact hs_le hi
  have HK : Hid (K = hs L.length) := Lib.hid (by rw [hK, HLN.out])
  have HSZ : Hid (∀ w, Calls Tryd.prog 14 #[.int .i64 (n : Int)] w fun e w' => e = .returned (.int .i64 (K : Int)) ∧ w' = w) := Lib.hid (fun w => by
    have := rSize_c (n : Int) w
    rw [size_i lo hi, ← hK] at this
    exact this)
  clear hP hS hK
  go_enter Tryd.func30, Tryd.ntmps30
  go_wp2_with fail
  go_loopw [3, 4, 5] (fun v3 v4 v5 wr => ∃ k : Nat, v4 = .int .i64 (k : Int) ∧ k ≤ K ∧ RowG.Own encS TS wr w.heap.size v3 ((homes L).take k) ∧ Below w.heap.size w wr) (fun v3 v4 v5 _ => K - (RowKit.intOf v4).toNat)
  case atStart => exact ⟨0, rfl, by omega, RowG.Own.nil _ _ _ _, Below.refl _ _⟩
  case round =>
    obtain ⟨k, rfl, hk, hv, hbr⟩ := hrel
    have OV := Lib.hid hv
    have BR := Lib.hid hbr
    have HVL := Lib.hid (show ((homes L).take k).length = k by
      rw [List.length_take, homes_len, ← HK.out]
      omega)
    obtain ⟨Av, cv, rfl, hcv1, hcv2, hfv⟩ := hv.form HVL.out
    have c0 := (HP.out.bp.below hbr).cell (i := 0) (v := .slice (some ⟨g, 0, none⟩) n c) rfl
    have MP := Lib.hid (HM.out.below hbr)
    clear hv hbr hfv
    by_cases hlt : k < K
    · go_wp2_with fail
      go_at_call 14
      refine (HSZ.out _).mono ?_
      rintro e w4 ⟨rfl, hw4⟩
      obtain rfl := hw4.symm
      go_wp2_with fail
      go_at_call 52
      refine (rhome_c MP.out (by omega)).mono ?_
      rintro e w5 ⟨rfl, hb5⟩
      have OV5 := Lib.hid (OV.out.below hb5)
      have B5 := Lib.hid (BR.out.trans (hb5.mono BR.out.size))
      clear hb5
      obtain ⟨X, hX⟩ : ∃ X : ByteArray, X = ⟨(home (has L) k).toArray⟩ := ⟨_, rfl⟩
      have HX := Lib.hid hX
      rw [← hX]
      clear hX
      go_wp2_with ((with_reducible refine at_slot 22 ?_); refine Classical.byContradiction (fun hG => ?_))
      refine hG ?_
      clear hG
      refine RowG.wp_push encS rfl (.tmp 19) (.tmp 21) rfl underSs infoS rfl (by decide) w5 #[.string X] rfl (home (has L) k) (by rw [HX.out]; rfl) rfl (B := w.heap.size) OV5.out rfl (by rw [HVL.out]; have : maxLen = 9223372036854775807 := rfl; omega) (by rw [HVL.out]; omega) B5.out.size ?_
      intro v9 w9 ho9 hg9 _
      have OV9 := Lib.hid ho9
      have B9 := Lib.hid (B5.out.trans (OV5.out.grownB hg9 B5.out.size))
      clear ho9 hg9
      go_wp2_with fail
      go_roundw
      case rel =>
        refine ⟨k + 1, by go_num, by omega, ?_, B9.out⟩
        rw [List.take_add_one, homes_at (by rw [← HK.out]; omega)]
        exact OV9.out
      case measure => simp [RowKit.intOf]; omega
    · obtain rfl : k = K := by omega
      have HE := Lib.hid (show (homes L).take k = homes L from List.take_of_length_le (by rw [homes_len, ← HK.out]; omega))
      go_wp2_with fail
      go_at_call 14
      refine (HSZ.out _).mono ?_
      rintro e w4 ⟨rfl, hw4⟩
      obtain rfl := hw4.symm
      go_wp2_with fail
      go_ret
      refine ⟨_, rfl, ?_, BR.out⟩
      rw [← HE.out]
      exact OV.out
end
end FreW
end Go.Proofs.YtbnkaeigabifhaaDoor
