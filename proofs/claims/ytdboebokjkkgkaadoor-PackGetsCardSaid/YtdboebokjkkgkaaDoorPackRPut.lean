/-
  The reference lays a chunk as bytes.
-/
import Derived.Test.YtdboebokjkkgkaaDoorPackTwo
namespace Go.Proofs.YtdboebokjkkgkaaDoor
open Go.RowKit
set_option linter.unusedVariables false
set_option linter.unusedSimpArgs false
namespace PackW
open BytesW RunsW
open Go.Lib (uvarint uvarint_small uvarint_big uvarint_length64 uvarint_pos)

theorem dj_level {wk wr : World} {B : Nat} {v u : Value} {l lu : List UInt8} (h : BytesW.Own wk B v l) (hu : BytesW.Own wr wk.heap.size u lu) : DJ v u := fun g hg hug => by
  have h1 := own_lt h hg
  rcases hu.2 with ⟨rfl, _⟩ | ⟨g', cap, cur, rfl, hb, _⟩
  · simp [Value.ownBlock] at hug
  · obtain rfl : g' = g := by simpa [Value.ownBlock] using hug
    omega
def RPRel (wk : World) (A D : List UInt8) (v7 v8 i : Value) (wr : World) : Prop := ∃ j : Nat, i = .int .i64 j ∧ j ≤ 4096 ∧ BytesW.Own wr wk.heap.size v7 (A.take j) ∧ BytesW.Own wr wk.heap.size v8 (D.take j) ∧ DJ v7 v8 ∧ Below wk.heap.size wk wr
theorem lnum_nat {y : Cell} (h : mayL y = true) : ((lnum y).toNat : Int) = 16 * (y.1.toNat : Int) + (y.2.toNat : Int) := by
  simp only [mayL, Bool.and_eq_true, decide_eq_true_eq] at h
  simp only [lnum, UInt8.toNat_add, UInt8.toNat_mul, UInt8.reduceToNat]
  omega

theorem below_m2 {w w1 w2 : World} {B : Nat} (h1 : Below B w w1) (hB : B ≤ w1.heap.size) (h2 : Below w1.heap.size w1 w2) : Below B w w2 := h1.trans (h2.mono hB)
def RTRel (w2 : World) (ts : List Tick) (fl : List UInt8) (v i : Value) (wr : World) : Prop := ∃ (j : Nat) (nx : Int) (l : List UInt8), i = .int .i64 j ∧ 0 ≤ nx ∧ nx ≤ 4096 ∧ j ≤ ts.length ∧ BytesW.Own wr w2.heap.size v l ∧ l ++ tkB nx (ts.drop j) = fl ∧ mayT nx (ts.drop j) = true ∧ (j = 0 ∧ nx = 0 ∨ ∃ t : Tick, ts[j - 1]? = some t ∧ nx = t.1 + 1 ∧ 1 ≤ j) ∧ Below w2.heap.size w2 wr

set_option maxRecDepth 100000 in
set_option maxHeartbeats 8000000 in
theorem rput_c {w : World} {p : Nat} {k : Ck} {R : List UInt8 × Int} (hk : ChkK w p k) (hR : putA k = R) :
    Calls Tryd.prog 13 #[.pointer (some ⟨p, 0, none⟩)] w (PutP w R) := by
  have HMAY : Hid (∀ r, can k = r → Calls Tryd.prog 28 #[.pointer (some ⟨p, 0, none⟩)] w fun e w' => e = .returned (.bool r) ∧ Below w.heap.size w w') := Lib.hid (fun r h => rmay_c hk h)
  obtain ⟨C, L, ts⟩ := k
  obtain ⟨TA, tc, hck, hta, htc, htm, htl⟩ := hk
  simp only at hck hta htc htl
  have HK := Lib.hid hck
  have HTA := Lib.hid hta
  have HCL := Lib.hid hck.2.1
  have HLL := Lib.hid hck.2.2
  have hplt := hck.lt
  have HTT := Lib.hid hck.t
  cases hcan : can ⟨C, L, ts⟩ with
  | false =>
    have HRE : Hid (R = ([], 2)) := Lib.hid (by rw [← hR, putA, hcan]; rfl)
    have HM := Lib.hid (HMAY.out false hcan)
    clear hcan hR hck hta
    go_enter Tryd.func13, Tryd.ntmps13
    go_wp2_with fail
    go_at_call 28
    refine (HM.out).mono ?_
    rintro e w1 ⟨rfl, hb1⟩
    go_wp2_with fail
    go_ret2
    rw [HRE.out]
    exact ⟨_, rfl, BytesW.Own.nil _ _, hb1⟩
  | true =>
    have HRE : Hid (R = (putC ⟨C, L, ts⟩, 0)) := Lib.hid (by rw [← hR, putA, hcan]; rfl)
    have HM := Lib.hid (HMAY.out true hcan)
    simp only [can, Bool.and_eq_true] at hcan
    obtain ⟨⟨hcm, hlm⟩, htk⟩ := hcan
    have HCM := Lib.hid hcm
    have HLM := Lib.hid hlm
    have HTK := Lib.hid htk
    clear hR hck hta hcm hlm htk
    go_enter Tryd.func13, Tryd.ntmps13
    go_wp2_with fail
    go_at_call 28
    refine (HM.out).mono ?_
    rintro e w1 ⟨rfl, hb1⟩
    have HB1 := Lib.hid hb1
    clear hb1
    go_wp2_with fail
    go_at_call 29
    refine (palette_c (HK.out.below HB1.out) HCM.out).mono ?_
    rintro e w2 ⟨vp, rfl, hop, hb2⟩
    obtain ⟨P, hP⟩ : ∃ P, P = pal [] C := ⟨_, rfl⟩
    rw [← hP] at hop
    have hP40 : P.length ≤ 40 := by rw [hP]; exact pal_le HCM.out
    have HPE := Lib.hid hP
    obtain ⟨PA, cp, rfl, hPA, hcp, hcpm⟩ := hop.pairs
    have HPA := Lib.hid hPA
    have HB2 := Lib.hid (below_m HB1.out hb2)
    obtain ⟨n, hn⟩ : ∃ n, n = P.length := ⟨_, rfl⟩
    rw [← hn] at hcp ⊢
    have hn40 : n ≤ 40 := by omega
    have HN := Lib.hid hn
    have hplt2 : p < w2.heap.size := Nat.lt_of_lt_of_le hplt HB2.out.size
    have hw8 : IntKind.u8.wrap (n : Int) = n := by rw [IntKind.wrap_u8]; omega
    have HST : Hid (PBRel w2 P (.slice (some ⟨w2.heap.size, 0, none⟩) 1 1) (.int .i64 0) (w2.alloc (.cells #[.int .u8 (n : Int)] 5))) := Lib.hid ⟨0, rfl, by omega, own_new (l := [P.length.toUInt8]) (by
      have e : (P.length.toUInt8).toNat = n := by rw [toU8 (by omega), hn]
      simp [bv, e]) (Nat.le_refl _) (by simp) 1 rfl, (Below.refl _ _).alloc (Nat.le_refl _) _⟩
    clear hP hop hPA hb2 hn hcpm
    go_wp2_with fail
    go_loopw [5, 6] (PBRel w2 P) (fun _ v _ => n - (intOf v).toNat)
    case atStart => exact HST.out
    case round =>
      obtain ⟨j, rfl, hj, hown, hbw⟩ := hrel
      have HO := Lib.hid hown
      have HB3 := Lib.hid hbw
      have hz := hbw.size
      have hjn : j ≤ n := by have := HN.out; omega
      have hfl : (flat (P.take j)).length ≤ 600 := by rw [flat_len]; simp; omega
      have HFL := Lib.hid hfl
      clear hown hbw hj hfl
      by_cases hjl : j < n
      · have hjI : (j : Int) < n := by omega
        obtain ⟨x, hx⟩ : ∃ x, P[j]? = some x := ⟨_, List.getElem?_eq_getElem (by have := HN.out; omega)⟩
        obtain ⟨b, o, rfl, hbl, hcs⟩ := HPA.out.cells (fun e => by rw [e] at hx; simp at hx)
        obtain ⟨p0, p1⟩ := hcs _ _ hx
        obtain ⟨U, hU⟩ : ∃ U : Int, U = (x.1.toNat : Int) := ⟨_, rfl⟩
        obtain ⟨V, hV⟩ : ∃ V : Int, V = (x.2.toNat : Int) := ⟨_, rfl⟩
        simp only [cv, bv, ← hU, ← hV] at p0 p1
        have HU := Lib.hid hU
        have HV := Lib.hid hV
        have HT : Hid (P.length.toUInt8 :: flat (P.take (j + 1)) = (P.length.toUInt8 :: flat (P.take j)) ++ [x.1, x.2]) := Lib.hid (by
          rw [List.take_add_one, hx, flat_app]
          rfl)
        clear hcs hx hU hV
        obtain ⟨oA, oc, rfl, hoA, hoc, hom⟩ := HO.out.sl
        obtain ⟨ol, hol⟩ : ∃ ol, ol = (P.length.toUInt8 :: flat (P.take j)).length := ⟨_, rfl⟩
        have HOD := Lib.hid ((HO.out.below ((Below.refl _ wr).drew)).alloc (.cells #[.int .u8 U, .int .u8 V] 5))
        rw [← hol] at HOD ⊢
        clear hol hoA
        go_wp2_with fail
        refine wp_region_noPanic ?_
        refine wp_region_held_drew (S := fun W => Below w2.heap.size w2 W) (by kernel_rfl) HB3.out.drew (fun hHeld => ?_)
        refine wpAnyH_take (i := 0) (oi := ⟨some 30, _, _, _, _, _⟩) (v := .slice oA ol oc) rfl (by kernel_rfl) (by kernel_rfl) (by kernel_rfl) (fun _ _ _ h => h) (Or.inl ⟨by rfl, fun W hSW => by go_simp⟩) hHeld ?_
        simp only [Act.put, List.setIfInBounds_toArray, List.set_cons_zero, List.set_cons_succ]
        refine wpAnyH_take (i := 1) (oi := ⟨some 31, _, _, _, _, _⟩) (v := .slice (some ⟨b, o, none⟩) n cp) rfl (by kernel_rfl) (by kernel_rfl) (by kernel_rfl) (fun _ _ _ h => h) (Or.inl ⟨by rfl, fun W hSW => by go_simp⟩) hHeld ?_
        simp only [Act.put, List.setIfInBounds_toArray, List.set_cons_zero, List.set_cons_succ]
        refine wpAnyH_take (i := 2) (oi := ⟨some 32, _, _, _, _, _⟩) (v := .int .i64 (j : Int)) rfl (by kernel_rfl) (by kernel_rfl) (by kernel_rfl) (fun _ _ _ h => h) (Or.inl ⟨by rfl, fun W hSW => by go_simp⟩) hHeld ?_
        simp only [Act.put, List.setIfInBounds_toArray, List.set_cons_zero, List.set_cons_succ]
        refine wpAnyH_take (i := 3) (oi := ⟨some 33, _, _, _, _, _⟩) (v := .pointer (some ⟨b, o + j * 2, none⟩)) rfl (by kernel_rfl) (by kernel_rfl) (by kernel_rfl) (fun _ _ _ h => h) (Or.inl ⟨by rfl, fun W hSW => by go_simp⟩) hHeld ?_
        simp only [Act.put, List.setIfInBounds_toArray, List.set_cons_zero, List.set_cons_succ]
        refine wpAnyH_take (i := 4) (oi := ⟨some 34, _, _, _, _, _⟩) (v := .pointer (some ⟨b, o + j * 2, none⟩)) rfl (by kernel_rfl) (by kernel_rfl) (by kernel_rfl) (fun _ _ _ h => h) (Or.inl ⟨by rfl, fun W hSW => by go_simp⟩) hHeld ?_
        simp only [Act.put, List.setIfInBounds_toArray, List.set_cons_zero, List.set_cons_succ]
        refine wpAnyH_take (i := 5) (oi := ⟨some 35, _, _, _, _, _⟩) (v := .int .u8 U) rfl (by kernel_rfl) (by kernel_rfl) (by kernel_rfl) (fun _ _ _ h => h) (Or.inl ⟨by rfl, fun W hSW => by have q := (hSW.cell (p := ⟨b, o + j * 2, none⟩) hbl).trans p0; go_simp⟩) hHeld ?_
        simp only [Act.put, List.setIfInBounds_toArray, List.set_cons_zero, List.set_cons_succ]
        refine wpAnyH_take (i := 6) (oi := ⟨some 36, _, _, _, _, _⟩) (v := .slice (some ⟨b, o, none⟩) n cp) rfl (by kernel_rfl) (by kernel_rfl) (by kernel_rfl) (fun _ _ _ h => h) (Or.inl ⟨by rfl, fun W hSW => by go_simp⟩) hHeld ?_
        simp only [Act.put, List.setIfInBounds_toArray, List.set_cons_zero, List.set_cons_succ]
        refine wpAnyH_take (i := 7) (oi := ⟨some 37, _, _, _, _, _⟩) (v := .int .i64 (j : Int)) rfl (by kernel_rfl) (by kernel_rfl) (by kernel_rfl) (fun _ _ _ h => h) (Or.inl ⟨by rfl, fun W hSW => by go_simp⟩) hHeld ?_
        simp only [Act.put, List.setIfInBounds_toArray, List.set_cons_zero, List.set_cons_succ]
        refine wpAnyH_take (i := 8) (oi := ⟨some 38, _, _, _, _, _⟩) (v := .pointer (some ⟨b, o + j * 2, none⟩)) rfl (by kernel_rfl) (by kernel_rfl) (by kernel_rfl) (fun _ _ _ h => h) (Or.inl ⟨by rfl, fun W hSW => by go_simp⟩) hHeld ?_
        simp only [Act.put, List.setIfInBounds_toArray, List.set_cons_zero, List.set_cons_succ]
        refine wpAnyH_take (i := 9) (oi := ⟨some 39, _, _, _, _, _⟩) (v := .pointer (some ⟨b, o + j * 2 + 1, none⟩)) rfl (by kernel_rfl) (by kernel_rfl) (by kernel_rfl) (fun _ _ _ h => h) (Or.inl ⟨by rfl, fun W hSW => by go_simp⟩) hHeld ?_
        simp only [Act.put, List.setIfInBounds_toArray, List.set_cons_zero, List.set_cons_succ]
        refine wpAnyH_take (i := 10) (oi := ⟨some 40, _, _, _, _, _⟩) (v := .int .u8 V) rfl (by kernel_rfl) (by kernel_rfl) (by kernel_rfl) (fun _ _ _ h => h) (Or.inl ⟨by rfl, fun W hSW => by have q := (hSW.cell (p := ⟨b, o + j * 2 + 1, none⟩) hbl).trans p1; go_simp⟩) hHeld ?_
        simp only [Act.put, List.setIfInBounds_toArray, List.set_cons_zero, List.set_cons_succ]
        refine wpAnyH_ready (rs := [11]) (by kernel_rfl) (by simp) ?_
        refine AllReadyH.cons (o := ⟨some 41, _, _, _, _, _⟩) rfl (fun K hK => ?_) AllReadyH.nil
        go_simp
        refine hK.out _ _ (HB3.out.drew.alloc (by simp; omega) _) (fun hHeld => ?_)
        clear hK K
        refine wpAnyH_ready (rs := [12]) (by kernel_rfl) (by simp) ?_
        refine AllReadyH.cons (o := ⟨some 42, _, _, _, _, _⟩) rfl (fun K hK => ?_) AllReadyH.nil
        refine step_app rfl (.tmp 30) (.tmp 41) rfl (B := w2.heap.size) (l2 := [x.1, x.2]) rfl HOD.out rfl (at_two HU.out HV.out (by simp)) (by have := HFL.out; simp; omega) (by simp; omega) ?_
        intro v5 w5 hown5 hg5
        have hb5 := below_of_grown HOD.out hg5 (by simp; omega)
        have HB5 := Lib.hid ((HB3.out.drew.alloc (by simp; omega) _).trans hb5)
        rw [← HT.out] at hown5
        have HO5 := Lib.hid hown5
        clear hown5 hg5 hb5
        refine hK.out _ _ HB5.out (fun hHeld => ?_)
        clear hK K
        refine wpAnyH_ready (rs := [13]) (by kernel_rfl) (by simp) ?_
        refine AllReadyH.cons (o := ⟨some 5, _, _, _, _, _⟩) rfl (fun K hK => ?_) AllReadyH.nil
        go_simp
        refine hK.out _ _ HB5.out (fun hHeld => ?_)
        clear hK K
        refine wpAnyH_done (by kernel_rfl) ?_ _
        refine NoPanic.normal ?_
        go_wp2_with fail
        go_roundw
        case rel => exact ⟨j + 1, by go_num, by have := HN.out; omega, HO5.out, HB5.out⟩
        case measure => simp [intOf]; omega
      · have hjI : ¬ (j : Int) < n := by omega
        have HO5 : Hid (BytesW.Own wr w2.heap.size _ (palB P)) := Lib.hid (by
          have h := HO.out
          rw [List.take_of_length_le (by have := HN.out; omega)] at h
          exact h)
        obtain ⟨wk, rfl⟩ : ∃ wk : World, wk = wr := ⟨_, rfl⟩
        have HKK := Lib.hid (HK.out.below (Below.trans HB2.out (Below.mono HB3.out HB2.out.size)))
        have HPK := Lib.hid (HPA.out.below HB3.out)
        have hpk : p < wk.heap.size := by omega
        go_wp2_with fail
        go_loopw [7, 8, 9] (RPRel wk (places C) (L.map lnum)) (fun _ _ v _ => 4096 - (intOf v).toNat)
        case atStart => exact ⟨0, rfl, by omega, BytesW.Own.nil _ _, BytesW.Own.nil _ _, DJ.nil, Below.refl _ _⟩
        case round =>
          obtain ⟨i, rfl, hi, ho7, ho8, hdj, hbw⟩ := hrel
          have HO7 := Lib.hid ho7
          have HO8 := Lib.hid ho8
          have HDJ := Lib.hid hdj
          have HB4 := Lib.hid hbw
          have hz4 := hbw.size
          clear ho7 ho8 hdj hbw
          by_cases hi4 : i < 4096
          · have hiI : (i : Int) < 4096 := by omega
            obtain ⟨x, hx⟩ : ∃ x, C[i]? = some x := ⟨_, List.getElem?_eq_getElem (by have := HCL.out; omega)⟩
            obtain ⟨y, hy⟩ : ∃ y, L[i]? = some y := ⟨_, List.getElem?_eq_getElem (by have := HLL.out; omega)⟩
            obtain ⟨X, hX⟩ : ∃ X : Int, X = (x.1.toNat : Int) := ⟨_, rfl⟩
            obtain ⟨Y, hY⟩ : ∃ Y : Int, Y = (x.2.toNat : Int) := ⟨_, rfl⟩
            obtain ⟨U, hU⟩ : ∃ U : Int, U = (y.1.toNat : Int) := ⟨_, rfl⟩
            obtain ⟨V, hV⟩ : ∃ V : Int, V = (y.2.toNat : Int) := ⟨_, rfl⟩
            have k2 := (HKK.out.cell (8192 + i * 2)).trans (ckV_l HCL.out hy).1
            have k3 := (HKK.out.cell (8192 + i * 2 + 1)).trans (ckV_l HCL.out hy).2
            have g0 := ((HKK.out.below HB4.out).cell (i * 2)).trans (ckV_c HCL.out hx).1
            have g1 := ((HKK.out.below HB4.out).cell (i * 2 + 1)).trans (ckV_c HCL.out hx).2
            have hly : mayL y = true := List.all_eq_true.1 HLM.out y (List.mem_of_getElem? hy)
            have HLN : Hid (16 * U + V = ((lnum y).toNat : Int)) := Lib.hid (by rw [lnum_nat hly, hU, hV])
            have hub : 0 ≤ U ∧ U ≤ 15 ∧ 0 ≤ V ∧ V ≤ 15 := by
              simp only [mayL, Bool.and_eq_true, decide_eq_true_eq] at hly
              omega
            obtain ⟨hu0, hu1, hv0, hv1⟩ := hub
            have hw1 : IntKind.u8.wrap (16 * U) = 16 * U := by rw [IntKind.wrap_u8]; omega
            have hw2 : IntKind.u8.wrap (16 * U + V) = 16 * U + V := by rw [IntKind.wrap_u8]; omega
            have hxp : x ∈ P := by rw [HPE.out]; exact (pal_mem C [] x).2 (.inr (List.mem_of_getElem? hx))
            obtain ⟨m, hm⟩ : ∃ m : Nat, m = P.idxOf x := ⟨_, rfl⟩
            have hm40 : m < 40 := by have := List.idxOf_lt_length_of_mem hxp; omega
            have HPL : Hid (plc P x = (m : Int)) := Lib.hid (by rw [plc, if_pos hxp, hm])
            have hwm : IntKind.u8.wrap (m : Int) = m := by rw [IntKind.wrap_u8]; omega
            have HMU : Hid ((m : Int) = (m.toUInt8.toNat : Int)) := Lib.hid (by rw [toU8 (by omega)])
            have HTA2 : Hid ((places C).take (i + 1) = (places C).take i ++ [m.toUInt8]) := Lib.hid (by
              rw [List.take_add_one, places, List.getElem?_map, hx, ← HPE.out, hm]
              rfl)
            have HTB : Hid ((L.map lnum).take (i + 1) = (L.map lnum).take i ++ [lnum y]) := Lib.hid (by
              rw [List.take_add_one, List.getElem?_map, hy]
              rfl)
            simp only [bv, ← hX, ← hY] at g0 g1
            simp only [bv, ← hU, ← hV] at k2 k3
            have HX := Lib.hid hX
            have HY := Lib.hid hY
            obtain ⟨A8, c8, rfl, _, _, _⟩ := HO8.out.sl
            obtain ⟨l8, hl8⟩ : ∃ l8, l8 = ((L.map lnum).take i).length := ⟨_, rfl⟩
            have HL7 : Hid (((places C).take i).length ≤ 4096) := Lib.hid (by rw [List.length_take]; omega)
            have HL8 : Hid (((L.map lnum).take i).length ≤ 4096) := Lib.hid (by rw [List.length_take]; omega)
            rw [← hl8] at HO8 HDJ ⊢
            clear hx hy hX hY hU hV hly hxp hm hl8
            go_wp2_with fail
            go_at_call 30
            have hcc : P.length = n := HN.out.symm
            have HPLC : Hid (Calls Tryd.prog 30 #[.slice PA n cp, .agg #[.int .u8 X, .int .u8 Y]] wr fun e w' => e = .returned (.int .i64 (m : Int)) ∧ Below wr.heap.size wr w') := Lib.hid (by
              have h := place_c (cp := cp) (HPK.out.below HB4.out) (by omega) HX.out HY.out HPL.out
              rw [hcc] at h
              exact h)
            clear hcc
            refine (HPLC.out).mono ?_
            rintro e w4 ⟨rfl, hb4⟩
            have HB5 := Lib.hid (below_m HB4.out hb4)
            have hz5 := HB5.out.size
            have HO7B := Lib.hid (HO7.out.below hb4)
            have HO8B := Lib.hid (HO8.out.below hb4)
            clear hb4 g0 g1
            go_wp2_with ((with_reducible refine at_slot 59 ?_); refine wp_app2 rfl (.tmp 55) (.tmp 58) rfl (l2 := [m.toUInt8]) rfl (HO7B.out.alloc _) (HO8B.out.alloc _) HDJ.out rfl (at_one HMU.out) (by simp) (by have := HL7.out; simp; omega) (by simp; omega) ?_; intro v7 w5 ho7 ho8 hdj hb5)
            rw [← HTA2.out] at ho7
            have HB6 := Lib.hid ((HB5.out.alloc hz5 (.cells #[.int .u8 (m : Int)] 5)).trans hb5)
            have hz6 := HB6.out.size
            have HO7D := Lib.hid ((ho7.below ((Below.refl _ w5).drew)).alloc (.cells #[.int .u8 (16 * U + V)] 5))
            have HO8D := Lib.hid ((ho8.below ((Below.refl _ w5).drew)).alloc (.cells #[.int .u8 (16 * U + V)] 5))
            have HDJ := Lib.hid hdj
            clear ho7 ho8 hdj hb5 hz5
            refine wp_region_noPanic ?_
            refine wp_region_held_drew (S := fun W => Below wk.heap.size wk W) (by kernel_rfl) HB6.out.drew (fun hHeld => ?_)
            refine wpAnyH_take (i := 0) (oi := ⟨some 60, _, _, _, _, _⟩) (v := .slice A8 l8 c8) rfl (by kernel_rfl) (by kernel_rfl) (by kernel_rfl) (fun _ _ _ h => h) (Or.inl ⟨by rfl, fun W hSW => by go_simp⟩) hHeld ?_
            simp only [Act.put, List.setIfInBounds_toArray, List.set_cons_zero, List.set_cons_succ]
            refine wpAnyH_take (i := 1) (oi := ⟨some 61, _, _, _, _, _⟩) (v := .pointer (some ⟨p, 0, none⟩)) rfl (by kernel_rfl) (by kernel_rfl) (by kernel_rfl) (fun _ _ _ h => h) (Or.inl ⟨by rfl, fun W hSW => by go_simp⟩) hHeld ?_
            simp only [Act.put, List.setIfInBounds_toArray, List.set_cons_zero, List.set_cons_succ]
            refine wpAnyH_take (i := 2) (oi := ⟨some 62, _, _, _, _, _⟩) (v := .int .i64 (i : Int)) rfl (by kernel_rfl) (by kernel_rfl) (by kernel_rfl) (fun _ _ _ h => h) (Or.inl ⟨by rfl, fun W hSW => by go_simp⟩) hHeld ?_
            simp only [Act.put, List.setIfInBounds_toArray, List.set_cons_zero, List.set_cons_succ]
            refine wpAnyH_take (i := 3) (oi := ⟨some 63, _, _, _, _, _⟩) (v := .pointer (some ⟨p, 0, none⟩)) rfl (by kernel_rfl) (by kernel_rfl) (by kernel_rfl) (fun _ _ _ h => h) (Or.inl ⟨by rfl, fun W hSW => by go_simp⟩) hHeld ?_
            simp only [Act.put, List.setIfInBounds_toArray, List.set_cons_zero, List.set_cons_succ]
            refine wpAnyH_take (i := 4) (oi := ⟨some 64, _, _, _, _, _⟩) (v := .pointer (some ⟨p, 8192, none⟩)) rfl (by kernel_rfl) (by kernel_rfl) (by kernel_rfl) (fun _ _ _ h => h) (Or.inl ⟨by rfl, fun W hSW => by go_simp⟩) hHeld ?_
            simp only [Act.put, List.setIfInBounds_toArray, List.set_cons_zero, List.set_cons_succ]
            refine wpAnyH_take (i := 5) (oi := ⟨some 65, _, _, _, _, _⟩) (v := .pointer (some ⟨p, 8192 + i * 2, none⟩)) rfl (by kernel_rfl) (by kernel_rfl) (by kernel_rfl) (fun _ _ _ h => h) (Or.inl ⟨by rfl, fun W hSW => by go_simp⟩) hHeld ?_
            simp only [Act.put, List.setIfInBounds_toArray, List.set_cons_zero, List.set_cons_succ]
            refine wpAnyH_take (i := 6) (oi := ⟨some 66, _, _, _, _, _⟩) (v := .pointer (some ⟨p, 8192 + i * 2, none⟩)) rfl (by kernel_rfl) (by kernel_rfl) (by kernel_rfl) (fun _ _ _ h => h) (Or.inl ⟨by rfl, fun W hSW => by go_simp⟩) hHeld ?_
            simp only [Act.put, List.setIfInBounds_toArray, List.set_cons_zero, List.set_cons_succ]
            refine wpAnyH_take (i := 7) (oi := ⟨some 67, _, _, _, _, _⟩) (v := .int .u8 U) rfl (by kernel_rfl) (by kernel_rfl) (by kernel_rfl) (fun _ _ _ h => h) (Or.inl ⟨by rfl, fun W hSW => by have q := (hSW.cell (p := ⟨p, 8192 + i * 2, none⟩) hpk).trans k2; go_simp⟩) hHeld ?_
            simp only [Act.put, List.setIfInBounds_toArray, List.set_cons_zero, List.set_cons_succ]
            refine wpAnyH_take (i := 8) (oi := ⟨some 68, _, _, _, _, _⟩) (v := .int .u8 (16 * U)) rfl (by kernel_rfl) (by kernel_rfl) (by kernel_rfl) (fun _ _ _ h => h) (Or.inl ⟨by rfl, fun W hSW => by go_simp⟩) hHeld ?_
            simp only [Act.put, List.setIfInBounds_toArray, List.set_cons_zero, List.set_cons_succ]
            refine wpAnyH_take (i := 9) (oi := ⟨some 69, _, _, _, _, _⟩) (v := .pointer (some ⟨p, 0, none⟩)) rfl (by kernel_rfl) (by kernel_rfl) (by kernel_rfl) (fun _ _ _ h => h) (Or.inl ⟨by rfl, fun W hSW => by go_simp⟩) hHeld ?_
            simp only [Act.put, List.setIfInBounds_toArray, List.set_cons_zero, List.set_cons_succ]
            refine wpAnyH_take (i := 10) (oi := ⟨some 70, _, _, _, _, _⟩) (v := .int .i64 (i : Int)) rfl (by kernel_rfl) (by kernel_rfl) (by kernel_rfl) (fun _ _ _ h => h) (Or.inl ⟨by rfl, fun W hSW => by go_simp⟩) hHeld ?_
            simp only [Act.put, List.setIfInBounds_toArray, List.set_cons_zero, List.set_cons_succ]
            refine wpAnyH_take (i := 11) (oi := ⟨some 71, _, _, _, _, _⟩) (v := .pointer (some ⟨p, 0, none⟩)) rfl (by kernel_rfl) (by kernel_rfl) (by kernel_rfl) (fun _ _ _ h => h) (Or.inl ⟨by rfl, fun W hSW => by go_simp⟩) hHeld ?_
            simp only [Act.put, List.setIfInBounds_toArray, List.set_cons_zero, List.set_cons_succ]
            refine wpAnyH_take (i := 12) (oi := ⟨some 72, _, _, _, _, _⟩) (v := .pointer (some ⟨p, 8192, none⟩)) rfl (by kernel_rfl) (by kernel_rfl) (by kernel_rfl) (fun _ _ _ h => h) (Or.inl ⟨by rfl, fun W hSW => by go_simp⟩) hHeld ?_
            simp only [Act.put, List.setIfInBounds_toArray, List.set_cons_zero, List.set_cons_succ]
            refine wpAnyH_take (i := 13) (oi := ⟨some 73, _, _, _, _, _⟩) (v := .pointer (some ⟨p, 8192 + i * 2, none⟩)) rfl (by kernel_rfl) (by kernel_rfl) (by kernel_rfl) (fun _ _ _ h => h) (Or.inl ⟨by rfl, fun W hSW => by go_simp⟩) hHeld ?_
            simp only [Act.put, List.setIfInBounds_toArray, List.set_cons_zero, List.set_cons_succ]
            refine wpAnyH_take (i := 14) (oi := ⟨some 74, _, _, _, _, _⟩) (v := .pointer (some ⟨p, 8192 + i * 2 + 1, none⟩)) rfl (by kernel_rfl) (by kernel_rfl) (by kernel_rfl) (fun _ _ _ h => h) (Or.inl ⟨by rfl, fun W hSW => by go_simp⟩) hHeld ?_
            simp only [Act.put, List.setIfInBounds_toArray, List.set_cons_zero, List.set_cons_succ]
            refine wpAnyH_take (i := 15) (oi := ⟨some 75, _, _, _, _, _⟩) (v := .int .u8 V) rfl (by kernel_rfl) (by kernel_rfl) (by kernel_rfl) (fun _ _ _ h => h) (Or.inl ⟨by rfl, fun W hSW => by have q := (hSW.cell (p := ⟨p, 8192 + i * 2 + 1, none⟩) hpk).trans k3; go_simp⟩) hHeld ?_
            simp only [Act.put, List.setIfInBounds_toArray, List.set_cons_zero, List.set_cons_succ]
            refine wpAnyH_take (i := 16) (oi := ⟨some 76, _, _, _, _, _⟩) (v := .int .u8 (16 * U + V)) rfl (by kernel_rfl) (by kernel_rfl) (by kernel_rfl) (fun _ _ _ h => h) (Or.inl ⟨by rfl, fun W hSW => by go_simp⟩) hHeld ?_
            simp only [Act.put, List.setIfInBounds_toArray, List.set_cons_zero, List.set_cons_succ]
            refine wpAnyH_ready (rs := [17]) (by kernel_rfl) (by simp) ?_
            refine AllReadyH.cons (o := ⟨some 77, _, _, _, _, _⟩) rfl (fun K hK => ?_) AllReadyH.nil
            go_simp
            refine hK.out _ _ (HB6.out.drew.alloc (by simp; omega) _) (fun hHeld => ?_)
            clear hK K
            refine wpAnyH_ready (rs := [18]) (by kernel_rfl) (by simp) ?_
            refine AllReadyH.cons (o := ⟨some 78, _, _, _, _, _⟩) rfl (fun K hK => ?_) AllReadyH.nil
            refine step_app2 rfl (.tmp 60) (.tmp 77) rfl (B := wk.heap.size) (l2 := [lnum y]) rfl HO8D.out HO7D.out HDJ.out.symm rfl (at_one HLN.out) (by simp) (by have := HL8.out; simp; omega) (by simp; omega) ?_
            intro v8' w7 ho8 ho7 hd7 hb7
            have HB7 := Lib.hid ((HB6.out.drew.alloc (by simp; omega) _).trans hb7)
            rw [← HTB.out] at ho8
            have HO87 := Lib.hid ho8
            have HO77 := Lib.hid ho7
            have HD7 := Lib.hid hd7.symm
            clear ho8 ho7 hd7 hb7
            refine hK.out _ _ HB7.out (fun hHeld => ?_)
            clear hK K
            refine wpAnyH_ready (rs := [19]) (by kernel_rfl) (by simp) ?_
            refine AllReadyH.cons (o := ⟨some 8, _, _, _, _, _⟩) rfl (fun K hK => ?_) AllReadyH.nil
            go_simp
            refine hK.out _ _ HB7.out (fun hHeld => ?_)
            clear hK K
            refine wpAnyH_done (by kernel_rfl) ?_ _
            refine NoPanic.normal ?_
            go_wp2_with fail
            go_roundw
            case rel => exact ⟨i + 1, by go_num, by omega, HO77.out, HO87.out, HD7.out, HB7.out⟩
            case measure => simp [intOf]; omega
          · have hiI : ¬ (i : Int) < 4096 := by omega
            have HO7F : Hid (BytesW.Own wr wk.heap.size _ (places C)) := Lib.hid (by
              have h := HO7.out
              rw [List.take_of_length_le (by have := HCL.out; simp [places]; omega)] at h
              exact h)
            have HO8F : Hid (BytesW.Own wr wk.heap.size _ (L.map lnum)) := Lib.hid (by
              have h := HO8.out
              rw [List.take_of_length_le (by have := HLL.out; simp; omega)] at h
              exact h)
            obtain ⟨wl, rfl⟩ : ∃ wl : World, wl = wr := ⟨_, rfl⟩
            obtain ⟨pc, hpc⟩ : ∃ pc, pc = places C := ⟨_, rfl⟩
            obtain ⟨lc, hlc⟩ : ∃ lc, lc = L.map lnum := ⟨_, rfl⟩
            have hpl : pc.length = 4096 := by rw [hpc]; simp [places, HCL.out]
            have hll : lc.length = 4096 := by rw [hlc]; simp [HLL.out]
            rw [← hpc] at HO7F
            rw [← hlc] at HO8F
            obtain ⟨tn, htn⟩ : ∃ tn, tn = ts.length := ⟨_, rfl⟩
            have HTL := Lib.hid htn
            have htl4 : tn ≤ 1000000 := by omega
            have HTT2 : Hid (w2.cell? ⟨p, 16384, none⟩ = some (.slice TA tn tc)) := Lib.hid (by rw [HB2.out.cell hplt, htn]; exact HTT.out)
            have HTA2 := Lib.hid (HTA.out.below HB2.out)
            have hful : (putC ⟨C, L, ts⟩).length ≤ 65536 := putC_len (by simp only [can, Bool.and_eq_true]; exact ⟨⟨HCM.out, HLM.out⟩, HTK.out⟩) HCL.out HLL.out
            obtain ⟨fl, hfl⟩ : ∃ fl, fl = putC ⟨C, L, ts⟩ := ⟨_, rfl⟩
            have HS0 : Hid (palB P ++ putR pc ++ putR lc ++ uvarint tn ++ tkB 0 (ts.drop 0) = fl) := Lib.hid (by
              rw [hfl, putC, tksB, HPE.out, hpc, hlc, htn]
              simp)
            rw [← hfl] at hful HRE
            have hq1 := putR_len pc
            have hq2 := putR_len lc
            have hq3 := palB_len P
            have HL1 : Hid ((palB P).length + (putR pc).length ≤ 10000 ∧ (putR lc).length ≤ 8192) := Lib.hid (by have := HN.out; omega)
            obtain ⟨A7, c7, rfl, hA7, hc7, _⟩ := HO7F.out.sl
            obtain ⟨A8, c8, rfl, _, _, _⟩ := HO8F.out.sl
            have HA7 := Lib.hid hA7
            have HDJ5 := Lib.hid (dj_level HO5.out HO8F.out)
            have HPU1 : Hid (Calls Tryd.prog 31 #[.slice A7 4096 c7] wl (Gives wl (putR pc))) := Lib.hid (by
              have h := r_put_c (c := c7) hA7.c (by omega)
              rw [hpl] at h
              exact h)
            have HZ := Lib.hid (Nat.le_trans HB3.out.size HB4.out.size)
            have HBL := Lib.hid (Below.trans HB3.out (Below.mono HB4.out HB3.out.size))
            rw [hpl, hll]
            clear hpc hlc htn hfl hq1 hq2 hq3 hA7 hpl
            go_wp2_with fail
            go_at_call 31
            refine (HPU1.out).mono ?_
            rintro e w6 ⟨v6, rfl, ho6, hb6⟩
            obtain ⟨A6, c6, rfl, hA6, hc6, _⟩ := ho6.sl
            have hz6 : w2.heap.size ≤ w6.heap.size := Nat.le_trans HZ.out hb6.size
            have HB6 := Lib.hid (Below.trans HBL.out (Below.mono hb6 HZ.out))
            have HO56 := Lib.hid ((HO5.out.below HB4.out).below hb6)
            have HO86 := Lib.hid (HO8F.out.below hb6)
            clear hb6 ho6
            go_wp2_with ((with_reducible refine at_slot 82 ?_); refine wp_appendG rfl (.tmp 79) (.tmp 81) rfl rfl HO56.out rfl hA6 (by have := HL1.out; omega) hz6 ?_; intro v9 w9 ho9 hg9 hb9)
            have HO89 := Lib.hid (own_kept HO86.out hg9 HDJ5.out)
            have HO99 := Lib.hid ho9
            have HB9 := Lib.hid (HB6.out.trans hb9)
            have hz9 := HB9.out.size
            have HPU2 : Hid (∃ A c, Value.slice A8 4096 c8 = .slice A 4096 c ∧ Calls Tryd.prog 31 #[.slice A8 4096 c8] w9 (Gives w9 (putR lc))) := Lib.hid (by
              obtain ⟨A, c, e, hA, _, _⟩ := HO89.out.sl
              rw [hll] at e
              have h := r_put_c (c := c) hA.c (by omega)
              rw [hll, ← e] at h
              exact ⟨_, _, rfl, h⟩)
            obtain ⟨_, _, _, hpu2⟩ := HPU2.out
            have HPU3 := Lib.hid hpu2
            clear ho9 hg9 hb9 hpu2 hll hA6 hc6
            go_at_call 31
            refine (HPU3.out).mono ?_
            rintro e w10 ⟨v10, rfl, ho10, hb10⟩
            obtain ⟨A10, c10, rfl, hA10, hc10, _⟩ := ho10.sl
            have hz10 : w2.heap.size ≤ w10.heap.size := Nat.le_trans hz9 hb10.size
            have HB10 := Lib.hid (below_m2 HB9.out hz9 hb10)
            have HO9A := Lib.hid (HO99.out.below hb10)
            clear hb10 ho10
            have ht11 : ∀ W, Below w2.heap.size w2 W → W.cell? ⟨p, 16384, none⟩ = some (.slice TA tn tc) := fun W h => (h.cell (p := ⟨p, 16384, none⟩) hplt2).trans HTT2.out
            have HT11 := Lib.hid ht11
            have hwt : IntKind.u64.wrap (tn : Int) = tn := by rw [IntKind.wrap_u64]; omega
            clear ht11
            go_wp2_with ((with_reducible refine at_slot 86 ?_); refine wp_append rfl (.tmp 83) (.tmp 85) rfl rfl HO9A.out rfl hA10 (by have := HL1.out; simp; omega) hz10 ?_; intro v11 w11 ho11 hb11; have q0 := HT11.out w11 (HB10.out.trans hb11))
            have HB11 := Lib.hid (HB10.out.trans hb11)
            have HO11 := Lib.hid ho11
            clear ho11 hb11 q0 hA10 hc10
            go_at_call 32
            refine (r_num_c (n := tn) (by omega) rfl).mono ?_
            rintro e w12 ⟨v12, rfl, ho12, hb12⟩
            obtain ⟨A12, c12, rfl, hA12, hc12, _⟩ := ho12.sl
            have hz11 := HB11.out.size
            have hz12 : w2.heap.size ≤ w12.heap.size := Nat.le_trans hz11 hb12.size
            have HB12 := Lib.hid (below_m2 HB11.out hz11 hb12)
            have HO12 := Lib.hid (HO11.out.below hb12)
            have hun := uvarint_length64 (x := tn) (by omega)
            clear hb12 ho12 hwt
            go_wp2_with ((with_reducible refine at_slot 95 ?_); refine wp_append rfl (.tmp 87) (.tmp 94) rfl rfl HO12.out rfl hA12 (by have := HL1.out; simp; omega) hz12 ?_; intro v13 w13 ho13 hb13)
            have HB13 := Lib.hid (HB12.out.trans hb13)
            have HO13 := Lib.hid ho13
            clear ho13 hb13 hA12 hc12 hun
            go_loopw [5, 11] (RTRel w2 ts fl) (fun _ v _ => tn - (intOf v).toNat)
            case atStart => exact ⟨0, 0, _, rfl, by omega, by omega, by omega, HO13.out, HS0.out, HTK.out, .inl ⟨rfl, rfl⟩, HB13.out⟩
            case round =>
              obtain ⟨i, nx, l, rfl, hx0, hx4, hi, hown, htk, hmt, hpr, hbw⟩ := hrel
              have HO14 := Lib.hid hown
              have HB14 := Lib.hid hbw
              have HTK2 := Lib.hid htk
              have HMT := Lib.hid hmt
              have HPR := Lib.hid hpr
              have hz14 := hbw.size
              have hin : i ≤ tn := by have := HTL.out; omega
              have t0 := HT11.out wr hbw
              have hll4 : l.length ≤ 65536 := by
                have := congrArg List.length htk
                rw [List.length_append] at this
                omega
              clear hown hbw htk hmt hpr hi
              by_cases hil : i < tn
              · have hiI : (i : Int) < tn := by omega
                have hi0I : (0 : Int) ≤ (i : Int) := by omega
                obtain ⟨x, hx⟩ : ∃ x, ts[i]? = some x := ⟨_, List.getElem?_eq_getElem (by have := HTL.out; omega)⟩
                obtain ⟨b, o, rfl, hbl, hcs⟩ := HTA2.out.cells (fun e => by rw [e] at hx; simp at hx)
                obtain ⟨at_, due⟩ := x
                obtain ⟨p0, p1⟩ := hcs _ _ hx
                simp only [tkv] at p0 p1
                have HC2 := Lib.hid hcs
                have g0 := (HB14.out.cell (p := ⟨b, o + i * 2, none⟩) hbl).trans p0
                have hd : ts.drop i = (at_, due) :: ts.drop (i + 1) := by
                  obtain ⟨h1, h2⟩ := List.getElem?_eq_some_iff.1 hx
                  rw [List.drop_eq_getElem_cons h1, h2]
                have hmt := HMT.out
                have htk := HTK2.out
                rw [hd] at hmt htk
                simp only [mayT, Bool.and_eq_true, decide_eq_true_eq] at hmt
                obtain ⟨⟨⟨⟨m1, m2⟩, m3⟩, m4⟩, m5⟩ := hmt
                obtain ⟨a1, ha1⟩ : ∃ a : Nat, a = (at_ - nx).toNat := ⟨_, rfl⟩
                obtain ⟨d1, hd1⟩ : ∃ d : Nat, d = due.toNat := ⟨_, rfl⟩
                obtain ⟨b1, hb1⟩ : ∃ b1, b1 = uvarint a1 := ⟨_, rfl⟩
                obtain ⟨b2, hb2⟩ : ∃ b2, b2 = uvarint d1 := ⟨_, rfl⟩
                have l1 := uvarint_length64 (x := a1) (by omega)
                have l2 := uvarint_length64 (x := d1) (by omega)
                rw [← hb1] at l1
                rw [← hb2] at l2
                have HT2 : Hid ((l ++ b1 ++ b2) ++ tkB (at_ + 1) (ts.drop (i + 1)) = fl) := Lib.hid (by
                  rw [← htk, tkB, ← ha1, ← hd1, hb1, hb2]
                  simp)
                have HM5 := Lib.hid m5
                have HXX := Lib.hid hx
                have HB1U := Lib.hid hb1
                have HB2U := Lib.hid hb2
                have hae : at_ = nx + (a1 : Int) := by omega
                have hwd : IntKind.u64.wrap due = (d1 : Int) := by rw [IntKind.wrap_u64]; omega
                have HAE := Lib.hid hae
                have ha1b : a1 < 4096 := by omega
                have hd1b : d1 < 2199023255553 := by omega
                clear hcs hx hd htk m5 ha1 hd1 hb1 hb2
                have l1' : b1.length ≤ 10 := l1
                have l2' : b2.length ≤ 10 := l2
                by_cases hi0 : i = 0
                · have hnx : nx = 0 := by
                    rcases HPR.out with ⟨_, h⟩ | ⟨t, _, _, h⟩
                    · exact h
                    · omega
                  have hiz : decide ((0 : Int) < (i : Int)) = false := by simp; omega
                  have hiz2 : decide (0 < i) = false := by simp; omega
                  clear hi0 l1 l2
                  have hwa : IntKind.u64.wrap at_ = (a1 : Int) := by rw [IntKind.wrap_u64]; omega
                  clear hnx hae
                  go_wp2_with fail
                  go_at_call 32
                  refine (r_num_c (n := a1) (by omega) rfl).mono ?_
                  rintro e w15 ⟨v15, rfl, ho15, hb15⟩
                  rw [← HB1U.out] at ho15
                  obtain ⟨A15, c15, rfl, hA15, hc15, _⟩ := ho15.sl
                  have HB15 := Lib.hid (below_m2 HB14.out hz14 hb15)
                  have hz15 := HB15.out.size
                  have HO15 := Lib.hid (HO14.out.below hb15)
                  clear hb15 ho15
                  go_wp2_with ((with_reducible refine at_slot 131 ?_); refine wp_append rfl (.tmp 127) (.tmp 130) rfl rfl HO15.out rfl hA15 (by omega) hz15 ?_; intro v16 w16 ho16 hb16; have q0 := HT11.out w16 (HB15.out.trans hb16); have q1 := ((HB15.out.trans hb16).cell (p := ⟨b, o + i * 2 + 1, none⟩) hbl).trans p1)
                  have HB16 := Lib.hid (HB15.out.trans hb16)
                  have hz16 := HB16.out.size
                  have HO16 := Lib.hid ho16
                  clear ho16 hb16 q0 q1 hA15 hc15
                  go_at_call 32
                  refine (r_num_c (n := d1) (by omega) rfl).mono ?_
                  rintro e w17 ⟨v17, rfl, ho17, hb17⟩
                  rw [← HB2U.out] at ho17
                  obtain ⟨A17, c17, rfl, hA17, hc17, _⟩ := ho17.sl
                  have HB17 := Lib.hid (below_m2 HB16.out hz16 hb17)
                  have hz17 := HB17.out.size
                  have HO17 := Lib.hid (HO16.out.below hb17)
                  clear hb17 ho17
                  go_wp2_with ((with_reducible refine at_slot 143 ?_); refine wp_append rfl (.tmp 132) (.tmp 142) rfl rfl HO17.out rfl hA17 (by simp; omega) hz17 ?_; intro v18 w18 ho18 hb18)
                  go_roundw
                  case rel => exact ⟨i + 1, at_ + 1, _, by go_num, by omega, by omega, by have := HTL.out; omega, ho18, HT2.out, HM5.out, .inr ⟨(at_, due), HXX.out, rfl, by omega⟩, HB17.out.trans hb18⟩
                  case measure => simp [intOf]; omega
                · obtain ⟨⟨pa, pd⟩, hpx, hnx⟩ : ∃ t : Tick, ts[i - 1]? = some t ∧ nx = t.1 + 1 := by
                    rcases HPR.out with ⟨h, _⟩ | ⟨t, h1, h2, _⟩
                    · exact absurd h hi0
                    · exact ⟨t, h1, h2⟩
                  simp only at hnx
                  obtain ⟨i1, hi1⟩ : ∃ i1, i1 = i - 1 := ⟨_, rfl⟩
                  have hiz : decide ((0 : Int) < (i : Int)) = true := by simp; omega
                  have hiz2 : decide (0 < i) = true := by simp; omega
                  rw [← hi1] at hpx
                  have r0 := (HB14.out.cell (p := ⟨b, o + i1 * 2, none⟩) hbl).trans (HC2.out i1 _ hpx).1
                  simp only [tkv] at r0
                  have hwr : IntKind.i64.wrap ((i : Int) - 1) = (i1 : Int) := by rw [IntKind.wrap_i64]; omega
                  have hI1 : (i1 : Int) < tn := by omega
                  have hI0 : (0 : Int) ≤ (i1 : Int) := by omega
                  clear hpx hi1 hi0 l1 l2
                  have hwp : IntKind.i64.wrap (at_ - pa) = at_ - pa := by rw [IntKind.wrap_i64]; omega
                  have hwq : IntKind.i64.wrap (at_ - pa - 1) = (a1 : Int) := by rw [IntKind.wrap_i64]; omega
                  have hwa : IntKind.u64.wrap (a1 : Int) = (a1 : Int) := by rw [IntKind.wrap_u64]; omega
                  clear hnx hae
                  go_wp2_with fail
                  go_at_call 32
                  refine (r_num_c (n := a1) (by omega) rfl).mono ?_
                  rintro e w15 ⟨v15, rfl, ho15, hb15⟩
                  rw [← HB1U.out] at ho15
                  obtain ⟨A15, c15, rfl, hA15, hc15, _⟩ := ho15.sl
                  have HB15 := Lib.hid (below_m2 HB14.out hz14 hb15)
                  have hz15 := HB15.out.size
                  have HO15 := Lib.hid (HO14.out.below hb15)
                  clear hb15 ho15
                  go_wp2_with ((with_reducible refine at_slot 131 ?_); refine wp_append rfl (.tmp 127) (.tmp 130) rfl rfl HO15.out rfl hA15 (by omega) hz15 ?_; intro v16 w16 ho16 hb16; have q0 := HT11.out w16 (HB15.out.trans hb16); have q1 := ((HB15.out.trans hb16).cell (p := ⟨b, o + i * 2 + 1, none⟩) hbl).trans p1)
                  have HB16 := Lib.hid (HB15.out.trans hb16)
                  have hz16 := HB16.out.size
                  have HO16 := Lib.hid ho16
                  clear ho16 hb16 q0 q1 hA15 hc15
                  go_at_call 32
                  refine (r_num_c (n := d1) (by omega) rfl).mono ?_
                  rintro e w17 ⟨v17, rfl, ho17, hb17⟩
                  rw [← HB2U.out] at ho17
                  obtain ⟨A17, c17, rfl, hA17, hc17, _⟩ := ho17.sl
                  have HB17 := Lib.hid (below_m2 HB16.out hz16 hb17)
                  have hz17 := HB17.out.size
                  have HO17 := Lib.hid (HO16.out.below hb17)
                  clear hb17 ho17
                  go_wp2_with ((with_reducible refine at_slot 143 ?_); refine wp_append rfl (.tmp 132) (.tmp 142) rfl rfl HO17.out rfl hA17 (by simp; omega) hz17 ?_; intro v18 w18 ho18 hb18)
                  go_roundw
                  case rel => exact ⟨i + 1, at_ + 1, _, by go_num, by omega, by omega, by have := HTL.out; omega, ho18, HT2.out, HM5.out, .inr ⟨(at_, due), HXX.out, rfl, by omega⟩, HB17.out.trans hb18⟩
                  case measure => simp [intOf]; omega
              · have hiI : ¬ (i : Int) < tn := by omega
                have hfin : l = fl := by
                  have h := HTK2.out
                  rw [List.drop_of_length_le (by have := HTL.out; omega), tkB, List.append_nil] at h
                  exact h
                have HFI := Lib.hid (hfin ▸ HO14.out)
                have HBW := Lib.hid (Below.trans HB2.out (Below.mono HB14.out HB2.out.size))
                have hzw := HB2.out.size
                clear hfin
                go_wp2_with fail
                go_ret2
                rw [HRE.out]
                exact ⟨_, rfl, HFI.out.mono hzw, HBW.out⟩
end PackW
end Go.Proofs.YtdboebokjkkgkaaDoor
