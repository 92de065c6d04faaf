/-
  FreemapLeast: what Take tells was free, is so no more, and no lesser sector stays free.
-/
import Derived.Test.YtbnkaeigabifhaaDoorFreeLaw
import Derived.Test.YtbnkaeigabifhaaDoorFreeLead
import Derived.BigQuiet
-- mine: whole_c same_c awake_c take_c step_c back_c Made number_c next_c fixed_c clone_c int_c end_c put_c
namespace Go.Proofs.YtbnkaeigabifhaaDoor
open Go.RowKit
set_option linter.unusedVariables false
set_option linter.unusedSimpArgs false
set_option maxRecDepth 100000
namespace FreW
open BlkP RowG FrS PushG FreP
open CrcW (Tab)
set_option maxHeartbeats 1000000 in
theorem law_least {w : World} {n : Int} {k : Int} {A : Option Addr} {m c : Nat} {l : List Int} (hZ : TabZ w) (hR : Rd RowG.encI w (.slice A m c) l) (hm : l.length = m) : Calls Tryd.prog 5 #[.int .i64 n, .slice A m c, .int .i64 k] w fun e w' => e = .returned (.bool true) ∧ Below w.heap.size w w' := by
  have HTZ := Lib.hid hZ
  have hC : True := trivial
  have HRD := Lib.hid hR
  have HL := Lib.hid hm
  have B := Lib.hid (Below.refl w.heap.size w)
  clear hZ hC hR hm
  cases hn : isM n
  · have HN := Lib.hid hn
    clear hn
    go_enter Tryd.func5, Tryd.ntmps5
    go_wp2_with fail
    go_at_call 34
    refine (kept_no HN.out).mono ?_
    rintro e x1 ⟨rfl, hw⟩
    obtain rfl := hw.symm
    go_wp2_with fail
    go_at_call 15
    refine (works_c (HTZ.out.below B.out)).mono ?_
    rintro e x2 ⟨rfl, hb⟩
    have B' := Lib.hid (B.out.trans (hb.mono B.out.size))
    clear hb
    clear B
    have B := B'
    clear B'
    go_wp2_with fail
    go_ret
    exact ⟨rfl, B.out⟩
  · obtain ⟨lo, hi⟩ := isM_iff.1 hn
    clear hn
    obtain ⟨N, rfl⟩ := Int.eq_ofNat_of_zero_le (show 0 ≤ n by omega)
    have hlo : 256 ≤ N := by omega
    have hhi : N ≤ 131072 := by omega
    go_enter Tryd.func5, Tryd.ntmps5
    go_wp2_with fail
    go_at_call 34
    refine (kept_i hlo hhi HRD.out HL.out).mono ?_
    rintro e x1 ⟨p, L, rfl, S, hq, hb⟩
    have M := Lib.hid (hq.mono (B' := w.heap.size) B.out.size)
    clear hq
    have B' := Lib.hid (B.out.trans (hb.mono B.out.size))
    clear hb
    clear B
    have B := B'
    clear B'
    have HLN := Lib.hid M.out.len
    go_wp2_with fail
    go_at_call 23
    refine (Copy_i M.out).mono ?_
    rintro e x2 ⟨p2, rfl, S2, hq, hb⟩
    have DMQ := Lib.hid (show ∀ k, S k → ¬ S2 k from apart_new (w := x1) (fun k hk => (M.out.ge hk).2) (fun k hk => (hq.ge hk).1))
    have DQM := Lib.hid (show ∀ k, S2 k → ¬ S k from fun k h1 h2 => DMQ.out k h2 h1)
    have Q := Lib.hid (hq.mono (B' := w.heap.size) B.out.size)
    clear hq
    have M' := Lib.hid (M.out.below hb)
    have B' := Lib.hid (B.out.trans (hb.mono B.out.size))
    clear hb
    clear M B
    have M := M'
    have B := B'
    clear M' B'
    go_wp2_with fail
    go_at_call 25
    refine (Free_i M.out).mono ?_
    rintro e x3 ⟨rfl, hw⟩
    obtain rfl := hw.symm
    have hfl := free_le L
    by_cases h0 : 0 ≤ k
    · obtain ⟨K, rfl⟩ := Int.eq_ofNat_of_zero_le h0
      by_cases h1 : K ≤ free L
      · have HC : Hid (canT L (K : Int) = true) := Lib.hid (by unfold canT; simp [h1])
        have hle : decide (K ≤ free L) = true := by simp; omega
        obtain ⟨O, hO⟩ : ∃ O, takeO L (K : Int) = O := ⟨_, rfl⟩
        have HOO := Lib.hid hO
        have HOL := Lib.hid (takeO_len h1)
        have HOR := Lib.hid (takeO_rise L (K : Int))
        have HOI := Lib.hid (takeO_in L (K : Int))
        have HFT := Lib.hid (free_take h1)
        have HTG := Lib.hid (fun x (hx : x ∈ takeO L (K : Int)) => take_gone hx)
        have HTL := Lib.hid (fun x (hx : x ∈ takeO L (K : Int)) y (hy : ((y : Nat) : Int) < x) => take_least hx hy)
        obtain ⟨L2, hL2⟩ : ∃ L2, takeL L (K : Int) = L2 := ⟨_, rfl⟩
        have HL2 := Lib.hid hL2
        rw [hO] at HOL HOR HOI HTG HTL
        rw [hL2] at HFT HTG HTL
        clear hO hL2
        go_wp2_with fail
        go_at_call 16
        refine (Take_i M.out (HTZ.out.below B.out) (K : Int)).mono ?_
        rintro e x4 ⟨_, rfl, ho, hq, hf⟩
        obtain ⟨Av, cv, rfl, hcv, hmv, _⟩ := ho.form (n := K) (by rw [HOO.out, HOL.out])
        have DVM := Lib.hid (row_made ho (fun k hk => (M.out.ge hk).2))
        have DVQ := Lib.hid (row_made ho (fun k hk => (Q.out.ge hk).2))
        have V := Lib.hid (ho.mono B.out.size)
        have Q' := Lib.hid (Q.out.fr hf DQM.out)
        have B' := Lib.hid (B.out.trans (M.out.toBelow hf))
        have M' := Lib.hid hq
        clear ho hq hf
        clear Q B M
        have Q := Q'
        have B := B'
        have M := M'
        clear Q' B' M'
        rw [HC.out]
        have V' := Lib.hid (show RowG.Own RowG.encI TI x4 w.heap.size (.slice Av K cv) O by have := V.out; rwa [HOO.out] at this)
        clear V
        have V := V'
        clear V'
        have M' := Lib.hid (show Mp x4 w.heap.size p N L2 S by have := M.out; rwa [HL2.out] at this)
        clear M
        have M := M'
        clear M'
        have HLN3 := Lib.hid M.out.len

        go_wp2_with fail
        go_at_call 25
        refine (Free_i M.out).mono ?_
        rintro e x5 ⟨rfl, hw⟩
        obtain rfl := hw.symm
        obtain ⟨fz, hfz⟩ : ∃ fz, fz = free L - K := ⟨_, rfl⟩
        rw [HFT.out, ← hfz]
        have hfzb : fz ≤ 131072 := by have := HLN.out; omega
        have hsub : (free L : Int) - (K : Int) = (fz : Int) := by omega
        clear hfz
        go_wp2_with fail
        go_loopw [12] (fun v12 wr => ∃ i : Nat, v12 = .int .i64 (i : Int) ∧ i ≤ K ∧ Mp wr w.heap.size p N L2 S ∧ Mp wr w.heap.size p2 N L S2 ∧ RowG.Own RowG.encI TI wr w.heap.size (.slice Av K cv) O ∧ Below w.heap.size w wr) (fun v12 _ => K - (RowKit.intOf v12).toNat)
        case atStart => exact ⟨0, rfl, by omega, M.out, Q.out, V.out, B.out⟩
        case round =>
          obtain ⟨i, rfl, hi, hM, hQ, hV, hbr⟩ := hrel
          clear M Q V B
          have M := Lib.hid hM
          have Q := Lib.hid hQ
          have V := Lib.hid hV
          have B := Lib.hid hbr
          by_cases hlt : i < K
          · obtain ⟨x, hx⟩ : ∃ x, O[i]? = some x := ⟨_, List.getElem?_eq_getElem (by rw [HOL.out]; exact hlt)⟩
            obtain ⟨bb, o, hbo, hbl, hcs⟩ := hV.rd.at hx
            have hmem := List.mem_of_getElem? hx
            have c0 := hcs 0 (.int .i64 x) rfl
            rw [show o + i * RowG.encI.k + 0 = o + i from by have : RowG.encI.k = 1 := rfl; rw [this]; omega] at c0
            have HQ : Hid (∀ q, Calls Tryd.prog 27 #[.pointer (some ⟨p2, 0, none⟩), .int .i64 x] (wr.drewN q) fun e w' => e = .returned (.bool true) ∧ ∃ m, w' = (wr.drewN q).drewN m) := Lib.hid (fun q => by
              have := Has_q (hQ.below (bel_drewN (Below.refl _ wr) q)) x
              rwa [(HOI.out x hmem).1, (HOI.out x hmem).2] at this)
            have HH : Hid (∀ q, Calls Tryd.prog 27 #[.pointer (some ⟨p, 0, none⟩), .int .i64 x] (wr.drewN q) fun e w' => e = .returned (.bool false) ∧ ∃ m, w' = (wr.drewN q).drewN m) := Lib.hid (fun q => by
              have := Has_q (hM.below (bel_drewN (Below.refl _ wr) q)) x
              rwa [HTG.out x hmem, Bool.and_false] at this)
            subst hbo
            by_cases h00 : i = 0
            · subst h00
              clear hM hQ hV hbr hcs hx hmem
              rw [Nat.add_zero] at c0
              go_wp2_with fail
              go_quiet ((first | (go_at_call 27; with_reducible exact Calls.quiet_of (HQ.out _)) | (go_at_call 27; with_reducible exact Calls.quiet_of (HH.out _))))
              go_wp2_with fail
              go_roundw
              case rel => exact ⟨1, by first | rfl | go_num, by omega, M.out.below (bel_drewN (Below.refl _ wr) _), Q.out.below (bel_drewN (Below.refl _ wr) _), V.out.below (bel_drewN (Below.refl _ wr) _), bel_drewN B.out _⟩
              case measure => simp [RowKit.intOf]; omega
            · obtain ⟨j, rfl⟩ : ∃ j, i = j + 1 := ⟨i - 1, by omega⟩
              obtain ⟨z, hz⟩ : ∃ z, O[j]? = some z := ⟨_, List.getElem?_eq_getElem (by rw [HOL.out]; omega)⟩
              obtain ⟨bb2, o2, hbo2, _, hcs2⟩ := hV.rd.at hz
              injection hbo2 with hbo2
              injection hbo2 with e1 e2
              subst e1 e2
              have c1 := hcs2 0 (.int .i64 z) rfl
              rw [show o + j * RowG.encI.k + 0 = o + j from by have : RowG.encI.k = 1 := rfl; rw [this]; omega] at c1
              have hzx := next_rise HOR.out hz hx
              have hgt : decide (x ≤ z) = false := by simp; omega
              have hgtp : ¬ x ≤ z := by omega
              have hj1 : ((j + 1 : Nat) : Int) - 1 = (j : Int) := by omega
              have HJ1 := Lib.hid hj1
              clear hM hQ hV hbr hcs hcs2 hx hz hmem h00 hj1
              obtain ⟨i, hi2⟩ : ∃ i, i = j + 1 := ⟨_, rfl⟩
              rw [← hi2] at hi hlt c0 HJ1
              have hj1 := HJ1.out
              have hjb : j < K := by omega
              have hi1 : 0 < i := by omega
              have HI2 := Lib.hid hi2
              rw [← hi2]
              clear hi2 HJ1
              go_wp2_with fail
              go_quiet ((first | (go_at_call 27; with_reducible exact Calls.quiet_of (HQ.out _)) | (go_at_call 27; with_reducible exact Calls.quiet_of (HH.out _))))
              go_wp2_with fail
              go_roundw
              case rel => exact ⟨i + 1, by first | rfl | go_num, by omega, M.out.below (bel_drewN (Below.refl _ wr) _), Q.out.below (bel_drewN (Below.refl _ wr) _), V.out.below (bel_drewN (Below.refl _ wr) _), bel_drewN B.out _⟩
              case measure => simp [RowKit.intOf]; omega
          · obtain rfl : i = K := by omega
            clear hM hQ hbr
            by_cases hK0 : i = 0
            · subst hK0
              clear hV
              go_wp2_with fail
              go_at_call 15
              refine (works_c (HTZ.out.below B.out)).mono ?_
              rintro e x4 ⟨rfl, hb⟩
              have M' := Lib.hid (M.out.below hb)
              have Q' := Lib.hid (Q.out.below hb)
              have V' := Lib.hid (V.out.below hb)
              have B' := Lib.hid (B.out.trans (hb.mono B.out.size))
              clear hb
              clear M Q V B
              have M := M'
              have Q := Q'
              have V := V'
              have B := B'
              clear M' Q' V' B'
              go_wp2_with fail
              go_ret
              exact ⟨rfl, B.out⟩
            · obtain ⟨x, hx⟩ : ∃ x, O[i - 1]? = some x := ⟨_, List.getElem?_eq_getElem (by rw [HOL.out]; omega)⟩
              obtain ⟨bb, o, hbo, hbl, hcs⟩ := hV.rd.at hx
              have hmem := List.mem_of_getElem? hx
              have c0 := hcs 0 (.int .i64 x) rfl
              rw [show o + (i - 1) * RowG.encI.k + 0 = o + (i - 1) from by have : RowG.encI.k = 1 := rfl; rw [this]; omega] at c0
              have hxi := inL_iff.1 (HOI.out x hmem).1
              have hxN : x < N := by rw [HLN.out] at hxi; exact hxi.2
              have HLT := Lib.hid (fun y (hy : ((y : Nat) : Int) < x) => HTL.out x hmem y hy)
              subst hbo
              obtain ⟨j, hj⟩ : ∃ j, i = j + 1 := ⟨i - 1, by omega⟩
              have hj1 : (i : Int) - 1 = (j : Int) := by omega
              have hjb : j < i := by omega
              rw [show i - 1 = j by omega] at c0
              have hi0 : 0 < i := by omega
              clear hV hcs hx hmem hj hxi
              go_wp2_with fail
              go_loopw [13] (fun v13 wy => ∃ y : Nat, v13 = .int .i64 (y : Int) ∧ y ≤ N ∧ Mp wy w.heap.size p N L2 S ∧ bb < wy.heap.size ∧ wy.cell? ⟨bb, o + j, none⟩ = some (.int .i64 x) ∧ Below w.heap.size w wy) (fun v13 _ => N - (RowKit.intOf v13).toNat)
              case atStart => exact ⟨0, rfl, by omega, M.out, hbl, c0, B.out⟩
              case round =>
                obtain ⟨y, rfl, hy, hM, hbl2, c02, hbr⟩ := hrel
                clear M B c0 Q V
                have M := Lib.hid hM
                have B := Lib.hid hbr
                clear hM hbr
                by_cases hyx : (y : Int) < x
                · have HB := Lib.hid (HLT.out y hyx)
                  go_wp2_with fail
                  go_at_call 27
                  refine (Has_i M.out (y : Int)).mono ?_
                  rintro e w5 ⟨rfl, hb5⟩
                  rw [show ((y : Nat) : Int).toNat = y from rfl, HB.out, Bool.and_false]
                  have M5 := Lib.hid (M.out.below hb5)
                  have B5 := Lib.hid (B.out.trans (hb5.mono B.out.size))
                  have c05 := (hb5.cell (p := ⟨bb, o + j, none⟩) hbl2).trans c02
                  have hbl5 := Nat.lt_of_lt_of_le hbl2 hb5.size
                  clear hb5
                  go_wp2_with fail
                  go_roundw
                  case rel => exact ⟨y + 1, by go_num, by omega, M5.out, hbl5, c05, B5.out⟩
                  case measure => simp [RowKit.intOf]; omega
                · go_wp2_with fail
                  go_at_call 15
                  refine (works_c (HTZ.out.below B.out)).mono ?_
                  rintro e w5 ⟨rfl, hb⟩
                  have B5 := Lib.hid (B.out.trans (hb.mono B.out.size))
                  clear hb
                  go_wp2_with fail
                  go_ret
                  exact ⟨rfl, B5.out⟩
      · have HC : Hid (canT L (K : Int) = false) := Lib.hid (by unfold canT; simp; omega)
        have hle : decide (K ≤ free L) = false := by simp; omega
        have hlp : ¬ K ≤ free L := by omega
        clear h1
        have HTO := Lib.hid (can_no HC.out)
        go_wp2_with fail
        go_at_call 16
        refine (Take_i M.out (HTZ.out.below B.out) (K : Int)).mono ?_
        rintro e x4 ⟨_, rfl, ho, hq, hf⟩
        obtain ⟨Av, cv, rfl, hcv, hmv, _⟩ := ho.form (n := 0) (by rw [HTO.out.1]; rfl)
        have DVM := Lib.hid (row_made ho (fun k hk => (M.out.ge hk).2))
        have DVQ := Lib.hid (row_made ho (fun k hk => (Q.out.ge hk).2))
        have V := Lib.hid (ho.mono B.out.size)
        have Q' := Lib.hid (Q.out.fr hf DQM.out)
        have B' := Lib.hid (B.out.trans (M.out.toBelow hf))
        have M' := Lib.hid hq
        clear ho hq hf
        clear Q B M
        have Q := Q'
        have B := B'
        have M := M'
        clear Q' B' M'
        rw [HC.out]
        clear V DVM DVQ
        have M' := Lib.hid (show Mp x4 w.heap.size p N L S by have := M.out; rwa [HTO.out.2] at this)
        clear M
        have M := M'
        clear M'
        go_wp2_with fail
        go_at_call 25
        refine (Free_i M.out).mono ?_
        rintro e x5 ⟨rfl, hw⟩
        obtain rfl := hw.symm
        go_wp2_with fail
        go_at_call 15
        refine (works_c (HTZ.out.below B.out)).mono ?_
        rintro e x6 ⟨rfl, hb⟩
        have M' := Lib.hid (M.out.below hb)
        have Q' := Lib.hid (Q.out.below hb)
        have B' := Lib.hid (B.out.trans (hb.mono B.out.size))
        clear hb
        clear M Q B
        have M := M'
        have Q := Q'
        have B := B'
        clear M' Q' B'
        go_wp2_with fail
        go_ret
        exact ⟨rfl, B.out⟩
    · have HC : Hid (canT L k = false) := Lib.hid (by unfold canT; simp; omega)
      have hk0 : decide (k ≥ 0) = false := by simp; omega
      have HTO := Lib.hid (can_no HC.out)
      go_wp2_with fail
      go_at_call 16
      refine (Take_i M.out (HTZ.out.below B.out) k).mono ?_
      rintro e x4 ⟨_, rfl, ho, hq, hf⟩
      obtain ⟨Av, cv, rfl, hcv, hmv, _⟩ := ho.form (n := 0) (by rw [HTO.out.1]; rfl)
      have DVM := Lib.hid (row_made ho (fun k hk => (M.out.ge hk).2))
      have DVQ := Lib.hid (row_made ho (fun k hk => (Q.out.ge hk).2))
      have V := Lib.hid (ho.mono B.out.size)
      have Q' := Lib.hid (Q.out.fr hf DQM.out)
      have B' := Lib.hid (B.out.trans (M.out.toBelow hf))
      have M' := Lib.hid hq
      clear ho hq hf
      clear Q B M
      have Q := Q'
      have B := B'
      have M := M'
      clear Q' B' M'
      rw [HC.out]
      clear V DVM DVQ
      have M' := Lib.hid (show Mp x4 w.heap.size p N L S by have := M.out; rwa [HTO.out.2] at this)
      clear M
      have M := M'
      clear M'
      go_wp2_with fail
      go_at_call 25
      refine (Free_i M.out).mono ?_
      rintro e x5 ⟨rfl, hw⟩
      obtain rfl := hw.symm
      go_wp2_with fail
      go_at_call 15
      refine (works_c (HTZ.out.below B.out)).mono ?_
      rintro e x6 ⟨rfl, hb⟩
      have M' := Lib.hid (M.out.below hb)
      have Q' := Lib.hid (Q.out.below hb)
      have B' := Lib.hid (B.out.trans (hb.mono B.out.size))
      clear hb
      clear M Q B
      have M := M'
      have Q := Q'
      have B := B'
      clear M' Q' B'
      go_wp2_with fail
      go_ret
      exact ⟨rfl, B.out⟩
end FreW
end Go.Proofs.YtbnkaeigabifhaaDoor
