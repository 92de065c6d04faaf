/-
  FreemapHomes: a map's homes are the document's, and whatever sectors are handed in are a map's homes, or none, as it says.
-/
import Derived.Test.YtbnkaeigabifhaaDoorFreeLaw2
-- mine: whole_c same_c awake_c take_c step_c back_c Made number_c next_c fixed_c clone_c int_c end_c put_c
namespace Go.Proofs.YtbnkaeigabifhaaDoor
open Go.RowKit
set_option linter.unusedVariables false
set_option linter.unusedSimpArgs false
set_option maxRecDepth 100000
namespace FreW
open BlkP RowG FrS PushG FreP
open CrcW (Tab)
set_option maxHeartbeats 2000000 in
theorem law_homes {w : World} {n : Int} {A A2 : Option Addr} {m c m2 c2 : Nat} {l : List Int} {hl : List (List UInt8)} (hZ : TabZ w) (hC : Tab w) (hR : Rd RowG.encI w (.slice A m c) l) (hm : l.length = m) (hR2 : Rd encS w (.slice A2 m2 c2) hl) (hm2 : hl.length = m2) :
    Calls Tryd.prog 4 #[.int .i64 n, .slice A m c, .slice A2 m2 c2] w fun e w' => e = .returned (.bool true) ∧ Below w.heap.size w w' := by
  have HTZ := Lib.hid hZ
  have HTC := Lib.hid hC
  have HRD := Lib.hid hR
  have HL := Lib.hid hm
  have hmb : m ≤ 9223372036854775807 := by have := rd_cap hR; omega
  have hmb2 : m2 ≤ 9223372036854775807 := by have := rd_cap hR2; omega
  have hcap2 := (rd_cap hR2).2.1
  obtain ⟨t, ht⟩ : ∃ t : Nat, t = min m2 40 := ⟨_, rfl⟩
  have hmn : (if 40 < (m2 : Int) then (40 : Int) else (m2 : Int)) = (t : Int) := by split <;> omega
  have ht2 : t ≤ m2 := by omega
  have htc : t ≤ c2 := by omega
  have HR2 := Lib.hid (rd_takeG hR2 t (by rw [hm2]; exact ht2))
  obtain ⟨hk, hhk⟩ : ∃ hk, hk = hl.take t := ⟨_, rfl⟩
  have HHL := Lib.hid (show hk.length = t by rw [hhk, List.length_take]; omega)
  rw [← hhk] at HR2
  have B := Lib.hid (Below.refl w.heap.size w)
  clear hZ hC hR hm hR2 hm2 ht hhk
  cases hn : isM n
  · have HN := Lib.hid hn
    clear hn
    go_enter Tryd.func4, Tryd.ntmps4
    go_wp2_with fail
    go_at_call 11
    refine (New_no HN.out _).mono ?_
    rintro e x1 ⟨rfl, hw⟩
    obtain rfl := hw.symm
    go_wp2_with fail
    go_at_call 12
    refine (rNew_no HN.out _).mono ?_
    rintro e x2 ⟨rfl, hw⟩
    obtain rfl := hw.symm
    go_wp2_with ((with_reducible refine at_slot 34 ?_); refine Classical.byContradiction (fun hG => ?_))
    refine hG ?_
    clear hG
    refine wp_uptoT underSs infoS rfl (.tmp 30) (.tmp 33) rfl rfl rfl htc ?_
    go_wp2_with fail
    go_at_call 32
    refine (Of_no HN.out).mono ?_
    rintro e x3 ⟨rfl, hb⟩
    have B' := Lib.hid (B.out.trans (hb.mono B.out.size))
    clear hb
    clear B
    have B := B'
    clear B'
    go_wp2_with fail
    go_at_call 33
    refine (rOf_no HN.out).mono ?_
    rintro e x4 ⟨rfl, hb⟩
    have B' := Lib.hid (B.out.trans (hb.mono B.out.size))
    clear hb
    clear B
    have B := B'
    clear B'
    go_wp2_with fail
    go_at_call 15
    refine (works_c (HTZ.out.below B.out)).mono ?_
    rintro e x5 ⟨rfl, hb⟩
    have B' := Lib.hid (B.out.trans (hb.mono B.out.size))
    clear hb
    clear B
    have B := B'
    clear B'
    go_wp2_with fail
    go_ret
    exact ⟨rfl, B.out⟩
  · obtain ⟨lo, hi⟩ := isM_iff.1 hn
    clear hn
    obtain ⟨N, rfl⟩ := Int.eq_ofNat_of_zero_le (show 0 ≤ n by omega)
    have hlo : 256 ≤ N := by omega
    have hhi : N ≤ 131072 := by omega
    go_enter Tryd.func4, Tryd.ntmps4
    go_wp2_with fail
    go_at_call 11
    refine (New_i hlo hhi w).mono ?_
    rintro e x1 ⟨p, rfl, S, hq, hb⟩
    have M := Lib.hid (hq.mono (B' := w.heap.size) B.out.size)
    clear hq
    have B' := Lib.hid (B.out.trans (hb.mono B.out.size))
    clear hb
    clear B
    have B := B'
    clear B'
    go_wp2_with fail
    go_at_call 12
    refine (rNew_i hlo hhi _).mono ?_
    rintro e x2 ⟨pr, rfl, S2, hq, hb⟩
    have DMR := Lib.hid (show ∀ k, S k → ¬ S2 k from apart_new (w := x1) (fun k hk => (M.out.ge hk).2) (fun k hk => (hq.ge hk).1))
    have DRM := Lib.hid (show ∀ k, S2 k → ¬ S k from fun k h1 h2 => DMR.out k h2 h1)
    have R := Lib.hid (hq.mono (B' := w.heap.size) B.out.size)
    clear hq
    have M' := Lib.hid (M.out.below hb)
    have B' := Lib.hid (B.out.trans (hb.mono B.out.size))
    clear hb
    clear M B
    have M := M'
    have B := B'
    clear M' B'
    go_wp2_with ((with_reducible refine at_slot 34 ?_); refine Classical.byContradiction (fun hG => ?_))
    refine hG ?_
    clear hG
    refine wp_uptoT underSs infoS rfl (.tmp 30) (.tmp 33) rfl rfl rfl htc ?_
    go_wp2_with fail
    go_loopw [11] (fun v11 wr => ∃ (i : Nat) (L : List Bool) (S2 : Nat → Prop), v11 = .int .i64 (i : Int) ∧ i ≤ m ∧ i ≤ 300 ∧ Mp wr w.heap.size p N L S ∧ Rm wr w.heap.size pr N L S2 ∧ (∀ k, S k → ¬ S2 k) ∧ Below w.heap.size w wr) (fun v11 _ => 300 - (RowKit.intOf v11).toNat)
    case atStart => exact ⟨0, full N, S2, rfl, by omega, by omega, M.out, R.out, DMR.out, B.out⟩
    case round =>
      obtain ⟨i, L, S3, rfl, hi1, hi2, hM, hR, hD, hbr⟩ := hrel
      clear M R B DMR DRM
      have M := Lib.hid hM
      have R := Lib.hid hR
      have B := Lib.hid hbr
      have DMR := Lib.hid hD
      have DRM := Lib.hid (show ∀ k, S3 k → ¬ S k from fun k h1 h2 => hD k h2 h1)
      have HLN := Lib.hid hM.len
      by_cases hlt : i < m ∧ i < 300
      · obtain ⟨hlt1, hlt2⟩ := hlt
        obtain ⟨x, hx⟩ : ∃ x, l[i]? = some x := ⟨_, List.getElem?_eq_getElem (by rw [HL.out]; exact hlt1)⟩
        have hI := Ints.arg (S := fun k => S k ∨ S3 k) HRD.out HL.out hbr (fun k hk => by
          rcases hk with hk | hk
          · exact (hM.ge hk).1
          · exact (hR.ge hk).1)
        obtain ⟨b, o, hA, hblt, hbn, hcl⟩ := hI.at_ (by omega)
        subst hA
        have HI := Lib.hid (hI.one hlt1 hx)
        have hcap := hI.cap
        have hq1 : i + 1 ≤ c := by omega
        have hqk : ¬ c - i = 0 := by omega
        clear hI hM hR hD hbr hcl hx
        go_wp2_with fail
        go_at_call 21

        have HIF : Hid (∀ w', Fr S wr w' → Ints w' (fun _ => False) (some ⟨b, o + i, none⟩) 1 (c - i) [x]) := Lib.hid (fun w' hf => (HI.out.fr2 hf (fun k _ hk => .inl hk)).weak (fun _ h => h.elim))
        refine (Keep_i M.out (HI.out.weak (fun k hk => .inl hk))).mono ?_
        rintro e x1 ⟨rfl, hq, hf⟩
        have HI4 := Lib.hid (HIF.out _ hf)
        have R' := Lib.hid (R.out.fr hf DRM.out)
        have B' := Lib.hid (B.out.trans (M.out.toBelow hf))
        have M' := Lib.hid hq
        clear hq hf HIF HI
        clear R B M
        have R := R'
        have B := B'
        have M := M'
        clear R' B' M'
        go_wp2_with fail
        go_at_call 22
        refine (rKeep_i R.out HI4.out).mono ?_
        rintro e x2 ⟨rfl, S4, hq, hf, hn⟩
        have M' := Lib.hid (M.out.fr hf DMR.out)
        have B' := Lib.hid (B.out.trans (R.out.toBelow hf))
        have DMR' := Lib.hid (apart_turned (fun k hk => (M.out.ge hk).2) DMR.out hn)
        have DRM' := Lib.hid (show ∀ k, S4 k → ¬ S k from fun k h1 h2 => DMR'.out k h2 h1)
        have R' := Lib.hid hq
        clear hq hf hn
        clear M B DMR DRM R
        have M := M'
        have B := B'
        have DMR := DMR'
        have DRM := DRM'
        have R := R'
        clear M' B' DMR' DRM' R'
        go_wp2_with fail
        go_roundw
        case rel => exact ⟨i + 1, _, S4, by go_num, by omega, by omega, M.out, R.out, DMR.out, B.out⟩
        case measure => simp [RowKit.intOf]; omega
      · clear hM hR hD hbr
        by_cases h1 : i < m
        · have h300 : i = 300 := by omega
          have hi3 : ¬ (i : Int) < 300 := by omega
          clear hlt h300
          go_wp2_with fail
          go_at_call 29
          refine (Homes_i M.out (HTC.out.below B.out)).mono ?_
          rintro e x1 ⟨_, rfl, ho, hb⟩
          obtain ⟨Au, cu, rfl, hcu, hmu, _⟩ := ho.form (homes_len L)
          have DUM := Lib.hid (row_made ho (fun k hk => (M.out.ge hk).2))
          have DUR := Lib.hid (row_made ho (fun k hk => (R.out.ge hk).2))
          have U := Lib.hid (ho.mono B.out.size)
          clear ho
          have M' := Lib.hid (M.out.below hb)
          have R' := Lib.hid (R.out.below hb)
          have B' := Lib.hid (B.out.trans (hb.mono B.out.size))
          clear hb
          clear M R B
          have M := M'
          have R := R'
          have B := B'
          clear M' R' B'
          go_wp2_with fail
          go_at_call 30
          refine (rHomes_i R.out).mono ?_
          rintro e x2 ⟨_, rfl, ho, hb⟩
          obtain ⟨Ax, cx, rfl, hcx, hmx, _⟩ := ho.form (homes_len L)
          have DXM := Lib.hid (row_made ho (fun k hk => (M.out.ge hk).2))
          have DXR := Lib.hid (row_made ho (fun k hk => (R.out.ge hk).2))
          have X := Lib.hid (ho.mono B.out.size)
          clear ho
          have M' := Lib.hid (M.out.below hb)
          have R' := Lib.hid (R.out.below hb)
          have U' := Lib.hid (U.out.below hb)
          have B' := Lib.hid (B.out.trans (hb.mono B.out.size))
          clear hb
          clear M R U B
          have M := M'
          have R := R'
          have U := U'
          have B := B'
          clear M' R' U' B'
          go_wp2_with fail
          go_at_call 31
          refine (Same_c U.out.rd X.out.rd (homes_len _) (homes_len _) (decide_eq_true rfl)).mono ?_
          rintro e x3 ⟨rfl, hb⟩
          have M' := Lib.hid (M.out.below hb)
          have R' := Lib.hid (R.out.below hb)
          have U' := Lib.hid (U.out.below hb)
          have X' := Lib.hid (X.out.below hb)
          have B' := Lib.hid (B.out.trans (hb.mono B.out.size))
          clear hb
          clear M R U X B
          have M := M'
          have R := R'
          have U := U'
          have X := X'
          have B := B'
          clear M' R' U' X' B'
          clear U X M R DMR DRM DUM DUR DXM DXR
          cases hof : ofM N hk with
          | none =>
            have HOF := Lib.hid hof
            clear hof
            go_wp2_with fail
            go_at_call 32
            refine ((Of_i hlo hhi (HTC.out.below B.out) (HR2.out.below B.out) HHL.out).mono (of_none2 HOF.out)).mono ?_
            rintro e x4 ⟨rfl, hb⟩
            have B' := Lib.hid (B.out.trans (hb.mono B.out.size))
            clear hb
            clear B
            have B := B'
            clear B'
            go_wp2_with fail
            go_at_call 33
            refine ((rOf_i hlo hhi (HR2.out.below B.out) HHL.out).mono (rof_none HOF.out)).mono ?_
            rintro e x5 ⟨rfl, hb⟩
            have B' := Lib.hid (B.out.trans (hb.mono B.out.size))
            clear hb
            clear B
            have B := B'
            clear B'
            go_wp2_with fail
            go_at_call 15
            refine (works_c (HTZ.out.below B.out)).mono ?_
            rintro e x6 ⟨rfl, hb⟩
            have B' := Lib.hid (B.out.trans (hb.mono B.out.size))
            clear hb
            clear B
            have B := B'
            clear B'
            go_wp2_with fail
            go_ret
            exact ⟨rfl, B.out⟩
          | some L5 =>
            have HOF := Lib.hid hof
            clear hof
            go_wp2_with fail
            go_at_call 32
            refine ((Of_i hlo hhi (HTC.out.below B.out) (HR2.out.below B.out) HHL.out).mono (of_some2 HOF.out)).mono ?_
            rintro e x4 ⟨p5, rfl, S5, hq, hb⟩
            have M := Lib.hid (hq.mono (B' := w.heap.size) B.out.size)
            clear hq
            have B' := Lib.hid (B.out.trans (hb.mono B.out.size))
            clear hb
            clear B
            have B := B'
            clear B'
            go_wp2_with fail
            go_at_call 33
            refine ((rOf_i hlo hhi (HR2.out.below B.out) HHL.out).mono (rof_some HOF.out)).mono ?_
            rintro e x5 ⟨p6, rfl, S6, hq, hb⟩
            have DMR := Lib.hid (show ∀ k, S5 k → ¬ S6 k from apart_new (w := x4) (fun k hk => (M.out.ge hk).2) (fun k hk => (hq.ge hk).1))
            have DRM := Lib.hid (show ∀ k, S6 k → ¬ S5 k from fun k h1 h2 => DMR.out k h2 h1)
            have R := Lib.hid (hq.mono (B' := w.heap.size) B.out.size)
            clear hq
            have M' := Lib.hid (M.out.below hb)
            have B' := Lib.hid (B.out.trans (hb.mono B.out.size))
            clear hb
            clear M B
            have M := M'
            have B := B'
            clear M' B'
            go_wp2_with fail
            go_at_call 29
            refine (Homes_i M.out (HTC.out.below B.out)).mono ?_
            rintro e x6 ⟨_, rfl, ho, hb⟩
            obtain ⟨Au, cu, rfl, hcu, hmu, _⟩ := ho.form (homes_len L5)
            have DUM := Lib.hid (row_made ho (fun k hk => (M.out.ge hk).2))
            have DUR := Lib.hid (row_made ho (fun k hk => (R.out.ge hk).2))
            have U := Lib.hid (ho.mono B.out.size)
            clear ho
            have M' := Lib.hid (M.out.below hb)
            have R' := Lib.hid (R.out.below hb)
            have B' := Lib.hid (B.out.trans (hb.mono B.out.size))
            clear hb
            clear M R B
            have M := M'
            have R := R'
            have B := B'
            clear M' R' B'
            go_wp2_with fail
            go_at_call 30
            refine (rHomes_i R.out).mono ?_
            rintro e x7 ⟨_, rfl, ho, hb⟩
            obtain ⟨Ax, cx, rfl, hcx, hmx, _⟩ := ho.form (homes_len L5)
            have DXM := Lib.hid (row_made ho (fun k hk => (M.out.ge hk).2))
            have DXR := Lib.hid (row_made ho (fun k hk => (R.out.ge hk).2))
            have X := Lib.hid (ho.mono B.out.size)
            clear ho
            have M' := Lib.hid (M.out.below hb)
            have R' := Lib.hid (R.out.below hb)
            have U' := Lib.hid (U.out.below hb)
            have B' := Lib.hid (B.out.trans (hb.mono B.out.size))
            clear hb
            clear M R U B
            have M := M'
            have R := R'
            have U := U'
            have B := B'
            clear M' R' U' B'
            go_wp2_with fail
            go_at_call 31
            refine (Same_c U.out.rd X.out.rd (homes_len _) (homes_len _) (decide_eq_true rfl)).mono ?_
            rintro e x8 ⟨rfl, hb⟩
            have M' := Lib.hid (M.out.below hb)
            have R' := Lib.hid (R.out.below hb)
            have U' := Lib.hid (U.out.below hb)
            have X' := Lib.hid (X.out.below hb)
            have B' := Lib.hid (B.out.trans (hb.mono B.out.size))
            clear hb
            clear M R U X B
            have M := M'
            have R := R'
            have U := U'
            have X := X'
            have B := B'
            clear M' R' U' X' B'
            go_wp2_with fail
            go_at_call 25
            refine (Free_i M.out).mono ?_
            rintro e x9 ⟨rfl, hw⟩
            obtain rfl := hw.symm
            go_wp2_with fail
            go_at_call 26
            refine (rFree_i R.out).mono ?_
            rintro e x10 ⟨rfl, hw⟩
            obtain rfl := hw.symm
            go_wp2_with fail
            go_at_call 15
            refine (works_c (HTZ.out.below B.out)).mono ?_
            rintro e x11 ⟨rfl, hb⟩
            have M' := Lib.hid (M.out.below hb)
            have R' := Lib.hid (R.out.below hb)
            have U' := Lib.hid (U.out.below hb)
            have X' := Lib.hid (X.out.below hb)
            have B' := Lib.hid (B.out.trans (hb.mono B.out.size))
            clear hb
            clear M R U X B
            have M := M'
            have R := R'
            have U := U'
            have X := X'
            have B := B'
            clear M' R' U' X' B'
            go_wp2_with fail
            go_ret
            exact ⟨rfl, B.out⟩
        · clear hlt
          go_wp2_with fail
          go_at_call 29
          refine (Homes_i M.out (HTC.out.below B.out)).mono ?_
          rintro e x1 ⟨_, rfl, ho, hb⟩
          obtain ⟨Au, cu, rfl, hcu, hmu, _⟩ := ho.form (homes_len L)
          have DUM := Lib.hid (row_made ho (fun k hk => (M.out.ge hk).2))
          have DUR := Lib.hid (row_made ho (fun k hk => (R.out.ge hk).2))
          have U := Lib.hid (ho.mono B.out.size)
          clear ho
          have M' := Lib.hid (M.out.below hb)
          have R' := Lib.hid (R.out.below hb)
          have B' := Lib.hid (B.out.trans (hb.mono B.out.size))
          clear hb
          clear M R B
          have M := M'
          have R := R'
          have B := B'
          clear M' R' B'
          go_wp2_with fail
          go_at_call 30
          refine (rHomes_i R.out).mono ?_
          rintro e x2 ⟨_, rfl, ho, hb⟩
          obtain ⟨Ax, cx, rfl, hcx, hmx, _⟩ := ho.form (homes_len L)
          have DXM := Lib.hid (row_made ho (fun k hk => (M.out.ge hk).2))
          have DXR := Lib.hid (row_made ho (fun k hk => (R.out.ge hk).2))
          have X := Lib.hid (ho.mono B.out.size)
          clear ho
          have M' := Lib.hid (M.out.below hb)
          have R' := Lib.hid (R.out.below hb)
          have U' := Lib.hid (U.out.below hb)
          have B' := Lib.hid (B.out.trans (hb.mono B.out.size))
          clear hb
          clear M R U B
          have M := M'
          have R := R'
          have U := U'
          have B := B'
          clear M' R' U' B'
          go_wp2_with fail
          go_at_call 31
          refine (Same_c U.out.rd X.out.rd (homes_len _) (homes_len _) (decide_eq_true rfl)).mono ?_
          rintro e x3 ⟨rfl, hb⟩
          have M' := Lib.hid (M.out.below hb)
          have R' := Lib.hid (R.out.below hb)
          have U' := Lib.hid (U.out.below hb)
          have X' := Lib.hid (X.out.below hb)
          have B' := Lib.hid (B.out.trans (hb.mono B.out.size))
          clear hb
          clear M R U X B
          have M := M'
          have R := R'
          have U := U'
          have X := X'
          have B := B'
          clear M' R' U' X' B'
          clear U X M R DMR DRM DUM DUR DXM DXR
          cases hof : ofM N hk with
          | none =>
            have HOF := Lib.hid hof
            clear hof
            go_wp2_with fail
            go_at_call 32
            refine ((Of_i hlo hhi (HTC.out.below B.out) (HR2.out.below B.out) HHL.out).mono (of_none2 HOF.out)).mono ?_
            rintro e x4 ⟨rfl, hb⟩
            have B' := Lib.hid (B.out.trans (hb.mono B.out.size))
            clear hb
            clear B
            have B := B'
            clear B'
            go_wp2_with fail
            go_at_call 33
            refine ((rOf_i hlo hhi (HR2.out.below B.out) HHL.out).mono (rof_none HOF.out)).mono ?_
            rintro e x5 ⟨rfl, hb⟩
            have B' := Lib.hid (B.out.trans (hb.mono B.out.size))
            clear hb
            clear B
            have B := B'
            clear B'
            go_wp2_with fail
            go_at_call 15
            refine (works_c (HTZ.out.below B.out)).mono ?_
            rintro e x6 ⟨rfl, hb⟩
            have B' := Lib.hid (B.out.trans (hb.mono B.out.size))
            clear hb
            clear B
            have B := B'
            clear B'
            go_wp2_with fail
            go_ret
            exact ⟨rfl, B.out⟩
          | some L5 =>
            have HOF := Lib.hid hof
            clear hof
            go_wp2_with fail
            go_at_call 32
            refine ((Of_i hlo hhi (HTC.out.below B.out) (HR2.out.below B.out) HHL.out).mono (of_some2 HOF.out)).mono ?_
            rintro e x4 ⟨p5, rfl, S5, hq, hb⟩
            have M := Lib.hid (hq.mono (B' := w.heap.size) B.out.size)
            clear hq
            have B' := Lib.hid (B.out.trans (hb.mono B.out.size))
            clear hb
            clear B
            have B := B'
            clear B'
            go_wp2_with fail
            go_at_call 33
            refine ((rOf_i hlo hhi (HR2.out.below B.out) HHL.out).mono (rof_some HOF.out)).mono ?_
            rintro e x5 ⟨p6, rfl, S6, hq, hb⟩
            have DMR := Lib.hid (show ∀ k, S5 k → ¬ S6 k from apart_new (w := x4) (fun k hk => (M.out.ge hk).2) (fun k hk => (hq.ge hk).1))
            have DRM := Lib.hid (show ∀ k, S6 k → ¬ S5 k from fun k h1 h2 => DMR.out k h2 h1)
            have R := Lib.hid (hq.mono (B' := w.heap.size) B.out.size)
            clear hq
            have M' := Lib.hid (M.out.below hb)
            have B' := Lib.hid (B.out.trans (hb.mono B.out.size))
            clear hb
            clear M B
            have M := M'
            have B := B'
            clear M' B'
            go_wp2_with fail
            go_at_call 29
            refine (Homes_i M.out (HTC.out.below B.out)).mono ?_
            rintro e x6 ⟨_, rfl, ho, hb⟩
            obtain ⟨Au, cu, rfl, hcu, hmu, _⟩ := ho.form (homes_len L5)
            have DUM := Lib.hid (row_made ho (fun k hk => (M.out.ge hk).2))
            have DUR := Lib.hid (row_made ho (fun k hk => (R.out.ge hk).2))
            have U := Lib.hid (ho.mono B.out.size)
            clear ho
            have M' := Lib.hid (M.out.below hb)
            have R' := Lib.hid (R.out.below hb)
            have B' := Lib.hid (B.out.trans (hb.mono B.out.size))
            clear hb
            clear M R B
            have M := M'
            have R := R'
            have B := B'
            clear M' R' B'
            go_wp2_with fail
            go_at_call 30
            refine (rHomes_i R.out).mono ?_
            rintro e x7 ⟨_, rfl, ho, hb⟩
            obtain ⟨Ax, cx, rfl, hcx, hmx, _⟩ := ho.form (homes_len L5)
            have DXM := Lib.hid (row_made ho (fun k hk => (M.out.ge hk).2))
            have DXR := Lib.hid (row_made ho (fun k hk => (R.out.ge hk).2))
            have X := Lib.hid (ho.mono B.out.size)
            clear ho
            have M' := Lib.hid (M.out.below hb)
            have R' := Lib.hid (R.out.below hb)
            have U' := Lib.hid (U.out.below hb)
            have B' := Lib.hid (B.out.trans (hb.mono B.out.size))
            clear hb
            clear M R U B
            have M := M'
            have R := R'
            have U := U'
            have B := B'
            clear M' R' U' B'
            go_wp2_with fail
            go_at_call 31
            refine (Same_c U.out.rd X.out.rd (homes_len _) (homes_len _) (decide_eq_true rfl)).mono ?_
            rintro e x8 ⟨rfl, hb⟩
            have M' := Lib.hid (M.out.below hb)
            have R' := Lib.hid (R.out.below hb)
            have U' := Lib.hid (U.out.below hb)
            have X' := Lib.hid (X.out.below hb)
            have B' := Lib.hid (B.out.trans (hb.mono B.out.size))
            clear hb
            clear M R U X B
            have M := M'
            have R := R'
            have U := U'
            have X := X'
            have B := B'
            clear M' R' U' X' B'
            go_wp2_with fail
            go_at_call 25
            refine (Free_i M.out).mono ?_
            rintro e x9 ⟨rfl, hw⟩
            obtain rfl := hw.symm
            go_wp2_with fail
            go_at_call 26
            refine (rFree_i R.out).mono ?_
            rintro e x10 ⟨rfl, hw⟩
            obtain rfl := hw.symm
            go_wp2_with fail
            go_at_call 15
            refine (works_c (HTZ.out.below B.out)).mono ?_
            rintro e x11 ⟨rfl, hb⟩
            have M' := Lib.hid (M.out.below hb)
            have R' := Lib.hid (R.out.below hb)
            have U' := Lib.hid (U.out.below hb)
            have X' := Lib.hid (X.out.below hb)
            have B' := Lib.hid (B.out.trans (hb.mono B.out.size))
            clear hb
            clear M R U X B
            have M := M'
            have R := R'
            have U := U'
            have X := X'
            have B := B'
            clear M' R' U' X' B'
            go_wp2_with fail
            go_ret
            exact ⟨rfl, B.out⟩
end FreW
end Go.Proofs.YtbnkaeigabifhaaDoor
