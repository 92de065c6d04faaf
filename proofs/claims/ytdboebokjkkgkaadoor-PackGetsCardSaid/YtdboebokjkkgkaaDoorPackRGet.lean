/-
  The reference reads a chunk.
-/
import Derived.Deep.RegionHeld3
import Derived.RegionTactic
import Derived.Test.YtdboebokjkkgkaaDoorPackRTicks
import Derived.Test.YtdboebokjkkgkaaDoorPackRPut
namespace Go.Proofs.YtdboebokjkkgkaaDoor
open Go.RowKit
set_option linter.unusedVariables false
set_option linter.unusedSimpArgs false
namespace PackW
open BytesW RunsW

theorem refC_eq {b : List UInt8} {x : UInt8} (h : b[0]? = some x) : refC b = if b.length < 1 + 2 * x.toNat then none else match refK b x.toNat with
    | none => none
    | some (k, is) => if is = true ∧ can k = true ∧ putC k = b then some k else none := by
  cases b with
  | nil => simp at h
  | cons y s =>
    have : y = x := by simpa using h
    subst this
    rfl
def cellOf (b : List UInt8) (x : UInt8) : Cell := (b.getD (1 + 2 * x.toNat) 0, b.getD (2 + 2 * x.toNat) 0)
theorem refCs_bad {b : List UInt8} {n : Nat} : ∀ {l : List UInt8} {j : Nat} {x : UInt8}, l[j]? = some x → n ≤ x.toNat → refCs b n l = none
  | [], j, x, h, _ => by simp at h
  | y :: r, 0, x, h, hn => by
    have : y = x := by simpa using h
    subst this
    rw [refCs, if_pos hn]
  | y :: r, j + 1, x, h, hn => by
    have := refCs_bad (b := b) (n := n) (l := r) (j := j) (x := x) (by simpa using h) hn
    rw [refCs, this]
    split <;> rfl
theorem refCs_next {b : List UInt8} {n : Nat} : ∀ {l : List UInt8} {j : Nat} {x : UInt8} {P : List Cell}, refCs b n (l.take j) = some P → l[j]? = some x → ¬ n ≤ x.toNat → refCs b n (l.take (j + 1)) = some (P ++ [cellOf b x])
  | [], j, x, P, _, h, _ => by simp at h
  | y :: r, 0, x, P, hP, h, hn => by
    have : y = x := by simpa using h
    subst this
    simp only [List.take_zero, refCs, Option.some.injEq] at hP
    subst hP
    simp [refCs, hn, cellOf]
  | y :: r, j + 1, x, P, hP, h, hn => by
    rw [List.take_succ_cons, refCs] at hP ⊢
    split at hP
    · cases hP
    · rename_i hy
      simp only [Option.map_eq_some_iff] at hP
      obtain ⟨P', h1, rfl⟩ := hP
      rw [if_neg hy, refCs_next h1 (by simpa using h) hn]
      rfl
theorem wp_neqS (w : World) {l m : List UInt8} (h : l ≠ m) : (binOp .neq 9 (.string ⟨l.toArray⟩) (.string ⟨m.toArray⟩)).run Tryd.prog w = .ok (.bool true) w := by
  simpa [go_sem] using h
def RGRel (w2 : World) (p : Nat) (b : List UInt8) (n : Nat) (one two : List UInt8) (i : Value) (wr : World) : Prop :=
  ∃ (j : Nat) (P : List Cell), i = .int .i64 j ∧ j ≤ 4096 ∧ P.length = j ∧ refCs b n (one.take j) = some P ∧ Chk wr p (P ++ zeros.drop j) ((two.take j).map unlnum ++ zeros.drop j) (.slice none 0 0) ∧ Below w2.heap.size w2 wr
theorem snoc_map {two : List UInt8} {j : Nat} {x : UInt8} (h : two[j]? = some x) : (two.take (j + 1)).map unlnum = (two.take j).map unlnum ++ [unlnum x] := by
  rw [List.take_add_one, h]
  simp

set_option maxRecDepth 100000 in
set_option maxHeartbeats 8000000 in
theorem rget_c {w : World} {A : Option Addr} {b : List UInt8} {c : Nat} {r : Option Ck} (hA : At w A b) (hc : b.length ≤ c) (hm : c ≤ maxLen) (hl : b.length ≤ 100000) (hr : refC b = r) :
    Calls Tryd.prog 17 #[.slice A b.length c] w (GetK w r) := by
  have HR := Lib.hid hr
  have HA := Lib.hid hA
  obtain ⟨L, hL⟩ : ∃ L, L = b.length := ⟨_, rfl⟩
  rw [← hL] at hc hl ⊢
  have HL := Lib.hid hL
  have HM := Lib.hid hm
  clear hr hA hL hm
  by_cases hL0 : L = 0
  · have HN : Hid (r = none) := Lib.hid (by
      have : b = [] := List.eq_nil_of_length_eq_zero (by rw [← HL.out, hL0])
      rw [← HR.out, this]
      rfl)
    subst hL0
    go_enter Tryd.func17, Tryd.ntmps17
    go_wp2_with fail
    go_ret2
    exact GetK.none HN.out (Below.refl _ _)
  · obtain ⟨x, hx⟩ : ∃ x, b[0]? = some x := ⟨_, List.getElem?_eq_getElem (by have := HL.out; omega)⟩
    obtain ⟨bb, oo, rfl, hbl, hcs⟩ := HA.out.c (fun e => by rw [e] at hx; simp at hx)
    have HCS := Lib.hid hcs
    obtain ⟨n, hn⟩ : ∃ n, n = x.toNat := ⟨_, rfl⟩
    obtain ⟨X, hX⟩ : ∃ X : Int, X = (n : Int) := ⟨_, rfl⟩
    have hnl : n < 256 := by have := x.toNat_lt; omega
    have h0 := hcs 0 x hx
    simp only [bv, ← hn, ← hX, Nat.add_zero] at h0
    have HRE : Hid (r = if L < 1 + 2 * n then none else match refK b n with
      | none => none
      | some (k, is) => if is = true ∧ can k = true ∧ putC k = b then some k else none) := Lib.hid (by rw [← HR.out, refC_eq hx, HL.out, hn])
    have hX0 : 0 ≤ X := by omega
    have hX1 : X < 256 := by omega
    have hLI : ¬ (L : Int) = 0 := by omega
    have hLP : (0 : Int) < L := by omega
    have HX := Lib.hid hX
    clear hcs hx hn hX
    by_cases hsh : L < 1 + 2 * n
    · have HN : Hid (r = none) := Lib.hid (by rw [HRE.out, if_pos hsh])
      have hsI : (L : Int) < 1 + 2 * X := by have := HX.out; omega
      clear hsh
      go_enter Tryd.func17, Tryd.ntmps17
      go_wp2_with fail
      go_ret2
      exact GetK.none HN.out (Below.refl _ _)
    · have HSH := Lib.hid hsh
      have hsI : ¬ (L : Int) < 1 + 2 * X := by have := HX.out; omega
      obtain ⟨a1, ha1⟩ : ∃ a, a = 1 + 2 * n := ⟨_, rfl⟩
      have HA1 := Lib.hid ha1
      obtain ⟨A1, hA1⟩ : ∃ A', A' = (if c = a1 then (some ⟨bb, oo, none⟩ : Option Addr) else (some ⟨bb, oo, none⟩ : Option Addr).map (·.add a1)) := ⟨_, rfl⟩
      have hrun1 : ∀ w : World, (Instr.sliceAt 26 (.slice (some ⟨bb, oo, none⟩) L c) (some (.int .i64 (1 + 2 * X))) none none).run Tryd.prog w = .ok (.slice A1 (L - a1) (c - a1)) w := fun w => by
        have := run_from (w := w) (A := some ⟨bb, oo, none⟩) (L := L) (c := c) (k := a1) (by omega)
        rw [← hA1, show (a1 : Int) = 1 + 2 * X by rw [HX.out, ha1]; omega] at this
        exact this
      have HD1 : Hid (∀ w, At w (some ⟨bb, oo, none⟩) b → At w A1 (b.drop a1)) := Lib.hid (fun w h => by rw [hA1]; exact h.drop a1 c (by have := HL.out; omega))
      have HRE2 : Hid (r = match refK b n with
        | none => none
        | some (k, is) => if is = true ∧ can k = true ∧ putC k = b then some k else none) := Lib.hid (by rw [HRE.out, if_neg hsh])
      obtain ⟨g1, hg1⟩ : ∃ g, rowGet (b.drop a1) 4096 = g := ⟨_, rfl⟩
      have HG1 := Lib.hid hg1
      have HC1 : Hid (∀ w, At w (some ⟨bb, oo, none⟩) b → Calls Tryd.prog 38 #[.slice A1 (L - a1) (c - a1), .int .i64 4096] w (GetP w (gOf g1))) := Lib.hid (fun w h => by
        have := r_get_c (cp := c - a1) (n := 4096) (HD1.out w h).c (by have := HL.out; simp; omega) (by have := HL.out; simp; omega) (show getA (b.drop a1) 4096 = gOf g1 by rw [← hg1]; rfl)
        rw [List.length_drop, ← HL.out] at this
        exact this)
      clear ha1 hA1 hg1 hsh
      rcases g1 with _ | ⟨one, u1⟩
      · have HN : Hid (r = none) := Lib.hid (by
          rw [HRE2.out, refK, ← HA1.out, HG1.out])
        go_enter Tryd.func17, Tryd.ntmps17
        go_wp2_with fail
        go_at_call 38
        refine (HC1.out _ HA.out).mono ?_
        rintro e w1 ⟨v1, rfl, hown1, hb1⟩
        clear hown1
        go_wp2_with fail
        go_ret2
        exact GetK.none HN.out hb1
      · obtain ⟨hol, hu1⟩ := get_len HG1.out
        rw [List.length_drop, ← HL.out] at hu1
        obtain ⟨U1, hU1⟩ : ∃ U : Int, U = (u1 : Int) := ⟨_, rfl⟩
        have HU1 := Lib.hid hU1
        obtain ⟨A2, hA2⟩ : ∃ A', A' = (if c = a1 + u1 then (some ⟨bb, oo, none⟩ : Option Addr) else (some ⟨bb, oo, none⟩ : Option Addr).map (·.add (a1 + u1))) := ⟨_, rfl⟩
        have ha1L : a1 ≤ L := by have := HA1.out; have := HSH.out; omega
        have hrun2 : ∀ w : World, (Instr.sliceAt 26 (.slice (some ⟨bb, oo, none⟩) L c) (some (.int .i64 (1 + 2 * X + U1))) none none).run Tryd.prog w = .ok (.slice A2 (L - (a1 + u1)) (c - (a1 + u1))) w := fun w => by
          have := run_from (w := w) (A := some ⟨bb, oo, none⟩) (L := L) (c := c) (k := a1 + u1) (by omega)
          rw [← hA2, show ((a1 + u1 : Nat) : Int) = 1 + 2 * X + U1 by rw [HX.out, hU1, HA1.out]; omega] at this
          exact this
        have HD2 : Hid (∀ w, At w (some ⟨bb, oo, none⟩) b → At w A2 (b.drop (a1 + u1))) := Lib.hid (fun w h => by rw [hA2]; exact h.drop (a1 + u1) c (by have := HL.out; omega))
        obtain ⟨g2, hg2⟩ : ∃ g, rowGet (b.drop (a1 + u1)) 4096 = g := ⟨_, rfl⟩
        have HG2 := Lib.hid hg2
        have HC2 : Hid (∀ w, At w (some ⟨bb, oo, none⟩) b → Calls Tryd.prog 38 #[.slice A2 (L - (a1 + u1)) (c - (a1 + u1)), .int .i64 4096] w (GetP w (gOf g2))) := Lib.hid (fun w h => by
          have := r_get_c (cp := c - (a1 + u1)) (n := 4096) (HD2.out w h).c (by have := HL.out; simp; omega) (by have := HL.out; simp; omega) (show getA (b.drop (a1 + u1)) 4096 = gOf g2 by rw [← hg2]; rfl)
          rw [List.length_drop, ← HL.out] at this
          exact this)
        have hU10 : 0 ≤ U1 := by omega
        have hU11 : U1 ≤ 100000 := by omega
        have HOL := Lib.hid hol
        clear hU1 hA2 hg2 hol
        rcases g2 with _ | ⟨two, u2⟩
        · have HN : Hid (r = none) := Lib.hid (by
            rw [HRE2.out, refK, ← HA1.out, HG1.out]
            simp only
            rw [HG2.out])
          go_enter Tryd.func17, Tryd.ntmps17
          go_wp2_with fail
          go_at_call 38
          refine (HC1.out _ HA.out).mono ?_
          rintro e w1 ⟨v1, rfl, hown1, hb1⟩
          clear hown1
          simp only [gOf, ← HU1.out]
          have HB1 := Lib.hid hb1
          clear hb1
          go_wp2_with fail
          go_at_call 38
          refine (HC2.out _ (HA.out.below HB1.out)).mono ?_
          rintro e w2 ⟨v2, rfl, hown2, hb2⟩
          clear hown2
          go_wp2_with fail
          go_ret2
          exact GetK.none HN.out (below_m HB1.out hb2)
        · obtain ⟨htl, hu2⟩ := get_len HG2.out
          rw [List.length_drop, ← HL.out] at hu2
          obtain ⟨U2, hU2⟩ : ∃ U : Int, U = (u2 : Int) := ⟨_, rfl⟩
          have HU2 := Lib.hid hU2
          obtain ⟨A3, hA3⟩ : ∃ A', A' = (if c = a1 + u1 + u2 then (some ⟨bb, oo, none⟩ : Option Addr) else (some ⟨bb, oo, none⟩ : Option Addr).map (·.add (a1 + u1 + u2))) := ⟨_, rfl⟩
          have hrun3 : ∀ w : World, (Instr.sliceAt 26 (.slice (some ⟨bb, oo, none⟩) L c) (some (.int .i64 (1 + 2 * X + U1 + U2))) none none).run Tryd.prog w = .ok (.slice A3 (L - (a1 + u1 + u2)) (c - (a1 + u1 + u2))) w := fun w => by
            have := run_from (w := w) (A := some ⟨bb, oo, none⟩) (L := L) (c := c) (k := a1 + u1 + u2) (by omega)
            rw [← hA3, show ((a1 + u1 + u2 : Nat) : Int) = 1 + 2 * X + U1 + U2 by rw [HX.out, HU1.out, hU2, HA1.out]; omega] at this
            exact this
          have HD3 : Hid (∀ w, At w (some ⟨bb, oo, none⟩) b → At w A3 (b.drop (a1 + u1 + u2))) := Lib.hid (fun w h => by rw [hA3]; exact h.drop (a1 + u1 + u2) c (by have := HL.out; omega))
          obtain ⟨⟨tl, tis⟩, hTR⟩ : ∃ q, tkRef (b.drop (a1 + u1 + u2)) = q := ⟨_, rfl⟩
          have HC3 : Hid (∀ w, At w (some ⟨bb, oo, none⟩) b → Calls Tryd.prog 39 #[.slice A3 (L - (a1 + u1 + u2)) (c - (a1 + u1 + u2))] w (RTksP w (tl, tis))) := Lib.hid (fun w h => by
            have := rticks_c (c := c - (a1 + u1 + u2)) (HD3.out w h) (by have := HL.out; simp; omega) (by have := HM.out; omega) (by have := HL.out; simp; omega) hTR
            rw [List.length_drop, ← HL.out] at this
            exact this)
          have HRK : Hid (refK b n = match refCs b n one with
            | none => none
            | some l => some (⟨l, two.map unlnum, tl⟩, tis)) := Lib.hid (by
            rw [refK, ← HA1.out, HG1.out]
            simp only
            rw [HG2.out]
            simp only
            rw [hTR]
            cases refCs b n one <;> rfl)
          have hU20 : 0 ≤ U2 := by omega
          have hU21 : U2 ≤ 100000 := by omega
          have HTL := Lib.hid htl
          clear hU2 hA3 hTR htl
          go_enter Tryd.func17, Tryd.ntmps17
          go_wp2_with fail
          go_at_call 38
          refine (HC1.out _ HA.out).mono ?_
          rintro e w1 ⟨v1, rfl, hown1, hb1⟩
          simp only [gOf, ← HU1.out]
          simp only [gOf] at hown1
          have HB1 := Lib.hid hb1
          have HO1 := Lib.hid hown1
          clear hb1 hown1
          go_wp2_with fail
          go_at_call 38
          refine (HC2.out _ (HA.out.below HB1.out)).mono ?_
          rintro e w2 ⟨v2, rfl, hown2, hb2⟩
          simp only [gOf, ← HU2.out]
          simp only [gOf] at hown2
          have HB2 := Lib.hid (below_m HB1.out hb2)
          have HO2 := Lib.hid hown2
          have HO12 := Lib.hid (HO1.out.below hb2)
          clear hb2 hown2
          obtain ⟨O1, oc1, rfl, hO1, _, _⟩ := HO12.out.sl
          obtain ⟨O2, oc2, rfl, hO2, _, _⟩ := HO2.out.sl
          obtain ⟨ob1, oo1, rfl, hol1, hoc1⟩ := hO1.c (fun e => by have := HOL.out; rw [e] at this; simp at this)
          obtain ⟨ob2, oo2, rfl, hol2, hoc2⟩ := hO2.c (fun e => by have := HTL.out; rw [e] at this; simp at this)
          have HOC1 := Lib.hid hoc1
          have HOC2 := Lib.hid hoc2
          rw [HOL.out, HTL.out]
          obtain ⟨p, hp⟩ : ∃ p, p = w2.heap.size := ⟨_, rfl⟩
          have HP := Lib.hid hp
          clear hO1 hO2 hoc1 hoc2
          go_wp2_with (first
            | ((with_reducible refine at_slot 61 ?_); refine wp_build rfl rfl ?_)
            | ((with_reducible refine at_slot 62 ?_); refine wp_box rfl (.tmp 61) rfl rfl ?_; intro w3 hk3 hb3 hz3; rw [← hp] at hk3; simp only [← HP.out]; clear hp))
          have HK3 := Lib.hid hk3
          have HB3 := Lib.hid hb3
          clear hk3 hb3 hz3
          go_loopw [11] (RGRel w2 p b n one two) (fun v _ => 4096 - (intOf v).toNat)
          case atStart => exact ⟨0, [], rfl, by omega, rfl, rfl, by simpa using HK3.out, HB3.out⟩
          case round =>
            obtain ⟨j, P, rfl, hj, hPl, hPr, hck, hbw⟩ := hrel
            have HPR := Lib.hid hPr
            have HPL := Lib.hid hPl
            have HCK := Lib.hid hck
            have HBW := Lib.hid hbw
            have hzw := hbw.size
            clear hPr hPl hck hbw
            by_cases hj4 : j < 4096
            · have hjI : (j : Int) < 4096 := by omega
              obtain ⟨x1, hx1⟩ : ∃ x, one[j]? = some x := ⟨_, List.getElem?_eq_getElem (by have := HOL.out; omega)⟩
              obtain ⟨x2, hx2⟩ : ∃ x, two[j]? = some x := ⟨_, List.getElem?_eq_getElem (by have := HTL.out; omega)⟩
              obtain ⟨k, hk⟩ : ∃ k, k = x1.toNat := ⟨_, rfl⟩
              obtain ⟨K, hK⟩ : ∃ K : Int, K = (k : Int) := ⟨_, rfl⟩
              obtain ⟨Z, hZ⟩ : ∃ Z : Int, Z = (x2.toNat : Int) := ⟨_, rfl⟩
              have c1 := (HBW.out.cell (p := ⟨ob1, oo1 + j, none⟩) hol1).trans (HOC1.out j x1 hx1)
              have c2 := (HBW.out.cell (p := ⟨ob2, oo2 + j, none⟩) hol2).trans (HOC2.out j x2 hx2)
              simp only [bv, ← hk, ← hK] at c1
              simp only [bv, ← hZ] at c2
              have HX1 := Lib.hid hx1
              have HX2 := Lib.hid hx2
              have HK := Lib.hid hk
              have HKK := Lib.hid hK
              have HZ := Lib.hid hZ
              have hk0 : 0 ≤ K := by omega
              have hk1 : K < 256 := by have := x1.toNat_lt; omega
              have hz0 : 0 ≤ Z := by omega
              have hz1 : Z < 256 := by have := x2.toNat_lt; omega
              by_cases hkn : n ≤ k
              · have hkI : X ≤ K := by have := HX.out; omega
                have HN : Hid (r = none) := Lib.hid (by
                  rw [HRE2.out, HRK.out, refCs_bad hx1 (by omega)])
                clear hx1 hx2 hk hK hZ
                go_wp2_with fail
                go_ret2
                exact GetK.none HN.out (below_m HB2.out HBW.out)
              · have hkI : ¬ X ≤ K := by have := HX.out; omega
                have hkI2 : 1 + 2 * K < L := by have := HSH.out; omega
                have hkI3 : 2 + 2 * K < L := by have := HSH.out; omega
                obtain ⟨y1, hy1⟩ : ∃ y, b[1 + 2 * k]? = some y := ⟨_, List.getElem?_eq_getElem (by have := HL.out; have := HSH.out; omega)⟩
                obtain ⟨y2, hy2⟩ : ∃ y, b[2 + 2 * k]? = some y := ⟨_, List.getElem?_eq_getElem (by have := HL.out; have := HSH.out; omega)⟩
                have HCO : Hid (cellOf b x1 = (y1, y2)) := Lib.hid (by
                  rw [cellOf, ← hk, List.getD_eq_getElem?_getD, List.getD_eq_getElem?_getD, hy1, hy2]
                  rfl)
                have HBWW := Lib.hid (below_m HB2.out HBW.out)
                have d1 := (HBWW.out.cell (p := ⟨bb, oo + (1 + 2 * k), none⟩) hbl).trans (HCS.out _ y1 hy1)
                have d2 := (HBWW.out.cell (p := ⟨bb, oo + (2 + 2 * k), none⟩) hbl).trans (HCS.out _ y2 hy2)
                obtain ⟨Y1, hY1⟩ : ∃ Y : Int, Y = (y1.toNat : Int) := ⟨_, rfl⟩
                obtain ⟨Y2, hY2⟩ : ∃ Y : Int, Y = (y2.toNat : Int) := ⟨_, rfl⟩
                simp only [bv, ← hY1] at d1
                simp only [bv, ← hY2] at d2
                have HY1 := Lib.hid hY1
                have HY2 := Lib.hid hY2
                have e1 : (1 + 2 * K).toNat = 1 + 2 * k := by omega
                have e2 : (2 + 2 * K).toNat = 2 + 2 * k := by omega
                have hP4 := HPL.out
                have hCl := HCK.out.2.1
                have hLl := HCK.out.2.2
                obtain ⟨y3, hy3⟩ : ∃ y, (P ++ zeros.drop j)[j]? = some y := ⟨_, List.getElem?_eq_getElem (by omega)⟩
                obtain ⟨y4, hy4⟩ : ∃ y, ((two.take j).map unlnum ++ zeros.drop j)[j]? = some y := ⟨_, List.getElem?_eq_getElem (by omega)⟩
                have g0 := (HCK.out.cell (j * 2)).trans (ckV_c hCl hy3).1
                have g1 := (HCK.out.cell (j * 2 + 1)).trans (ckV_c hCl hy3).2
                have g2 := (HCK.out.cell (8192 + j * 2)).trans (ckV_l hCl hy4).1
                have g3 := (HCK.out.cell (8192 + j * 2 + 1)).trans (ckV_l hCl hy4).2
                have f0 := HCK.out.frozen (j * 2)
                have f1 := HCK.out.frozen (j * 2 + 1)
                have f2 := HCK.out.frozen (8192 + j * 2)
                have f3 := HCK.out.frozen (8192 + j * 2 + 1)
                have n1 : ob1 ≠ p := by have := HP.out; omega
                have n2 : ob2 ≠ p := by have := HP.out; omega
                have n3 : bb ≠ p := by have := HP.out; have := HB2.out.size; omega
                clear hx1 hx2 hk hK hZ hy1 hy2 hY1 hY2 hP4 hCl hLl hy3 hy4
                go_wp2_with fail
                go_region
                go_wp2_with fail
                go_region
                go_wp2_with fail
                go_roundw
                case rel =>
                  have h := (HCK.out.setC hj4 (y1, y2)).setL hj4 (unlnum x2)
                  have e3 : bv y1 = .int .u8 Y1 := by rw [HY1.out]; rfl
                  have e4 : bv y2 = .int .u8 Y2 := by rw [HY2.out]; rfl
                  have e5 : bv (unlnum x2).1 = .int .u8 (Z / 16) := by rw [HZ.out]; simp [bv, unlnum, UInt8.toNat_div]
                  have e6 : bv (unlnum x2).2 = .int .u8 (Z % 16) := by rw [HZ.out]; simp [bv, unlnum, UInt8.toNat_mod]
                  simp only at h
                  rw [e3, e4, e5, e6, upd_set HPL.out (by rw [zeros_len]; omega), upd_set (by have := HTL.out; simp; omega) (by rw [zeros_len]; omega), ← snoc_map HX2.out, ← HCO.out] at h
                  have hpw : w2.heap.size ≤ p := by have := HP.out; omega
                  refine ⟨j + 1, _, by go_num, by omega, by have := HPL.out; simp; omega, refCs_next HPR.out HX1.out (by have := HK.out; omega), by first | exact h.drew.drew | exact h.drew | exact h, ?_⟩
                  have hbel := (((HBW.out.setCell (p := ⟨p, j * 2, none⟩) hpw (.int .u8 Y1)).setCell (p := ⟨p, j * 2 + 1, none⟩) hpw (.int .u8 Y2)).setCell (p := ⟨p, 8192 + j * 2, none⟩) hpw (.int .u8 (Z / 16))).setCell (p := ⟨p, 8192 + j * 2 + 1, none⟩) hpw (.int .u8 (Z % 16))
                  first | exact hbel.drew.drew | exact hbel.drew | exact hbel
                case measure => simp [intOf]; omega
            · have hjI : ¬ (j : Int) < 4096 := by omega
              obtain rfl : j = 4096 := by omega
              have HFC : Hid (refCs b n one = some P) := Lib.hid (by have := HPR.out; rwa [List.take_of_length_le (by have := HOL.out; omega)] at this)
              have HCK2 : Hid (Chk wr p P (two.map unlnum) (.slice none 0 0)) := Lib.hid (by
                have h := HCK.out
                rw [List.take_of_length_le (by have := HTL.out; omega), List.drop_of_length_le (by have := zeros_len; omega), List.append_nil, List.append_nil] at h
                exact h)
              obtain ⟨k, hk⟩ : ∃ k : Ck, k = ⟨P, two.map unlnum, tl⟩ := ⟨_, rfl⟩
              have HRF : Hid (r = if tis = true ∧ can k = true ∧ putC k = b then some k else none) := Lib.hid (by rw [HRE2.out, HRK.out, HFC.out, hk])
              have HBWW := Lib.hid (below_m HB2.out HBW.out)
              have HPP := Lib.hid (show w.heap.size ≤ p by have := HP.out; have := HB2.out.size; omega)
              obtain ⟨⟨bs, er⟩, hPA⟩ : ∃ R, putA k = R := ⟨_, rfl⟩
              have HPA := Lib.hid hPA
              have HKE := Lib.hid hk
              clear hk hPA
              go_wp2_with fail
              go_at_call 39
              refine (HC3.out _ (HA.out.below HBWW.out)).mono ?_
              rintro e w4 ⟨v4, rfl, hown4, htl4, hb4⟩
              simp only at hown4 htl4 ⊢
              obtain ⟨TA, tc, rfl, hTA, htc, htcm⟩ := hown4.typed
              have HTA := Lib.hid hTA
              have HK4 := Lib.hid (HCK2.out.below hb4)
              have HB4 := Lib.hid (below_m HBWW.out hb4)
              have q1 := HK4.out.frozen 16384
              have q2 := HK4.out.t
              obtain ⟨tn, htn⟩ : ∃ tn, tn = tl.length := ⟨_, rfl⟩
              rw [← htn] at htc htl4 ⊢
              have HTN := Lib.hid htn
              clear hb4 hown4 hTA htn
              have HS5 : Hid (ChkK (w4.setCell ⟨p, 16384, none⟩ (.slice TA tn tc)) p k ∧ Below w.heap.size w (w4.setCell ⟨p, 16384, none⟩ (.slice TA tn tc))) := Lib.hid (by
                rw [HKE.out, HTN.out]
                exact ⟨⟨TA, tc, HK4.out.setT _, (pair_chk HTA.out (by decide) HK4.out (grown_set w4 p 16384 _)).c, by have := HTN.out; simp only; omega, htcm, by have := HTN.out; simp only; omega⟩, HB4.out.setCell (by have := HPP.out; simp only; omega) _⟩)
              go_wp2_with fail
              go_at_call 13
              refine calls_namedT (fun W => ChkK W p k ∧ Below w.heap.size w W) HS5.out ?_
              rintro w5 ⟨hk5, hb5⟩
              refine (rput_c hk5 HPA.out).mono ?_
              rintro e w6 ⟨v6, rfl, hown6, hb6⟩
              simp only at hown6 ⊢
              obtain ⟨A6, c6, rfl, hA6, hc6, hm6⟩ := hown6.sl
              have HK6 := Lib.hid (hk5.below hb6)
              have HB6 := Lib.hid (below_m hb5 hb6)
              have r135 := run_str w6 c6 hA6
              have r137 : (convert 26 9 (.slice (some ⟨bb, oo, none⟩) L c)).run Tryd.prog w6 = .ok (.string ⟨b.toArray⟩) w6 := by
                have := run_str w6 c (HA.out.below HB6.out)
                rw [← HL.out] at this
                exact this
              obtain ⟨bl, hbl2⟩ : ∃ bl, bl = bs.length := ⟨_, rfl⟩
              rw [← hbl2] at r135 hc6 ⊢
              clear hk5 hb5 hb6 hown6 hA6 hbl2
              cases tis with
              | false =>
                have HN : Hid (r = none) := Lib.hid (by rw [HRF.out, if_neg]; rintro ⟨h, _⟩; cases h)
                go_wp2_with fail
                go_ret2
                exact GetK.none HN.out HB6.out
              | true =>
                cases hcan : can k with
                | false =>
                  have HE : Hid (er = 2) := Lib.hid (by have := HPA.out; rw [putA, hcan] at this; simp at this; omega)
                  obtain rfl := HE.out
                  have HN : Hid (r = none) := Lib.hid (by rw [HRF.out, if_neg]; rw [hcan]; rintro ⟨_, h, _⟩; cases h)
                  clear hcan
                  go_wp2_with fail
                  go_ret2
                  exact GetK.none HN.out HB6.out
                | true =>
                  have h := HPA.out
                  rw [putA, hcan, if_pos rfl] at h
                  have h1 : putC k = bs := congrArg Prod.fst h
                  have h2 : er = 0 := (congrArg Prod.snd h).symm
                  subst h2
                  have HBS := Lib.hid h1
                  have HCAN := Lib.hid hcan
                  clear h h1 hcan
                  by_cases hbb : bs = b
                  · have HY : Hid (r = some k) := Lib.hid (by rw [HRF.out, if_pos ⟨rfl, HCAN.out, HBS.out.trans hbb⟩])
                    rw [hbb] at r135
                    clear hbb
                    go_wp2_with fail
                    go_ret2
                    refine ⟨HB6.out, fun h => ?_, fun k' h => ?_⟩
                    · rw [HY.out] at h
                      cases h
                    · rw [HY.out] at h
                      injection h with h
                      subst h
                      exact ⟨p, rfl, HK6.out, HPP.out⟩
                  · have HN : Hid (r = none) := Lib.hid (by rw [HRF.out, if_neg]; rintro ⟨_, _, h⟩; exact hbb (HBS.out.symm.trans h))
                    have hne : (bs == b) = false := by simpa using hbb
                    clear hbb
                    go_wp2_with fail
                    go_ret2
                    exact GetK.none HN.out HB6.out
end PackW
end Go.Proofs.YtdboebokjkkgkaaDoor
