/-
  A cell in a row of cells; the palette that is cut off.
-/
import Derived.RegionTactic
import Derived.Test.YtdboebokjkkgkaaDoorPackRows
import Derived.Test.YtdboebokjkkgkaaDoorKindWalks
namespace Go.Proofs.YtdboebokjkkgkaaDoor
open Go.RowKit
set_option linter.unusedVariables false
set_option linter.unusedSimpArgs false
namespace PackW
open BytesW RunsW

def IdxRel (w : World) (P : List Cell) (c : Cell) (v : Value) (wr : World) : Prop := ∃ j : Nat, v = .int .i64 j ∧ j ≤ P.length ∧ c ∉ P.take j ∧ Below w.heap.size w wr ∧ w.heap.size < wr.heap.size ∧ wr.cell? ⟨w.heap.size, 0, none⟩ = some (bv c.1) ∧ wr.cell? ⟨w.heap.size, 1, none⟩ = some (bv c.2)
theorem take_next {P : List Cell} {c x : Cell} {j : Nat} (h : c ∉ P.take j) (hx : P[j]? = some x) (hne : c ≠ x) : c ∉ P.take (j + 1) := by
  rw [List.take_add_one, hx]
  simp only [Option.toList_some, List.mem_append, List.mem_singleton, not_or]
  exact ⟨h, hne⟩

set_option maxRecDepth 100000 in
set_option maxHeartbeats 4000000 in
theorem index_c {w : World} {A : Option Addr} {P : List Cell} {c : Cell} {cp : Nat} {X Y : Int} {r : Bool} (hA : PairC cv w A P) (hP : P.length ≤ 1000000) (hX : X = (c.1.toNat : Int)) (hY : Y = (c.2.toNat : Int)) (hr : decide (c ∈ P) = r) :
    Calls Tryd.prog 55 #[.slice A P.length cp, .agg #[.int .u8 X, .int .u8 Y]] w fun e w' => ∃ n : Int, e = .returned (.int .i64 n) ∧ decide (0 ≤ n) = r ∧ Below w.heap.size w w' := by
  have HX := Lib.hid hX
  have HY := Lib.hid hY
  have HR := Lib.hid hr
  obtain ⟨n, hn⟩ : ∃ n, n = P.length := ⟨_, rfl⟩
  rw [← hn]
  have hn1 : n ≤ 1000000 := by omega
  have HN := Lib.hid hn
  have HA := Lib.hid hA
  have hX0 : 0 ≤ X := by omega
  have hX1 : X < 256 := by have := c.1.toNat_lt; omega
  have hY0 : 0 ≤ Y := by omega
  have hY1 : Y < 256 := by have := c.2.toNat_lt; omega
  clear hX hY hr hn hA hP
  go_enter Tryd.func55, Tryd.ntmps55
  go_wp2_with fail
  go_loopw [8] (IdxRel w P c) (fun v _ => n - (intOf v).toNat)
  case atStart =>
    refine ⟨0, rfl, by omega, by simp, (Below.refl _ _).alloc (Nat.le_refl _) _, by simp, ?_, ?_⟩
    · rw [World.cell?_alloc_new, HX.out]
      rfl
    · rw [World.cell?_alloc_new, HY.out]
      rfl
  case round =>
    obtain ⟨j, rfl, hj, hnm, hbw, hlt, g0, g1⟩ := hrel
    have HB := Lib.hid hbw
    have HNM := Lib.hid hnm
    rw [bv, ← HX.out] at g0
    rw [bv, ← HY.out] at g1
    have hjn : j ≤ n := by have := HN.out; omega
    clear hbw hnm hj
    by_cases hjl : j < n
    · have hjI : (j : Int) < n := by omega
      obtain ⟨x, hx⟩ : ∃ x, P[j]? = some x := ⟨_, List.getElem?_eq_getElem (by have := HN.out; omega)⟩
      obtain ⟨b, o, rfl, hbl, hcs⟩ := (HA.out.below HB.out).cells (fun e => by rw [e] at hx; simp at hx)
      obtain ⟨p0, p1⟩ := hcs _ _ hx
      obtain ⟨U, hU⟩ : ∃ U : Int, U = (x.1.toNat : Int) := ⟨_, rfl⟩
      obtain ⟨V, hV⟩ : ∃ V : Int, V = (x.2.toNat : Int) := ⟨_, rfl⟩
      simp only [cv, bv, ← hU, ← hV] at p0 p1
      have Hx := Lib.hid hx
      have HU := Lib.hid hU
      have HV := Lib.hid hV
      have hj0 : (0 : Int) ≤ j := by omega
      clear hcs hx hU hV
      by_cases hq : X = U
      · subst hq
        by_cases hq2 : Y = V
        · subst hq2
          have hin : Hid (c ∈ P) := Lib.hid (by
            have e : c = x := Prod.ext (UInt8.toNat_inj.1 (by have := HX.out; have := HU.out; omega)) (UInt8.toNat_inj.1 (by have := HY.out; have := HV.out; omega))
            rw [e]
            exact List.mem_of_getElem? Hx.out)
          go_wp2_with fail
          go_quiet (fail)
          go_wp2
          go_ret
          exact ⟨_, rfl, by rw [← HR.out]; simp [hin.out], BaseP.below_drewN HB.out _⟩
        · have hq3 : (Y == V) = false := by simpa using hq2
          have hnx : Hid (c ≠ x) := Lib.hid (fun e => hq2 (by rw [HY.out, HV.out, e]))
          clear hq2
          go_wp2_with fail
          go_quiet (fail)
          go_wp2
          go_roundw
          case rel => exact ⟨j + 1, by go_num, by have := HN.out; omega, take_next HNM.out Hx.out hnx.out, BaseP.below_drewN HB.out _, hlt, by rw [bv, ← HX.out]; exact g0, by rw [bv, ← HY.out]; exact g1⟩
          case measure => simp [intOf]; omega
      · have hq3 : (X == U) = false := by simpa using hq
        have hnx : Hid (c ≠ x) := Lib.hid (fun e => hq (by rw [HX.out, HU.out, e]))
        clear hq
        go_wp2_with fail
        go_quiet (fail)
        go_wp2
        go_roundw
        case rel => exact ⟨j + 1, by go_num, by have := HN.out; omega, take_next HNM.out Hx.out hnx.out, BaseP.below_drewN HB.out _, hlt, by rw [bv, ← HX.out]; exact g0, by rw [bv, ← HY.out]; exact g1⟩
        case measure => simp [intOf]; omega
    · have hjI : ¬ (j : Int) < n := by omega
      have hin : Hid (c ∉ P) := Lib.hid (by
        have h := HNM.out
        rw [List.take_of_length_le (by have := HN.out; omega)] at h
        exact h)
      go_wp2_with fail
      go_ret
      exact ⟨_, rfl, by rw [← HR.out]; simp [hin.out], HB.out⟩

theorem contains_c {w : World} {A : Option Addr} {P : List Cell} {c : Cell} {cp : Nat} {X Y : Int} {r : Bool} (hA : PairC cv w A P) (hP : P.length ≤ 1000000) (hX : X = (c.1.toNat : Int)) (hY : Y = (c.2.toNat : Int)) (hr : decide (c ∈ P) = r) :
    Calls Tryd.prog 44 #[.slice A P.length cp, .agg #[.int .u8 X, .int .u8 Y]] w fun e w' => e = .returned (.bool r) ∧ Below w.heap.size w w' := by
  have HI : Hid (∀ w : World, PairC cv w A P → Calls Tryd.prog 55 #[.slice A P.length cp, .agg #[.int .u8 X, .int .u8 Y]] w fun e w' => ∃ n : Int, e = .returned (.int .i64 n) ∧ decide (0 ≤ n) = r ∧ Below w.heap.size w w') := Lib.hid (fun w h => index_c h hP hX hY hr)
  have HA := Lib.hid hA
  clear hA hX hY hr
  go_enter Tryd.func44, Tryd.ntmps44
  go_wp2_with fail
  go_at_call 55
  refine (HI.out _ (HA.out.below ((Below.refl _ _).alloc (Nat.le_refl _) _))).mono ?_
  rintro e w1 ⟨n, rfl, hd, hb1⟩
  go_wp2_with fail
  go_ret
  exact ⟨rfl, ((Below.refl _ _).alloc (Nat.le_refl _) _).trans (hb1.mono (by simp))⟩
end PackW
end Go.Proofs.YtdboebokjkkgkaaDoor


/-
  The palette that is cut off the bytes.
-/
namespace Go.Proofs.YtdboebokjkkgkaaDoor
open Go.RowKit
set_option linter.unusedVariables false
set_option linter.unusedSimpArgs false
namespace PackW
open BytesW RunsW

/-- What cutPalette answers. -/
def PalP (w : World) (A0 : Option Addr) (l : List UInt8) (r : Option (List Cell × List UInt8)) (e : Ending) (w' : World) : Prop :=
  ∃ v A n c b, e = .returned (.tuple #[v, .slice A n c, .bool b]) ∧ Below w.heap.size w w' ∧ (∀ P rest, r = some (P, rest) → b = true ∧ OwnP cv 43 w' w.heap.size v P ∧ n = rest.length ∧ (∀ W, AtC W A0 l → AtC W A rest) ∧ n ≤ c) ∧ (r = none → b = false)
theorem PalP.none {w w' : World} {A0 : Option Addr} {l : List UInt8} {r : Option (List Cell × List UInt8)} (hr : r = none) (hb : Below w.heap.size w w') : PalP w A0 l r (.returned (.tuple #[.slice none 0 0, .slice none 0 0, .bool false])) w' := by
  subst hr
  exact ⟨_, Option.none, 0, 0, false, rfl, hb, (fun P rest h => by cases h), fun _ => rfl⟩

def PalRel (w : World) (A0 : Option Addr) (l : List UInt8) (n : Nat) (R : Option (List Cell × List UInt8)) (vr vp i : Value) (wr : World) : Prop :=
  ∃ (k : Nat) (p : List Cell) (s : List UInt8) (A : Option Addr) (c : Nat), vr = .slice A s.length c ∧ i = .int .i64 k ∧ k ≤ n ∧ p.length = k ∧ 2 * (n - k) ≤ s.length ∧ s.length ≤ c ∧ (∀ W, AtC W A0 l → AtC W A s) ∧ OwnP cv 43 wr w.heap.size vp p ∧ Below w.heap.size w wr ∧ R = getPal (n - k) p s

set_option maxRecDepth 100000 in
set_option maxHeartbeats 4000000 in
theorem cutPalette_c {w : World} {A : Option Addr} {b : List UInt8} {c : Nat} {r : Option (List Cell × List UInt8)} (hT : KindW.Tab w) (hA : AtC w A b) (hc : b.length ≤ c) (hl : b.length ≤ 1000000) (hr : cutPal b = r) :
    Calls Tryd.prog 33 #[.slice A b.length c] w (PalP w A b r) := by
  have HR := Lib.hid hr
  clear hr
  rcases b with _ | ⟨x, s⟩
  · have HN : Hid (r = none) := Lib.hid (by rw [← HR.out]; rfl)
    go_enter Tryd.func33, Tryd.ntmps33
    go_wp2_with fail
    go_ret3
    exact PalP.none HN.out (Below.refl _ _)
  · obtain ⟨L, hL⟩ : ∃ L, L = (x :: s).length := ⟨_, rfl⟩
    have hLs : L = s.length + 1 := by rw [hL]; simp
    rw [← hL] at hc hl ⊢
    obtain ⟨bb, oo, rfl, hcs⟩ := hA.cells (by simp)
    have h0 := hcs 0 x rfl
    have hlt := World.block_lt_of_cell? w _ h0
    obtain ⟨X, hX⟩ : ∃ X : Int, X = (x.toNat : Int) := ⟨_, rfl⟩
    simp only [bv, ← hX] at h0
    rw [Nat.add_zero] at h0
    have hX0 : 0 ≤ X := by omega
    have hX1 : X < 256 := by have := x.toNat_lt; omega
    have HX := Lib.hid hX
    obtain ⟨A1, hA1⟩ : ∃ A1, A1 = (if c = 1 then (some ⟨bb, oo, none⟩ : Option Addr) else (some ⟨bb, oo, none⟩ : Option Addr).map (·.add 1)) := ⟨_, rfl⟩
    have hrun : ∀ w : World, (Instr.sliceAt 26 (.slice (some ⟨bb, oo, none⟩) L c) (some (.int .i64 1)) none none).run Tryd.prog w = .ok (.slice A1 s.length (c - 1)) w := fun w => by
      have := run_from (w := w) (A := some ⟨bb, oo, none⟩) (L := L) (c := c) (k := 1) (by omega)
      rw [← hA1, show L - 1 = s.length by omega] at this
      exact this
    have HA1 : Hid (∀ W, AtC W (some ⟨bb, oo, none⟩) (x :: s) → AtC W A1 s) := Lib.hid (fun W h => by
      have := h.drop 1 c (by simp; omega)
      rw [← hA1] at this
      exact this)
    have HA := Lib.hid hA
    have hL1 : 1 ≤ L := by omega
    have hLne : ((L : Int) == 0) = false := by simp; omega
    have HL := Lib.hid hLs
    have HT := Lib.hid hT
    clear hX hA1 hL hLs hA hcs hT
    by_cases hshort : (s.length : Int) < X * 2
    · have HN : Hid (r = none) := Lib.hid (by rw [← HR.out, cutPal, if_pos (by have := HX.out; omega)])
      go_enter Tryd.func33, Tryd.ntmps33
      go_wp2_with fail
      go_quiet (fail)
      go_wp2_with fail
      go_ret3
      exact PalP.none HN.out (BaseP.below_drewN (Below.refl _ _) _)
    · obtain ⟨n, rfl⟩ := Int.eq_ofNat_of_zero_le hX0
      have HP : Hid (getPal n [] s = r) := Lib.hid (by
        rw [← HR.out, cutPal, if_neg (by have := HX.out; omega)]
        congr 1
        have := HX.out
        omega)
      go_enter Tryd.func33, Tryd.ntmps33
      go_wp2_with fail
      go_quiet (fail)
      go_wp2_with fail
      go_loopw [6, 7, 24] (PalRel w (some ⟨bb, oo, none⟩) (x :: s) n r) (fun _ _ v _ => n - (intOf v).toNat)
      case atStart => exact ⟨0, [], s, A1, c - 1, rfl, rfl, by omega, rfl, by omega, by have := HL.out; omega, HA1.out, OwnP.nil _ _ _, BaseP.below_drewN (Below.refl _ _) _, HP.out.symm⟩
      case round =>
        obtain ⟨k, p, t, A2, c2, rfl, rfl, hk, hp, ht, htc, hA2, hown, hbw, hget⟩ := hrel
        have HO := Lib.hid hown
        have HB := Lib.hid hbw
        have HG := Lib.hid hget
        have HPL := Lib.hid hp
        have HA2 := Lib.hid hA2
        clear hown hbw hget hp hA2
        by_cases hkn : k < n
        · have hkI : (k : Int) < n := by omega
          obtain ⟨d, hd⟩ : ∃ d, n - k = d + 1 := ⟨n - k - 1, by omega⟩
          rcases t with _ | ⟨a, _ | ⟨b', t'⟩⟩
          · simp at ht; omega
          · simp at ht; omega
          · obtain ⟨L2, hL2⟩ : ∃ L2, L2 = (a :: b' :: t').length := ⟨_, rfl⟩
            have hL2s : L2 = t'.length + 2 := by rw [hL2]; simp
            rw [← hL2] at ht htc ⊢
            obtain ⟨b2, o2, rfl, hcs⟩ := ((HA2.out _ HA.out).below HB.out).cells (by simp)
            have h0 := hcs 0 a rfl
            have h1 := hcs 1 b' rfl
            have hlt2 := World.block_lt_of_cell? wr _ h0
            simp only at hlt2
            obtain ⟨X, hX⟩ : ∃ X : Int, X = (a.toNat : Int) := ⟨_, rfl⟩
            obtain ⟨Y, hY⟩ : ∃ Y : Int, Y = (b'.toNat : Int) := ⟨_, rfl⟩
            simp only [bv, ← hX, ← hY] at h0 h1
            rw [Nat.add_zero] at h0
            obtain ⟨A3, hA3⟩ : ∃ A3, A3 = (if c2 = 2 then (some ⟨b2, o2, none⟩ : Option Addr) else (some ⟨b2, o2, none⟩ : Option Addr).map (·.add 2)) := ⟨_, rfl⟩
            have hrun2 : ∀ w : World, (Instr.sliceAt 26 (.slice (some ⟨b2, o2, none⟩) L2 c2) (some (.int .i64 2)) none none).run Tryd.prog w = .ok (.slice A3 t'.length (c2 - 2)) w := fun w => by
              have := run_from (w := w) (A := some ⟨b2, o2, none⟩) (L := L2) (c := c2) (k := 2) (by omega)
              rw [← hA3, show L2 - 2 = t'.length by omega] at this
              exact this
            have HA3 : Hid (∀ W, AtC W (some ⟨bb, oo, none⟩) (x :: s) → AtC W A3 t') := Lib.hid (fun W h => by
              have := (HA2.out W h).drop 2 c2 (by simp; omega)
              rw [← hA3] at this
              exact this)
            obtain ⟨m, hm⟩ : ∃ m, mayC (a, b') = m := ⟨_, rfl⟩
            have HMAY : Hid (∀ w : World, KindW.Tab w → Calls Tryd.prog 20 #[.agg #[.int .u8 X, .int .u8 Y]] w fun e w' => e = .returned (.bool m) ∧ Below w.heap.size w w') := Lib.hid (fun w h => by rw [hX, hY, ← hm]; exact KindW.k_may _ _ w h)
            have hX0 : 0 ≤ X := by omega
            have hX1 : X < 256 := by have := a.toNat_lt; omega
            have hY0 : 0 ≤ Y := by omega
            have hY1 : Y < 256 := by have := b'.toNat_lt; omega
            have h1L : (1 : Int) < L2 := by omega
            have h0L : (0 : Int) < L2 := by omega
            have HX2 := Lib.hid hX
            have HY2 := Lib.hid hY
            have HM := Lib.hid hm
            have HD := Lib.hid hd
            have HL2 := Lib.hid hL2s
            clear hX hY hA3 hL2 hL2s hm hd hcs
            have hzw := HB.out.size
            go_wp2_with fail
            go_region
            have hWb : Below w.heap.size w (wr.alloc (.cells #[.int .u8 X, .int .u8 Y] 43)).drew := (HB.out.alloc hzw _).drew
            have HWB := Lib.hid hWb
            have HTW := Lib.hid (HT.out.below hWb)
            clear hWb
            cases m
            · have HN : Hid (r = none) := Lib.hid (by
                rw [HG.out, HD.out, getPal, if_neg]
                rw [HM.out]
                simp)
              go_wp2_with fail
              go_at_call 20
              refine (HMAY.out _ HTW.out).mono ?_
              rintro e w1 ⟨rfl, hb1⟩
              go_wp2_with fail
              go_ret3
              exact PalP.none HN.out (below_m HWB.out hb1)
            · go_wp2_with fail
              go_at_call 20
              refine (HMAY.out _ HTW.out).mono ?_
              rintro e w1 ⟨rfl, hb1⟩
              have q0 : w1.cell? ⟨wr.heap.size, 0, none⟩ = some (.int .u8 X) := by rw [hb1.cell (p := ⟨wr.heap.size, 0, none⟩) (by simp)]; simp
              have q1 : w1.cell? ⟨wr.heap.size, 1, none⟩ = some (.int .u8 Y) := by rw [hb1.cell (p := ⟨wr.heap.size, 1, none⟩) (by simp)]; simp
              have hz1 : wr.heap.size < w1.heap.size := by have := hb1.size; simp at this; omega
              have HB1 := Lib.hid (below_m HWB.out hb1)
              have HBR : Hid (Below wr.heap.size wr w1) := Lib.hid ((((Below.refl _ wr).alloc (Nat.le_refl _) _).drew).trans (hb1.mono (by simp)))
              have HO1 := Lib.hid (HO.out.below HBR.out)
              obtain ⟨pA, pc, rfl, hpA, hpc, hpm⟩ := HO1.out.pairs
              obtain ⟨pl, hpl⟩ : ∃ pl, pl = p.length := ⟨_, rfl⟩
              obtain ⟨q, hq⟩ : ∃ q, decide ((a, b') ∈ p) = q := ⟨_, rfl⟩
              have HC : Hid (∀ w : World, PairC cv w pA p → Calls Tryd.prog 44 #[.slice pA pl pc, .agg #[.int .u8 X, .int .u8 Y]] w fun e w' => e = .returned (.bool q) ∧ Below w.heap.size w w') := Lib.hid (fun w h => by rw [hpl]; exact contains_c h (by have := HPL.out; omega) HX2.out HY2.out hq)
              have HP1 := Lib.hid hpA
              have HQ := Lib.hid hq
              rw [← hpl] at HO1 hpc ⊢
              clear hb1 hpA hq hpl
              cases q
              · have HS : Hid (r = getPal (n - (k + 1)) (p ++ [(a, b')]) t') := Lib.hid (by
                  rw [HG.out, HD.out, getPal, if_pos ⟨HM.out, by simpa using HQ.out⟩, show n - (k + 1) = d by have := HD.out; omega])
                go_wp2_with fail
                go_at_call 44
                refine (HC.out _ HP1.out).mono ?_
                rintro e w2 ⟨rfl, hb2⟩
                have r0 : w2.cell? ⟨wr.heap.size, 0, none⟩ = some (.int .u8 X) := (hb2.cell (p := ⟨wr.heap.size, 0, none⟩) hz1).trans q0
                have r1 : w2.cell? ⟨wr.heap.size, 1, none⟩ = some (.int .u8 Y) := (hb2.cell (p := ⟨wr.heap.size, 1, none⟩) hz1).trans q1
                have HO2 := Lib.hid (HO1.out.below hb2)
                have HB2 := Lib.hid (below_m HB1.out hb2)
                have hz2 := HB2.out.size
                clear hb2 q0 q1
                go_wp2_with ((with_reducible refine at_slot 44 ?_); refine wp_pushP rfl (.tmp 41) (.tmp 43) rfl underCells infoCell rfl (by omega) one_cv w2 _ _ rfl rfl HO2.out (a, b') (by rw [HX2.out]; rfl) (by rw [HY2.out]; rfl) rfl (by have := HPL.out; omega) hz2 ?_; intro v3 w3 hown3 hb3)
                go_roundw
                case rel => exact ⟨k + 1, _, t', A3, c2 - 2, rfl, by go_num, by omega, by simp [HPL.out], by have := HL2.out; omega, by have := HL2.out; omega, HA3.out, hown3, HB2.out.trans hb3, HS.out⟩
                case measure => simp [intOf]; omega
              · have HN : Hid (r = none) := Lib.hid (by
                  rw [HG.out, HD.out, getPal, if_neg]
                  intro h
                  exact h.2 (by simpa using HQ.out))
                go_wp2_with (go_at_call 44; refine (HC.out _ HP1.out).mono ?_; rintro e w2 ⟨rfl, hb2⟩)
                go_ret3
                exact PalP.none HN.out (below_m HB1.out hb2)
        · have hkI : ¬ (k : Int) < n := by omega
          have HY : Hid (r = some (p, t)) := Lib.hid (by
            rw [HG.out, show n - k = 0 by omega, getPal])
          go_wp2_with fail
          go_ret3
          refine ⟨_, _, _, c2, true, rfl, HB.out, (fun P rest h => ?_), (fun h => by rw [HY.out] at h; cases h)⟩
          rw [HY.out] at h
          simp only [Option.some.injEq, Prod.mk.injEq] at h
          obtain ⟨rfl, rfl⟩ := h
          exact ⟨rfl, HO.out, rfl, HA2.out, htc⟩
end PackW
end Go.Proofs.YtdboebokjkkgkaaDoor
