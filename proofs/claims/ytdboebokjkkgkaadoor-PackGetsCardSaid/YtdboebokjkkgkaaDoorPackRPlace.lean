/-
  The reference's palette, its place in it, and whether two chunks are the same.
-/
import Derived.Test.YtdboebokjkkgkaaDoorPackMakeR
import Derived.Test.YtdboebokjkkgkaaDoorPackSame
namespace Go.Proofs.YtdboebokjkkgkaaDoor
open Go.RowKit
set_option linter.unusedVariables false
set_option linter.unusedSimpArgs false
namespace PackW
open BytesW RunsW

theorem idx_first {P : List Cell} {c : Cell} {j : Nat} (h : c ∉ P.take j) (hx : P[j]? = some c) : P.idxOf c = j := by
  obtain ⟨hj, e⟩ := List.getElem?_eq_some_iff.1 hx
  have hs : P = P.take j ++ c :: P.drop (j + 1) := by
    conv => lhs; rw [← List.take_append_drop j P, List.drop_eq_getElem_cons hj, e]
  rw [hs, List.idxOf_append, if_neg h, List.idxOf_cons_self, List.length_take, Nat.min_eq_left (by omega)]
  omega
def plc (P : List Cell) (c : Cell) : Int := if c ∈ P then (P.idxOf c : Int) else -1
def PlcRel (w : World) (P : List Cell) (c : Cell) (v : Value) (wr : World) : Prop := ∃ j : Nat, v = .int .i64 j ∧ j ≤ P.length ∧ c ∉ P.take j ∧ Below w.heap.size w wr ∧ w.heap.size < wr.heap.size ∧ wr.cell? ⟨w.heap.size, 0, none⟩ = some (bv c.1) ∧ wr.cell? ⟨w.heap.size, 1, none⟩ = some (bv c.2)

set_option maxRecDepth 100000 in
set_option maxHeartbeats 4000000 in
theorem place_c {w : World} {A : Option Addr} {P : List Cell} {c : Cell} {cp : Nat} {X Y r : Int} (hA : PairC cv w A P) (hP : P.length ≤ 1000000) (hX : X = (c.1.toNat : Int)) (hY : Y = (c.2.toNat : Int)) (hr : plc P c = r) :
    Calls Tryd.prog 30 #[.slice A P.length cp, .agg #[.int .u8 X, .int .u8 Y]] w fun e w' => e = .returned (.int .i64 r) ∧ Below w.heap.size w w' := by
  have HX := Lib.hid hX
  have HY := Lib.hid hY
  have HR := Lib.hid hr
  obtain ⟨n, hn⟩ : ∃ n, n = P.length := ⟨_, rfl⟩
  rw [← hn]
  have hn1 : n ≤ 1000000 := by omega
  have HN := Lib.hid hn
  have HA := Lib.hid hA
  have hX0 : 0 ≤ X := by omega
  have hX1 : X < 256 := by have := c.1.toNat_lt; omega
  have hY0 : 0 ≤ Y := by omega
  have hY1 : Y < 256 := by have := c.2.toNat_lt; omega
  clear hX hY hr hn hA hP
  go_enter Tryd.func30, Tryd.ntmps30
  go_wp2_with fail
  go_loopw [5] (PlcRel w P c) (fun v _ => n - (intOf v).toNat)
  case atStart =>
    refine ⟨0, rfl, by omega, by simp, (Below.refl _ _).alloc (Nat.le_refl _) _, by simp, ?_, ?_⟩
    · rw [World.cell?_alloc_new, HX.out]
      rfl
    · rw [World.cell?_alloc_new, HY.out]
      rfl
  case round =>
    obtain ⟨j, rfl, hj, hnm, hbw, hlt, g0, g1⟩ := hrel
    have HB := Lib.hid hbw
    have HNM := Lib.hid hnm
    rw [bv, ← HX.out] at g0
    rw [bv, ← HY.out] at g1
    have hjn : j ≤ n := by have := HN.out; omega
    clear hbw hnm hj
    by_cases hjl : j < n
    · have hjI : (j : Int) < n := by omega
      obtain ⟨x, hx⟩ : ∃ x, P[j]? = some x := ⟨_, List.getElem?_eq_getElem (by have := HN.out; omega)⟩
      obtain ⟨b, o, rfl, hbl, hcs⟩ := (HA.out.below HB.out).cells (fun e => by rw [e] at hx; simp at hx)
      obtain ⟨p0, p1⟩ := hcs _ _ hx
      obtain ⟨U, hU⟩ : ∃ U : Int, U = (x.1.toNat : Int) := ⟨_, rfl⟩
      obtain ⟨V, hV⟩ : ∃ V : Int, V = (x.2.toNat : Int) := ⟨_, rfl⟩
      simp only [cv, bv, ← hU, ← hV] at p0 p1
      have Hx := Lib.hid hx
      have HU := Lib.hid hU
      have HV := Lib.hid hV
      have hj0 : (0 : Int) ≤ j := by omega
      clear hcs hx hU hV
      by_cases hq : X = U
      · subst hq
        by_cases hq2 : Y = V
        · subst hq2
          have hin : Hid (r = (j : Int)) := Lib.hid (by
            have e : c = x := Prod.ext (UInt8.toNat_inj.1 (by have := HX.out; have := HU.out; omega)) (UInt8.toNat_inj.1 (by have := HY.out; have := HV.out; omega))
            have hx := Hx.out
            rw [← e] at hx
            rw [← HR.out, plc, if_pos (List.mem_of_getElem? hx), idx_first HNM.out hx])
          go_wp2_with fail
          go_quiet (fail)
          go_wp2
          go_ret
          exact ⟨by rw [hin.out]; rfl, BaseP.below_drewN HB.out _⟩
        · have hq3 : (V == Y) = false := by simpa using fun e => hq2 e.symm
          have hnx : Hid (c ≠ x) := Lib.hid (fun e => hq2 (by rw [HY.out, HV.out, e]))
          clear hq2
          go_wp2_with fail
          go_quiet (fail)
          go_wp2
          go_roundw
          case rel => exact ⟨j + 1, by go_num, by have := HN.out; omega, take_next HNM.out Hx.out hnx.out, BaseP.below_drewN HB.out _, hlt, by rw [bv, ← HX.out]; exact g0, by rw [bv, ← HY.out]; exact g1⟩
          case measure => simp [intOf]; omega
      · have hq3 : (U == X) = false := by simpa using fun e => hq e.symm
        have hnx : Hid (c ≠ x) := Lib.hid (fun e => hq (by rw [HX.out, HU.out, e]))
        clear hq
        go_wp2_with fail
        go_quiet (fail)
        go_wp2
        go_roundw
        case rel => exact ⟨j + 1, by go_num, by have := HN.out; omega, take_next HNM.out Hx.out hnx.out, BaseP.below_drewN HB.out _, hlt, by rw [bv, ← HX.out]; exact g0, by rw [bv, ← HY.out]; exact g1⟩
        case measure => simp [intOf]; omega
    · have hjI : ¬ (j : Int) < n := by omega
      have hin : Hid (r = -1) := Lib.hid (by
        have h := HNM.out
        rw [List.take_of_length_le (by have := HN.out; omega)] at h
        rw [← HR.out, plc, if_neg h])
      go_wp2_with fail
      go_ret
      exact ⟨by rw [hin.out]; rfl, HB.out⟩

def RPalRel (w : World) (C : List Cell) (v i : Value) (wr : World) : Prop := ∃ j : Nat, i = .int .i64 j ∧ j ≤ 4096 ∧ OwnP cv 43 wr w.heap.size v (pal [] (C.take j)) ∧ Below w.heap.size w wr
theorem pal_lt {C : List Cell} (h : C.all mayC = true) (j : Nat) : (pal [] (C.take j)).length ≤ 40 := pal_le (List.all_eq_true.2 fun x hx => List.all_eq_true.1 h x (List.mem_of_mem_take hx))

set_option maxRecDepth 100000 in
set_option maxHeartbeats 4000000 in
theorem palette_c {w : World} {p : Nat} {C L : List Cell} {u : Value} (hk : Chk w p C L u) (hm : C.all mayC = true) :
    Calls Tryd.prog 29 #[.pointer (some ⟨p, 0, none⟩)] w fun e w' => ∃ v, e = .returned v ∧ OwnP cv 43 w' w.heap.size v (pal [] C) ∧ Below w.heap.size w w' := by
  have HK := Lib.hid hk
  have HM := Lib.hid hm
  have HCL := Lib.hid hk.2.1
  clear hk hm
  go_enter Tryd.func29, Tryd.ntmps29
  go_wp2_with fail
  go_loopw [3, 4] (RPalRel w C) (fun _ v _ => 4096 - (intOf v).toNat)
  case atStart => exact ⟨0, rfl, by omega, OwnP.nil _ _ _, Below.refl _ _⟩
  case round =>
    obtain ⟨j, rfl, hj, hown, hbw⟩ := hrel
    have HO := Lib.hid hown
    have HB := Lib.hid hbw
    have hz := hbw.size
    clear hown hbw
    by_cases hj4 : j < 4096
    · have hjI : (j : Int) < 4096 := by omega
      obtain ⟨x, hx⟩ : ∃ x, C[j]? = some x := ⟨_, List.getElem?_eq_getElem (by have := HCL.out; omega)⟩
      have hkr := HK.out.below HB.out
      have g0 := (hkr.cell (j * 2)).trans (ckV_c hkr.2.1 hx).1
      have g1 := (hkr.cell (j * 2 + 1)).trans (ckV_c hkr.2.1 hx).2
      obtain ⟨U, hU⟩ : ∃ U : Int, U = (x.1.toNat : Int) := ⟨_, rfl⟩
      obtain ⟨V, hV⟩ : ∃ V : Int, V = (x.2.toNat : Int) := ⟨_, rfl⟩
      simp only [bv, ← hU, ← hV] at g0 g1
      have HU := Lib.hid hU
      have HV := Lib.hid hV
      have hplt := hkr.lt
      have HS : Hid (pal [] (C.take (j + 1)) = if x ∈ pal [] (C.take j) then pal [] (C.take j) else pal [] (C.take j) ++ [x]) := Lib.hid (by
        rw [List.take_add_one, hx]
        exact pal_snoc _ _ _)
      obtain ⟨P, hP⟩ : ∃ P, P = pal [] (C.take j) := ⟨_, rfl⟩
      have hP40 : P.length ≤ 40 := by rw [hP]; exact pal_lt HM.out j
      have ho2 := HO.out
      rw [← hP] at ho2
      have HO2 := Lib.hid ho2
      have HS2 : Hid (pal [] (C.take (j + 1)) = if x ∈ P then P else P ++ [x]) := Lib.hid (by rw [hP]; exact HS.out)
      obtain ⟨A, cp, rfl, hA, hcp, hcm⟩ := HO2.out.pairs
      have HA := Lib.hid hA
      clear hx hkr hU hV hP hA ho2
      by_cases hin : x ∈ P
      · have HPL : Hid (plc P x = ((P.idxOf x : Nat) : Int)) := Lib.hid (by rw [plc, if_pos hin])
        have HS3 : Hid (pal [] (C.take (j + 1)) = P) := Lib.hid (by rw [HS2.out, if_pos hin])
        obtain ⟨m, hm⟩ : ∃ m : Nat, m = P.idxOf x := ⟨_, rfl⟩
        rw [← hm] at HPL
        have hneg : ¬ (m : Int) < 0 := by omega
        clear hin hm
        go_wp2_with fail
        go_at_call 30
        refine (place_c HA.out (by omega) HU.out HV.out HPL.out).mono ?_
        rintro e w2 ⟨rfl, hb2⟩
        have HB2 := Lib.hid (below_m HB.out hb2)
        have HO3 := Lib.hid (HO2.out.below hb2)
        clear hb2 g0 g1
        go_wp2_with fail
        go_roundw
        case rel => exact ⟨j + 1, by go_num, by omega, by rw [HS3.out]; exact HO3.out, HB2.out⟩
        case measure => simp [intOf]; omega
      · have HPL : Hid (plc P x = -1) := Lib.hid (by rw [plc, if_neg hin])
        have HS3 : Hid (pal [] (C.take (j + 1)) = P ++ [x]) := Lib.hid (by rw [HS2.out, if_neg hin])
        clear hin
        go_wp2_with fail
        go_at_call 30
        refine (place_c HA.out (by omega) HU.out HV.out HPL.out).mono ?_
        rintro e w2 ⟨rfl, hb2⟩
        have HB2 := Lib.hid (below_m HB.out hb2)
        have HO3 := Lib.hid (HO2.out.below hb2)
        have q0 := (hb2.cell (p := ⟨p, j * 2, none⟩) hplt).trans g0
        have q1 := (hb2.cell (p := ⟨p, j * 2 + 1, none⟩) hplt).trans g1
        have hz2 : w.heap.size ≤ w2.heap.size := Nat.le_trans hz hb2.size
        clear hb2 g0 g1
        go_wp2_with ((with_reducible refine at_slot 26 ?_); refine wp_pushP rfl (.tmp 18) (.tmp 25) rfl underCells infoCell rfl (by omega) one_cv w2 _ _ rfl rfl HO3.out x (by rw [HU.out]; rfl) (by rw [HV.out]; rfl) rfl (by omega) hz2 ?_; intro v3 w3 hown3 hb3)
        go_roundw
        case rel => exact ⟨j + 1, by go_num, by omega, by rw [HS3.out]; exact hown3, HB2.out.trans hb3⟩
        case measure => simp [intOf]; omega
    · have hjI : ¬ (j : Int) < 4096 := by omega
      go_wp2_with fail
      go_ret
      have h := HO.out
      rw [List.take_of_length_le (by have := HCL.out; omega)] at h
      exact ⟨_, rfl, h, HB.out⟩
end PackW
end Go.Proofs.YtdboebokjkkgkaaDoor
