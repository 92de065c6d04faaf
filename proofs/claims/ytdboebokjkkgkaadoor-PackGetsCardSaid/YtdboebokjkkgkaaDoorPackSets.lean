/-
  A chunk's cells and lights are set.
-/
import Derived.RegionTactic
import Derived.Test.YtdboebokjkkgkaaDoorPackMem
import Derived.Test.YtdboebokjkkgkaaDoorPackPlain
namespace Go.Proofs.YtdboebokjkkgkaaDoor
open Go.RowKit
set_option linter.unusedVariables false
set_option linter.unusedSimpArgs false
namespace PackW
open BytesW RunsW

def LightRel (w : World) (p : Nat) (C L : List Cell) (v : Value) (l : List UInt8) (u : Value) (wr : World) : Prop := ∃ j : Nat, u = .int .i64 j ∧ j ≤ 4096 ∧ Chk wr p C ((l.take j).map unlnum ++ L.drop j) v ∧ w.grownBy wr (some p)

set_option maxRecDepth 100000 in
set_option maxHeartbeats 4000000 in
theorem setLights_c {w : World} {p : Nat} {C L : List Cell} {v : Value} {A : Option Addr} {l : List UInt8} {c : Nat} (hC : Chk w p C L v) (hA : At w A l) (hl : l.length = 4096) :
    Calls Tryd.prog 36 #[.pointer (some ⟨p, 0, none⟩), .slice A l.length c] w fun e w' => e = .returned (.tuple #[]) ∧ Chk w' p C (l.map unlnum) v ∧ w.grownBy w' (some p) := by
  have HC := Lib.hid hC
  have HA := Lib.hid hA
  obtain ⟨n, hn⟩ : ∃ n, n = l.length := ⟨_, rfl⟩
  rw [← hn]
  have hn1 : n ≤ 4096 := by omega
  have hn2 : 4096 ≤ n := by omega
  have HN := Lib.hid hn
  have HL := Lib.hid hl
  have hLl := hC.2.2
  have HLl := Lib.hid hLl
  clear hC hA hn hl hLl
  go_enter Tryd.func36, Tryd.ntmps36
  go_wp2_with fail
  go_loopw [8] (LightRel w p C L v l) (fun v _ => 4096 - (intOf v).toNat)
  case atStart => exact ⟨0, rfl, by omega, by simpa using HC.out, World.grownBy.refl _ _⟩
  case round =>
    obtain ⟨j, rfl, hj, hck, hgr⟩ := hrel
    have HCK := Lib.hid hck
    have HGR := Lib.hid hgr
    clear hck hgr
    by_cases hj4 : j < 4096
    · have hjI : (j : Int) < n := by omega
      obtain ⟨x, hx⟩ : ∃ x, l[j]? = some x := ⟨_, List.getElem?_eq_getElem (by have := HL.out; omega)⟩
      obtain ⟨b, o, rfl, hcs⟩ := (at_chk HA.out HC.out HGR.out).cells (fun e => by rw [e] at hx; simp at hx)
      have h0 := hcs j x hx
      obtain ⟨X, hX⟩ : ∃ X : Int, X = (x.toNat : Int) := ⟨_, rfl⟩
      simp only [bv, ← hX] at h0
      have hX0 : 0 ≤ X := by omega
      have hX1 : X < 256 := by have := x.toNat_lt; omega
      obtain ⟨y, hy⟩ : ∃ y, ((l.take j).map unlnum ++ L.drop j)[j]? = some y := ⟨_, List.getElem?_eq_getElem (by have := HL.out; have := HLl.out; simp; omega)⟩
      have g0 := (HCK.out.cell (8192 + j * 2)).trans (ckV_l HCK.out.2.1 hy).1
      have g1 := (HCK.out.cell (8192 + j * 2 + 1)).trans (ckV_l HCK.out.2.1 hy).2
      have f0 := HCK.out.frozen (8192 + j * 2)
      have f1 := HCK.out.frozen (8192 + j * 2 + 1)
      have hjI2 : (j : Int) < 4096 := by omega
      have HX := Lib.hid hX
      have Hx := Lib.hid hx
      clear hX hcs hx hy
      go_wp2_with fail
      go_roundw
      case rel =>
        refine ⟨j + 1, by go_num, by omega, ?_, (HGR.out.trans (grown_set _ _ _ _)).trans (grown_set _ _ _ _)⟩
        have h := HCK.out.setL hj4 (unlnum x)
        have e0 : bv (unlnum x).1 = .int .u8 (X / 16) := by rw [HX.out]; simp [bv, unlnum, UInt8.toNat_div]
        have e1 : bv (unlnum x).2 = .int .u8 (X % 16) := by rw [HX.out]; simp [bv, unlnum, UInt8.toNat_mod]
        rw [e0, e1, upd_set (by have := HL.out; simp; omega) (by have := HLl.out; omega)] at h
        have e2 : (l.take (j + 1)).map unlnum = (l.take j).map unlnum ++ [unlnum x] := by
          rw [List.take_add_one, Hx.out]
          simp
        rw [e2]
        exact h
      case measure => simp [intOf]; omega
    · have hjI : ¬ (j : Int) < n := by omega
      go_wp2_with fail
      go_end0
      obtain rfl : j = 4096 := by omega
      refine ⟨rfl, ?_, HGR.out⟩
      have h := HCK.out
      rw [List.take_of_length_le (by have := HL.out; omega), List.drop_of_length_le (by have := HLl.out; omega), List.append_nil] at h
      exact h

def CellRel (w : World) (p : Nat) (C L : List Cell) (v : Value) (P : List Cell) (row : List UInt8) (u i : Value) (wr : World) : Prop :=
  ∃ (j m : Nat) (lp : List Cell), u = .int .i64 m ∧ i = .int .i64 j ∧ j ≤ 4096 ∧ m ≤ P.length ∧ lp.length = j ∧ setC P 0 row = (setC P m (row.drop j)).map (lp ++ ·) ∧ Chk wr p (lp ++ C.drop j) L v ∧ w.grownBy wr (some p)
/-- What setCells answers, and leaves. -/
def SetP (w : World) (p : Nat) (L : List Cell) (v : Value) (r : Option (List Cell)) (e : Ending) (w' : World) : Prop :=
  ∃ b, e = .returned (.bool b) ∧ w.grownBy w' (some p) ∧ (∀ l, r = some l → b = true ∧ Chk w' p l L v) ∧ (r = none → b = false)

set_option maxRecDepth 100000 in
set_option maxHeartbeats 4000000 in
theorem setCells_c {w : World} {p : Nat} {C L : List Cell} {v : Value} {A B : Option Addr} {P : List Cell} {row : List UInt8} {c d : Nat} {r : Option (List Cell)} (hC : Chk w p C L v) (hA : PairA cv 43 w A P) (hP : P.length ≤ 256) (hB : At w B row) (hl : row.length = 4096) (hr : setC P 0 row = r) :
    Calls Tryd.prog 35 #[.pointer (some ⟨p, 0, none⟩), .slice A P.length c, .slice B row.length d] w (SetP w p L v r) := by
  have HR := Lib.hid hr
  have HC := Lib.hid hC
  have HA := Lib.hid hA
  have HB := Lib.hid hB
  obtain ⟨n, hn⟩ : ∃ n, n = row.length := ⟨_, rfl⟩
  obtain ⟨k, hk⟩ : ∃ k, k = P.length := ⟨_, rfl⟩
  rw [← hn, ← hk]
  have hn1 : n ≤ 4096 := by omega
  have hn2 : 4096 ≤ n := by omega
  have hk1 : k ≤ 256 := by omega
  have HK := Lib.hid hk
  have HL := Lib.hid hl
  have HLl := Lib.hid hC.2.1
  clear hC hA hB hn hk hl hP hr
  go_enter Tryd.func35, Tryd.ntmps35
  go_wp2_with fail
  go_loopw [7, 12] (CellRel w p C L v P row) (fun _ v _ => 4096 - (intOf v).toNat)
  case atStart => exact ⟨0, 0, [], rfl, rfl, by omega, by omega, rfl, by simp, by simpa using HC.out, World.grownBy.refl _ _⟩
  case round =>
    obtain ⟨j, m, lp, rfl, rfl, hj, hm, hlp, hset, hck, hgr⟩ := hrel
    have HCK := Lib.hid hck
    have HGR := Lib.hid hgr
    have HSET := Lib.hid hset
    have HLP := Lib.hid hlp
    have HM := Lib.hid hm
    clear hck hgr hset hlp hm
    by_cases hj4 : j < 4096
    · have hjI : (j : Int) < n := by omega
      obtain ⟨x, hx⟩ : ∃ x, row[j]? = some x := ⟨_, List.getElem?_eq_getElem (by have := HL.out; omega)⟩
      obtain ⟨b, o, rfl, hcs⟩ := (at_chk HB.out HC.out HGR.out).cells (fun e => by rw [e] at hx; simp at hx)
      have h0 := hcs j x hx
      obtain ⟨X, hX⟩ : ∃ X : Int, X = (x.toNat : Int) := ⟨_, rfl⟩
      simp only [bv, ← hX] at h0
      have hX0 : 0 ≤ X := by omega
      have hX1 : X < 256 := by have := x.toNat_lt; omega
      have HX := Lib.hid hX
      have HD : Hid (row.drop j = x :: row.drop (j + 1)) := Lib.hid (by
        obtain ⟨h1, h2⟩ := List.getElem?_eq_some_iff.1 hx
        rw [List.drop_eq_getElem_cons h1, h2])
      have hmk : m ≤ k := by have := HM.out; have := HK.out; omega
      clear hX hcs hx
      by_cases hbad : m < X ∨ k ≤ X
      · have HN : Hid (setC P 0 row = none) := Lib.hid (by
          rw [HSET.out, HD.out, setC, if_pos (by have := HX.out; have := HK.out; omega)]
          rfl)
        by_cases h1 : (m : Int) < X
        · clear hbad
          go_wp2_with fail
          go_ret
          exact ⟨false, rfl, HGR.out, (fun l h => by rw [← HR.out, HN.out] at h; cases h), fun _ => rfl⟩
        · have h2 : (k : Int) ≤ X := by omega
          clear hbad
          go_wp2_with fail
          go_ret
          exact ⟨false, rfl, HGR.out, (fun l h => by rw [← HR.out, HN.out] at h; cases h), fun _ => rfl⟩
      · have h1 : ¬ (m : Int) < X := by omega
        have h2 : ¬ (k : Int) ≤ X := by omega
        clear hbad
        have hxk : x.toNat < P.length := by have := HX.out; have := HK.out; omega
        obtain ⟨cc, hcc⟩ : ∃ cc, P[x.toNat]? = some cc := ⟨_, List.getElem?_eq_getElem hxk⟩
        obtain ⟨pb, po, rfl, hpl, hps⟩ := (pair_chk HA.out (by decide) HC.out HGR.out).c.cells (fun e => by rw [e] at hxk; simp at hxk)
        obtain ⟨p0, p1⟩ := hps _ _ hcc
        obtain ⟨Y, hY⟩ : ∃ Y : Int, Y = (cc.1.toNat : Int) := ⟨_, rfl⟩
        obtain ⟨Z, hZ⟩ : ∃ Z : Int, Z = (cc.2.toNat : Int) := ⟨_, rfl⟩
        simp only [cv, bv, ← hY, ← hZ] at p0 p1
        have hxn : x.toNat = X.toNat := by have := HX.out; omega
        rw [hxn] at p0 p1
        have HS2 : Hid (setC P 0 row = (setC P (if x.toNat = m then m + 1 else m) (row.drop (j + 1))).map ((lp ++ [cc]) ++ ·)) := Lib.hid (by
          rw [HSET.out, HD.out, setC, if_neg (by have := HX.out; have := HK.out; omega), hcc]
          simp [Option.map_map, Function.comp_def])
        obtain ⟨y, hy⟩ : ∃ y, (lp ++ C.drop j)[j]? = some y := ⟨_, List.getElem?_eq_getElem (by have := HLP.out; have := HLl.out; simp; omega)⟩
        have g0 := (HCK.out.cell (j * 2)).trans (ckV_c HCK.out.2.1 hy).1
        have g1 := (HCK.out.cell (j * 2 + 1)).trans (ckV_c HCK.out.2.1 hy).2
        have f0 := HCK.out.frozen (j * 2)
        have f1 := HCK.out.frozen (j * 2 + 1)
        have hjI2 : (j : Int) < 4096 := by omega
        have HY := Lib.hid hY
        have HZ := Lib.hid hZ
        clear hY hZ hps hcc hy hxn hxk
        by_cases h3 : X = m
        · have h4 : (X == (m : Int)) = true := by simpa using h3
          have HS3 : Hid (setC P 0 row = (setC P (m + 1) (row.drop (j + 1))).map ((lp ++ [cc]) ++ ·)) := Lib.hid (by rw [HS2.out, if_pos (by have := HX.out; omega)])
          have hm2 : m + 1 ≤ P.length := by have := HK.out; omega
          clear h3 HS2
          go_wp2_with fail
          go_region
          go_wp2_with fail
          go_roundw
          case rel =>
            refine ⟨j + 1, m + 1, lp ++ [cc], by go_num, by go_num, by omega, hm2, by simp [HLP.out], HS3.out, ?_, gdrew ((HGR.out.trans (grown_set _ _ _ _)).trans (grown_set _ _ _ _))⟩
            have h := HCK.out.setC hj4 cc
            have e0 : bv cc.1 = .int .u8 Y := by rw [HY.out]; rfl
            have e1 : bv cc.2 = .int .u8 Z := by rw [HZ.out]; rfl
            rw [e0, e1, upd_set HLP.out (by have := HLl.out; omega)] at h
            exact h
          case measure => simp [intOf]; omega
        · have h4 : (X == (m : Int)) = false := by simpa using h3
          have HS3 : Hid (setC P 0 row = (setC P m (row.drop (j + 1))).map ((lp ++ [cc]) ++ ·)) := Lib.hid (by rw [HS2.out, if_neg (by have := HX.out; omega)])
          clear h3 HS2
          go_wp2_with fail
          go_region
          go_wp2_with fail
          go_roundw
          case rel =>
            refine ⟨j + 1, m, lp ++ [cc], rfl, by go_num, by omega, HM.out, by simp [HLP.out], HS3.out, ?_, gdrew ((HGR.out.trans (grown_set _ _ _ _)).trans (grown_set _ _ _ _))⟩
            have h := HCK.out.setC hj4 cc
            have e0 : bv cc.1 = .int .u8 Y := by rw [HY.out]; rfl
            have e1 : bv cc.2 = .int .u8 Z := by rw [HZ.out]; rfl
            rw [e0, e1, upd_set HLP.out (by have := HLl.out; omega)] at h
            exact h
          case measure => simp [intOf]; omega
    · have hjI : ¬ (j : Int) < n := by omega
      have hd : Hid (row.drop j = []) := Lib.hid (List.drop_of_length_le (by have := HL.out; omega))
      have hd2 : Hid (C.drop j = []) := Lib.hid (List.drop_of_length_le (by have := HLl.out; omega))
      have HB1 : Hid (Chk wr p lp L v) := Lib.hid (by have h := HCK.out; rw [hd2.out, List.append_nil] at h; exact h)
      by_cases h5 : m = k
      · have h6 : ((m : Int) == (k : Int)) = true := by simp; omega
        have HE : Hid (setC P 0 row = some lp) := Lib.hid (by
          rw [HSET.out, hd.out, setC, if_pos (by have := HK.out; omega)]
          simp)
        clear h5
        go_wp2_with fail
        go_ret
        exact ⟨true, rfl, HGR.out, (fun l h => by rw [← HR.out, HE.out] at h; injection h with h; subst h; exact ⟨rfl, HB1.out⟩), (fun h => by rw [← HR.out, HE.out] at h; cases h)⟩
      · have h6 : ((m : Int) == (k : Int)) = false := by simp; omega
        have HE : Hid (setC P 0 row = none) := Lib.hid (by
          rw [HSET.out, hd.out, setC, if_neg (by have := HK.out; omega)]
          rfl)
        clear h5
        go_wp2_with fail
        go_ret
        exact ⟨false, rfl, HGR.out, (fun l h => by rw [← HR.out, HE.out] at h; cases h), fun _ => rfl⟩
end PackW
end Go.Proofs.YtdboebokjkkgkaaDoor
