/-
  A row of ticks of the call's own that is read and written; ranges of it swapped, and turned about.
-/
import Derived.Test.YtiochoppiohjnaaDoorChunkCmp
namespace Go.Proofs.YtiochoppiohjnaaDoor
open Go.RowKit
set_option linter.unusedVariables false
set_option linter.unusedSimpArgs false
namespace ChunkW
open BytesW PackW

/-- A row of ticks of the call's own, at block g. -/
def Row (w : World) (B g n cap : Nat) (l : List Tick) : Prop := OwnP tkv 63 w B (.slice (some ⟨g, 0, none⟩) n cap) l ∧ n = l.length
section
variable {w w' : World} {B g n cap : Nat} {l : List Tick}
theorem Row.raw (h : Row w B g n cap l) : ∃ cur, B ≤ g ∧ w.heap[g]? = some (.cells cur 63 (0, 0)) ∧ n ≤ cap ∧ cap ≤ maxLen ∧ cur.size = cap * 2 ∧ cur.toList.take (n * 2) = flatP tkv l := by
  obtain ⟨h, hn⟩ := h
  unfold OwnP at h
  rcases h.2 with ⟨e, _⟩ | ⟨g', cap', cur, e, hB, hg, h1, h2, h3, h4⟩
  · simp at e
  · injection e with e1 e2 e3
    injection e1 with e1
    injection e1 with e1
    subst e1 e3 hn
    exact ⟨cur, hB, hg, h1, h2, h3, h4⟩
theorem Row.lt (h : Row w B g n cap l) : g < w.heap.size := by
  obtain ⟨cur, _, hg, _⟩ := h.raw
  exact lt_of_heap hg
theorem Row.ge (h : Row w B g n cap l) : B ≤ g := by
  obtain ⟨cur, hB, _⟩ := h.raw
  exact hB
theorem Row.frozen (h : Row w B g n cap l) (i : Nat) : w.frozen? ⟨g, i, none⟩ = false := by
  obtain ⟨cur, _, hg, _⟩ := h.raw
  simp [World.frozen?, hg]
theorem Row.at (h : Row w B g n cap l) {i : Nat} {t : Tick} (hi : l[i]? = some t) : w.cell? ⟨g, i * 2, none⟩ = some (.int .i64 t.1) ∧ w.cell? ⟨g, i * 2 + 1, none⟩ = some (.int .i64 t.2) := by
  obtain ⟨cur, hB, hg, h1, h2, h3, h4⟩ := h.raw
  obtain ⟨a, b⟩ := flatP_get (f := tkv) hi
  rw [← h4, List.getElem?_take] at a b
  rw [cell_of_row w g _ _ _ _ hg, cell_of_row w g _ _ _ _ hg, ← Array.getElem?_toList, ← Array.getElem?_toList]
  constructor
  · split at a
    · exact a
    · cases a
  · split at b
    · exact b
    · cases b
theorem Row.below (h : Row w B g n cap l) (hb : Below w.heap.size w w') : Row w' B g n cap l := ⟨h.1.below hb, h.2⟩
theorem Row.set (h : Row w B g n cap l) {j : Nat} (hj : j < l.length) (c : Tick) : Row ((w.setCell ⟨g, j * 2, none⟩ (.int .i64 c.1)).setCell ⟨g, j * 2 + 1, none⟩ (.int .i64 c.2)) B g n cap (l.set j c) := by
  obtain ⟨cur, hB, hg, h1, h2, h3, h4⟩ := h.raw
  have hn := h.2
  refine ⟨⟨by simp [flatP_len]; omega, .inr ⟨g, cap, (cur.setIfInBounds (j * 2) (.int .i64 c.1)).setIfInBounds (j * 2 + 1) (.int .i64 c.2), by simp [hn], hB, by rw [heap_set (heap_set hg _ _)], by simp; omega, h2, by simp [h3], ?_⟩⟩, by simp [hn]⟩
  rw [Array.toList_setIfInBounds, Array.toList_setIfInBounds, List.length_set, ← hn, List.take_set, List.take_set, h4]
  exact flatP_set hj
end
/-- What a function of the sort leaves. -/
def SortP (w : World) (B g n cap : Nat) (l : List Tick) (e : Ending) (w' : World) : Prop := e = .returned (.tuple #[]) ∧ Row w' B g n cap l ∧ Below B w w'
theorem two_at (P : List Tick) (u : Tick) (Q : List Tick) (v : Tick) (R : List Tick) {i j : Nat} (hi : P.length = i) (hj : i + 1 + Q.length = j) : (P ++ u :: (Q ++ v :: R))[i]? = some u ∧ (P ++ u :: (Q ++ v :: R))[j]? = some v ∧ ((P ++ u :: (Q ++ v :: R)).set i v).set j u = P ++ v :: (Q ++ u :: R) := by
  subst hi hj
  refine ⟨by simp, ?_, ?_⟩
  · rw [List.getElem?_append_right (by omega), show P.length + 1 + Q.length - P.length = Q.length + 1 by omega, List.getElem?_cons_succ, List.getElem?_append_right (by omega)]
    simp
  · rw [List.set_append_right _ _ (by omega), Nat.sub_self, List.set_cons_zero, List.set_append_right _ _ (by omega), show P.length + 1 + Q.length - P.length = Q.length + 1 by omega, List.set_cons_succ, List.set_append_right _ _ (by omega)]
    simp
/-- Two are swapped. -/
theorem Row.swap {w : World} {B g n cap i j : Nat} {P Q R : List Tick} {u v : Tick} (h : Row w B g n cap (P ++ u :: (Q ++ v :: R))) (hi : P.length = i) (hj : i + 1 + Q.length = j) :
    Row ((((w.setCell ⟨g, i * 2, none⟩ (.int .i64 v.1)).setCell ⟨g, i * 2 + 1, none⟩ (.int .i64 v.2)).setCell ⟨g, j * 2, none⟩ (.int .i64 u.1)).setCell ⟨g, j * 2 + 1, none⟩ (.int .i64 u.2)) B g n cap (P ++ v :: (Q ++ u :: R)) := by
  obtain ⟨_, _, h3⟩ := two_at P u Q v R hi hj
  have h1 := (h.set (j := i) (by simp; omega) v).set (j := j) (by simp; omega) u
  rw [h3] at h1
  exact h1
theorem below_sw {w0 w : World} {B g i j : Nat} {v1 v2 u1 u2 : Value} (hb : Below B w0 w) (hg : B ≤ g) : Below B w0 ((((w.setCell ⟨g, i * 2, none⟩ v1).setCell ⟨g, i * 2 + 1, none⟩ v2).setCell ⟨g, j * 2, none⟩ u1).setCell ⟨g, j * 2 + 1, none⟩ u2) :=
  (((hb.setCell (p := ⟨g, i * 2, none⟩) hg v1).setCell (p := ⟨g, i * 2 + 1, none⟩) hg v2).setCell (p := ⟨g, j * 2, none⟩) hg u1).setCell (p := ⟨g, j * 2 + 1, none⟩) hg u2
/-- The row while ranges are swapped. -/
def swS (X U M V Y : List Tick) (i : Nat) : List Tick := X ++ V.take i ++ (U.drop i ++ (M ++ (U.take i ++ (V.drop i ++ Y))))
theorem swS_zero (X U M V Y : List Tick) : swS X U M V Y 0 = X ++ U ++ M ++ V ++ Y := by simp [swS]
theorem swS_all {X U M V Y : List Tick} {k : Nat} (hU : U.length = k) (hV : V.length = k) : swS X U M V Y k = X ++ V ++ M ++ U ++ Y := by
  rw [swS, List.take_of_length_le (by omega), List.drop_of_length_le (by omega), List.take_of_length_le (by omega), List.drop_of_length_le (by omega)]
  simp
theorem swS_split {X U M V Y : List Tick} {i : Nat} {u v : Tick} (hu : U[i]? = some u) (hv : V[i]? = some v) : swS X U M V Y i = (X ++ V.take i) ++ u :: ((U.drop (i + 1) ++ (M ++ U.take i)) ++ v :: (V.drop (i + 1) ++ Y)) ∧ swS X U M V Y (i + 1) = (X ++ V.take i) ++ v :: ((U.drop (i + 1) ++ (M ++ U.take i)) ++ u :: (V.drop (i + 1) ++ Y)) := by
  obtain ⟨h1, h2⟩ := List.getElem?_eq_some_iff.1 hu
  obtain ⟨h3, h4⟩ := List.getElem?_eq_some_iff.1 hv
  constructor
  · rw [swS, List.drop_eq_getElem_cons h1, List.drop_eq_getElem_cons h3, h2, h4]
    simp
  · rw [swS, List.take_add_one, List.take_add_one, hu, hv]
    simp
def SwRel (w : World) (B g n cap : Nat) (X U M V Y : List Tick) (i : Value) (wr : World) : Prop := ∃ k : Nat, i = .int .i64 k ∧ k ≤ U.length ∧ Row wr B g n cap (swS X U M V Y k) ∧ Below B w wr

set_option maxRecDepth 100000 in
set_option maxHeartbeats 4000000 in
theorem swapRange_c {w : World} {B g n cap a b k : Nat} {X U M V Y : List Tick} {fv : Value} (hR : Row w B g n cap (X ++ U ++ M ++ V ++ Y)) (hn : n ≤ 1000000) (ha : X.length = a) (hb : a + k + M.length = b) (hU : U.length = k) (hV : V.length = k) :
    Calls Tryd.prog 64 #[.slice (some ⟨g, 0, none⟩) n cap, .int .i64 a, .int .i64 b, .int .i64 k, fv] w (SortP w B g n cap (X ++ V ++ M ++ U ++ Y)) := by
  have hlen := hR.2
  simp only [List.length_append] at hlen
  obtain ⟨T, hT⟩ : ∃ T, T = X ++ V ++ M ++ U ++ Y := ⟨_, rfl⟩
  have HT := Lib.hid hT
  rw [← hT]
  clear hT
  have HR := Lib.hid hR
  have HL := Lib.hid hlen
  have HA := Lib.hid ha
  have HB := Lib.hid hb
  have HU := Lib.hid hU
  have HV := Lib.hid hV
  have hkn : k ≤ 1000000 := by omega
  clear hR hlen ha hb hU hV
  go_enter Tryd.func64, Tryd.ntmps64
  go_wp2_with fail
  go_loopw [10] (SwRel w B g n cap X U M V Y) (fun v _ => k - (intOf v).toNat)
  case atStart => exact ⟨0, rfl, by omega, by rw [swS_zero]; exact HR.out, Below.refl _ _⟩
  case round =>
    obtain ⟨i, rfl, hi, hrow, hbw⟩ := hrel
    have HROW := Lib.hid hrow
    have HBW := Lib.hid hbw
    have hik : i ≤ k := by have := HU.out; omega
    clear hrow hbw hi
    by_cases hlt : i < k
    · have hI : (i : Int) < k := by omega
      obtain ⟨u, hu⟩ : ∃ u, U[i]? = some u := ⟨_, List.getElem?_eq_getElem (by have := HU.out; omega)⟩
      obtain ⟨v, hv⟩ : ∃ v, V[i]? = some v := ⟨_, List.getElem?_eq_getElem (by have := HV.out; omega)⟩
      obtain ⟨s1, s2⟩ := swS_split (X := X) (M := M) (Y := Y) hu hv
      have hr := HROW.out
      rw [s1] at hr
      obtain ⟨p, hp⟩ : ∃ p, p = a + i := ⟨_, rfl⟩
      obtain ⟨q, hq⟩ : ∃ q, q = b + i := ⟨_, rfl⟩
      have h1 : (X ++ V.take i).length = p := by have := HA.out; have := HV.out; simp; omega
      have h2 : p + 1 + (U.drop (i + 1) ++ (M ++ U.take i)).length = q := by have := HA.out; have := HB.out; have := HU.out; simp; omega
      obtain ⟨t1, t2, _⟩ := two_at _ u _ v (V.drop (i + 1) ++ Y) h1 h2
      have HSW := Lib.hid (hr.swap h1 h2)
      obtain ⟨c0, c1⟩ := hr.at t1
      obtain ⟨c2, c3⟩ := hr.at t2
      have f0 := hr.frozen (p * 2)
      have f1 := hr.frozen (p * 2 + 1)
      have f2 := hr.frozen (q * 2)
      have f3 := hr.frozen (q * 2 + 1)
      have hw1 : IntKind.i64.wrap ((a : Int) + (i : Int)) = (p : Int) := by rw [IntKind.wrap_i64]; have := HL.out; have := HA.out; have := HU.out; omega
      have hw2 : IntKind.i64.wrap ((b : Int) + (i : Int)) = (q : Int) := by rw [IntKind.wrap_i64]; have := HL.out; have := HA.out; have := HB.out; have := HU.out; have := HV.out; omega
      have hp1 : (p : Int) < n := by have := HL.out; have := HA.out; have := HU.out; omega
      have hq1 : (q : Int) < n := by have := HL.out; have := HA.out; have := HB.out; have := HU.out; have := HV.out; omega
      have hp0 : (0 : Int) ≤ (p : Int) := by omega
      have hq0 : (0 : Int) ≤ (q : Int) := by omega
      have hpq : p ≠ q := by omega
      have HS2 := Lib.hid s2
      have hgB := hr.ge
      clear hu hv s1 s2 hr hp hq h1 h2 t1 t2
      go_wp2_with fail
      go_region
      go_wp2_with fail
      go_roundw
      case rel =>
        refine ⟨i + 1, by go_num, by have := HU.out; omega, ?_, ?_⟩
        · rw [HS2.out]
          have h := HSW.out
          first | exact h.below (Below.refl _ _).drew | exact h
        · have h := below_sw (i := p) (j := q) (v1 := .int .i64 v.1) (v2 := .int .i64 v.2) (u1 := .int .i64 u.1) (u2 := .int .i64 u.2) HBW.out hgB
          first | exact h.drew | exact h
      case measure => simp [intOf]; omega
    · have hI : ¬ (i : Int) < k := by omega
      obtain rfl : i = k := by omega
      have HF : Hid (Row wr B g n cap T) := Lib.hid (by
        have h := HROW.out
        rw [swS_all HU.out HV.out, ← HT.out] at h
        exact h)
      go_wp2_with fail
      go_end0
      exact ⟨rfl, HF.out, HBW.out⟩

def RotRel (w : World) (B g n cap m : Nat) (T : List Tick) (i j : Value) (wr : World) : Prop := ∃ (X P Q Y : List Tick), i = .int .i64 (P.length : Int) ∧ j = .int .i64 (Q.length : Int) ∧ 0 < P.length ∧ 0 < Q.length ∧ X.length + P.length = m ∧ X ++ Q ++ P ++ Y = T ∧ Row wr B g n cap (X ++ P ++ Q ++ Y) ∧ Below B w wr
set_option maxRecDepth 100000 in
set_option maxHeartbeats 4000000 in
theorem rotate_c {w : World} {B g n cap a m b : Nat} {X U V Y : List Tick} {fv : Value} (hR : Row w B g n cap (X ++ U ++ V ++ Y)) (hn : n ≤ 1000000) (ha : X.length = a) (hm : a + U.length = m) (hb : m + V.length = b) (hU : 0 < U.length) (hV : 0 < V.length) :
    Calls Tryd.prog 63 #[.slice (some ⟨g, 0, none⟩) n cap, .int .i64 a, .int .i64 m, .int .i64 b, fv] w (SortP w B g n cap (X ++ V ++ U ++ Y)) := by
  have hlen := hR.2
  simp only [List.length_append] at hlen
  obtain ⟨T, hT⟩ : ∃ T, T = X ++ V ++ U ++ Y := ⟨_, rfl⟩
  have HREL : Hid (RotRel w B g n cap m T (.int .i64 (U.length : Int)) (.int .i64 (V.length : Int)) w) := Lib.hid ⟨X, U, V, Y, rfl, rfl, hU, hV, by omega, hT.symm, hR, Below.refl _ _⟩
  obtain ⟨i0, hi0⟩ : ∃ i, i = U.length := ⟨_, rfl⟩
  obtain ⟨j0, hj0⟩ : ∃ i, i = V.length := ⟨_, rfl⟩
  have hw1 : IntKind.i64.wrap ((m : Int) - (a : Int)) = (i0 : Int) := by rw [IntKind.wrap_i64]; omega
  have hw2 : IntKind.i64.wrap ((b : Int) - (m : Int)) = (j0 : Int) := by rw [IntKind.wrap_i64]; omega
  have hmn : m ≤ n := by omega
  rw [← hT]
  rw [← hi0, ← hj0] at HREL
  clear hR hlen ha hm hb hU hV hT hi0 hj0
  go_enter Tryd.func63, Tryd.ntmps63
  go_wp2_with fail
  clear hw1 hw2
  go_loopw [10, 11] (RotRel w B g n cap m T) (fun u v _ => (intOf u).toNat + (intOf v).toNat)
  case atStart => exact HREL.out
  case round =>
    obtain ⟨X, P, Q, Y, rfl, rfl, hP, hQ, hXP, hT, hrow, hbw⟩ := hrel
    have hlen := hrow.2
    simp only [List.length_append] at hlen
    obtain ⟨i, hi⟩ : ∃ i, i = P.length := ⟨_, rfl⟩
    obtain ⟨j, hj⟩ : ∃ j, j = Q.length := ⟨_, rfl⟩
    obtain ⟨a1, ha1⟩ : ∃ a1, a1 = X.length := ⟨_, rfl⟩
    have HBW := Lib.hid hbw
    have HROW := Lib.hid hrow
    have HI := Lib.hid hi
    have HJ := Lib.hid hj
    have HA := Lib.hid ha1
    have HT := Lib.hid hT
    rw [← hi, ← ha1] at hXP
    rw [← hi, ← hj, ← ha1] at hlen
    rw [← hi, ← hj]
    rw [← hi] at hP
    rw [← hj] at hQ
    have hw1 : IntKind.i64.wrap ((m : Int) - (i : Int)) = (a1 : Int) := by rw [IntKind.wrap_i64]; omega
    have HXP := Lib.hid hXP
    have HLEN := Lib.hid hlen
    clear hi hj ha1 hT hrow hbw hXP hlen
    by_cases hij : i = j
    · have hijb : ((i : Int) == (j : Int)) = true := by simp; omega
      have HC : Hid (Calls Tryd.prog 64 #[.slice (some ⟨g, 0, none⟩) n cap, .int .i64 a1, .int .i64 m, .int .i64 i, fv] wr (SortP wr B g n cap T)) := Lib.hid (by
        have h := swapRange_c (w := wr) (B := B) (g := g) (n := n) (cap := cap) (X := X) (U := P) (M := []) (V := Q) (Y := Y) (a := a1) (b := m) (k := i) (fv := fv) (by simpa using HROW.out) hn HA.out.symm (by have := HXP.out; simp; omega) HI.out.symm (by have := HJ.out; omega)
        have e : X ++ Q ++ [] ++ P ++ Y = T := by simpa using HT.out
        rw [e] at h
        exact h)
      clear hij
      go_wp2_with fail
      go_at_call 64
      refine (HC.out).mono ?_
      rintro e w2 ⟨rfl, hrow2, hb2⟩
      have HB2 := Lib.hid (HBW.out.trans hb2)
      have HR2 := Lib.hid hrow2
      clear hrow2 hb2
      go_wp2_with fail
      go_end0
      exact ⟨rfl, HR2.out, HB2.out⟩
    · have hijb : ((i : Int) == (j : Int)) = false := by simp; omega
      by_cases hgt : j < i
      · have hgd : decide ((j : Int) < (i : Int)) = true := by simp; omega
        have HC : Hid (Calls Tryd.prog 64 #[.slice (some ⟨g, 0, none⟩) n cap, .int .i64 a1, .int .i64 m, .int .i64 j, fv] wr (SortP wr B g n cap (X ++ Q ++ P.drop j ++ P.take j ++ Y))) := Lib.hid (swapRange_c (w := wr) (X := X) (U := P.take j) (M := P.drop j) (V := Q) (Y := Y) (by
            have h := HROW.out
            rw [← List.take_append_drop j P] at h
            simpa [List.append_assoc] using h) hn HA.out.symm (by have := HI.out; have := HXP.out; simp; omega) (by have := HI.out; simp; omega) HJ.out.symm)
        obtain ⟨i2, hi2⟩ : ∃ i2, i2 = i - j := ⟨_, rfl⟩
        have hw2 : IntKind.i64.wrap ((i : Int) - (j : Int)) = (i2 : Int) := by rw [IntKind.wrap_i64]; have := HLEN.out; omega
        have HI2 := Lib.hid hi2
        clear hi2 hij
        go_wp2_with fail
        go_at_call 64
        refine (HC.out).mono ?_
        rintro e w2 ⟨rfl, hrow2, hb2⟩
        have HB2 := Lib.hid (HBW.out.trans hb2)
        have HR2 := Lib.hid hrow2
        clear hrow2 hb2
        go_wp2_with fail
        go_roundw
        case rel =>
          refine ⟨X ++ Q, P.drop j, P.take j, Y, ?_, ?_, ?_, ?_, ?_, ?_, HR2.out, HB2.out⟩
          · have := HI.out; have := HI2.out; simp; omega
          · have := HI.out; simp; omega
          · have := HI.out; simp; omega
          · have := HI.out; simp; omega
          · have := HI.out; have := HJ.out; have := HA.out; have := HXP.out; simp; omega
          · rw [← HT.out]
            conv => rhs; rw [← List.take_append_drop j P]
            simp [List.append_assoc]
        case measure => have := HI2.out; simp [intOf]; omega
      · have hgd : decide ((j : Int) < (i : Int)) = false := by simp; omega
        obtain ⟨j2, hj2⟩ : ∃ j2, j2 = j - i := ⟨_, rfl⟩
        obtain ⟨b2, hb2e⟩ : ∃ b2, b2 = m + j - i := ⟨_, rfl⟩
        have HC : Hid (Calls Tryd.prog 64 #[.slice (some ⟨g, 0, none⟩) n cap, .int .i64 a1, .int .i64 b2, .int .i64 i, fv] wr (SortP wr B g n cap (X ++ Q.drop j2 ++ Q.take j2 ++ P ++ Y))) := Lib.hid (swapRange_c (w := wr) (X := X) (U := P) (M := Q.take j2) (V := Q.drop j2) (Y := Y) (by
            have h := HROW.out
            rw [← List.take_append_drop j2 Q] at h
            simpa [List.append_assoc] using h) hn HA.out.symm (by have := HJ.out; have := HXP.out; simp; omega) HI.out.symm (by have := HJ.out; simp; omega))
        have hw2 : IntKind.i64.wrap ((j : Int) - (i : Int)) = (j2 : Int) := by rw [IntKind.wrap_i64]; have := HLEN.out; omega
        have hw3 : IntKind.i64.wrap ((m : Int) + (j : Int)) = (m : Int) + (j : Int) := by rw [IntKind.wrap_i64]; have := HLEN.out; have := HXP.out; omega
        have hw4 : IntKind.i64.wrap ((m : Int) + (j : Int) - (i : Int)) = (b2 : Int) := by rw [IntKind.wrap_i64]; have := HLEN.out; have := HXP.out; omega
        have HJ2 := Lib.hid hj2
        have hlt : i < j := by omega
        clear hj2 hb2e hij
        go_wp2_with fail
        go_at_call 64
        refine (HC.out).mono ?_
        rintro e w2 ⟨rfl, hrow2, hb2⟩
        have HB2 := Lib.hid (HBW.out.trans hb2)
        have HR2 := Lib.hid hrow2
        clear hrow2 hb2
        go_wp2_with fail
        go_roundw
        case rel =>
          refine ⟨X, Q.drop j2, Q.take j2, P ++ Y, ?_, ?_, ?_, ?_, ?_, ?_, ?_, HB2.out⟩
          · have := HJ.out; have := HJ2.out; simp; omega
          · have := HJ.out; have := HJ2.out; simp; omega
          · have := HJ.out; have := HJ2.out; simp; omega
          · have := HJ.out; have := HJ2.out; simp; omega
          · have := HJ.out; have := HJ2.out; have := HA.out; have := HXP.out; simp; omega
          · rw [← HT.out]
            conv => rhs; rw [← List.take_append_drop j2 Q]
            simp [List.append_assoc]
          · have h := HR2.out
            simpa [List.append_assoc] using h
        case measure => have := HJ2.out; simp [intOf]; omega
end ChunkW
end Go.Proofs.YtiochoppiohjnaaDoor
