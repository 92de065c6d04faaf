/-
  A journal on its disk: Size, open, a sector of it, a home; is a text blank?
-/
import Derived.Test.YtknckaegpdganaaDoorSectorI
import Derived.Test.YtknckaegpdganaaDoorJournalOps
import Derived.Test.YtknckaegpdganaaDoorSectorArg
-- mine: whole_c same_c awake_c take_c step_c back_c
namespace Go.Proofs.YtknckaegpdganaaDoor
open Go.RowKit
set_option linter.unusedVariables false
set_option linter.unusedSimpArgs false
set_option maxRecDepth 100000
namespace JouW
open BlkP RowG FrS PushG JournalP SecP SecW JouP
abbrev TJ : TypeId := 59
def jv (p : Option Addr) (a m : Int) : Value := .agg #[.pointer p, .int .i64 a, .int .i64 m]
theorem Size_c {w : World} {m : Int} :
    Calls Tryd.prog 14 #[.int .i64 m] w fun e w' => e = .returned (.int .i64 (sizeJ m)) ∧ w' = w := by
  unfold sizeJ
  by_cases h : 1 ≤ m ∧ m ≤ 60
  · obtain ⟨h1, h2⟩ := h
    rw [if_pos ⟨h1, h2⟩]
    go_enter Tryd.func14, Tryd.ntmps14
    go_wp2_with fail
    go_ret
    exact ⟨rfl, rfl⟩
  · rw [if_neg h]
    by_cases h1 : m < 1
    · clear h
      go_enter Tryd.func14, Tryd.ntmps14
      go_wp2_with fail
      go_ret
      exact ⟨rfl, rfl⟩
    · have h2 : 60 < m := by omega
      clear h
      go_enter Tryd.func14, Tryd.ntmps14
      go_wp2_with fail
      go_ret
      exact ⟨rfl, rfl⟩
section
variable {w : World} {B pd : Nat} {d : Dk} {S : Nat → Prop}
set_option maxHeartbeats 16000000 in
theorem read_c {a m i : Int} {s : Sec} (h : Dsk w B pd d S) (hs : readD d i = s) :
    Calls Tryd.prog 34 #[jv (some ⟨pd, 0, none⟩) a m, .int .i64 i] w fun e w' => e = .returned (.string (str s)) ∧ Below w.heap.size w w' := by
  obtain ⟨z, hz⟩ : ∃ z, readE d i = z := ⟨_, rfl⟩
  have Q := Lib.hid h
  have HS := Lib.hid hs
  have HZ := Lib.hid hz
  unfold jv
  clear h hs hz
  go_enter Tryd.func34, Tryd.ntmps34
  go_wp2_with fail
  refine calls_named (S := fun W => Below w.heap.size w W) (by (repeat' (first | (with_reducible exact Below.refl _ _) | (with_reducible refine Below.setCell ?_ (by (first | omega | (simp; done) | (simp; omega))) _) | (with_reducible refine Below.alloc ?_ (by (first | omega | (simp; done) | (simp; omega))) _) | (with_reducible refine Below.drew ?_) | (with_reducible refine below_drewN ?_ _)))) (fun w1 hb1 => ?_)
  have B1 := Lib.hid hb1
  have Q1 := Lib.hid (Q.out.below hb1)
  clear hb1
  refine (Read_i Q1.out HS.out HZ.out).mono ?_
  rintro e w2 ⟨rfl, hb2⟩
  have B2 := Lib.hid (below_t B1.out hb2)
  clear hb2
  go_wp2_with fail
  go_ret
  exact ⟨rfl, B2.out⟩
set_option maxHeartbeats 16000000 in
theorem body_c {p : Option Addr} {a i : Nat} {m : Int} (hl : a + i ≤ 1000000) :
    Calls Tryd.prog 35 #[jv p (a : Int) m, .int .i64 (i : Int)] w fun e w' => e = .returned (.int .i64 (((a + 1 + i : Nat) : Int))) ∧ Below w.heap.size w w' := by
  unfold jv
  go_enter Tryd.func35, Tryd.ntmps35
  go_wp2_with fail
  go_ret
  exact ⟨by first | rfl | (congr 2; omega), by (repeat' (first | (with_reducible exact Below.refl _ _) | (with_reducible refine Below.setCell ?_ (by (first | omega | (simp; done) | (simp; omega))) _) | (with_reducible refine Below.alloc ?_ (by (first | omega | (simp; done) | (simp; omega))) _) | (with_reducible refine Below.drew ?_) | (with_reducible refine below_drewN ?_ _)))⟩
set_option maxHeartbeats 16000000 in
theorem isHome_c {a m : Nat} {i : Int} {r : Bool} (h : Dsk w B pd d S) (hl : a + m ≤ 1000000) (hr : homeB d.n a m i = r) :
    Calls Tryd.prog 61 #[jv (some ⟨pd, 0, none⟩) (a : Int) (m : Int), .int .i64 i] w fun e w' => e = .returned (.bool r) ∧ Below w.heap.size w w' := by
  have Q := Lib.hid h
  unfold jv
  clear h
  by_cases h0 : 0 ≤ i
  · by_cases h1 : i < (d.n : Int)
    · by_cases h2 : (a : Int) ≤ i
      · by_cases h3 : i ≤ (a : Int) + m
        · obtain rfl : r = false := by
            rw [← hr]
            cases hq : homeB d.n a m i with
            | false => rfl
            | true => first | exact absurd ((homeB_iff (n := d.n) (a := a) (m := m) (i := i)).1 hq) (by omega) | exact absurd ((homeB_iff (n := d.n) (a := a) (m := m) (i := i)).2 (by omega)) (by simp [hq])
          clear hr
          go_enter Tryd.func61, Tryd.ntmps61
          go_wp2_with fail
          refine calls_named (S := fun W => Below w.heap.size w W) (by (repeat' (first | (with_reducible exact Below.refl _ _) | (with_reducible refine Below.setCell ?_ (by (first | omega | (simp; done) | (simp; omega))) _) | (with_reducible refine Below.alloc ?_ (by (first | omega | (simp; done) | (simp; omega))) _) | (with_reducible refine Below.drew ?_) | (with_reducible refine below_drewN ?_ _)))) (fun w1 hb1 => ?_)
          have B1 := Lib.hid hb1
          have Q1 := Lib.hid (Q.out.below hb1)
          clear hb1
          refine (Len_c Q1.out).mono ?_
          rintro e w2 ⟨rfl, hw⟩
          obtain rfl := hw.symm
          go_wp2_with fail
          go_ret
          exact ⟨rfl, B1.out⟩
        · obtain rfl : r = true := by
            rw [← hr]
            cases hq : homeB d.n a m i with
            | true => rfl
            | false => first | exact absurd ((homeB_iff (n := d.n) (a := a) (m := m) (i := i)).1 hq) (by omega) | exact absurd ((homeB_iff (n := d.n) (a := a) (m := m) (i := i)).2 (by omega)) (by simp [hq])
          clear hr
          go_enter Tryd.func61, Tryd.ntmps61
          go_wp2_with fail
          refine calls_named (S := fun W => Below w.heap.size w W) (by (repeat' (first | (with_reducible exact Below.refl _ _) | (with_reducible refine Below.setCell ?_ (by (first | omega | (simp; done) | (simp; omega))) _) | (with_reducible refine Below.alloc ?_ (by (first | omega | (simp; done) | (simp; omega))) _) | (with_reducible refine Below.drew ?_) | (with_reducible refine below_drewN ?_ _)))) (fun w1 hb1 => ?_)
          have B1 := Lib.hid hb1
          have Q1 := Lib.hid (Q.out.below hb1)
          clear hb1
          refine (Len_c Q1.out).mono ?_
          rintro e w2 ⟨rfl, hw⟩
          obtain rfl := hw.symm
          go_wp2_with fail
          go_ret
          exact ⟨rfl, B1.out⟩
      · obtain rfl : r = true := by
          rw [← hr]
          cases hq : homeB d.n a m i with
          | true => rfl
          | false => first | exact absurd ((homeB_iff (n := d.n) (a := a) (m := m) (i := i)).1 hq) (by omega) | exact absurd ((homeB_iff (n := d.n) (a := a) (m := m) (i := i)).2 (by omega)) (by simp [hq])
        clear hr
        go_enter Tryd.func61, Tryd.ntmps61
        go_wp2_with fail
        refine calls_named (S := fun W => Below w.heap.size w W) (by (repeat' (first | (with_reducible exact Below.refl _ _) | (with_reducible refine Below.setCell ?_ (by (first | omega | (simp; done) | (simp; omega))) _) | (with_reducible refine Below.alloc ?_ (by (first | omega | (simp; done) | (simp; omega))) _) | (with_reducible refine Below.drew ?_) | (with_reducible refine below_drewN ?_ _)))) (fun w1 hb1 => ?_)
        have B1 := Lib.hid hb1
        have Q1 := Lib.hid (Q.out.below hb1)
        clear hb1
        refine (Len_c Q1.out).mono ?_
        rintro e w2 ⟨rfl, hw⟩
        obtain rfl := hw.symm
        go_wp2_with fail
        go_ret
        exact ⟨rfl, B1.out⟩
    · by_cases h2 : (a : Int) ≤ i
      · by_cases h3 : i ≤ (a : Int) + m
        · obtain rfl : r = false := by
            rw [← hr]
            cases hq : homeB d.n a m i with
            | false => rfl
            | true => first | exact absurd ((homeB_iff (n := d.n) (a := a) (m := m) (i := i)).1 hq) (by omega) | exact absurd ((homeB_iff (n := d.n) (a := a) (m := m) (i := i)).2 (by omega)) (by simp [hq])
          clear hr
          go_enter Tryd.func61, Tryd.ntmps61
          go_wp2_with fail
          refine calls_named (S := fun W => Below w.heap.size w W) (by (repeat' (first | (with_reducible exact Below.refl _ _) | (with_reducible refine Below.setCell ?_ (by (first | omega | (simp; done) | (simp; omega))) _) | (with_reducible refine Below.alloc ?_ (by (first | omega | (simp; done) | (simp; omega))) _) | (with_reducible refine Below.drew ?_) | (with_reducible refine below_drewN ?_ _)))) (fun w1 hb1 => ?_)
          have B1 := Lib.hid hb1
          have Q1 := Lib.hid (Q.out.below hb1)
          clear hb1
          refine (Len_c Q1.out).mono ?_
          rintro e w2 ⟨rfl, hw⟩
          obtain rfl := hw.symm
          go_wp2_with fail
          go_ret
          exact ⟨rfl, B1.out⟩
        · obtain rfl : r = false := by
            rw [← hr]
            cases hq : homeB d.n a m i with
            | false => rfl
            | true => first | exact absurd ((homeB_iff (n := d.n) (a := a) (m := m) (i := i)).1 hq) (by omega) | exact absurd ((homeB_iff (n := d.n) (a := a) (m := m) (i := i)).2 (by omega)) (by simp [hq])
          clear hr
          go_enter Tryd.func61, Tryd.ntmps61
          go_wp2_with fail
          refine calls_named (S := fun W => Below w.heap.size w W) (by (repeat' (first | (with_reducible exact Below.refl _ _) | (with_reducible refine Below.setCell ?_ (by (first | omega | (simp; done) | (simp; omega))) _) | (with_reducible refine Below.alloc ?_ (by (first | omega | (simp; done) | (simp; omega))) _) | (with_reducible refine Below.drew ?_) | (with_reducible refine below_drewN ?_ _)))) (fun w1 hb1 => ?_)
          have B1 := Lib.hid hb1
          have Q1 := Lib.hid (Q.out.below hb1)
          clear hb1
          refine (Len_c Q1.out).mono ?_
          rintro e w2 ⟨rfl, hw⟩
          obtain rfl := hw.symm
          go_wp2_with fail
          go_ret
          exact ⟨rfl, B1.out⟩
      · obtain rfl : r = false := by
          rw [← hr]
          cases hq : homeB d.n a m i with
          | false => rfl
          | true => first | exact absurd ((homeB_iff (n := d.n) (a := a) (m := m) (i := i)).1 hq) (by omega) | exact absurd ((homeB_iff (n := d.n) (a := a) (m := m) (i := i)).2 (by omega)) (by simp [hq])
        clear hr
        go_enter Tryd.func61, Tryd.ntmps61
        go_wp2_with fail
        refine calls_named (S := fun W => Below w.heap.size w W) (by (repeat' (first | (with_reducible exact Below.refl _ _) | (with_reducible refine Below.setCell ?_ (by (first | omega | (simp; done) | (simp; omega))) _) | (with_reducible refine Below.alloc ?_ (by (first | omega | (simp; done) | (simp; omega))) _) | (with_reducible refine Below.drew ?_) | (with_reducible refine below_drewN ?_ _)))) (fun w1 hb1 => ?_)
        have B1 := Lib.hid hb1
        have Q1 := Lib.hid (Q.out.below hb1)
        clear hb1
        refine (Len_c Q1.out).mono ?_
        rintro e w2 ⟨rfl, hw⟩
        obtain rfl := hw.symm
        go_wp2_with fail
        go_ret
        exact ⟨rfl, B1.out⟩
  · by_cases h2 : (a : Int) ≤ i
    · exact absurd h2 (by omega)
    · obtain rfl : r = false := by
        rw [← hr]
        cases hq : homeB d.n a m i with
        | false => rfl
        | true => first | exact absurd ((homeB_iff (n := d.n) (a := a) (m := m) (i := i)).1 hq) (by omega) | exact absurd ((homeB_iff (n := d.n) (a := a) (m := m) (i := i)).2 (by omega)) (by simp [hq])
      clear hr
      go_enter Tryd.func61, Tryd.ntmps61
      go_wp2_with fail
      go_ret
      exact ⟨rfl, by (repeat' (first | (with_reducible exact Below.refl _ _) | (with_reducible refine Below.setCell ?_ (by (first | omega | (simp; done) | (simp; omega))) _) | (with_reducible refine Below.alloc ?_ (by (first | omega | (simp; done) | (simp; omega))) _) | (with_reducible refine Below.drew ?_) | (with_reducible refine below_drewN ?_ _)))⟩
/-- A text has bytes 0 alone. -/
theorem blank_iff {x : Sec} : (x.dropWhile (· == 0)).isEmpty = x.all (· == 0) := by
  induction x with
  | nil => rfl
  | cons y r ih =>
    rw [List.dropWhile_cons, List.all_cons]
    cases hy : (y == 0) with
    | true => simpa using ih
    | false => rfl
theorem isBlank_c {x : Sec} {r : Bool} (hr : x.all (· == 0) = r) :
    Calls Tryd.prog 33 #[.string (str x)] w fun e w' => e = .returned (.bool r) ∧ w' = w := by
  rw [← blank_iff] at hr
  have HR := Lib.hid hr
  clear hr
  go_enter Tryd.func33, Tryd.ntmps33
  go_wp2_with fail
  refine (trim_c x w).mono ?_
  rintro e w1 ⟨rfl, rfl⟩
  go_wp2_with fail
  go_ret
  refine ⟨?_, rfl⟩
  show Ending.returned (.bool _) = _
  rw [str_toList, HR.out]
/-! ### A journal that lies on its disk as a whole -/
def openV (p : Option Addr) (n : Nat) (a m : Int) : Value := if openE n a m = 0 then jv p a m else jv none 0 0
theorem open_bad {n : Nat} {a m s : Int} (h0 : n ≠ 0) (hs : sizeJ m = s) (h : s = 0 ∨ a < 0 ∨ n - s < a) : openE n a m = 2 := by
  unfold openE
  rw [if_neg h0, hs, if_pos h]
theorem open_ok {n : Nat} {a m s : Int} (h0 : n ≠ 0) (hs : sizeJ m = s) (h : ¬ (s = 0 ∨ a < 0 ∨ n - s < a)) : openE n a m = 0 := by
  unfold openE
  rw [if_neg h0, hs, if_neg h]
theorem open_fine {n : Nat} {a m : Int} (h : openE n a m = 0) : 1 ≤ m ∧ m ≤ 60 ∧ 0 ≤ a ∧ a + m < n := by
  by_cases h0 : n = 0
  · unfold openE at h
    rw [if_pos h0] at h
    cases h
  · obtain ⟨s, hs⟩ : ∃ s, sizeJ m = s := ⟨_, rfl⟩
    by_cases hb : s = 0 ∨ a < 0 ∨ n - s < a
    · rw [open_bad h0 hs hb] at h
      cases h
    · unfold sizeJ at hs
      by_cases hm : 1 ≤ m ∧ m ≤ 60
      · rw [if_pos hm] at hs
        omega
      · rw [if_neg hm] at hs
        omega
set_option maxHeartbeats 16000000 in
theorem open_c {a m : Int} (h : Dsk w B pd d S) :
    Calls Tryd.prog 31 #[.pointer (some ⟨pd, 0, none⟩), .int .i64 a, .int .i64 m] w fun e w' => e = .returned (.tuple #[openV (some ⟨pd, 0, none⟩) d.n a m, .int .i64 (openE d.n a m)]) ∧ Below w.heap.size w w' := by
  have Q := Lib.hid h
  have hk := h.ok
  have h1 := hk.lo
  have h2 := hk.hi
  have h0 : d.n ≠ 0 := by omega
  obtain ⟨s, hs⟩ : ∃ s, sizeJ m = s := ⟨_, rfl⟩
  have hs0 : 0 ≤ s ∧ s ≤ 61 := by
    rw [← hs]
    unfold sizeJ
    split <;> omega
  have HS := Lib.hid hs
  unfold openV jv
  clear h hk
  by_cases g1 : s = 0
  · rw [open_bad h0 hs (.inl g1), if_neg (by omega)]
    clear hs
    go_enter Tryd.func31, Tryd.ntmps31
    go_wp2_with fail
    refine calls_named (S := fun W => Below w.heap.size w W ∧ Blk W w.heap.size TJ [.pointer none, .int .i64 0, .int .i64 0]) ⟨by (repeat' (first | (with_reducible exact Below.refl _ _) | (with_reducible refine Below.setCell ?_ (by (first | omega | (simp; done) | (simp; omega))) _) | (with_reducible refine Below.alloc ?_ (by (first | omega | (simp; done) | (simp; omega))) _) | (with_reducible refine Below.drew ?_) | (with_reducible refine below_drewN ?_ _))), by (repeat' (first | (with_reducible refine BlkP.Blk.drew ?_) | (with_reducible refine BlkP.Blk.drewN ?_ _) | (with_reducible refine BlkP.Blk.setAt (us := ?_) (by first | omega | (simp; done) | (simp; omega)) rfl ?_ ?_) | (with_reducible refine BlkP.Blk.otherAt ?_ (by first | omega | (simp; done) | (simp; omega))) | (with_reducible refine BlkP.Blk.newA' (by first | omega | (simp; done) | (simp; omega)) rfl) | (with_reducible refine BlkP.Blk.alloc ?_ _) | (exact rfl)))⟩ (fun w1 hq1 => ?_)
    obtain ⟨hb1, hk1⟩ := hq1
    have k0 := hk1.cell (i := 0) rfl
    have k1 := hk1.cell (i := 1) rfl
    have k2 := hk1.cell (i := 2) rfl
    have kl := hk1.lt
    have f0 := hk1.frozen 0
    have f1 := hk1.frozen 1
    have f2 := hk1.frozen 2
    have B1 := Lib.hid hb1
    have Q1 := Lib.hid (Q.out.below hb1)
    clear hb1 hk1
    refine (Len_c Q1.out).mono ?_
    rintro e w2 ⟨rfl, hw⟩
    obtain rfl := hw.symm
    go_wp2_with fail
    refine Size_c.mono ?_
    rintro e w2 ⟨rfl, hw⟩
    obtain rfl := hw.symm
    rw [HS.out]
    go_wp2_with fail
    have s0 : (w1.setCell ⟨w.heap.size, 0, none⟩ (.pointer none)).cell? ⟨w.heap.size, 0, none⟩ = some (.pointer none) := by (repeat' (first | (with_reducible assumption) | (with_reducible refine HeldP.c_drew ?_) | (with_reducible refine HeldP.c_drewN ?_) | (with_reducible refine HeldP.c_same (by omega) ?_) | (with_reducible refine HeldP.c_other ?_ ?_) | (with_reducible refine HeldP.c_new (by first | omega | (simp; done) | (simp; omega)) ?_) | (with_reducible refine HeldP.c_alloc ?_ ?_) | (with_reducible refine HeldP.e_drew ?_) | (with_reducible refine HeldP.e_drewN ?_) | (with_reducible refine HeldP.e_set ?_) | (with_reducible refine HeldP.e_new (by first | omega | (simp; done) | (simp; omega)) ⟨_, rfl⟩) | (with_reducible refine HeldP.e_alloc ?_ ?_) | (with_reducible refine HeldP.f_drew ?_) | (with_reducible refine HeldP.f_drewN ?_) | (with_reducible refine HeldP.f_set ?_) | (with_reducible refine HeldP.f_new (by first | omega | (simp; done) | (simp; omega))) | (with_reducible refine HeldP.f_alloc ?_ ?_) | (with_reducible refine HeldP.s_drew ?_) | (with_reducible refine HeldP.s_drewN ?_) | (with_reducible refine HeldP.s_set ?_) | (with_reducible refine HeldP.s_new (by first | omega | (simp; done) | (simp; omega))) | (with_reducible refine HeldP.s_alloc ?_) | (with_reducible exact ⟨_, by assumption⟩) | omega | (intro e; simp at e; done) | (intro e; simp at e; omega) | (exact rfl) | (simp; done) | (simp; omega)))
    have s1 : ((w1.setCell ⟨w.heap.size, 0, none⟩ (.pointer none)).setCell ⟨w.heap.size, 1, none⟩ (.int .i64 0)).cell? ⟨w.heap.size, 1, none⟩ = some (.int .i64 0) := by (repeat' (first | (with_reducible assumption) | (with_reducible refine HeldP.c_drew ?_) | (with_reducible refine HeldP.c_drewN ?_) | (with_reducible refine HeldP.c_same (by omega) ?_) | (with_reducible refine HeldP.c_other ?_ ?_) | (with_reducible refine HeldP.c_new (by first | omega | (simp; done) | (simp; omega)) ?_) | (with_reducible refine HeldP.c_alloc ?_ ?_) | (with_reducible refine HeldP.e_drew ?_) | (with_reducible refine HeldP.e_drewN ?_) | (with_reducible refine HeldP.e_set ?_) | (with_reducible refine HeldP.e_new (by first | omega | (simp; done) | (simp; omega)) ⟨_, rfl⟩) | (with_reducible refine HeldP.e_alloc ?_ ?_) | (with_reducible refine HeldP.f_drew ?_) | (with_reducible refine HeldP.f_drewN ?_) | (with_reducible refine HeldP.f_set ?_) | (with_reducible refine HeldP.f_new (by first | omega | (simp; done) | (simp; omega))) | (with_reducible refine HeldP.f_alloc ?_ ?_) | (with_reducible refine HeldP.s_drew ?_) | (with_reducible refine HeldP.s_drewN ?_) | (with_reducible refine HeldP.s_set ?_) | (with_reducible refine HeldP.s_new (by first | omega | (simp; done) | (simp; omega))) | (with_reducible refine HeldP.s_alloc ?_) | (with_reducible exact ⟨_, by assumption⟩) | omega | (intro e; simp at e; done) | (intro e; simp at e; omega) | (exact rfl) | (simp; done) | (simp; omega)))
    have s2 : (((w1.setCell ⟨w.heap.size, 0, none⟩ (.pointer none)).setCell ⟨w.heap.size, 1, none⟩ (.int .i64 0)).setCell ⟨w.heap.size, 2, none⟩ (.int .i64 0)).cell? ⟨w.heap.size, 2, none⟩ = some (.int .i64 0) := by (repeat' (first | (with_reducible assumption) | (with_reducible refine HeldP.c_drew ?_) | (with_reducible refine HeldP.c_drewN ?_) | (with_reducible refine HeldP.c_same (by omega) ?_) | (with_reducible refine HeldP.c_other ?_ ?_) | (with_reducible refine HeldP.c_new (by first | omega | (simp; done) | (simp; omega)) ?_) | (with_reducible refine HeldP.c_alloc ?_ ?_) | (with_reducible refine HeldP.e_drew ?_) | (with_reducible refine HeldP.e_drewN ?_) | (with_reducible refine HeldP.e_set ?_) | (with_reducible refine HeldP.e_new (by first | omega | (simp; done) | (simp; omega)) ⟨_, rfl⟩) | (with_reducible refine HeldP.e_alloc ?_ ?_) | (with_reducible refine HeldP.f_drew ?_) | (with_reducible refine HeldP.f_drewN ?_) | (with_reducible refine HeldP.f_set ?_) | (with_reducible refine HeldP.f_new (by first | omega | (simp; done) | (simp; omega))) | (with_reducible refine HeldP.f_alloc ?_ ?_) | (with_reducible refine HeldP.s_drew ?_) | (with_reducible refine HeldP.s_drewN ?_) | (with_reducible refine HeldP.s_set ?_) | (with_reducible refine HeldP.s_new (by first | omega | (simp; done) | (simp; omega))) | (with_reducible refine HeldP.s_alloc ?_) | (with_reducible exact ⟨_, by assumption⟩) | omega | (intro e; simp at e; done) | (intro e; simp at e; omega) | (exact rfl) | (simp; done) | (simp; omega)))
    refine bodyPost_ret (v := .tuple #[.agg #[.pointer none, .int .i64 0, .int .i64 0], .int .i64 2]) (by simp [results, Tryd.results31, go_sem, s0, s1, s2]) rfl ?_
    exact ⟨rfl, by (repeat' (first | (with_reducible exact Below.refl _ _) | (with_reducible refine Below.setCell ?_ (by (first | omega | (simp; done) | (simp; omega))) _) | (with_reducible refine Below.alloc ?_ (by (first | omega | (simp; done) | (simp; omega))) _) | (with_reducible refine Below.drew ?_) | (with_reducible refine below_drewN ?_ _) | (with_reducible refine Below.trans ?_ (Below.mono B1.out (by (first | omega | (simp; done) | (simp; omega)))))))⟩
  by_cases g2 : a < 0
  · rw [open_bad h0 hs (.inr (.inl g2)), if_neg (by omega)]
    clear hs
    go_enter Tryd.func31, Tryd.ntmps31
    go_wp2_with fail
    refine calls_named (S := fun W => Below w.heap.size w W ∧ Blk W w.heap.size TJ [.pointer none, .int .i64 0, .int .i64 0]) ⟨by (repeat' (first | (with_reducible exact Below.refl _ _) | (with_reducible refine Below.setCell ?_ (by (first | omega | (simp; done) | (simp; omega))) _) | (with_reducible refine Below.alloc ?_ (by (first | omega | (simp; done) | (simp; omega))) _) | (with_reducible refine Below.drew ?_) | (with_reducible refine below_drewN ?_ _))), by (repeat' (first | (with_reducible refine BlkP.Blk.drew ?_) | (with_reducible refine BlkP.Blk.drewN ?_ _) | (with_reducible refine BlkP.Blk.setAt (us := ?_) (by first | omega | (simp; done) | (simp; omega)) rfl ?_ ?_) | (with_reducible refine BlkP.Blk.otherAt ?_ (by first | omega | (simp; done) | (simp; omega))) | (with_reducible refine BlkP.Blk.newA' (by first | omega | (simp; done) | (simp; omega)) rfl) | (with_reducible refine BlkP.Blk.alloc ?_ _) | (exact rfl)))⟩ (fun w1 hq1 => ?_)
    obtain ⟨hb1, hk1⟩ := hq1
    have k0 := hk1.cell (i := 0) rfl
    have k1 := hk1.cell (i := 1) rfl
    have k2 := hk1.cell (i := 2) rfl
    have kl := hk1.lt
    have f0 := hk1.frozen 0
    have f1 := hk1.frozen 1
    have f2 := hk1.frozen 2
    have B1 := Lib.hid hb1
    have Q1 := Lib.hid (Q.out.below hb1)
    clear hb1 hk1
    refine (Len_c Q1.out).mono ?_
    rintro e w2 ⟨rfl, hw⟩
    obtain rfl := hw.symm
    go_wp2_with fail
    refine Size_c.mono ?_
    rintro e w2 ⟨rfl, hw⟩
    obtain rfl := hw.symm
    rw [HS.out]
    go_wp2_with fail
    have s0 : (w1.setCell ⟨w.heap.size, 0, none⟩ (.pointer none)).cell? ⟨w.heap.size, 0, none⟩ = some (.pointer none) := by (repeat' (first | (with_reducible assumption) | (with_reducible refine HeldP.c_drew ?_) | (with_reducible refine HeldP.c_drewN ?_) | (with_reducible refine HeldP.c_same (by omega) ?_) | (with_reducible refine HeldP.c_other ?_ ?_) | (with_reducible refine HeldP.c_new (by first | omega | (simp; done) | (simp; omega)) ?_) | (with_reducible refine HeldP.c_alloc ?_ ?_) | (with_reducible refine HeldP.e_drew ?_) | (with_reducible refine HeldP.e_drewN ?_) | (with_reducible refine HeldP.e_set ?_) | (with_reducible refine HeldP.e_new (by first | omega | (simp; done) | (simp; omega)) ⟨_, rfl⟩) | (with_reducible refine HeldP.e_alloc ?_ ?_) | (with_reducible refine HeldP.f_drew ?_) | (with_reducible refine HeldP.f_drewN ?_) | (with_reducible refine HeldP.f_set ?_) | (with_reducible refine HeldP.f_new (by first | omega | (simp; done) | (simp; omega))) | (with_reducible refine HeldP.f_alloc ?_ ?_) | (with_reducible refine HeldP.s_drew ?_) | (with_reducible refine HeldP.s_drewN ?_) | (with_reducible refine HeldP.s_set ?_) | (with_reducible refine HeldP.s_new (by first | omega | (simp; done) | (simp; omega))) | (with_reducible refine HeldP.s_alloc ?_) | (with_reducible exact ⟨_, by assumption⟩) | omega | (intro e; simp at e; done) | (intro e; simp at e; omega) | (exact rfl) | (simp; done) | (simp; omega)))
    have s1 : ((w1.setCell ⟨w.heap.size, 0, none⟩ (.pointer none)).setCell ⟨w.heap.size, 1, none⟩ (.int .i64 0)).cell? ⟨w.heap.size, 1, none⟩ = some (.int .i64 0) := by (repeat' (first | (with_reducible assumption) | (with_reducible refine HeldP.c_drew ?_) | (with_reducible refine HeldP.c_drewN ?_) | (with_reducible refine HeldP.c_same (by omega) ?_) | (with_reducible refine HeldP.c_other ?_ ?_) | (with_reducible refine HeldP.c_new (by first | omega | (simp; done) | (simp; omega)) ?_) | (with_reducible refine HeldP.c_alloc ?_ ?_) | (with_reducible refine HeldP.e_drew ?_) | (with_reducible refine HeldP.e_drewN ?_) | (with_reducible refine HeldP.e_set ?_) | (with_reducible refine HeldP.e_new (by first | omega | (simp; done) | (simp; omega)) ⟨_, rfl⟩) | (with_reducible refine HeldP.e_alloc ?_ ?_) | (with_reducible refine HeldP.f_drew ?_) | (with_reducible refine HeldP.f_drewN ?_) | (with_reducible refine HeldP.f_set ?_) | (with_reducible refine HeldP.f_new (by first | omega | (simp; done) | (simp; omega))) | (with_reducible refine HeldP.f_alloc ?_ ?_) | (with_reducible refine HeldP.s_drew ?_) | (with_reducible refine HeldP.s_drewN ?_) | (with_reducible refine HeldP.s_set ?_) | (with_reducible refine HeldP.s_new (by first | omega | (simp; done) | (simp; omega))) | (with_reducible refine HeldP.s_alloc ?_) | (with_reducible exact ⟨_, by assumption⟩) | omega | (intro e; simp at e; done) | (intro e; simp at e; omega) | (exact rfl) | (simp; done) | (simp; omega)))
    have s2 : (((w1.setCell ⟨w.heap.size, 0, none⟩ (.pointer none)).setCell ⟨w.heap.size, 1, none⟩ (.int .i64 0)).setCell ⟨w.heap.size, 2, none⟩ (.int .i64 0)).cell? ⟨w.heap.size, 2, none⟩ = some (.int .i64 0) := by (repeat' (first | (with_reducible assumption) | (with_reducible refine HeldP.c_drew ?_) | (with_reducible refine HeldP.c_drewN ?_) | (with_reducible refine HeldP.c_same (by omega) ?_) | (with_reducible refine HeldP.c_other ?_ ?_) | (with_reducible refine HeldP.c_new (by first | omega | (simp; done) | (simp; omega)) ?_) | (with_reducible refine HeldP.c_alloc ?_ ?_) | (with_reducible refine HeldP.e_drew ?_) | (with_reducible refine HeldP.e_drewN ?_) | (with_reducible refine HeldP.e_set ?_) | (with_reducible refine HeldP.e_new (by first | omega | (simp; done) | (simp; omega)) ⟨_, rfl⟩) | (with_reducible refine HeldP.e_alloc ?_ ?_) | (with_reducible refine HeldP.f_drew ?_) | (with_reducible refine HeldP.f_drewN ?_) | (with_reducible refine HeldP.f_set ?_) | (with_reducible refine HeldP.f_new (by first | omega | (simp; done) | (simp; omega))) | (with_reducible refine HeldP.f_alloc ?_ ?_) | (with_reducible refine HeldP.s_drew ?_) | (with_reducible refine HeldP.s_drewN ?_) | (with_reducible refine HeldP.s_set ?_) | (with_reducible refine HeldP.s_new (by first | omega | (simp; done) | (simp; omega))) | (with_reducible refine HeldP.s_alloc ?_) | (with_reducible exact ⟨_, by assumption⟩) | omega | (intro e; simp at e; done) | (intro e; simp at e; omega) | (exact rfl) | (simp; done) | (simp; omega)))
    refine bodyPost_ret (v := .tuple #[.agg #[.pointer none, .int .i64 0, .int .i64 0], .int .i64 2]) (by simp [results, Tryd.results31, go_sem, s0, s1, s2]) rfl ?_
    exact ⟨rfl, by (repeat' (first | (with_reducible exact Below.refl _ _) | (with_reducible refine Below.setCell ?_ (by (first | omega | (simp; done) | (simp; omega))) _) | (with_reducible refine Below.alloc ?_ (by (first | omega | (simp; done) | (simp; omega))) _) | (with_reducible refine Below.drew ?_) | (with_reducible refine below_drewN ?_ _) | (with_reducible refine Below.trans ?_ (Below.mono B1.out (by (first | omega | (simp; done) | (simp; omega)))))))⟩
  by_cases g3 : (d.n : Int) - s < a
  · rw [open_bad h0 hs (.inr (.inr g3)), if_neg (by omega)]
    clear hs
    go_enter Tryd.func31, Tryd.ntmps31
    go_wp2_with fail
    refine calls_named (S := fun W => Below w.heap.size w W ∧ Blk W w.heap.size TJ [.pointer none, .int .i64 0, .int .i64 0]) ⟨by (repeat' (first | (with_reducible exact Below.refl _ _) | (with_reducible refine Below.setCell ?_ (by (first | omega | (simp; done) | (simp; omega))) _) | (with_reducible refine Below.alloc ?_ (by (first | omega | (simp; done) | (simp; omega))) _) | (with_reducible refine Below.drew ?_) | (with_reducible refine below_drewN ?_ _))), by (repeat' (first | (with_reducible refine BlkP.Blk.drew ?_) | (with_reducible refine BlkP.Blk.drewN ?_ _) | (with_reducible refine BlkP.Blk.setAt (us := ?_) (by first | omega | (simp; done) | (simp; omega)) rfl ?_ ?_) | (with_reducible refine BlkP.Blk.otherAt ?_ (by first | omega | (simp; done) | (simp; omega))) | (with_reducible refine BlkP.Blk.newA' (by first | omega | (simp; done) | (simp; omega)) rfl) | (with_reducible refine BlkP.Blk.alloc ?_ _) | (exact rfl)))⟩ (fun w1 hq1 => ?_)
    obtain ⟨hb1, hk1⟩ := hq1
    have k0 := hk1.cell (i := 0) rfl
    have k1 := hk1.cell (i := 1) rfl
    have k2 := hk1.cell (i := 2) rfl
    have kl := hk1.lt
    have f0 := hk1.frozen 0
    have f1 := hk1.frozen 1
    have f2 := hk1.frozen 2
    have B1 := Lib.hid hb1
    have Q1 := Lib.hid (Q.out.below hb1)
    clear hb1 hk1
    refine (Len_c Q1.out).mono ?_
    rintro e w2 ⟨rfl, hw⟩
    obtain rfl := hw.symm
    go_wp2_with fail
    refine Size_c.mono ?_
    rintro e w2 ⟨rfl, hw⟩
    obtain rfl := hw.symm
    rw [HS.out]
    go_wp2_with fail
    have s0 : (w1.setCell ⟨w.heap.size, 0, none⟩ (.pointer none)).cell? ⟨w.heap.size, 0, none⟩ = some (.pointer none) := by (repeat' (first | (with_reducible assumption) | (with_reducible refine HeldP.c_drew ?_) | (with_reducible refine HeldP.c_drewN ?_) | (with_reducible refine HeldP.c_same (by omega) ?_) | (with_reducible refine HeldP.c_other ?_ ?_) | (with_reducible refine HeldP.c_new (by first | omega | (simp; done) | (simp; omega)) ?_) | (with_reducible refine HeldP.c_alloc ?_ ?_) | (with_reducible refine HeldP.e_drew ?_) | (with_reducible refine HeldP.e_drewN ?_) | (with_reducible refine HeldP.e_set ?_) | (with_reducible refine HeldP.e_new (by first | omega | (simp; done) | (simp; omega)) ⟨_, rfl⟩) | (with_reducible refine HeldP.e_alloc ?_ ?_) | (with_reducible refine HeldP.f_drew ?_) | (with_reducible refine HeldP.f_drewN ?_) | (with_reducible refine HeldP.f_set ?_) | (with_reducible refine HeldP.f_new (by first | omega | (simp; done) | (simp; omega))) | (with_reducible refine HeldP.f_alloc ?_ ?_) | (with_reducible refine HeldP.s_drew ?_) | (with_reducible refine HeldP.s_drewN ?_) | (with_reducible refine HeldP.s_set ?_) | (with_reducible refine HeldP.s_new (by first | omega | (simp; done) | (simp; omega))) | (with_reducible refine HeldP.s_alloc ?_) | (with_reducible exact ⟨_, by assumption⟩) | omega | (intro e; simp at e; done) | (intro e; simp at e; omega) | (exact rfl) | (simp; done) | (simp; omega)))
    have s1 : ((w1.setCell ⟨w.heap.size, 0, none⟩ (.pointer none)).setCell ⟨w.heap.size, 1, none⟩ (.int .i64 0)).cell? ⟨w.heap.size, 1, none⟩ = some (.int .i64 0) := by (repeat' (first | (with_reducible assumption) | (with_reducible refine HeldP.c_drew ?_) | (with_reducible refine HeldP.c_drewN ?_) | (with_reducible refine HeldP.c_same (by omega) ?_) | (with_reducible refine HeldP.c_other ?_ ?_) | (with_reducible refine HeldP.c_new (by first | omega | (simp; done) | (simp; omega)) ?_) | (with_reducible refine HeldP.c_alloc ?_ ?_) | (with_reducible refine HeldP.e_drew ?_) | (with_reducible refine HeldP.e_drewN ?_) | (with_reducible refine HeldP.e_set ?_) | (with_reducible refine HeldP.e_new (by first | omega | (simp; done) | (simp; omega)) ⟨_, rfl⟩) | (with_reducible refine HeldP.e_alloc ?_ ?_) | (with_reducible refine HeldP.f_drew ?_) | (with_reducible refine HeldP.f_drewN ?_) | (with_reducible refine HeldP.f_set ?_) | (with_reducible refine HeldP.f_new (by first | omega | (simp; done) | (simp; omega))) | (with_reducible refine HeldP.f_alloc ?_ ?_) | (with_reducible refine HeldP.s_drew ?_) | (with_reducible refine HeldP.s_drewN ?_) | (with_reducible refine HeldP.s_set ?_) | (with_reducible refine HeldP.s_new (by first | omega | (simp; done) | (simp; omega))) | (with_reducible refine HeldP.s_alloc ?_) | (with_reducible exact ⟨_, by assumption⟩) | omega | (intro e; simp at e; done) | (intro e; simp at e; omega) | (exact rfl) | (simp; done) | (simp; omega)))
    have s2 : (((w1.setCell ⟨w.heap.size, 0, none⟩ (.pointer none)).setCell ⟨w.heap.size, 1, none⟩ (.int .i64 0)).setCell ⟨w.heap.size, 2, none⟩ (.int .i64 0)).cell? ⟨w.heap.size, 2, none⟩ = some (.int .i64 0) := by (repeat' (first | (with_reducible assumption) | (with_reducible refine HeldP.c_drew ?_) | (with_reducible refine HeldP.c_drewN ?_) | (with_reducible refine HeldP.c_same (by omega) ?_) | (with_reducible refine HeldP.c_other ?_ ?_) | (with_reducible refine HeldP.c_new (by first | omega | (simp; done) | (simp; omega)) ?_) | (with_reducible refine HeldP.c_alloc ?_ ?_) | (with_reducible refine HeldP.e_drew ?_) | (with_reducible refine HeldP.e_drewN ?_) | (with_reducible refine HeldP.e_set ?_) | (with_reducible refine HeldP.e_new (by first | omega | (simp; done) | (simp; omega)) ⟨_, rfl⟩) | (with_reducible refine HeldP.e_alloc ?_ ?_) | (with_reducible refine HeldP.f_drew ?_) | (with_reducible refine HeldP.f_drewN ?_) | (with_reducible refine HeldP.f_set ?_) | (with_reducible refine HeldP.f_new (by first | omega | (simp; done) | (simp; omega))) | (with_reducible refine HeldP.f_alloc ?_ ?_) | (with_reducible refine HeldP.s_drew ?_) | (with_reducible refine HeldP.s_drewN ?_) | (with_reducible refine HeldP.s_set ?_) | (with_reducible refine HeldP.s_new (by first | omega | (simp; done) | (simp; omega))) | (with_reducible refine HeldP.s_alloc ?_) | (with_reducible exact ⟨_, by assumption⟩) | omega | (intro e; simp at e; done) | (intro e; simp at e; omega) | (exact rfl) | (simp; done) | (simp; omega)))
    refine bodyPost_ret (v := .tuple #[.agg #[.pointer none, .int .i64 0, .int .i64 0], .int .i64 2]) (by simp [results, Tryd.results31, go_sem, s0, s1, s2]) rfl ?_
    exact ⟨rfl, by (repeat' (first | (with_reducible exact Below.refl _ _) | (with_reducible refine Below.setCell ?_ (by (first | omega | (simp; done) | (simp; omega))) _) | (with_reducible refine Below.alloc ?_ (by (first | omega | (simp; done) | (simp; omega))) _) | (with_reducible refine Below.drew ?_) | (with_reducible refine below_drewN ?_ _) | (with_reducible refine Below.trans ?_ (Below.mono B1.out (by (first | omega | (simp; done) | (simp; omega)))))))⟩
  · rw [open_ok h0 hs (fun q => by rcases q with q | q | q <;> contradiction), if_pos rfl]
    clear hs
    have g1b : (s == 0) = false := by simp [g1]
    have g2b : ¬ (a < 0) := g2
    have g3b : ¬ ((d.n : Int) - s < a) := g3
    go_enter Tryd.func31, Tryd.ntmps31
    go_wp2_with fail
    refine calls_named (S := fun W => Below w.heap.size w W ∧ Blk W w.heap.size TJ [.pointer none, .int .i64 0, .int .i64 0]) ⟨by (repeat' (first | (with_reducible exact Below.refl _ _) | (with_reducible refine Below.setCell ?_ (by (first | omega | (simp; done) | (simp; omega))) _) | (with_reducible refine Below.alloc ?_ (by (first | omega | (simp; done) | (simp; omega))) _) | (with_reducible refine Below.drew ?_) | (with_reducible refine below_drewN ?_ _))), by (repeat' (first | (with_reducible refine BlkP.Blk.drew ?_) | (with_reducible refine BlkP.Blk.drewN ?_ _) | (with_reducible refine BlkP.Blk.setAt (us := ?_) (by first | omega | (simp; done) | (simp; omega)) rfl ?_ ?_) | (with_reducible refine BlkP.Blk.otherAt ?_ (by first | omega | (simp; done) | (simp; omega))) | (with_reducible refine BlkP.Blk.newA' (by first | omega | (simp; done) | (simp; omega)) rfl) | (with_reducible refine BlkP.Blk.alloc ?_ _) | (exact rfl)))⟩ (fun w1 hq1 => ?_)
    obtain ⟨hb1, hk1⟩ := hq1
    have k0 := hk1.cell (i := 0) rfl
    have k1 := hk1.cell (i := 1) rfl
    have k2 := hk1.cell (i := 2) rfl
    have kl := hk1.lt
    have f0 := hk1.frozen 0
    have f1 := hk1.frozen 1
    have f2 := hk1.frozen 2
    have B1 := Lib.hid hb1
    have Q1 := Lib.hid (Q.out.below hb1)
    clear hb1 hk1
    refine (Len_c Q1.out).mono ?_
    rintro e w2 ⟨rfl, hw⟩
    obtain rfl := hw.symm
    go_wp2_with fail
    refine Size_c.mono ?_
    rintro e w2 ⟨rfl, hw⟩
    obtain rfl := hw.symm
    rw [HS.out]
    go_wp2_with fail
    have s0 : (w1.setCell ⟨w.heap.size, 0, none⟩ (.pointer (some ⟨pd, 0, none⟩))).cell? ⟨w.heap.size, 0, none⟩ = some (.pointer (some ⟨pd, 0, none⟩)) := by (repeat' (first | (with_reducible assumption) | (with_reducible refine HeldP.c_drew ?_) | (with_reducible refine HeldP.c_drewN ?_) | (with_reducible refine HeldP.c_same (by omega) ?_) | (with_reducible refine HeldP.c_other ?_ ?_) | (with_reducible refine HeldP.c_new (by first | omega | (simp; done) | (simp; omega)) ?_) | (with_reducible refine HeldP.c_alloc ?_ ?_) | (with_reducible refine HeldP.e_drew ?_) | (with_reducible refine HeldP.e_drewN ?_) | (with_reducible refine HeldP.e_set ?_) | (with_reducible refine HeldP.e_new (by first | omega | (simp; done) | (simp; omega)) ⟨_, rfl⟩) | (with_reducible refine HeldP.e_alloc ?_ ?_) | (with_reducible refine HeldP.f_drew ?_) | (with_reducible refine HeldP.f_drewN ?_) | (with_reducible refine HeldP.f_set ?_) | (with_reducible refine HeldP.f_new (by first | omega | (simp; done) | (simp; omega))) | (with_reducible refine HeldP.f_alloc ?_ ?_) | (with_reducible refine HeldP.s_drew ?_) | (with_reducible refine HeldP.s_drewN ?_) | (with_reducible refine HeldP.s_set ?_) | (with_reducible refine HeldP.s_new (by first | omega | (simp; done) | (simp; omega))) | (with_reducible refine HeldP.s_alloc ?_) | (with_reducible exact ⟨_, by assumption⟩) | omega | (intro e; simp at e; done) | (intro e; simp at e; omega) | (exact rfl) | (simp; done) | (simp; omega)))
    have s1 : ((w1.setCell ⟨w.heap.size, 0, none⟩ (.pointer (some ⟨pd, 0, none⟩))).setCell ⟨w.heap.size, 1, none⟩ (.int .i64 a)).cell? ⟨w.heap.size, 1, none⟩ = some (.int .i64 a) := by (repeat' (first | (with_reducible assumption) | (with_reducible refine HeldP.c_drew ?_) | (with_reducible refine HeldP.c_drewN ?_) | (with_reducible refine HeldP.c_same (by omega) ?_) | (with_reducible refine HeldP.c_other ?_ ?_) | (with_reducible refine HeldP.c_new (by first | omega | (simp; done) | (simp; omega)) ?_) | (with_reducible refine HeldP.c_alloc ?_ ?_) | (with_reducible refine HeldP.e_drew ?_) | (with_reducible refine HeldP.e_drewN ?_) | (with_reducible refine HeldP.e_set ?_) | (with_reducible refine HeldP.e_new (by first | omega | (simp; done) | (simp; omega)) ⟨_, rfl⟩) | (with_reducible refine HeldP.e_alloc ?_ ?_) | (with_reducible refine HeldP.f_drew ?_) | (with_reducible refine HeldP.f_drewN ?_) | (with_reducible refine HeldP.f_set ?_) | (with_reducible refine HeldP.f_new (by first | omega | (simp; done) | (simp; omega))) | (with_reducible refine HeldP.f_alloc ?_ ?_) | (with_reducible refine HeldP.s_drew ?_) | (with_reducible refine HeldP.s_drewN ?_) | (with_reducible refine HeldP.s_set ?_) | (with_reducible refine HeldP.s_new (by first | omega | (simp; done) | (simp; omega))) | (with_reducible refine HeldP.s_alloc ?_) | (with_reducible exact ⟨_, by assumption⟩) | omega | (intro e; simp at e; done) | (intro e; simp at e; omega) | (exact rfl) | (simp; done) | (simp; omega)))
    have s2 : (((w1.setCell ⟨w.heap.size, 0, none⟩ (.pointer (some ⟨pd, 0, none⟩))).setCell ⟨w.heap.size, 1, none⟩ (.int .i64 a)).setCell ⟨w.heap.size, 2, none⟩ (.int .i64 m)).cell? ⟨w.heap.size, 2, none⟩ = some (.int .i64 m) := by (repeat' (first | (with_reducible assumption) | (with_reducible refine HeldP.c_drew ?_) | (with_reducible refine HeldP.c_drewN ?_) | (with_reducible refine HeldP.c_same (by omega) ?_) | (with_reducible refine HeldP.c_other ?_ ?_) | (with_reducible refine HeldP.c_new (by first | omega | (simp; done) | (simp; omega)) ?_) | (with_reducible refine HeldP.c_alloc ?_ ?_) | (with_reducible refine HeldP.e_drew ?_) | (with_reducible refine HeldP.e_drewN ?_) | (with_reducible refine HeldP.e_set ?_) | (with_reducible refine HeldP.e_new (by first | omega | (simp; done) | (simp; omega)) ⟨_, rfl⟩) | (with_reducible refine HeldP.e_alloc ?_ ?_) | (with_reducible refine HeldP.f_drew ?_) | (with_reducible refine HeldP.f_drewN ?_) | (with_reducible refine HeldP.f_set ?_) | (with_reducible refine HeldP.f_new (by first | omega | (simp; done) | (simp; omega))) | (with_reducible refine HeldP.f_alloc ?_ ?_) | (with_reducible refine HeldP.s_drew ?_) | (with_reducible refine HeldP.s_drewN ?_) | (with_reducible refine HeldP.s_set ?_) | (with_reducible refine HeldP.s_new (by first | omega | (simp; done) | (simp; omega))) | (with_reducible refine HeldP.s_alloc ?_) | (with_reducible exact ⟨_, by assumption⟩) | omega | (intro e; simp at e; done) | (intro e; simp at e; omega) | (exact rfl) | (simp; done) | (simp; omega)))
    refine bodyPost_ret (v := .tuple #[.agg #[.pointer (some ⟨pd, 0, none⟩), .int .i64 a, .int .i64 m], .int .i64 0]) (by simp [results, Tryd.results31, go_sem, s0, s1, s2]) rfl ?_
    exact ⟨rfl, by (repeat' (first | (with_reducible exact Below.refl _ _) | (with_reducible refine Below.setCell ?_ (by (first | omega | (simp; done) | (simp; omega))) _) | (with_reducible refine Below.alloc ?_ (by (first | omega | (simp; done) | (simp; omega))) _) | (with_reducible refine Below.drew ?_) | (with_reducible refine below_drewN ?_ _) | (with_reducible refine Below.trans ?_ (Below.mono B1.out (by (first | omega | (simp; done) | (simp; omega)))))))⟩
theorem open_no {p : Option Addr} {a m : Int} (h : p = none ∨ ∃ b, p = some ⟨b, 0, none⟩ ∧ Blk w b TD [.pointer none]) :
    Calls Tryd.prog 31 #[.pointer p, .int .i64 a, .int .i64 m] w fun e w' => e = .returned (.tuple #[jv none 0 0, .int .i64 1]) ∧ Below w.heap.size w w' := by
  have H := Lib.hid h
  obtain ⟨s, hs⟩ : ∃ s, sizeJ m = s := ⟨_, rfl⟩
  have HS := Lib.hid hs
  unfold jv
  clear h hs
  go_enter Tryd.func31, Tryd.ntmps31
  go_wp2_with fail
  refine calls_named (S := fun W => Below w.heap.size w W ∧ Blk W w.heap.size TJ [.pointer none, .int .i64 0, .int .i64 0]) ⟨by (repeat' (first | (with_reducible exact Below.refl _ _) | (with_reducible refine Below.setCell ?_ (by (first | omega | (simp; done) | (simp; omega))) _) | (with_reducible refine Below.alloc ?_ (by (first | omega | (simp; done) | (simp; omega))) _) | (with_reducible refine Below.drew ?_) | (with_reducible refine below_drewN ?_ _))), by (repeat' (first | (with_reducible refine BlkP.Blk.drew ?_) | (with_reducible refine BlkP.Blk.drewN ?_ _) | (with_reducible refine BlkP.Blk.setAt (us := ?_) (by first | omega | (simp; done) | (simp; omega)) rfl ?_ ?_) | (with_reducible refine BlkP.Blk.otherAt ?_ (by first | omega | (simp; done) | (simp; omega))) | (with_reducible refine BlkP.Blk.newA' (by first | omega | (simp; done) | (simp; omega)) rfl) | (with_reducible refine BlkP.Blk.alloc ?_ _) | (exact rfl)))⟩ (fun w1 hq1 => ?_)
  obtain ⟨hb1, hk1⟩ := hq1
  have k0 := hk1.cell (i := 0) rfl
  have k1 := hk1.cell (i := 1) rfl
  have k2 := hk1.cell (i := 2) rfl
  have kl := hk1.lt
  have f0 := hk1.frozen 0
  have f1 := hk1.frozen 1
  have f2 := hk1.frozen 2
  have B1 := Lib.hid hb1
  have H1 := Lib.hid (show p = none ∨ ∃ b, p = some ⟨b, 0, none⟩ ∧ Blk w1 b TD [.pointer none] from H.out.imp id (fun ⟨b, e, q⟩ => ⟨b, e, q.below hb1⟩))
  clear hb1 hk1
  refine (Len_no H1.out).mono ?_
  rintro e w2 ⟨rfl, hw⟩
  obtain rfl := hw.symm
  go_wp2_with fail
  refine Size_c.mono ?_
  rintro e w2 ⟨rfl, hw⟩
  obtain rfl := hw.symm
  rw [HS.out]
  go_wp2_with fail
  have s0 : (w1.setCell ⟨w.heap.size, 0, none⟩ (.pointer none)).cell? ⟨w.heap.size, 0, none⟩ = some (.pointer none) := by (repeat' (first | (with_reducible assumption) | (with_reducible refine HeldP.c_drew ?_) | (with_reducible refine HeldP.c_drewN ?_) | (with_reducible refine HeldP.c_same (by omega) ?_) | (with_reducible refine HeldP.c_other ?_ ?_) | (with_reducible refine HeldP.c_new (by first | omega | (simp; done) | (simp; omega)) ?_) | (with_reducible refine HeldP.c_alloc ?_ ?_) | (with_reducible refine HeldP.e_drew ?_) | (with_reducible refine HeldP.e_drewN ?_) | (with_reducible refine HeldP.e_set ?_) | (with_reducible refine HeldP.e_new (by first | omega | (simp; done) | (simp; omega)) ⟨_, rfl⟩) | (with_reducible refine HeldP.e_alloc ?_ ?_) | (with_reducible refine HeldP.f_drew ?_) | (with_reducible refine HeldP.f_drewN ?_) | (with_reducible refine HeldP.f_set ?_) | (with_reducible refine HeldP.f_new (by first | omega | (simp; done) | (simp; omega))) | (with_reducible refine HeldP.f_alloc ?_ ?_) | (with_reducible refine HeldP.s_drew ?_) | (with_reducible refine HeldP.s_drewN ?_) | (with_reducible refine HeldP.s_set ?_) | (with_reducible refine HeldP.s_new (by first | omega | (simp; done) | (simp; omega))) | (with_reducible refine HeldP.s_alloc ?_) | (with_reducible exact ⟨_, by assumption⟩) | omega | (intro e; simp at e; done) | (intro e; simp at e; omega) | (exact rfl) | (simp; done) | (simp; omega)))
  have s1 : ((w1.setCell ⟨w.heap.size, 0, none⟩ (.pointer none)).setCell ⟨w.heap.size, 1, none⟩ (.int .i64 0)).cell? ⟨w.heap.size, 1, none⟩ = some (.int .i64 0) := by (repeat' (first | (with_reducible assumption) | (with_reducible refine HeldP.c_drew ?_) | (with_reducible refine HeldP.c_drewN ?_) | (with_reducible refine HeldP.c_same (by omega) ?_) | (with_reducible refine HeldP.c_other ?_ ?_) | (with_reducible refine HeldP.c_new (by first | omega | (simp; done) | (simp; omega)) ?_) | (with_reducible refine HeldP.c_alloc ?_ ?_) | (with_reducible refine HeldP.e_drew ?_) | (with_reducible refine HeldP.e_drewN ?_) | (with_reducible refine HeldP.e_set ?_) | (with_reducible refine HeldP.e_new (by first | omega | (simp; done) | (simp; omega)) ⟨_, rfl⟩) | (with_reducible refine HeldP.e_alloc ?_ ?_) | (with_reducible refine HeldP.f_drew ?_) | (with_reducible refine HeldP.f_drewN ?_) | (with_reducible refine HeldP.f_set ?_) | (with_reducible refine HeldP.f_new (by first | omega | (simp; done) | (simp; omega))) | (with_reducible refine HeldP.f_alloc ?_ ?_) | (with_reducible refine HeldP.s_drew ?_) | (with_reducible refine HeldP.s_drewN ?_) | (with_reducible refine HeldP.s_set ?_) | (with_reducible refine HeldP.s_new (by first | omega | (simp; done) | (simp; omega))) | (with_reducible refine HeldP.s_alloc ?_) | (with_reducible exact ⟨_, by assumption⟩) | omega | (intro e; simp at e; done) | (intro e; simp at e; omega) | (exact rfl) | (simp; done) | (simp; omega)))
  have s2 : (((w1.setCell ⟨w.heap.size, 0, none⟩ (.pointer none)).setCell ⟨w.heap.size, 1, none⟩ (.int .i64 0)).setCell ⟨w.heap.size, 2, none⟩ (.int .i64 0)).cell? ⟨w.heap.size, 2, none⟩ = some (.int .i64 0) := by (repeat' (first | (with_reducible assumption) | (with_reducible refine HeldP.c_drew ?_) | (with_reducible refine HeldP.c_drewN ?_) | (with_reducible refine HeldP.c_same (by omega) ?_) | (with_reducible refine HeldP.c_other ?_ ?_) | (with_reducible refine HeldP.c_new (by first | omega | (simp; done) | (simp; omega)) ?_) | (with_reducible refine HeldP.c_alloc ?_ ?_) | (with_reducible refine HeldP.e_drew ?_) | (with_reducible refine HeldP.e_drewN ?_) | (with_reducible refine HeldP.e_set ?_) | (with_reducible refine HeldP.e_new (by first | omega | (simp; done) | (simp; omega)) ⟨_, rfl⟩) | (with_reducible refine HeldP.e_alloc ?_ ?_) | (with_reducible refine HeldP.f_drew ?_) | (with_reducible refine HeldP.f_drewN ?_) | (with_reducible refine HeldP.f_set ?_) | (with_reducible refine HeldP.f_new (by first | omega | (simp; done) | (simp; omega))) | (with_reducible refine HeldP.f_alloc ?_ ?_) | (with_reducible refine HeldP.s_drew ?_) | (with_reducible refine HeldP.s_drewN ?_) | (with_reducible refine HeldP.s_set ?_) | (with_reducible refine HeldP.s_new (by first | omega | (simp; done) | (simp; omega))) | (with_reducible refine HeldP.s_alloc ?_) | (with_reducible exact ⟨_, by assumption⟩) | omega | (intro e; simp at e; done) | (intro e; simp at e; omega) | (exact rfl) | (simp; done) | (simp; omega)))
  refine bodyPost_ret (v := .tuple #[.agg #[.pointer none, .int .i64 0, .int .i64 0], .int .i64 1]) (by simp [results, Tryd.results31, go_sem, s0, s1, s2]) rfl ?_
  exact ⟨rfl, by (repeat' (first | (with_reducible exact Below.refl _ _) | (with_reducible refine Below.setCell ?_ (by (first | omega | (simp; done) | (simp; omega))) _) | (with_reducible refine Below.alloc ?_ (by (first | omega | (simp; done) | (simp; omega))) _) | (with_reducible refine Below.drew ?_) | (with_reducible refine below_drewN ?_ _) | (with_reducible refine Below.trans ?_ (Below.mono B1.out (by (first | omega | (simp; done) | (simp; omega)))))))⟩
end
end JouW
end Go.Proofs.YtknckaegpdganaaDoor


/-
  A group's writes to its homes, and nothing to the commit sector.
-/
-- mine: whole_c same_c awake_c take_c step_c back_c
namespace Go.Proofs.YtknckaegpdganaaDoor
open Go.RowKit
set_option linter.unusedVariables false
set_option linter.unusedSimpArgs false
set_option maxRecDepth 100000
namespace JouW
open BlkP RowG FrS PushG JournalP SecP SecW JouP
theorem rd_fr {α : Type} {e : Enc α} {w w' : World} {v : Value} {l : List α} {S : Nat → Prop} (h : Rd e w v l) (hf : Fr S w w') (hn : ∀ g, v.ownBlock = some g → ¬ S g) : Rd e w' v l := by
  obtain ⟨A, c, rfl, hc, hm, hne⟩ := h
  refine ⟨A, c, rfl, hc, hm, fun h0 => ?_⟩
  obtain ⟨b, o, rfl, hlt, hcs⟩ := hne h0
  exact ⟨b, o, rfl, Nat.lt_of_lt_of_le hlt hf.size, fun i x hx j u hu => (hf.cell (p := ⟨b, _, none⟩) hlt (hn b rfl)).trans (hcs i x hx j u hu)⟩
/-- Writes whose homes are natural numbers. -/
theorem flat_nat : ∀ {L : List (Int × Sec)}, (∀ x ∈ L, 0 ≤ x.1) → flat encA (natG L) = flat encL L
  | [], _ => rfl
  | x :: r, h => by
    have ih := flat_nat (L := r) (fun y hy => h y (by simp [hy]))
    have h1 : flat encL (x :: r) = encL.f x ++ flat encL r := rfl
    have h2 : flat encA (natG (x :: r)) = encA.f (x.1.toNat, x.2) ++ flat encA (natG r) := rfl
    have h3 : encA.f (x.1.toNat, x.2) = encL.f x := by
      show [Value.int .i64 ((x.1.toNat : Nat) : Int), _] = _
      rw [Int.toNat_of_nonneg (h x (by simp))]
      rfl
    rw [h1, h2, ih, h3]
theorem rd_nat {w : World} {v : Value} {L : List (Int × Sec)} (h : Rd encL w v L) (h0 : ∀ x ∈ L, 0 ≤ x.1) : Rd encA w v (natG L) := by
  have hl : (natG L).length = L.length := List.length_map ..
  obtain ⟨A, c, rfl, hc, hm, hne⟩ := h
  refine ⟨A, c, by rw [hl], by rw [hl]; exact hc, hm, fun h1 => ?_⟩
  obtain ⟨b, o, rfl, hlt, hcs⟩ := hne (fun e => h1 (by rw [e]; rfl))
  refine ⟨b, o, rfl, hlt, fun i x hx j u hu => ?_⟩
  unfold natG at hx
  rw [List.getElem?_map] at hx
  obtain ⟨y, hy, rfl⟩ := Option.map_eq_some_iff.1 hx
  refine hcs i y hy j u ?_
  rw [← hu]
  show _ = [Value.int .i64 ((y.1.toNat : Nat) : Int), _][j]?
  rw [Int.toNat_of_nonneg (h0 y (List.mem_of_getElem? hy))]
  rfl
theorem write_adds {d : Dk} {i : Nat} {s : Sec} (hi : i < d.n) (hs : s.length ≤ 512) : writeD d (i : Int) s = d.adds [(i, pad s)] ∧ writeE d (i : Int) s = 0 := by
  have h1 : inD d (i : Int) = true := inD_iff.2 ⟨by omega, by omega⟩
  constructor
  · unfold writeD
    rw [h1, if_pos (by simpa using hs)]
    rfl
  · unfold writeE
    rw [h1, if_pos rfl, if_pos hs]
section
variable {w : World} {B pd : Nat} {d : Dk} {S : Nat → Prop}
theorem Write_a {i : Nat} {s : Sec} {d' : Dk} (h : Dsk w B pd d S) (hl : d.ws.length ≤ 1000) (hi : i < d.n) (hs : s.length ≤ 512) (hd : d.adds [(i, pad s)] = d') :
    Calls Tryd.prog 28 #[.pointer (some ⟨pd, 0, none⟩), .int .i64 (i : Int), .string (str s)] w fun e w' => e = .returned (.int .i64 0) ∧ Turned w B pd S d' w' :=
  Write_i h hl ((write_adds hi hs).1.trans hd) (write_adds hi hs).2
theorem Write_z {i : Nat} {d' : Dk} (h : Dsk w B pd d S) (hl : d.ws.length ≤ 1000) (hi : i < d.n) (hd : d.adds [(i, SecP.blank)] = d') :
    Calls Tryd.prog 28 #[.pointer (some ⟨pd, 0, none⟩), .int .i64 (i : Int), .string ⟨#[]⟩] w fun e w' => e = .returned (.int .i64 0) ∧ Turned w B pd S d' w' :=
  Write_a (s := []) h hl hi (by simp) (by rw [pad_nil]; exact hd)
/-- One disk, turned and turned again. -/
theorem Turned.trans {w' w'' : World} {d2 : Dk} {S1 : Nat → Prop} (hS : ∀ k, S k → k < w.heap.size) (hf : Fr S w w') (hn : ∀ k, S1 k → S k ∨ w.heap.size ≤ k) (h : Turned w' B pd S1 d2 w'') : Turned w B pd S d2 w'' := by
  obtain ⟨S2, h1, h2, h3⟩ := h
  refine ⟨S2, h1, hf.trans h2 hn, fun k hk => ?_⟩
  rcases h3 k hk with q | q
  · exact hn k q
  · have := hf.size
    exact .inr (by omega)
set_option maxHeartbeats 16000000 in
theorem settle_c {A : Option Addr} {n c a : Nat} {m : Int} {G : Grp} (h : Dsk w B pd d S) (hR : Rd encA w (.slice A n c) G) (hn : G.length = n) (hS : ∀ g, (Value.slice A n c).ownBlock = some g → ¬ S g) (hl : d.ws.length + n ≤ 990) (hG : ∀ x ∈ G, x.1 < d.n ∧ x.2.length ≤ 512) (ha : a < d.n) :
    Calls Tryd.prog 37 #[jv (some ⟨pd, 0, none⟩) (a : Int) m, .slice A n c] w fun e w' => e = .returned (.tuple #[]) ∧ Turned w B pd S (d.adds (homes a G)) w' := by
  have Q := Lib.hid h
  have HR := Lib.hid hR
  have HN := Lib.hid hn
  have HS := Lib.hid hS
  have HG := Lib.hid hG
  have HLT := Lib.hid (show ∀ k, S k → k < w.heap.size from fun k hk => (h.ge hk).2)
  obtain ⟨J, hJ⟩ : ∃ J, J = w.heap.size := ⟨_, rfl⟩
  have HJ := Lib.hid hJ
  have HJS := Lib.hid (show ¬ S J from fun q => by have := HLT.out J q; omega)
  unfold jv
  clear h hR hn hS hG
  go_enter Tryd.func37, Tryd.ntmps37
  go_wp2_with fail
  go_loopw [8] (fun v8 wr => ∃ (i : Nat) (Si : Nat → Prop), v8 = .int .i64 (i : Int) ∧ i ≤ n ∧ Dsk wr B pd (d.adds (pads (G.take i))) Si ∧ Fr S w wr ∧ Blk wr J TJ [.pointer (some ⟨pd, 0, none⟩), .int .i64 (a : Int), .int .i64 m] ∧ ∀ k, Si k → S k ∨ J < k) (fun v _ => n - (RowKit.intOf v).toNat)
  case atStart => exact ⟨0, S, rfl, Nat.zero_le _, by simpa [pads, adds_nil] using Q.out.below (by (repeat' (first | (with_reducible exact Below.refl _ _) | (with_reducible refine Below.setCell ?_ (by (first | omega | (simp; done) | (simp; omega))) _) | (with_reducible refine Below.alloc ?_ (by (first | omega | (simp; done) | (simp; omega))) _) | (with_reducible refine Below.drew ?_) | (with_reducible refine below_drewN ?_ _)))), Fr.below S (by (repeat' (first | (with_reducible exact Below.refl _ _) | (with_reducible refine Below.setCell ?_ (by (first | omega | (simp; done) | (simp; omega))) _) | (with_reducible refine Below.alloc ?_ (by (first | omega | (simp; done) | (simp; omega))) _) | (with_reducible refine Below.drew ?_) | (with_reducible refine below_drewN ?_ _)))), by rw [hJ]; (repeat' (first | (with_reducible refine BlkP.Blk.drew ?_) | (with_reducible refine BlkP.Blk.drewN ?_ _) | (with_reducible refine BlkP.Blk.setAt (us := ?_) (by first | omega | (simp; done) | (simp; omega)) rfl ?_ ?_) | (with_reducible refine BlkP.Blk.otherAt ?_ (by first | omega | (simp; done) | (simp; omega))) | (with_reducible refine BlkP.Blk.newA' (by first | omega | (simp; done) | (simp; omega)) rfl) | (with_reducible refine BlkP.Blk.alloc ?_ _) | (exact rfl))), fun k hk => .inl hk⟩
  case round =>
    obtain ⟨i, Si, rfl, hi, hq, hf, hkr, hn⟩ := hrel
    have KR := Lib.hid hkr
    have QI := Lib.hid hq
    have FI := Lib.hid hf
    have NI := Lib.hid hn
    have hzr := hf.size
    have HJI := Lib.hid (show ¬ Si J from fun q => by
      rcases hn J q with q | q
      · exact HJS.out q
      · omega)
    have k0 := hkr.cell (i := 0) rfl
    have k1 := hkr.cell (i := 1) rfl
    have k2 := hkr.cell (i := 2) rfl
    have kl := hkr.lt
    rw [HJ.out] at k0 k1 k2 kl
    clear hJ
    have HLEN := Lib.hid (show (d.adds (pads (G.take i))).ws.length ≤ 1000 by
      have := HN.out
      rw [adds_len]
      unfold pads
      rw [List.length_map, List.length_take]
      omega)
    by_cases hin : i < n
    · have hiI : (i : Int) < (n : Int) := by omega
      obtain ⟨⟨xa, xs⟩, hx⟩ : ∃ x, G[i]? = some x := ⟨_, List.getElem?_eq_getElem (by rw [HN.out]; exact hin)⟩
      have HGX := Lib.hid (HG.out _ (List.mem_of_getElem? hx))
      have HP := Lib.hid (pads_take hx)
      obtain ⟨b, o, hbo, hlt, hcs⟩ := (rd_fr HR.out hf HS.out).at hx
      subst hbo
      have x0 := hcs 0 _ rfl
      have x1 := hcs 1 _ rfl
      have hk : encA.k = 2 := rfl
      rw [hk] at x0 x1
      have hol : o + i * 2 + 0 = o + i * 2 := rfl
      rw [hol] at x0
      clear hcs hx hkr hq hf hn hk hol
      go_wp2_with fail
      refine calls_named (S := fun W => Below wr.heap.size wr W) (by (repeat' (first | (with_reducible exact Below.refl _ _) | (with_reducible refine Below.setCell ?_ (by (first | omega | (simp; done) | (simp; omega))) _) | (with_reducible refine Below.alloc ?_ (by (first | omega | (simp; done) | (simp; omega))) _) | (with_reducible refine Below.drew ?_) | (with_reducible refine below_drewN ?_ _)))) (fun w2 hb2 => ?_)
      have B2 := Lib.hid hb2
      have Q2 := Lib.hid (QI.out.below hb2)
      clear hb2
      obtain ⟨d5, hd5⟩ : ∃ d5, (d.adds (pads (G.take i))).adds [(xa, pad xs)] = d5 := ⟨_, rfl⟩
      have HD5 := Lib.hid (show d5 = d.adds (pads (G.take (i + 1))) by rw [← hd5, adds_adds, HP.out])
      refine (Write_a Q2.out HLEN.out HGX.out.1 HGX.out.2 hd5).mono ?_
      rintro e w3 ⟨rfl, S3, hq3, hf3, hn3⟩
      have Q3 := Lib.hid hq3
      have F2 := Lib.hid (FI.out.trans (Fr.below S B2.out) (fun k hk => .inl hk))
      have F3 := Lib.hid (F2.out.trans hf3 (fun k hk => (NI.out k hk).imp id (fun q => by have := HJ.out; omega)))
      have hz2 := B2.out.size
      have KR3 := Lib.hid (hf3.blk (KR.out.below B2.out) HJI.out)
      have N3 := Lib.hid (show ∀ k, S3 k → S k ∨ J < k from fun k hk => by
        rcases hn3 k hk with q | q
        · exact NI.out k q
        · have := HJ.out
          exact .inr (by omega))
      clear hq3 hf3 hn3 hd5 x0 x1 k0 k1 k2
      go_wp2_with fail
      go_roundw
      case rel => exact ⟨i + 1, S3, by first | rfl | (congr 1; omega), by omega, by rw [← HD5.out]; exact Q3.out, F3.out, KR3.out, N3.out⟩
      case measure => first | (simp [RowKit.intOf]; done) | (simp [RowKit.intOf]; omega)
    · have hie : i = n := by omega
      have hiI : ¬ (i : Int) < (n : Int) := by omega
      have HT := Lib.hid (show G.take i = G by rw [hie, ← HN.out, List.take_length])
      clear hkr hq hf hn hin hie
      go_wp2_with fail
      obtain ⟨d5, hd5⟩ : ∃ d5, (d.adds (pads (G.take i))).adds [(a, SecP.blank)] = d5 := ⟨_, rfl⟩
      have HD5 := Lib.hid (show d5 = d.adds (homes a G) by rw [← hd5, adds_adds, HT.out]; rfl)
      refine (Write_z QI.out HLEN.out ha hd5).mono ?_
      rintro e w3 ⟨rfl, hq3⟩
      have T3 := Lib.hid (Turned.trans HLT.out FI.out (fun k hk => (NI.out k hk).imp id (fun q => by have := HJ.out; omega)) hq3)
      clear hq3 hd5
      go_wp2_with fail
      go_end0
      exact ⟨rfl, by rw [← HD5.out]; exact T3.out⟩
end
end JouW
end Go.Proofs.YtknckaegpdganaaDoor


/-
  Why can't a group be put? (slices.ContainsFunc over its writes)
-/
-- mine: whole_c same_c awake_c take_c step_c back_c
namespace Go.Proofs.YtknckaegpdganaaDoor
open Go.RowKit
set_option linter.unusedVariables false
set_option linter.unusedSimpArgs false
set_option maxRecDepth 100000
namespace JouW
open BlkP RowG FrS PushG JournalP SecP SecW JouP
theorem any_noL {L : List (Int × Sec)} {p : Int × Sec → Bool} (h : ∀ k, k < L.length → ∀ x, L[k]? = some x → p x = false) : L.any p = false := by
  rw [List.any_eq_false]
  intro x hx
  obtain ⟨k, hk⟩ := List.getElem?_of_mem hx
  rw [h k (List.getElem?_eq_some_iff.1 hk).1 x hk]
  simp
theorem any_yesL {L : List (Int × Sec)} {p : Int × Sec → Bool} {k : Nat} {x : Int × Sec} (hx : L[k]? = some x) (h : p x = true) : L.any p = true := List.any_eq_true.2 ⟨x, List.mem_of_getElem? hx, h⟩
section
variable {w : World} {B pd a m : Nat} {d : Dk} {S : Nat → Prop}
theorem long_c {x : Int × Sec} {r : Bool} (hr : longB x = r) :
    Calls Tryd.prog 59 #[.agg #[.int .i64 x.1, .string (str x.2)]] w fun e w' => e = .returned (.bool r) ∧ Below w.heap.size w w' := by
  have hz := str_size x.2
  unfold longB at hr
  by_cases h : 512 < x.2.length
  · rw [decide_eq_true h] at hr
    subst hr
    go_enter Tryd.func59, Tryd.ntmps59
    go_wp2_with fail
    go_ret
    exact ⟨by first | rfl | (simp [hz]; omega), by (repeat' (first | (with_reducible exact Below.refl _ _) | (with_reducible refine Below.setCell ?_ (by (first | omega | (simp; done) | (simp; omega))) _) | (with_reducible refine Below.alloc ?_ (by (first | omega | (simp; done) | (simp; omega))) _) | (with_reducible refine Below.drew ?_) | (with_reducible refine below_drewN ?_ _)))⟩
  · rw [decide_eq_false h] at hr
    subst hr
    go_enter Tryd.func59, Tryd.ntmps59
    go_wp2_with fail
    go_ret
    exact ⟨by first | rfl | (simp [hz]; omega), by (repeat' (first | (with_reducible exact Below.refl _ _) | (with_reducible refine Below.setCell ?_ (by (first | omega | (simp; done) | (simp; omega))) _) | (with_reducible refine Below.alloc ?_ (by (first | omega | (simp; done) | (simp; omega))) _) | (with_reducible refine Below.drew ?_) | (with_reducible refine below_drewN ?_ _)))⟩
theorem astray_c {x : Int × Sec} {r : Bool} {bj : Nat} (hJ : Blk w bj TJ [.pointer (some ⟨pd, 0, none⟩), .int .i64 (a : Int), .int .i64 (m : Int)]) (h : Dsk w B pd d S) (hl : a + m ≤ 1000000) (hr : homeB d.n a m x.1 = !r) :
    Calls Tryd.prog 60 #[.agg #[.int .i64 x.1, .string (str x.2)], .pointer (some ⟨bj, 0, none⟩)] w fun e w' => e = .returned (.bool r) ∧ Below w.heap.size w w' := by
  have Q := Lib.hid h
  have HR := Lib.hid hr
  have j0 := hJ.cell (i := 0) rfl
  have j1 := hJ.cell (i := 1) rfl
  have j2 := hJ.cell (i := 2) rfl
  have jl := hJ.lt
  clear h hr hJ
  go_enter Tryd.func60, Tryd.ntmps60
  go_wp2_with fail
  refine calls_named (S := fun W => Below w.heap.size w W) (by (repeat' (first | (with_reducible exact Below.refl _ _) | (with_reducible refine Below.setCell ?_ (by (first | omega | (simp; done) | (simp; omega))) _) | (with_reducible refine Below.alloc ?_ (by (first | omega | (simp; done) | (simp; omega))) _) | (with_reducible refine Below.drew ?_) | (with_reducible refine below_drewN ?_ _)))) (fun w1 hb1 => ?_)
  have B1 := Lib.hid hb1
  have Q1 := Lib.hid (Q.out.below hb1)
  clear hb1
  refine (isHome_c Q1.out hl HR.out).mono ?_
  rintro e w2 ⟨rfl, hb2⟩
  have B2 := Lib.hid (below_t B1.out hb2)
  clear hb2
  go_wp2_with fail
  go_ret
  exact ⟨by first | rfl | simp, B2.out⟩
set_option maxHeartbeats 16000000 in
theorem idx_long {A : Option Addr} {n c : Nat} {L : List (Int × Sec)} (hR : Rd encL w (.slice A n c) L) (hn : L.length = n) :
    Calls Tryd.prog 83 #[.slice A n c, .func (.func 59) #[] #[]] w fun e w' => (∃ v : Int, e = .returned (.int .i64 v) ∧ decide (0 ≤ v) = L.any longB) ∧ Below w.heap.size w w' := by
  have HR := Lib.hid hR
  have HN := Lib.hid hn
  have hnb : n ≤ 9223372036854775807 := by have := (RowE.rd_len hR); omega
  clear hR hn
  go_enter Tryd.func83, Tryd.ntmps83
  go_wp2_with fail
  go_loopw [8] (fun v8 wr => ∃ j : Nat, v8 = .int .i64 (j : Int) ∧ j ≤ n ∧ (∀ k, k < j → ∀ x, L[k]? = some x → longB x = false) ∧ Below w.heap.size w wr) (fun v _ => n - (RowKit.intOf v).toNat)
  case atStart => exact ⟨0, rfl, Nat.zero_le _, fun k hk => absurd hk (by omega), Below.refl _ _⟩
  case round =>
    obtain ⟨j, rfl, hj, hall, hbr⟩ := hrel
    have HALL := Lib.hid hall
    have BR := Lib.hid hbr
    have hz := hbr.size
    by_cases hjn : j < n
    · have hjI : (j : Int) < (n : Int) := by omega
      obtain ⟨⟨xa, xs⟩, hx⟩ : ∃ x, L[j]? = some x := ⟨_, List.getElem?_eq_getElem (by rw [HN.out]; exact hjn)⟩
      obtain ⟨b, o, hbo, hlt, hcs⟩ := HR.out.at hx
      subst hbo
      have x0 := (hbr.cell (p := ⟨b, o + j * 2, none⟩) hlt).trans (hcs 0 _ rfl)
      have x1 := (hbr.cell (p := ⟨b, o + j * 2 + 1, none⟩) hlt).trans (hcs 1 _ rfl)
      have hxl := Nat.lt_of_lt_of_le hlt hz
      have HX := Lib.hid hx
      obtain ⟨q, hq⟩ : ∃ q, longB (xa, xs) = q := ⟨_, rfl⟩
      have HQ := Lib.hid hq
      clear hall hbr hcs hx hq
      go_wp2_with fail
      refine (long_c HQ.out).mono ?_
      rintro e w5 ⟨rfl, hb5⟩
      have B5 := Lib.hid (below_t BR.out hb5)
      clear hb5 x0 x1
      cases q with
      | false =>
        go_wp2_with fail
        go_roundw
        case rel =>
          refine ⟨j + 1, by first | rfl | (congr 1; omega), by omega, fun k hk x hx => ?_, B5.out⟩
          by_cases hkj : k < j
          · exact HALL.out k hkj x hx
          · obtain rfl : k = j := by omega
            rw [HX.out] at hx
            injection hx with hx
            rw [← hx]
            exact HQ.out
        case measure => first | (simp [RowKit.intOf]; done) | (simp [RowKit.intOf]; omega)
      | true =>
        have HA := Lib.hid (any_yesL (p := longB) HX.out HQ.out)
        go_wp2_with fail
        go_ret
        exact ⟨⟨_, rfl, by rw [HA.out]; simp⟩, B5.out⟩
    · have hje : j = n := by omega
      have hjI : ¬ (j : Int) < (n : Int) := by omega
      have HA := Lib.hid (any_noL (L := L) (p := longB) (by rw [HN.out, ← hje]; exact hall))
      clear hall hbr hje
      go_wp2_with fail
      go_ret
      exact ⟨⟨_, rfl, by rw [HA.out]; decide⟩, BR.out⟩
set_option maxHeartbeats 16000000 in
theorem has_long {A : Option Addr} {n c : Nat} {L : List (Int × Sec)} {r : Bool} (hR : Rd encL w (.slice A n c) L) (hn : L.length = n) (hr : L.any longB = r) :
    Calls Tryd.prog 62 #[.slice A n c, .func (.func 59) #[] #[]] w fun e w' => e = .returned (.bool r) ∧ Below w.heap.size w w' := by
  have HR := Lib.hid hR
  have HN := Lib.hid hn
  have HRR := Lib.hid hr
  clear hR hn hr
  go_enter Tryd.func62, Tryd.ntmps62
  go_wp2_with fail
  refine (idx_long HR.out HN.out).mono ?_
  rintro e w2 ⟨⟨v, rfl, hv⟩, hb2⟩
  rw [HRR.out] at hv
  have B2 := Lib.hid hb2
  clear hb2
  go_wp2_with fail
  go_ret
  exact ⟨by rw [← hv]; first | rfl | simp, B2.out⟩
set_option maxHeartbeats 16000000 in
theorem idx_astray {A : Option Addr} {n c : Nat} {L : List (Int × Sec)} {bj : Nat} (hJ : Blk w bj TJ [.pointer (some ⟨pd, 0, none⟩), .int .i64 (a : Int), .int .i64 (m : Int)]) (h : Dsk w B pd d S) (hl : a + m ≤ 1000000) (hR : Rd encL w (.slice A n c) L) (hn : L.length = n) :
    Calls Tryd.prog 83 #[.slice A n c, .func (.func 60) #[] #[.pointer (some ⟨bj, 0, none⟩)]] w fun e w' => (∃ v : Int, e = .returned (.int .i64 v) ∧ decide (0 ≤ v) = L.any (fun x => !homeB d.n a m x.1)) ∧ Below w.heap.size w w' := by
  have HR := Lib.hid hR
  have HN := Lib.hid hn
  have hnb : n ≤ 9223372036854775807 := by have := (RowE.rd_len hR); omega
  have HJ := Lib.hid hJ
  have Q := Lib.hid h
  clear h hJ
  clear hR hn
  go_enter Tryd.func83, Tryd.ntmps83
  go_wp2_with fail
  go_loopw [8] (fun v8 wr => ∃ j : Nat, v8 = .int .i64 (j : Int) ∧ j ≤ n ∧ (∀ k, k < j → ∀ x, L[k]? = some x → (fun x => !homeB d.n a m x.1) x = false) ∧ Below w.heap.size w wr) (fun v _ => n - (RowKit.intOf v).toNat)
  case atStart => exact ⟨0, rfl, Nat.zero_le _, fun k hk => absurd hk (by omega), Below.refl _ _⟩
  case round =>
    obtain ⟨j, rfl, hj, hall, hbr⟩ := hrel
    have HALL := Lib.hid hall
    have BR := Lib.hid hbr
    have hz := hbr.size
    by_cases hjn : j < n
    · have hjI : (j : Int) < (n : Int) := by omega
      obtain ⟨⟨xa, xs⟩, hx⟩ : ∃ x, L[j]? = some x := ⟨_, List.getElem?_eq_getElem (by rw [HN.out]; exact hjn)⟩
      obtain ⟨b, o, hbo, hlt, hcs⟩ := HR.out.at hx
      subst hbo
      have x0 := (hbr.cell (p := ⟨b, o + j * 2, none⟩) hlt).trans (hcs 0 _ rfl)
      have x1 := (hbr.cell (p := ⟨b, o + j * 2 + 1, none⟩) hlt).trans (hcs 1 _ rfl)
      have hxl := Nat.lt_of_lt_of_le hlt hz
      have HX := Lib.hid hx
      obtain ⟨q, hq⟩ : ∃ q, (fun x => !homeB d.n a m x.1) (xa, xs) = q := ⟨_, rfl⟩
      have HQ := Lib.hid hq
      clear hall hbr hcs hx hq
      go_wp2_with fail
      refine (astray_c (x := (xa, xs)) (r := q) (HJ.out.below BR.out) (Q.out.below BR.out) hl (by rw [← HQ.out]; simp)).mono ?_
      rintro e w5 ⟨rfl, hb5⟩
      have B5 := Lib.hid (below_t BR.out hb5)
      clear hb5 x0 x1
      cases q with
      | false =>
        go_wp2_with fail
        go_roundw
        case rel =>
          refine ⟨j + 1, by first | rfl | (congr 1; omega), by omega, fun k hk x hx => ?_, B5.out⟩
          by_cases hkj : k < j
          · exact HALL.out k hkj x hx
          · obtain rfl : k = j := by omega
            rw [HX.out] at hx
            injection hx with hx
            rw [← hx]
            exact HQ.out
        case measure => first | (simp [RowKit.intOf]; done) | (simp [RowKit.intOf]; omega)
      | true =>
        have HA := Lib.hid (any_yesL (p := (fun x => !homeB d.n a m x.1)) HX.out HQ.out)
        go_wp2_with fail
        go_ret
        exact ⟨⟨_, rfl, by rw [HA.out]; simp⟩, B5.out⟩
    · have hje : j = n := by omega
      have hjI : ¬ (j : Int) < (n : Int) := by omega
      have HA := Lib.hid (any_noL (L := L) (p := (fun x => !homeB d.n a m x.1)) (by rw [HN.out, ← hje]; exact hall))
      clear hall hbr hje
      go_wp2_with fail
      go_ret
      exact ⟨⟨_, rfl, by rw [HA.out]; decide⟩, BR.out⟩
set_option maxHeartbeats 16000000 in
theorem has_astray {A : Option Addr} {n c : Nat} {L : List (Int × Sec)} {r : Bool} {bj : Nat} (hJ : Blk w bj TJ [.pointer (some ⟨pd, 0, none⟩), .int .i64 (a : Int), .int .i64 (m : Int)]) (h : Dsk w B pd d S) (hl : a + m ≤ 1000000) (hR : Rd encL w (.slice A n c) L) (hn : L.length = n) (hr : L.any (fun x => !homeB d.n a m x.1) = r) :
    Calls Tryd.prog 62 #[.slice A n c, .func (.func 60) #[] #[.pointer (some ⟨bj, 0, none⟩)]] w fun e w' => e = .returned (.bool r) ∧ Below w.heap.size w w' := by
  have HR := Lib.hid hR
  have HN := Lib.hid hn
  have HRR := Lib.hid hr
  have HJ := Lib.hid hJ
  have Q := Lib.hid h
  clear h hJ
  clear hR hn hr
  go_enter Tryd.func62, Tryd.ntmps62
  go_wp2_with fail
  refine (idx_astray HJ.out Q.out hl HR.out HN.out).mono ?_
  rintro e w2 ⟨⟨v, rfl, hv⟩, hb2⟩
  rw [HRR.out] at hv
  have B2 := Lib.hid hb2
  clear hb2
  go_wp2_with fail
  go_ret
  exact ⟨by rw [← hv]; first | rfl | simp, B2.out⟩
set_option maxHeartbeats 16000000 in
theorem check_c {A : Option Addr} {n c : Nat} {L : List (Int × Sec)} {z : Int} (h : Dsk w B pd d S) (hl : a + m ≤ 1000000) (hR : Rd encL w (.slice A n c) L) (hn : L.length = n) (hz : checkE d.n a m L = z) :
    Calls Tryd.prog 32 #[jv (some ⟨pd, 0, none⟩) (a : Int) (m : Int), .slice A n c] w fun e w' => e = .returned (.int .i64 z) ∧ Below w.heap.size w w' := by
  have HR := Lib.hid hR
  have HN := Lib.hid hn
  have Q := Lib.hid h
  unfold jv
  unfold checkE at hz
  clear h hR
  by_cases h1 : m < L.length
  · rw [if_pos (.inl h1)] at hz
    subst hz
    have h1I : (m : Int) < (n : Int) := by rw [← hn]; omega
    clear hn h1
    go_enter Tryd.func32, Tryd.ntmps32
    go_wp2_with fail
    go_ret
    exact ⟨rfl, by (repeat' (first | (with_reducible exact Below.refl _ _) | (with_reducible refine Below.setCell ?_ (by (first | omega | (simp; done) | (simp; omega))) _) | (with_reducible refine Below.alloc ?_ (by (first | omega | (simp; done) | (simp; omega))) _) | (with_reducible refine Below.drew ?_) | (with_reducible refine below_drewN ?_ _)))⟩
  · have h1I : ¬ (m : Int) < (n : Int) := by rw [← hn]; omega
    clear hn
    cases h2 : L.any longB with
    | true =>
      rw [if_pos (.inr h2)] at hz
      subst hz
      have HL := Lib.hid h2
      clear h1 h2
      go_enter Tryd.func32, Tryd.ntmps32
      go_wp2_with fail
      refine calls_named (S := fun W => Below w.heap.size w W ∧ Blk W w.heap.size TJ [.pointer (some ⟨pd, 0, none⟩), .int .i64 (a : Int), .int .i64 (m : Int)]) ⟨by (repeat' (first | (with_reducible exact Below.refl _ _) | (with_reducible refine Below.setCell ?_ (by (first | omega | (simp; done) | (simp; omega))) _) | (with_reducible refine Below.alloc ?_ (by (first | omega | (simp; done) | (simp; omega))) _) | (with_reducible refine Below.drew ?_) | (with_reducible refine below_drewN ?_ _))), by (repeat' (first | (with_reducible refine BlkP.Blk.drew ?_) | (with_reducible refine BlkP.Blk.drewN ?_ _) | (with_reducible refine BlkP.Blk.setAt (us := ?_) (by first | omega | (simp; done) | (simp; omega)) rfl ?_ ?_) | (with_reducible refine BlkP.Blk.otherAt ?_ (by first | omega | (simp; done) | (simp; omega))) | (with_reducible refine BlkP.Blk.newA' (by first | omega | (simp; done) | (simp; omega)) rfl) | (with_reducible refine BlkP.Blk.alloc ?_ _) | (exact rfl)))⟩ (fun w1 hq1 => ?_)
      obtain ⟨hb1, hk1⟩ := hq1
      have B1 := Lib.hid hb1
      have K1 := Lib.hid hk1
      clear hb1 hk1
      refine (has_long (HR.out.below B1.out) HN.out HL.out).mono ?_
      rintro e w2 ⟨rfl, hb2⟩
      have B2 := Lib.hid (below_t B1.out hb2)
      have K2 := Lib.hid (K1.out.below hb2)
      clear hb2
      go_wp2_with fail
      go_ret
      exact ⟨rfl, B2.out⟩
    | false =>
      have h12 : ¬ (m < L.length ∨ L.any longB = true) := by
        rintro (q | q)
        · exact h1 q
        · rw [h2] at q
          cases q
      rw [if_neg h12] at hz
      have HL := Lib.hid h2
      clear h1 h2 h12
      cases h3 : L.any (fun x => !homeB d.n a m x.1) with
      | true =>
        rw [if_pos h3] at hz
        subst hz
        have HA := Lib.hid h3
        clear h3
        go_enter Tryd.func32, Tryd.ntmps32
        go_wp2_with fail
        refine calls_named (S := fun W => Below w.heap.size w W ∧ Blk W w.heap.size TJ [.pointer (some ⟨pd, 0, none⟩), .int .i64 (a : Int), .int .i64 (m : Int)]) ⟨by (repeat' (first | (with_reducible exact Below.refl _ _) | (with_reducible refine Below.setCell ?_ (by (first | omega | (simp; done) | (simp; omega))) _) | (with_reducible refine Below.alloc ?_ (by (first | omega | (simp; done) | (simp; omega))) _) | (with_reducible refine Below.drew ?_) | (with_reducible refine below_drewN ?_ _))), by (repeat' (first | (with_reducible refine BlkP.Blk.drew ?_) | (with_reducible refine BlkP.Blk.drewN ?_ _) | (with_reducible refine BlkP.Blk.setAt (us := ?_) (by first | omega | (simp; done) | (simp; omega)) rfl ?_ ?_) | (with_reducible refine BlkP.Blk.otherAt ?_ (by first | omega | (simp; done) | (simp; omega))) | (with_reducible refine BlkP.Blk.newA' (by first | omega | (simp; done) | (simp; omega)) rfl) | (with_reducible refine BlkP.Blk.alloc ?_ _) | (exact rfl)))⟩ (fun w1 hq1 => ?_)
        obtain ⟨hb1, hk1⟩ := hq1
        have B1 := Lib.hid hb1
        have K1 := Lib.hid hk1
        clear hb1 hk1
        refine (has_long (HR.out.below B1.out) HN.out HL.out).mono ?_
        rintro e w2 ⟨rfl, hb2⟩
        have B2 := Lib.hid (below_t B1.out hb2)
        have K2 := Lib.hid (K1.out.below hb2)
        clear hb2
        go_wp2_with fail
        refine (has_astray K2.out (Q.out.below B2.out) hl (HR.out.below B2.out) HN.out HA.out).mono ?_
        rintro e w3 ⟨rfl, hb3⟩
        have B3 := Lib.hid (below_t B2.out hb3)
        clear hb3
        go_wp2_with fail
        go_ret
        exact ⟨rfl, B3.out⟩
      | false =>
        rw [if_neg (by rw [h3]; simp)] at hz
        subst hz
        have HA := Lib.hid h3
        clear h3
        go_enter Tryd.func32, Tryd.ntmps32
        go_wp2_with fail
        refine calls_named (S := fun W => Below w.heap.size w W ∧ Blk W w.heap.size TJ [.pointer (some ⟨pd, 0, none⟩), .int .i64 (a : Int), .int .i64 (m : Int)]) ⟨by (repeat' (first | (with_reducible exact Below.refl _ _) | (with_reducible refine Below.setCell ?_ (by (first | omega | (simp; done) | (simp; omega))) _) | (with_reducible refine Below.alloc ?_ (by (first | omega | (simp; done) | (simp; omega))) _) | (with_reducible refine Below.drew ?_) | (with_reducible refine below_drewN ?_ _))), by (repeat' (first | (with_reducible refine BlkP.Blk.drew ?_) | (with_reducible refine BlkP.Blk.drewN ?_ _) | (with_reducible refine BlkP.Blk.setAt (us := ?_) (by first | omega | (simp; done) | (simp; omega)) rfl ?_ ?_) | (with_reducible refine BlkP.Blk.otherAt ?_ (by first | omega | (simp; done) | (simp; omega))) | (with_reducible refine BlkP.Blk.newA' (by first | omega | (simp; done) | (simp; omega)) rfl) | (with_reducible refine BlkP.Blk.alloc ?_ _) | (exact rfl)))⟩ (fun w1 hq1 => ?_)
        obtain ⟨hb1, hk1⟩ := hq1
        have B1 := Lib.hid hb1
        have K1 := Lib.hid hk1
        clear hb1 hk1
        refine (has_long (HR.out.below B1.out) HN.out HL.out).mono ?_
        rintro e w2 ⟨rfl, hb2⟩
        have B2 := Lib.hid (below_t B1.out hb2)
        have K2 := Lib.hid (K1.out.below hb2)
        clear hb2
        go_wp2_with fail
        refine (has_astray K2.out (Q.out.below B2.out) hl (HR.out.below B2.out) HN.out HA.out).mono ?_
        rintro e w3 ⟨rfl, hb3⟩
        have B3 := Lib.hid (below_t B2.out hb3)
        clear hb3
        go_wp2_with fail
        go_ret
        exact ⟨rfl, B3.out⟩
end
end JouW
end Go.Proofs.YtknckaegpdganaaDoor
