/-
  One ask of both readers.
-/
import Derived.Test.YtblfahnjogaacaaBytesRText
import Derived.Test.YtblfahnjogaacaaBytesFixed
import Derived.Test.YtblfahnjogaacaaBytesLaw
import Derived.Deep.RegionHeld3
namespace Go.Proofs.Ytblfahnjogaacaa
open Go.RowKit
open Go.Lib (uvarint uvarint_small uvarint_big uvarint_length64 uvarint_pos zigzag)
set_option linter.unusedVariables false
set_option linter.unusedSimpArgs false
namespace BytesW

theorem RS.drew {w : World} {p : Nat} {s : St} (h : RS w p s) : RS w.drew p s := h
theorem RF.drew {w : World} {p : Nat} {s : St} (h : RF w p s) : RF w.drew p s := h
theorem RF.grown {w w' : World} {p q : Nat} {s s' : St} (h : RF w q s) (hp : RS w p s') (hg : w.grownBy w' (some p)) : RF w' q s := by
  obtain ⟨A, c, h⟩ := h
  obtain ⟨A', c', hp⟩ := hp
  refine ⟨A, c, (hg.block q (lt_of_heap h.1) (fun e => ?_)).trans h.1, h.2.1.grown hp.1 (by decide) hg, h.2.2⟩
  injection e with e
  have h1 := h.1
  rw [e, hp.1] at h1
  injection h1 with h1
  injection h1 with _ h2
  exact absurd h2 (by decide)
theorem RS.grown {w w' : World} {p q : Nat} {s s' : St} (h : RS w p s) (hq : RF w q s') (hg : w.grownBy w' (some q)) : RS w' p s := by
  obtain ⟨A, c, h⟩ := h
  obtain ⟨A', c', hq⟩ := hq
  refine ⟨A, c, (hg.block p (lt_of_heap h.1) (fun e => ?_)).trans h.1, h.2.1.grown hq.1 (by decide) hg, h.2.2⟩
  injection e with e
  have h1 := h.1
  rw [e, hq.1] at h1
  injection h1 with h1
  injection h1 with _ h2
  exact absurd h2 (by decide)
theorem at_over {w w' : World} {q : Nat} {s : St} {A : Option Addr} {l : List UInt8} (hq : RF w q s) (h : At w A l) (hg : w.grownBy w' (some q)) : At w' A l := by
  obtain ⟨A', c', hq⟩ := hq
  exact h.grown hq.1 (by decide) hg
theorem cell_grown {w w' : World} {p b i : Nat} {v : Value} (h : w.cell? ⟨b, i, none⟩ = some v) (hb : b < w.heap.size) (hne : b ≠ p) (hg : w.grownBy w' (some p)) : w'.cell? ⟨b, i, none⟩ = some v :=
  (World.cell?_of_block (a := ⟨b, i, none⟩) (hg.block b hb (fun e => hne (by injection e)))).trans h
theorem held_keep {w W W' : World} {p : Nat} {v : Value} (hp : p < w.heap.size) (hg : W.grownBy W' (some p)) (h : W.cell? ⟨w.heap.size, 1, none⟩ = some v ∧ w.heap.size < W.heap.size) : W'.cell? ⟨w.heap.size, 1, none⟩ = some v ∧ w.heap.size < W'.heap.size :=
  ⟨cell_grown h.1 h.2 (by omega) hg, Nat.lt_of_lt_of_le h.2 hg.size⟩
/-- What the state is behind an ask. -/
def ask (s : St) (W N : Int) : St :=
  if W.tmod 6 = 0 then (rNum s).2 else if W.tmod 6 = 1 then (rInt s).2 else if W.tmod 6 = 2 then (rText s N).2 else if W.tmod 6 = 3 then (rStep s N).2 else if W.tmod 6 = 4 then (rFixed s N).2 else rEnd s
def StepP (w : World) (p q : Nat) (s : St) (e : Ending) (w' : World) : Prop := e = .returned (.bool true) ∧ RS w' p s ∧ RF w' q s ∧ w.heap.size ≤ w'.heap.size ∧ ∀ B, B ≤ p → B ≤ q → B ≤ w.heap.size → Below B w w'
theorem two_below {w w0 w1 w2 : World} {p q : Nat} (h0 : Below w.heap.size w w0) (h1 : w0.grownBy w1 (some p)) (h2 : w1.grownBy w2 (some q)) : w.heap.size ≤ w2.heap.size ∧ ∀ B, B ≤ p → B ≤ q → B ≤ w.heap.size → Below B w w2 := by
  have a0 := h0.size
  have a1 := h1.size
  have a2 := h2.size
  refine ⟨by omega, fun B hp hq hB => ?_⟩
  have b1 := (h0.mono hB).grown h1 (by omega) (fun k hk => by injection hk with hk; omega)
  exact b1.grown h2 (by omega) (fun k hk => by injection hk with hk; omega)

theorem step_Num {w : World} {p q : Nat} {s : St} {W N : Int} (hp : RS w p s) (hq : RF w q s) (h0 : W.tmod 6 = 0) (hN0 : -9223372036854775808 ≤ N) (hN1 : N ≤ 9223372036854775807) :
    Calls Try.prog 21 #[.pointer (some ⟨p, 0, none⟩), .pointer (some ⟨q, 0, none⟩), .agg #[.int .i64 W, .int .i64 N]] w (StepP w p q (ask s W N)) := by
  have HASK : Hid (ask s W N = (rNum s).2) := Lib.hid (by unfold ask; rw [if_pos h0])
  have e0 : (W.tmod 6 == 0) = true := by simpa using h0
  clear h0
  obtain ⟨a, s', hv⟩ : ∃ a s', rNum s = (a, s') := ⟨_, _, rfl⟩
  rw [hv] at HASK
  dsimp only at HASK
  have HV := Lib.hid hv
  clear hv
  rw [HASK.out]
  have hb0 : Below w.heap.size w (w.alloc (.cells #[.int .i64 W, .int .i64 N] 45)) := (Below.refl _ w).alloc (Nat.le_refl _) _
  have hp0 := hp.below hb0
  have hq0 := hq.below hb0
  have hpl := hp.lt
  have hql := hq.lt
  have HB0 := Lib.hid hb0
  clear hb0
  go_enter Try.func21, Try.ntmps21
  go_wp2_with (first
    | (go_at_call 30; refine (num_c hp0 HV.out).mono ?_; rintro e w1 ⟨rfl, hg1, hs1⟩)
    | (go_at_call 38; refine (r_rnum_c (hq0.grown hp0 hg1) HV.out).mono ?_; rintro e w2 ⟨rfl, hg2, hs2⟩))
  go_ret
  exact ⟨rfl, hs1.grown (hq0.grown hp0 hg1) hg2, hs2, two_below HB0.out hg1 hg2⟩

theorem step_Int {w : World} {p q : Nat} {s : St} {W N : Int} (hp : RS w p s) (hq : RF w q s) (h0 : ¬ W.tmod 6 = 0) (h1 : W.tmod 6 = 1) (hN0 : -9223372036854775808 ≤ N) (hN1 : N ≤ 9223372036854775807) :
    Calls Try.prog 21 #[.pointer (some ⟨p, 0, none⟩), .pointer (some ⟨q, 0, none⟩), .agg #[.int .i64 W, .int .i64 N]] w (StepP w p q (ask s W N)) := by
  have HASK : Hid (ask s W N = (rInt s).2) := Lib.hid (by unfold ask; rw [if_neg h0]; rw [if_pos h1])
  have e0 : (W.tmod 6 == 0) = false := by simpa using h0
  have e1 : (W.tmod 6 == 1) = true := by simpa using h1
  clear h0 h1
  obtain ⟨a, s', hv⟩ : ∃ a s', rInt s = (a, s') := ⟨_, _, rfl⟩
  rw [hv] at HASK
  dsimp only at HASK
  have HV := Lib.hid hv
  have HLT := Lib.hid (rNum_lt s)
  clear hv
  rw [HASK.out]
  have hb0 : Below w.heap.size w (w.alloc (.cells #[.int .i64 W, .int .i64 N] 45)) := (Below.refl _ w).alloc (Nat.le_refl _) _
  have hp0 := hp.below hb0
  have hq0 := hq.below hb0
  have hpl := hp.lt
  have hql := hq.lt
  have HB0 := Lib.hid hb0
  clear hb0
  go_enter Try.func21, Try.ntmps21
  go_wp2_with (first
    | (go_at_call 31; refine (int_c hp0 HV.out).mono ?_; rintro e w1 ⟨rfl, hg1, hs1⟩)
    | (go_at_call 39; refine (r_rint_c (hq0.grown hp0 hg1) HV.out HLT.out).mono ?_; rintro e w2 ⟨rfl, hg2, hs2⟩))
  go_ret
  exact ⟨rfl, hs1.grown (hq0.grown hp0 hg1) hg2, hs2, two_below HB0.out hg1 hg2⟩

theorem step_Text {w : World} {p q : Nat} {s : St} {W N : Int} (hp : RS w p s) (hq : RF w q s) (h0 : ¬ W.tmod 6 = 0) (h1 : ¬ W.tmod 6 = 1) (h2 : W.tmod 6 = 2) (hN0 : -9223372036854775808 ≤ N) (hN1 : N ≤ 9223372036854775807) :
    Calls Try.prog 21 #[.pointer (some ⟨p, 0, none⟩), .pointer (some ⟨q, 0, none⟩), .agg #[.int .i64 W, .int .i64 N]] w (StepP w p q (ask s W N)) := by
  have HASK : Hid (ask s W N = (rText s N).2) := Lib.hid (by unfold ask; rw [if_neg h0]; rw [if_neg h1]; rw [if_pos h2])
  have e0 : (W.tmod 6 == 0) = false := by simpa using h0
  have e1 : (W.tmod 6 == 1) = false := by simpa using h1
  have e2 : (W.tmod 6 == 2) = true := by simpa using h2
  clear h0 h1 h2
  obtain ⟨a, s', hv⟩ : ∃ a s', rText s N = (a, s') := ⟨_, _, rfl⟩
  rw [hv] at HASK
  dsimp only at HASK
  have HV := Lib.hid hv
  clear hv
  rw [HASK.out]
  have hb0 : Below w.heap.size w (w.alloc (.cells #[.int .i64 W, .int .i64 N] 45)) := (Below.refl _ w).alloc (Nat.le_refl _) _
  have hp0 := hp.below hb0
  have hq0 := hq.below hb0
  have hpl := hp.lt
  have hql := hq.lt
  have HB0 := Lib.hid hb0
  clear hb0
  go_enter Try.func21, Try.ntmps21
  go_wp2_with fail
  go_region_held3 (fun w' => w'.cell? ⟨w.heap.size, 1, none⟩ = some (.int .i64 N) ∧ w.heap.size < w'.heap.size)
    (first | (refine ⟨?_, ?_⟩ <;> (first | (simp; done))) | (exact held_keep hpl (by assumption) (by assumption)) | (exact held_keep hql (by assumption) (by assumption)))
    (first
      | (go_at_call 32; refine (text_c hp0.drew HV.out hN0 hN1).mono ?_; rintro e w1 ⟨rfl, hg1, hs1⟩)
      | (go_at_call 40; refine (r_rtext_c (hq0.drew.grown hp0.drew hg1) HV.out hN0 hN1).mono ?_; rintro e w2 ⟨rfl, hg2, hs2⟩))
  go_wp2_with fail
  go_ret
  exact ⟨rfl, hs1.grown (hq0.drew.grown hp0.drew hg1) hg2, hs2, two_below HB0.out.drew hg1 hg2⟩

theorem step_Take {w : World} {p q : Nat} {s : St} {W N : Int} (hp : RS w p s) (hq : RF w q s) (h0 : ¬ W.tmod 6 = 0) (h1 : ¬ W.tmod 6 = 1) (h2 : ¬ W.tmod 6 = 2) (h3 : W.tmod 6 = 3) (hN0 : -9223372036854775808 ≤ N) (hN1 : N ≤ 9223372036854775807) :
    Calls Try.prog 21 #[.pointer (some ⟨p, 0, none⟩), .pointer (some ⟨q, 0, none⟩), .agg #[.int .i64 W, .int .i64 N]] w (StepP w p q (ask s W N)) := by
  have HASK : Hid (ask s W N = (rStep s N).2) := Lib.hid (by unfold ask; rw [if_neg h0]; rw [if_neg h1]; rw [if_neg h2]; rw [if_pos h3])
  have e0 : (W.tmod 6 == 0) = false := by simpa using h0
  have e1 : (W.tmod 6 == 1) = false := by simpa using h1
  have e2 : (W.tmod 6 == 2) = false := by simpa using h2
  have e3 : (W.tmod 6 == 3) = true := by simpa using h3
  clear h0 h1 h2 h3
  obtain ⟨a, s', hv⟩ : ∃ a s', rStep s N = (a, s') := ⟨_, _, rfl⟩
  rw [hv] at HASK
  dsimp only at HASK
  have HV := Lib.hid hv
  clear hv
  rw [HASK.out]
  have hb0 : Below w.heap.size w (w.alloc (.cells #[.int .i64 W, .int .i64 N] 45)) := (Below.refl _ w).alloc (Nat.le_refl _) _
  have hp0 := hp.below hb0
  have hq0 := hq.below hb0
  have hpl := hp.lt
  have hql := hq.lt
  have HB0 := Lib.hid hb0
  clear hb0
  go_enter Try.func21, Try.ntmps21
  go_wp2_with fail
  go_region_held3 (fun w' => w'.cell? ⟨w.heap.size, 1, none⟩ = some (.int .i64 N) ∧ w.heap.size < w'.heap.size)
    (first | (refine ⟨?_, ?_⟩ <;> (first | (simp; done))) | (exact held_keep hpl (by assumption) (by assumption)) | (exact held_keep hql (by assumption) (by assumption)))
    (first
      | (go_at_call 28; refine (take_c hp0.drew HV.out).mono ?_; rintro e w1 ⟨A1, d1, rfl, hA1, k1, k2, hg1, hs1⟩)
      | (go_at_call 41; refine (r_take_c (hq0.drew.grown hp0.drew hg1) HV.out).mono ?_; rintro e w2 ⟨A2, d2, rfl, hA2, k3, k4, hg2, hs2⟩))
  (try dsimp only at hA1 hA2 k1 k3 hs1 hs2)
  have hA1' := at_over (hq0.drew.grown hp0.drew hg1) hA1 hg2
  go_wp2_with (first
    | ((with_reducible refine at_slot 64 ?_); refine wp_str rfl (.tmp 63) rfl (A := A1) (l := a) (c := d1) rfl hA1' ?_)
    | ((with_reducible refine at_slot 66 ?_); refine wp_str rfl (.tmp 65) rfl (A := A2) (l := a) (c := d2) rfl hA2 ?_))
  go_ret
  exact ⟨rfl, hs1.grown (hq0.drew.grown hp0.drew hg1) hg2, hs2, two_below HB0.out.drew hg1 hg2⟩

theorem step_Fixed {w : World} {p q : Nat} {s : St} {W N : Int} (hp : RS w p s) (hq : RF w q s) (h0 : ¬ W.tmod 6 = 0) (h1 : ¬ W.tmod 6 = 1) (h2 : ¬ W.tmod 6 = 2) (h3 : ¬ W.tmod 6 = 3) (h4 : W.tmod 6 = 4) (hN0 : -9223372036854775808 ≤ N) (hN1 : N ≤ 9223372036854775807) :
    Calls Try.prog 21 #[.pointer (some ⟨p, 0, none⟩), .pointer (some ⟨q, 0, none⟩), .agg #[.int .i64 W, .int .i64 N]] w (StepP w p q (ask s W N)) := by
  have HASK : Hid (ask s W N = (rFixed s N).2) := Lib.hid (by unfold ask; rw [if_neg h0]; rw [if_neg h1]; rw [if_neg h2]; rw [if_neg h3]; rw [if_pos h4])
  have e0 : (W.tmod 6 == 0) = false := by simpa using h0
  have e1 : (W.tmod 6 == 1) = false := by simpa using h1
  have e2 : (W.tmod 6 == 2) = false := by simpa using h2
  have e3 : (W.tmod 6 == 3) = false := by simpa using h3
  have e4 : (W.tmod 6 == 4) = true := by simpa using h4
  clear h0 h1 h2 h3 h4
  obtain ⟨a, s', hv⟩ : ∃ a s', rFixed s N = (a, s') := ⟨_, _, rfl⟩
  rw [hv] at HASK
  dsimp only at HASK
  have HV := Lib.hid hv
  clear hv
  rw [HASK.out]
  have hb0 : Below w.heap.size w (w.alloc (.cells #[.int .i64 W, .int .i64 N] 45)) := (Below.refl _ w).alloc (Nat.le_refl _) _
  have hp0 := hp.below hb0
  have hq0 := hq.below hb0
  have hpl := hp.lt
  have hql := hq.lt
  have HB0 := Lib.hid hb0
  clear hb0
  go_enter Try.func21, Try.ntmps21
  go_wp2_with fail
  go_region_held3 (fun w' => w'.cell? ⟨w.heap.size, 1, none⟩ = some (.int .i64 N) ∧ w.heap.size < w'.heap.size)
    (first | (refine ⟨?_, ?_⟩ <;> (first | (simp; done))) | (exact held_keep hpl (by assumption) (by assumption)) | (exact held_keep hql (by assumption) (by assumption)))
    (first
      | (go_at_call 33; refine (fixed_c hp0.drew HV.out).mono ?_; rintro e w1 ⟨rfl, hg1, hs1⟩)
      | (go_at_call 42; refine (r_rfixed_c (hq0.drew.grown hp0.drew hg1) HV.out).mono ?_; rintro e w2 ⟨rfl, hg2, hs2⟩))
  go_wp2_with fail
  go_ret
  exact ⟨rfl, hs1.grown (hq0.drew.grown hp0.drew hg1) hg2, hs2, two_below HB0.out.drew hg1 hg2⟩

theorem step_End {w : World} {p q : Nat} {s : St} {W N : Int} (hp : RS w p s) (hq : RF w q s) (h0 : ¬ W.tmod 6 = 0) (h1 : ¬ W.tmod 6 = 1) (h2 : ¬ W.tmod 6 = 2) (h3 : ¬ W.tmod 6 = 3) (h4 : ¬ W.tmod 6 = 4) (hN0 : -9223372036854775808 ≤ N) (hN1 : N ≤ 9223372036854775807) :
    Calls Try.prog 21 #[.pointer (some ⟨p, 0, none⟩), .pointer (some ⟨q, 0, none⟩), .agg #[.int .i64 W, .int .i64 N]] w (StepP w p q (ask s W N)) := by
  have HASK : Hid (ask s W N = rEnd s) := Lib.hid (by unfold ask; rw [if_neg h0]; rw [if_neg h1]; rw [if_neg h2]; rw [if_neg h3]; rw [if_neg h4])
  have e0 : (W.tmod 6 == 0) = false := by simpa using h0
  have e1 : (W.tmod 6 == 1) = false := by simpa using h1
  have e2 : (W.tmod 6 == 2) = false := by simpa using h2
  have e3 : (W.tmod 6 == 3) = false := by simpa using h3
  have e4 : (W.tmod 6 == 4) = false := by simpa using h4
  clear h0 h1 h2 h3 h4
  obtain ⟨a, hv⟩ : ∃ a, rErr (rEnd s) = a := ⟨_, rfl⟩
  have HV := Lib.hid hv
  clear hv
  rw [HASK.out]
  have hb0 : Below w.heap.size w (w.alloc (.cells #[.int .i64 W, .int .i64 N] 45)) := (Below.refl _ w).alloc (Nat.le_refl _) _
  have hp0 := hp.below hb0
  have hq0 := hq.below hb0
  have hpl := hp.lt
  have hql := hq.lt
  have HB0 := Lib.hid hb0
  clear hb0
  go_enter Try.func21, Try.ntmps21
  go_wp2_with (first
    | (go_at_call 29; refine (end_c hp0 HV.out).mono ?_; rintro e w1 ⟨rfl, hg1, hs1⟩)
    | (go_at_call 43; refine (r_end_c (hq0.grown hp0 hg1) HV.out).mono ?_; rintro e w2 ⟨rfl, hg2, hs2⟩))
  go_ret
  exact ⟨rfl, hs1.grown (hq0.grown hp0 hg1) hg2, hs2, two_below HB0.out hg1 hg2⟩
end BytesW
end Go.Proofs.Ytblfahnjogaacaa
