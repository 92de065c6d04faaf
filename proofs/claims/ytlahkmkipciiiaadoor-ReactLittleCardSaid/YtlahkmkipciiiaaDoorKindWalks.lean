/-
  The walks of package kind and of its reference: what each function answers, said by the plain functions of KindPlain, given that the table lies in its variable.
-/
import Derived.Test.YtlahkmkipciiiaaDoorRows
import Derived.Test.YtlahkmkipciiiaaDoorKindPlain
import Derived.WalkKit
import Derived.WalkSpells
import Derived.WalkLawsBesides
import Derived.Deep.QuietTactic
import Derived.BigQuiet
import Derived.Lib.Hide
namespace Go.Proofs.YtlahkmkipciiiaaDoor
open Go.RowKit
namespace KindW
open KindP

/-- The table lies in its variable. -/
structure Tab (w : World) : Prop where
  name : ∀ k, k < 15 → w.cell? ⟨0, k * 4, none⟩ = some (.string ⟨(nm k).toArray⟩)
  least : ∀ k, k < 15 → w.cell? ⟨0, k * 4 + 1, none⟩ = some (.int .u8 (least k))
  most : ∀ k, k < 15 → w.cell? ⟨0, k * 4 + 2, none⟩ = some (.int .u8 (most k))
  trait : ∀ k, k < 15 → w.cell? ⟨0, k * 4 + 3, none⟩ = some (.int .u8 (trait k))
  size : 0 < w.heap.size

theorem Tab.below {w w' : World} (h : Tab w) (b : Below w.heap.size w w') : Tab w' :=
  ⟨fun k hk => (b.cell (p := ⟨0, _, none⟩) h.size).trans (h.name k hk), fun k hk => (b.cell (p := ⟨0, _, none⟩) h.size).trans (h.least k hk),
    fun k hk => (b.cell (p := ⟨0, _, none⟩) h.size).trans (h.most k hk), fun k hk => (b.cell (p := ⟨0, _, none⟩) h.size).trans (h.trait k hk), Nat.lt_of_lt_of_le h.size b.size⟩

/-- The bits of a kind, asked by package kind. -/
def bit (k : Nat) (t : Int) : Bool := bits BinOp.and IntKind.u8 (KindP.trait k) t != 0
def hasB (k : Nat) (t : Int) : Bool := decide (k < 15) && bit k t

set_option maxHeartbeats 400000 in
theorem has_any (k : Nat) (t : Int) (w : World) (hT : Tab w) :
    Calls Tryd.prog 79 #[.int .u8 k, .int .u8 t] w fun e w' => e = .returned (.bool (hasB k t)) ∧ w = w' := by
  by_cases h : k < 15
  · have hc := hT.trait k h
    have e : Hid (hasB k t = bit k t) := Lib.hid (by simp [hasB, h])
    clear hT
    go_enter Tryd.func79, Tryd.ntmps79
    go_wp2
    go_ret
    exact ⟨by rw [e.out]; rfl, rfl⟩
  · have e : Hid (hasB k t = false) := Lib.hid (by simp [hasB, h])
    clear hT
    go_enter Tryd.func79, Tryd.ntmps79
    go_wp2
    go_ret
    exact ⟨by rw [e.out]; rfl, rfl⟩

theorem inL_out {l : List Nat} {k : Nat} (h : 15 ≤ k) (hl : ∀ x ∈ l, x < 15) : inL l k = false := by
  unfold inL
  rw [List.contains_eq_any_beq, List.any_eq_false]
  intro x hx
  have := hl x hx
  simp
  omega
theorem hasB_of {f : Nat → Bool} {t : Int} (h : ∀ k, k < 15 → bit k t = f k) (ho : ∀ k, 15 ≤ k → f k = false) (k : Nat) : hasB k t = f k := by
  by_cases hk : k < 15
  · simp [hasB, hk, h k hk]
  · simp [hasB, hk, ho k (by omega)]
theorem b_clear (k : Nat) : hasB k 1 = clear k := hasB_of (by decide) (fun _ h => inL_out h (by decide)) k
theorem b_movable (k : Nat) : hasB k 2 = movable k := hasB_of (by decide) (fun _ h => inL_out h (by decide)) k
theorem b_yields (k : Nat) : hasB k 4 = yields k := hasB_of (by decide) (fun _ h => inL_out h (by decide)) k
theorem b_soaks (k : Nat) : hasB k 8 = soaks k := hasB_of (by decide) (fun _ h => inL_out h (by decide)) k
theorem b_falls (k : Nat) : hasB k 16 = falls k := hasB_of (by decide) (fun _ h => inL_out h (by decide)) k
theorem b_burns (k : Nat) : hasB k 32 = burns k := hasB_of (by decide) (fun _ h => inL_out h (by decide)) k

set_option maxHeartbeats 400000 in
theorem k_movable (k : Nat) (w : World) (hT : Tab w) :
    Calls Tryd.prog 78 #[.int .u8 k] w fun e w' => e = .returned (.bool (movable k)) ∧ w = w' := by
  rw [← b_movable]
  go_enter Tryd.func78, Tryd.ntmps78
  go_wp2_with (go_at_call 79; refine (has_any k _ w hT).mono ?_; rintro e w' ⟨rfl, rfl⟩)
  go_ret
  exact ⟨rfl, rfl⟩

set_option maxHeartbeats 400000 in
theorem k_yields (k : Nat) (w : World) (hT : Tab w) :
    Calls Tryd.prog 66 #[.int .u8 k] w fun e w' => e = .returned (.bool (yields k)) ∧ w = w' := by
  rw [← b_yields]
  go_enter Tryd.func66, Tryd.ntmps66
  go_wp2_with (go_at_call 79; refine (has_any k _ w hT).mono ?_; rintro e w' ⟨rfl, rfl⟩)
  go_ret
  exact ⟨rfl, rfl⟩

set_option maxHeartbeats 400000 in
theorem k_soaks (k : Nat) (w : World) (hT : Tab w) :
    Calls Tryd.prog 69 #[.int .u8 k] w fun e w' => e = .returned (.bool (soaks k)) ∧ w = w' := by
  rw [← b_soaks]
  go_enter Tryd.func69, Tryd.ntmps69
  go_wp2_with (go_at_call 79; refine (has_any k _ w hT).mono ?_; rintro e w' ⟨rfl, rfl⟩)
  go_ret
  exact ⟨rfl, rfl⟩

set_option maxHeartbeats 400000 in
theorem k_falls (k : Nat) (w : World) (hT : Tab w) :
    Calls Tryd.prog 64 #[.int .u8 k] w fun e w' => e = .returned (.bool (falls k)) ∧ w = w' := by
  rw [← b_falls]
  go_enter Tryd.func64, Tryd.ntmps64
  go_wp2_with (go_at_call 79; refine (has_any k _ w hT).mono ?_; rintro e w' ⟨rfl, rfl⟩)
  go_ret
  exact ⟨rfl, rfl⟩

set_option maxHeartbeats 400000 in
theorem k_burns (k : Nat) (w : World) (hT : Tab w) :
    Calls Tryd.prog 74 #[.int .u8 k] w fun e w' => e = .returned (.bool (burns k)) ∧ w = w' := by
  rw [← b_burns]
  go_enter Tryd.func74, Tryd.ntmps74
  go_wp2_with (go_at_call 79; refine (has_any k _ w hT).mono ?_; rintro e w' ⟨rfl, rfl⟩)
  go_ret
  exact ⟨rfl, rfl⟩

set_option maxHeartbeats 400000 in
theorem k_levels (k : Nat) (w : World) (hT : Tab w) :
    Calls Tryd.prog 49 #[.int .u8 k] w fun e w' => e = .returned (.int .u8 (KindP.most k)) ∧ w = w' := by
  by_cases h : k < 15
  · have hc := hT.most k h
    clear hT
    go_enter Tryd.func49, Tryd.ntmps49
    go_wp2
    go_ret
    exact ⟨rfl, rfl⟩
  · have e : Hid (KindP.most k = 0) := Lib.hid (by simp [KindP.most, mosts, List.getD, h])
    clear hT
    go_enter Tryd.func49, Tryd.ntmps49
    go_wp2
    go_ret
    exact ⟨by rw [e.out]; rfl, rfl⟩

/-- The list that a slice's block holds. -/
def Row (w : World) (b : Nat) (l : List Nat) : Prop := ∀ i, i < l.length → w.cell? ⟨b, i, none⟩ = some (.int .u8 (l.getD i 0))

set_option maxHeartbeats 400000 in
theorem r_in (k b n c : Nat) (l : List Nat) (w : World) (hn : n = l.length) (hl : l.length < 1000) (hc : Row w b l) :
    Calls Tryd.prog 75 #[.int .u8 k, .slice (some ⟨b, 0, none⟩) n c] w fun e w' => e = .returned (.bool (inL l k)) ∧ w = w' := by
  subst hn
  go_enter Tryd.func75, Tryd.ntmps75
  go_wp2
  go_loop [5] (fun i => ∃ j : Nat, j ≤ l.length ∧ i = .int .i64 j ∧ ∀ x ∈ l.take j, x ≠ k) (fun i => l.length - (intOf i).toNat)
  case atStart => exact ⟨0, by omega, rfl, by simp⟩
  case round =>
    obtain ⟨j, hj, rfl, hne⟩ := hrel
    by_cases hlt : j < l.length
    · have h1 := hc j hlt
      obtain ⟨y, hy⟩ : ∃ y, l.getD j 0 = y := ⟨_, rfl⟩
      have hm : l[j] = y := by
        rw [List.getD_eq_getElem?_getD, List.getElem?_eq_getElem hlt] at hy
        exact hy
      rw [hy] at h1
      by_cases he : y = k
      · have hin : Hid (inL l k = true) := Lib.hid (by
          unfold inL
          rw [List.contains_iff_mem, ← he, ← hm]
          exact List.getElem_mem hlt)
        subst he
        clear hy hm hc hne
        go_wp2
        go_ret
        exact ⟨by rw [hin.out]; rfl, rfl⟩
      · have hx2 : ((y : Int) == (k : Int)) = false := by simp; omega
        have hne2 : Hid (∀ x ∈ l.take (j + 1), x ≠ k) := Lib.hid (by
          intro x hx
          rw [List.take_succ_eq_append_getElem hlt, List.mem_append] at hx
          rcases hx with hx | hx
          · exact hne x hx
          · simp at hx
            rw [hx, hm]
            exact he)
        clear he hy hm hc hne
        go_wp2
        go_round
        case rel => exact ⟨j + 1, by omega, by go_num, hne2.out⟩
        case measure => simp [intOf]; omega
    · have hin : Hid (inL l k = false) := Lib.hid (by
        unfold inL
        rw [Bool.eq_false_iff]
        intro hk
        rw [List.contains_iff_mem] at hk
        rw [List.take_of_length_le (by omega)] at hne
        exact hne k hk rfl)
      clear hc hne
      go_wp2
      go_ret
      exact ⟨by rw [hin.out]; rfl, rfl⟩
end KindW
end Go.Proofs.YtlahkmkipciiiaaDoor


/-
  The walks of package kind and of its reference, continued: the lists of the reference, levels, cells that may be, lamps, names looked up.
-/
namespace Go.Proofs.YtlahkmkipciiiaaDoor
open Go.RowKit
namespace KindW
open KindP

theorem row_new (w : World) (l : List Nat) (t : TypeId) : Row (w.alloc (.cells (l.map fun (n : Nat) => Value.int .u8 (n : Int)).toArray t)) w.heap.size l := by
  intro i hi
  rw [World.cell?_alloc_new]
  simp [hi]

set_option maxHeartbeats 400000 in
theorem r_movable (k : Nat) (w : World) :
    Calls Tryd.prog 63 #[.int .u8 k] w fun e w' => e = .returned (.bool (movable k)) ∧ Below w.heap.size w w' := by
  have hr := row_new w [2, 3, 4, 5, 6, 7, 8, 9] 5
  go_enter Tryd.func63, Tryd.ntmps63
  go_wp2_with (go_at_call 75; refine (r_in k _ _ _ [2, 3, 4, 5, 6, 7, 8, 9] _ rfl (by decide) ?hr).mono ?_; exact hr; rintro e w' ⟨rfl, rfl⟩)
  go_ret
  exact ⟨rfl, (Below.refl _ _).alloc (Nat.le_refl _) _⟩

set_option maxHeartbeats 400000 in
theorem r_yields (k : Nat) (w : World) :
    Calls Tryd.prog 53 #[.int .u8 k] w fun e w' => e = .returned (.bool (yields k)) ∧ Below w.heap.size w w' := by
  have hr := row_new w [0, 11, 12, 13, 14] 5
  go_enter Tryd.func53, Tryd.ntmps53
  go_wp2_with (go_at_call 75; refine (r_in k _ _ _ [0, 11, 12, 13, 14] _ rfl (by decide) ?hr).mono ?_; exact hr; rintro e w' ⟨rfl, rfl⟩)
  go_ret
  exact ⟨rfl, (Below.refl _ _).alloc (Nat.le_refl _) _⟩

set_option maxHeartbeats 400000 in
theorem r_soaks (k : Nat) (w : World) :
    Calls Tryd.prog 77 #[.int .u8 k] w fun e w' => e = .returned (.bool (soaks k)) ∧ Below w.heap.size w w' := by
  have hr := row_new w [0, 11, 12, 14] 5
  go_enter Tryd.func77, Tryd.ntmps77
  go_wp2_with (go_at_call 75; refine (r_in k _ _ _ [0, 11, 12, 14] _ rfl (by decide) ?hr).mono ?_; exact hr; rintro e w' ⟨rfl, rfl⟩)
  go_ret
  exact ⟨rfl, (Below.refl _ _).alloc (Nat.le_refl _) _⟩

set_option maxHeartbeats 400000 in
theorem r_falls (k : Nat) (w : World) :
    Calls Tryd.prog 51 #[.int .u8 k] w fun e w' => e = .returned (.bool (falls k)) ∧ Below w.heap.size w w' := by
  have hr := row_new w [4, 5, 8] 5
  go_enter Tryd.func51, Tryd.ntmps51
  go_wp2_with (go_at_call 75; refine (r_in k _ _ _ [4, 5, 8] _ rfl (by decide) ?hr).mono ?_; exact hr; rintro e w' ⟨rfl, rfl⟩)
  go_ret
  exact ⟨rfl, (Below.refl _ _).alloc (Nat.le_refl _) _⟩

set_option maxHeartbeats 400000 in
theorem r_burns (k : Nat) (w : World) :
    Calls Tryd.prog 60 #[.int .u8 k] w fun e w' => e = .returned (.bool (burns k)) ∧ Below w.heap.size w w' := by
  have hr := row_new w [6, 7, 12] 5
  go_enter Tryd.func60, Tryd.ntmps60
  go_wp2_with (go_at_call 75; refine (r_in k _ _ _ [6, 7, 12] _ rfl (by decide) ?hr).mono ?_; exact hr; rintro e w' ⟨rfl, rfl⟩)
  go_ret
  exact ⟨rfl, (Below.refl _ _).alloc (Nat.le_refl _) _⟩

set_option maxHeartbeats 400000 in
theorem r_levels (k : Nat) (w : World) :
    Calls Tryd.prog 50 #[.int .u8 k] w fun e w' => e = .returned (.int .u8 (KindP.most k)) ∧ w = w' := by
  by_cases h11 : k = 11
  · subst h11
    go_enter Tryd.func50, Tryd.ntmps50
    go_wp2
    go_ret
    exact ⟨rfl, rfl⟩
  by_cases h12 : k = 12
  · subst h12
    go_enter Tryd.func50, Tryd.ntmps50
    go_wp2
    go_ret
    exact ⟨rfl, rfl⟩
  by_cases h13 : k = 13
  · subst h13
    go_enter Tryd.func50, Tryd.ntmps50
    go_wp2
    go_ret
    exact ⟨rfl, rfl⟩
  by_cases h14 : k = 14
  · subst h14
    go_enter Tryd.func50, Tryd.ntmps50
    go_wp2
    go_ret
    exact ⟨rfl, rfl⟩
  have e : Hid (KindP.most k = 0) := Lib.hid (by
    by_cases h : k < 15
    · revert h11 h12 h13 h14
      revert k
      decide
    · simp [KindP.most, mosts, List.getD, h])
  have e11 : ((k : Int) == 11) = false := by simp; omega
  have e12 : ((k : Int) == 12) = false := by simp; omega
  have e13 : ((k : Int) == 13) = false := by simp; omega
  have e14 : ((k : Int) == 14) = false := by simp; omega
  clear h11 h12 h13 h14
  go_enter Tryd.func50, Tryd.ntmps50
  go_wp2
  go_ret
  exact ⟨by rw [e.out]; rfl, rfl⟩

end KindW
end Go.Proofs.YtlahkmkipciiiaaDoor


/-
  Walks, third part.
-/
namespace Go.Proofs.YtlahkmkipciiiaaDoor
open Go.RowKit
namespace KindW
open KindP

theorem dec_lt {a b : Nat} {v : Bool} (h : decide (a < b) = v) : decide ((a : Int) < (b : Int)) = v := by
  rw [← h]; simp
theorem dec_le {a b : Nat} {v : Bool} (h : decide (a ≤ b) = v) : decide ((a : Int) ≤ (b : Int)) = v := by
  rw [← h]; simp

set_option maxHeartbeats 400000 in
theorem k_may (k l : Nat) (w : World) (hT : Tab w) :
    Calls Tryd.prog 24 #[.agg #[.int .u8 k, .int .u8 l]] w fun e w' => e = .returned (.bool (may k l)) ∧ Below w.heap.size w w' := by
  by_cases h : k < 15
  · have hl := hT.least k h
    have hm := hT.most k h
    have hz := hT.size
    obtain ⟨a, ha⟩ : ∃ a, KindP.least k = a := ⟨_, rfl⟩
    obtain ⟨b, hb⟩ : ∃ b, KindP.most k = b := ⟨_, rfl⟩
    rw [ha] at hl
    rw [hb] at hm
    have hd : decide ((k : Int) < 15) = true := by simp; omega
    by_cases h1 : a ≤ l
    · have hd1 : decide (a ≤ l) = true := by simpa using h1
      have hd1' := dec_le hd1
      by_cases h2 : l ≤ b
      · have hd2 : decide (l ≤ b) = true := by simpa using h2
        have hd2' := dec_le hd2
        have e : Hid (may k l = true) := Lib.hid (by simp [may, h, ha, hb, h1, h2])
        clear hT ha hb
        go_enter Tryd.func24, Tryd.ntmps24
        go_wp2_with fail
        go_quiet (fail)
        go_wp2
        go_ret
        exact ⟨by rw [e.out]; rfl, below_drewN ((Below.refl _ _).alloc (Nat.le_refl _) _) _⟩
      · have hd2 : decide (l ≤ b) = false := by simpa using h2
        have hd2' := dec_le hd2
        have e : Hid (may k l = false) := Lib.hid (by simp [may, hb, h2])
        clear hT ha hb
        go_enter Tryd.func24, Tryd.ntmps24
        go_wp2_with fail
        go_quiet (fail)
        go_wp2
        go_ret
        exact ⟨by rw [e.out]; rfl, below_drewN ((Below.refl _ _).alloc (Nat.le_refl _) _) _⟩
    · have hd1 : decide (a ≤ l) = false := by simpa using h1
      have hd1' := dec_le hd1
      have e : Hid (may k l = false) := Lib.hid (by simp [may, ha, h1])
      clear hT ha hb
      go_enter Tryd.func24, Tryd.ntmps24
      go_wp2_with fail
      go_quiet (fail)
      go_wp2
      go_ret
      exact ⟨by rw [e.out]; rfl, below_drewN ((Below.refl _ _).alloc (Nat.le_refl _) _) _⟩
  · have hd : decide ((k : Int) < 15) = false := by simp; omega
    have e : Hid (may k l = false) := Lib.hid (by simp [may, h])
    clear hT
    go_enter Tryd.func24, Tryd.ntmps24
    go_wp2_with fail
    go_quiet (fail)
    go_wp2
    go_ret
    exact ⟨by rw [e.out]; rfl, below_drewN ((Below.refl _ _).alloc (Nat.le_refl _) _) _⟩

theorem may_levels (k l : Nat) : may k l = (decide (k < 15) && !decide (KindP.most k < l) && (!(k == 11) || decide (0 < l))) := by
  by_cases h11 : k = 11
  · subst h11
    rw [Bool.eq_iff_iff]
    simp [may, show KindP.least 11 = 1 from rfl, show KindP.most 11 = 15 from rfl]
    omega
  · by_cases h : k < 15
    · have h0 : KindP.least k = 0 := by
        revert h11
        revert h
        revert k
        decide
      rw [Bool.eq_iff_iff]
      simp [may, h0, h11]
    · simp [may, h]

set_option maxHeartbeats 400000 in
theorem r_may (k l : Nat) (w : World) :
    Calls Tryd.prog 25 #[.agg #[.int .u8 k, .int .u8 l]] w fun e w' => e = .returned (.bool (may k l)) ∧ Below w.heap.size w w' := by
  have hm := may_levels k l
  by_cases h : k < 15
  · have hd : decide (15 ≤ (k : Int)) = false := by simp; omega
    obtain ⟨b, hb⟩ : ∃ b, KindP.most k = b := ⟨_, rfl⟩
    by_cases h1 : b < l
    · have hd1 : decide (b < l) = true := by simpa using h1
      have hd1' := dec_lt hd1
      have e : Hid (may k l = false) := Lib.hid (by simp [hm, hb, h1])
      have hL := fun w => r_levels k w
      rw [hb] at hL
      have HL := Lib.hid hL
      clear hm hL hb h1
      go_enter Tryd.func25, Tryd.ntmps25
      go_wp2_with fail
      go_quiet ((go_at_call 50; exact Calls.quiet_of_same ((HL.out _).mono fun _ _ h => ⟨h.1, h.2.symm⟩)))
      go_wp2
      go_ret
      exact ⟨by rw [e.out]; rfl, below_drewN ((Below.refl _ _).alloc (Nat.le_refl _) _) _⟩
    · have hd1 : decide (b < l) = false := by simpa using h1
      have hd1' := dec_lt hd1
      have hL := fun w => r_levels k w
      rw [hb] at hL
      have HL := Lib.hid hL
      by_cases h11 : k = 11
      · subst h11
        by_cases h3 : 0 < l
        · have hd3 : decide (0 < l) = true := by simpa using h3
          have hd3' := dec_lt hd3
          have e : Hid (may 11 l = true) := Lib.hid (by simp [hm, hb, h1, h3])
          clear hm hL hb h1
          go_enter Tryd.func25, Tryd.ntmps25
          go_wp2_with fail
          go_quiet ((go_at_call 50; exact Calls.quiet_of_same ((HL.out _).mono fun _ _ h => ⟨h.1, h.2.symm⟩)))
          go_wp2
          go_ret
          exact ⟨by rw [e.out]; rfl, below_drewN ((Below.refl _ _).alloc (Nat.le_refl _) _) _⟩
        · have hd3 : decide (0 < l) = false := by simpa using h3
          have hd3' := dec_lt hd3
          have e : Hid (may 11 l = false) := Lib.hid (by simp [hm, h3])
          clear hm hL hb h1
          go_enter Tryd.func25, Tryd.ntmps25
          go_wp2_with fail
          go_quiet ((go_at_call 50; exact Calls.quiet_of_same ((HL.out _).mono fun _ _ h => ⟨h.1, h.2.symm⟩)))
          go_wp2
          go_ret
          exact ⟨by rw [e.out]; rfl, below_drewN ((Below.refl _ _).alloc (Nat.le_refl _) _) _⟩
      · have e11 : ((k : Int) != 11) = true := by simp; omega
        have e : Hid (may k l = true) := Lib.hid (by simp [hm, hb, h1, h, h11])
        clear hm hL hb h1
        go_enter Tryd.func25, Tryd.ntmps25
        go_wp2_with fail
        go_quiet ((go_at_call 50; exact Calls.quiet_of_same ((HL.out _).mono fun _ _ h => ⟨h.1, h.2.symm⟩)))
        go_wp2
        go_ret
        exact ⟨by rw [e.out]; rfl, below_drewN ((Below.refl _ _).alloc (Nat.le_refl _) _) _⟩
  · have hd : decide (15 ≤ (k : Int)) = true := by simp; omega
    have e : Hid (may k l = false) := Lib.hid (by simp [hm, h])
    clear hm
    go_enter Tryd.func25, Tryd.ntmps25
    go_wp2_with fail
    go_quiet (fail)
    go_wp2
    go_ret
    exact ⟨by rw [e.out]; rfl, below_drewN ((Below.refl _ _).alloc (Nat.le_refl _) _) _⟩
end KindW
end Go.Proofs.YtlahkmkipciiiaaDoor
