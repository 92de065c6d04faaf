/-
  Groups of writes, plainly: the commit of a group, what stands, what the two programs read of it, what is written.
-/
import Derived.Test.YtknckaegpdganaaDoorSectorOps
import Derived.Test.YtknckaegpdganaaDoorCrcPlain
import Derived.Test.YtknckaegpdganaaDoorBytesPlain
namespace Go.Proofs.YtknckaegpdganaaDoor
set_option linter.unusedVariables false
set_option linter.unusedSimpArgs false
namespace JouP
open JournalP SecP BytesW
open Go.Lib (uvarint uvarint_small uvarint_big uvarint_length64 uvarint_pos)
abbrev Grp := List (Nat × Sec)
def sizeJ (m : Int) : Int := if 1 ≤ m ∧ m ≤ 60 then 1 + m else 0
def homeB (n a m : Nat) (i : Int) : Bool := decide (0 ≤ i) && decide (i < n) && !(decide ((a : Int) ≤ i) && decide (i ≤ a + m))
theorem homeB_iff {n a m : Nat} {i : Int} : homeB n a m i = true ↔ 0 ≤ i ∧ i < n ∧ ¬ ((a : Int) ≤ i ∧ i ≤ a + m) := by
  simp [homeB]
  omega
def sumN (x : Sec) : Nat := (CrcP.sum x).toNat
def entry (x : Nat × Sec) : List UInt8 := uvarint x.1 ++ fx (sumN (pad x.2)) 4
def named (g : Grp) : List UInt8 := uvarint g.length ++ g.flatMap entry
def commitN (g : Grp) : List UInt8 := fx (sumN (named g)) 4 ++ named g
theorem uv3 {h : Nat} (hh : h < 131072) : (uvarint h).length ≤ 3 := by
  by_cases h1 : h < 128
  · rw [uvarint_small h1]
    simp
  · rw [uvarint_big (by omega)]
    by_cases h2 : h / 128 < 128
    · rw [uvarint_small h2]
      simp
    · rw [uvarint_big (by omega), uvarint_small (by omega)]
      simp
theorem entry_len {x : Nat × Sec} (h : x.1 < 131072) : (entry x).length ≤ 7 := by
  have := uv3 h
  simp only [entry, List.length_append, fx_length]
  omega
theorem entries_len : ∀ {g : Grp}, (∀ x ∈ g, x.1 < 131072) → (g.flatMap entry).length ≤ 7 * g.length
  | [], _ => by simp
  | x :: r, h => by
    have := entry_len (h x (by simp))
    have := entries_len (g := r) (fun y hy => h y (by simp [hy]))
    simp only [List.flatMap_cons, List.length_append, List.length_cons]
    omega
theorem named_len {g : Grp} (h : ∀ x ∈ g, x.1 < 131072) (hl : g.length ≤ 60) : (named g).length ≤ 421 := by
  have := entries_len h
  have e : (uvarint g.length).length = 1 := by rw [uvarint_small (by omega)]; rfl
  simp only [named, List.length_append]
  omega
theorem commit_len {g : Grp} (h : ∀ x ∈ g, x.1 < 131072) (hl : g.length ≤ 60) : (commitN g).length ≤ 425 := by
  have := named_len h hl
  simp only [commitN, List.length_append, fx_length]
  omega
theorem drop4 (v : Nat) (Z : List UInt8) : (fx v 4 ++ Z).drop 4 = Z := List.drop_left' (fx_length v 4)
/-- A group's commit stands. -/
structure Stands (n a m : Nat) (f : Nat → Sec) (g : Grp) : Prop where
  ne : g ≠ []
  le : g.length ≤ m
  home : ∀ x ∈ g, homeB n a m x.1 = true
  body : ∀ (k : Nat) (x : Nat × Sec), g[k]? = some x → x.2 = f (a + 1 + k)
  text : f a = pad (commitN g)
/-! ### What is read -/
def nmTo (home : Int → Bool) (f : Nat → Sec) (a : Nat) (s : St) : Nat → Option (Grp × St)
  | 0 => some ([], s)
  | i + 1 => match nmTo home f a s i with
    | some (g, s1) => if home ((rNum s1).1 : Int) then some (g ++ [((rNum s1).1, f (a + 1 + i))], (rFixed (rNum s1).2 4).2) else none
    | none => none
def nmOf (home : Int → Bool) (f : Nat → Sec) (a m : Nat) (s : St) : Grp :=
  if m < (rNum (rFixed s 4).2).1 then [] else match nmTo home f a (rNum (rFixed s 4).2).2 (rNum (rFixed s 4).2).1 with | some (g, _) => g | none => []
theorem nm_facts (home : Int → Bool) (f : Nat → Sec) (a : Nat) (s : St) : ∀ (i : Nat) (g : Grp) (s1 : St), nmTo home f a s i = some (g, s1) → g.length = i ∧ (∀ x ∈ g, home x.1 = true) ∧ ∀ (k : Nat) (x : Nat × Sec), g[k]? = some x → x.2 = f (a + 1 + k)
  | 0, g, s1, h => by
    simp only [nmTo, Option.some.injEq, Prod.mk.injEq] at h
    obtain ⟨rfl, rfl⟩ := h
    exact ⟨rfl, fun x hx => (by cases hx), fun k x hx => (by simp at hx)⟩
  | i + 1, g, s1, h => by
    unfold nmTo at h
    split at h
    · rename_i g0 s0 h0
      obtain ⟨hl, hh, hb⟩ := nm_facts home f a s i g0 s0 h0
      split at h
      · rename_i hq
        simp only [Option.some.injEq, Prod.mk.injEq] at h
        obtain ⟨rfl, rfl⟩ := h
        refine ⟨by simp [hl], fun x hx => ?_, fun k x hx => ?_⟩
        · rcases List.mem_append.1 hx with hx | hx
          · exact hh x hx
          · obtain rfl := List.mem_singleton.1 hx
            exact hq
        · by_cases hk : k < i
          · rw [List.getElem?_append_left (by omega)] at hx
            exact hb k x hx
          · rw [List.getElem?_append_right (by omega)] at hx
            have hk2 : k - g0.length = 0 := by
              have := (List.getElem?_eq_some_iff.1 hx).1
              simp at this
              omega
            rw [hk2] at hx
            obtain rfl : _ = x := by simpa using hx
            have : k = i := by omega
            subst this
            rfl
      · cases h
    · cases h
/-- A number whose bytes stand ahead is read. -/
theorem num_read {h : Nat} {Z : List UInt8} (hh : h < 18446744073709551616) : rNum (uvarint h ++ Z, false) = (h, (Z, false)) := by
  have := pn_yes (l := uvarint h ++ Z) hh (List.prefix_append _ _)
  simp [rNum, this]
theorem fixed_read {v : Nat} {Z : List UInt8} : (rFixed (fx v 4 ++ Z, false) 4).2 = (Z, false) := by
  have hl := fx_length v 4
  have h2 : ¬ ((fx v 4 ++ Z).length : Int) < 4 := by
    rw [List.length_append, hl]
    omega
  have h3 : (1 : Int) ≤ 4 ∧ (4 : Int) ≤ 8 ∧ (4 : Int) ≤ ((fx v 4 ++ Z).length : Int) := ⟨by omega, by omega, by omega⟩
  unfold rFixed
  rw [if_neg (by simp), if_pos h3]
  show ((fx v 4 ++ Z).drop 4, false) = _
  rw [drop4]
theorem nm_read {home : Int → Bool} {f : Nat → Sec} {a : Nat} {g : Grp} {Z : List UInt8} (hh : ∀ x ∈ g, home x.1 = true) (hlt : ∀ x ∈ g, x.1 < 18446744073709551616) (hb : ∀ (k : Nat) (x : Nat × Sec), g[k]? = some x → x.2 = f (a + 1 + k)) :
    ∀ i, i ≤ g.length → nmTo home f a (g.flatMap entry ++ Z, false) i = some (g.take i, ((g.drop i).flatMap entry ++ Z, false))
  | 0, _ => by simp [nmTo]
  | i + 1, hi => by
    have ih := nm_read (Z := Z) hh hlt hb i (by omega)
    obtain ⟨x, hx⟩ : ∃ x, g[i]? = some x := ⟨_, List.getElem?_eq_getElem (by omega)⟩
    have hm := List.mem_of_getElem? hx
    have hd : g.drop i = x :: g.drop (i + 1) := (List.getElem_cons_drop (by omega)).symm.trans (by rw [(List.getElem?_eq_some_iff.1 hx).2])
    have ht : g.take (i + 1) = g.take i ++ [x] := by rw [List.take_add_one, hx]; rfl
    have e : ((g.drop i).flatMap entry ++ Z) = uvarint x.1 ++ (fx (sumN (pad x.2)) 4 ++ ((g.drop (i + 1)).flatMap entry ++ Z)) := by
      rw [hd, List.flatMap_cons]
      simp only [entry, List.append_assoc]
    rw [nmTo, ih]
    simp only [e, num_read (hlt x hm), fixed_read, hh x hm, if_pos]
    rw [ht, ← hb i x hx]
theorem zeros_all {l : List UInt8} : l.all (· == 0) = true ↔ l = List.replicate l.length 0 := by
  rw [List.all_eq_true, List.eq_replicate_iff]
  simp
/-- The commit ahead of bytes 0 alone: that is the sector's text. -/
theorem told_anew {t c : List UInt8} (ht : t.length = 512) : (c.isPrefixOf t && (t.drop c.length).all (· == 0)) = true ↔ t = pad c ∧ c.length ≤ 512 := by
  rw [Bool.and_eq_true, List.isPrefixOf_iff_prefix, zeros_all]
  constructor
  · rintro ⟨⟨r, rfl⟩, h2⟩
    rw [List.drop_left] at h2
    have hr : r.length = 512 - c.length := by
      rw [List.length_append] at ht
      omega
    rw [hr] at h2
    refine ⟨?_, by rw [List.length_append] at ht; omega⟩
    unfold pad
    rw [← h2]
  · rintro ⟨rfl, h⟩
    refine ⟨⟨_, rfl⟩, ?_⟩
    unfold pad
    rw [List.drop_left, List.length_replicate]
/-- What the program finds standing. -/
def stP (n a m : Nat) (f : Nat → Sec) : Grp :=
  let g := nmOf (homeB n a m) f a m (f a, false)
  if ((commitN g).isPrefixOf (f a) && ((f a).drop (commitN g).length).all (· == 0)) = true then g else []
open Classical in
/-- The group that stands: none, if none does. -/
noncomputable def standJ (n a m : Nat) (f : Nat → Sec) : Grp := if h : ∃ g, Stands n a m f g then Classical.choose h else []
section
variable {n a m : Nat} {f : Nat → Sec} (hn : n ≤ 131072) (hm : m ≤ 60) (hf : ∀ i, (f i).length = 512)
theorem home_lt {i : Nat} (h : homeB n a m i = true) : i < n := by
  have := homeB_iff.1 h
  omega
include hn hm in
theorem Stands.clen {g : Grp} (h : Stands n a m f g) : (commitN g).length ≤ 425 :=
  commit_len (fun x hx => Nat.lt_of_lt_of_le (home_lt (h.home x hx)) hn) (Nat.le_trans h.le hm)
theorem pad_form (g : Grp) : pad (commitN g) = fx (sumN (named g)) 4 ++ (uvarint g.length ++ (g.flatMap entry ++ List.replicate (512 - (commitN g).length) 0)) := by
  unfold pad
  rw [show commitN g = fx (sumN (named g)) 4 ++ (uvarint g.length ++ g.flatMap entry) from rfl]
  simp only [List.append_assoc]
/-- A commit's bytes are not 0 alone. -/
theorem commit_some {g : Grp} (hne : g ≠ []) (hl : g.length ≤ 60) : pad (commitN g) ≠ blank := fun e => by
  have h1 : (pad (commitN g)).drop 4 = uvarint g.length ++ (g.flatMap entry ++ List.replicate (512 - (commitN g).length) 0) := by
    rw [pad_form]
    exact drop4 _ _
  rw [e, uvarint_small (by omega)] at h1
  have h2 : SecP.blank.drop 4 = (0 : UInt8) :: List.replicate 507 0 := rfl
  rw [h2] at h1
  have h3 : (0 : UInt8) = g.length.toUInt8 := by
    have := (List.cons.inj h1).1
    exact this
  have h4 := congrArg UInt8.toNat h3
  rw [small_nat (by omega)] at h4
  have : g.length = 0 := h4.symm
  exact hne (List.eq_nil_of_length_eq_zero this)
include hn hm in
theorem nm_stands {g : Grp} (h : Stands n a m f g) : nmOf (homeB n a m) f a m (f a, false) = g := by
  have hl := h.le
  have e : f a = _ := h.text.trans (pad_form g)
  have h1 : (rFixed (f a, false) 4).2 = (uvarint g.length ++ (g.flatMap entry ++ List.replicate (512 - (commitN g).length) 0), false) := by
    rw [e]
    exact fixed_read
  have h2 := num_read (h := g.length) (Z := g.flatMap entry ++ List.replicate (512 - (commitN g).length) 0) (by omega)
  unfold nmOf
  rw [h1, h2]
  simp only
  rw [if_neg (by omega), nm_read h.home (fun x hx => by have := home_lt (h.home x hx); omega) h.body g.length (Nat.le_refl _)]
  simp
include hn hm in
theorem stands_one {g g2 : Grp} (h : Stands n a m f g) (h2 : Stands n a m f g2) : g = g2 :=
  (nm_stands hn hm h).symm.trans (nm_stands hn hm h2)
include hn hm in
theorem standJ_is {g : Grp} (h : Stands n a m f g) : standJ n a m f = g := by
  unfold standJ
  have hx : ∃ g, Stands n a m f g := ⟨g, h⟩
  rw [dif_pos hx]
  exact stands_one hn hm (Classical.choose_spec hx) h
theorem standJ_none (h : ¬ ∃ g, Stands n a m f g) : standJ n a m f = [] := by
  unfold standJ
  rw [dif_neg h]
theorem standJ_stands (h : standJ n a m f ≠ []) : Stands n a m f (standJ n a m f) := by
  by_cases hx : ∃ g, Stands n a m f g
  · unfold standJ
    rw [dif_pos hx]
    exact Classical.choose_spec hx
  · exact absurd (standJ_none hx) h
include hn hm hf in
theorem stP_is : stP n a m f = standJ n a m f := by
  by_cases hx : ∃ g, Stands n a m f g
  · obtain ⟨g, h⟩ := hx
    rw [standJ_is hn hm h]
    unfold stP
    simp only [nm_stands hn hm h]
    rw [if_pos ((told_anew (hf a)).2 ⟨h.text, by have := h.clen hn hm; omega⟩)]
  · rw [standJ_none hx]
    unfold stP
    simp only
    split
    · rename_i hq
      have ht := ((told_anew (hf a)).1 hq).1
      refine Classical.byContradiction fun hne => hx ⟨nmOf (homeB n a m) f a m (f a, false), hne, ?_, ?_, ?_, ht⟩
      all_goals
        unfold nmOf at hne ⊢
        split at hne
        · exact absurd rfl hne
        · rename_i hk
          rw [if_neg hk]
          split at hne
          · rename_i g0 s0 h0
            have := nm_facts _ _ _ _ _ _ _ h0
            first
              | exact this.2.1
              | exact this.2.2
              | (have := this.1
                 show g0.length ≤ m
                 omega)
          · exact absurd rfl hne
    · rfl
end
/-! ### What the reference reads -/
def nrTo (n a m : Nat) (f : Nat → Sec) (t : List UInt8) (p0 : Nat) : Nat → Option (Grp × Nat)
  | 0 => some ([], p0)
  | i + 1 => match nrTo n a m f t p0 i with
    | some (g, p) => match pn (t.drop p) 0 0 with
      | some (h, w) => if n ≤ h ∨ 512 < p + w + 4 then none else if homeB n a m h = true then some (g ++ [(h, f (a + 1 + i))], p + w + 4) else none
      | none => none
    | none => none
def stR (n a m : Nat) (f : Nat → Sec) : Grp := match pn ((f a).drop 4) 0 0 with
  | none => []
  | some (k, z) => if k < 1 ∨ m < k then [] else match nrTo n a m f (f a) (4 + z) k with
    | none => []
    | some (g, _) => if f a = pad (commitN g) then g else []
theorem nr_facts (n a m : Nat) (f : Nat → Sec) (t : List UInt8) (p0 : Nat) : ∀ (i : Nat) (g : Grp) (p : Nat), nrTo n a m f t p0 i = some (g, p) → g.length = i ∧ (∀ x ∈ g, homeB n a m x.1 = true) ∧ (∀ (k : Nat) (x : Nat × Sec), g[k]? = some x → x.2 = f (a + 1 + k)) ∧ (p0 ≤ 512 → p ≤ 512)
  | 0, g, p, h => by
    simp only [nrTo, Option.some.injEq, Prod.mk.injEq] at h
    obtain ⟨rfl, rfl⟩ := h
    exact ⟨rfl, fun x hx => (by cases hx), fun k x hx => (by simp at hx), id⟩
  | i + 1, g, p, h => by
    unfold nrTo at h
    split at h
    · rename_i g0 s0 h0
      obtain ⟨hl, hh, hb, hp⟩ := nr_facts n a m f t p0 i g0 s0 h0
      split at h
      · rename_i h1 w1 hpn
        split at h
        · cases h
        · rename_i hw
          split at h
          · rename_i hq
            simp only [Option.some.injEq, Prod.mk.injEq] at h
            obtain ⟨rfl, rfl⟩ := h
            refine ⟨by simp [hl], fun x hx => ?_, fun k x hx => ?_, fun _ => by omega⟩
            · rcases List.mem_append.1 hx with hx | hx
              · exact hh x hx
              · obtain rfl := List.mem_singleton.1 hx
                exact hq
            · by_cases hk : k < i
              · rw [List.getElem?_append_left (by omega)] at hx
                exact hb k x hx
              · rw [List.getElem?_append_right (by omega)] at hx
                have hk2 : k - g0.length = 0 := by
                  have := (List.getElem?_eq_some_iff.1 hx).1
                  simp at this
                  omega
                rw [hk2] at hx
                obtain rfl : _ = x := by simpa using hx
                have : k = i := by omega
                subst this
                rfl
          · cases h
      · cases h
    · cases h
theorem nr_read {n a m : Nat} {f : Nat → Sec} {g : Grp} {H Z : List UInt8} (hn : n ≤ 131072) (hh : ∀ x ∈ g, homeB n a m x.1 = true) (hb : ∀ (k : Nat) (x : Nat × Sec), g[k]? = some x → x.2 = f (a + 1 + k)) (hl : H.length + 7 * g.length ≤ 512) :
    ∀ i, i ≤ g.length → ∃ p, nrTo n a m f (H ++ (g.flatMap entry ++ Z)) H.length i = some (g.take i, p) ∧ (H ++ (g.flatMap entry ++ Z)).drop p = (g.drop i).flatMap entry ++ Z ∧ p ≤ H.length + 7 * i
  | 0, _ => ⟨H.length, by simp [nrTo], by rw [List.drop_left]; simp, by omega⟩
  | i + 1, hi => by
    obtain ⟨p, h1, h2, h3⟩ := nr_read (H := H) (Z := Z) hn hh hb hl i (by omega)
    obtain ⟨x, hx⟩ : ∃ x, g[i]? = some x := ⟨_, List.getElem?_eq_getElem (by omega)⟩
    have hm := List.mem_of_getElem? hx
    have hxn := home_lt (hh x hm)
    have h3w := uv3 (h := x.1) (by omega)
    have hd : g.drop i = x :: g.drop (i + 1) := (List.getElem_cons_drop (by omega)).symm.trans (by rw [(List.getElem?_eq_some_iff.1 hx).2])
    have ht : g.take (i + 1) = g.take i ++ [x] := by rw [List.take_add_one, hx]; rfl
    have e : ((g.drop i).flatMap entry ++ Z) = uvarint x.1 ++ (fx (sumN (pad x.2)) 4 ++ ((g.drop (i + 1)).flatMap entry ++ Z)) := by
      rw [hd, List.flatMap_cons]
      simp only [entry, List.append_assoc]
    refine ⟨p + (uvarint x.1).length + 4, ?_, ?_, by omega⟩
    · rw [nrTo, h1]
      simp only [h2, e, pn_yes (l := uvarint x.1 ++ (fx (sumN (pad x.2)) 4 ++ ((g.drop (i + 1)).flatMap entry ++ Z))) (m := x.1) (by omega) (List.prefix_append _ _)]
      rw [if_neg (by omega), if_pos (hh x hm), ht, ← hb i x hx]
    · rw [← List.drop_drop, ← List.drop_drop, h2, e, List.drop_left]
      exact drop4 _ _
section
variable {n a m : Nat} {f : Nat → Sec} (hn : n ≤ 131072) (hm : m ≤ 60)
include hn hm in
theorem stR_is : stR n a m f = standJ n a m f := by
  by_cases hx : ∃ g, Stands n a m f g
  · obtain ⟨g, h⟩ := hx
    rw [standJ_is hn hm h]
    have hle := h.le
    have hne : 1 ≤ g.length := by
      have := h.ne
      cases g with
      | nil => exact absurd rfl this
      | cons x r => simp
    have e : f a = _ := h.text.trans (pad_form g)
    have hf4 := fx_length (sumN (named g)) 4
    have hd : (f a).drop 4 = uvarint g.length ++ (g.flatMap entry ++ List.replicate (512 - (commitN g).length) 0) := by
      rw [e]
      exact drop4 _ _
    have hu : (uvarint g.length).length = 1 := by rw [uvarint_small (by omega)]; rfl
    have hp := pn_yes (l := (f a).drop 4) (m := g.length) (by omega) (by rw [hd]; exact List.prefix_append _ _)
    have e2 : f a = (fx (sumN (named g)) 4 ++ uvarint g.length) ++ (g.flatMap entry ++ List.replicate (512 - (commitN g).length) 0) := by
      rw [e]
      simp only [List.append_assoc]
    have hH : (fx (sumN (named g)) 4 ++ uvarint g.length).length = 4 + (uvarint g.length).length := by rw [List.length_append, hf4]
    obtain ⟨p, h1, h2, h3⟩ := nr_read (H := fx (sumN (named g)) 4 ++ uvarint g.length) (Z := List.replicate (512 - (commitN g).length) 0) hn h.home h.body (by rw [hH]; omega) g.length (Nat.le_refl _)
    rw [← e2, hH] at h1
    unfold stR
    rw [hp]
    simp only
    rw [if_neg (by omega), h1]
    simp only [List.take_length]
    rw [if_pos h.text]
  · rw [standJ_none hx]
    unfold stR
    split
    · rfl
    · rename_i k z hp
      split
      · rfl
      · rename_i hk
        split
        · rfl
        · rename_i g0 p0 h0
          have hfa := nr_facts _ _ _ _ _ _ _ _ _ h0
          split
          · rename_i ht
            refine Classical.byContradiction fun hne => hx ⟨g0, hne, ?_, hfa.2.1, hfa.2.2.1, ht⟩
            have := hfa.1
            omega
          · rfl
end
/-! ### What is written -/
def _root_.Go.Proofs.YtknckaegpdganaaDoor.SecP.Dk.adds (d : Dk) (l : List (Nat × Sec)) : Dk := ⟨d.n, d.base, d.ws ++ l⟩
theorem adds_nil (d : Dk) : d.adds [] = d := by
  unfold Dk.adds
  rw [List.append_nil]
theorem adds_adds (d : Dk) (a b : List (Nat × Sec)) : (d.adds a).adds b = d.adds (a ++ b) := by
  unfold Dk.adds
  rw [List.append_assoc]
theorem adds_write (d : Dk) (i : Nat) (x : Sec) : d.write i x = d.adds [(i, pad x)] := rfl
theorem adds_now (d : Dk) (l : List (Nat × Sec)) : (d.adds l).now = app d.now l := app_app ..
theorem adds_n (d : Dk) (l : List (Nat × Sec)) : (d.adds l).n = d.n := rfl
theorem adds_len (d : Dk) (l : List (Nat × Sec)) : (d.adds l).ws.length = d.ws.length + l.length := by simp [Dk.adds]
def bods (b : Nat) : Grp → List (Nat × Sec)
  | [] => []
  | x :: r => (b, pad x.2) :: bods (b + 1) r
theorem bods_len : ∀ (b : Nat) (g : Grp), (bods b g).length = g.length
  | b, [] => rfl
  | b, x :: r => by simp [bods, bods_len]
theorem bods_app : ∀ (b : Nat) (g h : Grp), bods b (g ++ h) = bods b g ++ bods (b + g.length) h
  | b, [], h => rfl
  | b, x :: r, h => by
    simp only [List.cons_append, bods, bods_app, List.length_cons]
    rw [show b + 1 + r.length = b + (r.length + 1) by omega]
theorem bods_take {b i : Nat} {g : Grp} {x : Nat × Sec} (h : g[i]? = some x) : bods b (g.take (i + 1)) = bods b (g.take i) ++ [(b + i, pad x.2)] := by
  have hi := (List.getElem?_eq_some_iff.1 h).1
  rw [List.take_add_one, h, bods_app, List.length_take, Nat.min_eq_left (by omega)]
  rfl
theorem bods_in : ∀ {b : Nat} {g : Grp} {y : Nat × Sec}, y ∈ bods b g → b ≤ y.1 ∧ y.1 < b + g.length
  | b, x :: r, y, h => by
    rcases List.mem_cons.1 h with rfl | h
    · simp
    · have := bods_in h
      simp only [List.length_cons]
      omega
theorem bods_get {b : Nat} : ∀ {g : Grp} {f : Nat → Sec} {k : Nat} {x : Nat × Sec}, g[k]? = some x → app f (bods b g) (b + k) = pad x.2
  | g, f, k, x, h => by
    have hk := (List.getElem?_eq_some_iff.1 h).1
    have e : g = g.take (k + 1) ++ g.drop (k + 1) := (List.take_append_drop ..).symm
    rw [e, bods_app, app_app, bods_take h, app_app, app_one, app_other]
    · unfold upd
      rw [if_pos rfl]
    · intro y hy
      have := (bods_in hy).1
      rw [List.length_take, Nat.min_eq_left (by omega)] at this
      omega
def pads (g : Grp) : Grp := g.map (fun x => (x.1, pad x.2))
theorem pads_take {i : Nat} {g : Grp} {x : Nat × Sec} (h : g[i]? = some x) : pads (g.take (i + 1)) = pads (g.take i) ++ [(x.1, pad x.2)] := by
  rw [List.take_add_one, h]
  simp [pads]
def homes (a : Nat) (g : Grp) : List (Nat × Sec) := pads g ++ [(a, blank)]
def preJ (a : Nat) (f : Nat → Sec) : List (Nat × Sec) := if f a = blank then [] else [(a, blank)]
def putWs (a : Nat) (f : Nat → Sec) (g : Grp) : List (Nat × Sec) := if g = [] then [] else preJ a f ++ bods (a + 1) g ++ (a, pad (commitN g)) :: homes a g
def recWs (a : Nat) (g : Grp) : List (Nat × Sec) := if g = [] then [] else homes a g
/-! ### What is refused -/
def openE (n : Nat) (a m : Int) : Int := if n = 0 then 1 else if sizeJ m = 0 ∨ a < 0 ∨ n - sizeJ m < a then 2 else 0
def longB (x : Int × Sec) : Bool := decide (512 < x.2.length)
def checkE (n a m : Nat) (L : List (Int × Sec)) : Int := if m < L.length ∨ L.any longB = true then 3 else if L.any (fun x => !homeB n a m x.1) = true then 2 else 0
def natG (L : List (Int × Sec)) : Grp := L.map (fun x => (x.1.toNat, x.2))
/-- May the group be put? -/
structure Fits (n a m : Nat) (g : Grp) : Prop where
  le : g.length ≤ m
  short : ∀ x ∈ g, x.2.length ≤ 512
  home : ∀ x ∈ g, homeB n a m x.1 = true
theorem check_fits {n a m : Nat} {L : List (Int × Sec)} (h : checkE n a m L = 0) : Fits n a m (natG L) ∧ L = (natG L).map (fun x => ((x.1 : Int), x.2)) := by
  unfold checkE at h
  split at h
  · cases h
  · rename_i h1
    split at h
    · cases h
    · rename_i h2
      have hl : ¬ m < L.length := fun q => h1 (.inl q)
      have hs : ∀ x ∈ L, x.2.length ≤ 512 := fun x hx => Classical.byContradiction fun q => h1 (.inr (List.any_eq_true.2 ⟨x, hx, by simp [longB]; omega⟩))
      have hh : ∀ x ∈ L, homeB n a m x.1 = true := fun x hx => by
        cases hq : homeB n a m x.1 with
        | true => rfl
        | false => exact absurd (List.any_eq_true.2 ⟨x, hx, by simp [hq]⟩) h2
      have h0 : ∀ x ∈ L, 0 ≤ x.1 := fun x hx => (homeB_iff.1 (hh x hx)).1
      refine ⟨⟨by simp [natG]; omega, fun x hx => ?_, fun x hx => ?_⟩, ?_⟩
      · obtain ⟨y, hy, rfl⟩ := List.mem_map.1 hx
        exact hs y hy
      · obtain ⟨y, hy, rfl⟩ := List.mem_map.1 hx
        have := h0 y hy
        show homeB n a m ((y.1.toNat : Nat) : Int) = true
        rw [Int.toNat_of_nonneg this]
        exact hh y hy
      · unfold natG
        rw [List.map_map]
        conv => lhs; rw [← List.map_id L]
        refine List.map_congr_left fun x hx => ?_
        have := h0 x hx
        show x = (((x.1.toNat : Nat) : Int), x.2)
        rw [Int.toNat_of_nonneg this]
end JouP
end Go.Proofs.YtknckaegpdganaaDoor
