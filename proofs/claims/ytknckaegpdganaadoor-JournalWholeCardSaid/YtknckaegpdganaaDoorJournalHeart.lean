/-
  Whole or not at all: a group that is put, cut anywhere, and recoveries behind it, cut anywhere.
-/
import Derived.Test.YtknckaegpdganaaDoorJournalOps
namespace Go.Proofs.YtknckaegpdganaaDoor
set_option linter.unusedVariables false
set_option linter.unusedSimpArgs false
namespace JouP
open JournalP SecP BytesW
theorem pad_pad {x : Sec} (h : x.length ≤ 512) : pad (pad x) = pad x := pad_full (pad_len h)
theorem entries_pads : ∀ {g : Grp}, (∀ x ∈ g, x.2.length ≤ 512) → (pads g).flatMap entry = g.flatMap entry
  | [], _ => rfl
  | x :: r, h => by
    have ih := entries_pads (g := r) (fun y hy => h y (by simp [hy]))
    have e : entry (x.1, pad x.2) = entry x := by
      unfold entry
      rw [pad_pad (h x (by simp))]
    show entry (x.1, pad x.2) ++ (pads r).flatMap entry = entry x ++ r.flatMap entry
    rw [ih, e]
theorem commit_pads {g : Grp} (h : ∀ x ∈ g, x.2.length ≤ 512) : commitN (pads g) = commitN g := by
  unfold commitN named
  rw [entries_pads h, show (pads g).length = g.length from List.length_map ..]
theorem pads_of {g : Grp} (h : ∀ x ∈ g, x.2.length = 512) : pads g = g := by
  unfold pads
  conv => rhs; rw [← List.map_id g]
  refine List.map_congr_left fun x hx => ?_
  show (x.1, pad x.2) = x
  rw [pad_full (h x hx)]
section
variable {n a m : Nat} (hn : n ≤ 131072) (hm : m ≤ 60) (hm1 : 1 ≤ m)
theorem stands_own {f f2 : Nat → Sec} (h : ∀ i, a ≤ i → i ≤ a + m → f i = f2 i) {g : Grp} (hs : Stands n a m f g) : Stands n a m f2 g := by
  refine ⟨hs.ne, hs.le, hs.home, fun k x hx => ?_, ?_⟩
  · have hk := (List.getElem?_eq_some_iff.1 hx).1
    have := hs.le
    rw [← h (a + 1 + k) (by omega) (by omega)]
    exact hs.body k x hx
  · rw [← h a (Nat.le_refl _) (by omega)]
    exact hs.text
include hn hm in
theorem standJ_own {f f2 : Nat → Sec} (h : ∀ i, a ≤ i → i ≤ a + m → f i = f2 i) : standJ n a m f = standJ n a m f2 := by
  by_cases hx : ∃ g, Stands n a m f g
  · obtain ⟨g, hg⟩ := hx
    rw [standJ_is hn hm hg, standJ_is hn hm (stands_own h hg)]
  · rw [standJ_none hx, standJ_none]
    rintro ⟨g, hg⟩
    exact hx ⟨g, stands_own (fun i h1 h2 => (h i h1 h2).symm) hg⟩
include hm in
theorem standJ_blank {f : Nat → Sec} (h : f a = blank) : standJ n a m f = [] := by
  refine standJ_none ?_
  rintro ⟨g, hg⟩
  have := hg.text
  rw [h] at this
  exact commit_some hg.ne (Nat.le_trans hg.le hm) this.symm
theorem standJ_home {f : Nat → Sec} {x : Nat × Sec} (h : x ∈ standJ n a m f) : ¬ (a ≤ x.1 ∧ x.1 ≤ a + m) := by
  have hs := standJ_stands (n := n) (a := a) (m := m) (f := f) (fun e => by rw [e] at h; cases h)
  have := homeB_iff.1 (hs.home x h)
  omega
noncomputable def jour : Jour Sec := ⟨a, m, blank, standJ n a m, fun f g h => standJ_own hn hm h, fun f h => standJ_blank hm h, fun f x h => standJ_home h⟩
theorem stands_full {f : Nat → Sec} (hf : ∀ i, (f i).length = 512) : ∀ x ∈ standJ n a m f, x.2.length = 512 := fun x hx => by
  have hs := standJ_stands (n := n) (a := a) (m := m) (f := f) (fun e => by rw [e] at hx; cases hx)
  obtain ⟨k, hk⟩ := List.getElem?_of_mem hx
  rw [hs.body k x hk]
  exact hf _
theorem redo_is {f : Nat → Sec} (hf : ∀ i, (f i).length = 512) : (jour (a := a) hn hm).redo f = recWs a (standJ n a m f) := by
  unfold recWs Jour.redo homes
  rw [pads_of (stands_full hf)]
  rfl
/-- What a disk is: as it was; or with the group, on its way home or there. -/
def Inv (c : Bool) (was : Nat → Sec) (g : Grp) (f : Nat → Sec) : Prop := if c then Mid (jour (a := a) hn hm) g was f ∨ New (jour (a := a) hn hm) g was f else Old (jour (a := a) hn hm) was f
def Done (c : Bool) (was : Nat → Sec) (g : Grp) (f : Nat → Sec) : Prop := if c then New (jour (a := a) hn hm) g was f else Old (jour (a := a) hn hm) was f
theorem Done.inv {c : Bool} {was f : Nat → Sec} {g : Grp} (h : Done (a := a) hn hm c was g f) : Inv (a := a) hn hm c was g f := by
  cases c with
  | true => exact .inr h
  | false => exact h
theorem inv_cut {c : Bool} {was f : Nat → Sec} {g : Grp} (hf : ∀ i, (f i).length = 512) (h : Inv (a := a) hn hm c was g f) (k : Nat) : Inv (a := a) hn hm c was g (app f ((recWs a (standJ n a m f)).take k)) := by
  rw [← redo_is hn hm hf]
  cases c with
  | false =>
    have h' : Old (jour (a := a) hn hm) was f := h
    rw [rec_none (jour (a := a) hn hm) h'.1, List.take_nil]
    exact h'
  | true =>
    rcases h with h | h
    · exact rec_cut _ h k
    · rw [rec_none (jour (a := a) hn hm) h.1, List.take_nil]
      exact .inr h
theorem inv_done {c : Bool} {was f : Nat → Sec} {g : Grp} (hf : ∀ i, (f i).length = 512) (h : Inv (a := a) hn hm c was g f) : Done (a := a) hn hm c was g (app f (recWs a (standJ n a m f))) := by
  rw [← redo_is hn hm hf]
  cases c with
  | false =>
    have h' : Old (jour (a := a) hn hm) was f := h
    rw [rec_none (jour (a := a) hn hm) h'.1]
    exact h'
  | true =>
    rcases h with h | h
    · exact rec_whole _ h
    · rw [rec_none (jour (a := a) hn hm) h.1]
      exact h
theorem done_none {c : Bool} {was f : Nat → Sec} {g : Grp} (h : Done (a := a) hn hm c was g f) : standJ n a m f = [] := by
  cases c with
  | false => exact (show Old (jour (a := a) hn hm) was f from h).1
  | true => exact (show New (jour (a := a) hn hm) g was f from h).1
theorem done_home {c : Bool} {was f : Nat → Sec} {g : Grp} (h : Done (a := a) hn hm c was g f) {i : Nat} (hi : ¬ (a ≤ i ∧ i ≤ a + m)) : f i = app was (if c then g else []) i := by
  cases c with
  | false => exact (show Old (jour (a := a) hn hm) was f from h).2 i hi
  | true => exact (show New (jour (a := a) hn hm) g was f from h).2 i hi
/-! ### A group that is put -/
def comB (l : List (Nat × Sec)) (a k : Nat) : Bool := (l.take k).any (fun x => x.1 == a && x.2 != blank)
theorem pre_in {f : Nat → Sec} {x : Nat × Sec} (h : x ∈ preJ a f) : x = (a, blank) := by
  unfold preJ at h
  split at h
  · cases h
  · exact List.mem_singleton.1 h
include hm in
theorem com_is {f : Nat → Sec} {g : Grp} (hg : g ≠ []) (hF : Fits n a m g) (k : Nat) : comB (putWs a f g) a k = decide ((preJ a f ++ bods (a + 1) g).length < k) := by
  unfold comB putWs
  rw [if_neg hg]
  have hl : ∀ x ∈ preJ a f ++ bods (a + 1) g, (x.1 == a && x.2 != blank) = false := fun x hx => by
    rcases List.mem_append.1 hx with hx | hx
    · rw [pre_in hx]
      simp
    · have := bods_in hx
      have : ¬ x.1 = a := by omega
      simp [this]
  by_cases hk : (preJ a f ++ bods (a + 1) g).length < k
  · rw [decide_eq_true hk, List.any_eq_true]
    obtain ⟨j, rfl⟩ : ∃ j, k = (preJ a f ++ bods (a + 1) g).length + (1 + j) := ⟨k - (preJ a f ++ bods (a + 1) g).length - 1, by omega⟩
    refine ⟨(a, pad (commitN g)), ?_, ?_⟩
    · rw [List.take_length_add_append]
      refine List.mem_append_right _ ?_
      rw [Nat.add_comm 1 j, List.take_succ_cons]
      exact List.mem_cons_self ..
    · have := commit_some hg (Nat.le_trans hF.le hm)
      simp [this]
  · rw [decide_eq_false hk, List.any_eq_false]
    intro x hx
    rw [List.take_append_of_le_length (by omega)] at hx
    rw [hl x (List.mem_of_mem_take hx)]
    simp
theorem putL_is {f : Nat → Sec} {g : Grp} (hg : g ≠ []) : putWs a f g = putL (jour (n := n) (a := a) hn hm) (preJ a f) (bods (a + 1) g) (pad (commitN g)) (pads g) := by
  unfold putWs
  rw [if_neg hg]
  rfl
theorem put_stands {f : Nat → Sec} {g : Grp} (hg : g ≠ []) (hF : Fits n a m g) : Stands n a m (app f (preJ a f ++ bods (a + 1) g ++ [(a, pad (commitN g))])) (pads g) := by
  refine ⟨?_, ?_, ?_, ?_, ?_⟩
  · intro e
    exact hg (List.map_eq_nil_iff.1 e)
  · show (pads g).length ≤ m
    rw [show (pads g).length = g.length from List.length_map ..]
    exact hF.le
  · intro x hx
    obtain ⟨y, hy, rfl⟩ := List.mem_map.1 hx
    exact hF.home y hy
  · intro k x hx
    unfold pads at hx
    rw [List.getElem?_map] at hx
    obtain ⟨y, hy, rfl⟩ := Option.map_eq_some_iff.1 hx
    rw [app_app, app_one]
    unfold upd
    rw [if_neg (by omega), app_app, bods_get hy]
  · rw [app_app, app_one]
    unfold upd
    rw [if_pos rfl, commit_pads hF.short]
theorem put_inv {f : Nat → Sec} {g : Grp} (hg : g ≠ []) (hF : Fits n a m g) (h0 : standJ n a m f = []) (k : Nat) : Inv (a := a) hn hm (comB (putWs a f g) a k) f (pads g) (app f ((putWs a f g).take k)) := by
  have hO : Old (jour (n := n) (a := a) hn hm) f f := ⟨h0, fun i _ => rfl⟩
  have hne : pads g ≠ [] := fun e => hg (List.map_eq_nil_iff.1 e)
  have hp : (preJ a f = [] ∧ f a = blank) ∨ preJ a f = [(a, blank)] := by
    unfold preJ
    by_cases q : f a = blank
    · exact .inl ⟨if_pos q, q⟩
    · exact .inr (if_neg q)
  have hb : ∀ x ∈ bods (a + 1) g, a < x.1 ∧ x.1 ≤ a + m := fun x hx => by
    have := bods_in hx
    have := hF.le
    omega
  have hh : ∀ x ∈ pads g, ¬ (a ≤ x.1 ∧ x.1 ≤ a + m) := fun x hx => by
    obtain ⟨y, hy, rfl⟩ := List.mem_map.1 hx
    have := homeB_iff.1 (hF.home y hy)
    show ¬ (a ≤ y.1 ∧ y.1 ≤ a + m)
    omega
  have := put_cut (jour (n := n) (a := a) hn hm) hO hne hp hb hh (standJ_is hn hm (put_stands hg hF)) k
  rw [com_is hm hg hF, putL_is hn hm hg]
  rcases this with ⟨h1, h2⟩ | ⟨h1, h2⟩
  · rw [decide_eq_false (by omega)]
    exact h2
  · rw [decide_eq_true h1]
    exact h2
theorem put_done {f : Nat → Sec} {g : Grp} (hg : g ≠ []) (hF : Fits n a m g) (h0 : standJ n a m f = []) : Done (a := a) hn hm true f (pads g) (app f (putWs a f g)) := by
  have h := put_inv hn hm hg hF h0 (preJ a f ++ bods (a + 1) g ++ [(a, pad (commitN g))]).length
  have e : putWs a f g = (preJ a f ++ bods (a + 1) g ++ [(a, pad (commitN g))]) ++ homes a g := by
    unfold putWs
    rw [if_neg hg]
    simp
  have hs := standJ_is hn hm (put_stands (f := f) hg hF)
  rw [com_is hm hg hF, decide_eq_true (by simp only [List.length_append, List.length_cons, List.length_nil]; omega)] at h
  rw [e, List.take_left] at h
  rw [e, app_app]
  rcases h with h | h
  · have hh : ∀ x ∈ pads g, ¬ (jour (n := n) (a := a) hn hm).at x.1 := fun x hx => by
      obtain ⟨y, hy, rfl⟩ := List.mem_map.1 hx
      have := homeB_iff.1 (hF.home y hy)
      show ¬ (a ≤ y.1 ∧ y.1 ≤ a + m)
      omega
    exact h.whole _ hh
  · have : pads g = [] := hs.symm.trans h.1
    exact absurd (List.map_eq_nil_iff.1 this) hg
end
end JouP
end Go.Proofs.YtknckaegpdganaaDoor
