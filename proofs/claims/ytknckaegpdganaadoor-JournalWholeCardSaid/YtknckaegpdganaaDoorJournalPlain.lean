/-
  Groups of writes, whole or not at all, plainly: what a disk is behind any cut of a group's writes, and behind any cut of a recovery's.
-/
namespace Go.Proofs.YtknckaegpdganaaDoor
set_option linter.unusedVariables false
namespace JournalP
section
variable {S : Type}
def upd (f : Nat → S) (i : Nat) (s : S) : Nat → S := fun k => if k = i then s else f k
/-- Writes, one behind the other. -/
def app (f : Nat → S) (l : List (Nat × S)) : Nat → S := l.foldl (fun g x => upd g x.1 x.2) f
theorem app_app (f : Nat → S) (a b : List (Nat × S)) : app f (a ++ b) = app (app f a) b := List.foldl_append ..
theorem app_nil (f : Nat → S) : app f [] = f := rfl
theorem app_one (f : Nat → S) (i : Nat) (s : S) : app f [(i, s)] = upd f i s := rfl
/-- A sector that is not written stays. -/
theorem app_other : ∀ {l : List (Nat × S)} {f : Nat → S} {i : Nat}, (∀ x ∈ l, x.1 ≠ i) → app f l i = f i
  | [], _, _, _ => rfl
  | x :: r, f, i, h => by
    show app (upd f x.1 x.2) r i = f i
    rw [app_other (fun y hy => h y (by simp [hy]))]
    unfold upd
    rw [if_neg (fun e => h x (by simp) e.symm)]
/-- A sector that is written has what is written to it, whatever it was. -/
theorem app_same : ∀ {l : List (Nat × S)} {f g : Nat → S} {i : Nat}, (∃ x ∈ l, x.1 = i) → app f l i = app g l i
  | x :: r, f, g, i, h => by
    show app (upd f x.1 x.2) r i = app (upd g x.1 x.2) r i
    by_cases hr : ∃ y ∈ r, y.1 = i
    · exact app_same hr
    · have hn : ∀ y ∈ r, y.1 ≠ i := fun y hy e => hr ⟨y, hy, e⟩
      rw [app_other hn, app_other hn]
      have hx : x.1 = i := by
        obtain ⟨y, hy, e⟩ := h
        rcases List.mem_cons.1 hy with rfl | hy
        · exact e
        · exact absurd e (hn y hy)
      unfold upd
      rw [if_pos hx.symm, if_pos hx.symm]
/-- What a journal at `a` of m bodies knows of a disk: the group that stands (none: empty), by its own sectors alone; nothing, if its commit sector is blank. -/
structure Jour (S : Type) where
  a : Nat
  m : Nat
  blank : S
  stands : (Nat → S) → List (Nat × S)
  own : ∀ f g : Nat → S, (∀ i, a ≤ i → i ≤ a + m → f i = g i) → stands f = stands g
  none : ∀ f : Nat → S, f a = blank → stands f = []
  home : ∀ f x, x ∈ stands f → ¬ (a ≤ x.1 ∧ x.1 ≤ a + m)
variable (J : Jour S)
def Jour.at (i : Nat) : Prop := J.a ≤ i ∧ i ≤ J.a + J.m
/-- A recovery's writes. -/
def Jour.redo (f : Nat → S) : List (Nat × S) := if J.stands f = [] then [] else J.stands f ++ [(J.a, J.blank)]
/-- Nothing stands; all homes are as they were. -/
def Old (was f : Nat → S) : Prop := J.stands f = [] ∧ ∀ i, ¬ J.at i → f i = was i
/-- The group stands; all other homes are as they were. -/
def Mid (g : List (Nat × S)) (was f : Nat → S) : Prop := J.stands f = g ∧ g ≠ [] ∧ ∀ i, ¬ J.at i → (∀ x ∈ g, x.1 ≠ i) → f i = was i
/-- Nothing stands; all homes are as the group says. -/
def New (g : List (Nat × S)) (was f : Nat → S) : Prop := J.stands f = [] ∧ ∀ i, ¬ J.at i → f i = app was g i
/-- Writes to homes alone leave what stands. -/
theorem stands_homes {f : Nat → S} {l : List (Nat × S)} (h : ∀ x ∈ l, ¬ J.at x.1) : J.stands (app f l) = J.stands f :=
  J.own _ _ (fun i h1 h2 => app_other (fun x hx e => h x hx (by rw [e]; exact ⟨h1, h2⟩)))
theorem Mid.part {g : List (Nat × S)} {was f : Nat → S} (h : Mid J g was f) (k : Nat) (hh : ∀ x ∈ g, ¬ J.at x.1) : Mid J g was (app f (g.take k)) := by
  obtain ⟨h1, h2, h3⟩ := h
  refine ⟨?_, h2, fun i hi hn => ?_⟩
  · rw [stands_homes J (fun x hx => hh x (List.mem_of_mem_take hx))]
    exact h1
  · rw [app_other (fun x hx => hn x (List.mem_of_mem_take hx))]
    exact h3 i hi hn
theorem Mid.whole {g : List (Nat × S)} {was f : Nat → S} (h : Mid J g was f) (hh : ∀ x ∈ g, ¬ J.at x.1) : New J g was (app f (g ++ [(J.a, J.blank)])) := by
  obtain ⟨h1, h2, h3⟩ := h
  rw [app_app, app_one]
  refine ⟨J.none _ (by simp [upd]), fun i hi => ?_⟩
  have hne : i ≠ J.a := fun e => hi (by rw [e]; exact ⟨Nat.le_refl _, by omega⟩)
  unfold upd
  rw [if_neg hne]
  by_cases hx : ∃ x ∈ g, x.1 = i
  · exact app_same hx
  · have hn : ∀ x ∈ g, x.1 ≠ i := fun x q e => hx ⟨x, q, e⟩
    rw [app_other hn, app_other hn]
    exact h3 i hi hn
/-- A recovery that is cut at k. -/
theorem rec_cut {g : List (Nat × S)} {was f : Nat → S} (h : Mid J g was f) (k : Nat) : Mid J g was (app f ((J.redo f).take k)) ∨ New J g was (app f ((J.redo f).take k)) := by
  have hh : ∀ x ∈ g, ¬ J.at x.1 := fun x hx => J.home f x (by rw [h.1]; exact hx)
  have e : J.redo f = g ++ [(J.a, J.blank)] := by
    unfold Jour.redo
    rw [h.1, if_neg h.2.1]
  rw [e]
  by_cases hk : k ≤ g.length
  · left
    rw [List.take_append_of_le_length hk]
    exact h.part J k hh
  · right
    rw [List.take_of_length_le (by simp; omega)]
    exact h.whole J hh
theorem rec_whole {g : List (Nat × S)} {was f : Nat → S} (h : Mid J g was f) : New J g was (app f (J.redo f)) := by
  have hh : ∀ x ∈ g, ¬ J.at x.1 := fun x hx => J.home f x (by rw [h.1]; exact hx)
  have e : J.redo f = g ++ [(J.a, J.blank)] := by
    unfold Jour.redo
    rw [h.1, if_neg h.2.1]
  rw [e]
  exact h.whole J hh
theorem rec_none {f : Nat → S} (h : J.stands f = []) : J.redo f = [] := by
  unfold Jour.redo
  rw [if_pos h]
/-- A group's writes: nothing to the commit sector, if it is not blank; the bodies; the commit; the homes; nothing. -/
def putL (pre bodies : List (Nat × S)) (commit : S) (g : List (Nat × S)) : List (Nat × S) := pre ++ bodies ++ (J.a, commit) :: (g ++ [(J.a, J.blank)])
/-- A group that is put, cut at k: as it was, as long as the commit is not written; behind that the group stands, or is done. -/
theorem put_cut {was f : Nat → S} {pre bodies g : List (Nat × S)} {commit : S} (h0 : Old J was f) (hg : g ≠ [])
    (hpre : (pre = [] ∧ f J.a = J.blank) ∨ pre = [(J.a, J.blank)]) (hb : ∀ x ∈ bodies, J.a < x.1 ∧ x.1 ≤ J.a + J.m) (hh : ∀ x ∈ g, ¬ J.at x.1)
    (hs : J.stands (app f (pre ++ bodies ++ [(J.a, commit)])) = g) (k : Nat) :
    (k ≤ (pre ++ bodies).length ∧ Old J was (app f ((putL J pre bodies commit g).take k))) ∨
    ((pre ++ bodies).length < k ∧ (Mid J g was (app f ((putL J pre bodies commit g).take k)) ∨ New J g was (app f ((putL J pre bodies commit g).take k)))) := by
  have hin : ∀ x ∈ pre ++ bodies ++ [(J.a, commit)], J.at x.1 := fun x hx => by
    rcases List.mem_append.1 hx with hx | hx
    · rcases List.mem_append.1 hx with hx | hx
      · rcases hpre with ⟨e, _⟩ | e
        · rw [e] at hx
          cases hx
        · rw [e] at hx
          obtain rfl : x = (J.a, J.blank) := by simpa using hx
          exact ⟨Nat.le_refl _, by show J.a ≤ J.a + J.m; omega⟩
      · have := hb x hx
        exact ⟨by omega, this.2⟩
    · obtain rfl : x = (J.a, commit) := by simpa using hx
      exact ⟨Nat.le_refl _, by show J.a ≤ J.a + J.m; omega⟩
  have hout : ∀ (l : List (Nat × S)), (∀ x ∈ l, J.at x.1) → ∀ i, ¬ J.at i → app f l i = was i := fun l hl i hi => by
    rw [app_other (fun x hx e => hi (by rw [← e]; exact hl x hx))]
    exact h0.2 i hi
  by_cases hk : k ≤ (pre ++ bodies).length
  · left
    refine ⟨hk, ?_⟩
    have ht : (putL J pre bodies commit g).take k = (pre ++ bodies).take k := by
      unfold putL
      rw [List.take_append_of_le_length hk]
    rw [ht]
    refine ⟨?_, hout _ (fun x hx => hin x (List.mem_append_left _ (List.mem_of_mem_take hx)))⟩
    by_cases hz : k = 0
    · subst hz
      exact h0.1
    · refine J.none _ ?_
      have hblank : ∀ (j : Nat) (q : Nat → S), q J.a = J.blank → app q (bodies.take j) J.a = J.blank := fun j q hq => by
        rw [app_other (fun x hx e => by
          have := hb x (List.mem_of_mem_take hx)
          omega)]
        exact hq
      rcases hpre with ⟨e, hf⟩ | e
      · subst e
        exact hblank k f hf
      · subst e
        obtain ⟨j, rfl⟩ : ∃ j, k = j + 1 := ⟨k - 1, by omega⟩
        show app (upd f J.a J.blank) (bodies.take j) J.a = J.blank
        exact hblank j _ (by simp [upd])
  · right
    refine ⟨by omega, ?_⟩
    obtain ⟨j, rfl⟩ : ∃ j, k = (pre ++ bodies).length + 1 + j := ⟨k - (pre ++ bodies).length - 1, by omega⟩
    have ht : (putL J pre bodies commit g).take ((pre ++ bodies).length + 1 + j) = (pre ++ bodies ++ [(J.a, commit)]) ++ (g ++ [(J.a, J.blank)]).take j := by
      have e : putL J pre bodies commit g = (pre ++ bodies ++ [(J.a, commit)]) ++ (g ++ [(J.a, J.blank)]) := by
        unfold putL
        simp
      rw [e, show (pre ++ bodies).length + 1 + j = (pre ++ bodies ++ [(J.a, commit)]).length + j by simp; omega, List.take_length_add_append]
    rw [ht, app_app]
    have hm : Mid J g was (app f (pre ++ bodies ++ [(J.a, commit)])) := ⟨hs, hg, fun i hi _ => hout _ hin i hi⟩
    by_cases hj : j ≤ g.length
    · left
      rw [List.take_append_of_le_length hj]
      exact hm.part J j hh
    · right
      rw [List.take_of_length_le (by simp; omega)]
      exact hm.whole J hh
end
end JournalP
end Go.Proofs.YtknckaegpdganaaDoor
