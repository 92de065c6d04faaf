/-
  Each light is told by the others, plainly.
-/
import Derived.Test.YtbkadecfmjjadaaDoorGlowLitP
namespace Go.Proofs.YtbkadecfmjjadaaDoor
set_option linter.unusedVariables false
set_option linter.unusedSimpArgs false
namespace GlowW
open RowG KindP
/-- What comes of k sides, one after another. -/
def uptoS (ls : List (Nat × Nat)) (near : List Nat) (q : Nat × Nat) (k : Nat) : Nat × Nat := (near.take k).foldl (fun q s => (max q.1 ((ls.getD s (0, 0)).1 - 1), max q.2 ((ls.getD s (0, 0)).2 - 1))) q
theorem upto_zero (ls : List (Nat × Nat)) (near : List Nat) (q : Nat × Nat) : uptoS ls near q 0 = q := rfl
theorem upto_succ {ls : List (Nat × Nat)} {near : List Nat} {q : Nat × Nat} {k s : Nat} {b : Nat × Nat} (h : near[k]? = some s) (hb : ls[s]? = some b) : uptoS ls near q (k + 1) = (max (uptoS ls near q k).1 (b.1 - 1), max (uptoS ls near q k).2 (b.2 - 1)) := by
  unfold uptoS
  rw [List.take_add_one, h, List.foldl_append]
  simp [List.getD, hb]
theorem fold_pair {f g : Nat → Nat} : ∀ (l : List Nat) (q : Nat × Nat), l.foldl (fun q s => (max q.1 (f s), max q.2 (g s))) q = (l.foldl (fun a s => max a (f s)) q.1, l.foldl (fun a s => max a (g s)) q.2)
  | [], q => rfl
  | x :: r, q => by rw [List.foldl_cons, fold_pair r]; rfl
theorem fold_max {f : Nat → Nat} : ∀ (l : List Nat) (a : Nat), l.foldl (fun a s => max a (f s)) a = max a (l.foldl (fun a s => max a (f s)) 0)
  | [], a => by simp
  | x :: r, a => by
    rw [List.foldl_cons, List.foldl_cons, fold_max r (max a (f x)), fold_max r (max 0 (f x))]
    omega
theorem upto_le {ls : List (Nat × Nat)} {near : List Nat} {q : Nat × Nat} (hl : ∀ (i : Nat) (a : Nat × Nat), ls[i]? = some a → a.1 ≤ 15 ∧ a.2 ≤ 15) (hq : q.1 ≤ 15 ∧ q.2 ≤ 15) (k : Nat) : (uptoS ls near q k).1 ≤ 15 ∧ (uptoS ls near q k).2 ≤ 15 := by
  have hs : ∀ s, (ls.getD s (0, 0)).1 ≤ 15 ∧ (ls.getD s (0, 0)).2 ≤ 15 := fun s => by
    simp only [List.getD]
    cases h : ls[s]? with
    | none => exact ⟨Nat.zero_le _, Nat.zero_le _⟩
    | some a => exact hl s a h
  have key : ∀ (l : List Nat) (q : Nat × Nat), q.1 ≤ 15 ∧ q.2 ≤ 15 → (l.foldl (fun q s => (max q.1 ((ls.getD s (0, 0)).1 - 1), max q.2 ((ls.getD s (0, 0)).2 - 1))) q).1 ≤ 15 ∧ (l.foldl (fun q s => (max q.1 ((ls.getD s (0, 0)).1 - 1), max q.2 ((ls.getD s (0, 0)).2 - 1))) q).2 ≤ 15 := by
    intro l
    induction l with
    | nil => exact fun q h => h
    | cons x r ih =>
      intro q h
      have := hs x
      exact ih _ ⟨by show max _ _ ≤ 15; omega, by show max _ _ ≤ 15; omega⟩
  exact key _ _ hq
theorem sun_yes {S N i k : Nat} {cl : Nat → Bool} (hS : 0 < S) (h0 : i < N) (hk : ∀ j, j < k → cl (i + j * S) = true) (hN : N ≤ i + k * S) : GlowP.skyO S N cl i = 15 := by
  unfold GlowP.skyO
  rw [if_pos ((GlowP.sky_iff hS).2 ⟨?_, fun j hj => hk j ?_⟩)]
  · have hk0 : 0 < k := Nat.pos_of_ne_zero fun e => by
      subst e
      simp at hN
      omega
    have := hk 0 hk0
    simpa using this
  · apply Classical.byContradiction
    intro hn
    have := Nat.mul_le_mul_right S (Nat.le_of_not_lt hn)
    omega
theorem sun_no {S N i k : Nat} {cl : Nat → Bool} (hS : 0 < S) (h : i + k * S < N) (hc : cl (i + k * S) = false) : GlowP.skyO S N cl i = 0 := by
  unfold GlowP.skyO
  rw [if_neg]
  intro q
  have := ((GlowP.sky_iff hS).1 q).2 k h
  rw [hc] at this
  cases this
/-- What a cell's light is. -/
def sunA (X Y Z : Nat) (cs : List (Nat × Nat)) (i : Nat) : Nat := GlowP.skyO (X * Z) (X * Y * Z) (GlowP.clO (cs.map openA)) i
structure StepsQ (X Y Z : Nat) (cs ls : List (Nat × Nat)) : Prop where
  top : ∀ (i : Nat) (a : Nat × Nat), ls[i]? = some a → a.1 ≤ 15 ∧ a.2 ≤ 15
  dark : ∀ (i : Nat) (a x : Nat × Nat), ls[i]? = some a → cs[i]? = some x → openA x = false → a = (0, 0)
  steps : ∀ (i : Nat) (a x : Nat × Nat), ls[i]? = some a → cs[i]? = some x → openA x = true → a = uptoS ls (GlowP.sides X Y Z i) (sunA X Y Z cs i, lampA x) (GlowP.sides X Y Z i).length
  own : ∀ (i : Nat) (x : Nat × Nat), cs[i]? = some x → lampA x ≤ 15
theorem steps_q (X Y Z : Nat) (cs : List (Nat × Nat)) : StepsQ X Y Z cs (lightA X Y Z cs) := by
  obtain ⟨s1, b1⟩ := lit_sol (X := X) (Y := Y) (Z := Z) (sky_src X Y Z (cs.map openA)).1 (sky_src X Y Z (cs.map openA)).2
  obtain ⟨s3, b3⟩ := lit_sol (X := X) (Y := Y) (Z := Z) (lamp_src cs).1 (lamp_src cs).2
  refine ⟨fun i a ha => ?_, fun i a x ha hx ho => ?_, fun i a x ha hx ho => ?_, fun i x hx => ?_⟩
  · obtain ⟨_, rfl⟩ := lightA_get ha
    exact ⟨b1 i, b3 i⟩
  · obtain ⟨_, rfl⟩ := lightA_get ha
    have hc : GlowP.clO (cs.map openA) i = false := by
      rw [openL, hx]
      exact ho
    have e1 := s1 i
    have e2 := s3 i
    rw [if_neg (by rw [hc]; simp)] at e1 e2
    rw [e1, e2]
  · obtain ⟨hi, rfl⟩ := lightA_get ha
    have hc : GlowP.clO (cs.map openA) i = true := by
      rw [openL, hx]
      exact ho
    have e1 := s1 i
    have e2 := s3 i
    rw [if_pos hc] at e1 e2
    have hd : ∀ s, s ∈ GlowP.sides X Y Z i → (lightA X Y Z cs).getD s (0, 0) = (litA X Y Z (cs.map openA) (skyL X Y Z (cs.map openA)) s, litA X Y Z (cs.map openA) (cs.map lampA) s) := fun s hs => by
      have hlt := GlowP.sides_lt hi hs
      obtain ⟨b, hb⟩ : ∃ b, (lightA X Y Z cs)[s]? = some b := ⟨_, List.getElem?_eq_getElem (by rw [lightA_len]; exact hlt)⟩
      obtain ⟨_, rfl⟩ := lightA_get hb
      simp [List.getD, hb]
    have hfold : ∀ (l : List Nat), (∀ s ∈ l, s ∈ GlowP.sides X Y Z i) → ∀ q : Nat × Nat, l.foldl (fun q s => (max q.1 (((lightA X Y Z cs).getD s (0, 0)).1 - 1), max q.2 (((lightA X Y Z cs).getD s (0, 0)).2 - 1))) q = (l.foldl (fun a s => max a (litA X Y Z (cs.map openA) (skyL X Y Z (cs.map openA)) s - 1)) q.1, l.foldl (fun a s => max a (litA X Y Z (cs.map openA) (cs.map lampA) s - 1)) q.2) := by
      intro l
      induction l with
      | nil => exact fun _ q => rfl
      | cons x r ih =>
        intro hl q
        rw [List.foldl_cons, ih (fun s hs => hl s (List.mem_cons_of_mem _ hs)), hd x (hl x (by simp))]
        rfl
    unfold uptoS
    rw [List.take_length, hfold _ (fun s hs => hs), fold_max _ (sunA X Y Z cs i, lampA x).1, fold_max _ (sunA X Y Z cs i, lampA x).2]
    have hside : GlowP.sideX X Y Z i = GlowP.sides X Y Z i := by
      unfold GlowP.sideX
      rw [if_pos hi]
    unfold GlowP.inL at e1 e2
    rw [hside] at e1 e2
    replace e1 := show litA X Y Z (cs.map openA) (skyL X Y Z (cs.map openA)) i = max ((skyL X Y Z (cs.map openA)).getD i 0) _ from e1
    replace e2 := show litA X Y Z (cs.map openA) (cs.map lampA) i = max ((cs.map lampA).getD i 0) _ from e2
    have h1 : (skyL X Y Z (cs.map openA)).getD i 0 = sunA X Y Z cs i := by
      rw [skyL_getD, if_pos hi]
      rfl
    have h2 : (cs.map lampA).getD i 0 = lampA x := by
      rw [lampLD, hx]
    rw [h1] at e1
    rw [h2] at e2
    rw [e1, e2]
  · have := (lamp_src cs).1 i
    rw [lampLD, hx] at this
    exact this
end GlowW
end Go.Proofs.YtbkadecfmjjadaaDoor
