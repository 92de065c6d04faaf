/-
  What Light answers, plainly: the light of its sources; a stone more, a torch more.
-/
import Derived.Test.YtbkadecfmjjadaaDoorGlowWorks
namespace Go.Proofs.YtbkadecfmjjadaaDoor
set_option linter.unusedVariables false
set_option linter.unusedSimpArgs false
namespace GlowW
open RowG KindP
theorem lit_sol {X Y Z : Nat} {O : List Bool} {L : List Nat} (h15 : ∀ i, L.getD i 0 ≤ 15) (h0 : ∀ i, GlowP.clO O i = false → L.getD i 0 = 0) :
    GlowP.Sol (GlowP.sideX X Y Z) (GlowP.clO O) (fun i => L.getD i 0) (litA X Y Z O L) ∧ ∀ i, litA X Y Z O L i ≤ 15 :=
  ⟨GlowP.rounds_sol h15 h0, GlowP.rounds_le h15 15⟩
theorem lightA_get {X Y Z : Nat} {cs : List (Nat × Nat)} {i : Nat} {a : Nat × Nat} (h : (lightA X Y Z cs)[i]? = some a) : i < X * Y * Z ∧ a = (litA X Y Z (cs.map openA) (skyL X Y Z (cs.map openA)) i, litA X Y Z (cs.map openA) (cs.map lampA) i) := by
  have hi := (List.getElem?_eq_some_iff.1 h).1
  rw [lightA_len] at hi
  rw [lightA, List.getElem?_map, List.getElem?_range hi] at h
  injection h with h
  exact ⟨hi, h.symm⟩
theorem openL {cs : List (Nat × Nat)} {i : Nat} : GlowP.clO (cs.map openA) i = match cs[i]? with | some x => openA x | none => false := by
  unfold GlowP.clO
  simp only [List.getD, List.getElem?_map]
  cases cs[i]? <;> rfl
theorem lampLD {cs : List (Nat × Nat)} {i : Nat} : (cs.map lampA).getD i 0 = match cs[i]? with | some x => lampA x | none => 0 := by
  simp only [List.getD, List.getElem?_map]
  cases cs[i]? <;> rfl
/-- A stone makes none brighter; it is dark itself. -/
theorem stone_plain {X Y Z : Nat} {cs : List (Nat × Nat)} {q : Nat} (hn : X * Y * Z = cs.length) (hq : q < cs.length) :
    (∀ (i : Nat) (a b : Nat × Nat), (lightA X Y Z cs)[i]? = some a → (lightA X Y Z (cs.set q (2, 0)))[i]? = some b → b.1 ≤ a.1 ∧ b.2 ≤ a.2) ∧ ∀ (b : Nat × Nat), (lightA X Y Z (cs.set q (2, 0)))[q]? = some b → b = (0, 0) := by
  have hZ : 0 < X * Z := by
    apply Nat.pos_of_ne_zero
    intro h
    have : X * Y * Z = 0 := by rw [Nat.mul_right_comm, h, Nat.zero_mul]
    omega
  have hcl : ∀ i, GlowP.clO ((cs.set q (2, 0)).map openA) i = true → i ≠ q ∧ GlowP.clO (cs.map openA) i = true := fun i h => by
    rw [openL] at h ⊢
    by_cases e : i = q
    · subst e
      rw [List.getElem?_set_self hq] at h
      cases h
    · rw [List.getElem?_set_ne (fun x => e x.symm)] at h
      exact ⟨e, h⟩
  have hlm : ∀ i, ((cs.set q (2, 0)).map lampA).getD i 0 ≤ (cs.map lampA).getD i 0 := fun i => by
    rw [lampLD, lampLD]
    by_cases e : i = q
    · subst e
      rw [List.getElem?_set_self hq]
      exact Nat.zero_le _
    · rw [List.getElem?_set_ne (fun x => e x.symm)]
      exact Nat.le_refl _
  have hsk : ∀ i, (skyL X Y Z ((cs.set q (2, 0)).map openA)).getD i 0 ≤ (skyL X Y Z (cs.map openA)).getD i 0 := fun i => by
    rw [skyL_getD, skyL_getD]
    have := GlowP.sky_mono (N := X * Y * Z) hZ (fun i h => (hcl i h).2) i
    split
    · exact this
    · exact Nat.le_refl _
  obtain ⟨s1, b1⟩ := lit_sol (X := X) (Y := Y) (Z := Z) (sky_src X Y Z (cs.map openA)).1 (sky_src X Y Z (cs.map openA)).2
  obtain ⟨s2, b2⟩ := lit_sol (X := X) (Y := Y) (Z := Z) (sky_src X Y Z ((cs.set q (2, 0)).map openA)).1 (sky_src X Y Z ((cs.set q (2, 0)).map openA)).2
  obtain ⟨s3, b3⟩ := lit_sol (X := X) (Y := Y) (Z := Z) (lamp_src cs).1 (lamp_src cs).2
  obtain ⟨s4, b4⟩ := lit_sol (X := X) (Y := Y) (Z := Z) (lamp_src (cs.set q (2, 0))).1 (lamp_src (cs.set q (2, 0))).2
  refine ⟨fun i a b ha hb => ?_, fun b hb => ?_⟩
  · obtain ⟨_, rfl⟩ := lightA_get ha
    obtain ⟨_, rfl⟩ := lightA_get hb
    exact ⟨GlowP.cmp b2 s2.sub s1.super (fun i h => (hcl i h).2) (fun i _ => hsk i) i, GlowP.cmp b4 s4.sub s3.super (fun i h => (hcl i h).2) (fun i _ => hlm i) i⟩
  · obtain ⟨_, rfl⟩ := lightA_get hb
    have hc : GlowP.clO ((cs.set q (2, 0)).map openA) q = false := by
      rw [openL, List.getElem?_set_self hq]
      rfl
    have e1 := s2 q
    have e2 := s4 q
    rw [if_neg (by rw [hc]; simp)] at e1 e2
    rw [e1, e2]
/-- A torch in the place of Air makes none darker; the sky stays. -/
theorem lamp_plain {X Y Z : Nat} {cs : List (Nat × Nat)} {q : Nat} (hn : X * Y * Z = cs.length) (hq : q < cs.length) (hx : cs[q]? = some (0, 0)) :
    (∀ (i : Nat) (a b : Nat × Nat), (lightA X Y Z cs)[i]? = some a → (lightA X Y Z (cs.set q (11, 15)))[i]? = some b → b.1 = a.1 ∧ a.2 ≤ b.2) ∧ ∀ (b : Nat × Nat), (lightA X Y Z (cs.set q (11, 15)))[q]? = some b → b.2 = 15 := by
  have hO : (cs.set q (11, 15)).map openA = cs.map openA := by
    apply List.ext_getElem?
    intro i
    rw [List.getElem?_map, List.getElem?_map]
    by_cases e : i = q
    · subst e
      rw [List.getElem?_set_self hq, hx]
      rfl
    · rw [List.getElem?_set_ne (fun x => e x.symm)]
  have hlm : ∀ i, (cs.map lampA).getD i 0 ≤ ((cs.set q (11, 15)).map lampA).getD i 0 := fun i => by
    rw [lampLD, lampLD]
    by_cases e : i = q
    · subst e
      rw [List.getElem?_set_self hq, hx]
      exact Nat.zero_le _
    · rw [List.getElem?_set_ne (fun x => e x.symm)]
      exact Nat.le_refl _
  obtain ⟨s3, b3⟩ := lit_sol (X := X) (Y := Y) (Z := Z) (lamp_src cs).1 (lamp_src cs).2
  obtain ⟨s4, b4⟩ := lit_sol (X := X) (Y := Y) (Z := Z) (lamp_src (cs.set q (11, 15))).1 (lamp_src (cs.set q (11, 15))).2
  rw [hO] at s4 b4
  refine ⟨fun i a b ha hb => ?_, fun b hb => ?_⟩
  · obtain ⟨_, rfl⟩ := lightA_get ha
    obtain ⟨_, rfl⟩ := lightA_get hb
    rw [hO]
    exact ⟨rfl, GlowP.cmp b3 s3.sub s4.super (fun i h => h) (fun i _ => hlm i) i⟩
  · obtain ⟨_, rfl⟩ := lightA_get hb
    rw [hO]
    have hc : GlowP.clO (cs.map openA) q = true := by
      rw [openL, hx]
      rfl
    have e1 := s4.super q hc
    have e2 := b4 q
    have e3 : ((cs.set q (11, 15)).map lampA).getD q 0 = 15 := by
      rw [lampLD, List.getElem?_set_self hq]
      rfl
    rw [e3] at e1
    show litA X Y Z (cs.map openA) ((cs.set q (11, 15)).map lampA) q = 15
    omega
end GlowW
end Go.Proofs.YtbkadecfmjjadaaDoor
