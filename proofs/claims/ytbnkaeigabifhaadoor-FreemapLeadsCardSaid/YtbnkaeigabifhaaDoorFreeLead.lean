/-
  What is taken, given and kept again, plainly.
-/
import Derived.Test.YtbnkaeigabifhaaDoorFreeLaw
-- mine: whole_c same_c awake_c take_c step_c back_c Made number_c next_c fixed_c clone_c int_c end_c put_c
namespace Go.Proofs.YtbnkaeigabifhaaDoor
open Go.RowKit
set_option linter.unusedVariables false
set_option linter.unusedSimpArgs false
set_option maxRecDepth 100000
namespace FreW
open BlkP RowG FrS PushG FreP
open CrcW (Tab)
theorem turn_nilE (so : Bool) (L : List Bool) : turnE so [] L = 0 := rfl
theorem turn_nilL (so : Bool) (L : List Bool) : turnL so [] L = L := rfl
/-- A list whose sectors are each in range, each so, and no two the same, is turned. -/
theorem turn_all {so : Bool} : ∀ (l : List Int) (L : List Bool), l.Pairwise (· < ·) → (∀ x ∈ l, okL so L x = true) → turn so l L = some (flips L l)
  | [], _, _, _ => rfl
  | x :: r, L, hp, h => by
    have h0 := h x (by simp)
    obtain ⟨hp1, hp2⟩ := List.pairwise_cons.1 hp
    have hx := inL_iff.1 (ok_yes h0).1
    show (if okL so L x then turn so r (FreP.flip L x) else none) = some (flips (FreP.flip L x) r)
    rw [if_pos h0]
    refine turn_all r _ hp2 fun y hy => ?_
    have h1 := h y (by simp [hy])
    have h2 := hp1 y hy
    have h3 := inL_iff.1 (ok_yes h1).1
    unfold okL at h1 ⊢
    rw [has_flip, if_neg (fun q => by omega), show inL (FreP.flip L x) y = inL L y by unfold inL; rw [flip_len]]
    exact h1
theorem frees_rise (f : Nat → Bool) : ∀ n a, (frees f a n).Pairwise (· < ·)
  | 0, _ => List.Pairwise.nil
  | n + 1, a => by
    have ih := frees_rise f n (a + 1)
    simp only [frees]
    split
    · refine List.pairwise_cons.2 ⟨fun x hx => ?_, ih⟩
      have := (frees_mem f n (a + 1) x).1 hx
      omega
    · exact ih
theorem takeO_rise (L : List Bool) (k : Int) : (takeO L k).Pairwise (· < ·) := by
  unfold takeO
  split
  · exact (frees_rise _ _ _).sublist (List.take_sublist _ _)
  · exact List.Pairwise.nil
theorem takeO_in (L : List Bool) (k : Int) : ∀ x ∈ takeO L k, inL L x = true ∧ has L x.toNat = true := fun x hx => by
  unfold takeO at hx
  split at hx
  · have h := (mem_all L x).1 (List.mem_of_mem_take hx)
    exact ⟨all_in x hx, h.2⟩
  · cases hx
/-- What is turned is so no more. -/
theorem has_flips_yes : ∀ (l : List Int) (L : List Bool), l.Pairwise (· < ·) → (∀ x ∈ l, inL L x = true) → ∀ x ∈ l, has (flips L l) x.toNat = !has L x.toNat
  | [], _, _, _, x, hx => by cases hx
  | y :: r, L, hp, h, x, hx => by
    obtain ⟨hp1, hp2⟩ := List.pairwise_cons.1 hp
    have hy := inL_iff.1 (h y (by simp))
    have hr : ∀ z ∈ r, inL (FreP.flip L y) z = true := fun z hz => by
      have := h z (by simp [hz])
      unfold inL at this ⊢
      rwa [flip_len]
    show has (flips (FreP.flip L y) r) x.toNat = _
    rcases List.mem_cons.1 hx with e | hx
    · subst e
      rw [has_flips_not r _ _ (fun z hz e => by have := hp1 z hz; have := inL_iff.1 (h z (by simp [hz])); omega), has_flip, if_pos ⟨rfl, by omega⟩]
    · have h1 := has_flips_yes r _ hp2 hr x hx
      have h2 := hp1 x hx
      have h3 := inL_iff.1 (h x (by simp [hx]))
      rw [h1, has_flip, if_neg (fun q => by omega)]
theorem lead_back (L : List Bool) (k : Int) : turnL false (takeO L k) (takeL L k) = L ∧ turnE false (takeO L k) (takeL L k) = 0 ∧ turnL true (takeO L k) L = takeL L k ∧ turnE true (takeO L k) L = 0 := by
  have hp := takeO_rise L k
  have hi := takeO_in L k
  have h1 : turn true (takeO L k) L = some (takeL L k) := turn_all _ _ hp fun x hx => by
    unfold okL
    rw [(hi x hx).1, (hi x hx).2]
    rfl
  have h2 : turn false (takeO L k) (takeL L k) = some L := by
    have e := turn_all (so := false) (takeO L k) (takeL L k) hp fun x hx => by
      unfold okL takeL
      rw [has_flips_yes _ _ hp (fun y hy => (hi y hy).1) x hx, (hi x hx).2]
      have := (hi x hx).1
      unfold inL at this ⊢
      rw [flips_len, this]
      rfl
    rw [e]
    unfold takeL
    rw [flips_back]
  unfold turnL turnE
  rw [h1, h2]
  exact ⟨rfl, rfl, rfl, rfl⟩
theorem cnt_clear {f g : Nat → Bool} {n x : Nat} (hx : x < n) (h1 : f x = true) (h2 : g x = false) (h : ∀ y, y ≠ x → g y = f y) : cnt g 0 n + 1 = cnt f 0 n := by
  obtain ⟨d, rfl⟩ : ∃ d, n = x + (1 + d) := ⟨n - x - 1, by omega⟩
  rw [cnt_add, cnt_add f, Nat.zero_add, cnt_add g 1 x, cnt_add f 1 x, cnt_congr (f := g) (g := f) (n := x) (a := 0) (fun t ht => h _ (by omega)), cnt_congr (f := g) (g := f) (n := d) (a := x + 1) (fun t ht => h _ (by omega))]
  simp only [cnt]
  rw [h1, h2]
  simp
  omega
theorem free_flips : ∀ (l : List Int) (L : List Bool), l.Pairwise (· < ·) → (∀ x ∈ l, inL L x = true ∧ has L x.toNat = true) → free (flips L l) + l.length = free L
  | [], _, _, _ => rfl
  | x :: r, L, hp, h => by
    obtain ⟨hp1, hp2⟩ := List.pairwise_cons.1 hp
    obtain ⟨h1, h2⟩ := h x (by simp)
    have hx := inL_iff.1 h1
    have ih := free_flips r (FreP.flip L x) hp2 fun y hy => by
      obtain ⟨h3, h4⟩ := h y (by simp [hy])
      have h5 := hp1 y hy
      have h6 := inL_iff.1 h3
      refine ⟨by unfold inL at h3 ⊢; rwa [flip_len], ?_⟩
      rw [has_flip, if_neg (fun q => by omega)]
      exact h4
    have hc := cnt_clear (f := has L) (g := has (FreP.flip L x)) (n := L.length) (x := x.toNat) (by omega) h2 (by rw [has_flip, if_pos ⟨rfl, by omega⟩, h2]; rfl) (fun y hy => by rw [has_flip, if_neg (fun q => hy q.1.symm)])
    show free (flips (FreP.flip L x) r) + (r.length + 1) = free L
    have e : free (FreP.flip L x) = cnt (has (FreP.flip L x)) 0 L.length := by unfold free; rw [flip_len]
    have e2 : free L = cnt (has L) 0 L.length := rfl
    omega
theorem takeO_len {L : List Bool} {K : Nat} (h : K ≤ free L) : (takeO L (K : Int)).length = K := by
  unfold takeO
  rw [if_pos (by unfold canT; simp [h]), List.length_take, all_len]
  simp
  omega
theorem free_take {L : List Bool} {K : Nat} (h : K ≤ free L) : free (takeL L (K : Int)) = free L - K := by
  have := free_flips _ L (takeO_rise L (K : Int)) (takeO_in L (K : Int))
  rw [takeO_len h] at this
  unfold takeL
  omega
theorem take_gone {L : List Bool} {k x : Int} (h : x ∈ takeO L k) : has (takeL L k) x.toNat = false := by
  have h1 := takeO_in L k x h
  unfold takeL
  rw [has_flips_yes _ _ (takeO_rise L k) (fun y hy => (takeO_in L k y hy).1) x h, h1.2]
  rfl
/-- No lesser sector stays free. -/
theorem take_least {L : List Bool} {k x : Int} (h : x ∈ takeO L k) {y : Nat} (hy : (y : Int) < x) : has (takeL L k) y = false := by
  by_cases hm : (y : Int) ∈ takeO L k
  · exact take_gone hm
  · have hn : has (takeL L k) y = has L y := has_flips_not _ _ _ (fun z hz e => hm (by
      have h1 := inL_iff.1 (takeO_in L k z hz).1
      have : z = (y : Int) := by omega
      rwa [this] at hz))
    rw [hn]
    cases hb : has L y with
    | false => rfl
    | true =>
      exfalso
      have ha : (y : Int) ∈ all L := (mem_all L _).2 ⟨by omega, hb⟩
      have hr := frees_rise (has L) L.length 0
      unfold takeO at h hm
      split at h
      · rename_i hc
        rw [if_pos hc] at hm
        have e := List.take_append_drop k.toNat (all L)
        have hd : (y : Int) ∈ (all L).drop k.toNat := by
          rw [← e] at ha
          rcases List.mem_append.1 ha with q | q
          · exact absurd q hm
          · exact q
        have hp : ((all L).take k.toNat ++ (all L).drop k.toNat).Pairwise (· < ·) := by
          rw [e]
          exact hr
        have := (List.pairwise_append.1 hp).2.2 x h (y : Int) hd
        omega
      · cases h
theorem next_rise {l : List Int} (hp : l.Pairwise (· < ·)) {i : Nat} {x y : Int} (hx : l[i]? = some x) (hy : l[i + 1]? = some y) : x < y := by
  obtain ⟨h1, e1⟩ := List.getElem?_eq_some_iff.1 hx
  obtain ⟨h2, e2⟩ := List.getElem?_eq_some_iff.1 hy
  have := List.pairwise_iff_getElem.1 hp i (i + 1) h1 h2 (by omega)
  rw [e1, e2] at this
  exact this
end FreW
end Go.Proofs.YtbnkaeigabifhaaDoor
