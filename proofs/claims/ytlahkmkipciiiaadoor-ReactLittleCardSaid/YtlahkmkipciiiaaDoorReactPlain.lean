/-
  Deeds by kind, plainly: what each kind does, what is near behind a deed, how many more are movable; what follows of them.
-/
import Derived.Test.YtlahkmkipciiiaaDoorFlowPlain
import Derived.Test.YtlahkmkipciiiaaDoorFallPlain
import Derived.Test.YtlahkmkipciiiaaDoorBurnPlain
namespace Go.Proofs.YtlahkmkipciiiaaDoor
set_option linter.unusedVariables false
namespace ReactP
open NearW BurnP
/-- What is near, as the text on water has it. -/
def toF (n : Nr) : FlowP.Nr := ⟨n.s, n.sd, n.un, n.lt, n.dr⟩
/-- What falls: its changes. -/
def fallD (n : Nr) : List (Nat × Cl) := if FallP.falls n.s && FallP.yields (n.sd 5) then [(6, n.s), (0, (0, 0))] else []
def delay (k : Nat) : Int := if k = 4 ∨ k = 5 ∨ k = 8 then 1 else if k = 13 then 2 else if k = 14 then 3 else if k = 12 then 5 else 0
/-- P15.2: the draw is d. -/
def ndeed (n : Nr) (d : Nat) : Dd :=
  if kd n.s = 4 ∨ kd n.s = 5 ∨ kd n.s = 8 then ⟨fallD n, 0, 0⟩
  else if kd n.s = 13 then ⟨FlowP.deed (toF n), 0, 0⟩
  else if kd n.s = 14 then fire n d
  else if kd n.s = 12 then plant n d
  else ⟨[], 0, 0⟩
/-- P15.3: one change, all of them. -/
def put (n : Nr) (x : Int × Cl) : Nr := if x.1 = 0 then {n with s := x.2} else if 1 ≤ x.1 ∧ x.1 ≤ 6 then {n with sd := upd n.sd (x.1 - 1).toNat x.2} else n
def behind (n : Nr) (l : List (Int × Cl)) : Nr := l.foldl put n
def one (c : Cl) : Int := mv (kd c)
def cnt6 (f : Nat → Cl) : Int := one (f 0) + one (f 1) + one (f 2) + one (f 3) + one (f 4) + one (f 5)
def cnt (n : Nr) : Int := one n.s + cnt6 n.sd
def delta (n : Nr) (l : List (Int × Cl)) : Int := cnt (behind n l) - cnt n
/-- A deed's changes, where they are by whole numbers. -/
def zl (l : List (Nat × Cl)) : List (Int × Cl) := l.map fun x => ((x.1 : Int), x.2)
theorem kd_eq (c : Cl) : FallP.kd c = kd c := rfl
theorem kd_may {c : Cl} (h : KindP.may c.1 c.2 = true) : kd c = c.1 := by
  unfold kd
  rw [if_pos h]
theorem one_le (c : Cl) : 0 ≤ one c ∧ one c ≤ 1 := mv_le _
theorem cnt6_upd (f : Nat → Cl) {i : Nat} (hi : i < 6) (c : Cl) : cnt6 (upd f i c) = cnt6 f + (one c - one (f i)) := by
  match i, hi with
  | 0, _ => simp [cnt6, upd]; omega
  | 1, _ => simp [cnt6, upd]; omega
  | 2, _ => simp [cnt6, upd]; omega
  | 3, _ => simp [cnt6, upd]; omega
  | 4, _ => simp [cnt6, upd]; omega
  | 5, _ => simp [cnt6, upd]; omega
theorem put_at (n : Nr) {d : Nat} (hd : d ≤ 6) (c : Cl) : put n ((d : Int), c) = if d = 0 then {n with s := c} else {n with sd := upd n.sd (d - 1) c} := by
  unfold put
  by_cases h : d = 0
  · subst h
    rfl
  · have e : ((d : Int) - 1).toNat = d - 1 := by omega
    rw [if_neg (show ¬ (d : Int) = 0 by omega), if_pos (show 1 ≤ (d : Int) ∧ (d : Int) ≤ 6 by omega), if_neg h, e]
theorem put_cnt (n : Nr) {d : Nat} (hd : d ≤ 6) (c : Cl) : cnt (put n ((d : Int), c)) = cnt n + (one c - one (was n d)) := by
  rw [put_at n hd c]
  by_cases h : d = 0
  · subst h
    simp only [if_true, cnt, was, show ¬ (1 ≤ 0 ∧ 0 ≤ 6) by omega, if_false]
    omega
  · rw [if_neg h]
    have hw : was n d = n.sd (d - 1) := by
      unfold was
      rw [if_pos (by omega)]
    simp only [cnt]
    rw [cnt6_upd n.sd (by omega) c, hw]
    omega
theorem put_was (n : Nr) {d e : Nat} (hd : d ≤ 6) (he : e ≤ 6) (hne : e ≠ d) (c : Cl) : was (put n ((d : Int), c)) e = was n e := by
  rw [put_at n hd c]
  unfold was
  by_cases h : d = 0
  · subst h
    rw [if_pos rfl, if_pos (by omega), if_pos (by omega)]
  · rw [if_neg h]
    by_cases h2 : 1 ≤ e ∧ e ≤ 6
    · rw [if_pos h2, if_pos h2]
      simp only [upd]
      rw [if_neg (by omega)]
    · rw [if_neg h2, if_neg h2]
/-- By how many more, told change by change. -/
def sums (n : Nr) : List (Nat × Cl) → Int
  | [] => 0
  | x :: r => (one x.2 - one (was n x.1)) + sums n r
theorem sums_put (n : Nr) {d : Nat} (hd : d ≤ 6) (c : Cl) : ∀ {l : List (Nat × Cl)}, (∀ x ∈ l, x.1 ≤ 6 ∧ x.1 ≠ d) → sums (put n ((d : Int), c)) l = sums n l
  | [], _ => rfl
  | x :: r, h => by
    have h1 := h x (by simp)
    simp only [sums]
    rw [put_was n hd h1.1 h1.2 c, sums_put n hd c (fun y hy => h y (by simp [hy]))]
theorem delta_sums (n : Nr) : ∀ {l : List (Nat × Cl)}, l.Pairwise (fun a b => a.1 ≠ b.1) → (∀ x ∈ l, x.1 ≤ 6) → delta n (zl l) = sums n l
  | [], _, _ => by simp [delta, behind, zl, sums]
  | x :: r, hp, h => by
    obtain ⟨h1, h2⟩ := List.pairwise_cons.1 hp
    have hx := h x (by simp)
    have ih := delta_sums (put n ((x.1 : Int), x.2)) h2 (fun y hy => h y (by simp [hy]))
    rw [sums_put n hx x.2 (fun y hy => ⟨h y (by simp [hy]), fun e => h1 y hy e.symm⟩)] at ih
    have hc := put_cnt n hx x.2
    have e : behind n (zl (x :: r)) = behind (put n ((x.1 : Int), x.2)) (zl r) := rfl
    simp only [delta] at ih ⊢
    rw [e]
    simp only [sums]
    omega
theorem one_yields {c : Cl} (h : FallP.yields c = true) : one c = 0 := by
  have h' : KindP.yields (kd c) = true := h
  have hin : kd c = 0 ∨ kd c = 11 ∨ kd c = 12 ∨ kd c = 13 ∨ kd c = 14 := by simpa [KindP.yields, KindP.inL] using h'
  unfold one
  rcases hin with e | e | e | e | e <;> rw [e] <;> decide
/-- What water changes: to water or Air, of itself or of what soaks. -/
theorem flow_facts {n : Nr} {x : Nat × Cl} (h : x ∈ FlowP.deed (toF n)) : kd n.s = 13 ∧ x.1 ≤ 6 ∧ KindP.may x.2.1 x.2.2 = true ∧ (x.2.1 = 13 ∨ x.2.1 = 0) ∧ (x.1 = 0 ∨ KindP.soaks (kd (was n x.1)) = true) := by
  have hw := FlowP.want_le (FlowP.snd (toF n))
  have may : ∀ q, q ≤ 7 → KindP.may 13 q = true := fun q hq => by
    simp [KindP.may, KindP.most, KindP.mosts, KindP.least, KindP.leasts]
    exact hq
  have soak : ∀ d, d < 6 → FlowP.soak ((FlowP.snd (toF n)).sd d) = true → KindP.soaks (kd (was n (d + 1))) = true := fun d hd hs => by
    have e : was n (d + 1) = n.sd d := by
      unfold was
      rw [if_pos (by omega), Nat.add_sub_cancel]
    rw [e, ← sure_kd]
    exact hs
  obtain ⟨h1, h2⟩ := FlowP.deed_mem h
  obtain ⟨h3, h4, h5⟩ := FlowP.wet_lev h1
  have hk : kd n.s = 13 := by
    have hm : KindP.may n.s.1 n.s.2 = true := by
      have := FlowP.sure_may n.s
      rw [show FlowP.sure n.s = n.s from h4] at this
      exact this
    rw [kd_may hm]
    exact h5
  refine ⟨hk, ?_⟩
  rcases h2 with ⟨a1, a2, a3, rfl⟩ | ⟨a1, a2, a3, a4, rfl⟩ | ⟨a1, a2, rfl⟩ | ⟨a1, a2, a3, a4, d, hd, rfl, a5⟩
  · exact ⟨by simp, by decide, .inr rfl, .inl rfl⟩
  · exact ⟨by simp, may _ hw, .inl rfl, .inl rfl⟩
  · exact ⟨by simp, by decide, .inl rfl, .inr (soak 5 (by omega) a1)⟩
  · refine ⟨by simp only; omega, may _ (show (FlowP.snd (toF n)).s.2 + 1 ≤ 7 by omega), .inl rfl, .inr ?_⟩
    show KindP.soaks (kd (was n (1 + d))) = true
    rw [Nat.add_comm]
    exact soak d (by omega) a5
theorem flow_apart (n : Nr) : (FlowP.deed (toF n)).Pairwise (fun a b => a.1 ≠ b.1) := (FlowP.deed_up _).imp (fun h => by omega)
theorem soaks_in {k : Nat} (h : KindP.soaks k = true) : k = 0 ∨ k = 11 ∨ k = 12 ∨ k = 14 := by
  simpa [KindP.soaks, KindP.inL] using h
theorem one_soaks {c : Cl} (h : KindP.soaks (kd c) = true) : one c = 0 := by
  unfold one
  rcases soaks_in h with e | e | e | e <;> rw [e] <;> decide
theorem one_kind {c : Cl} (hm : KindP.may c.1 c.2 = true) (h : c.1 = 13 ∨ c.1 = 0) : one c = 0 := by
  unfold one
  rw [kd_may hm]
  rcases h with e | e <;> rw [e] <;> decide
theorem sums_zero (n : Nr) : ∀ {l : List (Nat × Cl)}, (∀ x ∈ l, one x.2 = 0 ∧ one (was n x.1) = 0) → sums n l = 0
  | [], _ => rfl
  | x :: r, h => by
    have h1 := h x (by simp)
    simp only [sums]
    rw [sums_zero n (fun y hy => h y (by simp [hy])), h1.1, h1.2]
    rfl
theorem was0 (n : Nr) : was n 0 = n.s := rfl
theorem sums_one (n : Nr) (x : Nat × Cl) : sums n [x] = one x.2 - one (was n x.1) := by simp [sums]
theorem one_may {c : Cl} (h : KindP.may c.1 c.2 = true) : one c = mv c.1 := by
  unfold one
  rw [kd_may h]
/-- Cells that nobody changes. -/
def hard (k : Nat) : Prop := k = 1 ∨ k = 2 ∨ k = 3 ∨ k = 9 ∨ k = 10
/-- What all deeds have in common: few changes, each once, of the cell or a side that may be, to cells that may be. -/
def Fine (n : Nr) (l : List (Nat × Cl)) : Prop := l.length ≤ 4 ∧ l.Pairwise (fun a b => a.1 ≠ b.1) ∧ ∀ x ∈ l, x.1 ≤ 6 ∧ KindP.may x.2.1 x.2.2 = true ∧ KindP.may (was n x.1).1 (was n x.1).2 = true ∧ ¬ hard (was n x.1).1
theorem fine_nil (n : Nr) : Fine n [] := ⟨by simp, List.Pairwise.nil, fun x h => by cases h⟩
theorem fine_one {n : Nr} {x : Nat × Cl} (h1 : x.1 ≤ 6) (h2 : KindP.may x.2.1 x.2.2 = true) (h3 : kd (was n x.1) ≠ 1) (h4 : ¬ hard (kd (was n x.1))) : Fine n [x] := by
  refine ⟨by simp, by simp, fun y hy => ?_⟩
  obtain rfl : y = x := by simpa using hy
  exact ⟨h1, h2, may_of h3, by rw [kd_of h3]; exact h4⟩
theorem fire_fine (n : Nr) (d : Nat) (h : kd n.s = 14) : Fine n (fire n d).l := by
  have ho : Fine n (over1 n).l := fine_one (by simp) (by unfold left; split <;> decide) (by rw [was0, h]; decide) (by rw [was0, h]; unfold hard; omega)
  unfold fire
  rw [if_pos h]
  split
  · exact ho
  · split
    · rename_i hf
      have hd : d % 6 < 6 := Nat.mod_lt _ (by omega)
      have hb : KindP.burns (kd (n.sd (d % 6))) = true := hf
      have hw : was n (d % 6 + 1) = n.sd (d % 6) := by
        unfold was
        rw [if_pos (by omega), Nat.add_sub_cancel]
      refine fine_one (by simp; omega) (by simp only [flame]; split <;> decide) ?_ ?_
      · rw [hw]
        rcases burns_in hb with e | e | e <;> omega
      · rw [hw]
        unfold hard
        rcases burns_in hb with e | e | e <;> omega
    · split
      · exact fine_nil n
      · exact ho
theorem plant_fine (n : Nr) (d : Nat) (h : kd n.s = 12) : Fine n (plant n d).l := by
  have hs : ∀ c : Cl, KindP.may c.1 c.2 = true → Fine n [(0, c)] := fun c hc => fine_one (by simp) hc (by rw [was0, h]; decide) (by rw [was0, h]; unfold hard; omega)
  unfold plant
  rw [if_pos h]
  split
  · split
    · exact fine_nil n
    · split
      · rename_i hl
        refine hs _ ?_
        have : ∀ l, l < 3 → KindP.may 12 (l + 1) = true := by decide
        exact this _ hl
      · exact hs _ (by decide)
  · exact hs _ (by decide)
theorem fall_fine (n : Nr) (h : kd n.s = 4 ∨ kd n.s = 5 ∨ kd n.s = 8) : Fine n (fallD n) := by
  unfold fallD
  split
  · rename_i hq
    simp only [Bool.and_eq_true] at hq
    have hy : KindP.yields (kd (n.sd 5)) = true := hq.2
    have hin : kd (n.sd 5) = 0 ∨ kd (n.sd 5) = 11 ∨ kd (n.sd 5) = 12 ∨ kd (n.sd 5) = 13 ∨ kd (n.sd 5) = 14 := by simpa [KindP.yields, KindP.inL] using hy
    have hw : was n 6 = n.sd 5 := rfl
    refine ⟨by simp, by simp, fun x hx => ?_⟩
    simp only [List.mem_cons, List.not_mem_nil, or_false] at hx
    rcases hx with rfl | rfl
    · refine ⟨by simp, may_of (c := n.s) (by omega), ?_⟩
      show KindP.may (was n 6).1 (was n 6).2 = true ∧ ¬ hard (was n 6).1
      rw [hw]
      refine ⟨may_of (by omega), ?_⟩
      rw [kd_of (c := n.sd 5) (by omega)]
      unfold hard
      omega
    · refine ⟨by simp, by decide, ?_⟩
      show KindP.may (was n 0).1 (was n 0).2 = true ∧ ¬ hard (was n 0).1
      rw [was0]
      refine ⟨may_of (by omega), ?_⟩
      rw [kd_of (c := n.s) (by omega)]
      unfold hard
      omega
  · exact fine_nil n
theorem flow_fine (n : Nr) : Fine n (FlowP.deed (toF n)) := by
  refine ⟨FlowP.deed_len _, flow_apart n, fun x hx => ?_⟩
  obtain ⟨h1, h2, h3, _, h5⟩ := flow_facts hx
  refine ⟨h2, h3, ?_⟩
  have hk : kd (was n x.1) = 13 ∨ KindP.soaks (kd (was n x.1)) = true := by
    rcases h5 with h5 | h5
    · left
      rw [h5, was0, h1]
    · exact .inr h5
  have hin : kd (was n x.1) = 13 ∨ kd (was n x.1) = 0 ∨ kd (was n x.1) = 11 ∨ kd (was n x.1) = 12 ∨ kd (was n x.1) = 14 := by
    rcases hk with h | h
    · exact .inl h
    · exact .inr (soaks_in h)
  refine ⟨may_of (by omega), ?_⟩
  rw [kd_of (c := was n x.1) (by omega)]
  unfold hard
  omega
/-- P15.5: few changes. -/
theorem deed_fine (n : Nr) (d : Nat) : Fine n (ndeed n d).l := by
  unfold ndeed
  split
  · rename_i h
    exact fall_fine n h
  · split
    · exact flow_fine n
    · split
      · rename_i h
        exact fire_fine n d h
      · split
        · rename_i h
          exact plant_fine n d h
        · exact fine_nil n
/-- P15.4: what a deed says is so. -/
theorem deed_counts (n : Nr) (d : Nat) : delta n (zl (ndeed n d).l) = (ndeed n d).dl := by
  obtain ⟨hl, hp, hx⟩ := deed_fine n d
  rw [delta_sums n hp (fun x h => (hx x h).1)]
  have more_sums : ∀ l : List (Nat × Cl), (∀ x ∈ l, KindP.may x.2.1 x.2.2 = true ∧ KindP.may (was n x.1).1 (was n x.1).2 = true) → sums n l = more n l := by
    intro l
    induction l with
    | nil => intro _; rfl
    | cons x r ih =>
      intro h
      have h1 := h x (by simp)
      simp only [sums, more]
      rw [ih (fun y hy => h y (by simp [hy])), one_may h1.1, one_may h1.2]
      omega
  rw [more_sums _ (fun x h => ⟨(hx x h).2.1, (hx x h).2.2.1⟩)]
  unfold ndeed at hx ⊢
  split
  · rename_i h
    rw [if_pos h] at hx
    rw [← more_sums _ (fun x h => ⟨(hx x h).2.1, (hx x h).2.2.1⟩)]
    simp only [fallD]
    split
    · rename_i hq
      simp only [Bool.and_eq_true] at hq
      simp only [sums, was0, show was n 6 = n.sd 5 from rfl]
      rw [one_yields hq.2]
      have : one (0, 0) = 0 := by decide
      omega
    · rfl
  · rename_i h
    rw [if_neg h] at hx
    split
    · rename_i h13
      rw [if_pos h13] at hx
      rw [← more_sums _ (fun x h => ⟨(hx x h).2.1, (hx x h).2.2.1⟩)]
      refine sums_zero n (fun x h => ?_)
      obtain ⟨h1, h2, h3, h4, h5⟩ := flow_facts h
      refine ⟨one_kind h3 h4, ?_⟩
      rcases h5 with h5 | h5
      · rw [h5, was0]
        unfold one
        rw [h1]
        decide
      · exact one_soaks h5
    · split
      · exact fire_more n d
      · split
        · exact plant_more n d
        · rfl
/-- P15.5: when again. -/
theorem deed_again (n : Nr) (d : Nat) : (ndeed n d).ag = 0 ∨ (ndeed n d).ag = delay n.s.1 := by
  unfold ndeed
  split
  · exact .inl rfl
  · split
    · exact .inl rfl
    · split
      · rename_i h
        have hk := (kd_lev14 h).1
        have hd : delay n.s.1 = 3 := by rw [hk]; decide
        rw [hd]
        unfold fire
        rw [if_pos h]
        split
        · exact .inl rfl
        · split
          · exact .inr rfl
          · split
            · exact .inr rfl
            · exact .inl rfl
      · split
        · rename_i h
          have hk := (kd_lev12 h).1
          have hd : delay n.s.1 = 5 := by rw [hk]; decide
          rw [hd]
          unfold plant
          rw [if_pos h]
          split
          · split
            · exact .inr rfl
            · split
              · exact .inl rfl
              · exact .inl rfl
          · exact .inl rfl
        · exact .inl rfl
theorem deed_idle (n : Nr) (d : Nat) (h : delay n.s.1 = 0) : ndeed n d = ⟨[], 0, 0⟩ := by
  have key : ∀ k, kd n.s = k → k ≠ 1 → delay k = 0 := fun k hk h1 => by
    rw [← kd_of (c := n.s) (by omega)] at hk
    rw [← hk]
    exact h
  unfold ndeed
  have no : ∀ k, delay k ≠ 0 → k ≠ 1 → kd n.s ≠ k := fun k hd h1 e => hd (key k e h1)
  rw [if_neg (by
    have a := no 4 (by decide) (by decide)
    have b := no 5 (by decide) (by decide)
    have c := no 8 (by decide) (by decide)
    omega), if_neg (no 13 (by decide) (by decide)), if_neg (no 14 (by decide) (by decide)), if_neg (no 12 (by decide) (by decide))]
/-- P15.5: what counts for whom. -/
theorem deed_blind {n m : Nr} {d e : Nat} (hs : m.s = n.s) (hsd : m.sd = n.sd) (hlt : n.s.1 = 12 → m.lt = n.lt) (hd : n.s.1 = 12 ∨ n.s.1 = 14 → e = d) (hu : n.s.1 = 13 → m.un = n.un) : ndeed m e = ndeed n d := by
  unfold ndeed
  rw [hs]
  split
  · unfold fallD
    rw [hs, hsd]
  · split
    · rename_i h
      have hk : n.s.1 = 13 := by rw [kd_of (c := n.s) (by omega), h]
      have hq : FlowP.deed (toF m) = FlowP.deed (toF n) := FlowP.deed_congr (show FlowP.sure m.s = FlowP.sure n.s by rw [hs]) (show (fun i => FlowP.sure (m.sd i)) = fun i => FlowP.sure (n.sd i) by rw [hsd]) (show (fun i => FlowP.sure (m.un i)) = fun i => FlowP.sure (n.un i) by rw [hu hk])
      rw [hq]
    · split
      · rename_i h
        have hk := (kd_lev14 h).1
        rw [hd (.inr hk)]
        unfold fire over1 burn1 wet fuel
        rw [hs, hsd]
      · split
        · rename_i h
          have hk := (kd_lev12 h).1
          rw [hd (.inl hk)]
          unfold plant
          rw [hs, hsd, hlt hk]
        · rfl
end ReactP
end Go.Proofs.YtlahkmkipciiiaaDoor
