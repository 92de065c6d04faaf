/-
  Plain mathematics of layer 6: a chunk's palette, its bytes, and a chunk that is read.
-/
import Derived.Test.YtlhanbjendbhfaaRunsPlain
import Derived.Test.YtlhanbjendbhfaaKindPlain
namespace Go.Proofs.Ytlhanbjendbhfaa
open Go.Lib (uvarint uvarint_small uvarint_big uvarint_length64 uvarint_pos zigzag)
set_option linter.unusedVariables false
set_option linter.unusedSimpArgs false
namespace PackW
open BytesW RunsW

abbrev Cell := UInt8 × UInt8
abbrev Tick := Int × Int
/-- A chunk: its cells (kind, level), its lights (sky, lamp), its ticks (at, due). -/
structure Ck where
  cs : List Cell
  ls : List Cell
  ts : List Tick

def mayC (c : Cell) : Bool := KindP.may c.1.toNat c.2.toNat
def mayL (l : Cell) : Bool := decide (l.1.toNat ≤ 15) && decide (l.2.toNat ≤ 15)
def mayT (n : Int) : List Tick → Bool
  | [] => true
  | t :: r => decide (n ≤ t.1) && decide (t.1 < 4096) && decide (1 ≤ t.2) && decide (t.2 ≤ 2199023255552) && mayT (t.1 + 1) r
def can (k : Ck) : Bool := k.cs.all mayC && k.ls.all mayL && mayT 0 k.ts
/-- The palette so far, and what the cells behind add to it. -/
def pal (p : List Cell) : List Cell → List Cell
  | [] => p
  | c :: r => pal (if c ∈ p then p else p ++ [c]) r
def places (l : List Cell) : List UInt8 := l.map fun c => ((pal [] l).idxOf c).toUInt8
def flat (p : List Cell) : List UInt8 := p.flatMap fun c => [c.1, c.2]
def palB (p : List Cell) : List UInt8 := p.length.toUInt8 :: flat p
def lnum (l : Cell) : UInt8 := 16 * l.1 + l.2
def tkB (n : Int) : List Tick → List UInt8
  | [] => []
  | t :: r => uvarint (t.1 - n).toNat ++ uvarint t.2.toNat ++ tkB (t.1 + 1) r
def tksB (l : List Tick) : List UInt8 := uvarint l.length ++ tkB 0 l
def putC (k : Ck) : List UInt8 := palB (pal [] k.cs) ++ putR (places k.cs) ++ putR (k.ls.map lnum) ++ tksB k.ts

/-! ### The palette -/
theorem pal_ext : ∀ (l p : List Cell), ∃ q, pal p l = p ++ q
  | [], p => ⟨[], by simp [pal]⟩
  | c :: r, p => by
    unfold pal
    obtain ⟨q, hq⟩ := pal_ext r (if c ∈ p then p else p ++ [c])
    rw [hq]
    split
    · exact ⟨q, rfl⟩
    · exact ⟨c :: q, by simp⟩
theorem pal_nodup : ∀ (l p : List Cell), p.Nodup → (pal p l).Nodup
  | [], p, h => h
  | c :: r, p, h => by
    unfold pal
    apply pal_nodup
    split
    · exact h
    · rename_i hc
      rw [List.nodup_append]
      refine ⟨h, by simp, fun a ha b hb => ?_⟩
      rw [List.mem_singleton] at hb
      subst hb
      exact fun e => hc (e ▸ ha)
theorem pal_mem : ∀ (l p : List Cell) (x : Cell), x ∈ pal p l ↔ x ∈ p ∨ x ∈ l
  | [], p, x => by simp [pal]
  | c :: r, p, x => by
    unfold pal
    rw [pal_mem r]
    split
    · rename_i hc
      constructor
      · rintro (h | h)
        · exact .inl h
        · exact .inr (by simp [h])
      · rintro (h | h)
        · exact .inl h
        · rcases List.mem_cons.1 h with rfl | h
          · exact .inl hc
          · exact .inr h
    · simp only [List.mem_append, List.mem_cons, List.mem_singleton, List.not_mem_nil, or_false]
      constructor
      · rintro ((h | h) | h)
        · exact .inl h
        · exact .inr (.inl h)
        · exact .inr (.inr h)
      · rintro (h | h | h)
        · exact .inl (.inl h)
        · exact .inl (.inr h)
        · exact .inr h
theorem pal_snoc : ∀ (l p : List Cell) (c : Cell), pal p (l ++ [c]) = if c ∈ pal p l then pal p l else pal p l ++ [c]
  | [], p, c => rfl
  | x :: r, p, c => by
    rw [List.cons_append, pal, pal_snoc r]
    rfl
theorem idx_app {p q : List Cell} {c : Cell} (h : c ∈ p) : (p ++ q).idxOf c = p.idxOf c := by
  rw [List.idxOf_append, if_pos h]
theorem idx_at : ∀ {p : List Cell} (hp : p.Nodup) {i : Nat} (h : i < p.length), p.idxOf p[i] = i
  | [], _, i, h => by simp at h
  | x :: r, hp, 0, h => by simp
  | x :: r, hp, i + 1, h => by
    obtain ⟨h1, h2⟩ := List.nodup_cons.1 hp
    have hi : i < r.length := by simpa using h
    have hne : (x == r[i]) = false := by
      simp only [beq_eq_false_iff_ne]
      intro e
      exact h1 (e ▸ List.getElem_mem hi)
    rw [List.getElem_cons_succ, List.idxOf_cons, hne, cond_false, idx_at h2 hi]
theorem idx_of {p : List Cell} {c : Cell} (h : c ∈ p) : p[p.idxOf c]? = some c := by
  have h1 := List.idxOf_lt_length_of_mem h
  rw [List.getElem?_eq_getElem h1, List.getElem_idxOf h1]

/-- All cells that may be. -/
def mays : List Cell := ((List.range 15).flatMap fun k => (List.range 16).map fun l => ((k.toUInt8, l.toUInt8) : Cell)).filter mayC
theorem mays_len : mays.length = 40 := by decide +kernel
theorem may_bounds : ∀ k, k < 15 → KindP.most k ≤ 15 := by decide
theorem may_mem {c : Cell} (h : mayC c = true) : c ∈ mays := by
  have h0 := h
  unfold mayC KindP.may at h
  simp only [Bool.and_eq_true, decide_eq_true_eq] at h
  obtain ⟨⟨h1, h2⟩, h3⟩ := h
  have h4 := may_bounds _ h1
  refine List.mem_filter.2 ⟨List.mem_flatMap.2 ⟨c.1.toNat, by simpa using h1, List.mem_map.2 ⟨c.2.toNat, by simp; omega, ?_⟩⟩, h0⟩
  simp
theorem nodup_len : ∀ {l m : List Cell}, l.Nodup → (∀ x ∈ l, x ∈ m) → l.length ≤ m.length
  | [], _, _, _ => by simp
  | x :: r, m, hn, h => by
    obtain ⟨h1, h2⟩ := List.nodup_cons.1 hn
    have hx : x ∈ m := h x (by simp)
    have := nodup_len (l := r) (m := m.erase x) h2 (fun y hy => (List.mem_erase_of_ne (fun e : y = x => h1 (e ▸ hy))).2 (h y (by simp [hy])))
    rw [List.length_erase_of_mem hx] at this
    have hp : 0 < m.length := List.length_pos_of_mem hx
    simp only [List.length_cons]
    omega
theorem pal_may {l : List Cell} (h : l.all mayC = true) : ∀ x ∈ pal [] l, mayC x = true := fun x hx => by
  rcases (pal_mem l [] x).1 hx with h1 | h1
  · simp at h1
  · exact List.all_eq_true.1 h x h1
theorem pal_le {l : List Cell} (h : l.all mayC = true) : (pal [] l).length ≤ 40 := by
  rw [← mays_len]
  exact nodup_len (pal_nodup l [] (by simp)) (fun x hx => may_mem (pal_may h x hx))
theorem pal_pos {l : List Cell} (h : l ≠ []) : 1 ≤ (pal [] l).length := by
  obtain ⟨x, hx⟩ := List.exists_mem_of_ne_nil l h
  exact List.length_pos_of_mem ((pal_mem l [] x).2 (.inr hx))
theorem flat_len (p : List Cell) : (flat p).length = 2 * p.length := by
  induction p with
  | nil => rfl
  | cons c r ih =>
    rw [flat, List.flatMap_cons, List.length_append, ← flat, ih]
    simp
    omega
theorem flat_cons (c : Cell) (r : List Cell) : flat (c :: r) = c.1 :: c.2 :: flat r := rfl
theorem flat_app (p q : List Cell) : flat (p ++ q) = flat p ++ flat q := by simp [flat]

/-! ### Ticks -/
theorem mayT_at : ∀ (l : List Tick) (n : Int), mayT n l = true → ∀ t ∈ l, n ≤ t.1 ∧ t.1 < 4096 ∧ 1 ≤ t.2 ∧ t.2 ≤ 2199023255552
  | [], _, _, t, ht => by simp at ht
  | x :: r, n, h, t, ht => by
    simp only [mayT, Bool.and_eq_true, decide_eq_true_eq] at h
    obtain ⟨⟨⟨⟨h1, h2⟩, h3⟩, h4⟩, h5⟩ := h
    rcases List.mem_cons.1 ht with rfl | ht
    · exact ⟨h1, h2, h3, h4⟩
    · have := mayT_at r _ h5 t ht
      omega
theorem mayT_len : ∀ (l : List Tick) (n : Int), n ≤ 4096 → mayT n l = true → (l.length : Int) ≤ 4096 - n
  | [], n, hn, _ => by simp; omega
  | x :: r, n, hn, h => by
    simp only [mayT, Bool.and_eq_true, decide_eq_true_eq] at h
    obtain ⟨⟨⟨⟨h1, h2⟩, h3⟩, h4⟩, h5⟩ := h
    have := mayT_len r _ (by omega) h5
    simp only [List.length_cons, Int.natCast_add, Int.cast_ofNat_Int]
    omega
theorem uv_le2 {m : Nat} (h : m < 16384) : (uvarint m).length ≤ 2 := by
  rcases Nat.lt_or_ge m 128 with h1 | h1
  · rw [uvarint_small h1]; simp
  · rw [uvarint_big h1, List.length_cons, uvarint_small (by omega)]; simp
theorem uv_le6 {m : Nat} (h : m < 4398046511104) : (uvarint m).length ≤ 6 := by
  have step : ∀ m k, (m < 128 → 1 ≤ k) → (128 ≤ m → (uvarint (m / 128)).length + 1 ≤ k) → (uvarint m).length ≤ k := fun m k h1 h2 => by
    rcases Nat.lt_or_ge m 128 with h3 | h3
    · rw [uvarint_small h3]; simpa using h1 h3
    · rw [uvarint_big h3, List.length_cons]; exact h2 h3
  refine step _ _ (by omega) fun _ => Nat.succ_le_succ (step _ _ (by omega) fun _ => Nat.succ_le_succ (step _ _ (by omega) fun _ => Nat.succ_le_succ (step _ _ (by omega) fun _ => Nat.succ_le_succ (uv_le2 (by omega)))))
theorem tkB_len : ∀ (l : List Tick) (n : Int), 0 ≤ n → mayT n l = true → (tkB n l).length ≤ 8 * l.length
  | [], _, _, _ => by simp [tkB]
  | x :: r, n, hn, h => by
    simp only [mayT, Bool.and_eq_true, decide_eq_true_eq] at h
    obtain ⟨⟨⟨⟨h1, h2⟩, h3⟩, h4⟩, h5⟩ := h
    have := tkB_len r _ (by omega) h5
    have a := uv_le2 (m := (x.1 - n).toNat) (by omega)
    have b := uv_le6 (m := x.2.toNat) (by omega)
    simp only [tkB, List.length_append, List.length_cons]
    omega
/-- How long a chunk's bytes are. -/
theorem putC_len {k : Ck} (h : can k = true) (hc : k.cs.length = 4096) (hl : k.ls.length = 4096) : (putC k).length ≤ 65536 := by
  simp only [can, Bool.and_eq_true] at h
  obtain ⟨⟨h1, h2⟩, h3⟩ := h
  have a := pal_le h1
  have b := putR_len (places k.cs)
  have c := putR_len (k.ls.map lnum)
  have d := mayT_len k.ts 0 (by omega) h3
  have e := tkB_len k.ts 0 (by omega) h3
  have f := uv_le2 (m := k.ts.length) (by omega)
  have g := flat_len (pal [] k.cs)
  simp only [places, List.length_map] at b c
  simp only [putC, palB, tksB, places, List.length_append, List.length_cons]
  omega
end PackW
end Go.Proofs.Ytlhanbjendbhfaa


/-
  Plain mathematics of layer 6: a chunk that is read, by the program and by the reference: both are the one way back.
-/
namespace Go.Proofs.Ytlhanbjendbhfaa
open Go.Lib (uvarint uvarint_small uvarint_big uvarint_length64 uvarint_pos zigzag)
set_option linter.unusedVariables false
set_option linter.unusedSimpArgs false
namespace PackW
open BytesW RunsW

/-! ### The palette, read -/
/-- n cells behind the palette p so far. -/
def getPal : Nat → List Cell → List UInt8 → Option (List Cell × List UInt8)
  | 0, p, s => some (p, s)
  | n + 1, p, a :: b :: r => if mayC (a, b) = true ∧ (a, b) ∉ p then getPal n (p ++ [(a, b)]) r else none
  | _ + 1, _, _ => none
def cutPal : List UInt8 → Option (List Cell × List UInt8)
  | [] => none
  | n :: r => if r.length < n.toNat * 2 then none else getPal n.toNat [] r
theorem getPal_sound : ∀ (n : Nat) (p : List Cell) (s : List UInt8) (P : List Cell) (t : List UInt8), p.Nodup → p.all mayC = true → getPal n p s = some (P, t) → ∃ q, P = p ++ q ∧ q.length = n ∧ s = flat q ++ t ∧ P.Nodup ∧ P.all mayC = true
  | 0, p, s, P, t, hn, hm, h => by
    simp only [getPal, Option.some.injEq, Prod.mk.injEq] at h
    obtain ⟨rfl, rfl⟩ := h
    exact ⟨[], by simp, rfl, rfl, hn, hm⟩
  | n + 1, p, a :: b :: r, P, t, hn, hm, h => by
    rw [getPal] at h
    split at h
    · rename_i hc
      obtain ⟨q, h1, h2, h3, h4, h5⟩ := getPal_sound n (p ++ [(a, b)]) r P t (by
        rw [List.nodup_append]
        refine ⟨hn, by simp, fun x hx y hy => ?_⟩
        rw [List.mem_singleton] at hy
        subst hy
        exact fun e => hc.2 (e ▸ hx)) (by rw [List.all_append, hm]; simp [hc.1]) h
      exact ⟨(a, b) :: q, by rw [h1]; simp, by simp [h2], by rw [h3]; rfl, h4, h5⟩
    · cases h
  | n + 1, p, [], P, t, hn, hm, h => by simp [getPal] at h
  | n + 1, p, [a], P, t, hn, hm, h => by simp [getPal] at h
theorem getPal_full : ∀ (q p : List Cell) (t : List UInt8), (p ++ q).Nodup → q.all mayC = true → getPal q.length p (flat q ++ t) = some (p ++ q, t)
  | [], p, t, hn, hm => by simp [getPal, flat]
  | (a, b) :: q, p, t, hn, hm => by
    simp only [List.all_cons, Bool.and_eq_true] at hm
    have hc : (a, b) ∉ p := fun hx => by
      rw [List.nodup_append] at hn
      exact hn.2.2 _ hx (a, b) (by simp) rfl
    rw [flat_cons, List.length_cons, List.cons_append, List.cons_append, getPal, if_pos ⟨hm.1, hc⟩, getPal_full q _ t (by simpa using hn) hm.2]
    simp
theorem cutPal_sound {b : List UInt8} {P : List Cell} {t : List UInt8} (h : cutPal b = some (P, t)) : P.Nodup ∧ P.all mayC = true ∧ b = palB P ++ t := by
  match b, h with
  | n :: r, h =>
    rw [cutPal] at h
    split at h
    · cases h
    · obtain ⟨q, h1, h2, h3, h4, h5⟩ := getPal_sound _ _ _ _ _ (by simp) (by simp) h
      rw [List.nil_append] at h1
      subst h1
      refine ⟨h4, h5, ?_⟩
      rw [palB, h2, h3]
      simp
theorem cutPal_full {P : List Cell} {t : List UInt8} (h1 : P.Nodup) (h2 : P.all mayC = true) (hl : P.length < 256) : cutPal (palB P ++ t) = some (P, t) := by
  have e : P.length.toUInt8.toNat = P.length := by
    rw [Nat.toUInt8, UInt8.toNat_ofNat']
    omega
  rw [palB, List.cons_append, cutPal, if_neg (by rw [e, List.length_append, flat_len]; omega), e, getPal_full P [] t (by simpa using h1) h2]
  simp

/-! ### The cells, read -/
/-- The cells at these places of the palette P, of which so many are met. -/
def setC (P : List Cell) : Nat → List UInt8 → Option (List Cell)
  | met, [] => if met = P.length then some [] else none
  | met, x :: r => if met < x.toNat ∨ P.length ≤ x.toNat then none else match P[x.toNat]? with
    | none => none
    | some c => (setC P (if x.toNat = met then met + 1 else met) r).map (c :: ·)
def idxs (P l : List Cell) : List UInt8 := l.map fun c => (P.idxOf c).toUInt8
theorem toU8 {n : Nat} (h : n < 256) : n.toUInt8.toNat = n := by
  rw [Nat.toUInt8, UInt8.toNat_ofNat']
  omega
theorem take_mem {P : List Cell} (hn : P.Nodup) {i m : Nat} (hi : i < P.length) : P[i] ∈ P.take m ↔ i < m := by
  constructor
  · intro h
    obtain ⟨j, hj, e⟩ := List.getElem_of_mem h
    rw [List.getElem_take] at e
    have hj' : j < P.length := by simp at hj; omega
    have h1 := idx_at hn hj'
    rw [e, idx_at hn hi] at h1
    simp at hj
    omega
  · intro h
    exact List.mem_of_getElem? (i := i) (by rw [List.getElem?_take_of_lt h, List.getElem?_eq_getElem hi])
theorem setC_sound {P : List Cell} (hn : P.Nodup) (hl : P.length ≤ 256) : ∀ (r : List UInt8) (m : Nat) (l : List Cell), m ≤ P.length → setC P m r = some l → pal (P.take m) l = P ∧ idxs P l = r
  | [], m, l, hm, h => by
    rw [setC] at h
    split at h
    · rename_i e
      injection h with h
      subst h
      exact ⟨by rw [e]; simp [pal], rfl⟩
    · cases h
  | x :: r, m, l, hm, h => by
    rw [setC] at h
    split at h
    · cases h
    · rename_i hx
      have hx2 : x.toNat < P.length := by omega
      rw [List.getElem?_eq_getElem hx2] at h
      simp only [Option.map_eq_some_iff] at h
      obtain ⟨l', h1, rfl⟩ := h
      have hm1 : (if x.toNat = m then m + 1 else m) ≤ P.length := by split <;> omega
      obtain ⟨h2, h3⟩ := setC_sound hn hl r _ l' hm1 h1
      refine ⟨?_, ?_⟩
      · rw [pal]
        have hmem := take_mem hn (m := m) hx2
        have e : (if P[x.toNat] ∈ P.take m then P.take m else P.take m ++ [P[x.toNat]]) = P.take (if x.toNat = m then m + 1 else m) := by
          split
          · rename_i hc
            rw [if_neg (by have := hmem.1 hc; omega)]
          · rename_i hc
            have e : x.toNat = m := by (have : ¬ x.toNat < m := fun h => hc (hmem.2 h)); omega
            rw [if_pos e, List.take_succ_eq_append_getElem (by omega)]
            simp [e]
        rw [e]
        exact h2
      · rw [idxs, List.map_cons, idx_at hn hx2]
        simp only [List.cons.injEq]
        exact ⟨by simp, h3⟩
theorem setC_full {P : List Cell} (hn : P.Nodup) (hl : P.length ≤ 256) : ∀ (l : List Cell) (m : Nat), m ≤ P.length → pal (P.take m) l = P → setC P m (idxs P l) = some l
  | [], m, hm, h => by
    rw [pal] at h
    have e : m = P.length := by
      have := congrArg List.length h
      simp at this
      omega
    simp [idxs, setC, e]
  | c :: r, m, hm, h => by
    rw [pal] at h
    by_cases hc : c ∈ P.take m
    · rw [if_pos hc] at h
      obtain ⟨j, hj, e⟩ := List.getElem_of_mem hc
      rw [List.getElem_take] at e
      have hj1 : j < m := by simp at hj; omega
      have hj2 : j < P.length := by omega
      have ei : P.idxOf c = j := by rw [← e]; exact idx_at hn hj2
      have ih := setC_full hn hl r m hm h
      rw [idxs] at ih ⊢
      rw [List.map_cons, ei, setC, toU8 (by omega), if_neg (by omega), List.getElem?_eq_getElem hj2, if_neg (by omega), ih, e]
      rfl
    · rw [if_neg hc] at h
      obtain ⟨q, hq⟩ := pal_ext r (P.take m ++ [c])
      rw [h] at hq
      have hmlt : m < P.length := by
        have := congrArg List.length hq
        simp at this
        omega
      have e : P[m] = c := by
        have h1 : P[m]? = some c := by
          rw [hq, List.append_assoc, List.getElem?_append_right (by simp; omega)]
          simp [Nat.min_eq_left hm]
        rw [List.getElem?_eq_getElem hmlt] at h1
        exact Option.some.inj h1
      have ei : P.idxOf c = m := by rw [← e]; exact idx_at hn hmlt
      have e2 : P.take m ++ [c] = P.take (m + 1) := by rw [List.take_succ_eq_append_getElem hmlt, e]
      rw [e2] at h
      have ih := setC_full hn hl r (m + 1) (by omega) h
      rw [idxs] at ih ⊢
      rw [List.map_cons, ei, setC, toU8 (by omega), if_neg (by omega), List.getElem?_eq_getElem hmlt, if_pos rfl, ih, e]
      rfl

/-! ### The lights, read -/
def unlnum (n : UInt8) : Cell := (n / 16, n % 16)
theorem lnum_un (n : UInt8) : lnum (unlnum n) = n := by
  have h := n.toNat_lt
  apply UInt8.toNat_inj.1
  simp only [lnum, unlnum, UInt8.toNat_add, UInt8.toNat_mul, UInt8.toNat_div, UInt8.toNat_mod, UInt8.reduceToNat]
  omega
theorem un_may (n : UInt8) : mayL (unlnum n) = true := by
  have h := n.toNat_lt
  simp only [mayL, unlnum, UInt8.toNat_div, UInt8.toNat_mod, UInt8.reduceToNat, Bool.and_eq_true, decide_eq_true_eq]
  omega
theorem un_lnum {l : Cell} (h : mayL l = true) : unlnum (lnum l) = l := by
  obtain ⟨a, b⟩ := l
  simp only [mayL, Bool.and_eq_true, decide_eq_true_eq] at h
  simp only [unlnum, lnum, Prod.mk.injEq]
  constructor
  · apply UInt8.toNat_inj.1
    simp only [UInt8.toNat_add, UInt8.toNat_mul, UInt8.toNat_div, UInt8.reduceToNat]
    omega
  · apply UInt8.toNat_inj.1
    simp only [UInt8.toNat_add, UInt8.toNat_mul, UInt8.toNat_mod, UInt8.reduceToNat]
    omega

/-! ### The ticks, read -/
def tkOf (n : Int) (sk due : Nat) : Tick := (n + sk, due)
/-- So many ticks. -/
def getT : Nat → Int → St → Option (List Tick × St)
  | 0, _, s => some ([], s)
  | k + 1, n, s => if 4096 - n ≤ ((rNum s).1 : Int) ∨ (rNum (rNum s).2).1 < 1 ∨ 2199023255552 < (rNum (rNum s).2).1 then none
    else (getT k (n + (rNum s).1 + 1) (rNum (rNum s).2).2).map fun x => ((n + (rNum s).1, ((rNum (rNum s).2).1 : Int)) :: x.1, x.2)
def cutT (b : List UInt8) : Option (List Tick) :=
  match getT (rNum (b, false)).1 0 (rNum (b, false)).2 with
  | none => none
  | some (l, s) => if s.2 = false ∧ s.1 = [] then some l else none
theorem rNum_yes {m : Nat} {t : List UInt8} (hm : m < 18446744073709551616) : rNum (uvarint m ++ t, false) = (m, (t, false)) := by
  rw [rNum, if_neg (by simp), pn_yes hm ⟨t, rfl⟩]
  simp
theorem rNum_some {s : List UInt8} {r : Nat × St} (h : rNum (s, false) = r) (hr : r.2.2 = false) : s = uvarint r.1 ++ r.2.1 ∧ r.1 < 18446744073709551616 := by
  subst h
  unfold rNum at hr ⊢
  rw [if_neg (by simp)] at hr ⊢
  cases hp : pn s 0 0 with
  | none => simp [hp] at hr
  | some q =>
    obtain ⟨m, k⟩ := q
    obtain ⟨h1, ⟨t, ht⟩, h3⟩ := pn_some hp
    simp only [← ht, h3, List.drop_left]
    exact ⟨by first | trivial | rfl, h1⟩
theorem rNum_bad (s : List UInt8) : rNum (s, true) = (0, (s, true)) := by simp [rNum]
theorem rNum_zero {s : St} (h : (rNum s).2.2 = true) : (rNum s).1 = 0 := by
  unfold rNum at h ⊢
  split
  · rfl
  · rename_i hb
    rw [if_neg hb] at h
    cases hp : pn s.1 0 0 with
    | none => rfl
    | some q => simp [hp] at h
theorem getT_sound : ∀ (k : Nat) (n : Int) (s : List UInt8) (l : List Tick) (s' : St), 0 ≤ n → getT k n (s, false) = some (l, s') → mayT n l = true ∧ l.length = k ∧ s'.2 = false ∧ s = tkB n l ++ s'.1
  | 0, n, s, l, s', hn, h => by
    simp only [getT, Option.some.injEq, Prod.mk.injEq] at h
    obtain ⟨rfl, rfl⟩ := h
    exact ⟨rfl, rfl, rfl, rfl⟩
  | k + 1, n, s, l, s', hn, h => by
    rw [getT] at h
    split at h
    · cases h
    · rename_i hc
      obtain ⟨r1, h1⟩ : ∃ r, rNum (s, false) = r := ⟨_, rfl⟩
      rw [h1] at h hc
      obtain ⟨r2, h2⟩ : ∃ r, rNum r1.2 = r := ⟨_, rfl⟩
      rw [h2] at h hc
      have g2 : r2.2.2 = false := by
        cases e : r2.2.2
        · rfl
        · have := rNum_zero (s := r1.2) (by rw [h2]; exact e)
          rw [h2] at this
          omega
      have g1 : r1.2.2 = false := by
        cases e : r1.2.2
        · rfl
        · obtain ⟨m, t, b⟩ := r1
          simp only at e h2
          subst e
          rw [rNum_bad] at h2
          subst h2
          cases g2
      obtain ⟨a1, b1⟩ := rNum_some h1 g1
      obtain ⟨m1, t1, z1⟩ := r1
      simp only at g1 h2 a1 b1 hc h
      subst g1
      obtain ⟨a2, b2⟩ := rNum_some h2 g2
      obtain ⟨m2, t2, z2⟩ := r2
      simp only at g2 a2 b2 hc h
      subst g2
      simp only [Option.map_eq_some_iff] at h
      obtain ⟨⟨l', s2⟩, h3, h4⟩ := h
      simp only [Prod.mk.injEq] at h4
      obtain ⟨rfl, rfl⟩ := h4
      obtain ⟨i1, i2, i3, i4⟩ := getT_sound k _ t2 l' s2 (by omega) h3
      refine ⟨?_, by simp [i2], i3, ?_⟩
      · simp only [mayT, Bool.and_eq_true, decide_eq_true_eq]
        exact ⟨⟨⟨⟨by omega, by omega⟩, by omega⟩, by omega⟩, i1⟩
      · rw [tkB, a1, a2, i4]
        have e1 : (n + (m1 : Int) - n).toNat = m1 := by omega
        have e2 : ((m2 : Int)).toNat = m2 := by omega
        rw [e1, e2]
        simp
theorem getT_full : ∀ (l : List Tick) (n : Int) (t : List UInt8), 0 ≤ n → mayT n l = true → getT l.length n (tkB n l ++ t, false) = some (l, (t, false))
  | [], n, t, hn, h => by simp [getT, tkB]
  | (a, d) :: l, n, t, hn, h => by
    simp only [mayT, Bool.and_eq_true, decide_eq_true_eq] at h
    obtain ⟨⟨⟨⟨h1, h2⟩, h3⟩, h4⟩, h5⟩ := h
    have e1 : rNum (tkB n ((a, d) :: l) ++ t, false) = ((a - n).toNat, (uvarint d.toNat ++ (tkB (a + 1) l ++ t), false)) := by
      rw [tkB, List.append_assoc, List.append_assoc]
      exact rNum_yes (by omega)
    have e2 : rNum (uvarint d.toNat ++ (tkB (a + 1) l ++ t), false) = (d.toNat, (tkB (a + 1) l ++ t, false)) := rNum_yes (by omega)
    have e3 : n + ((a - n).toNat : Int) = a := by omega
    have e4 : (d.toNat : Int) = d := by omega
    rw [List.length_cons, getT, e1]
    simp only [e2]
    rw [if_neg (by omega), e3, e4, getT_full l (a + 1) t (by omega) h5]
    rfl
theorem cutT_sound {b : List UInt8} {l : List Tick} (h : cutT b = some l) : mayT 0 l = true ∧ b = tksB l := by
  unfold cutT at h
  obtain ⟨r, hr⟩ : ∃ r, rNum (b, false) = r := ⟨_, rfl⟩
  rw [hr] at h
  obtain ⟨m, s, z⟩ := r
  simp only at h
  cases z with
  | true =>
    have e := rNum_zero (s := (b, false)) (by rw [hr])
    rw [hr] at e
    simp only at e
    subst e
    simp [getT] at h
  | false =>
    obtain ⟨a1, b1⟩ := rNum_some hr rfl
    simp only at a1 b1
    cases hg : getT m 0 (s, false) with
    | none => simp [hg] at h
    | some q =>
      obtain ⟨l', s'⟩ := q
      simp only [hg] at h
      split at h
      · rename_i hc
        injection h with h
        subst h
        obtain ⟨i1, i2, i3, i4⟩ := getT_sound _ _ _ _ _ (by omega) hg
        refine ⟨i1, ?_⟩
        rw [tksB, i2, a1, i4, hc.2]
        simp
      · cases h
theorem cutT_full {l : List Tick} (h : mayT 0 l = true) : cutT (tksB l) = some l := by
  have hl := mayT_len l 0 (by omega) h
  unfold cutT
  rw [tksB, rNum_yes (by omega)]
  have := getT_full l 0 [] (by omega) h
  rw [List.append_nil] at this
  simp [this]

/-! ### A chunk, read -/
def cutRow (b : List UInt8) : Option (List UInt8 × List UInt8) := (rowGet b 4096).map fun x => (x.1, b.drop x.2)
theorem cutRow_sound {b r t : List UInt8} (h : cutRow b = some (r, t)) : r.length = 4096 ∧ b = putR r ++ t := by
  simp only [cutRow, Option.map_eq_some_iff, Prod.mk.injEq] at h
  obtain ⟨⟨r', k⟩, h1, rfl, rfl⟩ := h
  obtain ⟨a, c, d⟩ := get_one h1
  exact ⟨a, by rw [d]; simp⟩
theorem cutRow_full {r t : List UInt8} (h : r.length = 4096) : cutRow (putR r ++ t) = some (r, t) := by
  have := get_put (l := r) (more := t) (by omega)
  rw [h] at this
  simp [cutRow, this]
/-- The chunk whose bytes b are. -/
def getC (b : List UInt8) : Option Ck :=
  if 65536 < b.length then none else match cutPal b with
  | none => none
  | some (P, b1) => match cutRow b1 with
    | none => none
    | some (row, b2) => match setC P 0 row with
      | none => none
      | some l => match cutRow b2 with
        | none => none
        | some (row2, b3) => match cutT b3 with
          | none => none
          | some t => some ⟨l, row2.map unlnum, t⟩
def full (k : Ck) : Prop := k.cs.length = 4096 ∧ k.ls.length = 4096
theorem getC_sound {b : List UInt8} {k : Ck} (h : getC b = some k) : can k = true ∧ full k ∧ putC k = b ∧ b.length ≤ 65536 := by
  unfold getC at h
  split at h
  · cases h
  · rename_i hb
    cases h1 : cutPal b with
    | none => simp [h1] at h
    | some x1 =>
      obtain ⟨P, b1⟩ := x1
      simp only [h1] at h
      cases h2 : cutRow b1 with
      | none => simp [h2] at h
      | some x2 =>
        obtain ⟨row, b2⟩ := x2
        simp only [h2] at h
        cases h3 : setC P 0 row with
        | none => simp [h3] at h
        | some l =>
          simp only [h3] at h
          cases h4 : cutRow b2 with
          | none => simp [h4] at h
          | some x4 =>
            obtain ⟨row2, b3⟩ := x4
            simp only [h4] at h
            cases h5 : cutT b3 with
            | none => simp [h5] at h
            | some t =>
              simp only [h5, Option.some.injEq] at h
              subst h
              obtain ⟨p1, p2, p3⟩ := cutPal_sound h1
              obtain ⟨r1, r2⟩ := cutRow_sound h2
              obtain ⟨q1, q2⟩ := cutRow_sound h4
              obtain ⟨t1, t2⟩ := cutT_sound h5
              have hpl : P.length ≤ 256 := by
                have := nodup_len p1 (m := mays) (fun x hx => may_mem (List.all_eq_true.1 p2 x hx))
                rw [mays_len] at this
                omega
              obtain ⟨s1, s2⟩ := setC_sound p1 hpl row 0 l (by omega) h3
              rw [List.take_zero] at s1
              have hlen : l.length = 4096 := by rw [← r1, ← s2]; simp [idxs]
              refine ⟨?_, ⟨hlen, by simp [q1]⟩, ?_, by omega⟩
              · simp only [can, Bool.and_eq_true]
                refine ⟨⟨?_, ?_⟩, t1⟩
                · rw [List.all_eq_true]
                  intro x hx
                  have : x ∈ P := by rw [← s1]; exact (pal_mem l [] x).2 (.inr hx)
                  exact List.all_eq_true.1 p2 x this
                · rw [List.all_eq_true]
                  intro x hx
                  obtain ⟨y, _, rfl⟩ := List.mem_map.1 hx
                  exact un_may y
              · have e : (row2.map unlnum).map lnum = row2 := by
                  rw [List.map_map]
                  conv => rhs; rw [← List.map_id row2]
                  apply List.map_congr_left
                  intro x _
                  exact lnum_un x
                simp only [putC, places, s1]
                rw [show (l.map fun c => (P.idxOf c).toUInt8) = row from s2, e, p3, r2, q2, t2]
                simp
theorem getC_full {k : Ck} (h : can k = true) (hk : full k) : getC (putC k) = some k := by
  obtain ⟨hc, hl⟩ := hk
  have hlen := putC_len h hc hl
  simp only [can, Bool.and_eq_true] at h
  obtain ⟨⟨h1, h2⟩, h3⟩ := h
  have hpl := pal_le h1
  unfold getC
  rw [if_neg (by omega)]
  have e1 : cutPal (putC k) = some (pal [] k.cs, putR (places k.cs) ++ (putR (k.ls.map lnum) ++ tksB k.ts)) := by
    have := cutPal_full (P := pal [] k.cs) (t := putR (places k.cs) ++ (putR (k.ls.map lnum) ++ tksB k.ts)) (pal_nodup _ _ (by simp)) (List.all_eq_true.2 (pal_may h1)) (by omega)
    rw [putC, List.append_assoc, List.append_assoc]
    exact this
  have e2 := cutRow_full (r := places k.cs) (t := putR (k.ls.map lnum) ++ tksB k.ts) (by simp [places, hc])
  have e3 : setC (pal [] k.cs) 0 (places k.cs) = some k.cs := setC_full (pal_nodup _ _ (by simp)) (by omega) k.cs 0 (by omega) (by simp)
  have e4 := cutRow_full (r := k.ls.map lnum) (t := tksB k.ts) (by simp [hl])
  have e5 := cutT_full h3
  have e6 : (k.ls.map lnum).map unlnum = k.ls := by
    rw [List.map_map]
    conv => rhs; rw [← List.map_id k.ls]
    apply List.map_congr_left
    intro x hx
    exact un_lnum (List.all_eq_true.1 h2 x hx)
  simp only [e1, e2, e3, e4, e5, e6]
end PackW
end Go.Proofs.Ytlhanbjendbhfaa


/-
  Plain mathematics of layer 6: the reference's way of reading a chunk leads to the same.
-/
namespace Go.Proofs.Ytlhanbjendbhfaa
open Go.Lib (uvarint uvarint_small uvarint_big uvarint_length64 uvarint_pos zigzag)
set_option linter.unusedVariables false
set_option linter.unusedSimpArgs false
namespace PackW
open BytesW RunsW

theorem rNum_lt (s : St) : (rNum s).1 < 18446744073709551616 := by
  unfold rNum
  split
  · simp
  · cases hp : pn s.1 0 0 with
    | none => simp
    | some q =>
      obtain ⟨m, k⟩ := q
      exact (pn_some hp).1
def getTR : Nat → Int → St → Option (List Tick × St)
  | 0, _, s => some ([], s)
  | k + 1, a, s => if 4096 < (rNum s).1 ∨ 2199023255552 < (rNum (rNum s).2).1 then none
    else (getTR k (a + 1 + (rNum s).1) (rNum (rNum s).2).2).map fun x => ((a + 1 + (rNum s).1, ((rNum (rNum s).2).1 : Int)) :: x.1, x.2)
def tkRef (b : List UInt8) : List Tick × Bool :=
  if 4096 < (rNum (b, false)).1 then ([], false) else match getTR (rNum (b, false)).1 (-1) (rNum (b, false)).2 with
  | none => ([], false)
  | some (l, s) => (l, !s.2)
theorem getTR_full : ∀ (l : List Tick) (n : Int) (t : List UInt8), 0 ≤ n → mayT n l = true → getTR l.length (n - 1) (tkB n l ++ t, false) = some (l, (t, false))
  | [], n, t, hn, h => by simp [getTR, tkB]
  | (a, d) :: l, n, t, hn, h => by
    simp only [mayT, Bool.and_eq_true, decide_eq_true_eq] at h
    obtain ⟨⟨⟨⟨h1, h2⟩, h3⟩, h4⟩, h5⟩ := h
    have e1 : rNum (tkB n ((a, d) :: l) ++ t, false) = ((a - n).toNat, (uvarint d.toNat ++ (tkB (a + 1) l ++ t), false)) := by
      rw [tkB, List.append_assoc, List.append_assoc]
      exact rNum_yes (by omega)
    have e2 : rNum (uvarint d.toNat ++ (tkB (a + 1) l ++ t), false) = (d.toNat, (tkB (a + 1) l ++ t, false)) := rNum_yes (by omega)
    have e3 : n - 1 + 1 + ((a - n).toNat : Int) = a := by omega
    have e4 : (d.toNat : Int) = d := by omega
    have ih := getTR_full l (a + 1) t (by omega) h5
    rw [show a + 1 - 1 = a by omega] at ih
    rw [List.length_cons, getTR, e1]
    simp only [e2]
    rw [if_neg (by omega), e3, e4, ih]
    rfl
theorem tkRef_full {l : List Tick} (h : mayT 0 l = true) : tkRef (tksB l) = (l, true) := by
  have hl := mayT_len l 0 (by omega) h
  unfold tkRef
  rw [tksB, rNum_yes (by omega)]
  have := getTR_full l 0 [] (by omega) h
  rw [List.append_nil] at this
  simp only
  rw [if_neg (by omega), show (-1 : Int) = 0 - 1 by omega, this]
  rfl
def refCs (b : List UInt8) (n : Nat) : List UInt8 → Option (List Cell)
  | [] => some []
  | x :: r => if n ≤ x.toNat then none else (refCs b n r).map ((b.getD (1 + 2 * x.toNat) 0, b.getD (2 + 2 * x.toNat) 0) :: ·)
/-- The chunk as the reference reads it. -/
def refK (b : List UInt8) (n : Nat) : Option (Ck × Bool) :=
  match rowGet (b.drop (1 + 2 * n)) 4096 with
  | none => none
  | some (one, used) => match rowGet (b.drop (1 + 2 * n + used)) 4096 with
    | none => none
    | some (two, used2) => match refCs b n one with
      | none => none
      | some l => some (⟨l, two.map unlnum, (tkRef (b.drop (1 + 2 * n + used + used2))).1⟩, (tkRef (b.drop (1 + 2 * n + used + used2))).2)
def refC (b : List UInt8) : Option Ck :=
  match b with
  | [] => none
  | x :: r => if (x :: r).length < 1 + 2 * x.toNat then none else match refK (x :: r) x.toNat with
    | none => none
    | some (k, is) => if is = true ∧ can k = true ∧ putC k = x :: r then some k else none
theorem flat_get : ∀ {p : List Cell} {j : Nat} {c : Cell}, p[j]? = some c → (flat p)[2 * j]? = some c.1 ∧ (flat p)[2 * j + 1]? = some c.2
  | x :: r, 0, c, h => by
    have : x = c := by simpa using h
    subst this
    simp [flat_cons]
  | x :: r, j + 1, c, h => by
    have := flat_get (p := r) (j := j) (c := c) (by simpa using h)
    rw [flat_cons, show 2 * (j + 1) = 2 * j + 2 by omega, show 2 * j + 2 + 1 = (2 * j + 1) + 2 by omega]
    simpa using this
theorem palB_get {P : List Cell} {t : List UInt8} {j : Nat} {c : Cell} (h : P[j]? = some c) : (palB P ++ t).getD (1 + 2 * j) 0 = c.1 ∧ (palB P ++ t).getD (2 + 2 * j) 0 = c.2 := by
  obtain ⟨h1, h2⟩ := flat_get h
  have hj : j < P.length := (List.getElem?_eq_some_iff.1 h).1
  have hl := flat_len P
  rw [palB, List.cons_append, List.getD_eq_getElem?_getD, List.getD_eq_getElem?_getD, show 1 + 2 * j = 2 * j + 1 by omega, show 2 + 2 * j = (2 * j + 1) + 1 by omega, List.getElem?_cons_succ, List.getElem?_cons_succ, List.getElem?_append_left (by omega), List.getElem?_append_left (by omega), h1, h2]
  exact ⟨rfl, rfl⟩
theorem refCs_full {P : List Cell} {t : List UInt8} (hl : P.length ≤ 256) : ∀ (l : List Cell), (∀ c ∈ l, c ∈ P) → refCs (palB P ++ t) P.length (idxs P l) = some l
  | [], _ => rfl
  | c :: r, h => by
    have hc := h c (by simp)
    have hi := List.idxOf_lt_length_of_mem hc
    have ih := refCs_full (t := t) hl r (fun x hx => h x (by simp [hx]))
    rw [idxs] at ih ⊢
    obtain ⟨h1, h2⟩ := palB_get (t := t) (idx_of hc)
    rw [List.map_cons, refCs, toU8 (by omega), if_neg (by omega), ih, h1, h2]
    rfl
theorem refCs_len {b : List UInt8} {n : Nat} : ∀ {r : List UInt8} {l : List Cell}, refCs b n r = some l → l.length = r.length
  | [], l, h => by
    simp only [refCs, Option.some.injEq] at h
    subst h
    rfl
  | x :: r, l, h => by
    rw [refCs] at h
    split at h
    · cases h
    · simp only [Option.map_eq_some_iff] at h
      obtain ⟨l', h1, rfl⟩ := h
      simp [refCs_len h1]
theorem palB_len (P : List Cell) : (palB P).length = 1 + 2 * P.length := by
  rw [palB, List.length_cons, flat_len]
  omega
theorem refC_is (b : List UInt8) : refC b = getC b := by
  have back : ∀ k, refC b = some k → getC b = some k := fun k h => by
    match b, h with
    | x :: r, h =>
      rw [refC] at h
      split at h
      · cases h
      · cases h1 : refK (x :: r) x.toNat with
        | none => simp [h1] at h
        | some q =>
          obtain ⟨k', is⟩ := q
          simp only [h1] at h
          split at h
          · rename_i hc
            injection h with h
            subst h
            obtain ⟨c1, c2, c3⟩ := hc
            rw [← c3]
            refine getC_full c2 ?_
            unfold refK at h1
            cases g1 : rowGet ((x :: r).drop (1 + 2 * x.toNat)) 4096 with
            | none => simp [g1] at h1
            | some q1 =>
              obtain ⟨one, used⟩ := q1
              simp only [g1] at h1
              cases g2 : rowGet ((x :: r).drop (1 + 2 * x.toNat + used)) 4096 with
              | none => simp [g2] at h1
              | some q2 =>
                obtain ⟨two, used2⟩ := q2
                simp only [g2] at h1
                cases g3 : refCs (x :: r) x.toNat one with
                | none => simp [g3] at h1
                | some l =>
                  simp only [g3, Option.some.injEq, Prod.mk.injEq] at h1
                  obtain ⟨rfl, _⟩ := h1
                  exact ⟨by rw [refCs_len g3]; exact (get_len g1).1, by simpa using (get_len g2).1⟩
          · cases h
  cases hg : getC b with
  | none =>
    cases hr : refC b with
    | none => rfl
    | some k => rw [back k hr] at hg; cases hg
  | some k =>
    obtain ⟨c1, ⟨c2, c3⟩, c4, c5⟩ := getC_sound hg
    subst c4
    have hc := c1
    simp only [can, Bool.and_eq_true] at hc
    obtain ⟨⟨h1, h2⟩, h3⟩ := hc
    have hpl := pal_le h1
    obtain ⟨t1, e1⟩ : ∃ t1, t1 = putR (places k.cs) ++ (putR (k.ls.map lnum) ++ tksB k.ts) := ⟨_, rfl⟩
    obtain ⟨P, hP⟩ : ∃ P, P = pal [] k.cs := ⟨_, rfl⟩
    have hpl2 : P.length ≤ 40 := by rw [hP]; exact hpl
    have eb : putC k = palB P ++ t1 := by rw [putC, e1, hP, List.append_assoc, List.append_assoc]
    have ex : palB P ++ t1 = P.length.toUInt8 :: (flat P ++ t1) := rfl
    have e2 := get_put (l := places k.cs) (more := putR (k.ls.map lnum) ++ tksB k.ts) (by simp [places]; omega)
    have e3 := get_put (l := k.ls.map lnum) (more := tksB k.ts) (by simp; omega)
    rw [show (places k.cs).length = 4096 by simp [places, c2]] at e2
    rw [show (k.ls.map lnum).length = 4096 by simp [c3]] at e3
    have e4 := refCs_full (P := P) (t := t1) (by omega) k.cs (fun c hc => by rw [hP]; exact (pal_mem _ _ _).2 (.inr hc))
    have e5 := tkRef_full h3
    have e6 : (k.ls.map lnum).map unlnum = k.ls := by
      rw [List.map_map]
      conv => rhs; rw [← List.map_id k.ls]
      apply List.map_congr_left
      intro x hx
      exact un_lnum (List.all_eq_true.1 h2 x hx)
    have d1 : (palB P ++ t1).drop (1 + 2 * P.length) = t1 := by
      rw [← palB_len P, List.drop_left]
    have d2 : (palB P ++ t1).drop (1 + 2 * P.length + (putR (places k.cs)).length) = putR (k.ls.map lnum) ++ tksB k.ts := by
      rw [← List.drop_drop, d1, e1, List.drop_left]
    have d3 : (palB P ++ t1).drop (1 + 2 * P.length + (putR (places k.cs)).length + (putR (k.ls.map lnum)).length) = tksB k.ts := by
      rw [← List.drop_drop, d2, List.drop_left]
    have hi : idxs P k.cs = places k.cs := by rw [hP]; rfl
    rw [hi] at e4
    have hk : refK (palB P ++ t1) P.length = some (k, true) := by
      unfold refK
      rw [d1, ← e1] at *
      simp only [e2, d2, e3, e4, d3, e5, e6]
    have hn : P.length.toUInt8.toNat = P.length := toU8 (by omega)
    rw [eb, ex, refC, hn, ← ex, if_neg (by rw [List.length_append, palB_len]; omega), hk]
    simp only
    rw [if_pos ⟨by first | trivial | rfl, c1, eb⟩]
end PackW
end Go.Proofs.Ytlhanbjendbhfaa
