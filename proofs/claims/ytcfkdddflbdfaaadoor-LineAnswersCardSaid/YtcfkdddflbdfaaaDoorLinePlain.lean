/-
  Operations as lines, plainly: the words of each kind, which can be written; no two have one line; a blank more, or words behind, and it is none.
-/
import Derived.Test.YtcfkdddflbdfaaaDoorDigPlain
import Derived.Test.YtcfkdddflbdfaaaDoorKindPlain
namespace Go.Proofs.YtcfkdddflbdfaaaDoor
set_option linter.unusedVariables false
set_option linter.unusedSimpArgs false
namespace LineP
open DigP
abbrev V := Int × Int × Int
structure Op where
  kind : Int
  a : V
  b : V
  c : Nat × Nat
  n : Int
def z3 : V := (0, 0, 0)
def kws : List (List UInt8) := [[115, 101, 116], [102, 105, 108, 108], [112, 117, 115, 104], [97, 110, 99, 104, 111, 114], [108, 105, 102, 116], [116, 105, 99, 107], [108, 111, 111, 107], [114, 97, 121], [115, 97, 118, 101], [99, 111, 117, 110, 116], [99, 114, 97, 115, 104]]
def kw (k : Nat) : List UInt8 := kws.getD (k - 1) []
def dirs : List (List UInt8) := [[101, 97, 115, 116], [119, 101, 115, 116], [115, 111, 117, 116, 104], [110, 111, 114, 116, 104], [117, 112], [100, 111, 119, 110]]
def dir (n : Int) : List UInt8 := dirs.getD n.toNat []
def three (p : V) : List (List UInt8) := [num p.1, num p.2.1, num p.2.2]
def cellw (c : Nat × Nat) : List (List UInt8) := [KindP.nm c.1, num (c.2 : Int)]
/-- The words behind the first one, by the kind. -/
def tail (o : Op) : Nat → List (List UInt8)
  | 1 => three o.a ++ cellw o.c
  | 2 => three o.a ++ three o.b ++ cellw o.c
  | 3 => three o.a ++ [dir o.n]
  | 4 => num o.n :: three o.a
  | 5 => [num o.n]
  | 6 => [num o.n]
  | 7 => three o.a
  | 8 => three o.a ++ three o.b ++ [num o.n]
  | 11 => [num o.n]
  | _ => []
/-- The fields that the kind's row names. -/
def uses (o : Op) : Nat → Op
  | 1 => ⟨o.kind, o.a, z3, o.c, 0⟩
  | 2 => ⟨o.kind, o.a, o.b, o.c, 0⟩
  | 3 => ⟨o.kind, o.a, z3, (0, 0), o.n⟩
  | 4 => ⟨o.kind, o.a, z3, (0, 0), o.n⟩
  | 5 => ⟨o.kind, z3, z3, (0, 0), o.n⟩
  | 6 => ⟨o.kind, z3, z3, (0, 0), o.n⟩
  | 7 => ⟨o.kind, o.a, z3, (0, 0), 0⟩
  | 8 => ⟨o.kind, o.a, o.b, (0, 0), o.n⟩
  | 11 => ⟨o.kind, z3, z3, (0, 0), o.n⟩
  | _ => ⟨o.kind, z3, z3, (0, 0), 0⟩
def count : Nat → Nat
  | 1 => 6
  | 2 => 9
  | 3 => 5
  | 4 => 5
  | 5 => 2
  | 6 => 2
  | 7 => 4
  | 8 => 8
  | 11 => 2
  | _ => 1
/-- It can be written: it is of this kind. -/
structure Can (o : Op) (k : Nat) : Prop where
  lo : 1 ≤ k
  hi : k ≤ 11
  kind : o.kind = (k : Int)
  used : uses o k = o
  cell : k = 1 ∨ k = 2 → KindP.nm o.c.1 ≠ []
  dir : k = 3 → 0 ≤ o.n ∧ o.n ≤ 5
def words (o : Op) (k : Nat) : List (List UInt8) := kw k :: tail o k
def line (o : Op) (k : Nat) : List UInt8 := join (words o k)
theorem kinds {k : Nat} (h1 : 1 ≤ k) (h2 : k ≤ 11) : k = 1 ∨ k = 2 ∨ k = 3 ∨ k = 4 ∨ k = 5 ∨ k = 6 ∨ k = 7 ∨ k = 8 ∨ k = 9 ∨ k = 10 ∨ k = 11 := by omega
theorem words_len (o : Op) {k : Nat} (h1 : 1 ≤ k) (h2 : k ≤ 11) : (words o k).length = count k := by
  rcases kinds h1 h2 with rfl | rfl | rfl | rfl | rfl | rfl | rfl | rfl | rfl | rfl | rfl <;> rfl
theorem kw_prefix : ∀ i j, 1 ≤ i → i ≤ 11 → 1 ≤ j → j ≤ 11 → (kw j).isPrefixOf (kw i) = true → i = j := by
  have key : ∀ i : Fin 12, ∀ j : Fin 12, 1 ≤ i.val → 1 ≤ j.val → (kw j.val).isPrefixOf (kw i.val) = true → i.val = j.val := by decide
  intro i j h1 h2 h3 h4 h
  exact key ⟨i, by omega⟩ ⟨j, by omega⟩ h1 h3 h
theorem prefix_app (a b : List UInt8) : a.isPrefixOf (a ++ b) = true := by
  rw [List.isPrefixOf_iff_prefix]
  exact List.prefix_append a b
theorem kw_inj {i j : Nat} (h1 : 1 ≤ i) (h2 : i ≤ 11) (h3 : 1 ≤ j) (h4 : j ≤ 11) (h : kw i = kw j) : i = j := kw_prefix i j h1 h2 h3 h4 (by
  rw [h]
  have := prefix_app (kw j) []
  rwa [List.append_nil] at this)
theorem kw_plain {k : Nat} (h1 : 1 ≤ k) (h2 : k ≤ 11) : Plain (kw k) := by
  rcases kinds h1 h2 with rfl | rfl | rfl | rfl | rfl | rfl | rfl | rfl | rfl | rfl | rfl <;> (unfold Plain; decide)
theorem nm_in {k : Nat} (h : KindP.nm k ≠ []) : k < 15 := Classical.byContradiction fun q => h (KindP.nm_out (by omega))
theorem nm_plain {k : Nat} (h : KindP.nm k ≠ []) : Plain (KindP.nm k) := by
  have key : ∀ k : Fin 15, ∀ x ∈ KindP.nm k.val, x ≠ 32 := by decide
  exact key ⟨k, nm_in h⟩
theorem nm_inj {k m : Nat} (h1 : KindP.nm k ≠ []) (h2 : KindP.nm m ≠ []) (h : KindP.nm k = KindP.nm m) : k = m := by
  rw [← (KindP.of_nm k (nm_in h1)).1, ← (KindP.of_nm m (nm_in h2)).1, h]
theorem dir_plain {n : Int} (h1 : 0 ≤ n) (h2 : n ≤ 5) : Plain (dir n) := by
  have : n = 0 ∨ n = 1 ∨ n = 2 ∨ n = 3 ∨ n = 4 ∨ n = 5 := by omega
  rcases this with rfl | rfl | rfl | rfl | rfl | rfl <;> (unfold Plain; decide)
theorem dir_inj {n m : Int} (h1 : 0 ≤ n) (h2 : n ≤ 5) (h3 : 0 ≤ m) (h4 : m ≤ 5) (h : dir n = dir m) : n = m := by
  have a : n = 0 ∨ n = 1 ∨ n = 2 ∨ n = 3 ∨ n = 4 ∨ n = 5 := by omega
  have b : m = 0 ∨ m = 1 ∨ m = 2 ∨ m = 3 ∨ m = 4 ∨ m = 5 := by omega
  rcases a with rfl | rfl | rfl | rfl | rfl | rfl <;> rcases b with rfl | rfl | rfl | rfl | rfl | rfl <;> first | rfl | exact absurd h (by decide)
theorem three_plain (p : V) : ∀ w ∈ three p, Plain w := by
  intro w hw
  simp only [three, List.mem_cons, List.not_mem_nil, or_false] at hw
  rcases hw with rfl | rfl | rfl <;> exact num_plain _
theorem words_plain {o : Op} {k : Nat} (h : Can o k) : ∀ w ∈ words o k, Plain w := by
  have tp := three_plain o.a
  have tq := three_plain o.b
  have cp : k = 1 ∨ k = 2 → ∀ w ∈ cellw o.c, Plain w := fun hk w hw => by
    simp only [cellw, List.mem_cons, List.not_mem_nil, or_false] at hw
    rcases hw with rfl | rfl
    · exact nm_plain (h.cell hk)
    · exact num_plain _
  intro w hw
  simp only [words, List.mem_cons] at hw
  rcases hw with rfl | hw
  · exact kw_plain h.lo h.hi
  · rcases kinds h.lo h.hi with rfl | rfl | rfl | rfl | rfl | rfl | rfl | rfl | rfl | rfl | rfl
    · rcases List.mem_append.1 hw with hw | hw
      · exact tp w hw
      · exact cp (.inl rfl) w hw
    · rcases List.mem_append.1 hw with hw | hw
      · rcases List.mem_append.1 hw with hw | hw
        · exact tp w hw
        · exact tq w hw
      · exact cp (.inr rfl) w hw
    · rcases List.mem_append.1 hw with hw | hw
      · exact tp w hw
      · obtain rfl : w = dir o.n := by simpa using hw
        exact dir_plain (h.dir rfl).1 (h.dir rfl).2
    · rcases List.mem_cons.1 hw with rfl | hw
      · exact num_plain _
      · exact tp w hw
    · obtain rfl : w = num o.n := by simpa [tail] using hw
      exact num_plain _
    · obtain rfl : w = num o.n := by simpa [tail] using hw
      exact num_plain _
    · exact tp w hw
    · rcases List.mem_append.1 hw with hw | hw
      · rcases List.mem_append.1 hw with hw | hw
        · exact tp w hw
        · exact tq w hw
      · obtain rfl : w = num o.n := by simpa using hw
        exact num_plain _
    · cases hw
    · cases hw
    · obtain rfl : w = num o.n := by simpa [tail] using hw
      exact num_plain _
theorem line_splits {o : Op} {k : Nat} (h : Can o k) : splits (line o k) = words o k := splits_join (by simp [words]) (words_plain h)
theorem three_inj {p q : V} (h : three p = three q) : p = q := by
  simp only [three, List.cons.injEq, and_true] at h
  exact Prod.ext (num_inj h.1) (Prod.ext (num_inj h.2.1) (num_inj h.2.2))
theorem cellw_inj {c d : Nat × Nat} (h1 : KindP.nm c.1 ≠ []) (h2 : KindP.nm d.1 ≠ []) (h : cellw c = cellw d) : c = d := by
  simp only [cellw, List.cons.injEq, and_true] at h
  exact Prod.ext (nm_inj h1 h2 h.1) (by have := num_inj h.2; omega)
/-- P18.4: no two operations have one line. -/
theorem line_inj {o p : Op} {k m : Nat} (ho : Can o k) (hp : Can p m) (h : line o k = line p m) : o = p := by
  have hw : words o k = words p m := by rw [← line_splits ho, ← line_splits hp, h]
  have hk : k = m := kw_inj ho.lo ho.hi hp.lo hp.hi (List.cons.inj hw).1
  subst hk
  have ht := (List.cons.inj hw).2
  have e : o.kind = p.kind := ho.kind.trans hp.kind.symm
  rw [← ho.used, ← hp.used]
  have t3 : (three o.a).length = (three p.a).length := rfl
  rcases kinds ho.lo ho.hi with rfl | rfl | rfl | rfl | rfl | rfl | rfl | rfl | rfl | rfl | rfl
  · obtain ⟨h1, h2⟩ := List.append_inj (show three o.a ++ cellw o.c = three p.a ++ cellw p.c from ht) rfl
    simp only [uses, e, three_inj h1, cellw_inj (ho.cell (.inl rfl)) (hp.cell (.inl rfl)) h2]
  · obtain ⟨h1, h2⟩ := List.append_inj (show three o.a ++ three o.b ++ cellw o.c = three p.a ++ three p.b ++ cellw p.c from ht) rfl
    obtain ⟨h3, h4⟩ := List.append_inj h1 rfl
    simp only [uses, e, three_inj h3, three_inj h4, cellw_inj (ho.cell (.inr rfl)) (hp.cell (.inr rfl)) h2]
  · obtain ⟨h1, h2⟩ := List.append_inj (show three o.a ++ [dir o.n] = three p.a ++ [dir p.n] from ht) rfl
    simp only [uses, e, three_inj h1, dir_inj (ho.dir rfl).1 (ho.dir rfl).2 (hp.dir rfl).1 (hp.dir rfl).2 (List.cons.inj h2).1]
  · obtain ⟨h1, h2⟩ := List.cons.inj (show num o.n :: three o.a = num p.n :: three p.a from ht)
    simp only [uses, e, three_inj h2, num_inj h1]
  · simp only [uses, e, num_inj (List.cons.inj (show [num o.n] = [num p.n] from ht)).1]
  · simp only [uses, e, num_inj (List.cons.inj (show [num o.n] = [num p.n] from ht)).1]
  · simp only [uses, e, three_inj (show three o.a = three p.a from ht)]
  · obtain ⟨h1, h2⟩ := List.append_inj (show three o.a ++ three o.b ++ [num o.n] = three p.a ++ three p.b ++ [num p.n] from ht) rfl
    obtain ⟨h3, h4⟩ := List.append_inj h1 rfl
    simp only [uses, e, three_inj h3, three_inj h4, num_inj (List.cons.inj h2).1]
  · simp only [uses, e]
  · simp only [uses, e]
  · simp only [uses, e, num_inj (List.cons.inj (show [num o.n] = [num p.n] from ht)).1]
/-- A blank more, anywhere: no line. -/
theorem strict {o p : Op} {k m : Nat} (ho : Can o k) (hp : Can p m) {x y : List UInt8} (h : line o k = x ++ y) : line p m ≠ x ++ 32 :: y := by
  intro q
  obtain ⟨w, ws, v, vs, t, h1, h2, h3⟩ := splits_first x y
  have hl := splits_blank x y
  rw [← h, line_splits ho] at h2 hl
  rw [← q, line_splits hp] at h1 hl
  have e1 : kw m = w := (List.cons.inj h1).1
  have e2 : kw k = v := (List.cons.inj h2).1
  have hk : k = m := kw_prefix k m ho.lo ho.hi hp.lo hp.hi (by
    rw [e1, e2, h3]
    exact prefix_app w t)
  subst hk
  rw [words_len o ho.lo ho.hi, words_len p ho.lo ho.hi] at hl
  omega
/-- Words behind: no line. -/
theorem behind {o p : Op} {k m : Nat} (ho : Can o k) (hp : Can p m) (r : List UInt8) : line p m ≠ line o k ++ 32 :: r := by
  intro q
  have hs := splits_behind (line o k) r
  rw [← q, line_splits hp, line_splits ho] at hs
  have hk : m = k := kw_inj hp.lo hp.hi ho.lo ho.hi (List.cons.inj hs).1
  subst hk
  have hl := congrArg List.length hs
  rw [List.length_append, words_len p hp.lo hp.hi, words_len o hp.lo hp.hi] at hl
  have : splits r ≠ [] := splits_ne r
  have : 0 < (splits r).length := List.length_pos_iff.2 this
  omega
theorem join_len : ∀ (ws : List (List UInt8)) (b : Nat), (∀ w ∈ ws, w.length ≤ b) → (join ws).length ≤ ws.length * (b + 1)
  | [], b, _ => by simp [join]
  | [w], b, h => by
    have := h w (by simp)
    simp only [join, List.length_cons, List.length_nil]
    omega
  | w :: v :: r, b, h => by
    have h1 := h w (by simp)
    have ih := join_len (v :: r) b (fun y hy => h y (by simp only [List.mem_cons] at hy ⊢; exact .inr hy))
    simp only [join, List.length_append, List.length_cons] at ih ⊢
    rw [Nat.succ_mul (r.length + 1) (b + 1)]
    omega
end LineP
end Go.Proofs.YtcfkdddflbdfaaaDoor
