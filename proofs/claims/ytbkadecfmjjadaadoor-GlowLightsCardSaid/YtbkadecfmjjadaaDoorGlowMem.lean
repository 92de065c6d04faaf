/-
  Rows of the light's functions in memory: what is made whole, filled cell by cell; sixteen lists of numbers in one array, which grow in turns.
-/
import Derived.Test.YtbkadecfmjjadaaDoorRowG
import Derived.Test.YtbkadecfmjjadaaDoorHeldP
import Derived.Test.YtbkadecfmjjadaaDoorGlowPlain3
import Derived.Deep.OwnRows
namespace Go.Proofs.YtbkadecfmjjadaaDoor
open Go.RowKit
set_option linter.unusedVariables false
set_option linter.unusedSimpArgs false
namespace GlowW
open BlkP RowG

def u8v (n : Nat) : Value := .int .u8 (n : Int)
def i64v (n : Nat) : Value := .int .i64 (n : Int)
def encN : Enc Nat := ⟨fun n => [i64v n], 1, fun _ => rfl, fun x v h => by
  simp only [List.mem_cons, List.not_mem_nil, or_false] at h
  subst h
  rfl⟩
def enc2 : Enc (Nat × Nat) := ⟨fun c => [u8v c.1, u8v c.2], 2, fun _ => rfl, fun x v h => by
  simp only [List.mem_cons, List.not_mem_nil, or_false] at h
  rcases h with rfl | rfl <;> rfl⟩
theorem flatN : ∀ l : List Nat, flat encN l = l.map i64v
  | [] => rfl
  | x :: r => by
    have h : flat encN (x :: r) = [i64v x] ++ flat encN r := rfl
    rw [h, flatN r]
    rfl
theorem Blk.ne {w : World} {b c : Nat} {T U : TypeId} {vs us : List Value} (h : Blk w b T vs) (k : Blk w c U us) (hTU : T ≠ U) : b ≠ c := fun e => by
  subst e
  unfold Blk at h k
  rw [h] at k
  injection k with k
  injection k with _ k
  exact hTU k
theorem Blk.inj {w : World} {b : Nat} {T U : TypeId} {vs us : List Value} (h : Blk w b T vs) (k : Blk w b U us) : vs = us := by
  unfold Blk at h k
  rw [h] at k
  injection k with k
  injection k with k _
  simpa using k

theorem at_slot (t : Tmp) {P : Program} {w : World} {ops : Array Oper} {rest : List Oper} {a : Act} {Q : Exit → Act → World → Prop} {op : Op} {ty : TypeId} {pos : String} {af : _} {g : _} (h : wpList P ops Q ((⟨some t, op, ty, pos, af, g⟩ : Oper) :: rest) a w) : wpList P ops Q ((⟨some t, op, ty, pos, af, g⟩ : Oper) :: rest) a w := h
theorem list_named {P : Program} {ops : Array Oper} {rest : List Oper} {Q : Exit → Act → World → Prop} {a : Act} {W : World} (S : World → Prop) (h : S W) (k : ∀ W', S W' → wpList P ops Q rest a W') : wpList P ops Q rest a W := k W h

/-! ### Cell by cell -/
def fillV (f : List Value) (z : Value) (j : Nat) : List Value := f.take j ++ List.replicate (f.length - j) z
theorem fillV_zero (f : List Value) (z : Value) : fillV f z 0 = List.replicate f.length z := by simp [fillV]
theorem fillV_all {f : List Value} {z : Value} {j : Nat} (h : f.length ≤ j) : fillV f z j = f := by
  unfold fillV
  rw [List.take_of_length_le h, show f.length - j = 0 by omega]
  simp
theorem fillV_len {f : List Value} {z : Value} {j : Nat} (h : j ≤ f.length) : (fillV f z j).length = f.length := by simp [fillV]; omega
theorem fillV_get {f : List Value} {z : Value} {j : Nat} (h : j < f.length) : (fillV f z j)[j]? = some z := by
  unfold fillV
  rw [List.getElem?_append_right (by simp; omega), List.getElem?_replicate, if_pos (by simp; omega)]
theorem fillV_get' {f : List Value} {z : Value} {j k : Nat} (h : j ≤ k) (hk : k < f.length) : (fillV f z j)[k]? = some z := by
  unfold fillV
  rw [List.getElem?_append_right (by simp; omega), List.getElem?_replicate, if_pos (by simp; omega)]
theorem fillV_set {f : List Value} {z v : Value} {j : Nat} (h : f[j]? = some v) : (fillV f z j).set j v = fillV f z (j + 1) := by
  have hj := (List.getElem?_eq_some_iff.1 h).1
  unfold fillV
  rw [List.take_add_one, h, List.set_append_right _ _ (by simp; omega), List.length_take, Nat.min_eq_left (by omega), Nat.sub_self, show f.length - j = (f.length - (j + 1)) + 1 by omega, List.replicate_succ, List.set_cons_zero]
  simp
theorem madeB (z : Value) (n : Nat) : madeCells #[z] n = (List.replicate n z).toArray := by
  apply Array.ext'
  rw [toList_madeCells_one]
theorem made2 (z : Value) (n : Nat) : (madeCells #[z, z] (n * 2)).toList = List.replicate (n * 2) z := by
  apply List.ext_getElem?
  intro j
  by_cases hj : j < n * 2
  · have : j % 2 = 0 ∨ j % 2 = 1 := by omega
    rcases this with h | h <;> simp [madeCells, hj, h]
  · simp [madeCells, hj]

/-! ### Sixteen lists -/
abbrev TKn : TypeId := 73
structure KN (w : World) (B kb : Nat) (vs : List Value) (kn : Nat → List Nat) : Prop where
  blk : Blk w kb TKn vs
  len : vs.length = 16
  lt : kb < B
  own : ∀ (k : Nat) (v : Value), vs[k]? = some v → RowG.Own encN 3 w B v (kn k)
  dj : ∀ (j k : Nat) (v u : Value), j ≠ k → vs[j]? = some v → vs[k]? = some u → ∀ g, v.ownBlock = some g → u.ownBlock ≠ some g
section
variable {w w' : World} {B kb : Nat} {vs : List Value} {kn : Nat → List Nat}
theorem KN.grown (h : KN w B kb vs kn) {r : Option Nat} (hg : w.grownBy w' r) (hk : some kb ≠ r) (hv : ∀ v ∈ vs, v.ownBlock = none ∨ v.ownBlock ≠ r) : KN w' B kb vs kn :=
  ⟨h.blk.grown hg hk, h.len, h.lt, fun k v hkv => (h.own k v hkv).grown hg (hv v (List.mem_of_getElem? hkv)), h.dj⟩
theorem KN.below (h : KN w B kb vs kn) (hb : Below w.heap.size w w') : KN w' B kb vs kn :=
  ⟨h.blk.below hb, h.len, h.lt, fun k v hkv => (h.own k v hkv).below hb, h.dj⟩
theorem KN.get (h : KN w B kb vs kn) {k : Nat} (hk : k < 16) : ∃ v, vs[k]? = some v := ⟨_, List.getElem?_eq_getElem (by rw [h.len]; exact hk)⟩
/-- A store into an elder block, or a block of another type. -/
theorem KN.other (h : KN w B kb vs kn) {b : Nat} (hne : b ≠ kb) (hv : ∀ v ∈ vs, v.ownBlock ≠ some b) (i : Nat) (u : Value) : KN (w.setCell ⟨b, i, none⟩ u) B kb vs kn :=
  h.grown (r := some b) ⟨rfl, rfl, rfl, by simp, fun k _ hk => heap_setCell_other w ⟨b, i, none⟩ k u (fun e => hk (by rw [e]))⟩ (fun e => hne (by injection e with e; exact e.symm)) (fun v hm => .inr (hv v hm))
/-- One list grows; its slice is stored. -/
theorem KN.pushed (h : KN w B kb vs kn) {k y : Nat} {v v' : Value} (hk : vs[k]? = some v) (ho : RowG.Own encN 3 w' B v' (kn k ++ [y])) (hg : w.grownBy w' v.ownBlock) (hv : v'.ownBlock = v.ownBlock ∨ ∃ g, v'.ownBlock = some g ∧ w.heap.size ≤ g) :
    KN (w'.setCell ⟨kb, k, none⟩ v') B kb (vs.set k v') (fun j => if j = k then kn k ++ [y] else kn j) := by
  have hlen := (List.getElem?_eq_some_iff.1 hk).1
  have hneB : ∀ u ∈ vs, u.ownBlock ≠ some kb := fun u hu e => by
    obtain ⟨j, hj⟩ := List.getElem?_of_mem hu
    have := ((h.own j u hj).ge _ e).1
    have := h.lt
    omega
  have hneW : ∀ u ∈ vs, ∀ g, u.ownBlock = some g → g < w.heap.size := fun u hu g e => by
    obtain ⟨j, hj⟩ := List.getElem?_of_mem hu
    exact ((h.own j u hj).ge _ e).2
  have hv' : v'.ownBlock ≠ some kb := fun e => by
    have := (ho.ge _ e).1
    have := h.lt
    omega
  have hbk : Blk w' kb TKn vs := h.blk.grown hg (fun e => hneB v (List.mem_of_getElem? hk) e.symm)
  have hst : w'.grownBy (w'.setCell ⟨kb, k, none⟩ v') (some kb) := ⟨rfl, rfl, rfl, by simp, fun j _ hj => heap_setCell_other w' ⟨kb, k, none⟩ j v' (fun e => hj (by rw [e]))⟩
  refine ⟨hbk.set k v', by rw [List.length_set]; exact h.len, h.lt, fun j u hj => ?_, fun i j u x hij hu hx g hug => ?_⟩
  · by_cases e : j = k
    · subst e
      rw [List.getElem?_set_self hlen] at hj
      have : v' = u := by simpa using hj
      subst this
      simp only [if_true]
      exact ho.grown hst (.inr hv')
    · rw [List.getElem?_set_ne (fun q => e q.symm)] at hj
      simp only [if_neg e]
      refine ((h.own j u hj).grown hg ?_).grown hst (.inr (hneB u (List.mem_of_getElem? hj)))
      cases hub : u.ownBlock with
      | none => exact .inl rfl
      | some g => exact .inr (fun q => h.dj j k u v e hj hk g hub q.symm)
  · have key : ∀ u i, i ≠ k → vs[i]? = some u → ∀ g, u.ownBlock = some g → v'.ownBlock ≠ some g := fun u i hi hu g hg1 hg2 => by
      rcases hv with e | ⟨g', e, hge⟩
      · exact h.dj i k u v hi hu hk g hg1 (by rw [← e]; exact hg2)
      · have := hneW u (List.mem_of_getElem? hu) g hg1
        rw [e] at hg2
        injection hg2 with hg2
        omega
    by_cases ei : i = k
    · subst ei
      rw [List.getElem?_set_self hlen] at hu
      have : v' = u := by simpa using hu
      subst this
      rw [List.getElem?_set_ne hij] at hx
      exact fun hxg => key x j (fun q => hij q.symm) hx g hxg hug
    · rw [List.getElem?_set_ne (fun q => ei q.symm)] at hu
      by_cases ej : j = k
      · subst ej
        rw [List.getElem?_set_self hlen] at hx
        have : v' = x := by simpa using hx
        subst this
        exact key u i ei hu g hug
      · rw [List.getElem?_set_ne (fun q => ej q.symm)] at hx
        exact h.dj i j u x hij hu hx g hug
theorem KN.zero (hb : Blk w kb TKn (List.replicate 16 (.slice none 0 0))) (hl : kb < B) : KN w B kb (List.replicate 16 (.slice none 0 0)) (fun _ => []) :=
  ⟨hb, by simp, hl, fun k v hk => by
    have : v = .slice none 0 0 := by
      rw [List.getElem?_replicate] at hk
      split at hk
      · simpa using hk.symm
      · cases hk
    subst this
    exact Own.nil _ _ _ _, fun j k v u _ hj _ g hg => by
    have : v = .slice none 0 0 := by
      rw [List.getElem?_replicate] at hj
      split at hj
      · simpa using hj.symm
      · cases hj
    subst this
    cases hg⟩
end
end GlowW
end Go.Proofs.YtbkadecfmjjadaaDoor
