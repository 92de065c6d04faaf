/-
  The map of sectors: what its datum says of the sectors, and what look-ups, stores and deletes do to it.
-/
import Derived.Lib.SlKeysI
import Derived.Maps.OwnSet
import Derived.Maps.Views
import Derived.MapKept
import Derived.Test.YtknckaegpdganaaDoorSectorOps
import Derived.Test.YtknckaegpdganaaDoorFrS
-- mine: whole_c same_c awake_c take_c step_c back_c
namespace Go.Proofs.YtknckaegpdganaaDoor
open Go.RowKit
set_option linter.unusedVariables false
set_option linter.unusedSimpArgs false
set_option maxRecDepth 100000
namespace SecW
open BlkP RowG FrS JournalP SecP Go.Maps
abbrev Dat := DataW Unit
def str (x : Sec) : ByteArray := ⟨x.toArray⟩
theorem str_list (s : ByteArray) : str s.data.toList = s := by
  unfold str
  simp
def key (i : Nat) : Lit := .int .i64 (i : Int)
theorem key_ne {i j : Nat} (h : i ≠ j) : key i ≠ key j := fun e => by
  unfold key at e
  injection e with _ e
  omega
theorem key_lit (i : Nat) : WideAt.IsKeyLit (key i) := trivial
/-- How what is kept reads. -/
def secElem : Value → Option (Dat × List MemPlace)
  | .agg cs => match cs.toList with
    | [.string s] => some (.lit (.string s.data.toList), [])
    | _ => none
  | _ => none
theorem secElem_mk (x : Sec) : secElem (.agg #[.string (str x)]) = some (.lit (.string x), []) := rfl
theorem secElem_inv {v : Value} {x : Sec} {ps : List MemPlace} (h : secElem v = some (.lit (.string x), ps)) : v = .agg #[.string (str x)] := by
  unfold secElem at h
  split at h
  · rename_i cs
    split at h
    · rename_i s hs
      simp only [Option.some.injEq, Prod.mk.injEq, DataW.lit.injEq, Lit.string.injEq] at h
      rw [← h.1, str_list]
      have : cs = #[.string s] := by
        apply Array.ext'
        exact hs
      rw [this]
    · cases h
  · cases h
/-- What the datum says. -/
structure SecD (n : Nat) (f : Nat → Sec) (D : Dat) : Prop where
  has : ∀ k, Maps.has D k = true ↔ ∃ i, i < n ∧ f i ≠ SecP.blank ∧ k = key i
  look : ∀ i, i < n → D.atKey (key i) (.lit (.string [])) = .lit (.string (raw (f i)))
theorem SecD.new (n : Nat) : SecD n zero (.map []) :=
  ⟨fun k => ⟨fun h => (by cases h), fun ⟨i, _, h, _⟩ => absurd rfl h⟩, fun i _ => by
    have : raw (zero i) = [] := raw_blank
    rw [this]
    rfl⟩
theorem SecD.put {n : Nat} {f : Nat → Sec} {D : Dat} (h : SecD n f D) (hD : IsMap D) {i : Nat} {x : Sec} (hi : i < n) (hx : x ≠ SecP.blank) : SecD n (upd f i x) (D.put (key i) (.lit (.string x))) := by
  refine ⟨fun k => ?_, fun j hj => ?_⟩
  · by_cases hk : k = key i
    · subst hk
      rw [has_put_same hD (key_lit i)]
      exact ⟨fun _ => ⟨i, hi, by unfold upd; rw [if_pos rfl]; exact hx, rfl⟩, fun _ => rfl⟩
    · rw [has_put_other hk, h.has]
      constructor
      · rintro ⟨j, h1, h2, rfl⟩
        exact ⟨j, h1, by unfold upd; rw [if_neg (fun e => hk (by rw [e]))]; exact h2, rfl⟩
      · rintro ⟨j, h1, h2, rfl⟩
        unfold upd at h2
        rw [if_neg (fun e => hk (by rw [e]))] at h2
        exact ⟨j, h1, h2, rfl⟩
  · by_cases hj' : j = i
    · subst hj'
      rw [atKey_put_same hD (key_lit j)]
      unfold upd
      rw [if_pos rfl, raw_of hx]
    · rw [atKey_put_other (key_ne hj'), h.look j hj]
      unfold upd
      rw [if_neg hj']
theorem SecD.del {n : Nat} {f : Nat → Sec} {D : Dat} (h : SecD n f D) (i : Nat) : SecD n (upd f i SecP.blank) (D.del (key i)) := by
  refine ⟨fun k => ?_, fun j hj => ?_⟩
  · by_cases hk : k = key i
    · subst hk
      rw [has_del_same]
      constructor
      · intro q
        cases q
      · rintro ⟨j, h1, h2, h3⟩
        have : j = i := Classical.byContradiction fun e => key_ne e h3.symm
        subst this
        unfold upd at h2
        rw [if_pos rfl] at h2
        exact absurd rfl h2
    · rw [has_del_other hk, h.has]
      constructor
      · rintro ⟨j, h1, h2, rfl⟩
        exact ⟨j, h1, by unfold upd; rw [if_neg (fun e => hk (by rw [e]))]; exact h2, rfl⟩
      · rintro ⟨j, h1, h2, rfl⟩
        unfold upd at h2
        rw [if_neg (fun e => hk (by rw [e]))] at h2
        exact ⟨j, h1, h2, rfl⟩
  · by_cases hj' : j = i
    · subst hj'
      rw [atKey_del_same]
      unfold upd
      rw [if_pos rfl, raw_blank]
    · rw [atKey_del_other (key_ne hj'), h.look j hj]
      unfold upd
      rw [if_neg hj']
theorem keys_used {n : Nat} {f : Nat → Sec} {D : Dat} (h : SecD n f D) : ((used n f).map (fun i : Nat => (i : Int))).Nodup ∧ ∀ x : Int, x ∈ (used n f).map (fun i : Nat => (i : Int)) ↔ Maps.has D (.int .i64 x) = true := by
  refine ⟨?_, fun x => ?_⟩
  · refine List.pairwise_map.2 ((used_rises n f).imp (fun {a b} hab e => ?_))
    omega
  · rw [h.has, List.mem_map]
    constructor
    · rintro ⟨i, hi, rfl⟩
      obtain ⟨h1, h2⟩ := used_mem.1 hi
      exact ⟨i, h1, h2, rfl⟩
    · rintro ⟨i, h1, h2, h3⟩
      unfold key at h3
      injection h3 with _ h3
      exact ⟨i, used_mem.2 ⟨h1, h2⟩, h3.symm⟩
abbrev TS : TypeId := 74
abbrev TC : TypeId := 79
theorem underS : Tryd.prog.underlying TS = some (.map 3 TC) := Tryd.underlying74
theorem underI : Tryd.prog.underlying 3 = some (.int .i64) := by kernel_rfl
theorem infoC : (Tryd.prog.info? TC).map (fun i => (i.zero, i.size, i.bytes)) = some (some (.agg #[.string ⟨#[]⟩]), 1, 16) := by kernel_rfl
theorem keyedI : Keyed Tryd.prog 3 := int_keyed underI
/-- The block M is the map of such sectors. -/
def MapD (w : World) (M n : Nat) (f : Nat → Sec) : Prop := n ≤ 131072 ∧ ∃ D b, w.ownsMap Tryd.prog 3 secElem M b D ∧ SecD n f D
section
variable {w w' : World} {M n : Nat} {f : Nat → Sec}
theorem MapD.lt (h : MapD w M n f) : M < w.heap.size := by
  obtain ⟨_, D, b, h1, _⟩ := h
  exact h1.lt
theorem MapD.is (h : MapD w M n f) : ∃ es c, w.heap[M]? = some (.map es c) := by
  obtain ⟨_, D, b, ⟨es, c, h1, _⟩, _⟩ := h
  exact ⟨es, c, h1⟩
theorem MapD.grown (h : MapD w M n f) {r : Option Nat} (hg : w.grownBy w' r) (hne : some M ≠ r) : MapD w' M n f := by
  obtain ⟨h0, D, b, h1, h2⟩ := h
  exact ⟨h0, D, b, h1.kept hg hne, h2⟩
theorem MapD.below (h : MapD w M n f) (hb : Below w.heap.size w w') : MapD w' M n f := h.grown (r := none) ⟨hb.os, hb.tape, hb.output, hb.size, fun k hk _ => hb.block k hk⟩ (by simp)
theorem MapD.alloc (h : MapD w M n f) (o : Obj) : MapD (w.alloc o) M n f := h.grown (World.grownBy_alloc w o none) (by simp)
theorem MapD.drew (h : MapD w M n f) : MapD w.drew M n f := h
theorem MapD.drewN (h : MapD w M n f) (k : Nat) : MapD (w.drewN k) M n f := h
theorem MapD.set (h : MapD w M n f) {a : Addr} (hne : M ≠ a.block) (v : Value) : MapD (w.setCell a v) M n f := by
  obtain ⟨h0, D, b, h1, h2⟩ := h
  exact ⟨h0, D, b, h1.setCell hne v, h2⟩
theorem MapD.fr {S : Nat → Prop} (h : MapD w M n f) (hf : Fr S w w') (hn : ¬ S M) : MapD w' M n f := by
  have hl := h.lt
  obtain ⟨h0, D, b, ⟨es, c, h1, h2⟩, h3⟩ := h
  exact ⟨h0, D, b, ⟨es, c, (hf.block M hl hn).trans h1, h2⟩, h3⟩
theorem MapD.blk {b : Nat} {T : TypeId} {vs : List Value} (h : MapD w M n f) (hb : Blk w b T vs) : b ≠ M := fun e => by
  obtain ⟨es, c, h1⟩ := h.is
  subst e
  unfold Blk at hb
  rw [hb] at h1
  cases h1
theorem MapD.own {α : Type} {e : Enc α} {E : TypeId} {B : Nat} {v : Value} {m : List α} (h : MapD w M n f) (ho : RowG.Own e E w B v m) : v.ownBlock ≠ some M := fun q => by
  obtain ⟨us, hu⟩ := own_cells ho q
  exact h.blk hu rfl
theorem MapD.new (w : World) {n : Nat} (hn : n ≤ 131072) : MapD (w.alloc (.map #[] 0)) w.heap.size n zero :=
  ⟨hn, .map [], 0, World.ownsMap_made w _ _ _, SecD.new n⟩
theorem ownsMap_tight {P : Program} {k : TypeId} {R : Value → Option (Dat × List MemPlace)} {b m : Nat} {D : Dat} (h : w.ownsMap P k R b m D) : w.ownsMap P k R b (Maps.size D) D := by
  obtain ⟨es, c, h1, h2, h3, h4⟩ := h
  refine ⟨es, c, h1, h2, ?_, h4⟩
  rw [h4]
  simp [Maps.size, length_sorted]
theorem keys_perm {M b : Nat} {D : Dat} (h1 : w.ownsMap Tryd.prog 3 secElem M b D) (h2 : SecD n f D) : ((used n f).map (fun i : Nat => (i : Int))).Perm (intKeys D) :=
  CollectedI.perm (left := fun _ => false) ⟨(keys_used h2).1, fun x => by rw [(keys_used h2).2]; simp⟩ h1 keyedI underI (fun _ => rfl)
theorem size_dat {M b : Nat} {D : Dat} (h1 : w.ownsMap Tryd.prog 3 secElem M b D) (h2 : SecD n f D) : Maps.size D = (used n f).length := by
  have h := (keys_perm h1 h2).length_eq
  rw [List.length_map] at h
  obtain ⟨es, rfl⟩ := h1.isMap
  rw [h]
  simp [Maps.size, intKeys]
theorem key_wf {i : Nat} (h : i ≤ 131072) : (Lit.int .i64 (i : Int)).wf = true := by
  have h1 : IntKind.i64.min = -9223372036854775808 := by decide
  have h2 : IntKind.i64.max = 9223372036854775807 := by decide
  simp [Lit.wf, h1, h2]
  omega
theorem keyOf_nat {i : Nat} (h : i ≤ 131072) : keyOf Tryd.prog 3 (.int .i64 (i : Int)) = some (key i) := keyOf_int_mk underI (key_wf h)
theorem zero_C (w : World) : (zeroValue TC).run Tryd.prog w = .ok (.agg #[.string (str [])]) w := by
  obtain ⟨i, hi, hz, hs, hb⟩ := info_parts infoC
  simp [zeroValue, typeInfo, hi, hz, str]
theorem run_lookD (h : MapD w M n f) {i : Nat} (hi : i < n) : (Instr.lookup TS (.map (some M)) (.int .i64 (i : Int)) false).run Tryd.prog w = .ok (.agg #[.string (str (raw (f i)))]) w := by
  obtain ⟨hn, D, b, h1, h2⟩ := h
  obtain ⟨v, ps, hr, hv⟩ := h1.lookup keyedI underS (zero_C w) (secElem_mk []) (keyOf_nat (i := i) (by omega))
  rw [h2.look i hi] at hv
  rw [hr, secElem_inv hv]
theorem run_putD (h : MapD w M n f) {i : Nat} (hi : i < n) {x : Sec} (hx : x ≠ SecP.blank) : ∃ w', (Instr.mapUpdate TS (.map (some M)) (.int .i64 (i : Int)) (.agg #[.string (str x)])).run Tryd.prog w = .ok () w' ∧ MapD w' M n (upd f i x) ∧ w.grownBy w' (some M) := by
  obtain ⟨hn, D, b, h1, h2⟩ := h
  have hm : maxLen = 9223372036854775807 := rfl
  have hs := size_dat h1 h2
  have hu := used_len n f
  obtain ⟨w', hr, h3, h4⟩ := (ownsMap_tight h1).update keyedI underS (by omega) (keyOf_nat (i := i) (by omega)) (secElem_mk x)
  exact ⟨w', hr, ⟨hn, _, _, h3, h2.put h1.isMap hi hx⟩, h4⟩
theorem run_delD (h : MapD w M n f) {i : Nat} (hi : i < n) (ty : TypeId) : ∃ w', (Builtin.delete_ #[TS, 3] ty #[.map (some M), .int .i64 (i : Int)]).run Tryd.prog w = .ok (.tuple #[]) w' ∧ MapD w' M n (upd f i SecP.blank) ∧ w.grownBy w' (some M) := by
  obtain ⟨hn, D, b, h1, h2⟩ := h
  obtain ⟨w', hr, h3, h4⟩ := h1.drop keyedI underS (keyOf_nat (i := i) (by omega)) ty
  exact ⟨w', hr, ⟨hn, _, _, h3, h2.del i⟩, h4.grown⟩
end
section
variable {w : World} {M n : Nat} {f : Nat → Sec} {ops : Array Oper} {rest : List Oper} {o : Oper} {a : Act} {Q : Exit → Act → World → Prop}
theorem wp_lookD (hgd : o.guard = none) (m x : Operand) (ho : o.op = .lookup TS m x false) (hm : a.eval m = .map (some M)) {i : Nat} (hx : a.eval x = .int .i64 (i : Int)) (h : MapD w M n f) (hi : i < n)
    (k : wpList Tryd.prog ops Q rest (a.put o.dst (.agg #[.string (str (raw (f i)))])) w) : wpList Tryd.prog ops Q (o :: rest) a w := by
  refine wpList_plain hgd fun K hK => ?_
  have hr := run_lookD h hi
  unfold Oper.wp
  simp [execOp, ho, hm, hx, hr, Result.andThen]
  exact hK _ _ k
theorem wp_putD (hgd : o.guard = none) (m x v : Operand) (ho : o.op = .mapUpdate TS m x v) (hm : a.eval m = .map (some M)) {i : Nat} (hx : a.eval x = .int .i64 (i : Int)) {y : Sec} (hv : a.eval v = .agg #[.string (str y)]) (h : MapD w M n f) (hi : i < n) (hy : y ≠ SecP.blank)
    (k : ∀ w', MapD w' M n (upd f i y) → w.grownBy w' (some M) → wpList Tryd.prog ops Q rest (a.put o.dst undef) w') : wpList Tryd.prog ops Q (o :: rest) a w := by
  refine wpList_plain hgd fun K hK => ?_
  obtain ⟨w', hr, h1, h2⟩ := run_putD h hi hy
  unfold Oper.wp
  simp [execOp, ho, hm, hx, hv, hr, Result.andThen]
  exact hK _ _ (k w' h1 h2)
theorem wp_delD (hgd : o.guard = none) (m x : Operand) (ho : o.op = .call { callee := .builtin .delete, args := #[m, x], argTypes := #[TS, 3] }) (hm : a.eval m = .map (some M)) {i : Nat} (hx : a.eval x = .int .i64 (i : Int)) (h : MapD w M n f) (hi : i < n)
    (k : ∀ w', MapD w' M n (upd f i SecP.blank) → w.grownBy w' (some M) → wpList Tryd.prog ops Q rest (a.put o.dst (.tuple #[])) w') : wpList Tryd.prog ops Q (o :: rest) a w := by
  refine wpList_plain hgd fun K hK => ?_
  obtain ⟨w', hr, h1, h2⟩ := run_delD h hi o.type
  unfold Oper.wp
  simp [execOp, ho, resolve, invoke, builtin, hm, hx, hr, Result.andThen]
  exact hK _ _ (k w' h1 h2)
end
end SecW
end Go.Proofs.YtknckaegpdganaaDoor
