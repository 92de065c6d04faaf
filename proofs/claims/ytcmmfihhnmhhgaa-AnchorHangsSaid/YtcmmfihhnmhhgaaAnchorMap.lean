/-
  The map of what was met: its keys are spots, its values nothing.
-/
import Derived.ChangeKeysEq
import Derived.MapKept
import Derived.Maps.OwnSet
import Derived.Test.YtcmmfihhnmhhgaaAnchorMem
namespace Go.Proofs.Ytcmmfihhnmhhgaa
open Go.RowKit
set_option linter.unusedVariables false
set_option linter.unusedSimpArgs false
set_option maxRecDepth 100000
namespace AncW
open BlkP RowG FrS PushG AncP
theorem fieldsV : (Try.prog.fieldsOf 23).toList.map (fun f => (f.name != "_", f.type, f.offset)) = [(true, 3, 0), (true, 3, 1), (true, 3, 2)] := by kernel_rfl
theorem underV : Try.prog.underlying 23 = some (.struct (Try.prog.fieldsOf 23)) := by kernel_rfl
theorem stoodV : Try.prog.stoodInHeld 23 = false := by kernel_rfl
theorem underI : Try.prog.underlying 3 = some (.int .i64) := by kernel_rfl
theorem sizeI : (Try.prog.info? 3).map (·.size) = some 1 := by kernel_rfl
theorem run_partI (w : World) (x y z : Value) : (part 3 #[x, y, z] 0).run Try.prog w = .ok x w ∧ (part 3 #[x, y, z] 1).run Try.prog w = .ok y w ∧ (part 3 #[x, y, z] 2).run Try.prog w = .ok z w := by
  have hagg : (isAgg 3).run Try.prog w = .ok false w := by
    unfold isAgg
    rw [Sem.run_bind, run_underlying underI w]
    simp
  refine ⟨?_, ?_, ?_⟩ <;> simp [part, Sem.run_bind, hagg]
theorem run_eqI (w : World) (d : Nat) (x y : Int) : (Op.equalIn (d + 1) 3 (.int .i64 x) (.int .i64 y)).run Try.prog w = .ok (decide (x = y)) w := by
  have h := run_equalIn_int (P := Try.prog) w d 3 .i64 .i64 x y underI
  rw [h]
  congr 1
theorem run_eqV (w : World) (d : Nat) (a b : V) : (Op.equalIn (d + 2) 23 (.agg #[.int .i64 a.1, .int .i64 a.2.1, .int .i64 a.2.2]) (.agg #[.int .i64 b.1, .int .i64 b.2.1, .int .i64 b.2.2])).run Try.prog w = .ok (decide (a = b)) w := by
  have h := run_equalIn_agg (P := Try.prog) w (d + 1) 23 #[.int .i64 a.1, .int .i64 a.2.1, .int .i64 a.2.2] #[.int .i64 b.1, .int .i64 b.2.1, .int .i64 b.2.2] underV stoodV
  rw [h]
  have hf := fieldsV
  generalize (Try.prog.fieldsOf 23).toList = fs at hf ⊢
  have hl : fs.length = 3 := by simpa using congrArg List.length hf
  rcases fs with _ | ⟨f0, _ | ⟨f1, _ | ⟨f2, _ | ⟨f3, ft⟩⟩⟩⟩
  · simp at hl
  · simp at hl
  · simp at hl
  · simp only [List.map_cons, List.map_nil, List.cons.injEq, Prod.mk.injEq, and_true] at hf
    obtain ⟨⟨n0, t0, o0⟩, ⟨n1, t1, o1⟩, n2, t2, o2⟩ := hf
    have m0 : f0.name ≠ "_" := by simpa using n0
    have m1 : f1.name ≠ "_" := by simpa using n1
    have m2 : f2.name ≠ "_" := by simpa using n2
    have e : decide (a = b) = (decide (a.1 = b.1) && (decide (a.2.1 = b.2.1) && decide (a.2.2 = b.2.2))) := by
      rw [Bool.eq_iff_iff]
      simp [Prod.ext_iff]
    rw [e]
    unfold Op.eqFields
    simp only [m0, t0, o0, ne_eq, not_false_eq_true, if_true, Sem.run_bind, (run_partI w _ _ _).1, Result.andThen_ok, run_eqI]
    cases decide (a.1 = b.1)
    · simp
    · unfold Op.eqFields
      simp only [m1, t1, o1, ne_eq, not_false_eq_true, if_true, Sem.run_bind, (run_partI w _ _ _).2.1, Result.andThen_ok, run_eqI, Bool.not_true, Bool.false_eq_true, if_false]
      cases decide (a.2.1 = b.2.1)
      · simp
      · unfold Op.eqFields
        simp only [m2, t2, o2, ne_eq, not_false_eq_true, if_true, Sem.run_bind, (run_partI w _ _ _).2.2, Result.andThen_ok, run_eqI, Bool.not_true, Bool.false_eq_true, if_false]
        cases decide (a.2.2 = b.2.2)
        · simp
        · simp [Op.eqFields]
  · simp at hl
def ents : Nat → List V → List MapEntry
  | _, [] => []
  | s, c :: r => { key := .agg #[.int .i64 c.1, .int .i64 c.2.1, .int .i64 c.2.2], val := .agg #[], born := s } :: ents (s + 1) r
/-- The block M is the map of what was met. -/
def MapS (w : World) (M : Nat) (l : List V) : Prop := w.heap[M]? = some (.map (ents 0 l).toArray l.length)
theorem MapS.lt {w : World} {M : Nat} {l : List V} (h : MapS w M l) : M < w.heap.size := (Array.getElem?_eq_some_iff.1 h).1
theorem MapS.below {w w' : World} {M : Nat} {l : List V} (h : MapS w M l) (hb : Below w.heap.size w w') : MapS w' M l := (hb.block M h.lt).trans h
theorem MapS.grown {w w' : World} {M : Nat} {l : List V} {r : Option Nat} (h : MapS w M l) (hg : w.grownBy w' r) (hne : some M ≠ r) : MapS w' M l := (hg.block M h.lt hne).trans h
theorem MapS.alloc {w : World} {M : Nat} {l : List V} (h : MapS w M l) (o : Obj) : MapS (w.alloc o) M l := (heap_alloc_old w o h.lt).trans h
theorem MapS.set {w : World} {M : Nat} {l : List V} (h : MapS w M l) {a : Addr} (hne : M ≠ a.block) (v : Value) : MapS (w.setCell a v) M l := (heap_setCell_other w a M v hne).trans h
theorem MapS.drew {w : World} {M : Nat} {l : List V} (h : MapS w M l) : MapS w.drew M l := h
theorem MapS.drewN {w : World} {M : Nat} {l : List V} (h : MapS w M l) (n : Nat) : MapS (w.drewN n) M l := h
theorem MapS.blk {w : World} {M b : Nat} {l : List V} {T : TypeId} {vs : List Value} (h : MapS w M l) (hb : Blk w b T vs) : b ≠ M := fun e => by
  subst e
  unfold Blk at hb
  unfold MapS at h
  rw [hb] at h
  cases h
theorem MapS.own {α : Type} {e : Enc α} {E : TypeId} {w : World} {M B : Nat} {l : List V} {v : Value} {m : List α} (h : MapS w M l) (ho : RowG.Own e E w B v m) : v.ownBlock ≠ some M := fun q => by
  obtain ⟨us, hu⟩ := own_cells ho q
  exact h.blk hu rfl
theorem ents_app : ∀ (l : List V) (s : Nat) (c : V), ents s (l ++ [c]) = ents s l ++ [{ key := .agg #[.int .i64 c.1, .int .i64 c.2.1, .int .i64 c.2.2], val := .agg #[], born := s + l.length }]
  | [], s, c => rfl
  | x :: r, s, c => by
    rw [List.cons_append, ents, ents_app r (s + 1) c, ents, List.cons_append, List.length_cons]
    rw [show s + 1 + r.length = s + (r.length + 1) by omega]
theorem run_findAskingV (w : World) (q : V) : ∀ (l : List V) (s i : Nat), ∃ n, (Instr.findAsking 23 (.agg #[.int .i64 q.1, .int .i64 q.2.1, .int .i64 q.2.2]) (ents s l) i).run Try.prog w = .ok (if q ∈ l then some (n, .agg #[]) else none) w
  | [], s, i => ⟨0, by simp [ents, Instr.findAsking]⟩
  | x :: r, s, i => by
    have he : (Op.equal 23 (.agg #[.int .i64 q.1, .int .i64 q.2.1, .int .i64 q.2.2]) (.agg #[.int .i64 x.1, .int .i64 x.2.1, .int .i64 x.2.2])).run Try.prog w = .ok (decide (q = x)) w := run_eqV w 9998 q x
    rw [ents, Instr.findAsking]
    simp only [Sem.run_bind, he, Result.andThen_ok]
    by_cases h : q = x
    · subst h
      exact ⟨i, by simp⟩
    · obtain ⟨n, hn⟩ := run_findAskingV w q r (s + 1) (i + 1)
      refine ⟨n, ?_⟩
      simp only [decide_eq_false h, Bool.false_eq_true, if_false]
      rw [hn]
      congr 1
      simp [h]
theorem run_findKeyV (w : World) (q : V) (l : List V) : ∃ n, (Instr.findKey 23 (.agg #[.int .i64 q.1, .int .i64 q.2.1, .int .i64 q.2.2]) (ents 0 l)).run Try.prog w = .ok (if q ∈ l then some (n, .agg #[]) else none) w := by
  unfold Instr.findKey
  rw [Sem.run_bind, run_underlying underV]
  simp only [Result.andThen_ok]
  rcases l with _ | ⟨x, r⟩
  · exact ⟨0, by simp [ents, Instr.findNow]⟩
  · obtain ⟨n, h⟩ := run_findAskingV w q (x :: r) 0 0
    refine ⟨n, ?_⟩
    simp only [ents, Instr.findNow, Instr.sameNow]
    simpa [ents] using h
theorem run_checkKeyV (w : World) (em : Bool) (q : V) : (Instr.checkKey em 10000 23 (.agg #[.int .i64 q.1, .int .i64 q.2.1, .int .i64 q.2.2])).run Try.prog w = .ok () w := by kernel_rfl
abbrev TM : TypeId := 47
theorem underM : Try.prog.underlying TM = some (.map 23 49) := Try.underlying47
theorem infoN : (Try.prog.info? 49).map (fun i => (i.zero, i.size, i.bytes)) = some (some (.agg #[]), 0, 0) := by kernel_rfl
theorem run_lookupS {w : World} {M : Nat} {l : List V} (q : V) {b : Bool} (hb : decide (q ∈ l) = b) (h : MapS w M l) : (Instr.lookup TM (.map (some M)) (.agg #[.int .i64 q.1, .int .i64 q.2.1, .int .i64 q.2.2]) true).run Try.prog w = .ok (.tuple #[.agg #[], .bool b]) w := by
  subst hb
  obtain ⟨i, hi, hz, hs, hb⟩ := info_parts infoN
  have hg := MapKept.run_getObj_map (P := Try.prog) h
  have hc := fun em => run_checkKeyV w em q
  obtain ⟨n, hf⟩ := run_findKeyV w q l
  by_cases hm : q ∈ l
  · rw [if_pos hm] at hf
    simp [Instr.lookup, run_underlying underM, hg, hc, hf, Result.andThen, hm]
  · rw [if_neg hm] at hf
    simp [Instr.lookup, run_underlying underM, hg, hc, hf, Result.andThen, zeroValue, typeInfo, hi, hz, hm]
/-- A new spot joins. -/
theorem run_updateS {w : World} {M : Nat} {l : List V} {q : V} (h : MapS w M l) (hq : q ∉ l) : ∃ w', (Instr.mapUpdate TM (.map (some M)) (.agg #[.int .i64 q.1, .int .i64 q.2.1, .int .i64 q.2.2]) (.agg #[])).run Try.prog w = .ok () w' ∧ MapS w' M (l ++ [q]) ∧ w.grownBy w' (some M) := by
  have hg := MapKept.run_getObj_map (P := Try.prog) h
  have hk := fun em => run_checkKeyV w em q
  obtain ⟨n, hf⟩ := run_findKeyV w q l
  rw [if_neg hq] at hf
  have hset := MapKept.run_setObj_map (P := Try.prog) (.map ((ents 0 l).toArray.push { key := .agg #[.int .i64 q.1, .int .i64 q.2.1, .int .i64 q.2.2], val := .agg #[], born := l.length }) (l.length + 1)) h
  refine ⟨{ w with heap := w.heap.setIfInBounds M (.map ((ents 0 l).toArray.push { key := .agg #[.int .i64 q.1, .int .i64 q.2.1, .int .i64 q.2.2], val := .agg #[], born := l.length }) (l.length + 1)) }, ?_, ?_, ?_⟩
  · simp [Instr.mapUpdate, run_underlying underM, hg, hk, hf, Result.andThen]
    simpa using hset
  · have hlt := (Array.getElem?_eq_some_iff.1 h).1
    unfold MapS
    rw [ents_app, List.length_append]
    simp [hlt]
  · exact ⟨rfl, rfl, rfl, by simp, fun k hk hne => by
      have : M ≠ k := fun e => hne (by rw [e])
      simp [Array.getElem?_setIfInBounds_ne this]⟩
theorem run_mkM (w : World) : (Instr.makeMap TM none).run Try.prog w = .ok (.map (some w.heap.size)) (w.alloc (.map #[] 0)) := rfl
theorem MapS.new (w : World) : MapS (w.alloc (.map #[] 0)) w.heap.size [] := by
  unfold MapS
  rw [heap_alloc_new]
  rfl
end AncW
end Go.Proofs.Ytcmmfihhnmhhgaa
