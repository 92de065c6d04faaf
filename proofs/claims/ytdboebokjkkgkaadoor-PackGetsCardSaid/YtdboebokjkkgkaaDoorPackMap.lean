/-
  The map of the palette: from cells to their places.
-/
import Derived.MapKept
import Derived.Maps.OwnSet
import Derived.Test.YtdboebokjkkgkaaDoorPackGet
namespace Go.Proofs.YtdboebokjkkgkaaDoor
open Go.RowKit
set_option linter.unusedVariables false
set_option linter.unusedSimpArgs false
set_option maxRecDepth 100000
namespace PackW
open BytesW RunsW

def encC (c : Cell) : Value := .agg #[bv c.1, bv c.2]
theorem fieldsCell : (Tryd.prog.fieldsOf 43).toList.map (fun f => (f.name != "_", f.type, f.offset)) = [(true, 5, 0), (true, 5, 1)] := by kernel_rfl
theorem underCell2 : Tryd.prog.underlying 43 = some (.struct (Tryd.prog.fieldsOf 43)) := by kernel_rfl
theorem stoodCell : Tryd.prog.stoodInHeld 43 = false := by kernel_rfl
theorem sizeU8 : (Tryd.prog.info? 5).map (·.size) = some 1 := by kernel_rfl
theorem run_partU8 (w : World) (x y : Value) : (part 5 #[x, y] 0).run Tryd.prog w = .ok x w ∧ (part 5 #[x, y] 1).run Tryd.prog w = .ok y w := by
  have hagg : (isAgg 5).run Tryd.prog w = .ok false w := by
    unfold isAgg
    rw [Sem.run_bind, run_underlying under5 w]
    simp
  constructor <;> simp [part, Sem.run_bind, hagg]
theorem run_eqU8 (w : World) (d : Nat) (x y : UInt8) : (Op.equalIn (d + 1) 5 (bv x) (bv y)).run Tryd.prog w = .ok (decide (x = y)) w := by
  have h := run_equalIn_int (P := Tryd.prog) w d 5 .u8 .u8 (x.toNat : Int) (y.toNat : Int) under5
  rw [bv, bv, h]
  congr 1
  rw [Bool.eq_iff_iff]
  simp only [beq_iff_eq, decide_eq_true_eq]
  constructor
  · intro h
    exact UInt8.toNat_inj.1 (by omega)
  · rintro rfl
    rfl
theorem run_eqCell (w : World) (d : Nat) (a b : Cell) : (Op.equalIn (d + 2) 43 (encC a) (encC b)).run Tryd.prog w = .ok (decide (a = b)) w := by
  have h := run_equalIn_agg (P := Tryd.prog) w (d + 1) 43 #[bv a.1, bv a.2] #[bv b.1, bv b.2] underCell2 stoodCell
  unfold encC
  rw [h]
  have hf := fieldsCell
  generalize (Tryd.prog.fieldsOf 43).toList = fs at hf ⊢
  have hl : fs.length = 2 := by simpa using congrArg List.length hf
  rcases fs with _ | ⟨f0, _ | ⟨f1, _ | ⟨f2, ft⟩⟩⟩
  · simp at hl
  · simp at hl
  · simp only [List.map_cons, List.map_nil, List.cons.injEq, Prod.mk.injEq, and_true] at hf
    obtain ⟨⟨n0, t0, o0⟩, n1, t1, o1⟩ := hf
    have m0 : f0.name ≠ "_" := by simpa using n0
    have m1 : f1.name ≠ "_" := by simpa using n1
    have e : decide (a = b) = (decide (a.1 = b.1) && decide (a.2 = b.2)) := by
      rw [Bool.eq_iff_iff]
      simp [Prod.ext_iff]
    rw [e]
    unfold Op.eqFields
    simp only [m0, t0, o0, ne_eq, not_false_eq_true, if_true, Sem.run_bind, (run_partU8 w (bv a.1) (bv a.2)).1, (run_partU8 w (bv b.1) (bv b.2)).1, Result.andThen_ok, run_eqU8]
    cases decide (a.1 = b.1)
    · simp
    · unfold Op.eqFields
      simp only [m1, t1, o1, ne_eq, not_false_eq_true, if_true, Sem.run_bind, (run_partU8 w (bv a.1) (bv a.2)).2, (run_partU8 w (bv b.1) (bv b.2)).2, Result.andThen_ok, run_eqU8, Bool.not_true, Bool.false_eq_true, if_false]
      cases decide (a.2 = b.2)
      · simp
      · simp [Op.eqFields]
  · simp at hl

/-- The entries of a palette, from place s on. -/
def ents : Nat → List Cell → List MapEntry
  | _, [] => []
  | s, c :: r => { key := encC c, val := .int .u8 s, born := s } :: ents (s + 1) r
theorem ents_app : ∀ (l : List Cell) (s : Nat) (c : Cell), ents s (l ++ [c]) = ents s l ++ [{ key := encC c, val := .int .u8 (s + l.length : Nat), born := s + l.length }]
  | [], s, c => rfl
  | x :: r, s, c => by
    rw [List.cons_append, ents, ents_app r (s + 1) c, ents, List.cons_append, List.length_cons]
    rw [show s + 1 + r.length = s + (r.length + 1) by omega]
theorem run_findAsking (w : World) (c : Cell) : ∀ (P : List Cell) (s i : Nat), (Instr.findAsking 43 (encC c) (ents s P) i).run Tryd.prog w = .ok (if c ∈ P then some (i + P.idxOf c, .int .u8 (s + P.idxOf c : Nat)) else none) w
  | [], s, i => by simp [ents, Instr.findAsking]
  | x :: r, s, i => by
    have he : (Op.equal 43 (encC c) (encC x)).run Tryd.prog w = .ok (decide (c = x)) w := run_eqCell w 9998 c x
    rw [ents, Instr.findAsking]
    simp only [Sem.run_bind, he, Result.andThen_ok]
    by_cases h : c = x
    · subst h
      simp
    · have h2 : (x == c) = false := by simpa using fun e => h e.symm
      simp only [decide_eq_false h, Bool.false_eq_true, if_false]
      rw [run_findAsking w c r (s + 1) (i + 1)]
      simp only [List.mem_cons, h, false_or, List.idxOf_cons, h2, cond_false]
      rw [show i + 1 + r.idxOf c = i + (r.idxOf c + 1) by omega, show s + 1 + r.idxOf c = s + (r.idxOf c + 1) by omega]
theorem run_findKey (w : World) (c : Cell) (P : List Cell) : (Instr.findKey 43 (encC c) (ents 0 P)).run Tryd.prog w = .ok (if c ∈ P then some (P.idxOf c, .int .u8 (P.idxOf c : Nat)) else none) w := by
  unfold Instr.findKey
  rw [Sem.run_bind, run_underlying underCell2]
  simp only [Result.andThen_ok]
  rcases P with _ | ⟨x, r⟩
  · simp [ents, Instr.findNow]
  · have h := run_findAsking w c (x :: r) 0 0
    simp only [Nat.zero_add] at h
    simp only [ents, Instr.findNow, Instr.sameNow, encC]
    simpa [ents, encC] using h
theorem run_checkKey (w : World) (em : Bool) (c : Cell) : (Instr.checkKey em 10000 43 (encC c)).run Tryd.prog w = .ok () w := by kernel_rfl
theorem underMap : Tryd.prog.underlying 88 = some (.map 43 5) := Tryd.underlying88
/-- The block b is the map of the palette P. -/
def MapP (w : World) (b : Nat) (P : List Cell) : Prop := w.heap[b]? = some (.map (ents 0 P).toArray P.length)
theorem run_lookup {w : World} {b : Nat} {P : List Cell} {c : Cell} (h : MapP w b P) : (Instr.lookup 88 (.map (some b)) (encC c) true).run Tryd.prog w = .ok (.tuple #[.int .u8 (if c ∈ P then (P.idxOf c : Int) else 0), .bool (decide (c ∈ P))]) w := by
  obtain ⟨i, hi, hz, hs, hb⟩ := info_parts info5
  have hg := MapKept.run_getObj_map (P := Tryd.prog) h
  have hc := fun em => run_checkKey w em c
  have hf := run_findKey w c P
  by_cases hm : c ∈ P
  · rw [if_pos hm] at hf
    simp [Instr.lookup, run_underlying underMap, hg, hc, hf, hm, Result.andThen]
  · rw [if_neg hm] at hf
    simp [Instr.lookup, run_underlying underMap, hg, hc, hf, hm, Result.andThen, zeroValue, typeInfo, hi, hz]
theorem run_update {w : World} {b : Nat} {P : List Cell} {c : Cell} (h : MapP w b P) (hc : c ∉ P) : ∃ w', (Instr.mapUpdate 88 (.map (some b)) (encC c) (.int .u8 (P.length : Nat))).run Tryd.prog w = .ok () w' ∧ MapP w' b (P ++ [c]) ∧ w.grownBy w' (some b) := by
  have hg := MapKept.run_getObj_map (P := Tryd.prog) h
  have hk := fun em => run_checkKey w em c
  have hf := run_findKey w c P
  rw [if_neg hc] at hf
  have hset := MapKept.run_setObj_map (P := Tryd.prog) (.map ((ents 0 P).toArray.push { key := encC c, val := .int .u8 (P.length : Nat), born := P.length }) (P.length + 1)) h
  refine ⟨{ w with heap := w.heap.setIfInBounds b (.map ((ents 0 P).toArray.push { key := encC c, val := .int .u8 (P.length : Nat), born := P.length }) (P.length + 1)) }, ?_, ?_, ?_⟩
  · simp [Instr.mapUpdate, run_underlying underMap, hg, hk, hf, Result.andThen]
    simpa using hset
  · have hlt := (Array.getElem?_eq_some_iff.1 h).1
    unfold MapP
    rw [ents_app, List.length_append]
    simp [hlt]
  · exact ⟨rfl, rfl, rfl, by simp, fun k hk hne => by
      have : b ≠ k := fun e => hne (by rw [e])
      simp [Array.getElem?_setIfInBounds_ne this]⟩
section
variable {w : World} {ops : Array Oper} {rest : List Oper} {o : Oper} {a : Act} {Q : Exit → Act → World → Prop}
theorem wp_lookupP (hgd : o.guard = none) (m x : Operand) (ho : o.op = .lookup 88 m x true) {b : Nat} {P : List Cell} {c : Cell} {X Y : Int} (hm : a.eval m = .map (some b)) (h : MapP w b P) (hx : a.eval x = .agg #[.int .u8 X, .int .u8 Y]) (hX : X = (c.1.toNat : Int)) (hY : Y = (c.2.toNat : Int)) {n : Int} {q : Bool} (hn : (if c ∈ P then (P.idxOf c : Int) else 0) = n) (hq : decide (c ∈ P) = q)
    (hK : wpList Tryd.prog ops Q rest (a.put o.dst (.tuple #[.int .u8 n, .bool q])) w) : wpList Tryd.prog ops Q (o :: rest) a w := by
  subst hX hY hn hq
  refine wpList_plain hgd fun K hK' => ?_
  have hr := run_lookup (c := c) h
  unfold encC bv at hr
  unfold Oper.wp execOp
  simp only [ho, hm, hx, Sem.run_bind, Sem.run_pure, Result.andThen_ok, hr]
  exact hK' _ _ hK
theorem wp_updateP (hgd : o.guard = none) (m x y : Operand) (ho : o.op = .mapUpdate 88 m x y) {b : Nat} {P : List Cell} {c : Cell} {X Y N : Int} (hm : a.eval m = .map (some b)) (h : MapP w b P) (hx : a.eval x = .agg #[.int .u8 X, .int .u8 Y]) (hX : X = (c.1.toNat : Int)) (hY : Y = (c.2.toNat : Int)) (hy : a.eval y = .int .u8 N) (hN : N = (P.length : Int)) (hc : c ∉ P)
    (hK : ∀ w', MapP w' b (P ++ [c]) → w.grownBy w' (some b) → wpList Tryd.prog ops Q rest (a.put o.dst undef) w') : wpList Tryd.prog ops Q (o :: rest) a w := by
  subst hX hY hN
  refine wpList_plain hgd fun K hK' => ?_
  obtain ⟨w', hr, h1, h2⟩ := run_update h hc
  unfold encC bv at hr
  unfold Oper.wp execOp
  simp only [ho, hm, hx, hy, Sem.run_bind, Sem.run_pure, Result.andThen_ok, hr]
  exact hK' _ _ (hK w' h1 h2)
end
end PackW
end Go.Proofs.YtdboebokjkkgkaaDoor
