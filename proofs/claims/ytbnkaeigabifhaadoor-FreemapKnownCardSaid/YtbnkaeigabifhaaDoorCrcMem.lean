/-
  Bytes in memory, however many: appended, one by one or a whole row; a byte of an own row stored; how many came in; bytes bit by bit one.
-/
import Derived.Test.YtbnkaeigabifhaaDoorBytesMem
import Derived.Test.YtbnkaeigabifhaaDoorBytesArg
import Derived.Test.YtbnkaeigabifhaaDoorOpenP
import Derived.Test.YtbnkaeigabifhaaDoorCrcBits
import Derived.SizedLaws
namespace Go.Proofs.YtbnkaeigabifhaaDoor
open Go.ChangeShapes Go.WideShapes Go.ChangeAt Go.RowKit Go.Deep
set_option linter.unusedVariables false
set_option linter.unusedSimpArgs false
namespace CrcM
open BytesW CrcP
theorem run_appG {w : World} {B : Nat} {v : Value} {l l2 : List UInt8} (hown : BytesW.Own w B v l) {A : Option Addr} {c : Nat} (hAt : AtC w A l2) (hl : l.length + l2.length ≤ 140737488355328) (hB : B ≤ w.heap.size) (ty : TypeId) :
    ∃ v' w', (Builtin.append_ #[51, 51] ty #[v, .slice A l2.length c]).run Tryd.prog w = .ok v' w' ∧ BytesW.Own w' B v' (l ++ l2) ∧ Below B w w' := by
  obtain ⟨i, hi, hz, hs1, hby⟩ := info_parts info5
  have hm : maxLen = 9223372036854775807 := rfl
  rcases A with _ | ad
  · have h0 : l2 = [] := by
      rcases l2 with _ | ⟨y, l2⟩
      · rfl
      · obtain ⟨b, o, hA, _⟩ := hAt (by simp)
        cases hA
    subst h0
    refine ⟨v, w, ?_, by simpa using hown, Below.refl _ _⟩
    rcases hown.2 with ⟨rfl, hn⟩ | ⟨g, cap, cur, rfl, _, _, hnc, _⟩
    · simp [Builtin.append_, run_underlying under26, sizeOf, typeInfo, hi, Builtin.lenOf, Builtin.firstCells]
    · simp [Builtin.append_, run_underlying under26, sizeOf, typeInfo, hi, Builtin.lenOf, Builtin.firstCells, hnc, storeCells]
  · have hnews : ∀ j u, (l2.map bv)[j]? = some u → w.cell? (ad.add j) = some u := fun j u hu => by
      rw [List.getElem?_map] at hu
      obtain ⟨y, hy, rfl⟩ := Option.map_eq_some_iff.1 hu
      obtain ⟨b, o, hA, hc⟩ := hAt.cells (fun e => by subst e; simp at hy)
      obtain rfl := Option.some.inj hA
      rw [addr_add]
      exact hc j y hy
    obtain ⟨v', w', hr, h2, h3, _, _⟩ := run_append_own_at (P := Tryd.prog) w B 51 ty 5 i _ 1 1 under26 hi hz hs1 hby rfl (by omega) v l.length (l.map bv) hown ad l2.length c (l2.map bv) (by simp) hnews
      (fun u hu => by obtain ⟨y, _, rfl⟩ := List.mem_map.1 hu; rfl) (by omega) (by omega) hB
    refine ⟨v', w', hr, ?_, below_of_grown hown h3 hB⟩
    unfold BytesW.Own
    rw [List.length_append, List.map_append]
    exact h2
section
variable {w : World} {ops : Array Oper} {rest : List Oper} {o : Oper} {a : Act} {Q : Exit → Act → World → Prop}
/-- append(v, b..), v of the call's own, any slice b. -/
theorem wp_appG (hgd : o.guard = none) (s x : Operand) (ho : o.op = .call { callee := .builtin .append, args := #[s, x], argTypes := #[51, 51] })
    {B : Nat} {v : Value} {l l2 : List UInt8} (hs : a.eval s = v) (hown : BytesW.Own w B v l) {A : Option Addr} {c : Nat} (hx : a.eval x = .slice A l2.length c) (hAt : AtC w A l2) (hl : l.length + l2.length ≤ 140737488355328) (hB : B ≤ w.heap.size)
    (h : ∀ v' w', BytesW.Own w' B v' (l ++ l2) → Below B w w' → wpList Tryd.prog ops Q rest (a.put o.dst v') w') : wpList Tryd.prog ops Q (o :: rest) a w := by
  refine wpList_plain hgd fun K hK => ?_
  obtain ⟨v', w', hr, h2, h3⟩ := run_appG hown (c := c) hAt hl hB o.type
  unfold Oper.wp execOp
  simp only [ho, resolve, invoke, builtin, Sem.run_bind, Sem.run_pure, Result.andThen_ok, List.map_toArray, List.map_cons, List.map_nil, hs, hx, hr]
  exact hK _ _ (h v' w' h2 h3)
/-- The same, as one operation of a drawn region. -/
theorem step_appG {K : Act → World → Prop} {E : Prop} (hgd : o.guard = none) (s x : Operand) (ho : o.op = .call { callee := .builtin .append, args := #[s, x], argTypes := #[51, 51] })
    {B : Nat} {v : Value} {l l2 : List UInt8} (hs : a.eval s = v) (hown : BytesW.Own w B v l) {A : Option Addr} {c : Nat} (hx : a.eval x = .slice A l2.length c) (hAt : AtC w A l2) (hl : l.length + l2.length ≤ 140737488355328) (hB : B ≤ w.heap.size)
    (h : ∀ v' w', BytesW.Own w' B v' (l ++ l2) → Below B w w' → K (a.put o.dst v') w') : if Region.wanted o (yielded ops a.tmps) = true then Oper.wp Tryd.prog o a w K Q else E := by
  have hw : Region.wanted o (yielded ops a.tmps) = true := by simp [Region.wanted, hgd]
  rw [if_pos hw]
  obtain ⟨v', w', hr, h2, h3⟩ := run_appG hown (c := c) hAt hl hB o.type
  unfold Oper.wp execOp
  simp only [ho, resolve, invoke, builtin, Sem.run_bind, Sem.run_pure, Result.andThen_ok, List.map_toArray, List.map_cons, List.map_nil, hs, hx, hr]
  exact h v' w' h2 h3
/-- append(v, x) of one byte: x lies in a new block of its own. -/
theorem wp_pushB (hgd : o.guard = none) (s x : Operand) (ho : o.op = .call { callee := .builtin .append, args := #[s, x], argTypes := #[51, 51] })
    {B : Nat} {v : Value} {l : List UInt8} (w0 : World) (e : Int) (hw : w = w0.alloc (.cells #[.int .u8 e] 5)) (hs : a.eval s = v) (hown : BytesW.Own w0 B v l) (y : UInt8) (he : e = y.toNat) (hx : a.eval x = .slice (some ⟨w0.heap.size, 0, none⟩) 1 1) (hl : l.length + 1 ≤ 140737488355328) (hB : B ≤ w0.heap.size)
    (h : ∀ v' w', BytesW.Own w' B v' (l ++ [y]) → Below B w0 w' → wpList Tryd.prog ops Q rest (a.put o.dst v') w') : wpList Tryd.prog ops Q (o :: rest) a w := by
  subst hw he
  refine wp_appG hgd s x ho (l2 := [y]) hs (hown.alloc _) hx (At.c (fun _ => ⟨w0.heap.size, 0, #[bv y], (0, 0), rfl, heap_alloc_new w0 _, fun i x hx => ?_⟩)) (by simp; omega) (by simp; omega) fun v' w' h1 h2 => h v' w' h1 (((Below.refl B w0).alloc hB _).trans h2)
  match i, hx with
  | 0, hx =>
    have : y = x := by simpa using hx
    subst this
    rfl
theorem wp_knownC (hgd : o.guard = none) {v : Value} (hr : (execOp a.eval o).run Tryd.prog w = .ok (.value v) w) (h : wpList Tryd.prog ops Q rest (a.put o.dst v) w) : wpList Tryd.prog ops Q (o :: rest) a w := by
  refine wpList_plain hgd fun K hK => ?_
  unfold Oper.wp
  rw [hr]
  exact hK _ _ h
/-- b[:n], n a number of its own. -/
theorem wp_uptoN (hgd : o.guard = none) (x y : Operand) (ho : o.op = .slice 51 x none (some y) none) {A : Option Addr} {L c n : Nat} (hx : a.eval x = .slice A L c) (hy : a.eval y = .int .i64 n) (h1 : n ≤ L) (h2 : L ≤ c)
    (h : wpList Tryd.prog ops Q rest (a.put o.dst (.slice A n c)) w) : wpList Tryd.prog ops Q (o :: rest) a w :=
  wp_upto hgd x y ho hx hy (by omega) (by omega) h2 (by simpa using h)
end
theorem at_oneC (w0 : World) (y : UInt8) {e : Int} (he : e = y.toNat) : AtC (w0.alloc (.cells #[.int .u8 e] 5)) (some ⟨w0.heap.size, 0, none⟩) [y] := At.c (at_one he)
theorem run_uptoN (w : World) {A : Option Addr} {L c n : Nat} (h1 : n ≤ L) (h2 : L ≤ c) : (Instr.sliceAt 51 (.slice A L c) none (some (.int .i64 (n : Int))) none).run Tryd.prog w = .ok (.slice A n c) w := by
  have e : (if c = 0 then A else A.map (·.add 0)) = A := by
    split
    · rfl
    · cases A <;> simp [Addr.add]
  have h3 : n ≤ c := by omega
  obtain ⟨i, hi, _, hs, _⟩ := info_parts info5
  simp [Instr.sliceAt, Instr.slice, run_underlying under26, Instr.sliceBounds, run_sliceBound, h3, e, Result.andThen, sizeOf, typeInfo, hi, hs]
/-- A byte of an own row is stored. -/
theorem own_store {w : World} {B g n c : Nat} {l : List UInt8} (h : BytesW.Own w B (.slice (some ⟨g, 0, none⟩) n c) l) (i : Nat) (y : UInt8) :
    BytesW.Own (w.setCell ⟨g, i, none⟩ (bv y)) B (.slice (some ⟨g, 0, none⟩) n c) (l.set i y) ∧ w.grownBy (w.setCell ⟨g, i, none⟩ (bv y)) (some g) := by
  unfold BytesW.Own at h ⊢
  have hn : n = l.length := by
    rcases h.2 with ⟨h0, _⟩ | ⟨g', cap, cur, h0, _⟩
    · cases h0
    · injection h0
  rw [← hn] at h
  obtain ⟨h1, h2⟩ := h.stored i (bv y)
  rw [List.length_set, List.map_set, ← hn]
  exact ⟨h1, h2⟩
theorem own_form {w : World} {B : Nat} {v : Value} {l : List UInt8} (h : BytesW.Own w B v l) {n : Nat} (hn : l.length = n) : ∃ A c, v = .slice A n c ∧ n ≤ c ∧ c ≤ 9223372036854775807 ∧ AtC w A l ∧ (0 < n → ∃ g, A = some ⟨g, 0, none⟩ ∧ B ≤ g ∧ g < w.heap.size ∧ ∀ o, w.frozen? ⟨g, o, none⟩ = false) := by
  subst hn
  have hlt := World.ownsRow.lt h
  obtain ⟨A, c, rfl, hA, hc, hm⟩ := h.sl
  refine ⟨A, c, rfl, hc, hm, hA.c, fun q => ?_⟩
  unfold BytesW.Own at h
  rcases h.2 with ⟨h0, hn⟩ | ⟨g, cap, cur, h0, hB, hg, _⟩
  · omega
  · injection h0 with h0
    subst h0
    exact ⟨g, rfl, hB, (hlt g rfl).2, fun o => frozen_of_row w g o _ _ hg⟩
section
variable {H : Type} {enc : TypeId × Value → H} {W : World}
theorem bytes_sized {A : Option Addr} {n c j : Nat} {d : DataW H} {p : List MemPlace} {ts : List TypeId} {ds : List (DataW H)} (h : DataW.Trod enc Tryd.prog W 0 (fun _ => true) true 51 (.slice A n c) d p) (ht : ts[j]? = some 51) (hd : ds[j]? = some d)
    (hsz : (DataW.weightsEach Tryd.prog ts ds).all (· ≤ reachBytes) = true) : n ≤ reachBytes := by
  obtain ⟨fuel, hf⟩ := h
  have zb : Tryd.prog.bytesOf 5 = 1 := by kernel_rfl
  rcases DataW.trod_slice (cs := [.slice A n c]) Tryd.underlying51 hf with ⟨h0, _⟩ | ⟨a, len, cap, elems, rest, m, _, hcs, he, _, _, _, hl, _⟩
  · injection h0 with h0 _
    injection h0 with _ h0 _
    omega
  · injection hcs with hcs _
    injection hcs with _ hn _
    have hy : d = DataW.slice (elems.map (·.1)) (rest.map (·.1)) := by
      have := congrArg Prod.fst he
      simpa using this
    have hmem : ((elems.map (·.1)).length + (rest.map (·.1)).length) * Tryd.prog.bytesOf 5 ∈ DataW.weights Tryd.prog 51 d := by
      rw [hy]
      unfold DataW.weights
      rw [Tryd.underlying51]
      simp
    have hall := List.all_eq_true.1 hsz _ (DataW.weights_mem_each (j := j) ht hd _ hmem)
    rw [zb, List.length_map, List.length_map] at hall
    simp only [decide_eq_true_eq] at hall
    omega
theorem bulk_pos {H : Type} (d : DataW H) : 0 < Rows.uptoBulk d := by
  cases d with
  | lit l => cases l <;> simp [Rows.uptoBulk]
  | _ => simp [Rows.uptoBulk]
theorem bulk_len {H : Type} : ∀ l : List (DataW H), l.length ≤ Rows.uptoBulkAll l
  | [] => Nat.zero_le _
  | d :: r => by
    have h1 := bulk_pos d
    have h2 := bulk_len r
    simp only [Rows.uptoBulkAll, List.length_cons]
    omega
theorem bytes_bulk {A : Option Addr} {n c : Nat} {d : DataW H} {p : List MemPlace} (h : DataW.Trod enc Tryd.prog W 0 (fun _ => true) true 51 (.slice A n c) d p) : n ≤ Rows.uptoBulk d := by
  obtain ⟨fuel, hf⟩ := h
  rcases DataW.trod_slice (cs := [.slice A n c]) Tryd.underlying51 hf with ⟨h0, _⟩ | ⟨a, len, cap, elems, rest, m, _, hcs, he, _, _, _, hl, _⟩
  · injection h0 with h0 _
    injection h0 with _ h0 _
    omega
  · injection hcs with hcs _
    injection hcs with _ hn _
    have hy : d = DataW.slice (elems.map (·.1)) (rest.map (·.1)) := by
      have := congrArg Prod.fst he
      simpa using this
    have h2 := bulk_len (elems.map (·.1))
    rw [List.length_map] at h2
    rw [hy]
    simp only [Rows.uptoBulk]
    omega
end
/-- Bytes bit by bit one, as numbers. -/
theorem xor_byte (a b : UInt8) : bits .xor .u8 (a.toNat : Int) (b.toNat : Int) = ((a ^^^ b).toNat : Int) := by
  show IntKind.u8.wrap (((BitVec.ofInt 8 (a.toNat : Int) ^^^ BitVec.ofInt 8 (b.toNat : Int)).toNat : Nat) : Int) = _
  have e : ∀ x : UInt8, BitVec.ofInt 8 (x.toNat : Int) = x.toBitVec := fun x => by
    rw [BitVec.ofInt_natCast]
    exact BitVec.ofNat_toNat ..
  rw [e, e, IntKind.wrap_u8]
  have h := (a ^^^ b).toNat_lt
  have h2 : (a.toBitVec ^^^ b.toBitVec).toNat = (a ^^^ b).toNat := rfl
  rw [h2]
  omega
end CrcM
end Go.Proofs.YtbnkaeigabifhaaDoor
