/-
  A map's homes, laid in one row of bytes.
-/
import Derived.Test.YtbnkaeigabifhaaDoorFreeMade
import Derived.Test.YtbnkaeigabifhaaDoorFreeHome
import Derived.Test.YtbnkaeigabifhaaDoorCrcCalls
import Derived.Test.YtbnkaeigabifhaaDoorBytesPuts
import Derived.Laws.IdiomCopy
-- mine: whole_c same_c awake_c take_c step_c back_c Made number_c next_c fixed_c clone_c int_c end_c put_c
namespace Go.Proofs.YtbnkaeigabifhaaDoor
open Go.RowKit
set_option linter.unusedVariables false
set_option linter.unusedSimpArgs false
set_option maxRecDepth 100000
namespace FreW
open BlkP RowG FrS PushG FreP
open BytesW (bv AtC fx fx_length)
open CrcP (nat)
open CrcW (Tab)
abbrev T8 : TypeId := 5
abbrev T8s : TypeId := 51
/-! ### A row of bytes and a part of it -/
def putAt : List UInt8 → Nat → List UInt8 → List UInt8
  | R, _, [] => R
  | R, o, y :: r => putAt (R.set o y) (o + 1) r
theorem putAt_len : ∀ (l R : List UInt8) (o : Nat), (putAt R o l).length = R.length
  | [], _, _ => rfl
  | y :: r, R, o => by
    show (putAt (R.set o y) (o + 1) r).length = _
    rw [putAt_len r, List.length_set]
theorem putAt_app : ∀ (l P Z : List UInt8), l.length ≤ Z.length → putAt (P ++ Z) P.length l = P ++ l ++ Z.drop l.length
  | [], P, Z, _ => by simp [putAt]
  | y :: r, P, [], h => by simp at h
  | y :: r, P, z :: Z, h => by
    have ih := putAt_app r (P ++ [y]) Z (by simpa using h)
    have e : (P ++ z :: Z).set P.length y = (P ++ [y]) ++ Z := by
      rw [List.set_append_right _ _ (Nat.le_refl _), Nat.sub_self, List.set_cons_zero, List.append_assoc, List.singleton_append]
    show putAt ((P ++ z :: Z).set P.length y) (P.length + 1) r = _
    rw [e, show P.length + 1 = (P ++ [y]).length by simp, ih]
    simp
theorem own_cells_set : ∀ (l : List UInt8) (o : Nat) {w : World} {B g n c : Nat} {R : List UInt8}, BytesW.Own w B (.slice (some ⟨g, 0, none⟩) n c) R →
    BytesW.Own (w.setCells g o (l.map bv)) B (.slice (some ⟨g, 0, none⟩) n c) (putAt R o l) ∧ w.grownBy (w.setCells g o (l.map bv)) (some g)
  | [], o, w, B, g, n, c, R, h => ⟨h, World.grownBy.refl w _⟩
  | y :: r, o, w, B, g, n, c, R, h => by
    obtain ⟨h1, h2⟩ := CrcM.own_store h o y
    obtain ⟨h3, h4⟩ := own_cells_set r (o + 1) h1
    exact ⟨h3, World.grownBy.trans h2 h4⟩
theorem own_at {w : World} {B g n c : Nat} {R : List UInt8} (h : BytesW.Own w B (.slice (some ⟨g, 0, none⟩) n c) R) {i : Nat} {x : UInt8} (hx : R[i]? = some x) : w.cell? ⟨g, i, none⟩ = some (bv x) ∧ w.frozen? ⟨g, i, none⟩ = false ∧ g < w.heap.size ∧ B ≤ g := by
  have hi := (List.getElem?_eq_some_iff.1 hx).1
  have hn : n = R.length := by
    unfold BytesW.Own at h
    rcases h.2 with ⟨h0, _⟩ | ⟨g', cap, cur, h0, _⟩
    · cases h0
    · injection h0
  obtain ⟨A, c', e, h1, h2, hA, hg⟩ := CrcM.own_form h hn.symm
  injection e with e1 e2 e3
  obtain ⟨g', q1, q2, q3, q4⟩ := hg (by omega)
  rw [q1] at e1
  injection e1 with e1
  injection e1 with e1
  subst e1
  obtain ⟨b, o, q5, q6, q7⟩ := hA (fun e => by rw [e] at hi; simp at hi)
  rw [q1] at q5
  injection q5 with q5
  injection q5 with q5 q8
  subst q5 q8
  have := q7 i x hx
  rw [Nat.zero_add] at this
  exact ⟨this, q4 i, q3, q2⟩
theorem atC_sub {w : World} {B g n c : Nat} {P M Z : List UInt8} (h : BytesW.Own w B (.slice (some ⟨g, 0, none⟩) n c) (P ++ (M ++ Z))) : AtC w (some ⟨g, P.length, none⟩) M := fun hl => by
  have h0 : 0 < M.length := List.length_pos_iff.2 hl
  have e : (P ++ (M ++ Z))[P.length]? = some M[0] := by
    rw [List.getElem?_append_right (Nat.le_refl _), Nat.sub_self, List.getElem?_append_left h0, List.getElem?_eq_getElem h0]
  refine ⟨g, P.length, rfl, (own_at h e).2.2.1, fun i x hx => (own_at h ?_).1⟩
  have hi := (List.getElem?_eq_some_iff.1 hx).1
  rw [List.getElem?_append_right (by omega), Nat.add_sub_cancel_left, List.getElem?_append_left hi]
  exact hx
/-- append(s, b...), s a part of a row of the call's own, with room behind it. -/
theorem run_room {w : World} {B g N C : Nat} {P M Z l2 : List UInt8} (h : BytesW.Own w B (.slice (some ⟨g, 0, none⟩) N C) (P ++ (M ++ Z))) {n m c c2 : Nat} (hM : M.length = n) (h2 : l2.length = m) (hZ : m ≤ Z.length) (hc : n + m ≤ c) (hm : 0 < m) {A : Option Addr} (hA : AtC w A l2) (ty : TypeId) :
    ∃ w', (Builtin.append_ #[T8s, T8s] ty #[.slice (some ⟨g, P.length, none⟩) n c, .slice A m c2]).run Tryd.prog w = .ok (.slice (some ⟨g, P.length, none⟩) (n + m) c) w' ∧ BytesW.Own w' B (.slice (some ⟨g, 0, none⟩) N C) (P ++ ((M ++ l2) ++ Z.drop m)) ∧ w.grownBy w' (some g) := by
  obtain ⟨i, hi, hz, hs1, hby⟩ := info_parts BytesW.info5
  obtain ⟨b, o, rfl, hbl, hcs⟩ := hA (fun e => by rw [e] at h2; simp at h2; omega)
  have hget : ∀ j, j < m → ∃ z, (P ++ (M ++ Z))[P.length + n + j]? = some z := fun j hj => by
    refine ⟨_, List.getElem?_eq_getElem ?_⟩
    simp
    omega
  have hr := run_append_room_cells (P := Tryd.prog) w T8s ty T8 i BytesW.under26 hi g P.length n c ⟨b, o, none⟩ m c2 (l2.map bv) (by rw [List.length_map, h2, hs1, Nat.mul_one]) (fun j u hu => by
    have hadd : (⟨b, o, none⟩ : Addr).add j = ⟨b, o + j, none⟩ := by unfold Addr.add; split <;> simp_all
    rw [hadd]
    rw [List.getElem?_map] at hu
    cases hx : l2[j]? with
    | none => rw [hx] at hu; cases hu
    | some x =>
      rw [hx] at hu
      injection hu with hu
      rw [← hu]
      exact hcs j x hx) (fun u hu => by
    obtain ⟨x, _, rfl⟩ := List.mem_map.1 hu
    rfl) hc (fun j hj => by
    rw [hs1, Nat.mul_one]
    rw [List.length_map, h2] at hj
    obtain ⟨z, hz⟩ := hget j hj
    rw [(own_at h hz).1]
    rfl) (fun j hj => by
    rw [hs1, Nat.mul_one]
    rw [List.length_map, h2] at hj
    obtain ⟨z, hz⟩ := hget j hj
    exact (own_at h hz).2.1)
  rw [hs1, Nat.mul_one] at hr
  obtain ⟨h3, h4⟩ := own_cells_set l2 (P.length + n) h
  refine ⟨_, hr, ?_, h4⟩
  have e := putAt_app l2 (P ++ M) Z (by omega)
  rw [List.append_assoc, List.length_append, hM] at e
  rw [e, h2] at h3
  simpa [List.append_assoc] using h3
section
variable {w : World} {ops : Array Oper} {rest : List Oper} {o : Oper} {a : Act} {Q : Exit → Act → World → Prop}
theorem wp_room (hgd : o.guard = none) (s x : Operand) (ho : o.op = .call { callee := .builtin .append, args := #[s, x], argTypes := #[T8s, T8s] })
    {B g N C F : Nat} {P M Z l2 : List UInt8} {n m c c2 : Nat} {A : Option Addr} (hF : P.length = F) (hs : a.eval s = .slice (some ⟨g, F, none⟩) n c) (hx : a.eval x = .slice A m c2)
    (h : BytesW.Own w B (.slice (some ⟨g, 0, none⟩) N C) (P ++ (M ++ Z))) (hM : M.length = n) (h2 : l2.length = m) (hZ : m ≤ Z.length) (hc : n + m ≤ c) (hm : 0 < m) (hA : AtC w A l2)
    (hK : ∀ w', BytesW.Own w' B (.slice (some ⟨g, 0, none⟩) N C) (P ++ ((M ++ l2) ++ Z.drop m)) → w.grownBy w' (some g) → wpList Tryd.prog ops Q rest (a.put o.dst (.slice (some ⟨g, F, none⟩) (n + m) c)) w') : wpList Tryd.prog ops Q (o :: rest) a w := by
  subst hF
  refine wpList_plain hgd fun K hK' => ?_
  obtain ⟨w', hr, h3, h4⟩ := run_room h (c2 := c2) hM h2 hZ hc hm hA o.type
  unfold Oper.wp execOp
  simp only [ho, resolve, invoke, builtin, Sem.run_bind, Sem.run_pure, Result.andThen_ok, List.map_toArray, List.map_cons, List.map_nil, hs, hx, hr]
  exact hK' _ _ (hK w' h3 h4)
/-- row[lo:hi:max]. -/
theorem wp_part3 (hgd : o.guard = none) (s x y z : Operand) (ho : o.op = .slice T8s s (some x) (some y) (some z)) {g N lo hi mx : Nat} (hs : a.eval s = .slice (some ⟨g, 0, none⟩) N N) {X Y Z : Int} (hx : a.eval x = .int .i64 X) (hy : a.eval y = .int .i64 Y) (hz : a.eval z = .int .i64 Z) (eX : X = (lo : Int)) (eY : Y = (hi : Int)) (eZ : Z = (mx : Int)) (h1 : lo ≤ hi) (h2 : hi ≤ mx) (h3 : mx ≤ N) (h4 : lo < mx)
    (hK : wpList Tryd.prog ops Q rest (a.put o.dst (.slice (some ⟨g, lo, none⟩) (hi - lo) (mx - lo))) w) : wpList Tryd.prog ops Q (o :: rest) a w := by
  refine wpList_plain hgd fun K hK' => ?_
  subst eX eY eZ
  obtain ⟨i, hi0, hz0, hs1, hby⟩ := info_parts BytesW.info5
  have hadd : (⟨g, 0, none⟩ : Addr).add lo = ⟨g, lo, none⟩ := by unfold Addr.add; split <;> simp_all
  have e1 : ¬ mx = lo := by omega
  unfold Oper.wp
  simp [execOp, ho, hs, hx, hy, hz, Instr.sliceAt, Instr.slice, run_underlying BytesW.under26, Instr.sliceBounds, run_sliceBound, h1, h2, h3, e1, Result.andThen, sizeOf, typeInfo, hi0, hs1, hadd]
  exact hK' _ _ hK
/-- row[lo:hi]. -/
theorem wp_part2 (hgd : o.guard = none) (s x y : Operand) (ho : o.op = .slice T8s s (some x) (some y) none) {g N lo hi : Nat} (hs : a.eval s = .slice (some ⟨g, 0, none⟩) N N) {X Y : Int} (hx : a.eval x = .int .i64 X) (hy : a.eval y = .int .i64 Y) (eX : X = (lo : Int)) (eY : Y = (hi : Int)) (h1 : lo ≤ hi) (h3 : hi ≤ N) (h4 : lo < N)
    (hK : wpList Tryd.prog ops Q rest (a.put o.dst (.slice (some ⟨g, lo, none⟩) (hi - lo) (N - lo))) w) : wpList Tryd.prog ops Q (o :: rest) a w := by
  refine wpList_plain hgd fun K hK' => ?_
  subst eX eY
  obtain ⟨i, hi0, hz0, hs1, hby⟩ := info_parts BytesW.info5
  have hadd : (⟨g, 0, none⟩ : Addr).add lo = ⟨g, lo, none⟩ := by unfold Addr.add; split <;> simp_all
  have e1 : ¬ N = lo := by omega
  unfold Oper.wp
  simp [execOp, ho, hs, hx, hy, Instr.sliceAt, Instr.slice, run_underlying BytesW.under26, Instr.sliceBounds, run_sliceBound, h1, h3, e1, Result.andThen, sizeOf, typeInfo, hi0, hs1, hadd]
  exact hK' _ _ hK
end
theorem putF_c {w : World} {n : Nat} {x : Int} (hn : n < 18446744073709551616) (hx : x = (n : Int)) : Calls Tryd.prog 50 #[.slice none 0 0, .int .u64 x, .int .i64 4] w (BytesW.Gives w (fx n 4)) :=
  BytesW.putFixed_c (A := none) (l := []) (c := 0) (k := 4) BytesW.At.nil (by simp) hn hx
theorem octet_x {w : World} {B p n : Nat} {L : List Bool} {S : Nat → Prop} (h : Mp w B p n L S) {i : Nat} {x : Int} (hx : x = (i : Int)) (h8 : i % 8 = 0) (hi : i ≤ 1000000) : Calls Tryd.prog 49 #[.pointer (some ⟨p, 0, none⟩), .int .i64 x] w fun e w' => e = .returned (.int .u8 (wordN (has L) 8 i : Int)) ∧ w' = w := by
  subst hx
  exact octet_i h h8 hi
theorem size_i {n : Nat} (lo : 256 ≤ n) (hi : n ≤ 131072) : size (n : Int) = hs n := by
  unfold size hs
  rw [if_pos (isM_iff.2 ⟨by omega, by omega⟩)]
  rfl
end FreW
end Go.Proofs.YtbnkaeigabifhaaDoor
