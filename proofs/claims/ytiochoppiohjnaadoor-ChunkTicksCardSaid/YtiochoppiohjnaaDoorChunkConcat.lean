/-
  slices.Grow of nothing, slices.Concat, of ticks.
-/
import Derived.Test.YtiochoppiohjnaaDoorChunkFind
namespace Go.Proofs.YtiochoppiohjnaaDoor
open Go.RowKit
set_option linter.unusedVariables false
set_option linter.unusedSimpArgs false
namespace ChunkW
open BytesW PackW

set_option maxRecDepth 100000 in
theorem run_growT (w : World) {n : Nat} (h0 : 0 < n) (hn : n ≤ 1000000) (ty : TypeId) : ∃ cap w', (Builtin.append_ #[23, 3] ty #[.slice none 0 0, .int .i64 n]).run Tryd.prog w = .ok (.slice (some ⟨w.heap.size, 0, none⟩) n cap) w' ∧
    OwnP tkv 63 w' w.heap.size (.slice (some ⟨w.heap.size, 0, none⟩) 0 cap) [] ∧ Below w.heap.size w w' ∧ n ≤ cap := by
  obtain ⟨i, hi, hz, hs1, hby⟩ := info_parts infoTick
  have hi2 : Tryd.prog.underlying 3 = some (.int .i64) := Tryd.underlying3
  have hn0 : ¬ n = 0 := by omega
  have hneg : ¬ (n : Int) < 0 := by omega
  have h63' : ¬ (9223372036854775807 < (n : Int)) := by omega
  have hbig : ¬ (281474976710656 : Int) < (n : Int) := by omega
  have hbig2 : ¬ (281474976710656 : Int) < (n : Int) * 16 := by omega
  have h48' : ¬ (281474976710656 < Builtin.nextslicecap n 0 * 16) := by rw [nextslicecap_zero h0]; omega
  have h48 : ¬ (281474976710656 < Builtin.nextslicecap n 0) := by rw [nextslicecap_zero h0]; omega
  have hw : IntKind.i64.wrap (n : Int) = n := by rw [IntKind.wrap_i64]; omega
  have hge := grownCap_ge w n 0 63
  have hle := grownCap_le_maxLen w n 0 63 (by unfold maxLen; omega)
  refine ⟨grownCap w n 0 63, w.drew.alloc (.cells (Builtin.zeroCells #[.int .i64 0, .int .i64 0] n ++ Builtin.zeroCells #[.int .i64 0, .int .i64 0] (grownCap w n 0 63 - n)) 63), ?_, ?_, ((Below.refl _ w).drew).alloc (Nat.le_refl _) _, hge⟩
  · simp [Builtin.append_, run_underlying underTicks, run_underlying hi2, sizeOf, typeInfo, zeroValue, hi, hz, hs1, hby, Builtin.lenOf, hn0, hneg, hbig, hw, h63', h48', h48, hbig2, Question.forced, run_firstCells_none, newRow, grownCap, asInt, asIntOf, Value.cells]
    intro h
    omega
  · refine ⟨rfl, .inr ⟨w.heap.size, _, _, rfl, Nat.le_refl _, heap_alloc_new w.drew _, Nat.zero_le _, hle, ?_, rfl⟩⟩
    simp only [Array.size_append, size_zeroCells, List.size_toArray, List.length_cons, List.length_nil]
    omega
/-- append(nothing, make(.., n)..). -/
theorem wp_growT {w : World} {ops : Array Oper} {rest : List Oper} {o : Oper} {a : Act} {Q : Exit → Act → World → Prop} (hgd : o.guard = none) (s x : Operand) (ho : o.op = .call { callee := .builtin .append, args := #[s, x], argTypes := #[23, 3] })
    (hs : a.eval s = .slice none 0 0) {n : Nat} (hx : a.eval x = .int .i64 n) (h0 : 0 < n) (hn : n ≤ 1000000)
    (h : ∀ cap w', OwnP tkv 63 w' w.heap.size (.slice (some ⟨w.heap.size, 0, none⟩) 0 cap) [] → Below w.heap.size w w' → n ≤ cap → wpList Tryd.prog ops Q rest (a.put o.dst (.slice (some ⟨w.heap.size, 0, none⟩) n cap)) w') : wpList Tryd.prog ops Q (o :: rest) a w := by
  refine wpList_plain hgd fun K hK => ?_
  obtain ⟨cap, w', hr, h1, h2, h3⟩ := run_growT w h0 hn o.type
  unfold Oper.wp execOp
  simp only [ho, resolve, invoke, builtin, Sem.run_bind, Sem.run_pure, Result.andThen_ok, List.map_toArray, List.map_cons, List.map_nil, hs, hx, hr]
  exact hK _ _ (h cap w' h1 h2 h3)
/-- A row of the call's own is handed back. -/
def GivesT (w : World) (l : List Tick) (e : Ending) (w' : World) : Prop := ∃ v, e = .returned v ∧ OwnP tkv 63 w' w.heap.size v l ∧ Below w.heap.size w w'

set_option maxRecDepth 100000 in
set_option maxHeartbeats 4000000 in
theorem growT_c {w : World} {n : Nat} (hn : n ≤ 1000000) :
    Calls Tryd.prog 54 #[.slice none 0 0, .int .i64 n] w (GivesT w []) := by
  by_cases h0 : 0 < n
  · have hI : (0 : Int) < n := by omega
    go_enter Tryd.func54, Tryd.ntmps54
    go_wp2_with ((with_reducible refine at_slot 22 ?_); refine wp_growT rfl (.tmp 20) (.tmp 21) rfl rfl rfl h0 hn ?_; intro cap w1 hown1 hb1 hcap)
    go_ret
    exact ⟨_, rfl, hown1, hb1⟩
  · obtain rfl : n = 0 := by omega
    go_enter Tryd.func54, Tryd.ntmps54
    go_wp2_with fail
    go_ret
    exact ⟨_, rfl, OwnP.nil _ _ _, Below.refl _ _⟩

/-- A slice of these ticks. -/
def SlT (w : World) (v : Value) (l : List Tick) : Prop := ∃ A c, v = .slice A l.length c ∧ PairC tkv w A l
theorem SlT.below {w w' : World} {v : Value} {l : List Tick} (h : SlT w v l) (hb : Below w.heap.size w w') : SlT w' v l := by
  obtain ⟨A, c, e, h⟩ := h
  exact ⟨A, c, e, h.below hb⟩
/-- Rows of ticks, one behind the other. -/
def catT (ps : List (Value × List Tick)) : List Tick := ps.flatMap (·.2)
theorem catT_next {ps : List (Value × List Tick)} {j : Nat} {q : Value × List Tick} (h : ps[j]? = some q) : catT (ps.take (j + 1)) = catT (ps.take j) ++ q.2 := by
  rw [List.take_add_one, h]
  simp [catT]
theorem catT_le (ps : List (Value × List Tick)) (j : Nat) : (catT (ps.take j)).length ≤ (catT ps).length := by
  have h : catT ps = catT (ps.take j) ++ catT (ps.drop j) := by
    rw [catT, catT, catT, ← List.flatMap_append, List.take_append_drop]
  rw [h, List.length_append]
  omega
def CatT1 (ps : List (Value × List Tick)) (v i : Value) : Prop := ∃ (j m : Nat), i = .int .i64 j ∧ v = .int .i64 m ∧ j ≤ ps.length ∧ m = (catT (ps.take j)).length ∧ m ≤ 1000000
def CatT2 (w : World) (ps : List (Value × List Tick)) (v i : Value) (wr : World) : Prop := ∃ j : Nat, i = .int .i64 j ∧ j ≤ ps.length ∧ OwnP tkv 63 wr w.heap.size v (catT (ps.take j)) ∧ Below w.heap.size w wr

set_option maxRecDepth 100000 in
set_option maxHeartbeats 4000000 in
theorem concatT_c {w : World} {g o n c : Nat} {ps : List (Value × List Tick)} (hn : n = ps.length) (hps : n ≤ 100) (hlt : g < w.heap.size) (hc : ∀ (i : Nat) q, ps[i]? = some q → w.cell? ⟨g, o + i, none⟩ = some q.1) (hs : ∀ q ∈ ps, SlT w q.1 q.2) (hl : (catT ps).length ≤ 1000000) :
    Calls Tryd.prog 38 #[.slice (some ⟨g, o, none⟩) n c] w (GivesT w (catT ps)) := by
  have HN := Lib.hid hn
  have HC := Lib.hid hc
  have HS := Lib.hid hs
  have HL := Lib.hid hl
  clear hn hc hs hl
  go_enter Tryd.func38, Tryd.ntmps38
  go_wp2_with fail
  go_loop [3, 11] (CatT1 ps) (fun _ v => n - (intOf v).toNat)
  case atStart => exact ⟨0, 0, rfl, rfl, by omega, rfl, by omega⟩
  case round =>
    obtain ⟨j, m, rfl, rfl, hj, hm, hm1⟩ := hrel
    have HM := Lib.hid hm
    have hjn : j ≤ n := by have := HN.out; omega
    clear hm hj
    by_cases hjl : j < n
    · have hjI : (j : Int) < n := by omega
      obtain ⟨q, hq⟩ : ∃ q, ps[j]? = some q := ⟨_, List.getElem?_eq_getElem (by have := HN.out; omega)⟩
      have h0 := HC.out j q hq
      obtain ⟨A, cc, e, _⟩ := HS.out q (List.mem_of_getElem? hq)
      rw [e] at h0
      obtain ⟨L, hL⟩ : ∃ L, L = q.2.length := ⟨_, rfl⟩
      rw [← hL] at h0
      have HQ : Hid (m + L = (catT (ps.take (j + 1))).length) := Lib.hid (by rw [catT_next hq, List.length_append, HM.out, hL])
      have hmL : m + L ≤ 1000000 := by have := HQ.out; have := catT_le ps (j + 1); have := HL.out; omega
      clear hq e hL
      go_wp2_with fail
      go_round
      case rel => exact ⟨j + 1, m + L, by go_num, by go_num, by have := HN.out; omega, HQ.out, hmL⟩
      case measure => simp [intOf]; omega
    · have hjI : ¬ (j : Int) < n := by omega
      clear HM
      go_wp2_with fail
      go_at_call 54
      refine (growT_c hm1).mono ?_
      rintro e w1 ⟨v1, rfl, hown1, hb1⟩
      have HO1 := Lib.hid hown1
      have HB1 := Lib.hid hb1
      clear hown1 hb1
      go_wp2_with fail
      go_loopw [6, 27] (CatT2 w ps) (fun _ v _ => n - (intOf v).toNat)
      case atStart => exact ⟨0, rfl, by omega, HO1.out, HB1.out⟩
      case round =>
        obtain ⟨i, rfl, hi, hown, hbw⟩ := hrel
        have HO := Lib.hid hown
        have HB := Lib.hid hbw
        have hz := hbw.size
        have hin : i ≤ n := by have := HN.out; omega
        clear hown hbw hi
        by_cases hil : i < n
        · have hiI : (i : Int) < n := by omega
          obtain ⟨q, hq⟩ : ∃ q, ps[i]? = some q := ⟨_, List.getElem?_eq_getElem (by have := HN.out; omega)⟩
          have h0 := (HB.out.cell (p := ⟨g, o + i, none⟩) hlt).trans (HC.out i q hq)
          obtain ⟨A, cc, e, hA⟩ := HS.out q (List.mem_of_getElem? hq)
          rw [e] at h0
          have HA := Lib.hid (hA.below HB.out)
          have HT := Lib.hid (catT_next hq)
          have hlen : (catT (ps.take i)).length + q.2.length ≤ 2000000 := by
            have h := catT_le ps (i + 1)
            rw [catT_next hq, List.length_append] at h
            have := HL.out
            omega
          clear hq e hA
          go_wp2_with ((with_reducible refine at_slot 33 ?_); refine wp_appP rfl (.tmp 31) (.tmp 32) rfl underTicks infoTick rfl (by omega) one_tk rfl HO.out rfl HA.out hlen hz ?_; intro v3 w3 hown3 hg3 hb3)
          rw [← HT.out] at hown3
          go_roundw
          case rel => exact ⟨i + 1, by go_num, by have := HN.out; omega, hown3, HB.out.trans hb3⟩
          case measure => simp [intOf]; omega
        · have hiI : ¬ (i : Int) < n := by omega
          go_wp2_with fail
          go_ret
          have h := HO.out
          rw [List.take_of_length_le (by have := HN.out; omega)] at h
          exact ⟨_, rfl, h, HB.out⟩
end ChunkW
end Go.Proofs.YtiochoppiohjnaaDoor
