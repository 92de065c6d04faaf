/-
  The bytes of a palette, and of ticks.
-/
import Derived.Test.YtdboebokjkkgkaaDoorPackRows
import Derived.Test.YtdboebokjkkgkaaDoorRunsPut
namespace Go.Proofs.YtdboebokjkkgkaaDoor
open Go.RowKit
open Go.Lib (uvarint uvarint_small uvarint_big uvarint_length64 uvarint_pos zigzag)
set_option linter.unusedVariables false
set_option linter.unusedSimpArgs false
namespace PackW
open BytesW RunsW

theorem own_new {w : World} {l : List UInt8} {B : Nat} {cs : Array Value} (h : cs = (l.map bv).toArray) (hB : B ≤ w.heap.size) (hm : l.length ≤ 1000000) (n : Nat) (hn : n = l.length) : BytesW.Own (w.alloc (.cells cs 5)) B (.slice (some ⟨w.heap.size, 0, none⟩) n n) l :=
  own_full (by rw [heap_alloc_new, h]) hB hn hm
theorem at_two {w : World} {x y : UInt8} {X Y : Int} (hX : X = (x.toNat : Int)) (hY : Y = (y.toNat : Int)) {g : Nat} (hg : g = w.heap.size) : At (w.alloc (.cells #[.int .u8 X, .int .u8 Y] 5)) (some ⟨g, 0, none⟩) [x, y] := fun _ => ⟨w.heap.size, 0, #[.int .u8 X, .int .u8 Y], (0, 0), by rw [hg], heap_alloc_new w _, fun i z hz => by
  match i, hz with
  | 0, hz =>
    have : x = z := by simpa using hz
    subst this
    rw [hX]
    rfl
  | 1, hz =>
    have : y = z := by simpa using hz
    subst this
    rw [hY]
    rfl⟩

/-- append(v, b..), and which block alone may have been written. -/
theorem wp_appendG {w : World} {ops : Array Oper} {rest : List Oper} {o : Oper} {a : Act} {Q : Exit → Act → World → Prop} (hgd : o.guard = none) (s x : Operand) (ho : o.op = .call { callee := .builtin .append, args := #[s, x], argTypes := #[26, 26] })
    {B : Nat} {v : Value} {l l2 : List UInt8} (hs : a.eval s = v) (hown : BytesW.Own w B v l) {A : Option Addr} {c : Nat} (hx : a.eval x = .slice A l2.length c) (hAt : At w A l2) (hl : l.length + l2.length ≤ 4000000) (hB : B ≤ w.heap.size)
    (h : ∀ v' w', BytesW.Own w' B v' (l ++ l2) → w.grownBy w' v.ownBlock → Below B w w' → wpList Tryd.prog ops Q rest (a.put o.dst v') w') : wpList Tryd.prog ops Q (o :: rest) a w := by
  refine wpList_plain hgd fun K hK => ?_
  obtain ⟨v', w', hr, h2, h3⟩ := run_app hown (c := c) hAt hl hB o.type
  unfold Oper.wp execOp
  simp only [ho, resolve, invoke, builtin, Sem.run_bind, Sem.run_pure, Result.andThen_ok, List.map_toArray, List.map_cons, List.map_nil, hs, hx, hr]
  exact hK _ _ (h v' w' h2 h3 (below_of_grown hown h3 hB))
/-- A block of another type lies as it was. -/
theorem own_apart {w w' : World} {B : Nat} {v : Value} {l : List UInt8} (h : BytesW.Own w B v l) {g : Nat} {cs : Array Value} {t : TypeId} {fr : Nat × Nat} (hg : w.heap[g]? = some (.cells cs t fr)) (ht : t ≠ 5) (hgr : w.grownBy w' v.ownBlock) : w'.heap[g]? = some (.cells cs t fr) := by
  refine (hgr.block g (lt_of_heap hg) (fun e => ?_)).trans hg
  rcases h.2 with ⟨rfl, _⟩ | ⟨g', cap, cur, rfl, _, hgb, _⟩
  · simp [Value.ownBlock] at e
  · obtain rfl : g = g' := by simpa [Value.ownBlock] using e
    rw [hg] at hgb
    injection hgb with hgb
    injection hgb with _ h2
    exact ht h2
def PBRel (w : World) (P : List Cell) (v i : Value) (wr : World) : Prop := ∃ j : Nat, i = .int .i64 j ∧ j ≤ P.length ∧ BytesW.Own wr w.heap.size v (P.length.toUInt8 :: flat (P.take j)) ∧ Below w.heap.size w wr

set_option maxRecDepth 100000 in
set_option maxHeartbeats 4000000 in
theorem paletteBytes_c {w : World} {A : Option Addr} {P : List Cell} {c : Nat} (hA : PairC cv w A P) (hP : P.length ≤ 255) :
    Calls Tryd.prog 24 #[.slice A P.length c] w (Gives w (palB P)) := by
  obtain ⟨n, hn⟩ : ∃ n, n = P.length := ⟨_, rfl⟩
  have HP : Hid (∀ w' : World, PBRel w P (.slice (some ⟨w.heap.size, 0, none⟩) 1 1) (.int .i64 0) (w.alloc (.cells #[.int .u8 (n : Int)] 5))) := Lib.hid (fun _ => ⟨0, rfl, by omega, own_new (l := [P.length.toUInt8]) (by simp [bv, toU8 (show P.length < 256 by omega), hn]) (Nat.le_refl _) (by simp) 1 rfl, (Below.refl _ _).alloc (Nat.le_refl _) _⟩)
  rw [← hn]
  have hn1 : n ≤ 255 := by omega
  have HN := Lib.hid hn
  have HA := Lib.hid hA
  clear hn hP hA
  have hw8 : IntKind.u8.wrap (n : Int) = n := by rw [IntKind.wrap_u8]; omega
  go_enter Tryd.func24, Tryd.ntmps24
  go_wp2_with fail
  go_loopw [3, 12] (PBRel w P) (fun _ v _ => n - (intOf v).toNat)
  case atStart => exact HP.out w
  case round =>
    obtain ⟨j, rfl, hj, hown, hbw⟩ := hrel
    have HO := Lib.hid hown
    have HB := Lib.hid hbw
    have hz := hbw.size
    have hjn : j ≤ n := by have := HN.out; omega
    have hfl : (flat (P.take j)).length ≤ 600 := by rw [flat_len]; simp; omega
    have HFL := Lib.hid hfl
    clear hown hbw hj hfl
    by_cases hjl : j < n
    · have hjI : (j : Int) < n := by omega
      obtain ⟨x, hx⟩ : ∃ x, P[j]? = some x := ⟨_, List.getElem?_eq_getElem (by have := HN.out; omega)⟩
      obtain ⟨b, o, rfl, hbl, hcs⟩ := (HA.out.below HB.out).cells (fun e => by rw [e] at hx; simp at hx)
      obtain ⟨p0, p1⟩ := hcs _ _ hx
      obtain ⟨U, hU⟩ : ∃ U : Int, U = (x.1.toNat : Int) := ⟨_, rfl⟩
      obtain ⟨V, hV⟩ : ∃ V : Int, V = (x.2.toNat : Int) := ⟨_, rfl⟩
      simp only [cv, bv, ← hU, ← hV] at p0 p1
      have HU := Lib.hid hU
      have HV := Lib.hid hV
      have HT : Hid (P.length.toUInt8 :: flat (P.take (j + 1)) = (P.length.toUInt8 :: flat (P.take j)) ++ [x.1, x.2]) := Lib.hid (by
        rw [List.take_add_one, hx, flat_app]
        rfl)
      clear hcs hx hU hV
      obtain ⟨oA, oc, rfl, hoA, hoc, hom⟩ := HO.out.sl
      go_wp2_with ((with_reducible refine at_slot 22 ?_); refine wp_append rfl (.tmp 16) (.tmp 21) rfl (l2 := [x.1, x.2]) rfl ((HO.out.alloc _).alloc _) rfl (at_two HU.out HV.out (by simp)) (by have := HFL.out; simp; omega) (by simp; omega) ?_; intro v3 w3 hown3 hb3)
      rw [← HT.out] at hown3
      have hbb := ((((Below.refl _ wr).alloc (Nat.le_refl _) _).alloc (by simp) _).mono hz).trans hb3
      go_roundw
      case rel => exact ⟨j + 1, by go_num, by have := HN.out; omega, hown3, HB.out.trans hbb⟩
      case measure => simp [intOf]; omega
    · have hjI : ¬ (j : Int) < n := by omega
      go_wp2_with fail
      go_ret
      have h := HO.out
      rw [List.take_of_length_le (by have := HN.out; omega)] at h
      exact ⟨_, rfl, h, HB.out⟩

def TBRel (w : World) (ts : List Tick) (v nx i : Value) (wr : World) : Prop :=
  ∃ (j : Nat) (n : Int) (l : List UInt8), i = .int .i64 j ∧ nx = .int .i64 n ∧ 0 ≤ n ∧ n ≤ 4096 ∧ j ≤ ts.length ∧ BytesW.Own wr w.heap.size v l ∧ l.length ≤ 20 + 20 * j ∧ l ++ tkB n (ts.drop j) = tksB ts ∧ mayT n (ts.drop j) = true ∧ Below w.heap.size w wr

set_option maxRecDepth 100000 in
set_option maxHeartbeats 4000000 in
theorem tickBytes_c {w : World} {A : Option Addr} {ts : List Tick} {c : Nat} (hA : PairC tkv w A ts) (hm : mayT 0 ts = true) :
    Calls Tryd.prog 27 #[.slice A ts.length c] w (Gives w (tksB ts)) := by
  have hlen := mayT_len ts 0 (by omega) hm
  obtain ⟨n, hn⟩ : ∃ n, n = ts.length := ⟨_, rfl⟩
  rw [← hn]
  have hn1 : n ≤ 4096 := by omega
  have HN := Lib.hid hn
  have HA := Lib.hid hA
  have HM := Lib.hid hm
  have hw1 : IntKind.u64.wrap (n : Int) = n := by rw [IntKind.wrap_u64]; omega
  have HL0 := Lib.hid (uvarint_length64 (x := n) (by omega))
  clear hn hm hA hlen
  go_enter Tryd.func27, Tryd.ntmps27
  go_wp2_with fail
  go_at_call 42
  refine (put0_c (n := n) (by omega) rfl).mono ?_
  rintro e w1 ⟨v1, rfl, hown1, hb1⟩
  go_wp2_with fail
  go_loopw [3, 4, 13] (TBRel w ts) (fun _ _ v _ => n - (intOf v).toNat)
  case atStart => exact ⟨0, 0, _, rfl, rfl, by omega, by omega, by omega, hown1, by have := HL0.out; omega, by rw [HN.out]; rfl, HM.out, hb1⟩
  case round =>
    obtain ⟨j, nx, l, rfl, rfl, hn0, hn4, hj, hown, hll, htk, hmt, hbw⟩ := hrel
    have HO := Lib.hid hown
    have HB := Lib.hid hbw
    have HTK := Lib.hid htk
    have HMT := Lib.hid hmt
    have hz := hbw.size
    have hjn : j ≤ n := by have := HN.out; omega
    clear hown hbw htk hmt hj hown1 hb1
    by_cases hjl : j < n
    · have hjI : (j : Int) < n := by omega
      obtain ⟨x, hx⟩ : ∃ x, ts[j]? = some x := ⟨_, List.getElem?_eq_getElem (by have := HN.out; omega)⟩
      obtain ⟨b, o, rfl, hbl, hcs⟩ := (HA.out.below HB.out).cells (fun e => by rw [e] at hx; simp at hx)
      obtain ⟨p0, p1⟩ := hcs _ _ hx
      simp only [tkv] at p0 p1
      have hd : ts.drop j = x :: ts.drop (j + 1) := by
        obtain ⟨h1, h2⟩ := List.getElem?_eq_some_iff.1 hx
        rw [List.drop_eq_getElem_cons h1, h2]
      have hmt := HMT.out
      have htk := HTK.out
      rw [hd] at hmt htk
      simp only [mayT, Bool.and_eq_true, decide_eq_true_eq] at hmt
      obtain ⟨⟨⟨⟨m1, m2⟩, m3⟩, m4⟩, m5⟩ := hmt
      obtain ⟨at_, due⟩ := x
      simp only at p0 p1 m1 m2 m3 m4 m5
      obtain ⟨a1, ha1⟩ : ∃ a : Nat, a = (at_ - nx).toNat := ⟨_, rfl⟩
      obtain ⟨d1, hd1⟩ : ∃ d : Nat, d = due.toNat := ⟨_, rfl⟩
      have HA1 : Hid (at_ - nx = (a1 : Int)) := Lib.hid (by omega)
      have HD1 : Hid (due = (d1 : Int)) := Lib.hid (by omega)
      have l1 := uvarint_length64 (x := a1) (by omega)
      have l2 := uvarint_length64 (x := d1) (by omega)
      obtain ⟨b1, hb1⟩ : ∃ b1, b1 = uvarint a1 := ⟨_, rfl⟩
      obtain ⟨b2, hb2⟩ : ∃ b2, b2 = uvarint d1 := ⟨_, rfl⟩
      rw [← hb1] at l1
      rw [← hb2] at l2
      have hT2 : (l ++ b1 ++ b2) ++ tkB (at_ + 1) (ts.drop (j + 1)) = tksB ts := by
        rw [← htk, tkB, ← ha1, ← hd1, hb1, hb2]
        simp
      have HT2 := Lib.hid hT2
      have HM5 := Lib.hid m5
      have HP1 : Hid (∀ w : World, Calls Tryd.prog 42 #[.slice none 0 0, .int .u64 (at_ - nx)] w (Gives w b1)) := Lib.hid (fun w => by rw [hb1]; exact put0_c (n := a1) (by omega) HA1.out)
      have HP2 : Hid (∀ w : World, Calls Tryd.prog 42 #[.slice none 0 0, .int .u64 due] w (Gives w b2)) := Lib.hid (fun w => by rw [hb2]; exact put0_c (n := d1) (by omega) HD1.out)
      have hwa : IntKind.u64.wrap (at_ - nx) = at_ - nx := by rw [IntKind.wrap_u64]; omega
      have hwd : IntKind.u64.wrap due = due := by rw [IntKind.wrap_u64]; omega
      have i1 : 0 ≤ at_ - nx := by omega
      have l1' : b1.length ≤ 10 := l1
      have l2' : b2.length ≤ 10 := l2
      clear hcs hx hd htk m5 ha1 hd1 hb1 hb2 hT2 l1 l2
      go_wp2_with fail
      go_at_call 42
      refine (HP1.out _).mono ?_
      rintro e w1 ⟨v1, rfl, hown1, hb1⟩
      obtain ⟨A1, c1, rfl, hA1, hc1, _⟩ := hown1.sl
      have hq : w1.heap[wr.heap.size]? = some (.cells #[.int .i64 at_, .int .i64 due] 55 (0, 0)) := (hb1.block _ (by simp)).trans (heap_alloc_new _ _)
      have q1 : w1.cell? ⟨wr.heap.size, 1, none⟩ = some (.int .i64 due) := cell_of_row _ _ _ _ _ _ hq
      have HQ := Lib.hid hq
      have hz1 : wr.heap.size < w1.heap.size := by have := hb1.size; simp at this; omega
      have HBR : Hid (Below wr.heap.size wr w1) := Lib.hid (((Below.refl _ wr).alloc (Nat.le_refl _) _).trans (hb1.mono (by simp)))
      have HO1 := Lib.hid (HO.out.below HBR.out)
      have hzw1 : w.heap.size ≤ w1.heap.size := by omega
      have HB1 : Hid (Below w.heap.size w w1) := Lib.hid (below_m HB.out HBR.out)
      clear hb1 hq q1 hown1
      go_wp2_with ((with_reducible refine at_slot 24 ?_); refine wp_appendG rfl (.tmp 17) (.tmp 23) rfl rfl HO1.out rfl hA1 (by omega) hzw1 ?_; intro v2 w2 hown2 hg2 hb2; have hq := own_apart HO1.out HQ.out (by decide) hg2; have q1 : w2.cell? ⟨wr.heap.size, 1, none⟩ = some (.int .i64 due) := cell_of_row _ _ _ _ _ _ hq; have HQ2 := Lib.hid hq; have HO2 := Lib.hid hown2; have HB2 := Lib.hid (HB1.out.trans hb2); clear hg2 hb2 hq hown2)
      go_at_call 42
      refine (HP2.out _).mono ?_
      rintro e w3 ⟨v3, rfl, hown3, hb3⟩
      obtain ⟨A3, c3, rfl, hA3, hc3, _⟩ := hown3.sl
      have hz2 := HB2.out.size
      have hlt2 := lt_of_heap HQ2.out
      have hq := (hb3.block _ hlt2).trans HQ2.out
      have HQ3 := Lib.hid hq
      have HO3 := Lib.hid (HO2.out.below hb3)
      have HB3 := Lib.hid (below_m HB2.out hb3)
      have hz3 := HB3.out.size
      have hll2 : (l ++ b1).length + b2.length ≤ 4000000 := by simp; omega
      clear hb3 hq hown3 q1
      go_wp2_with ((with_reducible refine at_slot 30 ?_); refine wp_appendG rfl (.tmp 25) (.tmp 29) rfl rfl HO3.out rfl hA3 hll2 hz3 ?_; intro v4 w4 hown4 hg4 hb4; have hq := own_apart HO3.out HQ3.out (by decide) hg4; have q0 : w4.cell? ⟨wr.heap.size, 0, none⟩ = some (.int .i64 at_) := cell_of_row _ _ _ _ _ _ hq; have HO4 := Lib.hid hown4; have HB4 := Lib.hid (HB3.out.trans hb4); clear hg4 hb4 hq hown4)
      go_roundw
      case rel => exact ⟨j + 1, at_ + 1, _, by go_num, rfl, by omega, by omega, by have := HN.out; omega, HO4.out, by simp; omega, HT2.out, HM5.out, HB4.out⟩
      case measure => simp [intOf]; omega
    · have hjI : ¬ (j : Int) < n := by omega
      go_wp2_with fail
      go_ret
      have h := HTK.out
      rw [List.drop_of_length_le (by have := HN.out; omega), tkB, List.append_nil] at h
      exact ⟨_, rfl, h ▸ HO.out, HB.out⟩
end PackW
end Go.Proofs.YtdboebokjkkgkaaDoor


/-
  slices.Grow of nothing, slices.Concat of rows of bytes.
-/
namespace Go.Proofs.YtdboebokjkkgkaaDoor
open Go.RowKit
set_option linter.unusedVariables false
set_option linter.unusedSimpArgs false
namespace PackW
open BytesW RunsW

set_option maxRecDepth 100000 in
theorem run_grow (w : World) {n : Nat} (h0 : 0 < n) (hn : n ≤ 1000000) (ty : TypeId) : ∃ cap w', (Builtin.append_ #[26, 3] ty #[.slice none 0 0, .int .i64 n]).run Tryd.prog w = .ok (.slice (some ⟨w.heap.size, 0, none⟩) n cap) w' ∧
    BytesW.Own w' w.heap.size (.slice (some ⟨w.heap.size, 0, none⟩) 0 cap) [] ∧ Below w.heap.size w w' := by
  obtain ⟨i, hi, hz, hs1, hby⟩ := info_parts info5
  have hi2 : Tryd.prog.underlying 3 = some (.int .i64) := Tryd.underlying3
  have hn0 : ¬ n = 0 := by omega
  have hneg : ¬ (n : Int) < 0 := by omega
  have h63' : ¬ (9223372036854775807 < (n : Int)) := by omega
  have hbig : ¬ (281474976710656 : Int) < (n : Int) := by omega
  have h48' : ¬ (281474976710656 < Builtin.nextslicecap n 0) := by rw [nextslicecap_zero h0]; omega
  have hw : IntKind.i64.wrap (n : Int) = n := by rw [IntKind.wrap_i64]; omega
  have hge := grownCap_ge w n 0 5
  have hle := grownCap_le_maxLen w n 0 5 (by unfold maxLen; omega)
  refine ⟨grownCap w n 0 5, w.drew.alloc (.cells (Builtin.zeroCells #[.int .u8 0] n ++ Builtin.zeroCells #[.int .u8 0] (grownCap w n 0 5 - n)) 5), ?_, ?_, ((Below.refl _ w).drew).alloc (Nat.le_refl _) _⟩
  · simp [Builtin.append_, run_underlying under26, run_underlying hi2, sizeOf, typeInfo, zeroValue, hi, hz, hs1, hby, Builtin.lenOf, hn0, hneg, hbig, hw, h63', h48', Question.forced, run_firstCells_none, newRow, grownCap, asInt, asIntOf, Value.cells]
  · refine ⟨rfl, .inr ⟨w.heap.size, _, _, rfl, Nat.le_refl _, heap_alloc_new w.drew _, Nat.zero_le _, hle, ?_, rfl⟩⟩
    simp only [Array.size_append, size_zeroCells, List.size_toArray, List.length_cons, List.length_nil]
    omega

/-- append(nothing, make(.., n)..). -/
theorem wp_grow {w : World} {ops : Array Oper} {rest : List Oper} {o : Oper} {a : Act} {Q : Exit → Act → World → Prop} (hgd : o.guard = none) (s x : Operand) (ho : o.op = .call { callee := .builtin .append, args := #[s, x], argTypes := #[26, 3] })
    (hs : a.eval s = .slice none 0 0) {n : Nat} (hx : a.eval x = .int .i64 n) (h0 : 0 < n) (hn : n ≤ 1000000)
    (h : ∀ cap w', BytesW.Own w' w.heap.size (.slice (some ⟨w.heap.size, 0, none⟩) 0 cap) [] → Below w.heap.size w w' → wpList Tryd.prog ops Q rest (a.put o.dst (.slice (some ⟨w.heap.size, 0, none⟩) n cap)) w') : wpList Tryd.prog ops Q (o :: rest) a w := by
  refine wpList_plain hgd fun K hK => ?_
  obtain ⟨cap, w', hr, h1, h2⟩ := run_grow w h0 hn o.type
  unfold Oper.wp execOp
  simp only [ho, resolve, invoke, builtin, Sem.run_bind, Sem.run_pure, Result.andThen_ok, List.map_toArray, List.map_cons, List.map_nil, hs, hx, hr]
  exact hK _ _ (h cap w' h1 h2)

set_option maxRecDepth 100000 in
set_option maxHeartbeats 4000000 in
theorem grow_c {w : World} {n : Nat} (hn : n ≤ 1000000) :
    Calls Tryd.prog 40 #[.slice none 0 0, .int .i64 n] w (Gives w []) := by
  by_cases h0 : 0 < n
  · have hI : (0 : Int) < n := by omega
    go_enter Tryd.func40, Tryd.ntmps40
    go_wp2_with ((with_reducible refine at_slot 22 ?_); refine wp_grow rfl (.tmp 20) (.tmp 21) rfl rfl rfl h0 hn ?_; intro cap w1 hown1 hb1)
    go_ret
    exact ⟨_, rfl, hown1, hb1⟩
  · obtain rfl : n = 0 := by omega
    go_enter Tryd.func40, Tryd.ntmps40
    go_wp2_with fail
    go_ret
    exact ⟨_, rfl, Own.nil _ _, Below.refl _ _⟩

/-- Rows of bytes, one behind the other. -/
def cat (ps : List (Value × List UInt8)) : List UInt8 := ps.flatMap (·.2)
theorem cat_next {ps : List (Value × List UInt8)} {j : Nat} {q : Value × List UInt8} (h : ps[j]? = some q) : cat (ps.take (j + 1)) = cat (ps.take j) ++ q.2 := by
  rw [List.take_add_one, h]
  simp [cat]
theorem cat_le (ps : List (Value × List UInt8)) (j : Nat) : (cat (ps.take j)).length ≤ (cat ps).length := by
  have h : cat ps = cat (ps.take j) ++ cat (ps.drop j) := by
    rw [cat, cat, cat, ← List.flatMap_append, List.take_append_drop]
  rw [h, List.length_append]
  omega
def CatRel1 (ps : List (Value × List UInt8)) (v i : Value) : Prop := ∃ (j m : Nat), i = .int .i64 j ∧ v = .int .i64 m ∧ j ≤ ps.length ∧ m = (cat (ps.take j)).length ∧ m ≤ 1000000
def CatRel2 (w : World) (ps : List (Value × List UInt8)) (v i : Value) (wr : World) : Prop := ∃ j : Nat, i = .int .i64 j ∧ j ≤ ps.length ∧ BytesW.Own wr w.heap.size v (cat (ps.take j)) ∧ Below w.heap.size w wr

set_option maxRecDepth 100000 in
set_option maxHeartbeats 4000000 in
theorem concat_c {w : World} {g o n c : Nat} {ps : List (Value × List UInt8)} (hn : n = ps.length) (hps : n ≤ 100) (hlt : g < w.heap.size) (hc : ∀ (i : Nat) q, ps[i]? = some q → w.cell? ⟨g, o + i, none⟩ = some q.1) (hs : ∀ q ∈ ps, Sl w q.1 q.2) (hl : (cat ps).length ≤ 1000000) :
    Calls Tryd.prog 23 #[.slice (some ⟨g, o, none⟩) n c] w (Gives w (cat ps)) := by
  have HN := Lib.hid hn
  have HC := Lib.hid hc
  have HS := Lib.hid hs
  have HL := Lib.hid hl
  clear hn hc hs hl
  go_enter Tryd.func23, Tryd.ntmps23
  go_wp2_with fail
  go_loop [3, 11] (CatRel1 ps) (fun _ v => n - (intOf v).toNat)
  case atStart => exact ⟨0, 0, rfl, rfl, by omega, rfl, by omega⟩
  case round =>
    obtain ⟨j, m, rfl, rfl, hj, hm, hm1⟩ := hrel
    have HM := Lib.hid hm
    have hjn : j ≤ n := by have := HN.out; omega
    clear hm hj
    by_cases hjl : j < n
    · have hjI : (j : Int) < n := by omega
      obtain ⟨q, hq⟩ : ∃ q, ps[j]? = some q := ⟨_, List.getElem?_eq_getElem (by have := HN.out; omega)⟩
      have h0 := HC.out j q hq
      obtain ⟨A, cc, e, _, h2, h3⟩ := HS.out q (List.mem_of_getElem? hq)
      rw [e] at h0
      obtain ⟨L, hL⟩ : ∃ L, L = q.2.length := ⟨_, rfl⟩
      rw [← hL] at h0
      have HQ : Hid (m + L = (cat (ps.take (j + 1))).length) := Lib.hid (by rw [cat_next hq, List.length_append, HM.out, hL])
      have hmL : m + L ≤ 1000000 := by have := HQ.out; have := cat_le ps (j + 1); have := HL.out; omega
      clear hq e h2 h3 hL
      go_wp2_with fail
      go_round
      case rel => exact ⟨j + 1, m + L, by go_num, by go_num, by have := HN.out; omega, HQ.out, hmL⟩
      case measure => simp [intOf]; omega
    · have hjI : ¬ (j : Int) < n := by omega
      clear HM
      go_wp2_with fail
      go_at_call 40
      refine (grow_c hm1).mono ?_
      rintro e w1 ⟨v1, rfl, hown1, hb1⟩
      have HO1 := Lib.hid hown1
      have HB1 := Lib.hid hb1
      clear hown1 hb1
      go_wp2_with fail
      go_loopw [6, 27] (CatRel2 w ps) (fun _ v _ => n - (intOf v).toNat)
      case atStart => exact ⟨0, rfl, by omega, HO1.out, HB1.out⟩
      case round =>
        obtain ⟨i, rfl, hi, hown, hbw⟩ := hrel
        have HO := Lib.hid hown
        have HB := Lib.hid hbw
        have hz := hbw.size
        have hin : i ≤ n := by have := HN.out; omega
        clear hown hbw hi
        by_cases hil : i < n
        · have hiI : (i : Int) < n := by omega
          obtain ⟨q, hq⟩ : ∃ q, ps[i]? = some q := ⟨_, List.getElem?_eq_getElem (by have := HN.out; omega)⟩
          have h0 := (HB.out.cell (p := ⟨g, o + i, none⟩) hlt).trans (HC.out i q hq)
          obtain ⟨A, cc, e, hA, h2, h3⟩ := HS.out q (List.mem_of_getElem? hq)
          rw [e] at h0
          have HA := Lib.hid (hA.below HB.out)
          have HT := Lib.hid (cat_next hq)
          have hlen : (cat (ps.take i)).length + q.2.length ≤ 4000000 := by
            have h := cat_le ps (i + 1)
            rw [cat_next hq, List.length_append] at h
            have := HL.out
            omega
          clear hq e h2 h3 hA
          go_wp2_with ((with_reducible refine at_slot 33 ?_); refine wp_append rfl (.tmp 31) (.tmp 32) rfl rfl HO.out rfl HA.out hlen hz ?_; intro v3 w3 hown3 hb3)
          rw [← HT.out] at hown3
          go_roundw
          case rel => exact ⟨i + 1, by go_num, by have := HN.out; omega, hown3, HB.out.trans hb3⟩
          case measure => simp [intOf]; omega
        · have hiI : ¬ (i : Int) < n := by omega
          go_wp2_with fail
          go_ret
          have h := HO.out
          rw [List.take_of_length_le (by have := HN.out; omega)] at h
          exact ⟨_, rfl, h, HB.out⟩
end PackW
end Go.Proofs.YtdboebokjkkgkaaDoor
