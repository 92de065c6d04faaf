/-
  Rows of pairs that grow; a row that is cut off; the ticks that are read.
-/
import Derived.Test.YtdboebokjkkgkaaDoorPackMem
import Derived.Test.YtdboebokjkkgkaaDoorPackPlain
import Derived.Test.YtdboebokjkkgkaaDoorRunsGet
namespace Go.Proofs.YtdboebokjkkgkaaDoor
open Go.RowKit
set_option linter.unusedVariables false
set_option linter.unusedSimpArgs false
namespace PackW
open BytesW RunsW

theorem infoTick : (Tryd.prog.info? 55).map (fun i => (i.zero, i.size, i.bytes)) = some (some (.agg #[.int .i64 0, .int .i64 0]), 2, 16) := by kernel_rfl
theorem infoCell : (Tryd.prog.info? 43).map (fun i => (i.zero, i.size, i.bytes)) = some (some (.agg #[.int .u8 0, .int .u8 0]), 2, 2) := by kernel_rfl
theorem underTicks : Tryd.prog.underlying 23 = some (.slice 55) := Tryd.underlying23
theorem underCells : Tryd.prog.underlying 60 = some (.slice 43) := Tryd.underlying60
section
variable {α : Type} {f : α → Value × Value} {E T : TypeId}
theorem OwnP.over {w w' : World} {B p : Nat} {v : Value} {l : List α} {s : St} (hE : E ≠ 117) (h : OwnP f E w B v l) (hp : RS w p s) (hg : w.grownBy w' (some p)) : OwnP f E w' B v l := by
  obtain ⟨A, c, hp⟩ := hp
  unfold OwnP at h ⊢
  refine h.kept hg (.inr fun e => ?_)
  rcases h.2 with ⟨rfl, _⟩ | ⟨g, cap, cur, rfl, _, hgb, _⟩
  · simp [Value.ownBlock] at e
  · obtain rfl : g = p := by simpa [Value.ownBlock] using e
    rw [hp.1] at hgb
    injection hgb with hgb
    injection hgb with _ h2
    exact absurd h2.symm hE
theorem OwnP.grownB {w w' : World} {B : Nat} {v : Value} {l : List α} (h : OwnP f E w B v l) (hg : w.grownBy w' v.ownBlock) (hB : B ≤ w.heap.size) : Below B w w' :=
  (Below.refl B w).grown hg hB (fun k hk => (World.ownsRow.lt h k hk).1)
theorem run_push {w : World} {B : Nat} {v : Value} {l : List α} (hT : Tryd.prog.underlying T = some (.slice E)) {z : Value} {bytes : Nat} (hI : (Tryd.prog.info? E).map (fun i => (i.zero, i.size, i.bytes)) = some (some z, 2, bytes)) (hz : z.cells.size = 2) (hby : bytes ≤ 16) (h1 : ∀ y, (f y).1.oneCell' = true ∧ (f y).2.oneCell' = true)
    (hown : OwnP f E w B v l) (y : α) {g : Nat} (h0 : w.cell? ⟨g, 0, none⟩ = some (f y).1) (h2 : w.cell? ⟨g, 1, none⟩ = some (f y).2) (hl : l.length ≤ 2000000) (hB : B ≤ w.heap.size) (ty : TypeId) :
    ∃ v' w', (Builtin.append_ #[T, T] ty #[v, .slice (some ⟨g, 0, none⟩) 1 1]).run Tryd.prog w = .ok v' w' ∧ OwnP f E w' B v' (l ++ [y]) ∧ w.grownBy w' v.ownBlock := by
  obtain ⟨i, hi, hz0, hs0, hb0⟩ := info_parts hI
  have hm : maxLen = 9223372036854775807 := rfl
  have hb2 : (l.length + 1) * bytes ≤ (l.length + 1) * 16 := Nat.mul_le_mul_left _ hby
  obtain ⟨v', w', hr, a1, a2, _, _⟩ := run_append_own_at (P := Tryd.prog) w B T ty E i z 2 bytes hT hi hz0 hs0 hb0 hz (by omega) v l.length (flatP f l) hown ⟨g, 0, none⟩ 1 1 [(f y).1, (f y).2] rfl
    (fun j u hu => by
      rw [addr_add]
      match j, hu with
      | 0, hu =>
        have : (f y).1 = u := by simpa using hu
        subst this
        exact h0
      | 1, hu =>
        have : (f y).2 = u := by simpa using hu
        subst this
        exact h2)
    (fun u hu => by
      have := h1 y
      simp only [List.mem_cons, List.not_mem_nil, or_false] at hu
      rcases hu with rfl | rfl
      · exact this.1
      · exact this.2) (by omega) (by omega) hB
  refine ⟨v', w', hr, ?_, a2⟩
  unfold OwnP
  rw [List.length_append, flatP_app]
  exact a1
/-- append(v, y) of one pair: y lies in a new block of its own. -/
theorem wp_pushP {w : World} {ops : Array Oper} {rest : List Oper} {o : Oper} {a : Act} {Q : Exit → Act → World → Prop} (hgd : o.guard = none) (s x : Operand) (ho : o.op = .call { callee := .builtin .append, args := #[s, x], argTypes := #[T, T] })
    (hT : Tryd.prog.underlying T = some (.slice E)) {z : Value} {bytes : Nat} (hI : (Tryd.prog.info? E).map (fun i => (i.zero, i.size, i.bytes)) = some (some z, 2, bytes)) (hz : z.cells.size = 2) (hby : bytes ≤ 16) (h1 : ∀ y, (f y).1.oneCell' = true ∧ (f y).2.oneCell' = true)
    {B : Nat} {v : Value} {l : List α} (w0 : World) (u1 u2 : Value) (hw : w = w0.alloc (.cells #[u1, u2] E)) (hs : a.eval s = v) (hown : OwnP f E w0 B v l) (y : α) (hu1 : u1 = (f y).1) (hu2 : u2 = (f y).2) (hx : a.eval x = .slice (some ⟨w0.heap.size, 0, none⟩) 1 1) (hl : l.length ≤ 2000000) (hB : B ≤ w0.heap.size)
    (h : ∀ v' w', OwnP f E w' B v' (l ++ [y]) → Below B w0 w' → wpList Tryd.prog ops Q rest (a.put o.dst v') w') : wpList Tryd.prog ops Q (o :: rest) a w := by
  subst hw hu1 hu2
  refine wpList_plain hgd fun K hK => ?_
  have hown2 := hown.alloc (.cells #[(f y).1, (f y).2] E)
  obtain ⟨v', w', hr, a1, a2⟩ := run_push hT hI hz hby h1 hown2 y (g := w0.heap.size) (by rw [World.cell?_alloc_new]; rfl) (by rw [World.cell?_alloc_new]; rfl) hl (by simp; omega) o.type
  unfold Oper.wp execOp
  simp only [ho, resolve, invoke, builtin, Sem.run_bind, Sem.run_pure, Result.andThen_ok, List.map_toArray, List.map_cons, List.map_nil, hs, hx, hr]
  exact hK _ _ (h v' w' a1 (((Below.refl B w0).alloc hB _).trans (hown2.grownB a2 (by simp; omega))))
theorem one_tk (y : Tick) : (tkv y).1.oneCell' = true ∧ (tkv y).2.oneCell' = true := ⟨rfl, rfl⟩
theorem one_cv (y : Cell) : (cv y).1.oneCell' = true ∧ (cv y).2.oneCell' = true := ⟨rfl, rfl⟩
end

/-- What cutRow answers. -/
def CutP (w : World) (A0 : Option Addr) (l : List UInt8) (r : Option (List UInt8 × List UInt8)) (e : Ending) (w' : World) : Prop :=
  ∃ v A n c b, e = .returned (.tuple #[v, .slice A n c, .bool b]) ∧ Below w.heap.size w w' ∧ (∀ row rest, r = some (row, rest) → b = true ∧ BytesW.Own w' w.heap.size v row ∧ n = rest.length ∧ (∀ W, AtC W A0 l → AtC W A rest) ∧ n ≤ c) ∧ (r = none → b = false)

set_option maxRecDepth 100000 in
set_option maxHeartbeats 4000000 in
theorem cutRow_c {w : World} {A : Option Addr} {b : List UInt8} {c : Nat} {r : Option (List UInt8 × List UInt8)} (hA : AtC w A b) (hc : b.length ≤ c) (hl : b.length ≤ 1000000) (hr : cutRow b = r) :
    Calls Tryd.prog 34 #[.slice A b.length c] w (CutP w A b r) := by
  have HR := Lib.hid hr
  obtain ⟨g, hg⟩ : ∃ g, rowGet b 4096 = g := ⟨_, rfl⟩
  have hga : getA b 4096 = gOf g := by rw [← hg]; rfl
  rcases g with _ | ⟨row, k⟩
  · have HG : Hid (∀ w : World, AtC w A b → Calls Tryd.prog 45 #[.slice A b.length c, .int .i64 4096] w (GetP w ([], 0, 4))) := Lib.hid (fun w h => get_c h hc hl hga)
    have HN : Hid (r = none) := Lib.hid (by rw [← hr, cutRow, hg]; rfl)
    clear hr hg hga
    obtain ⟨A', hA'⟩ : ∃ A', A' = (if c = 0 then A else A.map (·.add 0)) := ⟨_, rfl⟩
    have hrun : ∀ w : World, (Instr.sliceAt 26 (.slice A b.length c) (some (.int .i64 0)) none none).run Tryd.prog w = .ok (.slice A' b.length c) w := fun w => by
      have := run_from (w := w) (A := A) (L := b.length) (c := c) (k := 0) (by omega)
      rw [← hA'] at this
      exact this
    clear hA'
    go_enter Tryd.func34, Tryd.ntmps34
    go_wp2_with fail
    go_at_call 45
    refine (HG.out _ hA).mono ?_
    rintro e w1 ⟨v1, rfl, hown1, hb1⟩
    clear hown1
    go_wp2_with fail
    go_quiet (fail)
    go_wp2
    go_ret3
    exact ⟨v1, A', _, c, false, rfl, BaseP.below_drewN hb1 _, (fun row rest h => by rw [HN.out] at h; cases h), fun _ => rfl⟩
  · obtain ⟨hrl, hk⟩ := get_len hg
    have HG : Hid (∀ w : World, AtC w A b → Calls Tryd.prog 45 #[.slice A b.length c, .int .i64 4096] w (GetP w (row, k, 0))) := Lib.hid (fun w h => get_c h hc hl hga)
    have HN : Hid (r = some (row, b.drop k)) := Lib.hid (by rw [← hr, cutRow, hg]; rfl)
    clear hr hg hga
    obtain ⟨A', hA'⟩ : ∃ A', A' = (if c = k then A else A.map (·.add k)) := ⟨_, rfl⟩
    have hrun : ∀ w : World, (Instr.sliceAt 26 (.slice A b.length c) (some (.int .i64 k)) none none).run Tryd.prog w = .ok (.slice A' (b.length - k) (c - k)) w := fun w => by
      have := run_from (w := w) (A := A) (L := b.length) (c := c) (k := k) hk
      rw [← hA'] at this
      exact this
    have HD : Hid (∀ w : World, AtC w A b → AtC w A' (b.drop k)) := Lib.hid (fun w h => by rw [hA']; exact h.drop k c hc)
    clear hA'
    go_enter Tryd.func34, Tryd.ntmps34
    go_wp2_with fail
    go_at_call 45
    refine (HG.out _ hA).mono ?_
    rintro e w1 ⟨v1, rfl, hown1, hb1⟩
    dsimp only at hown1
    have HO := Lib.hid hown1
    clear hown1
    go_wp2_with fail
    go_quiet (fail)
    go_wp2
    go_ret3
    refine ⟨v1, A', _, c - k, true, rfl, BaseP.below_drewN hb1 _, (fun row' rest h => ?_), (fun h => by rw [HN.out] at h; cases h)⟩
    rw [HN.out] at h
    simp only [Option.some.injEq, Prod.mk.injEq] at h
    obtain ⟨rfl, rfl⟩ := h
    exact ⟨rfl, HO.out.below (BaseP.below_drewN (Below.refl _ _) _), by simp, HD.out, by omega⟩

theorem getT_bad {d m1 m2 : Nat} {n : Int} {s s1 s2 : St} (h1 : rNum s = (m1, s1)) (h2 : rNum s1 = (m2, s2)) (h : 4096 - n ≤ m1 ∨ m2 < 1 ∨ 2199023255552 < m2) : getT (d + 1) n s = none := by
  rw [getT, h1]
  simp only [h2]
  rw [if_pos h]
theorem getT_ok {d m1 m2 : Nat} {n : Int} {s s1 s2 : St} (h1 : rNum s = (m1, s1)) (h2 : rNum s1 = (m2, s2)) (h : ¬ (4096 - n ≤ m1 ∨ m2 < 1 ∨ 2199023255552 < m2)) : getT (d + 1) n s = (getT d (n + m1 + 1) s2).map fun x => ((n + m1, (m2 : Int)) :: x.1, x.2) := by
  rw [getT, h1]
  simp only [h2]
  rw [if_neg h]
theorem cutT_none {b : List UInt8} {C : Nat} {s0 : St} (h : rNum (b, false) = (C, s0)) (hg : getT C 0 s0 = none) : cutT b = none := by
  unfold cutT
  rw [h]
  simp only [hg]
theorem cutT_some {b : List UInt8} {C : Nat} {s0 s : St} {l : List Tick} (h : rNum (b, false) = (C, s0)) (hg : getT C 0 s0 = some (l, s)) : cutT b = if s.2 = false ∧ s.1 = [] then some l else none := by
  unfold cutT
  rw [h]
  simp only [hg]
def TickRel (w w2 : World) (p c : Nat) (s0 : St) (v nx i : Value) (wr : World) : Prop :=
  ∃ (k : Nat) (n : Int) (lt : List Tick) (s : St), OwnP tkv 55 wr w2.heap.size v lt ∧ nx = .int .i64 n ∧ i = .int .u64 k ∧ k ≤ c ∧ lt.length = k ∧ (k : Int) ≤ n ∧ n ≤ 4096 ∧ RK w2 wr p s ∧ w2.grownBy wr (some p) ∧ getT c 0 s0 = (getT (c - k) n s).map fun x => (lt ++ x.1, x.2)
theorem below_n2 {w0 w w' : World} {p : Nat} (hb : Below w0.heap.size w0 w) (hg : w.grownBy w' (some p)) (hp : w0.heap.size ≤ p) : Below w0.heap.size w0 w' := below_n hb hp hg
/-- What ticks answers. -/
def TksP (w : World) (r : Option (List Tick)) (e : Ending) (w' : World) : Prop :=
  ∃ A n c b, e = .returned (.tuple #[.slice A n c, .bool b]) ∧ Below w.heap.size w w' ∧ (∀ l, r = some l → b = true ∧ OwnP tkv 55 w' w.heap.size (.slice A n c) l) ∧ (r = none → b = false)

def cnt : Value → Nat
  | .int _ n => n.toNat
  | _ => 0

set_option maxRecDepth 100000 in
set_option maxHeartbeats 4000000 in
theorem ticks_c {w : World} {A : Option Addr} {b : List UInt8} {c : Nat} {r : Option (List Tick)} (hA : AtC w A b) (hl : b.length ≤ 1000000) (hr : cutT b = r) :
    Calls Tryd.prog 37 #[.slice A b.length c] w (TksP w r) := by
  have HR := Lib.hid hr
  obtain ⟨q0, hq0⟩ : ∃ q, rNum (b, false) = q := ⟨_, rfl⟩
  obtain ⟨C, s0⟩ := q0
  have HQ0 := Lib.hid hq0
  have hC64 : C < 18446744073709551616 := by
    have h := rNum_lt (b, false)
    rw [hq0] at h
    exact h
  clear hr hq0
  go_enter Tryd.func37, Tryd.ntmps37
  go_wp2_with fail
  go_at_call 46
  refine (newReader_C hA hl).mono ?_
  rintro e w2 ⟨p, rfl, hs2, hp1, hp2, hb2⟩
  have hz2 := hb2.size
  go_wp2_with (go_at_call 47; refine (num_k hs2.rk HQ0.out).mono ?_; rintro e w3 ⟨rfl, hg3, hs3⟩)
  have HS2 := Lib.hid hs2
  have HB2 := Lib.hid hb2
  clear hs2 hb2
  go_loopw [4, 6, 14] (TickRel w w2 p C s0) (fun _ _ v _ => C - cnt v)
  case atStart => exact ⟨0, 0, [], s0, OwnP.nil _ _ _, rfl, rfl, by omega, rfl, by omega, by omega, hs3, hg3, by simp⟩
  case round =>
    obtain ⟨k, n, lt, s, hown, rfl, rfl, hk, hlt, hkn, hn, hs, hgr, hget⟩ := hrel
    have HBW : Hid (Below w.heap.size w wr) := Lib.hid (below_n2 HB2.out hgr hp1)
    have HO := Lib.hid hown
    have HS := Lib.hid hs
    have HGR := Lib.hid hgr
    have HGET := Lib.hid hget
    have HLT := Lib.hid hlt
    clear hown hs hgr hget hlt
    by_cases hkC : k < C
    · have hkI : (k : Int) < C := by omega
      obtain ⟨⟨m1, s1⟩, h1⟩ : ∃ q, rNum s = q := ⟨_, rfl⟩
      obtain ⟨⟨m2, s2⟩, h2⟩ : ∃ q, rNum s1 = q := ⟨_, rfl⟩
      have l1 : m1 < 18446744073709551616 := by have h := rNum_lt s; rw [h1] at h; exact h
      have l2 : m2 < 18446744073709551616 := by have h := rNum_lt s1; rw [h2] at h; exact h
      obtain ⟨M1, e1⟩ : ∃ M : Int, M = (m1 : Int) := ⟨_, rfl⟩
      obtain ⟨M2, e2⟩ : ∃ M : Int, M = (m2 : Int) := ⟨_, rfl⟩
      have HN1 : Hid (∀ w : World, RK w2 w p s → Calls Tryd.prog 47 #[.pointer (some ⟨p, 0, none⟩)] w (NumK .u64 w2 w p M1 s1)) := Lib.hid (fun w h => by rw [e1]; exact num_k h h1)
      have HN2 : Hid (∀ w : World, RK w2 w p s1 → Calls Tryd.prog 47 #[.pointer (some ⟨p, 0, none⟩)] w (NumK .u64 w2 w p M2 s2)) := Lib.hid (fun w h => by rw [e2]; exact num_k h h2)
      have H1 := Lib.hid h1
      have H2 := Lib.hid h2
      have a1 : 0 ≤ M1 := by omega
      have a2 : 0 ≤ M2 := by omega
      have b1 : M1 < 18446744073709551616 := by omega
      have b2 : M2 < 18446744073709551616 := by omega
      have E1 := Lib.hid e1
      have E2 := Lib.hid e2
      obtain ⟨d, hd⟩ : ∃ d, C - k = d + 1 := ⟨C - k - 1, by omega⟩
      have HD := Lib.hid hd
      have hn0 : 0 ≤ n := by omega
      have hw1 : IntKind.u64.wrap (4096 - n) = 4096 - n := by rw [IntKind.wrap_u64]; omega
      clear h1 h2 l1 l2 e1 e2 hd
      go_wp2_with fail
      go_at_call 47
      refine (HN1.out _ HS.out).mono ?_
      rintro e w4 ⟨rfl, hg4, hs4⟩
      go_wp2_with fail
      go_at_call 47
      refine (HN2.out _ hs4).mono ?_
      rintro e w5 ⟨rfl, hg5, hs5⟩
      by_cases hbad : 4096 - n ≤ M1 ∨ M2 < 1 ∨ 2199023255552 < M2
      · have HNO : Hid (r = none) := Lib.hid (by
          rw [← HR.out]
          refine cutT_none HQ0.out ?_
          rw [HGET.out, HD.out, getT_bad H1.out H2.out (by have := E1.out; have := E2.out; omega)]
          rfl)
        by_cases c1 : 4096 - n ≤ M1
        · clear hbad
          have c1' : decide (4096 - n ≤ M1) = true := by simpa using c1
          go_wp2_with fail
          go_ret2
          exact ⟨none, 0, 0, false, rfl, below_n (below_n (HBW.out) hp1 hg4) hp1 hg5, (fun l h => by rw [HNO.out] at h; cases h), fun _ => rfl⟩
        · have c1' : decide (4096 - n ≤ M1) = false := by simpa using c1
          by_cases c2 : M2 < 1
          · clear hbad
            go_wp2_with fail
            go_ret2
            exact ⟨none, 0, 0, false, rfl, below_n (below_n (HBW.out) hp1 hg4) hp1 hg5, (fun l h => by rw [HNO.out] at h; cases h), fun _ => rfl⟩
          · have c3 : 2199023255552 < M2 := by omega
            clear hbad
            go_wp2_with fail
            go_ret2
            exact ⟨none, 0, 0, false, rfl, below_n (below_n (HBW.out) hp1 hg4) hp1 hg5, (fun l h => by rw [HNO.out] at h; cases h), fun _ => rfl⟩
      · have c1' : decide (4096 - n ≤ M1) = false := by simp; omega
        have c2' : decide (M2 < 1) = false := by simp; omega
        have c3' : decide (2199023255552 < M2) = false := by simp; omega
        have hM1 : M1 < 4096 := by omega
        have hM2 : M2 ≤ 2199023255552 := by omega
        have hs1 : n + M1 + 1 ≤ 4096 := by omega
        have HG1 : Hid (getT C 0 s0 = (getT (C - (k + 1)) (n + M1 + 1) s2).map fun x => ((lt ++ [(n + M1, M2)]) ++ x.1, x.2)) := Lib.hid (by
          rw [HGET.out, HD.out, getT_ok H1.out H2.out (by have := E1.out; have := E2.out; omega), E1.out, E2.out, show C - (k + 1) = d by have := HD.out; omega]
          simp [Option.map_map, Function.comp_def])
        have HO5 := Lib.hid ((HO.out.over (by decide) HS.out.rs hg4).over (by decide) hs4.rs hg5)
        have hz5 := (HGR.out.trans (hg4.trans hg5)).size
        clear hbad
        go_wp2_with ((with_reducible refine at_slot 43 ?_); refine wp_pushP rfl (.tmp 37) (.tmp 42) rfl underTicks infoTick rfl (by omega) one_tk w5 _ _ rfl rfl HO5.out (n + M1, M2) rfl rfl rfl (by have := HLT.out; omega) hz5 ?_; intro v6 w6 hown6 hb6)
        have hs6 := (RK.over hs5 HS2.out (HGR.out.trans (hg4.trans hg5)) hb6)
        go_roundw
        case rel => exact ⟨k + 1, _, _, s2, hown6, rfl, by go_num, by omega, by simp [HLT.out], by omega, hs1, hs6.1, hs6.2, HG1.out⟩
        case measure => simp [cnt]; omega
    · have hkI : ¬ (k : Int) < C := by omega
      obtain ⟨tA, tc, rfl, _⟩ := HO.out.pairs
      have hk0 : Hid (C - k = 0) := Lib.hid (by omega)
      obtain ⟨x, hx⟩ : ∃ x, rErr (rEnd s) = x := ⟨_, rfl⟩
      have HX := Lib.hid hx
      have HG0 : Hid (getT C 0 s0 = some (lt, s)) := Lib.hid (by rw [HGET.out, hk0.out, getT]; simp)
      clear hx
      by_cases hend : s.2 = false ∧ s.1 = []
      · obtain rfl : x = 0 := by
          rw [← HX.out, rEnd, rErr]
          simp [hend.1, hend.2]
        have HY : Hid (r = some lt) := Lib.hid (by rw [← HR.out, cutT_some HQ0.out HG0.out, if_pos hend])
        clear hend
        go_wp2_with (go_at_call 48; refine (end_c HS.out.rs HX.out).mono ?_; rintro e w4 ⟨rfl, hg4, hs4⟩)
        go_ret2
        refine ⟨_, _, _, true, rfl, below_n HBW.out hp1 hg4, (fun l h => ?_), (fun h => by rw [HY.out] at h; cases h)⟩
        rw [HY.out] at h
        injection h with h
        subst h
        exact ⟨rfl, (HO.out.over (by decide) HS.out.rs hg4).mono hz2⟩
      · obtain rfl : x = 4 := by
          rw [← HX.out, rEnd, rErr]
          obtain ⟨s1, b1⟩ := s
          cases b1
          · rcases s1 with _ | ⟨y, s1⟩
            · simp at hend
            · simp
          · simp
        have HY : Hid (r = none) := Lib.hid (by rw [← HR.out, cutT_some HQ0.out HG0.out, if_neg hend])
        clear hend
        go_wp2_with (go_at_call 48; refine (end_c HS.out.rs HX.out).mono ?_; rintro e w4 ⟨rfl, hg4, hs4⟩)
        go_ret2
        exact ⟨_, _, _, false, rfl, below_n HBW.out hp1 hg4, (fun l h => by rw [HY.out] at h; cases h), fun _ => rfl⟩
end PackW
end Go.Proofs.YtdboebokjkkgkaaDoor
