/-
  Least; the laws' own small words: ticks, awake.
-/
import Derived.Test.YtiochoppiohjnaaDoorChunkWake
import Derived.Test.YtiochoppiohjnaaDoorChunkWalks3
namespace Go.Proofs.YtiochoppiohjnaaDoor
open Go.RowKit
set_option linter.unusedVariables false
set_option linter.unusedSimpArgs false
namespace ChunkW
open BytesW PackW

theorem wp_minT {w : World} {ops : Array Oper} {rest : List Oper} {o : Oper} {a : Act} {Q : Exit → Act → World → Prop} (hgd : o.guard = none) (x y : Operand) (ho : o.op = .call { callee := .builtin .min, args := #[x, y], argTypes := #[2, 2] }) {X Y q : Int} (hx : a.eval x = .int .i64 X) (hy : a.eval y = .int .i64 Y) (hq : (if Y < X then Y else X) = q)
    (h : wpList Tryd.prog ops Q rest (a.put o.dst (.int .i64 q)) w) : wpList Tryd.prog ops Q (o :: rest) a w := by
  refine wpList_plain hgd fun K hK => ?_
  unfold Oper.wp execOp
  simp only [ho, resolve, invoke, builtin, Sem.run_bind, Sem.run_pure, Result.andThen_ok, List.map_toArray, List.map_cons, List.map_nil, hx, hy, run_min_int2, hq]
  exact hK _ _ h
def LeastRel (w : World) (ts : List Tick) (m i : Value) (wr : World) : Prop := ∃ (j : Nat) (x : Int), i = .int .i64 j ∧ m = .int .i64 x ∧ j ≤ ts.length ∧ leastT ts = minT x (ts.drop j) ∧ Below w.heap.size w wr
set_option maxRecDepth 100000 in
set_option maxHeartbeats 4000000 in
theorem least_c {w : World} {p : Nat} {k : Ck} {r : Int} (hk : ChkK w p k) (hr : leastT k.ts = r) :
    Calls Tryd.prog 19 #[.pointer (some ⟨p, 0, none⟩)] w fun e w' => e = .returned (.int .i64 r) ∧ Below w.heap.size w w' := by
  obtain ⟨C, L, ts⟩ := k
  obtain ⟨TA, tc, h1, h2, h3, h4, h5⟩ := hk
  simp only at h1 h2 h3 h5 hr
  obtain ⟨n, hn⟩ : ∃ n, n = ts.length := ⟨_, rfl⟩
  rw [← hn] at h1 h5
  have HR := Lib.hid hr
  have HP := Lib.hid h2
  have HN := Lib.hid hn
  have ht := h1.t
  clear hr h1 h2 h3 h4 hn
  by_cases h0 : n = 0
  · have HF : Hid (r = 0) := Lib.hid (by
      have : ts = [] := List.eq_nil_of_length_eq_zero (by have := HN.out; omega)
      rw [← HR.out, this]
      rfl)
    have hnI : (n : Int) = 0 := by omega
    subst h0
    go_enter Tryd.func19, Tryd.ntmps19
    go_wp2_with fail
    go_ret
    exact ⟨by rw [HF.out]; rfl, Below.refl _ _⟩
  · obtain ⟨⟨a0, d0⟩, hx⟩ : ∃ x, ts[0]? = some x := ⟨_, List.getElem?_eq_getElem (by have := HN.out; omega)⟩
    have HL : Hid (leastT ts = minT d0 (ts.drop 0)) := Lib.hid (by
      cases ts with
      | nil => simp at hx
      | cons t r =>
        obtain rfl : t = (a0, d0) := by simpa using hx
        simp [leastT, minT])
    obtain ⟨b, o, rfl, hbl, hcs⟩ := HP.out.cells (fun e => by rw [e] at hx; simp at hx)
    have HCS := Lib.hid hcs
    obtain ⟨p0, p1⟩ := hcs _ _ hx
    simp only [tkv, Nat.zero_mul, Nat.add_zero] at p0 p1
    have hnI : ¬ (n : Int) = 0 := by omega
    have hnb : ((n : Int) == 0) = false := by simp; omega
    have hnp : (0 : Int) < n := by omega
    clear hcs hx
    go_enter Tryd.func19, Tryd.ntmps19
    go_wp2_with fail
    clear p0 p1 hnb
    go_loopw [3, 28] (LeastRel w ts) (fun _ v _ => n - (intOf v).toNat)
    case atStart => exact ⟨0, d0, rfl, rfl, by omega, HL.out, Below.refl _ _⟩
    case round =>
      obtain ⟨j, x, rfl, rfl, hj, hm, hbw⟩ := hrel
      have HB := Lib.hid hbw
      have HM := Lib.hid hm
      have hz := hbw.size
      have hjn : j ≤ n := by have := HN.out; omega
      clear hbw hm hj
      by_cases hjl : j < n
      · have hjI : (j : Int) < n := by omega
        have hjI0 : (0 : Int) ≤ j := by omega
        obtain ⟨⟨a, d⟩, hx⟩ : ∃ x, ts[j]? = some x := ⟨_, List.getElem?_eq_getElem (by have := HN.out; omega)⟩
        obtain ⟨p0, p1⟩ := HCS.out _ _ hx
        have c0 := (HB.out.cell (p := ⟨b, o + j * 2, none⟩) hbl).trans p0
        have c1 := (HB.out.cell (p := ⟨b, o + j * 2 + 1, none⟩) hbl).trans p1
        simp only [tkv] at c0 c1
        obtain ⟨q, hq⟩ : ∃ q, (if d < x then d else x) = q := ⟨_, rfl⟩
        have HQ := Lib.hid hq
        have HM2 : Hid (leastT ts = minT q (ts.drop (j + 1))) := Lib.hid (by
          obtain ⟨h1, h2⟩ := List.getElem?_eq_some_iff.1 hx
          rw [HM.out, List.drop_eq_getElem_cons h1, h2, minT, hq])
        clear hx p0 p1 hq
        go_wp2_with ((with_reducible refine at_slot 35 ?_); refine wp_minT rfl (.tmp 32) (.tmp 34) rfl rfl rfl HQ.out ?_)
        go_roundw
        case rel => exact ⟨j + 1, q, by go_num, rfl, by have := HN.out; omega, HM2.out, by have HBo := HB.out; (repeat' (first | (with_reducible exact Below.refl _ _) | (with_reducible refine Below.setCell ?_ (by (first | omega | (simp; done) | (simp; omega))) _) | (with_reducible refine Below.alloc ?_ (by (first | omega | (simp; done) | (simp; omega))) _) | (with_reducible refine Below.drew ?_) | (with_reducible refine below_drewN ?_ _) | (with_reducible refine Below.trans ?_ (Below.mono HBo (by (first | omega | (simp; done) | (simp; omega)))))))⟩
        case measure => simp [intOf]; omega
      · have hjI : ¬ (j : Int) < n := by omega
        have HF : Hid (r = x) := Lib.hid (by rw [← HR.out, HM.out, List.drop_of_length_le (by have := HN.out; omega)]; rfl)
        go_wp2_with fail
        go_ret
        exact ⟨by rw [HF.out]; rfl, HB.out⟩

def LTRel (w : World) (n : Nat) (i : Value) (wr : World) : Prop := ∃ j : Nat, i = .int .i64 j ∧ j ≤ n ∧ Below w.heap.size w wr
set_option maxRecDepth 100000 in
set_option maxHeartbeats 4000000 in
theorem lticks_c {w : World} {A : Option Addr} {B : Nat} {ts : List Tick} {c d m : Nat} (hA : PairC tkv w A ts) (hBl : B < w.heap.size) (hB : ∀ (i : Nat) t, ts[i]? = some t → w.cell? ⟨B, 2 * i, none⟩ = some (.int .i64 t.1) ∧ w.cell? ⟨B, 2 * i + 1, none⟩ = some (.int .i64 t.2)) (hm : m = 2 * ts.length) (hl : ts.length ≤ 1000) :
    Calls Tryd.prog 30 #[.slice A ts.length c, .slice (some ⟨B, 0, none⟩) m d] w fun e w' => e = .returned (.bool true) ∧ Below w.heap.size w w' := by
  obtain ⟨n, hn⟩ : ∃ n, n = ts.length := ⟨_, rfl⟩
  rw [← hn] at hl hm ⊢
  have HN := Lib.hid hn
  have HA := Lib.hid hA
  have HBB := Lib.hid hB
  have hmI : IntKind.i64.wrap (2 * (n : Int)) = (m : Int) := by rw [IntKind.wrap_i64]; omega
  clear hn hA hB
  go_enter Tryd.func30, Tryd.ntmps30
  go_wp2_with fail
  go_loopw [5] (LTRel w n) (fun v _ => n - (intOf v).toNat)
  case atStart => exact ⟨0, rfl, by omega, Below.refl _ _⟩
  case round =>
    obtain ⟨j, rfl, hj, hbw⟩ := hrel
    have HB := Lib.hid hbw
    clear hbw
    by_cases hjl : j < n
    · have hjI : (j : Int) < n := by omega
      have hjI0 : (0 : Int) ≤ j := by omega
      obtain ⟨⟨a, e⟩, hx⟩ : ∃ x, ts[j]? = some x := ⟨_, List.getElem?_eq_getElem (by have := HN.out; omega)⟩
      obtain ⟨b, o, rfl, hbl, hcs⟩ := (HA.out.below HB.out).cells (fun e => by rw [e] at hx; simp at hx)
      obtain ⟨p0, p1⟩ := hcs _ _ hx
      simp only [tkv] at p0 p1
      obtain ⟨q0, q1⟩ := HBB.out _ _ hx
      have c0 := (HB.out.cell (p := ⟨B, 2 * j, none⟩) hBl).trans q0
      have c1 := (HB.out.cell (p := ⟨B, 2 * j + 1, none⟩) hBl).trans q1
      simp only at c0 c1
      have i0 : (2 : Int) * j < m := by omega
      have i1 : (2 : Int) * j + 1 < m := by omega
      have n0 : ((2 : Int) * j).toNat = 2 * j := by omega
      have n1 : ((2 : Int) * j + 1).toNat = 2 * j + 1 := by omega
      clear hx hcs q0 q1
      go_wp2_with fail
      go_quiet (fail)
      go_wp2_with fail
      go_roundw
      case rel => exact ⟨j + 1, by go_num, by omega, BaseP.below_drewN HB.out _⟩
      case measure => simp [intOf]; omega
    · have hjI : ¬ (j : Int) < n := by omega
      go_wp2_with fail
      go_ret
      exact ⟨rfl, HB.out⟩

theorem below_g {w0 w w' : World} {p : Nat} (hb : Below w0.heap.size w0 w) (hp : w0.heap.size ≤ p) (hg : w.grownBy w' (some p)) : Below w0.heap.size w0 w' :=
  hb.grown hg hb.size (fun k hk => by injection hk with hk; omega)
theorem zeros_may : zeros.all mayC = true := by
  rw [List.all_eq_true]
  intro x hx
  obtain rfl := (List.mem_replicate.1 hx).2
  decide
theorem zeros_mayL : zeros.all mayL = true := by
  rw [List.all_eq_true]
  intro x hx
  obtain rfl := (List.mem_replicate.1 hx).2
  decide
theorem check_zero : checkA ⟨zeros, zeros, []⟩ = 0 := by
  simp only [checkA, zeros_may, zeros_mayL]
  rfl
theorem zero_at {j : Nat} (h : j < 4096) : zeros[j]? = some (0, 0) := by
  rw [zeros, List.getElem?_replicate, if_pos h]
set_option maxRecDepth 100000 in
set_option maxHeartbeats 4000000 in
theorem awake_c {w : World} (hT : KindW.Tab w) : Calls Tryd.prog 9 #[] w fun e w' => e = .returned (.bool true) ∧ Below w.heap.size w w' := by
  have HT := Lib.hid hT
  have w1e : wakeT [] 9 5 = [(9, 5)] := by decide
  have w2e : wakeT [(9, 5)] 3 7 = [(3, 7), (9, 5)] := by decide
  have w3e : wakeT [(3, 7), (9, 5)] 9 4 = [(3, 7), (9, 4)] := by decide
  have W1 := Lib.hid w1e
  have W2 := Lib.hid w2e
  have W3 := Lib.hid w3e
  have HCH : Hid (∀ (W : World) (p : Nat), KindW.Tab W → ChkK W p ⟨zeros, zeros, []⟩ → Calls Tryd.prog 11 #[.pointer (some ⟨p, 0, none⟩)] W fun e w' => e = .returned (.int .i64 0) ∧ Below W.heap.size W w') := Lib.hid (fun W p h1 h2 => check_c h1 h2 check_zero)
  clear hT w1e w2e w3e
  go_enter Tryd.func9, Tryd.ntmps9
  go_wp2_with fail
  go_at_call 29
  refine (new_c).mono ?_
  rintro e w1 ⟨rfl, hk1, hz1, hb1⟩
  obtain ⟨p, hp⟩ : ∃ p, p = w.heap.size := ⟨_, rfl⟩
  rw [← hp] at hk1 ⊢
  have HP : Hid (w.heap.size ≤ p) := Lib.hid (by omega)
  have HB1 := Lib.hid hb1
  have HK1 := Lib.hid hk1
  clear hp hk1 hz1 hb1
  go_wp2_with fail
  go_at_call 11
  refine (HCH.out _ _ (HT.out.below HB1.out) (ChkK.new7 HK1.out)).mono ?_
  rintro e w2 ⟨rfl, hb2⟩
  have HK2 := Lib.hid (HK1.out.below hb2)
  have HB2 := Lib.hid (below_t HB1.out hb2)
  have q0 := HK2.out.t
  have q1 := (HK2.out.cell (4095 * 2)).trans (ckV_c zeros_len (zero_at (by omega))).1
  have q2 := (HK2.out.cell (4095 * 2 + 1)).trans (ckV_c zeros_len (zero_at (by omega))).2
  simp only [bv, Nat.reduceMul, Nat.reduceAdd] at q1 q2
  have q1 : w2.cell? ⟨p, 8190, none⟩ = some (.int .u8 0) := q1
  have q2 : w2.cell? ⟨p, 8191, none⟩ = some (.int .u8 0) := q2
  clear hb2
  go_wp2_with fail
  go_at_call 25
  refine (wake_c (ChkK.new7 HK2.out) (by simp)).mono ?_
  rintro e w3 ⟨rfl, hk3, hg3⟩
  simp only [W1.out] at hk3
  have HK3 := Lib.hid hk3
  have HB3 := Lib.hid (below_g HB2.out HP.out hg3)
  clear hk3 hg3 q0 q1 q2
  go_wp2_with fail
  go_at_call 25
  refine (wake_c HK3.out (by simp)).mono ?_
  rintro e w4 ⟨rfl, hk4, hg4⟩
  simp only [W2.out] at hk4
  have HK4 := Lib.hid hk4
  have HB4 := Lib.hid (below_g HB3.out HP.out hg4)
  clear hk4 hg4
  go_wp2_with fail
  go_at_call 25
  refine (wake_c HK4.out (by simp)).mono ?_
  rintro e w5 ⟨rfl, hk5, hg5⟩
  simp only [W3.out] at hk5
  have HK5 := Lib.hid hk5
  have HB5 := Lib.hid (below_g HB4.out HP.out hg5)
  clear hk5 hg5
  obtain ⟨TA, tc, g1, g2, g3, g4, g5⟩ := HK5.out
  simp only [List.length_cons, List.length_nil, Nat.zero_add, Nat.reduceAdd] at g1 g2
  have t5 := g1.t
  have G2 := Lib.hid g2
  clear g1 g2 g3 g4 g5
  go_wp2_with fail
  go_at_call 30
  refine calls_namedW (fun W => Below w5.heap.size w5 W ∧ w5.heap.size < W.heap.size ∧ W.cell? ⟨w5.heap.size, 0, none⟩ = some (.int .i64 3) ∧ W.cell? ⟨w5.heap.size, 1, none⟩ = some (.int .i64 7) ∧ W.cell? ⟨w5.heap.size, 2, none⟩ = some (.int .i64 9) ∧ W.cell? ⟨w5.heap.size, 3, none⟩ = some (.int .i64 4)) ⟨by (repeat' (first | (with_reducible exact Below.refl _ _) | (with_reducible refine Below.setCell ?_ (by (first | omega | (simp; done) | (simp; omega))) _) | (with_reducible refine Below.alloc ?_ (by (first | omega | (simp; done) | (simp; omega))) _) | (with_reducible refine Below.drew ?_) | (with_reducible refine below_drewN ?_ _))), by (repeat' (first | (with_reducible assumption) | (with_reducible refine HeldP.c_drew ?_) | (with_reducible refine HeldP.c_drewN ?_) | (with_reducible refine HeldP.c_same (by omega) ?_) | (with_reducible refine HeldP.c_other ?_ ?_) | (with_reducible refine HeldP.c_new (by first | omega | (simp; done) | (simp; omega)) ?_) | (with_reducible refine HeldP.c_alloc ?_ ?_) | (with_reducible refine HeldP.e_drew ?_) | (with_reducible refine HeldP.e_drewN ?_) | (with_reducible refine HeldP.e_set ?_) | (with_reducible refine HeldP.e_new (by first | omega | (simp; done) | (simp; omega)) ⟨_, rfl⟩) | (with_reducible refine HeldP.e_alloc ?_ ?_) | (with_reducible refine HeldP.f_drew ?_) | (with_reducible refine HeldP.f_drewN ?_) | (with_reducible refine HeldP.f_set ?_) | (with_reducible refine HeldP.f_new (by first | omega | (simp; done) | (simp; omega))) | (with_reducible refine HeldP.f_alloc ?_ ?_) | (with_reducible refine HeldP.s_drew ?_) | (with_reducible refine HeldP.s_drewN ?_) | (with_reducible refine HeldP.s_set ?_) | (with_reducible refine HeldP.s_new (by first | omega | (simp; done) | (simp; omega))) | (with_reducible refine HeldP.s_alloc ?_) | (with_reducible exact ⟨_, by assumption⟩) | omega | (intro e; simp at e; done) | (intro e; simp at e; omega) | (exact rfl) | (simp; done) | (simp; omega))), by (repeat' (first | (with_reducible assumption) | (with_reducible refine HeldP.c_drew ?_) | (with_reducible refine HeldP.c_drewN ?_) | (with_reducible refine HeldP.c_same (by omega) ?_) | (with_reducible refine HeldP.c_other ?_ ?_) | (with_reducible refine HeldP.c_new (by first | omega | (simp; done) | (simp; omega)) ?_) | (with_reducible refine HeldP.c_alloc ?_ ?_) | (with_reducible refine HeldP.e_drew ?_) | (with_reducible refine HeldP.e_drewN ?_) | (with_reducible refine HeldP.e_set ?_) | (with_reducible refine HeldP.e_new (by first | omega | (simp; done) | (simp; omega)) ⟨_, rfl⟩) | (with_reducible refine HeldP.e_alloc ?_ ?_) | (with_reducible refine HeldP.f_drew ?_) | (with_reducible refine HeldP.f_drewN ?_) | (with_reducible refine HeldP.f_set ?_) | (with_reducible refine HeldP.f_new (by first | omega | (simp; done) | (simp; omega))) | (with_reducible refine HeldP.f_alloc ?_ ?_) | (with_reducible refine HeldP.s_drew ?_) | (with_reducible refine HeldP.s_drewN ?_) | (with_reducible refine HeldP.s_set ?_) | (with_reducible refine HeldP.s_new (by first | omega | (simp; done) | (simp; omega))) | (with_reducible refine HeldP.s_alloc ?_) | (with_reducible exact ⟨_, by assumption⟩) | omega | (intro e; simp at e; done) | (intro e; simp at e; omega) | (exact rfl) | (simp; done) | (simp; omega))), by (repeat' (first | (with_reducible assumption) | (with_reducible refine HeldP.c_drew ?_) | (with_reducible refine HeldP.c_drewN ?_) | (with_reducible refine HeldP.c_same (by omega) ?_) | (with_reducible refine HeldP.c_other ?_ ?_) | (with_reducible refine HeldP.c_new (by first | omega | (simp; done) | (simp; omega)) ?_) | (with_reducible refine HeldP.c_alloc ?_ ?_) | (with_reducible refine HeldP.e_drew ?_) | (with_reducible refine HeldP.e_drewN ?_) | (with_reducible refine HeldP.e_set ?_) | (with_reducible refine HeldP.e_new (by first | omega | (simp; done) | (simp; omega)) ⟨_, rfl⟩) | (with_reducible refine HeldP.e_alloc ?_ ?_) | (with_reducible refine HeldP.f_drew ?_) | (with_reducible refine HeldP.f_drewN ?_) | (with_reducible refine HeldP.f_set ?_) | (with_reducible refine HeldP.f_new (by first | omega | (simp; done) | (simp; omega))) | (with_reducible refine HeldP.f_alloc ?_ ?_) | (with_reducible refine HeldP.s_drew ?_) | (with_reducible refine HeldP.s_drewN ?_) | (with_reducible refine HeldP.s_set ?_) | (with_reducible refine HeldP.s_new (by first | omega | (simp; done) | (simp; omega))) | (with_reducible refine HeldP.s_alloc ?_) | (with_reducible exact ⟨_, by assumption⟩) | omega | (intro e; simp at e; done) | (intro e; simp at e; omega) | (exact rfl) | (simp; done) | (simp; omega))), by (repeat' (first | (with_reducible assumption) | (with_reducible refine HeldP.c_drew ?_) | (with_reducible refine HeldP.c_drewN ?_) | (with_reducible refine HeldP.c_same (by omega) ?_) | (with_reducible refine HeldP.c_other ?_ ?_) | (with_reducible refine HeldP.c_new (by first | omega | (simp; done) | (simp; omega)) ?_) | (with_reducible refine HeldP.c_alloc ?_ ?_) | (with_reducible refine HeldP.e_drew ?_) | (with_reducible refine HeldP.e_drewN ?_) | (with_reducible refine HeldP.e_set ?_) | (with_reducible refine HeldP.e_new (by first | omega | (simp; done) | (simp; omega)) ⟨_, rfl⟩) | (with_reducible refine HeldP.e_alloc ?_ ?_) | (with_reducible refine HeldP.f_drew ?_) | (with_reducible refine HeldP.f_drewN ?_) | (with_reducible refine HeldP.f_set ?_) | (with_reducible refine HeldP.f_new (by first | omega | (simp; done) | (simp; omega))) | (with_reducible refine HeldP.f_alloc ?_ ?_) | (with_reducible refine HeldP.s_drew ?_) | (with_reducible refine HeldP.s_drewN ?_) | (with_reducible refine HeldP.s_set ?_) | (with_reducible refine HeldP.s_new (by first | omega | (simp; done) | (simp; omega))) | (with_reducible refine HeldP.s_alloc ?_) | (with_reducible exact ⟨_, by assumption⟩) | omega | (intro e; simp at e; done) | (intro e; simp at e; omega) | (exact rfl) | (simp; done) | (simp; omega))), by (repeat' (first | (with_reducible assumption) | (with_reducible refine HeldP.c_drew ?_) | (with_reducible refine HeldP.c_drewN ?_) | (with_reducible refine HeldP.c_same (by omega) ?_) | (with_reducible refine HeldP.c_other ?_ ?_) | (with_reducible refine HeldP.c_new (by first | omega | (simp; done) | (simp; omega)) ?_) | (with_reducible refine HeldP.c_alloc ?_ ?_) | (with_reducible refine HeldP.e_drew ?_) | (with_reducible refine HeldP.e_drewN ?_) | (with_reducible refine HeldP.e_set ?_) | (with_reducible refine HeldP.e_new (by first | omega | (simp; done) | (simp; omega)) ⟨_, rfl⟩) | (with_reducible refine HeldP.e_alloc ?_ ?_) | (with_reducible refine HeldP.f_drew ?_) | (with_reducible refine HeldP.f_drewN ?_) | (with_reducible refine HeldP.f_set ?_) | (with_reducible refine HeldP.f_new (by first | omega | (simp; done) | (simp; omega))) | (with_reducible refine HeldP.f_alloc ?_ ?_) | (with_reducible refine HeldP.s_drew ?_) | (with_reducible refine HeldP.s_drewN ?_) | (with_reducible refine HeldP.s_set ?_) | (with_reducible refine HeldP.s_new (by first | omega | (simp; done) | (simp; omega))) | (with_reducible refine HeldP.s_alloc ?_) | (with_reducible exact ⟨_, by assumption⟩) | omega | (intro e; simp at e; done) | (intro e; simp at e; omega) | (exact rfl) | (simp; done) | (simp; omega)))⟩ ?_
  rintro w6 ⟨hb6, hz6, c0, c1, c2, c3⟩
  refine (lticks_c (ts := [(3, 7), (9, 4)]) (c := tc) (d := 4) (m := 4) (G2.out.below hb6) hz6 (fun i t ht => by
    match i, ht with
    | 0, ht =>
      obtain rfl : ((3, 7) : Tick) = t := by simpa using ht
      exact ⟨c0, c1⟩
    | 1, ht =>
      obtain rfl : ((9, 4) : Tick) = t := by simpa using ht
      exact ⟨c2, c3⟩
    | k + 2, ht => simp at ht) rfl (by simp)).mono ?_
  rintro e w7 ⟨rfl, hb7⟩
  have HB57 := Lib.hid (below_t hb6 hb7)
  have HK7 := Lib.hid (HK5.out.below HB57.out)
  have HB7 := Lib.hid (below_t HB5.out HB57.out)
  clear hb6 hz6 c0 c1 c2 c3 hb7 t5
  go_wp2_with fail
  go_at_call 27
  refine (due_c (r := 4) HK7.out (by decide)).mono ?_
  rintro e w8 ⟨rfl, hb8⟩
  have HK8 := Lib.hid (HK7.out.below hb8)
  have HB8 := Lib.hid (below_t HB7.out hb8)
  clear hb8
  go_wp2_with fail
  go_at_call 19
  refine (least_c (r := 4) HK8.out (by decide)).mono ?_
  rintro e w9 ⟨rfl, hb9⟩
  have HB9 := Lib.hid (below_t HB8.out hb9)
  clear hb9
  go_wp2_with fail
  go_ret
  exact ⟨rfl, HB9.out⟩
end ChunkW
end Go.Proofs.YtiochoppiohjnaaDoor
