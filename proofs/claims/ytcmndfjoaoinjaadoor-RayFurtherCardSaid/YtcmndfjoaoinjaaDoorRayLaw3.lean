/-
  RayStraight: each place of a way is a side of the one ahead, never backwards, and the straight way touches it.
-/
import Derived.Test.YtcmndfjoaoinjaaDoorRayTouch
import Derived.Test.YtcmndfjoaoinjaaDoorRayLaw2
import Derived.Deep.Cut
import Derived.Deep.CutRange
import Derived.Deep.LoopGhost
namespace Go.Proofs.YtcmndfjoaoinjaaDoor
open Go.RowKit
set_option linter.unusedVariables false
set_option linter.unusedSimpArgs false
namespace RayP
open PlaceW BlkP
theorem numK_sz (d : T3) (k : Nat) : numK (szT d) k = sz (numK d k) := by
  unfold numK szT
  split
  · rfl
  · split <;> rfl
theorem numK_pos (p d m : T3) (k : Nat) : numK (posA p d m) k = numK p k + sgn (numK d k) * numK m k := by
  unfold numK posA
  split
  · rfl
  · split <;> rfl
theorem numK_ge {m : T3} (h : Pos3 m) (k : Nat) : 0 ≤ numK m k := by
  obtain ⟨h1, h2, h3⟩ := h
  unfold numK
  split
  · exact h1
  · split
    · exact h3
    · exact h2
theorem numK_le {m : T3} {n : Int} (h : ∀ k, nA m k ≤ n) (k : Nat) : numK m k ≤ n := by
  have h0 : m.x ≤ n := h 0
  have h1 : m.z ≤ n := h 1
  have h2 : m.y ≤ n := h 2
  unfold numK
  split
  · exact h0
  · split
    · exact h2
    · exact h1
theorem self_pair {a b : Int} (h : 0 ≤ b) : (2 * a - 1) * b ≤ (2 * a + 1) * b := Int.mul_le_mul_of_nonneg_right (by omega) h
/-- The place behind i crossings is one that touches is asked of. -/
theorem tou_at {p d : T3} {i : Nat} (hp : mayT p = true) (hd : dirB d.x d.y d.z = true) (hi : i ≤ 256) : TouQ p (posA p d (mAt d i)) d (numK (mAt d i)) (numK (szT d)) := by
  have ht := touch_at (dir_some hd) i
  have hs := szT_nonneg d
  obtain ⟨b1, b2, b3, b4, b5, b6⟩ := mayT_true hp
  refine ⟨fun k hk => ?_, fun k => ⟨numK_ge (pos_at d i) k, ?_⟩, fun k => ⟨numK_ge hs k, numK_le (dir_size hd) k⟩, fun k => ?_, fun a b => ?_⟩
  · unfold AxC
    rw [numK_pos, numK_sz]
    have hz : numK d k = 0 → numK (mAt d i) k = 0 := fun e => by
      obtain ⟨n1, n2, n3⟩ := ht.none
      have e2 : numK (szT d) k = 0 := by rw [numK_sz, e]; rfl
      unfold numK at e2 ⊢
      split
      · rename_i q
        rw [if_pos q] at e2
        exact n1 e2
      · rename_i q
        rw [if_neg q] at e2
        split
        · rename_i q2
          rw [if_pos q2] at e2
          exact n3 e2
        · rename_i q2
          rw [if_neg q2] at e2
          exact n2 e2
    rcases Int.lt_trichotomy (numK d k) 0 with h | h | h
    · have e1 : sz (numK d k) = -(numK d k) := by simp [sz, h]
      have e2 : sgn (numK d k) = -1 := by simp [sgn, h]
      exact .inl ⟨by omega, by omega, by rw [e2]; omega⟩
    · exact .inr (.inr ⟨h, by rw [h]; rfl, hz h, by rw [hz h]; omega⟩)
    · have e1 : sz (numK d k) = numK d k := by simp [sz]; omega
      have e2 : sgn (numK d k) = 1 := by
        unfold sgn
        rw [if_neg (by omega), if_neg (by omega)]
      exact .inr (.inl ⟨by omega, by omega, by rw [e2]; omega⟩)
  · exact numK_le (fun k => Int.le_trans (at_le d i k) (by omega)) k
  · unfold numK
    split
    · omega
    · split <;> omega
  · obtain ⟨_, _, t1, t2, t3, t4, t5, t6⟩ := ht
    unfold numK
    by_cases a0 : a = 0
    · by_cases b0 : b = 0
      · simp only [a0, b0, if_true]
        exact self_pair hs.1
      · by_cases b1 : b = 1
        · simp only [a0, b1, if_true, Nat.one_ne_zero, if_false]
          exact t2
        · simp only [a0, b0, b1, if_true, if_false]
          exact t1
    · by_cases a1 : a = 1
      · by_cases b0 : b = 0
        · simp only [a1, b0, if_true, Nat.one_ne_zero, if_false]
          exact t5
        · by_cases b1 : b = 1
          · simp only [a1, b1, if_true, Nat.one_ne_zero, if_false]
            exact self_pair hs.2.2
          · simp only [a1, b0, b1, if_true, Nat.one_ne_zero, if_false]
            exact t6
      · by_cases b0 : b = 0
        · simp only [a0, a1, b0, if_true, if_false]
          exact t3
        · by_cases b1 : b = 1
          · simp only [a0, a1, b1, if_true, Nat.one_ne_zero, if_false]
            exact t4
          · simp only [a0, a1, b0, b1, if_false]
            exact self_pair hs.2.1
/-- One step: along one axis, by its sign. -/
theorem one_axis {p d : T3} (i : Nat) (h3 : Some3 (szT d)) : ∃ x, x < 3 ∧ numK d x ≠ 0 ∧ numK (posA p d (mAt d (i + 1))) x = numK (posA p d (mAt d i)) x + sgn (numK d x) ∧ ∀ k, k < 3 → k ≠ x → numK (posA p d (mAt d (i + 1))) k = numK (posA p d (mAt d i)) k := by
  rw [stepM_at]
  rcases step_one (p := p) (pos_at d i) h3 with ⟨h, e⟩ | ⟨h, e⟩ | ⟨h, e⟩
  · refine ⟨0, by omega, h, by rw [e]; rfl, fun k hk hne => ?_⟩
    rw [e]
    match k, hk with
    | 0, _ => exact absurd rfl hne
    | 1, _ => rfl
    | 2, _ => rfl
  · refine ⟨2, by omega, h, by rw [e]; rfl, fun k hk hne => ?_⟩
    rw [e]
    match k, hk with
    | 0, _ => rfl
    | 1, _ => rfl
    | 2, _ => exact absurd rfl hne
  · refine ⟨1, by omega, h, by rw [e]; rfl, fun k hk hne => ?_⟩
    rw [e]
    match k, hk with
    | 0, _ => rfl
    | 1, _ => exact absurd rfl hne
    | 2, _ => rfl
theorem way_at {p d : T3} {n i : Nat} {q : T3} (h : (wayA p d n)[i]? = some q) : q = posA p d (mAt d (i + 1)) ∧ mayT q = true := by
  have := way_get (p := p) (d := d) (n := n) (k := 0) (i := i) (q := q) h
  rw [Nat.zero_add] at this
  exact this
/-- All blocks but one are as they were. -/
def KeepB (W : World) (x : Nat) (W' : World) : Prop := W.heap.size ≤ W'.heap.size ∧ ∀ b, b ≠ x → b < W.heap.size → W'.heap[b]? = W.heap[b]?
theorem KeepB.refl (W : World) (x : Nat) : KeepB W x W := ⟨Nat.le_refl _, fun _ _ _ => rfl⟩
theorem KeepB.blk {W W' : World} {x b : Nat} {T : TypeId} {vs : List Value} (h : KeepB W x W') (hb : Blk W b T vs) (hne : b ≠ x) : Blk W' b T vs := (h.2 b hne hb.lt).trans hb
theorem KeepB.cell {W W' : World} {x b o : Nat} {v : Value} (h : KeepB W x W') (hl : b < W.heap.size) (hne : b ≠ x) (hc : W.cell? ⟨b, o, none⟩ = some v) : W'.cell? ⟨b, o, none⟩ = some v := (World.cell?_of_block (h.2 b hne hl)).trans hc
theorem KeepB.below {W W' W2 : World} {x : Nat} (h : KeepB W x W') (hb : Below W'.heap.size W' W2) : KeepB W x W2 := ⟨Nat.le_trans h.1 hb.size, fun b hne hl => (hb.block b (Nat.lt_of_lt_of_le hl h.1)).trans (h.2 b hne hl)⟩
theorem KeepB.set {W W' : World} {x : Nat} (h : KeepB W x W') {a : Addr} (ha : a.block = x) (v : Value) : KeepB W x (W'.setCell a v) := ⟨by simpa using h.1, fun b hne hl => (heap_setCell_other _ a b v (by omega)).trans (h.2 b hne hl)⟩
/-- How many steps have been seen behind k axes, if the step is along x. -/
def stK (x k : Nat) : Int := if x < k then 1 else 0
theorem stK_no {x k : Nat} (h : k ≠ x) : stK x (k + 1) = stK x k := by
  unfold stK
  by_cases q : x < k
  · rw [if_pos q, if_pos (by omega)]
  · rw [if_neg q, if_neg (by omega)]
theorem stK_self (x : Nat) : stK x x = 0 ∧ stK x (x + 1) = 1 := by simp [stK]
theorem err_cases (p d : T3) (n : Int) : (errA p d n = 0 ∧ mayT p = true ∧ dirB d.x d.y d.z = true ∧ ∃ k : Nat, n = k ∧ k ≤ 256 ∧ ansA p d n = wayA p d k) ∨ (errA p d n ≠ 0 ∧ ansA p d n = []) := by
  by_cases hp : mayT p = true
  · by_cases hc : dirB d.x d.y d.z = true ∧ 0 ≤ n ∧ n ≤ 256
    · have e : errA p d n = 0 := by rw [errA, if_pos hp, if_pos hc]
      refine .inl ⟨e, hp, hc.1, n.toNat, by omega, by omega, ?_⟩
      rw [ansA, if_pos e]
    · have e : errA p d n = 2 := by rw [errA, if_pos hp, if_neg hc]
      exact .inr ⟨by omega, by rw [ansA, if_neg (by omega)]⟩
  · have e : errA p d n = 10 := by rw [errA, if_neg hp]
    exact .inr ⟨by omega, by rw [ansA, if_neg (by omega)]⟩
set_option maxRecDepth 100000 in
set_option maxHeartbeats 16000000 in
theorem law_straight {p d : T3} {n : Int} {w : World} (hT : ATab w) : Calls Tryd.prog 5 #[.agg #[.int .i64 p.x, .int .i64 p.y, .int .i64 p.z], .agg #[.int .i64 d.x, .int .i64 d.y, .int .i64 d.z], .int .i64 n] w fun e w' => e = .returned (.bool true) ∧ Below w.heap.size w w' := by
  have HT := Lib.hid hT
  obtain ⟨er, her⟩ : ∃ er, errA p d n = er := ⟨_, rfl⟩
  obtain ⟨l, hl⟩ : ∃ l, ansA p d n = l := ⟨_, rfl⟩
  have HE := Lib.hid her
  have HL := Lib.hid hl
  have HCS := Lib.hid (err_cases p d n)
  clear hT her hl
  go_enter Tryd.func5, Tryd.ntmps5
  go_wp2_with fail
  go_at_call 7
  refine (way_any (HT.out.below (by (repeat' (first | (with_reducible exact Below.refl _ _) | (with_reducible refine Below.setCell ?_ (by (first | omega | (simp; done) | (simp; omega))) _) | (with_reducible refine Below.alloc ?_ (by (first | omega | (simp; done) | (simp; omega))) _) | (with_reducible refine Below.drew ?_) | (with_reducible refine below_drewN ?_ _))))) HE.out HL.out).mono ?_
  rintro e w1 ⟨va, rfl, hOa, hb1⟩
  have hP1 : Blk w1 w.heap.size 23 (cellsT p) := BlkP.Blk.below (by (repeat' (first | (with_reducible refine BlkP.Blk.drew ?_) | (with_reducible refine BlkP.Blk.drewN ?_ _) | (with_reducible refine BlkP.Blk.setAt (us := ?_) (by first | omega | (simp; done) | (simp; omega)) rfl ?_ ?_) | (with_reducible refine BlkP.Blk.otherAt ?_ (by first | omega | (simp; done) | (simp; omega))) | (with_reducible refine BlkP.Blk.newA' (by first | omega | (simp; done) | (simp; omega)) rfl) | (with_reducible refine BlkP.Blk.alloc ?_ _) | (exact rfl)))) hb1
  have hD1 : Blk w1 (w.heap.size + 1) 24 [.int .i64 d.x, .int .i64 d.y, .int .i64 d.z] := BlkP.Blk.below (by (repeat' (first | (with_reducible refine BlkP.Blk.drew ?_) | (with_reducible refine BlkP.Blk.drewN ?_ _) | (with_reducible refine BlkP.Blk.setAt (us := ?_) (by first | omega | (simp; done) | (simp; omega)) rfl ?_ ?_) | (with_reducible refine BlkP.Blk.otherAt ?_ (by first | omega | (simp; done) | (simp; omega))) | (with_reducible refine BlkP.Blk.newA' (by first | omega | (simp; done) | (simp; omega)) rfl) | (with_reducible refine BlkP.Blk.alloc ?_ _) | (exact rfl)))) hb1
  have HB1 : Hid (Below w.heap.size w w1) := Lib.hid (by (repeat' (first | (with_reducible exact Below.refl _ _) | (with_reducible refine Below.setCell ?_ (by (first | omega | (simp; done) | (simp; omega))) _) | (with_reducible refine Below.alloc ?_ (by (first | omega | (simp; done) | (simp; omega))) _) | (with_reducible refine Below.drew ?_) | (with_reducible refine below_drewN ?_ _) | (with_reducible refine Below.trans ?_ (Below.mono hb1 (by (first | omega | (simp; done) | (simp; omega))))))))
  have HP1 := Lib.hid hP1
  have HD1 := Lib.hid hD1
  have c0 := hP1.cell (i := 0) (v := .int .i64 p.x) rfl
  have c1 := hP1.cell (i := 1) (v := .int .i64 p.y) rfl
  have c2 := hP1.cell (i := 2) (v := .int .i64 p.z) rfl
  have c3 := hD1.cell (i := 0) (v := .int .i64 d.x) rfl
  have c4 := hD1.cell (i := 1) (v := .int .i64 d.y) rfl
  have c5 := hD1.cell (i := 2) (v := .int .i64 d.z) rfl
  have hl := hD1.lt
  have hl0 := hP1.lt
  clear hP1 hD1
  have hlb1 := hb1.size
  try simp at hlb1
  have HR := Lib.hid hOa.rowT
  clear hb1 hOa
  rcases HCS.out with ⟨he0, hp, hd, k0, hn, hk256, hans⟩ | ⟨he0, hans⟩
  · have HP0 := Lib.hid hp
    have HDD := Lib.hid hd
    have HAN := Lib.hid (HL.out.symm.trans hans)
    have her0 : er = 0 := HE.out.symm.trans he0
    subst her0 hn
    obtain ⟨A, ca, rfl, hca, hcm, hne⟩ := HR.out
    have hlen : l.length ≤ k0 := by
      rw [HAN.out]
      exact way_len _ _
    obtain ⟨nn, hnn⟩ : ∃ nn, l.length = nn := ⟨_, rfl⟩
    have HNN := Lib.hid hnn
    rw [hnn] at hca hlen ⊢
    have HNE := Lib.hid hne
    have hgt : ¬ (k0 : Int) < (nn : Int) := by omega
    have hgtN : decide (k0 < nn) = false := decide_eq_false (by omega)
    have hgtI : decide ((k0 : Int) < (nn : Int)) = false := decide_eq_false hgt
    have HR2 := HR
    clear hnn hne he0 hp hd hans hcm HCS
    go_wp2_with fail
    refine HeldP.wp_named (fun W => Blk W w1.heap.size 23 (cellsT p) ∧ Blk W w.heap.size 23 (cellsT p) ∧ Blk W (w.heap.size + 1) 24 [.int .i64 d.x, .int .i64 d.y, .int .i64 d.z] ∧ Below w1.heap.size w1 W) ⟨by (repeat' (first | (with_reducible refine BlkP.Blk.drew ?_) | (with_reducible refine BlkP.Blk.drewN ?_ _) | (with_reducible refine BlkP.Blk.setAt (us := ?_) (by first | omega | (simp; done) | (simp; omega)) rfl ?_ ?_) | (with_reducible refine BlkP.Blk.otherAt ?_ (by first | omega | (simp; done) | (simp; omega))) | (with_reducible refine BlkP.Blk.newA' (by first | omega | (simp; done) | (simp; omega)) rfl) | (with_reducible refine BlkP.Blk.alloc ?_ _) | (exact rfl))), by (have h := HP1.out; (repeat' (first | (with_reducible exact h) | (with_reducible refine BlkP.Blk.drew ?_) | (with_reducible refine BlkP.Blk.drewN ?_ _) | (with_reducible refine BlkP.Blk.setAt (us := ?_) (by first | omega | (simp; done) | (simp; omega)) rfl ?_ ?_) | (with_reducible refine BlkP.Blk.otherAt ?_ (by first | omega | (simp; done) | (simp; omega))) | (with_reducible refine BlkP.Blk.newA' (by first | omega | (simp; done) | (simp; omega)) rfl) | (with_reducible refine BlkP.Blk.alloc ?_ _) | (exact rfl)))), by (have h := HD1.out; (repeat' (first | (with_reducible exact h) | (with_reducible refine BlkP.Blk.drew ?_) | (with_reducible refine BlkP.Blk.drewN ?_ _) | (with_reducible refine BlkP.Blk.setAt (us := ?_) (by first | omega | (simp; done) | (simp; omega)) rfl ?_ ?_) | (with_reducible refine BlkP.Blk.otherAt ?_ (by first | omega | (simp; done) | (simp; omega))) | (with_reducible refine BlkP.Blk.newA' (by first | omega | (simp; done) | (simp; omega)) rfl) | (with_reducible refine BlkP.Blk.alloc ?_ _) | (exact rfl)))), by (repeat' (first | (with_reducible exact Below.refl _ _) | (with_reducible refine Below.setCell ?_ (by (first | omega | (simp; done) | (simp; omega))) _) | (with_reducible refine Below.alloc ?_ (by (first | omega | (simp; done) | (simp; omega))) _) | (with_reducible refine Below.drew ?_) | (with_reducible refine below_drewN ?_ _)))⟩ ?_
    rintro W1 ⟨hLB, hPB, hDB, hbW1⟩
    have HLB : Hid (Blk W1 w1.heap.size 23 (cellsT (posA p d (mAt d 0)))) := Lib.hid (by
      rw [show mAt d 0 = ⟨0, 0, 0⟩ from rfl, pos_zero]
      exact hLB)
    have HPB := Lib.hid hPB
    have HDB := Lib.hid hDB
    have HBW1 := Lib.hid hbW1
    have hzW1 := hLB.lt
    clear hLB hPB hDB hbW1 c0 c1 c2 c3 c4 c5 hl hl0
    generalize hbL : w1.heap.size = bL at *
    go_loopg [10] nn (fun g v wr => ∃ i : Nat, i + g = nn ∧ v = .int .i64 (i : Int) ∧ Blk wr bL 23 (cellsT (posA p d (mAt d i))) ∧ KeepB W1 bL wr ∧ Below w.heap.size w wr ∧ W1.heap.size ≤ wr.heap.size)
    case atStart => exact ⟨0, by omega, rfl, HLB.out, KeepB.refl _ _, HB1.out.trans (by rw [← hbL] at HBW1; exact HBW1.out.mono HB1.out.size), Nat.le_refl _⟩
    case round =>
      obtain ⟨i, hig, rfl, hLw, hKw, hbw, hzw⟩ := hrel
      have HLW := Lib.hid hLw
      have HKW := Lib.hid hKw
      have HBWW := Lib.hid hbw
      have lLw := hLw.lt
      clear hLw hKw hbw
      cases gk with
      | zero =>
        obtain rfl : i = nn := by omega
        have hI : ¬ (i : Int) < (i : Int) := by omega
        go_wp2_with fail
        go_at_call 10
        refine (awake_c (HT.out.below HBWW.out)).mono ?_
        rintro e w2 ⟨rfl, hb2⟩
        have HB2 := Lib.hid (HBWW.out.trans (hb2.mono HBWW.out.size))
        clear hb2
        go_wp2_with fail
        go_ret
        exact ⟨rfl, HB2.out⟩
      | succ gg =>
        have hI : (i : Int) < (nn : Int) := by omega
        have hin : i < nn := by omega
        have h0 : (0 : Int) ≤ (i : Int) := by omega
        obtain ⟨q, hq⟩ := lst_get (l := l) (k := i) (by rw [HNN.out]; exact hin)
        have hnel : l ≠ [] := fun e => by
          rw [e] at hq
          simp at hq
        obtain ⟨g, rfl, hg1, hcs⟩ := HNE.out hnel
        obtain ⟨r0', r1', r2'⟩ := hcs i q hq
        rw [HAN.out] at hq
        obtain ⟨hq1, hq2⟩ := way_at hq
        subst hq1
        have hgL : g ≠ bL := by omega
        have hgW : g < W1.heap.size := by omega
        have HR0 : Hid (∀ W, KeepB W1 bL W → W.cell? ⟨g, i * 3, none⟩ = some (.int .i64 ((posA p d (mAt d (i + 1))).x)) ∧ W.cell? ⟨g, i * 3 + 1, none⟩ = some (.int .i64 ((posA p d (mAt d (i + 1))).y)) ∧ W.cell? ⟨g, i * 3 + 2, none⟩ = some (.int .i64 ((posA p d (mAt d (i + 1))).z))) := Lib.hid (fun W hK => by
          have hw : ∀ o v, w1.cell? ⟨g, o, none⟩ = some v → W.cell? ⟨g, o, none⟩ = some v := fun o v hv => hK.cell hgW hgL ((HBW1.out.cell (p := ⟨g, o, none⟩) hg1).trans hv)
          exact ⟨hw _ _ r0', hw _ _ r1', hw _ _ r2'⟩)
        have HMAY := Lib.hid hq2
        clear r0' r1' r2' hcs hq hq2
        obtain ⟨W0, hW0⟩ : ∃ W0 : World, wr = W0 := ⟨_, rfl⟩
        subst hW0
        obtain ⟨r0, r1, r2⟩ := HR0.out _ HKW.out
        have l0 := HLW.out.cell (i := 0) (v := .int .i64 ((posA p d (mAt d i)).x)) rfl
        have l1 := HLW.out.cell (i := 1) (v := .int .i64 ((posA p d (mAt d i)).y)) rfl
        have l2 := HLW.out.cell (i := 2) (v := .int .i64 ((posA p d (mAt d i)).z)) rfl
        have zzL := lLw
        have zzg : g < wr.heap.size := by omega
        go_upto_region 10 with (fail)
        go_cut [11, 12] from 36 to 105 (fun s11 s12 W => CutN (posA p d (mAt d i)) (posA p d (mAt d (i + 1))) wr s11 s12 W)
        case first =>
          refine wp_region_noPanic ?_
          refine wp_region_held_drew (S := fun W => Below wr.heap.size wr W) (by kernel_rfl) ((Below.refl _ wr).drew) (fun hHeld => ?_)
          refine wpAnyH_take (i := 0) (oi := ⟨some 42, _, _, _, _, _⟩) (v := .agg #[.int .i64 ((posA p d (mAt d i)).x), .int .i64 ((posA p d (mAt d i)).y), .int .i64 ((posA p d (mAt d i)).z)]) rfl (by kernel_rfl) (by kernel_rfl) (by kernel_rfl) (fun _ _ _ h => h) (Or.inl ⟨by rfl, fun W hSW => by have a0 := (hSW.cell (p := ⟨bL, 0, none⟩) zzL).trans l0; have a1 := (hSW.cell (p := ⟨bL, 1, none⟩) zzL).trans l1; have a2 := (hSW.cell (p := ⟨bL, 2, none⟩) zzL).trans l2; go_simp⟩) hHeld ?_
          simp only [Act.put, List.setIfInBounds_toArray, List.set_cons_zero, List.set_cons_succ]
          refine wpAnyH_take (i := 2) (oi := ⟨some 44, _, _, _, _, _⟩) (v := .slice (some ⟨g, 0, none⟩) nn ca) rfl (by kernel_rfl) (by kernel_rfl) (by kernel_rfl) (fun _ _ _ h => h) (Or.inl ⟨by rfl, fun W hSW => by go_simp⟩) hHeld ?_
          simp only [Act.put, List.setIfInBounds_toArray, List.set_cons_zero, List.set_cons_succ]
          refine wpAnyH_take (i := 3) (oi := ⟨some 45, _, _, _, _, _⟩) (v := .int .i64 (i : Int)) rfl (by kernel_rfl) (by kernel_rfl) (by kernel_rfl) (fun _ _ _ h => h) (Or.inl ⟨by rfl, fun W hSW => by go_simp⟩) hHeld ?_
          simp only [Act.put, List.setIfInBounds_toArray, List.set_cons_zero, List.set_cons_succ]
          refine wpAnyH_take (i := 4) (oi := ⟨some 46, _, _, _, _, _⟩) (v := .pointer (some ⟨g, i * 3, none⟩)) rfl (by kernel_rfl) (by kernel_rfl) (by kernel_rfl) (fun _ _ _ h => h) (Or.inl ⟨by rfl, fun W hSW => by go_simp⟩) hHeld ?_
          simp only [Act.put, List.setIfInBounds_toArray, List.set_cons_zero, List.set_cons_succ]
          refine wpAnyH_take (i := 5) (oi := ⟨some 47, _, _, _, _, _⟩) (v := .agg #[.int .i64 ((posA p d (mAt d (i + 1))).x), .int .i64 ((posA p d (mAt d (i + 1))).y), .int .i64 ((posA p d (mAt d (i + 1))).z)]) rfl (by kernel_rfl) (by kernel_rfl) (by kernel_rfl) (fun _ _ _ h => h) (Or.inl ⟨by rfl, fun W hSW => by have a0 := (hSW.cell (p := ⟨g, i * 3, none⟩) zzg).trans r0; have a1 := (hSW.cell (p := ⟨g, i * 3 + 1, none⟩) zzg).trans r1; have a2 := (hSW.cell (p := ⟨g, i * 3 + 2, none⟩) zzg).trans r2; go_simp⟩) hHeld ?_
          simp only [Act.put, List.setIfInBounds_toArray, List.set_cons_zero, List.set_cons_succ]
          refine any_named (fun W => Below wr.heap.size wr W) hHeld ?_
          clear hHeld
          rintro v0 hHeld
          have hSv0 := hHeld.size
          refine wpAnyH_ready (rs := [1, 7, 8]) (by kernel_rfl) (by simp) ?_
          refine AllReadyH.cons (o := ⟨some 43, _, _, _, _, _⟩) rfl (fun K hK => ?_) ?_
          · go_simp
            refine (numbers_c (q := (posA p d (mAt d i))) _).mono ?_
            rintro e wf ⟨rfl, hbf⟩
            go_wp2_with fail
            refine hK.out _ _ (below_t hHeld hbf) (fun hHeld => ?_)
            clear hK K
            refine any_named (fun W => Below wr.heap.size wr W) hHeld ?_
            clear hHeld
            rintro v1 hHeld
            have hSv1 := hHeld.size
            refine wpAnyH_ready (rs := [6, 7, 8]) (by kernel_rfl) (by simp) ?_
            refine AllReadyH.cons (o := ⟨some 48, _, _, _, _, _⟩) rfl (fun K hK => ?_) ?_
            · go_simp
              refine (numbers_c (q := (posA p d (mAt d (i + 1)))) _).mono ?_
              rintro e wf ⟨rfl, hbf⟩
              go_wp2_with fail
              refine hK.out _ _ (below_t hHeld hbf) (fun hHeld => ?_)
              clear hK K
              refine any_named (fun W => Below wr.heap.size wr W) hHeld ?_
              clear hHeld
              rintro v2 hHeld
              have hSv2 := hHeld.size
              refine wpAnyH_ready (rs := [7, 8]) (by kernel_rfl) (by simp) ?_
              refine AllReadyH.cons (o := ⟨some 11, _, _, _, _, _⟩) rfl (fun K hK => ?_) ?_
              · go_simp
                refine hK.out _ _ (hHeld.alloc hHeld.size _) (fun hHeld => ?_)
                clear hK K
                refine any_named (fun W => Below wr.heap.size wr W ∧ Blk W v2.heap.size 24 [.int .i64 0, .int .i64 0, .int .i64 0]) ⟨hHeld, by (repeat' (first | (with_reducible refine BlkP.Blk.drew ?_) | (with_reducible refine BlkP.Blk.drewN ?_ _) | (with_reducible refine BlkP.Blk.setAt (us := ?_) (by first | omega | (simp; done) | (simp; omega)) rfl ?_ ?_) | (with_reducible refine BlkP.Blk.otherAt ?_ (by first | omega | (simp; done) | (simp; omega))) | (with_reducible refine BlkP.Blk.newA' (by first | omega | (simp; done) | (simp; omega)) rfl) | (with_reducible refine BlkP.Blk.alloc ?_ _) | (exact rfl)))⟩ ?_
                clear hHeld
                rintro v3 ⟨hHeld, hA⟩
                have hSv3 := hHeld.size
                refine wpAnyH_ready (rs := [8]) (by kernel_rfl) (by simp) ?_
                refine AllReadyH.cons (o := ⟨some 12, _, _, _, _, _⟩) rfl (fun K hK => ?_) ?_
                · go_simp
                  refine hK.out _ _ (hHeld.alloc hHeld.size _) (fun hHeld => ?_)
                  clear hK K
                  have lA := hA.lt
                  refine any_named (fun W => Below wr.heap.size wr W ∧ Blk W v2.heap.size 24 [.int .i64 0, .int .i64 0, .int .i64 0] ∧ Blk W v3.heap.size 24 [.int .i64 0, .int .i64 0, .int .i64 0]) ⟨hHeld, by (repeat' (first | (with_reducible exact hA) | (with_reducible refine BlkP.Blk.drew ?_) | (with_reducible refine BlkP.Blk.drewN ?_ _) | (with_reducible refine BlkP.Blk.setAt (us := ?_) (by first | omega | (simp; done) | (simp; omega)) rfl ?_ ?_) | (with_reducible refine BlkP.Blk.otherAt ?_ (by first | omega | (simp; done) | (simp; omega))) | (with_reducible refine BlkP.Blk.newA' (by first | omega | (simp; done) | (simp; omega)) rfl) | (with_reducible refine BlkP.Blk.alloc ?_ _) | (exact rfl))), by (repeat' (first | (with_reducible refine BlkP.Blk.drew ?_) | (with_reducible refine BlkP.Blk.drewN ?_ _) | (with_reducible refine BlkP.Blk.setAt (us := ?_) (by first | omega | (simp; done) | (simp; omega)) rfl ?_ ?_) | (with_reducible refine BlkP.Blk.otherAt ?_ (by first | omega | (simp; done) | (simp; omega))) | (with_reducible refine BlkP.Blk.newA' (by first | omega | (simp; done) | (simp; omega)) rfl) | (with_reducible refine BlkP.Blk.alloc ?_ _) | (exact rfl)))⟩ ?_
                  clear hHeld hA
                  rintro v4 ⟨hHeld, hA, hN⟩
                  have hSv4 := hHeld.size
                  refine wpAnyH_ready (rs := [9]) (by kernel_rfl) (by simp) ?_
                  refine AllReadyH.cons (o := ⟨none, _, _, _, _, _⟩) rfl (fun K hK => ?_) ?_
                  · have e0 := hA.cell (i := 0) (v := .int .i64 0) rfl
                    have f0 := hA.frozen 0
                    have e1 := hA.cell (i := 1) (v := .int .i64 0) rfl
                    have f1 := hA.frozen 1
                    have e2 := hA.cell (i := 2) (v := .int .i64 0) rfl
                    have f2 := hA.frozen 2
                    have lA := hA.lt
                    have lN := hN.lt
                    go_simp
                    refine hK.out _ _ (by (repeat' (first | (with_reducible exact Below.refl _ _) | (with_reducible refine Below.setCell ?_ (by (first | omega | (simp; done) | (simp; omega))) _) | (with_reducible refine Below.alloc ?_ (by (first | omega | (simp; done) | (simp; omega))) _) | (with_reducible refine Below.drew ?_) | (with_reducible refine below_drewN ?_ _) | (with_reducible refine Below.trans ?_ (Below.mono hHeld (by (first | omega | (simp; done) | (simp; omega)))))))) (fun hHeld => ?_)
                    clear hK K
                    clear e0 e1 e2 f0 f1 f2
                    refine any_named (fun W => Below wr.heap.size wr W ∧ Blk W v2.heap.size 24 [.int .i64 ((posA p d (mAt d i)).x), .int .i64 ((posA p d (mAt d i)).y), .int .i64 ((posA p d (mAt d i)).z)] ∧ Blk W v3.heap.size 24 [.int .i64 0, .int .i64 0, .int .i64 0]) ⟨hHeld, by (repeat' (first | (with_reducible exact hA) | (with_reducible refine BlkP.Blk.drew ?_) | (with_reducible refine BlkP.Blk.drewN ?_ _) | (with_reducible refine BlkP.Blk.setAt (us := ?_) (by first | omega | (simp; done) | (simp; omega)) rfl ?_ ?_) | (with_reducible refine BlkP.Blk.otherAt ?_ (by first | omega | (simp; done) | (simp; omega))) | (with_reducible refine BlkP.Blk.newA' (by first | omega | (simp; done) | (simp; omega)) rfl) | (with_reducible refine BlkP.Blk.alloc ?_ _) | (exact rfl))), by (repeat' (first | (with_reducible exact hN) | (with_reducible refine BlkP.Blk.drew ?_) | (with_reducible refine BlkP.Blk.drewN ?_ _) | (with_reducible refine BlkP.Blk.setAt (us := ?_) (by first | omega | (simp; done) | (simp; omega)) rfl ?_ ?_) | (with_reducible refine BlkP.Blk.otherAt ?_ (by first | omega | (simp; done) | (simp; omega))) | (with_reducible refine BlkP.Blk.newA' (by first | omega | (simp; done) | (simp; omega)) rfl) | (with_reducible refine BlkP.Blk.alloc ?_ _) | (exact rfl)))⟩ ?_
                    clear hHeld hA hN
                    rintro v5 ⟨hHeld, hA, hN⟩
                    have hSv5 := hHeld.size
                    refine wpAnyH_ready (rs := [10]) (by kernel_rfl) (by simp) ?_
                    refine AllReadyH.cons (o := ⟨none, _, _, _, _, _⟩) rfl (fun K hK => ?_) ?_
                    · have e0 := hN.cell (i := 0) (v := .int .i64 0) rfl
                      have f0 := hN.frozen 0
                      have e1 := hN.cell (i := 1) (v := .int .i64 0) rfl
                      have f1 := hN.frozen 1
                      have e2 := hN.cell (i := 2) (v := .int .i64 0) rfl
                      have f2 := hN.frozen 2
                      have lA := hA.lt
                      have lN := hN.lt
                      go_simp
                      refine hK.out _ _ (by (repeat' (first | (with_reducible exact Below.refl _ _) | (with_reducible refine Below.setCell ?_ (by (first | omega | (simp; done) | (simp; omega))) _) | (with_reducible refine Below.alloc ?_ (by (first | omega | (simp; done) | (simp; omega))) _) | (with_reducible refine Below.drew ?_) | (with_reducible refine below_drewN ?_ _) | (with_reducible refine Below.trans ?_ (Below.mono hHeld (by (first | omega | (simp; done) | (simp; omega)))))))) (fun hHeld => ?_)
                      clear hK K
                      clear e0 e1 e2 f0 f1 f2
                      refine any_named (fun W => Below wr.heap.size wr W ∧ Blk W v2.heap.size 24 [.int .i64 ((posA p d (mAt d i)).x), .int .i64 ((posA p d (mAt d i)).y), .int .i64 ((posA p d (mAt d i)).z)] ∧ Blk W v3.heap.size 24 [.int .i64 ((posA p d (mAt d (i + 1))).x), .int .i64 ((posA p d (mAt d (i + 1))).y), .int .i64 ((posA p d (mAt d (i + 1))).z)]) ⟨hHeld, by (repeat' (first | (with_reducible exact hA) | (with_reducible refine BlkP.Blk.drew ?_) | (with_reducible refine BlkP.Blk.drewN ?_ _) | (with_reducible refine BlkP.Blk.setAt (us := ?_) (by first | omega | (simp; done) | (simp; omega)) rfl ?_ ?_) | (with_reducible refine BlkP.Blk.otherAt ?_ (by first | omega | (simp; done) | (simp; omega))) | (with_reducible refine BlkP.Blk.newA' (by first | omega | (simp; done) | (simp; omega)) rfl) | (with_reducible refine BlkP.Blk.alloc ?_ _) | (exact rfl))), by (repeat' (first | (with_reducible exact hN) | (with_reducible refine BlkP.Blk.drew ?_) | (with_reducible refine BlkP.Blk.drewN ?_ _) | (with_reducible refine BlkP.Blk.setAt (us := ?_) (by first | omega | (simp; done) | (simp; omega)) rfl ?_ ?_) | (with_reducible refine BlkP.Blk.otherAt ?_ (by first | omega | (simp; done) | (simp; omega))) | (with_reducible refine BlkP.Blk.newA' (by first | omega | (simp; done) | (simp; omega)) rfl) | (with_reducible refine BlkP.Blk.alloc ?_ _) | (exact rfl)))⟩ ?_
                      clear hHeld hA hN
                      rintro v6 ⟨hHeld, hA, hN⟩
                      have hSv6 := hHeld.size
                      refine wpAnyH_done (by kernel_rfl) ?_ _
                      refine NoPanic.normal ?_
                      go_wp2_with fail
                      go_meet
                      case rel =>
                        exact ⟨v2.heap.size, v3.heap.size, rfl, rfl, by omega, by omega, by omega, hA, hN, hHeld⟩
                    exact AllReadyH.nil
                  exact AllReadyH.nil
                exact AllReadyH.nil
              refine AllReadyH.cons (o := ⟨some 12, _, _, _, _, _⟩) rfl (fun K hK => ?_) ?_
              · go_simp
                refine hK.out _ _ (hHeld.alloc hHeld.size _) (fun hHeld => ?_)
                clear hK K
                refine any_named (fun W => Below wr.heap.size wr W ∧ Blk W v2.heap.size 24 [.int .i64 0, .int .i64 0, .int .i64 0]) ⟨hHeld, by (repeat' (first | (with_reducible refine BlkP.Blk.drew ?_) | (with_reducible refine BlkP.Blk.drewN ?_ _) | (with_reducible refine BlkP.Blk.setAt (us := ?_) (by first | omega | (simp; done) | (simp; omega)) rfl ?_ ?_) | (with_reducible refine BlkP.Blk.otherAt ?_ (by first | omega | (simp; done) | (simp; omega))) | (with_reducible refine BlkP.Blk.newA' (by first | omega | (simp; done) | (simp; omega)) rfl) | (with_reducible refine BlkP.Blk.alloc ?_ _) | (exact rfl)))⟩ ?_
                clear hHeld
                rintro v3 ⟨hHeld, hN⟩
                have hSv3 := hHeld.size
                refine wpAnyH_ready (rs := [7]) (by kernel_rfl) (by simp) ?_
                refine AllReadyH.cons (o := ⟨some 11, _, _, _, _, _⟩) rfl (fun K hK => ?_) ?_
                · go_simp
                  refine hK.out _ _ (hHeld.alloc hHeld.size _) (fun hHeld => ?_)
                  clear hK K
                  have lN := hN.lt
                  refine any_named (fun W => Below wr.heap.size wr W ∧ Blk W v3.heap.size 24 [.int .i64 0, .int .i64 0, .int .i64 0] ∧ Blk W v2.heap.size 24 [.int .i64 0, .int .i64 0, .int .i64 0]) ⟨hHeld, by (repeat' (first | (with_reducible refine BlkP.Blk.drew ?_) | (with_reducible refine BlkP.Blk.drewN ?_ _) | (with_reducible refine BlkP.Blk.setAt (us := ?_) (by first | omega | (simp; done) | (simp; omega)) rfl ?_ ?_) | (with_reducible refine BlkP.Blk.otherAt ?_ (by first | omega | (simp; done) | (simp; omega))) | (with_reducible refine BlkP.Blk.newA' (by first | omega | (simp; done) | (simp; omega)) rfl) | (with_reducible refine BlkP.Blk.alloc ?_ _) | (exact rfl))), by (repeat' (first | (with_reducible exact hN) | (with_reducible refine BlkP.Blk.drew ?_) | (with_reducible refine BlkP.Blk.drewN ?_ _) | (with_reducible refine BlkP.Blk.setAt (us := ?_) (by first | omega | (simp; done) | (simp; omega)) rfl ?_ ?_) | (with_reducible refine BlkP.Blk.otherAt ?_ (by first | omega | (simp; done) | (simp; omega))) | (with_reducible refine BlkP.Blk.newA' (by first | omega | (simp; done) | (simp; omega)) rfl) | (with_reducible refine BlkP.Blk.alloc ?_ _) | (exact rfl)))⟩ ?_
                  clear hHeld hN
                  rintro v4 ⟨hHeld, hA, hN⟩
                  have hSv4 := hHeld.size
                  refine wpAnyH_ready (rs := [9]) (by kernel_rfl) (by simp) ?_
                  refine AllReadyH.cons (o := ⟨none, _, _, _, _, _⟩) rfl (fun K hK => ?_) ?_
                  · have e0 := hA.cell (i := 0) (v := .int .i64 0) rfl
                    have f0 := hA.frozen 0
                    have e1 := hA.cell (i := 1) (v := .int .i64 0) rfl
                    have f1 := hA.frozen 1
                    have e2 := hA.cell (i := 2) (v := .int .i64 0) rfl
                    have f2 := hA.frozen 2
                    have lA := hA.lt
                    have lN := hN.lt
                    go_simp
                    refine hK.out _ _ (by (repeat' (first | (with_reducible exact Below.refl _ _) | (with_reducible refine Below.setCell ?_ (by (first | omega | (simp; done) | (simp; omega))) _) | (with_reducible refine Below.alloc ?_ (by (first | omega | (simp; done) | (simp; omega))) _) | (with_reducible refine Below.drew ?_) | (with_reducible refine below_drewN ?_ _) | (with_reducible refine Below.trans ?_ (Below.mono hHeld (by (first | omega | (simp; done) | (simp; omega)))))))) (fun hHeld => ?_)
                    clear hK K
                    clear e0 e1 e2 f0 f1 f2
                    refine any_named (fun W => Below wr.heap.size wr W ∧ Blk W v3.heap.size 24 [.int .i64 ((posA p d (mAt d i)).x), .int .i64 ((posA p d (mAt d i)).y), .int .i64 ((posA p d (mAt d i)).z)] ∧ Blk W v2.heap.size 24 [.int .i64 0, .int .i64 0, .int .i64 0]) ⟨hHeld, by (repeat' (first | (with_reducible exact hA) | (with_reducible refine BlkP.Blk.drew ?_) | (with_reducible refine BlkP.Blk.drewN ?_ _) | (with_reducible refine BlkP.Blk.setAt (us := ?_) (by first | omega | (simp; done) | (simp; omega)) rfl ?_ ?_) | (with_reducible refine BlkP.Blk.otherAt ?_ (by first | omega | (simp; done) | (simp; omega))) | (with_reducible refine BlkP.Blk.newA' (by first | omega | (simp; done) | (simp; omega)) rfl) | (with_reducible refine BlkP.Blk.alloc ?_ _) | (exact rfl))), by (repeat' (first | (with_reducible exact hN) | (with_reducible refine BlkP.Blk.drew ?_) | (with_reducible refine BlkP.Blk.drewN ?_ _) | (with_reducible refine BlkP.Blk.setAt (us := ?_) (by first | omega | (simp; done) | (simp; omega)) rfl ?_ ?_) | (with_reducible refine BlkP.Blk.otherAt ?_ (by first | omega | (simp; done) | (simp; omega))) | (with_reducible refine BlkP.Blk.newA' (by first | omega | (simp; done) | (simp; omega)) rfl) | (with_reducible refine BlkP.Blk.alloc ?_ _) | (exact rfl)))⟩ ?_
                    clear hHeld hA hN
                    rintro v5 ⟨hHeld, hA, hN⟩
                    have hSv5 := hHeld.size
                    refine wpAnyH_ready (rs := [10]) (by kernel_rfl) (by simp) ?_
                    refine AllReadyH.cons (o := ⟨none, _, _, _, _, _⟩) rfl (fun K hK => ?_) ?_
                    · have e0 := hN.cell (i := 0) (v := .int .i64 0) rfl
                      have f0 := hN.frozen 0
                      have e1 := hN.cell (i := 1) (v := .int .i64 0) rfl
                      have f1 := hN.frozen 1
                      have e2 := hN.cell (i := 2) (v := .int .i64 0) rfl
                      have f2 := hN.frozen 2
                      have lA := hA.lt
                      have lN := hN.lt
                      go_simp
                      refine hK.out _ _ (by (repeat' (first | (with_reducible exact Below.refl _ _) | (with_reducible refine Below.setCell ?_ (by (first | omega | (simp; done) | (simp; omega))) _) | (with_reducible refine Below.alloc ?_ (by (first | omega | (simp; done) | (simp; omega))) _) | (with_reducible refine Below.drew ?_) | (with_reducible refine below_drewN ?_ _) | (with_reducible refine Below.trans ?_ (Below.mono hHeld (by (first | omega | (simp; done) | (simp; omega)))))))) (fun hHeld => ?_)
                      clear hK K
                      clear e0 e1 e2 f0 f1 f2
                      refine any_named (fun W => Below wr.heap.size wr W ∧ Blk W v3.heap.size 24 [.int .i64 ((posA p d (mAt d i)).x), .int .i64 ((posA p d (mAt d i)).y), .int .i64 ((posA p d (mAt d i)).z)] ∧ Blk W v2.heap.size 24 [.int .i64 ((posA p d (mAt d (i + 1))).x), .int .i64 ((posA p d (mAt d (i + 1))).y), .int .i64 ((posA p d (mAt d (i + 1))).z)]) ⟨hHeld, by (repeat' (first | (with_reducible exact hA) | (with_reducible refine BlkP.Blk.drew ?_) | (with_reducible refine BlkP.Blk.drewN ?_ _) | (with_reducible refine BlkP.Blk.setAt (us := ?_) (by first | omega | (simp; done) | (simp; omega)) rfl ?_ ?_) | (with_reducible refine BlkP.Blk.otherAt ?_ (by first | omega | (simp; done) | (simp; omega))) | (with_reducible refine BlkP.Blk.newA' (by first | omega | (simp; done) | (simp; omega)) rfl) | (with_reducible refine BlkP.Blk.alloc ?_ _) | (exact rfl))), by (repeat' (first | (with_reducible exact hN) | (with_reducible refine BlkP.Blk.drew ?_) | (with_reducible refine BlkP.Blk.drewN ?_ _) | (with_reducible refine BlkP.Blk.setAt (us := ?_) (by first | omega | (simp; done) | (simp; omega)) rfl ?_ ?_) | (with_reducible refine BlkP.Blk.otherAt ?_ (by first | omega | (simp; done) | (simp; omega))) | (with_reducible refine BlkP.Blk.newA' (by first | omega | (simp; done) | (simp; omega)) rfl) | (with_reducible refine BlkP.Blk.alloc ?_ _) | (exact rfl)))⟩ ?_
                      clear hHeld hA hN
                      rintro v6 ⟨hHeld, hA, hN⟩
                      have hSv6 := hHeld.size
                      refine wpAnyH_done (by kernel_rfl) ?_ _
                      refine NoPanic.normal ?_
                      go_wp2_with fail
                      go_meet
                      case rel =>
                        exact ⟨v3.heap.size, v2.heap.size, rfl, rfl, by omega, by omega, by omega, hA, hN, hHeld⟩
                    exact AllReadyH.nil
                  exact AllReadyH.nil
                exact AllReadyH.nil
              exact AllReadyH.nil
            refine AllReadyH.cons (o := ⟨some 11, _, _, _, _, _⟩) rfl (fun K hK => ?_) ?_
            · go_simp
              refine hK.out _ _ (hHeld.alloc hHeld.size _) (fun hHeld => ?_)
              clear hK K
              refine any_named (fun W => Below wr.heap.size wr W ∧ Blk W v1.heap.size 24 [.int .i64 0, .int .i64 0, .int .i64 0]) ⟨hHeld, by (repeat' (first | (with_reducible refine BlkP.Blk.drew ?_) | (with_reducible refine BlkP.Blk.drewN ?_ _) | (with_reducible refine BlkP.Blk.setAt (us := ?_) (by first | omega | (simp; done) | (simp; omega)) rfl ?_ ?_) | (with_reducible refine BlkP.Blk.otherAt ?_ (by first | omega | (simp; done) | (simp; omega))) | (with_reducible refine BlkP.Blk.newA' (by first | omega | (simp; done) | (simp; omega)) rfl) | (with_reducible refine BlkP.Blk.alloc ?_ _) | (exact rfl)))⟩ ?_
              clear hHeld
              rintro v2 ⟨hHeld, hA⟩
              have hSv2 := hHeld.size
              refine wpAnyH_ready (rs := [6, 8]) (by kernel_rfl) (by simp) ?_
              refine AllReadyH.cons (o := ⟨some 48, _, _, _, _, _⟩) rfl (fun K hK => ?_) ?_
              · go_simp
                refine (numbers_c (q := (posA p d (mAt d (i + 1)))) _).mono ?_
                rintro e wf ⟨rfl, hbf⟩
                go_wp2_with fail
                refine hK.out _ _ (below_t hHeld hbf) (fun hHeld => ?_)
                clear hK K
                refine any_named (fun W => Below wr.heap.size wr W ∧ Blk W v1.heap.size 24 [.int .i64 0, .int .i64 0, .int .i64 0]) ⟨hHeld, hA.below hbf⟩ ?_
                clear hHeld hA
                rintro v3 ⟨hHeld, hA⟩
                have hSv3 := hHeld.size
                refine wpAnyH_ready (rs := [8]) (by kernel_rfl) (by simp) ?_
                refine AllReadyH.cons (o := ⟨some 12, _, _, _, _, _⟩) rfl (fun K hK => ?_) ?_
                · go_simp
                  refine hK.out _ _ (hHeld.alloc hHeld.size _) (fun hHeld => ?_)
                  clear hK K
                  have lA := hA.lt
                  refine any_named (fun W => Below wr.heap.size wr W ∧ Blk W v1.heap.size 24 [.int .i64 0, .int .i64 0, .int .i64 0] ∧ Blk W v3.heap.size 24 [.int .i64 0, .int .i64 0, .int .i64 0]) ⟨hHeld, by (repeat' (first | (with_reducible exact hA) | (with_reducible refine BlkP.Blk.drew ?_) | (with_reducible refine BlkP.Blk.drewN ?_ _) | (with_reducible refine BlkP.Blk.setAt (us := ?_) (by first | omega | (simp; done) | (simp; omega)) rfl ?_ ?_) | (with_reducible refine BlkP.Blk.otherAt ?_ (by first | omega | (simp; done) | (simp; omega))) | (with_reducible refine BlkP.Blk.newA' (by first | omega | (simp; done) | (simp; omega)) rfl) | (with_reducible refine BlkP.Blk.alloc ?_ _) | (exact rfl))), by (repeat' (first | (with_reducible refine BlkP.Blk.drew ?_) | (with_reducible refine BlkP.Blk.drewN ?_ _) | (with_reducible refine BlkP.Blk.setAt (us := ?_) (by first | omega | (simp; done) | (simp; omega)) rfl ?_ ?_) | (with_reducible refine BlkP.Blk.otherAt ?_ (by first | omega | (simp; done) | (simp; omega))) | (with_reducible refine BlkP.Blk.newA' (by first | omega | (simp; done) | (simp; omega)) rfl) | (with_reducible refine BlkP.Blk.alloc ?_ _) | (exact rfl)))⟩ ?_
                  clear hHeld hA
                  rintro v4 ⟨hHeld, hA, hN⟩
                  have hSv4 := hHeld.size
                  refine wpAnyH_ready (rs := [9]) (by kernel_rfl) (by simp) ?_
                  refine AllReadyH.cons (o := ⟨none, _, _, _, _, _⟩) rfl (fun K hK => ?_) ?_
                  · have e0 := hA.cell (i := 0) (v := .int .i64 0) rfl
                    have f0 := hA.frozen 0
                    have e1 := hA.cell (i := 1) (v := .int .i64 0) rfl
                    have f1 := hA.frozen 1
                    have e2 := hA.cell (i := 2) (v := .int .i64 0) rfl
                    have f2 := hA.frozen 2
                    have lA := hA.lt
                    have lN := hN.lt
                    go_simp
                    refine hK.out _ _ (by (repeat' (first | (with_reducible exact Below.refl _ _) | (with_reducible refine Below.setCell ?_ (by (first | omega | (simp; done) | (simp; omega))) _) | (with_reducible refine Below.alloc ?_ (by (first | omega | (simp; done) | (simp; omega))) _) | (with_reducible refine Below.drew ?_) | (with_reducible refine below_drewN ?_ _) | (with_reducible refine Below.trans ?_ (Below.mono hHeld (by (first | omega | (simp; done) | (simp; omega)))))))) (fun hHeld => ?_)
                    clear hK K
                    clear e0 e1 e2 f0 f1 f2
                    refine any_named (fun W => Below wr.heap.size wr W ∧ Blk W v1.heap.size 24 [.int .i64 ((posA p d (mAt d i)).x), .int .i64 ((posA p d (mAt d i)).y), .int .i64 ((posA p d (mAt d i)).z)] ∧ Blk W v3.heap.size 24 [.int .i64 0, .int .i64 0, .int .i64 0]) ⟨hHeld, by (repeat' (first | (with_reducible exact hA) | (with_reducible refine BlkP.Blk.drew ?_) | (with_reducible refine BlkP.Blk.drewN ?_ _) | (with_reducible refine BlkP.Blk.setAt (us := ?_) (by first | omega | (simp; done) | (simp; omega)) rfl ?_ ?_) | (with_reducible refine BlkP.Blk.otherAt ?_ (by first | omega | (simp; done) | (simp; omega))) | (with_reducible refine BlkP.Blk.newA' (by first | omega | (simp; done) | (simp; omega)) rfl) | (with_reducible refine BlkP.Blk.alloc ?_ _) | (exact rfl))), by (repeat' (first | (with_reducible exact hN) | (with_reducible refine BlkP.Blk.drew ?_) | (with_reducible refine BlkP.Blk.drewN ?_ _) | (with_reducible refine BlkP.Blk.setAt (us := ?_) (by first | omega | (simp; done) | (simp; omega)) rfl ?_ ?_) | (with_reducible refine BlkP.Blk.otherAt ?_ (by first | omega | (simp; done) | (simp; omega))) | (with_reducible refine BlkP.Blk.newA' (by first | omega | (simp; done) | (simp; omega)) rfl) | (with_reducible refine BlkP.Blk.alloc ?_ _) | (exact rfl)))⟩ ?_
                    clear hHeld hA hN
                    rintro v5 ⟨hHeld, hA, hN⟩
                    have hSv5 := hHeld.size
                    refine wpAnyH_ready (rs := [10]) (by kernel_rfl) (by simp) ?_
                    refine AllReadyH.cons (o := ⟨none, _, _, _, _, _⟩) rfl (fun K hK => ?_) ?_
                    · have e0 := hN.cell (i := 0) (v := .int .i64 0) rfl
                      have f0 := hN.frozen 0
                      have e1 := hN.cell (i := 1) (v := .int .i64 0) rfl
                      have f1 := hN.frozen 1
                      have e2 := hN.cell (i := 2) (v := .int .i64 0) rfl
                      have f2 := hN.frozen 2
                      have lA := hA.lt
                      have lN := hN.lt
                      go_simp
                      refine hK.out _ _ (by (repeat' (first | (with_reducible exact Below.refl _ _) | (with_reducible refine Below.setCell ?_ (by (first | omega | (simp; done) | (simp; omega))) _) | (with_reducible refine Below.alloc ?_ (by (first | omega | (simp; done) | (simp; omega))) _) | (with_reducible refine Below.drew ?_) | (with_reducible refine below_drewN ?_ _) | (with_reducible refine Below.trans ?_ (Below.mono hHeld (by (first | omega | (simp; done) | (simp; omega)))))))) (fun hHeld => ?_)
                      clear hK K
                      clear e0 e1 e2 f0 f1 f2
                      refine any_named (fun W => Below wr.heap.size wr W ∧ Blk W v1.heap.size 24 [.int .i64 ((posA p d (mAt d i)).x), .int .i64 ((posA p d (mAt d i)).y), .int .i64 ((posA p d (mAt d i)).z)] ∧ Blk W v3.heap.size 24 [.int .i64 ((posA p d (mAt d (i + 1))).x), .int .i64 ((posA p d (mAt d (i + 1))).y), .int .i64 ((posA p d (mAt d (i + 1))).z)]) ⟨hHeld, by (repeat' (first | (with_reducible exact hA) | (with_reducible refine BlkP.Blk.drew ?_) | (with_reducible refine BlkP.Blk.drewN ?_ _) | (with_reducible refine BlkP.Blk.setAt (us := ?_) (by first | omega | (simp; done) | (simp; omega)) rfl ?_ ?_) | (with_reducible refine BlkP.Blk.otherAt ?_ (by first | omega | (simp; done) | (simp; omega))) | (with_reducible refine BlkP.Blk.newA' (by first | omega | (simp; done) | (simp; omega)) rfl) | (with_reducible refine BlkP.Blk.alloc ?_ _) | (exact rfl))), by (repeat' (first | (with_reducible exact hN) | (with_reducible refine BlkP.Blk.drew ?_) | (with_reducible refine BlkP.Blk.drewN ?_ _) | (with_reducible refine BlkP.Blk.setAt (us := ?_) (by first | omega | (simp; done) | (simp; omega)) rfl ?_ ?_) | (with_reducible refine BlkP.Blk.otherAt ?_ (by first | omega | (simp; done) | (simp; omega))) | (with_reducible refine BlkP.Blk.newA' (by first | omega | (simp; done) | (simp; omega)) rfl) | (with_reducible refine BlkP.Blk.alloc ?_ _) | (exact rfl)))⟩ ?_
                      clear hHeld hA hN
                      rintro v6 ⟨hHeld, hA, hN⟩
                      have hSv6 := hHeld.size
                      refine wpAnyH_done (by kernel_rfl) ?_ _
                      refine NoPanic.normal ?_
                      go_wp2_with fail
                      go_meet
                      case rel =>
                        exact ⟨v1.heap.size, v3.heap.size, rfl, rfl, by omega, by omega, by omega, hA, hN, hHeld⟩
                    exact AllReadyH.nil
                  exact AllReadyH.nil
                exact AllReadyH.nil
              refine AllReadyH.cons (o := ⟨some 12, _, _, _, _, _⟩) rfl (fun K hK => ?_) ?_
              · go_simp
                refine hK.out _ _ (hHeld.alloc hHeld.size _) (fun hHeld => ?_)
                clear hK K
                have lA := hA.lt
                refine any_named (fun W => Below wr.heap.size wr W ∧ Blk W v1.heap.size 24 [.int .i64 0, .int .i64 0, .int .i64 0] ∧ Blk W v2.heap.size 24 [.int .i64 0, .int .i64 0, .int .i64 0]) ⟨hHeld, by (repeat' (first | (with_reducible exact hA) | (with_reducible refine BlkP.Blk.drew ?_) | (with_reducible refine BlkP.Blk.drewN ?_ _) | (with_reducible refine BlkP.Blk.setAt (us := ?_) (by first | omega | (simp; done) | (simp; omega)) rfl ?_ ?_) | (with_reducible refine BlkP.Blk.otherAt ?_ (by first | omega | (simp; done) | (simp; omega))) | (with_reducible refine BlkP.Blk.newA' (by first | omega | (simp; done) | (simp; omega)) rfl) | (with_reducible refine BlkP.Blk.alloc ?_ _) | (exact rfl))), by (repeat' (first | (with_reducible refine BlkP.Blk.drew ?_) | (with_reducible refine BlkP.Blk.drewN ?_ _) | (with_reducible refine BlkP.Blk.setAt (us := ?_) (by first | omega | (simp; done) | (simp; omega)) rfl ?_ ?_) | (with_reducible refine BlkP.Blk.otherAt ?_ (by first | omega | (simp; done) | (simp; omega))) | (with_reducible refine BlkP.Blk.newA' (by first | omega | (simp; done) | (simp; omega)) rfl) | (with_reducible refine BlkP.Blk.alloc ?_ _) | (exact rfl)))⟩ ?_
                clear hHeld hA
                rintro v3 ⟨hHeld, hA, hN⟩
                have hSv3 := hHeld.size
                refine wpAnyH_ready (rs := [6]) (by kernel_rfl) (by simp) ?_
                refine AllReadyH.cons (o := ⟨some 48, _, _, _, _, _⟩) rfl (fun K hK => ?_) ?_
                · go_simp
                  refine (numbers_c (q := (posA p d (mAt d (i + 1)))) _).mono ?_
                  rintro e wf ⟨rfl, hbf⟩
                  go_wp2_with fail
                  refine hK.out _ _ (below_t hHeld hbf) (fun hHeld => ?_)
                  clear hK K
                  refine any_named (fun W => Below wr.heap.size wr W ∧ Blk W v1.heap.size 24 [.int .i64 0, .int .i64 0, .int .i64 0] ∧ Blk W v2.heap.size 24 [.int .i64 0, .int .i64 0, .int .i64 0]) ⟨hHeld, hA.below hbf, hN.below hbf⟩ ?_
                  clear hHeld hA hN
                  rintro v4 ⟨hHeld, hA, hN⟩
                  have hSv4 := hHeld.size
                  refine wpAnyH_ready (rs := [9]) (by kernel_rfl) (by simp) ?_
                  refine AllReadyH.cons (o := ⟨none, _, _, _, _, _⟩) rfl (fun K hK => ?_) ?_
                  · have e0 := hA.cell (i := 0) (v := .int .i64 0) rfl
                    have f0 := hA.frozen 0
                    have e1 := hA.cell (i := 1) (v := .int .i64 0) rfl
                    have f1 := hA.frozen 1
                    have e2 := hA.cell (i := 2) (v := .int .i64 0) rfl
                    have f2 := hA.frozen 2
                    have lA := hA.lt
                    have lN := hN.lt
                    go_simp
                    refine hK.out _ _ (by (repeat' (first | (with_reducible exact Below.refl _ _) | (with_reducible refine Below.setCell ?_ (by (first | omega | (simp; done) | (simp; omega))) _) | (with_reducible refine Below.alloc ?_ (by (first | omega | (simp; done) | (simp; omega))) _) | (with_reducible refine Below.drew ?_) | (with_reducible refine below_drewN ?_ _) | (with_reducible refine Below.trans ?_ (Below.mono hHeld (by (first | omega | (simp; done) | (simp; omega)))))))) (fun hHeld => ?_)
                    clear hK K
                    clear e0 e1 e2 f0 f1 f2
                    refine any_named (fun W => Below wr.heap.size wr W ∧ Blk W v1.heap.size 24 [.int .i64 ((posA p d (mAt d i)).x), .int .i64 ((posA p d (mAt d i)).y), .int .i64 ((posA p d (mAt d i)).z)] ∧ Blk W v2.heap.size 24 [.int .i64 0, .int .i64 0, .int .i64 0]) ⟨hHeld, by (repeat' (first | (with_reducible exact hA) | (with_reducible refine BlkP.Blk.drew ?_) | (with_reducible refine BlkP.Blk.drewN ?_ _) | (with_reducible refine BlkP.Blk.setAt (us := ?_) (by first | omega | (simp; done) | (simp; omega)) rfl ?_ ?_) | (with_reducible refine BlkP.Blk.otherAt ?_ (by first | omega | (simp; done) | (simp; omega))) | (with_reducible refine BlkP.Blk.newA' (by first | omega | (simp; done) | (simp; omega)) rfl) | (with_reducible refine BlkP.Blk.alloc ?_ _) | (exact rfl))), by (repeat' (first | (with_reducible exact hN) | (with_reducible refine BlkP.Blk.drew ?_) | (with_reducible refine BlkP.Blk.drewN ?_ _) | (with_reducible refine BlkP.Blk.setAt (us := ?_) (by first | omega | (simp; done) | (simp; omega)) rfl ?_ ?_) | (with_reducible refine BlkP.Blk.otherAt ?_ (by first | omega | (simp; done) | (simp; omega))) | (with_reducible refine BlkP.Blk.newA' (by first | omega | (simp; done) | (simp; omega)) rfl) | (with_reducible refine BlkP.Blk.alloc ?_ _) | (exact rfl)))⟩ ?_
                    clear hHeld hA hN
                    rintro v5 ⟨hHeld, hA, hN⟩
                    have hSv5 := hHeld.size
                    refine wpAnyH_ready (rs := [10]) (by kernel_rfl) (by simp) ?_
                    refine AllReadyH.cons (o := ⟨none, _, _, _, _, _⟩) rfl (fun K hK => ?_) ?_
                    · have e0 := hN.cell (i := 0) (v := .int .i64 0) rfl
                      have f0 := hN.frozen 0
                      have e1 := hN.cell (i := 1) (v := .int .i64 0) rfl
                      have f1 := hN.frozen 1
                      have e2 := hN.cell (i := 2) (v := .int .i64 0) rfl
                      have f2 := hN.frozen 2
                      have lA := hA.lt
                      have lN := hN.lt
                      go_simp
                      refine hK.out _ _ (by (repeat' (first | (with_reducible exact Below.refl _ _) | (with_reducible refine Below.setCell ?_ (by (first | omega | (simp; done) | (simp; omega))) _) | (with_reducible refine Below.alloc ?_ (by (first | omega | (simp; done) | (simp; omega))) _) | (with_reducible refine Below.drew ?_) | (with_reducible refine below_drewN ?_ _) | (with_reducible refine Below.trans ?_ (Below.mono hHeld (by (first | omega | (simp; done) | (simp; omega)))))))) (fun hHeld => ?_)
                      clear hK K
                      clear e0 e1 e2 f0 f1 f2
                      refine any_named (fun W => Below wr.heap.size wr W ∧ Blk W v1.heap.size 24 [.int .i64 ((posA p d (mAt d i)).x), .int .i64 ((posA p d (mAt d i)).y), .int .i64 ((posA p d (mAt d i)).z)] ∧ Blk W v2.heap.size 24 [.int .i64 ((posA p d (mAt d (i + 1))).x), .int .i64 ((posA p d (mAt d (i + 1))).y), .int .i64 ((posA p d (mAt d (i + 1))).z)]) ⟨hHeld, by (repeat' (first | (with_reducible exact hA) | (with_reducible refine BlkP.Blk.drew ?_) | (with_reducible refine BlkP.Blk.drewN ?_ _) | (with_reducible refine BlkP.Blk.setAt (us := ?_) (by first | omega | (simp; done) | (simp; omega)) rfl ?_ ?_) | (with_reducible refine BlkP.Blk.otherAt ?_ (by first | omega | (simp; done) | (simp; omega))) | (with_reducible refine BlkP.Blk.newA' (by first | omega | (simp; done) | (simp; omega)) rfl) | (with_reducible refine BlkP.Blk.alloc ?_ _) | (exact rfl))), by (repeat' (first | (with_reducible exact hN) | (with_reducible refine BlkP.Blk.drew ?_) | (with_reducible refine BlkP.Blk.drewN ?_ _) | (with_reducible refine BlkP.Blk.setAt (us := ?_) (by first | omega | (simp; done) | (simp; omega)) rfl ?_ ?_) | (with_reducible refine BlkP.Blk.otherAt ?_ (by first | omega | (simp; done) | (simp; omega))) | (with_reducible refine BlkP.Blk.newA' (by first | omega | (simp; done) | (simp; omega)) rfl) | (with_reducible refine BlkP.Blk.alloc ?_ _) | (exact rfl)))⟩ ?_
                      clear hHeld hA hN
                      rintro v6 ⟨hHeld, hA, hN⟩
                      have hSv6 := hHeld.size
                      refine wpAnyH_done (by kernel_rfl) ?_ _
                      refine NoPanic.normal ?_
                      go_wp2_with fail
                      go_meet
                      case rel =>
                        exact ⟨v1.heap.size, v2.heap.size, rfl, rfl, by omega, by omega, by omega, hA, hN, hHeld⟩
                    exact AllReadyH.nil
                  exact AllReadyH.nil
                exact AllReadyH.nil
              exact AllReadyH.nil
            refine AllReadyH.cons (o := ⟨some 12, _, _, _, _, _⟩) rfl (fun K hK => ?_) ?_
            · go_simp
              refine hK.out _ _ (hHeld.alloc hHeld.size _) (fun hHeld => ?_)
              clear hK K
              refine any_named (fun W => Below wr.heap.size wr W ∧ Blk W v1.heap.size 24 [.int .i64 0, .int .i64 0, .int .i64 0]) ⟨hHeld, by (repeat' (first | (with_reducible refine BlkP.Blk.drew ?_) | (with_reducible refine BlkP.Blk.drewN ?_ _) | (with_reducible refine BlkP.Blk.setAt (us := ?_) (by first | omega | (simp; done) | (simp; omega)) rfl ?_ ?_) | (with_reducible refine BlkP.Blk.otherAt ?_ (by first | omega | (simp; done) | (simp; omega))) | (with_reducible refine BlkP.Blk.newA' (by first | omega | (simp; done) | (simp; omega)) rfl) | (with_reducible refine BlkP.Blk.alloc ?_ _) | (exact rfl)))⟩ ?_
              clear hHeld
              rintro v2 ⟨hHeld, hN⟩
              have hSv2 := hHeld.size
              refine wpAnyH_ready (rs := [6, 7]) (by kernel_rfl) (by simp) ?_
              refine AllReadyH.cons (o := ⟨some 48, _, _, _, _, _⟩) rfl (fun K hK => ?_) ?_
              · go_simp
                refine (numbers_c (q := (posA p d (mAt d (i + 1)))) _).mono ?_
                rintro e wf ⟨rfl, hbf⟩
                go_wp2_with fail
                refine hK.out _ _ (below_t hHeld hbf) (fun hHeld => ?_)
                clear hK K
                refine any_named (fun W => Below wr.heap.size wr W ∧ Blk W v1.heap.size 24 [.int .i64 0, .int .i64 0, .int .i64 0]) ⟨hHeld, hN.below hbf⟩ ?_
                clear hHeld hN
                rintro v3 ⟨hHeld, hN⟩
                have hSv3 := hHeld.size
                refine wpAnyH_ready (rs := [7]) (by kernel_rfl) (by simp) ?_
                refine AllReadyH.cons (o := ⟨some 11, _, _, _, _, _⟩) rfl (fun K hK => ?_) ?_
                · go_simp
                  refine hK.out _ _ (hHeld.alloc hHeld.size _) (fun hHeld => ?_)
                  clear hK K
                  have lN := hN.lt
                  refine any_named (fun W => Below wr.heap.size wr W ∧ Blk W v3.heap.size 24 [.int .i64 0, .int .i64 0, .int .i64 0] ∧ Blk W v1.heap.size 24 [.int .i64 0, .int .i64 0, .int .i64 0]) ⟨hHeld, by (repeat' (first | (with_reducible refine BlkP.Blk.drew ?_) | (with_reducible refine BlkP.Blk.drewN ?_ _) | (with_reducible refine BlkP.Blk.setAt (us := ?_) (by first | omega | (simp; done) | (simp; omega)) rfl ?_ ?_) | (with_reducible refine BlkP.Blk.otherAt ?_ (by first | omega | (simp; done) | (simp; omega))) | (with_reducible refine BlkP.Blk.newA' (by first | omega | (simp; done) | (simp; omega)) rfl) | (with_reducible refine BlkP.Blk.alloc ?_ _) | (exact rfl))), by (repeat' (first | (with_reducible exact hN) | (with_reducible refine BlkP.Blk.drew ?_) | (with_reducible refine BlkP.Blk.drewN ?_ _) | (with_reducible refine BlkP.Blk.setAt (us := ?_) (by first | omega | (simp; done) | (simp; omega)) rfl ?_ ?_) | (with_reducible refine BlkP.Blk.otherAt ?_ (by first | omega | (simp; done) | (simp; omega))) | (with_reducible refine BlkP.Blk.newA' (by first | omega | (simp; done) | (simp; omega)) rfl) | (with_reducible refine BlkP.Blk.alloc ?_ _) | (exact rfl)))⟩ ?_
                  clear hHeld hN
                  rintro v4 ⟨hHeld, hA, hN⟩
                  have hSv4 := hHeld.size
                  refine wpAnyH_ready (rs := [9]) (by kernel_rfl) (by simp) ?_
                  refine AllReadyH.cons (o := ⟨none, _, _, _, _, _⟩) rfl (fun K hK => ?_) ?_
                  · have e0 := hA.cell (i := 0) (v := .int .i64 0) rfl
                    have f0 := hA.frozen 0
                    have e1 := hA.cell (i := 1) (v := .int .i64 0) rfl
                    have f1 := hA.frozen 1
                    have e2 := hA.cell (i := 2) (v := .int .i64 0) rfl
                    have f2 := hA.frozen 2
                    have lA := hA.lt
                    have lN := hN.lt
                    go_simp
                    refine hK.out _ _ (by (repeat' (first | (with_reducible exact Below.refl _ _) | (with_reducible refine Below.setCell ?_ (by (first | omega | (simp; done) | (simp; omega))) _) | (with_reducible refine Below.alloc ?_ (by (first | omega | (simp; done) | (simp; omega))) _) | (with_reducible refine Below.drew ?_) | (with_reducible refine below_drewN ?_ _) | (with_reducible refine Below.trans ?_ (Below.mono hHeld (by (first | omega | (simp; done) | (simp; omega)))))))) (fun hHeld => ?_)
                    clear hK K
                    clear e0 e1 e2 f0 f1 f2
                    refine any_named (fun W => Below wr.heap.size wr W ∧ Blk W v3.heap.size 24 [.int .i64 ((posA p d (mAt d i)).x), .int .i64 ((posA p d (mAt d i)).y), .int .i64 ((posA p d (mAt d i)).z)] ∧ Blk W v1.heap.size 24 [.int .i64 0, .int .i64 0, .int .i64 0]) ⟨hHeld, by (repeat' (first | (with_reducible exact hA) | (with_reducible refine BlkP.Blk.drew ?_) | (with_reducible refine BlkP.Blk.drewN ?_ _) | (with_reducible refine BlkP.Blk.setAt (us := ?_) (by first | omega | (simp; done) | (simp; omega)) rfl ?_ ?_) | (with_reducible refine BlkP.Blk.otherAt ?_ (by first | omega | (simp; done) | (simp; omega))) | (with_reducible refine BlkP.Blk.newA' (by first | omega | (simp; done) | (simp; omega)) rfl) | (with_reducible refine BlkP.Blk.alloc ?_ _) | (exact rfl))), by (repeat' (first | (with_reducible exact hN) | (with_reducible refine BlkP.Blk.drew ?_) | (with_reducible refine BlkP.Blk.drewN ?_ _) | (with_reducible refine BlkP.Blk.setAt (us := ?_) (by first | omega | (simp; done) | (simp; omega)) rfl ?_ ?_) | (with_reducible refine BlkP.Blk.otherAt ?_ (by first | omega | (simp; done) | (simp; omega))) | (with_reducible refine BlkP.Blk.newA' (by first | omega | (simp; done) | (simp; omega)) rfl) | (with_reducible refine BlkP.Blk.alloc ?_ _) | (exact rfl)))⟩ ?_
                    clear hHeld hA hN
                    rintro v5 ⟨hHeld, hA, hN⟩
                    have hSv5 := hHeld.size
                    refine wpAnyH_ready (rs := [10]) (by kernel_rfl) (by simp) ?_
                    refine AllReadyH.cons (o := ⟨none, _, _, _, _, _⟩) rfl (fun K hK => ?_) ?_
                    · have e0 := hN.cell (i := 0) (v := .int .i64 0) rfl
                      have f0 := hN.frozen 0
                      have e1 := hN.cell (i := 1) (v := .int .i64 0) rfl
                      have f1 := hN.frozen 1
                      have e2 := hN.cell (i := 2) (v := .int .i64 0) rfl
                      have f2 := hN.frozen 2
                      have lA := hA.lt
                      have lN := hN.lt
                      go_simp
                      refine hK.out _ _ (by (repeat' (first | (with_reducible exact Below.refl _ _) | (with_reducible refine Below.setCell ?_ (by (first | omega | (simp; done) | (simp; omega))) _) | (with_reducible refine Below.alloc ?_ (by (first | omega | (simp; done) | (simp; omega))) _) | (with_reducible refine Below.drew ?_) | (with_reducible refine below_drewN ?_ _) | (with_reducible refine Below.trans ?_ (Below.mono hHeld (by (first | omega | (simp; done) | (simp; omega)))))))) (fun hHeld => ?_)
                      clear hK K
                      clear e0 e1 e2 f0 f1 f2
                      refine any_named (fun W => Below wr.heap.size wr W ∧ Blk W v3.heap.size 24 [.int .i64 ((posA p d (mAt d i)).x), .int .i64 ((posA p d (mAt d i)).y), .int .i64 ((posA p d (mAt d i)).z)] ∧ Blk W v1.heap.size 24 [.int .i64 ((posA p d (mAt d (i + 1))).x), .int .i64 ((posA p d (mAt d (i + 1))).y), .int .i64 ((posA p d (mAt d (i + 1))).z)]) ⟨hHeld, by (repeat' (first | (with_reducible exact hA) | (with_reducible refine BlkP.Blk.drew ?_) | (with_reducible refine BlkP.Blk.drewN ?_ _) | (with_reducible refine BlkP.Blk.setAt (us := ?_) (by first | omega | (simp; done) | (simp; omega)) rfl ?_ ?_) | (with_reducible refine BlkP.Blk.otherAt ?_ (by first | omega | (simp; done) | (simp; omega))) | (with_reducible refine BlkP.Blk.newA' (by first | omega | (simp; done) | (simp; omega)) rfl) | (with_reducible refine BlkP.Blk.alloc ?_ _) | (exact rfl))), by (repeat' (first | (with_reducible exact hN) | (with_reducible refine BlkP.Blk.drew ?_) | (with_reducible refine BlkP.Blk.drewN ?_ _) | (with_reducible refine BlkP.Blk.setAt (us := ?_) (by first | omega | (simp; done) | (simp; omega)) rfl ?_ ?_) | (with_reducible refine BlkP.Blk.otherAt ?_ (by first | omega | (simp; done) | (simp; omega))) | (with_reducible refine BlkP.Blk.newA' (by first | omega | (simp; done) | (simp; omega)) rfl) | (with_reducible refine BlkP.Blk.alloc ?_ _) | (exact rfl)))⟩ ?_
                      clear hHeld hA hN
                      rintro v6 ⟨hHeld, hA, hN⟩
                      have hSv6 := hHeld.size
                      refine wpAnyH_done (by kernel_rfl) ?_ _
                      refine NoPanic.normal ?_
                      go_wp2_with fail
                      go_meet
                      case rel =>
                        exact ⟨v3.heap.size, v1.heap.size, rfl, rfl, by omega, by omega, by omega, hA, hN, hHeld⟩
                    exact AllReadyH.nil
                  exact AllReadyH.nil
                exact AllReadyH.nil
              refine AllReadyH.cons (o := ⟨some 11, _, _, _, _, _⟩) rfl (fun K hK => ?_) ?_
              · go_simp
                refine hK.out _ _ (hHeld.alloc hHeld.size _) (fun hHeld => ?_)
                clear hK K
                have lN := hN.lt
                refine any_named (fun W => Below wr.heap.size wr W ∧ Blk W v2.heap.size 24 [.int .i64 0, .int .i64 0, .int .i64 0] ∧ Blk W v1.heap.size 24 [.int .i64 0, .int .i64 0, .int .i64 0]) ⟨hHeld, by (repeat' (first | (with_reducible refine BlkP.Blk.drew ?_) | (with_reducible refine BlkP.Blk.drewN ?_ _) | (with_reducible refine BlkP.Blk.setAt (us := ?_) (by first | omega | (simp; done) | (simp; omega)) rfl ?_ ?_) | (with_reducible refine BlkP.Blk.otherAt ?_ (by first | omega | (simp; done) | (simp; omega))) | (with_reducible refine BlkP.Blk.newA' (by first | omega | (simp; done) | (simp; omega)) rfl) | (with_reducible refine BlkP.Blk.alloc ?_ _) | (exact rfl))), by (repeat' (first | (with_reducible exact hN) | (with_reducible refine BlkP.Blk.drew ?_) | (with_reducible refine BlkP.Blk.drewN ?_ _) | (with_reducible refine BlkP.Blk.setAt (us := ?_) (by first | omega | (simp; done) | (simp; omega)) rfl ?_ ?_) | (with_reducible refine BlkP.Blk.otherAt ?_ (by first | omega | (simp; done) | (simp; omega))) | (with_reducible refine BlkP.Blk.newA' (by first | omega | (simp; done) | (simp; omega)) rfl) | (with_reducible refine BlkP.Blk.alloc ?_ _) | (exact rfl)))⟩ ?_
                clear hHeld hN
                rintro v3 ⟨hHeld, hA, hN⟩
                have hSv3 := hHeld.size
                refine wpAnyH_ready (rs := [6]) (by kernel_rfl) (by simp) ?_
                refine AllReadyH.cons (o := ⟨some 48, _, _, _, _, _⟩) rfl (fun K hK => ?_) ?_
                · go_simp
                  refine (numbers_c (q := (posA p d (mAt d (i + 1)))) _).mono ?_
                  rintro e wf ⟨rfl, hbf⟩
                  go_wp2_with fail
                  refine hK.out _ _ (below_t hHeld hbf) (fun hHeld => ?_)
                  clear hK K
                  refine any_named (fun W => Below wr.heap.size wr W ∧ Blk W v2.heap.size 24 [.int .i64 0, .int .i64 0, .int .i64 0] ∧ Blk W v1.heap.size 24 [.int .i64 0, .int .i64 0, .int .i64 0]) ⟨hHeld, hA.below hbf, hN.below hbf⟩ ?_
                  clear hHeld hA hN
                  rintro v4 ⟨hHeld, hA, hN⟩
                  have hSv4 := hHeld.size
                  refine wpAnyH_ready (rs := [9]) (by kernel_rfl) (by simp) ?_
                  refine AllReadyH.cons (o := ⟨none, _, _, _, _, _⟩) rfl (fun K hK => ?_) ?_
                  · have e0 := hA.cell (i := 0) (v := .int .i64 0) rfl
                    have f0 := hA.frozen 0
                    have e1 := hA.cell (i := 1) (v := .int .i64 0) rfl
                    have f1 := hA.frozen 1
                    have e2 := hA.cell (i := 2) (v := .int .i64 0) rfl
                    have f2 := hA.frozen 2
                    have lA := hA.lt
                    have lN := hN.lt
                    go_simp
                    refine hK.out _ _ (by (repeat' (first | (with_reducible exact Below.refl _ _) | (with_reducible refine Below.setCell ?_ (by (first | omega | (simp; done) | (simp; omega))) _) | (with_reducible refine Below.alloc ?_ (by (first | omega | (simp; done) | (simp; omega))) _) | (with_reducible refine Below.drew ?_) | (with_reducible refine below_drewN ?_ _) | (with_reducible refine Below.trans ?_ (Below.mono hHeld (by (first | omega | (simp; done) | (simp; omega)))))))) (fun hHeld => ?_)
                    clear hK K
                    clear e0 e1 e2 f0 f1 f2
                    refine any_named (fun W => Below wr.heap.size wr W ∧ Blk W v2.heap.size 24 [.int .i64 ((posA p d (mAt d i)).x), .int .i64 ((posA p d (mAt d i)).y), .int .i64 ((posA p d (mAt d i)).z)] ∧ Blk W v1.heap.size 24 [.int .i64 0, .int .i64 0, .int .i64 0]) ⟨hHeld, by (repeat' (first | (with_reducible exact hA) | (with_reducible refine BlkP.Blk.drew ?_) | (with_reducible refine BlkP.Blk.drewN ?_ _) | (with_reducible refine BlkP.Blk.setAt (us := ?_) (by first | omega | (simp; done) | (simp; omega)) rfl ?_ ?_) | (with_reducible refine BlkP.Blk.otherAt ?_ (by first | omega | (simp; done) | (simp; omega))) | (with_reducible refine BlkP.Blk.newA' (by first | omega | (simp; done) | (simp; omega)) rfl) | (with_reducible refine BlkP.Blk.alloc ?_ _) | (exact rfl))), by (repeat' (first | (with_reducible exact hN) | (with_reducible refine BlkP.Blk.drew ?_) | (with_reducible refine BlkP.Blk.drewN ?_ _) | (with_reducible refine BlkP.Blk.setAt (us := ?_) (by first | omega | (simp; done) | (simp; omega)) rfl ?_ ?_) | (with_reducible refine BlkP.Blk.otherAt ?_ (by first | omega | (simp; done) | (simp; omega))) | (with_reducible refine BlkP.Blk.newA' (by first | omega | (simp; done) | (simp; omega)) rfl) | (with_reducible refine BlkP.Blk.alloc ?_ _) | (exact rfl)))⟩ ?_
                    clear hHeld hA hN
                    rintro v5 ⟨hHeld, hA, hN⟩
                    have hSv5 := hHeld.size
                    refine wpAnyH_ready (rs := [10]) (by kernel_rfl) (by simp) ?_
                    refine AllReadyH.cons (o := ⟨none, _, _, _, _, _⟩) rfl (fun K hK => ?_) ?_
                    · have e0 := hN.cell (i := 0) (v := .int .i64 0) rfl
                      have f0 := hN.frozen 0
                      have e1 := hN.cell (i := 1) (v := .int .i64 0) rfl
                      have f1 := hN.frozen 1
                      have e2 := hN.cell (i := 2) (v := .int .i64 0) rfl
                      have f2 := hN.frozen 2
                      have lA := hA.lt
                      have lN := hN.lt
                      go_simp
                      refine hK.out _ _ (by (repeat' (first | (with_reducible exact Below.refl _ _) | (with_reducible refine Below.setCell ?_ (by (first | omega | (simp; done) | (simp; omega))) _) | (with_reducible refine Below.alloc ?_ (by (first | omega | (simp; done) | (simp; omega))) _) | (with_reducible refine Below.drew ?_) | (with_reducible refine below_drewN ?_ _) | (with_reducible refine Below.trans ?_ (Below.mono hHeld (by (first | omega | (simp; done) | (simp; omega)))))))) (fun hHeld => ?_)
                      clear hK K
                      clear e0 e1 e2 f0 f1 f2
                      refine any_named (fun W => Below wr.heap.size wr W ∧ Blk W v2.heap.size 24 [.int .i64 ((posA p d (mAt d i)).x), .int .i64 ((posA p d (mAt d i)).y), .int .i64 ((posA p d (mAt d i)).z)] ∧ Blk W v1.heap.size 24 [.int .i64 ((posA p d (mAt d (i + 1))).x), .int .i64 ((posA p d (mAt d (i + 1))).y), .int .i64 ((posA p d (mAt d (i + 1))).z)]) ⟨hHeld, by (repeat' (first | (with_reducible exact hA) | (with_reducible refine BlkP.Blk.drew ?_) | (with_reducible refine BlkP.Blk.drewN ?_ _) | (with_reducible refine BlkP.Blk.setAt (us := ?_) (by first | omega | (simp; done) | (simp; omega)) rfl ?_ ?_) | (with_reducible refine BlkP.Blk.otherAt ?_ (by first | omega | (simp; done) | (simp; omega))) | (with_reducible refine BlkP.Blk.newA' (by first | omega | (simp; done) | (simp; omega)) rfl) | (with_reducible refine BlkP.Blk.alloc ?_ _) | (exact rfl))), by (repeat' (first | (with_reducible exact hN) | (with_reducible refine BlkP.Blk.drew ?_) | (with_reducible refine BlkP.Blk.drewN ?_ _) | (with_reducible refine BlkP.Blk.setAt (us := ?_) (by first | omega | (simp; done) | (simp; omega)) rfl ?_ ?_) | (with_reducible refine BlkP.Blk.otherAt ?_ (by first | omega | (simp; done) | (simp; omega))) | (with_reducible refine BlkP.Blk.newA' (by first | omega | (simp; done) | (simp; omega)) rfl) | (with_reducible refine BlkP.Blk.alloc ?_ _) | (exact rfl)))⟩ ?_
                      clear hHeld hA hN
                      rintro v6 ⟨hHeld, hA, hN⟩
                      have hSv6 := hHeld.size
                      refine wpAnyH_done (by kernel_rfl) ?_ _
                      refine NoPanic.normal ?_
                      go_wp2_with fail
                      go_meet
                      case rel =>
                        exact ⟨v2.heap.size, v1.heap.size, rfl, rfl, by omega, by omega, by omega, hA, hN, hHeld⟩
                    exact AllReadyH.nil
                  exact AllReadyH.nil
                exact AllReadyH.nil
              exact AllReadyH.nil
            exact AllReadyH.nil
          refine AllReadyH.cons (o := ⟨some 11, _, _, _, _, _⟩) rfl (fun K hK => ?_) ?_
          · go_simp
            refine hK.out _ _ (hHeld.alloc hHeld.size _) (fun hHeld => ?_)
            clear hK K
            refine any_named (fun W => Below wr.heap.size wr W ∧ Blk W v0.heap.size 24 [.int .i64 0, .int .i64 0, .int .i64 0]) ⟨hHeld, by (repeat' (first | (with_reducible refine BlkP.Blk.drew ?_) | (with_reducible refine BlkP.Blk.drewN ?_ _) | (with_reducible refine BlkP.Blk.setAt (us := ?_) (by first | omega | (simp; done) | (simp; omega)) rfl ?_ ?_) | (with_reducible refine BlkP.Blk.otherAt ?_ (by first | omega | (simp; done) | (simp; omega))) | (with_reducible refine BlkP.Blk.newA' (by first | omega | (simp; done) | (simp; omega)) rfl) | (with_reducible refine BlkP.Blk.alloc ?_ _) | (exact rfl)))⟩ ?_
            clear hHeld
            rintro v1 ⟨hHeld, hA⟩
            have hSv1 := hHeld.size
            refine wpAnyH_ready (rs := [1, 8]) (by kernel_rfl) (by simp) ?_
            refine AllReadyH.cons (o := ⟨some 43, _, _, _, _, _⟩) rfl (fun K hK => ?_) ?_
            · go_simp
              refine (numbers_c (q := (posA p d (mAt d i))) _).mono ?_
              rintro e wf ⟨rfl, hbf⟩
              go_wp2_with fail
              refine hK.out _ _ (below_t hHeld hbf) (fun hHeld => ?_)
              clear hK K
              refine any_named (fun W => Below wr.heap.size wr W ∧ Blk W v0.heap.size 24 [.int .i64 0, .int .i64 0, .int .i64 0]) ⟨hHeld, hA.below hbf⟩ ?_
              clear hHeld hA
              rintro v2 ⟨hHeld, hA⟩
              have hSv2 := hHeld.size
              refine wpAnyH_ready (rs := [6, 8]) (by kernel_rfl) (by simp) ?_
              refine AllReadyH.cons (o := ⟨some 48, _, _, _, _, _⟩) rfl (fun K hK => ?_) ?_
              · go_simp
                refine (numbers_c (q := (posA p d (mAt d (i + 1)))) _).mono ?_
                rintro e wf ⟨rfl, hbf⟩
                go_wp2_with fail
                refine hK.out _ _ (below_t hHeld hbf) (fun hHeld => ?_)
                clear hK K
                refine any_named (fun W => Below wr.heap.size wr W ∧ Blk W v0.heap.size 24 [.int .i64 0, .int .i64 0, .int .i64 0]) ⟨hHeld, hA.below hbf⟩ ?_
                clear hHeld hA
                rintro v3 ⟨hHeld, hA⟩
                have hSv3 := hHeld.size
                refine wpAnyH_ready (rs := [8]) (by kernel_rfl) (by simp) ?_
                refine AllReadyH.cons (o := ⟨some 12, _, _, _, _, _⟩) rfl (fun K hK => ?_) ?_
                · go_simp
                  refine hK.out _ _ (hHeld.alloc hHeld.size _) (fun hHeld => ?_)
                  clear hK K
                  have lA := hA.lt
                  refine any_named (fun W => Below wr.heap.size wr W ∧ Blk W v0.heap.size 24 [.int .i64 0, .int .i64 0, .int .i64 0] ∧ Blk W v3.heap.size 24 [.int .i64 0, .int .i64 0, .int .i64 0]) ⟨hHeld, by (repeat' (first | (with_reducible exact hA) | (with_reducible refine BlkP.Blk.drew ?_) | (with_reducible refine BlkP.Blk.drewN ?_ _) | (with_reducible refine BlkP.Blk.setAt (us := ?_) (by first | omega | (simp; done) | (simp; omega)) rfl ?_ ?_) | (with_reducible refine BlkP.Blk.otherAt ?_ (by first | omega | (simp; done) | (simp; omega))) | (with_reducible refine BlkP.Blk.newA' (by first | omega | (simp; done) | (simp; omega)) rfl) | (with_reducible refine BlkP.Blk.alloc ?_ _) | (exact rfl))), by (repeat' (first | (with_reducible refine BlkP.Blk.drew ?_) | (with_reducible refine BlkP.Blk.drewN ?_ _) | (with_reducible refine BlkP.Blk.setAt (us := ?_) (by first | omega | (simp; done) | (simp; omega)) rfl ?_ ?_) | (with_reducible refine BlkP.Blk.otherAt ?_ (by first | omega | (simp; done) | (simp; omega))) | (with_reducible refine BlkP.Blk.newA' (by first | omega | (simp; done) | (simp; omega)) rfl) | (with_reducible refine BlkP.Blk.alloc ?_ _) | (exact rfl)))⟩ ?_
                  clear hHeld hA
                  rintro v4 ⟨hHeld, hA, hN⟩
                  have hSv4 := hHeld.size
                  refine wpAnyH_ready (rs := [9]) (by kernel_rfl) (by simp) ?_
                  refine AllReadyH.cons (o := ⟨none, _, _, _, _, _⟩) rfl (fun K hK => ?_) ?_
                  · have e0 := hA.cell (i := 0) (v := .int .i64 0) rfl
                    have f0 := hA.frozen 0
                    have e1 := hA.cell (i := 1) (v := .int .i64 0) rfl
                    have f1 := hA.frozen 1
                    have e2 := hA.cell (i := 2) (v := .int .i64 0) rfl
                    have f2 := hA.frozen 2
                    have lA := hA.lt
                    have lN := hN.lt
                    go_simp
                    refine hK.out _ _ (by (repeat' (first | (with_reducible exact Below.refl _ _) | (with_reducible refine Below.setCell ?_ (by (first | omega | (simp; done) | (simp; omega))) _) | (with_reducible refine Below.alloc ?_ (by (first | omega | (simp; done) | (simp; omega))) _) | (with_reducible refine Below.drew ?_) | (with_reducible refine below_drewN ?_ _) | (with_reducible refine Below.trans ?_ (Below.mono hHeld (by (first | omega | (simp; done) | (simp; omega)))))))) (fun hHeld => ?_)
                    clear hK K
                    clear e0 e1 e2 f0 f1 f2
                    refine any_named (fun W => Below wr.heap.size wr W ∧ Blk W v0.heap.size 24 [.int .i64 ((posA p d (mAt d i)).x), .int .i64 ((posA p d (mAt d i)).y), .int .i64 ((posA p d (mAt d i)).z)] ∧ Blk W v3.heap.size 24 [.int .i64 0, .int .i64 0, .int .i64 0]) ⟨hHeld, by (repeat' (first | (with_reducible exact hA) | (with_reducible refine BlkP.Blk.drew ?_) | (with_reducible refine BlkP.Blk.drewN ?_ _) | (with_reducible refine BlkP.Blk.setAt (us := ?_) (by first | omega | (simp; done) | (simp; omega)) rfl ?_ ?_) | (with_reducible refine BlkP.Blk.otherAt ?_ (by first | omega | (simp; done) | (simp; omega))) | (with_reducible refine BlkP.Blk.newA' (by first | omega | (simp; done) | (simp; omega)) rfl) | (with_reducible refine BlkP.Blk.alloc ?_ _) | (exact rfl))), by (repeat' (first | (with_reducible exact hN) | (with_reducible refine BlkP.Blk.drew ?_) | (with_reducible refine BlkP.Blk.drewN ?_ _) | (with_reducible refine BlkP.Blk.setAt (us := ?_) (by first | omega | (simp; done) | (simp; omega)) rfl ?_ ?_) | (with_reducible refine BlkP.Blk.otherAt ?_ (by first | omega | (simp; done) | (simp; omega))) | (with_reducible refine BlkP.Blk.newA' (by first | omega | (simp; done) | (simp; omega)) rfl) | (with_reducible refine BlkP.Blk.alloc ?_ _) | (exact rfl)))⟩ ?_
                    clear hHeld hA hN
                    rintro v5 ⟨hHeld, hA, hN⟩
                    have hSv5 := hHeld.size
                    refine wpAnyH_ready (rs := [10]) (by kernel_rfl) (by simp) ?_
                    refine AllReadyH.cons (o := ⟨none, _, _, _, _, _⟩) rfl (fun K hK => ?_) ?_
                    · have e0 := hN.cell (i := 0) (v := .int .i64 0) rfl
                      have f0 := hN.frozen 0
                      have e1 := hN.cell (i := 1) (v := .int .i64 0) rfl
                      have f1 := hN.frozen 1
                      have e2 := hN.cell (i := 2) (v := .int .i64 0) rfl
                      have f2 := hN.frozen 2
                      have lA := hA.lt
                      have lN := hN.lt
                      go_simp
                      refine hK.out _ _ (by (repeat' (first | (with_reducible exact Below.refl _ _) | (with_reducible refine Below.setCell ?_ (by (first | omega | (simp; done) | (simp; omega))) _) | (with_reducible refine Below.alloc ?_ (by (first | omega | (simp; done) | (simp; omega))) _) | (with_reducible refine Below.drew ?_) | (with_reducible refine below_drewN ?_ _) | (with_reducible refine Below.trans ?_ (Below.mono hHeld (by (first | omega | (simp; done) | (simp; omega)))))))) (fun hHeld => ?_)
                      clear hK K
                      clear e0 e1 e2 f0 f1 f2
                      refine any_named (fun W => Below wr.heap.size wr W ∧ Blk W v0.heap.size 24 [.int .i64 ((posA p d (mAt d i)).x), .int .i64 ((posA p d (mAt d i)).y), .int .i64 ((posA p d (mAt d i)).z)] ∧ Blk W v3.heap.size 24 [.int .i64 ((posA p d (mAt d (i + 1))).x), .int .i64 ((posA p d (mAt d (i + 1))).y), .int .i64 ((posA p d (mAt d (i + 1))).z)]) ⟨hHeld, by (repeat' (first | (with_reducible exact hA) | (with_reducible refine BlkP.Blk.drew ?_) | (with_reducible refine BlkP.Blk.drewN ?_ _) | (with_reducible refine BlkP.Blk.setAt (us := ?_) (by first | omega | (simp; done) | (simp; omega)) rfl ?_ ?_) | (with_reducible refine BlkP.Blk.otherAt ?_ (by first | omega | (simp; done) | (simp; omega))) | (with_reducible refine BlkP.Blk.newA' (by first | omega | (simp; done) | (simp; omega)) rfl) | (with_reducible refine BlkP.Blk.alloc ?_ _) | (exact rfl))), by (repeat' (first | (with_reducible exact hN) | (with_reducible refine BlkP.Blk.drew ?_) | (with_reducible refine BlkP.Blk.drewN ?_ _) | (with_reducible refine BlkP.Blk.setAt (us := ?_) (by first | omega | (simp; done) | (simp; omega)) rfl ?_ ?_) | (with_reducible refine BlkP.Blk.otherAt ?_ (by first | omega | (simp; done) | (simp; omega))) | (with_reducible refine BlkP.Blk.newA' (by first | omega | (simp; done) | (simp; omega)) rfl) | (with_reducible refine BlkP.Blk.alloc ?_ _) | (exact rfl)))⟩ ?_
                      clear hHeld hA hN
                      rintro v6 ⟨hHeld, hA, hN⟩
                      have hSv6 := hHeld.size
                      refine wpAnyH_done (by kernel_rfl) ?_ _
                      refine NoPanic.normal ?_
                      go_wp2_with fail
                      go_meet
                      case rel =>
                        exact ⟨v0.heap.size, v3.heap.size, rfl, rfl, by omega, by omega, by omega, hA, hN, hHeld⟩
                    exact AllReadyH.nil
                  exact AllReadyH.nil
                exact AllReadyH.nil
              refine AllReadyH.cons (o := ⟨some 12, _, _, _, _, _⟩) rfl (fun K hK => ?_) ?_
              · go_simp
                refine hK.out _ _ (hHeld.alloc hHeld.size _) (fun hHeld => ?_)
                clear hK K
                have lA := hA.lt
                refine any_named (fun W => Below wr.heap.size wr W ∧ Blk W v0.heap.size 24 [.int .i64 0, .int .i64 0, .int .i64 0] ∧ Blk W v2.heap.size 24 [.int .i64 0, .int .i64 0, .int .i64 0]) ⟨hHeld, by (repeat' (first | (with_reducible exact hA) | (with_reducible refine BlkP.Blk.drew ?_) | (with_reducible refine BlkP.Blk.drewN ?_ _) | (with_reducible refine BlkP.Blk.setAt (us := ?_) (by first | omega | (simp; done) | (simp; omega)) rfl ?_ ?_) | (with_reducible refine BlkP.Blk.otherAt ?_ (by first | omega | (simp; done) | (simp; omega))) | (with_reducible refine BlkP.Blk.newA' (by first | omega | (simp; done) | (simp; omega)) rfl) | (with_reducible refine BlkP.Blk.alloc ?_ _) | (exact rfl))), by (repeat' (first | (with_reducible refine BlkP.Blk.drew ?_) | (with_reducible refine BlkP.Blk.drewN ?_ _) | (with_reducible refine BlkP.Blk.setAt (us := ?_) (by first | omega | (simp; done) | (simp; omega)) rfl ?_ ?_) | (with_reducible refine BlkP.Blk.otherAt ?_ (by first | omega | (simp; done) | (simp; omega))) | (with_reducible refine BlkP.Blk.newA' (by first | omega | (simp; done) | (simp; omega)) rfl) | (with_reducible refine BlkP.Blk.alloc ?_ _) | (exact rfl)))⟩ ?_
                clear hHeld hA
                rintro v3 ⟨hHeld, hA, hN⟩
                have hSv3 := hHeld.size
                refine wpAnyH_ready (rs := [6]) (by kernel_rfl) (by simp) ?_
                refine AllReadyH.cons (o := ⟨some 48, _, _, _, _, _⟩) rfl (fun K hK => ?_) ?_
                · go_simp
                  refine (numbers_c (q := (posA p d (mAt d (i + 1)))) _).mono ?_
                  rintro e wf ⟨rfl, hbf⟩
                  go_wp2_with fail
                  refine hK.out _ _ (below_t hHeld hbf) (fun hHeld => ?_)
                  clear hK K
                  refine any_named (fun W => Below wr.heap.size wr W ∧ Blk W v0.heap.size 24 [.int .i64 0, .int .i64 0, .int .i64 0] ∧ Blk W v2.heap.size 24 [.int .i64 0, .int .i64 0, .int .i64 0]) ⟨hHeld, hA.below hbf, hN.below hbf⟩ ?_
                  clear hHeld hA hN
                  rintro v4 ⟨hHeld, hA, hN⟩
                  have hSv4 := hHeld.size
                  refine wpAnyH_ready (rs := [9]) (by kernel_rfl) (by simp) ?_
                  refine AllReadyH.cons (o := ⟨none, _, _, _, _, _⟩) rfl (fun K hK => ?_) ?_
                  · have e0 := hA.cell (i := 0) (v := .int .i64 0) rfl
                    have f0 := hA.frozen 0
                    have e1 := hA.cell (i := 1) (v := .int .i64 0) rfl
                    have f1 := hA.frozen 1
                    have e2 := hA.cell (i := 2) (v := .int .i64 0) rfl
                    have f2 := hA.frozen 2
                    have lA := hA.lt
                    have lN := hN.lt
                    go_simp
                    refine hK.out _ _ (by (repeat' (first | (with_reducible exact Below.refl _ _) | (with_reducible refine Below.setCell ?_ (by (first | omega | (simp; done) | (simp; omega))) _) | (with_reducible refine Below.alloc ?_ (by (first | omega | (simp; done) | (simp; omega))) _) | (with_reducible refine Below.drew ?_) | (with_reducible refine below_drewN ?_ _) | (with_reducible refine Below.trans ?_ (Below.mono hHeld (by (first | omega | (simp; done) | (simp; omega)))))))) (fun hHeld => ?_)
                    clear hK K
                    clear e0 e1 e2 f0 f1 f2
                    refine any_named (fun W => Below wr.heap.size wr W ∧ Blk W v0.heap.size 24 [.int .i64 ((posA p d (mAt d i)).x), .int .i64 ((posA p d (mAt d i)).y), .int .i64 ((posA p d (mAt d i)).z)] ∧ Blk W v2.heap.size 24 [.int .i64 0, .int .i64 0, .int .i64 0]) ⟨hHeld, by (repeat' (first | (with_reducible exact hA) | (with_reducible refine BlkP.Blk.drew ?_) | (with_reducible refine BlkP.Blk.drewN ?_ _) | (with_reducible refine BlkP.Blk.setAt (us := ?_) (by first | omega | (simp; done) | (simp; omega)) rfl ?_ ?_) | (with_reducible refine BlkP.Blk.otherAt ?_ (by first | omega | (simp; done) | (simp; omega))) | (with_reducible refine BlkP.Blk.newA' (by first | omega | (simp; done) | (simp; omega)) rfl) | (with_reducible refine BlkP.Blk.alloc ?_ _) | (exact rfl))), by (repeat' (first | (with_reducible exact hN) | (with_reducible refine BlkP.Blk.drew ?_) | (with_reducible refine BlkP.Blk.drewN ?_ _) | (with_reducible refine BlkP.Blk.setAt (us := ?_) (by first | omega | (simp; done) | (simp; omega)) rfl ?_ ?_) | (with_reducible refine BlkP.Blk.otherAt ?_ (by first | omega | (simp; done) | (simp; omega))) | (with_reducible refine BlkP.Blk.newA' (by first | omega | (simp; done) | (simp; omega)) rfl) | (with_reducible refine BlkP.Blk.alloc ?_ _) | (exact rfl)))⟩ ?_
                    clear hHeld hA hN
                    rintro v5 ⟨hHeld, hA, hN⟩
                    have hSv5 := hHeld.size
                    refine wpAnyH_ready (rs := [10]) (by kernel_rfl) (by simp) ?_
                    refine AllReadyH.cons (o := ⟨none, _, _, _, _, _⟩) rfl (fun K hK => ?_) ?_
                    · have e0 := hN.cell (i := 0) (v := .int .i64 0) rfl
                      have f0 := hN.frozen 0
                      have e1 := hN.cell (i := 1) (v := .int .i64 0) rfl
                      have f1 := hN.frozen 1
                      have e2 := hN.cell (i := 2) (v := .int .i64 0) rfl
                      have f2 := hN.frozen 2
                      have lA := hA.lt
                      have lN := hN.lt
                      go_simp
                      refine hK.out _ _ (by (repeat' (first | (with_reducible exact Below.refl _ _) | (with_reducible refine Below.setCell ?_ (by (first | omega | (simp; done) | (simp; omega))) _) | (with_reducible refine Below.alloc ?_ (by (first | omega | (simp; done) | (simp; omega))) _) | (with_reducible refine Below.drew ?_) | (with_reducible refine below_drewN ?_ _) | (with_reducible refine Below.trans ?_ (Below.mono hHeld (by (first | omega | (simp; done) | (simp; omega)))))))) (fun hHeld => ?_)
                      clear hK K
                      clear e0 e1 e2 f0 f1 f2
                      refine any_named (fun W => Below wr.heap.size wr W ∧ Blk W v0.heap.size 24 [.int .i64 ((posA p d (mAt d i)).x), .int .i64 ((posA p d (mAt d i)).y), .int .i64 ((posA p d (mAt d i)).z)] ∧ Blk W v2.heap.size 24 [.int .i64 ((posA p d (mAt d (i + 1))).x), .int .i64 ((posA p d (mAt d (i + 1))).y), .int .i64 ((posA p d (mAt d (i + 1))).z)]) ⟨hHeld, by (repeat' (first | (with_reducible exact hA) | (with_reducible refine BlkP.Blk.drew ?_) | (with_reducible refine BlkP.Blk.drewN ?_ _) | (with_reducible refine BlkP.Blk.setAt (us := ?_) (by first | omega | (simp; done) | (simp; omega)) rfl ?_ ?_) | (with_reducible refine BlkP.Blk.otherAt ?_ (by first | omega | (simp; done) | (simp; omega))) | (with_reducible refine BlkP.Blk.newA' (by first | omega | (simp; done) | (simp; omega)) rfl) | (with_reducible refine BlkP.Blk.alloc ?_ _) | (exact rfl))), by (repeat' (first | (with_reducible exact hN) | (with_reducible refine BlkP.Blk.drew ?_) | (with_reducible refine BlkP.Blk.drewN ?_ _) | (with_reducible refine BlkP.Blk.setAt (us := ?_) (by first | omega | (simp; done) | (simp; omega)) rfl ?_ ?_) | (with_reducible refine BlkP.Blk.otherAt ?_ (by first | omega | (simp; done) | (simp; omega))) | (with_reducible refine BlkP.Blk.newA' (by first | omega | (simp; done) | (simp; omega)) rfl) | (with_reducible refine BlkP.Blk.alloc ?_ _) | (exact rfl)))⟩ ?_
                      clear hHeld hA hN
                      rintro v6 ⟨hHeld, hA, hN⟩
                      have hSv6 := hHeld.size
                      refine wpAnyH_done (by kernel_rfl) ?_ _
                      refine NoPanic.normal ?_
                      go_wp2_with fail
                      go_meet
                      case rel =>
                        exact ⟨v0.heap.size, v2.heap.size, rfl, rfl, by omega, by omega, by omega, hA, hN, hHeld⟩
                    exact AllReadyH.nil
                  exact AllReadyH.nil
                exact AllReadyH.nil
              exact AllReadyH.nil
            refine AllReadyH.cons (o := ⟨some 12, _, _, _, _, _⟩) rfl (fun K hK => ?_) ?_
            · go_simp
              refine hK.out _ _ (hHeld.alloc hHeld.size _) (fun hHeld => ?_)
              clear hK K
              have lA := hA.lt
              refine any_named (fun W => Below wr.heap.size wr W ∧ Blk W v0.heap.size 24 [.int .i64 0, .int .i64 0, .int .i64 0] ∧ Blk W v1.heap.size 24 [.int .i64 0, .int .i64 0, .int .i64 0]) ⟨hHeld, by (repeat' (first | (with_reducible exact hA) | (with_reducible refine BlkP.Blk.drew ?_) | (with_reducible refine BlkP.Blk.drewN ?_ _) | (with_reducible refine BlkP.Blk.setAt (us := ?_) (by first | omega | (simp; done) | (simp; omega)) rfl ?_ ?_) | (with_reducible refine BlkP.Blk.otherAt ?_ (by first | omega | (simp; done) | (simp; omega))) | (with_reducible refine BlkP.Blk.newA' (by first | omega | (simp; done) | (simp; omega)) rfl) | (with_reducible refine BlkP.Blk.alloc ?_ _) | (exact rfl))), by (repeat' (first | (with_reducible refine BlkP.Blk.drew ?_) | (with_reducible refine BlkP.Blk.drewN ?_ _) | (with_reducible refine BlkP.Blk.setAt (us := ?_) (by first | omega | (simp; done) | (simp; omega)) rfl ?_ ?_) | (with_reducible refine BlkP.Blk.otherAt ?_ (by first | omega | (simp; done) | (simp; omega))) | (with_reducible refine BlkP.Blk.newA' (by first | omega | (simp; done) | (simp; omega)) rfl) | (with_reducible refine BlkP.Blk.alloc ?_ _) | (exact rfl)))⟩ ?_
              clear hHeld hA
              rintro v2 ⟨hHeld, hA, hN⟩
              have hSv2 := hHeld.size
              refine wpAnyH_ready (rs := [1]) (by kernel_rfl) (by simp) ?_
              refine AllReadyH.cons (o := ⟨some 43, _, _, _, _, _⟩) rfl (fun K hK => ?_) ?_
              · go_simp
                refine (numbers_c (q := (posA p d (mAt d i))) _).mono ?_
                rintro e wf ⟨rfl, hbf⟩
                go_wp2_with fail
                refine hK.out _ _ (below_t hHeld hbf) (fun hHeld => ?_)
                clear hK K
                refine any_named (fun W => Below wr.heap.size wr W ∧ Blk W v0.heap.size 24 [.int .i64 0, .int .i64 0, .int .i64 0] ∧ Blk W v1.heap.size 24 [.int .i64 0, .int .i64 0, .int .i64 0]) ⟨hHeld, hA.below hbf, hN.below hbf⟩ ?_
                clear hHeld hA hN
                rintro v3 ⟨hHeld, hA, hN⟩
                have hSv3 := hHeld.size
                refine wpAnyH_ready (rs := [6]) (by kernel_rfl) (by simp) ?_
                refine AllReadyH.cons (o := ⟨some 48, _, _, _, _, _⟩) rfl (fun K hK => ?_) ?_
                · go_simp
                  refine (numbers_c (q := (posA p d (mAt d (i + 1)))) _).mono ?_
                  rintro e wf ⟨rfl, hbf⟩
                  go_wp2_with fail
                  refine hK.out _ _ (below_t hHeld hbf) (fun hHeld => ?_)
                  clear hK K
                  refine any_named (fun W => Below wr.heap.size wr W ∧ Blk W v0.heap.size 24 [.int .i64 0, .int .i64 0, .int .i64 0] ∧ Blk W v1.heap.size 24 [.int .i64 0, .int .i64 0, .int .i64 0]) ⟨hHeld, hA.below hbf, hN.below hbf⟩ ?_
                  clear hHeld hA hN
                  rintro v4 ⟨hHeld, hA, hN⟩
                  have hSv4 := hHeld.size
                  refine wpAnyH_ready (rs := [9]) (by kernel_rfl) (by simp) ?_
                  refine AllReadyH.cons (o := ⟨none, _, _, _, _, _⟩) rfl (fun K hK => ?_) ?_
                  · have e0 := hA.cell (i := 0) (v := .int .i64 0) rfl
                    have f0 := hA.frozen 0
                    have e1 := hA.cell (i := 1) (v := .int .i64 0) rfl
                    have f1 := hA.frozen 1
                    have e2 := hA.cell (i := 2) (v := .int .i64 0) rfl
                    have f2 := hA.frozen 2
                    have lA := hA.lt
                    have lN := hN.lt
                    go_simp
                    refine hK.out _ _ (by (repeat' (first | (with_reducible exact Below.refl _ _) | (with_reducible refine Below.setCell ?_ (by (first | omega | (simp; done) | (simp; omega))) _) | (with_reducible refine Below.alloc ?_ (by (first | omega | (simp; done) | (simp; omega))) _) | (with_reducible refine Below.drew ?_) | (with_reducible refine below_drewN ?_ _) | (with_reducible refine Below.trans ?_ (Below.mono hHeld (by (first | omega | (simp; done) | (simp; omega)))))))) (fun hHeld => ?_)
                    clear hK K
                    clear e0 e1 e2 f0 f1 f2
                    refine any_named (fun W => Below wr.heap.size wr W ∧ Blk W v0.heap.size 24 [.int .i64 ((posA p d (mAt d i)).x), .int .i64 ((posA p d (mAt d i)).y), .int .i64 ((posA p d (mAt d i)).z)] ∧ Blk W v1.heap.size 24 [.int .i64 0, .int .i64 0, .int .i64 0]) ⟨hHeld, by (repeat' (first | (with_reducible exact hA) | (with_reducible refine BlkP.Blk.drew ?_) | (with_reducible refine BlkP.Blk.drewN ?_ _) | (with_reducible refine BlkP.Blk.setAt (us := ?_) (by first | omega | (simp; done) | (simp; omega)) rfl ?_ ?_) | (with_reducible refine BlkP.Blk.otherAt ?_ (by first | omega | (simp; done) | (simp; omega))) | (with_reducible refine BlkP.Blk.newA' (by first | omega | (simp; done) | (simp; omega)) rfl) | (with_reducible refine BlkP.Blk.alloc ?_ _) | (exact rfl))), by (repeat' (first | (with_reducible exact hN) | (with_reducible refine BlkP.Blk.drew ?_) | (with_reducible refine BlkP.Blk.drewN ?_ _) | (with_reducible refine BlkP.Blk.setAt (us := ?_) (by first | omega | (simp; done) | (simp; omega)) rfl ?_ ?_) | (with_reducible refine BlkP.Blk.otherAt ?_ (by first | omega | (simp; done) | (simp; omega))) | (with_reducible refine BlkP.Blk.newA' (by first | omega | (simp; done) | (simp; omega)) rfl) | (with_reducible refine BlkP.Blk.alloc ?_ _) | (exact rfl)))⟩ ?_
                    clear hHeld hA hN
                    rintro v5 ⟨hHeld, hA, hN⟩
                    have hSv5 := hHeld.size
                    refine wpAnyH_ready (rs := [10]) (by kernel_rfl) (by simp) ?_
                    refine AllReadyH.cons (o := ⟨none, _, _, _, _, _⟩) rfl (fun K hK => ?_) ?_
                    · have e0 := hN.cell (i := 0) (v := .int .i64 0) rfl
                      have f0 := hN.frozen 0
                      have e1 := hN.cell (i := 1) (v := .int .i64 0) rfl
                      have f1 := hN.frozen 1
                      have e2 := hN.cell (i := 2) (v := .int .i64 0) rfl
                      have f2 := hN.frozen 2
                      have lA := hA.lt
                      have lN := hN.lt
                      go_simp
                      refine hK.out _ _ (by (repeat' (first | (with_reducible exact Below.refl _ _) | (with_reducible refine Below.setCell ?_ (by (first | omega | (simp; done) | (simp; omega))) _) | (with_reducible refine Below.alloc ?_ (by (first | omega | (simp; done) | (simp; omega))) _) | (with_reducible refine Below.drew ?_) | (with_reducible refine below_drewN ?_ _) | (with_reducible refine Below.trans ?_ (Below.mono hHeld (by (first | omega | (simp; done) | (simp; omega)))))))) (fun hHeld => ?_)
                      clear hK K
                      clear e0 e1 e2 f0 f1 f2
                      refine any_named (fun W => Below wr.heap.size wr W ∧ Blk W v0.heap.size 24 [.int .i64 ((posA p d (mAt d i)).x), .int .i64 ((posA p d (mAt d i)).y), .int .i64 ((posA p d (mAt d i)).z)] ∧ Blk W v1.heap.size 24 [.int .i64 ((posA p d (mAt d (i + 1))).x), .int .i64 ((posA p d (mAt d (i + 1))).y), .int .i64 ((posA p d (mAt d (i + 1))).z)]) ⟨hHeld, by (repeat' (first | (with_reducible exact hA) | (with_reducible refine BlkP.Blk.drew ?_) | (with_reducible refine BlkP.Blk.drewN ?_ _) | (with_reducible refine BlkP.Blk.setAt (us := ?_) (by first | omega | (simp; done) | (simp; omega)) rfl ?_ ?_) | (with_reducible refine BlkP.Blk.otherAt ?_ (by first | omega | (simp; done) | (simp; omega))) | (with_reducible refine BlkP.Blk.newA' (by first | omega | (simp; done) | (simp; omega)) rfl) | (with_reducible refine BlkP.Blk.alloc ?_ _) | (exact rfl))), by (repeat' (first | (with_reducible exact hN) | (with_reducible refine BlkP.Blk.drew ?_) | (with_reducible refine BlkP.Blk.drewN ?_ _) | (with_reducible refine BlkP.Blk.setAt (us := ?_) (by first | omega | (simp; done) | (simp; omega)) rfl ?_ ?_) | (with_reducible refine BlkP.Blk.otherAt ?_ (by first | omega | (simp; done) | (simp; omega))) | (with_reducible refine BlkP.Blk.newA' (by first | omega | (simp; done) | (simp; omega)) rfl) | (with_reducible refine BlkP.Blk.alloc ?_ _) | (exact rfl)))⟩ ?_
                      clear hHeld hA hN
                      rintro v6 ⟨hHeld, hA, hN⟩
                      have hSv6 := hHeld.size
                      refine wpAnyH_done (by kernel_rfl) ?_ _
                      refine NoPanic.normal ?_
                      go_wp2_with fail
                      go_meet
                      case rel =>
                        exact ⟨v0.heap.size, v1.heap.size, rfl, rfl, by omega, by omega, by omega, hA, hN, hHeld⟩
                    exact AllReadyH.nil
                  exact AllReadyH.nil
                exact AllReadyH.nil
              exact AllReadyH.nil
            exact AllReadyH.nil
          refine AllReadyH.cons (o := ⟨some 12, _, _, _, _, _⟩) rfl (fun K hK => ?_) ?_
          · go_simp
            refine hK.out _ _ (hHeld.alloc hHeld.size _) (fun hHeld => ?_)
            clear hK K
            refine any_named (fun W => Below wr.heap.size wr W ∧ Blk W v0.heap.size 24 [.int .i64 0, .int .i64 0, .int .i64 0]) ⟨hHeld, by (repeat' (first | (with_reducible refine BlkP.Blk.drew ?_) | (with_reducible refine BlkP.Blk.drewN ?_ _) | (with_reducible refine BlkP.Blk.setAt (us := ?_) (by first | omega | (simp; done) | (simp; omega)) rfl ?_ ?_) | (with_reducible refine BlkP.Blk.otherAt ?_ (by first | omega | (simp; done) | (simp; omega))) | (with_reducible refine BlkP.Blk.newA' (by first | omega | (simp; done) | (simp; omega)) rfl) | (with_reducible refine BlkP.Blk.alloc ?_ _) | (exact rfl)))⟩ ?_
            clear hHeld
            rintro v1 ⟨hHeld, hN⟩
            have hSv1 := hHeld.size
            refine wpAnyH_ready (rs := [1, 7]) (by kernel_rfl) (by simp) ?_
            refine AllReadyH.cons (o := ⟨some 43, _, _, _, _, _⟩) rfl (fun K hK => ?_) ?_
            · go_simp
              refine (numbers_c (q := (posA p d (mAt d i))) _).mono ?_
              rintro e wf ⟨rfl, hbf⟩
              go_wp2_with fail
              refine hK.out _ _ (below_t hHeld hbf) (fun hHeld => ?_)
              clear hK K
              refine any_named (fun W => Below wr.heap.size wr W ∧ Blk W v0.heap.size 24 [.int .i64 0, .int .i64 0, .int .i64 0]) ⟨hHeld, hN.below hbf⟩ ?_
              clear hHeld hN
              rintro v2 ⟨hHeld, hN⟩
              have hSv2 := hHeld.size
              refine wpAnyH_ready (rs := [6, 7]) (by kernel_rfl) (by simp) ?_
              refine AllReadyH.cons (o := ⟨some 48, _, _, _, _, _⟩) rfl (fun K hK => ?_) ?_
              · go_simp
                refine (numbers_c (q := (posA p d (mAt d (i + 1)))) _).mono ?_
                rintro e wf ⟨rfl, hbf⟩
                go_wp2_with fail
                refine hK.out _ _ (below_t hHeld hbf) (fun hHeld => ?_)
                clear hK K
                refine any_named (fun W => Below wr.heap.size wr W ∧ Blk W v0.heap.size 24 [.int .i64 0, .int .i64 0, .int .i64 0]) ⟨hHeld, hN.below hbf⟩ ?_
                clear hHeld hN
                rintro v3 ⟨hHeld, hN⟩
                have hSv3 := hHeld.size
                refine wpAnyH_ready (rs := [7]) (by kernel_rfl) (by simp) ?_
                refine AllReadyH.cons (o := ⟨some 11, _, _, _, _, _⟩) rfl (fun K hK => ?_) ?_
                · go_simp
                  refine hK.out _ _ (hHeld.alloc hHeld.size _) (fun hHeld => ?_)
                  clear hK K
                  have lN := hN.lt
                  refine any_named (fun W => Below wr.heap.size wr W ∧ Blk W v3.heap.size 24 [.int .i64 0, .int .i64 0, .int .i64 0] ∧ Blk W v0.heap.size 24 [.int .i64 0, .int .i64 0, .int .i64 0]) ⟨hHeld, by (repeat' (first | (with_reducible refine BlkP.Blk.drew ?_) | (with_reducible refine BlkP.Blk.drewN ?_ _) | (with_reducible refine BlkP.Blk.setAt (us := ?_) (by first | omega | (simp; done) | (simp; omega)) rfl ?_ ?_) | (with_reducible refine BlkP.Blk.otherAt ?_ (by first | omega | (simp; done) | (simp; omega))) | (with_reducible refine BlkP.Blk.newA' (by first | omega | (simp; done) | (simp; omega)) rfl) | (with_reducible refine BlkP.Blk.alloc ?_ _) | (exact rfl))), by (repeat' (first | (with_reducible exact hN) | (with_reducible refine BlkP.Blk.drew ?_) | (with_reducible refine BlkP.Blk.drewN ?_ _) | (with_reducible refine BlkP.Blk.setAt (us := ?_) (by first | omega | (simp; done) | (simp; omega)) rfl ?_ ?_) | (with_reducible refine BlkP.Blk.otherAt ?_ (by first | omega | (simp; done) | (simp; omega))) | (with_reducible refine BlkP.Blk.newA' (by first | omega | (simp; done) | (simp; omega)) rfl) | (with_reducible refine BlkP.Blk.alloc ?_ _) | (exact rfl)))⟩ ?_
                  clear hHeld hN
                  rintro v4 ⟨hHeld, hA, hN⟩
                  have hSv4 := hHeld.size
                  refine wpAnyH_ready (rs := [9]) (by kernel_rfl) (by simp) ?_
                  refine AllReadyH.cons (o := ⟨none, _, _, _, _, _⟩) rfl (fun K hK => ?_) ?_
                  · have e0 := hA.cell (i := 0) (v := .int .i64 0) rfl
                    have f0 := hA.frozen 0
                    have e1 := hA.cell (i := 1) (v := .int .i64 0) rfl
                    have f1 := hA.frozen 1
                    have e2 := hA.cell (i := 2) (v := .int .i64 0) rfl
                    have f2 := hA.frozen 2
                    have lA := hA.lt
                    have lN := hN.lt
                    go_simp
                    refine hK.out _ _ (by (repeat' (first | (with_reducible exact Below.refl _ _) | (with_reducible refine Below.setCell ?_ (by (first | omega | (simp; done) | (simp; omega))) _) | (with_reducible refine Below.alloc ?_ (by (first | omega | (simp; done) | (simp; omega))) _) | (with_reducible refine Below.drew ?_) | (with_reducible refine below_drewN ?_ _) | (with_reducible refine Below.trans ?_ (Below.mono hHeld (by (first | omega | (simp; done) | (simp; omega)))))))) (fun hHeld => ?_)
                    clear hK K
                    clear e0 e1 e2 f0 f1 f2
                    refine any_named (fun W => Below wr.heap.size wr W ∧ Blk W v3.heap.size 24 [.int .i64 ((posA p d (mAt d i)).x), .int .i64 ((posA p d (mAt d i)).y), .int .i64 ((posA p d (mAt d i)).z)] ∧ Blk W v0.heap.size 24 [.int .i64 0, .int .i64 0, .int .i64 0]) ⟨hHeld, by (repeat' (first | (with_reducible exact hA) | (with_reducible refine BlkP.Blk.drew ?_) | (with_reducible refine BlkP.Blk.drewN ?_ _) | (with_reducible refine BlkP.Blk.setAt (us := ?_) (by first | omega | (simp; done) | (simp; omega)) rfl ?_ ?_) | (with_reducible refine BlkP.Blk.otherAt ?_ (by first | omega | (simp; done) | (simp; omega))) | (with_reducible refine BlkP.Blk.newA' (by first | omega | (simp; done) | (simp; omega)) rfl) | (with_reducible refine BlkP.Blk.alloc ?_ _) | (exact rfl))), by (repeat' (first | (with_reducible exact hN) | (with_reducible refine BlkP.Blk.drew ?_) | (with_reducible refine BlkP.Blk.drewN ?_ _) | (with_reducible refine BlkP.Blk.setAt (us := ?_) (by first | omega | (simp; done) | (simp; omega)) rfl ?_ ?_) | (with_reducible refine BlkP.Blk.otherAt ?_ (by first | omega | (simp; done) | (simp; omega))) | (with_reducible refine BlkP.Blk.newA' (by first | omega | (simp; done) | (simp; omega)) rfl) | (with_reducible refine BlkP.Blk.alloc ?_ _) | (exact rfl)))⟩ ?_
                    clear hHeld hA hN
                    rintro v5 ⟨hHeld, hA, hN⟩
                    have hSv5 := hHeld.size
                    refine wpAnyH_ready (rs := [10]) (by kernel_rfl) (by simp) ?_
                    refine AllReadyH.cons (o := ⟨none, _, _, _, _, _⟩) rfl (fun K hK => ?_) ?_
                    · have e0 := hN.cell (i := 0) (v := .int .i64 0) rfl
                      have f0 := hN.frozen 0
                      have e1 := hN.cell (i := 1) (v := .int .i64 0) rfl
                      have f1 := hN.frozen 1
                      have e2 := hN.cell (i := 2) (v := .int .i64 0) rfl
                      have f2 := hN.frozen 2
                      have lA := hA.lt
                      have lN := hN.lt
                      go_simp
                      refine hK.out _ _ (by (repeat' (first | (with_reducible exact Below.refl _ _) | (with_reducible refine Below.setCell ?_ (by (first | omega | (simp; done) | (simp; omega))) _) | (with_reducible refine Below.alloc ?_ (by (first | omega | (simp; done) | (simp; omega))) _) | (with_reducible refine Below.drew ?_) | (with_reducible refine below_drewN ?_ _) | (with_reducible refine Below.trans ?_ (Below.mono hHeld (by (first | omega | (simp; done) | (simp; omega)))))))) (fun hHeld => ?_)
                      clear hK K
                      clear e0 e1 e2 f0 f1 f2
                      refine any_named (fun W => Below wr.heap.size wr W ∧ Blk W v3.heap.size 24 [.int .i64 ((posA p d (mAt d i)).x), .int .i64 ((posA p d (mAt d i)).y), .int .i64 ((posA p d (mAt d i)).z)] ∧ Blk W v0.heap.size 24 [.int .i64 ((posA p d (mAt d (i + 1))).x), .int .i64 ((posA p d (mAt d (i + 1))).y), .int .i64 ((posA p d (mAt d (i + 1))).z)]) ⟨hHeld, by (repeat' (first | (with_reducible exact hA) | (with_reducible refine BlkP.Blk.drew ?_) | (with_reducible refine BlkP.Blk.drewN ?_ _) | (with_reducible refine BlkP.Blk.setAt (us := ?_) (by first | omega | (simp; done) | (simp; omega)) rfl ?_ ?_) | (with_reducible refine BlkP.Blk.otherAt ?_ (by first | omega | (simp; done) | (simp; omega))) | (with_reducible refine BlkP.Blk.newA' (by first | omega | (simp; done) | (simp; omega)) rfl) | (with_reducible refine BlkP.Blk.alloc ?_ _) | (exact rfl))), by (repeat' (first | (with_reducible exact hN) | (with_reducible refine BlkP.Blk.drew ?_) | (with_reducible refine BlkP.Blk.drewN ?_ _) | (with_reducible refine BlkP.Blk.setAt (us := ?_) (by first | omega | (simp; done) | (simp; omega)) rfl ?_ ?_) | (with_reducible refine BlkP.Blk.otherAt ?_ (by first | omega | (simp; done) | (simp; omega))) | (with_reducible refine BlkP.Blk.newA' (by first | omega | (simp; done) | (simp; omega)) rfl) | (with_reducible refine BlkP.Blk.alloc ?_ _) | (exact rfl)))⟩ ?_
                      clear hHeld hA hN
                      rintro v6 ⟨hHeld, hA, hN⟩
                      have hSv6 := hHeld.size
                      refine wpAnyH_done (by kernel_rfl) ?_ _
                      refine NoPanic.normal ?_
                      go_wp2_with fail
                      go_meet
                      case rel =>
                        exact ⟨v3.heap.size, v0.heap.size, rfl, rfl, by omega, by omega, by omega, hA, hN, hHeld⟩
                    exact AllReadyH.nil
                  exact AllReadyH.nil
                exact AllReadyH.nil
              refine AllReadyH.cons (o := ⟨some 11, _, _, _, _, _⟩) rfl (fun K hK => ?_) ?_
              · go_simp
                refine hK.out _ _ (hHeld.alloc hHeld.size _) (fun hHeld => ?_)
                clear hK K
                have lN := hN.lt
                refine any_named (fun W => Below wr.heap.size wr W ∧ Blk W v2.heap.size 24 [.int .i64 0, .int .i64 0, .int .i64 0] ∧ Blk W v0.heap.size 24 [.int .i64 0, .int .i64 0, .int .i64 0]) ⟨hHeld, by (repeat' (first | (with_reducible refine BlkP.Blk.drew ?_) | (with_reducible refine BlkP.Blk.drewN ?_ _) | (with_reducible refine BlkP.Blk.setAt (us := ?_) (by first | omega | (simp; done) | (simp; omega)) rfl ?_ ?_) | (with_reducible refine BlkP.Blk.otherAt ?_ (by first | omega | (simp; done) | (simp; omega))) | (with_reducible refine BlkP.Blk.newA' (by first | omega | (simp; done) | (simp; omega)) rfl) | (with_reducible refine BlkP.Blk.alloc ?_ _) | (exact rfl))), by (repeat' (first | (with_reducible exact hN) | (with_reducible refine BlkP.Blk.drew ?_) | (with_reducible refine BlkP.Blk.drewN ?_ _) | (with_reducible refine BlkP.Blk.setAt (us := ?_) (by first | omega | (simp; done) | (simp; omega)) rfl ?_ ?_) | (with_reducible refine BlkP.Blk.otherAt ?_ (by first | omega | (simp; done) | (simp; omega))) | (with_reducible refine BlkP.Blk.newA' (by first | omega | (simp; done) | (simp; omega)) rfl) | (with_reducible refine BlkP.Blk.alloc ?_ _) | (exact rfl)))⟩ ?_
                clear hHeld hN
                rintro v3 ⟨hHeld, hA, hN⟩
                have hSv3 := hHeld.size
                refine wpAnyH_ready (rs := [6]) (by kernel_rfl) (by simp) ?_
                refine AllReadyH.cons (o := ⟨some 48, _, _, _, _, _⟩) rfl (fun K hK => ?_) ?_
                · go_simp
                  refine (numbers_c (q := (posA p d (mAt d (i + 1)))) _).mono ?_
                  rintro e wf ⟨rfl, hbf⟩
                  go_wp2_with fail
                  refine hK.out _ _ (below_t hHeld hbf) (fun hHeld => ?_)
                  clear hK K
                  refine any_named (fun W => Below wr.heap.size wr W ∧ Blk W v2.heap.size 24 [.int .i64 0, .int .i64 0, .int .i64 0] ∧ Blk W v0.heap.size 24 [.int .i64 0, .int .i64 0, .int .i64 0]) ⟨hHeld, hA.below hbf, hN.below hbf⟩ ?_
                  clear hHeld hA hN
                  rintro v4 ⟨hHeld, hA, hN⟩
                  have hSv4 := hHeld.size
                  refine wpAnyH_ready (rs := [9]) (by kernel_rfl) (by simp) ?_
                  refine AllReadyH.cons (o := ⟨none, _, _, _, _, _⟩) rfl (fun K hK => ?_) ?_
                  · have e0 := hA.cell (i := 0) (v := .int .i64 0) rfl
                    have f0 := hA.frozen 0
                    have e1 := hA.cell (i := 1) (v := .int .i64 0) rfl
                    have f1 := hA.frozen 1
                    have e2 := hA.cell (i := 2) (v := .int .i64 0) rfl
                    have f2 := hA.frozen 2
                    have lA := hA.lt
                    have lN := hN.lt
                    go_simp
                    refine hK.out _ _ (by (repeat' (first | (with_reducible exact Below.refl _ _) | (with_reducible refine Below.setCell ?_ (by (first | omega | (simp; done) | (simp; omega))) _) | (with_reducible refine Below.alloc ?_ (by (first | omega | (simp; done) | (simp; omega))) _) | (with_reducible refine Below.drew ?_) | (with_reducible refine below_drewN ?_ _) | (with_reducible refine Below.trans ?_ (Below.mono hHeld (by (first | omega | (simp; done) | (simp; omega)))))))) (fun hHeld => ?_)
                    clear hK K
                    clear e0 e1 e2 f0 f1 f2
                    refine any_named (fun W => Below wr.heap.size wr W ∧ Blk W v2.heap.size 24 [.int .i64 ((posA p d (mAt d i)).x), .int .i64 ((posA p d (mAt d i)).y), .int .i64 ((posA p d (mAt d i)).z)] ∧ Blk W v0.heap.size 24 [.int .i64 0, .int .i64 0, .int .i64 0]) ⟨hHeld, by (repeat' (first | (with_reducible exact hA) | (with_reducible refine BlkP.Blk.drew ?_) | (with_reducible refine BlkP.Blk.drewN ?_ _) | (with_reducible refine BlkP.Blk.setAt (us := ?_) (by first | omega | (simp; done) | (simp; omega)) rfl ?_ ?_) | (with_reducible refine BlkP.Blk.otherAt ?_ (by first | omega | (simp; done) | (simp; omega))) | (with_reducible refine BlkP.Blk.newA' (by first | omega | (simp; done) | (simp; omega)) rfl) | (with_reducible refine BlkP.Blk.alloc ?_ _) | (exact rfl))), by (repeat' (first | (with_reducible exact hN) | (with_reducible refine BlkP.Blk.drew ?_) | (with_reducible refine BlkP.Blk.drewN ?_ _) | (with_reducible refine BlkP.Blk.setAt (us := ?_) (by first | omega | (simp; done) | (simp; omega)) rfl ?_ ?_) | (with_reducible refine BlkP.Blk.otherAt ?_ (by first | omega | (simp; done) | (simp; omega))) | (with_reducible refine BlkP.Blk.newA' (by first | omega | (simp; done) | (simp; omega)) rfl) | (with_reducible refine BlkP.Blk.alloc ?_ _) | (exact rfl)))⟩ ?_
                    clear hHeld hA hN
                    rintro v5 ⟨hHeld, hA, hN⟩
                    have hSv5 := hHeld.size
                    refine wpAnyH_ready (rs := [10]) (by kernel_rfl) (by simp) ?_
                    refine AllReadyH.cons (o := ⟨none, _, _, _, _, _⟩) rfl (fun K hK => ?_) ?_
                    · have e0 := hN.cell (i := 0) (v := .int .i64 0) rfl
                      have f0 := hN.frozen 0
                      have e1 := hN.cell (i := 1) (v := .int .i64 0) rfl
                      have f1 := hN.frozen 1
                      have e2 := hN.cell (i := 2) (v := .int .i64 0) rfl
                      have f2 := hN.frozen 2
                      have lA := hA.lt
                      have lN := hN.lt
                      go_simp
                      refine hK.out _ _ (by (repeat' (first | (with_reducible exact Below.refl _ _) | (with_reducible refine Below.setCell ?_ (by (first | omega | (simp; done) | (simp; omega))) _) | (with_reducible refine Below.alloc ?_ (by (first | omega | (simp; done) | (simp; omega))) _) | (with_reducible refine Below.drew ?_) | (with_reducible refine below_drewN ?_ _) | (with_reducible refine Below.trans ?_ (Below.mono hHeld (by (first | omega | (simp; done) | (simp; omega)))))))) (fun hHeld => ?_)
                      clear hK K
                      clear e0 e1 e2 f0 f1 f2
                      refine any_named (fun W => Below wr.heap.size wr W ∧ Blk W v2.heap.size 24 [.int .i64 ((posA p d (mAt d i)).x), .int .i64 ((posA p d (mAt d i)).y), .int .i64 ((posA p d (mAt d i)).z)] ∧ Blk W v0.heap.size 24 [.int .i64 ((posA p d (mAt d (i + 1))).x), .int .i64 ((posA p d (mAt d (i + 1))).y), .int .i64 ((posA p d (mAt d (i + 1))).z)]) ⟨hHeld, by (repeat' (first | (with_reducible exact hA) | (with_reducible refine BlkP.Blk.drew ?_) | (with_reducible refine BlkP.Blk.drewN ?_ _) | (with_reducible refine BlkP.Blk.setAt (us := ?_) (by first | omega | (simp; done) | (simp; omega)) rfl ?_ ?_) | (with_reducible refine BlkP.Blk.otherAt ?_ (by first | omega | (simp; done) | (simp; omega))) | (with_reducible refine BlkP.Blk.newA' (by first | omega | (simp; done) | (simp; omega)) rfl) | (with_reducible refine BlkP.Blk.alloc ?_ _) | (exact rfl))), by (repeat' (first | (with_reducible exact hN) | (with_reducible refine BlkP.Blk.drew ?_) | (with_reducible refine BlkP.Blk.drewN ?_ _) | (with_reducible refine BlkP.Blk.setAt (us := ?_) (by first | omega | (simp; done) | (simp; omega)) rfl ?_ ?_) | (with_reducible refine BlkP.Blk.otherAt ?_ (by first | omega | (simp; done) | (simp; omega))) | (with_reducible refine BlkP.Blk.newA' (by first | omega | (simp; done) | (simp; omega)) rfl) | (with_reducible refine BlkP.Blk.alloc ?_ _) | (exact rfl)))⟩ ?_
                      clear hHeld hA hN
                      rintro v6 ⟨hHeld, hA, hN⟩
                      have hSv6 := hHeld.size
                      refine wpAnyH_done (by kernel_rfl) ?_ _
                      refine NoPanic.normal ?_
                      go_wp2_with fail
                      go_meet
                      case rel =>
                        exact ⟨v2.heap.size, v0.heap.size, rfl, rfl, by omega, by omega, by omega, hA, hN, hHeld⟩
                    exact AllReadyH.nil
                  exact AllReadyH.nil
                exact AllReadyH.nil
              exact AllReadyH.nil
            refine AllReadyH.cons (o := ⟨some 11, _, _, _, _, _⟩) rfl (fun K hK => ?_) ?_
            · go_simp
              refine hK.out _ _ (hHeld.alloc hHeld.size _) (fun hHeld => ?_)
              clear hK K
              have lN := hN.lt
              refine any_named (fun W => Below wr.heap.size wr W ∧ Blk W v1.heap.size 24 [.int .i64 0, .int .i64 0, .int .i64 0] ∧ Blk W v0.heap.size 24 [.int .i64 0, .int .i64 0, .int .i64 0]) ⟨hHeld, by (repeat' (first | (with_reducible refine BlkP.Blk.drew ?_) | (with_reducible refine BlkP.Blk.drewN ?_ _) | (with_reducible refine BlkP.Blk.setAt (us := ?_) (by first | omega | (simp; done) | (simp; omega)) rfl ?_ ?_) | (with_reducible refine BlkP.Blk.otherAt ?_ (by first | omega | (simp; done) | (simp; omega))) | (with_reducible refine BlkP.Blk.newA' (by first | omega | (simp; done) | (simp; omega)) rfl) | (with_reducible refine BlkP.Blk.alloc ?_ _) | (exact rfl))), by (repeat' (first | (with_reducible exact hN) | (with_reducible refine BlkP.Blk.drew ?_) | (with_reducible refine BlkP.Blk.drewN ?_ _) | (with_reducible refine BlkP.Blk.setAt (us := ?_) (by first | omega | (simp; done) | (simp; omega)) rfl ?_ ?_) | (with_reducible refine BlkP.Blk.otherAt ?_ (by first | omega | (simp; done) | (simp; omega))) | (with_reducible refine BlkP.Blk.newA' (by first | omega | (simp; done) | (simp; omega)) rfl) | (with_reducible refine BlkP.Blk.alloc ?_ _) | (exact rfl)))⟩ ?_
              clear hHeld hN
              rintro v2 ⟨hHeld, hA, hN⟩
              have hSv2 := hHeld.size
              refine wpAnyH_ready (rs := [1]) (by kernel_rfl) (by simp) ?_
              refine AllReadyH.cons (o := ⟨some 43, _, _, _, _, _⟩) rfl (fun K hK => ?_) ?_
              · go_simp
                refine (numbers_c (q := (posA p d (mAt d i))) _).mono ?_
                rintro e wf ⟨rfl, hbf⟩
                go_wp2_with fail
                refine hK.out _ _ (below_t hHeld hbf) (fun hHeld => ?_)
                clear hK K
                refine any_named (fun W => Below wr.heap.size wr W ∧ Blk W v1.heap.size 24 [.int .i64 0, .int .i64 0, .int .i64 0] ∧ Blk W v0.heap.size 24 [.int .i64 0, .int .i64 0, .int .i64 0]) ⟨hHeld, hA.below hbf, hN.below hbf⟩ ?_
                clear hHeld hA hN
                rintro v3 ⟨hHeld, hA, hN⟩
                have hSv3 := hHeld.size
                refine wpAnyH_ready (rs := [6]) (by kernel_rfl) (by simp) ?_
                refine AllReadyH.cons (o := ⟨some 48, _, _, _, _, _⟩) rfl (fun K hK => ?_) ?_
                · go_simp
                  refine (numbers_c (q := (posA p d (mAt d (i + 1)))) _).mono ?_
                  rintro e wf ⟨rfl, hbf⟩
                  go_wp2_with fail
                  refine hK.out _ _ (below_t hHeld hbf) (fun hHeld => ?_)
                  clear hK K
                  refine any_named (fun W => Below wr.heap.size wr W ∧ Blk W v1.heap.size 24 [.int .i64 0, .int .i64 0, .int .i64 0] ∧ Blk W v0.heap.size 24 [.int .i64 0, .int .i64 0, .int .i64 0]) ⟨hHeld, hA.below hbf, hN.below hbf⟩ ?_
                  clear hHeld hA hN
                  rintro v4 ⟨hHeld, hA, hN⟩
                  have hSv4 := hHeld.size
                  refine wpAnyH_ready (rs := [9]) (by kernel_rfl) (by simp) ?_
                  refine AllReadyH.cons (o := ⟨none, _, _, _, _, _⟩) rfl (fun K hK => ?_) ?_
                  · have e0 := hA.cell (i := 0) (v := .int .i64 0) rfl
                    have f0 := hA.frozen 0
                    have e1 := hA.cell (i := 1) (v := .int .i64 0) rfl
                    have f1 := hA.frozen 1
                    have e2 := hA.cell (i := 2) (v := .int .i64 0) rfl
                    have f2 := hA.frozen 2
                    have lA := hA.lt
                    have lN := hN.lt
                    go_simp
                    refine hK.out _ _ (by (repeat' (first | (with_reducible exact Below.refl _ _) | (with_reducible refine Below.setCell ?_ (by (first | omega | (simp; done) | (simp; omega))) _) | (with_reducible refine Below.alloc ?_ (by (first | omega | (simp; done) | (simp; omega))) _) | (with_reducible refine Below.drew ?_) | (with_reducible refine below_drewN ?_ _) | (with_reducible refine Below.trans ?_ (Below.mono hHeld (by (first | omega | (simp; done) | (simp; omega)))))))) (fun hHeld => ?_)
                    clear hK K
                    clear e0 e1 e2 f0 f1 f2
                    refine any_named (fun W => Below wr.heap.size wr W ∧ Blk W v1.heap.size 24 [.int .i64 ((posA p d (mAt d i)).x), .int .i64 ((posA p d (mAt d i)).y), .int .i64 ((posA p d (mAt d i)).z)] ∧ Blk W v0.heap.size 24 [.int .i64 0, .int .i64 0, .int .i64 0]) ⟨hHeld, by (repeat' (first | (with_reducible exact hA) | (with_reducible refine BlkP.Blk.drew ?_) | (with_reducible refine BlkP.Blk.drewN ?_ _) | (with_reducible refine BlkP.Blk.setAt (us := ?_) (by first | omega | (simp; done) | (simp; omega)) rfl ?_ ?_) | (with_reducible refine BlkP.Blk.otherAt ?_ (by first | omega | (simp; done) | (simp; omega))) | (with_reducible refine BlkP.Blk.newA' (by first | omega | (simp; done) | (simp; omega)) rfl) | (with_reducible refine BlkP.Blk.alloc ?_ _) | (exact rfl))), by (repeat' (first | (with_reducible exact hN) | (with_reducible refine BlkP.Blk.drew ?_) | (with_reducible refine BlkP.Blk.drewN ?_ _) | (with_reducible refine BlkP.Blk.setAt (us := ?_) (by first | omega | (simp; done) | (simp; omega)) rfl ?_ ?_) | (with_reducible refine BlkP.Blk.otherAt ?_ (by first | omega | (simp; done) | (simp; omega))) | (with_reducible refine BlkP.Blk.newA' (by first | omega | (simp; done) | (simp; omega)) rfl) | (with_reducible refine BlkP.Blk.alloc ?_ _) | (exact rfl)))⟩ ?_
                    clear hHeld hA hN
                    rintro v5 ⟨hHeld, hA, hN⟩
                    have hSv5 := hHeld.size
                    refine wpAnyH_ready (rs := [10]) (by kernel_rfl) (by simp) ?_
                    refine AllReadyH.cons (o := ⟨none, _, _, _, _, _⟩) rfl (fun K hK => ?_) ?_
                    · have e0 := hN.cell (i := 0) (v := .int .i64 0) rfl
                      have f0 := hN.frozen 0
                      have e1 := hN.cell (i := 1) (v := .int .i64 0) rfl
                      have f1 := hN.frozen 1
                      have e2 := hN.cell (i := 2) (v := .int .i64 0) rfl
                      have f2 := hN.frozen 2
                      have lA := hA.lt
                      have lN := hN.lt
                      go_simp
                      refine hK.out _ _ (by (repeat' (first | (with_reducible exact Below.refl _ _) | (with_reducible refine Below.setCell ?_ (by (first | omega | (simp; done) | (simp; omega))) _) | (with_reducible refine Below.alloc ?_ (by (first | omega | (simp; done) | (simp; omega))) _) | (with_reducible refine Below.drew ?_) | (with_reducible refine below_drewN ?_ _) | (with_reducible refine Below.trans ?_ (Below.mono hHeld (by (first | omega | (simp; done) | (simp; omega)))))))) (fun hHeld => ?_)
                      clear hK K
                      clear e0 e1 e2 f0 f1 f2
                      refine any_named (fun W => Below wr.heap.size wr W ∧ Blk W v1.heap.size 24 [.int .i64 ((posA p d (mAt d i)).x), .int .i64 ((posA p d (mAt d i)).y), .int .i64 ((posA p d (mAt d i)).z)] ∧ Blk W v0.heap.size 24 [.int .i64 ((posA p d (mAt d (i + 1))).x), .int .i64 ((posA p d (mAt d (i + 1))).y), .int .i64 ((posA p d (mAt d (i + 1))).z)]) ⟨hHeld, by (repeat' (first | (with_reducible exact hA) | (with_reducible refine BlkP.Blk.drew ?_) | (with_reducible refine BlkP.Blk.drewN ?_ _) | (with_reducible refine BlkP.Blk.setAt (us := ?_) (by first | omega | (simp; done) | (simp; omega)) rfl ?_ ?_) | (with_reducible refine BlkP.Blk.otherAt ?_ (by first | omega | (simp; done) | (simp; omega))) | (with_reducible refine BlkP.Blk.newA' (by first | omega | (simp; done) | (simp; omega)) rfl) | (with_reducible refine BlkP.Blk.alloc ?_ _) | (exact rfl))), by (repeat' (first | (with_reducible exact hN) | (with_reducible refine BlkP.Blk.drew ?_) | (with_reducible refine BlkP.Blk.drewN ?_ _) | (with_reducible refine BlkP.Blk.setAt (us := ?_) (by first | omega | (simp; done) | (simp; omega)) rfl ?_ ?_) | (with_reducible refine BlkP.Blk.otherAt ?_ (by first | omega | (simp; done) | (simp; omega))) | (with_reducible refine BlkP.Blk.newA' (by first | omega | (simp; done) | (simp; omega)) rfl) | (with_reducible refine BlkP.Blk.alloc ?_ _) | (exact rfl)))⟩ ?_
                      clear hHeld hA hN
                      rintro v6 ⟨hHeld, hA, hN⟩
                      have hSv6 := hHeld.size
                      refine wpAnyH_done (by kernel_rfl) ?_ _
                      refine NoPanic.normal ?_
                      go_wp2_with fail
                      go_meet
                      case rel =>
                        exact ⟨v1.heap.size, v0.heap.size, rfl, rfl, by omega, by omega, by omega, hA, hN, hHeld⟩
                    exact AllReadyH.nil
                  exact AllReadyH.nil
                exact AllReadyH.nil
              exact AllReadyH.nil
            exact AllReadyH.nil
          exact AllReadyH.nil
        case rest =>
          obtain ⟨bA, bB, rfl, rfl, hnAB, sA, sB, hA, hB, hbc⟩ := hcut
          have HA := Lib.hid hA
          have HB := Lib.hid hB
          have HKC := Lib.hid (HKW.out.below hbc)
          have HLC := Lib.hid (HLW.out.below hbc)
          have HBC := Lib.hid (HBWW.out.trans (hbc.mono HBWW.out.size))
          clear hA hB hbc l0 l1 l2 r0 r1 r2 zzg zzL
          obtain ⟨x, hx3, hdx, hxx, hxo⟩ := one_axis (p := p) i (dir_some HDD.out)
          have HDX := Lib.hid hdx
          have HXX := Lib.hid hxx
          have HXO := Lib.hid hxo
          clear hdx hxx hxo
          have HFAR : Hid (∀ k, -2000000 ≤ numK (posA p d (mAt d i)) k ∧ numK (posA p d (mAt d i)) k ≤ 2000000) := Lib.hid (fun k => by
            have hm : mayT (posA p d (mAt d i)) = true := by
              cases i with
              | zero =>
                rw [show mAt d 0 = ⟨0, 0, 0⟩ from rfl, pos_zero]
                exact HP0.out
              | succ j =>
                obtain ⟨q2, hq2⟩ := lst_get (l := l) (k := j) (by rw [HNN.out]; omega)
                rw [HAN.out] at hq2
                have := way_at hq2
                rw [this.1] at this
                exact this.2
            obtain ⟨b1, b2, b3, b4, b5, b6⟩ := mayT_true hm
            unfold numK
            split
            · omega
            · split <;> omega)
          go_wp2_with fail
          go_loopg [13, 14] 3 (fun g2 v13 v14 wy => ∃ k : Nat, k + g2 = 3 ∧ v14 = .int .i64 (k : Int) ∧ v13 = .int .i64 (stK x k) ∧ Below wc.heap.size wc wy)
          case atStart => exact ⟨0, by omega, rfl, by rw [stK, if_neg (by omega)], Below.refl _ _⟩
          case round =>
            obtain ⟨k, hkg, rfl, rfl, hbk⟩ := hrel
            cases gk with
            | zero =>
              obtain rfl : k = 3 := by omega
              have hst : stK x 3 = 1 := by rw [stK, if_pos hx3]
              rw [hst]
              have HKY := Lib.hid (HKC.out.below hbk)
              have HLY := Lib.hid (HLC.out.below hbk)
              have HBY := Lib.hid (HBC.out.trans (hbk.mono HBC.out.size))
              have hbks := hbk.size
              have HTOU := Lib.hid (tou_at (p := p) (i := i + 1) HP0.out HDD.out (by omega))
              clear hst hbk
              obtain ⟨W2, hW2⟩ : ∃ W2 : World, wr = W2 := ⟨_, rfl⟩
              subst hW2
              obtain ⟨r0, r1, r2⟩ := HR0.out _ HKY.out
              have p0 := (HKY.out.blk HPB.out (by omega)).cell (i := 0) (v := .int .i64 p.x) rfl
              have p1 := (HKY.out.blk HPB.out (by omega)).cell (i := 1) (v := .int .i64 p.y) rfl
              have p2 := (HKY.out.blk HPB.out (by omega)).cell (i := 2) (v := .int .i64 p.z) rfl
              have zzp := (HKY.out.blk HPB.out (by omega)).lt
              have e0 := (HKY.out.blk HDB.out (by omega)).cell (i := 0) (v := .int .i64 d.x) rfl
              have e1 := (HKY.out.blk HDB.out (by omega)).cell (i := 1) (v := .int .i64 d.y) rfl
              have e2 := (HKY.out.blk HDB.out (by omega)).cell (i := 2) (v := .int .i64 d.z) rfl
              have zzd := (HKY.out.blk HDB.out (by omega)).lt
              have zzg : g < wr.heap.size := Nat.lt_of_lt_of_le hgW HKY.out.1
              go_wp2_with fail
              refine wp_region_noPanic ?_
              refine wp_region_held_drew (S := fun W => Below wr.heap.size wr W) (by kernel_rfl) ((Below.refl _ wr).drew) (fun hHeld => ?_)
              refine wpAnyH_take (i := 0) (oi := ⟨some 90, _, _, _, _, _⟩) (v := .int .i64 1) rfl (by kernel_rfl) (by kernel_rfl) (by kernel_rfl) (fun _ _ _ h => h) (Or.inl ⟨by rfl, fun W hSW => by go_simp⟩) hHeld ?_
              simp only [Act.put, List.setIfInBounds_toArray, List.set_cons_zero, List.set_cons_succ]
              refine wpAnyH_take (i := 1) (oi := ⟨some 91, _, _, _, _, _⟩) (v := .bool false) rfl (by kernel_rfl) (by kernel_rfl) (by kernel_rfl) (fun _ _ _ h => h) (Or.inl ⟨by rfl, fun W hSW => by go_simp⟩) hHeld ?_
              simp only [Act.put, List.setIfInBounds_toArray, List.set_cons_zero, List.set_cons_succ]
              refine wpAnyH_take (i := 2) (oi := ⟨some 92, _, _, _, _, _⟩) (v := .bool false) rfl (by kernel_rfl) (by kernel_rfl) (by kernel_rfl) (fun _ _ _ h => h) (Or.inl ⟨by rfl, fun W hSW => by go_simp⟩) hHeld ?_
              simp only [Act.put, List.setIfInBounds_toArray, List.set_cons_zero, List.set_cons_succ]
              refine wpAnyH_take (i := 3) (oi := ⟨some 93, _, _, _, _, _⟩) (v := .agg #[.int .i64 p.x, .int .i64 p.y, .int .i64 p.z]) rfl (by kernel_rfl) (by kernel_rfl) (by kernel_rfl) (fun _ _ _ h => h) (Or.inl ⟨by rfl, fun W hSW => by have a0 := (hSW.cell (p := ⟨w.heap.size, 0, none⟩) zzp).trans p0; have a1 := (hSW.cell (p := ⟨w.heap.size, 1, none⟩) zzp).trans p1; have a2 := (hSW.cell (p := ⟨w.heap.size, 2, none⟩) zzp).trans p2; go_simp⟩) hHeld ?_
              simp only [Act.put, List.setIfInBounds_toArray, List.set_cons_zero, List.set_cons_succ]
              refine wpAnyH_take (i := 4) (oi := ⟨some 94, _, _, _, _, _⟩) (v := .slice (some ⟨g, 0, none⟩) nn ca) rfl (by kernel_rfl) (by kernel_rfl) (by kernel_rfl) (fun _ _ _ h => h) (Or.inl ⟨by rfl, fun W hSW => by go_simp⟩) hHeld ?_
              simp only [Act.put, List.setIfInBounds_toArray, List.set_cons_zero, List.set_cons_succ]
              refine wpAnyH_take (i := 5) (oi := ⟨some 95, _, _, _, _, _⟩) (v := .int .i64 (i : Int)) rfl (by kernel_rfl) (by kernel_rfl) (by kernel_rfl) (fun _ _ _ h => h) (Or.inl ⟨by rfl, fun W hSW => by go_simp⟩) hHeld ?_
              simp only [Act.put, List.setIfInBounds_toArray, List.set_cons_zero, List.set_cons_succ]
              refine wpAnyH_take (i := 6) (oi := ⟨some 96, _, _, _, _, _⟩) (v := .pointer (some ⟨g, i * 3, none⟩)) rfl (by kernel_rfl) (by kernel_rfl) (by kernel_rfl) (fun _ _ _ h => h) (Or.inl ⟨by rfl, fun W hSW => by go_simp⟩) hHeld ?_
              simp only [Act.put, List.setIfInBounds_toArray, List.set_cons_zero, List.set_cons_succ]
              refine wpAnyH_take (i := 7) (oi := ⟨some 97, _, _, _, _, _⟩) (v := .agg #[.int .i64 ((posA p d (mAt d (i + 1))).x), .int .i64 ((posA p d (mAt d (i + 1))).y), .int .i64 ((posA p d (mAt d (i + 1))).z)]) rfl (by kernel_rfl) (by kernel_rfl) (by kernel_rfl) (fun _ _ _ h => h) (Or.inl ⟨by rfl, fun W hSW => by have a0 := (hSW.cell (p := ⟨g, i * 3, none⟩) zzg).trans r0; have a1 := (hSW.cell (p := ⟨g, i * 3 + 1, none⟩) zzg).trans r1; have a2 := (hSW.cell (p := ⟨g, i * 3 + 2, none⟩) zzg).trans r2; go_simp⟩) hHeld ?_
              simp only [Act.put, List.setIfInBounds_toArray, List.set_cons_zero, List.set_cons_succ]
              refine wpAnyH_take (i := 8) (oi := ⟨some 98, _, _, _, _, _⟩) (v := .agg #[.int .i64 d.x, .int .i64 d.y, .int .i64 d.z]) rfl (by kernel_rfl) (by kernel_rfl) (by kernel_rfl) (fun _ _ _ h => h) (Or.inl ⟨by rfl, fun W hSW => by have a0 := (hSW.cell (p := ⟨w.heap.size + 1, 0, none⟩) zzd).trans e0; have a1 := (hSW.cell (p := ⟨w.heap.size + 1, 1, none⟩) zzd).trans e1; have a2 := (hSW.cell (p := ⟨w.heap.size + 1, 2, none⟩) zzd).trans e2; go_simp⟩) hHeld ?_
              simp only [Act.put, List.setIfInBounds_toArray, List.set_cons_zero, List.set_cons_succ]
              refine wpAnyH_ready (rs := [9]) (by kernel_rfl) (by simp) ?_
              refine AllReadyH.cons (o := ⟨some 99, _, _, _, _, _⟩) rfl (fun K hK => ?_) AllReadyH.nil
              go_simp
              refine (touches_yes HTOU.out _).mono ?_
              rintro e w9 ⟨rfl, hb9⟩
              go_wp2_with fail
              refine hK.out _ _ (below_t hHeld hb9) (fun hHeld => ?_)
              clear hK K hb9
              refine wpAnyH_ready (rs := [10]) (by kernel_rfl) (by simp) ?_
              refine AllReadyH.cons (o := ⟨some 100, _, _, _, _, _⟩) rfl (fun K hK => ?_) AllReadyH.nil
              go_simp
              refine hK.out _ _ hHeld (fun hHeld => ?_)
              clear hK K
              refine wpAnyH_ready (rs := [11]) (by kernel_rfl) (by simp) ?_
              refine AllReadyH.cons (o := ⟨some 101, _, _, _, _, _⟩) rfl (fun K hK => ?_) AllReadyH.nil
              go_simp
              refine hK.out _ _ hHeld (fun hHeld => ?_)
              clear hK K
              refine wpAnyH_done (by kernel_rfl) ?_ _
              refine NoPanic.normal ?_
              have hKV := HKY.out.below hHeld
              have hLV := HLY.out.below hHeld
              obtain ⟨s0, s1, s2⟩ := HR0.out _ hKV
              have y0 := hLV.cell (i := 0) (v := .int .i64 ((posA p d (mAt d i)).x)) rfl
              have y1 := hLV.cell (i := 1) (v := .int .i64 ((posA p d (mAt d i)).y)) rfl
              have y2 := hLV.cell (i := 2) (v := .int .i64 ((posA p d (mAt d i)).z)) rfl
              have f0 := hLV.frozen 0
              have f1 := hLV.frozen 1
              have f2 := hLV.frozen 2
              have HKV := Lib.hid hKV
              have HLV := Lib.hid hLV
              have HBV := Lib.hid (HBY.out.trans (hHeld.mono HBY.out.size))
              have hsV := hHeld.size
              clear hKV hLV hHeld r0 r1 r2 p0 p1 p2 e0 e1 e2 zzp zzd zzg
              go_wp2_with fail
              go_roundg gg
              case measure => omega
              case rel =>
                have hLV := HLV.out
                have hBV := HBV.out
                exact ⟨i + 1, by omega, by go_num, by (repeat' (first | (with_reducible exact hLV) | (with_reducible refine BlkP.Blk.drew ?_) | (with_reducible refine BlkP.Blk.drewN ?_ _) | (with_reducible refine BlkP.Blk.setAt (us := ?_) (by first | omega | (simp; done) | (simp; omega)) rfl ?_ ?_) | (with_reducible refine BlkP.Blk.otherAt ?_ (by first | omega | (simp; done) | (simp; omega))) | (with_reducible refine BlkP.Blk.newA' (by first | omega | (simp; done) | (simp; omega)) rfl) | (with_reducible refine BlkP.Blk.alloc ?_ _) | (exact rfl))), ((HKV.out.set rfl _).set rfl _).set rfl _, by (repeat' (first | (with_reducible exact Below.refl _ _) | (with_reducible refine Below.setCell ?_ (by (first | omega | (simp; done) | (simp; omega))) _) | (with_reducible refine Below.alloc ?_ (by (first | omega | (simp; done) | (simp; omega))) _) | (with_reducible refine Below.drew ?_) | (with_reducible refine below_drewN ?_ _) | (with_reducible refine Below.trans ?_ (Below.mono hBV (by (first | omega | (simp; done) | (simp; omega))))))), by (have h1 := HKV.out.1; simp; omega)⟩
            | succ g2 =>
              have hk : k < 3 := by omega
              have hkI : (k : Int) < 3 := by omega
              have hk0 : (0 : Int) ≤ (k : Int) := by omega
              have hkt : decide ((k : Int) < 3) = true := decide_eq_true hkI
              have cA := numK_cell (HA.out.below hbk) hk
              have cB := numK_cell (HB.out.below hbk) hk
              have cD := numK_cell ((HKC.out.below hbk).blk HDB.out (by omega)) hk
              have hfar := HFAR.out k
              have hst0 : stK x k = 0 ∨ stK x k = 1 := by
                unfold stK
                split
                · exact .inr rfl
                · exact .inl rfl
              have HBK := Lib.hid hbk
              clear hbk
              by_cases hkx : k = x
              · subst hkx
                rw [HXX.out] at cB
                have hs0 := (stK_self k).1
                have HS1 := Lib.hid (stK_self k).2
                rw [hs0]
                obtain ⟨A1, hA1⟩ : ∃ A1, numK (posA p d (mAt d i)) k = A1 := ⟨_, rfl⟩
                obtain ⟨D, hD⟩ : ∃ D, numK d k = D := ⟨_, rfl⟩
                have hD0 : D ≠ 0 := by rw [← hD]; exact HDX.out
                rw [hA1] at cA cB hfar
                rw [hD] at cB cD
                clear hA1 hD hs0 hst0
                by_cases hneg : D < 0
                · have hsg : sgn D = -1 := by simp [sgn, hneg]
                  rw [hsg] at cB
                  have x1 : IntKind.i64.wrap (A1 + -1 - A1) = -1 := by rw [IntWalk.i64_in _ (by omega)]; omega
                  have x2 : ¬ 0 ≤ D := by omega
                  clear hsg hD0
                  go_wp2_with fail
                  go_quiet (fail)
                  clear x1 cA cB
                  go_wp2_with fail
                  go_roundg g2
                  case measure => omega
                  case rel => exact ⟨k + 1, by omega, by go_num, by rw [HS1.out], by have := HBK.out; (repeat' (first | (with_reducible exact Below.refl _ _) | (with_reducible refine Below.setCell ?_ (by (first | omega | (simp; done) | (simp; omega))) _) | (with_reducible refine Below.alloc ?_ (by (first | omega | (simp; done) | (simp; omega))) _) | (with_reducible refine Below.drew ?_) | (with_reducible refine below_drewN ?_ _) | (with_reducible refine Below.trans ?_ (Below.mono this (by (first | omega | (simp; done) | (simp; omega)))))))⟩
                · have hsg : sgn D = 1 := by
                    unfold sgn
                    rw [if_neg hneg, if_neg hD0]
                  rw [hsg] at cB
                  have x1 : IntKind.i64.wrap (A1 + 1 - A1) = 1 := by rw [IntWalk.i64_in _ (by omega)]; omega
                  have x2 : ¬ D ≤ 0 := by omega
                  clear hsg hD0
                  go_wp2_with fail
                  go_quiet (fail)
                  clear x1 cA cB
                  go_wp2_with fail
                  go_roundg g2
                  case measure => omega
                  case rel => exact ⟨k + 1, by omega, by go_num, by rw [HS1.out], by have := HBK.out; (repeat' (first | (with_reducible exact Below.refl _ _) | (with_reducible refine Below.setCell ?_ (by (first | omega | (simp; done) | (simp; omega))) _) | (with_reducible refine Below.alloc ?_ (by (first | omega | (simp; done) | (simp; omega))) _) | (with_reducible refine Below.drew ?_) | (with_reducible refine below_drewN ?_ _) | (with_reducible refine Below.trans ?_ (Below.mono this (by (first | omega | (simp; done) | (simp; omega)))))))⟩
              · rw [HXO.out k hk hkx] at cB
                obtain ⟨A1, hA1⟩ : ∃ A1, numK (posA p d (mAt d i)) k = A1 := ⟨_, rfl⟩
                rw [hA1] at cA cB hfar
                have HSN := Lib.hid (stK_no hkx)
                have x1 : IntKind.i64.wrap (A1 - A1) = 0 := by rw [IntWalk.i64_in _ (by omega)]; omega
                clear hA1 hst0
                go_wp2_with fail
                go_quiet (fail)
                clear x1 cA cB
                go_wp2_with fail
                go_roundg g2
                case measure => omega
                case rel => exact ⟨k + 1, by omega, by go_num, by rw [HSN.out], by have := HBK.out; (repeat' (first | (with_reducible exact Below.refl _ _) | (with_reducible refine Below.setCell ?_ (by (first | omega | (simp; done) | (simp; omega))) _) | (with_reducible refine Below.alloc ?_ (by (first | omega | (simp; done) | (simp; omega))) _) | (with_reducible refine Below.drew ?_) | (with_reducible refine below_drewN ?_ _) | (with_reducible refine Below.trans ?_ (Below.mono this (by (first | omega | (simp; done) | (simp; omega)))))))⟩
  · have her0 : er ≠ 0 := fun e => he0 (HE.out.trans e)
    have hnil : l = [] := HL.out.symm.trans hans
    subst hnil
    obtain ⟨A, ca, rfl, hca, hcm, hne⟩ := HR.out
    have e1 : (er == 0) = false := beq_eq_false_iff_ne.2 her0
    have e2 : (er != 0) = true := by rw [bne, e1]; rfl
    clear he0 hans her0 hca hcm hne HR HCS
    go_wp2_with fail
    go_at_call 10
    refine (awake_c (HT.out.below HB1.out)).mono ?_
    rintro e w2 ⟨rfl, hb2⟩
    have HB2 := Lib.hid (HB1.out.trans (hb2.mono HB1.out.size))
    clear hb2
    go_wp2_with fail
    go_ret
    exact ⟨rfl, HB2.out⟩
end RayP
end Go.Proofs.YtcmndfjoaoinjaaDoor
