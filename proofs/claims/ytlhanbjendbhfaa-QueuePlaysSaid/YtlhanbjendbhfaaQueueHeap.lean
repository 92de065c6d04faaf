/-
  heap.Init, Push, Pop, Fix, Remove.
-/
import Derived.Test.YtlhanbjendbhfaaQueueDown
namespace Go.Proofs.Ytlhanbjendbhfaa
open Go.RowKit
set_option linter.unusedVariables false
set_option linter.unusedSimpArgs false
namespace QueW
open BlkP RowG FrS PushG HeapP ChunkW

/-- A heap of just these ticks. -/
def Hp (w : World) (B pb : Nat) (v : Value) (L : List Tick) : Prop := ∃ l W, Pd w B pb v l W ∧ Ws l W L ∧ Heap tl (gt l) l.length
/-- Down from where it may be wrong either way. -/
def JB (i0 m : Nat) (f : Nat → Tick) (q : Nat) : Prop := (q = i0 ∧ Both tl f m i0) ∨ (i0 < q ∧ Down tl f m q)
theorem jb_steps (i0 m : Nat) : Steps m (JB i0 m) := by
  intro f q j h h0 hj hp hmin hlt
  have hpl := par_lt h0
  rcases h with ⟨rfl, h⟩ | ⟨h1, h⟩
  · exact .inr ⟨by omega, down_both tl_ord h h0 hj hp hmin hlt⟩
  · exact .inr ⟨by omega, down_step tl_ord h h0 hj hp hmin hlt⟩
theorem jb_more {i0 m q : Nat} {f : Nat → Tick} (h : JB i0 m f q) (hk : Kids m q f) (hq : i0 < q) : Heap tl f m := by
  rcases h with ⟨rfl, _⟩ | ⟨_, h⟩
  · omega
  · exact down_stop h hk
theorem jb_same {i0 m q : Nat} {f : Nat → Tick} (h : JB i0 m f q) (hk : Kids m q f) (hq : q = i0) : Up tl f m i0 := by
  rcases h with ⟨rfl, h⟩ | ⟨h1, _⟩
  · exact both_stop h hk
  · omega
theorem jf_steps (i0 m : Nat) : Steps m (fun f q => DownF tl f m i0 q) := fun f q j h h0 hj hp hmin hlt => downF_step tl_ord h h0 hj hp hmin hlt
theorem gt_take {l : List Tick} {m k : Nat} (h : k < m) : gt (l.take m) k = gt l k := by
  unfold gt
  simp [List.getD, List.getElem?_take, h]
theorem heap_take {l : List Tick} {m : Nat} (h : Heap tl (gt l) m) (hm : m ≤ l.length) : Heap tl (gt (l.take m)) (l.take m).length := by
  have e : (l.take m).length = m := by simp; omega
  rw [e]
  intro k h0 hk
  have := par_lt h0
  rw [gt_take hk, gt_take (by omega)]
  exact h k h0 hk
theorem ws_at {l L : List Tick} {W : Nat → Nat} (h : Ws l W L) {k : Nat} (hk : k < l.length) : ∃ (a : Nat) (d : Int), gt l k = ((a : Int), d) ∧ l[k]? = some ((a : Int), d) ∧ a < 4096 := by
  have g0 := gt_some hk
  have i0 := h.ix hk
  obtain ⟨⟨t, d⟩, ht⟩ : ∃ t, gt l k = t := ⟨_, rfl⟩
  rw [ht] at g0 i0
  obtain ⟨a, rfl⟩ : ∃ a : Nat, t = (a : Int) := ⟨t.toNat, by have := i0.1; omega⟩
  exact ⟨a, d, ht, g0, by have := i0.2; omega⟩
theorem own_some {w : World} {B : Nat} {v : Value} {l : List Tick} (h : RowG.Own encT TT w B v l) (h0 : 0 < l.length) : ∃ g c, v = .slice (some ⟨g, 0, none⟩) l.length c := by
  obtain ⟨A, c, rfl, _, _, hg⟩ := h.form rfl
  obtain ⟨g, rfl, _⟩ := hg h0
  exact ⟨g, c, rfl⟩
set_option maxRecDepth 100000 in
set_option maxHeartbeats 16000000 in
theorem Init_c {w : World} {pb B : Nat} {v : Value} {l L : List Tick} {W : Nat → Nat} (h : Pd w B pb v l W) (hw : Ws l W L) :
    Calls Try.prog 31 #[.iface 55 (.pointer (some ⟨pb, 0, none⟩))] w fun e w' => e = .returned (.tuple #[]) ∧ Hp w' B pb v L ∧ Fr (Sp pb v) w w' := by
  obtain ⟨n, hn⟩ : ∃ n, l.length = n := ⟨_, rfl⟩
  have hn5 : n ≤ 4096 := by rw [← hn]; exact hw.few
  obtain ⟨A, c, rfl, _, _, hA⟩ := own_len h.row hn
  have HA := Lib.hid hA
  clear hA
  have hml := m_len h.cell0
  have HH := Lib.hid h
  have HW := Lib.hid hw
  have HN := Lib.hid hn
  obtain ⟨n2, hn2⟩ : ∃ n2, n / 2 = n2 := ⟨_, rfl⟩
  have hn2I : (n : Int) / 2 = (n2 : Int) := by omega
  have hnI : (n : Int) ≤ 4096 := by omega
  have hn2b : (n2 : Int) ≤ 4096 := by omega
  have HN2 := Lib.hid hn2
  clear h hw hn2
  go_enter Try.func31, Try.ntmps31
  go_wp2_with fail
  refine (len_c).mono ?_
  rintro e w1 ⟨rfl, rfl⟩
  clear hml hn
  go_wp2_with fail
  go_loopw [3] (fun v3 wr => ∃ (i : Nat) (l1 : List Tick) (W1 : Nat → Nat), v3 = .int .i64 ((i : Nat) - 1) ∧ i ≤ n2 ∧ Pd wr B pb (.slice A n c) l1 W1 ∧ Ws l1 W1 L ∧ l1.length = n ∧ From tl (gt l1) n i ∧ Fr (Sp pb (.slice A n c)) w1 wr) (fun v _ => (intOf v + 1).toNat)
  case atStart => exact ⟨n2, l, W, by first | rfl | (rw [← hn2I]), Nat.le_refl _, HH.out, HW.out, HN.out, by rw [← HN2.out]; exact from_end, Fr.refl _ _⟩
  case round =>
    obtain ⟨i, l1, W1, rfl, hi, h1, hw1, hn1, hf1, hfr1⟩ := hrel
    have H1 := Lib.hid h1
    have W1' := Lib.hid hw1
    have N1 := Lib.hid hn1
    have FM1 := Lib.hid hf1
    have F1 := Lib.hid hfr1
    clear h1 hw1 hn1 hf1 hfr1 hn2I
    by_cases hi0 : i = 0
    · subst hi0
      go_wp2_with fail
      go_end0
      exact ⟨rfl, ⟨l1, W1, H1.out, W1'.out, by rw [N1.out]; exact from_zero FM1.out⟩, F1.out⟩
    obtain ⟨i', rfl⟩ : ∃ i', i = i' + 1 := ⟨i - 1, by omega⟩
    have hiI : (i' : Int) + 1 - 1 = (i' : Int) := by omega
    have hi'b : (i' : Int) ≤ 4096 := by omega
    have hi'n : i' < n := by have := HN2.out; omega
    obtain ⟨g, rfl, _⟩ := HA.out (by omega)
    try simp only [Int.natCast_add, Int.natCast_one, hiI]
    go_wp2_with fail
    refine (down_c (i0 := i') (m := n) (fun f q => DownF tl f n i' q) H1.out W1'.out N1.out (Nat.le_refl _) (by omega) (fun _ => hi'n) (downF_begin FM1.out) (jf_steps _ _)).mono ?_
    rintro e w2 ⟨q, l2, W2, rfl, hr, hk⟩
    have R2 := Lib.hid hr
    have K2 := Lib.hid hk
    clear hr hk
    go_wp2_with fail
    go_roundw
    case measure =>
      simp only [intOf]
      omega
    case rel =>
      exact ⟨i', l2, W2, rfl, by omega, R2.out.pd, R2.out.ws, R2.out.len, downF_stop R2.out.j K2.out, F1.out.trans R2.out.fr (fun i hi => .inl hi)⟩
set_option maxRecDepth 100000 in
set_option maxHeartbeats 16000000 in
theorem hPush_c {w : World} {pb B a : Nat} {v : Value} {L : List Tick} {d : Int} (h : Hp w B pb v L) (ha : mayB ((a : Int), d) = true) (hd : dueL (a : Int) L = 0) (hB : B ≤ w.heap.size) :
    Calls Try.prog 37 #[.iface 55 (.pointer (some ⟨pb, 0, none⟩)), .iface TT (.agg #[.int .i64 (a : Int), .int .i64 d])] w fun e w' => e = .returned (.tuple #[]) ∧ ∃ v', Hp w' B pb v' (putL (a : Int) d L) ∧ Fr (Sp pb v) w w' ∧ (∀ g, v'.ownBlock = some g → v.ownBlock = some g ∨ w.heap.size ≤ g) := by
  obtain ⟨l, W, hp, hw, hh⟩ := h
  obtain ⟨n, hn⟩ : ∃ n, l.length = n := ⟨_, rfl⟩
  have hn5 : n ≤ 4096 := by rw [← hn]; exact hw.few
  have ha4 : a < 4096 := by
    have := mayB_iff.1 ha
    simp only at this
    omega
  have HW2 := Lib.hid (by simpa only [hn, Int.toNat_natCast] using hw.push (t := ((a : Int), d)) ha hd)
  have HP := Lib.hid hp
  have HN := Lib.hid hn
  have HH := Lib.hid hh
  have hms := m_push pb
  clear hp hw hh hn ha hd
  go_enter Try.func37, Try.ntmps37
  go_wp2_with fail
  refine (Push_c HP.out HN.out (by omega) ha4 hB).mono ?_
  rintro e w1 ⟨rfl, g, c, hp1, hf1, hg1⟩
  have HP1 := Lib.hid hp1
  have HF1 := Lib.hid hf1
  have HG1 := Lib.hid hg1
  have hml := m_len hp1.cell0
  have hl1 : (l ++ [((a : Int), d)]).length = n + 1 := by rw [List.length_append, HN.out]; rfl
  have HL1 := Lib.hid hl1
  have hnI : (n : Int) ≤ 4096 := by omega
  clear hp1 hf1 hg1 hl1
  go_wp2_with fail
  refine (len_c).mono ?_
  rintro e w2 ⟨rfl, rfl⟩
  clear hml
  go_wp2_with fail
  refine (up_c (j0 := n) (m := n + 1) HP1.out HW2.out HL1.out (Nat.le_refl _) (Nat.lt_succ_self _) (heap_push (f := gt (l ++ [((a : Int), d)])) (n := n) (by
    have := HH.out
    rw [HN.out] at this
    intro k h0 hk
    have hl := par_lt h0
    have e1 : ∀ k, k < n → gt (l ++ [((a : Int), d)]) k = gt l k := fun k hk => by
      unfold gt
      rw [List.getD_eq_getElem?_getD, List.getD_eq_getElem?_getD, List.getElem?_append_left (by rw [HN.out]; exact hk)]
    rw [e1 k hk, e1 _ (by omega)]
    exact this k h0 hk))).mono ?_
  rintro e w3 ⟨rfl, l3, W3, hp3, hw3, hn3, hh3, hk3, hf3⟩
  have P3 := Lib.hid hp3
  have W3' := Lib.hid hw3
  have HH3 := Lib.hid (show Heap tl (gt l3) l3.length by rw [hn3]; exact hh3)
  have F3 := Lib.hid hf3
  clear hp3 hw3 hn3 hh3 hk3 hf3
  go_wp2_with fail
  go_end0
  refine ⟨rfl, _, ⟨l3, W3, P3.out, W3'.out, HH3.out⟩, HF1.out.trans F3.out (fun i hi => ?_), fun q hq => ?_⟩
  · rcases hi with hi | hi
    · exact .inl (.inl hi)
    · have hgi : g = i := by simpa [Value.ownBlock] using hi
      rcases HG1.out with q | q
      · exact .inl (.inr (by rw [q, hgi]))
      · exact .inr (by omega)
  · have hgi : g = q := by simpa [Value.ownBlock] using hq
    rw [← hgi]
    exact HG1.out
end QueW
end Go.Proofs.Ytlhanbjendbhfaa
