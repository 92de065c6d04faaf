/-
  A reader goes over its next bytes; the number with which bytes begin; the end.
-/
import Derived.Test.YtjmdjdkpcmekmaaBytesClone
namespace Go.Proofs.Ytjmdjdkpcmekmaa
open Go.RowKit
open Go.Lib (uvarint uvarint_small uvarint_big uvarint_length64 uvarint_pos zigzag)
set_option linter.unusedVariables false
set_option linter.unusedSimpArgs false
namespace BytesW

theorem grown_set (w : World) (p i : Nat) (v : Value) : w.grownBy (w.setCell ⟨p, i, none⟩ v) (some p) :=
  ⟨rfl, rfl, rfl, by simp [World.setCell], fun k hk hne => Below.heap_setCell _ _ _ _ (fun e => hne (by rw [e]))⟩
theorem heap_set {w : World} {p : Nat} {cs : Array Value} {t : TypeId} {fr : Nat × Nat} (h : w.heap[p]? = some (.cells cs t fr)) (i : Nat) (v : Value) : (w.setCell ⟨p, i, none⟩ v).heap[p]? = some (.cells (cs.setIfInBounds i v) t fr) := by
  simp [World.setCell, Array.getElem?_modify, h]
theorem Rdr.set1 {w : World} {p c : Nat} {A : Option Addr} {l : List UInt8} {b : Bool} (h : Rdr w p A l c b) (b' : Bool) : Rdr (w.setCell ⟨p, 1, none⟩ (.int .u8 (stv b'))) p A l c b' :=
  ⟨by rw [heap_set h.1]; rfl, h.2.1.grown h.1 (by decide) (grown_set _ _ _ _), h.2.2⟩
theorem Rdr.set0 {w : World} {p c c' : Nat} {A A' : Option Addr} {l l' : List UInt8} {b : Bool} (h : Rdr w p A l c b) (hA : At w A' l') (h1 : l'.length ≤ c') (h2 : c' ≤ maxLen) (h3 : l'.length ≤ 1000000) : Rdr (w.setCell ⟨p, 0, none⟩ (.slice A' l'.length c')) p A' l' c' b :=
  ⟨by rw [heap_set h.1]; rfl, hA.grown h.1 (by decide) (grown_set _ _ _ _), h1, h2, h3⟩
theorem Rdr.below {w w' : World} {p c : Nat} {A : Option Addr} {l : List UInt8} {b : Bool} (h : Rdr w p A l c b) (hb : Below w.heap.size w w') : Rdr w' p A l c b := ⟨(hb.block p (lt_of_heap h.1)).trans h.1, h.2.1.below hb, h.2.2⟩
theorem RS.below {w w' : World} {p : Nat} {s : St} (h : RS w p s) (hb : Below w.heap.size w w') : RS w' p s := by
  obtain ⟨A, c, h⟩ := h
  exact ⟨A, c, h.below hb⟩
theorem RS.len {w : World} {p : Nat} {s : St} (h : RS w p s) : s.1.length ≤ 1000000 := by
  obtain ⟨A, c, h⟩ := h
  exact h.2.2.2.2
theorem RS.lt {w : World} {p : Nat} {s : St} (h : RS w p s) : p < w.heap.size := by
  obtain ⟨A, c, h⟩ := h
  exact lt_of_heap h.1
theorem grown_below {w w1 w2 : World} {p : Nat} (h : w.grownBy w1 (some p)) (hb : Below w1.heap.size w1 w2) : w.grownBy w2 (some p) :=
  h.trans ⟨hb.os, hb.tape, hb.output, hb.size, fun k hk _ => hb.block k hk⟩
theorem below_grown {w w1 w2 : World} {p : Nat} (hb : Below w.heap.size w w1) (h : w1.grownBy w2 (some p)) : w.grownBy w2 (some p) :=
  World.grownBy.trans (b := w1) ⟨hb.os, hb.tape, hb.output, hb.size, fun k hk _ => hb.block k hk⟩ h

/-- What is answered, of bytes; the reader behind it. -/
def NextP (w : World) (p : Nat) (r : List UInt8 × St) (e : Ending) (w' : World) : Prop :=
  ∃ A c, e = .returned (.slice A r.1.length c) ∧ At w' A r.1 ∧ r.1.length ≤ c ∧ c ≤ maxLen ∧ w.grownBy w' (some p) ∧ RS w' p r.2
theorem next_c {w : World} {p : Nat} {s : St} {n : Int} {r : List UInt8 × St} (h : RS w p s) (hr : rStep s n = r) :
    Calls Try.prog 34 #[.pointer (some ⟨p, 0, none⟩), .int .i64 n] w (NextP w p r) := by
  subst hr
  obtain ⟨l, b⟩ := s
  obtain ⟨A, c, h⟩ := h
  obtain ⟨c0, c1, f0, f1⟩ := h.cell
  have H := Lib.hid h
  have hl1 := h.2.2.1
  have hl2 := h.2.2.2.1
  have hl3 := h.2.2.2.2
  simp only at hl1 hl2 hl3
  unfold maxLen at hl2
  have HA := Lib.hid h.2.1
  clear h
  cases b
  · by_cases hn : 0 ≤ n ∧ n ≤ (l.length : Int)
    · have HR := Lib.hid (show rStep (l, false) n = (l.take n.toNat, (l.drop n.toNat, false)) by simp [rStep, hn])
      obtain ⟨hn0, hn1⟩ := hn
      obtain ⟨k, rfl⟩ := Int.eq_ofNat_of_zero_le hn0
      have hk : k ≤ l.length := by omega
      clear hn0
      go_enter Try.func34, Try.ntmps34
      go_wp2_with (first
        | (go_at_call 32; refine (isSound_c H.out rfl).mono ?_; rintro e w' ⟨rfl, rfl⟩)
        | ((with_reducible refine at_slot 28 ?_); refine wp_upto rfl (.tmp 26) (.tmp 27) rfl rfl rfl (by omega) (by omega) hl1 ?_)
        | ((with_reducible refine at_slot 35 ?_); refine wp_from rfl (.tmp 33) (.tmp 34) rfl (k := k) rfl rfl HA.out hk hl1 ?_; intro A2 hA2))
      go_ret
      have e1 : (l.take k).length = k := by simp; omega
      have e2 : (l.drop k).length = l.length - k := by simp
      have hs := H.out.set0 (A' := A2) (l' := l.drop k) (c' := c - k) hA2 (by omega) (by unfold maxLen; omega) (by omega)
      rw [e2] at hs
      rw [HR.out]
      refine ⟨A, c, ?_, ?_, by simp; omega, by unfold maxLen; omega, grown_set _ _ _ _, ⟨_, _, hs⟩⟩
      · simp [e1]
      · exact (HA.out.take _).grown H.out.1 (by decide) (grown_set _ _ _ _)
    · have HR := Lib.hid (show rStep (l, false) n = ([], (l, true)) by simp only [rStep]; rw [if_neg (by simp), if_neg hn])
      rw [HR.out]
      by_cases h0 : n < 0
      · clear hn
        go_enter Try.func34, Try.ntmps34
        go_wp2_with (go_at_call 32; refine (isSound_c H.out rfl).mono ?_; rintro e w' ⟨rfl, rfl⟩)
        go_ret
        exact ⟨none, 0, rfl, At.nil, by simp, by simp [maxLen], grown_set _ _ _ _, ⟨_, _, H.out.set1 true⟩⟩
      · have h1 : (l.length : Int) < n := by omega
        clear hn
        go_enter Try.func34, Try.ntmps34
        go_wp2_with (go_at_call 32; refine (isSound_c H.out rfl).mono ?_; rintro e w' ⟨rfl, rfl⟩)
        go_ret
        exact ⟨none, 0, rfl, At.nil, by simp, by simp [maxLen], grown_set _ _ _ _, ⟨_, _, H.out.set1 true⟩⟩
  · have HR := Lib.hid (show rStep (l, true) n = ([], (l, true)) by simp [rStep])
    rw [HR.out]
    go_enter Try.func34, Try.ntmps34
    go_wp2_with (go_at_call 32; refine (isSound_c H.out rfl).mono ?_; rintro e w' ⟨rfl, rfl⟩)
    go_ret
    exact ⟨none, 0, rfl, At.nil, by simp, by simp [maxLen], World.grownBy.refl _ _, ⟨_, _, H.out⟩⟩

theorem ret_2 {a b c d : Int} (h : a = b) (h2 : c = d) : Ending.returned (.tuple #[.int .u64 a, .int .i64 c]) = .returned (.tuple #[.int .u64 b, .int .i64 d]) := by rw [h, h2]
theorem or_pow {y z : Int} {acc v s : Nat} (hy : y = acc) (hz : z = v) (ha : acc < 2 ^ s) (ha2 : acc < 18446744073709551616) (hv : v * 2 ^ s < 18446744073709551616) :
    bits .or .u64 y (IntKind.u64.wrap (z * 2 ^ s)) = ((acc + v * 2 ^ s : Nat) : Int) := by
  subst hy hz
  have e : ((v : Int) * 2 ^ s) = ((v * 2 ^ s : Nat) : Int) := by simp
  have e2 : IntKind.u64.wrap ((v * 2 ^ s : Nat) : Int) = ((v * 2 ^ s : Nat) : Int) := by rw [IntKind.wrap_u64]; omega
  rw [e, e2, bits_or_u64_nat _ _ ha2 hv, Nat.or_comm, Nat.mul_comm v, ← Nat.two_pow_add_eq_or_of_lt ha, Nat.add_comm]
theorem mul_small {m s b : Nat} (h : m ≤ b) (c : Nat) (hc : b * 2 ^ s < c) : m * 2 ^ s < c := Nat.lt_of_le_of_lt (Nat.mul_le_mul_right _ h) hc
def ansN : Option (Nat × Nat) → Int | none => 0 | some (n, _) => n
def ansK : Option (Nat × Nat) → Int | none => -1 | some (_, k) => k
def NumRel (l : List UInt8) (n s i : Value) : Prop :=
  ∃ (k acc : Nat) (y : Int), i = .int .i64 k ∧ n = .int .u64 y ∧ s = .int .i64 ((7 * k : Nat) : Int) ∧ y = acc ∧ k ≤ l.length ∧ k ≤ 9 ∧ acc < 2 ^ (7 * k) ∧ pn (l.drop k) k acc = pn l 0 0
theorem number_c {w : World} {A : Option Addr} {l : List UInt8} {c : Nat} {r : Option (Nat × Nat)} (hA : At w A l) (hl : l.length ≤ 1000000) (h : pn l 0 0 = r) :
    Calls Try.prog 33 #[.slice A l.length c] w fun e w' => e = .returned (.tuple #[.int .u64 (ansN r), .int .i64 (ansK r)]) ∧ w = w' := by
  have HA := Lib.hid hA
  have HR := Lib.hid h
  clear hA h
  go_enter Try.func33, Try.ntmps33
  go_wp2_with fail
  go_loop [2, 4, 9] (NumRel l) (fun _ _ i => l.length - (intOf i).toNat)
  case atStart => exact ⟨0, 0, 0, rfl, rfl, rfl, rfl, by omega, by omega, by simp, by simp⟩
  case round =>
    obtain ⟨k, acc, y, rfl, rfl, rfl, hy, hk, hk9, hacc, hpn⟩ := hrel
    have hpow : 2 ^ (7 * k) ≤ 9223372036854775808 := Nat.le_trans (Nat.pow_le_pow_right (by omega) (show 7 * k ≤ 63 by omega)) (by decide)
    have hy0 : 0 ≤ y := by omega
    have hy1 : y < 9223372036854775808 := by omega
    have HY := Lib.hid hy
    have HACC := Lib.hid hacc
    have HPN := Lib.hid hpn
    clear hy hacc hpn hpow
    by_cases hkl : k < l.length
    · obtain ⟨b, o, rfl, hc⟩ := HA.out.cells (fun e => by rw [e] at hkl; simp at hkl)
      have HC := Lib.hid hc
      clear hc
      obtain ⟨m, hm⟩ : ∃ m : Nat, m = (l[k]'hkl).toNat := ⟨_, rfl⟩
      obtain ⟨z, hz⟩ : ∃ z : Int, z = (m : Int) := ⟨_, rfl⟩
      have g1 : w.cell? ⟨b, o + k, none⟩ = some (.int .u8 z) := by rw [hz, hm]; exact HC.out k _ (List.getElem?_eq_getElem hkl)
      have hb := (l[k]'hkl).toNat_lt
      have hz0 : 0 ≤ z := by omega
      have hz1 : z < 256 := by omega
      have HD : Hid (pn (l.drop k) k acc = if k = 9 ∧ 1 < m then none else if 128 ≤ m then pn (l.drop (k + 1)) (k + 1) (acc + m % 128 * 2 ^ (7 * k)) else if m = 0 ∧ 0 < k then none else some (acc + m % 128 * 2 ^ (7 * k), k + 1)) := Lib.hid (by
        rw [List.drop_eq_getElem_cons hkl]
        simp only [pn, hm])
      have HZ := Lib.hid hz
      clear hz hb hm
      by_cases h9 : k = 9 ∧ 1 < z
      · have hr : r = none := by
          rw [← HR.out, ← HPN.out, HD.out, if_pos ⟨h9.1, by have := HZ.out; omega⟩]
        subst hr
        obtain ⟨rfl, h1z⟩ := h9
        go_wp2_with fail
        go_ret2
        exact ⟨rfl, rfl⟩
      · have HN9 : Hid (¬ (k = 9 ∧ 1 < m)) := Lib.hid (by have := HZ.out; omega)
        by_cases h128 : 128 ≤ z
        · have hk8 : k < 9 := by omega
          have hne : ((k : Int) == 9) = false := by simp; omega
          clear h9
          go_wp2_with fail
          go_round
          case rel =>
            refine ⟨k + 1, acc + m % 128 * 2 ^ (7 * k), _, by go_num, rfl, by (first | go_num | (congr 1; omega)), ?_, by omega, by omega, ?_, ?_⟩
            · refine or_pow HY.out (by have := HZ.out; omega) HACC.out (by have := HY.out; omega) (mul_small (b := 127) (by omega) _ ?_)
              exact Nat.lt_of_le_of_lt (Nat.mul_le_mul_left 127 (Nat.pow_le_pow_right (by omega) (show 7 * k ≤ 56 by omega))) (by decide)
            · have h1 := HACC.out
              have h2 := Nat.mul_le_mul_right (2 ^ (7 * k)) (show m % 128 ≤ 127 by omega)
              rw [pow_step]
              omega
            · rw [← HPN.out, HD.out, if_neg HN9.out, if_pos (by have := HZ.out; omega)]
          case measure => simp [intOf]; omega
        · by_cases h0 : z = 0 ∧ 0 < k
          · have hr : r = none := by
              rw [← HR.out, ← HPN.out, HD.out, if_neg HN9.out, if_neg (by have := HZ.out; omega), if_pos ⟨by have := HZ.out; omega, h0.2⟩]
            subst hr
            obtain ⟨rfl, hk0⟩ := h0
            go_wp2_with fail
            all_goals
              go_ret2
              exact ⟨rfl, rfl⟩
          · have hr : r = some (acc + m % 128 * 2 ^ (7 * k), k + 1) := by
              rw [← HR.out, ← HPN.out, HD.out, if_neg HN9.out, if_neg (by have := HZ.out; omega), if_neg (by have := HZ.out; omega)]
            subst hr
            have HE : Hid (bits .or .u64 y (IntKind.u64.wrap (z % 128 * 2 ^ (7 * k))) = ((acc + m % 128 * 2 ^ (7 * k) : Nat) : Int)) := Lib.hid (by
              refine or_pow HY.out (by have := HZ.out; omega) HACC.out (by have := HY.out; omega) ?_
              by_cases e9 : k = 9
              · subst e9
                have := HZ.out
                exact mul_small (b := 1) (by omega) _ (by decide)
              · refine mul_small (b := 127) (by omega) _ ?_
                exact Nat.lt_of_le_of_lt (Nat.mul_le_mul_left 127 (Nat.pow_le_pow_right (by omega) (show 7 * k ≤ 56 by omega))) (by decide))
            by_cases hz : z = 0
            · have hk0 : k = 0 := by omega
              subst hz
              clear h0 h9
              subst hk0
              have hy0 : y = 0 := by have h1 := HACC.out; have h2 := HY.out; simp at h1; omega
              subst hy0
              have hm0 : m = 0 := by have := HZ.out; omega
              subst hm0
              have hacc0 : acc = 0 := by have h1 := HACC.out; simp at h1; omega
              subst hacc0
              rw [Nat.add_zero] at g1
              go_wp2_with fail
              go_ret2
              exact ⟨rfl, rfl⟩
            · have hne : (z == 0) = false := by simpa using hz
              have hne9 : k = 9 → z ≤ 1 := by omega
              clear h0 h9
              by_cases e9 : k = 9
              · subst e9
                have hz2 := hne9 rfl
                clear hne9
                have HE9 : Hid (bits .or .u64 y (z % 128 * 9223372036854775808) = ansN (some (acc + m % 128 * 9223372036854775808, 10))) := Lib.hid (by
                  have h := HE.out
                  rw [show (2 : Int) ^ (7 * 9) = 9223372036854775808 by decide, show (2 : Nat) ^ (7 * 9) = 9223372036854775808 by decide, IntKind.wrap_u64, Int.emod_eq_of_lt (by omega) (by omega)] at h
                  exact h)
                go_wp2_with fail
                go_ret2
                exact ⟨ret_2 HE9.out rfl, rfl⟩
              · have hne2 : ((k : Int) == 9) = false := by simp; omega
                clear hne9
                go_wp2_with fail
                go_ret2
                exact ⟨ret_2 HE.out rfl, rfl⟩
    · have hr : r = none := by
        rw [← HR.out, ← HPN.out, List.drop_eq_nil_of_le (by omega)]
        rfl
      subst hr
      go_wp2_with fail
      go_ret2
      exact ⟨rfl, rfl⟩
theorem rNum_none {l : List UInt8} (h : pn l 0 0 = none) : rNum (l, false) = (0, (l, true)) := by simp [rNum, h]
theorem rNum_some {l : List UInt8} {m k : Nat} (h : pn l 0 0 = some (m, k)) : rNum (l, false) = (m, (l.drop k, false)) := by simp [rNum, h]
theorem rNum_lt (s : St) : (rNum s).1 < 18446744073709551616 := by
  unfold rNum
  split
  · show 0 < 18446744073709551616
    omega
  · split
    · rename_i h
      exact (pn_some h).1
    · show 0 < 18446744073709551616
      omega
end BytesW
end Go.Proofs.Ytjmdjdkpcmekmaa
