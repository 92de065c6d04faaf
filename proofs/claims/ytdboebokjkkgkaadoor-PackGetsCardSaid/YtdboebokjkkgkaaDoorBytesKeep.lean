/-
  Readers of the program, once more: of what is left is known, too, that it lies where it lay in an earlier world (whatever else of that world's is written meanwhile).
-/
import Derived.Test.YtdboebokjkkgkaaDoorBytesPuts
import Derived.Test.YtdboebokjkkgkaaDoorBytesRefs
import Derived.Test.YtdboebokjkkgkaaDoorBytesMemIn
namespace Go.Proofs.YtdboebokjkkgkaaDoor
open Go.RowKit
open Go.Lib (uvarint uvarint_small uvarint_big uvarint_length64 uvarint_pos zigzag)
set_option linter.unusedVariables false
set_option linter.unusedSimpArgs false
namespace BytesW

/-- A reader whose bytes lie where they lay in w0. -/
def RK (w0 w : World) (p : Nat) (s : St) : Prop := ∃ A c, Rdr w p A s.1 c s.2 ∧ At w0 A s.1
theorem RK.rs {w0 w : World} {p : Nat} {s : St} (h : RK w0 w p s) : RS w p s := by
  obtain ⟨A, c, h, _⟩ := h
  exact ⟨A, c, h⟩
theorem RS.rk {w : World} {p : Nat} {s : St} (h : RS w p s) : RK w w p s := by
  obtain ⟨A, c, h⟩ := h
  exact ⟨A, c, h, h.2.1⟩
/-- What lay in w0 lies, but for the reader itself; that lies as it was. -/
theorem RK.over {w0 w w' : World} {p : Nat} {s s0 : St} (h : RK w0 w p s) (hp : RS w0 p s0) (h0 : w0.grownBy w (some p)) (hb : Below w0.heap.size w w') : RK w0 w' p s ∧ w0.grownBy w' (some p) := by
  obtain ⟨A, c, h, hA⟩ := h
  have hlt := hp.lt
  obtain ⟨A0, c0, hp⟩ := hp
  have hg : w0.grownBy w' (some p) := ⟨hb.os.trans h0.os, hb.tape.trans h0.tape, hb.output.trans h0.output, Nat.le_trans h0.size hb.size, fun k hk hne => (hb.block k hk).trans (h0.block k hk hne)⟩
  exact ⟨⟨A, c, ⟨(hb.block p hlt).trans h.1, hA.grown hp.1 (by decide) hg, h.2.2⟩, hA⟩, hg⟩
/-- A row of the call's own, of another type than the reader, lies behind what the reader does. -/
theorem Own.over {w w' : World} {B p : Nat} {v : Value} {l : List UInt8} {s : St} (h : Own w B v l) (hp : RS w p s) (hg : w.grownBy w' (some p)) : Own w' B v l := by
  obtain ⟨A, c, hp⟩ := hp
  unfold Own at h ⊢
  refine h.kept hg (.inr fun e => ?_)
  rcases h.2 with ⟨rfl, _⟩ | ⟨g, cap, cur, rfl, _, hgb, _⟩
  · simp [Value.ownBlock] at e
  · obtain rfl : g = p := by simpa [Value.ownBlock] using e
    rw [hp.1] at hgb
    injection hgb with hgb
    injection hgb with _ h2
    exact absurd h2 (by decide)
def NextK (w0 w : World) (p : Nat) (r : List UInt8 × St) (e : Ending) (w' : World) : Prop :=
  ∃ A c, e = .returned (.slice A r.1.length c) ∧ At w' A r.1 ∧ At w0 A r.1 ∧ r.1.length ≤ c ∧ c ≤ maxLen ∧ w.grownBy w' (some p) ∧ RK w0 w' p r.2
def NumK (k : IntKind) (w0 w : World) (p : Nat) (a : Int) (s : St) (e : Ending) (w' : World) : Prop := e = .returned (.int k a) ∧ w.grownBy w' (some p) ∧ RK w0 w' p s

/-- b[n:]: at some address, of which is known what it holds, in two worlds. -/
theorem wp_from2 {w : World} {ops : Array Oper} {rest : List Oper} {o : Oper} {a : Act} {Q : Exit → Act → World → Prop} (hgd : o.guard = none) (x y : Operand) (ho : o.op = .slice 26 x (some y) none none) {A : Option Addr} {c k : Nat} {l : List UInt8} {w0 w1 : World} (hx : a.eval x = .slice A l.length c) (hy : a.eval y = .int .i64 k) (hA : At w0 A l) (hA1 : At w1 A l) (h1 : k ≤ l.length) (h2 : l.length ≤ c)
    (h : ∀ A', At w0 A' (l.drop k) → At w1 A' (l.drop k) → wpList Tryd.prog ops Q rest (a.put o.dst (.slice A' (l.length - k) (c - k))) w) : wpList Tryd.prog ops Q (o :: rest) a w := by
  refine wpList_plain hgd fun K hK => ?_
  unfold Oper.wp
  simp [execOp, ho, hx, hy, run_from w h1, Result.andThen]
  exact hK _ _ (h _ (hA.drop k c h2) (hA1.drop k c h2))

theorem next_k {w0 w : World} {p : Nat} {s : St} {n : Int} {r : List UInt8 × St} (h : RK w0 w p s) (hr : rStep s n = r) :
    Calls Tryd.prog 64 #[.pointer (some ⟨p, 0, none⟩), .int .i64 n] w (NextK w0 w p r) := by
  subst hr
  obtain ⟨l, b⟩ := s
  obtain ⟨A, c, h, h0A⟩ := h
  obtain ⟨c0, c1, f0, f1⟩ := h.cell
  have H := Lib.hid h
  have hl1 := h.2.2.1
  have hl2 := h.2.2.2.1
  have hl3 := h.2.2.2.2
  simp only at hl1 hl2 hl3
  unfold maxLen at hl2
  have HA := Lib.hid h.2.1
  clear h
  cases b
  · by_cases hn : 0 ≤ n ∧ n ≤ (l.length : Int)
    · have HR := Lib.hid (show rStep (l, false) n = (l.take n.toNat, (l.drop n.toNat, false)) by simp [rStep, hn])
      obtain ⟨hn0, hn1⟩ := hn
      obtain ⟨k, rfl⟩ := Int.eq_ofNat_of_zero_le hn0
      have hk : k ≤ l.length := by omega
      clear hn0
      go_enter Tryd.func64, Tryd.ntmps64
      go_wp2_with (first
        | (go_at_call 62; refine (isSound_c H.out rfl).mono ?_; rintro e w' ⟨rfl, rfl⟩)
        | ((with_reducible refine at_slot 28 ?_); refine wp_upto rfl (.tmp 26) (.tmp 27) rfl rfl rfl (by omega) (by omega) hl1 ?_)
        | ((with_reducible refine at_slot 35 ?_); refine wp_from2 rfl (.tmp 33) (.tmp 34) rfl (k := k) rfl rfl HA.out h0A hk hl1 ?_; intro A2 hA2 hA20))
      go_ret
      have e1 : (l.take k).length = k := by simp; omega
      have e2 : (l.drop k).length = l.length - k := by simp
      have hs := H.out.set0 (A' := A2) (l' := l.drop k) (c' := c - k) hA2 (by omega) (by unfold maxLen; omega) (by omega)
      rw [e2] at hs
      rw [HR.out]
      refine ⟨A, c, ?_, ?_, h0A.take _, by simp; omega, by unfold maxLen; omega, grown_set _ _ _ _, ⟨_, _, hs, hA20⟩⟩
      · simp [e1]
      · exact (HA.out.take _).grown H.out.1 (by decide) (grown_set _ _ _ _)
    · have HR := Lib.hid (show rStep (l, false) n = ([], (l, true)) by simp only [rStep]; rw [if_neg (by simp), if_neg hn])
      rw [HR.out]
      by_cases h0 : n < 0
      · clear hn
        go_enter Tryd.func64, Tryd.ntmps64
        go_wp2_with (go_at_call 62; refine (isSound_c H.out rfl).mono ?_; rintro e w' ⟨rfl, rfl⟩)
        go_ret
        exact ⟨none, 0, rfl, At.nil, At.nil, by simp, by simp [maxLen], grown_set _ _ _ _, ⟨_, _, H.out.set1 true, h0A⟩⟩
      · have h1 : (l.length : Int) < n := by omega
        clear hn
        go_enter Tryd.func64, Tryd.ntmps64
        go_wp2_with (go_at_call 62; refine (isSound_c H.out rfl).mono ?_; rintro e w' ⟨rfl, rfl⟩)
        go_ret
        exact ⟨none, 0, rfl, At.nil, At.nil, by simp, by simp [maxLen], grown_set _ _ _ _, ⟨_, _, H.out.set1 true, h0A⟩⟩
  · have HR := Lib.hid (show rStep (l, true) n = ([], (l, true)) by simp [rStep])
    rw [HR.out]
    go_enter Tryd.func64, Tryd.ntmps64
    go_wp2_with (go_at_call 62; refine (isSound_c H.out rfl).mono ?_; rintro e w' ⟨rfl, rfl⟩)
    go_ret
    exact ⟨none, 0, rfl, At.nil, At.nil, by simp, by simp [maxLen], World.grownBy.refl _ _, ⟨_, _, H.out, h0A⟩⟩

theorem num_k {w0 w : World} {p : Nat} {s : St} {r : Nat × St} (h : RK w0 w p s) (hr : rNum s = r) :
    Calls Tryd.prog 47 #[.pointer (some ⟨p, 0, none⟩)] w (NumK .u64 w0 w p r.1 r.2) := by
  subst hr
  obtain ⟨l, b⟩ := s
  have HS := Lib.hid h
  obtain ⟨A, c, h, h0A⟩ := h
  have H := Lib.hid h
  obtain ⟨c0, c1, f0, f1⟩ := h.cell
  dsimp only at c0 c1
  have hl := h.2.2.2.2
  dsimp only at hl
  clear h
  cases b
  · have c1 : w.cell? ⟨p, 1, none⟩ = some (.int .u8 1) := c1
    have HA := Lib.hid H.out.2.1
    obtain ⟨q, hq⟩ : ∃ q, pn l 0 0 = q := ⟨_, rfl⟩
    have HQ := Lib.hid hq
    rcases q with _ | ⟨m, k⟩
    · have HST := Lib.hid (show rStep (l, false) (-1) = ([], (l, true)) by simp [rStep])
      rw [rNum_none hq]
      clear hq
      go_enter Tryd.func47, Tryd.ntmps47
      go_wp2_with (first
        | (go_at_call 62; refine (isSound_c H.out rfl).mono ?_; rintro e w' ⟨rfl, rfl⟩)
        | (go_at_call 63; refine (number_c HA.out hl HQ.out).mono ?_; rintro e w' ⟨rfl, rfl⟩)
        | (go_at_call 64; refine (next_k HS.out HST.out).mono ?_; rintro e w1 ⟨A1, d1, rfl, hA1, hA10, h1, h2, hg1, hs1⟩))
      go_ret
      exact ⟨rfl, hg1, hs1⟩
    · obtain ⟨hk1, hk2, hk3⟩ := pn_le hq
      have e := rNum_some hq
      rw [e]
      clear e
      have HST := Lib.hid (show rStep (l, false) (k : Int) = (l.take k, (l.drop k, false)) by simp [rStep]; omega)
      clear hq
      go_enter Tryd.func47, Tryd.ntmps47
      go_wp2_with (first
        | (go_at_call 62; refine (isSound_c H.out rfl).mono ?_; rintro e w' ⟨rfl, rfl⟩)
        | (go_at_call 63; refine (number_c HA.out hl HQ.out).mono ?_; rintro e w' ⟨rfl, rfl⟩)
        | (go_at_call 64; refine (next_k HS.out HST.out).mono ?_; rintro e w1 ⟨A1, d1, rfl, hA1, hA10, h1, h2, hg1, hs1⟩))
      go_ret
      exact ⟨rfl, hg1, hs1⟩
  · have HR := Lib.hid (show rNum (l, true) = (0, (l, true)) by simp [rNum])
    rw [HR.out]
    go_enter Tryd.func47, Tryd.ntmps47
    go_wp2_with (go_at_call 62; refine (isSound_c H.out rfl).mono ?_; rintro e w' ⟨rfl, rfl⟩)
    go_ret
    exact ⟨rfl, World.grownBy.refl _ _, HS.out⟩

theorem fixed_k {w0 w : World} {p : Nat} {s : St} {k : Int} {l : List UInt8} {s' : St} (h : RK w0 w p s) (hk : 1 ≤ k ∧ k ≤ 8) (hr : rStep s k = (l, s')) (hl8 : l.length ≤ 8) :
    Calls Tryd.prog 56 #[.pointer (some ⟨p, 0, none⟩), .int .i64 k] w (NumK .u64 w0 w p (vf l : Nat) s') := by
  have E1 := Lib.hid (show decide (1 ≤ k ∧ k ≤ 8) = true by simpa using hk)
  have HR := Lib.hid hr
  clear hr hk
  go_enter Tryd.func56, Tryd.ntmps56
  go_wp2_with (first
    | (go_at_call 67; refine (isWidth_c E1.out _).mono ?_; rintro e w' ⟨rfl, rfl⟩)
    | (go_at_call 64; refine (next_k h HR.out).mono ?_; rintro e w1 ⟨A1, d1, rfl, hA1, hA10, h1, h2, hg1, hs1⟩))
  (try dsimp only at hA1 h1 hs1 ⊢)
  have HA := Lib.hid hA1
  have HGS := Lib.hid (show w.grownBy w1 (some p) ∧ RK w0 w1 p s' from ⟨hg1, hs1⟩)
  clear hA1 hg1 hs1
  go_loop [5, 6, 16] (FixedRel l) (fun _ _ i => l.length - (intOf i).toNat)
  case atStart => exact ⟨0, 0, rfl, rfl, rfl, by simp [vf], by omega⟩
  case round =>
    obtain ⟨j, y, rfl, rfl, rfl, hy, hj⟩ := hrel
    have hlt := vf_take_lt l (j := j) (by omega)
    have hy0 : 0 ≤ y := by omega
    have hy1 : y < 18446744073709551616 := by omega
    have HY := Lib.hid hy
    have HLT := Lib.hid hlt
    clear hy hlt
    by_cases hjl : j < l.length
    · obtain ⟨b, o, rfl, hc⟩ := HA.out.cells (fun e => by rw [e] at hjl; simp at hjl)
      obtain ⟨m, hm⟩ : ∃ m : Nat, m = (l[j]'hjl).toNat := ⟨_, rfl⟩
      obtain ⟨z, hz⟩ : ∃ z : Int, z = (m : Int) := ⟨_, rfl⟩
      have g1 : w1.cell? ⟨b, o + j, none⟩ = some (.int .u8 z) := by rw [hz, hm]; exact hc j _ (List.getElem?_eq_getElem hjl)
      have hb := (l[j]'hjl).toNat_lt
      have hz0 : 0 ≤ z := by omega
      have hz1 : z < 256 := by omega
      have HV : Hid (vf (l.take (j + 1)) = vf (l.take j) + m * 2 ^ (8 * j)) := Lib.hid (by
        rw [List.take_succ_eq_append_getElem hjl, vf_snoc, ← hm, ← pow256, List.length_take, Nat.min_eq_left (by omega)])
      have HAC : Hid (vf (l.take j) < 2 ^ (8 * j)) := Lib.hid (by
        have h := vf_lt (l.take j)
        rw [List.length_take, Nat.min_eq_left (by omega)] at h
        rw [← pow256]
        exact h)
      have HZ := Lib.hid hz
      have HM := Lib.hid (show m ≤ 255 by omega)
      clear hz hb hm hc
      go_wp2_with fail
      go_round
      case rel =>
        refine ⟨j + 1, _, by go_num, rfl, by (first | go_num | (congr 1; omega)), ?_, by omega⟩
        rw [HV.out]
        refine or_pow HY.out HZ.out HAC.out HLT.out (mul_small HM.out _ ?_)
        exact Nat.lt_of_le_of_lt (Nat.mul_le_mul_left 255 (Nat.pow_le_pow_right (by omega) (show 8 * j ≤ 56 by omega))) (by decide)
      case measure => simp [intOf]; omega
    · have HV : Hid (vf (l.take j) = vf l) := Lib.hid (by rw [List.take_of_length_le (by omega)])
      go_wp2_with fail
      go_ret
      exact ⟨ret_u (by rw [HY.out, HV.out]), HGS.out.1, HGS.out.2⟩

end BytesW
end Go.Proofs.YtdboebokjkkgkaaDoor
