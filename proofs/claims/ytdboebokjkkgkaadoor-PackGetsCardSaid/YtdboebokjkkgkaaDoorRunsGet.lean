/-
  A row that is read.
-/
import Derived.Test.YtdboebokjkkgkaaDoorRunsGetRef
import Derived.Test.YtdboebokjkkgkaaDoorRunsRepeat
import Derived.Test.YtdboebokjkkgkaaDoorBytesKeep
namespace Go.Proofs.YtdboebokjkkgkaaDoor
open Go.RowKit
open Go.Lib (uvarint uvarint_small uvarint_big uvarint_length64 uvarint_pos zigzag)
set_option linter.unusedVariables false
set_option linter.unusedSimpArgs false
namespace RunsW
open BytesW

/-- min of two ints. -/
theorem wp_min {w : World} {ops : Array Oper} {rest : List Oper} {o : Oper} {a : Act} {Q : Exit → Act → World → Prop} (hgd : o.guard = none) (x y : Operand) (ho : o.op = .call { callee := .builtin .min, args := #[x, y], argTypes := #[3, 3] }) {X Y q : Int} (hx : a.eval x = .int .i64 X) (hy : a.eval y = .int .i64 Y) (hq : (if Y < X then Y else X) = q)
    (h : wpList Tryd.prog ops Q rest (a.put o.dst (.int .i64 q)) w) : wpList Tryd.prog ops Q (o :: rest) a w := by
  refine wpList_plain hgd fun K hK => ?_
  unfold Oper.wp execOp
  simp only [ho, resolve, invoke, builtin, Sem.run_bind, Sem.run_pure, Result.andThen_ok, List.map_toArray, List.map_cons, List.map_nil, hx, hy, run_min_int2, hq]
  exact hK _ _ h

def GPRel (w w2 : World) (p n L : Nat) (G : Option (List UInt8 × Nat)) (v : Value) (wr : World) : Prop :=
  ∃ (l s : List UInt8) (c : Nat), BytesW.Own wr w2.heap.size v l ∧ RK w2 wr p (s, false) ∧ w2.grownBy wr (some p) ∧ l.length ≤ n ∧ getR n c l s = G ∧ c + s.length = L
theorem below_n {w0 w w' : World} {p : Nat} (hb : Below w0.heap.size w0 w) (hp : w0.heap.size ≤ p) (hg : w.grownBy w' (some p)) : Below w0.heap.size w0 w' :=
  hb.grown hg hb.size (fun k hk => by injection hk with hk; omega)
theorem below_m {w0 w w' : World} (hb : Below w0.heap.size w0 w) (h : Below w.heap.size w w') : Below w0.heap.size w0 w' := hb.trans (h.mono hb.size)
theorem own_at {w : World} {B : Nat} {A : Option Addr} {l : List UInt8} {n c : Nat} (h : BytesW.Own w B (.slice A n c) l) : At w A l := by
  obtain ⟨A', c', e, h, _⟩ := h.sl
  injection e with e1 e2 e3
  subst e1
  exact h
theorem rFixed1_nil : rFixed ([], false) 1 = (0, ([], true)) := by decide
theorem rStep1_cons (x : UInt8) (r : List UInt8) : rStep (x :: r, false) 1 = ([x], (r, false)) := by
  unfold rStep
  rw [if_neg (by simp), if_pos ⟨by omega, by simp; omega⟩]
  rfl
theorem rStep1_nil : rStep ([], false) 1 = ([], ([], true)) := by decide
theorem rStep1_bad (s : List UInt8) : rStep (s, true) 1 = ([], (s, true)) := by simp [rStep]
theorem vf1 (x : UInt8) : vf [x] = x.toNat := by simp [vf]

theorem fixed1_k {w0 w : World} {p : Nat} {s s' : St} {l : List UInt8} {X : Int} (h : RK w0 w p s) (hr : rStep s 1 = (l, s')) (hl : l.length ≤ 8) (hX : ((vf l : Nat) : Int) = X) :
    Calls Tryd.prog 56 #[.pointer (some ⟨p, 0, none⟩), .int .i64 1] w (NumK .u64 w0 w p X s') := by
  subst hX
  exact fixed_k h ⟨by omega, by omega⟩ hr hl

set_option maxRecDepth 100000 in
set_option maxHeartbeats 4000000 in
theorem get_in {w : World} {A : Option Addr} {b : List UInt8} {cp n : Nat} {R : List UInt8 × Nat × Int} (hA : AtC w A b) (hcp : b.length ≤ cp) (hl : b.length ≤ 1000000) (hn : n ≤ 65536) (hR : gOf (rowGet b n) = R) :
    Calls Tryd.prog 45 #[.slice A b.length cp, .int .i64 n] w (GetP w R) := by
  obtain ⟨q, hq⟩ : ∃ q, q = min b.length (2 * n) := ⟨_, rfl⟩
  obtain ⟨b', hb'⟩ : ∃ b', b' = b.take q := ⟨_, rfl⟩
  have hbl : b'.length = q := by rw [hb', List.length_take]; omega
  have hrow : rowGet b' n = rowGet b n := by
    rw [← get_take b n, hb', hq]
    congr 1
    by_cases h : b.length ≤ 2 * n
    · rw [Nat.min_eq_left h, List.take_of_length_le (by omega), List.take_of_length_le (by omega)]
    · rw [Nat.min_eq_right (by omega)]
  have hA' : AtC w A b' := by rw [hb']; exact hA.take q
  have hql : (q : Int) ≤ b.length := by omega
  have HMIN : Hid ((if 2 * (n : Int) < b.length then 2 * (n : Int) else b.length) = q) := Lib.hid (by split <;> omega)
  have HQL : Hid (((q : Int)).toNat = b'.length) := Lib.hid hbl.symm
  have hbl2 : b'.length ≤ 1000000 := by omega
  obtain ⟨G, hG⟩ : ∃ G, rowGet b' n = G := ⟨_, rfl⟩
  rw [← hrow, hG] at hR
  have HR := Lib.hid hR
  have HG := Lib.hid hG
  obtain ⟨i, hi, hz, hs1, hby⟩ := info_parts info5
  have HB := Lib.hid (show i.bytes * n ≤ 281474976710656 by rw [hby]; omega)
  have HI := Lib.hid hi
  have HZ := Lib.hid hz
  have HS := Lib.hid hs1
  have hmx : n ≤ maxLen := by simp only [maxLen]; omega
  have HMX := Lib.hid hmx
  clear hi hz hs1 hby hmx hR hG hrow hq hbl hb' hA
  go_enter Tryd.func45, Tryd.ntmps45
  go_wp2_with (first
    | ((with_reducible refine at_slot 22 ?_); refine wp_min rfl (.tmp 19) (.tmp 21) rfl rfl rfl HMIN.out ?_)
    | ((with_reducible refine at_slot 23 ?_); refine wp_upto rfl (.tmp 17) (.tmp 22) rfl rfl rfl (by omega) hql hcp ?_; rw [HQL.out]))
  go_at_call 46
  refine (newReader_C hA' hbl2).mono ?_
  rintro e w2 ⟨p, rfl, hs2, hp1, hp2, hb2⟩
  have hz2 := hb2.size
  go_wp2_with (at_make; refine wpList_make_own _ rfl _ _ 26 rfl w2.heap.size 5 i (.int .u8 0) 1 under26 HI.out HZ.out HS.out .i64 .i64 _ n rfl rfl rfl HB.out HMX.out (Nat.le_refl _) ?_; intro w3 hown3 hg3)
  have hb3 : Below w2.heap.size w2 w3 := (Below.refl _ w2).grown hg3 (Nat.le_refl _) (by simp)
  have hk3 := RK.over hs2.rk hs2 (World.grownBy.refl _ _) hb3
  have hb23 := hb2.trans (hb3.mono hz2)
  go_loopw [8] (GPRel w w2 p n b'.length G) (fun v _ => n - vlen v)
  case atStart => exact ⟨[], b', 0, hown3, hk3.1, hk3.2, by simp, HG.out, by omega⟩
  case round =>
    obtain ⟨l, s, c, hown, hrk, hgr, hln, hg, hcs⟩ := hrel
    have hzr := hgr.size
    have hbw : Below w.heap.size w wr := hb2.grown hgr hz2 (fun k hk => by injection hk with hk; omega)
    have hsl := hrk.rs.len
    obtain ⟨Al, cl, rfl, hAl, hcl, hcl2⟩ := hown.sl
    have HGC := Lib.hid hg
    clear hg
    by_cases hlt : l.length < n
    · obtain ⟨q, hq⟩ : ∃ q, pn s 0 0 = q := ⟨_, rfl⟩
      have HQ := Lib.hid hq
      rcases q with _ | ⟨m, k⟩
      · have hG : G = none := by rw [← HGC.out]; exact getR_none hlt hq
        subst hG
        have HN := Lib.hid (rNum_none hq)
        have HF := Lib.hid (rStep1_bad s)
        clear hq
        go_wp2_with (first
          | (go_at_call 47; refine (num_k hrk HN.out).mono ?_; rintro e w4 ⟨rfl, hg4, hk4⟩)
          | (go_at_call 56; refine (fixed1_k (X := 0) hk4 HF.out (by simp) rfl).mono ?_; rintro e w5 ⟨rfl, hg5, hk5⟩)
          | (go_at_call 57; refine (err_c (r := 4) hk5.rs rfl).mono ?_; rintro e w' ⟨rfl, rfl⟩))
        go_ret3
        exact GetP.none HR.out (below_n (below_n hbw hp1 hg4) hp1 hg5)
      · obtain ⟨hk1, hk2, hk3'⟩ := pn_le hq
        have hm64 := (pn_some hq).1
        have HN := Lib.hid (rNum_some hq)
        obtain ⟨M, hM⟩ : ∃ M : Int, M = (m : Int) := ⟨_, rfl⟩
        have HM := Lib.hid hM
        have hM0 : 0 ≤ M := by omega
        have hM1 : M < 18446744073709551616 := by omega
        have HNK : Hid (∀ wr, RK w2 wr p (s, false) → Calls Tryd.prog 47 #[.pointer (some ⟨p, 0, none⟩)] wr (NumK .u64 w2 wr p M (s.drop k, false))) := Lib.hid (fun wr h => by rw [HM.out]; exact num_k h HN.out)
        rcases hdr : s.drop k with _ | ⟨x, r⟩
        · have hG : G = none := by rw [← HGC.out]; exact getR_end hlt hq hdr
          subst hG
          rw [hdr] at HNK
          clear hq hdr hM hm64
          go_wp2_with (first
            | (go_at_call 47; refine (HNK.out _ hrk).mono ?_; rintro e w4 ⟨rfl, hg4, hk4⟩)
            | (go_at_call 56; refine (fixed1_k (X := 0) hk4 rStep1_nil (by simp) rfl).mono ?_; rintro e w5 ⟨rfl, hg5, hk5⟩)
            | (go_at_call 57; refine (err_c (r := 4) hk5.rs rfl).mono ?_; rintro e w' ⟨rfl, rfl⟩))
          go_ret3
          exact GetP.none HR.out (below_n (below_n hbw hp1 hg4) hp1 hg5)
        · rw [hdr] at HNK
          obtain ⟨X, hX⟩ : ∃ X : Int, X = (x.toNat : Int) := ⟨_, rfl⟩
          have hxlt := x.toNat_lt
          have hX0 : 0 ≤ X := by omega
          have hX1 : X < 256 := by omega
          have hX256 : X % 256 = X := by omega
          have HVX : Hid (((vf [x] : Nat) : Int) = X) := Lib.hid (by rw [vf1, hX])
          have HX := Lib.hid hX
          have HDR := Lib.hid hdr
          have HST := Lib.hid (rStep1_cons x r)
          have HLEN : Hid (c + k + 1 + r.length = b'.length) := Lib.hid (by have := (drop_cons_take hdr).2; omega)
          by_cases hbad : m = 0 ∨ n - l.length < m ∨ l.getLast? = some x
          · have hG : G = none := by rw [← HGC.out]; exact getR_bad hlt hq hdr hbad
            subst hG
            have HFO := Lib.hid (show decide (m = 0 ∨ n - l.length < m ∨ l.getLast? = some x) = !false by simpa using hbad)
            have HM64 := Lib.hid hm64
            clear hq hdr hM hm64 hbad hX
            go_wp2_with (first
              | (go_at_call 47; refine (HNK.out _ hrk).mono ?_; rintro e w4 ⟨rfl, hg4, hk4⟩)
              | (go_at_call 56; refine (fixed1_k hk4 HST.out (by simp) HVX.out).mono ?_; rintro e w5 ⟨rfl, hg5, hk5⟩; have hown5 := (hown.over hrk.rs hg4).over hk4.rs hg5; have hA5 := (own_at hown5).c)
              | (go_at_call 57; refine (err_c (r := 0) hk5.rs rfl).mono ?_; rintro e w' ⟨rfl, rfl⟩)
              | (go_at_call 58; refine (follows_c hA5 hln (by omega) HM64.out HM.out HX.out HFO.out).mono ?_; rintro e w6 ⟨rfl, hb6⟩))
            go_ret3
            exact GetP.none HR.out (below_m (below_n (below_n hbw hp1 hg4) hp1 hg5) hb6)
          · have hGN : getR n (c + k + 1) (l ++ List.replicate m x) r = G := by rw [← HGC.out, getR_next hlt hq hdr hbad]
            have hm1 : 1 ≤ m := by omega
            have hmn : l.length + m ≤ n := by omega
            have HFO := Lib.hid (show decide (m = 0 ∨ n - l.length < m ∨ l.getLast? = some x) = !true by simpa using hbad)
            have HM64 := Lib.hid hm64
            obtain ⟨xs, hxs⟩ : ∃ xs, xs = List.replicate m x := ⟨_, rfl⟩
            obtain ⟨L2, hL2⟩ : ∃ L2, L2 = l ++ xs := ⟨_, rfl⟩
            have hxl : xs.length = m := by rw [hxs]; simp
            have hxl1 : xs.length ≤ m := by omega
            have HL2 := Lib.hid hL2
            have HL2l : Hid (L2.length = l.length + m) := Lib.hid (by rw [hL2, List.length_append, hxl])
            have HGN : Hid (getR n (c + k + 1) L2 r = G) := Lib.hid (by rw [hL2, hxs]; exact hGN)
            have HREP : Hid (∀ (w : World) (A : Option Addr) (cc : Nat), At w A [x] → Calls Tryd.prog 59 #[.slice A 1 cc, .int .i64 M] w (Gives w xs)) := Lib.hid (fun w A cc h => by rw [HM.out, hxs]; exact repeat_c h (by omega) hm1)
            have hMn : M ≤ n := by omega
            clear hq hdr hM hm64 hbad hX hGN hxs hL2 hxl
            go_wp2_with (first
              | (go_at_call 47; refine (HNK.out _ hrk).mono ?_; rintro e w4 ⟨rfl, hg4, hk4⟩)
              | (go_at_call 56; refine (fixed1_k hk4 HST.out (by simp) HVX.out).mono ?_; rintro e w5 ⟨rfl, hg5, hk5⟩; have hown5 := (hown.over hrk.rs hg4).over hk4.rs hg5; have hA5 := (own_at hown5).c; have hgr5 := (hgr.trans hg4).trans hg5; have hz5 := hgr5.size)
              | (go_at_call 57; refine (err_c (r := 0) hk5.rs rfl).mono ?_; rintro e w' ⟨rfl, rfl⟩)
              | (go_at_call 58; refine (follows_c hA5 hln (by omega) HM64.out HM.out HX.out HFO.out).mono ?_; rintro e w6 ⟨rfl, hb6⟩)
              | (go_at_call 59; refine (HREP.out _ _ _ (at_one HX.out)).mono ?_; rintro e w8 ⟨v8, rfl, hown8, hb8⟩; obtain ⟨A8, c8, rfl, hA8, hc8, hcm8⟩ := hown8.sl; have hb68 := hb6.trans ((((Below.refl _ w6).alloc (Nat.le_refl _) _).trans (hb8.mono (by simp))).mono hb6.size); have hownl := hown5.below hb68; have hzz8 := Nat.le_trans hz5 hb68.size)
              | ((with_reducible refine at_slot 54 ?_); refine wp_append rfl (.tmp 48) (.tmp 53) rfl (B := w2.heap.size) rfl hownl rfl hA8 (by omega) hzz8 ?_; intro v9 w9 hown9 hb9))
            have hbb := (hb68.mono hz5).trans hb9
            have hk9 := RK.over hk5 hs2 hgr5 hbb
            rw [← HL2.out] at hown9
            obtain ⟨A9, c9, rfl, hA9, hc9, hcm9⟩ := hown9.sl
            go_roundw
            case rel => exact ⟨L2, r, c + k + 1, hown9, hk9.1, hk9.2, by rw [HL2l.out]; omega, HGN.out, HLEN.out⟩
            case measure => have := HL2l.out; simp [vlen]; omega
    · have hle : n ≤ l.length := by omega
      have hG : G = some (l, c) := by rw [← HGC.out]; exact getR_done hle
      subst hG
      have HCS : Hid ((b'.length : Int) - (s.length : Int) = c) := Lib.hid (by omega)
      go_wp2_with (go_at_call 60; refine (left_c hrk.rs).mono ?_; rintro e w' ⟨rfl, rfl⟩)
      go_ret3
      have hr := HR.out
      subst hr
      exact ⟨_, by rw [HCS.out]; rfl, hown.mono hz2, hbw⟩

theorem get_c {w : World} {A : Option Addr} {b : List UInt8} {cp : Nat} {n : Int} {R : List UInt8 × Nat × Int} (hA : AtC w A b) (hcp : b.length ≤ cp) (hl : b.length ≤ 1000000) (hR : getA b n = R) :
    Calls Tryd.prog 45 #[.slice A b.length cp, .int .i64 n] w (GetP w R) := by
  by_cases hn : n < 0 ∨ 65536 < n
  · have hR2 : ([], 0, 2) = R := by rw [← hR, getA, if_pos hn]
    have HR := Lib.hid hR2
    clear hR hR2
    by_cases h0 : n < 0
    · clear hn
      go_enter Tryd.func45, Tryd.ntmps45
      go_wp2_with fail
      go_ret3
      exact GetP.none HR.out (Below.refl _ _)
    · have h1 : 65536 < n := by omega
      clear hn
      go_enter Tryd.func45, Tryd.ntmps45
      go_wp2_with fail
      go_ret3
      exact GetP.none HR.out (Below.refl _ _)
  · obtain ⟨k, rfl⟩ := Int.eq_ofNat_of_zero_le (show 0 ≤ n by omega)
    rw [getA, if_neg hn] at hR
    exact get_in hA hcp hl (by omega) hR
end RunsW
end Go.Proofs.YtdboebokjkkgkaaDoor
