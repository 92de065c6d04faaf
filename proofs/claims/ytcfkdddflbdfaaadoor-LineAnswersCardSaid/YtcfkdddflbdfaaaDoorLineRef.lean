/-
  The reference's digits, names of errors, answers.
-/
import Derived.BigQuiet
import Derived.BigRegion
import Derived.Lib.Hide
import Derived.Deep.RegionHeld3
import Derived.Deep.MidRow
import Derived.Test.YtcfkdddflbdfaaaDoorLineAnswer
namespace Go.Proofs.YtcfkdddflbdfaaaDoor
open Go.RowKit
set_option linter.unusedVariables false
set_option linter.unusedSimpArgs false
namespace LineW
open DigP LineP BlkP RowG
open BaseP (bcell below_drewN)
theorem list_named {P : Program} {ops : Array Oper} {Q : Exit → Act → World → Prop} {rest : List Oper} {a : Act} {W : World} (S : World → Prop) (h : S W) (k : ∀ W', S W' → wpList P ops Q rest a W') : wpList P ops Q rest a W := k W h
theorem at_slot (t : Tmp) {P : Program} {w : World} {ops : Array Oper} {rest : List Oper} {a : Act} {Q : Exit → Act → World → Prop} {op : Op} {ty : TypeId} {pos : String} {af : _} {g : _} (h : wpList P ops Q ((⟨some t, op, ty, pos, af, g⟩ : Oper) :: rest) a w) : wpList P ops Q ((⟨some t, op, ty, pos, af, g⟩ : Oper) :: rest) a w := h
theorem wp_known {w : World} {ops : Array Oper} {rest : List Oper} {o : Oper} {a : Act} {Q : Exit → Act → World → Prop} (hgd : o.guard = none) {v : Value} (hr : (execOp a.eval o).run Tryd.prog w = .ok (.value v) w) (h : wpList Tryd.prog ops Q rest (a.put o.dst v) w) : wpList Tryd.prog ops Q (o :: rest) a w := by
  refine wpList_plain hgd fun K hK => ?_
  unfold Oper.wp
  rw [hr]
  exact hK _ _ h
theorem exec_cat {w : World} {o : Oper} {a : Act} (x y : Operand) (T : TypeId) (ho : o.op = .binOp .add 9 x y T) {lx ly lz : List UInt8} (hx : a.eval x = .string ⟨lx.toArray⟩) (hy : a.eval y = .string ⟨ly.toArray⟩) (hxl : lx.length ≤ 8388608) (hyl : ly.length ≤ 8388608) (hz : lx ++ ly = lz) :
    (execOp a.eval o).run Tryd.prog w = .ok (.value (.string ⟨lz.toArray⟩)) w := by
  have h := run_cat w hxl hyl hz
  simp [execOp, ho, hx, hy, h, eqGuard, Result.andThen]
/-- Two texts laid one behind the other. -/
theorem wp_cat {w : World} {ops : Array Oper} {rest : List Oper} {o : Oper} {a : Act} {Q : Exit → Act → World → Prop} (hgd : o.guard = none) (x y : Operand) (T : TypeId) (ho : o.op = .binOp .add 9 x y T) {lx ly lz : List UInt8} (hx : a.eval x = .string ⟨lx.toArray⟩) (hy : a.eval y = .string ⟨ly.toArray⟩) (hxl : lx.length ≤ 8388608) (hyl : ly.length ≤ 8388608) (hz : lx ++ ly = lz)
    (h : wpList Tryd.prog ops Q rest (a.put o.dst (.string ⟨lz.toArray⟩)) w) : wpList Tryd.prog ops Q (o :: rest) a w :=
  wp_known hgd (exec_cat x y T ho hx hy hxl hyl hz) h
set_option maxRecDepth 100000 in
set_option maxHeartbeats 8000000 in
theorem rDigits_c {n : Int} (h0 : -9223372036854775808 ≤ n) (h1 : n < 9223372036854775808) (w : World) :
    Calls Tryd.prog 37 #[.int .i64 n] w fun e w' => e = .returned (.string ⟨(num n).toArray⟩) ∧ Below w.heap.size w w' := by
  obtain ⟨m, hm0⟩ : ∃ m, n.natAbs = m := ⟨_, rfl⟩
  have hm : m ≤ 9223372036854775808 := by omega
  have HLEN := Lib.hid (show (dig m).length ≤ 40 from Nat.le_trans (dig_len (k := 39) (Nat.lt_of_le_of_lt hm (by decide))) (by omega))
  by_cases hn : n < 0
  · have HN := Lib.hid (show [45] ++ dig m = num n by rw [num, if_pos hn, hm0]; rfl)
    obtain ⟨u1, hu1⟩ : ∃ u1 : Int, n + 18446744073709551616 = u1 := ⟨_, rfl⟩
    have w1 : IntKind.u64.wrap n = u1 := by
      rw [IntKind.wrap_u64]
      omega
    have w2 : IntKind.u64.wrap (-u1) = (m : Int) := by
      rw [IntKind.wrap_u64]
      omega
    clear hm0 hu1 h0 h1
    go_enter Tryd.func37, Tryd.ntmps37
    go_wp2_with fail
    go_loopw [3, 5] (fun v3 v5 wr => ∃ (u : Nat) (s : List UInt8), v3 = .int .u64 (u : Int) ∧ v5 = .string ⟨s.toArray⟩ ∧ u ≤ 9223372036854775808 ∧ s.length + (dig u).length ≤ 40 ∧ dig u ++ s = dig m ∧ Below w.heap.size w wr) (fun v3 _ _ => (intOf v3).toNat)
    case atStart => exact ⟨m, [], rfl, rfl, hm, by simpa using HLEN.out, by simp, by (repeat' (first | (with_reducible exact Below.refl _ _) | (with_reducible refine Below.setCell ?_ (by (first | omega | (simp; done) | (simp; omega))) _) | (with_reducible refine Below.alloc ?_ (by (first | omega | (simp; done) | (simp; omega))) _) | (with_reducible refine Below.drew ?_) | (with_reducible refine below_drewN ?_ _)))⟩
    case round =>
      obtain ⟨u, s, rfl, rfl, hu, hsl, hinv, hbr⟩ := hrel
      have BR := Lib.hid hbr
      have HINV := Lib.hid hinv
      have HSL := Lib.hid hsl
      have hc := ch_nat (d := u % 10) (by omega)
      have a1 : IntKind.u64.wrap (48 + (u : Int) % 10) = 48 + (u : Int) % 10 := by
        rw [IntKind.wrap_u64]
        omega
      have a2 : IntKind.u8.wrap (48 + (u : Int) % 10) = 48 + (u : Int) % 10 := by
        rw [IntKind.wrap_u8]
        omega
      obtain ⟨q, hq⟩ : ∃ q, u / 10 = q := ⟨_, rfl⟩
      have a4 : (u : Int) / 10 = (q : Int) := by omega
      have a5 : IntKind.u64.wrap (q : Int) = (q : Int) := by
        rw [IntKind.wrap_u64]
        omega
      have hz := hbr.size
      have HX := Lib.hid (show 48 + (u : Int) % 10 = ((ch (u % 10)).toNat : Int) by rw [hc]; omega)
      have hs8 : s.length ≤ 40 := by have := HSL.out; omega
      clear hbr hinv hsl hc
      by_cases hlt : u < 10
      · have HZ := Lib.hid (show ch (u % 10) :: s = dig m by rw [← HINV.out, dig_small hlt, show u % 10 = u by omega]; rfl)
        obtain rfl : q = 0 := by omega
        clear hq
        have a6 : IntKind.u64.wrap 0 = 0 := by decide
        go_wp2_with (first
          | ((with_reducible refine at_slot 17 ?_); refine BytesW.wp_strC rfl (.tmp 16) rfl (l := [ch (u % 10)]) rfl (BytesW.At.c (BytesW.at_one HX.out)) ?_)
          | ((with_reducible refine at_slot 19 ?_); refine wp_cat rfl (.tmp 17) (.tmp 18) _ rfl (lx := [ch (u % 10)]) (ly := s) (lz := ch (u % 10) :: s) rfl rfl (by simp) (by omega) rfl ?_)
          | ((with_reducible refine at_slot 26 ?_); refine wp_cat rfl (.tmp 24) (.tmp 25) _ rfl (lx := [45]) (ly := ch (u % 10) :: s) (lz := num n) rfl rfl (by simp) (by simp; omega) (by rw [HZ.out]; exact HN.out) ?_))
        go_ret
        exact ⟨rfl, by (repeat' (first | (with_reducible exact Below.refl _ _) | (with_reducible refine Below.setCell ?_ (by (first | omega | (simp; done) | (simp; omega))) _) | (with_reducible refine Below.alloc ?_ (by (first | omega | (simp; done) | (simp; omega))) _) | (with_reducible refine Below.drew ?_) | (with_reducible refine below_drewN ?_ _) | (with_reducible refine Below.trans ?_ (Below.mono BR.out (by (first | omega | (simp; done) | (simp; omega)))))))⟩
      · have eb := dig_big (n := u) (by omega)
        rw [hq] at eb
        have HZ := Lib.hid (show dig q ++ (ch (u % 10) :: s) = dig m by rw [← HINV.out, eb]; simp)
        have HL2 := Lib.hid (show (ch (u % 10) :: s).length + (dig q).length ≤ 40 by have := HSL.out; rw [eb, List.length_append] at this; simp at this ⊢; omega)
        have hqn : ((q : Int) == 0) = false := by simp; omega
        have hqu := Lib.hid (show q ≤ u ∧ (1 : Int) ≤ u ∧ q < u by omega)
        have hq63 : q ≤ 9223372036854775808 := by omega
        clear eb hq
        go_wp2_with (first
          | ((with_reducible refine at_slot 17 ?_); refine BytesW.wp_strC rfl (.tmp 16) rfl (l := [ch (u % 10)]) rfl (BytesW.At.c (BytesW.at_one HX.out)) ?_)
          | ((with_reducible refine at_slot 19 ?_); refine wp_cat rfl (.tmp 17) (.tmp 18) _ rfl (lx := [ch (u % 10)]) (ly := s) (lz := ch (u % 10) :: s) rfl rfl (by simp) (by omega) rfl ?_))
        go_roundw
        case rel => exact ⟨q, ch (u % 10) :: s, rfl, rfl, hq63, HL2.out, HZ.out, by (repeat' (first | (with_reducible exact Below.refl _ _) | (with_reducible refine Below.setCell ?_ (by (first | omega | (simp; done) | (simp; omega))) _) | (with_reducible refine Below.alloc ?_ (by (first | omega | (simp; done) | (simp; omega))) _) | (with_reducible refine Below.drew ?_) | (with_reducible refine below_drewN ?_ _) | (with_reducible refine Below.trans ?_ (Below.mono BR.out (by (first | omega | (simp; done) | (simp; omega)))))))⟩
        case measure => have := hqu.out; simp only [intOf]; omega
  · have HN := Lib.hid (show [] ++ dig m = num n by rw [num, if_neg hn, hm0]; rfl)
    have w1 : IntKind.u64.wrap n = (m : Int) := by
      rw [IntKind.wrap_u64]
      omega
    clear hm0 h0 h1
    go_enter Tryd.func37, Tryd.ntmps37
    go_wp2_with fail
    go_loopw [3, 5] (fun v3 v5 wr => ∃ (u : Nat) (s : List UInt8), v3 = .int .u64 (u : Int) ∧ v5 = .string ⟨s.toArray⟩ ∧ u ≤ 9223372036854775808 ∧ s.length + (dig u).length ≤ 40 ∧ dig u ++ s = dig m ∧ Below w.heap.size w wr) (fun v3 _ _ => (intOf v3).toNat)
    case atStart => exact ⟨m, [], rfl, rfl, hm, by simpa using HLEN.out, by simp, by (repeat' (first | (with_reducible exact Below.refl _ _) | (with_reducible refine Below.setCell ?_ (by (first | omega | (simp; done) | (simp; omega))) _) | (with_reducible refine Below.alloc ?_ (by (first | omega | (simp; done) | (simp; omega))) _) | (with_reducible refine Below.drew ?_) | (with_reducible refine below_drewN ?_ _)))⟩
    case round =>
      obtain ⟨u, s, rfl, rfl, hu, hsl, hinv, hbr⟩ := hrel
      have BR := Lib.hid hbr
      have HINV := Lib.hid hinv
      have HSL := Lib.hid hsl
      have hc := ch_nat (d := u % 10) (by omega)
      have a1 : IntKind.u64.wrap (48 + (u : Int) % 10) = 48 + (u : Int) % 10 := by
        rw [IntKind.wrap_u64]
        omega
      have a2 : IntKind.u8.wrap (48 + (u : Int) % 10) = 48 + (u : Int) % 10 := by
        rw [IntKind.wrap_u8]
        omega
      obtain ⟨q, hq⟩ : ∃ q, u / 10 = q := ⟨_, rfl⟩
      have a4 : (u : Int) / 10 = (q : Int) := by omega
      have a5 : IntKind.u64.wrap (q : Int) = (q : Int) := by
        rw [IntKind.wrap_u64]
        omega
      have hz := hbr.size
      have HX := Lib.hid (show 48 + (u : Int) % 10 = ((ch (u % 10)).toNat : Int) by rw [hc]; omega)
      have hs8 : s.length ≤ 40 := by have := HSL.out; omega
      clear hbr hinv hsl hc
      by_cases hlt : u < 10
      · have HZ := Lib.hid (show ch (u % 10) :: s = dig m by rw [← HINV.out, dig_small hlt, show u % 10 = u by omega]; rfl)
        obtain rfl : q = 0 := by omega
        clear hq
        have a6 : IntKind.u64.wrap 0 = 0 := by decide
        go_wp2_with (first
          | ((with_reducible refine at_slot 17 ?_); refine BytesW.wp_strC rfl (.tmp 16) rfl (l := [ch (u % 10)]) rfl (BytesW.At.c (BytesW.at_one HX.out)) ?_)
          | ((with_reducible refine at_slot 19 ?_); refine wp_cat rfl (.tmp 17) (.tmp 18) _ rfl (lx := [ch (u % 10)]) (ly := s) (lz := ch (u % 10) :: s) rfl rfl (by simp) (by omega) rfl ?_)
          | ((with_reducible refine at_slot 26 ?_); refine wp_cat rfl (.tmp 24) (.tmp 25) _ rfl (lx := []) (ly := ch (u % 10) :: s) (lz := num n) rfl rfl (by simp) (by simp; omega) (by rw [HZ.out]; exact HN.out) ?_))
        go_ret
        exact ⟨rfl, by (repeat' (first | (with_reducible exact Below.refl _ _) | (with_reducible refine Below.setCell ?_ (by (first | omega | (simp; done) | (simp; omega))) _) | (with_reducible refine Below.alloc ?_ (by (first | omega | (simp; done) | (simp; omega))) _) | (with_reducible refine Below.drew ?_) | (with_reducible refine below_drewN ?_ _) | (with_reducible refine Below.trans ?_ (Below.mono BR.out (by (first | omega | (simp; done) | (simp; omega)))))))⟩
      · have eb := dig_big (n := u) (by omega)
        rw [hq] at eb
        have HZ := Lib.hid (show dig q ++ (ch (u % 10) :: s) = dig m by rw [← HINV.out, eb]; simp)
        have HL2 := Lib.hid (show (ch (u % 10) :: s).length + (dig q).length ≤ 40 by have := HSL.out; rw [eb, List.length_append] at this; simp at this ⊢; omega)
        have hqn : ((q : Int) == 0) = false := by simp; omega
        have hqu := Lib.hid (show q ≤ u ∧ (1 : Int) ≤ u ∧ q < u by omega)
        have hq63 : q ≤ 9223372036854775808 := by omega
        clear eb hq
        go_wp2_with (first
          | ((with_reducible refine at_slot 17 ?_); refine BytesW.wp_strC rfl (.tmp 16) rfl (l := [ch (u % 10)]) rfl (BytesW.At.c (BytesW.at_one HX.out)) ?_)
          | ((with_reducible refine at_slot 19 ?_); refine wp_cat rfl (.tmp 17) (.tmp 18) _ rfl (lx := [ch (u % 10)]) (ly := s) (lz := ch (u % 10) :: s) rfl rfl (by simp) (by omega) rfl ?_))
        go_roundw
        case rel => exact ⟨q, ch (u % 10) :: s, rfl, rfl, hq63, HL2.out, HZ.out, by (repeat' (first | (with_reducible exact Below.refl _ _) | (with_reducible refine Below.setCell ?_ (by (first | omega | (simp; done) | (simp; omega))) _) | (with_reducible refine Below.alloc ?_ (by (first | omega | (simp; done) | (simp; omega))) _) | (with_reducible refine Below.drew ?_) | (with_reducible refine below_drewN ?_ _) | (with_reducible refine Below.trans ?_ (Below.mono BR.out (by (first | omega | (simp; done) | (simp; omega)))))))⟩
        case measure => have := hqu.out; simp only [intOf]; omega
set_option maxRecDepth 100000 in
set_option maxHeartbeats 8000000 in
theorem rNamed_c {x : List UInt8} {n : Int} (h0 : -9223372036854775808 ≤ n) (h1 : n < 9223372036854775808) (w : World) :
    Calls Tryd.prog 36 #[.string ⟨(x).toArray⟩, .int .i64 n] w fun e w' => e = .returned (.string ⟨(orL x (num n)).toArray⟩) ∧ Below w.heap.size w w' := by
  by_cases hx : x = []
  · subst hx
    have HO := Lib.hid (show orL [] (num n) = num n by simp [orL])
    go_enter Tryd.func36, Tryd.ntmps36
    go_wp2_with fail
    refine (rDigits_c h0 h1 _).mono ?_
    rintro e w1 ⟨rfl, hb⟩
    go_wp2_with fail
    go_ret
    exact ⟨by rw [HO.out]; rfl, hb⟩
  · have HO := Lib.hid (show orL x (num n) = x by simp [orL, hx])
    have e0 : (x == []) = false := by simpa using hx
    go_enter Tryd.func36, Tryd.ntmps36
    go_wp2_with fail
    go_ret
    exact ⟨by first | rfl | (rw [HO.out]; rfl), by (repeat' (first | (with_reducible exact Below.refl _ _) | (with_reducible refine Below.setCell ?_ (by (first | omega | (simp; done) | (simp; omega))) _) | (with_reducible refine Below.alloc ?_ (by (first | omega | (simp; done) | (simp; omega))) _) | (with_reducible refine Below.drew ?_) | (with_reducible refine below_drewN ?_ _)))⟩
def rnums : List Int := [0, 1, 2, 3, 4, 5, 6, 7, 10, 11, 12, 20, 21, 30]
def rnames : List (List UInt8) := [[111, 107], [110, 105, 108], [97, 114, 103], [108, 111, 110, 103], [102, 111, 114, 109], [110, 111, 110, 101], [116, 104, 101, 114, 101], [102, 117, 108, 108], [112, 108, 97, 99, 101], [107, 105, 110, 100], [107, 101, 101, 112], [98, 117, 115, 121], [100, 105, 115, 107], [108, 105, 110, 101]]
theorem r_hit : ∀ i, i < 14 → ∀ n, rnums[i]? = some n → rnames[i]? = some (txt errsL n) := by
  have key : ∀ i : Fin 14, rnames[i.val]? = (rnums[i.val]?).map (txt errsL) := by decide
  intro i hi n hn
  have := key ⟨i, hi⟩
  rw [hn] at this
  exact this
theorem r_miss {n : Int} (h : ∀ i m, i < 14 → rnums[i]? = some m → n ≠ m) : txt errsL n = [] := by
  by_cases hb : 0 ≤ n ∧ n < 31
  · have key : ∀ k : Fin 31, (∃ i : Fin 14, rnums[i.val]? = some (k.val : Int)) ∨ txt errsL (k.val : Int) = [] := by decide
    obtain ⟨k, rfl⟩ := Int.eq_ofNat_of_zero_le hb.1
    rcases key ⟨k, by omega⟩ with ⟨i, hi⟩ | hk
    · exact absurd rfl (h i.val _ i.isLt hi)
    · exact hk
  · exact txt_out (by rw [show errsL.length = 31 from rfl]; exact hb)
set_option maxRecDepth 100000 in
set_option maxHeartbeats 8000000 in
theorem rError_c {n : Int} (w : World) :
    Calls Tryd.prog 19 #[.int .i64 n] w fun e w' => e = .returned (.string ⟨(txt errsL n).toArray⟩) ∧ Below w.heap.size w w' := by
  obtain ⟨x, hx⟩ : ∃ x, txt errsL n = x := ⟨_, rfl⟩
  have HX := Lib.hid hx
  rw [hx]
  clear hx
  obtain ⟨s, hs⟩ : ∃ s, w.heap.size = s := ⟨_, rfl⟩
  have HS := Lib.hid hs
  go_enter Tryd.func19, Tryd.ntmps19
  go_wp2_with fail
  refine HeldP.wp_named (S := fun W => Below w.heap.size w W ∧ (∀ i m, rnums[i]? = some m → W.cell? ⟨s, i, none⟩ = some (.int .i64 m)) ∧ Txt W (s + 1) rnames) ⟨by (repeat' (first | (with_reducible exact Below.refl _ _) | (with_reducible refine Below.setCell ?_ (by (first | omega | (simp; done) | (simp; omega))) _) | (with_reducible refine Below.alloc ?_ (by (first | omega | (simp; done) | (simp; omega))) _) | (with_reducible refine Below.drew ?_) | (with_reducible refine below_drewN ?_ _))), ?_, by subst hs; exact Txt.blk (T := 9) (vs := rnames.map sv) (by (repeat' (first | (with_reducible refine BlkP.Blk.drew ?_) | (with_reducible refine BlkP.Blk.drewN ?_ _) | (with_reducible refine BlkP.Blk.setAt (us := ?_) (by first | omega | (simp; done) | (simp; omega)) rfl ?_ ?_) | (with_reducible refine BlkP.Blk.otherAt ?_ (by first | omega | (simp; done) | (simp; omega))) | (with_reducible refine BlkP.Blk.newA' (by first | omega | (simp; done) | (simp; omega)) rfl) | (with_reducible refine BlkP.Blk.alloc ?_ _) | (exact rfl)))) rfl⟩ ?_
  · subst hs
    intro i m hm
    refine Blk.cell (T := 3) (vs := rnums.map fun n => .int .i64 n) ?_ (by rw [List.getElem?_map, hm]; rfl)
    (repeat' (first | (with_reducible refine BlkP.Blk.drew ?_) | (with_reducible refine BlkP.Blk.drewN ?_ _) | (with_reducible refine BlkP.Blk.setAt (us := ?_) (by first | omega | (simp; done) | (simp; omega)) rfl ?_ ?_) | (with_reducible refine BlkP.Blk.otherAt ?_ (by first | omega | (simp; done) | (simp; omega))) | (with_reducible refine BlkP.Blk.newA' (by first | omega | (simp; done) | (simp; omega)) rfl) | (with_reducible refine BlkP.Blk.alloc ?_ _) | (exact rfl)))
  try rw [hs]
  rintro wn ⟨hbn, hnn, hnt⟩
  try rw [← hs] at hbn
  have HB := Lib.hid hbn
  have HNN := Lib.hid hnn
  have HNT := Lib.hid hnt
  clear hbn hnn hnt hs
  go_wp2_with fail
  go_loopw [5] (fun v wr => ∃ i : Nat, v = .int .i64 (i : Nat) ∧ i ≤ 14 ∧ (∀ j m, j < i → rnums[j]? = some m → n ≠ m) ∧ wr = wn) (fun v _ => 20 - (intOf v).toNat)
  case atStart => exact ⟨0, rfl, by omega, fun j m h => by omega, rfl⟩
  case round =>
    obtain ⟨i, rfl, hi, hall, rfl⟩ := hrel
    have HALL := Lib.hid hall
    clear hall
    by_cases hin : i < 14
    · obtain ⟨m, hm⟩ : ∃ m, rnums[i]? = some m := ⟨_, List.getElem?_eq_getElem (by rw [show rnums.length = 14 from rfl]; exact hin)⟩
      have HM := Lib.hid hm
      have hc := HNN.out i m hm
      have ht := HNT.out.2 i _ (r_hit i hin m hm)
      clear hm
      by_cases hnm : n = m
      · have e0 : (n == m) = true := by simpa using hnm
        subst hnm
        rw [HX.out] at ht
        go_wp2_with fail
        go_ret
        exact ⟨rfl, HB.out⟩
      · have e0 : (n == m) = false := by simpa using hnm
        have HA2 := Lib.hid (show ∀ j m', j < i + 1 → rnums[j]? = some m' → n ≠ m' from fun j m' hj hm' => by
          by_cases hji : j < i
          · exact HALL.out j m' hji hm'
          · obtain rfl : j = i := by omega
            obtain rfl := Option.some.inj (HM.out.symm.trans hm')
            exact hnm)
        clear hnm ht
        go_wp2_with fail
        go_roundw
        case rel => exact ⟨i + 1, by first | rfl | (congr 1; omega), by omega, HA2.out, by first | rfl | trivial⟩
        case measure => simp only [intOf]; omega
    · have HE := Lib.hid (show [] = x by rw [← HX.out]; exact (r_miss fun j m hj hm => HALL.out j m (by omega) hm).symm)
      have d0 : ¬ (i : Int) < 14 := by omega
      go_wp2_with fail
      go_ret
      exact ⟨by rw [← HE.out]; rfl, HB.out⟩
end LineW
end Go.Proofs.YtcfkdddflbdfaaaDoor
