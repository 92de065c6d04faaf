/-
  The walks of package bytes, its first part: what is laid behind bytes.
-/
import Derived.Test.YtknckaegpdganaaDoorBytesMem
namespace Go.Proofs.YtknckaegpdganaaDoor
open Go.RowKit
open Go.Lib (uvarint uvarint_small uvarint_big uvarint_length64 uvarint_pos zigzag)
set_option linter.unusedVariables false
set_option linter.unusedSimpArgs false
namespace BytesW

theorem ret_u {k : IntKind} {a b : Int} (h : a = b) : Ending.returned (.int k a) = .returned (.int k b) := by rw [h]
/-- What is answered: a row of the call's own. -/
def Gives (w : World) (l : List UInt8) (e : Ending) (w' : World) : Prop := ∃ v, e = .returned v ∧ Own w' w.heap.size v l ∧ Below w.heap.size w w'

theorem copied_c {w : World} {A : Option Addr} {l : List UInt8} {c room : Nat} (hA : At w A l) (hl : l.length ≤ 1000000) (hr : room ≤ 100) :
    Calls Tryd.prog 88 #[.slice A l.length c, .int .i64 room] w (Gives w l) := by
  obtain ⟨i, hi, hz, hs1, hby⟩ := info_parts info5
  have hm : maxLen = 9223372036854775807 := rfl
  have HM := Lib.hid hm
  have HS := Lib.hid hs1
  have HB := Lib.hid hby
  have HZ := Lib.hid hz
  have HI := Lib.hid hi
  clear hm hs1 hby hz hi
  go_enter Tryd.func88, Tryd.ntmps88
  go_wp2_with (first
    | (at_make; refine wpList_make_own _ rfl _ _ 94 rfl w.heap.size 5 i (.int .u8 0) 1 under26 HI.out HZ.out HS.out .i64 .i64 _ (l.length + room) rfl rfl (by omega) (by rw [HB.out]; omega) (by rw [HM.out]; omega) (Nat.le_refl _) ?_; intro w1 hown1 hg1; have hb1 : Below w.heap.size w w1 := (Below.refl _ w).grown hg1 (Nat.le_refl _) (by simp))
    | (at_builtin; refine wp_append rfl (.tmp 9) (.tmp 10) rfl (l := []) (l2 := l) rfl hown1 rfl (hA.below hb1) (by simp; omega) hb1.size ?_; intro v2 w2 hown2 hb2))
  go_ret
  exact ⟨v2, rfl, hown2, hb1.trans hb2⟩

def PutRel (w : World) (l : List UInt8) (n : Nat) (m v : Value) (wr : World) : Prop :=
  ∃ (k : Nat) (pre : List UInt8), m = .int .u64 k ∧ k < 18446744073709551616 ∧ uvarint n = pre ++ uvarint k ∧ Own wr w.heap.size v (l ++ pre) ∧ Below w.heap.size w wr
theorem put_c {w : World} {A : Option Addr} {l : List UInt8} {c n : Nat} (hA : At w A l) (hl : l.length ≤ 900000) (hn : n < 18446744073709551616) :
    Calls Tryd.prog 64 #[.slice A l.length c, .int .u64 n] w (Gives w (l ++ uvarint n)) := by
  have HU := Lib.hid (uvarint_length64 hn)
  have HN := Lib.hid hn
  clear hn
  go_enter Tryd.func64, Tryd.ntmps64
  go_wp2_with fail
  go_at_call 88
  refine (copied_c (room := 10) hA (by omega) (by omega)).mono ?_
  rintro e w1 ⟨v1, rfl, hown1, hb1⟩
  have hz1 := hb1.size
  go_wp2_with fail
  go_loopw [1, 5] (PutRel w l n) (fun m _ _ => (intOf m).toNat)
  case atStart => exact ⟨n, [], rfl, HN.out, by simp, by simpa using hown1, hb1⟩
  case round =>
    obtain ⟨k, pre, rfl, hk, he, hown, hbw⟩ := hrel
    have hp : (l ++ pre).length ≤ 900010 := by
      have h1 := HU.out
      rw [he] at h1
      simp at h1 ⊢
      omega
    have HE := Lib.hid he
    have HK := Lib.hid hk
    have hk' : (k : Int) < 18446744073709551616 := by omega
    have hz := hbw.size
    clear he hk
    obtain ⟨x, hx⟩ : ∃ x : Int, x = (k : Int) := ⟨_, rfl⟩
    rw [← hx]
    have hx0 : 0 ≤ x := by omega
    have hx1 : x < 18446744073709551616 := by omega
    have HX := Lib.hid hx
    clear hx hk'
    obtain ⟨y, hy⟩ : ∃ y : UInt8, y.toNat = if 128 ≤ k then k % 128 + 128 else k := by
      split
      · exact ⟨_, big_nat k⟩
      · exact ⟨_, small_nat (by omega)⟩
    by_cases h128 : 128 ≤ x
    · have e1 : bits .or .u8 (x % 256) 128 = y.toNat := by
        rw [if_pos (by have := HX.out; omega)] at hy
        rw [Lib.u8_or128_any _ (by omega) (by omega), hy]
        have := HX.out
        omega
      have E1 := Lib.hid e1
      have HY := Lib.hid hy
      clear e1 hy
      go_wp2_with (at_builtin; refine wp_push rfl (.tmp 10) (.tmp 14) rfl wr _ rfl rfl hown y E1.out rfl (by omega) hbw.size ?_; intro v2 w2 hown2 hb2)
      go_roundw
      case rel =>
        have hx := HX.out
        have hk := HK.out
        have hy := HY.out
        rw [if_pos (by omega)] at hy
        refine ⟨k / 128, pre ++ [y], ?_, by omega, ?_, by simpa [List.append_assoc] using hown2, hbw.trans hb2⟩
        · rw [hx]
          congr 1
        · rw [HE.out, uvarint_big (by omega), ← hy]
          simp
      case measure => simp [intOf]; omega
    · have e1 : x % 256 = y.toNat := by
        have := HX.out
        rw [if_neg (by omega)] at hy
        omega
      have E1 := Lib.hid e1
      have HY := Lib.hid hy
      clear e1 hy
      go_wp2_with (at_builtin; refine wp_push rfl (.tmp 18) (.tmp 21) rfl wr _ rfl rfl hown y ?_ rfl (by omega) hbw.size ?_; (first | exact E1.out | (have := E1.out; omega)); intro v2 w2 hown2 hb2)
      go_ret
      have hx := HX.out
      have hy := HY.out
      rw [if_neg (by omega)] at hy
      refine ⟨v2, rfl, ?_, hbw.trans hb2⟩
      have e : l ++ uvarint n = l ++ pre ++ [y] := by
        rw [HE.out, uvarint_small (by omega), ← hy]
        simp
      rw [e]
      exact hown2
end BytesW
end Go.Proofs.YtknckaegpdganaaDoor


/-
  The walks of package bytes, its first part, continued: whole numbers, texts, numbers of a width.
-/
namespace Go.Proofs.YtknckaegpdganaaDoor
open Go.RowKit
open Go.Lib (uvarint uvarint_small uvarint_big uvarint_length64 uvarint_pos zigzag)
set_option linter.unusedVariables false
set_option linter.unusedSimpArgs false
namespace BytesW

theorem put_x {w : World} {A : Option Addr} {l : List UInt8} {c n : Nat} {x : Int} (hA : At w A l) (hl : l.length ≤ 900000) (hn : n < 18446744073709551616) (hx : x = n) :
    Calls Tryd.prog 64 #[.slice A l.length c, .int .u64 x] w (Gives w (l ++ uvarint n)) := hx ▸ put_c hA hl hn

theorem xor_i64 (a b : Int) : IntKind.u64.wrap (bits .xor .i64 a b) = (((a % 18446744073709551616).toNat ^^^ (b % 18446744073709551616).toNat : Nat) : Int) := by
  show IntKind.u64.wrap (IntKind.i64.wrap ((BitVec.ofInt 64 a ^^^ BitVec.ofInt 64 b).toNat : Int)) = _
  have h := Nat.xor_lt_two_pow (n := 64) (x := (a % 18446744073709551616).toNat) (y := (b % 18446744073709551616).toNat) (by omega) (by omega)
  rw [BitVec.toNat_xor, BitVec.toNat_ofInt, BitVec.toNat_ofInt, IntKind.wrap_u64, IntKind.wrap_i64]
  have e : ((2 ^ 64 : Nat) : Int) = 18446744073709551616 := by decide
  rw [e]
  omega
theorem zig_bits {n : Int} (h0 : -9223372036854775808 ≤ n) (h1 : n ≤ 9223372036854775807) : IntKind.u64.wrap (bits .xor .i64 (wrap64 (n * 2)) (n / 9223372036854775808)) = (zigzag n : Nat) := by
  rw [xor_i64]
  unfold wrap64 zigzag
  by_cases h : 0 ≤ n
  · rw [show n / 9223372036854775808 = 0 by omega, if_pos h]
    simp
    omega
  · rw [show n / 9223372036854775808 = -1 by omega, if_neg h, Nat.xor_comm, show (-1 % 18446744073709551616 : Int).toNat = 2 ^ 64 - 1 by decide, Lib.xor_ones64 _ (by omega)]
    omega

theorem isWidth_c {k : Int} {b : Bool} (h : decide (1 ≤ k ∧ k ≤ 8) = b) (w : World) :
    Calls Tryd.prog 89 #[.int .i64 k] w fun e w' => e = .returned (.bool b) ∧ w = w' := by
  by_cases h1 : 1 ≤ k
  · by_cases h2 : k ≤ 8
    · obtain rfl : b = true := by rw [← h]; simp [h1, h2]
      clear h
      go_enter Tryd.func89, Tryd.ntmps89
      go_wp2_with fail
      go_ret
      exact ⟨rfl, rfl⟩
    · obtain rfl : b = false := by rw [← h]; simp [h1, h2]
      clear h
      go_enter Tryd.func89, Tryd.ntmps89
      go_wp2_with fail
      go_ret
      exact ⟨rfl, rfl⟩
  · obtain rfl : b = false := by rw [← h]; simp [h1]
    clear h
    go_enter Tryd.func89, Tryd.ntmps89
    go_wp2_with fail
    go_ret
    exact ⟨rfl, rfl⟩

def fxI (n : Nat) (k : Int) : List UInt8 := if 1 ≤ k ∧ k ≤ 8 then fx n k.toNat else []
def FixRel (w : World) (l : List UInt8) (n k : Nat) (m v i : Value) (wr : World) : Prop :=
  ∃ (j : Nat) (x : Int), m = .int .u64 x ∧ x = ((n / 256 ^ j : Nat) : Int) ∧ i = .int .i64 j ∧ j ≤ k ∧ Own wr w.heap.size v (l ++ fx n j) ∧ Below w.heap.size w wr
theorem putFixed_c {w : World} {A : Option Addr} {l : List UInt8} {c n : Nat} {x k : Int} (hA : At w A l) (hl : l.length ≤ 900000) (hn : n < 18446744073709551616) (hx : x = n) :
    Calls Tryd.prog 65 #[.slice A l.length c, .int .u64 x, .int .i64 k] w (Gives w (l ++ fxI n k)) := by
  have hx0 : 0 ≤ x := by omega
  have hx1 : x < 18446744073709551616 := by omega
  have HX := Lib.hid hx
  have HN := Lib.hid hn
  clear hx hn
  by_cases hk : 1 ≤ k ∧ k ≤ 8
  · have E1 := Lib.hid (show decide (1 ≤ k ∧ k ≤ 8) = true by simpa using hk)
    have HF := Lib.hid (show fxI n k = fx n k.toNat by unfold fxI; rw [if_pos hk])
    obtain ⟨h1, h2⟩ := hk
    obtain ⟨q, rfl⟩ := Int.eq_ofNat_of_zero_le (show 0 ≤ k by omega)
    go_enter Tryd.func65, Tryd.ntmps65
    go_wp2_with fail
    go_at_call 88
    refine (copied_c (room := 8) hA (by omega) (by omega)).mono ?_
    rintro e w1 ⟨v1, rfl, hown1, hb1⟩
    have hz1 := hb1.size
    go_wp2_with fail
    go_at_call 89
    refine (isWidth_c E1.out _).mono ?_
    rintro e w' ⟨rfl, rfl⟩
    go_wp2_with fail
    go_loopw [1, 7, 15] (FixRel w l n q) (fun _ _ i _ => q - (intOf i).toNat)
    case atStart => exact ⟨0, x, rfl, by simpa using HX.out, rfl, by omega, by simpa [fx] using hown1, hb1⟩
    case round =>
      obtain ⟨j, y, rfl, hy, rfl, hj, hown, hbw⟩ := hrel
      have hy0 : 0 ≤ y := by rw [hy]; exact Int.natCast_nonneg _
      have hy1 : y < 18446744073709551616 := by
        have h1 := Nat.div_le_self n (256 ^ j)
        have h2 := HN.out
        rw [hy]
        exact Int.ofNat_lt.2 (Nat.lt_of_le_of_lt h1 h2)
      have hll : (l ++ fx n j).length ≤ 900008 := by simp [fx_length]; omega
      have HY := Lib.hid hy
      have hz := hbw.size
      clear hy
      by_cases hjq : j < q
      · obtain ⟨z, hz⟩ : ∃ z : UInt8, z = (n / 256 ^ j % 256).toUInt8 := ⟨_, rfl⟩
        have e1 : y % 256 = z.toNat := by
          rw [hz, fx_byte, HY.out]
          rfl
        have E2 := Lib.hid e1
        have HZ := Lib.hid hz
        clear e1 hz
        go_wp2_with (at_builtin; refine wp_push rfl (.tmp 17) (.tmp 20) rfl wr _ rfl rfl hown z E2.out rfl (by omega) hbw.size ?_; intro v2 w2 hown2 hb2)
        go_roundw
        case rel =>
          refine ⟨j + 1, _, rfl, ?_, by go_num, by omega, ?_, hbw.trans hb2⟩
          · rw [HY.out, Nat.pow_succ, ← Nat.div_div_eq_div_mul]
            rfl
          · rw [HZ.out] at hown2
            simpa [fx, List.append_assoc] using hown2
        case measure => simp [intOf]; omega
      · have : j = q := by omega
        subst this
        go_wp2_with fail
        go_ret
        refine ⟨_, rfl, ?_, hbw⟩
        rw [HF.out]
        simpa using hown
  · have E1 := Lib.hid (show decide (1 ≤ k ∧ k ≤ 8) = false by simpa using hk)
    have HF := Lib.hid (show l ++ fxI n k = l by unfold fxI; rw [if_neg hk]; simp)
    clear hk
    go_enter Tryd.func65, Tryd.ntmps65
    go_wp2_with fail
    go_at_call 88
    refine (copied_c (room := 8) hA (by omega) (by omega)).mono ?_
    rintro e w1 ⟨v1, rfl, hown1, hb1⟩
    go_wp2_with fail
    go_at_call 89
    refine (isWidth_c E1.out _).mono ?_
    rintro e w' ⟨rfl, rfl⟩
    go_wp2_with fail
    go_ret
    exact ⟨v1, rfl, by rw [HF.out]; exact hown1, hb1⟩
end BytesW
end Go.Proofs.YtknckaegpdganaaDoor


/-
  slices.Clone, NewReader; whether a reader is sound, whether it has ended, what is left.
-/
namespace Go.Proofs.YtknckaegpdganaaDoor
open Go.RowKit
open Go.Lib (uvarint uvarint_small uvarint_big uvarint_length64 uvarint_pos zigzag)
set_option linter.unusedVariables false
set_option linter.unusedSimpArgs false
namespace BytesW

theorem clone_C {w : World} {A : Option Addr} {l : List UInt8} {c : Nat} (hA : AtC w A l) (hl : l.length ≤ 1000000) :
    Calls Tryd.prog 95 #[.slice A l.length c] w (Gives w l) := by
  have q26 : ∀ (w : World) (a : Option Addr) (n c n' c' : Nat), (binOp .eql 94 (.slice a n c) (.slice none n' c')).run Tryd.prog w = .ok (.bool a.isNone) w := fun w a n c n' c' => Lib.run_eql_slice_nil w _ _ a n c n' c' under26
  rcases A with _ | ad
  · have h0 : l = [] := by
      rcases l with _ | ⟨y, l2⟩
      · rfl
      · obtain ⟨b, o, hA, _⟩ := hA (by simp)
        cases hA
    subst h0
    go_enter Tryd.func95, Tryd.ntmps95
    go_wp2_with fail
    go_ret
    exact ⟨_, rfl, Own.nil _ _, Below.refl _ _⟩
  · have hown : ∀ cs, cs = #[] → Own (w.alloc (.cells cs 5)) w.heap.size (.slice (some ⟨w.heap.size, 0, none⟩) 0 0) [] := fun cs h => by
      subst h
      exact World.ownsRow_made w #[] 0 (Nat.le_refl _) (by simp [maxLen]) rfl
    have HO := Lib.hid hown
    clear hown
    go_enter Tryd.func95, Tryd.ntmps95
    go_wp2_with (at_builtin; refine wp_appendC rfl (.tmp 5) (.tmp 6) rfl (l := []) (l2 := l) rfl (HO.out _ rfl) rfl (hA.below ((Below.refl _ w).alloc (Nat.le_refl _) _)) (by simp; omega) (by simp) ?_; intro v2 w2 hown2 hb2)
    go_ret
    exact ⟨v2, rfl, hown2, ((Below.refl _ w).alloc (Nat.le_refl _) _).trans hb2⟩

theorem clone_c {w : World} {A : Option Addr} {l : List UInt8} {c : Nat} (hA : At w A l) (hl : l.length ≤ 1000000) :
    Calls Tryd.prog 95 #[.slice A l.length c] w (Gives w l) := clone_C hA.c hl

/-- A new reader: its block is new, and so are its bytes. -/
def Made (w : World) (l : List UInt8) (e : Ending) (w' : World) : Prop := ∃ p, e = .returned (.pointer (some ⟨p, 0, none⟩)) ∧ RS w' p (l, false) ∧ w.heap.size ≤ p ∧ p < w'.heap.size ∧ Below w.heap.size w w'
theorem newReader_C {w : World} {A : Option Addr} {l : List UInt8} {c : Nat} (hA : AtC w A l) (hl : l.length ≤ 1000000) :
    Calls Tryd.prog 73 #[.slice A l.length c] w (Made w l) := by
  go_enter Tryd.func73, Tryd.ntmps73
  go_wp2_with fail
  go_at_call 95
  refine (clone_C hA hl).mono ?_
  rintro e w1 ⟨v1, rfl, hown1, hb1⟩
  obtain ⟨A1, c1, rfl, hA1, hc1, hc2⟩ := hown1.sl
  have hz := hb1.size
  go_wp2_with fail
  go_ret
  exact ⟨w1.heap.size, rfl, ⟨A1, c1, heap_alloc_new w1 _, hA1.below ((Below.refl _ w1).alloc (Nat.le_refl _) _), hc1, hc2, hl⟩, hz, by simp, hb1.trans ((Below.refl _ w1).alloc (Nat.le_refl _) _ |>.mono hz)⟩

theorem newReader_c {w : World} {A : Option Addr} {l : List UInt8} {c : Nat} (hA : At w A l) (hl : l.length ≤ 1000000) :
    Calls Tryd.prog 73 #[.slice A l.length c] w (Made w l) := newReader_C hA.c hl

theorem Rdr.cell {w : World} {p c : Nat} {A : Option Addr} {l : List UInt8} {b : Bool} (h : Rdr w p A l c b) : w.cell? ⟨p, 0, none⟩ = some (.slice A l.length c) ∧ w.cell? ⟨p, 1, none⟩ = some (.int .u8 (stv b)) ∧ w.frozen? ⟨p, 0, none⟩ = false ∧ w.frozen? ⟨p, 1, none⟩ = false := by
  have hb := h.1
  refine ⟨cell_of_row w p 0 _ _ _ hb, cell_of_row w p 1 _ _ _ hb, ?_, ?_⟩ <;> simp [World.frozen?, hb]
theorem isSound_c {w : World} {p c : Nat} {A : Option Addr} {l : List UInt8} {b r : Bool} (h : Rdr w p A l c b) (hr : (!b) = r) :
    Calls Tryd.prog 96 #[.pointer (some ⟨p, 0, none⟩)] w fun e w' => e = .returned (.bool r) ∧ w = w' := by
  subst hr
  obtain ⟨_, c1, _, _⟩ := h.cell
  clear h
  cases b
  · have c1 : w.cell? ⟨p, 1, none⟩ = some (.int .u8 1) := c1
    go_enter Tryd.func96, Tryd.ntmps96
    go_wp2_with fail
    go_ret
    exact ⟨rfl, rfl⟩
  · have c1 : w.cell? ⟨p, 1, none⟩ = some (.int .u8 2) := c1
    go_enter Tryd.func96, Tryd.ntmps96
    go_wp2_with fail
    go_ret
    exact ⟨rfl, rfl⟩
end BytesW
end Go.Proofs.YtknckaegpdganaaDoor


/-
  A reader goes over its next bytes; the number with which bytes begin; the end.
-/
namespace Go.Proofs.YtknckaegpdganaaDoor
open Go.RowKit
open Go.Lib (uvarint uvarint_small uvarint_big uvarint_length64 uvarint_pos zigzag)
set_option linter.unusedVariables false
set_option linter.unusedSimpArgs false
namespace BytesW

theorem grown_set (w : World) (p i : Nat) (v : Value) : w.grownBy (w.setCell ⟨p, i, none⟩ v) (some p) :=
  ⟨rfl, rfl, rfl, by simp [World.setCell], fun k hk hne => Below.heap_setCell _ _ _ _ (fun e => hne (by rw [e]))⟩
theorem heap_set {w : World} {p : Nat} {cs : Array Value} {t : TypeId} {fr : Nat × Nat} (h : w.heap[p]? = some (.cells cs t fr)) (i : Nat) (v : Value) : (w.setCell ⟨p, i, none⟩ v).heap[p]? = some (.cells (cs.setIfInBounds i v) t fr) := by
  simp [World.setCell, Array.getElem?_modify, h]
theorem Rdr.set1 {w : World} {p c : Nat} {A : Option Addr} {l : List UInt8} {b : Bool} (h : Rdr w p A l c b) (b' : Bool) : Rdr (w.setCell ⟨p, 1, none⟩ (.int .u8 (stv b'))) p A l c b' :=
  ⟨by rw [heap_set h.1]; rfl, h.2.1.grown h.1 (by decide) (grown_set _ _ _ _), h.2.2⟩
theorem Rdr.set0 {w : World} {p c c' : Nat} {A A' : Option Addr} {l l' : List UInt8} {b : Bool} (h : Rdr w p A l c b) (hA : At w A' l') (h1 : l'.length ≤ c') (h2 : c' ≤ maxLen) (h3 : l'.length ≤ 1000000) : Rdr (w.setCell ⟨p, 0, none⟩ (.slice A' l'.length c')) p A' l' c' b :=
  ⟨by rw [heap_set h.1]; rfl, hA.grown h.1 (by decide) (grown_set _ _ _ _), h1, h2, h3⟩
theorem Rdr.below {w w' : World} {p c : Nat} {A : Option Addr} {l : List UInt8} {b : Bool} (h : Rdr w p A l c b) (hb : Below w.heap.size w w') : Rdr w' p A l c b := ⟨(hb.block p (lt_of_heap h.1)).trans h.1, h.2.1.below hb, h.2.2⟩
theorem RS.below {w w' : World} {p : Nat} {s : St} (h : RS w p s) (hb : Below w.heap.size w w') : RS w' p s := by
  obtain ⟨A, c, h⟩ := h
  exact ⟨A, c, h.below hb⟩
theorem RS.len {w : World} {p : Nat} {s : St} (h : RS w p s) : s.1.length ≤ 1000000 := by
  obtain ⟨A, c, h⟩ := h
  exact h.2.2.2.2
theorem RS.lt {w : World} {p : Nat} {s : St} (h : RS w p s) : p < w.heap.size := by
  obtain ⟨A, c, h⟩ := h
  exact lt_of_heap h.1
theorem grown_below {w w1 w2 : World} {p : Nat} (h : w.grownBy w1 (some p)) (hb : Below w1.heap.size w1 w2) : w.grownBy w2 (some p) :=
  h.trans ⟨hb.os, hb.tape, hb.output, hb.size, fun k hk _ => hb.block k hk⟩
theorem below_grown {w w1 w2 : World} {p : Nat} (hb : Below w.heap.size w w1) (h : w1.grownBy w2 (some p)) : w.grownBy w2 (some p) :=
  World.grownBy.trans (b := w1) ⟨hb.os, hb.tape, hb.output, hb.size, fun k hk _ => hb.block k hk⟩ h

/-- What is answered, of bytes; the reader behind it. -/
def NextP (w : World) (p : Nat) (r : List UInt8 × St) (e : Ending) (w' : World) : Prop :=
  ∃ A c, e = .returned (.slice A r.1.length c) ∧ At w' A r.1 ∧ r.1.length ≤ c ∧ c ≤ maxLen ∧ w.grownBy w' (some p) ∧ RS w' p r.2
theorem next_c {w : World} {p : Nat} {s : St} {n : Int} {r : List UInt8 × St} (h : RS w p s) (hr : rStep s n = r) :
    Calls Tryd.prog 98 #[.pointer (some ⟨p, 0, none⟩), .int .i64 n] w (NextP w p r) := by
  subst hr
  obtain ⟨l, b⟩ := s
  obtain ⟨A, c, h⟩ := h
  obtain ⟨c0, c1, f0, f1⟩ := h.cell
  have H := Lib.hid h
  have hl1 := h.2.2.1
  have hl2 := h.2.2.2.1
  have hl3 := h.2.2.2.2
  simp only at hl1 hl2 hl3
  unfold maxLen at hl2
  have HA := Lib.hid h.2.1
  clear h
  cases b
  · by_cases hn : 0 ≤ n ∧ n ≤ (l.length : Int)
    · have HR := Lib.hid (show rStep (l, false) n = (l.take n.toNat, (l.drop n.toNat, false)) by simp [rStep, hn])
      obtain ⟨hn0, hn1⟩ := hn
      obtain ⟨k, rfl⟩ := Int.eq_ofNat_of_zero_le hn0
      have hk : k ≤ l.length := by omega
      clear hn0
      go_enter Tryd.func98, Tryd.ntmps98
      go_wp2_with (first
        | (go_at_call 96; refine (isSound_c H.out rfl).mono ?_; rintro e w' ⟨rfl, rfl⟩)
        | ((with_reducible refine at_slot 28 ?_); refine wp_upto rfl (.tmp 26) (.tmp 27) rfl rfl rfl (by omega) (by omega) hl1 ?_)
        | ((with_reducible refine at_slot 35 ?_); refine wp_from rfl (.tmp 33) (.tmp 34) rfl (k := k) rfl rfl HA.out hk hl1 ?_; intro A2 hA2))
      go_ret
      have e1 : (l.take k).length = k := by simp; omega
      have e2 : (l.drop k).length = l.length - k := by simp
      have hs := H.out.set0 (A' := A2) (l' := l.drop k) (c' := c - k) hA2 (by omega) (by unfold maxLen; omega) (by omega)
      rw [e2] at hs
      rw [HR.out]
      refine ⟨A, c, ?_, ?_, by simp; omega, by unfold maxLen; omega, grown_set _ _ _ _, ⟨_, _, hs⟩⟩
      · simp [e1]
      · exact (HA.out.take _).grown H.out.1 (by decide) (grown_set _ _ _ _)
    · have HR := Lib.hid (show rStep (l, false) n = ([], (l, true)) by simp only [rStep]; rw [if_neg (by simp), if_neg hn])
      rw [HR.out]
      by_cases h0 : n < 0
      · clear hn
        go_enter Tryd.func98, Tryd.ntmps98
        go_wp2_with (go_at_call 96; refine (isSound_c H.out rfl).mono ?_; rintro e w' ⟨rfl, rfl⟩)
        go_ret
        exact ⟨none, 0, rfl, At.nil, by simp, by simp [maxLen], grown_set _ _ _ _, ⟨_, _, H.out.set1 true⟩⟩
      · have h1 : (l.length : Int) < n := by omega
        clear hn
        go_enter Tryd.func98, Tryd.ntmps98
        go_wp2_with (go_at_call 96; refine (isSound_c H.out rfl).mono ?_; rintro e w' ⟨rfl, rfl⟩)
        go_ret
        exact ⟨none, 0, rfl, At.nil, by simp, by simp [maxLen], grown_set _ _ _ _, ⟨_, _, H.out.set1 true⟩⟩
  · have HR := Lib.hid (show rStep (l, true) n = ([], (l, true)) by simp [rStep])
    rw [HR.out]
    go_enter Tryd.func98, Tryd.ntmps98
    go_wp2_with (go_at_call 96; refine (isSound_c H.out rfl).mono ?_; rintro e w' ⟨rfl, rfl⟩)
    go_ret
    exact ⟨none, 0, rfl, At.nil, by simp, by simp [maxLen], World.grownBy.refl _ _, ⟨_, _, H.out⟩⟩

theorem ret_2 {a b c d : Int} (h : a = b) (h2 : c = d) : Ending.returned (.tuple #[.int .u64 a, .int .i64 c]) = .returned (.tuple #[.int .u64 b, .int .i64 d]) := by rw [h, h2]
theorem or_pow {y z : Int} {acc v s : Nat} (hy : y = acc) (hz : z = v) (ha : acc < 2 ^ s) (ha2 : acc < 18446744073709551616) (hv : v * 2 ^ s < 18446744073709551616) :
    bits .or .u64 y (IntKind.u64.wrap (z * 2 ^ s)) = ((acc + v * 2 ^ s : Nat) : Int) := by
  subst hy hz
  have e : ((v : Int) * 2 ^ s) = ((v * 2 ^ s : Nat) : Int) := by simp
  have e2 : IntKind.u64.wrap ((v * 2 ^ s : Nat) : Int) = ((v * 2 ^ s : Nat) : Int) := by rw [IntKind.wrap_u64]; omega
  rw [e, e2, bits_or_u64_nat _ _ ha2 hv, Nat.or_comm, Nat.mul_comm v, ← Nat.two_pow_add_eq_or_of_lt ha, Nat.add_comm]
theorem mul_small {m s b : Nat} (h : m ≤ b) (c : Nat) (hc : b * 2 ^ s < c) : m * 2 ^ s < c := Nat.lt_of_le_of_lt (Nat.mul_le_mul_right _ h) hc
def ansN : Option (Nat × Nat) → Int | none => 0 | some (n, _) => n
def ansK : Option (Nat × Nat) → Int | none => -1 | some (_, k) => k
def NumRel (l : List UInt8) (n s i : Value) : Prop :=
  ∃ (k acc : Nat) (y : Int), i = .int .i64 k ∧ n = .int .u64 y ∧ s = .int .i64 ((7 * k : Nat) : Int) ∧ y = acc ∧ k ≤ l.length ∧ k ≤ 9 ∧ acc < 2 ^ (7 * k) ∧ pn (l.drop k) k acc = pn l 0 0
theorem number_c {w : World} {A : Option Addr} {l : List UInt8} {c : Nat} {r : Option (Nat × Nat)} (hA : At w A l) (hl : l.length ≤ 1000000) (h : pn l 0 0 = r) :
    Calls Tryd.prog 97 #[.slice A l.length c] w fun e w' => e = .returned (.tuple #[.int .u64 (ansN r), .int .i64 (ansK r)]) ∧ w = w' := by
  have HA := Lib.hid hA
  have HR := Lib.hid h
  clear hA h
  go_enter Tryd.func97, Tryd.ntmps97
  go_wp2_with fail
  go_loop [2, 4, 9] (NumRel l) (fun _ _ i => l.length - (intOf i).toNat)
  case atStart => exact ⟨0, 0, 0, rfl, rfl, rfl, rfl, by omega, by omega, by simp, by simp⟩
  case round =>
    obtain ⟨k, acc, y, rfl, rfl, rfl, hy, hk, hk9, hacc, hpn⟩ := hrel
    have hpow : 2 ^ (7 * k) ≤ 9223372036854775808 := Nat.le_trans (Nat.pow_le_pow_right (by omega) (show 7 * k ≤ 63 by omega)) (by decide)
    have hy0 : 0 ≤ y := by omega
    have hy1 : y < 9223372036854775808 := by omega
    have HY := Lib.hid hy
    have HACC := Lib.hid hacc
    have HPN := Lib.hid hpn
    clear hy hacc hpn hpow
    by_cases hkl : k < l.length
    · obtain ⟨b, o, rfl, hc⟩ := HA.out.cells (fun e => by rw [e] at hkl; simp at hkl)
      have HC := Lib.hid hc
      clear hc
      obtain ⟨m, hm⟩ : ∃ m : Nat, m = (l[k]'hkl).toNat := ⟨_, rfl⟩
      obtain ⟨z, hz⟩ : ∃ z : Int, z = (m : Int) := ⟨_, rfl⟩
      have g1 : w.cell? ⟨b, o + k, none⟩ = some (.int .u8 z) := by rw [hz, hm]; exact HC.out k _ (List.getElem?_eq_getElem hkl)
      have hb := (l[k]'hkl).toNat_lt
      have hz0 : 0 ≤ z := by omega
      have hz1 : z < 256 := by omega
      have HD : Hid (pn (l.drop k) k acc = if k = 9 ∧ 1 < m then none else if 128 ≤ m then pn (l.drop (k + 1)) (k + 1) (acc + m % 128 * 2 ^ (7 * k)) else if m = 0 ∧ 0 < k then none else some (acc + m % 128 * 2 ^ (7 * k), k + 1)) := Lib.hid (by
        rw [List.drop_eq_getElem_cons hkl]
        simp only [pn, hm])
      have HZ := Lib.hid hz
      clear hz hb hm
      by_cases h9 : k = 9 ∧ 1 < z
      · have hr : r = none := by
          rw [← HR.out, ← HPN.out, HD.out, if_pos ⟨h9.1, by have := HZ.out; omega⟩]
        subst hr
        obtain ⟨rfl, h1z⟩ := h9
        go_wp2_with fail
        go_ret2
        exact ⟨rfl, rfl⟩
      · have HN9 : Hid (¬ (k = 9 ∧ 1 < m)) := Lib.hid (by have := HZ.out; omega)
        by_cases h128 : 128 ≤ z
        · have hk8 : k < 9 := by omega
          have hne : ((k : Int) == 9) = false := by simp; omega
          clear h9
          go_wp2_with fail
          go_round
          case rel =>
            refine ⟨k + 1, acc + m % 128 * 2 ^ (7 * k), _, by go_num, rfl, by (first | go_num | (congr 1; omega)), ?_, by omega, by omega, ?_, ?_⟩
            · refine or_pow HY.out (by have := HZ.out; omega) HACC.out (by have := HY.out; omega) (mul_small (b := 127) (by omega) _ ?_)
              exact Nat.lt_of_le_of_lt (Nat.mul_le_mul_left 127 (Nat.pow_le_pow_right (by omega) (show 7 * k ≤ 56 by omega))) (by decide)
            · have h1 := HACC.out
              have h2 := Nat.mul_le_mul_right (2 ^ (7 * k)) (show m % 128 ≤ 127 by omega)
              rw [pow_step]
              omega
            · rw [← HPN.out, HD.out, if_neg HN9.out, if_pos (by have := HZ.out; omega)]
          case measure => simp [intOf]; omega
        · by_cases h0 : z = 0 ∧ 0 < k
          · have hr : r = none := by
              rw [← HR.out, ← HPN.out, HD.out, if_neg HN9.out, if_neg (by have := HZ.out; omega), if_pos ⟨by have := HZ.out; omega, h0.2⟩]
            subst hr
            obtain ⟨rfl, hk0⟩ := h0
            go_wp2_with fail
            all_goals
              go_ret2
              exact ⟨rfl, rfl⟩
          · have hr : r = some (acc + m % 128 * 2 ^ (7 * k), k + 1) := by
              rw [← HR.out, ← HPN.out, HD.out, if_neg HN9.out, if_neg (by have := HZ.out; omega), if_neg (by have := HZ.out; omega)]
            subst hr
            have HE : Hid (bits .or .u64 y (IntKind.u64.wrap (z % 128 * 2 ^ (7 * k))) = ((acc + m % 128 * 2 ^ (7 * k) : Nat) : Int)) := Lib.hid (by
              refine or_pow HY.out (by have := HZ.out; omega) HACC.out (by have := HY.out; omega) ?_
              by_cases e9 : k = 9
              · subst e9
                have := HZ.out
                exact mul_small (b := 1) (by omega) _ (by decide)
              · refine mul_small (b := 127) (by omega) _ ?_
                exact Nat.lt_of_le_of_lt (Nat.mul_le_mul_left 127 (Nat.pow_le_pow_right (by omega) (show 7 * k ≤ 56 by omega))) (by decide))
            by_cases hz : z = 0
            · have hk0 : k = 0 := by omega
              subst hz
              clear h0 h9
              subst hk0
              have hy0 : y = 0 := by have h1 := HACC.out; have h2 := HY.out; simp at h1; omega
              subst hy0
              have hm0 : m = 0 := by have := HZ.out; omega
              subst hm0
              have hacc0 : acc = 0 := by have h1 := HACC.out; simp at h1; omega
              subst hacc0
              rw [Nat.add_zero] at g1
              go_wp2_with fail
              go_ret2
              exact ⟨rfl, rfl⟩
            · have hne : (z == 0) = false := by simpa using hz
              have hne9 : k = 9 → z ≤ 1 := by omega
              clear h0 h9
              by_cases e9 : k = 9
              · subst e9
                have hz2 := hne9 rfl
                clear hne9
                have HE9 : Hid (bits .or .u64 y (z % 128 * 9223372036854775808) = ansN (some (acc + m % 128 * 9223372036854775808, 10))) := Lib.hid (by
                  have h := HE.out
                  rw [show (2 : Int) ^ (7 * 9) = 9223372036854775808 by decide, show (2 : Nat) ^ (7 * 9) = 9223372036854775808 by decide, IntKind.wrap_u64, Int.emod_eq_of_lt (by omega) (by omega)] at h
                  exact h)
                go_wp2_with fail
                go_ret2
                exact ⟨ret_2 HE9.out rfl, rfl⟩
              · have hne2 : ((k : Int) == 9) = false := by simp; omega
                clear hne9
                go_wp2_with fail
                go_ret2
                exact ⟨ret_2 HE.out rfl, rfl⟩
    · have hr : r = none := by
        rw [← HR.out, ← HPN.out, List.drop_eq_nil_of_le (by omega)]
        rfl
      subst hr
      go_wp2_with fail
      go_ret2
      exact ⟨rfl, rfl⟩
theorem rNum_none {l : List UInt8} (h : pn l 0 0 = none) : rNum (l, false) = (0, (l, true)) := by simp [rNum, h]
theorem rNum_some {l : List UInt8} {m k : Nat} (h : pn l 0 0 = some (m, k)) : rNum (l, false) = (m, (l.drop k, false)) := by simp [rNum, h]
theorem rNum_lt (s : St) : (rNum s).1 < 18446744073709551616 := by
  unfold rNum
  split
  · show 0 < 18446744073709551616
    omega
  · split
    · rename_i h
      exact (pn_some h).1
    · show 0 < 18446744073709551616
      omega
end BytesW
end Go.Proofs.YtknckaegpdganaaDoor


/-
  What is asked of a reader of the program.
-/
namespace Go.Proofs.YtknckaegpdganaaDoor
open Go.RowKit
open Go.Lib (uvarint uvarint_small uvarint_big uvarint_length64 uvarint_pos zigzag)
set_option linter.unusedVariables false
set_option linter.unusedSimpArgs false
namespace BytesW

theorem rStep_le {s : St} {n : Int} : (rStep s n).1.length ≤ s.1.length := by
  unfold rStep
  split
  · simp
  · split
    · simp; omega
    · simp
/-- A number is answered; the reader behind it. -/
def NumP (k : IntKind) (w : World) (p : Nat) (a : Int) (s : St) (e : Ending) (w' : World) : Prop := e = .returned (.int k a) ∧ w.grownBy w' (some p) ∧ RS w' p s
theorem num_c {w : World} {p : Nat} {s : St} {r : Nat × St} (h : RS w p s) (hr : rNum s = r) :
    Calls Tryd.prog 75 #[.pointer (some ⟨p, 0, none⟩)] w (NumP .u64 w p r.1 r.2) := by
  subst hr
  obtain ⟨l, b⟩ := s
  have HS := Lib.hid h
  obtain ⟨A, c, h⟩ := h
  have H := Lib.hid h
  obtain ⟨c0, c1, f0, f1⟩ := h.cell
  dsimp only at c0 c1
  have hl := h.2.2.2.2
  dsimp only at hl
  clear h
  cases b
  · have c1 : w.cell? ⟨p, 1, none⟩ = some (.int .u8 1) := c1
    have HA := Lib.hid H.out.2.1
    obtain ⟨q, hq⟩ : ∃ q, pn l 0 0 = q := ⟨_, rfl⟩
    have HQ := Lib.hid hq
    rcases q with _ | ⟨m, k⟩
    · have HST := Lib.hid (show rStep (l, false) (-1) = ([], (l, true)) by simp [rStep])
      rw [rNum_none hq]
      clear hq
      go_enter Tryd.func75, Tryd.ntmps75
      go_wp2_with (first
        | (go_at_call 96; refine (isSound_c H.out rfl).mono ?_; rintro e w' ⟨rfl, rfl⟩)
        | (go_at_call 97; refine (number_c HA.out hl HQ.out).mono ?_; rintro e w' ⟨rfl, rfl⟩)
        | (go_at_call 98; refine (next_c HS.out HST.out).mono ?_; rintro e w1 ⟨A1, d1, rfl, hA1, h1, h2, hg1, hs1⟩))
      go_ret
      exact ⟨rfl, hg1, hs1⟩
    · obtain ⟨hk1, hk2, hk3⟩ := pn_le hq
      have e := rNum_some hq
      rw [e]
      clear e
      have HST := Lib.hid (show rStep (l, false) (k : Int) = (l.take k, (l.drop k, false)) by simp [rStep]; omega)
      clear hq
      go_enter Tryd.func75, Tryd.ntmps75
      go_wp2_with (first
        | (go_at_call 96; refine (isSound_c H.out rfl).mono ?_; rintro e w' ⟨rfl, rfl⟩)
        | (go_at_call 97; refine (number_c HA.out hl HQ.out).mono ?_; rintro e w' ⟨rfl, rfl⟩)
        | (go_at_call 98; refine (next_c HS.out HST.out).mono ?_; rintro e w1 ⟨A1, d1, rfl, hA1, h1, h2, hg1, hs1⟩))
      go_ret
      exact ⟨rfl, hg1, hs1⟩
  · have HR := Lib.hid (show rNum (l, true) = (0, (l, true)) by simp [rNum])
    rw [HR.out]
    go_enter Tryd.func75, Tryd.ntmps75
    go_wp2_with (go_at_call 96; refine (isSound_c H.out rfl).mono ?_; rintro e w' ⟨rfl, rfl⟩)
    go_ret
    exact ⟨rfl, World.grownBy.refl _ _, HS.out⟩

end BytesW
end Go.Proofs.YtknckaegpdganaaDoor
