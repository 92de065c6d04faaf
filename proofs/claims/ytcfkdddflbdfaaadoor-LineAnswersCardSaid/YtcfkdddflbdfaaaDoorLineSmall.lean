/-
  Small functions of package line: numbers as digits, the lists of texts, what stands at a place of them, the first text that is not empty.
-/
import Derived.BigQuiet
import Derived.BigRegion
import Derived.Lib.Hide
import Derived.Deep.RegionHeld3
import Derived.Deep.MidRow
import Derived.Test.YtcfkdddflbdfaaaDoorLineMem
namespace Go.Proofs.YtcfkdddflbdfaaaDoor
open Go.RowKit
set_option linter.unusedVariables false
set_option linter.unusedSimpArgs false
namespace LineW
open DigP LineP BlkP RowG
open BaseP (bcell below_drewN)
set_option maxRecDepth 100000 in
set_option maxHeartbeats 8000000 in
theorem digits_int {n : Int} (h0 : -9223372036854775808 ≤ n) (h1 : n < 9223372036854775808) {w : World} (hE : Env w) :
    Calls Tryd.prog 35 #[.int .i64 n] w fun e w' => e = .returned (.string ⟨(num n).toArray⟩) ∧ Below w.heap.size w w' := by
  go_enter Tryd.func35, Tryd.ntmps35
  go_wp2_with fail
  refine (fmt_c h0 h1 hE).mono ?_
  rintro e w' ⟨rfl, hb⟩
  go_wp2_with fail
  go_ret
  exact ⟨rfl, hb⟩
set_option maxRecDepth 100000 in
set_option maxHeartbeats 8000000 in
theorem digits_errno {n : Int} (h0 : -9223372036854775808 ≤ n) (h1 : n < 9223372036854775808) {w : World} (hE : Env w) :
    Calls Tryd.prog 31 #[.int .i64 n] w fun e w' => e = .returned (.string ⟨(num n).toArray⟩) ∧ Below w.heap.size w w' := by
  go_enter Tryd.func31, Tryd.ntmps31
  go_wp2_with fail
  refine (fmt_c h0 h1 hE).mono ?_
  rintro e w' ⟨rfl, hb⟩
  go_wp2_with fail
  go_ret
  exact ⟨rfl, hb⟩
set_option maxRecDepth 100000 in
set_option maxHeartbeats 8000000 in
theorem digits_i64 {n : Int} (h0 : -9223372036854775808 ≤ n) (h1 : n < 9223372036854775808) {w : World} (hE : Env w) :
    Calls Tryd.prog 34 #[.int .i64 n] w fun e w' => e = .returned (.string ⟨(num n).toArray⟩) ∧ Below w.heap.size w w' := by
  go_enter Tryd.func34, Tryd.ntmps34
  go_wp2_with fail
  refine (fmt_c h0 h1 hE).mono ?_
  rintro e w' ⟨rfl, hb⟩
  go_wp2_with fail
  go_ret
  exact ⟨rfl, hb⟩
set_option maxRecDepth 100000 in
set_option maxHeartbeats 8000000 in
theorem digits_number {n : Int} (h0 : -9223372036854775808 ≤ n) (h1 : n < 9223372036854775808) {w : World} (hE : Env w) :
    Calls Tryd.prog 109 #[.int .i64 n] w fun e w' => e = .returned (.string ⟨(num n).toArray⟩) ∧ Below w.heap.size w w' := by
  go_enter Tryd.func109, Tryd.ntmps109
  go_wp2_with fail
  refine (fmt_c h0 h1 hE).mono ?_
  rintro e w' ⟨rfl, hb⟩
  go_wp2_with fail
  go_ret
  exact ⟨rfl, hb⟩
set_option maxRecDepth 100000 in
set_option maxHeartbeats 8000000 in
theorem digits_u8 {n : Nat} (h1 : n < 256) {w : World} (hE : Env w) :
    Calls Tryd.prog 33 #[.int .u8 (n : Int)] w fun e w' => e = .returned (.string ⟨(num (n : Int)).toArray⟩) ∧ Below w.heap.size w w' := by
  have wr : IntKind.i64.wrap (n : Int) = (n : Int) := by
    rw [IntKind.wrap_i64]
    omega
  go_enter Tryd.func33, Tryd.ntmps33
  go_wp2_with fail
  refine (fmt_c (n := (n : Int)) (by omega) (by omega) hE).mono ?_
  rintro e w' ⟨rfl, hb⟩
  go_wp2_with fail
  go_ret
  exact ⟨rfl, hb⟩
set_option maxRecDepth 100000 in
set_option maxHeartbeats 8000000 in
theorem textAt_c {w : World} {b c n : Nat} {ws : List (List UInt8)} {i : Int} {x : List UInt8} (h : Txt w b ws) (hn : ws.length = n) (hl : n ≤ 1000) (hx : txt ws i = x) :
    Calls Tryd.prog 20 #[.slice (some ⟨b, 0, none⟩) n c, .int .i64 i] w fun e w' => e = .returned (.string ⟨(x).toArray⟩) ∧ Below w.heap.size w w' := by
  have hb := h.1
  by_cases h0 : i < 0
  · obtain rfl : [] = x := by rw [← hx, txt_out (by omega)]
    clear hx
    go_enter Tryd.func20, Tryd.ntmps20
    go_wp2
    go_ret
    exact ⟨rfl, by (repeat' (first | (with_reducible exact Below.refl _ _) | (with_reducible refine Below.setCell ?_ (by (first | omega | (simp; done) | (simp; omega))) _) | (with_reducible refine Below.alloc ?_ (by (first | omega | (simp; done) | (simp; omega))) _) | (with_reducible refine Below.drew ?_) | (with_reducible refine below_drewN ?_ _)))⟩
  · obtain ⟨j, rfl⟩ := Int.eq_ofNat_of_zero_le (show 0 ≤ i by omega)
    by_cases h1 : j < n
    · obtain ⟨y, hy⟩ : ∃ y, ws[j]? = some y := ⟨_, List.getElem?_eq_getElem (by omega)⟩
      obtain rfl : y = x := by rw [← hx, txt_at hy]
      have hc := h.2 j _ hy
      have d1 : ¬ (n : Int) ≤ (j : Int) := by omega
      have d2 : (j : Int) < (n : Int) := by omega
      clear hx hy h h0
      go_enter Tryd.func20, Tryd.ntmps20
      go_wp2
      go_ret
      exact ⟨rfl, by (repeat' (first | (with_reducible exact Below.refl _ _) | (with_reducible refine Below.setCell ?_ (by (first | omega | (simp; done) | (simp; omega))) _) | (with_reducible refine Below.alloc ?_ (by (first | omega | (simp; done) | (simp; omega))) _) | (with_reducible refine Below.drew ?_) | (with_reducible refine below_drewN ?_ _)))⟩
    · obtain rfl : [] = x := by rw [← hx, txt_out (by omega)]
      have d1 : (n : Int) ≤ (j : Int) := by omega
      clear hx h0
      go_enter Tryd.func20, Tryd.ntmps20
      go_wp2
      go_ret
      exact ⟨rfl, by (repeat' (first | (with_reducible exact Below.refl _ _) | (with_reducible refine Below.setCell ?_ (by (first | omega | (simp; done) | (simp; omega))) _) | (with_reducible refine Below.alloc ?_ (by (first | omega | (simp; done) | (simp; omega))) _) | (with_reducible refine Below.drew ?_) | (with_reducible refine below_drewN ?_ _)))⟩
def opsL : List (List UInt8) := [[], [115, 101, 116], [102, 105, 108, 108], [112, 117, 115, 104], [97, 110, 99, 104, 111, 114], [108, 105, 102, 116], [116, 105, 99, 107], [108, 111, 111, 107], [114, 97, 121], [115, 97, 118, 101], [99, 111, 117, 110, 116], [99, 114, 97, 115, 104]]
set_option maxRecDepth 100000 in
set_option maxHeartbeats 8000000 in
theorem ops_c {w : World} :
    Calls Tryd.prog 21 #[] w fun e w' => (∃ b, e = .returned (.slice (some ⟨b, 0, none⟩) 12 12) ∧ w.heap.size ≤ b ∧ Txt w' b opsL) ∧ Below w.heap.size w w' := by
  go_enter Tryd.func21, Tryd.ntmps21
  go_wp2
  go_ret
  exact ⟨⟨_, rfl, Nat.le_refl _, Txt.blk (Blk.newA' rfl rfl) rfl⟩, by (repeat' (first | (with_reducible exact Below.refl _ _) | (with_reducible refine Below.setCell ?_ (by (first | omega | (simp; done) | (simp; omega))) _) | (with_reducible refine Below.alloc ?_ (by (first | omega | (simp; done) | (simp; omega))) _) | (with_reducible refine Below.drew ?_) | (with_reducible refine below_drewN ?_ _)))⟩
def dirsL : List (List UInt8) := [[101, 97, 115, 116], [119, 101, 115, 116], [115, 111, 117, 116, 104], [110, 111, 114, 116, 104], [117, 112], [100, 111, 119, 110]]
set_option maxRecDepth 100000 in
set_option maxHeartbeats 8000000 in
theorem dirs_c {w : World} :
    Calls Tryd.prog 105 #[] w fun e w' => (∃ b, e = .returned (.slice (some ⟨b, 0, none⟩) 6 6) ∧ w.heap.size ≤ b ∧ Txt w' b dirsL) ∧ Below w.heap.size w w' := by
  go_enter Tryd.func105, Tryd.ntmps105
  go_wp2
  go_ret
  exact ⟨⟨_, rfl, Nat.le_refl _, Txt.blk (Blk.newA' rfl rfl) rfl⟩, by (repeat' (first | (with_reducible exact Below.refl _ _) | (with_reducible refine Below.setCell ?_ (by (first | omega | (simp; done) | (simp; omega))) _) | (with_reducible refine Below.alloc ?_ (by (first | omega | (simp; done) | (simp; omega))) _) | (with_reducible refine Below.drew ?_) | (with_reducible refine below_drewN ?_ _)))⟩
def errsL : List (List UInt8) := [[111, 107], [110, 105, 108], [97, 114, 103], [108, 111, 110, 103], [102, 111, 114, 109], [110, 111, 110, 101], [116, 104, 101, 114, 101], [102, 117, 108, 108], [], [], [112, 108, 97, 99, 101], [107, 105, 110, 100], [107, 101, 101, 112], [], [], [], [], [], [], [], [98, 117, 115, 121], [100, 105, 115, 107], [], [], [], [], [], [], [], [], [108, 105, 110, 101]]
set_option maxRecDepth 100000 in
set_option maxHeartbeats 8000000 in
theorem errs_c {w : World} :
    Calls Tryd.prog 38 #[] w fun e w' => (∃ b, e = .returned (.slice (some ⟨b, 0, none⟩) 31 31) ∧ w.heap.size ≤ b ∧ Txt w' b errsL) ∧ Below w.heap.size w w' := by
  go_enter Tryd.func38, Tryd.ntmps38
  go_wp2
  go_ret
  exact ⟨⟨_, rfl, Nat.le_refl _, Txt.blk (Blk.newA' rfl rfl) rfl⟩, by (repeat' (first | (with_reducible exact Below.refl _ _) | (with_reducible refine Below.setCell ?_ (by (first | omega | (simp; done) | (simp; omega))) _) | (with_reducible refine Below.alloc ?_ (by (first | omega | (simp; done) | (simp; omega))) _) | (with_reducible refine Below.drew ?_) | (with_reducible refine below_drewN ?_ _)))⟩
set_option maxRecDepth 100000 in
set_option maxHeartbeats 8000000 in
theorem must_yes {w : World} :
    Calls Tryd.prog 50 #[.bool true] w fun e w' => e = .returned (.tuple #[]) ∧ w = w' := by
  go_enter Tryd.func50, Tryd.ntmps50
  go_wp2
  go_end0
  exact ⟨rfl, rfl⟩
set_option maxRecDepth 100000 in
set_option maxHeartbeats 8000000 in
theorem sentence_c {w : World} {b n c : Nat} {ws : List (List UInt8)} (h : Txt w b ws) (hn : ws.length = n) (hc : n ≤ c) (hl : n ≤ 1000) (hj : (DigP.join ws).length ≤ 100000000) :
    Calls Tryd.prog 23 #[.slice (some ⟨b, 0, none⟩) n c] w fun e w' => e = .returned (.string ⟨(DigP.join ws).toArray⟩) ∧ Below w.heap.size w w' := by
  go_enter Tryd.func23, Tryd.ntmps23
  go_wp2_with fail
  refine (join_c h hn hc hl hj).mono ?_
  rintro e w' ⟨rfl, hb⟩
  go_wp2_with fail
  go_ret
  exact ⟨rfl, hb⟩
def orL (x y : List UInt8) : List UInt8 := if x = [] then y else x
set_option maxRecDepth 100000 in
set_option maxHeartbeats 8000000 in
theorem or_c {w : World} {b c : Nat} {x y : List UInt8} (h : Txt w b [x, y]) :
    Calls Tryd.prog 30 #[.slice (some ⟨b, 0, none⟩) 2 c] w fun e w' => e = .returned (.string ⟨(orL x y).toArray⟩) ∧ Below w.heap.size w w' := by
  have c0 := h.2 0 x rfl
  have c1 := h.2 1 y rfl
  have hb := h.1
  clear h
  by_cases hx : x = []
  · subst hx
    have HO := Lib.hid (show orL [] y = y by simp [orL])
    by_cases hy : y = []
    · subst hy
      go_enter Tryd.func30, Tryd.ntmps30
      go_wp2_with fail
      go_loopw [8] (fun v wr => ∃ i : Nat, v = .int .i64 (i : Nat) ∧ i ≤ 2 ∧ wr = w) (fun v _ => 5 - (intOf v).toNat)
      case atStart => exact ⟨0, rfl, by omega, rfl⟩
      case round =>
        obtain ⟨i, rfl, hi, rfl⟩ := hrel
        have : i = 0 ∨ i = 1 ∨ i = 2 := by omega
        rcases this with rfl | rfl | rfl
        · go_wp2_with fail
          go_roundw
          case rel => exact ⟨1, rfl, by omega, by first | rfl | trivial⟩
          case measure => simp [intOf]
        · go_wp2_with fail
          go_roundw
          case rel => exact ⟨2, rfl, by omega, by first | rfl | trivial⟩
          case measure => simp [intOf]
        · go_wp2_with fail
          go_ret
          exact ⟨by first | rfl | (rw [HO.out]; rfl) | rw [HO.out], by (repeat' (first | (with_reducible exact Below.refl _ _) | (with_reducible refine Below.setCell ?_ (by (first | omega | (simp; done) | (simp; omega))) _) | (with_reducible refine Below.alloc ?_ (by (first | omega | (simp; done) | (simp; omega))) _) | (with_reducible refine Below.drew ?_) | (with_reducible refine below_drewN ?_ _)))⟩
    · have e1 : (y == []) = false := by simpa using hy
      go_enter Tryd.func30, Tryd.ntmps30
      go_wp2_with fail
      go_loopw [8] (fun v wr => ∃ i : Nat, v = .int .i64 (i : Nat) ∧ i ≤ 1 ∧ wr = w) (fun v _ => 5 - (intOf v).toNat)
      case atStart => exact ⟨0, rfl, by omega, rfl⟩
      case round =>
        obtain ⟨i, rfl, hi, rfl⟩ := hrel
        have : i = 0 ∨ i = 1 := by omega
        rcases this with rfl | rfl
        · go_wp2_with fail
          go_roundw
          case rel => exact ⟨1, rfl, by omega, by first | rfl | trivial⟩
          case measure => simp [intOf]
        · go_wp2_with fail
          go_ret
          exact ⟨by first | rfl | (rw [HO.out]; rfl) | rw [HO.out], by (repeat' (first | (with_reducible exact Below.refl _ _) | (with_reducible refine Below.setCell ?_ (by (first | omega | (simp; done) | (simp; omega))) _) | (with_reducible refine Below.alloc ?_ (by (first | omega | (simp; done) | (simp; omega))) _) | (with_reducible refine Below.drew ?_) | (with_reducible refine below_drewN ?_ _)))⟩
  · have HO := Lib.hid (show orL x y = x by simp [orL, hx])
    have e0 : (x == []) = false := by simpa using hx
    go_enter Tryd.func30, Tryd.ntmps30
    go_wp2_with fail
    go_loopw [8] (fun v wr => ∃ i : Nat, v = .int .i64 (i : Nat) ∧ i ≤ 0 ∧ wr = w) (fun v _ => 5 - (intOf v).toNat)
    case atStart => exact ⟨0, rfl, by omega, rfl⟩
    case round =>
      obtain ⟨i, rfl, hi, rfl⟩ := hrel
      obtain rfl : i = 0 := by omega
      go_wp2_with fail
      go_ret
      exact ⟨by first | rfl | (rw [HO.out]; rfl) | rw [HO.out], by (repeat' (first | (with_reducible exact Below.refl _ _) | (with_reducible refine Below.setCell ?_ (by (first | omega | (simp; done) | (simp; omega))) _) | (with_reducible refine Below.alloc ?_ (by (first | omega | (simp; done) | (simp; omega))) _) | (with_reducible refine Below.drew ?_) | (with_reducible refine below_drewN ?_ _)))⟩
set_option maxRecDepth 100000 in
set_option maxHeartbeats 8000000 in
theorem Error_c {w : World} {i : Int} {x : List UInt8} (hx : txt errsL i = x) :
    Calls Tryd.prog 18 #[.int .i64 i] w fun e w' => e = .returned (.string ⟨(x).toArray⟩) ∧ Below w.heap.size w w' := by
  go_enter Tryd.func18, Tryd.ntmps18
  go_wp2_with fail
  refine errs_c.mono ?_
  rintro e w1 ⟨⟨b, rfl, hge, ht⟩, hb1⟩
  go_wp2_with fail
  refine (textAt_c ht (by decide) (by omega) hx).mono ?_
  rintro e w2 ⟨rfl, hb2⟩
  go_wp2_with fail
  go_ret
  exact ⟨rfl, below_t hb1 hb2⟩
end LineW
end Go.Proofs.YtcfkdddflbdfaaaDoor
