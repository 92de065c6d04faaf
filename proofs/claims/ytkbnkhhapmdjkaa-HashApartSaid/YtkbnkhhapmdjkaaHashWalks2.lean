/-
  The walks of package hash and of its reference, continued: draws of places, parts.
-/
import Derived.Test.YtkbnkhhapmdjkaaHashWalks
import Derived.Deep.Draws
namespace Go.Proofs.Ytkbnkhhapmdjkaa
open Go.RowKit
set_option linter.unusedSimpArgs false
set_option linter.unusedVariables false
namespace HashW

def xorI (a b : Int) : Int := bits .xor .u64 a b
def u64 (x : Int) : Int := IntKind.u64.wrap x
/-- The row of numbers, mixed one by one. -/
def foldI (h : Int) (l : List Int) : Int := l.foldl (fun h n => mixI (xorI h n)) h
/-- The draw of a seed, a place and a time. -/
def ofI (s x y z t : Int) : Int := mixI (xorI (mixI (xorI (mixI (xorI (mixI (xorI (mixI s) (u64 x))) (u64 y))) (u64 z))) (u64 t))

theorem mixed_c {s y : Int} {b : Nat} {l : List Int} (h : foldI (mixI s) l = y) (hl : l.length ≤ 1000) (w : World) (hc : ∀ k, (h : k < l.length) → w.cell? ⟨b, k, none⟩ = some (.int .u64 l[k])) :
    Calls Try.prog 17 #[.int .u64 s, .slice (some ⟨b, 0, none⟩) l.length l.length] w fun e w' => e = .returned (.int .u64 y) ∧ w = w' := by
  subst h
  have HC := Lib.hid hc
  clear hc
  go_enter Try.func17, Try.ntmps17
  go_wp2_with fail
  go_at_call 9
  refine (mix_c rfl _).mono ?_
  rintro e w' ⟨rfl, rfl⟩
  go_wp2_with fail
  go_loop [5, 12] (fun g i => ∃ k : Nat, k ≤ l.length ∧ i = .int .i64 k ∧ g = .int .u64 (foldI (mixI s) (l.take k))) (fun _ i => l.length - (intOf i).toNat)
  case atStart => exact ⟨0, Nat.zero_le _, rfl, rfl⟩
  case round =>
    obtain ⟨k, hk, rfl, rfl⟩ := hrel
    by_cases hlt : k < l.length
    · have g := HC.out k hlt
      have E : Hid (foldI (mixI s) (l.take (k + 1)) = mixI (bits .xor .u64 (foldI (mixI s) (l.take k)) l[k])) := Lib.hid (by
        rw [List.take_succ_eq_append_getElem hlt]
        simp only [foldI, List.foldl_append, List.foldl_cons, List.foldl_nil]
        rfl)
      go_wp2_with fail
      go_at_call 9
      refine (mix_c rfl _).mono ?_
      rintro e w' ⟨rfl, rfl⟩
      go_wp2_with fail
      go_round
      case rel => exact ⟨k + 1, by omega, by go_num, by rw [E.out]⟩
      case measure => simp [intOf]; omega
    · have hk' : k = l.length := by omega
      have E : Hid (foldI (mixI s) (l.take k) = foldI (mixI s) l) := Lib.hid (by rw [List.take_of_length_le (by omega)])
      clear hk'
      go_wp2_with fail
      go_ret
      exact ⟨ret_u E.out, rfl⟩

theorem of_c {s x y z t r : Int} (h : ofI s x y z t = r) (w : World) :
    Calls Try.prog 12 #[.int .u64 s, .agg #[.int .i64 x, .int .i64 y, .int .i64 z], .int .i64 t] w fun e w' => e = .returned (.int .u64 r) ∧ Below w.heap.size w w' := by
  have H := Lib.hid h
  clear h
  go_enter Try.func12, Try.ntmps12
  go_wp2_with fail
  go_at_call 17
  refine (mixed_c (l := [u64 x, u64 y, u64 z, u64 t]) H.out (by simp) _ (fun k hk => ?_)).mono ?_
  · match k, hk with
    | 0, _ => simp [u64]
    | 1, _ => simp [u64]
    | 2, _ => simp [u64]
    | 3, _ => simp [u64]
  rintro e w' ⟨rfl, rfl⟩
  go_wp2_with fail
  go_ret
  refine ⟨rfl, ?_⟩
  (repeat' (first | (with_reducible exact Below.refl _ _) | (with_reducible refine Below.setCell ?_ (by (first | omega | (simp; done) | (simp; omega))) _) | (with_reducible refine Below.alloc ?_ (by (first | omega | (simp; done) | (simp; omega))) _) | (with_reducible refine Below.drew ?_) | (with_reducible refine below_drewN ?_ _)))

theorem r_of_c {s x y z t r : Int} (h : ofI s x y z t = r) (w : World) :
    Calls Try.prog 13 #[.int .u64 s, .agg #[.int .i64 x, .int .i64 y, .int .i64 z], .int .i64 t] w fun e w' => e = .returned (.int .u64 r) ∧ Below w.heap.size w w' := by
  have H := Lib.hid h
  clear h
  go_enter Try.func13, Try.ntmps13
  go_wp2_with (go_at_call 10; refine (r_mix_c rfl _).mono ?_; rintro e w' ⟨rfl, rfl⟩)
  go_ret
  refine ⟨ret_u H.out, ?_⟩
  (repeat' (first | (with_reducible exact Below.refl _ _) | (with_reducible refine Below.setCell ?_ (by (first | omega | (simp; done) | (simp; omega))) _) | (with_reducible refine Below.alloc ?_ (by (first | omega | (simp; done) | (simp; omega))) _) | (with_reducible refine Below.drew ?_) | (with_reducible refine below_drewN ?_ _)))

/-- Which of n parts of all numbers. -/
def belowI (h n : Int) : Int := if n < 1 then 0 else h * n / 18446744073709551616
theorem belowI_in {h n : Int} (h0 : 0 ≤ h) (h1 : h < 18446744073709551616) (hn : 1 ≤ n) : 0 ≤ belowI h n ∧ belowI h n < n := by
  unfold belowI
  rw [if_neg (by omega)]
  refine ⟨Int.ediv_nonneg (Int.mul_nonneg h0 (by omega)) (by decide), ?_⟩
  apply Int.ediv_lt_of_lt_mul (by decide)
  rw [Int.mul_comm n]
  exact Int.mul_lt_mul_of_pos_right h1 (by omega)

theorem ret_i {a b : Int} (h : a = b) : Ending.returned (.int .i64 a) = .returned (.int .i64 b) := by rw [h]
theorem i64_in (n : Int) (h : 0 ≤ n) (h' : n ≤ 9223372036854775807) : IntKind.i64.wrap n = n := by rw [IntKind.wrap_i64]; omega

theorem below_c {h n r : Int} (h0 : 0 ≤ h) (h1 : h < 18446744073709551616) (n1 : n ≤ 9223372036854775807) (e : belowI h n = r) (w : World) :
    Calls Try.prog 14 #[.int .u64 h, .int .i64 n] w fun e w' => e = .returned (.int .i64 r) ∧ w = w' := by
  subst e
  by_cases hn : n < 1
  · have E : Hid (belowI h n = 0) := Lib.hid (by simp [belowI, hn])
    go_enter Try.func14, Try.ntmps14
    go_wp2_with fail
    go_ret
    exact ⟨by rw [E.out]; rfl, rfl⟩
  · obtain ⟨a0, a1⟩ := belowI_in h0 h1 (show 1 ≤ n by omega)
    obtain ⟨a, rfl⟩ := Int.eq_ofNat_of_zero_le h0
    obtain ⟨m, rfl⟩ := Int.eq_ofNat_of_zero_le (show 0 ≤ n by omega)
    have E : Hid (wrap64 ((a : Int) * m / 18446744073709551616) = belowI a m) := Lib.hid (by
      have e : (a : Int) * m / 18446744073709551616 = belowI a m := by unfold belowI; rw [if_neg hn]
      rw [e]
      exact IntWalk.wrap64_in _ ⟨by omega, by omega⟩)
    have W : Hid (IntKind.u64.wrap (m : Int) = (m : Int)) := Lib.hid (by rw [IntKind.wrap_u64]; omega)
    go_enter Try.func14, Try.ntmps14
    go_wp2_with fail
    go_at_call 18
    refine (mul64_c (by omega) (by omega) _).mono ?_
    rintro e w' ⟨rfl, rfl⟩
    go_wp2_with fail
    go_ret
    exact ⟨ret_i E.out, rfl⟩

theorem modN (a : Nat) : (a : Int) % 4294967296 = ((a % 4294967296 : Nat) : Int) := by omega
theorem tdivN (a : Nat) : (a : Int).tdiv 4294967296 = ((a / 4294967296 : Nat) : Int) := by rw [Int.tdiv_eq_ediv_of_nonneg (by omega)]; omega
theorem tmodN (a : Nat) : (a : Int).tmod 4294967296 = ((a % 4294967296 : Nat) : Int) := by rw [Int.tmod_eq_emod_of_nonneg (by omega)]; omega

theorem r_below_c {h n r : Int} (h0 : 0 ≤ h) (h1 : h < 18446744073709551616) (n1 : n ≤ 9223372036854775807) (e : belowI h n = r) (w : World) :
    Calls Try.prog 15 #[.int .u64 h, .int .i64 n] w fun e w' => e = .returned (.int .i64 r) ∧ w = w' := by
  subst e
  by_cases hn : n < 1
  · have E : Hid (belowI h n = 0) := Lib.hid (by simp [belowI, hn])
    go_enter Try.func15, Try.ntmps15
    go_wp2_with fail
    go_ret
    exact ⟨by rw [E.out]; rfl, rfl⟩
  · obtain ⟨c0, c1⟩ := belowI_in h0 h1 (show 1 ≤ n by omega)
    obtain ⟨x, rfl⟩ := Int.eq_ofNat_of_zero_le h0
    obtain ⟨y, rfl⟩ := Int.eq_ofNat_of_zero_le (show 0 ≤ n by omega)
    have E : Hid (((x * y / 18446744073709551616 : Nat) : Int) = belowI x y) := Lib.hid (by unfold belowI; rw [if_neg hn]; rfl)
    have hx : x < 18446744073709551616 := by omega
    have hy : y < 18446744073709551616 := by omega
    obtain ⟨bd, bt, bw, hhi⟩ := Lib.mul64_hi x y hx hy
    have ba := Lib.half_mul_le (a := x / 4294967296) (b := y / 4294967296) (by omega) (by omega)
    have bb := Lib.half_mul_le (a := x / 4294967296) (b := y % 4294967296) (by omega) (by omega)
    have bc := Lib.half_mul_le (a := x % 4294967296) (b := y / 4294967296) (by omega) (by omega)
    have ba' : x / 4294967296 * (y / 4294967296) < 18446744073709551616 := by omega
    have bb' : x / 4294967296 * (y % 4294967296) < 18446744073709551616 := by omega
    have bc' : x % 4294967296 * (y / 4294967296) < 18446744073709551616 := by omega
    have bh1 : x / 4294967296 * (y / 4294967296) + (x / 4294967296 * (y % 4294967296) + x % 4294967296 * (y % 4294967296) / 4294967296) / 4294967296 < 18446744073709551616 := by omega
    have bh : x / 4294967296 * (y / 4294967296) + (x / 4294967296 * (y % 4294967296) + x % 4294967296 * (y % 4294967296) / 4294967296) / 4294967296 + ((x / 4294967296 * (y % 4294967296) + x % 4294967296 * (y % 4294967296) / 4294967296) % 4294967296 + x % 4294967296 * (y / 4294967296)) / 4294967296 < 18446744073709551616 := by omega
    go_enter Try.func15, Try.ntmps15
    go_wp2_with fail
    go_ret
    refine ⟨ret_i ?_, rfl⟩
    have q1 : x % 4294967296 * (y % 4294967296) / 4294967296 < 18446744073709551616 := by omega
    have q2 : (x / 4294967296 * (y % 4294967296) + x % 4294967296 * (y % 4294967296) / 4294967296) / 4294967296 < 18446744073709551616 := by omega
    have q3 : ((x / 4294967296 * (y % 4294967296) + x % 4294967296 * (y % 4294967296) / 4294967296) % 4294967296 + x % 4294967296 * (y / 4294967296)) / 4294967296 < 18446744073709551616 := by omega
    have cm : x % 4294967296 * (y / 4294967296) + (x / 4294967296 * (y % 4294967296) + x % 4294967296 * (y % 4294967296) / 4294967296) % 4294967296 = (x / 4294967296 * (y % 4294967296) + x % 4294967296 * (y % 4294967296) / 4294967296) % 4294967296 + x % 4294967296 * (y / 4294967296) := Nat.add_comm _ _
    simp only [divN, modN, mulN, tdivN, tmodN, wrapN _ bd, wrapN _ bb', wrapN _ bc', wrapN _ ba', addN, wrapN _ q1, wrapN _ bt, wrapN _ q2, cm, wrapN _ bw, wrapN _ q3, wrapN _ bh1, wrapN _ bh]
    rw [hhi, E.out]
    exact IntWalk.wrap64_in _ ⟨by omega, by omega⟩
end HashW
end Go.Proofs.Ytkbnkhhapmdjkaa
