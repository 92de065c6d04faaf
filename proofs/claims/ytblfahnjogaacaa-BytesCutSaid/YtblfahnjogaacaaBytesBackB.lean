/-
  Whether a thing is what is read next.
-/
import Derived.Test.YtblfahnjogaacaaBytesThg
import Derived.Test.YtblfahnjogaacaaBytesStep
namespace Go.Proofs.Ytblfahnjogaacaa
open Go.RowKit
open Go.Lib (uvarint uvarint_small uvarint_big uvarint_length64 uvarint_pos zigzag)
set_option linter.unusedVariables false
set_option linter.unusedSimpArgs false
namespace BytesW

theorem held_keep2 {w W W' : World} {p : Nat} {i : Nat} {v : Value} (hp : p < w.heap.size) (hg : W.grownBy W' (some p)) (h : W.cell? ⟨w.heap.size, i, none⟩ = some v ∧ w.heap.size < W.heap.size) : W'.cell? ⟨w.heap.size, i, none⟩ = some v ∧ w.heap.size < W'.heap.size :=
  ⟨cell_grown h.1 h.2 (by omega) hg, Nat.lt_of_lt_of_le h.2 hg.size⟩
def BackP (w : World) (p : Nat) (r : Bool × St) (e : Ending) (w' : World) : Prop := e = .returned (.bool r.1) ∧ RS w' p r.2 ∧ w.heap.size ≤ w'.heap.size ∧ ∀ B, B ≤ p → B ≤ w.heap.size → Below B w w'
theorem one_below {w w0 w1 : World} {p : Nat} (h0 : Below w.heap.size w w0) (h1 : w0.grownBy w1 (some p)) : w.heap.size ≤ w1.heap.size ∧ ∀ B, B ≤ p → B ≤ w.heap.size → Below B w w1 := by
  have a0 := h0.size
  have a1 := h1.size
  exact ⟨by omega, fun B hp hB => (h0.mono hB).grown h1 (by omega) (fun k hk => by injection hk with hk; omega)⟩
theorem wr_eq (n : Int) : IntKind.i64.wrap n = wrap64 n := by
  rw [IntKind.wrap_i64]
  unfold wrap64
  omega

theorem back_0 {w : World} {p : Nat} {s : St} {x : Thg} (hp : RS w p s) (hn : x.n < 18446744073709551616) (hs : x.s.length ≤ 9223372036854775807) (h0 : x.what.tmod 4 = 0) :
    Calls Try.prog 27 #[.pointer (some ⟨p, 0, none⟩), .agg #[.int .i64 x.what, .int .u64 x.n, .string ⟨x.s.toArray⟩]] w (BackP w p (backB s x)) := by
  obtain ⟨a, s', hv⟩ : ∃ a s', rNum s = (a, s') := ⟨_, _, rfl⟩
  have HB : Hid (backB s x = (decide (a = x.n), s')) := Lib.hid (by unfold backB; rw [if_pos h0]; rw [hv])
  have HV := Lib.hid hv
  have e0 : (x.what.tmod 4 == 0) = true := by simpa using h0
  clear h0
  rw [HB.out]
  have hb0 : Below w.heap.size w (w.alloc (.cells #[.int .i64 x.what, .int .u64 x.n, .string ⟨x.s.toArray⟩] 53)) := (Below.refl _ w).alloc (Nat.le_refl _) _
  have hp0 := hp.below hb0
  have hpl := hp.lt
  have HB0 := Lib.hid hb0
  have HN := Lib.hid hn
  have hx0 : (0 : Int) ≤ (x.n : Int) := by omega
  have hx1 : (x.n : Int) < 18446744073709551616 := by omega
  have es2 : (⟨x.s.toArray⟩ : ByteArray).size = x.s.length := by simp [ByteArray.size]
  clear hb0 hv hn
  by_cases hq : a = x.n
  · have hd : decide (a = x.n) = true := by simpa using hq
    rw [hd]
    obtain rfl : a = x.n := hq
    clear hd
    go_enter Try.func27, Try.ntmps27
    go_wp2_with fail
    go_region_held3 (fun w' => w'.cell? ⟨w.heap.size, 1, none⟩ = some (.int .u64 x.n) ∧ w.heap.size < w'.heap.size)
      (first | (refine ⟨?_, ?_⟩ <;> (first | (simp; done))) | (exact held_keep2 hpl (by assumption) (by assumption)) | assumption)
      (first
        | (go_at_call 30; refine (num_c hp0.drew HV.out).mono ?_; rintro e w1 ⟨rfl, hg1, hs1⟩))
    go_wp2_with fail
    go_ret
    exact ⟨rfl, hs1, one_below HB0.out.drew hg1⟩
  · have hd : decide (a = x.n) = false := by simpa using hq
    rw [hd]
    clear hd HB
    have k1 : ((a : Int) == (x.n : Int)) = false := by simp; omega
    have k2 : (a == x.n) = false := by simpa using hq
    go_enter Try.func27, Try.ntmps27
    go_wp2_with fail
    go_region_held3 (fun w' => w'.cell? ⟨w.heap.size, 1, none⟩ = some (.int .u64 x.n) ∧ w.heap.size < w'.heap.size)
      (first | (refine ⟨?_, ?_⟩ <;> (first | (simp; done))) | (exact held_keep2 hpl (by assumption) (by assumption)) | assumption)
      (first
        | (go_at_call 30; refine (num_c hp0.drew HV.out).mono ?_; rintro e w1 ⟨rfl, hg1, hs1⟩))
    go_wp2_with fail
    go_ret
    exact ⟨rfl, hs1, one_below HB0.out.drew hg1⟩

theorem back_1 {w : World} {p : Nat} {s : St} {x : Thg} (hp : RS w p s) (hn : x.n < 18446744073709551616) (hs : x.s.length ≤ 9223372036854775807) (h0 : ¬ x.what.tmod 4 = 0) (h1 : x.what.tmod 4 = 1) :
    Calls Try.prog 27 #[.pointer (some ⟨p, 0, none⟩), .agg #[.int .i64 x.what, .int .u64 x.n, .string ⟨x.s.toArray⟩]] w (BackP w p (backB s x)) := by
  obtain ⟨a, s', hv⟩ : ∃ a s', rInt s = (a, s') := ⟨_, _, rfl⟩
  have HB : Hid (backB s x = (decide (a = i64n x.n), s')) := Lib.hid (by unfold backB; rw [if_neg h0]; rw [if_pos h1]; rw [hv])
  have HV := Lib.hid hv
  have e0 : (x.what.tmod 4 == 0) = false := by simpa using h0
  have e1 : (x.what.tmod 4 == 1) = true := by simpa using h1
  clear h0 h1
  rw [HB.out]
  have hb0 : Below w.heap.size w (w.alloc (.cells #[.int .i64 x.what, .int .u64 x.n, .string ⟨x.s.toArray⟩] 53)) := (Below.refl _ w).alloc (Nat.le_refl _) _
  have hp0 := hp.below hb0
  have hpl := hp.lt
  have HB0 := Lib.hid hb0
  have HN := Lib.hid hn
  have hx0 : (0 : Int) ≤ (x.n : Int) := by omega
  have hx1 : (x.n : Int) < 18446744073709551616 := by omega
  have es2 : (⟨x.s.toArray⟩ : ByteArray).size = x.s.length := by simp [ByteArray.size]
  clear hb0 hv hn
  by_cases hq : a = i64n x.n
  · have hd : decide (a = i64n x.n) = true := by simpa using hq
    rw [hd]
    obtain rfl : a = IntKind.i64.wrap x.n := by rw [hq, wr_eq]; rfl
    clear hd
    go_enter Try.func27, Try.ntmps27
    go_wp2_with fail
    go_region_held3 (fun w' => w'.cell? ⟨w.heap.size, 1, none⟩ = some (.int .u64 x.n) ∧ w.heap.size < w'.heap.size)
      (first | (refine ⟨?_, ?_⟩ <;> (first | (simp; done))) | (exact held_keep2 hpl (by assumption) (by assumption)) | assumption)
      (first
        | (go_at_call 31; refine (int_c hp0.drew HV.out).mono ?_; rintro e w1 ⟨rfl, hg1, hs1⟩))
    go_wp2_with fail
    go_ret
    exact ⟨rfl, hs1, one_below HB0.out.drew hg1⟩
  · have hd : decide (a = i64n x.n) = false := by simpa using hq
    rw [hd]
    clear hd HB
    have k1 : (a == IntKind.i64.wrap x.n) = false := by rw [wr_eq]; exact beq_eq_false_iff_ne.2 hq
    go_enter Try.func27, Try.ntmps27
    go_wp2_with fail
    go_region_held3 (fun w' => w'.cell? ⟨w.heap.size, 1, none⟩ = some (.int .u64 x.n) ∧ w.heap.size < w'.heap.size)
      (first | (refine ⟨?_, ?_⟩ <;> (first | (simp; done))) | (exact held_keep2 hpl (by assumption) (by assumption)) | assumption)
      (first
        | (go_at_call 31; refine (int_c hp0.drew HV.out).mono ?_; rintro e w1 ⟨rfl, hg1, hs1⟩))
    go_wp2_with fail
    go_ret
    exact ⟨rfl, hs1, one_below HB0.out.drew hg1⟩

theorem back_2 {w : World} {p : Nat} {s : St} {x : Thg} (hp : RS w p s) (hn : x.n < 18446744073709551616) (hs : x.s.length ≤ 9223372036854775807) (h0 : ¬ x.what.tmod 4 = 0) (h1 : ¬ x.what.tmod 4 = 1) (h2 : x.what.tmod 4 = 2) :
    Calls Try.prog 27 #[.pointer (some ⟨p, 0, none⟩), .agg #[.int .i64 x.what, .int .u64 x.n, .string ⟨x.s.toArray⟩]] w (BackP w p (backB s x)) := by
  obtain ⟨a, s', hv⟩ : ∃ a s', rText s 200 = (a, s') := ⟨_, _, rfl⟩
  have HB : Hid (backB s x = (decide (a = x.s.take 200), s')) := Lib.hid (by unfold backB; rw [if_neg h0]; rw [if_neg h1]; rw [if_pos h2]; rw [hv])
  have HV := Lib.hid hv
  have e0 : (x.what.tmod 4 == 0) = false := by simpa using h0
  have e1 : (x.what.tmod 4 == 1) = false := by simpa using h1
  have e2 : (x.what.tmod 4 == 2) = true := by simpa using h2
  clear h0 h1 h2
  rw [HB.out]
  have hb0 : Below w.heap.size w (w.alloc (.cells #[.int .i64 x.what, .int .u64 x.n, .string ⟨x.s.toArray⟩] 53)) := (Below.refl _ w).alloc (Nat.le_refl _) _
  have hp0 := hp.below hb0
  have hpl := hp.lt
  have HB0 := Lib.hid hb0
  have HN := Lib.hid hn
  have hx0 : (0 : Int) ≤ (x.n : Int) := by omega
  have hx1 : (x.n : Int) < 18446744073709551616 := by omega
  have es2 : (⟨x.s.toArray⟩ : ByteArray).size = x.s.length := by simp [ByteArray.size]
  clear hb0 hv hn
  by_cases hq : a = x.s.take 200
  · have hd : decide (a = x.s.take 200) = true := by simpa using hq
    rw [hd]
    obtain rfl : a = x.s.take 200 := hq
    clear hd
    go_enter Try.func27, Try.ntmps27
    go_wp2_with fail
    go_region_held3 (fun w' => w'.cell? ⟨w.heap.size, 2, none⟩ = some (.string ⟨x.s.toArray⟩) ∧ w.heap.size < w'.heap.size)
      (first | (refine ⟨?_, ?_⟩ <;> (first | (simp; done))) | (exact held_keep2 hpl (by assumption) (by assumption)) | assumption)
      (first
        | (go_at_call 32; refine (text_c hp0.drew HV.out (by decide) (by decide)).mono ?_; rintro e w1 ⟨rfl, hg1, hs1⟩)
        | (go_at_call 10; refine (cut_c (n := 200) hs (by omega) _).mono ?_; rintro e w' ⟨rfl, rfl⟩))
    go_wp2_with fail
    go_ret
    exact ⟨rfl, hs1, one_below HB0.out.drew hg1⟩
  · have hd : decide (a = x.s.take 200) = false := by simpa using hq
    rw [hd]
    clear hd HB
    have k1 : (a == x.s.take 200) = false := by simpa using hq
    go_enter Try.func27, Try.ntmps27
    go_wp2_with fail
    go_region_held3 (fun w' => w'.cell? ⟨w.heap.size, 2, none⟩ = some (.string ⟨x.s.toArray⟩) ∧ w.heap.size < w'.heap.size)
      (first | (refine ⟨?_, ?_⟩ <;> (first | (simp; done))) | (exact held_keep2 hpl (by assumption) (by assumption)) | assumption)
      (first
        | (go_at_call 32; refine (text_c hp0.drew HV.out (by decide) (by decide)).mono ?_; rintro e w1 ⟨rfl, hg1, hs1⟩)
        | (go_at_call 10; refine (cut_c (n := 200) hs (by omega) _).mono ?_; rintro e w' ⟨rfl, rfl⟩))
    go_wp2_with fail
    go_ret
    exact ⟨rfl, hs1, one_below HB0.out.drew hg1⟩

theorem back_3 {w : World} {p : Nat} {s : St} {x : Thg} (hp : RS w p s) (hn : x.n < 18446744073709551616) (hs : x.s.length ≤ 9223372036854775807) (h0 : ¬ x.what.tmod 4 = 0) (h1 : ¬ x.what.tmod 4 = 1) (h2 : ¬ x.what.tmod 4 = 2) :
    Calls Try.prog 27 #[.pointer (some ⟨p, 0, none⟩), .agg #[.int .i64 x.what, .int .u64 x.n, .string ⟨x.s.toArray⟩]] w (BackP w p (backB s x)) := by
  obtain ⟨a, s', hv⟩ : ∃ a s', rFixed s 4 = (a, s') := ⟨_, _, rfl⟩
  have HB : Hid (backB s x = (decide (a = x.n % 4294967296), s')) := Lib.hid (by unfold backB; rw [if_neg h0]; rw [if_neg h1]; rw [if_neg h2]; rw [hv])
  have HV := Lib.hid hv
  have e0 : (x.what.tmod 4 == 0) = false := by simpa using h0
  have e1 : (x.what.tmod 4 == 1) = false := by simpa using h1
  have e2 : (x.what.tmod 4 == 2) = false := by simpa using h2
  clear h0 h1 h2
  rw [HB.out]
  have hb0 : Below w.heap.size w (w.alloc (.cells #[.int .i64 x.what, .int .u64 x.n, .string ⟨x.s.toArray⟩] 53)) := (Below.refl _ w).alloc (Nat.le_refl _) _
  have hp0 := hp.below hb0
  have hpl := hp.lt
  have HB0 := Lib.hid hb0
  have HN := Lib.hid hn
  have hx0 : (0 : Int) ≤ (x.n : Int) := by omega
  have hx1 : (x.n : Int) < 18446744073709551616 := by omega
  have es2 : (⟨x.s.toArray⟩ : ByteArray).size = x.s.length := by simp [ByteArray.size]
  have ht : (x.n : Int).tmod 4294967296 = (x.n : Int) % 4294967296 := Int.tmod_eq_emod_of_nonneg (by omega)
  clear hb0 hv hn
  by_cases hq : a = x.n % 4294967296
  · have hd : decide (a = x.n % 4294967296) = true := by simpa using hq
    rw [hd]
    obtain rfl : a = x.n % 4294967296 := hq
    clear hd
    go_enter Try.func27, Try.ntmps27
    go_wp2_with fail
    go_region_held3 (fun w' => w'.cell? ⟨w.heap.size, 1, none⟩ = some (.int .u64 x.n) ∧ w.heap.size < w'.heap.size)
      (first | (refine ⟨?_, ?_⟩ <;> (first | (simp; done))) | (exact held_keep2 hpl (by assumption) (by assumption)) | assumption)
      (first
        | (go_at_call 33; refine (fixed_c hp0.drew HV.out).mono ?_; rintro e w1 ⟨rfl, hg1, hs1⟩))
    go_wp2_with fail
    go_ret
    exact ⟨rfl, hs1, one_below HB0.out.drew hg1⟩
  · have hd : decide (a = x.n % 4294967296) = false := by simpa using hq
    rw [hd]
    clear hd HB
    have k1 : ((a : Int) == ((x.n % 4294967296 : Nat) : Int)) = false := by simp; omega
    have k2 : (a == x.n % 4294967296) = false := by simpa using hq
    have k3 : ((a : Int) == (x.n : Int) % 4294967296) = false := by simp; omega
    go_enter Try.func27, Try.ntmps27
    go_wp2_with fail
    go_region_held3 (fun w' => w'.cell? ⟨w.heap.size, 1, none⟩ = some (.int .u64 x.n) ∧ w.heap.size < w'.heap.size)
      (first | (refine ⟨?_, ?_⟩ <;> (first | (simp; done))) | (exact held_keep2 hpl (by assumption) (by assumption)) | assumption)
      (first
        | (go_at_call 33; refine (fixed_c hp0.drew HV.out).mono ?_; rintro e w1 ⟨rfl, hg1, hs1⟩))
    go_wp2_with fail
    go_ret
    exact ⟨rfl, hs1, one_below HB0.out.drew hg1⟩

theorem backB_c {w : World} {p : Nat} {s : St} {x : Thg} (hp : RS w p s) (hn : x.n < 18446744073709551616) (hs : x.s.length ≤ 9223372036854775807) :
    Calls Try.prog 27 #[.pointer (some ⟨p, 0, none⟩), .agg #[.int .i64 x.what, .int .u64 x.n, .string ⟨x.s.toArray⟩]] w (BackP w p (backB s x)) := by
  by_cases h0 : x.what.tmod 4 = 0
  · exact back_0 hp hn hs h0
  by_cases h1 : x.what.tmod 4 = 1
  · exact back_1 hp hn hs h0 h1
  by_cases h2 : x.what.tmod 4 = 2
  · exact back_2 hp hn hs h0 h1 h2
  · exact back_3 hp hn hs h0 h1 h2

/-! What was laid is read back, whatever stands behind. -/
theorem rNum_back (m : Nat) (hm : m < 18446744073709551616) (r : List UInt8) : rNum (uvarint m ++ r, false) = (m, (r, false)) := by
  rw [rNum_some (pn_yes hm (List.prefix_append _ _))]
  simp
theorem backB_good (x : Thg) (hn : x.n < 18446744073709551616) (r : List UInt8) : backB (layB x ++ r, false) x = (true, (r, false)) := by
  unfold backB layB
  by_cases h0 : x.what.tmod 4 = 0
  · rw [if_pos h0, if_pos h0, rNum_back _ hn]
    simp
  rw [if_neg h0, if_neg h0]
  by_cases h1 : x.what.tmod 4 = 1
  · rw [if_pos h1, if_pos h1]
    have hz := Lib.zigzag_lt (i64n_in x.n).1 (i64n_in x.n).2
    simp [rInt, rNum_back _ hz, zag_zig _ (i64n_in x.n).1 (i64n_in x.n).2]
  rw [if_neg h1, if_neg h1]
  by_cases h2 : x.what.tmod 4 = 2
  · rw [if_pos h2, if_pos h2]
    have ht : (x.s.take 200).length ≤ 200 := by simp; omega
    have hp : pn (uvarint (x.s.take 200).length ++ x.s.take 200 ++ r) 0 0 = some ((x.s.take 200).length, (uvarint (x.s.take 200).length).length) := pn_yes (by omega) (by rw [List.append_assoc]; exact List.prefix_append _ _)
    rw [rText_good hp ⟨by omega, by omega, by first | (simp; done) | (simp; omega)⟩]
    have e1 : (uvarint (x.s.take 200).length ++ x.s.take 200 ++ r).drop (uvarint (x.s.take 200).length).length = x.s.take 200 ++ r := by
      rw [List.append_assoc, List.drop_left]
    have e2 : (x.s.take 200 ++ r).take (x.s.take 200).length = x.s.take 200 := List.take_left
    have e3 : (x.s.take 200 ++ r).drop (x.s.take 200).length = r := List.drop_left
    rw [← List.drop_drop, e1, e2, e3]
    simp
  · rw [if_neg h2, if_neg h2]
    have e : fxI x.n 4 = fx x.n 4 := by unfold fxI; rw [if_pos (by decide)]; rfl
    rw [e]
    have hl : (fx x.n 4).length = 4 := fx_length _ _
    have e1 : (fx x.n 4 ++ r).take (4 : Int).toNat = fx x.n 4 := by
      show (fx x.n 4 ++ r).take 4 = _
      exact List.take_left' hl
    have e2 : (fx x.n 4 ++ r).drop (4 : Int).toNat = r := by
      show (fx x.n 4 ++ r).drop 4 = _
      exact List.drop_left' hl
    have e3 : rFixed (fx x.n 4 ++ r, false) 4 = (vf (fx x.n 4), (r, false)) := by
      unfold rFixed
      rw [if_neg (by simp), if_pos ⟨by decide, by decide, by simp; omega⟩]
      dsimp only
      rw [e1, e2]
    rw [e3, vf_fx]
    simp
end BytesW
end Go.Proofs.Ytblfahnjogaacaa
