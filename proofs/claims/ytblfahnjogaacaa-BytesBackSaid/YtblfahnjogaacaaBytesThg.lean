/-
  Things: what is laid, and whether it is what is read next.
-/
import Derived.Test.YtblfahnjogaacaaBytesText
import Derived.Test.YtblfahnjogaacaaBytesFixed
import Derived.Test.YtblfahnjogaacaaBytesLaw
import Derived.Deep.RegionHeld3
namespace Go.Proofs.Ytblfahnjogaacaa
open Go.RowKit
open Go.Lib (uvarint uvarint_small uvarint_big uvarint_length64 uvarint_pos zigzag)
set_option linter.unusedVariables false
set_option linter.unusedSimpArgs false
namespace BytesW

/-- A thing: what it is, its number, its text. -/
structure Thg where
  what : Int
  n : Nat
  s : List UInt8
def i64n (n : Nat) : Int := wrap64 n
/-- A thing's bytes. -/
def layB (x : Thg) : List UInt8 :=
  if x.what.tmod 4 = 0 then uvarint x.n else if x.what.tmod 4 = 1 then uvarint (zigzag (i64n x.n)) else if x.what.tmod 4 = 2 then uvarint (x.s.take 200).length ++ x.s.take 200 else fxI x.n 4
/-- Is it what a reader has next? And the reader behind that. -/
def backB (s : St) (x : Thg) : Bool × St :=
  if x.what.tmod 4 = 0 then (decide ((rNum s).1 = x.n), (rNum s).2) else if x.what.tmod 4 = 1 then (decide ((rInt s).1 = i64n x.n), (rInt s).2)
  else if x.what.tmod 4 = 2 then (decide ((rText s 200).1 = x.s.take 200), (rText s 200).2) else (decide ((rFixed s 4).1 = x.n % 4294967296), (rFixed s 4).2)
theorem i64n_in (n : Nat) : -9223372036854775808 ≤ i64n n ∧ i64n n ≤ 9223372036854775807 := by
  unfold i64n wrap64
  omega
theorem layB_len (x : Thg) (h : x.n < 18446744073709551616) : (layB x).length ≤ 210 := by
  unfold layB
  split
  · have := uvarint_length64 h
    omega
  · split
    · have := uvarint_length64 (Lib.zigzag_lt (i64n_in x.n).1 (i64n_in x.n).2)
      omega
    · split
      · have h1 : (x.s.take 200).length ≤ 200 := by simp; omega
        have := uvarint_length64 (x := (x.s.take 200).length) (by omega)
        rw [List.length_append]
        omega
      · unfold fxI
        split
        · rw [fx_length]
          decide
        · simp
/-- Each number's bytes are as many as one at least. -/
theorem layB_pos (x : Thg) : 1 ≤ (layB x).length := by
  unfold layB
  split
  · exact uvarint_pos _
  · split
    · exact uvarint_pos _
    · split
      · have := uvarint_pos (x.s.take 200).length
        rw [List.length_append]
        omega
      · unfold fxI
        rw [if_pos (by decide), fx_length]
        decide
theorem boxed3 (w : World) (a b c : Value) (T : TypeId) : (w.alloc (.cells #[a, b, c] T)).cell? ⟨w.heap.size, 1, none⟩ = some b ∧ (w.alloc (.cells #[a, b, c] T)).cell? ⟨w.heap.size, 2, none⟩ = some c :=
  ⟨World.cell?_alloc_new _ _ _ _, World.cell?_alloc_new _ _ _ _⟩

theorem lay_0 {w : World} {A : Option Addr} {l : List UInt8} {c : Nat} {x : Thg} (hA : At w A l) (hl : l.length ≤ 800000) (hn : x.n < 18446744073709551616) (hs : x.s.length ≤ 9223372036854775807) (h0 : x.what.tmod 4 = 0) :
    Calls Try.prog 26 #[.slice A l.length c, .agg #[.int .i64 x.what, .int .u64 x.n, .string ⟨x.s.toArray⟩]] w (Gives w (l ++ layB x)) := by
  have HL : Hid (layB x = uvarint x.n) := Lib.hid (by unfold layB; rw [if_pos h0])
  have e0 : (x.what.tmod 4 == 0) = true := by simpa using h0
  clear h0
  rw [HL.out]
  have hb0 : Below w.heap.size w (w.alloc (.cells #[.int .i64 x.what, .int .u64 x.n, .string ⟨x.s.toArray⟩] 53)) := (Below.refl _ w).alloc (Nat.le_refl _) _
  have hA0 := hA.below hb0
  have HB0 := Lib.hid hb0
  have HN := Lib.hid hn
  have HI := Lib.hid (i64n_in x.n)
  have hx0 : (0 : Int) ≤ (x.n : Int) := by omega
  have hx1 : (x.n : Int) < 18446744073709551616 := by omega
  have ht : (x.s.take 200).length ≤ 200 := by simp; omega
  have HLA : Hid (l ++ uvarint (x.s.take 200).length ++ x.s.take 200 = l ++ (uvarint (x.s.take 200).length ++ x.s.take 200)) := Lib.hid (List.append_assoc _ _ _)
  have es : (⟨(x.s.take 200).toArray⟩ : ByteArray).size = (x.s.take 200).length := by simp [ByteArray.size]
  have es2 : (⟨x.s.toArray⟩ : ByteArray).size = x.s.length := by simp [ByteArray.size]
  clear hb0 hA hn
  go_enter Try.func26, Try.ntmps26
  go_wp2_with fail
  go_at_call 11
  refine (put_c hA0 (by omega) HN.out).mono ?_
  rintro e w1 ⟨v1, rfl, hown1, hb1⟩
  go_wp2_with fail
  go_ret
  exact ⟨v1, rfl, hown1.mono HB0.out.size, HB0.out.trans (hb1.mono HB0.out.size)⟩

theorem lay_1 {w : World} {A : Option Addr} {l : List UInt8} {c : Nat} {x : Thg} (hA : At w A l) (hl : l.length ≤ 800000) (hn : x.n < 18446744073709551616) (hs : x.s.length ≤ 9223372036854775807) (h0 : ¬ x.what.tmod 4 = 0) (h1 : x.what.tmod 4 = 1) :
    Calls Try.prog 26 #[.slice A l.length c, .agg #[.int .i64 x.what, .int .u64 x.n, .string ⟨x.s.toArray⟩]] w (Gives w (l ++ layB x)) := by
  have HL : Hid (layB x = uvarint (zigzag (i64n x.n))) := Lib.hid (by unfold layB; rw [if_neg h0]; rw [if_pos h1])
  have e0 : (x.what.tmod 4 == 0) = false := by simpa using h0
  have e1 : (x.what.tmod 4 == 1) = true := by simpa using h1
  clear h0 h1
  rw [HL.out]
  have hb0 : Below w.heap.size w (w.alloc (.cells #[.int .i64 x.what, .int .u64 x.n, .string ⟨x.s.toArray⟩] 53)) := (Below.refl _ w).alloc (Nat.le_refl _) _
  have hA0 := hA.below hb0
  have HB0 := Lib.hid hb0
  have HN := Lib.hid hn
  have HI := Lib.hid (i64n_in x.n)
  have hx0 : (0 : Int) ≤ (x.n : Int) := by omega
  have hx1 : (x.n : Int) < 18446744073709551616 := by omega
  have ht : (x.s.take 200).length ≤ 200 := by simp; omega
  have HLA : Hid (l ++ uvarint (x.s.take 200).length ++ x.s.take 200 = l ++ (uvarint (x.s.take 200).length ++ x.s.take 200)) := Lib.hid (List.append_assoc _ _ _)
  have es : (⟨(x.s.take 200).toArray⟩ : ByteArray).size = (x.s.take 200).length := by simp [ByteArray.size]
  have es2 : (⟨x.s.toArray⟩ : ByteArray).size = x.s.length := by simp [ByteArray.size]
  clear hb0 hA hn
  go_enter Try.func26, Try.ntmps26
  go_wp2_with fail
  go_at_call 12
  refine (putInt_c hA0 (by omega) HI.out.1 HI.out.2).mono ?_
  rintro e w1 ⟨v1, rfl, hown1, hb1⟩
  go_wp2_with fail
  go_ret
  exact ⟨v1, rfl, hown1.mono HB0.out.size, HB0.out.trans (hb1.mono HB0.out.size)⟩

theorem lay_2 {w : World} {A : Option Addr} {l : List UInt8} {c : Nat} {x : Thg} (hA : At w A l) (hl : l.length ≤ 800000) (hn : x.n < 18446744073709551616) (hs : x.s.length ≤ 9223372036854775807) (h0 : ¬ x.what.tmod 4 = 0) (h1 : ¬ x.what.tmod 4 = 1) (h2 : x.what.tmod 4 = 2) :
    Calls Try.prog 26 #[.slice A l.length c, .agg #[.int .i64 x.what, .int .u64 x.n, .string ⟨x.s.toArray⟩]] w (Gives w (l ++ layB x)) := by
  have HL : Hid (layB x = uvarint (x.s.take 200).length ++ x.s.take 200) := Lib.hid (by unfold layB; rw [if_neg h0]; rw [if_neg h1]; rw [if_pos h2])
  have e0 : (x.what.tmod 4 == 0) = false := by simpa using h0
  have e1 : (x.what.tmod 4 == 1) = false := by simpa using h1
  have e2 : (x.what.tmod 4 == 2) = true := by simpa using h2
  clear h0 h1 h2
  rw [HL.out]
  have hb0 : Below w.heap.size w (w.alloc (.cells #[.int .i64 x.what, .int .u64 x.n, .string ⟨x.s.toArray⟩] 53)) := (Below.refl _ w).alloc (Nat.le_refl _) _
  have hA0 := hA.below hb0
  have HB0 := Lib.hid hb0
  have HN := Lib.hid hn
  have HI := Lib.hid (i64n_in x.n)
  have hx0 : (0 : Int) ≤ (x.n : Int) := by omega
  have hx1 : (x.n : Int) < 18446744073709551616 := by omega
  have ht : (x.s.take 200).length ≤ 200 := by simp; omega
  have HLA : Hid (l ++ uvarint (x.s.take 200).length ++ x.s.take 200 = l ++ (uvarint (x.s.take 200).length ++ x.s.take 200)) := Lib.hid (List.append_assoc _ _ _)
  have es : (⟨(x.s.take 200).toArray⟩ : ByteArray).size = (x.s.take 200).length := by simp [ByteArray.size]
  have es2 : (⟨x.s.toArray⟩ : ByteArray).size = x.s.length := by simp [ByteArray.size]
  clear hb0 hA hn
  go_enter Try.func26, Try.ntmps26
  go_wp2_with fail
  go_at_call 10
  refine (cut_c (n := 200) hs (by omega) _).mono ?_
  rintro e w' ⟨rfl, rfl⟩
  go_wp2_with fail
  go_at_call 13
  refine (putText_c hA0 (by omega) (by omega)).mono ?_
  rintro e w1 ⟨v1, rfl, hown1, hb1⟩
  rw [HLA.out] at hown1
  go_wp2_with fail
  go_ret
  exact ⟨v1, rfl, hown1.mono HB0.out.size, HB0.out.trans (hb1.mono HB0.out.size)⟩

theorem lay_3 {w : World} {A : Option Addr} {l : List UInt8} {c : Nat} {x : Thg} (hA : At w A l) (hl : l.length ≤ 800000) (hn : x.n < 18446744073709551616) (hs : x.s.length ≤ 9223372036854775807) (h0 : ¬ x.what.tmod 4 = 0) (h1 : ¬ x.what.tmod 4 = 1) (h2 : ¬ x.what.tmod 4 = 2) :
    Calls Try.prog 26 #[.slice A l.length c, .agg #[.int .i64 x.what, .int .u64 x.n, .string ⟨x.s.toArray⟩]] w (Gives w (l ++ layB x)) := by
  have HL : Hid (layB x = fxI x.n 4) := Lib.hid (by unfold layB; rw [if_neg h0]; rw [if_neg h1]; rw [if_neg h2])
  have e0 : (x.what.tmod 4 == 0) = false := by simpa using h0
  have e1 : (x.what.tmod 4 == 1) = false := by simpa using h1
  have e2 : (x.what.tmod 4 == 2) = false := by simpa using h2
  clear h0 h1 h2
  rw [HL.out]
  have hb0 : Below w.heap.size w (w.alloc (.cells #[.int .i64 x.what, .int .u64 x.n, .string ⟨x.s.toArray⟩] 53)) := (Below.refl _ w).alloc (Nat.le_refl _) _
  have hA0 := hA.below hb0
  have HB0 := Lib.hid hb0
  have HN := Lib.hid hn
  have HI := Lib.hid (i64n_in x.n)
  have hx0 : (0 : Int) ≤ (x.n : Int) := by omega
  have hx1 : (x.n : Int) < 18446744073709551616 := by omega
  have ht : (x.s.take 200).length ≤ 200 := by simp; omega
  have HLA : Hid (l ++ uvarint (x.s.take 200).length ++ x.s.take 200 = l ++ (uvarint (x.s.take 200).length ++ x.s.take 200)) := Lib.hid (List.append_assoc _ _ _)
  have es : (⟨(x.s.take 200).toArray⟩ : ByteArray).size = (x.s.take 200).length := by simp [ByteArray.size]
  have es2 : (⟨x.s.toArray⟩ : ByteArray).size = x.s.length := by simp [ByteArray.size]
  clear hb0 hA hn
  go_enter Try.func26, Try.ntmps26
  go_wp2_with fail
  go_at_call 14
  refine (putFixed_c (n := x.n) hA0 (by omega) HN.out rfl).mono ?_
  rintro e w1 ⟨v1, rfl, hown1, hb1⟩
  go_wp2_with fail
  go_ret
  exact ⟨v1, rfl, hown1.mono HB0.out.size, HB0.out.trans (hb1.mono HB0.out.size)⟩

theorem lay_c {w : World} {A : Option Addr} {l : List UInt8} {c : Nat} {x : Thg} (hA : At w A l) (hl : l.length ≤ 800000) (hn : x.n < 18446744073709551616) (hs : x.s.length ≤ 9223372036854775807) :
    Calls Try.prog 26 #[.slice A l.length c, .agg #[.int .i64 x.what, .int .u64 x.n, .string ⟨x.s.toArray⟩]] w (Gives w (l ++ layB x)) := by
  by_cases h0 : x.what.tmod 4 = 0
  · exact lay_0 hA hl hn hs h0
  by_cases h1 : x.what.tmod 4 = 1
  · exact lay_1 hA hl hn hs h0 h1
  by_cases h2 : x.what.tmod 4 = 2
  · exact lay_2 hA hl hn hs h0 h1 h2
  · exact lay_3 hA hl hn hs h0 h1 h2
end BytesW
end Go.Proofs.Ytblfahnjogaacaa
