/-
  BytesKnown: the chapter's examples; readers that are none.
-/
import Derived.Test.YtblfahnjogaacaaBytesText
import Derived.Test.YtblfahnjogaacaaBytesLaw
import Derived.Test.YtblfahnjogaacaaBytesAsk
import Derived.Lib.SlBytesConst
namespace Go.Proofs.Ytblfahnjogaacaa
open Go.RowKit
open Go.Lib (uvarint uvarint_small uvarint_big uvarint_length64 uvarint_pos zigzag)
set_option linter.unusedVariables false
set_option linter.unusedSimpArgs false
namespace BytesW

theorem put_k {w : World} {n : Nat} {x : Int} {l : List UInt8} (hx : x = n) (hn : n < 18446744073709551616) (h : uvarint n = l) : Calls Try.prog 11 #[.slice none 0 0, .int .u64 x] w (Gives w l) := by
  have := put_x (w := w) (A := none) (l := []) (c := 0) At.nil (by simp) hn hx
  rw [h] at this
  exact this
theorem putInt_k {w : World} {n : Int} {l : List UInt8} (h0 : -9223372036854775808 ≤ n) (h1 : n ≤ 9223372036854775807) (h : uvarint (zigzag n) = l) : Calls Try.prog 12 #[.slice none 0 0, .int .i64 n] w (Gives w l) := by
  have := putInt_c (w := w) (A := none) (l := []) (c := 0) At.nil (by simp) h0 h1
  rw [h] at this
  exact this
theorem putFixed_k {w : World} {n : Nat} {x k : Int} {l : List UInt8} (hx : x = n) (hn : n < 18446744073709551616) (h : fxI n k = l) : Calls Try.prog 14 #[.slice none 0 0, .int .u64 x, .int .i64 k] w (Gives w l) := by
  have := putFixed_c (w := w) (A := none) (l := []) (c := 0) (k := k) At.nil (by simp) hn hx
  rw [h] at this
  exact this
theorem ten : uvarint 18446744073709551615 = [255, 255, 255, 255, 255, 255, 255, 255, 255, 1] := by
  simp only [uvarint_big (show 128 ≤ 18446744073709551615 by omega)]
  iterate 8 rw [uvarint_big (by omega)]
  rw [uvarint_small (by omega)]
  rfl
theorem bad1 : rNum (([128, 0] : List UInt8), false) = (0, ([128, 0], true)) := by decide
theorem bad2 : rNum (([128] : List UInt8), false) = (0, ([128], true)) := by decide
theorem bad3 : rNum (([] : List UInt8), false) = (0, ([], true)) := by decide
theorem bad4 : rNum (([255, 255, 255, 255, 255, 255, 255, 255, 255, 2] : List UInt8), false) = (0, ([255, 255, 255, 255, 255, 255, 255, 255, 255, 2], true)) := by decide
theorem bad5 : rNum (([255, 255, 255, 255, 255, 255, 255, 255, 255, 129, 0] : List UInt8), false) = (0, ([255, 255, 255, 255, 255, 255, 255, 255, 255, 129, 0], true)) := by decide
def Bad (v : Value) : Prop := ∃ l : List UInt8, v = .string ⟨l.toArray⟩ ∧ l.length ≤ 20 ∧ rNum (l, false) = (0, (l, true))
def KRel (w : World) (g n : Nat) (Q : Nat → Value → Prop) (i : Value) (wr : World) : Prop := ∃ j : Nat, i = .int .i64 j ∧ j ≤ n ∧ (∀ k, k < n → ∃ v, wr.cell? ⟨g, k, none⟩ = some v ∧ Q k v) ∧ g < wr.heap.size ∧ Below w.heap.size w wr
theorem KRel.next {w wr w' : World} {g n : Nat} {Q : Nat → Value → Prop} {j : Nat} (hj : j + 1 ≤ n) (hc : ∀ k, k < n → ∃ v, wr.cell? ⟨g, k, none⟩ = some v ∧ Q k v) (hg : g < wr.heap.size) (hb : Below w.heap.size w wr) (hb2 : Below wr.heap.size wr w') : KRel w g n Q (.int .i64 ((j + 1 : Nat) : Int)) w' :=
  ⟨j + 1, rfl, hj, fun k hk => by
    obtain ⟨v, h1, h2⟩ := hc k hk
    exact ⟨v, (hb2.cell (p := ⟨g, k, none⟩) hg).trans h1, h2⟩, Nat.lt_of_lt_of_le hg hb2.size, below_more hb hb2⟩
def two : Nat → Value → Prop
  | 3, v => v = .string ⟨#[3, 97, 98]⟩
  | _, v => v = .string ⟨#[2, 97, 98]⟩
theorem t0 : rText (([2, 97, 98] : List UInt8), false) 2 = ([97, 98], ([], false)) := by decide
theorem t1 : rText (([2, 97, 98] : List UInt8), false) 1 = ([], ([2, 97, 98], true)) := by decide
theorem t2 : rText (([2, 97, 98] : List UInt8), false) (-1) = ([], ([2, 97, 98], true)) := by decide
theorem t3 : rText (([3, 97, 98] : List UInt8), false) 9 = ([], ([3, 97, 98], true)) := by decide
theorem n0 : rNum (([5, 6] : List UInt8), false) = (5, ([6], false)) := by decide
theorem n1 : rNum (([6] : List UInt8), true) = (0, ([6], true)) := by decide
theorem ne1 : rErr (rEnd (([6] : List UInt8), false)) = 4 := by decide
theorem bads (w : World) : ∀ k, k < 5 → ∃ v, (w.alloc (.cells #[.string ⟨#[128, 0]⟩, .string ⟨#[128]⟩, .string ⟨#[]⟩, .string ⟨#[255, 255, 255, 255, 255, 255, 255, 255, 255, 2]⟩, .string ⟨#[255, 255, 255, 255, 255, 255, 255, 255, 255, 129, 0]⟩] 9)).cell? ⟨w.heap.size, k, none⟩ = some v ∧ Bad v := fun k hk => by
  match k, hk with
  | 0, _ => exact ⟨_, World.cell?_alloc_new _ _ _ _, [128, 0], rfl, by decide, bad1⟩
  | 1, _ => exact ⟨_, World.cell?_alloc_new _ _ _ _, [128], rfl, by decide, bad2⟩
  | 2, _ => exact ⟨_, World.cell?_alloc_new _ _ _ _, [], rfl, by decide, bad3⟩
  | 3, _ => exact ⟨_, World.cell?_alloc_new _ _ _ _, [255, 255, 255, 255, 255, 255, 255, 255, 255, 2], rfl, by decide, bad4⟩
  | 4, _ => exact ⟨_, World.cell?_alloc_new _ _ _ _, [255, 255, 255, 255, 255, 255, 255, 255, 255, 129, 0], rfl, by decide, bad5⟩
theorem twos (w : World) : ∀ k, k < 4 → ∃ v, (w.alloc (.cells #[.string ⟨#[2, 97, 98]⟩, .string ⟨#[2, 97, 98]⟩, .string ⟨#[2, 97, 98]⟩, .string ⟨#[3, 97, 98]⟩] 9)).cell? ⟨w.heap.size, k, none⟩ = some v ∧ two k v := fun k hk => by
  match k, hk with
  | 0, _ => exact ⟨_, World.cell?_alloc_new _ _ _ _, rfl⟩
  | 1, _ => exact ⟨_, World.cell?_alloc_new _ _ _ _, rfl⟩
  | 2, _ => exact ⟨_, World.cell?_alloc_new _ _ _ _, rfl⟩
  | 3, _ => exact ⟨_, World.cell?_alloc_new _ _ _ _, rfl⟩
set_option maxRecDepth 100000 in
set_option maxHeartbeats 4000000 in
theorem law_known (w : World) : Calls Try.prog 9 #[] w fun e w' => e = .returned (.bool true) ∧ Below w.heap.size w w' := by
  have HU0 := Lib.hid (show uvarint 0 = [0] from uvarint_small (by omega))
  have HU1 := Lib.hid (show uvarint 127 = [127] from uvarint_small (by omega))
  have HU2 := Lib.hid (show uvarint 128 = [128, 1] by rw [uvarint_big (by omega), uvarint_small (by omega)]; rfl)
  have HU3 := Lib.hid ten
  have HZ1 := Lib.hid (show uvarint (zigzag 1) = [2] from uvarint_small (by decide))
  have HZ2 := Lib.hid (show uvarint (zigzag (-1)) = [1] from uvarint_small (by decide))
  have HZ3 := Lib.hid (show uvarint (zigzag (-9223372036854775808)) = [255, 255, 255, 255, 255, 255, 255, 255, 255, 1] from ten)
  have HF1 := Lib.hid (show fxI 4660 3 = [52, 18, 0] by decide)
  have HF2 := Lib.hid (show fxI 5 9 = [] by decide)
  have HB0 := Lib.hid (Below.refl w.heap.size w)
  go_enter Try.func9, Try.ntmps9
  go_wp2_with fail
  go_at_call 11
  refine (put_k (n := 0) rfl (by omega) HU0.out).mono ?_
  rintro e w1 ⟨v1, rfl, hown1, hb1⟩
  obtain ⟨A1, c1, rfl, hA1, _, _⟩ := hown1.sl
  have HB1 := Lib.hid (below_more HB0.out hb1)
  have hz1 := HB1.out.size
  have r1 : (convert 26 9 (.slice A1 1 c1)).run Try.prog w1 = .ok (.string ⟨#[0]⟩) w1 := run_str w1 c1 hA1
  clear hown1 hb1 hA1
  go_wp2_with fail
  go_at_call 11
  refine (put_k (n := 127) rfl (by omega) HU1.out).mono ?_
  rintro e w2 ⟨v2, rfl, hown2, hb2⟩
  obtain ⟨A2, c2, rfl, hA2, _, _⟩ := hown2.sl
  have HB2 := Lib.hid (below_more HB1.out hb2)
  have hz2 := HB2.out.size
  have r2 : (convert 26 9 (.slice A2 1 c2)).run Try.prog w2 = .ok (.string ⟨#[127]⟩) w2 := run_str w2 c2 hA2
  clear hown2 hb2 hA2 r1
  go_wp2_with fail
  go_at_call 11
  refine (put_k (n := 128) rfl (by omega) HU2.out).mono ?_
  rintro e w3 ⟨v3, rfl, hown3, hb3⟩
  obtain ⟨A3, c3, rfl, hA3, _, _⟩ := hown3.sl
  have HB3 := Lib.hid (below_more HB2.out hb3)
  have hz3 := HB3.out.size
  have r3 : (convert 26 9 (.slice A3 2 c3)).run Try.prog w3 = .ok (.string ⟨#[128, 1]⟩) w3 := run_str w3 c3 hA3
  clear hown3 hb3 hA3 r2
  go_wp2_with fail
  go_at_call 11
  refine (put_k (n := 18446744073709551615) rfl (by omega) HU3.out).mono ?_
  rintro e w4 ⟨v4, rfl, hown4, hb4⟩
  obtain ⟨A4, c4, rfl, hA4, _, _⟩ := hown4.sl
  have HB4 := Lib.hid (below_more HB3.out hb4)
  have hz4 := HB4.out.size
  have r4 : (convert 26 9 (.slice A4 10 c4)).run Try.prog w4 = .ok (.string ⟨#[255, 255, 255, 255, 255, 255, 255, 255, 255, 1]⟩) w4 := run_str w4 c4 hA4
  clear hown4 hb4 hA4 r3
  go_wp2_with fail
  go_at_call 12
  refine (putInt_k (by omega) (by omega) HZ1.out).mono ?_
  rintro e w5 ⟨v5, rfl, hown5, hb5⟩
  obtain ⟨A5, c5, rfl, hA5, _, _⟩ := hown5.sl
  have HB5 := Lib.hid (below_more HB4.out hb5)
  have hz5 := HB5.out.size
  have r5 : (convert 26 9 (.slice A5 1 c5)).run Try.prog w5 = .ok (.string ⟨#[2]⟩) w5 := run_str w5 c5 hA5
  clear hown5 hb5 hA5
  go_wp2_with fail
  go_at_call 12
  refine (putInt_k (by omega) (by omega) HZ2.out).mono ?_
  rintro e w6 ⟨v6, rfl, hown6, hb6⟩
  obtain ⟨A6, c6, rfl, hA6, _, _⟩ := hown6.sl
  have HB6 := Lib.hid (below_more HB5.out hb6)
  have hz6 := HB6.out.size
  have r6 : (convert 26 9 (.slice A6 1 c6)).run Try.prog w6 = .ok (.string ⟨#[1]⟩) w6 := run_str w6 c6 hA6
  clear hown6 hb6 hA6 r5
  go_wp2_with fail
  go_at_call 12
  refine (putInt_k (by omega) (by omega) HZ3.out).mono ?_
  rintro e w7 ⟨v7, rfl, hown7, hb7⟩
  obtain ⟨A7, c7, rfl, hA7, _, _⟩ := hown7.sl
  have HB7 := Lib.hid (below_more HB6.out hb7)
  have hz7 := HB7.out.size
  have r7 : (convert 26 9 (.slice A7 10 c7)).run Try.prog w7 = .ok (.string ⟨#[255, 255, 255, 255, 255, 255, 255, 255, 255, 1]⟩) w7 := run_str w7 c7 hA7
  clear hown7 hb7 hA7 r6
  have kc := Lib.run_convert_bytes_const (P := Try.prog) w7 26 5 #[.int .u8 120] 1 1 under26 under5
  have hbx : Below w7.heap.size w7 (w7.alloc (.cells #[.int .u8 120] 5 (1, 2))) := (Below.refl _ _).alloc (Nat.le_refl _) _
  have hAx : At (w7.alloc (.cells #[.int .u8 120] 5 (1, 2))) (some ⟨w7.heap.size, 0, none⟩) [120] := at_bytes (heap_alloc_new w7 _) (fun i x hx => by
    match i, hx with
    | 0, hx =>
      have : (120 : UInt8) = x := by simpa using hx
      subst this
      rfl)
  have HB7x := Lib.hid (below_more HB7.out hbx)
  have HTX := Lib.hid (show [120] ++ uvarint ([97, 98] : List UInt8).length ++ [97, 98] = [120, 2, 97, 98] by rw [show uvarint ([97, 98] : List UInt8).length = [2] from uvarint_small (by decide)]; rfl)
  clear hbx
  go_wp2_with fail
  go_at_call 13
  refine (putText_c (l := [120]) (s := [97, 98]) (c := 1) hAx (by simp) (by simp)).mono ?_
  rintro e w8 ⟨v8, rfl, hown8, hb8⟩
  rw [HTX.out] at hown8
  obtain ⟨A8, c8, rfl, hA8, _, _⟩ := hown8.sl
  have HB8 := Lib.hid (below_more HB7x.out hb8)
  have hz8 := HB8.out.size
  have r8 : (convert 26 9 (.slice A8 4 c8)).run Try.prog w8 = .ok (.string ⟨#[120, 2, 97, 98]⟩) w8 := run_str w8 c8 hA8
  clear hown8 hb8 hA8 hAx kc r7
  go_wp2_with fail
  go_at_call 14
  refine (putFixed_k (n := 4660) (k := 3) rfl (by omega) HF1.out).mono ?_
  rintro e w9 ⟨v9, rfl, hown9, hb9⟩
  obtain ⟨A9, c9, rfl, hA9, _, _⟩ := hown9.sl
  have HB9 := Lib.hid (below_more HB8.out hb9)
  have hz9 := HB9.out.size
  have r9 : (convert 26 9 (.slice A9 3 c9)).run Try.prog w9 = .ok (.string ⟨#[52, 18, 0]⟩) w9 := run_str w9 c9 hA9
  clear hown9 hb9 hA9 r8
  go_wp2_with fail
  go_at_call 14
  refine (putFixed_k (n := 5) (k := 9) rfl (by omega) HF2.out).mono ?_
  rintro e w10 ⟨v10, rfl, hown10, hb10⟩
  obtain ⟨A10, c10, rfl, hA10, _, _⟩ := hown10.sl
  have HB10 := Lib.hid (below_more HB9.out hb10)
  have hz10 := HB10.out.size
  clear hown10 hb10 hA10 r9
  go_wp2_with fail
  go_loopw [67] (KRel w w10.heap.size 5 (fun _ v => Bad v)) (fun i _ => 5 - (intOf i).toNat)
  case atStart => exact ⟨0, rfl, by omega, bads w10, by simp, below_more HB10.out ((Below.refl _ _).alloc (Nat.le_refl _) _)⟩
  case round =>
    obtain ⟨j, rfl, hj, hc, hg, hbr⟩ := hrel
    have HC := Lib.hid hc
    have HB := Lib.hid hbr
    have hzr := hbr.size
    clear hc hbr
    by_cases hj5 : j < 5
    · obtain ⟨v, hcell, l, rfl, hl, hbad⟩ := HC.out j hj5
      have HBAD := Lib.hid hbad
      have es : (⟨l.toArray⟩ : ByteArray).size = l.length := by simp [ByteArray.size]
      clear hbad
      go_wp2_with ((with_reducible refine at_slot 72 ?_); refine wp_bytes rfl (.tmp 71) rfl (l := l) rfl ?_ (by simp only [maxLen]; omega); intro d1 x1 cs1 hcs1 k1 k2 k3 k4 hbx1 hzx1)
      have hAx1 := at_bytes hcs1 k4
      have HX1 := Lib.hid hbx1
      have hzx11 := hbx1.size
      clear hcs1 k4 hbx1
      go_wp2_with fail
      go_at_call 20
      refine (newReader_c hAx1 (by omega)).mono ?_
      rintro e x2 ⟨p, rfl, hs2, hp2, hp3, hbx2⟩
      have HX2 := Lib.hid (below_more HX1.out hbx2)
      have hp : wr.heap.size ≤ p := by omega
      clear hbx2 hAx1
      go_wp2_with (first
        | (go_at_call 30; refine (num_c hs2 HBAD.out).mono ?_; rintro e x3 ⟨rfl, hgx3, hs3⟩)
        | (go_at_call 24; refine (err_c (r := 4) hs3 rfl).mono ?_; rintro e w' ⟨rfl, rfl⟩))
      go_roundw
      case rel => exact KRel.next (by omega) HC.out hg HB.out (below_next (s := (l, true)) HX2.out hp hgx3)
      case measure => simp [intOf]; omega
    · have hj6 : j = 5 := by omega
      subst hj6
      clear hj5 hj
      obtain ⟨wo, rfl⟩ : ∃ wo : World, wo = wr := ⟨_, rfl⟩
      go_wp2_with fail
      go_loopw [85] (KRel w wo.heap.size 4 two) (fun i _ => 4 - (intOf i).toNat)
      case atStart => exact ⟨0, rfl, by omega, twos wo, by simp, below_more HB.out ((Below.refl _ _).alloc (Nat.le_refl _) _)⟩
      case round =>
        obtain ⟨j, rfl, hj, hc, hg2, hbr2⟩ := hrel
        have HC2 := Lib.hid hc
        have HB2 := Lib.hid hbr2
        have hzr2 := hbr2.size
        clear hc hbr2
        by_cases hj4 : j < 4
        · rcases (show j = 0 ∨ j = 1 ∨ j = 2 ∨ j = 3 by omega) with rfl | rfl | rfl | rfl
          · obtain ⟨v, hcell, hv⟩ := HC2.out 0 (by omega)
            have hv2 : v = .string ⟨#[2, 97, 98]⟩ := hv
            subst hv2
            clear hv hj hj4
            go_wp2_with ((with_reducible refine at_slot 91 ?_); refine wp_bytes rfl (.tmp 90) rfl (l := [2, 97, 98]) rfl ?_ (by decide); intro d1 x1 cs1 hcs1 k1 k2 k3 k4 hbx1 hzx1)
            have hAx1 := at_bytes hcs1 k4
            have HX1 := Lib.hid hbx1
            have hzx11 := hbx1.size
            clear hcs1 k4 hbx1
            go_wp2_with fail
            go_at_call 20
            refine (newReader_c (l := [2, 97, 98]) hAx1 (by decide)).mono ?_
            rintro e x2 ⟨p, rfl, hs2, hp2, hp3, hbx2⟩
            have hbi : Below x2.heap.size x2 (x2.alloc (.cells #[.int .i64 2, .int .i64 1, .int .i64 (-1), .int .i64 9] 3)) := (Below.refl _ _).alloc (Nat.le_refl _) _
            have hs22 := hs2.below hbi
            have HX2 := Lib.hid (below_more (below_more HX1.out hbx2) hbi)
            have hp : wr.heap.size ≤ p := by omega
            clear hbx2 hAx1 hbi
            go_wp2_with (first
              | (go_at_call 32; refine (text_c hs22 t0 (by decide) (by decide)).mono ?_; rintro e x3 ⟨rfl, hgx3, hs3⟩)
              | (go_at_call 24; refine (err_c (r := 0) hs3 rfl).mono ?_; rintro e w' ⟨rfl, rfl⟩))
            go_roundw
            case rel => exact KRel.next (j := 0) (by omega) HC2.out hg2 HB2.out (below_next (s := ([], true)) HX2.out hp hgx3)
            case measure => simp [intOf]
          · obtain ⟨v, hcell, hv⟩ := HC2.out 1 (by omega)
            have hv2 : v = .string ⟨#[2, 97, 98]⟩ := hv
            subst hv2
            clear hv hj hj4
            go_wp2_with ((with_reducible refine at_slot 91 ?_); refine wp_bytes rfl (.tmp 90) rfl (l := [2, 97, 98]) rfl ?_ (by decide); intro d1 x1 cs1 hcs1 k1 k2 k3 k4 hbx1 hzx1)
            have hAx1 := at_bytes hcs1 k4
            have HX1 := Lib.hid hbx1
            have hzx11 := hbx1.size
            clear hcs1 k4 hbx1
            go_wp2_with fail
            go_at_call 20
            refine (newReader_c (l := [2, 97, 98]) hAx1 (by decide)).mono ?_
            rintro e x2 ⟨p, rfl, hs2, hp2, hp3, hbx2⟩
            have hbi : Below x2.heap.size x2 (x2.alloc (.cells #[.int .i64 2, .int .i64 1, .int .i64 (-1), .int .i64 9] 3)) := (Below.refl _ _).alloc (Nat.le_refl _) _
            have hs22 := hs2.below hbi
            have HX2 := Lib.hid (below_more (below_more HX1.out hbx2) hbi)
            have hp : wr.heap.size ≤ p := by omega
            clear hbx2 hAx1 hbi
            go_wp2_with (first
              | (go_at_call 32; refine (text_c hs22 t1 (by decide) (by decide)).mono ?_; rintro e x3 ⟨rfl, hgx3, hs3⟩)
              | (go_at_call 24; refine (err_c (r := 4) hs3 rfl).mono ?_; rintro e w' ⟨rfl, rfl⟩))
            go_roundw
            case rel => exact KRel.next (j := 1) (by omega) HC2.out hg2 HB2.out (below_next (s := ([], true)) HX2.out hp hgx3)
            case measure => simp [intOf]
          · obtain ⟨v, hcell, hv⟩ := HC2.out 2 (by omega)
            have hv2 : v = .string ⟨#[2, 97, 98]⟩ := hv
            subst hv2
            clear hv hj hj4
            go_wp2_with ((with_reducible refine at_slot 91 ?_); refine wp_bytes rfl (.tmp 90) rfl (l := [2, 97, 98]) rfl ?_ (by decide); intro d1 x1 cs1 hcs1 k1 k2 k3 k4 hbx1 hzx1)
            have hAx1 := at_bytes hcs1 k4
            have HX1 := Lib.hid hbx1
            have hzx11 := hbx1.size
            clear hcs1 k4 hbx1
            go_wp2_with fail
            go_at_call 20
            refine (newReader_c (l := [2, 97, 98]) hAx1 (by decide)).mono ?_
            rintro e x2 ⟨p, rfl, hs2, hp2, hp3, hbx2⟩
            have hbi : Below x2.heap.size x2 (x2.alloc (.cells #[.int .i64 2, .int .i64 1, .int .i64 (-1), .int .i64 9] 3)) := (Below.refl _ _).alloc (Nat.le_refl _) _
            have hs22 := hs2.below hbi
            have HX2 := Lib.hid (below_more (below_more HX1.out hbx2) hbi)
            have hp : wr.heap.size ≤ p := by omega
            clear hbx2 hAx1 hbi
            go_wp2_with (first
              | (go_at_call 32; refine (text_c hs22 t2 (by decide) (by decide)).mono ?_; rintro e x3 ⟨rfl, hgx3, hs3⟩)
              | (go_at_call 24; refine (err_c (r := 4) hs3 rfl).mono ?_; rintro e w' ⟨rfl, rfl⟩))
            go_roundw
            case rel => exact KRel.next (j := 2) (by omega) HC2.out hg2 HB2.out (below_next (s := ([], true)) HX2.out hp hgx3)
            case measure => simp [intOf]
          · obtain ⟨v, hcell, hv⟩ := HC2.out 3 (by omega)
            have hv2 : v = .string ⟨#[3, 97, 98]⟩ := hv
            subst hv2
            clear hv hj hj4
            go_wp2_with ((with_reducible refine at_slot 91 ?_); refine wp_bytes rfl (.tmp 90) rfl (l := [3, 97, 98]) rfl ?_ (by decide); intro d1 x1 cs1 hcs1 k1 k2 k3 k4 hbx1 hzx1)
            have hAx1 := at_bytes hcs1 k4
            have HX1 := Lib.hid hbx1
            have hzx11 := hbx1.size
            clear hcs1 k4 hbx1
            go_wp2_with fail
            go_at_call 20
            refine (newReader_c (l := [3, 97, 98]) hAx1 (by decide)).mono ?_
            rintro e x2 ⟨p, rfl, hs2, hp2, hp3, hbx2⟩
            have hbi : Below x2.heap.size x2 (x2.alloc (.cells #[.int .i64 2, .int .i64 1, .int .i64 (-1), .int .i64 9] 3)) := (Below.refl _ _).alloc (Nat.le_refl _) _
            have hs22 := hs2.below hbi
            have HX2 := Lib.hid (below_more (below_more HX1.out hbx2) hbi)
            have hp : wr.heap.size ≤ p := by omega
            clear hbx2 hAx1 hbi
            go_wp2_with (first
              | (go_at_call 32; refine (text_c hs22 t3 (by decide) (by decide)).mono ?_; rintro e x3 ⟨rfl, hgx3, hs3⟩)
              | (go_at_call 24; refine (err_c (r := 4) hs3 rfl).mono ?_; rintro e w' ⟨rfl, rfl⟩))
            go_roundw
            case rel => exact KRel.next (j := 3) (by omega) HC2.out hg2 HB2.out (below_next (s := ([], true)) HX2.out hp hgx3)
            case measure => simp [intOf]
        · have hj6 : j = 4 := by omega
          subst hj6
          clear hj4 hj
          go_wp2_with fail
          have hb5 : Below wr.heap.size wr (wr.alloc (.cells #[.int .u8 5, .int .u8 6] 5)) := (Below.refl _ _).alloc (Nat.le_refl _) _
          have hA5 : At (wr.alloc (.cells #[.int .u8 5, .int .u8 6] 5)) (some ⟨wr.heap.size, 0, none⟩) [5, 6] := at_bytes (heap_alloc_new wr _) (fun i x hx => by
            match i, hx with
            | 0, hx =>
              have : (5 : UInt8) = x := by simpa using hx
              subst this
              rfl
            | 1, hx =>
              have : (6 : UInt8) = x := by simpa using hx
              subst this
              rfl)
          have HB5 := Lib.hid (below_more HB2.out hb5)
          have hz5 := HB5.out.size
          clear hb5
          go_at_call 20
          refine (newReader_c (l := [5, 6]) (c := 2) hA5 (by decide)).mono ?_
          rintro e x1 ⟨p, rfl, hs1, hp1, hp2, hbx1⟩
          have HX1 := Lib.hid (below_more HB5.out hbx1)
          have hp : w.heap.size ≤ p := by omega
          clear hbx1 hA5
          go_wp2_with fail
          go_at_call 30
          refine (num_c hs1 n0).mono ?_
          rintro e x2 ⟨rfl, hgx2, hs2⟩
          have HX2 := Lib.hid (below_next (s := ([], true)) HX1.out hp hgx2)
          go_wp2_with fail
          go_at_call 29
          refine (end_c hs2 ne1).mono ?_
          rintro e x3 ⟨rfl, hgx3, hs3⟩
          have HX3 := Lib.hid (below_next (s := ([], true)) HX2.out hp hgx3)
          have hs33 : RS x3 p ([6], true) := hs3
          go_wp2_with fail
          go_at_call 30
          refine (num_c hs33 n1).mono ?_
          rintro e x4 ⟨rfl, hgx4, hs4⟩
          have HX4 := Lib.hid (below_next (s := ([], true)) HX3.out hp hgx4)
          have hz4 := HX4.out.size
          have hb6 : Below x4.heap.size x4 (x4.alloc (.cells #[.slice none 0 0, .int .u8 0] 67)) := (Below.refl _ _).alloc (Nat.le_refl _) _
          have HB6 := Lib.hid (below_more HX4.out hb6)
          have hcu : (x4.alloc (.cells #[.slice none 0 0, .int .u8 0] 67)).cell? ⟨x4.heap.size, 1, none⟩ = some (.int .u8 0) := World.cell?_alloc_new _ _ _ _
          clear hb6 hgx2 hgx3 hgx4
          go_wp2_with (first
            | (go_at_call 30; refine (num_nil _).mono ?_; rintro e w' ⟨rfl, rfl⟩)
            | (go_at_call 24; ((with_reducible refine (err_nil _).mono ?_); rintro e w' ⟨rfl, rfl⟩))
            | (go_at_call 24; ((with_reducible refine (err_un hcu).mono ?_); rintro e w' ⟨rfl, rfl⟩))
            | (go_at_call 29; refine (end_nil _).mono ?_; rintro e w' ⟨rfl, rfl⟩)
            | (go_at_call 22; refine (left_nil _).mono ?_; rintro e w' ⟨rfl, rfl⟩)
            | (go_at_call 28; refine (take_un hcu).mono ?_; rintro e x5 ⟨v5, rfl, hown5, hb5⟩; obtain ⟨A5, c5, rfl, hA5, _, _⟩ := hown5.sl)
            | (go_at_call 19; refine (works_c _).mono ?_; rintro e x6 ⟨rfl, hb6⟩))
          go_ret
          exact ⟨rfl, below_more (below_more HB6.out hb5) hb6⟩
end BytesW
end Go.Proofs.Ytblfahnjogaacaa
