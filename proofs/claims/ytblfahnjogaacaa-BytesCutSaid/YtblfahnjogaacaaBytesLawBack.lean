/-
  BytesBack: whatever is laid one behind the other is read back just so.
-/
import Derived.Test.YtblfahnjogaacaaBytesThings
namespace Go.Proofs.Ytblfahnjogaacaa
open Go.RowKit
open Go.Lib (uvarint uvarint_small uvarint_big uvarint_length64 uvarint_pos zigzag)
set_option linter.unusedVariables false
set_option linter.unusedSimpArgs false
namespace BytesW

def LaidRel (w : World) (xs : List Thg) (v i : Value) (wr : World) : Prop := ∃ j : Nat, i = .int .i64 j ∧ j ≤ xs.length ∧ Own wr w.heap.size v (fl (xs.take j)) ∧ Below w.heap.size w wr
def ReadRel (w : World) (p : Nat) (xs : List Thg) (t : List UInt8) (i : Value) (wr : World) : Prop := ∃ j : Nat, i = .int .i64 j ∧ j ≤ xs.length ∧ RS wr p (fl (xs.drop j) ++ t, false) ∧ Below w.heap.size w wr
set_option maxRecDepth 100000 in
set_option maxHeartbeats 1000000 in
theorem law_back {A : Option Addr} {c : Nat} {xs0 : List Thg} {s : List UInt8} (hs : s.length ≤ 9223372036854775807) (hx : xs0.length ≤ 9223372036854775807) (w : World) (hA : ThgAt w A xs0) :
    Calls Try.prog 5 #[.slice A xs0.length c, .string ⟨s.toArray⟩] w fun e w' => e = .returned (.bool true) ∧ Below w.heap.size w w' := by
  obtain ⟨t, ht⟩ : ∃ t, t = s.take 500 := ⟨_, rfl⟩
  have htl : t.length ≤ 500 := by rw [ht]; simp; omega
  have HT := Lib.hid ht
  obtain ⟨xs, hxs⟩ : ∃ xs, xs = xs0.take 30 := ⟨_, rfl⟩
  have hxl : xs.length = min 30 xs0.length := by rw [hxs, List.length_take]
  have hx30 : xs.length ≤ 30 := by omega
  have hbd : ∀ x ∈ xs, x.n < 18446744073709551616 := fun x hx => hA.bd x (by rw [hxs] at hx; exact List.mem_of_mem_take hx)
  have HBD := Lib.hid hbd
  have hget : ∀ j, j < xs.length → xs[j]? = xs0[j]? := fun j hj => by rw [hxs, List.getElem?_take, if_pos (by omega)]
  have HGET := Lib.hid hget
  have HXL := Lib.hid hxl
  have hxle : xs.length ≤ xs0.length := by omega
  have es : (⟨t.toArray⟩ : ByteArray).size = t.length := by simp [ByteArray.size]
  have HA := Lib.hid hA
  clear ht hxs hbd hget hA hxl
  go_enter Try.func5, Try.ntmps5
  go_wp2_with fail
  go_at_call 10
  refine (cut_c (n := 500) hs (by omega) _).mono ?_
  rintro e w' ⟨rfl, rfl⟩
  rw [← HT.out]
  go_wp2_with fail
  go_loopw [5, 6] (LaidRel w xs) (fun _ i _ => xs.length - (intOf i).toNat)
  case atStart => exact ⟨0, rfl, by omega, Own.nil _ _, Below.refl _ _⟩
  case round =>
    obtain ⟨j, rfl, hj, hown, hbr⟩ := hrel
    have HB := Lib.hid hbr
    have hzr := hbr.size
    have hfl : (fl (xs.take j)).length ≤ 6300 := by
      have h1 := fl_len (xs.take j) (fun x hx => HBD.out x (List.mem_of_mem_take hx))
      have h2 : (xs.take j).length ≤ 30 := by simp; omega
      omega
    clear hbr
    by_cases hjl : j < xs.length
    · have hj1 : j < xs0.length := by omega
      have hj2 : j < 30 := by omega
      obtain ⟨b, o, x, hAe, hxj, hxn, hxs, hxw0, hxw1, g1, g2, g2', g3, g3'⟩ := (HA.out.below HB.out).at_ hj1
      subst hAe
      have HXJ : Hid (xs[j]? = some x) := Lib.hid (by rw [HGET.out j hjl]; exact hxj)
      obtain ⟨Av, cv, rfl, hAv, hcv, hcvm⟩ := hown.sl
      have HO := Lib.hid hown
      clear hown hxj
      go_wp2_with (go_at_call 26; refine (lay_c hAv (by omega) hxn hxs).mono ?_; rintro e w1 ⟨v1, rfl, hown1, hb1⟩)
      go_roundw
      case rel => exact ⟨j + 1, by go_num, by omega, by rw [fl_take HXJ.out]; exact hown1.mono hzr, below_more HB.out hb1⟩
      case measure => simp [intOf]; omega
    · have hor : xs0.length ≤ j ∨ 30 ≤ j := by have := HXL.out; omega
      have HF := Lib.hid (show fl (xs.take j) = fl xs by rw [List.take_of_length_le (by omega)])
      rw [HF.out] at hown hfl
      obtain ⟨Av, cv, rfl, hAv, hcv, hcvm⟩ := hown.sl
      have HJ : Hid (j = xs.length) := Lib.hid (by omega)
      have hl2 : (fl xs ++ t).length ≤ 7000 := by simp; omega
      rcases Nat.lt_or_ge j xs0.length with hj5 | hj5
      all_goals
        (try have hj6 : 30 ≤ j := by omega)
        clear hor
        go_wp2_with (at_builtin; refine wp_append_str rfl (.tmp 28) (.tmp 29) rfl rfl hown rfl (by omega) hzr ?_; intro v2 w2 hown2 hb2)
        obtain ⟨A2, c2, rfl, hA2, hc2, hcm2⟩ := hown2.sl
        have HB2 := Lib.hid (HB.out.trans hb2)
        have hz2 := HB2.out.size
        clear hb2 hown2 hown
        go_at_call 20
        refine (newReader_c hA2 (by omega)).mono ?_
        rintro e w3 ⟨p, rfl, hs3, hp2, hp3, hb3⟩
        have HB3 := Lib.hid (below_more HB2.out hb3)
        have hp : w.heap.size ≤ p := by omega
        clear hb3
        go_wp2_with fail
        go_loopw [8] (ReadRel w p xs t) (fun i _ => xs.length - (intOf i).toNat)
        case atStart => exact ⟨0, rfl, by omega, hs3, HB3.out⟩
        case round =>
          obtain ⟨i, rfl, hi, hsr, hbr2⟩ := hrel
          have HB4 := Lib.hid hbr2
          have hz4 := hbr2.size
          clear hbr2
          by_cases hil : i < xs.length
          · have hi1 : i < xs0.length := by omega
            have hi2 : i < 30 := by omega
            obtain ⟨b, o, x, hAe, hxj, hxn, hxs, hxw0, hxw1, g1, g2, g2', g3, g3'⟩ := (HA.out.below HB4.out).at_ hi1
            subst hAe
            have HXJ : Hid (xs[i]? = some x) := Lib.hid (by rw [HGET.out i hil]; exact hxj)
            rw [fl_drop HXJ.out, List.append_assoc] at hsr
            have HG := Lib.hid (backB_good x hxn (fl (xs.drop (i + 1)) ++ t))
            have HER := Lib.hid (show rErr (fl (xs.drop (i + 1)) ++ t, false) = 0 from rfl)
            have HBC := Lib.hid (backB_c hsr hxn hxs)
            rw [HG.out] at HBC
            clear hxj
            go_wp2_with (first
              | (go_at_call 27; refine HBC.out.mono ?_; rintro e w5 ⟨rfl, hs5, hz5, hb5⟩)
              | (go_at_call 24; refine (err_c hs5 HER.out).mono ?_; rintro e w' ⟨rfl, rfl⟩))
            go_roundw
            case rel => exact ⟨i + 1, by go_num, by omega, hs5, HB4.out.trans (hb5 _ hp hz4)⟩
            case measure => simp [intOf]; omega
          · have HD := Lib.hid (show fl (xs.drop i) ++ t = t by rw [List.drop_eq_nil_of_le (by omega)]; rfl)
            rw [HD.out] at hsr
            have HST : Hid (rStep (t, false) (t.length : Int) = (t, ([], false))) := Lib.hid (by simp [rStep])
            have HEN := Lib.hid (show rErr (rEnd (([] : List UInt8), false)) = 0 from rfl)
            have hi5 : i < xs0.length ∨ xs0.length ≤ i := by omega
            have hi6 : ¬ (i < xs0.length ∧ i < 30) := by have := HXL.out; omega
            rcases Nat.lt_or_ge i xs0.length with hi7 | hi7
            all_goals
              have hi8 : xs0.length ≤ i ∨ 30 ≤ i := by omega
              (try have hi9 : 30 ≤ i := by omega)
              clear hi5 hi6 hi8
              go_wp2_with (first
                | (go_at_call 22; refine (left_c hsr).mono ?_; rintro e w' ⟨rfl, rfl⟩)
                | (go_at_call 28; refine (take_c hsr HST.out).mono ?_; rintro e w6 ⟨A6, d6, rfl, hA6, k6, k66, hg6, hs6⟩)
                | ((with_reducible refine at_slot 64 ?_); refine wp_str rfl (.tmp 63) rfl (A := A6) (l := t) (c := d6) rfl hA6 ?_)
                | (go_at_call 29; refine (end_c hs6 HEN.out).mono ?_; rintro e w7 ⟨rfl, hg7, hs7⟩)
                | (go_at_call 19; refine (works_c _).mono ?_; rintro e w8 ⟨rfl, hb8⟩))
              all_goals
                go_ret
                exact ⟨rfl, below_more (below_next (s := ([], false)) (below_next (s := ([], false)) HB4.out hp hg6) hp hg7) hb8⟩
end BytesW
end Go.Proofs.Ytblfahnjogaacaa
