/-
  BytesCut: what is laid, and cut off anywhere, breaks the reader, or is told to be too short.
-/
import Derived.Test.YtblfahnjogaacaaBytesLawBack
namespace Go.Proofs.Ytblfahnjogaacaa
open Go.RowKit
open Go.Lib (uvarint uvarint_small uvarint_big uvarint_length64 uvarint_pos zigzag)
set_option linter.unusedVariables false
set_option linter.unusedSimpArgs false
namespace BytesW

/-- What is left of the bytes that were cut: less than what was laid. -/
def CutRel (w : World) (p : Nat) (xs : List Thg) (i : Value) (wr : World) : Prop := ∃ j m : Nat, i = .int .i64 j ∧ j ≤ xs.length ∧ m < (fl (xs.drop j)).length ∧ RS wr p ((fl (xs.drop j)).take m, false) ∧ Below w.heap.size w wr
set_option maxRecDepth 100000 in
set_option maxHeartbeats 1000000 in
theorem law_cut {A : Option Addr} {c : Nat} {xs0 : List Thg} {k : Int} (hx : xs0.length ≤ 9223372036854775807) (hk0 : -9223372036854775808 ≤ k) (hk1 : k ≤ 9223372036854775807) (w : World) (hA : ThgAt w A xs0) :
    Calls Try.prog 7 #[.slice A xs0.length c, .int .i64 k] w fun e w' => e = .returned (.bool true) ∧ Below w.heap.size w w' := by
  obtain ⟨xs, hxs⟩ : ∃ xs, xs = xs0.take 20 := ⟨_, rfl⟩
  have hxl : xs.length = min 20 xs0.length := by rw [hxs, List.length_take]
  have hx30 : xs.length ≤ 20 := by omega
  have hbd : ∀ x ∈ xs, x.n < 18446744073709551616 := fun x hx => hA.bd x (by rw [hxs] at hx; exact List.mem_of_mem_take hx)
  have HBD := Lib.hid hbd
  have hget : ∀ j, j < xs.length → xs[j]? = xs0[j]? := fun j hj => by rw [hxs, List.getElem?_take, if_pos (by omega)]
  have HGET := Lib.hid hget
  have HXL := Lib.hid hxl
  have hxle : xs.length ≤ xs0.length := by omega
  have hfl : (fl xs).length ≤ 4200 := by
    have h1 := fl_len xs hbd
    omega
  have HA := Lib.hid hA
  clear hxs hbd hget hA
  by_cases hbig : 20 < xs0.length
  · have hlen : xs.length = 20 := by omega
    have HLEN := Lib.hid hlen
    clear hxl hlen
    go_enter Try.func7, Try.ntmps7
    go_wp2_with fail
    go_loopw [5, 7] (LaidRel w xs) (fun _ i _ => xs.length - (intOf i).toNat)
    case atStart => exact ⟨0, rfl, by omega, Own.nil _ _, Below.refl _ _⟩
    case round =>
      obtain ⟨j, rfl, hj, hown, hbr⟩ := hrel
      have HB := Lib.hid hbr
      have hzr := hbr.size
      have hfj : (fl (xs.take j)).length ≤ 4200 := by
        have h1 := fl_len (xs.take j) (fun x hx => HBD.out x (List.mem_of_mem_take hx))
        have h2 : (xs.take j).length ≤ 20 := by simp; omega
        omega
      clear hbr
      by_cases hjl : j < xs.length
      · have hj1 : j < xs0.length := by omega
        have hj2 : j < 20 := by have := HLEN.out; omega
        obtain ⟨b, o, x, hAe, hxj, hxn, hxs, hxw0, hxw1, g1, g2, g2', g3, g3'⟩ := (HA.out.below HB.out).at_ hj1
        subst hAe
        have HXJ : Hid (xs[j]? = some x) := Lib.hid (by rw [HGET.out j hjl]; exact hxj)
        obtain ⟨Av, cv, rfl, hAv, hcv, hcvm⟩ := hown.sl
        have HO := Lib.hid hown
        clear hown hxj
        go_wp2_with (go_at_call 26; refine (lay_c hAv (by omega) hxn hxs).mono ?_; rintro e w1 ⟨v1, rfl, hown1, hb1⟩)
        go_roundw
        case rel => exact ⟨j + 1, by go_num, by omega, by rw [fl_take HXJ.out]; exact hown1.mono hzr, below_more HB.out hb1⟩
        case measure => simp [intOf]; omega
      · have hj2 : ¬ j < 20 := by have := HLEN.out; omega
        have HF := Lib.hid (show fl (xs.take j) = fl xs by rw [List.take_of_length_le (by omega)])
        rw [HF.out] at hown hfj
        obtain ⟨Av, cv, rfl, hAv, hcv, hcvm⟩ := hown.sl
        clear hown
        by_cases hemp : (fl xs).length = 0
        · have HE := Lib.hid hemp
          rw [hemp]
          clear hemp
          go_wp2_with (go_at_call 19; refine (works_c _).mono ?_; rintro e w8 ⟨rfl, hb8⟩)
          go_ret
          exact ⟨rfl, below_more HB.out hb8⟩
        · obtain ⟨L, hL⟩ : ∃ L, L = (fl xs).length := ⟨_, rfl⟩
          have hL1 : 1 ≤ L := by omega
          have hL2 : L ≤ 4200 := by omega
          have hL3 : L ≤ cv := by omega
          rw [← hL]
          have HL := Lib.hid hL
          clear hemp hcv hfj hL
          have hne : ((L : Int) == 0) = false := by first | (simp; done) | (simp; omega)
          by_cases hat : 0 ≤ k ∧ k < (L : Int)
          · obtain ⟨hat0, hat1⟩ := hat
            obtain ⟨m, rfl⟩ := Int.eq_ofNat_of_zero_le hat0
            have hmL : m < L := by omega
            clear hat0
            go_wp2_with ((with_reducible refine at_slot 42 ?_); refine wp_upto rfl (.tmp 40) (.tmp 41) (L := L) (n := (m : Int)) rfl rfl (by omega) (by omega) hL3 ?_)
            have e1 : ((fl xs).take m).length = m := by have := HL.out; simp; omega
            have hA2 := hAv.take m
            have HN := Lib.hid (newReader_c (c := cv) hA2 (by omega))
            rw [e1] at HN
            clear e1
            go_at_call 20
            refine HN.out.mono ?_
            rintro e w3 ⟨p, rfl, hs3, hp2, hp3, hb3⟩
            have HB3 := Lib.hid (below_more HB.out hb3)
            have hp : w.heap.size ≤ p := by omega
            clear hb3
            go_wp2_with fail
            go_loopw [9] (CutRel w p xs) (fun i _ => xs.length - (intOf i).toNat)
            case atStart => exact ⟨0, m, rfl, by omega, by have := HL.out; simpa using (by omega : m < (fl xs).length), hs3, HB3.out⟩
            case round =>
              obtain ⟨i, q, rfl, hi, hq, hsr, hbr2⟩ := hrel
              have HB4 := Lib.hid hbr2
              have hz4 := hbr2.size
              have hil : i < xs.length := by
                rcases Nat.lt_or_ge i xs.length with h | h
                · exact h
                · rw [List.drop_eq_nil_of_le h] at hq
                  simp [fl] at hq
              have hi1 : i < xs0.length := by omega
              have hi2 : i < 20 := by have := HLEN.out; omega
              clear hbr2
              obtain ⟨b, o, x, hAe, hxj, hxn, hxs, hxw0, hxw1, g1, g2, g2', g3, g3'⟩ := (HA.out.below HB4.out).at_ hi1
              subst hAe
              have HXJ : Hid (xs[i]? = some x) := Lib.hid (by rw [HGET.out i hil]; exact hxj)
              rw [fl_drop HXJ.out] at hsr hq
              have HQ := Lib.hid hq
              clear hxj hq
              by_cases hlt : q < (layB x).length
              · have e2 : (layB x ++ fl (xs.drop (i + 1))).take q = (layB x).take q := List.take_append_of_le_length (by omega)
                rw [e2] at hsr
                obtain ⟨r, s', hbk⟩ : ∃ r s', backB ((layB x).take q, false) x = (r, s') := ⟨_, _, rfl⟩
                have hbr : s'.2 = true := by have h := backB_cut x hxn hlt; rw [hbk] at h; exact h
                have HER := Lib.hid (show rErr s' = 4 by unfold rErr; rw [if_pos hbr])
                have HBC := Lib.hid (backB_c hsr hxn hxs)
                rw [hbk] at HBC
                clear hbk hbr e2
                go_wp2_with (first
                  | (go_at_call 27; refine HBC.out.mono ?_; rintro e w5 ⟨rfl, hs5, hz5, hb5⟩)
                  | (go_at_call 24; refine (err_c hs5 HER.out).mono ?_; rintro e w' ⟨rfl, rfl⟩)
                  | (go_at_call 19; refine (works_c _).mono ?_; rintro e w8 ⟨rfl, hb8⟩))
                go_ret
                exact ⟨rfl, below_more (HB4.out.trans (hb5 _ hp hz4)) hb8⟩
              · have e2 : (layB x ++ fl (xs.drop (i + 1))).take q = layB x ++ (fl (xs.drop (i + 1))).take (q - (layB x).length) := by
                  rw [List.take_append, List.take_of_length_le (by omega)]
                rw [e2] at hsr
                have HG := Lib.hid (backB_good x hxn ((fl (xs.drop (i + 1))).take (q - (layB x).length)))
                have HER := Lib.hid (show rErr ((fl (xs.drop (i + 1))).take (q - (layB x).length), false) = 0 from rfl)
                have HBC := Lib.hid (backB_c hsr hxn hxs)
                rw [HG.out] at HBC
                clear e2
                go_wp2_with (first
                  | (go_at_call 27; refine HBC.out.mono ?_; rintro e w5 ⟨rfl, hs5, hz5, hb5⟩)
                  | (go_at_call 24; refine (err_c hs5 HER.out).mono ?_; rintro e w' ⟨rfl, rfl⟩))
                go_roundw
                case rel => exact ⟨i + 1, q - (layB x).length, by go_num, by omega, by have := HQ.out; rw [List.length_append] at this; omega, hs5, HB4.out.trans (hb5 _ hp hz4)⟩
                case measure => simp [intOf]; omega
          · rcases (show k < 0 ∨ (0 ≤ k ∧ (L : Int) ≤ k) by omega) with hk | ⟨hk, hk2⟩
            · clear hat
              obtain ⟨m, hm⟩ : ∃ m, m = L - 1 := ⟨_, rfl⟩
              have hmL : m < L := by omega
              have HML : Hid (L - 1 = m) := Lib.hid (by omega)
              clear hm
              go_wp2_with fail
              rw [HML.out]
              have e1 : ((fl xs).take m).length = m := by have := HL.out; simp; omega
              have hA2 := hAv.take m
              have HN := Lib.hid (newReader_c (c := cv) hA2 (by omega))
              rw [e1] at HN
              clear e1
              go_at_call 20
              refine HN.out.mono ?_
              rintro e w3 ⟨p, rfl, hs3, hp2, hp3, hb3⟩
              have HB3 := Lib.hid (below_more HB.out hb3)
              have hp : w.heap.size ≤ p := by omega
              clear hb3
              go_wp2_with fail
              go_loopw [9] (CutRel w p xs) (fun i _ => xs.length - (intOf i).toNat)
              case atStart => exact ⟨0, m, rfl, by omega, by have := HL.out; simpa using (by omega : m < (fl xs).length), hs3, HB3.out⟩
              case round =>
                obtain ⟨i, q, rfl, hi, hq, hsr, hbr2⟩ := hrel
                have HB4 := Lib.hid hbr2
                have hz4 := hbr2.size
                have hil : i < xs.length := by
                  rcases Nat.lt_or_ge i xs.length with h | h
                  · exact h
                  · rw [List.drop_eq_nil_of_le h] at hq
                    simp [fl] at hq
                have hi1 : i < xs0.length := by omega
                have hi2 : i < 20 := by have := HLEN.out; omega
                clear hbr2
                obtain ⟨b, o, x, hAe, hxj, hxn, hxs, hxw0, hxw1, g1, g2, g2', g3, g3'⟩ := (HA.out.below HB4.out).at_ hi1
                subst hAe
                have HXJ : Hid (xs[i]? = some x) := Lib.hid (by rw [HGET.out i hil]; exact hxj)
                rw [fl_drop HXJ.out] at hsr hq
                have HQ := Lib.hid hq
                clear hxj hq
                by_cases hlt : q < (layB x).length
                · have e2 : (layB x ++ fl (xs.drop (i + 1))).take q = (layB x).take q := List.take_append_of_le_length (by omega)
                  rw [e2] at hsr
                  obtain ⟨r, s', hbk⟩ : ∃ r s', backB ((layB x).take q, false) x = (r, s') := ⟨_, _, rfl⟩
                  have hbr : s'.2 = true := by have h := backB_cut x hxn hlt; rw [hbk] at h; exact h
                  have HER := Lib.hid (show rErr s' = 4 by unfold rErr; rw [if_pos hbr])
                  have HBC := Lib.hid (backB_c hsr hxn hxs)
                  rw [hbk] at HBC
                  clear hbk hbr e2
                  go_wp2_with (first
                    | (go_at_call 27; refine HBC.out.mono ?_; rintro e w5 ⟨rfl, hs5, hz5, hb5⟩)
                    | (go_at_call 24; refine (err_c hs5 HER.out).mono ?_; rintro e w' ⟨rfl, rfl⟩)
                    | (go_at_call 19; refine (works_c _).mono ?_; rintro e w8 ⟨rfl, hb8⟩))
                  go_ret
                  exact ⟨rfl, below_more (HB4.out.trans (hb5 _ hp hz4)) hb8⟩
                · have e2 : (layB x ++ fl (xs.drop (i + 1))).take q = layB x ++ (fl (xs.drop (i + 1))).take (q - (layB x).length) := by
                    rw [List.take_append, List.take_of_length_le (by omega)]
                  rw [e2] at hsr
                  have HG := Lib.hid (backB_good x hxn ((fl (xs.drop (i + 1))).take (q - (layB x).length)))
                  have HER := Lib.hid (show rErr ((fl (xs.drop (i + 1))).take (q - (layB x).length), false) = 0 from rfl)
                  have HBC := Lib.hid (backB_c hsr hxn hxs)
                  rw [HG.out] at HBC
                  clear e2
                  go_wp2_with (first
                    | (go_at_call 27; refine HBC.out.mono ?_; rintro e w5 ⟨rfl, hs5, hz5, hb5⟩)
                    | (go_at_call 24; refine (err_c hs5 HER.out).mono ?_; rintro e w' ⟨rfl, rfl⟩))
                  go_roundw
                  case rel => exact ⟨i + 1, q - (layB x).length, by go_num, by omega, by have := HQ.out; rw [List.length_append] at this; omega, hs5, HB4.out.trans (hb5 _ hp hz4)⟩
                  case measure => simp [intOf]; omega
            · clear hat
              obtain ⟨m, hm⟩ : ∃ m, m = L - 1 := ⟨_, rfl⟩
              have hmL : m < L := by omega
              have HML : Hid (L - 1 = m) := Lib.hid (by omega)
              clear hm
              go_wp2_with fail
              rw [HML.out]
              have e1 : ((fl xs).take m).length = m := by have := HL.out; simp; omega
              have hA2 := hAv.take m
              have HN := Lib.hid (newReader_c (c := cv) hA2 (by omega))
              rw [e1] at HN
              clear e1
              go_at_call 20
              refine HN.out.mono ?_
              rintro e w3 ⟨p, rfl, hs3, hp2, hp3, hb3⟩
              have HB3 := Lib.hid (below_more HB.out hb3)
              have hp : w.heap.size ≤ p := by omega
              clear hb3
              go_wp2_with fail
              go_loopw [9] (CutRel w p xs) (fun i _ => xs.length - (intOf i).toNat)
              case atStart => exact ⟨0, m, rfl, by omega, by have := HL.out; simpa using (by omega : m < (fl xs).length), hs3, HB3.out⟩
              case round =>
                obtain ⟨i, q, rfl, hi, hq, hsr, hbr2⟩ := hrel
                have HB4 := Lib.hid hbr2
                have hz4 := hbr2.size
                have hil : i < xs.length := by
                  rcases Nat.lt_or_ge i xs.length with h | h
                  · exact h
                  · rw [List.drop_eq_nil_of_le h] at hq
                    simp [fl] at hq
                have hi1 : i < xs0.length := by omega
                have hi2 : i < 20 := by have := HLEN.out; omega
                clear hbr2
                obtain ⟨b, o, x, hAe, hxj, hxn, hxs, hxw0, hxw1, g1, g2, g2', g3, g3'⟩ := (HA.out.below HB4.out).at_ hi1
                subst hAe
                have HXJ : Hid (xs[i]? = some x) := Lib.hid (by rw [HGET.out i hil]; exact hxj)
                rw [fl_drop HXJ.out] at hsr hq
                have HQ := Lib.hid hq
                clear hxj hq
                by_cases hlt : q < (layB x).length
                · have e2 : (layB x ++ fl (xs.drop (i + 1))).take q = (layB x).take q := List.take_append_of_le_length (by omega)
                  rw [e2] at hsr
                  obtain ⟨r, s', hbk⟩ : ∃ r s', backB ((layB x).take q, false) x = (r, s') := ⟨_, _, rfl⟩
                  have hbr : s'.2 = true := by have h := backB_cut x hxn hlt; rw [hbk] at h; exact h
                  have HER := Lib.hid (show rErr s' = 4 by unfold rErr; rw [if_pos hbr])
                  have HBC := Lib.hid (backB_c hsr hxn hxs)
                  rw [hbk] at HBC
                  clear hbk hbr e2
                  go_wp2_with (first
                    | (go_at_call 27; refine HBC.out.mono ?_; rintro e w5 ⟨rfl, hs5, hz5, hb5⟩)
                    | (go_at_call 24; refine (err_c hs5 HER.out).mono ?_; rintro e w' ⟨rfl, rfl⟩)
                    | (go_at_call 19; refine (works_c _).mono ?_; rintro e w8 ⟨rfl, hb8⟩))
                  go_ret
                  exact ⟨rfl, below_more (HB4.out.trans (hb5 _ hp hz4)) hb8⟩
                · have e2 : (layB x ++ fl (xs.drop (i + 1))).take q = layB x ++ (fl (xs.drop (i + 1))).take (q - (layB x).length) := by
                    rw [List.take_append, List.take_of_length_le (by omega)]
                  rw [e2] at hsr
                  have HG := Lib.hid (backB_good x hxn ((fl (xs.drop (i + 1))).take (q - (layB x).length)))
                  have HER := Lib.hid (show rErr ((fl (xs.drop (i + 1))).take (q - (layB x).length), false) = 0 from rfl)
                  have HBC := Lib.hid (backB_c hsr hxn hxs)
                  rw [HG.out] at HBC
                  clear e2
                  go_wp2_with (first
                    | (go_at_call 27; refine HBC.out.mono ?_; rintro e w5 ⟨rfl, hs5, hz5, hb5⟩)
                    | (go_at_call 24; refine (err_c hs5 HER.out).mono ?_; rintro e w' ⟨rfl, rfl⟩))
                  go_roundw
                  case rel => exact ⟨i + 1, q - (layB x).length, by go_num, by omega, by have := HQ.out; rw [List.length_append] at this; omega, hs5, HB4.out.trans (hb5 _ hp hz4)⟩
                  case measure => simp [intOf]; omega
  · have hlen : xs.length = xs0.length := by omega
    have HLEN := Lib.hid hlen
    clear hxl hlen
    go_enter Try.func7, Try.ntmps7
    go_wp2_with fail
    go_loopw [5, 7] (LaidRel w xs) (fun _ i _ => xs.length - (intOf i).toNat)
    case atStart => exact ⟨0, rfl, by omega, Own.nil _ _, Below.refl _ _⟩
    case round =>
      obtain ⟨j, rfl, hj, hown, hbr⟩ := hrel
      have HB := Lib.hid hbr
      have hzr := hbr.size
      have hfj : (fl (xs.take j)).length ≤ 4200 := by
        have h1 := fl_len (xs.take j) (fun x hx => HBD.out x (List.mem_of_mem_take hx))
        have h2 : (xs.take j).length ≤ 20 := by simp; omega
        omega
      clear hbr
      by_cases hjl : j < xs.length
      · have hj1 : j < xs0.length := by omega
        have hj2 : j < xs0.length := by have := HLEN.out; omega
        obtain ⟨b, o, x, hAe, hxj, hxn, hxs, hxw0, hxw1, g1, g2, g2', g3, g3'⟩ := (HA.out.below HB.out).at_ hj1
        subst hAe
        have HXJ : Hid (xs[j]? = some x) := Lib.hid (by rw [HGET.out j hjl]; exact hxj)
        obtain ⟨Av, cv, rfl, hAv, hcv, hcvm⟩ := hown.sl
        have HO := Lib.hid hown
        clear hown hxj
        go_wp2_with (go_at_call 26; refine (lay_c hAv (by omega) hxn hxs).mono ?_; rintro e w1 ⟨v1, rfl, hown1, hb1⟩)
        go_roundw
        case rel => exact ⟨j + 1, by go_num, by omega, by rw [fl_take HXJ.out]; exact hown1.mono hzr, below_more HB.out hb1⟩
        case measure => simp [intOf]; omega
      · have hj2 : ¬ j < xs0.length := by have := HLEN.out; omega
        have HF := Lib.hid (show fl (xs.take j) = fl xs by rw [List.take_of_length_le (by omega)])
        rw [HF.out] at hown hfj
        obtain ⟨Av, cv, rfl, hAv, hcv, hcvm⟩ := hown.sl
        clear hown
        by_cases hemp : (fl xs).length = 0
        · have HE := Lib.hid hemp
          rw [hemp]
          clear hemp
          go_wp2_with (go_at_call 19; refine (works_c _).mono ?_; rintro e w8 ⟨rfl, hb8⟩)
          go_ret
          exact ⟨rfl, below_more HB.out hb8⟩
        · obtain ⟨L, hL⟩ : ∃ L, L = (fl xs).length := ⟨_, rfl⟩
          have hL1 : 1 ≤ L := by omega
          have hL2 : L ≤ 4200 := by omega
          have hL3 : L ≤ cv := by omega
          rw [← hL]
          have HL := Lib.hid hL
          clear hemp hcv hfj hL
          have hne : ((L : Int) == 0) = false := by first | (simp; done) | (simp; omega)
          by_cases hat : 0 ≤ k ∧ k < (L : Int)
          · obtain ⟨hat0, hat1⟩ := hat
            obtain ⟨m, rfl⟩ := Int.eq_ofNat_of_zero_le hat0
            have hmL : m < L := by omega
            clear hat0
            go_wp2_with ((with_reducible refine at_slot 42 ?_); refine wp_upto rfl (.tmp 40) (.tmp 41) (L := L) (n := (m : Int)) rfl rfl (by omega) (by omega) hL3 ?_)
            have e1 : ((fl xs).take m).length = m := by have := HL.out; simp; omega
            have hA2 := hAv.take m
            have HN := Lib.hid (newReader_c (c := cv) hA2 (by omega))
            rw [e1] at HN
            clear e1
            go_at_call 20
            refine HN.out.mono ?_
            rintro e w3 ⟨p, rfl, hs3, hp2, hp3, hb3⟩
            have HB3 := Lib.hid (below_more HB.out hb3)
            have hp : w.heap.size ≤ p := by omega
            clear hb3
            go_wp2_with fail
            go_loopw [9] (CutRel w p xs) (fun i _ => xs.length - (intOf i).toNat)
            case atStart => exact ⟨0, m, rfl, by omega, by have := HL.out; simpa using (by omega : m < (fl xs).length), hs3, HB3.out⟩
            case round =>
              obtain ⟨i, q, rfl, hi, hq, hsr, hbr2⟩ := hrel
              have HB4 := Lib.hid hbr2
              have hz4 := hbr2.size
              have hil : i < xs.length := by
                rcases Nat.lt_or_ge i xs.length with h | h
                · exact h
                · rw [List.drop_eq_nil_of_le h] at hq
                  simp [fl] at hq
              have hi1 : i < xs0.length := by omega
              have hi2 : i < xs0.length := by have := HLEN.out; omega
              clear hbr2
              obtain ⟨b, o, x, hAe, hxj, hxn, hxs, hxw0, hxw1, g1, g2, g2', g3, g3'⟩ := (HA.out.below HB4.out).at_ hi1
              subst hAe
              have HXJ : Hid (xs[i]? = some x) := Lib.hid (by rw [HGET.out i hil]; exact hxj)
              rw [fl_drop HXJ.out] at hsr hq
              have HQ := Lib.hid hq
              clear hxj hq
              by_cases hlt : q < (layB x).length
              · have e2 : (layB x ++ fl (xs.drop (i + 1))).take q = (layB x).take q := List.take_append_of_le_length (by omega)
                rw [e2] at hsr
                obtain ⟨r, s', hbk⟩ : ∃ r s', backB ((layB x).take q, false) x = (r, s') := ⟨_, _, rfl⟩
                have hbr : s'.2 = true := by have h := backB_cut x hxn hlt; rw [hbk] at h; exact h
                have HER := Lib.hid (show rErr s' = 4 by unfold rErr; rw [if_pos hbr])
                have HBC := Lib.hid (backB_c hsr hxn hxs)
                rw [hbk] at HBC
                clear hbk hbr e2
                go_wp2_with (first
                  | (go_at_call 27; refine HBC.out.mono ?_; rintro e w5 ⟨rfl, hs5, hz5, hb5⟩)
                  | (go_at_call 24; refine (err_c hs5 HER.out).mono ?_; rintro e w' ⟨rfl, rfl⟩)
                  | (go_at_call 19; refine (works_c _).mono ?_; rintro e w8 ⟨rfl, hb8⟩))
                go_ret
                exact ⟨rfl, below_more (HB4.out.trans (hb5 _ hp hz4)) hb8⟩
              · have e2 : (layB x ++ fl (xs.drop (i + 1))).take q = layB x ++ (fl (xs.drop (i + 1))).take (q - (layB x).length) := by
                  rw [List.take_append, List.take_of_length_le (by omega)]
                rw [e2] at hsr
                have HG := Lib.hid (backB_good x hxn ((fl (xs.drop (i + 1))).take (q - (layB x).length)))
                have HER := Lib.hid (show rErr ((fl (xs.drop (i + 1))).take (q - (layB x).length), false) = 0 from rfl)
                have HBC := Lib.hid (backB_c hsr hxn hxs)
                rw [HG.out] at HBC
                clear e2
                go_wp2_with (first
                  | (go_at_call 27; refine HBC.out.mono ?_; rintro e w5 ⟨rfl, hs5, hz5, hb5⟩)
                  | (go_at_call 24; refine (err_c hs5 HER.out).mono ?_; rintro e w' ⟨rfl, rfl⟩))
                go_roundw
                case rel => exact ⟨i + 1, q - (layB x).length, by go_num, by omega, by have := HQ.out; rw [List.length_append] at this; omega, hs5, HB4.out.trans (hb5 _ hp hz4)⟩
                case measure => simp [intOf]; omega
          · rcases (show k < 0 ∨ (0 ≤ k ∧ (L : Int) ≤ k) by omega) with hk | ⟨hk, hk2⟩
            · clear hat
              obtain ⟨m, hm⟩ : ∃ m, m = L - 1 := ⟨_, rfl⟩
              have hmL : m < L := by omega
              have HML : Hid (L - 1 = m) := Lib.hid (by omega)
              clear hm
              go_wp2_with fail
              rw [HML.out]
              have e1 : ((fl xs).take m).length = m := by have := HL.out; simp; omega
              have hA2 := hAv.take m
              have HN := Lib.hid (newReader_c (c := cv) hA2 (by omega))
              rw [e1] at HN
              clear e1
              go_at_call 20
              refine HN.out.mono ?_
              rintro e w3 ⟨p, rfl, hs3, hp2, hp3, hb3⟩
              have HB3 := Lib.hid (below_more HB.out hb3)
              have hp : w.heap.size ≤ p := by omega
              clear hb3
              go_wp2_with fail
              go_loopw [9] (CutRel w p xs) (fun i _ => xs.length - (intOf i).toNat)
              case atStart => exact ⟨0, m, rfl, by omega, by have := HL.out; simpa using (by omega : m < (fl xs).length), hs3, HB3.out⟩
              case round =>
                obtain ⟨i, q, rfl, hi, hq, hsr, hbr2⟩ := hrel
                have HB4 := Lib.hid hbr2
                have hz4 := hbr2.size
                have hil : i < xs.length := by
                  rcases Nat.lt_or_ge i xs.length with h | h
                  · exact h
                  · rw [List.drop_eq_nil_of_le h] at hq
                    simp [fl] at hq
                have hi1 : i < xs0.length := by omega
                have hi2 : i < xs0.length := by have := HLEN.out; omega
                clear hbr2
                obtain ⟨b, o, x, hAe, hxj, hxn, hxs, hxw0, hxw1, g1, g2, g2', g3, g3'⟩ := (HA.out.below HB4.out).at_ hi1
                subst hAe
                have HXJ : Hid (xs[i]? = some x) := Lib.hid (by rw [HGET.out i hil]; exact hxj)
                rw [fl_drop HXJ.out] at hsr hq
                have HQ := Lib.hid hq
                clear hxj hq
                by_cases hlt : q < (layB x).length
                · have e2 : (layB x ++ fl (xs.drop (i + 1))).take q = (layB x).take q := List.take_append_of_le_length (by omega)
                  rw [e2] at hsr
                  obtain ⟨r, s', hbk⟩ : ∃ r s', backB ((layB x).take q, false) x = (r, s') := ⟨_, _, rfl⟩
                  have hbr : s'.2 = true := by have h := backB_cut x hxn hlt; rw [hbk] at h; exact h
                  have HER := Lib.hid (show rErr s' = 4 by unfold rErr; rw [if_pos hbr])
                  have HBC := Lib.hid (backB_c hsr hxn hxs)
                  rw [hbk] at HBC
                  clear hbk hbr e2
                  go_wp2_with (first
                    | (go_at_call 27; refine HBC.out.mono ?_; rintro e w5 ⟨rfl, hs5, hz5, hb5⟩)
                    | (go_at_call 24; refine (err_c hs5 HER.out).mono ?_; rintro e w' ⟨rfl, rfl⟩)
                    | (go_at_call 19; refine (works_c _).mono ?_; rintro e w8 ⟨rfl, hb8⟩))
                  go_ret
                  exact ⟨rfl, below_more (HB4.out.trans (hb5 _ hp hz4)) hb8⟩
                · have e2 : (layB x ++ fl (xs.drop (i + 1))).take q = layB x ++ (fl (xs.drop (i + 1))).take (q - (layB x).length) := by
                    rw [List.take_append, List.take_of_length_le (by omega)]
                  rw [e2] at hsr
                  have HG := Lib.hid (backB_good x hxn ((fl (xs.drop (i + 1))).take (q - (layB x).length)))
                  have HER := Lib.hid (show rErr ((fl (xs.drop (i + 1))).take (q - (layB x).length), false) = 0 from rfl)
                  have HBC := Lib.hid (backB_c hsr hxn hxs)
                  rw [HG.out] at HBC
                  clear e2
                  go_wp2_with (first
                    | (go_at_call 27; refine HBC.out.mono ?_; rintro e w5 ⟨rfl, hs5, hz5, hb5⟩)
                    | (go_at_call 24; refine (err_c hs5 HER.out).mono ?_; rintro e w' ⟨rfl, rfl⟩))
                  go_roundw
                  case rel => exact ⟨i + 1, q - (layB x).length, by go_num, by omega, by have := HQ.out; rw [List.length_append] at this; omega, hs5, HB4.out.trans (hb5 _ hp hz4)⟩
                  case measure => simp [intOf]; omega
            · clear hat
              obtain ⟨m, hm⟩ : ∃ m, m = L - 1 := ⟨_, rfl⟩
              have hmL : m < L := by omega
              have HML : Hid (L - 1 = m) := Lib.hid (by omega)
              clear hm
              go_wp2_with fail
              rw [HML.out]
              have e1 : ((fl xs).take m).length = m := by have := HL.out; simp; omega
              have hA2 := hAv.take m
              have HN := Lib.hid (newReader_c (c := cv) hA2 (by omega))
              rw [e1] at HN
              clear e1
              go_at_call 20
              refine HN.out.mono ?_
              rintro e w3 ⟨p, rfl, hs3, hp2, hp3, hb3⟩
              have HB3 := Lib.hid (below_more HB.out hb3)
              have hp : w.heap.size ≤ p := by omega
              clear hb3
              go_wp2_with fail
              go_loopw [9] (CutRel w p xs) (fun i _ => xs.length - (intOf i).toNat)
              case atStart => exact ⟨0, m, rfl, by omega, by have := HL.out; simpa using (by omega : m < (fl xs).length), hs3, HB3.out⟩
              case round =>
                obtain ⟨i, q, rfl, hi, hq, hsr, hbr2⟩ := hrel
                have HB4 := Lib.hid hbr2
                have hz4 := hbr2.size
                have hil : i < xs.length := by
                  rcases Nat.lt_or_ge i xs.length with h | h
                  · exact h
                  · rw [List.drop_eq_nil_of_le h] at hq
                    simp [fl] at hq
                have hi1 : i < xs0.length := by omega
                have hi2 : i < xs0.length := by have := HLEN.out; omega
                clear hbr2
                obtain ⟨b, o, x, hAe, hxj, hxn, hxs, hxw0, hxw1, g1, g2, g2', g3, g3'⟩ := (HA.out.below HB4.out).at_ hi1
                subst hAe
                have HXJ : Hid (xs[i]? = some x) := Lib.hid (by rw [HGET.out i hil]; exact hxj)
                rw [fl_drop HXJ.out] at hsr hq
                have HQ := Lib.hid hq
                clear hxj hq
                by_cases hlt : q < (layB x).length
                · have e2 : (layB x ++ fl (xs.drop (i + 1))).take q = (layB x).take q := List.take_append_of_le_length (by omega)
                  rw [e2] at hsr
                  obtain ⟨r, s', hbk⟩ : ∃ r s', backB ((layB x).take q, false) x = (r, s') := ⟨_, _, rfl⟩
                  have hbr : s'.2 = true := by have h := backB_cut x hxn hlt; rw [hbk] at h; exact h
                  have HER := Lib.hid (show rErr s' = 4 by unfold rErr; rw [if_pos hbr])
                  have HBC := Lib.hid (backB_c hsr hxn hxs)
                  rw [hbk] at HBC
                  clear hbk hbr e2
                  go_wp2_with (first
                    | (go_at_call 27; refine HBC.out.mono ?_; rintro e w5 ⟨rfl, hs5, hz5, hb5⟩)
                    | (go_at_call 24; refine (err_c hs5 HER.out).mono ?_; rintro e w' ⟨rfl, rfl⟩)
                    | (go_at_call 19; refine (works_c _).mono ?_; rintro e w8 ⟨rfl, hb8⟩))
                  go_ret
                  exact ⟨rfl, below_more (HB4.out.trans (hb5 _ hp hz4)) hb8⟩
                · have e2 : (layB x ++ fl (xs.drop (i + 1))).take q = layB x ++ (fl (xs.drop (i + 1))).take (q - (layB x).length) := by
                    rw [List.take_append, List.take_of_length_le (by omega)]
                  rw [e2] at hsr
                  have HG := Lib.hid (backB_good x hxn ((fl (xs.drop (i + 1))).take (q - (layB x).length)))
                  have HER := Lib.hid (show rErr ((fl (xs.drop (i + 1))).take (q - (layB x).length), false) = 0 from rfl)
                  have HBC := Lib.hid (backB_c hsr hxn hxs)
                  rw [HG.out] at HBC
                  clear e2
                  go_wp2_with (first
                    | (go_at_call 27; refine HBC.out.mono ?_; rintro e w5 ⟨rfl, hs5, hz5, hb5⟩)
                    | (go_at_call 24; refine (err_c hs5 HER.out).mono ?_; rintro e w' ⟨rfl, rfl⟩))
                  go_roundw
                  case rel => exact ⟨i + 1, q - (layB x).length, by go_num, by omega, by have := HQ.out; rw [List.length_append] at this; omega, hs5, HB4.out.trans (hb5 _ hp hz4)⟩
                  case measure => simp [intOf]; omega
end BytesW
end Go.Proofs.Ytblfahnjogaacaa
