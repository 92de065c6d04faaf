/-
  BytesOnce: no number has two kinds of bytes.
-/
import Derived.Test.YtblfahnjogaacaaBytesAsk
import Derived.Test.YtblfahnjogaacaaBytesLawBroken
namespace Go.Proofs.Ytblfahnjogaacaa
open Go.RowKit
open Go.Lib (uvarint uvarint_small uvarint_big uvarint_length64 uvarint_pos zigzag)
set_option linter.unusedVariables false
set_option linter.unusedSimpArgs false
namespace BytesW

theorem conv_keep {W W' : World} {A : Option Addr} {c k : Nat} {l : List UInt8} (h : At W A l) (hl : l.length = k) (hb : Below W.heap.size W W') : (convert 26 9 (.slice A k c)).run Try.prog W' = .ok (.string ⟨l.toArray⟩) W' := by
  subst hl
  exact run_str W' c (h.below hb)
theorem at_rs {w w' : World} {q : Nat} {s : St} {A : Option Addr} {l : List UInt8} (hq : RS w q s) (h : At w A l) (hg : w.grownBy w' (some q)) : At w' A l := by
  obtain ⟨A', c', hq⟩ := hq
  exact h.grown hq.1 (by decide) hg
theorem once_some {l : List UInt8} {m k : Nat} (h : pn l 0 0 = some (m, k)) : l.take k = uvarint m ∧ l.length - (l.length - k) = k ∧ 1 ≤ k ∧ k ≤ 10 ∧ k ≤ l.length := by
  obtain ⟨h1, h2, h3⟩ := pn_some h
  obtain ⟨h4, h5, h6⟩ := pn_le h
  refine ⟨?_, by omega, h5, h6, h4⟩
  rw [h3]
  exact (List.prefix_iff_eq_take.1 h2).symm
set_option maxRecDepth 100000 in
set_option maxHeartbeats 1000000 in
theorem law_once {s : List UInt8} (hs : s.length ≤ 9223372036854775807) (w : World) :
    Calls Try.prog 6 #[.string ⟨s.toArray⟩] w fun e w' => e = .returned (.bool true) ∧ Below w.heap.size w w' := by
  obtain ⟨l, hl⟩ : ∃ l, l = s.take 200 := ⟨_, rfl⟩
  have hll : l.length ≤ 200 := by rw [hl]; simp; omega
  have HL := Lib.hid hl
  have es : (⟨l.toArray⟩ : ByteArray).size = l.length := by simp [ByteArray.size]
  obtain ⟨q, hq⟩ : ∃ q, pn l 0 0 = q := ⟨_, rfl⟩
  clear hl
  rcases q with _ | ⟨m, k⟩
  · have HN := Lib.hid (rNum_none hq)
    clear hq
    go_enter Try.func6, Try.ntmps6
    go_wp2_with fail
    go_at_call 10
    refine (cut_c (n := 200) hs (by omega) _).mono ?_
    rintro e w' ⟨rfl, rfl⟩
    rw [← HL.out]
    go_wp2_with ((with_reducible refine at_slot 13 ?_); refine wp_bytes rfl (.tmp 12) rfl (l := l) rfl ?_ (by simp only [maxLen]; omega); intro c1 w1 cs1 hcs1 k1 k2 k3 k4 hb1 hz1)
    have hA1 := at_bytes hcs1 k4
    have HB1 := Lib.hid hb1
    have hzz1 := hb1.size
    clear hb1 k4 hcs1
    go_wp2_with fail
    go_at_call 20
    refine (newReader_c hA1 (by omega)).mono ?_
    rintro e w2 ⟨p, rfl, hs2, hp2, hp3, hb2⟩
    have HB2 := Lib.hid (below_more HB1.out hb2)
    have hp : w.heap.size ≤ p := by omega
    clear hb2
    go_wp2_with fail
    go_at_call 30
    refine (num_c hs2 HN.out).mono ?_
    rintro e w3 ⟨rfl, hg3, hs3⟩
    have HB3 := Lib.hid (below_next (s := (l, true)) HB2.out hp hg3)
    clear hg3
    go_wp2_with (first
      | (go_at_call 24; refine (err_c hs3 (bad_err l)).mono ?_; rintro e w' ⟨rfl, rfl⟩)
      | (go_at_call 22; refine (left_c hs3).mono ?_; rintro e w' ⟨rfl, rfl⟩)
      | (go_at_call 19; refine (works_c _).mono ?_; rintro e w4 ⟨rfl, hb4⟩))
    go_ret
    exact ⟨rfl, below_more HB3.out hb4⟩
  · obtain ⟨o1, o2, o3, o4, o5⟩ := once_some hq
    have hmlt := (pn_some hq).1
    have HN := Lib.hid (rNum_some hq)
    have HI : Hid (rInt (l, false) = (zag m, (l.drop k, false))) := Lib.hid (by simp [rInt, rNum_some hq])
    have HZ := Lib.hid (zag_in m hmlt)
    have HM := Lib.hid hmlt
    have HU := Lib.hid (show [] ++ uvarint m = l.take k by rw [o1]; rfl)
    have HU2 := Lib.hid (show [] ++ uvarint (zigzag (zag m)) = l.take k by rw [zig_zag m hmlt, o1]; rfl)
    have HLK : Hid ((l.take k).length = k) := Lib.hid (by simp; omega)
    have HE := Lib.hid (extract_take l k)
    have HERR := Lib.hid (show rErr (l.drop k, false) = 0 from rfl)
    have HLD : Hid ((l.drop k).length = l.length - k) := Lib.hid (by simp)
    clear hq o1 hmlt o2
    go_enter Try.func6, Try.ntmps6
    go_wp2_with fail
    go_at_call 10
    refine (cut_c (n := 200) hs (by omega) _).mono ?_
    rintro e w' ⟨rfl, rfl⟩
    rw [← HL.out]
    go_wp2_with ((with_reducible refine at_slot 13 ?_); refine wp_bytes rfl (.tmp 12) rfl (l := l) rfl ?_ (by simp only [maxLen]; omega); intro c1 w1 cs1 hcs1 k1 k2 k3 k4 hb1 hz1)
    have hA1 := at_bytes hcs1 k4
    have HB1 := Lib.hid hb1
    have hzz1 := hb1.size
    clear hb1 k4 hcs1
    go_wp2_with fail
    go_at_call 20
    refine (newReader_c hA1 (by omega)).mono ?_
    rintro e w2 ⟨p, rfl, hs2, hp2, hp3, hb2⟩
    have HB2 := Lib.hid (below_more HB1.out hb2)
    have hp : w.heap.size ≤ p := by omega
    clear hb2
    go_wp2_with fail
    go_at_call 30
    refine (num_c hs2 HN.out).mono ?_
    rintro e w3 ⟨rfl, hg3, hs3⟩
    have HB3 := Lib.hid (below_next (s := (l, true)) HB2.out hp hg3)
    clear hg3
    go_wp2_with fail
    go_at_call 24
    refine (err_c hs3 HERR.out).mono ?_
    rintro e w' ⟨rfl, rfl⟩
    go_wp2_with fail
    go_at_call 22
    refine (left_c hs3).mono ?_
    rintro e w' ⟨rfl, rfl⟩
    rw [HLD.out]
    go_wp2_with fail
    rw [show ((l.length : Int) - ((l.length - k : Nat) : Int)) = (k : Int) by omega]
    go_at_call 11
    refine (put_c (A := none) (l := []) (c := 0) At.nil (by simp) HM.out).mono ?_
    rintro e w4 ⟨v4, rfl, hown4, hb4⟩
    rw [HU.out] at hown4
    obtain ⟨A4, c4, rfl, hA4, hc4, hcm4⟩ := hown4.sl
    rw [HLK.out]
    have HB4 := Lib.hid (below_more HB3.out hb4)
    have hz4 := HB4.out.size
    clear hb4 hown4
    go_wp2_with ((with_reducible refine at_slot 40 ?_); refine wp_bytes rfl (.tmp 39) rfl (l := l) rfl ?_ (by simp only [maxLen]; omega); intro c5 w5 cs5 hcs5 m1 m2 m3 m4 hb5 hz5)
    have hA5 := at_bytes hcs5 m4
    have hA4 := hA4.below hb5
    have HB5 := Lib.hid (below_more HB4.out hb5)
    have hz55 := HB5.out.size
    clear hb5 m4 hcs5
    go_wp2_with fail
    go_at_call 20
    refine (newReader_c hA5 (by omega)).mono ?_
    rintro e w6 ⟨p6, rfl, hs6, hp6, hp66, hb6⟩
    have HB6 := Lib.hid (below_more HB5.out hb6)
    have hA6 := hA4.below hb6
    have hp7 : w.heap.size ≤ p6 := by omega
    clear hb6
    go_wp2_with fail
    go_at_call 31
    refine (int_c hs6 HI.out).mono ?_
    rintro e w7 ⟨rfl, hg7, hs7⟩
    have HB7 := Lib.hid (below_next (s := (l, true)) HB6.out hp7 hg7)
    have hA7 := at_rs hs6 hA6 hg7
    have hz7 := HB7.out.size
    clear hg7
    go_wp2_with fail
    go_at_call 12
    refine (putInt_c (A := none) (l := []) (c := 0) At.nil (by simp) HZ.out.1 HZ.out.2).mono ?_
    rintro e w8 ⟨v8, rfl, hown8, hb8⟩
    rw [HU2.out] at hown8
    obtain ⟨A8, c8, rfl, hA8, hc8, hcm8⟩ := hown8.sl
    rw [HLK.out]
    have HB8 := Lib.hid (below_more HB7.out hb8)
    have hA88 := hA7.below hb8
    clear hb8 hown8
    have r1 := run_str w8.drew c4 (show At w8.drew A4 (l.take k) from hA88)
    have r2 := run_str w8.drew c8 (show At w8.drew A8 (l.take k) from hA8)
    rw [HLK.out] at r1 r2
    have hD4 : At w8.drew A4 (l.take k) := hA88
    have hD8 : At w8.drew A8 (l.take k) := hA8
    go_wp2_with fail
    have he := HE.out
    have ok0 : (0 : Int) ≤ k := by omega
    have d1 : decide ((1 : Int) ≤ (k : Int)) = true := by simp; omega
    have d2 : decide ((k : Int) ≤ 10) = true := by simp; omega
    have d3 : decide (1 ≤ k) = true := by simp; omega
    have d4 : decide (k ≤ 10) = true := by simp; omega
    have ok1 : (k : Int) ≤ l.length := by omega
    go_region_held3 (fun w' => (convert 26 9 (.slice A4 k c4)).run Try.prog w' = .ok (.string ⟨(l.take k).toArray⟩) w' ∧ (convert 26 9 (.slice A8 k c8)).run Try.prog w' = .ok (.string ⟨(l.take k).toArray⟩) w')
      (first | exact ⟨r1, r2⟩ | exact ⟨conv_keep hD4 HLK.out (by assumption), conv_keep hD8 HLK.out (by assumption)⟩)
      (first | (go_at_call 19; refine (works_c _).mono ?_; rintro e w9 ⟨rfl, hb9⟩))
    go_wp2_with fail
    go_ret
    exact ⟨rfl, below_more HB8.out.drew hb9⟩
end BytesW
end Go.Proofs.Ytblfahnjogaacaa
