/-
  The walks of the reference of layer 5: how many runs, their bytes.
-/
import Derived.Test.YtdboebokjkkgkaaDoorRunsSame
import Derived.Test.YtdboebokjkkgkaaDoorBytesRefs
import Derived.Test.YtdboebokjkkgkaaDoorHeldP
namespace Go.Proofs.YtdboebokjkkgkaaDoor
open Go.RowKit
open Go.Lib (uvarint uvarint_small uvarint_big uvarint_length64 uvarint_pos zigzag)
set_option linter.unusedVariables false
set_option linter.unusedSimpArgs false
namespace RunsW
open BytesW

/-- What stands ahead of place j. -/
def prev (l : List UInt8) (j : Nat) : Option UInt8 := if j = 0 then none else l[j - 1]?
theorem prev_succ (l : List UInt8) (j : Nat) : prev l (j + 1) = l[j]? := by simp [prev]
theorem starts_step {l : List UInt8} {j : Nat} {x : UInt8} (hx : l[j]? = some x) : starts (prev l j) (l.drop j) = (if prev l j = some x then 0 else 1) + starts (prev l (j + 1)) (l.drop (j + 1)) := by
  obtain ⟨hj, e⟩ := List.getElem?_eq_some_iff.1 hx
  rw [List.drop_eq_getElem_cons hj, e, prev_succ, hx]
  rfl

def CountRel (w : World) (l : List UInt8) (n i : Value) (wr : World) : Prop :=
  ∃ (k j q : Nat), n = .int .i64 k ∧ i = .int .i64 j ∧ j ≤ l.length ∧ k ≤ j ∧ k + starts (prev l j) (l.drop j) = (runs l).length ∧ wr = w.drewN q
/-- b: the bytes of the runs that are over; n: how many of the run that is going on were seen. -/
def PutRel5 (w : World) (l : List UInt8) (v n i : Value) (wr : World) : Prop :=
  ∃ (k j : Nat) (pre : List UInt8), n = .int .i64 k ∧ i = .int .i64 j ∧ j ≤ l.length ∧ k ≤ j ∧ (0 < k → ∃ y, l[j]? = some y ∧ l.drop (j - k) = List.replicate k y ++ l.drop j) ∧ pre ++ putR (l.drop (j - k)) = putR l ∧ pre.length ≤ 2 * (j - k) ∧ Own wr w.heap.size v pre ∧ Below w.heap.size w wr
theorem put_step {l : List UInt8} {j k : Nat} {x : UInt8} (hk : k ≤ j) (hx : l[j]? = some x) (h : 0 < k → ∃ y, l[j]? = some y ∧ l.drop (j - k) = List.replicate k y ++ l.drop j) : l.drop (j - k) = List.replicate (k + 1) x ++ l.drop (j + 1) := by
  obtain ⟨hj, e⟩ := List.getElem?_eq_some_iff.1 hx
  have hd := List.drop_eq_getElem_cons hj
  rw [e] at hd
  rcases Nat.eq_zero_or_pos k with rfl | hp
  · simpa using hd
  · obtain ⟨y, ey, e2⟩ := h hp
    rw [hx] at ey
    injection ey with ey
    subst ey
    rw [e2, hd, List.replicate_succ', List.append_assoc]
    rfl
theorem uv2 (k : Nat) : (uvarint (k + 1)).length ≤ k + 1 := uv_le _ (by omega)

theorem r_put_c {w : World} {A : Option Addr} {l : List UInt8} {c : Nat} (hA : AtC w A l) (hl : l.length ≤ 400000) :
    Calls Tryd.prog 31 #[.slice A l.length c] w (Gives w (putR l)) := by
  have HA := Lib.hid hA
  clear hA
  go_enter Tryd.func31, Tryd.ntmps31
  go_wp2_with fail
  go_loopw [3, 4, 5] (PutRel5 w l) (fun _ _ i _ => l.length - (intOf i).toNat)
  case atStart => exact ⟨0, 0, [], rfl, rfl, by omega, by omega, by omega, by simp, by simp, Own.nil _ _, Below.refl _ _⟩
  case round =>
    obtain ⟨k, j, pre, rfl, rfl, hj, hk, hr, hp, hpl, hown, hbw⟩ := hrel
    have hz := hbw.size
    by_cases hjl : j < l.length
    · obtain ⟨b, o, rfl, hc⟩ := at_cell (HA.out.below hbw) (fun e => by rw [e] at hjl; simp at hjl)
      have hbl : b < w.heap.size := at_ltC HA.out (fun e => by rw [e] at hjl; simp at hjl)
      obtain ⟨x, X, ex, hX, X0, X1, g1⟩ := hc j hjl
      have hst := put_step hk ex hr
      have HST := Lib.hid hst
      have HP := Lib.hid hp
      have HU := Lib.hid (uv2 k)
      clear hr hst hp
      by_cases hlast : j + 1 = l.length ∨ l[j + 1]? ≠ some x
      · have hd : (l.drop (j + 1)).head? ≠ some x := by
          rw [List.head?_drop]
          rcases hlast with h | h
          · rw [h, List.getElem?_eq_none (Nat.le_refl _)]
            simp
          · exact h
        have HN := Lib.hid (show (pre ++ uvarint (k + 1) ++ [x]) ++ putR (l.drop (j + 1)) = putR l by rw [← HP.out, HST.out, putR_rep (by omega) hd]; simp)
        clear hd
        by_cases hend : j + 1 = l.length
        · have hee : ((j : Int) + 1 == (l.length : Int)) = true := by simp; omega
          have HX := Lib.hid hX
          clear hlast hX hc
          go_wp2_with fail
          go_quiet (fail)
          refine HeldP.then_named (fun W => Below wr.heap.size wr W) (by repeat' first | exact Below.refl _ _ | refine BaseP.below_drewN ?_ _) ?_
          rintro w1 hb1
          have g3 := (hb1.cell (p := ⟨b, o + j, none⟩) (World.block_lt_of_cell? wr _ g1)).trans g1
          have hown1 := hown.below hb1
          have hbw1 := hbw.trans (hb1.mono hz)
          have hz1 := hbw1.size
          clear hown hbw hb1 g1
          go_wp2_with fail
          go_at_call 32
          refine (r_num_c (n := k + 1) (by omega) (by simp)).mono ?_
          rintro e w2 ⟨v2, rfl, hown2, hb2⟩
          obtain ⟨A2, c2, rfl, hA2, hc2, hcm2⟩ := hown2.sl
          have hown3 := hown1.below hb2
          have g4 := (hb2.cell (p := ⟨b, o + j, none⟩) (World.block_lt_of_cell? w1 _ g3)).trans g3
          have hbw2 := hbw1.trans (hb2.mono hz1)
          have hz2 := hbw2.size
          have hul := HU.out
          have hpl2 : (pre ++ uvarint (k + 1)).length ≤ 900000 := by simp; omega
          clear hown1 hown2 hbw1 hb2 g3
          go_wp2_with (first
            | (at_builtin; refine wp_append rfl (.tmp 31) (.tmp 34) rfl rfl hown3 rfl hA2 (by omega) hz2 ?_; intro v4 w4 hown4 hb4; have g5 := (hb4.cell (p := ⟨b, o + j, none⟩) hbl).trans g4; have hz4 := Nat.le_trans hz2 hb4.size)
            | (at_builtin; refine wp_push rfl (.tmp 36) (.tmp 41) rfl w4 _ rfl rfl hown4 x HX.out rfl (by omega) hz4 ?_; intro v5 w5 hown5 hb5))
          go_roundw
          case rel => exact ⟨0, j + 1, _, rfl, by go_num, by omega, by omega, fun h => by omega, by simpa using HN.out, by simp; omega, hown5, (hbw2.trans hb4).trans hb5⟩
          case measure => simp [intOf]; omega
        · obtain ⟨y, Y, ey, hY, Y0, Y1, g2⟩ := hc (j + 1) (by omega)
          have hyx : ¬ Y = X := fun e => by
            rcases hlast with h | h
            · exact hend h
            · exact h (by rw [ey, (byte_eq hY hX).1 e])
          have hnn : (Y != X) = true := by simpa using hyx
          have hee : ((j : Int) + 1 == (l.length : Int)) = false := by simp; omega
          have HX := Lib.hid hX
          clear hlast hX hc hY ey
          go_wp2_with fail
          go_quiet (fail)
          refine HeldP.then_named (fun W => Below wr.heap.size wr W) (by repeat' first | exact Below.refl _ _ | refine BaseP.below_drewN ?_ _) ?_
          rintro w1 hb1
          have g3 := (hb1.cell (p := ⟨b, o + j, none⟩) (World.block_lt_of_cell? wr _ g1)).trans g1
          have hown1 := hown.below hb1
          have hbw1 := hbw.trans (hb1.mono hz)
          have hz1 := hbw1.size
          clear hown hbw hb1 g1
          go_wp2_with fail
          go_at_call 32
          refine (r_num_c (n := k + 1) (by omega) (by simp)).mono ?_
          rintro e w2 ⟨v2, rfl, hown2, hb2⟩
          obtain ⟨A2, c2, rfl, hA2, hc2, hcm2⟩ := hown2.sl
          have hown3 := hown1.below hb2
          have g4 := (hb2.cell (p := ⟨b, o + j, none⟩) (World.block_lt_of_cell? w1 _ g3)).trans g3
          have hbw2 := hbw1.trans (hb2.mono hz1)
          have hz2 := hbw2.size
          have hul := HU.out
          have hpl2 : (pre ++ uvarint (k + 1)).length ≤ 900000 := by simp; omega
          clear hown1 hown2 hbw1 hb2 g3
          go_wp2_with (first
            | (at_builtin; refine wp_append rfl (.tmp 31) (.tmp 34) rfl rfl hown3 rfl hA2 (by omega) hz2 ?_; intro v4 w4 hown4 hb4; have g5 := (hb4.cell (p := ⟨b, o + j, none⟩) hbl).trans g4; have hz4 := Nat.le_trans hz2 hb4.size)
            | (at_builtin; refine wp_push rfl (.tmp 36) (.tmp 41) rfl w4 _ rfl rfl hown4 x HX.out rfl (by omega) hz4 ?_; intro v5 w5 hown5 hb5))
          go_roundw
          case rel => exact ⟨0, j + 1, _, rfl, by go_num, by omega, by omega, fun h => by omega, by simpa using HN.out, by simp; omega, hown5, (hbw2.trans hb4).trans hb5⟩
          case measure => simp [intOf]; omega
      · have hl2 : l[j + 1]? = some x := by
          rcases Classical.em (l[j + 1]? = some x) with h | h
          · exact h
          · exact absurd (.inr h) hlast
        have hend : ¬ j + 1 = l.length := fun e => hlast (.inl e)
        obtain ⟨y, Y, ey, hY, Y0, Y1, g2⟩ := hc (j + 1) (by omega)
        have hyx : Y = X := by rw [ey] at hl2; injection hl2 with hl2; exact (byte_eq hY hX).2 hl2
        have hnn : (Y != X) = false := by simp [hyx]
        have hee : ((j : Int) + 1 == (l.length : Int)) = false := by simp; omega
        have HL2 := Lib.hid hl2
        clear hlast hX hc hY ey hl2
        go_wp2_with fail
        go_quiet (fail)
        go_wp2_with fail
        go_roundw
        case rel => exact ⟨k + 1, j + 1, pre, by go_num, by go_num, by omega, by omega, fun _ => ⟨x, HL2.out, by rw [Nat.add_sub_add_right]; exact HST.out⟩, by rw [Nat.add_sub_add_right]; exact HP.out, by omega, hown.below (by repeat' first | exact Below.refl _ _ | refine BaseP.below_drewN ?_ _), hbw.trans (by repeat' first | exact Below.refl _ _ | refine BaseP.below_drewN ?_ _)⟩
        case measure => simp [intOf]; omega
    · have hk0 : k = 0 := by
        rcases Nat.eq_zero_or_pos k with h | h
        · exact h
        · obtain ⟨y, ey, _⟩ := hr h
          rw [List.getElem?_eq_none (by omega)] at ey
          cases ey
      subst hk0
      have hpe : pre = putR l := by
        rw [← hp, List.drop_eq_nil_of_le (by omega), putR_nil, List.append_nil]
      subst hpe
      clear hp hr
      go_wp2_with fail
      go_ret
      exact ⟨_, rfl, hown, hbw⟩
end RunsW
end Go.Proofs.YtdboebokjkkgkaaDoor
