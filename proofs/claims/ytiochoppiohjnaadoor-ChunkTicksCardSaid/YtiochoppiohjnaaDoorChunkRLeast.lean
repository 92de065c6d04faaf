/-
  The reference's Least.
-/
import Derived.Test.YtiochoppiohjnaaDoorChunkAwake
namespace Go.Proofs.YtiochoppiohjnaaDoor
open Go.RowKit
set_option linter.unusedVariables false
set_option linter.unusedSimpArgs false
namespace ChunkW
open BytesW PackW

def RLRel (w : World) (ts : List Tick) (m i : Value) (wr : World) : Prop := ∃ (j : Nat) (x : Int), i = .int .i64 j ∧ m = .int .i64 x ∧ j ≤ ts.length ∧ (j = 0 → x = 0) ∧ (j ≠ 0 → leastT ts = minT x (ts.drop j)) ∧ Below w.heap.size w wr
set_option maxRecDepth 100000 in
set_option maxHeartbeats 4000000 in
theorem rleast_c {w : World} {A : Option Addr} {ts : List Tick} {n c : Nat} {r : Int} (hA : PairC tkv w A ts) (hn : n = ts.length) (hl : n ≤ 1000000) (hr : leastT ts = r) :
    Calls Tryd.prog 20 #[.slice A n c] w fun e w' => e = .returned (.int .i64 r) ∧ Below w.heap.size w w' := by
  have HP := Lib.hid hA
  have HN := Lib.hid hn
  have HR := Lib.hid hr
  clear hA hn hr
  go_enter Tryd.func20, Tryd.ntmps20
  go_wp2_with fail
  go_loopw [3, 4] (RLRel w ts) (fun _ v _ => n - (intOf v).toNat)
  case atStart => exact ⟨0, 0, rfl, rfl, by omega, fun _ => rfl, fun h => absurd rfl h, Below.refl _ _⟩
  case round =>
    obtain ⟨j, x, rfl, rfl, hj, hm0, hm, hbw⟩ := hrel
    have HB := Lib.hid hbw
    have HM := Lib.hid hm
    have HM0 := Lib.hid hm0
    have hjn : j ≤ n := by have := HN.out; omega
    clear hbw hm hj hm0
    by_cases hjl : j < n
    · have hjI : (j : Int) < n := by omega
      have hjI0 : (0 : Int) ≤ j := by omega
      obtain ⟨⟨a, d⟩, hx⟩ : ∃ x, ts[j]? = some x := ⟨_, List.getElem?_eq_getElem (by have := HN.out; omega)⟩
      have HX := Lib.hid hx
      obtain ⟨b, o, rfl, hbl, hcs⟩ := (HP.out.below HB.out).cells (fun e => by rw [e] at hx; simp at hx)
      obtain ⟨c0, c1⟩ := hcs _ _ hx
      simp only [tkv] at c0 c1
      clear hx hcs
      by_cases hj0 : j = 0
      · subst hj0
        have HM2 : Hid (leastT ts = minT d (ts.drop 1)) := Lib.hid (by
          have hx := HX.out
          cases ts with
          | nil => simp at hx
          | cons t r =>
            obtain rfl : t = (a, d) := by simpa using hx
            simp [leastT])
        simp only [Nat.zero_mul, Nat.add_zero] at c0 c1
        go_wp2_with fail
        go_roundw
        case rel => exact ⟨1, d, rfl, rfl, by have := HN.out; omega, fun h => by omega, fun _ => HM2.out, by have HBo := HB.out; (repeat' (first | (with_reducible exact Below.refl _ _) | (with_reducible refine Below.setCell ?_ (by (first | omega | (simp; done) | (simp; omega))) _) | (with_reducible refine Below.alloc ?_ (by (first | omega | (simp; done) | (simp; omega))) _) | (with_reducible refine Below.drew ?_) | (with_reducible refine below_drewN ?_ _) | (with_reducible refine Below.trans ?_ (Below.mono HBo (by (first | omega | (simp; done) | (simp; omega)))))))⟩
        case measure => simp [intOf]; omega
      · have hj0I : ¬ (j : Int) = 0 := by omega
        have e9 : ((j : Int) == 0) = false := by simp; omega
        have HM1 : Hid (leastT ts = minT (if d < x then d else x) (ts.drop (j + 1))) := Lib.hid (by
          obtain ⟨h1, h2⟩ := List.getElem?_eq_some_iff.1 HX.out
          rw [HM.out hj0, List.drop_eq_getElem_cons h1, h2, minT])
        by_cases hd : d < x
        · go_wp2_with fail
          go_roundw
          case rel => exact ⟨j + 1, d, by go_num, rfl, by have := HN.out; omega, fun h => by omega, fun _ => by rw [HM1.out, if_pos hd], by have HBo := HB.out; (repeat' (first | (with_reducible exact Below.refl _ _) | (with_reducible refine Below.setCell ?_ (by (first | omega | (simp; done) | (simp; omega))) _) | (with_reducible refine Below.alloc ?_ (by (first | omega | (simp; done) | (simp; omega))) _) | (with_reducible refine Below.drew ?_) | (with_reducible refine below_drewN ?_ _) | (with_reducible refine Below.trans ?_ (Below.mono HBo (by (first | omega | (simp; done) | (simp; omega)))))))⟩
          case measure => simp [intOf]; omega
        · go_wp2_with fail
          go_roundw
          case rel => exact ⟨j + 1, x, by go_num, rfl, by have := HN.out; omega, fun h => by omega, fun _ => by rw [HM1.out, if_neg hd], by have HBo := HB.out; (repeat' (first | (with_reducible exact Below.refl _ _) | (with_reducible refine Below.setCell ?_ (by (first | omega | (simp; done) | (simp; omega))) _) | (with_reducible refine Below.alloc ?_ (by (first | omega | (simp; done) | (simp; omega))) _) | (with_reducible refine Below.drew ?_) | (with_reducible refine below_drewN ?_ _) | (with_reducible refine Below.trans ?_ (Below.mono HBo (by (first | omega | (simp; done) | (simp; omega)))))))⟩
          case measure => simp [intOf]; omega
    · have hjI : ¬ (j : Int) < n := by omega
      have HF : Hid (r = x) := Lib.hid (by
        rw [← HR.out]
        by_cases hj0 : j = 0
        · have : ts = [] := List.eq_nil_of_length_eq_zero (by have := HN.out; omega)
          rw [HM0.out hj0, this]
          rfl
        · rw [HM.out hj0, List.drop_of_length_le (by have := HN.out; omega)]
          rfl)
      go_wp2_with fail
      go_ret
      exact ⟨by rw [HF.out]; rfl, HB.out⟩
end ChunkW
end Go.Proofs.YtiochoppiohjnaaDoor
