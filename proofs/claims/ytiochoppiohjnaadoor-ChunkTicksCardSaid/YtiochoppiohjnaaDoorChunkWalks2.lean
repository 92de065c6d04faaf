/-
  Whether the ticks of a chunk may be.
-/
import Derived.Test.YtiochoppiohjnaaDoorChunkWalks1
namespace Go.Proofs.YtiochoppiohjnaaDoor
open Go.RowKit
set_option linter.unusedVariables false
set_option linter.unusedSimpArgs false
namespace ChunkW
open BytesW PackW

def TMRel (w : World) (ts : List Tick) (i : Value) (wr : World) : Prop := ∃ (j : Nat) (nx : Int), i = .int .i64 j ∧ 0 ≤ nx ∧ nx ≤ 4096 ∧ j ≤ ts.length ∧ mayT 0 ts = mayT nx (ts.drop j) ∧ (j = 0 ∧ nx = 0 ∨ ∃ t : Tick, ts[j - 1]? = some t ∧ nx = t.1 + 1 ∧ 1 ≤ j) ∧ Below w.heap.size w wr
set_option maxRecDepth 100000 in
set_option maxHeartbeats 8000000 in
theorem ticksMay_c {w : World} {A : Option Addr} {ts : List Tick} {c : Nat} {r : Bool} (hA : PairC tkv w A ts) (hl : ts.length ≤ 1000000) (hr : mayT 0 ts = r) :
    Calls Tryd.prog 34 #[.slice A ts.length c] w fun e w' => e = .returned (.bool r) ∧ Below w.heap.size w w' := by
  obtain ⟨n, hn⟩ : ∃ n, n = ts.length := ⟨_, rfl⟩
  rw [← hn] at hl ⊢
  have HN := Lib.hid hn
  have HA := Lib.hid hA
  have HR := Lib.hid hr
  clear hn hA hr
  go_enter Tryd.func34, Tryd.ntmps34
  go_wp2_with fail
  go_loopw [8] (TMRel w ts) (fun v _ => n - (intOf v).toNat)
  case atStart => exact ⟨0, 0, rfl, by omega, by omega, by omega, rfl, .inl ⟨rfl, rfl⟩, Below.refl _ _⟩
  case round =>
    obtain ⟨j, nx, rfl, hx0, hx4, hj, hmt, hpr, hbw⟩ := hrel
    have HB := Lib.hid hbw
    have HMT := Lib.hid hmt
    have HPR := Lib.hid hpr
    have hz := hbw.size
    have hjn : j ≤ n := by have := HN.out; omega
    clear hbw hmt hj hpr
    by_cases hjl : j < n
    · have hjI : (j : Int) < n := by omega
      have hjI0 : (0 : Int) ≤ j := by omega
      obtain ⟨⟨a, d⟩, hx⟩ : ∃ x, ts[j]? = some x := ⟨_, List.getElem?_eq_getElem (by have := HN.out; omega)⟩
      obtain ⟨b, o, rfl, hbl, hcs⟩ := (HA.out.below HB.out).cells (fun e => by rw [e] at hx; simp at hx)
      obtain ⟨p0, p1⟩ := hcs _ _ hx
      have HC2 := Lib.hid hcs
      simp only [tkv] at p0 p1
      have hd : ts.drop j = (a, d) :: ts.drop (j + 1) := by
        obtain ⟨h1, h2⟩ := List.getElem?_eq_some_iff.1 hx
        rw [List.drop_eq_getElem_cons h1, h2]
      have HD : Hid (r = (decide (nx ≤ a) && decide (a < 4096) && decide (1 ≤ d) && decide (d ≤ 2199023255552) && mayT (a + 1) (ts.drop (j + 1)))) := Lib.hid (by
        rw [← HR.out, HMT.out, hd]
        rfl)
      have HXX := Lib.hid hx
      clear hcs hx hd
      by_cases hi0 : j = 0
      · have hnx : nx = 0 := by
          rcases HPR.out with ⟨_, h⟩ | ⟨t, _, _, h⟩
          · exact h
          · omega
        have hiz : ((j : Int) == 0) = true := by simp; omega
        have hiz2 : decide ((j : Int) = 0) = true := by simp; omega
        have hi0l : j ≤ 0 := by omega
        clear hi0
        by_cases c1 : ¬ (0 ≤ a ∧ a < 4096)
        · have hix : isIx a = false := by simp only [isIx, Bool.and_eq_false_iff, decide_eq_false_iff_not]; omega
          have HF : Hid (r = false) := Lib.hid (by rw [HD.out]; simp; omega)
          clear c1
          go_wp2_with fail
          go_quiet (fail)
          go_wp2_with (go_at_call 48; refine (isIndex_c hix).mono ?_; rintro e w1 ⟨rfl, rfl⟩)
          go_ret
          exact ⟨by rw [HF.out]; rfl, by have HBo := HB.out; (repeat' (first | (with_reducible exact Below.refl _ _) | (with_reducible refine Below.setCell ?_ (by (first | omega | (simp; done) | (simp; omega))) _) | (with_reducible refine Below.alloc ?_ (by (first | omega | (simp; done) | (simp; omega))) _) | (with_reducible refine Below.drew ?_) | (with_reducible refine below_drewN ?_ _) | (with_reducible refine Below.trans ?_ (Below.mono HBo (by (first | omega | (simp; done) | (simp; omega)))))))⟩
        · have hix : isIx a = true := by simp only [isIx, Bool.and_eq_true, decide_eq_true_eq]; omega
          by_cases c2 : d < 1
          · have ec2 : decide (d < 1) = true := by simpa using c2
            have HF : Hid (r = false) := Lib.hid (by rw [HD.out]; simp; omega)
            clear c1 c2
            go_wp2_with fail
            go_quiet (fail)
            go_wp2_with (go_at_call 48; refine (isIndex_c hix).mono ?_; rintro e w1 ⟨rfl, rfl⟩)
            go_ret
            exact ⟨by rw [HF.out]; rfl, by have HBo := HB.out; (repeat' (first | (with_reducible exact Below.refl _ _) | (with_reducible refine Below.setCell ?_ (by (first | omega | (simp; done) | (simp; omega))) _) | (with_reducible refine Below.alloc ?_ (by (first | omega | (simp; done) | (simp; omega))) _) | (with_reducible refine Below.drew ?_) | (with_reducible refine below_drewN ?_ _) | (with_reducible refine Below.trans ?_ (Below.mono HBo (by (first | omega | (simp; done) | (simp; omega)))))))⟩
          · have ec2 : decide (d < 1) = false := by simp; omega
            by_cases c3 : 2199023255552 < d
            · have ec3 : decide (2199023255552 < d) = true := by simpa using c3
              have HF : Hid (r = false) := Lib.hid (by rw [HD.out]; simp; omega)
              clear c1 c2 c3
              go_wp2_with fail
              go_quiet (fail)
              go_wp2_with (go_at_call 48; refine (isIndex_c hix).mono ?_; rintro e w1 ⟨rfl, rfl⟩)
              go_ret
              exact ⟨by rw [HF.out]; rfl, by have HBo := HB.out; (repeat' (first | (with_reducible exact Below.refl _ _) | (with_reducible refine Below.setCell ?_ (by (first | omega | (simp; done) | (simp; omega))) _) | (with_reducible refine Below.alloc ?_ (by (first | omega | (simp; done) | (simp; omega))) _) | (with_reducible refine Below.drew ?_) | (with_reducible refine below_drewN ?_ _) | (with_reducible refine Below.trans ?_ (Below.mono HBo (by (first | omega | (simp; done) | (simp; omega)))))))⟩
            · have ec3 : decide (2199023255552 < d) = false := by simp; omega
              have HG : Hid (mayT 0 ts = mayT (a + 1) (ts.drop (j + 1))) := Lib.hid (by
                rw [HR.out, HD.out, decide_eq_true (by omega : nx ≤ a), decide_eq_true (by omega : a < 4096), decide_eq_true (by omega : 1 ≤ d), decide_eq_true (by omega : d ≤ 2199023255552)]
                simp)
              have a0 : 0 ≤ a := by omega
              have a4 : a < 4096 := by omega
              clear c1 c2 c3
              go_wp2_with fail
              go_quiet (fail)
              go_wp2_with (go_at_call 48; refine (isIndex_c hix).mono ?_; rintro e w1 ⟨rfl, rfl⟩)
              go_roundw
              case rel => exact ⟨j + 1, a + 1, by go_num, by omega, by omega, by have := HN.out; omega, HG.out, .inr ⟨(a, d), HXX.out, rfl, by omega⟩, by have HBo := HB.out; (repeat' (first | (with_reducible exact Below.refl _ _) | (with_reducible refine Below.setCell ?_ (by (first | omega | (simp; done) | (simp; omega))) _) | (with_reducible refine Below.alloc ?_ (by (first | omega | (simp; done) | (simp; omega))) _) | (with_reducible refine Below.drew ?_) | (with_reducible refine below_drewN ?_ _) | (with_reducible refine Below.trans ?_ (Below.mono HBo (by (first | omega | (simp; done) | (simp; omega)))))))⟩
              case measure => simp [intOf]; omega
      · obtain ⟨⟨pa, pd⟩, hpx, hnx⟩ : ∃ t : Tick, ts[j - 1]? = some t ∧ nx = t.1 + 1 := by
          rcases HPR.out with ⟨h, _⟩ | ⟨t, h1, h2, _⟩
          · exact absurd h hi0
          · exact ⟨t, h1, h2⟩
        simp only at hnx
        obtain ⟨i1, hi1⟩ : ∃ i1, i1 = j - 1 := ⟨_, rfl⟩
        have hiz : ((j : Int) == 0) = false := by simp; omega
        have hiz3 : ¬ (j : Int) = 0 := by omega
        rw [← hi1] at hpx
        have r0 := (HC2.out i1 _ hpx).1
        simp only [tkv] at r0
        have hwr : IntKind.i64.wrap ((j : Int) - 1) = (i1 : Int) := by rw [IntKind.wrap_i64]; omega
        have hI1 : (i1 : Int) < n := by omega
        have hI0 : (0 : Int) ≤ (i1 : Int) := by omega
        clear hpx hi1 hi0
        by_cases c0 : ¬ pa < a
        · have ec0 : decide (pa < a) = false := by simp; omega
          have HF : Hid (r = false) := Lib.hid (by rw [HD.out]; simp; omega)
          clear c0
          go_wp2_with fail
          go_quiet (fail)
          go_wp2_with fail
          go_ret
          exact ⟨by rw [HF.out]; rfl, by have HBo := HB.out; (repeat' (first | (with_reducible exact Below.refl _ _) | (with_reducible refine Below.setCell ?_ (by (first | omega | (simp; done) | (simp; omega))) _) | (with_reducible refine Below.alloc ?_ (by (first | omega | (simp; done) | (simp; omega))) _) | (with_reducible refine Below.drew ?_) | (with_reducible refine below_drewN ?_ _) | (with_reducible refine Below.trans ?_ (Below.mono HBo (by (first | omega | (simp; done) | (simp; omega)))))))⟩
        · have ec0 : decide (pa < a) = true := by simp; omega
          by_cases c1 : ¬ (0 ≤ a ∧ a < 4096)
          · have hix : isIx a = false := by simp only [isIx, Bool.and_eq_false_iff, decide_eq_false_iff_not]; omega
            have HF : Hid (r = false) := Lib.hid (by rw [HD.out]; simp; omega)
            clear c0 c1
            go_wp2_with fail
            go_quiet (fail)
            go_wp2_with (go_at_call 48; refine (isIndex_c hix).mono ?_; rintro e w1 ⟨rfl, rfl⟩)
            go_ret
            exact ⟨by rw [HF.out]; rfl, by have HBo := HB.out; (repeat' (first | (with_reducible exact Below.refl _ _) | (with_reducible refine Below.setCell ?_ (by (first | omega | (simp; done) | (simp; omega))) _) | (with_reducible refine Below.alloc ?_ (by (first | omega | (simp; done) | (simp; omega))) _) | (with_reducible refine Below.drew ?_) | (with_reducible refine below_drewN ?_ _) | (with_reducible refine Below.trans ?_ (Below.mono HBo (by (first | omega | (simp; done) | (simp; omega)))))))⟩
          · have hix : isIx a = true := by simp only [isIx, Bool.and_eq_true, decide_eq_true_eq]; omega
            by_cases c2 : d < 1
            · have ec2 : decide (d < 1) = true := by simpa using c2
              have HF : Hid (r = false) := Lib.hid (by rw [HD.out]; simp; omega)
              clear c0 c1 c2
              go_wp2_with fail
              go_quiet (fail)
              go_wp2_with (go_at_call 48; refine (isIndex_c hix).mono ?_; rintro e w1 ⟨rfl, rfl⟩)
              go_ret
              exact ⟨by rw [HF.out]; rfl, by have HBo := HB.out; (repeat' (first | (with_reducible exact Below.refl _ _) | (with_reducible refine Below.setCell ?_ (by (first | omega | (simp; done) | (simp; omega))) _) | (with_reducible refine Below.alloc ?_ (by (first | omega | (simp; done) | (simp; omega))) _) | (with_reducible refine Below.drew ?_) | (with_reducible refine below_drewN ?_ _) | (with_reducible refine Below.trans ?_ (Below.mono HBo (by (first | omega | (simp; done) | (simp; omega)))))))⟩
            · have ec2 : decide (d < 1) = false := by simp; omega
              by_cases c3 : 2199023255552 < d
              · have ec3 : decide (2199023255552 < d) = true := by simpa using c3
                have HF : Hid (r = false) := Lib.hid (by rw [HD.out]; simp; omega)
                clear c0 c1 c2 c3
                go_wp2_with fail
                go_quiet (fail)
                go_wp2_with (go_at_call 48; refine (isIndex_c hix).mono ?_; rintro e w1 ⟨rfl, rfl⟩)
                go_ret
                exact ⟨by rw [HF.out]; rfl, by have HBo := HB.out; (repeat' (first | (with_reducible exact Below.refl _ _) | (with_reducible refine Below.setCell ?_ (by (first | omega | (simp; done) | (simp; omega))) _) | (with_reducible refine Below.alloc ?_ (by (first | omega | (simp; done) | (simp; omega))) _) | (with_reducible refine Below.drew ?_) | (with_reducible refine below_drewN ?_ _) | (with_reducible refine Below.trans ?_ (Below.mono HBo (by (first | omega | (simp; done) | (simp; omega)))))))⟩
              · have ec3 : decide (2199023255552 < d) = false := by simp; omega
                have HG : Hid (mayT 0 ts = mayT (a + 1) (ts.drop (j + 1))) := Lib.hid (by
                  rw [HR.out, HD.out, decide_eq_true (by omega : nx ≤ a), decide_eq_true (by omega : a < 4096), decide_eq_true (by omega : 1 ≤ d), decide_eq_true (by omega : d ≤ 2199023255552)]
                  simp)
                have a0 : 0 ≤ a := by omega
                have a4 : a < 4096 := by omega
                clear c0 c1 c2 c3
                go_wp2_with fail
                go_quiet (fail)
                go_wp2_with (go_at_call 48; refine (isIndex_c hix).mono ?_; rintro e w1 ⟨rfl, rfl⟩)
                go_roundw
                case rel => exact ⟨j + 1, a + 1, by go_num, by omega, by omega, by have := HN.out; omega, HG.out, .inr ⟨(a, d), HXX.out, rfl, by omega⟩, by have HBo := HB.out; (repeat' (first | (with_reducible exact Below.refl _ _) | (with_reducible refine Below.setCell ?_ (by (first | omega | (simp; done) | (simp; omega))) _) | (with_reducible refine Below.alloc ?_ (by (first | omega | (simp; done) | (simp; omega))) _) | (with_reducible refine Below.drew ?_) | (with_reducible refine below_drewN ?_ _) | (with_reducible refine Below.trans ?_ (Below.mono HBo (by (first | omega | (simp; done) | (simp; omega)))))))⟩
                case measure => simp [intOf]; omega
    · have hjI : ¬ (j : Int) < n := by omega
      have HF : Hid (r = true) := Lib.hid (by
        rw [← HR.out, HMT.out, List.drop_of_length_le (by have := HN.out; omega)]
        rfl)
      go_wp2_with fail
      go_ret
      exact ⟨by rw [HF.out]; rfl, HB.out⟩
end ChunkW
end Go.Proofs.YtiochoppiohjnaaDoor
