/-
  Whether a chunk may be, by the reference.
-/
import Derived.Test.YtdboebokjkkgkaaDoorPackMakeR
namespace Go.Proofs.YtdboebokjkkgkaaDoor
open Go.RowKit
set_option linter.unusedVariables false
set_option linter.unusedSimpArgs false
namespace PackW
open BytesW RunsW

def RMay2 (w : World) (ts : List Tick) (i : Value) (wr : World) : Prop := ∃ (j : Nat) (n : Int), i = .int .i64 j ∧ 0 ≤ n ∧ n ≤ 4096 ∧ j ≤ ts.length ∧ mayT 0 ts = mayT n (ts.drop j) ∧ (j = 0 ∧ n = 0 ∨ ∃ t, ts[j - 1]? = some t ∧ n = t.1 + 1 ∧ 1 ≤ j) ∧ Below w.heap.size w wr

set_option maxRecDepth 100000 in
set_option maxHeartbeats 8000000 in
theorem rmay_c {w : World} {p : Nat} {k : Ck} {r : Bool} (hk : ChkK w p k) (hr : can k = r) :
    Calls Tryd.prog 28 #[.pointer (some ⟨p, 0, none⟩)] w fun e w' => e = .returned (.bool r) ∧ Below w.heap.size w w' := by
  obtain ⟨C, L, ts⟩ := k
  obtain ⟨TA, tc, hck, hta, htc, htm, htl⟩ := hk
  simp only at hck hta htc htl
  have HR := Lib.hid hr
  have HK := Lib.hid hck
  have HTA := Lib.hid hta
  have HCL := Lib.hid hck.2.1
  have HLL := Lib.hid hck.2.2
  obtain ⟨n, hn⟩ : ∃ n, n = ts.length := ⟨_, rfl⟩
  have ht := hck.t
  have hlt := hck.lt
  rw [← hn] at htc ht htl
  have HN := Lib.hid hn
  have HTT := Lib.hid ht
  clear hr hck hta hn ht
  go_enter Tryd.func28, Tryd.ntmps28
  go_wp2_with fail
  go_loopw [3] (MayRel w C L) (fun v _ => 4096 - (intOf v).toNat)
  case atStart => exact ⟨0, rfl, by omega, rfl, rfl, Below.refl _ _⟩
  case round =>
    obtain ⟨j, rfl, hj, hcs, hls, hbw⟩ := hrel
    have HB := Lib.hid hbw
    have HCS := Lib.hid hcs
    have HLS := Lib.hid hls
    have hz := hbw.size
    clear hbw hcs hls
    by_cases hj4 : j < 4096
    · have hjI : (j : Int) < 4096 := by omega
      obtain ⟨x, hx⟩ : ∃ x, C[j]? = some x := ⟨_, List.getElem?_eq_getElem (by have := HCL.out; omega)⟩
      obtain ⟨y, hy⟩ : ∃ y, L[j]? = some y := ⟨_, List.getElem?_eq_getElem (by have := HLL.out; omega)⟩
      have hkr := HK.out.below HB.out
      have g0 := (hkr.cell (j * 2)).trans (ckV_c HCL.out hx).1
      have g1 := (hkr.cell (j * 2 + 1)).trans (ckV_c HCL.out hx).2
      have g2 := (hkr.cell (8192 + j * 2)).trans (ckV_l HCL.out hy).1
      have g3 := (hkr.cell (8192 + j * 2 + 1)).trans (ckV_l HCL.out hy).2
      have hpl := hkr.lt
      obtain ⟨X, hX⟩ : ∃ X : Int, X = (x.1.toNat : Int) := ⟨_, rfl⟩
      obtain ⟨Y, hY⟩ : ∃ Y : Int, Y = (x.2.toNat : Int) := ⟨_, rfl⟩
      obtain ⟨U, hU⟩ : ∃ U : Int, U = (y.1.toNat : Int) := ⟨_, rfl⟩
      obtain ⟨V, hV⟩ : ∃ V : Int, V = (y.2.toNat : Int) := ⟨_, rfl⟩
      simp only [bv, ← hX, ← hY, ← hU, ← hV] at g0 g1 g2 g3
      obtain ⟨m, hm⟩ : ∃ m, mayC x = m := ⟨_, rfl⟩
      have HMAY : Hid (∀ w : World, Calls Tryd.prog 43 #[.agg #[.int .u8 X, .int .u8 Y]] w fun e w' => e = .returned (.bool m) ∧ Below w.heap.size w w') := Lib.hid (fun w => by rw [hX, hY, ← hm]; exact KindW.r_may _ _ w)
      have HU := Lib.hid hU
      have HV := Lib.hid hV
      have Hx := Lib.hid hx
      have Hy := Lib.hid hy
      have HM := Lib.hid hm
      clear hx hy hkr hX hY hU hV hm
      go_wp2_with fail
      go_at_call 43
      refine (HMAY.out wr).mono ?_
      rintro e w1 ⟨rfl, hb1⟩
      have HB1 := Lib.hid (below_m HB.out hb1)
      have q2 := (hb1.cell (p := ⟨p, 8192 + j * 2, none⟩) hpl).trans g2
      have q3 := (hb1.cell (p := ⟨p, 8192 + j * 2 + 1, none⟩) hpl).trans g3
      clear hb1 g0 g1 g2 g3
      cases m
      · have HF : Hid (r = false) := Lib.hid (by rw [← HR.out]; simp only [can]; rw [all_no Hx.out HM.out]; rfl)
        go_wp2_with fail
        go_ret
        exact ⟨by rw [HF.out]; rfl, HB1.out⟩
      · by_cases hl1 : 15 < U
        · have HF : Hid (r = false) := Lib.hid (by
            have h : mayL y = false := by
              have := HU.out
              simp [mayL]
              omega
            rw [← HR.out]
            simp only [can]
            rw [all_no Hy.out h]
            simp)
          go_wp2_with fail
          go_ret
          exact ⟨by rw [HF.out]; rfl, HB1.out⟩
        · by_cases hl2 : 15 < V
          · have HF : Hid (r = false) := Lib.hid (by
              have h : mayL y = false := by
                have := HV.out
                simp [mayL]
                omega
              rw [← HR.out]
              simp only [can]
              rw [all_no Hy.out h]
              simp)
            have hd : decide (15 < U) = false := by simpa using hl1
            have hd2 : decide (15 < V) = true := by simpa using hl2
            clear hl1 hl2
            go_wp2_with fail
            go_ret
            exact ⟨by rw [HF.out]; rfl, HB1.out⟩
          · have HLY : Hid (mayL y = true) := Lib.hid (by
              have := HU.out
              have := HV.out
              simp [mayL]
              omega)
            have hd : decide (15 < U) = false := by simpa using hl1
            have hd2 : decide (15 < V) = false := by simpa using hl2
            clear hl1 hl2
            go_wp2_with fail
            go_roundw
            case rel => exact ⟨j + 1, by go_num, by omega, all_take HCS.out Hx.out HM.out, all_take HLS.out Hy.out HLY.out, HB1.out⟩
            case measure => simp [intOf]; omega
    · have hjI : ¬ (j : Int) < 4096 := by omega
      have HCA : Hid (C.all mayC = true) := Lib.hid (by have h := HCS.out; rw [List.take_of_length_le (by have := HCL.out; omega)] at h; exact h)
      have HLA : Hid (L.all mayL = true) := Lib.hid (by have h := HLS.out; rw [List.take_of_length_le (by have := HLL.out; omega)] at h; exact h)
      have HRT : Hid (mayT 0 ts = r) := Lib.hid (by rw [← HR.out]; simp only [can]; rw [HCA.out, HLA.out]; rfl)
      obtain ⟨wo, rfl⟩ : ∃ wo : World, wo = wr := ⟨_, rfl⟩
      go_wp2_with fail
      go_loopw [4] (RMay2 w ts) (fun v _ => n - (intOf v).toNat)
      case atStart => exact ⟨0, 0, rfl, by omega, by omega, by omega, rfl, .inl ⟨rfl, rfl⟩, HB.out⟩
      case round =>
        obtain ⟨i, nx, rfl, hx0, hx4, hi, hmt, hpr, hbw⟩ := hrel
        have HB2 := Lib.hid hbw
        have HMT := Lib.hid hmt
        have HPR := Lib.hid hpr
        have hz2 := hbw.size
        have hin : i ≤ n := by have := HN.out; omega
        have ht2 := (HB2.out.cell (p := ⟨p, 16384, none⟩) hlt).trans HTT.out
        clear hbw hmt hi hpr
        by_cases hil : i < n
        · have hiI : (i : Int) < n := by omega
          obtain ⟨⟨a, d⟩, hx⟩ : ∃ x, ts[i]? = some x := ⟨_, List.getElem?_eq_getElem (by have := HN.out; omega)⟩
          obtain ⟨b, o, rfl, hbl, hcs⟩ := (HTA.out.below HB2.out).cells (fun e => by rw [e] at hx; simp at hx)
          obtain ⟨p0, p1⟩ := hcs _ _ hx
          have HC2 := Lib.hid hcs
          simp only [tkv] at p0 p1
          have hplr := (HK.out.below HB2.out).lt
          have hd : ts.drop i = (a, d) :: ts.drop (i + 1) := by
            obtain ⟨h1, h2⟩ := List.getElem?_eq_some_iff.1 hx
            rw [List.drop_eq_getElem_cons h1, h2]
          have HD : Hid (r = (decide (nx ≤ a) && decide (a < 4096) && decide (1 ≤ d) && decide (d ≤ 2199023255552) && mayT (a + 1) (ts.drop (i + 1)))) := Lib.hid (by
            rw [← HRT.out, HMT.out, hd]
            rfl)
          have HXX := Lib.hid hx
          clear hcs hx hd
          by_cases hi0 : i = 0
          · have hnx : nx = 0 := by
              rcases HPR.out with ⟨_, h⟩ | ⟨t, _, _, h⟩
              · exact h
              · omega
            have hiz : decide ((0 : Int) < (i : Int)) = false := by simp; omega
            have hiz2 : decide (0 < i) = false := by simp; omega
            clear hi0
            by_cases c0 : a < 0
            · have HF : Hid (r = false) := Lib.hid (by rw [HD.out]; simp; omega)
              have ec0 : decide (a < 0) = true := by simpa using c0
              clear c0
              go_wp2_with fail
              go_quiet (fail)
              go_wp2
              go_ret
              exact ⟨by rw [HF.out]; rfl, BaseP.below_drewN (HB2.out.alloc hz2 _) _⟩
            · have ec0 : decide (a < 0) = false := by simp; omega
              by_cases c2 : 4096 ≤ a
              · have HF : Hid (r = false) := Lib.hid (by rw [HD.out]; simp; omega)
                have ec2 : decide (4096 ≤ a) = true := by simpa using c2
                clear c0 c2
                go_wp2_with fail
                go_quiet (fail)
                go_wp2
                go_ret
                exact ⟨by rw [HF.out]; rfl, BaseP.below_drewN (HB2.out.alloc hz2 _) _⟩
              · have ec2 : decide (4096 ≤ a) = false := by simp; omega
                by_cases c3 : d < 1
                · have HF : Hid (r = false) := Lib.hid (by rw [HD.out]; simp; omega)
                  have ec3 : decide (d < 1) = true := by simpa using c3
                  clear c0 c2 c3
                  go_wp2_with fail
                  go_quiet (fail)
                  go_wp2
                  go_ret
                  exact ⟨by rw [HF.out]; rfl, BaseP.below_drewN (HB2.out.alloc hz2 _) _⟩
                · have ec3 : decide (d < 1) = false := by simp; omega
                  by_cases c4 : 2199023255552 < d
                  · have HF : Hid (r = false) := Lib.hid (by rw [HD.out]; simp; omega)
                    have ec4 : decide (2199023255552 < d) = true := by simpa using c4
                    clear c0 c2 c3 c4
                    go_wp2_with fail
                    go_quiet (fail)
                    go_wp2
                    go_ret
                    exact ⟨by rw [HF.out]; rfl, BaseP.below_drewN (HB2.out.alloc hz2 _) _⟩
                  · have ec4 : decide (2199023255552 < d) = false := by simp; omega
                    have HG : Hid (mayT 0 ts = mayT (a + 1) (ts.drop (i + 1))) := Lib.hid (by
                      rw [HRT.out, HD.out, decide_eq_true (by omega : nx ≤ a), decide_eq_true (by omega : a < 4096), decide_eq_true (by omega : 1 ≤ d), decide_eq_true (by omega : d ≤ 2199023255552)]
                      simp)
                    have a0 : 0 ≤ a := by omega
                    have a4 : a < 4096 := by omega
                    clear c0 c2 c3 c4
                    go_wp2_with fail
                    go_quiet (fail)
                    go_wp2
                    go_roundw
                    case rel => exact ⟨i + 1, a + 1, by go_num, by omega, by omega, by have := HN.out; omega, HG.out, .inr ⟨(a, d), HXX.out, rfl, by omega⟩, BaseP.below_drewN (HB2.out.alloc hz2 _) _⟩
                    case measure => simp [intOf]; omega
          · obtain ⟨⟨pa, pd⟩, hpx, hnx⟩ : ∃ t : Tick, ts[i - 1]? = some t ∧ nx = t.1 + 1 := by
              rcases HPR.out with ⟨h, _⟩ | ⟨t, h1, h2, _⟩
              · exact absurd h hi0
              · exact ⟨t, h1, h2⟩
            simp only at hnx
            obtain ⟨i1, hi1⟩ : ∃ i1, i1 = i - 1 := ⟨_, rfl⟩
            have hiz : decide ((0 : Int) < (i : Int)) = true := by simp; omega
            have hiz2 : decide (0 < i) = true := by simp; omega
            rw [← hi1] at hpx
            have r0 := (HC2.out i1 _ hpx).1
            simp only [tkv] at r0
            have hwr : IntKind.i64.wrap ((i : Int) - 1) = (i1 : Int) := by rw [IntKind.wrap_i64]; omega
            have hI1 : (i1 : Int) < n := by omega
            have hI0 : (0 : Int) ≤ (i1 : Int) := by omega
            clear hpx hi1 hi0
            by_cases c0 : a < 0
            · have HF : Hid (r = false) := Lib.hid (by rw [HD.out]; simp; omega)
              have ec0 : decide (a < 0) = true := by simpa using c0
              clear c0
              go_wp2_with fail
              go_quiet (fail)
              go_wp2
              go_ret
              exact ⟨by rw [HF.out]; rfl, BaseP.below_drewN (HB2.out.alloc hz2 _) _⟩
            · have ec0 : decide (a < 0) = false := by simp; omega
              by_cases c2 : 4096 ≤ a
              · have HF : Hid (r = false) := Lib.hid (by rw [HD.out]; simp; omega)
                have ec2 : decide (4096 ≤ a) = true := by simpa using c2
                clear c0 c2
                go_wp2_with fail
                go_quiet (fail)
                go_wp2
                go_ret
                exact ⟨by rw [HF.out]; rfl, BaseP.below_drewN (HB2.out.alloc hz2 _) _⟩
              · have ec2 : decide (4096 ≤ a) = false := by simp; omega
                by_cases c3 : d < 1
                · have HF : Hid (r = false) := Lib.hid (by rw [HD.out]; simp; omega)
                  have ec3 : decide (d < 1) = true := by simpa using c3
                  clear c0 c2 c3
                  go_wp2_with fail
                  go_quiet (fail)
                  go_wp2
                  go_ret
                  exact ⟨by rw [HF.out]; rfl, BaseP.below_drewN (HB2.out.alloc hz2 _) _⟩
                · have ec3 : decide (d < 1) = false := by simp; omega
                  by_cases c4 : 2199023255552 < d
                  · have HF : Hid (r = false) := Lib.hid (by rw [HD.out]; simp; omega)
                    have ec4 : decide (2199023255552 < d) = true := by simpa using c4
                    clear c0 c2 c3 c4
                    go_wp2_with fail
                    go_quiet (fail)
                    go_wp2
                    go_ret
                    exact ⟨by rw [HF.out]; rfl, BaseP.below_drewN (HB2.out.alloc hz2 _) _⟩
                  · have ec4 : decide (2199023255552 < d) = false := by simp; omega
                    by_cases c5 : a ≤ pa
                    · have HF : Hid (r = false) := Lib.hid (by rw [HD.out]; simp; omega)
                      have ec5 : decide (a ≤ pa) = true := by simpa using c5
                      clear c0 c2 c3 c4 c5
                      go_wp2_with fail
                      go_quiet (fail)
                      go_wp2
                      go_ret
                      exact ⟨by rw [HF.out]; rfl, BaseP.below_drewN (HB2.out.alloc hz2 _) _⟩
                    · have ec5 : decide (a ≤ pa) = false := by simp; omega
                      have HG : Hid (mayT 0 ts = mayT (a + 1) (ts.drop (i + 1))) := Lib.hid (by
                        rw [HRT.out, HD.out, decide_eq_true (by omega : nx ≤ a), decide_eq_true (by omega : a < 4096), decide_eq_true (by omega : 1 ≤ d), decide_eq_true (by omega : d ≤ 2199023255552)]
                        simp)
                      have a0 : 0 ≤ a := by omega
                      have a4 : a < 4096 := by omega
                      clear c0 c2 c3 c4 c5
                      go_wp2_with fail
                      go_quiet (fail)
                      go_wp2
                      go_roundw
                      case rel => exact ⟨i + 1, a + 1, by go_num, by omega, by omega, by have := HN.out; omega, HG.out, .inr ⟨(a, d), HXX.out, rfl, by omega⟩, BaseP.below_drewN (HB2.out.alloc hz2 _) _⟩
                      case measure => simp [intOf]; omega
        · have hiI : ¬ (i : Int) < n := by omega
          have HF : Hid (r = true) := Lib.hid (by
            rw [← HRT.out, HMT.out, List.drop_of_length_le (by have := HN.out; omega)]
            rfl)
          go_wp2_with fail
          go_ret
          exact ⟨by rw [HF.out]; rfl, HB2.out⟩
end PackW
end Go.Proofs.YtdboebokjkkgkaaDoor
