/-
  Made: a chunk that is made of parts and ticks.
-/
import Derived.Deep.RegionHeld3
import Derived.RegionTactic
import Derived.Test.YtdboebokjkkgkaaDoorPackMade
namespace Go.Proofs.YtdboebokjkkgkaaDoor
open Go.RowKit
set_option linter.unusedVariables false
set_option linter.unusedSimpArgs false
namespace PackW
open BytesW RunsW

def makeROut (w : World) (p : Nat) (l : List Pt) (i : Value) (wr : World) : Prop := ∃ j : Nat, i = .int .i64 j ∧ j ≤ l.length ∧ j ≤ 1000 ∧ Chk wr p (madeP j l).1 (madeP j l).2 (.slice none 0 0) ∧ Below w.heap.size w wr
def makeRIn (w : World) (p : Nat) (C L : List Cell) (q : Pt) (i : Value) (wr : World) : Prop := ∃ j : Nat, i = .int .i64 j ∧ j ≤ lenOf q ∧ Chk wr p (lay C (atOf q) j q.cell) (lay L (atOf q) j q.light) (.slice none 0 0) ∧ Below w.heap.size w wr
/-- What it answers. -/
def makeRP (w : World) (k : Ck) (e : Ending) (w' : World) : Prop := ∃ p, e = .returned (.pointer (some ⟨p, 0, none⟩)) ∧ ChkK w' p k ∧ w.heap.size ≤ p ∧ Below w.heap.size w w'

set_option maxRecDepth 100000 in
set_option maxHeartbeats 8000000 in
theorem makeR_c {w : World} {A B : Option Addr} {l : List Pt} {ts : List Tick} {c d : Nat} (hA : PartC w A l) (hok : ∀ q ∈ l, PtOk q) (hl : l.length ≤ 9223372036854775807) (hB : PairC tkv w B ts) (htd : ts.length ≤ d) (hd : d ≤ 9223372036854775807) (hts : ts.length ≤ 1000000) :
    Calls Tryd.prog 11 #[.slice A l.length c, .slice B ts.length d] w (makeRP w ⟨(madeP 1000 l).1, (madeP 1000 l).2, ts⟩) := by
  obtain ⟨n, hn⟩ : ∃ n, n = l.length := ⟨_, rfl⟩
  obtain ⟨tn, htn⟩ : ∃ tn, tn = ts.length := ⟨_, rfl⟩
  rw [← hn] at hl ⊢
  rw [← htn] at htd ⊢
  have HN := Lib.hid hn
  have HTN := Lib.hid htn
  have HA := Lib.hid hA
  have HOK := Lib.hid hok
  have HB := Lib.hid hB
  have hts2 : tn ≤ 1000000 := by omega
  clear hts
  obtain ⟨p, hp⟩ : ∃ p, p = w.heap.size := ⟨_, rfl⟩
  have HP := Lib.hid hp
  clear hn htn hA hok hB
  go_enter Tryd.func11, Tryd.ntmps11
  go_wp2_with (first
    | ((with_reducible refine at_slot 9 ?_); refine wp_build rfl rfl ?_)
    | ((with_reducible refine at_slot 10 ?_); refine wp_box rfl (.tmp 9) rfl rfl ?_; intro w1 hk1 hb1 hz1; rw [← hp] at hk1; simp only [← HP.out]; clear hp))
  go_loopw [6] (makeROut w p l) (fun v _ => n - (intOf v).toNat)
  case atStart => exact ⟨0, rfl, by omega, by omega, hk1, hb1⟩
  case round =>
    obtain ⟨j, rfl, hj, hj3, hck, hbw⟩ := hrel
    have HCK := Lib.hid hck
    have HBW := Lib.hid hbw
    have hz := hbw.size
    have hjn : j ≤ n := by have := HN.out; omega
    clear hck hbw hj hk1 hb1 hz1
    obtain ⟨wo, rfl⟩ : ∃ wo : World, wo = wr := ⟨_, rfl⟩
    by_cases hlt : j < n ∧ j < 1000
    · obtain ⟨hlt1, hlt2⟩ := hlt
      have hI1 : (j : Int) < n := by omega
      have hI2 : (j : Int) < 1000 := by omega
      obtain ⟨q, hq⟩ : ∃ q, l[j]? = some q := ⟨_, List.getElem?_eq_getElem (by have := HN.out; omega)⟩
      obtain ⟨b, o, rfl, hbl, hcs⟩ := HA.out (fun e => by rw [e] at hq; simp at hq)
      have hc := hcs j q hq
      have HQ := Lib.hid hq
      have HCS := Lib.hid hc
      have hb0 := (HBW.out.cell (p := ⟨b, o + j * 6, none⟩) hbl).trans hc.1
      have ha1 := atOf_lt q
      have ha2 := lenOf_le q
      obtain ⟨a, hae⟩ : ∃ a, a = atOf q := ⟨_, rfl⟩
      obtain ⟨M, hM⟩ : ∃ M, M = q.many := ⟨_, rfl⟩
      have HAE := Lib.hid hae
      have HME := Lib.hid hM
      have hand : bits .and .i64 q.at_ 4095 = (a : Int) := by rw [hae]; exact and4095 q
      obtain ⟨m, hm⟩ : ∃ m, m = lenOf q := ⟨_, rfl⟩
      have HM := Lib.hid hm
      have hm1 : (m : Int) = M ∨ a + m = 4096 ∨ (m = 0 ∧ M ≤ 0) := by
        rw [hm, hae, hM]
        have := atOf_lt q
        unfold lenOf
        omega
      have hm2 : (m : Int) ≤ M ∨ m = 0 := by
        rw [hm, hM]
        unfold lenOf
        omega
      obtain ⟨⟨mo1, mo2⟩, mo3, mo4⟩ := HOK.out q (List.mem_of_getElem? hq)
      rw [← hM] at mo3 mo4
      rw [← hae] at ha1 ha2
      rw [← hm] at ha2
      clear hq hcs hc hae hM hm
      go_wp2_with fail
      clear hb0 hand
      go_loopw [8] (makeRIn w p (madeP j l).1 (madeP j l).2 q) (fun v _ => 4096 - (intOf v).toNat)
      case atStart => exact ⟨0, rfl, by omega, by rw [lay_zero, lay_zero]; exact HCK.out, HBW.out⟩
      case round =>
        obtain ⟨i, rfl, hi, hck, hbw⟩ := hrel
        have HCK2 := Lib.hid hck
        have HBW2 := Lib.hid hbw
        have him : i ≤ m := by have := HM.out; omega
        have hzz := hbw.size
        have b1 := (HBW2.out.cell (p := ⟨b, o + j * 6 + 1, none⟩) hbl).trans HCS.out.2.1
        rw [← HME.out] at b1
        clear hck hbw hi
        by_cases hil : i < m
        · have hI3 : (i : Int) < M := by omega
          have hI4 : (a : Int) + (i : Int) < 4096 := by omega
          have hI5 : (0 : Int) ≤ (a : Int) + (i : Int) := by omega
          have b2 := (HBW2.out.cell (p := ⟨b, o + j * 6 + 2, none⟩) hbl).trans HCS.out.2.2.1
          have b3 := (HBW2.out.cell (p := ⟨b, o + j * 6 + 3, none⟩) hbl).trans HCS.out.2.2.2.1
          have b4 := (HBW2.out.cell (p := ⟨b, o + j * 6 + 4, none⟩) hbl).trans HCS.out.2.2.2.2.1
          have b5 := (HBW2.out.cell (p := ⟨b, o + j * 6 + 5, none⟩) hbl).trans HCS.out.2.2.2.2.2
          obtain ⟨X2, hX2⟩ : ∃ X : Int, X = (q.cell.1.toNat : Int) := ⟨_, rfl⟩
          obtain ⟨X3, hX3⟩ : ∃ X : Int, X = (q.cell.2.toNat : Int) := ⟨_, rfl⟩
          obtain ⟨X4, hX4⟩ : ∃ X : Int, X = (q.light.1.toNat : Int) := ⟨_, rfl⟩
          obtain ⟨X5, hX5⟩ : ∃ X : Int, X = (q.light.2.toNat : Int) := ⟨_, rfl⟩
          rw [bv, ← hX2] at b2
          rw [bv, ← hX3] at b3
          rw [bv, ← hX4] at b4
          rw [bv, ← hX5] at b5
          have HX2 := Lib.hid hX2
          have HX3 := Lib.hid hX3
          have HX4 := Lib.hid hX4
          have HX5 := Lib.hid hX5
          clear hX2 hX3 hX4 hX5
          have hC4 := HCK2.out.2.1
          have hL4 := HCK2.out.2.2
          obtain ⟨y, hy⟩ : ∃ y, (lay (madeP j l).1 (atOf q) i q.cell)[a + i]? = some y := ⟨_, List.getElem?_eq_getElem (by omega)⟩
          obtain ⟨z, hz2⟩ : ∃ z, (lay (madeP j l).2 (atOf q) i q.light)[a + i]? = some z := ⟨_, List.getElem?_eq_getElem (by omega)⟩
          have g0 := (HCK2.out.cell ((a + i) * 2)).trans (ckV_c hC4 hy).1
          have g1 := (HCK2.out.cell ((a + i) * 2 + 1)).trans (ckV_c hC4 hy).2
          have g2 := (HCK2.out.cell (8192 + (a + i) * 2)).trans (ckV_l hC4 hz2).1
          have g3 := (HCK2.out.cell (8192 + (a + i) * 2 + 1)).trans (ckV_l hC4 hz2).2
          have f0 := HCK2.out.frozen ((a + i) * 2)
          have f1 := HCK2.out.frozen ((a + i) * 2 + 1)
          have f2 := HCK2.out.frozen (8192 + (a + i) * 2)
          have f3 := HCK2.out.frozen (8192 + (a + i) * 2 + 1)
          have hsum : ((a : Int) + (i : Int)).toNat = a + i := by omega
          have hbp : b ≠ p := by have := HP.out; omega
          have hwr : IntKind.i64.wrap ((a : Int) + (i : Int)) = (a : Int) + (i : Int) := by rw [IntKind.wrap_i64]; omega
          clear hy hz2 hC4 hL4
          go_wp2_with fail
          go_region
          go_wp2_with fail
          go_region
          go_wp2_with fail
          go_roundw
          case rel =>
            clear hwr hsum
            have h2 := (HCK2.out.setC (j := a + i) (by omega) q.cell).setL (j := a + i) (by omega) q.light
            have e2 : bv q.cell.1 = .int .u8 X2 := by rw [HX2.out]; rfl
            have e3 : bv q.cell.2 = .int .u8 X3 := by rw [HX3.out]; rfl
            have e4 : bv q.light.1 = .int .u8 X4 := by rw [HX4.out]; rfl
            have e5 : bv q.light.2 = .int .u8 X5 := by rw [HX5.out]; rfl
            have hcl := HCK.out.2.1
            have hll := HCK.out.2.2
            rw [e2, e3, e4, e5, HAE.out, lay_set (by rw [hcl, ← HAE.out]; omega), lay_set (by rw [hll, ← HAE.out]; omega), ← HAE.out] at h2
            have hpw : w.heap.size ≤ p := by have := HP.out; omega
            refine ⟨i + 1, by go_num, by have := HM.out; omega, by rw [← HAE.out]; first | exact h2.drew.drew | exact h2.drew, ?_⟩
            have hbel := (((HBW2.out.setCell (p := ⟨p, (a + i) * 2, none⟩) hpw (.int .u8 X2)).setCell (p := ⟨p, (a + i) * 2 + 1, none⟩) hpw (.int .u8 X3)).setCell (p := ⟨p, 8192 + (a + i) * 2, none⟩) hpw (.int .u8 X4)).setCell (p := ⟨p, 8192 + (a + i) * 2 + 1, none⟩) hpw (.int .u8 X5)
            first | exact hbel.drew.drew | exact hbel.drew
          case measure => clear hwr hsum; simp [intOf]; omega
        · have him2 : i = m := by omega
          have HFIN : Hid (Chk wr p (madeP (j + 1) l).1 (madeP (j + 1) l).2 (.slice none 0 0)) := Lib.hid (by
            have h := HCK2.out
            rw [him2, HM.out] at h
            rw [made_next HQ.out]
            exact h)
          by_cases hiM : (i : Int) < M
          · have hI4 : ¬ (a : Int) + (i : Int) < 4096 := by omega
            clear him2
            go_wp2_with fail
            go_roundw
            case rel => exact ⟨j + 1, by go_num, by have := HN.out; omega, by omega, HFIN.out, HBW2.out⟩
            case measure => simp [intOf]; omega
          · clear him2
            go_wp2_with fail
            go_roundw
            case rel => exact ⟨j + 1, by go_num, by have := HN.out; omega, by omega, HFIN.out, HBW2.out⟩
            case measure => simp [intOf]; omega
    · have HFIN : Hid (Chk wo p (madeP 1000 l).1 (madeP 1000 l).2 (.slice none 0 0)) := Lib.hid (by
        have h := HCK.out
        by_cases hjn2 : j = 1000
        · rw [hjn2] at h
          exact h
        · have hj4 : j = l.length := by have := HN.out; omega
          rw [madeP, List.take_of_length_le (by omega)] at h
          rw [madeP, List.take_of_length_le (by omega)]
          exact h)
      have hz := HBW.out.size
      by_cases hjn3 : j < n
      · have hI1 : (j : Int) < n := by omega
        have hI2 : ¬ (j : Int) < 1000 := by omega
        have q0 := HFIN.out.t
        go_wp2_with ((with_reducible refine at_slot 72 ?_); refine wp_appP rfl (.tmp 70) (.tmp 71) rfl underTicks infoTick rfl (by omega) one_tk (B := wo.heap.size) (l := []) (l2 := ts) rfl (OwnP.nil _ _ _) (by rw [← HTN.out]; rfl) (HB.out.below HBW.out) (by have := HTN.out; simp; omega) (Nat.le_refl _) ?_; intro v3 w3 hown3 hg3 hb3; rw [List.nil_append] at hown3; obtain ⟨TA, tc, rfl, hTA, htc, htcm⟩ := hown3.typed; have HK3 := Lib.hid (HFIN.out.below hb3); have HTA := Lib.hid hTA; have HB3 := Lib.hid (below_m HBW.out hb3); have q2 := HK3.out.t; have q1 := HK3.out.frozen 16384; clear hown3 hg3 hb3 hTA)
        go_ret
        have hg := grown_set w3 p 16384 (.slice TA ts.length tc)
        exact ⟨p, rfl, ⟨TA, tc, HK3.out.setT _, (pair_chk HTA.out (by decide) HK3.out hg).c, htc, htcm, by have := HTN.out; simp only; omega⟩, by have := HP.out; omega, HB3.out.setCell (by have := HP.out; simp; omega) _⟩
      · have hI1 : ¬ (j : Int) < n := by omega
        have q0 := HFIN.out.t
        go_wp2_with ((with_reducible refine at_slot 72 ?_); refine wp_appP rfl (.tmp 70) (.tmp 71) rfl underTicks infoTick rfl (by omega) one_tk (B := wo.heap.size) (l := []) (l2 := ts) rfl (OwnP.nil _ _ _) (by rw [← HTN.out]; rfl) (HB.out.below HBW.out) (by have := HTN.out; simp; omega) (Nat.le_refl _) ?_; intro v3 w3 hown3 hg3 hb3; rw [List.nil_append] at hown3; obtain ⟨TA, tc, rfl, hTA, htc, htcm⟩ := hown3.typed; have HK3 := Lib.hid (HFIN.out.below hb3); have HTA := Lib.hid hTA; have HB3 := Lib.hid (below_m HBW.out hb3); have q2 := HK3.out.t; have q1 := HK3.out.frozen 16384; clear hown3 hg3 hb3 hTA)
        go_ret
        have hg := grown_set w3 p 16384 (.slice TA ts.length tc)
        exact ⟨p, rfl, ⟨TA, tc, HK3.out.setT _, (pair_chk HTA.out (by decide) HK3.out hg).c, htc, htcm, by have := HTN.out; simp only; omega⟩, by have := HP.out; omega, HB3.out.setCell (by have := HP.out; simp; omega) _⟩
end PackW
end Go.Proofs.YtdboebokjkkgkaaDoor
