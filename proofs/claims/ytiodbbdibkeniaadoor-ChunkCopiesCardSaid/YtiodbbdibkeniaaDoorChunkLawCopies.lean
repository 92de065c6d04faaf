/-
  ChunkCopies: a copy and what it was made of do not change with each other.
-/
import Derived.LaidEql
import Derived.Test.YtiodbbdibkeniaaDoorChunkDue
import Derived.Test.YtiodbbdibkeniaaDoorChunkLawSame
namespace Go.Proofs.YtiodbbdibkeniaaDoor
open Go.RowKit
set_option linter.unusedVariables false
set_option linter.unusedSimpArgs false
namespace ChunkW
open BytesW PackW SortW

/-- The copy's ticks so far. -/
def CopRel (w1 : World) (g n tc : Nat) (TA : Option Addr) (k : Ck) (i : Value) (wr : World) : Prop := ∃ j : Nat, i = .int .i64 j ∧ j ≤ n ∧ OwnP tkv 63 wr w1.heap.size (.slice TA n tc) (dueAll (-9) (k.ts.take j) ++ k.ts.drop j) ∧ Chk wr g k.cs k.ls (.slice TA n tc) ∧ Below w1.heap.size w1 wr
def RdyRel (w1 : World) (n tc : Nat) (TA : Option Addr) (i : Value) (wr : World) : Prop := ∃ (j : Nat) (l : List Tick), i = .int .i64 j ∧ j ≤ n ∧ l.length = n ∧ OwnP tkv 63 wr w1.heap.size (.slice TA n tc) l ∧ Below w1.heap.size w1 wr
def copK (k : Ck) : Ck := ⟨k.cs.set 0 (99, 0), k.ls.set 4095 (99, 0), dueAll (-9) k.ts⟩
def eqK (k : Ck) : Bool := decide (k.cs[0]? = some (99, 0)) && decide (k.ls[4095]? = some (99, 0))
theorem set_same {C : List Cell} {j : Nat} {c : Cell} (hj : j < C.length) : (C = C.set j c) ↔ C[j]? = some c := by
  constructor
  · intro h
    rw [h, List.getElem?_set_self hj]
  · intro h
    obtain ⟨h1, h2⟩ := List.getElem?_eq_some_iff.1 h
    rw [← h2, List.set_getElem_self]
theorem same_cop {k : Ck} (hC : k.cs.length = 4096) (hL : k.ls.length = 4096) (ht : k.ts = []) : sameK k (copK k) = eqK k := by
  simp only [sameK, copK, eqK, ht, dueAll, List.map_nil, decide_true, Bool.and_true]
  rw [decide_eq_decide.2 (set_same (by omega)), decide_eq_decide.2 (set_same (by omega))]

theorem _root_.Go.Proofs.YtiodbbdibkeniaaDoor.PackW.ChkK.drewK {w : World} {p : Nat} {k : Ck} (h : ChkK w p k) : ChkK w.drew p k := h.below (Below.refl _ _).drew
theorem cop_k {wr W : World} {g m tc B : Nat} {TA : Option Addr} {k : Ck} (hC : Chk wr g k.cs k.ls (.slice TA m tc)) (hO : OwnP tkv 63 wr B (.slice TA m tc) (dueAll (-9) k.ts)) (hm : m = k.ts.length) (h3 : m ≤ 300)
    (hW : W = (((wr.setCell ⟨g, 0, none⟩ (.int .u8 99)).setCell ⟨g, 1, none⟩ (.int .u8 0)).setCell ⟨g, 16382, none⟩ (.int .u8 99)).setCell ⟨g, 16383, none⟩ (.int .u8 0)) : ChkK W g (copK k) := by
  have hl : (copK k).ts.length = m := by simp [copK, dueAll, hm]
  have h1 : Chk W g (copK k).cs (copK k).ls (.slice TA m tc) := by
    rw [hW]
    exact (hC.setC (j := 0) (by omega) (99, 0)).setL (j := 4095) (by omega) (99, 0)
  obtain ⟨A, c, e, hA, g1, g2⟩ := hO.typed
  injection e with e1 e2 e3
  subst e1 e3
  rw [← hl] at h1
  refine ⟨_, _, h1, (pair_chk hA (by decide) hC ?_).c, by rw [hl]; simpa [dueAll, ← hm] using g1, g2, by omega⟩
  rw [hW]
  exact ((grown_set _ _ _ _).trans (grown_set _ _ _ _)).trans ((grown_set _ _ _ _).trans (grown_set _ _ _ _))
theorem u8_is {x : UInt8} {X : Int} (h : X = (x.toNat : Int)) (y : UInt8) : decide (x = y) = decide (X = (y.toNat : Int)) := by
  rw [h]
  refine decide_eq_decide.2 ⟨fun e => by rw [e], fun e => UInt8.toNat_inj.1 (by omega)⟩
theorem eqK_is {k : Ck} {k0 l0 s0 m0 : UInt8} {K LV S MP : Int} (h0 : k.cs[0]? = some (k0, l0)) (h1 : k.ls[4095]? = some (s0, m0)) (hK : K = (k0.toNat : Int)) (hL : LV = (l0.toNat : Int)) (hS : S = (s0.toNat : Int)) (hM : MP = (m0.toNat : Int)) :
    eqK k = ((decide (K = 99) && decide (LV = 0)) && (decide (S = 99) && decide (MP = 0))) := by
  have a1 : decide (K = 99) = decide (k0 = 99) := (u8_is hK 99).symm
  have a2 : decide (LV = 0) = decide (l0 = 0) := (u8_is hL 0).symm
  have a3 : decide (S = 99) = decide (s0 = 99) := (u8_is hS 99).symm
  have a4 : decide (MP = 0) = decide (m0 = 0) := (u8_is hM 0).symm
  rw [eqK, h0, h1, a1, a2, a3, a4]
  simp [Prod.ext_iff, Bool.decide_and]
theorem cells_of {w : World} {p : Nat} {k : Ck} {k0 l0 s0 m0 : UInt8} {K LV S MP : Int} (h : ChkK w p k) (h0 : k.cs[0]? = some (k0, l0)) (h1 : k.ls[4095]? = some (s0, m0)) (hK : K = (k0.toNat : Int)) (hL : LV = (l0.toNat : Int)) (hS : S = (s0.toNat : Int)) (hM : MP = (m0.toNat : Int)) :
    w.cell? ⟨p, 0, none⟩ = some (.int .u8 K) ∧ w.cell? ⟨p, 1, none⟩ = some (.int .u8 LV) ∧ w.cell? ⟨p, 16382, none⟩ = some (.int .u8 S) ∧ w.cell? ⟨p, 16383, none⟩ = some (.int .u8 MP) := by
  obtain ⟨A, c, hc, _⟩ := h
  rw [hK, hL, hS, hM]
  exact ⟨(hc.cell 0).trans (ckV_c hc.2.1 h0).1, (hc.cell 1).trans (ckV_c hc.2.1 h0).2, (hc.cell 16382).trans (ckV_l hc.2.1 h1).1, (hc.cell 16383).trans (ckV_l hc.2.1 h1).2⟩

set_option maxRecDepth 100000 in
set_option maxHeartbeats 8000000 in
theorem law_copies {w : World} {A B : Option Addr} {l : List Ed} {ts : List Tick} {c d : Nat} (hT : KindW.Tab w) (hl : l.length ≤ 9223372036854775807) (hA : EditC w A l ∧ ∀ q ∈ l, EdOk q) (hd : ts.length ≤ d ∧ d ≤ 9223372036854775807) (hB : PairC tkv w B ts) :
    Calls Tryd.prog 7 #[.slice A l.length c, .slice B ts.length d] w fun e w' => e = .returned (.bool true) ∧ Below w.heap.size w w' := by
  have HT := Lib.hid hT
  obtain ⟨n, hn⟩ : ∃ n, n = l.length := ⟨_, rfl⟩
  obtain ⟨m, hm⟩ : ∃ m, m = ts.length := ⟨_, rfl⟩
  have HOF : Hid (n ≤ 1000000 → m ≤ 1000000 → ∀ W, Below w.heap.size w W → Calls Tryd.prog 10 #[.slice A n c, .slice B m d] W (OfP W (ckOf l ts))) := Lib.hid (fun h1 h2 W hW => by
    rw [hn] at h1 ⊢
    rw [hm] at h2 ⊢
    exact of_c (hA.1.below hW) hA.2 h1 (hB.below hW) h2)
  rw [← hn, ← hm]
  obtain ⟨k, hk⟩ : ∃ k, k = ckOf l ts := ⟨_, rfl⟩
  have HM : Hid (m = k.ts.length) := Lib.hid (by rw [hk]; exact hm)
  rw [← hk] at HOF
  clear hT hl hA hd hB hn hm hk
  by_cases h0 : 300 < n
  · have e0 : decide ((300 : Int) < n) = true := by simp; omega
    clear h0
    go_enter Tryd.func7, Tryd.ntmps7
    go_wp2_with (go_at_call 9; refine (awake_c HT.out).mono ?_; rintro e w1 ⟨rfl, hb1⟩)
    go_ret
    exact ⟨rfl, hb1⟩
  · have e0 : decide ((300 : Int) < n) = false := by simp; omega
    by_cases h1 : 300 < m
    · have e1 : decide ((300 : Int) < m) = true := by simp; omega
      clear h0 h1
      go_enter Tryd.func7, Tryd.ntmps7
      go_wp2_with (go_at_call 9; refine (awake_c HT.out).mono ?_; rintro e w1 ⟨rfl, hb1⟩)
      go_ret
      exact ⟨rfl, hb1⟩
    · have e1 : decide ((300 : Int) < m) = false := by simp; omega
      have HO := Lib.hid (HOF.out (by omega) (by omega))
      have HM3 : Hid (m ≤ 300) := Lib.hid (by omega)
      clear h0 h1 HOF
      go_enter Tryd.func7, Tryd.ntmps7
      go_wp2_with fail
      go_at_call 10
      refine (HO.out _ (Below.refl _ _)).mono ?_
      rintro e w1 ⟨p, rfl, hk, hgep, hb⟩
      have Hp1 := Lib.hid hk
      have HB1 := Lib.hid hb
      clear hb hk hgep
      go_wp2_with fail
      go_at_call 16
      refine (copy_c Hp1.out).mono ?_
      rintro e w2 ⟨g, TA, tc, rfl, hk, hown, hgg, hl3, hb⟩
      rw [← HM.out] at hk hown
      have HC2 := Lib.hid hk
      have HO2 := Lib.hid hown
      have HB2 := Lib.hid hb
      have HPL := Lib.hid (chkK_lt Hp1.out)
      have hpg : p < g := Nat.lt_of_lt_of_le HPL.out hgg
      clear hb hk hown hl3
      go_wp2_with fail
      go_loopw [7] (CopRel w1 g m tc TA k) (fun v _ => m - (intOf v).toNat)
      case atStart => exact ⟨0, rfl, by omega, by simpa [dueAll] using HO2.out, HC2.out, HB2.out⟩
      case round =>
        obtain ⟨j, rfl, hj, hown, hchk, hbw⟩ := hrel
        have HCW := Lib.hid hchk
        have HBW := Lib.hid hbw
        have HOW := Lib.hid hown
        have q1 := hchk.t
        clear hown hchk hbw
        have hm3 := HM3.out
        by_cases hjl : j < m
        · have hjI : (j : Int) < m := by omega
          have hjI0 : (0 : Int) ≤ j := by omega
          obtain ⟨gT, t, rfl, ht, hgT, ⟨cs, hcs⟩, hc, hset⟩ := own_due HOW.out (by have := HM.out; simp [dueAll]; omega) hjl
          have q2 : wr.frozen? ⟨gT, j * 2 + 1, none⟩ = false := by simp [World.frozen?, hcs]
          have HSET := Lib.hid (hset (-9))
          have HST := Lib.hid (due_step (d := -9) ht (by have := HM.out; omega))
          have HC3 := Lib.hid (chk_otherSet (i := j * 2 + 1) (u := .int .i64 (-9)) HCW.out hcs)
          have HGT := Lib.hid hgT
          clear ht hgT hset hcs
          go_wp2_with fail
          go_roundw
          case rel => exact ⟨j + 1, by go_num, by omega, by rw [← HST.out]; exact HSET.out, HC3.out, HBW.out.setCell (p := ⟨gT, j * 2 + 1, none⟩) HGT.out _⟩
          case measure => simp [intOf]; omega
        · have hjI : ¬ (j : Int) < m := by omega
          have f0 := HCW.out.frozen 0
          have f1 := HCW.out.frozen 1
          have f2 := HCW.out.frozen 16382
          have f3 := HCW.out.frozen 16383
          -- TAIL
          have HC4 := Lib.hid HCW.out.2.1
          have HL4 := Lib.hid HCW.out.2.2
          have HOF2 : Hid (OwnP tkv 63 wr w1.heap.size (.slice TA m tc) (dueAll (-9) k.ts)) := Lib.hid (by
            have h := HOW.out
            rw [List.take_of_length_le (by have := HM.out; omega), List.drop_of_length_le (by have := HM.out; omega), List.append_nil] at h
            exact h)
          have hgg2 := hgg
          have hX := cop_k HCW.out HOF2.out HM.out HM3.out rfl
          have hY := (((HBW.out.setCell (p := ⟨g, 0, none⟩) hgg2 (.int .u8 99)).setCell (p := ⟨g, 1, none⟩) hgg2 (.int .u8 0)).setCell (p := ⟨g, 16382, none⟩) hgg2 (.int .u8 99)).setCell (p := ⟨g, 16383, none⟩) hgg2 (.int .u8 0)
          have HX := Lib.hid hX
          have HY := Lib.hid hY
          obtain ⟨y, hy⟩ : ∃ y, k.cs[0]? = some y := ⟨_, List.getElem?_eq_getElem (by have := HC4.out; omega)⟩
          obtain ⟨z, hz⟩ : ∃ z, k.ls[4095]? = some z := ⟨_, List.getElem?_eq_getElem (by have := HL4.out; omega)⟩
          have g0 : wr.cell? ⟨g, 0, none⟩ = some (bv y.1) := (HCW.out.cell 0).trans (ckV_c HC4.out hy).1
          have g1 : wr.cell? ⟨g, 1, none⟩ = some (bv y.2) := (HCW.out.cell 1).trans (ckV_c HC4.out hy).2
          have g2 : wr.cell? ⟨g, 16382, none⟩ = some (bv z.1) := (HCW.out.cell 16382).trans (ckV_l HC4.out hz).1
          have g3 : wr.cell? ⟨g, 16383, none⟩ = some (bv z.2) := (HCW.out.cell 16383).trans (ckV_l HC4.out hz).2
          clear hX hY hy hz
          go_wp2_with fail
          go_at_call 10
          refine calls_namedW (fun W => ChkK W g (copK k) ∧ Below w1.heap.size w1 W) ⟨by first | exact HX.out | exact HX.out.drewK | exact HX.out.drewK.drewK, by first | exact HY.out | exact HY.out.drew | exact HY.out.drew.drew⟩ ?_
          rintro w4 ⟨hg4, hb4⟩
          have HB4 := Lib.hid (below_t HB1.out hb4)
          refine (HO.out _ HB4.out).mono ?_
          rintro e w5 ⟨q, rfl, hk, hge, hb⟩
          have Hq5 := Lib.hid hk
          have Hp5 := Lib.hid ((Hp1.out.below hb4).below hb)
          have Hg5 := Lib.hid (hg4.below hb)
          have HB5 := Lib.hid (below_t HB4.out hb)
          clear hk hb hge hb4 hg4 f0 f1 f2 f3 q1 hgg2 g0 g1 g2 g3
          by_cases hm0 : m = 0
          · subst hm0
            obtain ⟨⟨k0, l0⟩, hk0⟩ : ∃ x, k.cs[0]? = some x := ⟨_, List.getElem?_eq_getElem (by have := HC4.out; omega)⟩
            obtain ⟨⟨s0, m0⟩, hl0⟩ : ∃ x, k.ls[4095]? = some x := ⟨_, List.getElem?_eq_getElem (by have := HL4.out; omega)⟩
            have HC0 := Lib.hid hk0
            have HL0 := Lib.hid hl0
            obtain ⟨K, hK⟩ : ∃ K : Int, K = (k0.toNat : Int) := ⟨_, rfl⟩
            obtain ⟨LV, hLV⟩ : ∃ K : Int, K = (l0.toNat : Int) := ⟨_, rfl⟩
            obtain ⟨S, hS⟩ : ∃ K : Int, K = (s0.toNat : Int) := ⟨_, rfl⟩
            obtain ⟨MP, hMP⟩ : ∃ K : Int, K = (m0.toNat : Int) := ⟨_, rfl⟩
            have hsame := same_cop HC4.out HL4.out (List.eq_nil_of_length_eq_zero HM.out.symm)
            rw [eqK_is hk0 hl0 hK hLV hS hMP] at hsame
            have HK := Lib.hid hK
            have HLV := Lib.hid hLV
            have HS := Lib.hid hS
            have HMP := Lib.hid hMP
            have HSAME := Lib.hid hsame
            clear hk0 hl0 hK hLV hS hMP hsame
            by_cases hK : K = 99
            · subst hK
              by_cases hLV : LV = 0
              · subst hLV
                by_cases hS : S = 99
                · subst hS
                  by_cases hMP : MP = 0
                  · subst hMP
                    have HR : Hid (sameK k (copK k) = true) := Lib.hid (by rw [HSAME.out]; rfl)
                    go_wp2_with fail
                    go_at_call 17
                    refine (same7_c Hp5.out Hq5.out (sameK_self k)).mono ?_
                    rintro e w6 ⟨rfl, hb⟩
                    have Hp6 := Lib.hid (Hp5.out.below hb)
                    have Hg6 := Lib.hid (Hg5.out.below hb)
                    have HB6 := Lib.hid (below_t HB5.out hb)
                    clear hb
                    go_wp2_with fail
                    go_at_call 17
                    refine (same7_c Hp6.out Hg6.out HR.out).mono ?_
                    rintro e w7 ⟨rfl, hb⟩
                    have Hp7 := Lib.hid (Hp6.out.below hb)
                    have HB7 := Lib.hid (below_t HB6.out hb)
                    clear hb
                    obtain ⟨c0, c1, c2, c3⟩ := cells_of Hp7.out HC0.out HL0.out HK.out HLV.out HS.out HMP.out
                    go_wp2_with fail
                    go_at_call 21
                    refine (ready_c Hp7.out).mono ?_
                    rintro e w8 ⟨v, rfl, hown, hb⟩
                    obtain ⟨TR, tr, rfl⟩ := own_sl hown
                    obtain ⟨n2, hn2⟩ : ∃ n, n = (readyT k.ts 4611686018427387904).length := ⟨_, rfl⟩
                    rw [← hn2] at hown
                    have HO8 := Lib.hid hown
                    have HB8 := Lib.hid hb
                    have HN2 := Lib.hid hn2
                    have hn3 : n2 ≤ 300 := by
                      have h1 := List.length_filter_le (fun t : Tick => decide (t.2 ≤ 4611686018427387904)) k.ts
                      have h2 := HM.out
                      have h3 := HM3.out
                      rw [readyT, srt_len] at hn2
                      omega
                    rw [← hn2]
                    clear hb hown hn2 c0 c1 c2 c3
                    go_wp2_with fail
                    go_loopw [9] (RdyRel w7 n2 tr TR) (fun v _ => n2 - (intOf v).toNat)
                    case atStart => exact ⟨0, _, rfl, by omega, HN2.out.symm, HO8.out, HB8.out⟩
                    case round =>
                      obtain ⟨j, lj, rfl, hj, hlj, hown, hbw⟩ := hrel
                      have HBW := Lib.hid hbw
                      have HOW := Lib.hid hown
                      have HLJ := Lib.hid hlj
                      clear hown hbw hlj
                      by_cases hjl : j < n2
                      · have hjI : (j : Int) < n2 := by omega
                        have hjI0 : (0 : Int) ≤ j := by omega
                        obtain ⟨gT, t, rfl, ht, hgT, ⟨cs, hcs⟩, hc, hset⟩ := own_due HOW.out HLJ.out.symm hjl
                        have q2 : wr.frozen? ⟨gT, j * 2 + 1, none⟩ = false := by simp [World.frozen?, hcs]
                        have HSET := Lib.hid (hset (-8))
                        have HGT := Lib.hid hgT
                        clear ht hgT hset hcs
                        go_wp2_with fail
                        go_roundw
                        case rel => exact ⟨j + 1, _, by go_num, by omega, by rw [List.length_set]; exact HLJ.out, HSET.out, HBW.out.setCell (p := ⟨gT, j * 2 + 1, none⟩) HGT.out _⟩
                        case measure => simp [intOf]; omega
                      · have hjI : ¬ (j : Int) < n2 := by omega
                        have Hp9 := Lib.hid (Hp7.out.below HBW.out)
                        have HB9 := Lib.hid (below_t HB7.out HBW.out)
                        go_wp2_with fail
                        go_at_call 10
                        refine (HO.out _ HB9.out).mono ?_
                        rintro e w10 ⟨q2, rfl, hk, hge2, hb⟩
                        have Hq10 := Lib.hid hk
                        have Hp10 := Lib.hid (Hp9.out.below hb)
                        have HB10 := Lib.hid (below_t HB9.out hb)
                        clear hk hb
                        go_wp2_with fail
                        go_at_call 17
                        refine (same7_c Hp10.out Hq10.out (sameK_self k)).mono ?_
                        rintro e w11 ⟨rfl, hb⟩
                        have HB11 := Lib.hid (below_t HB10.out hb)
                        clear hb
                        go_wp2_with (go_at_call 9; refine (awake_c (HT.out.below HB11.out)).mono ?_; rintro e w' ⟨rfl, hb⟩)
                        go_ret
                        exact ⟨rfl, below_t HB11.out hb⟩
                  · have HR : Hid (sameK k (copK k) = false) := Lib.hid (by rw [HSAME.out]; simp [hMP])
                    have e9 : decide (MP = 0) = false := by simp [hMP]
                    have e8 : (MP == 0) = false := by simp [hMP]
                    go_wp2_with fail
                    go_at_call 17
                    refine (same7_c Hp5.out Hq5.out (sameK_self k)).mono ?_
                    rintro e w6 ⟨rfl, hb⟩
                    have Hp6 := Lib.hid (Hp5.out.below hb)
                    have Hg6 := Lib.hid (Hg5.out.below hb)
                    have HB6 := Lib.hid (below_t HB5.out hb)
                    clear hb
                    go_wp2_with fail
                    go_at_call 17
                    refine (same7_c Hp6.out Hg6.out HR.out).mono ?_
                    rintro e w7 ⟨rfl, hb⟩
                    have Hp7 := Lib.hid (Hp6.out.below hb)
                    have HB7 := Lib.hid (below_t HB6.out hb)
                    clear hb
                    obtain ⟨c0, c1, c2, c3⟩ := cells_of Hp7.out HC0.out HL0.out HK.out HLV.out HS.out HMP.out
                    go_wp2_with fail
                    go_at_call 21
                    refine (ready_c Hp7.out).mono ?_
                    rintro e w8 ⟨v, rfl, hown, hb⟩
                    obtain ⟨TR, tr, rfl⟩ := own_sl hown
                    obtain ⟨n2, hn2⟩ : ∃ n, n = (readyT k.ts 4611686018427387904).length := ⟨_, rfl⟩
                    rw [← hn2] at hown
                    have HO8 := Lib.hid hown
                    have HB8 := Lib.hid hb
                    have HN2 := Lib.hid hn2
                    have hn3 : n2 ≤ 300 := by
                      have h1 := List.length_filter_le (fun t : Tick => decide (t.2 ≤ 4611686018427387904)) k.ts
                      have h2 := HM.out
                      have h3 := HM3.out
                      rw [readyT, srt_len] at hn2
                      omega
                    rw [← hn2]
                    clear hb hown hn2 c0 c1 c2 c3
                    go_wp2_with fail
                    go_loopw [9] (RdyRel w7 n2 tr TR) (fun v _ => n2 - (intOf v).toNat)
                    case atStart => exact ⟨0, _, rfl, by omega, HN2.out.symm, HO8.out, HB8.out⟩
                    case round =>
                      obtain ⟨j, lj, rfl, hj, hlj, hown, hbw⟩ := hrel
                      have HBW := Lib.hid hbw
                      have HOW := Lib.hid hown
                      have HLJ := Lib.hid hlj
                      clear hown hbw hlj
                      by_cases hjl : j < n2
                      · have hjI : (j : Int) < n2 := by omega
                        have hjI0 : (0 : Int) ≤ j := by omega
                        obtain ⟨gT, t, rfl, ht, hgT, ⟨cs, hcs⟩, hc, hset⟩ := own_due HOW.out HLJ.out.symm hjl
                        have q2 : wr.frozen? ⟨gT, j * 2 + 1, none⟩ = false := by simp [World.frozen?, hcs]
                        have HSET := Lib.hid (hset (-8))
                        have HGT := Lib.hid hgT
                        clear ht hgT hset hcs
                        go_wp2_with fail
                        go_roundw
                        case rel => exact ⟨j + 1, _, by go_num, by omega, by rw [List.length_set]; exact HLJ.out, HSET.out, HBW.out.setCell (p := ⟨gT, j * 2 + 1, none⟩) HGT.out _⟩
                        case measure => simp [intOf]; omega
                      · have hjI : ¬ (j : Int) < n2 := by omega
                        have Hp9 := Lib.hid (Hp7.out.below HBW.out)
                        have HB9 := Lib.hid (below_t HB7.out HBW.out)
                        go_wp2_with fail
                        go_at_call 10
                        refine (HO.out _ HB9.out).mono ?_
                        rintro e w10 ⟨q2, rfl, hk, hge2, hb⟩
                        have Hq10 := Lib.hid hk
                        have Hp10 := Lib.hid (Hp9.out.below hb)
                        have HB10 := Lib.hid (below_t HB9.out hb)
                        clear hk hb
                        go_wp2_with fail
                        go_at_call 17
                        refine (same7_c Hp10.out Hq10.out (sameK_self k)).mono ?_
                        rintro e w11 ⟨rfl, hb⟩
                        have HB11 := Lib.hid (below_t HB10.out hb)
                        clear hb
                        go_wp2_with (go_at_call 9; refine (awake_c (HT.out.below HB11.out)).mono ?_; rintro e w' ⟨rfl, hb⟩)
                        go_ret
                        exact ⟨rfl, below_t HB11.out hb⟩
                · have HR : Hid (sameK k (copK k) = false) := Lib.hid (by rw [HSAME.out]; simp [hS])
                  have e9 : decide (S = 99) = false := by simp [hS]
                  have e8 : (S == 99) = false := by simp [hS]
                  go_wp2_with fail
                  go_at_call 17
                  refine (same7_c Hp5.out Hq5.out (sameK_self k)).mono ?_
                  rintro e w6 ⟨rfl, hb⟩
                  have Hp6 := Lib.hid (Hp5.out.below hb)
                  have Hg6 := Lib.hid (Hg5.out.below hb)
                  have HB6 := Lib.hid (below_t HB5.out hb)
                  clear hb
                  go_wp2_with fail
                  go_at_call 17
                  refine (same7_c Hp6.out Hg6.out HR.out).mono ?_
                  rintro e w7 ⟨rfl, hb⟩
                  have Hp7 := Lib.hid (Hp6.out.below hb)
                  have HB7 := Lib.hid (below_t HB6.out hb)
                  clear hb
                  obtain ⟨c0, c1, c2, c3⟩ := cells_of Hp7.out HC0.out HL0.out HK.out HLV.out HS.out HMP.out
                  go_wp2_with fail
                  go_at_call 21
                  refine (ready_c Hp7.out).mono ?_
                  rintro e w8 ⟨v, rfl, hown, hb⟩
                  obtain ⟨TR, tr, rfl⟩ := own_sl hown
                  obtain ⟨n2, hn2⟩ : ∃ n, n = (readyT k.ts 4611686018427387904).length := ⟨_, rfl⟩
                  rw [← hn2] at hown
                  have HO8 := Lib.hid hown
                  have HB8 := Lib.hid hb
                  have HN2 := Lib.hid hn2
                  have hn3 : n2 ≤ 300 := by
                    have h1 := List.length_filter_le (fun t : Tick => decide (t.2 ≤ 4611686018427387904)) k.ts
                    have h2 := HM.out
                    have h3 := HM3.out
                    rw [readyT, srt_len] at hn2
                    omega
                  rw [← hn2]
                  clear hb hown hn2 c0 c1 c2 c3
                  go_wp2_with fail
                  go_loopw [9] (RdyRel w7 n2 tr TR) (fun v _ => n2 - (intOf v).toNat)
                  case atStart => exact ⟨0, _, rfl, by omega, HN2.out.symm, HO8.out, HB8.out⟩
                  case round =>
                    obtain ⟨j, lj, rfl, hj, hlj, hown, hbw⟩ := hrel
                    have HBW := Lib.hid hbw
                    have HOW := Lib.hid hown
                    have HLJ := Lib.hid hlj
                    clear hown hbw hlj
                    by_cases hjl : j < n2
                    · have hjI : (j : Int) < n2 := by omega
                      have hjI0 : (0 : Int) ≤ j := by omega
                      obtain ⟨gT, t, rfl, ht, hgT, ⟨cs, hcs⟩, hc, hset⟩ := own_due HOW.out HLJ.out.symm hjl
                      have q2 : wr.frozen? ⟨gT, j * 2 + 1, none⟩ = false := by simp [World.frozen?, hcs]
                      have HSET := Lib.hid (hset (-8))
                      have HGT := Lib.hid hgT
                      clear ht hgT hset hcs
                      go_wp2_with fail
                      go_roundw
                      case rel => exact ⟨j + 1, _, by go_num, by omega, by rw [List.length_set]; exact HLJ.out, HSET.out, HBW.out.setCell (p := ⟨gT, j * 2 + 1, none⟩) HGT.out _⟩
                      case measure => simp [intOf]; omega
                    · have hjI : ¬ (j : Int) < n2 := by omega
                      have Hp9 := Lib.hid (Hp7.out.below HBW.out)
                      have HB9 := Lib.hid (below_t HB7.out HBW.out)
                      go_wp2_with fail
                      go_at_call 10
                      refine (HO.out _ HB9.out).mono ?_
                      rintro e w10 ⟨q2, rfl, hk, hge2, hb⟩
                      have Hq10 := Lib.hid hk
                      have Hp10 := Lib.hid (Hp9.out.below hb)
                      have HB10 := Lib.hid (below_t HB9.out hb)
                      clear hk hb
                      go_wp2_with fail
                      go_at_call 17
                      refine (same7_c Hp10.out Hq10.out (sameK_self k)).mono ?_
                      rintro e w11 ⟨rfl, hb⟩
                      have HB11 := Lib.hid (below_t HB10.out hb)
                      clear hb
                      go_wp2_with (go_at_call 9; refine (awake_c (HT.out.below HB11.out)).mono ?_; rintro e w' ⟨rfl, hb⟩)
                      go_ret
                      exact ⟨rfl, below_t HB11.out hb⟩
              · have HR : Hid (sameK k (copK k) = false) := Lib.hid (by rw [HSAME.out]; simp [hLV])
                have e9 : decide (LV = 0) = false := by simp [hLV]
                have e8 : (LV == 0) = false := by simp [hLV]
                go_wp2_with fail
                go_at_call 17
                refine (same7_c Hp5.out Hq5.out (sameK_self k)).mono ?_
                rintro e w6 ⟨rfl, hb⟩
                have Hp6 := Lib.hid (Hp5.out.below hb)
                have Hg6 := Lib.hid (Hg5.out.below hb)
                have HB6 := Lib.hid (below_t HB5.out hb)
                clear hb
                go_wp2_with fail
                go_at_call 17
                refine (same7_c Hp6.out Hg6.out HR.out).mono ?_
                rintro e w7 ⟨rfl, hb⟩
                have Hp7 := Lib.hid (Hp6.out.below hb)
                have HB7 := Lib.hid (below_t HB6.out hb)
                clear hb
                obtain ⟨c0, c1, c2, c3⟩ := cells_of Hp7.out HC0.out HL0.out HK.out HLV.out HS.out HMP.out
                go_wp2_with fail
                go_at_call 21
                refine (ready_c Hp7.out).mono ?_
                rintro e w8 ⟨v, rfl, hown, hb⟩
                obtain ⟨TR, tr, rfl⟩ := own_sl hown
                obtain ⟨n2, hn2⟩ : ∃ n, n = (readyT k.ts 4611686018427387904).length := ⟨_, rfl⟩
                rw [← hn2] at hown
                have HO8 := Lib.hid hown
                have HB8 := Lib.hid hb
                have HN2 := Lib.hid hn2
                have hn3 : n2 ≤ 300 := by
                  have h1 := List.length_filter_le (fun t : Tick => decide (t.2 ≤ 4611686018427387904)) k.ts
                  have h2 := HM.out
                  have h3 := HM3.out
                  rw [readyT, srt_len] at hn2
                  omega
                rw [← hn2]
                clear hb hown hn2 c0 c1 c2 c3
                go_wp2_with fail
                go_loopw [9] (RdyRel w7 n2 tr TR) (fun v _ => n2 - (intOf v).toNat)
                case atStart => exact ⟨0, _, rfl, by omega, HN2.out.symm, HO8.out, HB8.out⟩
                case round =>
                  obtain ⟨j, lj, rfl, hj, hlj, hown, hbw⟩ := hrel
                  have HBW := Lib.hid hbw
                  have HOW := Lib.hid hown
                  have HLJ := Lib.hid hlj
                  clear hown hbw hlj
                  by_cases hjl : j < n2
                  · have hjI : (j : Int) < n2 := by omega
                    have hjI0 : (0 : Int) ≤ j := by omega
                    obtain ⟨gT, t, rfl, ht, hgT, ⟨cs, hcs⟩, hc, hset⟩ := own_due HOW.out HLJ.out.symm hjl
                    have q2 : wr.frozen? ⟨gT, j * 2 + 1, none⟩ = false := by simp [World.frozen?, hcs]
                    have HSET := Lib.hid (hset (-8))
                    have HGT := Lib.hid hgT
                    clear ht hgT hset hcs
                    go_wp2_with fail
                    go_roundw
                    case rel => exact ⟨j + 1, _, by go_num, by omega, by rw [List.length_set]; exact HLJ.out, HSET.out, HBW.out.setCell (p := ⟨gT, j * 2 + 1, none⟩) HGT.out _⟩
                    case measure => simp [intOf]; omega
                  · have hjI : ¬ (j : Int) < n2 := by omega
                    have Hp9 := Lib.hid (Hp7.out.below HBW.out)
                    have HB9 := Lib.hid (below_t HB7.out HBW.out)
                    go_wp2_with fail
                    go_at_call 10
                    refine (HO.out _ HB9.out).mono ?_
                    rintro e w10 ⟨q2, rfl, hk, hge2, hb⟩
                    have Hq10 := Lib.hid hk
                    have Hp10 := Lib.hid (Hp9.out.below hb)
                    have HB10 := Lib.hid (below_t HB9.out hb)
                    clear hk hb
                    go_wp2_with fail
                    go_at_call 17
                    refine (same7_c Hp10.out Hq10.out (sameK_self k)).mono ?_
                    rintro e w11 ⟨rfl, hb⟩
                    have HB11 := Lib.hid (below_t HB10.out hb)
                    clear hb
                    go_wp2_with (go_at_call 9; refine (awake_c (HT.out.below HB11.out)).mono ?_; rintro e w' ⟨rfl, hb⟩)
                    go_ret
                    exact ⟨rfl, below_t HB11.out hb⟩
            · have HR : Hid (sameK k (copK k) = false) := Lib.hid (by rw [HSAME.out]; simp [hK])
              have e9 : decide (K = 99) = false := by simp [hK]
              have e8 : (K == 99) = false := by simp [hK]
              go_wp2_with fail
              go_at_call 17
              refine (same7_c Hp5.out Hq5.out (sameK_self k)).mono ?_
              rintro e w6 ⟨rfl, hb⟩
              have Hp6 := Lib.hid (Hp5.out.below hb)
              have Hg6 := Lib.hid (Hg5.out.below hb)
              have HB6 := Lib.hid (below_t HB5.out hb)
              clear hb
              go_wp2_with fail
              go_at_call 17
              refine (same7_c Hp6.out Hg6.out HR.out).mono ?_
              rintro e w7 ⟨rfl, hb⟩
              have Hp7 := Lib.hid (Hp6.out.below hb)
              have HB7 := Lib.hid (below_t HB6.out hb)
              clear hb
              obtain ⟨c0, c1, c2, c3⟩ := cells_of Hp7.out HC0.out HL0.out HK.out HLV.out HS.out HMP.out
              go_wp2_with fail
              go_at_call 21
              refine (ready_c Hp7.out).mono ?_
              rintro e w8 ⟨v, rfl, hown, hb⟩
              obtain ⟨TR, tr, rfl⟩ := own_sl hown
              obtain ⟨n2, hn2⟩ : ∃ n, n = (readyT k.ts 4611686018427387904).length := ⟨_, rfl⟩
              rw [← hn2] at hown
              have HO8 := Lib.hid hown
              have HB8 := Lib.hid hb
              have HN2 := Lib.hid hn2
              have hn3 : n2 ≤ 300 := by
                have h1 := List.length_filter_le (fun t : Tick => decide (t.2 ≤ 4611686018427387904)) k.ts
                have h2 := HM.out
                have h3 := HM3.out
                rw [readyT, srt_len] at hn2
                omega
              rw [← hn2]
              clear hb hown hn2 c0 c1 c2 c3
              go_wp2_with fail
              go_loopw [9] (RdyRel w7 n2 tr TR) (fun v _ => n2 - (intOf v).toNat)
              case atStart => exact ⟨0, _, rfl, by omega, HN2.out.symm, HO8.out, HB8.out⟩
              case round =>
                obtain ⟨j, lj, rfl, hj, hlj, hown, hbw⟩ := hrel
                have HBW := Lib.hid hbw
                have HOW := Lib.hid hown
                have HLJ := Lib.hid hlj
                clear hown hbw hlj
                by_cases hjl : j < n2
                · have hjI : (j : Int) < n2 := by omega
                  have hjI0 : (0 : Int) ≤ j := by omega
                  obtain ⟨gT, t, rfl, ht, hgT, ⟨cs, hcs⟩, hc, hset⟩ := own_due HOW.out HLJ.out.symm hjl
                  have q2 : wr.frozen? ⟨gT, j * 2 + 1, none⟩ = false := by simp [World.frozen?, hcs]
                  have HSET := Lib.hid (hset (-8))
                  have HGT := Lib.hid hgT
                  clear ht hgT hset hcs
                  go_wp2_with fail
                  go_roundw
                  case rel => exact ⟨j + 1, _, by go_num, by omega, by rw [List.length_set]; exact HLJ.out, HSET.out, HBW.out.setCell (p := ⟨gT, j * 2 + 1, none⟩) HGT.out _⟩
                  case measure => simp [intOf]; omega
                · have hjI : ¬ (j : Int) < n2 := by omega
                  have Hp9 := Lib.hid (Hp7.out.below HBW.out)
                  have HB9 := Lib.hid (below_t HB7.out HBW.out)
                  go_wp2_with fail
                  go_at_call 10
                  refine (HO.out _ HB9.out).mono ?_
                  rintro e w10 ⟨q2, rfl, hk, hge2, hb⟩
                  have Hq10 := Lib.hid hk
                  have Hp10 := Lib.hid (Hp9.out.below hb)
                  have HB10 := Lib.hid (below_t HB9.out hb)
                  clear hk hb
                  go_wp2_with fail
                  go_at_call 17
                  refine (same7_c Hp10.out Hq10.out (sameK_self k)).mono ?_
                  rintro e w11 ⟨rfl, hb⟩
                  have HB11 := Lib.hid (below_t HB10.out hb)
                  clear hb
                  go_wp2_with (go_at_call 9; refine (awake_c (HT.out.below HB11.out)).mono ?_; rintro e w' ⟨rfl, hb⟩)
                  go_ret
                  exact ⟨rfl, below_t HB11.out hb⟩
          · have hmI : ¬ (m : Int) = 0 := by omega
            have e9 : ((m : Int) == 0) = false := by simp; omega
            obtain ⟨r, hr⟩ : ∃ r, sameK k (copK k) = r := ⟨_, rfl⟩
            have HR := Lib.hid hr
            clear hr
            cases r
            · go_wp2_with fail
              go_at_call 17
              refine (same7_c Hp5.out Hq5.out (sameK_self k)).mono ?_
              rintro e w6 ⟨rfl, hb⟩
              have Hp6 := Lib.hid (Hp5.out.below hb)
              have Hg6 := Lib.hid (Hg5.out.below hb)
              have HB6 := Lib.hid (below_t HB5.out hb)
              clear hb
              go_wp2_with fail
              go_at_call 17
              refine (same7_c Hp6.out Hg6.out HR.out).mono ?_
              rintro e w7 ⟨rfl, hb⟩
              have Hp7 := Lib.hid (Hp6.out.below hb)
              have HB7 := Lib.hid (below_t HB6.out hb)
              clear hb
              go_wp2_with fail
              go_at_call 21
              refine (ready_c Hp7.out).mono ?_
              rintro e w8 ⟨v, rfl, hown, hb⟩
              obtain ⟨TR, tr, rfl⟩ := own_sl hown
              obtain ⟨n2, hn2⟩ : ∃ n, n = (readyT k.ts 4611686018427387904).length := ⟨_, rfl⟩
              rw [← hn2] at hown
              have HO8 := Lib.hid hown
              have HB8 := Lib.hid hb
              have HN2 := Lib.hid hn2
              have hn3 : n2 ≤ 300 := by
                have h1 := List.length_filter_le (fun t : Tick => decide (t.2 ≤ 4611686018427387904)) k.ts
                have h2 := HM.out
                have h3 := HM3.out
                rw [readyT, srt_len] at hn2
                omega
              rw [← hn2]
              clear hb hown hn2
              go_wp2_with fail
              go_loopw [9] (RdyRel w7 n2 tr TR) (fun v _ => n2 - (intOf v).toNat)
              case atStart => exact ⟨0, _, rfl, by omega, HN2.out.symm, HO8.out, HB8.out⟩
              case round =>
                obtain ⟨j, lj, rfl, hj, hlj, hown, hbw⟩ := hrel
                have HBW := Lib.hid hbw
                have HOW := Lib.hid hown
                have HLJ := Lib.hid hlj
                clear hown hbw hlj
                by_cases hjl : j < n2
                · have hjI : (j : Int) < n2 := by omega
                  have hjI0 : (0 : Int) ≤ j := by omega
                  obtain ⟨gT, t, rfl, ht, hgT, ⟨cs, hcs⟩, hc, hset⟩ := own_due HOW.out HLJ.out.symm hjl
                  have q2 : wr.frozen? ⟨gT, j * 2 + 1, none⟩ = false := by simp [World.frozen?, hcs]
                  have HSET := Lib.hid (hset (-8))
                  have HGT := Lib.hid hgT
                  clear ht hgT hset hcs
                  go_wp2_with fail
                  go_roundw
                  case rel => exact ⟨j + 1, _, by go_num, by omega, by rw [List.length_set]; exact HLJ.out, HSET.out, HBW.out.setCell (p := ⟨gT, j * 2 + 1, none⟩) HGT.out _⟩
                  case measure => simp [intOf]; omega
                · have hjI : ¬ (j : Int) < n2 := by omega
                  have Hp9 := Lib.hid (Hp7.out.below HBW.out)
                  have HB9 := Lib.hid (below_t HB7.out HBW.out)
                  go_wp2_with fail
                  go_at_call 10
                  refine (HO.out _ HB9.out).mono ?_
                  rintro e w10 ⟨q2, rfl, hk, hge2, hb⟩
                  have Hq10 := Lib.hid hk
                  have Hp10 := Lib.hid (Hp9.out.below hb)
                  have HB10 := Lib.hid (below_t HB9.out hb)
                  clear hk hb
                  go_wp2_with fail
                  go_at_call 17
                  refine (same7_c Hp10.out Hq10.out (sameK_self k)).mono ?_
                  rintro e w11 ⟨rfl, hb⟩
                  have HB11 := Lib.hid (below_t HB10.out hb)
                  clear hb
                  go_wp2_with (go_at_call 9; refine (awake_c (HT.out.below HB11.out)).mono ?_; rintro e w' ⟨rfl, hb⟩)
                  go_ret
                  exact ⟨rfl, below_t HB11.out hb⟩
            · go_wp2_with fail
              go_at_call 17
              refine (same7_c Hp5.out Hq5.out (sameK_self k)).mono ?_
              rintro e w6 ⟨rfl, hb⟩
              have Hp6 := Lib.hid (Hp5.out.below hb)
              have Hg6 := Lib.hid (Hg5.out.below hb)
              have HB6 := Lib.hid (below_t HB5.out hb)
              clear hb
              go_wp2_with fail
              go_at_call 17
              refine (same7_c Hp6.out Hg6.out HR.out).mono ?_
              rintro e w7 ⟨rfl, hb⟩
              have Hp7 := Lib.hid (Hp6.out.below hb)
              have HB7 := Lib.hid (below_t HB6.out hb)
              clear hb
              go_wp2_with fail
              go_at_call 21
              refine (ready_c Hp7.out).mono ?_
              rintro e w8 ⟨v, rfl, hown, hb⟩
              obtain ⟨TR, tr, rfl⟩ := own_sl hown
              obtain ⟨n2, hn2⟩ : ∃ n, n = (readyT k.ts 4611686018427387904).length := ⟨_, rfl⟩
              rw [← hn2] at hown
              have HO8 := Lib.hid hown
              have HB8 := Lib.hid hb
              have HN2 := Lib.hid hn2
              have hn3 : n2 ≤ 300 := by
                have h1 := List.length_filter_le (fun t : Tick => decide (t.2 ≤ 4611686018427387904)) k.ts
                have h2 := HM.out
                have h3 := HM3.out
                rw [readyT, srt_len] at hn2
                omega
              rw [← hn2]
              clear hb hown hn2
              go_wp2_with fail
              go_loopw [9] (RdyRel w7 n2 tr TR) (fun v _ => n2 - (intOf v).toNat)
              case atStart => exact ⟨0, _, rfl, by omega, HN2.out.symm, HO8.out, HB8.out⟩
              case round =>
                obtain ⟨j, lj, rfl, hj, hlj, hown, hbw⟩ := hrel
                have HBW := Lib.hid hbw
                have HOW := Lib.hid hown
                have HLJ := Lib.hid hlj
                clear hown hbw hlj
                by_cases hjl : j < n2
                · have hjI : (j : Int) < n2 := by omega
                  have hjI0 : (0 : Int) ≤ j := by omega
                  obtain ⟨gT, t, rfl, ht, hgT, ⟨cs, hcs⟩, hc, hset⟩ := own_due HOW.out HLJ.out.symm hjl
                  have q2 : wr.frozen? ⟨gT, j * 2 + 1, none⟩ = false := by simp [World.frozen?, hcs]
                  have HSET := Lib.hid (hset (-8))
                  have HGT := Lib.hid hgT
                  clear ht hgT hset hcs
                  go_wp2_with fail
                  go_roundw
                  case rel => exact ⟨j + 1, _, by go_num, by omega, by rw [List.length_set]; exact HLJ.out, HSET.out, HBW.out.setCell (p := ⟨gT, j * 2 + 1, none⟩) HGT.out _⟩
                  case measure => simp [intOf]; omega
                · have hjI : ¬ (j : Int) < n2 := by omega
                  have Hp9 := Lib.hid (Hp7.out.below HBW.out)
                  have HB9 := Lib.hid (below_t HB7.out HBW.out)
                  go_wp2_with fail
                  go_at_call 10
                  refine (HO.out _ HB9.out).mono ?_
                  rintro e w10 ⟨q2, rfl, hk, hge2, hb⟩
                  have Hq10 := Lib.hid hk
                  have Hp10 := Lib.hid (Hp9.out.below hb)
                  have HB10 := Lib.hid (below_t HB9.out hb)
                  clear hk hb
                  go_wp2_with fail
                  go_at_call 17
                  refine (same7_c Hp10.out Hq10.out (sameK_self k)).mono ?_
                  rintro e w11 ⟨rfl, hb⟩
                  have HB11 := Lib.hid (below_t HB10.out hb)
                  clear hb
                  go_wp2_with (go_at_call 9; refine (awake_c (HT.out.below HB11.out)).mono ?_; rintro e w' ⟨rfl, hb⟩)
                  go_ret
                  exact ⟨rfl, below_t HB11.out hb⟩
end ChunkW
end Go.Proofs.YtiodbbdibkeniaaDoor
