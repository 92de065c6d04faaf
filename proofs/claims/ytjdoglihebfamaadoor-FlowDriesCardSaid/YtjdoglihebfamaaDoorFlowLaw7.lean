/-
  FlowDries: flowing water in a row without a source is gone behind seven turns.
-/
import Derived.Test.YtjdoglihebfamaaDoorFlowDryP
import Derived.Test.YtjdoglihebfamaaDoorBytesMem
namespace Go.Proofs.YtjdoglihebfamaaDoor
open Go.RowKit
set_option linter.unusedVariables false
set_option linter.unusedSimpArgs false
namespace FlowW
open BlkP RowG FrS PushG FlowP
set_option maxRecDepth 100000 in
set_option maxHeartbeats 64000000 in
theorem law_dries {w : World} {A : Option Addr} {c : Nat} {xs : List UInt8} (hT : KindW.Tab w) (hn : xs.length ≤ c ∧ c ≤ 9223372036854775807) (hA : BytesW.AtC w A xs) : Calls Tryd.prog 9 #[.slice A xs.length c] w fun e w' => e = .returned (.bool true) ∧ Below w.heap.size w w' := by
  have HT := Lib.hid hT
  have HA := Lib.hid hA
  obtain ⟨n, hnn⟩ : ∃ n, xs.length = n := ⟨_, rfl⟩
  obtain ⟨k, hk⟩ : ∃ k, min n 40 = k := ⟨_, rfl⟩
  have hk40 : k ≤ 40 := by omega
  have hkI : (k : Int) ≤ 40 := by omega
  have HMIN := Lib.hid (show (if (40 : Int) < (n : Int) then (40 : Int) else (n : Int)) = (k : Int) by split <;> omega)
  have hkc : k ≤ c ∧ c ≤ 9223372036854775807 := by omega
  obtain ⟨L0, hL0⟩ : ∃ L, (xs.take k).map lvO = L := ⟨_, rfl⟩
  have HL0 := Lib.hid hL0
  have HLN := Lib.hid (show L0.length = k from by rw [← hL0, List.length_map, List.length_take, hnn]; omega)
  have HL7 := Lib.hid (show ∀ x ∈ L0, x ≤ 7 from fun x hx => by
    rw [← hL0] at hx
    obtain ⟨y, _, rfl⟩ := List.mem_map.1 hx
    exact lvO_le y)
  have HCEL := Lib.hid (show ∀ j, j < k → ∃ (b o : Nat) (x : UInt8), A = some ⟨b, o, none⟩ ∧ b < w.heap.size ∧ w.cell? ⟨b, o + j, none⟩ = some (.int .u8 (x.toNat : Int)) ∧ L0[j]? = some (lvO x) from fun j hj => by
    obtain ⟨b, o, h1, h2, h3⟩ := hA (fun e => by rw [e] at hnn; simp at hnn; omega)
    have hx : xs[j]? = some (xs[j]'(by omega)) := List.getElem?_eq_getElem (by omega)
    refine ⟨b, o, _, h1, h2, h3 j _ hx, ?_⟩
    rw [← hL0, List.getElem?_map, List.getElem?_take_of_lt hj, hx]
    rfl)
  have hkn : (k : Int) ≤ n ∧ (n : Int) ≤ c := by omega
  have HKN := Lib.hid hkn
  rw [hnn]
  clear hT hA hnn hk hL0 hn hkn
  go_enter Tryd.func9, Tryd.ntmps9
  go_wp2_with ((with_reducible refine at_slot 18 ?_); refine Classical.byContradiction (fun hG => ?_))
  refine hG ?_
  clear hG
  rw [HMIN.out]
  have hk0 : (0 : Int) ≤ (k : Int) := by omega
  refine BytesW.wp_upto rfl (.tmp 14) (.tmp 17) rfl (n := (k : Int)) rfl rfl hk0 HKN.out.1 (by have := HKN.out; omega) ?_
  rw [Int.toNat_natCast]
  clear hk0
  go_wp2_with fail
  go_loopw [3, 4] (fun v3 v4 wr => ∃ j : Nat, v4 = .int .i64 (j : Nat) ∧ j ≤ k ∧ RowG.Own encC TC wr w.heap.size v3 ((L0.take j).map lc) ∧ Below w.heap.size w wr) (fun _ v _ => k - (intOf v).toNat)
  case atStart => exact ⟨0, rfl, by omega, Own.nil _ _ _ _, Below.refl _ _⟩
  case round =>
    obtain ⟨j, rfl, hj, hrow, hbe⟩ := hrel
    have HROW := Lib.hid hrow
    have HBE := Lib.hid hbe
    have hzr := hbe.size
    by_cases hjl : j < k
    · have hjI : (j : Int) < (k : Int) := by omega
      have hj40 : (j : Int) < 40 := by omega
      have hjN : j < 40 := by omega
      have HWR := Lib.hid (show wrap64 ((j : Int) + 1) = ((j + 1 : Nat) : Int) by rw [wr64 (by omega) (by omega)]; omega)
      obtain ⟨b, o, x, hAe, hlt, hcell, hlx⟩ := HCEL.out j hjl
      subst hAe
      obtain ⟨xv, hxv⟩ : ∃ xv : Nat, x.toNat = xv := ⟨_, rfl⟩
      have x0 : wr.cell? ⟨b, o + j, none⟩ = some (.int .u8 (xv : Int)) := by
        rw [← hxv]
        exact (hbe.cell (p := ⟨b, o + j, none⟩) hlt).trans hcell
      have HLX := Lib.hid (show L0[j]? = some (if 1 ≤ xv ∧ xv ≤ 7 then xv else 0) from by rw [hlx, ← hxv]; rfl)
      have HLEN := Lib.hid (show ((L0.take j).map lc).length = j from by rw [List.length_map, List.length_take, HLN.out]; omega)
      obtain ⟨A9, c9, hv9, _, _, _⟩ := hrow.form (n := j) HLEN.out
      subst hv9
      have hlr : b < wr.heap.size := Nat.lt_of_lt_of_le hlt hzr
      clear hrow hbe hlx hcell hxv
      by_cases h1 : 1 ≤ xv
      · have h1I : (1 : Int) ≤ (xv : Int) := by omega
        by_cases h7 : xv ≤ 7
        · have h7I : (xv : Int) ≤ 7 := by omega
          have HX := Lib.hid (show L0[j]? = some xv from by rw [HLX.out, if_pos ⟨h1, h7⟩])
          have HY := Lib.hid (show lc xv = (13, xv) from lc_lev (by omega))
          go_wp2_with ((with_reducible refine at_slot 46 ?_); refine Classical.byContradiction (fun hG => ?_))
          refine hG ?_
          clear hG
          refine wp_pushC (y := (13, xv)) rfl (.tmp 43) (.tmp 45) rfl rfl rfl (HROW.out.below (by (repeat' (first | (with_reducible exact Below.refl _ _) | (with_reducible refine Below.setCell ?_ (by (first | omega | (simp; done) | (simp; omega))) _) | (with_reducible refine Below.alloc ?_ (by (first | omega | (simp; done) | (simp; omega))) _) | (with_reducible refine Below.drew ?_) | (with_reducible refine below_drewN ?_ _))))) rfl (by simp) HLEN.out (by omega) (by simp; omega) ?_
          intro g5 c5 w8 hpu
          have hb0 : Below w.heap.size w _ := ((by (repeat' (first | (with_reducible exact Below.refl _ _) | (with_reducible refine Below.setCell ?_ (by (first | omega | (simp; done) | (simp; omega))) _) | (with_reducible refine Below.alloc ?_ (by (first | omega | (simp; done) | (simp; omega))) _) | (with_reducible refine Below.drew ?_) | (with_reducible refine below_drewN ?_ _) | (with_reducible refine Below.trans ?_ (Below.mono HBE.out (by (first | omega | (simp; done) | (simp; omega))))))) : Below w.heap.size w _)).grown hpu.2.1 (by simp; omega) (fun q hq => ((HROW.out.ge q hq).1))
          have HPU := Lib.hid hpu.1
          have HB8 := Lib.hid hb0
          clear hpu hb0 x0
          go_wp2_with fail
          go_roundw
          case rel =>
            refine ⟨j + 1, by first | rfl | rw [HWR.out] | (congr 1; omega), by omega, ?_, HB8.out⟩
            rw [List.take_add_one, HX.out]
            simp only [Option.toList_some, List.map_append, List.map_cons, List.map_nil, HY.out]
            exact HPU.out
          case measure =>
            simp only [intOf]
            omega
        · have h7I : ¬ (xv : Int) ≤ 7 := by omega
          have HX := Lib.hid (show L0[j]? = some 0 from by rw [HLX.out, if_neg (by omega)])
          have HY := Lib.hid (show lc 0 = (0, 0) from rfl)
          go_wp2_with ((with_reducible refine at_slot 46 ?_); refine Classical.byContradiction (fun hG => ?_))
          refine hG ?_
          clear hG
          refine wp_pushC (y := (0, 0)) rfl (.tmp 43) (.tmp 45) rfl rfl rfl (HROW.out.below (by (repeat' (first | (with_reducible exact Below.refl _ _) | (with_reducible refine Below.setCell ?_ (by (first | omega | (simp; done) | (simp; omega))) _) | (with_reducible refine Below.alloc ?_ (by (first | omega | (simp; done) | (simp; omega))) _) | (with_reducible refine Below.drew ?_) | (with_reducible refine below_drewN ?_ _))))) rfl (by simp) HLEN.out (by omega) (by simp; omega) ?_
          intro g5 c5 w8 hpu
          have hb0 : Below w.heap.size w _ := ((by (repeat' (first | (with_reducible exact Below.refl _ _) | (with_reducible refine Below.setCell ?_ (by (first | omega | (simp; done) | (simp; omega))) _) | (with_reducible refine Below.alloc ?_ (by (first | omega | (simp; done) | (simp; omega))) _) | (with_reducible refine Below.drew ?_) | (with_reducible refine below_drewN ?_ _) | (with_reducible refine Below.trans ?_ (Below.mono HBE.out (by (first | omega | (simp; done) | (simp; omega))))))) : Below w.heap.size w _)).grown hpu.2.1 (by simp; omega) (fun q hq => ((HROW.out.ge q hq).1))
          have HPU := Lib.hid hpu.1
          have HB8 := Lib.hid hb0
          clear hpu hb0 x0
          go_wp2_with fail
          go_roundw
          case rel =>
            refine ⟨j + 1, by first | rfl | rw [HWR.out] | (congr 1; omega), by omega, ?_, HB8.out⟩
            rw [List.take_add_one, HX.out]
            simp only [Option.toList_some, List.map_append, List.map_cons, List.map_nil, HY.out]
            exact HPU.out
          case measure =>
            simp only [intOf]
            omega
      · have h1I : ¬ (1 : Int) ≤ (xv : Int) := by omega
        have HX := Lib.hid (show L0[j]? = some 0 from by rw [HLX.out, if_neg (by omega)])
        have HY := Lib.hid (show lc 0 = (0, 0) from rfl)
        go_wp2_with ((with_reducible refine at_slot 46 ?_); refine Classical.byContradiction (fun hG => ?_))
        refine hG ?_
        clear hG
        refine wp_pushC (y := (0, 0)) rfl (.tmp 43) (.tmp 45) rfl rfl rfl (HROW.out.below (by (repeat' (first | (with_reducible exact Below.refl _ _) | (with_reducible refine Below.setCell ?_ (by (first | omega | (simp; done) | (simp; omega))) _) | (with_reducible refine Below.alloc ?_ (by (first | omega | (simp; done) | (simp; omega))) _) | (with_reducible refine Below.drew ?_) | (with_reducible refine below_drewN ?_ _))))) rfl (by simp) HLEN.out (by omega) (by simp; omega) ?_
        intro g5 c5 w8 hpu
        have hb0 : Below w.heap.size w _ := ((by (repeat' (first | (with_reducible exact Below.refl _ _) | (with_reducible refine Below.setCell ?_ (by (first | omega | (simp; done) | (simp; omega))) _) | (with_reducible refine Below.alloc ?_ (by (first | omega | (simp; done) | (simp; omega))) _) | (with_reducible refine Below.drew ?_) | (with_reducible refine below_drewN ?_ _) | (with_reducible refine Below.trans ?_ (Below.mono HBE.out (by (first | omega | (simp; done) | (simp; omega))))))) : Below w.heap.size w _)).grown hpu.2.1 (by simp; omega) (fun q hq => ((HROW.out.ge q hq).1))
        have HPU := Lib.hid hpu.1
        have HB8 := Lib.hid hb0
        clear hpu hb0 x0
        go_wp2_with fail
        go_roundw
        case rel =>
          refine ⟨j + 1, by first | rfl | rw [HWR.out] | (congr 1; omega), by omega, ?_, HB8.out⟩
          rw [List.take_add_one, HX.out]
          simp only [Option.toList_some, List.map_append, List.map_cons, List.map_nil, HY.out]
          exact HPU.out
        case measure =>
          simp only [intOf]
          omega
    · have hje : j = k := by omega
      have hjI : ¬ (j : Int) < (k : Int) := by omega
      subst hje
      rw [List.take_of_length_le (by rw [HLN.out]; exact Nat.le_refl _)] at hrow
      refine HeldP.wp_named (S := fun W => Below w.heap.size w W ∧ RowG.Own encC TC W w.heap.size _ (L0.map lc)) ⟨hbe, hrow⟩ ?_
      rintro wa ⟨hba, hra⟩
      have HBA := Lib.hid hba
      have HRA := Lib.hid (show RowG.Own encC TC wa w.heap.size _ ((dries 0 L0).map lc) from hra)
      clear hrow hbe HROW HBE hzr hba hra
      go_wp2_with fail
      go_loopw [3, 6] (fun v3 v6 wr => ∃ t : Nat, v6 = .int .i64 (t : Nat) ∧ t ≤ 7 ∧ RowG.Own encC TC wr w.heap.size v3 ((dries t L0).map lc) ∧ Below w.heap.size w wr) (fun _ v _ => 7 - (intOf v).toNat)
      case atStart => exact ⟨0, rfl, by omega, HRA.out, HBA.out⟩
      case round =>
        obtain ⟨t, rfl, ht, hrow, hbe⟩ := hrel
        obtain ⟨L, hL⟩ : ∃ L, dries t L0 = L := ⟨_, rfl⟩
        rw [hL] at hrow
        have HLL := Lib.hid (show L.length = j from by rw [← hL, dries_len]; exact HLN.out)
        have HALL := Lib.hid (show ∀ c ∈ L, c ≤ 7 from fun c hc => by
          rw [← hL] at hc
          have := dries_all HL7.out t c hc
          omega)
        have HLE := Lib.hid hL
        obtain ⟨A3, c3, hv3, _, _, hA3⟩ := hrow.form (n := j) (by rw [List.length_map]; exact HLL.out)
        subst hv3
        have HA3 := Lib.hid hA3
        by_cases ht7 : t < 7
        · have htI : (t : Int) < 7 := by omega
          have HWT := Lib.hid (show wrap64 ((t : Int) + 1) = ((t + 1 : Nat) : Int) by rw [wr64 (by omega) (by omega)]; omega)
          refine HeldP.wp_named (S := fun W => Below w.heap.size w W ∧ RowG.Own encC TC W w.heap.size (.slice A3 j c3) (L.map lc)) ⟨hbe, hrow⟩ ?_
          rintro wt ⟨hbt, hrt⟩
          have HBT := Lib.hid hbt
          have HRT := Lib.hid hrt
          have HDN := Lib.hid (show (dry L).length = j from by rw [dry_len]; exact HLL.out)
          clear hrow hbe hL hA3 hbt hrt
          go_wp2_with fail
          go_loopw [7, 8] (fun v7 v8 wr => ∃ i : Nat, v8 = .int .i64 (i : Nat) ∧ i ≤ j ∧ RowG.Own encC TC wr wt.heap.size v7 (((dry L).take i).map lc) ∧ Below wt.heap.size wt wr) (fun _ v _ => j - (intOf v).toNat)
          case atStart => exact ⟨0, rfl, by omega, Own.nil _ _ _ _, Below.refl _ _⟩
          case round =>
            obtain ⟨i, rfl, hi, hrow, hbe⟩ := hrel
            by_cases hil : i < j
            · have hiI : (i : Int) < (j : Int) := by omega
              have hi40 : (i : Int) < 40 := by omega
              have hi40N : i < 40 := by omega
              have HLEN := Lib.hid (show (((dry L).take i).map lc).length = i from by rw [List.length_map, List.length_take, HDN.out]; omega)
              obtain ⟨A7, c7, hv7, _, _, _⟩ := hrow.form (n := i) HLEN.out
              subst hv7
              obtain ⟨g3, hg3, hg3a, hg3b⟩ := HA3.out (by omega)
              subst hg3
              refine HeldP.wp_named (S := fun W => Below wt.heap.size wt W ∧ RowG.Own encC TC W wt.heap.size (.slice A7 i c7) (((dry L).take i).map lc)) ⟨hbe, hrow⟩ ?_
              rintro wi ⟨hbi, hri⟩
              have HBI := Lib.hid hbi
              have HR7 := Lib.hid hri
              have HR3 := Lib.hid (HRT.out.below hbi)
              obtain ⟨cv, hcv⟩ : ∃ cv, ld L i = cv := ⟨_, rfl⟩
              obtain ⟨⟨kc, vc⟩, hlc⟩ : ∃ q, lc cv = q := ⟨_, rfl⟩
              have HCV := Lib.hid hcv
              have HLC := Lib.hid hlc
              have HAT := Lib.hid (show ∀ q, q < j → (L.map lc)[q]? = some (lc (ld L q)) from fun q hq => by
                rw [List.getElem?_map, ld, List.getD, List.getElem?_eq_getElem (by rw [HLL.out]; exact hq)]
                rfl)
              have HIX := Lib.hid (show (L.map lc)[i]? = some (kc, vc) from by rw [HAT.out i hil, hcv, hlc])
              have x0 : wi.cell? ⟨g3, i * 2, none⟩ = some (.int .u8 (kc : Int)) := HR3.out.cell (j := 0) HIX.out rfl
              have x1 : wi.cell? ⟨g3, i * 2 + 1, none⟩ = some (.int .u8 (vc : Int)) := HR3.out.cell (j := 1) HIX.out rfl
              have HG3 := Lib.hid (show g3 < wt.heap.size ∧ wt.heap.size ≤ wi.heap.size from ⟨by
                have q := HRT.out.ge g3 rfl
                exact q.2, hbi.size⟩)
              clear hrow hbe hbi hri hcv hlc hg3b
              go_wp2_with ((with_reducible refine at_storeN ?_); refine Classical.byContradiction (fun hG => ?_))
              refine hG ?_
              clear hG
              obtain ⟨M, hM⟩ : ∃ M, wi.heap.size = M := ⟨_, rfl⟩
              refine list_named (S := fun W => Below wi.heap.size wi W ∧ Blk W M TN (vals nz)) ⟨by (repeat' (first | (with_reducible exact Below.refl _ _) | (with_reducible refine Below.setCell ?_ (by (first | omega | (simp; done) | (simp; omega))) _) | (with_reducible refine Below.alloc ?_ (by (first | omega | (simp; done) | (simp; omega))) _) | (with_reducible refine Below.drew ?_) | (with_reducible refine below_drewN ?_ _))), by subst hM; (repeat' (first | (with_reducible refine BlkP.Blk.drew ?_) | (with_reducible refine BlkP.Blk.drewN ?_ _) | (with_reducible refine BlkP.Blk.setAt (us := ?_) (by first | omega | (simp; done) | (simp; omega)) rfl ?_ ?_) | (with_reducible refine BlkP.Blk.otherAt ?_ (by first | omega | (simp; done) | (simp; omega))) | (with_reducible refine BlkP.Blk.newA' (by first | omega | (simp; done) | (simp; omega)) rfl) | (with_reducible refine BlkP.Blk.alloc ?_ _) | (exact rfl)))⟩ ?_
              rintro w1 ⟨hb1, h1⟩
              try rw [hM]
              refine wp_storeN rfl (.tmp 9) (.tmp 61) rfl rfl (n := {nz with s := (kc, vc)}) rfl h1 rfl ?_
              intro w2 h2 hg2 hz2
              have HB2 := Lib.hid (show Below wi.heap.size wi w2 from hb1.grown hg2 (by have := hb1.size; omega) (fun q hq => by injection hq with hq; omega))
              have HM := Lib.hid hM
              have m12 : w2.cell? ⟨M, 12, none⟩ = some (.int .u8 0) := h2.cell rfl
              have m13 : w2.cell? ⟨M, 13, none⟩ = some (.int .u8 0) := h2.cell rfl
              have f12 := h2.frozen 12
              have f13 := h2.frozen 13
              have H2 := Lib.hid h2
              clear hb1 h1 h2 hg2 hz2 hM x0 x1
              go_wp2_with fail
              refine HeldP.wp_named (S := fun W => Below wi.heap.size wi W ∧ Blk W M TN (vals {nz with s := (kc, vc), sd := upd nz.sd 5 (2, 0)})) ⟨(HB2.out.setCell (by have := HM.out; simp; omega) _).setCell (by have := HM.out; simp; omega) _, by
                rw [← set_side {nz with s := (kc, vc)} (d := 5) (by omega) (2, 0)]
                exact (H2.out.set _ _).set _ _⟩ ?_
              rintro w3 ⟨hb3, h3⟩
              have HB3 := Lib.hid hb3
              have H3 := Lib.hid h3
              clear m12 m13 f12 f13 hb3 h3
              go_loopw [10] (fun v10 wr => ∃ q : Nat, v10 = .int .i64 (q : Nat) ∧ q ≤ 4 ∧ Blk wr M TN (vals {nz with s := (kc, vc), sd := upd nz.sd 5 (2, 0), un := fun i => if i < q then (2, 0) else (0, 0)}) ∧ Below wi.heap.size wi wr) (fun v _ => 4 - (intOf v).toNat)
              case atStart => exact ⟨0, rfl, by omega, H3.out, HB3.out⟩
              case round =>
                obtain ⟨q, rfl, hq, hm, hbm⟩ := hrel
                have HMM := Lib.hid hm
                have HBM := Lib.hid hbm
                by_cases hq4 : q < 4
                · have hqI : (q : Int) < 4 := by omega
                  have HWQ := Lib.hid (show wrap64 ((q : Int) + 1) = ((q + 1 : Nat) : Int) by rw [wr64 (by omega) (by omega)]; omega)
                  have a0 := hm.cell (g_uk _ (d := q) hq4)
                  have a1 := hm.cell (g_ul _ (d := q) hq4)
                  have f0 := hm.frozen (14 + q * 2)
                  have f1 := hm.frozen (14 + q * 2 + 1)
                  clear hm hbm
                  go_wp2_with fail
                  go_roundw
                  case rel =>
                    refine ⟨q + 1, by first | rfl | rw [HWQ.out] | (congr 1; omega), by omega, ?_, (HBM.out.setCell (by have := HM.out; simp; omega) _).setCell (by have := HM.out; simp; omega) _⟩
                    have e := set_under {nz with s := (kc, vc), sd := upd nz.sd 5 (2, 0), un := fun i => if i < q then (2, 0) else (0, 0)} (d := q) hq4 (2, 0)
                    have e2 : upd (fun i => if i < q then ((2, 0) : Cl) else (0, 0)) q (2, 0) = fun i => if i < q + 1 then (2, 0) else (0, 0) := by
                      funext d
                      simp only [upd]
                      by_cases h1 : d = q
                      · simp [h1]
                      · by_cases h2 : d < q
                        · simp [h1, h2, show d < q + 1 by omega]
                        · simp [h1, h2, show ¬ d < q + 1 by omega]
                    simp only [e2] at e
                    rw [← e]
                    exact (HMM.out.set _ _).set _ _
                  case measure =>
                    simp only [intOf]
                    omega
                · have hqe : q = 4 := by omega
                  have hqI : ¬ (q : Int) < 4 := by omega
                  subst hqe
                  refine HeldP.wp_named (S := fun W => Below wi.heap.size wi W ∧ Blk W M TN (vals {nz with s := (kc, vc), sd := upd nz.sd 5 (2, 0), un := fun _ => (2, 0)})) ⟨hbm, hm⟩ ?_
                  rintro w4 ⟨hb4, h4⟩
                  have HB4 := Lib.hid hb4
                  have H4 := Lib.hid h4
                  have y3 := HR3.out.below hb4
                  have x0 : w4.cell? ⟨g3, i * 2, none⟩ = some (.int .u8 (kc : Int)) := y3.cell (j := 0) HIX.out rfl
                  have x1 : w4.cell? ⟨g3, i * 2 + 1, none⟩ = some (.int .u8 (vc : Int)) := y3.cell (j := 1) HIX.out rfl
                  have hgM : g3 ≠ M := by have h1 := HG3.out; have h2 := HM.out; omega
                  have hg4 : g3 < w4.heap.size := by have h1 := HG3.out; have h2 := hb4.size; omega
                  have hM4 : M < w4.heap.size := h4.lt
                  clear hm hbm HMM HBM hb4 h4
                  by_cases h0 : 0 < i
                  · by_cases h2 : i + 1 < j
                    · obtain ⟨i1, hi1⟩ : ∃ i1, i = i1 + 1 := ⟨i - 1, by omega⟩
                      have hi1I : (i : Int) - 1 = (i1 : Int) := by omega
                      have hi1l : (i1 : Int) < (j : Int) := by omega
                      have hi1n : i1 < j := by omega
                      have h0I : (0 : Int) < (i : Int) := by omega
                      obtain ⟨av, hav⟩ : ∃ av, ld L i1 = av := ⟨_, rfl⟩
                      obtain ⟨⟨ka, va⟩, hla⟩ : ∃ q, lc av = q := ⟨_, rfl⟩
                      have HLF := Lib.hid (show lf L i = av from by
                        rw [lf, if_neg (by omega), hi1, show i1 + 1 - 1 = i1 by omega]
                        exact hav)
                      have HI1E := Lib.hid hi1
                      have HI1 := Lib.hid (show (L.map lc)[i1]? = some (ka, va) from by rw [HAT.out i1 hi1n, hav, hla])
                      have HLA := Lib.hid hla
                      have xa0 : w4.cell? ⟨g3, i1 * 2, none⟩ = some (.int .u8 (ka : Int)) := y3.cell (j := 0) HI1.out rfl
                      have xa1 : w4.cell? ⟨g3, i1 * 2 + 1, none⟩ = some (.int .u8 (va : Int)) := y3.cell (j := 1) HI1.out rfl
                      have m4 : w4.cell? ⟨M, 4, none⟩ = some (.int .u8 0) := H4.out.cell rfl
                      have m5 : w4.cell? ⟨M, 5, none⟩ = some (.int .u8 0) := H4.out.cell rfl
                      have f4 := H4.out.frozen 4
                      have f5 := H4.out.frozen 5
                      clear hav hla hi1
                      obtain ⟨i2, hi2⟩ : ∃ i2, i + 1 = i2 := ⟨_, rfl⟩
                      have hi2I : (i : Int) + 1 = (i2 : Int) := by omega
                      have hi24 : (i2 : Int) ≤ 40 := by omega
                      have HI2 := Lib.hid hi2
                      have h2I : (i2 : Int) < (j : Int) := by omega
                      have h2n : i2 < j := by omega
                      obtain ⟨bv, hbv⟩ : ∃ bv, ld L i2 = bv := ⟨_, rfl⟩
                      obtain ⟨⟨kb, vb⟩, hlb⟩ : ∃ q, lc bv = q := ⟨_, rfl⟩
                      have HLB0 := Lib.hid (show ld L (i + 1) = bv from by rw [hi2]; exact hbv)
                      have HIX2 := Lib.hid (show (L.map lc)[i2]? = some (kb, vb) from by rw [HAT.out i2 h2n, hbv, hlb])
                      have HLB := Lib.hid hlb
                      have xb0 : w4.cell? ⟨g3, i2 * 2, none⟩ = some (.int .u8 (kb : Int)) := y3.cell (j := 0) HIX2.out rfl
                      have xb1 : w4.cell? ⟨g3, i2 * 2 + 1, none⟩ = some (.int .u8 (vb : Int)) := y3.cell (j := 1) HIX2.out rfl
                      have m2 : w4.cell? ⟨M, 2, none⟩ = some (.int .u8 0) := H4.out.cell rfl
                      have m3 : w4.cell? ⟨M, 3, none⟩ = some (.int .u8 0) := H4.out.cell rfl
                      have f2 := H4.out.frozen 2
                      have f3 := H4.out.frozen 3
                      clear hbv hlb hi2
                      obtain ⟨C, hC⟩ : ∃ C, w4.heap.size = C := ⟨_, rfl⟩
                      have HCC := Lib.hid hC
                      go_wp2_with ((with_reducible refine at_slot 98 ?_); refine Classical.byContradiction (fun hG => ?_))
                      refine hG ?_
                      clear hG
                      refine list_named (S := fun W => Below wi.heap.size wi W ∧ Blk W M TN (vals (dn av cv bv)) ∧ Blk W C TC [.int .u8 (kc : Int), .int .u8 (vc : Int)]) ⟨by
                        have z1 := HB4.out.size
                        have z2 := HM.out
                        (repeat' (first | (with_reducible exact Below.refl _ _) | (with_reducible refine Below.setCell ?_ (by (first | omega | (simp; done) | (simp; omega))) _) | (with_reducible refine Below.alloc ?_ (by (first | omega | (simp; done) | (simp; omega))) _) | (with_reducible refine Below.drew ?_) | (with_reducible refine below_drewN ?_ _) | (with_reducible refine Below.trans ?_ (Below.mono HB4.out (by (first | omega | (simp; done) | (simp; omega))))))), by
                        have eN : vals (dn av cv bv) = vals {nz with s := (kc, vc), sd := upd (upd (upd nz.sd 5 (2, 0)) 1 (ka, va)) 0 (kb, vb), un := fun _ => (2, 0)} := by
                          unfold dn
                          rw [HLC.out, HLA.out, HLB.out]
                          rfl
                        have e1 := set_side {nz with s := (kc, vc), sd := upd nz.sd 5 (2, 0), un := fun _ => (2, 0)} (d := 1) (by omega) (ka, va)
                        have e2 := set_side {nz with s := (kc, vc), sd := upd (upd nz.sd 5 (2, 0)) 1 (ka, va), un := fun _ => (2, 0)} (d := 0) (by omega) (kb, vb)
                        rw [eN, ← e2, ← e1]
                        first | exact ((((H4.out.set _ _).set _ _).set _ _).set _ _).alloc _ | exact ((((((H4.out.set _ _).set _ _).set _ _).set _ _).alloc _).other (by simp; omega) _).other (by simp; omega) _, by (repeat' (first | (with_reducible refine BlkP.Blk.drew ?_) | (with_reducible refine BlkP.Blk.drewN ?_ _) | (with_reducible refine BlkP.Blk.setAt (us := ?_) (by first | omega | (simp; done) | (simp; omega)) rfl ?_ ?_) | (with_reducible refine BlkP.Blk.otherAt ?_ (by first | omega | (simp; done) | (simp; omega))) | (with_reducible refine BlkP.Blk.newA' (by first | omega | (simp; done) | (simp; omega)) rfl) | (with_reducible refine BlkP.Blk.alloc ?_ _) | (exact rfl)))⟩ ?_
                      rintro w5 ⟨hb5, h5, hc5⟩
                      try rw [hC]
                      have HB5 := Lib.hid hb5
                      have HC5 := Lib.hid hc5
                      have H5 := Lib.hid h5
                      have HCM := Lib.hid (show wi.heap.size < C ∧ C < w5.heap.size from ⟨by rw [← HCC.out]; have := HM.out; omega, hc5.lt⟩)
                      clear x0 x1 y3 hb5 h5 hc5 hC hgM hg4 hM4 xa0 xa1 m4 m5 f4 f5 xb0 xb1 m2 m3 f2 f3
                      refine wp_loadN rfl (.tmp 9) rfl rfl (n := dn av cv bv) H5.out ?_
                      go_wp2_with fail
                      refine (Next_c (HT.out.below (below_t (below_t HBT.out HBI.out) HB5.out))).mono ?_
                      rintro e w6 ⟨v, rfl, ho, hb6⟩
                      have HB6 := Lib.hid (below_t HB5.out hb6)
                      have HC6 := Lib.hid (HC5.out.below hb6)
                      have z0 := HC6.out.cell (i := 0) rfl
                      have z1 := HC6.out.cell (i := 1) rfl
                      have fz0 := HC6.out.frozen 0
                      have fz1 := HC6.out.frozen 1
                      have lc6 := HC6.out.lt
                      have hzi := HB6.out.size
                      have hCi := HCM.out.1
                      have HZT := Lib.hid HG3.out.2
                      have hL : ∀ q, ld L q ≤ 7 := fun q => getD_all HALL.out (by omega) q
                      have ha7 : av ≤ 7 := by
                        rw [← HLF.out]
                        unfold lf
                        split
                        · omega
                        · exact hL _
                      have hfacts := dry_facts ha7 (show cv ≤ 7 by rw [← HCV.out]; exact hL _) (show bv ≤ 7 by rw [← HLB0.out]; exact hL _)
                      have HDI := Lib.hid (show (dry L)[i]? = some (dl av cv bv) from by
                        unfold dry
                        rw [List.getElem?_map, List.getElem?_range (by rw [HLL.out]; exact hil)]
                        simp only [Option.map_some, HLF.out, HCV.out, HLB0.out])
                      clear hb6 ha7 hL
                      rcases hfacts with ⟨hd, hy⟩ | ⟨⟨xd, xk, xm⟩, r, hd, hx1, hy⟩ | ⟨⟨qk, qv⟩, hd, hy⟩
                      · rw [hd] at ho
                        obtain ⟨A8, c8, rfl, _, _, _⟩ := ho.form (n := 0) rfl
                        have HY := Lib.hid (hy.trans HLC.out)
                        clear hd hy ho
                        go_wp2_with ((with_reducible refine at_slot 120 ?_); refine Classical.byContradiction (fun hG => ?_))
                        refine hG ?_
                        clear hG
                        refine wp_pushC (y := (kc, vc)) rfl (.tmp 117) (.tmp 119) rfl rfl rfl (HR7.out.below (by (repeat' (first | (with_reducible exact Below.refl _ _) | (with_reducible refine Below.setCell ?_ (by (first | omega | (simp; done) | (simp; omega))) _) | (with_reducible refine Below.alloc ?_ (by (first | omega | (simp; done) | (simp; omega))) _) | (with_reducible refine Below.drew ?_) | (with_reducible refine below_drewN ?_ _) | (with_reducible refine Below.trans ?_ (Below.mono HB6.out (by (first | omega | (simp; done) | (simp; omega))))))))) rfl (by simp) HLEN.out (by omega) (by have := HZT.out; simp; omega) ?_
                        intro g5 c5 w8 hpu
                        have hb0 : Below wt.heap.size wt _ := ((below_t HBI.out (by (repeat' (first | (with_reducible exact Below.refl _ _) | (with_reducible refine Below.setCell ?_ (by (first | omega | (simp; done) | (simp; omega))) _) | (with_reducible refine Below.alloc ?_ (by (first | omega | (simp; done) | (simp; omega))) _) | (with_reducible refine Below.drew ?_) | (with_reducible refine below_drewN ?_ _) | (with_reducible refine Below.trans ?_ (Below.mono HB6.out (by (first | omega | (simp; done) | (simp; omega)))))))) : Below wt.heap.size wt _)).grown hpu.2.1 (by have := HZT.out; simp; omega) (fun q hq => ((HR7.out.ge q hq).1))
                        have HPU := Lib.hid hpu.1
                        have HB8 := Lib.hid hb0
                        clear hpu hb0 z0 z1 fz0 fz1
                        go_wp2_with fail
                        go_roundw
                        case rel =>
                          refine ⟨i + 1, by first | rfl | (rw [HI2.out]) | (congr 1; omega), by omega, ?_, HB8.out⟩
                          rw [List.take_add_one, HDI.out]
                          simp only [Option.toList_some, List.map_append, List.map_cons, List.map_nil, HY.out]
                          exact HPU.out
                        case measure =>
                          simp only [intOf]
                          omega
                      · rw [hd] at ho
                        obtain ⟨kk, hkk⟩ : ∃ kk, r.length + 1 = kk := ⟨_, rfl⟩
                        have hkkI : (0 : Int) < (kk : Int) := by omega
                        have hkkN : 0 < kk := by omega
                        obtain ⟨A8, c8, rfl, _, _, hA8⟩ := ho.form (n := kk) (by rw [← hkk]; rfl)
                        obtain ⟨g8, rfl, _, hg8⟩ := hA8 (by omega)
                        have d0 : w6.cell? ⟨g8, 0, none⟩ = some (.int .i64 (xd : Int)) := ho.cell (i := 0) (j := 0) rfl rfl
                        have hxd : ((xd : Int) == 0) = false := by
                          simp only at hx1
                          simp
                          omega
                        have HY := Lib.hid (hy.trans HLC.out)
                        clear hd hy ho hA8 hkk hx1
                        go_wp2_with ((with_reducible refine at_slot 120 ?_); refine Classical.byContradiction (fun hG => ?_))
                        refine hG ?_
                        clear hG
                        refine wp_pushC (y := (kc, vc)) rfl (.tmp 117) (.tmp 119) rfl rfl rfl (HR7.out.below (by (repeat' (first | (with_reducible exact Below.refl _ _) | (with_reducible refine Below.setCell ?_ (by (first | omega | (simp; done) | (simp; omega))) _) | (with_reducible refine Below.alloc ?_ (by (first | omega | (simp; done) | (simp; omega))) _) | (with_reducible refine Below.drew ?_) | (with_reducible refine below_drewN ?_ _) | (with_reducible refine Below.trans ?_ (Below.mono HB6.out (by (first | omega | (simp; done) | (simp; omega))))))))) rfl (by simp) HLEN.out (by omega) (by have := HZT.out; simp; omega) ?_
                        intro g5 c5 w8 hpu
                        have hb0 : Below wt.heap.size wt _ := ((below_t HBI.out (by (repeat' (first | (with_reducible exact Below.refl _ _) | (with_reducible refine Below.setCell ?_ (by (first | omega | (simp; done) | (simp; omega))) _) | (with_reducible refine Below.alloc ?_ (by (first | omega | (simp; done) | (simp; omega))) _) | (with_reducible refine Below.drew ?_) | (with_reducible refine below_drewN ?_ _) | (with_reducible refine Below.trans ?_ (Below.mono HB6.out (by (first | omega | (simp; done) | (simp; omega)))))))) : Below wt.heap.size wt _)).grown hpu.2.1 (by have := HZT.out; simp; omega) (fun q hq => ((HR7.out.ge q hq).1))
                        have HPU := Lib.hid hpu.1
                        have HB8 := Lib.hid hb0
                        clear hpu hb0 z0 z1 fz0 fz1
                        go_wp2_with fail
                        go_roundw
                        case rel =>
                          refine ⟨i + 1, by first | rfl | (rw [HI2.out]) | (congr 1; omega), by omega, ?_, HB8.out⟩
                          rw [List.take_add_one, HDI.out]
                          simp only [Option.toList_some, List.map_append, List.map_cons, List.map_nil, HY.out]
                          exact HPU.out
                        case measure =>
                          simp only [intOf]
                          omega
                      · rw [hd] at ho
                        obtain ⟨A8, c8, rfl, _, _, hA8⟩ := ho.form (n := 1) rfl
                        obtain ⟨g8, rfl, _, hg8⟩ := hA8 (by omega)
                        have d0 : w6.cell? ⟨g8, 0, none⟩ = some (.int .i64 0) := ho.cell (i := 0) (j := 0) rfl rfl
                        have d1 : w6.cell? ⟨g8, 1, none⟩ = some (.int .u8 (qk : Int)) := ho.cell (i := 0) (j := 1) rfl rfl
                        have d2 : w6.cell? ⟨g8, 2, none⟩ = some (.int .u8 (qv : Int)) := ho.cell (i := 0) (j := 2) rfl rfl
                        have HY := Lib.hid hy
                        clear hd hy ho hA8
                        go_wp2_with ((with_reducible refine at_slot 120 ?_); refine Classical.byContradiction (fun hG => ?_))
                        refine hG ?_
                        clear hG
                        refine wp_pushC (y := (qk, qv)) rfl (.tmp 117) (.tmp 119) rfl rfl rfl (HR7.out.below (by (repeat' (first | (with_reducible exact Below.refl _ _) | (with_reducible refine Below.setCell ?_ (by (first | omega | (simp; done) | (simp; omega))) _) | (with_reducible refine Below.alloc ?_ (by (first | omega | (simp; done) | (simp; omega))) _) | (with_reducible refine Below.drew ?_) | (with_reducible refine below_drewN ?_ _) | (with_reducible refine Below.trans ?_ (Below.mono HB6.out (by (first | omega | (simp; done) | (simp; omega))))))))) rfl (by simp) HLEN.out (by omega) (by have := HZT.out; simp; omega) ?_
                        intro g5 c5 w8 hpu
                        have hb0 : Below wt.heap.size wt _ := ((below_t HBI.out (by (repeat' (first | (with_reducible exact Below.refl _ _) | (with_reducible refine Below.setCell ?_ (by (first | omega | (simp; done) | (simp; omega))) _) | (with_reducible refine Below.alloc ?_ (by (first | omega | (simp; done) | (simp; omega))) _) | (with_reducible refine Below.drew ?_) | (with_reducible refine below_drewN ?_ _) | (with_reducible refine Below.trans ?_ (Below.mono HB6.out (by (first | omega | (simp; done) | (simp; omega)))))))) : Below wt.heap.size wt _)).grown hpu.2.1 (by have := HZT.out; simp; omega) (fun q hq => ((HR7.out.ge q hq).1))
                        have HPU := Lib.hid hpu.1
                        have HB8 := Lib.hid hb0
                        clear hpu hb0 z0 z1 fz0 fz1
                        go_wp2_with fail
                        go_roundw
                        case rel =>
                          refine ⟨i + 1, by first | rfl | (rw [HI2.out]) | (congr 1; omega), by omega, ?_, HB8.out⟩
                          rw [List.take_add_one, HDI.out]
                          simp only [Option.toList_some, List.map_append, List.map_cons, List.map_nil, HY.out]
                          exact HPU.out
                        case measure =>
                          simp only [intOf]
                          omega
                    · obtain ⟨i1, hi1⟩ : ∃ i1, i = i1 + 1 := ⟨i - 1, by omega⟩
                      have hi1I : (i : Int) - 1 = (i1 : Int) := by omega
                      have hi1l : (i1 : Int) < (j : Int) := by omega
                      have hi1n : i1 < j := by omega
                      have h0I : (0 : Int) < (i : Int) := by omega
                      obtain ⟨av, hav⟩ : ∃ av, ld L i1 = av := ⟨_, rfl⟩
                      obtain ⟨⟨ka, va⟩, hla⟩ : ∃ q, lc av = q := ⟨_, rfl⟩
                      have HLF := Lib.hid (show lf L i = av from by
                        rw [lf, if_neg (by omega), hi1, show i1 + 1 - 1 = i1 by omega]
                        exact hav)
                      have HI1E := Lib.hid hi1
                      have HI1 := Lib.hid (show (L.map lc)[i1]? = some (ka, va) from by rw [HAT.out i1 hi1n, hav, hla])
                      have HLA := Lib.hid hla
                      have xa0 : w4.cell? ⟨g3, i1 * 2, none⟩ = some (.int .u8 (ka : Int)) := y3.cell (j := 0) HI1.out rfl
                      have xa1 : w4.cell? ⟨g3, i1 * 2 + 1, none⟩ = some (.int .u8 (va : Int)) := y3.cell (j := 1) HI1.out rfl
                      have m4 : w4.cell? ⟨M, 4, none⟩ = some (.int .u8 0) := H4.out.cell rfl
                      have m5 : w4.cell? ⟨M, 5, none⟩ = some (.int .u8 0) := H4.out.cell rfl
                      have f4 := H4.out.frozen 4
                      have f5 := H4.out.frozen 5
                      clear hav hla hi1
                      obtain ⟨i2, hi2⟩ : ∃ i2, i + 1 = i2 := ⟨_, rfl⟩
                      have hi2I : (i : Int) + 1 = (i2 : Int) := by omega
                      have hi24 : (i2 : Int) ≤ 40 := by omega
                      have HI2 := Lib.hid hi2
                      have h2I : ¬ (i2 : Int) < (j : Int) := by omega
                      obtain ⟨bv, hbv⟩ : ∃ bv, bv = 0 := ⟨0, rfl⟩
                      have HLB0 := Lib.hid (show ld L (i + 1) = bv from by
                        rw [ld, List.getD, List.getElem?_eq_none (by have := HLL.out; omega), hbv]
                        rfl)
                      have HLB := Lib.hid (show lc bv = (0, 0) from by rw [hbv]; rfl)
                      clear hbv hi2
                      obtain ⟨C, hC⟩ : ∃ C, w4.heap.size = C := ⟨_, rfl⟩
                      have HCC := Lib.hid hC
                      go_wp2_with ((with_reducible refine at_slot 98 ?_); refine Classical.byContradiction (fun hG => ?_))
                      refine hG ?_
                      clear hG
                      refine list_named (S := fun W => Below wi.heap.size wi W ∧ Blk W M TN (vals (dn av cv bv)) ∧ Blk W C TC [.int .u8 (kc : Int), .int .u8 (vc : Int)]) ⟨by
                        have z1 := HB4.out.size
                        have z2 := HM.out
                        (repeat' (first | (with_reducible exact Below.refl _ _) | (with_reducible refine Below.setCell ?_ (by (first | omega | (simp; done) | (simp; omega))) _) | (with_reducible refine Below.alloc ?_ (by (first | omega | (simp; done) | (simp; omega))) _) | (with_reducible refine Below.drew ?_) | (with_reducible refine below_drewN ?_ _) | (with_reducible refine Below.trans ?_ (Below.mono HB4.out (by (first | omega | (simp; done) | (simp; omega))))))), by
                        have eN : vals (dn av cv bv) = vals {nz with s := (kc, vc), sd := upd (upd nz.sd 5 (2, 0)) 1 (ka, va), un := fun _ => (2, 0)} := by
                          unfold dn
                          rw [HLC.out, HLA.out, HLB.out]
                          rfl
                        have e1 := set_side {nz with s := (kc, vc), sd := upd nz.sd 5 (2, 0), un := fun _ => (2, 0)} (d := 1) (by omega) (ka, va)
                        rw [eN, ← e1]
                        first | exact ((H4.out.set _ _).set _ _).alloc _ | exact ((((H4.out.set _ _).set _ _).alloc _).other (by simp; omega) _).other (by simp; omega) _, by (repeat' (first | (with_reducible refine BlkP.Blk.drew ?_) | (with_reducible refine BlkP.Blk.drewN ?_ _) | (with_reducible refine BlkP.Blk.setAt (us := ?_) (by first | omega | (simp; done) | (simp; omega)) rfl ?_ ?_) | (with_reducible refine BlkP.Blk.otherAt ?_ (by first | omega | (simp; done) | (simp; omega))) | (with_reducible refine BlkP.Blk.newA' (by first | omega | (simp; done) | (simp; omega)) rfl) | (with_reducible refine BlkP.Blk.alloc ?_ _) | (exact rfl)))⟩ ?_
                      rintro w5 ⟨hb5, h5, hc5⟩
                      try rw [hC]
                      have HB5 := Lib.hid hb5
                      have HC5 := Lib.hid hc5
                      have H5 := Lib.hid h5
                      have HCM := Lib.hid (show wi.heap.size < C ∧ C < w5.heap.size from ⟨by rw [← HCC.out]; have := HM.out; omega, hc5.lt⟩)
                      clear x0 x1 y3 hb5 h5 hc5 hC hgM hg4 hM4 xa0 xa1 m4 m5 f4 f5
                      refine wp_loadN rfl (.tmp 9) rfl rfl (n := dn av cv bv) H5.out ?_
                      go_wp2_with fail
                      refine (Next_c (HT.out.below (below_t (below_t HBT.out HBI.out) HB5.out))).mono ?_
                      rintro e w6 ⟨v, rfl, ho, hb6⟩
                      have HB6 := Lib.hid (below_t HB5.out hb6)
                      have HC6 := Lib.hid (HC5.out.below hb6)
                      have z0 := HC6.out.cell (i := 0) rfl
                      have z1 := HC6.out.cell (i := 1) rfl
                      have fz0 := HC6.out.frozen 0
                      have fz1 := HC6.out.frozen 1
                      have lc6 := HC6.out.lt
                      have hzi := HB6.out.size
                      have hCi := HCM.out.1
                      have HZT := Lib.hid HG3.out.2
                      have hL : ∀ q, ld L q ≤ 7 := fun q => getD_all HALL.out (by omega) q
                      have ha7 : av ≤ 7 := by
                        rw [← HLF.out]
                        unfold lf
                        split
                        · omega
                        · exact hL _
                      have hfacts := dry_facts ha7 (show cv ≤ 7 by rw [← HCV.out]; exact hL _) (show bv ≤ 7 by rw [← HLB0.out]; exact hL _)
                      have HDI := Lib.hid (show (dry L)[i]? = some (dl av cv bv) from by
                        unfold dry
                        rw [List.getElem?_map, List.getElem?_range (by rw [HLL.out]; exact hil)]
                        simp only [Option.map_some, HLF.out, HCV.out, HLB0.out])
                      clear hb6 ha7 hL
                      rcases hfacts with ⟨hd, hy⟩ | ⟨⟨xd, xk, xm⟩, r, hd, hx1, hy⟩ | ⟨⟨qk, qv⟩, hd, hy⟩
                      · rw [hd] at ho
                        obtain ⟨A8, c8, rfl, _, _, _⟩ := ho.form (n := 0) rfl
                        have HY := Lib.hid (hy.trans HLC.out)
                        clear hd hy ho
                        go_wp2_with ((with_reducible refine at_slot 120 ?_); refine Classical.byContradiction (fun hG => ?_))
                        refine hG ?_
                        clear hG
                        refine wp_pushC (y := (kc, vc)) rfl (.tmp 117) (.tmp 119) rfl rfl rfl (HR7.out.below (by (repeat' (first | (with_reducible exact Below.refl _ _) | (with_reducible refine Below.setCell ?_ (by (first | omega | (simp; done) | (simp; omega))) _) | (with_reducible refine Below.alloc ?_ (by (first | omega | (simp; done) | (simp; omega))) _) | (with_reducible refine Below.drew ?_) | (with_reducible refine below_drewN ?_ _) | (with_reducible refine Below.trans ?_ (Below.mono HB6.out (by (first | omega | (simp; done) | (simp; omega))))))))) rfl (by simp) HLEN.out (by omega) (by have := HZT.out; simp; omega) ?_
                        intro g5 c5 w8 hpu
                        have hb0 : Below wt.heap.size wt _ := ((below_t HBI.out (by (repeat' (first | (with_reducible exact Below.refl _ _) | (with_reducible refine Below.setCell ?_ (by (first | omega | (simp; done) | (simp; omega))) _) | (with_reducible refine Below.alloc ?_ (by (first | omega | (simp; done) | (simp; omega))) _) | (with_reducible refine Below.drew ?_) | (with_reducible refine below_drewN ?_ _) | (with_reducible refine Below.trans ?_ (Below.mono HB6.out (by (first | omega | (simp; done) | (simp; omega)))))))) : Below wt.heap.size wt _)).grown hpu.2.1 (by have := HZT.out; simp; omega) (fun q hq => ((HR7.out.ge q hq).1))
                        have HPU := Lib.hid hpu.1
                        have HB8 := Lib.hid hb0
                        clear hpu hb0 z0 z1 fz0 fz1
                        go_wp2_with fail
                        go_roundw
                        case rel =>
                          refine ⟨i + 1, by first | rfl | (rw [HI2.out]) | (congr 1; omega), by omega, ?_, HB8.out⟩
                          rw [List.take_add_one, HDI.out]
                          simp only [Option.toList_some, List.map_append, List.map_cons, List.map_nil, HY.out]
                          exact HPU.out
                        case measure =>
                          simp only [intOf]
                          omega
                      · rw [hd] at ho
                        obtain ⟨kk, hkk⟩ : ∃ kk, r.length + 1 = kk := ⟨_, rfl⟩
                        have hkkI : (0 : Int) < (kk : Int) := by omega
                        have hkkN : 0 < kk := by omega
                        obtain ⟨A8, c8, rfl, _, _, hA8⟩ := ho.form (n := kk) (by rw [← hkk]; rfl)
                        obtain ⟨g8, rfl, _, hg8⟩ := hA8 (by omega)
                        have d0 : w6.cell? ⟨g8, 0, none⟩ = some (.int .i64 (xd : Int)) := ho.cell (i := 0) (j := 0) rfl rfl
                        have hxd : ((xd : Int) == 0) = false := by
                          simp only at hx1
                          simp
                          omega
                        have HY := Lib.hid (hy.trans HLC.out)
                        clear hd hy ho hA8 hkk hx1
                        go_wp2_with ((with_reducible refine at_slot 120 ?_); refine Classical.byContradiction (fun hG => ?_))
                        refine hG ?_
                        clear hG
                        refine wp_pushC (y := (kc, vc)) rfl (.tmp 117) (.tmp 119) rfl rfl rfl (HR7.out.below (by (repeat' (first | (with_reducible exact Below.refl _ _) | (with_reducible refine Below.setCell ?_ (by (first | omega | (simp; done) | (simp; omega))) _) | (with_reducible refine Below.alloc ?_ (by (first | omega | (simp; done) | (simp; omega))) _) | (with_reducible refine Below.drew ?_) | (with_reducible refine below_drewN ?_ _) | (with_reducible refine Below.trans ?_ (Below.mono HB6.out (by (first | omega | (simp; done) | (simp; omega))))))))) rfl (by simp) HLEN.out (by omega) (by have := HZT.out; simp; omega) ?_
                        intro g5 c5 w8 hpu
                        have hb0 : Below wt.heap.size wt _ := ((below_t HBI.out (by (repeat' (first | (with_reducible exact Below.refl _ _) | (with_reducible refine Below.setCell ?_ (by (first | omega | (simp; done) | (simp; omega))) _) | (with_reducible refine Below.alloc ?_ (by (first | omega | (simp; done) | (simp; omega))) _) | (with_reducible refine Below.drew ?_) | (with_reducible refine below_drewN ?_ _) | (with_reducible refine Below.trans ?_ (Below.mono HB6.out (by (first | omega | (simp; done) | (simp; omega)))))))) : Below wt.heap.size wt _)).grown hpu.2.1 (by have := HZT.out; simp; omega) (fun q hq => ((HR7.out.ge q hq).1))
                        have HPU := Lib.hid hpu.1
                        have HB8 := Lib.hid hb0
                        clear hpu hb0 z0 z1 fz0 fz1
                        go_wp2_with fail
                        go_roundw
                        case rel =>
                          refine ⟨i + 1, by first | rfl | (rw [HI2.out]) | (congr 1; omega), by omega, ?_, HB8.out⟩
                          rw [List.take_add_one, HDI.out]
                          simp only [Option.toList_some, List.map_append, List.map_cons, List.map_nil, HY.out]
                          exact HPU.out
                        case measure =>
                          simp only [intOf]
                          omega
                      · rw [hd] at ho
                        obtain ⟨A8, c8, rfl, _, _, hA8⟩ := ho.form (n := 1) rfl
                        obtain ⟨g8, rfl, _, hg8⟩ := hA8 (by omega)
                        have d0 : w6.cell? ⟨g8, 0, none⟩ = some (.int .i64 0) := ho.cell (i := 0) (j := 0) rfl rfl
                        have d1 : w6.cell? ⟨g8, 1, none⟩ = some (.int .u8 (qk : Int)) := ho.cell (i := 0) (j := 1) rfl rfl
                        have d2 : w6.cell? ⟨g8, 2, none⟩ = some (.int .u8 (qv : Int)) := ho.cell (i := 0) (j := 2) rfl rfl
                        have HY := Lib.hid hy
                        clear hd hy ho hA8
                        go_wp2_with ((with_reducible refine at_slot 120 ?_); refine Classical.byContradiction (fun hG => ?_))
                        refine hG ?_
                        clear hG
                        refine wp_pushC (y := (qk, qv)) rfl (.tmp 117) (.tmp 119) rfl rfl rfl (HR7.out.below (by (repeat' (first | (with_reducible exact Below.refl _ _) | (with_reducible refine Below.setCell ?_ (by (first | omega | (simp; done) | (simp; omega))) _) | (with_reducible refine Below.alloc ?_ (by (first | omega | (simp; done) | (simp; omega))) _) | (with_reducible refine Below.drew ?_) | (with_reducible refine below_drewN ?_ _) | (with_reducible refine Below.trans ?_ (Below.mono HB6.out (by (first | omega | (simp; done) | (simp; omega))))))))) rfl (by simp) HLEN.out (by omega) (by have := HZT.out; simp; omega) ?_
                        intro g5 c5 w8 hpu
                        have hb0 : Below wt.heap.size wt _ := ((below_t HBI.out (by (repeat' (first | (with_reducible exact Below.refl _ _) | (with_reducible refine Below.setCell ?_ (by (first | omega | (simp; done) | (simp; omega))) _) | (with_reducible refine Below.alloc ?_ (by (first | omega | (simp; done) | (simp; omega))) _) | (with_reducible refine Below.drew ?_) | (with_reducible refine below_drewN ?_ _) | (with_reducible refine Below.trans ?_ (Below.mono HB6.out (by (first | omega | (simp; done) | (simp; omega)))))))) : Below wt.heap.size wt _)).grown hpu.2.1 (by have := HZT.out; simp; omega) (fun q hq => ((HR7.out.ge q hq).1))
                        have HPU := Lib.hid hpu.1
                        have HB8 := Lib.hid hb0
                        clear hpu hb0 z0 z1 fz0 fz1
                        go_wp2_with fail
                        go_roundw
                        case rel =>
                          refine ⟨i + 1, by first | rfl | (rw [HI2.out]) | (congr 1; omega), by omega, ?_, HB8.out⟩
                          rw [List.take_add_one, HDI.out]
                          simp only [Option.toList_some, List.map_append, List.map_cons, List.map_nil, HY.out]
                          exact HPU.out
                        case measure =>
                          simp only [intOf]
                          omega
                  · by_cases h2 : i + 1 < j
                    · have h0I : ¬ (0 : Int) < (i : Int) := by omega
                      obtain ⟨av, hav⟩ : ∃ av, av = 0 := ⟨0, rfl⟩
                      have HLF := Lib.hid (show lf L i = av from by rw [lf, if_pos (by omega), hav])
                      have HLA := Lib.hid (show lc av = (0, 0) from by rw [hav]; rfl)
                      clear hav
                      obtain ⟨i2, hi2⟩ : ∃ i2, i + 1 = i2 := ⟨_, rfl⟩
                      have hi2I : (i : Int) + 1 = (i2 : Int) := by omega
                      have hi24 : (i2 : Int) ≤ 40 := by omega
                      have HI2 := Lib.hid hi2
                      have h2I : (i2 : Int) < (j : Int) := by omega
                      have h2n : i2 < j := by omega
                      obtain ⟨bv, hbv⟩ : ∃ bv, ld L i2 = bv := ⟨_, rfl⟩
                      obtain ⟨⟨kb, vb⟩, hlb⟩ : ∃ q, lc bv = q := ⟨_, rfl⟩
                      have HLB0 := Lib.hid (show ld L (i + 1) = bv from by rw [hi2]; exact hbv)
                      have HIX2 := Lib.hid (show (L.map lc)[i2]? = some (kb, vb) from by rw [HAT.out i2 h2n, hbv, hlb])
                      have HLB := Lib.hid hlb
                      have xb0 : w4.cell? ⟨g3, i2 * 2, none⟩ = some (.int .u8 (kb : Int)) := y3.cell (j := 0) HIX2.out rfl
                      have xb1 : w4.cell? ⟨g3, i2 * 2 + 1, none⟩ = some (.int .u8 (vb : Int)) := y3.cell (j := 1) HIX2.out rfl
                      have m2 : w4.cell? ⟨M, 2, none⟩ = some (.int .u8 0) := H4.out.cell rfl
                      have m3 : w4.cell? ⟨M, 3, none⟩ = some (.int .u8 0) := H4.out.cell rfl
                      have f2 := H4.out.frozen 2
                      have f3 := H4.out.frozen 3
                      clear hbv hlb hi2
                      obtain ⟨C, hC⟩ : ∃ C, w4.heap.size = C := ⟨_, rfl⟩
                      have HCC := Lib.hid hC
                      go_wp2_with ((with_reducible refine at_slot 98 ?_); refine Classical.byContradiction (fun hG => ?_))
                      refine hG ?_
                      clear hG
                      refine list_named (S := fun W => Below wi.heap.size wi W ∧ Blk W M TN (vals (dn av cv bv)) ∧ Blk W C TC [.int .u8 (kc : Int), .int .u8 (vc : Int)]) ⟨by
                        have z1 := HB4.out.size
                        have z2 := HM.out
                        (repeat' (first | (with_reducible exact Below.refl _ _) | (with_reducible refine Below.setCell ?_ (by (first | omega | (simp; done) | (simp; omega))) _) | (with_reducible refine Below.alloc ?_ (by (first | omega | (simp; done) | (simp; omega))) _) | (with_reducible refine Below.drew ?_) | (with_reducible refine below_drewN ?_ _) | (with_reducible refine Below.trans ?_ (Below.mono HB4.out (by (first | omega | (simp; done) | (simp; omega))))))), by
                        have eN : vals (dn av cv bv) = vals {nz with s := (kc, vc), sd := upd (upd nz.sd 5 (2, 0)) 0 (kb, vb), un := fun _ => (2, 0)} := by
                          unfold dn
                          rw [HLC.out, HLA.out, HLB.out]
                          rfl
                        have e2 := set_side {nz with s := (kc, vc), sd := upd nz.sd 5 (2, 0), un := fun _ => (2, 0)} (d := 0) (by omega) (kb, vb)
                        rw [eN, ← e2]
                        first | exact ((H4.out.set _ _).set _ _).alloc _ | exact ((((H4.out.set _ _).set _ _).alloc _).other (by simp; omega) _).other (by simp; omega) _, by (repeat' (first | (with_reducible refine BlkP.Blk.drew ?_) | (with_reducible refine BlkP.Blk.drewN ?_ _) | (with_reducible refine BlkP.Blk.setAt (us := ?_) (by first | omega | (simp; done) | (simp; omega)) rfl ?_ ?_) | (with_reducible refine BlkP.Blk.otherAt ?_ (by first | omega | (simp; done) | (simp; omega))) | (with_reducible refine BlkP.Blk.newA' (by first | omega | (simp; done) | (simp; omega)) rfl) | (with_reducible refine BlkP.Blk.alloc ?_ _) | (exact rfl)))⟩ ?_
                      rintro w5 ⟨hb5, h5, hc5⟩
                      try rw [hC]
                      have HB5 := Lib.hid hb5
                      have HC5 := Lib.hid hc5
                      have H5 := Lib.hid h5
                      have HCM := Lib.hid (show wi.heap.size < C ∧ C < w5.heap.size from ⟨by rw [← HCC.out]; have := HM.out; omega, hc5.lt⟩)
                      clear x0 x1 y3 hb5 h5 hc5 hC hgM hg4 hM4 xb0 xb1 m2 m3 f2 f3
                      refine wp_loadN rfl (.tmp 9) rfl rfl (n := dn av cv bv) H5.out ?_
                      go_wp2_with fail
                      refine (Next_c (HT.out.below (below_t (below_t HBT.out HBI.out) HB5.out))).mono ?_
                      rintro e w6 ⟨v, rfl, ho, hb6⟩
                      have HB6 := Lib.hid (below_t HB5.out hb6)
                      have HC6 := Lib.hid (HC5.out.below hb6)
                      have z0 := HC6.out.cell (i := 0) rfl
                      have z1 := HC6.out.cell (i := 1) rfl
                      have fz0 := HC6.out.frozen 0
                      have fz1 := HC6.out.frozen 1
                      have lc6 := HC6.out.lt
                      have hzi := HB6.out.size
                      have hCi := HCM.out.1
                      have HZT := Lib.hid HG3.out.2
                      have hL : ∀ q, ld L q ≤ 7 := fun q => getD_all HALL.out (by omega) q
                      have ha7 : av ≤ 7 := by
                        rw [← HLF.out]
                        unfold lf
                        split
                        · omega
                        · exact hL _
                      have hfacts := dry_facts ha7 (show cv ≤ 7 by rw [← HCV.out]; exact hL _) (show bv ≤ 7 by rw [← HLB0.out]; exact hL _)
                      have HDI := Lib.hid (show (dry L)[i]? = some (dl av cv bv) from by
                        unfold dry
                        rw [List.getElem?_map, List.getElem?_range (by rw [HLL.out]; exact hil)]
                        simp only [Option.map_some, HLF.out, HCV.out, HLB0.out])
                      clear hb6 ha7 hL
                      rcases hfacts with ⟨hd, hy⟩ | ⟨⟨xd, xk, xm⟩, r, hd, hx1, hy⟩ | ⟨⟨qk, qv⟩, hd, hy⟩
                      · rw [hd] at ho
                        obtain ⟨A8, c8, rfl, _, _, _⟩ := ho.form (n := 0) rfl
                        have HY := Lib.hid (hy.trans HLC.out)
                        clear hd hy ho
                        go_wp2_with ((with_reducible refine at_slot 120 ?_); refine Classical.byContradiction (fun hG => ?_))
                        refine hG ?_
                        clear hG
                        refine wp_pushC (y := (kc, vc)) rfl (.tmp 117) (.tmp 119) rfl rfl rfl (HR7.out.below (by (repeat' (first | (with_reducible exact Below.refl _ _) | (with_reducible refine Below.setCell ?_ (by (first | omega | (simp; done) | (simp; omega))) _) | (with_reducible refine Below.alloc ?_ (by (first | omega | (simp; done) | (simp; omega))) _) | (with_reducible refine Below.drew ?_) | (with_reducible refine below_drewN ?_ _) | (with_reducible refine Below.trans ?_ (Below.mono HB6.out (by (first | omega | (simp; done) | (simp; omega))))))))) rfl (by simp) HLEN.out (by omega) (by have := HZT.out; simp; omega) ?_
                        intro g5 c5 w8 hpu
                        have hb0 : Below wt.heap.size wt _ := ((below_t HBI.out (by (repeat' (first | (with_reducible exact Below.refl _ _) | (with_reducible refine Below.setCell ?_ (by (first | omega | (simp; done) | (simp; omega))) _) | (with_reducible refine Below.alloc ?_ (by (first | omega | (simp; done) | (simp; omega))) _) | (with_reducible refine Below.drew ?_) | (with_reducible refine below_drewN ?_ _) | (with_reducible refine Below.trans ?_ (Below.mono HB6.out (by (first | omega | (simp; done) | (simp; omega)))))))) : Below wt.heap.size wt _)).grown hpu.2.1 (by have := HZT.out; simp; omega) (fun q hq => ((HR7.out.ge q hq).1))
                        have HPU := Lib.hid hpu.1
                        have HB8 := Lib.hid hb0
                        clear hpu hb0 z0 z1 fz0 fz1
                        go_wp2_with fail
                        go_roundw
                        case rel =>
                          refine ⟨i + 1, by first | rfl | (rw [HI2.out]) | (congr 1; omega), by omega, ?_, HB8.out⟩
                          rw [List.take_add_one, HDI.out]
                          simp only [Option.toList_some, List.map_append, List.map_cons, List.map_nil, HY.out]
                          exact HPU.out
                        case measure =>
                          simp only [intOf]
                          omega
                      · rw [hd] at ho
                        obtain ⟨kk, hkk⟩ : ∃ kk, r.length + 1 = kk := ⟨_, rfl⟩
                        have hkkI : (0 : Int) < (kk : Int) := by omega
                        have hkkN : 0 < kk := by omega
                        obtain ⟨A8, c8, rfl, _, _, hA8⟩ := ho.form (n := kk) (by rw [← hkk]; rfl)
                        obtain ⟨g8, rfl, _, hg8⟩ := hA8 (by omega)
                        have d0 : w6.cell? ⟨g8, 0, none⟩ = some (.int .i64 (xd : Int)) := ho.cell (i := 0) (j := 0) rfl rfl
                        have hxd : ((xd : Int) == 0) = false := by
                          simp only at hx1
                          simp
                          omega
                        have HY := Lib.hid (hy.trans HLC.out)
                        clear hd hy ho hA8 hkk hx1
                        go_wp2_with ((with_reducible refine at_slot 120 ?_); refine Classical.byContradiction (fun hG => ?_))
                        refine hG ?_
                        clear hG
                        refine wp_pushC (y := (kc, vc)) rfl (.tmp 117) (.tmp 119) rfl rfl rfl (HR7.out.below (by (repeat' (first | (with_reducible exact Below.refl _ _) | (with_reducible refine Below.setCell ?_ (by (first | omega | (simp; done) | (simp; omega))) _) | (with_reducible refine Below.alloc ?_ (by (first | omega | (simp; done) | (simp; omega))) _) | (with_reducible refine Below.drew ?_) | (with_reducible refine below_drewN ?_ _) | (with_reducible refine Below.trans ?_ (Below.mono HB6.out (by (first | omega | (simp; done) | (simp; omega))))))))) rfl (by simp) HLEN.out (by omega) (by have := HZT.out; simp; omega) ?_
                        intro g5 c5 w8 hpu
                        have hb0 : Below wt.heap.size wt _ := ((below_t HBI.out (by (repeat' (first | (with_reducible exact Below.refl _ _) | (with_reducible refine Below.setCell ?_ (by (first | omega | (simp; done) | (simp; omega))) _) | (with_reducible refine Below.alloc ?_ (by (first | omega | (simp; done) | (simp; omega))) _) | (with_reducible refine Below.drew ?_) | (with_reducible refine below_drewN ?_ _) | (with_reducible refine Below.trans ?_ (Below.mono HB6.out (by (first | omega | (simp; done) | (simp; omega)))))))) : Below wt.heap.size wt _)).grown hpu.2.1 (by have := HZT.out; simp; omega) (fun q hq => ((HR7.out.ge q hq).1))
                        have HPU := Lib.hid hpu.1
                        have HB8 := Lib.hid hb0
                        clear hpu hb0 z0 z1 fz0 fz1
                        go_wp2_with fail
                        go_roundw
                        case rel =>
                          refine ⟨i + 1, by first | rfl | (rw [HI2.out]) | (congr 1; omega), by omega, ?_, HB8.out⟩
                          rw [List.take_add_one, HDI.out]
                          simp only [Option.toList_some, List.map_append, List.map_cons, List.map_nil, HY.out]
                          exact HPU.out
                        case measure =>
                          simp only [intOf]
                          omega
                      · rw [hd] at ho
                        obtain ⟨A8, c8, rfl, _, _, hA8⟩ := ho.form (n := 1) rfl
                        obtain ⟨g8, rfl, _, hg8⟩ := hA8 (by omega)
                        have d0 : w6.cell? ⟨g8, 0, none⟩ = some (.int .i64 0) := ho.cell (i := 0) (j := 0) rfl rfl
                        have d1 : w6.cell? ⟨g8, 1, none⟩ = some (.int .u8 (qk : Int)) := ho.cell (i := 0) (j := 1) rfl rfl
                        have d2 : w6.cell? ⟨g8, 2, none⟩ = some (.int .u8 (qv : Int)) := ho.cell (i := 0) (j := 2) rfl rfl
                        have HY := Lib.hid hy
                        clear hd hy ho hA8
                        go_wp2_with ((with_reducible refine at_slot 120 ?_); refine Classical.byContradiction (fun hG => ?_))
                        refine hG ?_
                        clear hG
                        refine wp_pushC (y := (qk, qv)) rfl (.tmp 117) (.tmp 119) rfl rfl rfl (HR7.out.below (by (repeat' (first | (with_reducible exact Below.refl _ _) | (with_reducible refine Below.setCell ?_ (by (first | omega | (simp; done) | (simp; omega))) _) | (with_reducible refine Below.alloc ?_ (by (first | omega | (simp; done) | (simp; omega))) _) | (with_reducible refine Below.drew ?_) | (with_reducible refine below_drewN ?_ _) | (with_reducible refine Below.trans ?_ (Below.mono HB6.out (by (first | omega | (simp; done) | (simp; omega))))))))) rfl (by simp) HLEN.out (by omega) (by have := HZT.out; simp; omega) ?_
                        intro g5 c5 w8 hpu
                        have hb0 : Below wt.heap.size wt _ := ((below_t HBI.out (by (repeat' (first | (with_reducible exact Below.refl _ _) | (with_reducible refine Below.setCell ?_ (by (first | omega | (simp; done) | (simp; omega))) _) | (with_reducible refine Below.alloc ?_ (by (first | omega | (simp; done) | (simp; omega))) _) | (with_reducible refine Below.drew ?_) | (with_reducible refine below_drewN ?_ _) | (with_reducible refine Below.trans ?_ (Below.mono HB6.out (by (first | omega | (simp; done) | (simp; omega)))))))) : Below wt.heap.size wt _)).grown hpu.2.1 (by have := HZT.out; simp; omega) (fun q hq => ((HR7.out.ge q hq).1))
                        have HPU := Lib.hid hpu.1
                        have HB8 := Lib.hid hb0
                        clear hpu hb0 z0 z1 fz0 fz1
                        go_wp2_with fail
                        go_roundw
                        case rel =>
                          refine ⟨i + 1, by first | rfl | (rw [HI2.out]) | (congr 1; omega), by omega, ?_, HB8.out⟩
                          rw [List.take_add_one, HDI.out]
                          simp only [Option.toList_some, List.map_append, List.map_cons, List.map_nil, HY.out]
                          exact HPU.out
                        case measure =>
                          simp only [intOf]
                          omega
                    · have h0I : ¬ (0 : Int) < (i : Int) := by omega
                      obtain ⟨av, hav⟩ : ∃ av, av = 0 := ⟨0, rfl⟩
                      have HLF := Lib.hid (show lf L i = av from by rw [lf, if_pos (by omega), hav])
                      have HLA := Lib.hid (show lc av = (0, 0) from by rw [hav]; rfl)
                      clear hav
                      obtain ⟨i2, hi2⟩ : ∃ i2, i + 1 = i2 := ⟨_, rfl⟩
                      have hi2I : (i : Int) + 1 = (i2 : Int) := by omega
                      have hi24 : (i2 : Int) ≤ 40 := by omega
                      have HI2 := Lib.hid hi2
                      have h2I : ¬ (i2 : Int) < (j : Int) := by omega
                      obtain ⟨bv, hbv⟩ : ∃ bv, bv = 0 := ⟨0, rfl⟩
                      have HLB0 := Lib.hid (show ld L (i + 1) = bv from by
                        rw [ld, List.getD, List.getElem?_eq_none (by have := HLL.out; omega), hbv]
                        rfl)
                      have HLB := Lib.hid (show lc bv = (0, 0) from by rw [hbv]; rfl)
                      clear hbv hi2
                      obtain ⟨C, hC⟩ : ∃ C, w4.heap.size = C := ⟨_, rfl⟩
                      have HCC := Lib.hid hC
                      go_wp2_with ((with_reducible refine at_slot 98 ?_); refine Classical.byContradiction (fun hG => ?_))
                      refine hG ?_
                      clear hG
                      refine list_named (S := fun W => Below wi.heap.size wi W ∧ Blk W M TN (vals (dn av cv bv)) ∧ Blk W C TC [.int .u8 (kc : Int), .int .u8 (vc : Int)]) ⟨by
                        have z1 := HB4.out.size
                        have z2 := HM.out
                        (repeat' (first | (with_reducible exact Below.refl _ _) | (with_reducible refine Below.setCell ?_ (by (first | omega | (simp; done) | (simp; omega))) _) | (with_reducible refine Below.alloc ?_ (by (first | omega | (simp; done) | (simp; omega))) _) | (with_reducible refine Below.drew ?_) | (with_reducible refine below_drewN ?_ _) | (with_reducible refine Below.trans ?_ (Below.mono HB4.out (by (first | omega | (simp; done) | (simp; omega))))))), by
                        have eN : vals (dn av cv bv) = vals {nz with s := (kc, vc), sd := upd nz.sd 5 (2, 0), un := fun _ => (2, 0)} := by
                          unfold dn
                          rw [HLC.out, HLA.out, HLB.out]
                          rfl

                        rw [eN]
                        first | exact H4.out.alloc _ | exact ((H4.out.alloc _).other (by simp; omega) _).other (by simp; omega) _, by (repeat' (first | (with_reducible refine BlkP.Blk.drew ?_) | (with_reducible refine BlkP.Blk.drewN ?_ _) | (with_reducible refine BlkP.Blk.setAt (us := ?_) (by first | omega | (simp; done) | (simp; omega)) rfl ?_ ?_) | (with_reducible refine BlkP.Blk.otherAt ?_ (by first | omega | (simp; done) | (simp; omega))) | (with_reducible refine BlkP.Blk.newA' (by first | omega | (simp; done) | (simp; omega)) rfl) | (with_reducible refine BlkP.Blk.alloc ?_ _) | (exact rfl)))⟩ ?_
                      rintro w5 ⟨hb5, h5, hc5⟩
                      try rw [hC]
                      have HB5 := Lib.hid hb5
                      have HC5 := Lib.hid hc5
                      have H5 := Lib.hid h5
                      have HCM := Lib.hid (show wi.heap.size < C ∧ C < w5.heap.size from ⟨by rw [← HCC.out]; have := HM.out; omega, hc5.lt⟩)
                      clear x0 x1 y3 hb5 h5 hc5 hC hgM hg4 hM4
                      refine wp_loadN rfl (.tmp 9) rfl rfl (n := dn av cv bv) H5.out ?_
                      go_wp2_with fail
                      refine (Next_c (HT.out.below (below_t (below_t HBT.out HBI.out) HB5.out))).mono ?_
                      rintro e w6 ⟨v, rfl, ho, hb6⟩
                      have HB6 := Lib.hid (below_t HB5.out hb6)
                      have HC6 := Lib.hid (HC5.out.below hb6)
                      have z0 := HC6.out.cell (i := 0) rfl
                      have z1 := HC6.out.cell (i := 1) rfl
                      have fz0 := HC6.out.frozen 0
                      have fz1 := HC6.out.frozen 1
                      have lc6 := HC6.out.lt
                      have hzi := HB6.out.size
                      have hCi := HCM.out.1
                      have HZT := Lib.hid HG3.out.2
                      have hL : ∀ q, ld L q ≤ 7 := fun q => getD_all HALL.out (by omega) q
                      have ha7 : av ≤ 7 := by
                        rw [← HLF.out]
                        unfold lf
                        split
                        · omega
                        · exact hL _
                      have hfacts := dry_facts ha7 (show cv ≤ 7 by rw [← HCV.out]; exact hL _) (show bv ≤ 7 by rw [← HLB0.out]; exact hL _)
                      have HDI := Lib.hid (show (dry L)[i]? = some (dl av cv bv) from by
                        unfold dry
                        rw [List.getElem?_map, List.getElem?_range (by rw [HLL.out]; exact hil)]
                        simp only [Option.map_some, HLF.out, HCV.out, HLB0.out])
                      clear hb6 ha7 hL
                      rcases hfacts with ⟨hd, hy⟩ | ⟨⟨xd, xk, xm⟩, r, hd, hx1, hy⟩ | ⟨⟨qk, qv⟩, hd, hy⟩
                      · rw [hd] at ho
                        obtain ⟨A8, c8, rfl, _, _, _⟩ := ho.form (n := 0) rfl
                        have HY := Lib.hid (hy.trans HLC.out)
                        clear hd hy ho
                        go_wp2_with ((with_reducible refine at_slot 120 ?_); refine Classical.byContradiction (fun hG => ?_))
                        refine hG ?_
                        clear hG
                        refine wp_pushC (y := (kc, vc)) rfl (.tmp 117) (.tmp 119) rfl rfl rfl (HR7.out.below (by (repeat' (first | (with_reducible exact Below.refl _ _) | (with_reducible refine Below.setCell ?_ (by (first | omega | (simp; done) | (simp; omega))) _) | (with_reducible refine Below.alloc ?_ (by (first | omega | (simp; done) | (simp; omega))) _) | (with_reducible refine Below.drew ?_) | (with_reducible refine below_drewN ?_ _) | (with_reducible refine Below.trans ?_ (Below.mono HB6.out (by (first | omega | (simp; done) | (simp; omega))))))))) rfl (by simp) HLEN.out (by omega) (by have := HZT.out; simp; omega) ?_
                        intro g5 c5 w8 hpu
                        have hb0 : Below wt.heap.size wt _ := ((below_t HBI.out (by (repeat' (first | (with_reducible exact Below.refl _ _) | (with_reducible refine Below.setCell ?_ (by (first | omega | (simp; done) | (simp; omega))) _) | (with_reducible refine Below.alloc ?_ (by (first | omega | (simp; done) | (simp; omega))) _) | (with_reducible refine Below.drew ?_) | (with_reducible refine below_drewN ?_ _) | (with_reducible refine Below.trans ?_ (Below.mono HB6.out (by (first | omega | (simp; done) | (simp; omega)))))))) : Below wt.heap.size wt _)).grown hpu.2.1 (by have := HZT.out; simp; omega) (fun q hq => ((HR7.out.ge q hq).1))
                        have HPU := Lib.hid hpu.1
                        have HB8 := Lib.hid hb0
                        clear hpu hb0 z0 z1 fz0 fz1
                        go_wp2_with fail
                        go_roundw
                        case rel =>
                          refine ⟨i + 1, by first | rfl | (rw [HI2.out]) | (congr 1; omega), by omega, ?_, HB8.out⟩
                          rw [List.take_add_one, HDI.out]
                          simp only [Option.toList_some, List.map_append, List.map_cons, List.map_nil, HY.out]
                          exact HPU.out
                        case measure =>
                          simp only [intOf]
                          omega
                      · rw [hd] at ho
                        obtain ⟨kk, hkk⟩ : ∃ kk, r.length + 1 = kk := ⟨_, rfl⟩
                        have hkkI : (0 : Int) < (kk : Int) := by omega
                        have hkkN : 0 < kk := by omega
                        obtain ⟨A8, c8, rfl, _, _, hA8⟩ := ho.form (n := kk) (by rw [← hkk]; rfl)
                        obtain ⟨g8, rfl, _, hg8⟩ := hA8 (by omega)
                        have d0 : w6.cell? ⟨g8, 0, none⟩ = some (.int .i64 (xd : Int)) := ho.cell (i := 0) (j := 0) rfl rfl
                        have hxd : ((xd : Int) == 0) = false := by
                          simp only at hx1
                          simp
                          omega
                        have HY := Lib.hid (hy.trans HLC.out)
                        clear hd hy ho hA8 hkk hx1
                        go_wp2_with ((with_reducible refine at_slot 120 ?_); refine Classical.byContradiction (fun hG => ?_))
                        refine hG ?_
                        clear hG
                        refine wp_pushC (y := (kc, vc)) rfl (.tmp 117) (.tmp 119) rfl rfl rfl (HR7.out.below (by (repeat' (first | (with_reducible exact Below.refl _ _) | (with_reducible refine Below.setCell ?_ (by (first | omega | (simp; done) | (simp; omega))) _) | (with_reducible refine Below.alloc ?_ (by (first | omega | (simp; done) | (simp; omega))) _) | (with_reducible refine Below.drew ?_) | (with_reducible refine below_drewN ?_ _) | (with_reducible refine Below.trans ?_ (Below.mono HB6.out (by (first | omega | (simp; done) | (simp; omega))))))))) rfl (by simp) HLEN.out (by omega) (by have := HZT.out; simp; omega) ?_
                        intro g5 c5 w8 hpu
                        have hb0 : Below wt.heap.size wt _ := ((below_t HBI.out (by (repeat' (first | (with_reducible exact Below.refl _ _) | (with_reducible refine Below.setCell ?_ (by (first | omega | (simp; done) | (simp; omega))) _) | (with_reducible refine Below.alloc ?_ (by (first | omega | (simp; done) | (simp; omega))) _) | (with_reducible refine Below.drew ?_) | (with_reducible refine below_drewN ?_ _) | (with_reducible refine Below.trans ?_ (Below.mono HB6.out (by (first | omega | (simp; done) | (simp; omega)))))))) : Below wt.heap.size wt _)).grown hpu.2.1 (by have := HZT.out; simp; omega) (fun q hq => ((HR7.out.ge q hq).1))
                        have HPU := Lib.hid hpu.1
                        have HB8 := Lib.hid hb0
                        clear hpu hb0 z0 z1 fz0 fz1
                        go_wp2_with fail
                        go_roundw
                        case rel =>
                          refine ⟨i + 1, by first | rfl | (rw [HI2.out]) | (congr 1; omega), by omega, ?_, HB8.out⟩
                          rw [List.take_add_one, HDI.out]
                          simp only [Option.toList_some, List.map_append, List.map_cons, List.map_nil, HY.out]
                          exact HPU.out
                        case measure =>
                          simp only [intOf]
                          omega
                      · rw [hd] at ho
                        obtain ⟨A8, c8, rfl, _, _, hA8⟩ := ho.form (n := 1) rfl
                        obtain ⟨g8, rfl, _, hg8⟩ := hA8 (by omega)
                        have d0 : w6.cell? ⟨g8, 0, none⟩ = some (.int .i64 0) := ho.cell (i := 0) (j := 0) rfl rfl
                        have d1 : w6.cell? ⟨g8, 1, none⟩ = some (.int .u8 (qk : Int)) := ho.cell (i := 0) (j := 1) rfl rfl
                        have d2 : w6.cell? ⟨g8, 2, none⟩ = some (.int .u8 (qv : Int)) := ho.cell (i := 0) (j := 2) rfl rfl
                        have HY := Lib.hid hy
                        clear hd hy ho hA8
                        go_wp2_with ((with_reducible refine at_slot 120 ?_); refine Classical.byContradiction (fun hG => ?_))
                        refine hG ?_
                        clear hG
                        refine wp_pushC (y := (qk, qv)) rfl (.tmp 117) (.tmp 119) rfl rfl rfl (HR7.out.below (by (repeat' (first | (with_reducible exact Below.refl _ _) | (with_reducible refine Below.setCell ?_ (by (first | omega | (simp; done) | (simp; omega))) _) | (with_reducible refine Below.alloc ?_ (by (first | omega | (simp; done) | (simp; omega))) _) | (with_reducible refine Below.drew ?_) | (with_reducible refine below_drewN ?_ _) | (with_reducible refine Below.trans ?_ (Below.mono HB6.out (by (first | omega | (simp; done) | (simp; omega))))))))) rfl (by simp) HLEN.out (by omega) (by have := HZT.out; simp; omega) ?_
                        intro g5 c5 w8 hpu
                        have hb0 : Below wt.heap.size wt _ := ((below_t HBI.out (by (repeat' (first | (with_reducible exact Below.refl _ _) | (with_reducible refine Below.setCell ?_ (by (first | omega | (simp; done) | (simp; omega))) _) | (with_reducible refine Below.alloc ?_ (by (first | omega | (simp; done) | (simp; omega))) _) | (with_reducible refine Below.drew ?_) | (with_reducible refine below_drewN ?_ _) | (with_reducible refine Below.trans ?_ (Below.mono HB6.out (by (first | omega | (simp; done) | (simp; omega)))))))) : Below wt.heap.size wt _)).grown hpu.2.1 (by have := HZT.out; simp; omega) (fun q hq => ((HR7.out.ge q hq).1))
                        have HPU := Lib.hid hpu.1
                        have HB8 := Lib.hid hb0
                        clear hpu hb0 z0 z1 fz0 fz1
                        go_wp2_with fail
                        go_roundw
                        case rel =>
                          refine ⟨i + 1, by first | rfl | (rw [HI2.out]) | (congr 1; omega), by omega, ?_, HB8.out⟩
                          rw [List.take_add_one, HDI.out]
                          simp only [Option.toList_some, List.map_append, List.map_cons, List.map_nil, HY.out]
                          exact HPU.out
                        case measure =>
                          simp only [intOf]
                          omega
            · have hie : i = j := by omega
              have hiI : ¬ (i : Int) < (j : Int) := by omega
              subst hie
              rw [List.take_of_length_le (by rw [HDN.out]; exact Nat.le_refl _)] at hrow
              have HR7 := Lib.hid (show RowG.Own encC TC wr w.heap.size _ ((dries (t + 1) L0).map lc) from by
                have e : dries (t + 1) L0 = dry L := by rw [← HLE.out]; rfl
                rw [e]
                exact hrow.mono HBT.out.size)
              have HBE := Lib.hid (below_t HBT.out hbe)
              clear hrow hbe
              go_wp2_with fail
              go_roundw
              case rel => exact ⟨t + 1, by first | rfl | rw [HWT.out] | (congr 1; omega), by omega, HR7.out, HBE.out⟩
              case measure =>
                simp only [intOf]
                omega
        · have hte : t = 7 := by omega
          have htI : ¬ (t : Int) < 7 := by omega
          subst hte
          refine HeldP.wp_named (S := fun W => Below w.heap.size w W ∧ RowG.Own encC TC W w.heap.size (.slice A3 j c3) (L.map lc)) ⟨hbe, hrow⟩ ?_
          rintro wt ⟨hbt, hrt⟩
          have HBT := Lib.hid hbt
          have HRT := Lib.hid hrt
          have HGONE := Lib.hid (show ∀ q, q < j → (L.map lc)[q]? = some (0, 0) from fun q hq => by
            have hq2 : L[q]? = some (L[q]'(by rw [HLL.out]; exact hq)) := List.getElem?_eq_getElem _
            have h0 : L[q]'(by rw [HLL.out]; exact hq) = 0 := dries_gone HL7.out _ (by rw [HLE.out]; exact List.getElem_mem _)
            rw [List.getElem?_map, hq2, h0]
            rfl)
          clear hrow hbe hL hA3 hbt hrt
          go_wp2_with fail
          go_loopw [13] (fun v13 wr => ∃ i : Nat, v13 = .int .i64 (i : Nat) ∧ i ≤ j ∧ Below wt.heap.size wt wr) (fun v _ => j - (intOf v).toNat)
          case atStart => exact ⟨0, rfl, by omega, Below.refl _ _⟩
          case round =>
            obtain ⟨i, rfl, hi, hbe⟩ := hrel
            have HBE := Lib.hid hbe
            by_cases hil : i < j
            · have hiI : (i : Int) < (j : Int) := by omega
              have hi40 : (i : Int) < 40 := by omega
              have hi40N : i < 40 := by omega
              have HWI := Lib.hid (show wrap64 ((i : Int) + 1) = ((i + 1 : Nat) : Int) by rw [wr64 (by omega) (by omega)]; omega)
              obtain ⟨g3, hg3, _, _⟩ := HA3.out (by omega)
              subst hg3
              have y3 := HRT.out.below hbe
              have x0 : wr.cell? ⟨g3, i * 2, none⟩ = some (.int .u8 0) := y3.cell (j := 0) (HGONE.out i hil) rfl
              have x1 : wr.cell? ⟨g3, i * 2 + 1, none⟩ = some (.int .u8 0) := y3.cell (j := 1) (HGONE.out i hil) rfl
              clear hbe y3
              go_wp2_with fail
              go_roundw
              case rel => exact ⟨i + 1, by first | rfl | rw [HWI.out] | (congr 1; omega), by omega, HBE.out⟩
              case measure =>
                simp only [intOf]
                omega
            · have hiI : ¬ (i : Int) < (j : Int) := by omega
              clear hbe
              go_wp2_with fail
              refine (works_c (HT.out.below (below_t HBT.out HBE.out))).mono ?_
              rintro e w6 ⟨rfl, hb6⟩
              have HB6 := Lib.hid (below_t (below_t HBT.out HBE.out) hb6)
              clear hb6
              go_wp2_with fail
              go_ret
              exact ⟨rfl, HB6.out⟩
end FlowW
end Go.Proofs.YtjdoglihebfamaaDoor
