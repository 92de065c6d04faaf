/-
  The law's own helpers: row, over, falls, pushes, awake.
-/
import Derived.Test.YtlcnhommlcdilaaDoorFallRun
namespace Go.Proofs.YtlcnhommlcdilaaDoor
open Go.RowKit
set_option linter.unusedVariables false
set_option linter.unusedSimpArgs false
namespace FallW
open BlkP RowG FrS PushG CellsW NearW
open FallP hiding Cl
abbrev TU : TypeId := 5
/-- Kinds. -/
def encU : Enc Nat := ⟨fun k => [.int .u8 (k : Int)], 1, fun _ => rfl, fun x v h => by
  simp only [List.mem_cons, List.not_mem_nil, or_false] at h
  subst h
  rfl⟩
def cells (ks : List Nat) : List Cl := ks.map fun k => (k, 0)
theorem cells_len (ks : List Nat) : (cells ks).length = ks.length := List.length_map _
theorem rdU {w : World} {g n : Nat} {ks : List Nat} (h : Blk w g TU (flat encU ks)) (hn : ks.length = n) (h1 : n ≤ 1000000) : Rd encU w (.slice (some ⟨g, 0, none⟩) n n) ks := (own_lit (e := encU) (B := 0) h (Nat.zero_le _) hn h1).rd
set_option maxRecDepth 100000 in
set_option maxHeartbeats 8000000 in
theorem row_c {w : World} {A : Option Addr} {n c : Nat} {ks : List Nat} (hR : Rd encU w (.slice A n c) ks) (hn : ks.length = n) (h1 : n ≤ 100) :
    Calls Tryd.prog 18 #[.slice A n c] w fun e w' => ∃ A' c', e = .returned (.slice A' n c') ∧ RowG.Own encK TC w' w.heap.size (.slice A' n c') (cells ks) ∧ Below w.heap.size w w' := by
  have HR := Lib.hid hR
  have HN := Lib.hid hn
  have h1I : (n : Int) ≤ 100 := by omega
  clear hR hn
  go_enter Tryd.func18, Tryd.ntmps18
  go_wp2_with fail
  go_loopw [3, 4] (fun v3 v4 wr => ∃ j : Nat, v4 = .int .i64 (j : Nat) ∧ j ≤ n ∧ RowG.Own encK TC wr w.heap.size v3 (cells (ks.take j)) ∧ Below w.heap.size w wr) (fun _ v _ => n - (intOf v).toNat)
  case atStart => exact ⟨0, rfl, by omega, Own.nil _ _ _ _, Below.refl _ _⟩
  case round =>
    obtain ⟨j, rfl, hj, hrow, hbe⟩ := hrel
    have HROW := Lib.hid hrow
    have HBE := Lib.hid hbe
    have hzr := hbe.size
    have HLEN := Lib.hid (show (cells (ks.take j)).length = j from by rw [cells_len, List.length_take, HN.out]; omega)
    obtain ⟨A9, c9, hv9, _, _, _⟩ := hrow.form (n := j) HLEN.out
    subst hv9
    by_cases hjl : j < n
    · have hjI : (j : Int) < (n : Int) := by omega
      have hj1 : (j : Int) < 100 := by omega
      have HWR := Lib.hid (show wrap64 ((j : Int) + 1) = ((j + 1 : Nat) : Int) by rw [wr64 (by omega) (by omega)]; omega)
      obtain ⟨k, hx⟩ : ∃ x, ks[j]? = some x := ⟨_, List.getElem?_eq_getElem (by rw [HN.out]; exact hjl)⟩
      have HX := Lib.hid hx
      obtain ⟨b, o, hA, hlt, hc⟩ := (HR.out.below hbe).at hx
      subst hA
      have x0 : wr.cell? ⟨b, o + j, none⟩ = some (.int .u8 (k : Int)) := by
        have := hc 0 _ rfl
        rw [show o + j * encU.k + 0 = o + j from by show o + j * 1 + 0 = o + j; omega] at this
        exact this
      clear hrow hbe hc hx
      go_wp2_with ((with_reducible refine at_slot 18 ?_); refine Classical.byContradiction (fun hG => ?_))
      refine hG ?_
      clear hG
      refine wp_pushC (y := (k, 0)) rfl (.tmp 11) (.tmp 17) rfl rfl rfl HROW.out rfl (by simp) HLEN.out (by omega) (by omega) ?_
      intro g5 c5 w8 hpu
      have hb0 : Below w.heap.size w _ := HBE.out.grown hpu.2.1 (by omega) (fun q hq => ((HROW.out.ge q hq).1))
      have HPU := Lib.hid hpu.1
      have HB8 := Lib.hid hb0
      clear hpu hb0 x0
      go_wp2_with fail
      go_roundw
      case rel =>
        refine ⟨j + 1, by first | rfl | rw [HWR.out] | (congr 1; omega), by omega, ?_, HB8.out⟩
        unfold cells
        rw [List.take_add_one, HX.out]
        simp only [Option.toList_some, List.map_append, List.map_cons, List.map_nil]
        exact HPU.out
      case measure =>
        simp only [intOf]
        omega
    · have hje : j = n := by omega
      have hjI : ¬ (j : Int) < (n : Int) := by omega
      rw [List.take_of_length_le (by rw [HN.out]; omega)] at hrow
      subst hje
      clear hbe
      have HO := Lib.hid hrow
      clear hrow
      go_wp2_with fail
      go_ret
      exact ⟨_, _, rfl, HO.out, HBE.out⟩
theorem results_Ni {i : Nat} {fn : Func} {tmps : Array Value} {w : World} {b : Nat} {n : Nr} (hr : fn.results = #[.cell i TN]) (ht : tmps.getD i undef = .pointer (some ⟨b, 0, none⟩)) (h : Blk w b TN (vals n)) : (results fn tmps).run Tryd.prog w = .ok (nv n) w := by
  have hl := run_loadN h
  unfold results
  rw [hr]
  simp only [Array.mapM_eq_mapM_toList, List.mapM_cons, List.mapM_nil, map_eq_pure_bind, ht, asAddr, bind_assoc, pure_bind, Sem.run_bind, Sem.run_pure, hl, Result.andThen_ok]
  rfl
theorem field_deed (w : World) (A : Option Addr) (n c : Nat) : (Instr.field TD (.agg #[.slice A n c, .int .i64 0, .int .i64 0]) 0).run Tryd.prog w = .ok (.slice A n c) w := by kernel_rfl
/-- A cell of one kind over one of another; all else Air. -/
def ovr (k b : Nat) : Nr := {nz with s := (k, 0), sd := upd nz.sd 5 (b, 0)}
theorem ovr_s (k b : Nat) : (ovr k b).s = (k, 0) := rfl
theorem ovr_5 (k b : Nat) : (ovr k b).sd 5 = (b, 0) := rfl
set_option maxRecDepth 100000 in
set_option maxHeartbeats 8000000 in
theorem over_c {w : World} {k b : Nat} : Calls Tryd.prog 17 #[.int .u8 (k : Int), .int .u8 (b : Int)] w fun e w' => e = .returned (nv (ovr k b)) ∧ Below w.heap.size w w' := by
  obtain ⟨s, hs⟩ : ∃ s, w.heap.size = s := ⟨_, rfl⟩
  have HS := Lib.hid hs
  go_enter Tryd.func17, Tryd.ntmps17
  go_wp2_with ((with_reducible refine at_storeN ?_); refine Classical.byContradiction (fun hG => ?_))
  refine hG ?_
  clear hG
  refine list_named (S := fun W => Below w.heap.size w W ∧ Blk W s TN (vals nz) ∧ Blk W (s + 1) TN (vals nz)) ⟨by (repeat' (first | (with_reducible exact Below.refl _ _) | (with_reducible refine Below.setCell ?_ (by (first | omega | (simp; done) | (simp; omega))) _) | (with_reducible refine Below.alloc ?_ (by (first | omega | (simp; done) | (simp; omega))) _) | (with_reducible refine Below.drew ?_) | (with_reducible refine below_drewN ?_ _))), by subst hs; (repeat' (first | (with_reducible refine BlkP.Blk.drew ?_) | (with_reducible refine BlkP.Blk.drewN ?_ _) | (with_reducible refine BlkP.Blk.setAt (us := ?_) (by first | omega | (simp; done) | (simp; omega)) rfl ?_ ?_) | (with_reducible refine BlkP.Blk.otherAt ?_ (by first | omega | (simp; done) | (simp; omega))) | (with_reducible refine BlkP.Blk.newA' (by first | omega | (simp; done) | (simp; omega)) rfl) | (with_reducible refine BlkP.Blk.alloc ?_ _) | (exact rfl))), by subst hs; (repeat' (first | (with_reducible refine BlkP.Blk.drew ?_) | (with_reducible refine BlkP.Blk.drewN ?_ _) | (with_reducible refine BlkP.Blk.setAt (us := ?_) (by first | omega | (simp; done) | (simp; omega)) rfl ?_ ?_) | (with_reducible refine BlkP.Blk.otherAt ?_ (by first | omega | (simp; done) | (simp; omega))) | (with_reducible refine BlkP.Blk.newA' (by first | omega | (simp; done) | (simp; omega)) rfl) | (with_reducible refine BlkP.Blk.alloc ?_ _) | (exact rfl)))⟩ ?_
  rintro w1 ⟨hb1, h1, h2⟩
  try rw [hs]
  clear hs
  refine wp_storeN rfl (.tmp 5) (.tmp 8) rfl rfl (n := {nz with s := (k, 0)}) rfl h2 rfl ?_
  intro w2 h3 hg2 hz2
  have H1 := Lib.hid (h1.grown hg2 (by simp))
  have HB2 := Lib.hid (show Below w.heap.size w w2 from hb1.grown hg2 (by have := hb1.size; omega) (fun q hq => by injection hq with hq; have := HS.out; omega))
  have H3 := Lib.hid h3
  have m12 : w2.cell? ⟨s + 1, 12, none⟩ = some (.int .u8 0) := h3.cell rfl
  have f12 := h3.frozen 12
  have l3 := h3.lt
  clear hb1 h1 h2 h3 hg2 hz2
  go_wp2_with ((with_reducible refine at_slot 13 ?_); refine Classical.byContradiction (fun hG => ?_))
  refine hG ?_
  clear hG
  refine list_named (S := fun W => Below w.heap.size w W ∧ Blk W s TN (vals nz) ∧ Blk W (s + 1) TN (vals (ovr k b))) ⟨by have := HS.out; (repeat' (first | (with_reducible exact Below.refl _ _) | (with_reducible refine Below.setCell ?_ (by (first | omega | (simp; done) | (simp; omega))) _) | (with_reducible refine Below.alloc ?_ (by (first | omega | (simp; done) | (simp; omega))) _) | (with_reducible refine Below.drew ?_) | (with_reducible refine below_drewN ?_ _) | (with_reducible refine Below.trans ?_ (Below.mono HB2.out (by (first | omega | (simp; done) | (simp; omega))))))), by (repeat' (first | (with_reducible exact H1.out) | (with_reducible refine BlkP.Blk.drew ?_) | (with_reducible refine BlkP.Blk.drewN ?_ _) | (with_reducible refine BlkP.Blk.setAt (us := ?_) (by first | omega | (simp; done) | (simp; omega)) rfl ?_ ?_) | (with_reducible refine BlkP.Blk.otherAt ?_ (by first | omega | (simp; done) | (simp; omega))) | (with_reducible refine BlkP.Blk.newA' (by first | omega | (simp; done) | (simp; omega)) rfl) | (with_reducible refine BlkP.Blk.alloc ?_ _) | (exact rfl))), H3.out.setTo rfl⟩ ?_
  rintro w3 ⟨hb3, h1, h2⟩
  have HB3 := Lib.hid hb3
  have H13 := Lib.hid h1
  clear m12 f12 l3 hb3 h1
  refine wp_loadN rfl (.tmp 5) rfl rfl (n := ovr k b) h2 ?_
  clear h2
  go_wp2_with ((with_reducible refine at_storeN ?_); refine Classical.byContradiction (fun hG => ?_))
  refine hG ?_
  clear hG
  refine wp_storeN rfl (.tmp 4) (.tmp 13) rfl rfl (n := ovr k b) rfl H13.out rfl ?_
  intro w4 h4 hg4 hz4
  have HB4 := Lib.hid (show Below w.heap.size w w4 from HB3.out.grown hg4 (by have := HB3.out.size; omega) (fun q hq => by injection hq with hq; have := HS.out; omega))
  have H4 := Lib.hid h4
  clear h4 hg4 hz4
  go_wp2_with fail
  refine bodyPost_ret (v := nv (ovr k b)) (results_Ni Tryd.results17 rfl H4.out) rfl ?_
  exact ⟨rfl, HB4.out⟩
set_option maxRecDepth 100000 in
set_option maxHeartbeats 8000000 in
theorem lfalls_c {w : World} {k b : Nat} (hT : KindW.Tab w) (hd : nextD (ovr k b) = [(6, (k, 0)), (0, (0, 0))]) : Calls Tryd.prog 16 #[.int .u8 (k : Int), .int .u8 (b : Int)] w fun e w' => e = .returned (.bool true) ∧ Below w.heap.size w w' := by
  have HT := Lib.hid hT
  have HD := Lib.hid hd
  clear hT hd
  go_enter Tryd.func16, Tryd.ntmps16
  go_wp2_with fail
  refine over_c.mono ?_
  rintro e w1 ⟨rfl, hb1⟩
  have HB1 := Lib.hid hb1
  clear hb1
  go_wp2_with fail
  refine (Next_c (HT.out.below HB1.out)).mono ?_
  rintro e w3 ⟨v, rfl, ho, hb3⟩
  rw [HD.out] at ho
  have HB3 := Lib.hid (below_t HB1.out hb3)
  obtain ⟨A, c, rfl, hc1, hc2, hA⟩ := ho.form (n := 2) rfl
  obtain ⟨g, rfl, hg1, hg2⟩ := hA (by omega)
  have c0 : w3.cell? ⟨g, 0, none⟩ = some (.int .i64 6) := ho.cell (i := 0) (j := 0) rfl rfl
  have c1 : w3.cell? ⟨g, 1, none⟩ = some (.int .u8 (k : Int)) := ho.cell (i := 0) (j := 1) rfl rfl
  have c2 : w3.cell? ⟨g, 2, none⟩ = some (.int .u8 0) := ho.cell (i := 0) (j := 2) rfl rfl
  have c3 : w3.cell? ⟨g, 3, none⟩ = some (.int .i64 0) := ho.cell (i := 1) (j := 0) rfl rfl
  have c4 : w3.cell? ⟨g, 4, none⟩ = some (.int .u8 0) := ho.cell (i := 1) (j := 1) rfl rfl
  have c5 : w3.cell? ⟨g, 5, none⟩ = some (.int .u8 0) := ho.cell (i := 1) (j := 2) rfl rfl
  have hgn : g ≠ w3.heap.size := by omega
  have HZ := Lib.hid (show w.heap.size ≤ w3.heap.size from HB3.out.size)
  clear ho hA hb3 hg1
  go_wp2_with fail
  go_ret
  exact ⟨by first | rfl | simp, by have := HZ.out; (repeat' (first | (with_reducible exact Below.refl _ _) | (with_reducible refine Below.setCell ?_ (by (first | omega | (simp; done) | (simp; omega))) _) | (with_reducible refine Below.alloc ?_ (by (first | omega | (simp; done) | (simp; omega))) _) | (with_reducible refine Below.drew ?_) | (with_reducible refine below_drewN ?_ _) | (with_reducible refine Below.trans ?_ (Below.mono HB3.out (by (first | omega | (simp; done) | (simp; omega)))))))⟩
set_option maxRecDepth 100000 in
set_option maxHeartbeats 8000000 in
theorem lpushes_c {w : World} {A : Option Addr} {n c m e5 : Nat} {ks : List Nat} (hT : KindW.Tab w) (hR : Rd encU w (.slice A n c) ks) (hn : ks.length = n) (h1 : n ≤ 100) (hm : row (cells ks) = (m, e5)) :
    Calls Tryd.prog 19 #[.int .i64 (m : Int), .int .i64 (e5 : Int), .slice A n c] w fun e w' => e = .returned (.bool true) ∧ Below w.heap.size w w' := by
  have HT := Lib.hid hT
  have HR := Lib.hid hR
  have HN := Lib.hid hn
  have HM := Lib.hid hm
  clear hT hR hn hm
  go_enter Tryd.func19, Tryd.ntmps19
  go_wp2_with fail
  refine (row_c HR.out HN.out h1).mono ?_
  rintro e w1 ⟨A1, c1, rfl, ho, hb1⟩
  have HO := Lib.hid ho.rd
  have HB1 := Lib.hid hb1
  clear ho hb1
  go_wp2_with fail
  refine (Row_c (HT.out.below HB1.out) HO.out (by rw [cells_len]; exact HN.out) (by omega) HM.out).mono ?_
  rintro e w2 ⟨rfl, hb2⟩
  have HB2 := Lib.hid (below_t HB1.out hb2)
  clear hb2
  go_wp2_with fail
  go_ret
  exact ⟨by first | rfl | simp, HB2.out⟩
set_option maxRecDepth 100000 in
set_option maxHeartbeats 16000000 in
theorem awake_c {w : World} (hT : KindW.Tab w) : Calls Tryd.prog 11 #[] w fun e w' => e = .returned (.bool true) ∧ Below w.heap.size w w' := by
  have HT := Lib.hid hT
  clear hT
  go_enter Tryd.func11, Tryd.ntmps11
  go_wp2_with fail
  refine (lfalls_c (k := 4) (b := 0) (HT.out.below (Below.refl w.heap.size w)) (by decide)).mono ?_
  rintro e w1 ⟨rfl, hb⟩
  have HB1 := Lib.hid (below_t (Below.refl w.heap.size w) hb)
  clear hb
  go_wp2_with fail
  refine (over_c (k := 4) (b := 2)).mono ?_
  rintro e w2 ⟨rfl, hb⟩
  have HB2 := Lib.hid (below_t HB1.out hb)
  clear hb
  go_wp2_with fail
  refine (Next_c (n := ovr 4 2) (HT.out.below HB2.out)).mono ?_
  rintro e w3 ⟨v, rfl, ho, hb⟩
  rw [show nextD (ovr 4 2) = [] from by decide] at ho
  obtain ⟨A, c, rfl, _, _, _⟩ := ho.form (n := 0) rfl
  have hfd := field_deed w3 A 0 c
  clear ho
  have HB3 := Lib.hid (below_t HB2.out hb)
  clear hb
  obtain ⟨g, hg⟩ : ∃ g, w3.heap.size = g := ⟨_, rfl⟩
  go_wp2_with fail
  refine calls_named (S := fun W => Below w.heap.size w W ∧ Blk W g TU (flat encU [2, 4, 0])) ⟨by have zz := HB3.out.size; (repeat' (first | (with_reducible exact Below.refl _ _) | (with_reducible refine Below.setCell ?_ (by (first | omega | (simp; done) | (simp; omega))) _) | (with_reducible refine Below.alloc ?_ (by (first | omega | (simp; done) | (simp; omega))) _) | (with_reducible refine Below.drew ?_) | (with_reducible refine below_drewN ?_ _) | (with_reducible refine Below.trans ?_ (Below.mono HB3.out (by (first | omega | (simp; done) | (simp; omega))))))), by subst hg; (repeat' (first | (with_reducible refine BlkP.Blk.drew ?_) | (with_reducible refine BlkP.Blk.drewN ?_ _) | (with_reducible refine BlkP.Blk.setAt (us := ?_) (by first | omega | (simp; done) | (simp; omega)) rfl ?_ ?_) | (with_reducible refine BlkP.Blk.otherAt ?_ (by first | omega | (simp; done) | (simp; omega))) | (with_reducible refine BlkP.Blk.newA' (by first | omega | (simp; done) | (simp; omega)) rfl) | (with_reducible refine BlkP.Blk.alloc ?_ _) | (exact rfl)))⟩ ?_
  rintro w4 ⟨hb, hk⟩
  try rw [hg]
  have HB4 := Lib.hid hb
  have HK := Lib.hid (rdU (n := 3) hk rfl (by omega))
  clear hb hk hg
  refine (lpushes_c (n := 3) (m := 2) (e5 := 0) (ks := [2, 4, 0]) (HT.out.below HB4.out) HK.out rfl (by omega) (by decide)).mono ?_
  rintro e w5 ⟨rfl, hb⟩
  have HB5 := Lib.hid (below_t HB4.out hb)
  clear hb
  clear HK
  obtain ⟨g, hg⟩ : ∃ g, w5.heap.size = g := ⟨_, rfl⟩
  go_wp2_with fail
  refine calls_named (S := fun W => Below w.heap.size w W ∧ Blk W g TU (flat encU [0])) ⟨by have zz := HB5.out.size; (repeat' (first | (with_reducible exact Below.refl _ _) | (with_reducible refine Below.setCell ?_ (by (first | omega | (simp; done) | (simp; omega))) _) | (with_reducible refine Below.alloc ?_ (by (first | omega | (simp; done) | (simp; omega))) _) | (with_reducible refine Below.drew ?_) | (with_reducible refine below_drewN ?_ _) | (with_reducible refine Below.trans ?_ (Below.mono HB5.out (by (first | omega | (simp; done) | (simp; omega))))))), by subst hg; (repeat' (first | (with_reducible refine BlkP.Blk.drew ?_) | (with_reducible refine BlkP.Blk.drewN ?_ _) | (with_reducible refine BlkP.Blk.setAt (us := ?_) (by first | omega | (simp; done) | (simp; omega)) rfl ?_ ?_) | (with_reducible refine BlkP.Blk.otherAt ?_ (by first | omega | (simp; done) | (simp; omega))) | (with_reducible refine BlkP.Blk.newA' (by first | omega | (simp; done) | (simp; omega)) rfl) | (with_reducible refine BlkP.Blk.alloc ?_ _) | (exact rfl)))⟩ ?_
  rintro w6 ⟨hb, hk⟩
  try rw [hg]
  have HB6 := Lib.hid hb
  have HK := Lib.hid (rdU (n := 1) hk rfl (by omega))
  clear hb hk hg
  refine (lpushes_c (n := 1) (m := 0) (e5 := 5) (ks := [0]) (HT.out.below HB6.out) HK.out rfl (by omega) (by decide)).mono ?_
  rintro e w7 ⟨rfl, hb⟩
  have HB7 := Lib.hid (below_t HB6.out hb)
  clear hb
  clear HK
  obtain ⟨g, hg⟩ : ∃ g, w7.heap.size = g := ⟨_, rfl⟩
  go_wp2_with fail
  refine calls_named (S := fun W => Below w.heap.size w W ∧ Blk W g TU (flat encU [4, 0, 14, 13, 3])) ⟨by have zz := HB7.out.size; (repeat' (first | (with_reducible exact Below.refl _ _) | (with_reducible refine Below.setCell ?_ (by (first | omega | (simp; done) | (simp; omega))) _) | (with_reducible refine Below.alloc ?_ (by (first | omega | (simp; done) | (simp; omega))) _) | (with_reducible refine Below.drew ?_) | (with_reducible refine below_drewN ?_ _) | (with_reducible refine Below.trans ?_ (Below.mono HB7.out (by (first | omega | (simp; done) | (simp; omega))))))), by subst hg; (repeat' (first | (with_reducible refine BlkP.Blk.drew ?_) | (with_reducible refine BlkP.Blk.drewN ?_ _) | (with_reducible refine BlkP.Blk.setAt (us := ?_) (by first | omega | (simp; done) | (simp; omega)) rfl ?_ ?_) | (with_reducible refine BlkP.Blk.otherAt ?_ (by first | omega | (simp; done) | (simp; omega))) | (with_reducible refine BlkP.Blk.newA' (by first | omega | (simp; done) | (simp; omega)) rfl) | (with_reducible refine BlkP.Blk.alloc ?_ _) | (exact rfl)))⟩ ?_
  rintro w8 ⟨hb, hk⟩
  try rw [hg]
  have HB8 := Lib.hid hb
  have HK := Lib.hid (rdU (n := 5) hk rfl (by omega))
  clear hb hk hg
  refine (row_c (n := 5) HK.out rfl (by omega)).mono ?_
  rintro e w9 ⟨A1, c1, rfl, ho, hb⟩
  have HO := Lib.hid ho.rd
  clear ho
  have HB9 := Lib.hid (below_t HB8.out hb)
  clear hb
  clear HK
  go_wp2_with fail
  refine (Lands_c (n := 5) (m := 3) (HT.out.below HB9.out) HO.out rfl (by omega) (by decide)).mono ?_
  rintro e w10 ⟨rfl, hb⟩
  have HB10 := Lib.hid (below_t HB9.out hb)
  clear hb
  clear HO
  go_wp2_with fail
  go_ret
  exact ⟨by first | rfl | simp, HB10.out⟩
end FallW
end Go.Proofs.YtlcnhommlcdilaaDoor
