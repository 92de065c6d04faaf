/-
  What is near a cell of one kind over one of another; awake: some of the chapter's answers.
-/
import Derived.Test.YtlahkmkipciiiaaDoorReactDelta
import Derived.Test.YtlahkmkipciiiaaDoorReactNext
namespace Go.Proofs.YtlahkmkipciiiaaDoor
open Go.RowKit
set_option linter.unusedVariables false
set_option linter.unusedSimpArgs false
namespace ReactW
open BlkP RowG FrS PushG CellsW NearW BurnP BurnW ReactP DeedW

def ovr (k b : Nat) : Nr := {nz with s := (k, 0), sd := upd nz.sd 5 (b, 0)}
theorem field_dd (w : World) (A : Option Addr) (n c : Nat) (ag dl : Int) : (Instr.field TD (.agg #[.slice A n c, .int .i64 ag, .int .i64 dl]) 0).run Tryd.prog w = .ok (.slice A n c) w := by kernel_rfl
set_option maxRecDepth 100000 in
set_option maxHeartbeats 8000000 in
theorem over15_c {w : World} {k b : Nat} : Calls Tryd.prog 18 #[.int .u8 (k : Int), .int .u8 (b : Int)] w fun e w' => e = .returned (nv (ovr k b)) ∧ Below w.heap.size w w' := by
  obtain ⟨s, hs⟩ : ∃ s, w.heap.size = s := ⟨_, rfl⟩
  have HS := Lib.hid hs
  go_enter Tryd.func18, Tryd.ntmps18
  go_wp2_with ((with_reducible refine at_storeN ?_); refine Classical.byContradiction (fun hG => ?_))
  refine hG ?_
  clear hG
  refine list_named (S := fun W => Below w.heap.size w W ∧ Blk W s TN (vals nz) ∧ Blk W (s + 1) TN (vals nz)) ⟨by (repeat' (first | (with_reducible exact Below.refl _ _) | (with_reducible refine Below.setCell ?_ (by (first | omega | (simp; done) | (simp; omega))) _) | (with_reducible refine Below.alloc ?_ (by (first | omega | (simp; done) | (simp; omega))) _) | (with_reducible refine Below.drew ?_) | (with_reducible refine below_drewN ?_ _))), by subst hs; (repeat' (first | (with_reducible refine BlkP.Blk.drew ?_) | (with_reducible refine BlkP.Blk.drewN ?_ _) | (with_reducible refine BlkP.Blk.setAt (us := ?_) (by first | omega | (simp; done) | (simp; omega)) rfl ?_ ?_) | (with_reducible refine BlkP.Blk.otherAt ?_ (by first | omega | (simp; done) | (simp; omega))) | (with_reducible refine BlkP.Blk.newA' (by first | omega | (simp; done) | (simp; omega)) rfl) | (with_reducible refine BlkP.Blk.alloc ?_ _) | (exact rfl))), by subst hs; (repeat' (first | (with_reducible refine BlkP.Blk.drew ?_) | (with_reducible refine BlkP.Blk.drewN ?_ _) | (with_reducible refine BlkP.Blk.setAt (us := ?_) (by first | omega | (simp; done) | (simp; omega)) rfl ?_ ?_) | (with_reducible refine BlkP.Blk.otherAt ?_ (by first | omega | (simp; done) | (simp; omega))) | (with_reducible refine BlkP.Blk.newA' (by first | omega | (simp; done) | (simp; omega)) rfl) | (with_reducible refine BlkP.Blk.alloc ?_ _) | (exact rfl)))⟩ ?_
  rintro w1 ⟨hb1, h1, h2⟩
  try rw [hs]
  clear hs
  refine wp_storeN rfl (.tmp 5) (.tmp 8) rfl rfl (n := {nz with s := (k, 0)}) rfl h2 rfl ?_
  intro w2 h3 hg2 hz2
  have H1 := Lib.hid (h1.grown hg2 (by simp))
  have HB2 := Lib.hid (show Below w.heap.size w w2 from hb1.grown hg2 (by have := hb1.size; omega) (fun q hq => by injection hq with hq; have := HS.out; omega))
  have H3 := Lib.hid h3
  have m12 : w2.cell? ⟨s + 1, 12, none⟩ = some (.int .u8 0) := h3.cell rfl
  have f12 := h3.frozen 12
  have l3 := h3.lt
  clear hb1 h1 h2 h3 hg2 hz2
  go_wp2_with ((with_reducible refine at_slot 13 ?_); refine Classical.byContradiction (fun hG => ?_))
  refine hG ?_
  clear hG
  refine list_named (S := fun W => Below w.heap.size w W ∧ Blk W s TN (vals nz) ∧ Blk W (s + 1) TN (vals (ovr k b))) ⟨by have := HS.out; (repeat' (first | (with_reducible exact Below.refl _ _) | (with_reducible refine Below.setCell ?_ (by (first | omega | (simp; done) | (simp; omega))) _) | (with_reducible refine Below.alloc ?_ (by (first | omega | (simp; done) | (simp; omega))) _) | (with_reducible refine Below.drew ?_) | (with_reducible refine below_drewN ?_ _) | (with_reducible refine Below.trans ?_ (Below.mono HB2.out (by (first | omega | (simp; done) | (simp; omega))))))), by (repeat' (first | (with_reducible exact H1.out) | (with_reducible refine BlkP.Blk.drew ?_) | (with_reducible refine BlkP.Blk.drewN ?_ _) | (with_reducible refine BlkP.Blk.setAt (us := ?_) (by first | omega | (simp; done) | (simp; omega)) rfl ?_ ?_) | (with_reducible refine BlkP.Blk.otherAt ?_ (by first | omega | (simp; done) | (simp; omega))) | (with_reducible refine BlkP.Blk.newA' (by first | omega | (simp; done) | (simp; omega)) rfl) | (with_reducible refine BlkP.Blk.alloc ?_ _) | (exact rfl))), H3.out.setTo rfl⟩ ?_
  rintro w3 ⟨hb3, h1, h2⟩
  have HB3 := Lib.hid hb3
  have H13 := Lib.hid h1
  clear m12 f12 l3 hb3 h1
  refine wp_loadN rfl (.tmp 5) rfl rfl (n := ovr k b) h2 ?_
  clear h2
  go_wp2_with ((with_reducible refine at_storeN ?_); refine Classical.byContradiction (fun hG => ?_))
  refine hG ?_
  clear hG
  refine wp_storeN rfl (.tmp 4) (.tmp 13) rfl rfl (n := ovr k b) rfl H13.out rfl ?_
  intro w4 h4 hg4 hz4
  have HB4 := Lib.hid (show Below w.heap.size w w4 from HB3.out.grown hg4 (by have := HB3.out.size; omega) (fun q hq => by injection hq with hq; have := HS.out; omega))
  have H4 := Lib.hid h4
  clear h4 hg4 hz4
  go_wp2_with fail
  refine bodyPost_ret (v := nv (ovr k b)) (results_NT Tryd.results18 rfl H4.out) rfl ?_
  exact ⟨rfl, HB4.out⟩
def deed40 : Dd := ⟨[(6, (4, 0)), (0, (0, 0))], 0, 0⟩
theorem ndeed40 : ndeed (ovr 4 0) 0 = deed40 := by rfl
def near40 : Nr := {nz with sd := upd nz.sd 5 (4, 0)}
theorem behind40 : nv (behind (ovr 4 0) (zl deed40.l)) = nv near40 := by rfl
theorem delta06 : delta (ovr 0 0) [(6, (2, 0))] = 1 := by decide
set_option maxRecDepth 100000 in
set_option maxHeartbeats 16000000 in
theorem awake15_c {w : World} (hT : KindW.Tab w) : Calls Tryd.prog 13 #[] w fun e w' => e = .returned (.bool true) ∧ Below w.heap.size w w' := by
  have HT := Lib.hid hT
  clear hT
  go_enter Tryd.func13, Tryd.ntmps13
  go_wp2_with fail
  refine (over15_c (k := 4) (b := 0)).mono ?_
  rintro e w1 ⟨rfl, hb⟩
  have HB1 := Lib.hid hb
  clear hb
  obtain ⟨a, ha⟩ : ∃ a, w1.heap.size = a := ⟨_, rfl⟩
  go_wp2_with ((with_reducible refine at_storeN ?_); refine Classical.byContradiction (fun hG => ?_))
  refine hG ?_
  clear hG
  refine list_named (S := fun W => Below w.heap.size w W ∧ Blk W a TN (vals nz)) ⟨by have := HB1.out.size; (repeat' (first | (with_reducible exact Below.refl _ _) | (with_reducible refine Below.setCell ?_ (by (first | omega | (simp; done) | (simp; omega))) _) | (with_reducible refine Below.alloc ?_ (by (first | omega | (simp; done) | (simp; omega))) _) | (with_reducible refine Below.drew ?_) | (with_reducible refine below_drewN ?_ _) | (with_reducible refine Below.trans ?_ (Below.mono HB1.out (by (first | omega | (simp; done) | (simp; omega))))))), by subst ha; (repeat' (first | (with_reducible refine BlkP.Blk.drew ?_) | (with_reducible refine BlkP.Blk.drewN ?_ _) | (with_reducible refine BlkP.Blk.setAt (us := ?_) (by first | omega | (simp; done) | (simp; omega)) rfl ?_ ?_) | (with_reducible refine BlkP.Blk.otherAt ?_ (by first | omega | (simp; done) | (simp; omega))) | (with_reducible refine BlkP.Blk.newA' (by first | omega | (simp; done) | (simp; omega)) rfl) | (with_reducible refine BlkP.Blk.alloc ?_ _) | (exact rfl)))⟩ ?_
  rintro w2 ⟨hb2, hn2⟩
  try rw [ha]
  have hwa : w.heap.size ≤ a := by have := HB1.out.size; omega
  refine wp_storeN rfl (.tmp 1) (.tmp 4) rfl rfl (n := ovr 4 0) rfl hn2 rfl ?_
  intro w3 hn3 hg3 hz3
  have HB3 := Lib.hid (show Below w.heap.size w w3 from hb2.grown hg3 hb2.size (fun q hq => by injection hq with hq; omega))
  have H3 := Lib.hid hn3
  have HWA := Lib.hid hwa
  clear hb2 hn2 hn3 hg3 hz3 ha
  go_wp2_with ((with_reducible refine at_slot 5 ?_); refine Classical.byContradiction (fun hG => ?_))
  refine hG ?_
  clear hG
  refine wp_loadN rfl (.tmp 1) rfl rfl (n := ovr 4 0) H3.out ?_
  go_wp2_with fail
  refine (Next_q (n := ovr 4 0) (d := 0) (D := deed40) (HT.out.below HB3.out) (by decide) rfl (by omega) ndeed40).mono ?_
  rintro e w4 ⟨v, rfl, ho, hb4⟩
  obtain ⟨A1, c1, rfl, hc1, hc2, hA⟩ := ho.form (n := 2) rfl
  obtain ⟨g, rfl, hg1, hg2⟩ := hA (by omega)
  have HB4 := Lib.hid (below_t HB3.out hb4)
  have H4 := Lib.hid (H3.out.below hb4)
  have HO4 := Lib.hid (rd_z ho.rd)
  obtain ⟨dd, hdd⟩ : ∃ d, w4.heap.size = d := ⟨_, rfl⟩
  clear hb4 ho hA hwa
  go_wp2_with ((with_reducible refine at_slot 7 ?_); refine Classical.byContradiction (fun hG => ?_))
  refine hG ?_
  clear hG
  refine list_named (S := fun W => Below w.heap.size w W ∧ Blk W a TN (vals (ovr 4 0)) ∧ Rd encZ W (.slice (some ⟨g, 0, none⟩) 2 c1) (zl deed40.l) ∧ Blk W dd TD [.slice (some ⟨g, 0, none⟩) 2 c1, .int .i64 0, .int .i64 0]) ⟨by have := HB4.out.size; (repeat' (first | (with_reducible exact Below.refl _ _) | (with_reducible refine Below.setCell ?_ (by (first | omega | (simp; done) | (simp; omega))) _) | (with_reducible refine Below.alloc ?_ (by (first | omega | (simp; done) | (simp; omega))) _) | (with_reducible refine Below.drew ?_) | (with_reducible refine below_drewN ?_ _) | (with_reducible refine Below.trans ?_ (Below.mono HB4.out (by (first | omega | (simp; done) | (simp; omega))))))), by (repeat' (first | (with_reducible exact H4.out) | (with_reducible refine BlkP.Blk.drew ?_) | (with_reducible refine BlkP.Blk.drewN ?_ _) | (with_reducible refine BlkP.Blk.setAt (us := ?_) (by first | omega | (simp; done) | (simp; omega)) rfl ?_ ?_) | (with_reducible refine BlkP.Blk.otherAt ?_ (by first | omega | (simp; done) | (simp; omega))) | (with_reducible refine BlkP.Blk.newA' (by first | omega | (simp; done) | (simp; omega)) rfl) | (with_reducible refine BlkP.Blk.alloc ?_ _) | (exact rfl))), HO4.out.below (by (repeat' (first | (with_reducible exact Below.refl _ _) | (with_reducible refine Below.setCell ?_ (by (first | omega | (simp; done) | (simp; omega))) _) | (with_reducible refine Below.alloc ?_ (by (first | omega | (simp; done) | (simp; omega))) _) | (with_reducible refine Below.drew ?_) | (with_reducible refine below_drewN ?_ _)))), by subst hdd; (repeat' (first | (with_reducible refine BlkP.Blk.drew ?_) | (with_reducible refine BlkP.Blk.drewN ?_ _) | (with_reducible refine BlkP.Blk.setAt (us := ?_) (by first | omega | (simp; done) | (simp; omega)) rfl ?_ ?_) | (with_reducible refine BlkP.Blk.otherAt ?_ (by first | omega | (simp; done) | (simp; omega))) | (with_reducible refine BlkP.Blk.newA' (by first | omega | (simp; done) | (simp; omega)) rfl) | (with_reducible refine BlkP.Blk.alloc ?_ _) | (exact rfl)))⟩ ?_
  rintro w5 ⟨hb5, h5, ho5, hd5⟩
  try rw [hdd]
  have HB5 := Lib.hid hb5
  have H5 := Lib.hid h5
  have HO5 := Lib.hid ho5
  have HD5 := Lib.hid hd5
  have d0 := hd5.cell (i := 0) rfl
  have d1 := hd5.cell (i := 1) rfl
  have d2 := hd5.cell (i := 2) rfl
  have ld := hd5.lt
  clear hb5 h5 ho5 hd5 hdd
  refine wp_loadN rfl (.tmp 1) rfl rfl (n := ovr 4 0) H5.out ?_
  go_wp2_with fail
  refine (Behind_c (L := zl deed40.l) HO5.out rfl (by omega)).mono ?_
  rw [behind40]
  rintro e w6 ⟨rfl, hb6⟩
  have HB6 := Lib.hid (below_t HB5.out hb6)
  have HD6 := Lib.hid (HD5.out.below hb6)
  obtain ⟨b, hbb⟩ : ∃ b, w6.heap.size = b := ⟨_, rfl⟩
  clear hb6 d0 d1 d2 ld
  go_wp2_with ((with_reducible refine at_storeN ?_); refine Classical.byContradiction (fun hG => ?_))
  refine hG ?_
  clear hG
  refine list_named (S := fun W => Below w.heap.size w W ∧ Blk W dd TD [.slice (some ⟨g, 0, none⟩) 2 c1, .int .i64 0, .int .i64 0] ∧ Blk W b TN (vals nz)) ⟨by have := HB6.out.size; (repeat' (first | (with_reducible exact Below.refl _ _) | (with_reducible refine Below.setCell ?_ (by (first | omega | (simp; done) | (simp; omega))) _) | (with_reducible refine Below.alloc ?_ (by (first | omega | (simp; done) | (simp; omega))) _) | (with_reducible refine Below.drew ?_) | (with_reducible refine below_drewN ?_ _) | (with_reducible refine Below.trans ?_ (Below.mono HB6.out (by (first | omega | (simp; done) | (simp; omega))))))), by (repeat' (first | (with_reducible exact HD6.out) | (with_reducible refine BlkP.Blk.drew ?_) | (with_reducible refine BlkP.Blk.drewN ?_ _) | (with_reducible refine BlkP.Blk.setAt (us := ?_) (by first | omega | (simp; done) | (simp; omega)) rfl ?_ ?_) | (with_reducible refine BlkP.Blk.otherAt ?_ (by first | omega | (simp; done) | (simp; omega))) | (with_reducible refine BlkP.Blk.newA' (by first | omega | (simp; done) | (simp; omega)) rfl) | (with_reducible refine BlkP.Blk.alloc ?_ _) | (exact rfl))), by subst hbb; (repeat' (first | (with_reducible refine BlkP.Blk.drew ?_) | (with_reducible refine BlkP.Blk.drewN ?_ _) | (with_reducible refine BlkP.Blk.setAt (us := ?_) (by first | omega | (simp; done) | (simp; omega)) rfl ?_ ?_) | (with_reducible refine BlkP.Blk.otherAt ?_ (by first | omega | (simp; done) | (simp; omega))) | (with_reducible refine BlkP.Blk.newA' (by first | omega | (simp; done) | (simp; omega)) rfl) | (with_reducible refine BlkP.Blk.alloc ?_ _) | (exact rfl)))⟩ ?_
  rintro w7 ⟨hb7, hd7, hn7⟩
  try rw [hbb]
  have hsb : w.heap.size ≤ b ∧ dd < b := ⟨by have := HB6.out.size; omega, by have := HD6.out.lt; omega⟩
  refine wp_storeN rfl (.tmp 3) (.tmp 9) rfl rfl (n := near40) rfl hn7 rfl ?_
  intro w8 hm8 hg8 hz8
  have HB8 := Lib.hid (show Below w.heap.size w w8 from hb7.grown hg8 hb7.size (fun q hq => by injection hq with hq; omega))
  have HD8 := Lib.hid (hd7.grown hg8 (fun q => by injection q with q; omega))
  have HM8 := Lib.hid hm8
  clear hb7 hd7 hn7 hm8 hg8 hz8 hbb hsb
  go_wp2_with fail
  refine (Delay_c (k := 13) (d := 2) (by omega) (by decide)).mono ?_
  rintro e w9 ⟨rfl, hb9⟩
  have HB9 := Lib.hid (below_t HB8.out hb9)
  have d0 := (HD8.out.below hb9).cell (i := 0) rfl
  have ld := (HD8.out.below hb9).lt
  have m0 : w9.cell? ⟨b, 0, none⟩ = some (.int .u8 0) := (HM8.out.below hb9).cell (i := 0) rfl
  have m1 : w9.cell? ⟨b, 1, none⟩ = some (.int .u8 0) := (HM8.out.below hb9).cell (i := 1) rfl
  have m12 : w9.cell? ⟨b, 12, none⟩ = some (.int .u8 4) := (HM8.out.below hb9).cell (i := 12) rfl
  have m13 : w9.cell? ⟨b, 13, none⟩ = some (.int .u8 0) := (HM8.out.below hb9).cell (i := 13) rfl
  have lm := (HM8.out.below hb9).lt
  clear hb9
  go_wp2_with fail
  refine (over15_c (k := 0) (b := 0)).mono ?_
  rintro e w10 ⟨rfl, hb10⟩
  have HB10 := Lib.hid (below_t HB9.out hb10)
  obtain ⟨x, hx⟩ : ∃ b, w10.heap.size = b := ⟨_, rfl⟩
  clear hb10 d0 ld m0 m1 m12 m13 lm
  go_wp2_with fail
  refine calls_named (S := fun W => Below w.heap.size w W ∧ Blk W x TX [.int .i64 6, .int .u8 2, .int .u8 0]) ⟨by have := HB10.out.size; (repeat' (first | (with_reducible exact Below.refl _ _) | (with_reducible refine Below.setCell ?_ (by (first | omega | (simp; done) | (simp; omega))) _) | (with_reducible refine Below.alloc ?_ (by (first | omega | (simp; done) | (simp; omega))) _) | (with_reducible refine Below.drew ?_) | (with_reducible refine below_drewN ?_ _) | (with_reducible refine Below.trans ?_ (Below.mono HB10.out (by (first | omega | (simp; done) | (simp; omega))))))), by subst hx; (repeat' (first | (with_reducible refine BlkP.Blk.drew ?_) | (with_reducible refine BlkP.Blk.drewN ?_ _) | (with_reducible refine BlkP.Blk.setAt (us := ?_) (by first | omega | (simp; done) | (simp; omega)) rfl ?_ ?_) | (with_reducible refine BlkP.Blk.otherAt ?_ (by first | omega | (simp; done) | (simp; omega))) | (with_reducible refine BlkP.Blk.newA' (by first | omega | (simp; done) | (simp; omega)) rfl) | (with_reducible refine BlkP.Blk.alloc ?_ _) | (exact rfl)))⟩ ?_
  rintro w11 ⟨hb11, hx11⟩
  try rw [hx]
  have HB11 := Lib.hid hb11
  have HX11 := Lib.hid (rd_z (l := [(6, (2, 0))]) (own_lit (B := 0) (E := TX) (e := encX) (l := [(6, (2, 0))]) (n := 1) hx11 (by omega) rfl (by omega)).rd)
  clear hb11 hx11 hx
  refine (Delta_c (L := [(6, (2, 0))]) (x := 1) (HT.out.below HB11.out) HX11.out rfl (by omega) delta06).mono ?_
  rintro e w12 ⟨rfl, hb12⟩
  have HB12 := Lib.hid (below_t HB11.out hb12)
  clear hb12
  go_wp2_with fail
  go_ret
  exact ⟨by first | rfl | simp, HB12.out⟩
end ReactW
end Go.Proofs.YtlahkmkipciiiaaDoor
