/-
  glow.opens, lamps, skies.
-/
import Derived.Test.YtbkadecfmjjadaaDoorGlowWalks1
namespace Go.Proofs.YtbkadecfmjjadaaDoor
open Go.RowKit
set_option linter.unusedVariables false
set_option linter.unusedSimpArgs false
namespace GlowW
open BlkP RowG KindP KindW

/-- A row that the call has made whole. -/
def WholeP (w : World) (T : TypeId) (n : Nat) (vs : List Value) (e : Ending) (w' : World) : Prop := ∃ g, e = .returned (.slice (some ⟨g, 0, none⟩) n n) ∧ Blk w' g T vs ∧ w.heap.size ≤ g ∧ Below w.heap.size w w'
def openA (c : Nat × Nat) : Bool := may c.1 c.2 && clear c.1
def lampA (c : Nat × Nat) : Nat := lamp c.1 c.2
def FillRel (w : World) (T : TypeId) (g n : Nat) (F : List Value) (z : Value) (v : Value) (wr : World) : Prop := ∃ j : Nat, v = .int .i64 j ∧ j ≤ n ∧ Blk wr g T (fillV F z j) ∧ Below w.heap.size w wr
theorem infoBool : (Tryd.prog.info? 4).map (fun i => (i.zero, i.size, i.bytes)) = some (some (.bool false), 1, 1) := by kernel_rfl
theorem infoU8 : (Tryd.prog.info? 5).map (fun i => (i.zero, i.size, i.bytes)) = some (some (.int .u8 0), 1, 1) := by kernel_rfl
theorem underBools : Tryd.prog.underlying 53 = some (.slice 4) := by kernel_rfl
theorem underU8s : Tryd.prog.underlying 55 = some (.slice 5) := by kernel_rfl
theorem mk_start {w : World} {g n : Nat} {T : TypeId} {z : Value} (hg : g = w.heap.size) : Blk (w.alloc (.cells (List.replicate n z).toArray T)) g T (List.replicate n z) ∧ Below w.heap.size w (w.alloc (.cells (List.replicate n z).toArray T)) := by
  subst hg
  exact ⟨Blk.new _ _ _, (Below.refl _ _).alloc (Nat.le_refl _) _⟩
/-- The cells of an element of two bytes of a slice that is only read. -/
theorem rd2 {w : World} {A : Option Addr} {n c : Nat} {l : List (Nat × Nat)} (h : Rd enc2 w (.slice A n c) l) {i : Nat} {x y : Nat} (hx : l[i]? = some (x, y)) : ∃ b o, A = some ⟨b, o, none⟩ ∧ b < w.heap.size ∧ w.cell? ⟨b, o + i * 2, none⟩ = some (.int .u8 x) ∧ w.cell? ⟨b, o + i * 2 + 1, none⟩ = some (.int .u8 y) := by
  obtain ⟨b, o, hA, hl, hc⟩ := h.at hx
  exact ⟨b, o, hA, hl, hc 0 _ rfl, hc 1 _ rfl⟩

theorem k_clear_b {k : Nat} {b : Bool} (h : clear k = b) (w : World) (hT : Tab w) : Calls Tryd.prog 34 #[.int .u8 k] w fun e w' => e = .returned (.bool b) ∧ w = w' := h ▸ k_clear k w hT
theorem k_lamp_b {k l v : Nat} (h : lamp k l = v) (w : World) (hT : Tab w) : Calls Tryd.prog 18 #[.agg #[.int .u8 k, .int .u8 l]] w fun e w' => e = .returned (.int .u8 v) ∧ Below w.heap.size w w' := h ▸ k_lamp k l w hT
set_option maxRecDepth 100000 in
set_option maxHeartbeats 8000000 in
theorem opens_c {w : World} {A : Option Addr} {n c : Nat} {cs : List (Nat × Nat)} (hT : Tab w) (hR : Rd enc2 w (.slice A n c) cs) (hn : n = cs.length) (hl : n ≤ 1000000) :
    Calls Tryd.prog 25 #[.slice A n c] w (WholeP w 4 n (cs.map fun c => .bool (openA c))) := by
  obtain ⟨i, hi, hz, hs1, hby⟩ := info_parts infoBool
  obtain ⟨F, hF⟩ : ∃ F, (cs.map fun c => Value.bool (openA c)) = F := ⟨_, rfl⟩
  have hFl : F.length = n := by rw [← hF]; simp [hn]
  have HF := Lib.hid hF
  have HT := Lib.hid hT
  have HR := Lib.hid hR
  have HN := Lib.hid hn
  have HFL := Lib.hid hFl
  have HI := Lib.hid hi
  have HZ := Lib.hid hz
  have HS := Lib.hid hs1
  have HBY := Lib.hid (show i.bytes * n ≤ 281474976710656 by rw [hby]; omega)
  obtain ⟨g, hg⟩ : ∃ g, g = w.heap.size := ⟨_, rfl⟩
  have HG := Lib.hid hg
  have hgw : w.heap.size ≤ g := by omega
  have hn63 : n ≤ 9223372036854775807 := by omega
  rw [hF]
  clear hT hR hn hF hFl hi hz hs1 hby hg
  go_enter Tryd.func25, Tryd.ntmps25
  go_wp2_with ((with_reducible refine at_slot 8 ?_); refine Classical.byContradiction (fun hG => ?_))
  refine hG ?_
  clear hG
  refine wpList_make_row _ rfl _ _ 53 rfl 4 i (.bool false) underBools HI.out HZ.out HS.out rfl .i64 .i64 n rfl rfl HBY.out hn63 ?_
  rw [madeB]
  simp only [← HG.out]
  refine list_named (fun W => Blk W g 4 (List.replicate n (.bool false)) ∧ Below w.heap.size w W) (mk_start HG.out) ?_
  rintro w2 ⟨hd2, hb2⟩
  have HD2 := Lib.hid hd2
  have HB2 := Lib.hid hb2
  clear hd2 hb2
  go_wp2_with fail
  go_loopw [11] (FillRel w 4 g n F (.bool false)) (fun v _ => n - (intOf v).toNat)
  case atStart => exact ⟨0, rfl, by omega, by rw [fillV_zero, HFL.out]; exact HD2.out, HB2.out⟩
  case round =>
    obtain ⟨j, rfl, hj, hd, hb⟩ := hrel
    have HB := Lib.hid hb
    have HD := Lib.hid hd
    have hgl := hd.lt
    have hz0 := hb.size
    by_cases hlt : j < n
    · have hjI : (j : Int) < n := by omega
      obtain ⟨⟨k, l⟩, hx⟩ : ∃ x, cs[j]? = some x := ⟨_, List.getElem?_eq_getElem (by have := HN.out; omega)⟩
      obtain ⟨b, o, rfl, hbl, c0, c1⟩ := rd2 (HR.out.below hb) hx
      have hFj : F[j]? = some (.bool (openA (k, l))) := by rw [← HF.out, List.getElem?_map, hx]; rfl
      have HFJ := Lib.hid hFj
      have HNX := Lib.hid (fillV_set (z := .bool false) hFj)
      have r0 := hd.cell (fillV_get (f := F) (z := .bool false) (by have := HFL.out; omega))
      have f0 := hd.frozen j
      clear hd hb hx hFj
      obtain ⟨mb, hm⟩ : ∃ mb, may k l = mb := ⟨_, rfl⟩
      obtain ⟨cb, hc⟩ : ∃ cb, clear k = cb := ⟨_, rfl⟩
      have HM := Lib.hid hm
      have HC := Lib.hid hc
      have HO := Lib.hid (show openA (k, l) = (mb && cb) by rw [← hm, ← hc]; rfl)
      clear hm hc
      cases mb
      · have HTA := Lib.hid ((HT.out.below HB.out).below ((Below.refl _ wr).alloc (Nat.le_refl _) (.cells #[.int .u8 k, .int .u8 l] 32)))
        go_wp2_with fail
        refine (k_may_b HM.out _ HTA.out).mono ?_
        rintro e1 w1 ⟨rfl, hb1⟩
        have d0 : w1.cell? ⟨wr.heap.size, 0, none⟩ = some (.int .u8 k) := by (repeat' (first | (with_reducible assumption) | (with_reducible refine HeldP.c_below hb1 ?_ ?_) | (with_reducible refine HeldP.f_below hb1 ?_ ?_) | (with_reducible refine HeldP.c_drew ?_) | (with_reducible refine HeldP.c_drewN ?_) | (with_reducible refine HeldP.c_same (by omega) ?_) | (with_reducible refine HeldP.c_other ?_ ?_) | (with_reducible refine HeldP.c_new (by first | omega | (simp; done) | (simp; omega)) ?_) | (with_reducible refine HeldP.c_alloc ?_ ?_) | (with_reducible refine HeldP.e_drew ?_) | (with_reducible refine HeldP.e_drewN ?_) | (with_reducible refine HeldP.e_set ?_) | (with_reducible refine HeldP.e_new (by first | omega | (simp; done) | (simp; omega)) ⟨_, rfl⟩) | (with_reducible refine HeldP.e_alloc ?_ ?_) | (with_reducible refine HeldP.f_drew ?_) | (with_reducible refine HeldP.f_drewN ?_) | (with_reducible refine HeldP.f_set ?_) | (with_reducible refine HeldP.f_new (by first | omega | (simp; done) | (simp; omega))) | (with_reducible refine HeldP.f_alloc ?_ ?_) | (with_reducible refine HeldP.s_drew ?_) | (with_reducible refine HeldP.s_drewN ?_) | (with_reducible refine HeldP.s_set ?_) | (with_reducible refine HeldP.s_new (by first | omega | (simp; done) | (simp; omega))) | (with_reducible refine HeldP.s_alloc ?_) | (with_reducible exact ⟨_, by assumption⟩) | omega | (intro e; simp at e; done) | (intro e; simp at e; omega) | (exact rfl) | (simp; done) | (simp; omega)))
        have d1 : w1.cell? ⟨g, j, none⟩ = some (.bool false) := by (repeat' (first | (with_reducible assumption) | (with_reducible refine HeldP.c_below hb1 ?_ ?_) | (with_reducible refine HeldP.f_below hb1 ?_ ?_) | (with_reducible refine HeldP.c_drew ?_) | (with_reducible refine HeldP.c_drewN ?_) | (with_reducible refine HeldP.c_same (by omega) ?_) | (with_reducible refine HeldP.c_other ?_ ?_) | (with_reducible refine HeldP.c_new (by first | omega | (simp; done) | (simp; omega)) ?_) | (with_reducible refine HeldP.c_alloc ?_ ?_) | (with_reducible refine HeldP.e_drew ?_) | (with_reducible refine HeldP.e_drewN ?_) | (with_reducible refine HeldP.e_set ?_) | (with_reducible refine HeldP.e_new (by first | omega | (simp; done) | (simp; omega)) ⟨_, rfl⟩) | (with_reducible refine HeldP.e_alloc ?_ ?_) | (with_reducible refine HeldP.f_drew ?_) | (with_reducible refine HeldP.f_drewN ?_) | (with_reducible refine HeldP.f_set ?_) | (with_reducible refine HeldP.f_new (by first | omega | (simp; done) | (simp; omega))) | (with_reducible refine HeldP.f_alloc ?_ ?_) | (with_reducible refine HeldP.s_drew ?_) | (with_reducible refine HeldP.s_drewN ?_) | (with_reducible refine HeldP.s_set ?_) | (with_reducible refine HeldP.s_new (by first | omega | (simp; done) | (simp; omega))) | (with_reducible refine HeldP.s_alloc ?_) | (with_reducible exact ⟨_, by assumption⟩) | omega | (intro e; simp at e; done) | (intro e; simp at e; omega) | (exact rfl) | (simp; done) | (simp; omega)))
        have d2 : w1.frozen? ⟨g, j, none⟩ = false := by (repeat' (first | (with_reducible assumption) | (with_reducible refine HeldP.c_below hb1 ?_ ?_) | (with_reducible refine HeldP.f_below hb1 ?_ ?_) | (with_reducible refine HeldP.c_drew ?_) | (with_reducible refine HeldP.c_drewN ?_) | (with_reducible refine HeldP.c_same (by omega) ?_) | (with_reducible refine HeldP.c_other ?_ ?_) | (with_reducible refine HeldP.c_new (by first | omega | (simp; done) | (simp; omega)) ?_) | (with_reducible refine HeldP.c_alloc ?_ ?_) | (with_reducible refine HeldP.e_drew ?_) | (with_reducible refine HeldP.e_drewN ?_) | (with_reducible refine HeldP.e_set ?_) | (with_reducible refine HeldP.e_new (by first | omega | (simp; done) | (simp; omega)) ⟨_, rfl⟩) | (with_reducible refine HeldP.e_alloc ?_ ?_) | (with_reducible refine HeldP.f_drew ?_) | (with_reducible refine HeldP.f_drewN ?_) | (with_reducible refine HeldP.f_set ?_) | (with_reducible refine HeldP.f_new (by first | omega | (simp; done) | (simp; omega))) | (with_reducible refine HeldP.f_alloc ?_ ?_) | (with_reducible refine HeldP.s_drew ?_) | (with_reducible refine HeldP.s_drewN ?_) | (with_reducible refine HeldP.s_set ?_) | (with_reducible refine HeldP.s_new (by first | omega | (simp; done) | (simp; omega))) | (with_reducible refine HeldP.s_alloc ?_) | (with_reducible exact ⟨_, by assumption⟩) | omega | (intro e; simp at e; done) | (intro e; simp at e; omega) | (exact rfl) | (simp; done) | (simp; omega)))
        have HK1 := Lib.hid (show Below wr.heap.size wr w1 by (repeat' (first | (with_reducible exact Below.refl _ _) | (with_reducible refine Below.setCell ?_ (by (first | omega | (simp; done) | (simp; omega))) _) | (with_reducible refine Below.alloc ?_ (by (first | omega | (simp; done) | (simp; omega))) _) | (with_reducible refine Below.drew ?_) | (with_reducible refine below_drewN ?_ _) | (with_reducible refine Below.trans ?_ (Below.mono hb1 (by (first | omega | (simp; done) | (simp; omega))))))))
        clear hb1 r0 f0
        go_wp2_with fail
        go_roundw
        case rel =>
          have e := HNX.out
          rw [HO.out] at e
          refine ⟨j + 1, by go_num, by omega, ?_, ?_⟩
          · rw [← e]
            exact (HD.out.belowAt HK1.out (by omega)).set j _
          · have HBo := HB.out
            have HK := HK1.out
            (repeat' (first | (with_reducible exact Below.refl _ _) | (with_reducible refine Below.setCell ?_ (by (first | omega | (simp; done) | (simp; omega))) _) | (with_reducible refine Below.alloc ?_ (by (first | omega | (simp; done) | (simp; omega))) _) | (with_reducible refine Below.drew ?_) | (with_reducible refine below_drewN ?_ _) | (with_reducible refine Below.trans ?_ (Below.mono HBo (by (first | omega | (simp; done) | (simp; omega))))) | (with_reducible refine Below.trans ?_ (Below.mono HK (by (first | omega | (simp; done) | (simp; omega)))))))
        case measure => simp [intOf]; omega
      · have HTA := Lib.hid ((HT.out.below HB.out).below ((Below.refl _ wr).alloc (Nat.le_refl _) (.cells #[.int .u8 k, .int .u8 l] 32)))
        go_wp2_with fail
        refine (k_may_b HM.out _ HTA.out).mono ?_
        rintro e1 w1 ⟨rfl, hb1⟩
        have d0 : w1.cell? ⟨wr.heap.size, 0, none⟩ = some (.int .u8 k) := by (repeat' (first | (with_reducible assumption) | (with_reducible refine HeldP.c_below hb1 ?_ ?_) | (with_reducible refine HeldP.f_below hb1 ?_ ?_) | (with_reducible refine HeldP.c_drew ?_) | (with_reducible refine HeldP.c_drewN ?_) | (with_reducible refine HeldP.c_same (by omega) ?_) | (with_reducible refine HeldP.c_other ?_ ?_) | (with_reducible refine HeldP.c_new (by first | omega | (simp; done) | (simp; omega)) ?_) | (with_reducible refine HeldP.c_alloc ?_ ?_) | (with_reducible refine HeldP.e_drew ?_) | (with_reducible refine HeldP.e_drewN ?_) | (with_reducible refine HeldP.e_set ?_) | (with_reducible refine HeldP.e_new (by first | omega | (simp; done) | (simp; omega)) ⟨_, rfl⟩) | (with_reducible refine HeldP.e_alloc ?_ ?_) | (with_reducible refine HeldP.f_drew ?_) | (with_reducible refine HeldP.f_drewN ?_) | (with_reducible refine HeldP.f_set ?_) | (with_reducible refine HeldP.f_new (by first | omega | (simp; done) | (simp; omega))) | (with_reducible refine HeldP.f_alloc ?_ ?_) | (with_reducible refine HeldP.s_drew ?_) | (with_reducible refine HeldP.s_drewN ?_) | (with_reducible refine HeldP.s_set ?_) | (with_reducible refine HeldP.s_new (by first | omega | (simp; done) | (simp; omega))) | (with_reducible refine HeldP.s_alloc ?_) | (with_reducible exact ⟨_, by assumption⟩) | omega | (intro e; simp at e; done) | (intro e; simp at e; omega) | (exact rfl) | (simp; done) | (simp; omega)))
        have d1 : w1.cell? ⟨g, j, none⟩ = some (.bool false) := by (repeat' (first | (with_reducible assumption) | (with_reducible refine HeldP.c_below hb1 ?_ ?_) | (with_reducible refine HeldP.f_below hb1 ?_ ?_) | (with_reducible refine HeldP.c_drew ?_) | (with_reducible refine HeldP.c_drewN ?_) | (with_reducible refine HeldP.c_same (by omega) ?_) | (with_reducible refine HeldP.c_other ?_ ?_) | (with_reducible refine HeldP.c_new (by first | omega | (simp; done) | (simp; omega)) ?_) | (with_reducible refine HeldP.c_alloc ?_ ?_) | (with_reducible refine HeldP.e_drew ?_) | (with_reducible refine HeldP.e_drewN ?_) | (with_reducible refine HeldP.e_set ?_) | (with_reducible refine HeldP.e_new (by first | omega | (simp; done) | (simp; omega)) ⟨_, rfl⟩) | (with_reducible refine HeldP.e_alloc ?_ ?_) | (with_reducible refine HeldP.f_drew ?_) | (with_reducible refine HeldP.f_drewN ?_) | (with_reducible refine HeldP.f_set ?_) | (with_reducible refine HeldP.f_new (by first | omega | (simp; done) | (simp; omega))) | (with_reducible refine HeldP.f_alloc ?_ ?_) | (with_reducible refine HeldP.s_drew ?_) | (with_reducible refine HeldP.s_drewN ?_) | (with_reducible refine HeldP.s_set ?_) | (with_reducible refine HeldP.s_new (by first | omega | (simp; done) | (simp; omega))) | (with_reducible refine HeldP.s_alloc ?_) | (with_reducible exact ⟨_, by assumption⟩) | omega | (intro e; simp at e; done) | (intro e; simp at e; omega) | (exact rfl) | (simp; done) | (simp; omega)))
        have d2 : w1.frozen? ⟨g, j, none⟩ = false := by (repeat' (first | (with_reducible assumption) | (with_reducible refine HeldP.c_below hb1 ?_ ?_) | (with_reducible refine HeldP.f_below hb1 ?_ ?_) | (with_reducible refine HeldP.c_drew ?_) | (with_reducible refine HeldP.c_drewN ?_) | (with_reducible refine HeldP.c_same (by omega) ?_) | (with_reducible refine HeldP.c_other ?_ ?_) | (with_reducible refine HeldP.c_new (by first | omega | (simp; done) | (simp; omega)) ?_) | (with_reducible refine HeldP.c_alloc ?_ ?_) | (with_reducible refine HeldP.e_drew ?_) | (with_reducible refine HeldP.e_drewN ?_) | (with_reducible refine HeldP.e_set ?_) | (with_reducible refine HeldP.e_new (by first | omega | (simp; done) | (simp; omega)) ⟨_, rfl⟩) | (with_reducible refine HeldP.e_alloc ?_ ?_) | (with_reducible refine HeldP.f_drew ?_) | (with_reducible refine HeldP.f_drewN ?_) | (with_reducible refine HeldP.f_set ?_) | (with_reducible refine HeldP.f_new (by first | omega | (simp; done) | (simp; omega))) | (with_reducible refine HeldP.f_alloc ?_ ?_) | (with_reducible refine HeldP.s_drew ?_) | (with_reducible refine HeldP.s_drewN ?_) | (with_reducible refine HeldP.s_set ?_) | (with_reducible refine HeldP.s_new (by first | omega | (simp; done) | (simp; omega))) | (with_reducible refine HeldP.s_alloc ?_) | (with_reducible exact ⟨_, by assumption⟩) | omega | (intro e; simp at e; done) | (intro e; simp at e; omega) | (exact rfl) | (simp; done) | (simp; omega)))
        have HK1 := Lib.hid (show Below wr.heap.size wr w1 by (repeat' (first | (with_reducible exact Below.refl _ _) | (with_reducible refine Below.setCell ?_ (by (first | omega | (simp; done) | (simp; omega))) _) | (with_reducible refine Below.alloc ?_ (by (first | omega | (simp; done) | (simp; omega))) _) | (with_reducible refine Below.drew ?_) | (with_reducible refine below_drewN ?_ _) | (with_reducible refine Below.trans ?_ (Below.mono hb1 (by (first | omega | (simp; done) | (simp; omega))))))))
        have HT1 := Lib.hid ((HT.out.below HB.out).below HK1.out)
        clear hb1 r0 f0
        go_wp2_with (go_at_call 34; refine (k_clear_b HC.out _ HT1.out).mono ?_; rintro e2 w2 ⟨rfl, rfl⟩)
        go_roundw
        case rel =>
          have e := HNX.out
          rw [HO.out] at e
          refine ⟨j + 1, by go_num, by omega, ?_, ?_⟩
          · rw [← e]
            exact (HD.out.belowAt HK1.out (by omega)).set j _
          · have HBo := HB.out
            have HK := HK1.out
            (repeat' (first | (with_reducible exact Below.refl _ _) | (with_reducible refine Below.setCell ?_ (by (first | omega | (simp; done) | (simp; omega))) _) | (with_reducible refine Below.alloc ?_ (by (first | omega | (simp; done) | (simp; omega))) _) | (with_reducible refine Below.drew ?_) | (with_reducible refine below_drewN ?_ _) | (with_reducible refine Below.trans ?_ (Below.mono HBo (by (first | omega | (simp; done) | (simp; omega))))) | (with_reducible refine Below.trans ?_ (Below.mono HK (by (first | omega | (simp; done) | (simp; omega)))))))
        case measure => simp [intOf]; omega
    · obtain rfl : j = n := by omega
      clear hd hb
      go_wp2_with fail
      go_ret
      exact ⟨g, rfl, by have h := HD.out; rw [fillV_all (by have := HFL.out; omega)] at h; exact h, hgw, HB.out⟩
set_option maxRecDepth 100000 in
set_option maxHeartbeats 8000000 in
theorem lamps_c {w : World} {A : Option Addr} {n c : Nat} {cs : List (Nat × Nat)} (hT : Tab w) (hR : Rd enc2 w (.slice A n c) cs) (hn : n = cs.length) (hl : n ≤ 1000000) :
    Calls Tryd.prog 27 #[.slice A n c] w (WholeP w 5 n (cs.map fun c => .int .u8 (lampA c))) := by
  obtain ⟨i, hi, hz, hs1, hby⟩ := info_parts infoU8
  obtain ⟨F, hF⟩ : ∃ F, (cs.map fun c => Value.int .u8 (lampA c)) = F := ⟨_, rfl⟩
  have hFl : F.length = n := by rw [← hF]; simp [hn]
  have HF := Lib.hid hF
  have HT := Lib.hid hT
  have HR := Lib.hid hR
  have HN := Lib.hid hn
  have HFL := Lib.hid hFl
  have HI := Lib.hid hi
  have HZ := Lib.hid hz
  have HS := Lib.hid hs1
  have HBY := Lib.hid (show i.bytes * n ≤ 281474976710656 by rw [hby]; omega)
  obtain ⟨g, hg⟩ : ∃ g, g = w.heap.size := ⟨_, rfl⟩
  have HG := Lib.hid hg
  have hgw : w.heap.size ≤ g := by omega
  have hn63 : n ≤ 9223372036854775807 := by omega
  rw [hF]
  clear hT hR hn hF hFl hi hz hs1 hby hg
  go_enter Tryd.func27, Tryd.ntmps27
  go_wp2_with ((with_reducible refine at_slot 8 ?_); refine Classical.byContradiction (fun hG => ?_))
  refine hG ?_
  clear hG
  refine wpList_make_row _ rfl _ _ 55 rfl 5 i (.int .u8 0) underU8s HI.out HZ.out HS.out rfl .i64 .i64 n rfl rfl HBY.out hn63 ?_
  rw [madeB]
  simp only [← HG.out]
  refine list_named (fun W => Blk W g 5 (List.replicate n (.int .u8 0)) ∧ Below w.heap.size w W) (mk_start HG.out) ?_
  rintro w2 ⟨hd2, hb2⟩
  have HD2 := Lib.hid hd2
  have HB2 := Lib.hid hb2
  clear hd2 hb2
  go_wp2_with fail
  go_loopw [11] (FillRel w 5 g n F (.int .u8 0)) (fun v _ => n - (intOf v).toNat)
  case atStart => exact ⟨0, rfl, by omega, by rw [fillV_zero, HFL.out]; exact HD2.out, HB2.out⟩
  case round =>
    obtain ⟨j, rfl, hj, hd, hb⟩ := hrel
    have HB := Lib.hid hb
    have HD := Lib.hid hd
    have hgl := hd.lt
    have hz0 := hb.size
    by_cases hlt : j < n
    · have hjI : (j : Int) < n := by omega
      obtain ⟨⟨k, l⟩, hx⟩ : ∃ x, cs[j]? = some x := ⟨_, List.getElem?_eq_getElem (by have := HN.out; omega)⟩
      obtain ⟨b, o, rfl, hbl, c0, c1⟩ := rd2 (HR.out.below hb) hx
      have hFj : F[j]? = some (.int .u8 (lampA (k, l))) := by rw [← HF.out, List.getElem?_map, hx]; rfl
      have HFJ := Lib.hid hFj
      have HNX := Lib.hid (fillV_set (z := .int .u8 0) hFj)
      have r0 := hd.cell (fillV_get (f := F) (z := .int .u8 0) (by have := HFL.out; omega))
      have f0 := hd.frozen j
      clear hd hb hx hFj
      obtain ⟨q, hq⟩ : ∃ q, lamp k l = q := ⟨_, rfl⟩
      have HQ := Lib.hid hq
      have HO := Lib.hid (show lampA (k, l) = q from hq)
      clear hq
      have HTA := Lib.hid ((HT.out.below HB.out).below ((Below.refl _ wr).alloc (Nat.le_refl _) (.cells #[.int .u8 k, .int .u8 l] 32)))
      go_wp2_with fail
      refine (k_lamp_b HQ.out _ HTA.out).mono ?_
      rintro e1 w1 ⟨rfl, hb1⟩
      have d1 : w1.cell? ⟨g, j, none⟩ = some (.int .u8 0) := by (repeat' (first | (with_reducible assumption) | (with_reducible refine HeldP.c_below hb1 ?_ ?_) | (with_reducible refine HeldP.f_below hb1 ?_ ?_) | (with_reducible refine HeldP.c_drew ?_) | (with_reducible refine HeldP.c_drewN ?_) | (with_reducible refine HeldP.c_same (by omega) ?_) | (with_reducible refine HeldP.c_other ?_ ?_) | (with_reducible refine HeldP.c_new (by first | omega | (simp; done) | (simp; omega)) ?_) | (with_reducible refine HeldP.c_alloc ?_ ?_) | (with_reducible refine HeldP.e_drew ?_) | (with_reducible refine HeldP.e_drewN ?_) | (with_reducible refine HeldP.e_set ?_) | (with_reducible refine HeldP.e_new (by first | omega | (simp; done) | (simp; omega)) ⟨_, rfl⟩) | (with_reducible refine HeldP.e_alloc ?_ ?_) | (with_reducible refine HeldP.f_drew ?_) | (with_reducible refine HeldP.f_drewN ?_) | (with_reducible refine HeldP.f_set ?_) | (with_reducible refine HeldP.f_new (by first | omega | (simp; done) | (simp; omega))) | (with_reducible refine HeldP.f_alloc ?_ ?_) | (with_reducible refine HeldP.s_drew ?_) | (with_reducible refine HeldP.s_drewN ?_) | (with_reducible refine HeldP.s_set ?_) | (with_reducible refine HeldP.s_new (by first | omega | (simp; done) | (simp; omega))) | (with_reducible refine HeldP.s_alloc ?_) | (with_reducible exact ⟨_, by assumption⟩) | omega | (intro e; simp at e; done) | (intro e; simp at e; omega) | (exact rfl) | (simp; done) | (simp; omega)))
      have d2 : w1.frozen? ⟨g, j, none⟩ = false := by (repeat' (first | (with_reducible assumption) | (with_reducible refine HeldP.c_below hb1 ?_ ?_) | (with_reducible refine HeldP.f_below hb1 ?_ ?_) | (with_reducible refine HeldP.c_drew ?_) | (with_reducible refine HeldP.c_drewN ?_) | (with_reducible refine HeldP.c_same (by omega) ?_) | (with_reducible refine HeldP.c_other ?_ ?_) | (with_reducible refine HeldP.c_new (by first | omega | (simp; done) | (simp; omega)) ?_) | (with_reducible refine HeldP.c_alloc ?_ ?_) | (with_reducible refine HeldP.e_drew ?_) | (with_reducible refine HeldP.e_drewN ?_) | (with_reducible refine HeldP.e_set ?_) | (with_reducible refine HeldP.e_new (by first | omega | (simp; done) | (simp; omega)) ⟨_, rfl⟩) | (with_reducible refine HeldP.e_alloc ?_ ?_) | (with_reducible refine HeldP.f_drew ?_) | (with_reducible refine HeldP.f_drewN ?_) | (with_reducible refine HeldP.f_set ?_) | (with_reducible refine HeldP.f_new (by first | omega | (simp; done) | (simp; omega))) | (with_reducible refine HeldP.f_alloc ?_ ?_) | (with_reducible refine HeldP.s_drew ?_) | (with_reducible refine HeldP.s_drewN ?_) | (with_reducible refine HeldP.s_set ?_) | (with_reducible refine HeldP.s_new (by first | omega | (simp; done) | (simp; omega))) | (with_reducible refine HeldP.s_alloc ?_) | (with_reducible exact ⟨_, by assumption⟩) | omega | (intro e; simp at e; done) | (intro e; simp at e; omega) | (exact rfl) | (simp; done) | (simp; omega)))
      have HK1 := Lib.hid (show Below wr.heap.size wr w1 by (repeat' (first | (with_reducible exact Below.refl _ _) | (with_reducible refine Below.setCell ?_ (by (first | omega | (simp; done) | (simp; omega))) _) | (with_reducible refine Below.alloc ?_ (by (first | omega | (simp; done) | (simp; omega))) _) | (with_reducible refine Below.drew ?_) | (with_reducible refine below_drewN ?_ _) | (with_reducible refine Below.trans ?_ (Below.mono hb1 (by (first | omega | (simp; done) | (simp; omega))))))))
      clear hb1 r0 f0
      go_wp2_with fail
      go_roundw
      case rel =>
        have e := HNX.out
        rw [HO.out] at e
        refine ⟨j + 1, by go_num, by omega, ?_, ?_⟩
        · rw [← e]
          exact (HD.out.belowAt HK1.out (by omega)).set j _
        · have HBo := HB.out
          have HK := HK1.out
          (repeat' (first | (with_reducible exact Below.refl _ _) | (with_reducible refine Below.setCell ?_ (by (first | omega | (simp; done) | (simp; omega))) _) | (with_reducible refine Below.alloc ?_ (by (first | omega | (simp; done) | (simp; omega))) _) | (with_reducible refine Below.drew ?_) | (with_reducible refine below_drewN ?_ _) | (with_reducible refine Below.trans ?_ (Below.mono HBo (by (first | omega | (simp; done) | (simp; omega))))) | (with_reducible refine Below.trans ?_ (Below.mono HK (by (first | omega | (simp; done) | (simp; omega)))))))
      case measure => simp [intOf]; omega
    · obtain rfl : j = n := by omega
      clear hd hb
      go_wp2_with fail
      go_ret
      exact ⟨g, rfl, by have h := HD.out; rw [fillV_all (by have := HFL.out; omega)] at h; exact h, hgw, HB.out⟩

/-! ### The sky's sources -/
def backV (F : List Value) (z : Value) (j : Nat) : List Value := List.replicate j z ++ F.drop j
theorem backV_all {F : List Value} {z : Value} : backV F z F.length = List.replicate F.length z := by simp [backV]
theorem backV_zero {F : List Value} {z : Value} : backV F z 0 = F := by simp [backV]
theorem backV_set {F : List Value} {z v : Value} {j : Nat} (h : F[j]? = some v) : (backV F z (j + 1)).set j v = backV F z j := by
  have hj := (List.getElem?_eq_some_iff.1 h).1
  unfold backV
  rw [List.replicate_succ', List.append_assoc, List.set_append_right _ _ (by simp), List.length_replicate, Nat.sub_self]
  have : F.drop j = v :: F.drop (j + 1) := by
    rw [List.drop_eq_getElem_cons hj]
    congr 1
    rw [List.getElem?_eq_getElem hj] at h
    injection h
  rw [this]
  rfl
theorem backV_same {F : List Value} {z : Value} {j : Nat} (h : F[j]? = some z) : backV F z (j + 1) = backV F z j := by
  have hj := (List.getElem?_eq_some_iff.1 h).1
  have hs := backV_set (z := z) h
  rw [← hs]
  apply (List.ext_getElem? _)
  intro k
  by_cases e : k = j
  · subst e
    rw [List.getElem?_set_self (by simp [backV]; omega)]
    simp only [backV]
    rw [List.getElem?_append_left (by simp), List.getElem?_replicate, if_pos (by omega)]
  · rw [List.getElem?_set_ne (fun q => e q.symm)]
theorem backV_at {F : List Value} {z : Value} {j : Nat} : (backV F z (j + 1))[j]? = some z := by
  simp only [backV]
  rw [List.getElem?_append_left (by simp), List.getElem?_replicate, if_pos (by omega)]
theorem backV_up {F : List Value} {z : Value} {j k : Nat} (h : j ≤ k) : (backV F z j)[k]? = F[k]? := by
  simp only [backV]
  rw [List.getElem?_append_right (by simp; omega), List.length_replicate, List.getElem?_drop]
  congr 1
  omega
/-- The sky's source of a cell, by the one above. -/
theorem sky_step {S n : Nat} {cl : Nat → Bool} {i : Nat} (hS : 0 < S) : GlowP.skyO S n cl i = if cl i = true ∧ (n ≤ i + S ∨ GlowP.skyO S n cl (i + S) = 15) then 15 else 0 := by
  have up : ∀ k, i + (k + 1) * S = i + S + k * S := fun k => by rw [Nat.succ_mul]; omega
  unfold GlowP.skyO
  by_cases hi : cl i = true
  · by_cases hn : n ≤ i + S
    · rw [if_pos ((GlowP.sky_iff hS).2 ⟨hi, fun k hk => ?_⟩), if_pos ⟨hi, .inl hn⟩]
      cases k with
      | zero => simpa using hi
      | succ k => rw [up] at hk; omega
    · by_cases hu : (cl (i + S) && (List.range n).all fun k => decide (n ≤ i + S + k * S) || cl (i + S + k * S)) = true
      · have h2 := (GlowP.sky_iff hS).1 hu
        rw [if_pos ((GlowP.sky_iff hS).2 ⟨hi, fun k hk => ?_⟩), if_pos ⟨hi, .inr (if_pos hu)⟩]
        cases k with
        | zero => simpa using hi
        | succ k => rw [up] at hk ⊢; exact h2.2 k hk
      · rw [if_neg (fun q => hu ((GlowP.sky_iff hS).2 ?_)), if_neg (fun q => ?_)]
        rotate_left
        · have h2 := (GlowP.sky_iff hS).1 q
          refine ⟨?_, fun k hk => ?_⟩
          · have := h2.2 1 (by omega)
            simpa using this
          · have := h2.2 (k + 1) (by rw [up]; exact hk)
            rw [up] at this
            exact this
        · rcases q.2 with q | q
          · exact hn q
          · rw [if_neg hu] at q
            cases q
  · rw [if_neg (fun q => hi ((GlowP.sky_iff hS).1 q).1), if_neg (fun q => hi q.1)]
def skyV (S n : Nat) (cl : Nat → Bool) : List Value := (List.range n).map fun i => .int .u8 (GlowP.skyO S n cl i)
theorem skyV_get {S n : Nat} {cl : Nat → Bool} {i : Nat} (h : i < n) : (skyV S n cl)[i]? = some (.int .u8 (GlowP.skyO S n cl i)) := by simp [skyV, h]
def SkyRel (w : World) (g : Nat) (F : List Value) (n : Nat) (v : Value) (wr : World) : Prop := ∃ j : Nat, ((v = .int .i64 (-1) ∧ j = 0) ∨ ∃ m : Nat, v = .int .i64 m ∧ j = m + 1) ∧ j ≤ n ∧ Blk wr g 5 (backV F (.int .u8 0) j) ∧ Below w.heap.size w wr
theorem boolV_get {O : List Bool} {i : Nat} {b : Bool} (h : O[i]? = some b) : (O.map Value.bool)[i]? = some (.bool b) := by rw [List.getElem?_map, h]; rfl

set_option maxRecDepth 100000 in
set_option maxHeartbeats 8000000 in
theorem skies_c {w : World} {go n S : Nat} {O : List Bool} (hO : Blk w go 4 (O.map Value.bool)) (hn : n = O.length) (hn0 : 0 < n) (hl : n ≤ 1000000) (hS : 0 < S) (hS2 : S ≤ 1000000) :
    Calls Tryd.prog 26 #[.slice (some ⟨go, 0, none⟩) n n, .int .i64 S] w (WholeP w 5 n (skyV S n (fun i => O.getD i false))) := by
  obtain ⟨i, hi, hz, hs1, hby⟩ := info_parts infoU8
  obtain ⟨cl, hcl⟩ : ∃ cl : Nat → Bool, (fun i => O.getD i false) = cl := ⟨_, rfl⟩
  rw [hcl]
  have HCL := Lib.hid (show ∀ i b, O[i]? = some b → cl i = b from fun i b h => by rw [← hcl]; simp [h])
  obtain ⟨F, hF⟩ : ∃ F, skyV S n cl = F := ⟨_, rfl⟩
  have hFl : F.length = n := by rw [← hF]; simp [skyV]
  have HF := Lib.hid hF
  have HO := Lib.hid hO
  have HN := Lib.hid hn
  have HFL := Lib.hid hFl
  have HI := Lib.hid hi
  have HZ := Lib.hid hz
  have HS := Lib.hid hs1
  have HBY := Lib.hid (show i.bytes * n ≤ 281474976710656 by rw [hby]; omega)
  have hlto := hO.lt
  obtain ⟨g, hg⟩ : ∃ g, g = w.heap.size := ⟨_, rfl⟩
  have HG := Lib.hid hg
  have hgw : w.heap.size ≤ g := by omega
  have hn63 : n ≤ 9223372036854775807 := by omega
  rw [hF]
  clear hO hn hF hFl hi hz hs1 hby hg hcl
  go_enter Tryd.func26, Tryd.ntmps26
  go_wp2_with ((with_reducible refine at_slot 10 ?_); refine Classical.byContradiction (fun hG => ?_))
  refine hG ?_
  clear hG
  refine wpList_make_row _ rfl _ _ 55 rfl 5 i (.int .u8 0) underU8s HI.out HZ.out HS.out rfl .i64 .i64 n rfl rfl HBY.out hn63 ?_
  rw [madeB]
  simp only [← HG.out]
  refine list_named (fun W => Blk W g 5 (List.replicate n (.int .u8 0)) ∧ Below w.heap.size w W) (mk_start HG.out) ?_
  rintro w2 ⟨hd2, hb2⟩
  have HD2 := Lib.hid hd2
  have HB2 := Lib.hid hb2
  clear hd2 hb2
  obtain ⟨m0, hm0⟩ : ∃ m0 : Nat, (n : Int) - 1 = m0 := ⟨n - 1, by omega⟩
  have hm1 : n = m0 + 1 := by omega
  have HM1 := Lib.hid hm1
  clear hm1
  go_wp2_with fail
  clear hm0
  go_loopw [6] (SkyRel w g F n) (fun v _ => (intOf v + 1).toNat)
  case atStart => exact ⟨n, .inr ⟨m0, rfl, HM1.out⟩, Nat.le_refl _, by have h := HD2.out; rw [← HFL.out] at h ⊢; rw [backV_all]; exact h, HB2.out⟩
  case round =>
    obtain ⟨j, hj1, hj, hd, hb⟩ := hrel
    have HB := Lib.hid hb
    have HD := Lib.hid hd
    have hgl := hd.lt
    have hz0 := hb.size
    rcases hj1 with ⟨rfl, rfl⟩ | ⟨m, rfl, rfl⟩
    · clear hd hb
      go_wp2_with fail
      go_ret
      exact ⟨g, rfl, by have h := HD.out; rw [backV_zero] at h; exact h, hgw, HB.out⟩
    · have hlt : m < n := by omega
      have hjI : (m : Int) < n := by omega
      have hI0 : (0 : Int) ≤ m := by omega
      obtain ⟨ob, hob⟩ : ∃ ob, O[m]? = some ob := ⟨_, List.getElem?_eq_getElem (by have := HN.out; omega)⟩
      have hOw := HO.out.below hb
      have c0 := hOw.cell (boolV_get hob)
      have hst := sky_step (S := S) (n := n) (cl := cl) (i := m) hS
      rw [HCL.out m ob hob] at hst
      have hFm : F[m]? = some (.int .u8 (GlowP.skyO S n cl m)) := by rw [← HF.out]; exact skyV_get hlt
      have r0 := hd.cell (backV_at (F := F) (z := .int .u8 0) (j := m))
      have f0 := hd.frozen m
      obtain ⟨s, hs⟩ : ∃ s : Nat, (m : Int) + (S : Int) = s := ⟨m + S, by omega⟩
      have hsN : m + S = s := by omega
      rw [hsN] at hst
      have HST := Lib.hid hst
      have HFM := Lib.hid hFm
      have hup : s < n → wr.cell? ⟨g, s, none⟩ = some (.int .u8 (GlowP.skyO S n cl s)) := fun h => hd.cell (by rw [backV_up (by omega), ← HF.out]; exact skyV_get h)
      have HUP := Lib.hid hup
      have hsI : (s : Int) ≤ 2000000 := by omega
      have hsm : m < s := by omega
      clear hd hb hst hFm hup hOw hsN hob
      cases ob
      · have HE := Lib.hid (show GlowP.skyO S n cl m = 0 by rw [HST.out]; simp)
        go_wp2_with fail
        go_roundw
        case rel => exact ⟨m, by rcases Nat.eq_zero_or_pos m with h | h; (left; subst h; exact ⟨by go_num, rfl⟩); (right; exact ⟨m - 1, by go_num, by omega⟩), by omega, by have e : F[m]? = some (.int .u8 0) := (by have h := HFM.out; rw [HE.out] at h; exact h); rw [← backV_same e]; exact HD.out, HB.out⟩
        case measure => first | (simp [intOf]; done) | (simp [intOf]; omega)
      · by_cases hsn : n ≤ s
        · have HE := Lib.hid (show GlowP.skyO S n cl m = 15 by rw [HST.out, if_pos ⟨rfl, .inl hsn⟩])
          have hsnI : (n : Int) ≤ s := by omega
          go_wp2_with fail
          go_roundw
          case rel => exact ⟨m, by rcases Nat.eq_zero_or_pos m with h | h; (left; subst h; exact ⟨by go_num, rfl⟩); (right; exact ⟨m - 1, by go_num, by omega⟩), by omega, by have e := HFM.out; rw [HE.out] at e; rw [← backV_set e]; exact HD.out.set m _, by have HBo := HB.out; (repeat' (first | (with_reducible exact Below.refl _ _) | (with_reducible refine Below.setCell ?_ (by (first | omega | (simp; done) | (simp; omega))) _) | (with_reducible refine Below.alloc ?_ (by (first | omega | (simp; done) | (simp; omega))) _) | (with_reducible refine Below.drew ?_) | (with_reducible refine below_drewN ?_ _) | (with_reducible refine Below.trans ?_ (Below.mono HBo (by (first | omega | (simp; done) | (simp; omega)))))))⟩
          case measure => first | (simp [intOf]; done) | (simp [intOf]; omega)
        · have hsnI : (s : Int) < n := by omega
          have u0 := HUP.out (by omega)
          obtain ⟨q, hq⟩ : ∃ q, GlowP.skyO S n cl s = q := ⟨_, rfl⟩
          rw [hq] at u0
          by_cases h15 : q = 15
          · have HE := Lib.hid (show GlowP.skyO S n cl m = 15 by rw [HST.out, if_pos ⟨rfl, .inr (by rw [hq, h15])⟩])
            subst h15
            clear hq
            go_wp2_with fail
            go_roundw
            case rel => exact ⟨m, by rcases Nat.eq_zero_or_pos m with h | h; (left; subst h; exact ⟨by go_num, rfl⟩); (right; exact ⟨m - 1, by go_num, by omega⟩), by omega, by have e := HFM.out; rw [HE.out] at e; rw [← backV_set e]; exact HD.out.set m _, by have HBo := HB.out; (repeat' (first | (with_reducible exact Below.refl _ _) | (with_reducible refine Below.setCell ?_ (by (first | omega | (simp; done) | (simp; omega))) _) | (with_reducible refine Below.alloc ?_ (by (first | omega | (simp; done) | (simp; omega))) _) | (with_reducible refine Below.drew ?_) | (with_reducible refine below_drewN ?_ _) | (with_reducible refine Below.trans ?_ (Below.mono HBo (by (first | omega | (simp; done) | (simp; omega)))))))⟩
            case measure => first | (simp [intOf]; done) | (simp [intOf]; omega)
          · have HE := Lib.hid (show GlowP.skyO S n cl m = 0 by rw [HST.out, if_neg (fun h => by rcases h.2 with h | h; (exact hsn h); (exact h15 (hq ▸ h)))])
            have e15 : ((q : Int) == 15) = false := by simp; omega
            clear hq h15
            go_wp2_with fail
            go_roundw
            case rel => exact ⟨m, by rcases Nat.eq_zero_or_pos m with h | h; (left; subst h; exact ⟨by go_num, rfl⟩); (right; exact ⟨m - 1, by go_num, by omega⟩), by omega, by have e : F[m]? = some (.int .u8 0) := (by have h := HFM.out; rw [HE.out] at h; exact h); rw [← backV_same e]; exact HD.out, HB.out⟩
            case measure => first | (simp [intOf]; done) | (simp [intOf]; omega)
end GlowW
end Go.Proofs.YtbkadecfmjjadaaDoor
