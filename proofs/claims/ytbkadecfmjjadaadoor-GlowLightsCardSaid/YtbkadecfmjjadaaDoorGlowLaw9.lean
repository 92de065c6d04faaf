/-
  GlowLights: the light of a box is the one that the document says, or the box is refused as it says; its cells stay.
-/
import Derived.Test.YtbkadecfmjjadaaDoorGlowRef5
import Derived.Test.YtbkadecfmjjadaaDoorGlowSized
namespace Go.Proofs.YtbkadecfmjjadaaDoor
open Go.RowKit
set_option linter.unusedVariables false
set_option linter.unusedSimpArgs false
namespace GlowW
open BlkP RowG KindP KindW
theorem rd_lit {w : World} {g n : Nat} {l : List (Nat × Nat)} (h : Blk w g 37 (flat enc2 l)) (hn : n = l.length) (hn2 : n ≤ 9223372036854775807) : Rd enc2 w (.slice (some ⟨g, 0, none⟩) n n) l := by
  subst hn
  refine ⟨some ⟨g, 0, none⟩, l.length, rfl, Nat.le_refl _, hn2, fun _ => ⟨g, 0, rfl, h.lt, fun i x hx j u hu => ?_⟩⟩
  have hj : j < enc2.k := by
    rw [← enc2.len x]
    exact (List.getElem?_eq_some_iff.1 hu).1
  rw [Nat.zero_add]
  exact h.cell ((flat_get hx hj).trans hu)
theorem rd_nil {w : World} {n c : Nat} {A : Option Addr} {l : List (Nat × Nat)} (h : Rd enc2 w (.slice A n c) l) (h0 : n ≠ 0) (hn : n = l.length) : ∃ b o, A = some ⟨b, o, none⟩ := by
  obtain ⟨⟨k, q⟩, hx⟩ : ∃ x, l[0]? = some x := ⟨_, List.getElem?_eq_getElem (by omega)⟩
  obtain ⟨b, o, hA, _⟩ := rd2 h hx
  exact ⟨b, o, hA⟩
set_option maxRecDepth 100000 in
set_option maxHeartbeats 16000000 in
theorem law_lights {w : World} {X Y Z : Int} {A : Option Addr} {c : Nat} {cs : List (Nat × Nat)} (hT : Tab w) (h : Rd enc2 w (.slice A cs.length c) cs ∧ (∀ x ∈ cs, x.1 < 256 ∧ x.2 < 256) ∧ True) (hsz : cs.length * 2 ≤ 140737488355328) :
    Calls Tryd.prog 3 #[.agg #[.int .i64 X, .int .i64 Y, .int .i64 Z, .slice A cs.length c]] w (HoldsP w) := by
  have HT := Lib.hid hT
  have HR := Lib.hid h.1
  obtain ⟨n, hn⟩ : ∃ n, n = cs.length := ⟨_, rfl⟩
  have hform := h.1.form hn.symm
  rw [← hn] at HR ⊢
  have hnB : n * 2 ≤ 140737488355328 := by rw [hn]; exact hsz
  have HN := Lib.hid hn
  have hnc : n ≤ c := by
    obtain ⟨A', c', he, h1, _⟩ := hform
    injection he with _ _ h3
    rw [h3]
    exact h1
  clear hT h hn hform hsz
  by_cases hck : checkN X Y Z n = 0
  · have HCK := Lib.hid hck
    obtain ⟨x, y, z, rfl, rfl, rfl, hX, hY, hZ, hxyz, hn2⟩ := check_zero hck
    have HXYZ := Lib.hid hxyz
    have hn0 : 0 < n := by rw [← hxyz]; exact Nat.mul_pos (Nat.mul_pos (by omega) (by omega)) (by omega)
    clear hck hxyz
    by_cases hs : n ≤ 6000
    · have hnM : (n : Int) ≤ 6000 := by omega
      obtain ⟨bb, oo, rfl⟩ := rd_nil HR.out (by omega) HN.out
      have hbw : bb < w.heap.size := by
        obtain ⟨⟨kz, lz⟩, hx0⟩ : ∃ x, cs[0]? = some x := ⟨_, List.getElem?_eq_getElem (by have := HN.out; omega)⟩
        obtain ⟨b', o', hA, hlt, _⟩ := rd2 HR.out hx0
        injection hA with hA
        injection hA with hA
        omega
      go_enter Tryd.func3, Tryd.ntmps3
      go_wp2_with (go_at_call 12; refine Classical.byContradiction (fun hG => ?_))
      refine hG ?_
      clear hG
      refine (rcheck_c (by have := HCK.out; exact this)).mono ?_
      rintro e w1 ⟨rfl, hb1⟩
      have k0 : w1.cell? ⟨w.heap.size, 0, none⟩ = some (.int .i64 x) := (by (repeat' (first | (with_reducible assumption) | (with_reducible refine HeldP.c_below hb1 ?_ ?_) | (with_reducible refine HeldP.f_below hb1 ?_ ?_) | (with_reducible refine HeldP.c_drew ?_) | (with_reducible refine HeldP.c_drewN ?_) | (with_reducible refine HeldP.c_same (by omega) ?_) | (with_reducible refine HeldP.c_other ?_ ?_) | (with_reducible refine HeldP.c_new (by first | omega | (simp; done) | (simp; omega)) ?_) | (with_reducible refine HeldP.c_alloc ?_ ?_) | (with_reducible refine HeldP.e_drew ?_) | (with_reducible refine HeldP.e_drewN ?_) | (with_reducible refine HeldP.e_set ?_) | (with_reducible refine HeldP.e_new (by first | omega | (simp; done) | (simp; omega)) ⟨_, rfl⟩) | (with_reducible refine HeldP.e_alloc ?_ ?_) | (with_reducible refine HeldP.f_drew ?_) | (with_reducible refine HeldP.f_drewN ?_) | (with_reducible refine HeldP.f_set ?_) | (with_reducible refine HeldP.f_new (by first | omega | (simp; done) | (simp; omega))) | (with_reducible refine HeldP.f_alloc ?_ ?_) | (with_reducible refine HeldP.s_drew ?_) | (with_reducible refine HeldP.s_drewN ?_) | (with_reducible refine HeldP.s_set ?_) | (with_reducible refine HeldP.s_new (by first | omega | (simp; done) | (simp; omega))) | (with_reducible refine HeldP.s_alloc ?_) | (with_reducible exact ⟨_, by assumption⟩) | omega | (intro e; simp at e; done) | (intro e; simp at e; omega) | (exact rfl) | (simp; done) | (simp; omega))))
      have k1 : w1.cell? ⟨w.heap.size, 1, none⟩ = some (.int .i64 y) := (by (repeat' (first | (with_reducible assumption) | (with_reducible refine HeldP.c_below hb1 ?_ ?_) | (with_reducible refine HeldP.f_below hb1 ?_ ?_) | (with_reducible refine HeldP.c_drew ?_) | (with_reducible refine HeldP.c_drewN ?_) | (with_reducible refine HeldP.c_same (by omega) ?_) | (with_reducible refine HeldP.c_other ?_ ?_) | (with_reducible refine HeldP.c_new (by first | omega | (simp; done) | (simp; omega)) ?_) | (with_reducible refine HeldP.c_alloc ?_ ?_) | (with_reducible refine HeldP.e_drew ?_) | (with_reducible refine HeldP.e_drewN ?_) | (with_reducible refine HeldP.e_set ?_) | (with_reducible refine HeldP.e_new (by first | omega | (simp; done) | (simp; omega)) ⟨_, rfl⟩) | (with_reducible refine HeldP.e_alloc ?_ ?_) | (with_reducible refine HeldP.f_drew ?_) | (with_reducible refine HeldP.f_drewN ?_) | (with_reducible refine HeldP.f_set ?_) | (with_reducible refine HeldP.f_new (by first | omega | (simp; done) | (simp; omega))) | (with_reducible refine HeldP.f_alloc ?_ ?_) | (with_reducible refine HeldP.s_drew ?_) | (with_reducible refine HeldP.s_drewN ?_) | (with_reducible refine HeldP.s_set ?_) | (with_reducible refine HeldP.s_new (by first | omega | (simp; done) | (simp; omega))) | (with_reducible refine HeldP.s_alloc ?_) | (with_reducible exact ⟨_, by assumption⟩) | omega | (intro e; simp at e; done) | (intro e; simp at e; omega) | (exact rfl) | (simp; done) | (simp; omega))))
      have k2 : w1.cell? ⟨w.heap.size, 2, none⟩ = some (.int .i64 z) := (by (repeat' (first | (with_reducible assumption) | (with_reducible refine HeldP.c_below hb1 ?_ ?_) | (with_reducible refine HeldP.f_below hb1 ?_ ?_) | (with_reducible refine HeldP.c_drew ?_) | (with_reducible refine HeldP.c_drewN ?_) | (with_reducible refine HeldP.c_same (by omega) ?_) | (with_reducible refine HeldP.c_other ?_ ?_) | (with_reducible refine HeldP.c_new (by first | omega | (simp; done) | (simp; omega)) ?_) | (with_reducible refine HeldP.c_alloc ?_ ?_) | (with_reducible refine HeldP.e_drew ?_) | (with_reducible refine HeldP.e_drewN ?_) | (with_reducible refine HeldP.e_set ?_) | (with_reducible refine HeldP.e_new (by first | omega | (simp; done) | (simp; omega)) ⟨_, rfl⟩) | (with_reducible refine HeldP.e_alloc ?_ ?_) | (with_reducible refine HeldP.f_drew ?_) | (with_reducible refine HeldP.f_drewN ?_) | (with_reducible refine HeldP.f_set ?_) | (with_reducible refine HeldP.f_new (by first | omega | (simp; done) | (simp; omega))) | (with_reducible refine HeldP.f_alloc ?_ ?_) | (with_reducible refine HeldP.s_drew ?_) | (with_reducible refine HeldP.s_drewN ?_) | (with_reducible refine HeldP.s_set ?_) | (with_reducible refine HeldP.s_new (by first | omega | (simp; done) | (simp; omega))) | (with_reducible refine HeldP.s_alloc ?_) | (with_reducible exact ⟨_, by assumption⟩) | omega | (intro e; simp at e; done) | (intro e; simp at e; omega) | (exact rfl) | (simp; done) | (simp; omega))))
      have k3 : w1.cell? ⟨w.heap.size, 3, none⟩ = some (.slice (some ⟨bb, oo, none⟩) n c) := (by (repeat' (first | (with_reducible assumption) | (with_reducible refine HeldP.c_below hb1 ?_ ?_) | (with_reducible refine HeldP.f_below hb1 ?_ ?_) | (with_reducible refine HeldP.c_drew ?_) | (with_reducible refine HeldP.c_drewN ?_) | (with_reducible refine HeldP.c_same (by omega) ?_) | (with_reducible refine HeldP.c_other ?_ ?_) | (with_reducible refine HeldP.c_new (by first | omega | (simp; done) | (simp; omega)) ?_) | (with_reducible refine HeldP.c_alloc ?_ ?_) | (with_reducible refine HeldP.e_drew ?_) | (with_reducible refine HeldP.e_drewN ?_) | (with_reducible refine HeldP.e_set ?_) | (with_reducible refine HeldP.e_new (by first | omega | (simp; done) | (simp; omega)) ⟨_, rfl⟩) | (with_reducible refine HeldP.e_alloc ?_ ?_) | (with_reducible refine HeldP.f_drew ?_) | (with_reducible refine HeldP.f_drewN ?_) | (with_reducible refine HeldP.f_set ?_) | (with_reducible refine HeldP.f_new (by first | omega | (simp; done) | (simp; omega))) | (with_reducible refine HeldP.f_alloc ?_ ?_) | (with_reducible refine HeldP.s_drew ?_) | (with_reducible refine HeldP.s_drewN ?_) | (with_reducible refine HeldP.s_set ?_) | (with_reducible refine HeldP.s_new (by first | omega | (simp; done) | (simp; omega))) | (with_reducible refine HeldP.s_alloc ?_) | (with_reducible exact ⟨_, by assumption⟩) | omega | (intro e; simp at e; done) | (intro e; simp at e; omega) | (exact rfl) | (simp; done) | (simp; omega))))
      have HW1 := Lib.hid (show Below w.heap.size w w1 by (repeat' (first | (with_reducible exact Below.refl _ _) | (with_reducible refine Below.setCell ?_ (by (first | omega | (simp; done) | (simp; omega))) _) | (with_reducible refine Below.alloc ?_ (by (first | omega | (simp; done) | (simp; omega))) _) | (with_reducible refine Below.drew ?_) | (with_reducible refine below_drewN ?_ _) | (with_reducible refine Below.trans ?_ (Below.mono hb1 (by (first | omega | (simp; done) | (simp; omega))))))))
      have hz1 : w.heap.size < w1.heap.size := (by have h := hb1.size; simp at h; omega)
      clear hb1
      have K3o := Lib.hid k3
      go_wp2_with ((with_reducible refine at_slot 23 ?_); refine Classical.byContradiction (fun hG => ?_))
      refine hG ?_
      clear hG
      have HR1 := Lib.hid (HR.out.below HW1.out)
      refine wp_copyC rfl _ _ rfl rfl rfl HR1.out HN.out (by omega) ?_
      intro v2 w2 ho2 hb2
      obtain ⟨A2, c2, rfl, hc2, hc2m, hA2⟩ := ho2.form HN.out.symm
      obtain ⟨g2, rfl, hg2a, hg2b⟩ := hA2 (by omega)
      have HO2 := Lib.hid ho2
      have HW2 := Lib.hid (show Below w.heap.size w w2 from HW1.out.trans (hb2.mono HW1.out.size))
      replace k0 := (hb2.cell (p := ⟨w.heap.size, 0, none⟩) hz1).trans k0
      replace k1 := (hb2.cell (p := ⟨w.heap.size, 1, none⟩) hz1).trans k1
      replace k2 := (hb2.cell (p := ⟨w.heap.size, 2, none⟩) hz1).trans k2
      replace k3 := (hb2.cell (p := ⟨w.heap.size, 3, none⟩) hz1).trans k3
      have hz2 := hb2.size
      have hzw2 : w.heap.size < w2.heap.size := by omega
      have K0 := Lib.hid k0
      have K1 := Lib.hid k1
      have K2 := Lib.hid k2
      have K3 := Lib.hid k3
      clear ho2 hb2
      go_wp2_with (go_at_call 14; refine Classical.byContradiction (fun hG => ?_))
      refine hG ?_
      clear hG
      refine (light_c (HT.out.below HW2.out) HO2.out.rd HN.out hX hY hZ HXYZ.out hn2).mono ?_
      rintro e w3 ⟨g3, rfl, hg3, hge3, hb3⟩
      have HG3 := Lib.hid hg3
      have hg3l := hg3.lt
      have HO3 := Lib.hid (HO2.out.below hb3)
      have HW3 := Lib.hid (show Below w.heap.size w w3 from HW2.out.trans (hb3.mono HW2.out.size))
      have hz3 := hb3.size
      have hzw3 : w.heap.size < w3.heap.size := by omega
      replace k0 := (hb3.cell (p := ⟨w.heap.size, 0, none⟩) hzw2).trans k0
      replace k1 := (hb3.cell (p := ⟨w.heap.size, 1, none⟩) hzw2).trans k1
      replace k2 := (hb3.cell (p := ⟨w.heap.size, 2, none⟩) hzw2).trans k2
      replace k3 := (hb3.cell (p := ⟨w.heap.size, 3, none⟩) hzw2).trans k3
      have K0 := Lib.hid k0
      have K1 := Lib.hid k1
      have K2 := Lib.hid k2
      have K3 := Lib.hid k3
      have hg23 : g2 < w3.heap.size := by omega
      clear hg3 hb3
      go_wp2_with fail
      go_loopw [7] (CntM w3 n) (fun v _ => n - (intOf v).toNat)
      case atStart => exact ⟨0, rfl, by omega, Below.refl _ _⟩
      case round =>
        clear k0 k1 k2 k3
        obtain ⟨j, rfl, hj, hb⟩ := hrel
        have HB := Lib.hid hb
        have k3 := (hb.cell (p := ⟨w.heap.size, 3, none⟩) hzw3).trans K3.out
        have hzz := hb.size
        have hzr : w.heap.size < wr.heap.size := by omega
        have hg2r : g2 < wr.heap.size := by omega
        have hbr : bb < wr.heap.size := by omega
        by_cases hlt : j < n
        · have hjI : (j : Int) < n := by omega
          have hj0 : (0 : Int) ≤ (j : Int) := by omega
          obtain ⟨⟨kk, ll⟩, hx⟩ : ∃ x, cs[j]? = some x := ⟨_, List.getElem?_eq_getElem (by have := HN.out; omega)⟩
          obtain ⟨b', o', hbo, hblw, p0, p1⟩ := rd2 ((HR.out.below HW3.out).below hb) hx
          obtain ⟨rfl, rfl⟩ : bb = b' ∧ oo = o' := by injection hbo with hbo; injection hbo with e1 e2 e3; exact ⟨e1, e2⟩
          have ho := HO3.out.below hb
          have s0 : wr.cell? ⟨g2, j * 2, none⟩ = some (.int .u8 kk) := ho.cell (j := 0) hx rfl
          have s1 : wr.cell? ⟨g2, j * 2 + 1, none⟩ = some (.int .u8 ll) := ho.cell (j := 1) hx rfl
          clear hx hbo hb ho
          go_wp2_with fail
          refine wp_region_noPanic ?_
          refine wp_region_held_drew (S := fun W => Below wr.heap.size wr W) (by kernel_rfl) ((Below.refl _ wr).drew) (fun hHeld => ?_)
          refine wpAnyH_take (i := 0) (oi := ⟨some 45, _, _, _, _, _⟩) (v := .slice (some ⟨g2, 0, none⟩) n c2) rfl (by kernel_rfl) (by kernel_rfl) (by kernel_rfl) (fun _ _ _ h => h) (Or.inl ⟨by rfl, fun W hSW => by go_simp⟩) hHeld ?_
          simp only [Act.put, List.setIfInBounds_toArray, List.set_cons_zero, List.set_cons_succ]
          refine wpAnyH_take (i := 1) (oi := ⟨some 46, _, _, _, _, _⟩) (v := .int .i64 j) rfl (by kernel_rfl) (by kernel_rfl) (by kernel_rfl) (fun _ _ _ h => h) (Or.inl ⟨by rfl, fun W hSW => by go_simp⟩) hHeld ?_
          simp only [Act.put, List.setIfInBounds_toArray, List.set_cons_zero, List.set_cons_succ]
          refine wpAnyH_take (i := 2) (oi := ⟨some 47, _, _, _, _, _⟩) (v := .pointer (some ⟨g2, j * 2, none⟩)) rfl (by kernel_rfl) (by kernel_rfl) (by kernel_rfl) (fun _ _ _ h => h) (Or.inl ⟨by rfl, fun W hSW => by go_simp⟩) hHeld ?_
          simp only [Act.put, List.setIfInBounds_toArray, List.set_cons_zero, List.set_cons_succ]
          refine wpAnyH_take (i := 3) (oi := ⟨some 48, _, _, _, _, _⟩) (v := .agg #[.int .u8 kk, .int .u8 ll]) rfl (by kernel_rfl) (by kernel_rfl) (by kernel_rfl) (fun _ _ _ h => h) (Or.inl ⟨by rfl, fun W hSW => by have a0 := (hSW.cell (p := ⟨g2, j * 2, none⟩) hg2r).trans s0; have a1 := (hSW.cell (p := ⟨g2, j * 2 + 1, none⟩) hg2r).trans s1; go_simp⟩) hHeld ?_
          simp only [Act.put, List.setIfInBounds_toArray, List.set_cons_zero, List.set_cons_succ]
          refine wpAnyH_take (i := 4) (oi := ⟨some 49, _, _, _, _, _⟩) (v := .pointer (some ⟨w.heap.size, 3, none⟩)) rfl (by kernel_rfl) (by kernel_rfl) (by kernel_rfl) (fun _ _ _ h => h) (Or.inl ⟨by rfl, fun W hSW => by go_simp⟩) hHeld ?_
          simp only [Act.put, List.setIfInBounds_toArray, List.set_cons_zero, List.set_cons_succ]
          refine wpAnyH_take (i := 5) (oi := ⟨some 50, _, _, _, _, _⟩) (v := .slice (some ⟨bb, oo, none⟩) n c) rfl (by kernel_rfl) (by kernel_rfl) (by kernel_rfl) (fun _ _ _ h => h) (Or.inl ⟨by rfl, fun W hSW => by have a0 := (hSW.cell (p := ⟨w.heap.size, 3, none⟩) hzr).trans k3; go_simp⟩) hHeld ?_
          simp only [Act.put, List.setIfInBounds_toArray, List.set_cons_zero, List.set_cons_succ]
          refine wpAnyH_take (i := 6) (oi := ⟨some 51, _, _, _, _, _⟩) (v := .int .i64 j) rfl (by kernel_rfl) (by kernel_rfl) (by kernel_rfl) (fun _ _ _ h => h) (Or.inl ⟨by rfl, fun W hSW => by go_simp⟩) hHeld ?_
          simp only [Act.put, List.setIfInBounds_toArray, List.set_cons_zero, List.set_cons_succ]
          refine wpAnyH_take (i := 7) (oi := ⟨some 52, _, _, _, _, _⟩) (v := .pointer (some ⟨bb, oo + j * 2, none⟩)) rfl (by kernel_rfl) (by kernel_rfl) (by kernel_rfl) (fun _ _ _ h => h) (Or.inl ⟨by rfl, fun W hSW => by go_simp⟩) hHeld ?_
          simp only [Act.put, List.setIfInBounds_toArray, List.set_cons_zero, List.set_cons_succ]
          refine wpAnyH_take (i := 8) (oi := ⟨some 53, _, _, _, _, _⟩) (v := .agg #[.int .u8 kk, .int .u8 ll]) rfl (by kernel_rfl) (by kernel_rfl) (by kernel_rfl) (fun _ _ _ h => h) (Or.inl ⟨by rfl, fun W hSW => by have a0 := (hSW.cell (p := ⟨bb, oo + j * 2, none⟩) hbr).trans p0; have a1 := (hSW.cell (p := ⟨bb, oo + j * 2 + 1, none⟩) hbr).trans p1; go_simp⟩) hHeld ?_
          simp only [Act.put, List.setIfInBounds_toArray, List.set_cons_zero, List.set_cons_succ]
          refine wpAnyH_take (i := 9) (oi := ⟨some 54, _, _, _, _, _⟩) (v := .bool false) rfl (by kernel_rfl) (by kernel_rfl) (by kernel_rfl) (fun _ _ _ h => h) (Or.inl ⟨by rfl, fun W hSW => by go_simp⟩) hHeld ?_
          simp only [Act.put, List.setIfInBounds_toArray, List.set_cons_zero, List.set_cons_succ]
          refine wpAnyH_done (by kernel_rfl) ?_ _
          refine NoPanic.normal ?_
          go_wp2_with fail
          go_roundw
          case rel => exact ⟨j + 1, by go_num, by omega, HB.out.trans (hHeld.mono HB.out.size)⟩
          case measure => first | (simp [intOf]; done) | (simp [intOf]; omega)
        · obtain rfl : n = j := by omega
          have HG4 := Lib.hid (HG3.out.below hb)
          have HW4 := Lib.hid (show Below w.heap.size w wr from HW3.out.trans (hb.mono HW3.out.size))
          have k0 := (hb.cell (p := ⟨w.heap.size, 0, none⟩) hzw3).trans K0.out
          have k1 := (hb.cell (p := ⟨w.heap.size, 1, none⟩) hzw3).trans K1.out
          have k2 := (hb.cell (p := ⟨w.heap.size, 2, none⟩) hzw3).trans K2.out
          have hll := Lib.hid (show n = (lightA x y z cs).length by rw [lightA_len, HXYZ.out])
          clear hb
          go_wp2_with (go_at_call 15; refine Classical.byContradiction (fun hG => ?_))
          refine hG ?_
          clear hG
          refine (rlight_c hX hY hZ HXYZ.out hs (HR.out.below HW4.out) HN.out).mono ?_
          rintro e w5 ⟨v5, rfl, ho5, hb5⟩
          obtain ⟨A5, c5, rfl, hc5, _, hA5⟩ := ho5.form hll.out.symm
          obtain ⟨g5, rfl, _, hg5l⟩ := hA5 hn0
          have HO5 := Lib.hid ho5
          have HG5 := Lib.hid (HG4.out.below hb5)
          have HW5 := Lib.hid (show Below w.heap.size w w5 from HW4.out.trans (hb5.mono HW4.out.size))
          clear ho5 hb5 k0 k1 k2 k3
          go_wp2_with (go_at_call 16; refine Classical.byContradiction (fun hG => ?_))
          refine hG ?_
          clear hG
          refine (rsame_c (ls := lightA x y z cs) (rd_lit HG5.out hll.out (by omega)) HO5.out.rd hll.out (by omega)).mono ?_
          rintro e w6 ⟨rfl, hb6⟩
          have HW6 := Lib.hid (show Below w.heap.size w w6 from HW5.out.trans (hb6.mono HW5.out.size))
          clear hb6
          go_wp2_with (go_at_call 13; refine (works_c (HT.out.below HW6.out)).mono ?_; rintro e wz ⟨rfl, hbz⟩; have HBZ := Lib.hid hbz; clear hbz)
          go_ret
          exact ⟨rfl, HW6.out.trans (HBZ.out.mono HW6.out.size)⟩
    · have h1I : (6000 : Int) < n := by omega
      go_enter Tryd.func3, Tryd.ntmps3
      go_wp2_with (go_at_call 12; refine Classical.byContradiction (fun hG => ?_))
      refine hG ?_
      clear hG
      refine (rcheck_c (by have := HCK.out; exact this)).mono ?_
      rintro e w1 ⟨rfl, hb1⟩
      have k0 : w1.cell? ⟨w.heap.size, 0, none⟩ = some (.int .i64 x) := (by (repeat' (first | (with_reducible assumption) | (with_reducible refine HeldP.c_below hb1 ?_ ?_) | (with_reducible refine HeldP.f_below hb1 ?_ ?_) | (with_reducible refine HeldP.c_drew ?_) | (with_reducible refine HeldP.c_drewN ?_) | (with_reducible refine HeldP.c_same (by omega) ?_) | (with_reducible refine HeldP.c_other ?_ ?_) | (with_reducible refine HeldP.c_new (by first | omega | (simp; done) | (simp; omega)) ?_) | (with_reducible refine HeldP.c_alloc ?_ ?_) | (with_reducible refine HeldP.e_drew ?_) | (with_reducible refine HeldP.e_drewN ?_) | (with_reducible refine HeldP.e_set ?_) | (with_reducible refine HeldP.e_new (by first | omega | (simp; done) | (simp; omega)) ⟨_, rfl⟩) | (with_reducible refine HeldP.e_alloc ?_ ?_) | (with_reducible refine HeldP.f_drew ?_) | (with_reducible refine HeldP.f_drewN ?_) | (with_reducible refine HeldP.f_set ?_) | (with_reducible refine HeldP.f_new (by first | omega | (simp; done) | (simp; omega))) | (with_reducible refine HeldP.f_alloc ?_ ?_) | (with_reducible refine HeldP.s_drew ?_) | (with_reducible refine HeldP.s_drewN ?_) | (with_reducible refine HeldP.s_set ?_) | (with_reducible refine HeldP.s_new (by first | omega | (simp; done) | (simp; omega))) | (with_reducible refine HeldP.s_alloc ?_) | (with_reducible exact ⟨_, by assumption⟩) | omega | (intro e; simp at e; done) | (intro e; simp at e; omega) | (exact rfl) | (simp; done) | (simp; omega))))
      have k1 : w1.cell? ⟨w.heap.size, 1, none⟩ = some (.int .i64 y) := (by (repeat' (first | (with_reducible assumption) | (with_reducible refine HeldP.c_below hb1 ?_ ?_) | (with_reducible refine HeldP.f_below hb1 ?_ ?_) | (with_reducible refine HeldP.c_drew ?_) | (with_reducible refine HeldP.c_drewN ?_) | (with_reducible refine HeldP.c_same (by omega) ?_) | (with_reducible refine HeldP.c_other ?_ ?_) | (with_reducible refine HeldP.c_new (by first | omega | (simp; done) | (simp; omega)) ?_) | (with_reducible refine HeldP.c_alloc ?_ ?_) | (with_reducible refine HeldP.e_drew ?_) | (with_reducible refine HeldP.e_drewN ?_) | (with_reducible refine HeldP.e_set ?_) | (with_reducible refine HeldP.e_new (by first | omega | (simp; done) | (simp; omega)) ⟨_, rfl⟩) | (with_reducible refine HeldP.e_alloc ?_ ?_) | (with_reducible refine HeldP.f_drew ?_) | (with_reducible refine HeldP.f_drewN ?_) | (with_reducible refine HeldP.f_set ?_) | (with_reducible refine HeldP.f_new (by first | omega | (simp; done) | (simp; omega))) | (with_reducible refine HeldP.f_alloc ?_ ?_) | (with_reducible refine HeldP.s_drew ?_) | (with_reducible refine HeldP.s_drewN ?_) | (with_reducible refine HeldP.s_set ?_) | (with_reducible refine HeldP.s_new (by first | omega | (simp; done) | (simp; omega))) | (with_reducible refine HeldP.s_alloc ?_) | (with_reducible exact ⟨_, by assumption⟩) | omega | (intro e; simp at e; done) | (intro e; simp at e; omega) | (exact rfl) | (simp; done) | (simp; omega))))
      have k2 : w1.cell? ⟨w.heap.size, 2, none⟩ = some (.int .i64 z) := (by (repeat' (first | (with_reducible assumption) | (with_reducible refine HeldP.c_below hb1 ?_ ?_) | (with_reducible refine HeldP.f_below hb1 ?_ ?_) | (with_reducible refine HeldP.c_drew ?_) | (with_reducible refine HeldP.c_drewN ?_) | (with_reducible refine HeldP.c_same (by omega) ?_) | (with_reducible refine HeldP.c_other ?_ ?_) | (with_reducible refine HeldP.c_new (by first | omega | (simp; done) | (simp; omega)) ?_) | (with_reducible refine HeldP.c_alloc ?_ ?_) | (with_reducible refine HeldP.e_drew ?_) | (with_reducible refine HeldP.e_drewN ?_) | (with_reducible refine HeldP.e_set ?_) | (with_reducible refine HeldP.e_new (by first | omega | (simp; done) | (simp; omega)) ⟨_, rfl⟩) | (with_reducible refine HeldP.e_alloc ?_ ?_) | (with_reducible refine HeldP.f_drew ?_) | (with_reducible refine HeldP.f_drewN ?_) | (with_reducible refine HeldP.f_set ?_) | (with_reducible refine HeldP.f_new (by first | omega | (simp; done) | (simp; omega))) | (with_reducible refine HeldP.f_alloc ?_ ?_) | (with_reducible refine HeldP.s_drew ?_) | (with_reducible refine HeldP.s_drewN ?_) | (with_reducible refine HeldP.s_set ?_) | (with_reducible refine HeldP.s_new (by first | omega | (simp; done) | (simp; omega))) | (with_reducible refine HeldP.s_alloc ?_) | (with_reducible exact ⟨_, by assumption⟩) | omega | (intro e; simp at e; done) | (intro e; simp at e; omega) | (exact rfl) | (simp; done) | (simp; omega))))
      have k3 : w1.cell? ⟨w.heap.size, 3, none⟩ = some (.slice A n c) := (by (repeat' (first | (with_reducible assumption) | (with_reducible refine HeldP.c_below hb1 ?_ ?_) | (with_reducible refine HeldP.f_below hb1 ?_ ?_) | (with_reducible refine HeldP.c_drew ?_) | (with_reducible refine HeldP.c_drewN ?_) | (with_reducible refine HeldP.c_same (by omega) ?_) | (with_reducible refine HeldP.c_other ?_ ?_) | (with_reducible refine HeldP.c_new (by first | omega | (simp; done) | (simp; omega)) ?_) | (with_reducible refine HeldP.c_alloc ?_ ?_) | (with_reducible refine HeldP.e_drew ?_) | (with_reducible refine HeldP.e_drewN ?_) | (with_reducible refine HeldP.e_set ?_) | (with_reducible refine HeldP.e_new (by first | omega | (simp; done) | (simp; omega)) ⟨_, rfl⟩) | (with_reducible refine HeldP.e_alloc ?_ ?_) | (with_reducible refine HeldP.f_drew ?_) | (with_reducible refine HeldP.f_drewN ?_) | (with_reducible refine HeldP.f_set ?_) | (with_reducible refine HeldP.f_new (by first | omega | (simp; done) | (simp; omega))) | (with_reducible refine HeldP.f_alloc ?_ ?_) | (with_reducible refine HeldP.s_drew ?_) | (with_reducible refine HeldP.s_drewN ?_) | (with_reducible refine HeldP.s_set ?_) | (with_reducible refine HeldP.s_new (by first | omega | (simp; done) | (simp; omega))) | (with_reducible refine HeldP.s_alloc ?_) | (with_reducible exact ⟨_, by assumption⟩) | omega | (intro e; simp at e; done) | (intro e; simp at e; omega) | (exact rfl) | (simp; done) | (simp; omega))))
      have HW1 := Lib.hid (show Below w.heap.size w w1 by (repeat' (first | (with_reducible exact Below.refl _ _) | (with_reducible refine Below.setCell ?_ (by (first | omega | (simp; done) | (simp; omega))) _) | (with_reducible refine Below.alloc ?_ (by (first | omega | (simp; done) | (simp; omega))) _) | (with_reducible refine Below.drew ?_) | (with_reducible refine below_drewN ?_ _) | (with_reducible refine Below.trans ?_ (Below.mono hb1 (by (first | omega | (simp; done) | (simp; omega))))))))
      clear hb1
      go_wp2_with (go_at_call 13; refine (works_c (HT.out.below HW1.out)).mono ?_; rintro e wz ⟨rfl, hbz⟩; have HBZ := Lib.hid hbz; clear hbz)
      go_ret
      exact ⟨rfl, HW1.out.trans (HBZ.out.mono HW1.out.size)⟩
  · obtain ⟨r, hr⟩ : ∃ r, checkN X Y Z n = r := ⟨_, rfl⟩
    have hr0 : r ≠ 0 := by rw [← hr]; exact hck
    have HCK := Lib.hid hr
    have hrI : ((r : Int) != 0) = true := by simp; omega
    have hrE : ((r : Int) == 0) = false := by simp; omega
    clear hck hr
    go_enter Tryd.func3, Tryd.ntmps3
    go_wp2_with (go_at_call 12; refine Classical.byContradiction (fun hG => ?_))
    refine hG ?_
    clear hG
    refine (rcheck_c (by have := HCK.out; exact this)).mono ?_
    rintro e w1 ⟨rfl, hb1⟩
    have k0 : w1.cell? ⟨w.heap.size, 0, none⟩ = some (.int .i64 X) := (by (repeat' (first | (with_reducible assumption) | (with_reducible refine HeldP.c_below hb1 ?_ ?_) | (with_reducible refine HeldP.f_below hb1 ?_ ?_) | (with_reducible refine HeldP.c_drew ?_) | (with_reducible refine HeldP.c_drewN ?_) | (with_reducible refine HeldP.c_same (by omega) ?_) | (with_reducible refine HeldP.c_other ?_ ?_) | (with_reducible refine HeldP.c_new (by first | omega | (simp; done) | (simp; omega)) ?_) | (with_reducible refine HeldP.c_alloc ?_ ?_) | (with_reducible refine HeldP.e_drew ?_) | (with_reducible refine HeldP.e_drewN ?_) | (with_reducible refine HeldP.e_set ?_) | (with_reducible refine HeldP.e_new (by first | omega | (simp; done) | (simp; omega)) ⟨_, rfl⟩) | (with_reducible refine HeldP.e_alloc ?_ ?_) | (with_reducible refine HeldP.f_drew ?_) | (with_reducible refine HeldP.f_drewN ?_) | (with_reducible refine HeldP.f_set ?_) | (with_reducible refine HeldP.f_new (by first | omega | (simp; done) | (simp; omega))) | (with_reducible refine HeldP.f_alloc ?_ ?_) | (with_reducible refine HeldP.s_drew ?_) | (with_reducible refine HeldP.s_drewN ?_) | (with_reducible refine HeldP.s_set ?_) | (with_reducible refine HeldP.s_new (by first | omega | (simp; done) | (simp; omega))) | (with_reducible refine HeldP.s_alloc ?_) | (with_reducible exact ⟨_, by assumption⟩) | omega | (intro e; simp at e; done) | (intro e; simp at e; omega) | (exact rfl) | (simp; done) | (simp; omega))))
    have k1 : w1.cell? ⟨w.heap.size, 1, none⟩ = some (.int .i64 Y) := (by (repeat' (first | (with_reducible assumption) | (with_reducible refine HeldP.c_below hb1 ?_ ?_) | (with_reducible refine HeldP.f_below hb1 ?_ ?_) | (with_reducible refine HeldP.c_drew ?_) | (with_reducible refine HeldP.c_drewN ?_) | (with_reducible refine HeldP.c_same (by omega) ?_) | (with_reducible refine HeldP.c_other ?_ ?_) | (with_reducible refine HeldP.c_new (by first | omega | (simp; done) | (simp; omega)) ?_) | (with_reducible refine HeldP.c_alloc ?_ ?_) | (with_reducible refine HeldP.e_drew ?_) | (with_reducible refine HeldP.e_drewN ?_) | (with_reducible refine HeldP.e_set ?_) | (with_reducible refine HeldP.e_new (by first | omega | (simp; done) | (simp; omega)) ⟨_, rfl⟩) | (with_reducible refine HeldP.e_alloc ?_ ?_) | (with_reducible refine HeldP.f_drew ?_) | (with_reducible refine HeldP.f_drewN ?_) | (with_reducible refine HeldP.f_set ?_) | (with_reducible refine HeldP.f_new (by first | omega | (simp; done) | (simp; omega))) | (with_reducible refine HeldP.f_alloc ?_ ?_) | (with_reducible refine HeldP.s_drew ?_) | (with_reducible refine HeldP.s_drewN ?_) | (with_reducible refine HeldP.s_set ?_) | (with_reducible refine HeldP.s_new (by first | omega | (simp; done) | (simp; omega))) | (with_reducible refine HeldP.s_alloc ?_) | (with_reducible exact ⟨_, by assumption⟩) | omega | (intro e; simp at e; done) | (intro e; simp at e; omega) | (exact rfl) | (simp; done) | (simp; omega))))
    have k2 : w1.cell? ⟨w.heap.size, 2, none⟩ = some (.int .i64 Z) := (by (repeat' (first | (with_reducible assumption) | (with_reducible refine HeldP.c_below hb1 ?_ ?_) | (with_reducible refine HeldP.f_below hb1 ?_ ?_) | (with_reducible refine HeldP.c_drew ?_) | (with_reducible refine HeldP.c_drewN ?_) | (with_reducible refine HeldP.c_same (by omega) ?_) | (with_reducible refine HeldP.c_other ?_ ?_) | (with_reducible refine HeldP.c_new (by first | omega | (simp; done) | (simp; omega)) ?_) | (with_reducible refine HeldP.c_alloc ?_ ?_) | (with_reducible refine HeldP.e_drew ?_) | (with_reducible refine HeldP.e_drewN ?_) | (with_reducible refine HeldP.e_set ?_) | (with_reducible refine HeldP.e_new (by first | omega | (simp; done) | (simp; omega)) ⟨_, rfl⟩) | (with_reducible refine HeldP.e_alloc ?_ ?_) | (with_reducible refine HeldP.f_drew ?_) | (with_reducible refine HeldP.f_drewN ?_) | (with_reducible refine HeldP.f_set ?_) | (with_reducible refine HeldP.f_new (by first | omega | (simp; done) | (simp; omega))) | (with_reducible refine HeldP.f_alloc ?_ ?_) | (with_reducible refine HeldP.s_drew ?_) | (with_reducible refine HeldP.s_drewN ?_) | (with_reducible refine HeldP.s_set ?_) | (with_reducible refine HeldP.s_new (by first | omega | (simp; done) | (simp; omega))) | (with_reducible refine HeldP.s_alloc ?_) | (with_reducible exact ⟨_, by assumption⟩) | omega | (intro e; simp at e; done) | (intro e; simp at e; omega) | (exact rfl) | (simp; done) | (simp; omega))))
    have k3 : w1.cell? ⟨w.heap.size, 3, none⟩ = some (.slice A n c) := (by (repeat' (first | (with_reducible assumption) | (with_reducible refine HeldP.c_below hb1 ?_ ?_) | (with_reducible refine HeldP.f_below hb1 ?_ ?_) | (with_reducible refine HeldP.c_drew ?_) | (with_reducible refine HeldP.c_drewN ?_) | (with_reducible refine HeldP.c_same (by omega) ?_) | (with_reducible refine HeldP.c_other ?_ ?_) | (with_reducible refine HeldP.c_new (by first | omega | (simp; done) | (simp; omega)) ?_) | (with_reducible refine HeldP.c_alloc ?_ ?_) | (with_reducible refine HeldP.e_drew ?_) | (with_reducible refine HeldP.e_drewN ?_) | (with_reducible refine HeldP.e_set ?_) | (with_reducible refine HeldP.e_new (by first | omega | (simp; done) | (simp; omega)) ⟨_, rfl⟩) | (with_reducible refine HeldP.e_alloc ?_ ?_) | (with_reducible refine HeldP.f_drew ?_) | (with_reducible refine HeldP.f_drewN ?_) | (with_reducible refine HeldP.f_set ?_) | (with_reducible refine HeldP.f_new (by first | omega | (simp; done) | (simp; omega))) | (with_reducible refine HeldP.f_alloc ?_ ?_) | (with_reducible refine HeldP.s_drew ?_) | (with_reducible refine HeldP.s_drewN ?_) | (with_reducible refine HeldP.s_set ?_) | (with_reducible refine HeldP.s_new (by first | omega | (simp; done) | (simp; omega))) | (with_reducible refine HeldP.s_alloc ?_) | (with_reducible exact ⟨_, by assumption⟩) | omega | (intro e; simp at e; done) | (intro e; simp at e; omega) | (exact rfl) | (simp; done) | (simp; omega))))
    have HW1 := Lib.hid (show Below w.heap.size w w1 by (repeat' (first | (with_reducible exact Below.refl _ _) | (with_reducible refine Below.setCell ?_ (by (first | omega | (simp; done) | (simp; omega))) _) | (with_reducible refine Below.alloc ?_ (by (first | omega | (simp; done) | (simp; omega))) _) | (with_reducible refine Below.drew ?_) | (with_reducible refine below_drewN ?_ _) | (with_reducible refine Below.trans ?_ (Below.mono hb1 (by (first | omega | (simp; done) | (simp; omega))))))))
    have hz1 : w.heap.size < w1.heap.size := (by have h := hb1.size; simp at h; omega)
    clear hb1
    go_wp2_with ((with_reducible refine at_slot 23 ?_); refine Classical.byContradiction (fun hG => ?_))
    refine hG ?_
    clear hG
    have HR1 := Lib.hid (HR.out.below HW1.out)
    refine wp_copyB rfl _ _ rfl rfl rfl HR1.out HN.out hnB ?_
    intro v2 w2 ho2 hb2
    obtain ⟨A2, c2, rfl, hc2, hc2m, hA2⟩ := ho2.form HN.out.symm
    have HO2 := Lib.hid ho2
    have HA2 := Lib.hid hA2
    have HW2 := Lib.hid (show Below w.heap.size w w2 from HW1.out.trans (hb2.mono HW1.out.size))
    replace k0 := (hb2.cell (p := ⟨w.heap.size, 0, none⟩) hz1).trans k0
    replace k1 := (hb2.cell (p := ⟨w.heap.size, 1, none⟩) hz1).trans k1
    replace k2 := (hb2.cell (p := ⟨w.heap.size, 2, none⟩) hz1).trans k2
    replace k3 := (hb2.cell (p := ⟨w.heap.size, 3, none⟩) hz1).trans k3
    have hz2 := hb2.size
    have hzw2 : w.heap.size < w2.heap.size := by omega
    clear ho2 hb2 hA2
    go_wp2_with (go_at_call 14; refine Classical.byContradiction (fun hG => ?_))
    refine hG ?_
    clear hG
    refine (light_no HCK.out hr0).mono ?_
    rintro e w3 ⟨rfl, hb3⟩
    have HO3 := Lib.hid (HO2.out.below hb3)
    have HW3 := Lib.hid (show Below w.heap.size w w3 from HW2.out.trans (hb3.mono HW2.out.size))
    have hz3 := hb3.size
    have hzw3 : w.heap.size < w3.heap.size := by omega
    replace k3 := (hb3.cell (p := ⟨w.heap.size, 3, none⟩) hzw2).trans k3
    have K3 := Lib.hid k3
    clear hb3 k0 k1 k2
    go_wp2_with fail
    go_loopw [7] (CntM w3 n) (fun v _ => n - (intOf v).toNat)
    case atStart => exact ⟨0, rfl, by omega, Below.refl _ _⟩
    case round =>
      clear k3
      obtain ⟨j, rfl, hj, hb⟩ := hrel
      have HB := Lib.hid hb
      have hzz := hb.size
      have hzr : w.heap.size < wr.heap.size := by omega
      by_cases hlt : j < n
      · have hjI : (j : Int) < n := by omega
        have hj0 : (0 : Int) ≤ (j : Int) := by omega
        obtain ⟨⟨kk, ll⟩, hx⟩ : ∃ x, cs[j]? = some x := ⟨_, List.getElem?_eq_getElem (by have := HN.out; omega)⟩
        obtain ⟨bb, oo, rfl, hbr, p0, p1⟩ := rd2 ((HR.out.below HW3.out).below hb) hx
        obtain ⟨g2, rfl, _, hg2r⟩ := HA2.out (by omega)
        have ho := HO3.out.below hb
        have k3 := (hb.cell (p := ⟨w.heap.size, 3, none⟩) hzw3).trans K3.out
        have s0 : wr.cell? ⟨g2, j * 2, none⟩ = some (.int .u8 kk) := ho.cell (j := 0) hx rfl
        have s1 : wr.cell? ⟨g2, j * 2 + 1, none⟩ = some (.int .u8 ll) := ho.cell (j := 1) hx rfl
        have hg2r : g2 < wr.heap.size := World.block_lt_of_cell? wr ⟨g2, j * 2, none⟩ s0
        clear hx hb ho
        go_wp2_with fail
        refine wp_region_noPanic ?_
        refine wp_region_held_drew (S := fun W => Below wr.heap.size wr W) (by kernel_rfl) ((Below.refl _ wr).drew) (fun hHeld => ?_)
        refine wpAnyH_take (i := 0) (oi := ⟨some 45, _, _, _, _, _⟩) (v := .slice (some ⟨g2, 0, none⟩) n c2) rfl (by kernel_rfl) (by kernel_rfl) (by kernel_rfl) (fun _ _ _ h => h) (Or.inl ⟨by rfl, fun W hSW => by go_simp⟩) hHeld ?_
        simp only [Act.put, List.setIfInBounds_toArray, List.set_cons_zero, List.set_cons_succ]
        refine wpAnyH_take (i := 1) (oi := ⟨some 46, _, _, _, _, _⟩) (v := .int .i64 j) rfl (by kernel_rfl) (by kernel_rfl) (by kernel_rfl) (fun _ _ _ h => h) (Or.inl ⟨by rfl, fun W hSW => by go_simp⟩) hHeld ?_
        simp only [Act.put, List.setIfInBounds_toArray, List.set_cons_zero, List.set_cons_succ]
        refine wpAnyH_take (i := 2) (oi := ⟨some 47, _, _, _, _, _⟩) (v := .pointer (some ⟨g2, j * 2, none⟩)) rfl (by kernel_rfl) (by kernel_rfl) (by kernel_rfl) (fun _ _ _ h => h) (Or.inl ⟨by rfl, fun W hSW => by go_simp⟩) hHeld ?_
        simp only [Act.put, List.setIfInBounds_toArray, List.set_cons_zero, List.set_cons_succ]
        refine wpAnyH_take (i := 3) (oi := ⟨some 48, _, _, _, _, _⟩) (v := .agg #[.int .u8 kk, .int .u8 ll]) rfl (by kernel_rfl) (by kernel_rfl) (by kernel_rfl) (fun _ _ _ h => h) (Or.inl ⟨by rfl, fun W hSW => by have a0 := (hSW.cell (p := ⟨g2, j * 2, none⟩) hg2r).trans s0; have a1 := (hSW.cell (p := ⟨g2, j * 2 + 1, none⟩) hg2r).trans s1; go_simp⟩) hHeld ?_
        simp only [Act.put, List.setIfInBounds_toArray, List.set_cons_zero, List.set_cons_succ]
        refine wpAnyH_take (i := 4) (oi := ⟨some 49, _, _, _, _, _⟩) (v := .pointer (some ⟨w.heap.size, 3, none⟩)) rfl (by kernel_rfl) (by kernel_rfl) (by kernel_rfl) (fun _ _ _ h => h) (Or.inl ⟨by rfl, fun W hSW => by go_simp⟩) hHeld ?_
        simp only [Act.put, List.setIfInBounds_toArray, List.set_cons_zero, List.set_cons_succ]
        refine wpAnyH_take (i := 5) (oi := ⟨some 50, _, _, _, _, _⟩) (v := .slice (some ⟨bb, oo, none⟩) n c) rfl (by kernel_rfl) (by kernel_rfl) (by kernel_rfl) (fun _ _ _ h => h) (Or.inl ⟨by rfl, fun W hSW => by have a0 := (hSW.cell (p := ⟨w.heap.size, 3, none⟩) hzr).trans k3; go_simp⟩) hHeld ?_
        simp only [Act.put, List.setIfInBounds_toArray, List.set_cons_zero, List.set_cons_succ]
        refine wpAnyH_take (i := 6) (oi := ⟨some 51, _, _, _, _, _⟩) (v := .int .i64 j) rfl (by kernel_rfl) (by kernel_rfl) (by kernel_rfl) (fun _ _ _ h => h) (Or.inl ⟨by rfl, fun W hSW => by go_simp⟩) hHeld ?_
        simp only [Act.put, List.setIfInBounds_toArray, List.set_cons_zero, List.set_cons_succ]
        refine wpAnyH_take (i := 7) (oi := ⟨some 52, _, _, _, _, _⟩) (v := .pointer (some ⟨bb, oo + j * 2, none⟩)) rfl (by kernel_rfl) (by kernel_rfl) (by kernel_rfl) (fun _ _ _ h => h) (Or.inl ⟨by rfl, fun W hSW => by go_simp⟩) hHeld ?_
        simp only [Act.put, List.setIfInBounds_toArray, List.set_cons_zero, List.set_cons_succ]
        refine wpAnyH_take (i := 8) (oi := ⟨some 53, _, _, _, _, _⟩) (v := .agg #[.int .u8 kk, .int .u8 ll]) rfl (by kernel_rfl) (by kernel_rfl) (by kernel_rfl) (fun _ _ _ h => h) (Or.inl ⟨by rfl, fun W hSW => by have a0 := (hSW.cell (p := ⟨bb, oo + j * 2, none⟩) hbr).trans p0; have a1 := (hSW.cell (p := ⟨bb, oo + j * 2 + 1, none⟩) hbr).trans p1; go_simp⟩) hHeld ?_
        simp only [Act.put, List.setIfInBounds_toArray, List.set_cons_zero, List.set_cons_succ]
        refine wpAnyH_take (i := 9) (oi := ⟨some 54, _, _, _, _, _⟩) (v := .bool false) rfl (by kernel_rfl) (by kernel_rfl) (by kernel_rfl) (fun _ _ _ h => h) (Or.inl ⟨by rfl, fun W hSW => by go_simp⟩) hHeld ?_
        simp only [Act.put, List.setIfInBounds_toArray, List.set_cons_zero, List.set_cons_succ]
        refine wpAnyH_done (by kernel_rfl) ?_ _
        refine NoPanic.normal ?_
        go_wp2_with fail
        go_roundw
        case rel => exact ⟨j + 1, by go_num, by omega, HB.out.trans (hHeld.mono HB.out.size)⟩
        case measure => first | (simp [intOf]; done) | (simp [intOf]; omega)
      · obtain rfl : n = j := by omega
        have HW4 := Lib.hid (show Below w.heap.size w wr from HW3.out.trans (hb.mono HW3.out.size))
        clear hb
        go_wp2_with (go_at_call 13; refine (works_c (HT.out.below HW4.out)).mono ?_; rintro e wz ⟨rfl, hbz⟩; have HBZ := Lib.hid hbz; clear hbz)
        go_ret
        exact ⟨rfl, HW4.out.trans (HBZ.out.mono HW4.out.size)⟩
end GlowW
end Go.Proofs.YtbkadecfmjjadaaDoor
