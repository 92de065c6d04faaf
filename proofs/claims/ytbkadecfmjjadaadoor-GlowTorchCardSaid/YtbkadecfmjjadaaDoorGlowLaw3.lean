/-
  GlowTorch: a torch in a box of Air.
-/
import Derived.Test.YtbkadecfmjjadaaDoorGlowSides
import Derived.Test.YtbkadecfmjjadaaDoorGlowTorchP
import Derived.Deep.RegionHeld3
namespace Go.Proofs.YtbkadecfmjjadaaDoor
open Go.RowKit
set_option linter.unusedVariables false
set_option linter.unusedSimpArgs false
namespace GlowW
open BlkP RowG KindP KindW
def TorRel (w4 : World) (n : Nat) (v : Value) (wr : World) : Prop := ∃ j : Nat, v = .int .i64 j ∧ j ≤ n ∧ Below w4.heap.size w4 wr
theorem gap_b {w : World} {a b : Nat} (ha : a ≤ 100000) (hb : b ≤ 100000) : Calls Tryd.prog 20 #[.int .i64 a, .int .i64 b] w fun e w' => e = .returned (.int .i64 (GlowP.gap a b : Nat)) ∧ Below w.heap.size w w' :=
  (gap_c ha hb).mono (fun e w' h => ⟨h.1, h.2 ▸ Below.refl _ _⟩)
theorem rem_nat {s m r : Nat} (h : s % m = r) : (s : Int).tmod m = (r : Int) := by rw [Int.tmod_eq_emod_of_nonneg (Int.natCast_nonneg _), ← h]; rfl
theorem quo_nat {s m r : Nat} (h : s / m = r) : (s : Int) / (m : Int) = (r : Int) := by rw [← h]; rfl
theorem u8_id {d : Nat} (h : d ≤ 15) : IntKind.u8.wrap (d : Int) = (d : Int) := by rw [IntKind.wrap_u8]; omega
theorem wr_nat {a b : Nat} (ha : a ≤ 1000) (hb : b ≤ 1000) : IntKind.i64.wrap ((a : Int) + (b : Int)) = (a : Int) + (b : Int) := BitsP.wrapI_small (by omega) (by omega)
theorem gap_le {a b : Nat} (ha : a ≤ 300) (hb : b ≤ 300) : GlowP.gap a b ≤ 300 := by unfold GlowP.gap; omega
theorem wsub_ge {T f m : Nat} (hT : T ≤ 15) (hm : m = T - f) (h : f ≤ T) : wrap64 ((T : Int) - (f : Int)) = (m : Int) := by unfold wrap64; omega
theorem wsub_lt {T f : Nat} (hT : T ≤ 15) (hf : f ≤ 100000) (h : T < f) : ∃ e : Int, wrap64 ((T : Int) - (f : Int)) = e ∧ e < 0 := ⟨(T : Int) - f, by unfold wrap64; omega, by omega⟩
theorem gap_le2 {a b : Nat} (ha : a ≤ 4096) (hb : b ≤ 4096) : GlowP.gap a b ≤ 4096 := by unfold GlowP.gap; omega
theorem w64_nat {d : Nat} (h : d ≤ 16777216) : wrap64 (d : Int) = (d : Int) := by unfold wrap64; omega
theorem lit2' {w : World} {g : Nat} {T : TypeId} {l : List (Nat × Nat)} (h : Blk w g T (flat enc2 l)) {i a b : Nat} (hi : l[i]? = some (a, b)) : w.cell? ⟨g, i * 2, none⟩ = some (.int .u8 a) ∧ w.cell? ⟨g, i * 2 + 1, none⟩ = some (.int .u8 b) :=
  ⟨h.cell (flat2_get hi).1, h.cell (flat2_get hi).2⟩
set_option maxRecDepth 100000 in
set_option maxHeartbeats 16000000 in
theorem torch_of {w : World} {s0 s1 s2 p v : Nat} (hT : Tab w) (u0 : s0 ≤ 255) (u1 : s1 ≤ 255) (u2 : s2 ≤ 255) (up : p ≤ 65535) (uv : v ≤ 255) :
    Calls Tryd.prog 6 #[.agg #[.int .u8 s0, .int .u8 s1, .int .u8 s2], .int .u16 p, .int .u8 v] w (HoldsP w) := by
  have HT := Lib.hid hT
  clear hT
  obtain ⟨x0, hx0⟩ : ∃ x, s0 % 16 = x := ⟨_, rfl⟩
  obtain ⟨y0, hy0⟩ : ∃ x, s1 % 16 = x := ⟨_, rfl⟩
  obtain ⟨z0, hz0⟩ : ∃ x, s2 % 16 = x := ⟨_, rfl⟩
  obtain ⟨t0, ht0⟩ : ∃ x, v % 15 = x := ⟨_, rfl⟩
  have bx : x0 < 16 := by omega
  have bY : y0 < 16 := by omega
  have bz : z0 < 16 := by omega
  have bt : t0 < 15 := by omega
  have R0 := Lib.hid (show (s0 : Int).tmod 16 = (x0 : Int) from rem_nat hx0)
  have R1 := Lib.hid (show (s1 : Int).tmod 16 = (y0 : Int) from rem_nat hy0)
  have R2 := Lib.hid (show (s2 : Int).tmod 16 = (z0 : Int) from rem_nat hz0)
  have R3 := Lib.hid (show (v : Int).tmod 15 = (t0 : Int) from rem_nat ht0)
  clear hx0 hy0 hz0 ht0
  obtain ⟨X, hX⟩ : ∃ X, 1 + x0 = X := ⟨_, rfl⟩
  obtain ⟨Y, hY⟩ : ∃ X, 1 + y0 = X := ⟨_, rfl⟩
  obtain ⟨Z, hZ⟩ : ∃ X, 1 + z0 = X := ⟨_, rfl⟩
  obtain ⟨T, hT⟩ : ∃ X, 1 + t0 = X := ⟨_, rfl⟩
  have eX : 1 + (x0 : Int) = (X : Int) := by omega
  have eY : 1 + (y0 : Int) = (Y : Int) := by omega
  have eZ : 1 + (z0 : Int) = (Z : Int) := by omega
  have eT : 1 + (t0 : Int) = (T : Int) := by omega
  have BX : 1 ≤ X ∧ X ≤ 16 := by omega
  have BY : 1 ≤ Y ∧ Y ≤ 16 := by omega
  have BZ : 1 ≤ Z ∧ Z ≤ 16 := by omega
  have BT : 1 ≤ T ∧ T ≤ 15 := by omega
  clear hX hY hZ hT
  have hP : X * Y ≤ 256 := Nat.mul_le_mul BX.2 BY.2
  have hN : X * Y * Z ≤ 4096 := Nat.mul_le_mul hP BZ.2
  have hN0 : 0 < X * Y * Z := Nat.mul_pos (Nat.mul_pos (by omega) (by omega)) (by omega)
  obtain ⟨n, hn⟩ : ∃ n, X * Y * Z = n := ⟨_, rfl⟩
  have HXYZ := Lib.hid hn
  rw [hn] at hN hN0
  have EP := Lib.hid (show (X : Int) * Y = ((X * Y : Nat) : Int) from (Int.natCast_mul _ _).symm)
  have EN := Lib.hid (show ((X * Y : Nat) : Int) * Z = (n : Int) by rw [← hn]; exact (Int.natCast_mul _ _).symm)
  obtain ⟨P, hPn⟩ : ∃ P, X * Y = P := ⟨_, rfl⟩
  rw [hPn] at hP EP EN
  clear hn hPn
  obtain ⟨k, hk⟩ : ∃ k, p % n = k := ⟨_, rfl⟩
  have hkn : k < n := by rw [← hk]; exact Nat.mod_lt _ hN0
  have R4 := Lib.hid (show (p : Int).tmod n = (k : Int) from rem_nat hk)
  clear hk
  have hkI : (k : Int) < n := by omega
  have hk0 : (0 : Int) ≤ (k : Int) := by omega
  have hnN : ¬ n = 0 := by omega
  have hnI : ¬ (n : Int) = 0 := by omega
  have G1 := Lib.hid (show IntKind.u8.wrap (T : Int) = T from u8_id (by omega))
  have ET := Lib.hid eT
  clear eT
  have F1 := Lib.hid (show wrap64 (X : Int) = X from w64_nat (by omega))
  have F2 := Lib.hid (show wrap64 (Y : Int) = Y from w64_nat (by omega))
  have F3 := Lib.hid (show wrap64 (Z : Int) = Z from w64_nat (by omega))
  have F4 := Lib.hid (show wrap64 (P : Int) = P from w64_nat (by omega))
  have F5 := Lib.hid (show wrap64 (n : Int) = n from w64_nat (by omega))
  have F6 := Lib.hid (show wrap64 (T : Int) = T from w64_nat (by omega))
  have eP := EP.out
  have eN := EN.out
  have r0 := R0.out
  have r1 := R1.out
  have r2 := R2.out
  go_enter Tryd.func6, Tryd.ntmps6
  go_wp2_with ((with_reducible refine at_slot 38 ?_); refine Classical.byContradiction (fun hG => ?_))
  refine hG ?_
  clear hG
  refine list_named (fun W => Blk W (w.heap.size + 1) 24 [.int .i64 X, .int .i64 Y, .int .i64 Z, .slice none 0 0] ∧ Below w.heap.size w W ∧ W.heap.size = w.heap.size + 2) (by (refine ⟨?_, by (repeat' (first | (with_reducible exact Below.refl _ _) | (with_reducible refine Below.setCell ?_ (by (first | omega | (simp; done) | (simp; omega))) _) | (with_reducible refine Below.alloc ?_ (by (first | omega | (simp; done) | (simp; omega))) _) | (with_reducible refine Below.drew ?_) | (with_reducible refine below_drewN ?_ _))), by simp⟩); first | (exact Blk.newA' (by simp) rfl) | (repeat' (first | (with_reducible refine BlkP.Blk.drew ?_) | (with_reducible refine BlkP.Blk.drewN ?_ _) | (with_reducible refine BlkP.Blk.setAt (us := ?_) (by first | omega | (simp; done) | (simp; omega)) rfl ?_ ?_) | (with_reducible refine BlkP.Blk.otherAt ?_ (by first | omega | (simp; done) | (simp; omega))) | (with_reducible refine BlkP.Blk.newA' (by first | omega | (simp; done) | (simp; omega)) rfl) | (with_reducible refine BlkP.Blk.alloc ?_ _) | (exact rfl)))) ?_
  rintro w1 ⟨bk1, hb1, hz1⟩
  refine wp_makeC _ rfl _ _ rfl n rfl rfl (by omega) ?_
  intro w2 hd2 hb2
  obtain ⟨g, hg⟩ : ∃ g, w1.heap.size = g := ⟨_, rfl⟩
  rw [hg] at hd2 ⊢
  have HGB := Lib.hid (show g = w.heap.size + 2 by omega)
  have bk2 := bk1.below hb2
  have HD2 := Lib.hid hd2
  have BK2 := Lib.hid bk2
  have HB1 := Lib.hid hb1
  have HB2 := Lib.hid hb2
  have hz2 := hb2.size
  have hgn : g ≠ w.heap.size + 1 := by have := HGB.out; omega
  have hgn' : w.heap.size + 1 ≠ g := fun h => hgn h.symm
  have hrep : (List.replicate n (0, 0))[k]? = some (0, 0) := by rw [List.getElem?_replicate, if_pos hkn]
  have HREP := Lib.hid hrep
  have s0 : w2.cell? ⟨g, k * 2, none⟩ = some (.int .u8 0) := (lit2' hd2 hrep).1
  have s1 : w2.cell? ⟨g, k * 2 + 1, none⟩ = some (.int .u8 0) := (lit2' hd2 hrep).2
  have q0 := hd2.frozen (k * 2)
  have q1 := hd2.frozen (k * 2 + 1)
  have k0 := bk2.cell (i := 0) rfl
  have k1 := bk2.cell (i := 1) rfl
  have k2 := bk2.cell (i := 2) rfl
  have k3 := bk2.cell (i := 3) rfl
  have q3 := bk2.frozen 3
  have r3 := R3.out
  have eT := ET.out
  have r4 := R4.out
  have g1 := G1.out
  clear hd2 bk2 hb1 hb2 hz1 bk1 hrep r0 r1 r2 eP eN hg
  go_wp2_with fail
  obtain ⟨w3, hw3⟩ : ∃ w3, w3 = ((w2.setCell ⟨w.heap.size + 1, 3, none⟩ (.slice (some ⟨g, 0, none⟩) n n)).setCell ⟨g, k * 2, none⟩ (.int .u8 11)).setCell ⟨g, k * 2 + 1, none⟩ (.int .u8 T) := ⟨_, rfl⟩
  have HD3 := Lib.hid (show Blk w3 g 32 (flat enc2 ((List.replicate n (0, 0)).set k (11, T))) by
    rw [hw3]
    have e1 : (flat enc2 (List.replicate n (0, 0))).set (k * 2) (.int .u8 11) = flat enc2 ((List.replicate n (0, 0)).set k (11, 0)) := flat_set (e := enc2) (j := 0) (x := (0, 0)) (y := (11, 0)) HREP.out (by decide) rfl
    have e2 : (flat enc2 ((List.replicate n (0, 0)).set k (11, 0))).set (k * 2 + 1) (.int .u8 T) = flat enc2 ((List.replicate n (0, 0)).set k (11, T)) := by
      have h := flat_set (e := enc2) (j := 1) (x := (11, 0)) (y := (11, T)) (u := .int .u8 T) (show ((List.replicate n (0, 0)).set k (11, 0))[k]? = some (11, 0) from List.getElem?_set_self (by simpa using hkn)) (by decide) rfl
      rw [List.set_set] at h
      exact h
    exact ((HD2.out.other hgn _).setTo e1).setTo e2)
  have BK3 := Lib.hid (show Blk w3 (w.heap.size + 1) 24 [.int .i64 X, .int .i64 Y, .int .i64 Z, .slice (some ⟨g, 0, none⟩) n n] by
    rw [hw3]
    exact ((BK2.out.setTo rfl).other hgn' _).other hgn' _)
  have HW3 := Lib.hid (show Below w.heap.size w w3 by
    rw [hw3]
    have hg := HGB.out
    have hb := HB1.out.trans (HB2.out.mono HB1.out.size)
    exact ((hb.setCell (show w.heap.size ≤ w.heap.size + 1 by omega) _).setCell (show w.heap.size ≤ g by omega) _).setCell (show w.heap.size ≤ g by omega) _)
  rw [← hw3]
  have HL := Lib.hid (show n = ((List.replicate n (0, 0)).set k (11, T)).length by rw [List.length_set, List.length_replicate])
  have HPL := Lib.hid (show ∀ i, i < n → (lightA X Y Z ((List.replicate n (0, 0)).set k (11, T)))[i]? = some (15, T - GlowP.far X Z k i) by
    intro i hi
    have h := torch_plain (X := X) (Y := Y) (Z := Z) (k := k) (T := T) (i := i) (by rw [HXYZ.out]; exact hkn) BT.1 BT.2 (by rw [HXYZ.out]; exact hi)
    rw [HXYZ.out] at h
    exact h)
  obtain ⟨cs, hcs⟩ : ∃ cs, (List.replicate n (0, 0)).set k (11, T) = cs := ⟨_, rfl⟩
  rw [hcs] at HD3 HL HPL
  clear hw3 hcs s0 s1 q0 q1 k0 k1 k2 k3 q3 r3 eT r4 g1
  refine (light_c (HT.out.below HW3.out) (rd_blk HD3.out HL.out (by omega)) HL.out (by omega) (by omega) (by omega) HXYZ.out (by omega)).mono ?_
  rintro e w4 ⟨g4, rfl, hg4, hge4, hb4⟩
  have HG4 := Lib.hid hg4
  have hg4l := hg4.lt
  have HW4 := Lib.hid (show Below w.heap.size w w4 from HW3.out.trans (hb4.mono HW3.out.size))
  have BK4 := Lib.hid (BK3.out.below hb4)
  have k3 := BK4.out.cell (i := 3) rfl
  have hBl := BK4.out.lt
  clear hg4 hb4
  go_wp2_with fail
  go_loopw [12] (TorRel w4 n) (fun v _ => n - (intOf v).toNat)
  case atStart => exact ⟨0, rfl, by omega, Below.refl _ _⟩
  case round =>
    obtain ⟨i, rfl, hi, hb⟩ := hrel
    have HB := Lib.hid hb
    have hzr := hb.size
    by_cases hlt : i < n
    · have hiI : (i : Int) < n := by omega
      have hi0 : (0 : Int) ≤ (i : Int) := by omega
      have hpl := HPL.out i hlt
      obtain ⟨m, hm⟩ : ∃ m, T - GlowP.far X Z k i = m := ⟨_, rfl⟩
      obtain ⟨f, hf⟩ : ∃ f, GlowP.far X Z k i = f := ⟨_, rfl⟩
      rw [hm] at hpl
      obtain ⟨y0, y1⟩ := lit2 (HG4.out.below hb) hpl
      have bk := BK4.out.below hb
      have k0 := bk.cell (i := 0) rfl
      have k2 := bk.cell (i := 2) rfl
      have k3 := bk.cell (i := 3) rfl
      have Y0 := Lib.hid y0
      have Y1 := Lib.hid y1
      have K0 := Lib.hid k0
      have K2 := Lib.hid k2
      have hz8 : w.heap.size < wr.heap.size := by omega
      have hzb : w.heap.size + 1 < wr.heap.size := by omega
      have hzg : g4 < wr.heap.size := by omega
      have HM1 := Lib.hid (show m = T - f by rw [← hm, hf])
      obtain ⟨ix, hix⟩ : ∃ x, i % X = x := ⟨_, rfl⟩
      obtain ⟨di, hdi⟩ : ∃ x, i / X = x := ⟨_, rfl⟩
      obtain ⟨iz, hiz⟩ : ∃ x, di % Z = x := ⟨_, rfl⟩
      obtain ⟨iy, hiy⟩ : ∃ x, di / Z = x := ⟨_, rfl⟩
      obtain ⟨kx, hkx⟩ : ∃ x, k % X = x := ⟨_, rfl⟩
      obtain ⟨dk, hdk⟩ : ∃ x, k / X = x := ⟨_, rfl⟩
      obtain ⟨kz, hkz⟩ : ∃ x, dk % Z = x := ⟨_, rfl⟩
      obtain ⟨ky, hky⟩ : ∃ x, dk / Z = x := ⟨_, rfl⟩
      have b1 : ix ≤ 300 := by have := Nat.mod_lt i (show 0 < X by omega); omega
      have b2 : iz ≤ 300 := by have := Nat.mod_lt di (show 0 < Z by omega); omega
      have b3 : kx ≤ 300 := by have := Nat.mod_lt k (show 0 < X by omega); omega
      have b4 : kz ≤ 300 := by have := Nat.mod_lt dk (show 0 < Z by omega); omega
      have d1 : di ≤ i := by rw [← hdi]; exact Nat.div_le_self _ _
      have d2 : iy ≤ di := by rw [← hiy]; exact Nat.div_le_self _ _
      have d3 : dk ≤ k := by rw [← hdk]; exact Nat.div_le_self _ _
      have d4 : ky ≤ dk := by rw [← hky]; exact Nat.div_le_self _ _
      have hN4 : n ≤ 4096 := hN
      have V1 := Lib.hid (wrap_small (d := di) (Nat.le_trans d1 (Nat.le_trans hi (Nat.le_trans hN4 (by decide)))))
      have V2 := Lib.hid (wrap_small (d := iy) (Nat.le_trans d2 (Nat.le_trans d1 (Nat.le_trans hi (Nat.le_trans hN4 (by decide))))))
      have U1 := Lib.hid (wrap_small (d := dk) (Nat.le_trans d3 (Nat.le_trans (Nat.le_of_lt hkn) (Nat.le_trans hN4 (by decide)))))
      have U2 := Lib.hid (wrap_small (d := ky) (Nat.le_trans d4 (Nat.le_trans d3 (Nat.le_trans (Nat.le_of_lt hkn) (Nat.le_trans hN4 (by decide))))))
      have GB1 := Lib.hid (show ix ≤ 100000 from Nat.le_trans b1 (by decide))
      have GB2 := Lib.hid (show kx ≤ 100000 from Nat.le_trans b3 (by decide))
      have GB3 := Lib.hid (show iz ≤ 100000 from Nat.le_trans b2 (by decide))
      have GB4 := Lib.hid (show kz ≤ 100000 from Nat.le_trans b4 (by decide))
      have GB5 := Lib.hid (show iy ≤ 100000 from Nat.le_trans d2 (Nat.le_trans d1 (Nat.le_trans hi (Nat.le_trans hN4 (by decide)))))
      have GB6 := Lib.hid (show ky ≤ 100000 from Nat.le_trans d4 (Nat.le_trans d3 (Nat.le_trans (Nat.le_of_lt hkn) (Nat.le_trans hN4 (by decide)))))
      have hff : GlowP.gap ix kx + GlowP.gap iz kz + GlowP.gap iy ky = f := by
        rw [← hf, ← hix, ← hiz, ← hiy, ← hkx, ← hkz, ← hky, ← hdi, ← hdk]
        first | rfl | (simp only [GlowP.far]; done) | (simp only [GlowP.far, GlowP.gap]; omega)
      have a1 := gap_le b1 b3
      have a2 := gap_le b2 b4
      have A1 := Lib.hid (wr_nat (a := GlowP.gap ix kx) (b := GlowP.gap iz kz) (by omega) (by omega))
      have hffI : ((GlowP.gap ix kx : Nat) : Int) + (GlowP.gap iz kz : Nat) + (GlowP.gap iy ky : Nat) = (f : Int) := by rw [← hff]; simp
      have A2 := Lib.hid (show IntKind.i64.wrap (((GlowP.gap ix kx : Nat) : Int) + (GlowP.gap iz kz : Nat) + (GlowP.gap iy ky : Nat)) = (f : Int) by
        have a3 := gap_le2 (Nat.le_trans d2 (Nat.le_trans d1 (Nat.le_trans hi hN4))) (Nat.le_trans d4 (Nat.le_trans d3 (Nat.le_trans (Nat.le_of_lt hkn) hN4)))
        rw [hffI]; exact wrap_small (by omega))
      have FL := Lib.hid (show f ≤ 100000 by
        have a3 := gap_le2 (Nat.le_trans d2 (Nat.le_trans d1 (Nat.le_trans hi hN4))) (Nat.le_trans d4 (Nat.le_trans d3 (Nat.le_trans (Nat.le_of_lt hkn) hN4)))
        omega)
      have n1 : (i : Int).tmod X = (ix : Int) := rem_nat hix
      have n2 : (i : Int) / (X : Int) = (di : Int) := quo_nat hdi
      have n3 : (di : Int).tmod Z = (iz : Int) := rem_nat hiz
      have n4 : (di : Int) / (Z : Int) = (iy : Int) := quo_nat hiy
      have n5 : (k : Int).tmod X = (kx : Int) := rem_nat hkx
      have n6 : (k : Int) / (X : Int) = (dk : Int) := quo_nat hdk
      have n7 : (dk : Int).tmod Z = (kz : Int) := rem_nat hkz
      have n8 : (dk : Int) / (Z : Int) = (ky : Int) := quo_nat hky
      have hXN : ¬ X = 0 := Nat.ne_of_gt BX.1
      have hZN : ¬ Z = 0 := Nat.ne_of_gt BZ.1
      have hXI : ¬ (X : Int) = 0 := fun h => absurd (Int.ofNat.inj h) (Nat.ne_of_gt BX.1)
      have hZI : ¬ (Z : Int) = 0 := fun h => absurd (Int.ofNat.inj h) (Nat.ne_of_gt BZ.1)
      clear hpl hm hf hix hdi hiz hiy hkx hdk hkz hky hff hffI a1 a2 bk hb d1 d2 d3 d4
      go_wp2_with fail
      refine wp_region_noPanic ?_
      refine wp_region_held_drew (S := fun W => Below wr.heap.size wr W) (by kernel_rfl) ((Below.refl _ wr).drew) (fun hHeld => ?_)
      refine wpAnyH_take (i := 0) (oi := ⟨some 78, _, _, _, _, _⟩) (v := .int .i64 i) rfl (by kernel_rfl) (by kernel_rfl) (by kernel_rfl) (fun _ _ _ h => h) (Or.inl ⟨by rfl, fun W hSW => by go_simp⟩) hHeld ?_
      simp only [Act.put, List.setIfInBounds_toArray, List.set_cons_zero, List.set_cons_succ]
      refine wpAnyH_take (i := 1) (oi := ⟨some 79, _, _, _, _, _⟩) (v := .pointer (some ⟨w.heap.size + 1, 0, none⟩)) rfl (by kernel_rfl) (by kernel_rfl) (by kernel_rfl) (fun _ _ _ h => h) (Or.inl ⟨by rfl, fun W hSW => by go_simp⟩) hHeld ?_
      simp only [Act.put, List.setIfInBounds_toArray, List.set_cons_zero, List.set_cons_succ]
      refine wpAnyH_take (i := 2) (oi := ⟨some 80, _, _, _, _, _⟩) (v := .int .i64 X) rfl (by kernel_rfl) (by kernel_rfl) (by kernel_rfl) (fun _ _ _ h => h) (Or.inl ⟨by rfl, fun W hSW => by have a0 := (hSW.cell (p := ⟨w.heap.size + 1, 0, none⟩) hzb).trans k0; go_simp⟩) hHeld ?_
      simp only [Act.put, List.setIfInBounds_toArray, List.set_cons_zero, List.set_cons_succ]
      refine wpAnyH_take (i := 3) (oi := ⟨some 81, _, _, _, _, _⟩) (v := .int .i64 ix) rfl (by kernel_rfl) (by kernel_rfl) (by kernel_rfl) (fun _ _ _ h => h) (Or.inl ⟨by rfl, fun W hSW => by go_simp⟩) hHeld ?_
      simp only [Act.put, List.setIfInBounds_toArray, List.set_cons_zero, List.set_cons_succ]
      refine wpAnyH_take (i := 4) (oi := ⟨some 82, _, _, _, _, _⟩) (v := .int .i64 k) rfl (by kernel_rfl) (by kernel_rfl) (by kernel_rfl) (fun _ _ _ h => h) (Or.inl ⟨by rfl, fun W hSW => by go_simp⟩) hHeld ?_
      simp only [Act.put, List.setIfInBounds_toArray, List.set_cons_zero, List.set_cons_succ]
      refine wpAnyH_take (i := 5) (oi := ⟨some 83, _, _, _, _, _⟩) (v := .pointer (some ⟨w.heap.size + 1, 0, none⟩)) rfl (by kernel_rfl) (by kernel_rfl) (by kernel_rfl) (fun _ _ _ h => h) (Or.inl ⟨by rfl, fun W hSW => by go_simp⟩) hHeld ?_
      simp only [Act.put, List.setIfInBounds_toArray, List.set_cons_zero, List.set_cons_succ]
      refine wpAnyH_take (i := 6) (oi := ⟨some 84, _, _, _, _, _⟩) (v := .int .i64 X) rfl (by kernel_rfl) (by kernel_rfl) (by kernel_rfl) (fun _ _ _ h => h) (Or.inl ⟨by rfl, fun W hSW => by have a0 := (hSW.cell (p := ⟨w.heap.size + 1, 0, none⟩) hzb).trans k0; go_simp⟩) hHeld ?_
      simp only [Act.put, List.setIfInBounds_toArray, List.set_cons_zero, List.set_cons_succ]
      refine wpAnyH_take (i := 7) (oi := ⟨some 85, _, _, _, _, _⟩) (v := .int .i64 kx) rfl (by kernel_rfl) (by kernel_rfl) (by kernel_rfl) (fun _ _ _ h => h) (Or.inl ⟨by rfl, fun W hSW => by go_simp⟩) hHeld ?_
      simp only [Act.put, List.setIfInBounds_toArray, List.set_cons_zero, List.set_cons_succ]
      refine wpAnyH_take (i := 9) (oi := ⟨some 87, _, _, _, _, _⟩) (v := .int .i64 i) rfl (by kernel_rfl) (by kernel_rfl) (by kernel_rfl) (fun _ _ _ h => h) (Or.inl ⟨by rfl, fun W hSW => by go_simp⟩) hHeld ?_
      simp only [Act.put, List.setIfInBounds_toArray, List.set_cons_zero, List.set_cons_succ]
      refine wpAnyH_take (i := 10) (oi := ⟨some 88, _, _, _, _, _⟩) (v := .pointer (some ⟨w.heap.size + 1, 0, none⟩)) rfl (by kernel_rfl) (by kernel_rfl) (by kernel_rfl) (fun _ _ _ h => h) (Or.inl ⟨by rfl, fun W hSW => by go_simp⟩) hHeld ?_
      simp only [Act.put, List.setIfInBounds_toArray, List.set_cons_zero, List.set_cons_succ]
      refine wpAnyH_take (i := 11) (oi := ⟨some 89, _, _, _, _, _⟩) (v := .int .i64 X) rfl (by kernel_rfl) (by kernel_rfl) (by kernel_rfl) (fun _ _ _ h => h) (Or.inl ⟨by rfl, fun W hSW => by have a0 := (hSW.cell (p := ⟨w.heap.size + 1, 0, none⟩) hzb).trans k0; go_simp⟩) hHeld ?_
      simp only [Act.put, List.setIfInBounds_toArray, List.set_cons_zero, List.set_cons_succ]
      refine wpAnyH_take (i := 12) (oi := ⟨some 90, _, _, _, _, _⟩) (v := .int .i64 di) rfl (by kernel_rfl) (by kernel_rfl) (by kernel_rfl) (fun _ _ _ h => h) (Or.inl ⟨by rfl, fun W hSW => by go_simp <;> exact V1.out⟩) hHeld ?_
      simp only [Act.put, List.setIfInBounds_toArray, List.set_cons_zero, List.set_cons_succ]
      refine wpAnyH_take (i := 13) (oi := ⟨some 91, _, _, _, _, _⟩) (v := .pointer (some ⟨w.heap.size + 1, 2, none⟩)) rfl (by kernel_rfl) (by kernel_rfl) (by kernel_rfl) (fun _ _ _ h => h) (Or.inl ⟨by rfl, fun W hSW => by go_simp⟩) hHeld ?_
      simp only [Act.put, List.setIfInBounds_toArray, List.set_cons_zero, List.set_cons_succ]
      refine wpAnyH_take (i := 14) (oi := ⟨some 92, _, _, _, _, _⟩) (v := .int .i64 Z) rfl (by kernel_rfl) (by kernel_rfl) (by kernel_rfl) (fun _ _ _ h => h) (Or.inl ⟨by rfl, fun W hSW => by have a0 := (hSW.cell (p := ⟨w.heap.size + 1, 2, none⟩) hzb).trans k2; go_simp⟩) hHeld ?_
      simp only [Act.put, List.setIfInBounds_toArray, List.set_cons_zero, List.set_cons_succ]
      refine wpAnyH_take (i := 15) (oi := ⟨some 93, _, _, _, _, _⟩) (v := .int .i64 iz) rfl (by kernel_rfl) (by kernel_rfl) (by kernel_rfl) (fun _ _ _ h => h) (Or.inl ⟨by rfl, fun W hSW => by go_simp⟩) hHeld ?_
      simp only [Act.put, List.setIfInBounds_toArray, List.set_cons_zero, List.set_cons_succ]
      refine wpAnyH_take (i := 16) (oi := ⟨some 94, _, _, _, _, _⟩) (v := .int .i64 k) rfl (by kernel_rfl) (by kernel_rfl) (by kernel_rfl) (fun _ _ _ h => h) (Or.inl ⟨by rfl, fun W hSW => by go_simp⟩) hHeld ?_
      simp only [Act.put, List.setIfInBounds_toArray, List.set_cons_zero, List.set_cons_succ]
      refine wpAnyH_take (i := 17) (oi := ⟨some 95, _, _, _, _, _⟩) (v := .pointer (some ⟨w.heap.size + 1, 0, none⟩)) rfl (by kernel_rfl) (by kernel_rfl) (by kernel_rfl) (fun _ _ _ h => h) (Or.inl ⟨by rfl, fun W hSW => by go_simp⟩) hHeld ?_
      simp only [Act.put, List.setIfInBounds_toArray, List.set_cons_zero, List.set_cons_succ]
      refine wpAnyH_take (i := 18) (oi := ⟨some 96, _, _, _, _, _⟩) (v := .int .i64 X) rfl (by kernel_rfl) (by kernel_rfl) (by kernel_rfl) (fun _ _ _ h => h) (Or.inl ⟨by rfl, fun W hSW => by have a0 := (hSW.cell (p := ⟨w.heap.size + 1, 0, none⟩) hzb).trans k0; go_simp⟩) hHeld ?_
      simp only [Act.put, List.setIfInBounds_toArray, List.set_cons_zero, List.set_cons_succ]
      refine wpAnyH_take (i := 19) (oi := ⟨some 97, _, _, _, _, _⟩) (v := .int .i64 dk) rfl (by kernel_rfl) (by kernel_rfl) (by kernel_rfl) (fun _ _ _ h => h) (Or.inl ⟨by rfl, fun W hSW => by go_simp <;> exact U1.out⟩) hHeld ?_
      simp only [Act.put, List.setIfInBounds_toArray, List.set_cons_zero, List.set_cons_succ]
      refine wpAnyH_take (i := 20) (oi := ⟨some 98, _, _, _, _, _⟩) (v := .pointer (some ⟨w.heap.size + 1, 2, none⟩)) rfl (by kernel_rfl) (by kernel_rfl) (by kernel_rfl) (fun _ _ _ h => h) (Or.inl ⟨by rfl, fun W hSW => by go_simp⟩) hHeld ?_
      simp only [Act.put, List.setIfInBounds_toArray, List.set_cons_zero, List.set_cons_succ]
      refine wpAnyH_take (i := 21) (oi := ⟨some 99, _, _, _, _, _⟩) (v := .int .i64 Z) rfl (by kernel_rfl) (by kernel_rfl) (by kernel_rfl) (fun _ _ _ h => h) (Or.inl ⟨by rfl, fun W hSW => by have a0 := (hSW.cell (p := ⟨w.heap.size + 1, 2, none⟩) hzb).trans k2; go_simp⟩) hHeld ?_
      simp only [Act.put, List.setIfInBounds_toArray, List.set_cons_zero, List.set_cons_succ]
      refine wpAnyH_take (i := 22) (oi := ⟨some 100, _, _, _, _, _⟩) (v := .int .i64 kz) rfl (by kernel_rfl) (by kernel_rfl) (by kernel_rfl) (fun _ _ _ h => h) (Or.inl ⟨by rfl, fun W hSW => by go_simp⟩) hHeld ?_
      simp only [Act.put, List.setIfInBounds_toArray, List.set_cons_zero, List.set_cons_succ]
      refine wpAnyH_take (i := 25) (oi := ⟨some 103, _, _, _, _, _⟩) (v := .int .i64 i) rfl (by kernel_rfl) (by kernel_rfl) (by kernel_rfl) (fun _ _ _ h => h) (Or.inl ⟨by rfl, fun W hSW => by go_simp⟩) hHeld ?_
      simp only [Act.put, List.setIfInBounds_toArray, List.set_cons_zero, List.set_cons_succ]
      refine wpAnyH_take (i := 26) (oi := ⟨some 104, _, _, _, _, _⟩) (v := .pointer (some ⟨w.heap.size + 1, 0, none⟩)) rfl (by kernel_rfl) (by kernel_rfl) (by kernel_rfl) (fun _ _ _ h => h) (Or.inl ⟨by rfl, fun W hSW => by go_simp⟩) hHeld ?_
      simp only [Act.put, List.setIfInBounds_toArray, List.set_cons_zero, List.set_cons_succ]
      refine wpAnyH_take (i := 27) (oi := ⟨some 105, _, _, _, _, _⟩) (v := .int .i64 X) rfl (by kernel_rfl) (by kernel_rfl) (by kernel_rfl) (fun _ _ _ h => h) (Or.inl ⟨by rfl, fun W hSW => by have a0 := (hSW.cell (p := ⟨w.heap.size + 1, 0, none⟩) hzb).trans k0; go_simp⟩) hHeld ?_
      simp only [Act.put, List.setIfInBounds_toArray, List.set_cons_zero, List.set_cons_succ]
      refine wpAnyH_take (i := 28) (oi := ⟨some 106, _, _, _, _, _⟩) (v := .int .i64 di) rfl (by kernel_rfl) (by kernel_rfl) (by kernel_rfl) (fun _ _ _ h => h) (Or.inl ⟨by rfl, fun W hSW => by go_simp <;> exact V1.out⟩) hHeld ?_
      simp only [Act.put, List.setIfInBounds_toArray, List.set_cons_zero, List.set_cons_succ]
      refine wpAnyH_take (i := 29) (oi := ⟨some 107, _, _, _, _, _⟩) (v := .pointer (some ⟨w.heap.size + 1, 2, none⟩)) rfl (by kernel_rfl) (by kernel_rfl) (by kernel_rfl) (fun _ _ _ h => h) (Or.inl ⟨by rfl, fun W hSW => by go_simp⟩) hHeld ?_
      simp only [Act.put, List.setIfInBounds_toArray, List.set_cons_zero, List.set_cons_succ]
      refine wpAnyH_take (i := 30) (oi := ⟨some 108, _, _, _, _, _⟩) (v := .int .i64 Z) rfl (by kernel_rfl) (by kernel_rfl) (by kernel_rfl) (fun _ _ _ h => h) (Or.inl ⟨by rfl, fun W hSW => by have a0 := (hSW.cell (p := ⟨w.heap.size + 1, 2, none⟩) hzb).trans k2; go_simp⟩) hHeld ?_
      simp only [Act.put, List.setIfInBounds_toArray, List.set_cons_zero, List.set_cons_succ]
      refine wpAnyH_take (i := 31) (oi := ⟨some 109, _, _, _, _, _⟩) (v := .int .i64 iy) rfl (by kernel_rfl) (by kernel_rfl) (by kernel_rfl) (fun _ _ _ h => h) (Or.inl ⟨by rfl, fun W hSW => by go_simp <;> exact V2.out⟩) hHeld ?_
      simp only [Act.put, List.setIfInBounds_toArray, List.set_cons_zero, List.set_cons_succ]
      refine wpAnyH_take (i := 32) (oi := ⟨some 110, _, _, _, _, _⟩) (v := .int .i64 k) rfl (by kernel_rfl) (by kernel_rfl) (by kernel_rfl) (fun _ _ _ h => h) (Or.inl ⟨by rfl, fun W hSW => by go_simp⟩) hHeld ?_
      simp only [Act.put, List.setIfInBounds_toArray, List.set_cons_zero, List.set_cons_succ]
      refine wpAnyH_take (i := 33) (oi := ⟨some 111, _, _, _, _, _⟩) (v := .pointer (some ⟨w.heap.size + 1, 0, none⟩)) rfl (by kernel_rfl) (by kernel_rfl) (by kernel_rfl) (fun _ _ _ h => h) (Or.inl ⟨by rfl, fun W hSW => by go_simp⟩) hHeld ?_
      simp only [Act.put, List.setIfInBounds_toArray, List.set_cons_zero, List.set_cons_succ]
      refine wpAnyH_take (i := 34) (oi := ⟨some 112, _, _, _, _, _⟩) (v := .int .i64 X) rfl (by kernel_rfl) (by kernel_rfl) (by kernel_rfl) (fun _ _ _ h => h) (Or.inl ⟨by rfl, fun W hSW => by have a0 := (hSW.cell (p := ⟨w.heap.size + 1, 0, none⟩) hzb).trans k0; go_simp⟩) hHeld ?_
      simp only [Act.put, List.setIfInBounds_toArray, List.set_cons_zero, List.set_cons_succ]
      refine wpAnyH_take (i := 35) (oi := ⟨some 113, _, _, _, _, _⟩) (v := .int .i64 dk) rfl (by kernel_rfl) (by kernel_rfl) (by kernel_rfl) (fun _ _ _ h => h) (Or.inl ⟨by rfl, fun W hSW => by go_simp <;> exact U1.out⟩) hHeld ?_
      simp only [Act.put, List.setIfInBounds_toArray, List.set_cons_zero, List.set_cons_succ]
      refine wpAnyH_take (i := 36) (oi := ⟨some 114, _, _, _, _, _⟩) (v := .pointer (some ⟨w.heap.size + 1, 2, none⟩)) rfl (by kernel_rfl) (by kernel_rfl) (by kernel_rfl) (fun _ _ _ h => h) (Or.inl ⟨by rfl, fun W hSW => by go_simp⟩) hHeld ?_
      simp only [Act.put, List.setIfInBounds_toArray, List.set_cons_zero, List.set_cons_succ]
      refine wpAnyH_take (i := 37) (oi := ⟨some 115, _, _, _, _, _⟩) (v := .int .i64 Z) rfl (by kernel_rfl) (by kernel_rfl) (by kernel_rfl) (fun _ _ _ h => h) (Or.inl ⟨by rfl, fun W hSW => by have a0 := (hSW.cell (p := ⟨w.heap.size + 1, 2, none⟩) hzb).trans k2; go_simp⟩) hHeld ?_
      simp only [Act.put, List.setIfInBounds_toArray, List.set_cons_zero, List.set_cons_succ]
      refine wpAnyH_take (i := 38) (oi := ⟨some 116, _, _, _, _, _⟩) (v := .int .i64 ky) rfl (by kernel_rfl) (by kernel_rfl) (by kernel_rfl) (fun _ _ _ h => h) (Or.inl ⟨by rfl, fun W hSW => by go_simp <;> exact U2.out⟩) hHeld ?_
      simp only [Act.put, List.setIfInBounds_toArray, List.set_cons_zero, List.set_cons_succ]
      refine wpAnyH_ready (rs := [8]) (by kernel_rfl) (by simp) ?_
      refine AllReadyH.cons (o := ⟨some 86, _, _, _, _, _⟩) rfl (fun K hK => ?_) AllReadyH.nil
      go_simp
      refine (gap_b (a := ix) (b := kx) GB1.out GB2.out).mono ?_
      rintro e w1 ⟨rfl, hb1⟩
      go_wp2_with fail
      refine hK.out _ _ (below_t hHeld hb1) (fun hHeld => ?_)
      clear hK K hb1
      refine wpAnyH_ready (rs := [23]) (by kernel_rfl) (by simp) ?_
      refine AllReadyH.cons (o := ⟨some 101, _, _, _, _, _⟩) rfl (fun K hK => ?_) AllReadyH.nil
      go_simp
      refine (gap_b (a := iz) (b := kz) GB3.out GB4.out).mono ?_
      rintro e w2 ⟨rfl, hb2⟩
      go_wp2_with fail
      refine hK.out _ _ (below_t hHeld hb2) (fun hHeld => ?_)
      clear hK K hb2
      refine wpAnyH_take (i := 24) (oi := ⟨some 102, _, _, _, _, _⟩) (v := .int .i64 ((GlowP.gap ix kx : Nat) + (GlowP.gap iz kz : Nat) : Int)) rfl (by kernel_rfl) (by kernel_rfl) (by kernel_rfl) (fun _ _ _ h => h) (Or.inl ⟨by rfl, fun W hSW => by go_simp <;> exact A1.out⟩) hHeld ?_
      simp only [Act.put, List.setIfInBounds_toArray, List.set_cons_zero, List.set_cons_succ]
      refine wpAnyH_ready (rs := [39]) (by kernel_rfl) (by simp) ?_
      refine AllReadyH.cons (o := ⟨some 117, _, _, _, _, _⟩) rfl (fun K hK => ?_) AllReadyH.nil
      go_simp
      refine (gap_b (a := iy) (b := ky) GB5.out GB6.out).mono ?_
      rintro e w3 ⟨rfl, hb3⟩
      go_wp2_with fail
      refine hK.out _ _ (below_t hHeld hb3) (fun hHeld => ?_)
      clear hK K hb3
      refine wpAnyH_take (i := 40) (oi := ⟨some 118, _, _, _, _, _⟩) (v := .int .i64 f) rfl (by kernel_rfl) (by kernel_rfl) (by kernel_rfl) (fun _ _ _ h => h) (Or.inl ⟨by rfl, fun W hSW => by go_simp <;> exact A2.out⟩) hHeld ?_
      simp only [Act.put, List.setIfInBounds_toArray, List.set_cons_zero, List.set_cons_succ]
      refine wpAnyH_ready (rs := [41]) (by kernel_rfl) (by simp) ?_
      refine AllReadyH.cons (o := ⟨some 13, _, _, _, _, _⟩) rfl (fun K hK => ?_) AllReadyH.nil
      go_simp
      refine hK.out _ _ hHeld (fun hHeld => ?_)
      clear hK K
      refine wpAnyH_done (by kernel_rfl) ?_ _
      refine NoPanic.normal ?_
      have y0 := (hHeld.cell (p := ⟨g4, i * 2, none⟩) hzg).trans Y0.out
      have y1 := (hHeld.cell (p := ⟨g4, i * 2 + 1, none⟩) hzg).trans Y1.out
      clear n1 n2 n3 n4 n5 n6 n7 n8
      rcases Nat.lt_or_ge T f with hTf | hTf
      · obtain rfl : m = 0 := by rw [HM1.out]; omega
        obtain ⟨e0, hE, hE0⟩ := wsub_lt BT.2 FL.out hTf
        go_wp2_with fail
        go_roundw
        case rel => exact ⟨i + 1, by go_num, by omega, HB.out.trans (hHeld.mono HB.out.size)⟩
        case measure => first | (simp [intOf]; done) | (simp [intOf]; omega)
      · have hE1 : wrap64 (m : Int) = (m : Int) := by have h := wsub_ge BT.2 HM1.out hTf; rw [show (T : Int) - (f : Int) = (m : Int) by have := HM1.out; omega] at h; exact h
        have hE : (T : Int) - (f : Int) = (m : Int) := by have := HM1.out; omega
        have hE0 : ¬ (m : Int) < 0 := Int.not_lt.2 (Int.natCast_nonneg m)
        go_wp2_with fail
        go_roundw
        case rel => exact ⟨i + 1, by go_num, by omega, HB.out.trans (hHeld.mono HB.out.size)⟩
        case measure => first | (simp [intOf]; done) | (simp [intOf]; omega)
    · obtain rfl : n = i := by omega
      have HWr := Lib.hid (show Below w.heap.size w wr from HW4.out.trans (hb.mono HW4.out.size))
      clear hb
      go_wp2_with (go_at_call 13; refine (works_c (HT.out.below (by have hbo := HWr.out; (repeat' (first | (with_reducible exact Below.refl _ _) | (with_reducible refine Below.setCell ?_ (by (first | omega | (simp; done) | (simp; omega))) _) | (with_reducible refine Below.alloc ?_ (by (first | omega | (simp; done) | (simp; omega))) _) | (with_reducible refine Below.drew ?_) | (with_reducible refine below_drewN ?_ _) | (with_reducible refine Below.trans ?_ (Below.mono hbo (by (first | omega | (simp; done) | (simp; omega)))))))))).mono ?_; rintro e wz ⟨rfl, hbz⟩)
      go_ret
      have hbo := HWr.out
      exact ⟨rfl, hbo.trans (hbz.mono hbo.size)⟩
theorem law_torch {w : World} {a0 a1 a2 p v : Int} (hT : Tab w) (l0 : 0 ≤ a0) (u0 : a0 ≤ 255) (l1 : 0 ≤ a1) (u1 : a1 ≤ 255) (l2 : 0 ≤ a2) (u2 : a2 ≤ 255) (lp : 0 ≤ p) (up : p ≤ 65535) (lv : 0 ≤ v) (uv : v ≤ 255) :
    Calls Tryd.prog 6 #[.agg #[.int .u8 a0, .int .u8 a1, .int .u8 a2], .int .u16 p, .int .u8 v] w (HoldsP w) := by
  obtain ⟨s0, rfl⟩ := Int.eq_ofNat_of_zero_le l0
  obtain ⟨s1, rfl⟩ := Int.eq_ofNat_of_zero_le l1
  obtain ⟨s2, rfl⟩ := Int.eq_ofNat_of_zero_le l2
  obtain ⟨q, rfl⟩ := Int.eq_ofNat_of_zero_le lp
  obtain ⟨r, rfl⟩ := Int.eq_ofNat_of_zero_le lv
  exact torch_of hT (by omega) (by omega) (by omega) (by omega) (by omega)
end GlowW
end Go.Proofs.YtbkadecfmjjadaaDoor
