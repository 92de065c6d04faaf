/-
  The reference's from.
-/
import Derived.Test.YtbkadecfmjjadaaDoorGlowSides
import Derived.Test.YtbkadecfmjjadaaDoorGlowLitP
import Derived.Deep.Cut
import Derived.Deep.CutRange
namespace Go.Proofs.YtbkadecfmjjadaaDoor
open Go.RowKit
set_option linter.unusedVariables false
set_option linter.unusedSimpArgs false
namespace GlowW
open BlkP RowG KindP KindW
def upF (L : List Nat) (a s : Nat) : Nat := max a (L.getD s 0 - 1)
def FromR (W0 : World) (m0 : Nat) (v : Value) (W : World) : Prop := ∃ m : Nat, v = .int .i64 m ∧ m = m0 ∧ m ≤ 15 ∧ W0 = W
theorem up_le {L : List Nat} (h : ∀ i, L.getD i 0 ≤ 15) {a s : Nat} (ha : a ≤ 15) : upF L a s ≤ 15 := by
  have := h s
  unfold upF
  omega
theorem fold_up {L : List Nat} {p : List Nat} {c : Prop} [Decidable c] {v : Nat} : (p ++ (if c then [v] else [])).foldl (upF L) 0 = if c then upF L (p.foldl (upF L) 0) v else p.foldl (upF L) 0 := by
  split <;> simp
set_option maxRecDepth 100000 in
set_option maxHeartbeats 16000000 in
theorem from_c {w : World} {X Y Z x z y i n c bl : Nat} {A : Option Addr} {L : List Nat} (hX : 1 ≤ X ∧ X ≤ 256) (hY : 1 ≤ Y ∧ Y ≤ 256) (hZ : 1 ≤ Z ∧ Z ≤ 256) (hn : X * Y * Z = n) (hn2 : n ≤ 6000) (hx : x < X) (hz : z < Z) (hy : y < Y) (hi : GlowP.at_ X Z x z y = i)
    (hL : Blk w bl 3 (L.map i64v)) (hLn : L.length = n) (h15 : ∀ i, L.getD i 0 ≤ 15) :
    Calls Tryd.prog 41 #[.agg #[.int .i64 X, .int .i64 Y, .int .i64 Z, .slice A n c], .slice (some ⟨bl, 0, none⟩) n n, .int .i64 x, .int .i64 y, .int .i64 z] w fun e w' => e = .returned (.int .i64 (GlowP.inL (GlowP.sideX X Y Z) (fun s => L.getD s 0) i : Nat)) ∧ Below w.heap.size w w' := by
  have hin : i < n := by rw [← hn, ← hi]; exact GlowP.at_lt hx hz hy
  obtain ⟨SD, hSD⟩ : ∃ SD, GlowP.sides X Y Z i = SD := ⟨_, rfl⟩
  have HAns := Lib.hid (show GlowP.inL (GlowP.sideX X Y Z) (fun s => L.getD s 0) i = SD.foldl (upF L) 0 by
    unfold GlowP.inL GlowP.sideX
    rw [if_pos (by rw [hn]; exact hin), hSD]
    rfl)
  have HMEM := Lib.hid (show ∀ s, s ∈ SD → s < n from fun s hs => by rw [← hn]; exact GlowP.sides_lt (by rw [hn]; exact hin) (by rw [hSD]; exact hs))
  unfold GlowP.sides at hSD
  have a1 : i % X = x := by rw [← hi]; exact GlowP.at_x hx
  have a2 : i / X % Z = z := by rw [← hi]; exact GlowP.at_z hx hz
  have a3 : i / X / Z = y := by rw [← hi]; exact GlowP.at_y hx hz
  rw [a1, a2, a3] at hSD
  obtain ⟨S, hS⟩ : ∃ S, X * Z = S := ⟨_, rfl⟩
  have hSM : S ≤ 65536 := by have := Nat.mul_le_mul hX.2 hZ.2; omega
  have e0 : (X : Int) * (Z : Int) = (S : Int) := by rw [← hS]; simp
  rw [hS] at hSD
  unfold GlowP.at_ at hi
  obtain ⟨p1, hp1⟩ : ∃ p, y * Z = p := ⟨_, rfl⟩
  obtain ⟨p2, hp2⟩ : ∃ p, p1 + z = p := ⟨_, rfl⟩
  obtain ⟨p3, hp3⟩ : ∃ p, p2 * X = p := ⟨_, rfl⟩
  have e1 : (y : Int) * (Z : Int) = (p1 : Int) := by rw [← hp1]; simp
  have e2 : (p1 : Int) + (z : Int) = (p2 : Int) := by omega
  have e3 : (p2 : Int) * (X : Int) = (p3 : Int) := by rw [← hp3]; simp
  rw [hp1, hp2, hp3] at hi
  have e4 : (p3 : Int) + (x : Int) = (i : Int) := by omega
  have l3 : p2 ≤ p3 := by rw [← hp3]; exact Nat.le_mul_of_pos_right _ (by omega)
  have g2 : 0 < z → X ≤ i := fun h => by
    have : 1 * X ≤ p2 * X := Nat.mul_le_mul_right X (by omega)
    omega
  have g3 : 0 < y → S ≤ i := fun h => by
    have h1 : 1 * Z ≤ y * Z := Nat.mul_le_mul_right Z h
    have h2 : Z * X ≤ p2 * X := Nat.mul_le_mul_right X (by omega)
    have h3 : Z * X = S := by rw [← hS, Nat.mul_comm]
    omega
  have hXI : (X : Int) ≤ 256 := by omega
  have G1 := Lib.hid (show 0 < x → 1 ≤ i from fun h => by omega)
  have G2 := Lib.hid g2
  have G3 := Lib.hid g3
  have HSD := Lib.hid hSD
  have H15 := Lib.hid h15
  have HLN := Lib.hid hLn
  have HL := Lib.hid hL
  have hLl := hL.lt
  clear hSD a1 a2 a3 hi hp1 hp2 hp3 hS g2 g3 h15 hLn hL
  go_enter Tryd.func41, Tryd.ntmps41
  go_upto_if 25 with (fail)
  refine HeldP.wp_named (fun W => W.cell? ⟨w.heap.size, 0, none⟩ = some (.int .i64 X) ∧ W.cell? ⟨w.heap.size, 1, none⟩ = some (.int .i64 Y) ∧ W.cell? ⟨w.heap.size, 2, none⟩ = some (.int .i64 Z) ∧ Below w.heap.size w W) (by (refine ⟨?_, ?_, ?_, by (repeat' (first | (with_reducible exact Below.refl _ _) | (with_reducible refine Below.setCell ?_ (by (first | omega | (simp; done) | (simp; omega))) _) | (with_reducible refine Below.alloc ?_ (by (first | omega | (simp; done) | (simp; omega))) _) | (with_reducible refine Below.drew ?_) | (with_reducible refine below_drewN ?_ _)))⟩); all_goals (repeat' (first | (with_reducible assumption) | (with_reducible refine HeldP.c_drew ?_) | (with_reducible refine HeldP.c_drewN ?_) | (with_reducible refine HeldP.c_same (by omega) ?_) | (with_reducible refine HeldP.c_other ?_ ?_) | (with_reducible refine HeldP.c_new (by first | omega | (simp; done) | (simp; omega)) ?_) | (with_reducible refine HeldP.c_alloc ?_ ?_) | (with_reducible refine HeldP.e_drew ?_) | (with_reducible refine HeldP.e_drewN ?_) | (with_reducible refine HeldP.e_set ?_) | (with_reducible refine HeldP.e_new (by first | omega | (simp; done) | (simp; omega)) ⟨_, rfl⟩) | (with_reducible refine HeldP.e_alloc ?_ ?_) | (with_reducible refine HeldP.f_drew ?_) | (with_reducible refine HeldP.f_drewN ?_) | (with_reducible refine HeldP.f_set ?_) | (with_reducible refine HeldP.f_new (by first | omega | (simp; done) | (simp; omega))) | (with_reducible refine HeldP.f_alloc ?_ ?_) | (with_reducible refine HeldP.s_drew ?_) | (with_reducible refine HeldP.s_drewN ?_) | (with_reducible refine HeldP.s_set ?_) | (with_reducible refine HeldP.s_new (by first | omega | (simp; done) | (simp; omega))) | (with_reducible refine HeldP.s_alloc ?_) | (with_reducible exact ⟨_, by assumption⟩) | omega | (intro e; simp at e; done) | (intro e; simp at e; omega) | (exact rfl) | (simp; done) | (simp; omega)))) ?_
  rintro W0 ⟨k0, k1, k2, hb0⟩
  have HB0 := Lib.hid hb0
  have HL0 := Lib.hid (HL.out.belowAt hb0 hLl)
  have HSR := Lib.hid (show FromR W0 (([] : List Nat).foldl (upF L) 0) (.int .i64 (0 : Nat)) W0 from ⟨0, rfl, rfl, by omega, rfl⟩)
  clear hb0 e1 e2 e3 e4 l3
  have HM0 := Lib.hid (show 0 = ([] : List Nat).foldl (upF L) 0 from rfl)
  go_cut [11] from 24 (fun v W => FromR W0 ((([] : List Nat) ++ (if 0 < x then [i - 1] else [])).foldl (upF L) 0) v W)
  case first =>
    by_cases hc : 0 < x
    · have hcI : (0 : Int) < x := by omega
      obtain ⟨u, hu⟩ : ∃ u : Nat, (i : Int) - 1 = u := ⟨i - 1, by have := G1.out hc; omega⟩
      have HU := Lib.hid (show i - 1 = u by omega)
      have hun : u < n := HMEM.out u (by rw [← HSD.out, ← HU.out]; simp [hc])
      obtain ⟨lu, hlu⟩ : ∃ lu, L[u]? = some lu := ⟨_, List.getElem?_eq_getElem (by rw [HLN.out]; exact hun)⟩
      have hq : W0.cell? ⟨bl, u, none⟩ = some (.int .i64 lu) := HL0.out.cell (by rw [List.getElem?_map, hlu]; rfl)
      have hlu15 : lu ≤ 15 := by have := H15.out u; simp only [List.getD, hlu] at this; exact this
      have HN := Lib.hid (show upF L 0 u = max 0 (lu - 1) by unfold upF; simp [List.getD, hlu])
      have hunI : (u : Int) < n := by omega
      have hu0 : (0 : Int) ≤ (u : Int) := by omega
      obtain ⟨t, ht⟩ : ∃ t : Int, (lu : Int) - 1 = t := ⟨_, rfl⟩
      clear hlu
      by_cases hmx : (0 : Int) < t
      · obtain ⟨t', rfl⟩ : ∃ t' : Nat, t = t' := ⟨t.toNat, by omega⟩
        go_wp2_with fail
        go_meet
        case rel => exact ⟨t', by first | rfl | simp, by rw [fold_up, if_pos hc, ← HM0.out, HU.out, HN.out]; omega, by omega, rfl⟩
      · go_wp2_with fail
        go_meet
        case rel => exact ⟨0, by first | rfl | simp, by rw [fold_up, if_pos hc, ← HM0.out, HU.out, HN.out]; omega, by omega, rfl⟩
    · have hcI : ¬ (0 : Int) < x := by omega
      go_wp2_with fail
      go_meet
      case rel => exact ⟨0, by first | rfl | simp, by rw [fold_up, if_neg hc]; exact HM0.out, by omega, rfl⟩
  case rest =>
    obtain ⟨m1, rfl, hm1, hl1, rfl⟩ := hcut
    have HM1 := Lib.hid hm1
    clear hm1
    go_upto_if 38 with (fail)
    go_cut [11] from 34 (fun v W => FromR W0 (((([] : List Nat) ++ (if 0 < x then [i - 1] else [])) ++ (if x + 1 < X then [i + 1] else [])).foldl (upF L) 0) v W)
    case first =>
      by_cases hc : x + 1 < X
      · have hcI : (x : Int) + 1 < X := by omega
        obtain ⟨u, hu⟩ : ∃ u : Nat, (i : Int) + 1 = u := ⟨i + 1, by omega⟩
        have HU := Lib.hid (show i + 1 = u by omega)
        have hun : u < n := HMEM.out u (by rw [← HSD.out, ← HU.out]; simp [hc])
        obtain ⟨lu, hlu⟩ : ∃ lu, L[u]? = some lu := ⟨_, List.getElem?_eq_getElem (by rw [HLN.out]; exact hun)⟩
        have hq : W0.cell? ⟨bl, u, none⟩ = some (.int .i64 lu) := HL0.out.cell (by rw [List.getElem?_map, hlu]; rfl)
        have hlu15 : lu ≤ 15 := by have := H15.out u; simp only [List.getD, hlu] at this; exact this
        have HN := Lib.hid (show upF L m1 u = max m1 (lu - 1) by unfold upF; simp [List.getD, hlu])
        have hunI : (u : Int) < n := by omega
        have hu0 : (0 : Int) ≤ (u : Int) := by omega
        obtain ⟨t, ht⟩ : ∃ t : Int, (lu : Int) - 1 = t := ⟨_, rfl⟩
        clear hlu
        by_cases hmx : (m1 : Int) < t
        · obtain ⟨t', rfl⟩ : ∃ t' : Nat, t = t' := ⟨t.toNat, by omega⟩
          go_wp2_with fail
          go_meet
          case rel => exact ⟨t', by first | rfl | simp, by rw [fold_up, if_pos hc, ← HM1.out, HU.out, HN.out]; omega, by omega, rfl⟩
        · go_wp2_with fail
          go_meet
          case rel => exact ⟨m1, by first | rfl | simp, by rw [fold_up, if_pos hc, ← HM1.out, HU.out, HN.out]; omega, by omega, rfl⟩
      · have hcI : ¬ (x : Int) + 1 < X := by omega
        go_wp2_with fail
        go_meet
        case rel => exact ⟨m1, by first | rfl | simp, by rw [fold_up, if_neg hc]; exact HM1.out, by omega, rfl⟩
    case rest =>
      obtain ⟨m2, rfl, hm2, hl2, rfl⟩ := hcut
      have HM2 := Lib.hid hm2
      clear hm2
      go_upto_if 48 with (fail)
      go_cut [11] from 47 (fun v W => FromR W0 ((((([] : List Nat) ++ (if 0 < x then [i - 1] else [])) ++ (if x + 1 < X then [i + 1] else [])) ++ (if 0 < z then [i - X] else [])).foldl (upF L) 0) v W)
      case first =>
        by_cases hc : 0 < z
        · have hcI : (0 : Int) < z := by omega
          obtain ⟨u, hu⟩ : ∃ u : Nat, (i : Int) - (X : Int) = u := ⟨i - X, by have := G2.out hc; omega⟩
          have HU := Lib.hid (show i - X = u by omega)
          have hun : u < n := HMEM.out u (by rw [← HSD.out, ← HU.out]; simp [hc])
          obtain ⟨lu, hlu⟩ : ∃ lu, L[u]? = some lu := ⟨_, List.getElem?_eq_getElem (by rw [HLN.out]; exact hun)⟩
          have hq : W0.cell? ⟨bl, u, none⟩ = some (.int .i64 lu) := HL0.out.cell (by rw [List.getElem?_map, hlu]; rfl)
          have hlu15 : lu ≤ 15 := by have := H15.out u; simp only [List.getD, hlu] at this; exact this
          have HN := Lib.hid (show upF L m2 u = max m2 (lu - 1) by unfold upF; simp [List.getD, hlu])
          have hunI : (u : Int) < n := by omega
          have hu0 : (0 : Int) ≤ (u : Int) := by omega
          obtain ⟨t, ht⟩ : ∃ t : Int, (lu : Int) - 1 = t := ⟨_, rfl⟩
          clear hlu
          by_cases hmx : (m2 : Int) < t
          · obtain ⟨t', rfl⟩ : ∃ t' : Nat, t = t' := ⟨t.toNat, by omega⟩
            go_wp2_with fail
            go_meet
            case rel => exact ⟨t', by first | rfl | simp, by rw [fold_up, if_pos hc, ← HM2.out, HU.out, HN.out]; omega, by omega, rfl⟩
          · go_wp2_with fail
            go_meet
            case rel => exact ⟨m2, by first | rfl | simp, by rw [fold_up, if_pos hc, ← HM2.out, HU.out, HN.out]; omega, by omega, rfl⟩
        · have hcI : ¬ (0 : Int) < z := by omega
          go_wp2_with fail
          go_meet
          case rel => exact ⟨m2, by first | rfl | simp, by rw [fold_up, if_neg hc]; exact HM2.out, by omega, rfl⟩
      case rest =>
        obtain ⟨m3, rfl, hm3, hl3, rfl⟩ := hcut
        have HM3 := Lib.hid hm3
        clear hm3
        go_upto_if 63 with (fail)
        go_cut [11] from 59 (fun v W => FromR W0 (((((([] : List Nat) ++ (if 0 < x then [i - 1] else [])) ++ (if x + 1 < X then [i + 1] else [])) ++ (if 0 < z then [i - X] else [])) ++ (if z + 1 < Z then [i + X] else [])).foldl (upF L) 0) v W)
        case first =>
          by_cases hc : z + 1 < Z
          · have hcI : (z : Int) + 1 < Z := by omega
            obtain ⟨u, hu⟩ : ∃ u : Nat, (i : Int) + (X : Int) = u := ⟨i + X, by omega⟩
            have HU := Lib.hid (show i + X = u by omega)
            have hun : u < n := HMEM.out u (by rw [← HSD.out, ← HU.out]; simp [hc])
            obtain ⟨lu, hlu⟩ : ∃ lu, L[u]? = some lu := ⟨_, List.getElem?_eq_getElem (by rw [HLN.out]; exact hun)⟩
            have hq : W0.cell? ⟨bl, u, none⟩ = some (.int .i64 lu) := HL0.out.cell (by rw [List.getElem?_map, hlu]; rfl)
            have hlu15 : lu ≤ 15 := by have := H15.out u; simp only [List.getD, hlu] at this; exact this
            have HN := Lib.hid (show upF L m3 u = max m3 (lu - 1) by unfold upF; simp [List.getD, hlu])
            have hunI : (u : Int) < n := by omega
            have hu0 : (0 : Int) ≤ (u : Int) := by omega
            obtain ⟨t, ht⟩ : ∃ t : Int, (lu : Int) - 1 = t := ⟨_, rfl⟩
            clear hlu
            by_cases hmx : (m3 : Int) < t
            · obtain ⟨t', rfl⟩ : ∃ t' : Nat, t = t' := ⟨t.toNat, by omega⟩
              go_wp2_with fail
              go_meet
              case rel => exact ⟨t', by first | rfl | simp, by rw [fold_up, if_pos hc, ← HM3.out, HU.out, HN.out]; omega, by omega, rfl⟩
            · go_wp2_with fail
              go_meet
              case rel => exact ⟨m3, by first | rfl | simp, by rw [fold_up, if_pos hc, ← HM3.out, HU.out, HN.out]; omega, by omega, rfl⟩
          · have hcI : ¬ (z : Int) + 1 < Z := by omega
            go_wp2_with fail
            go_meet
            case rel => exact ⟨m3, by first | rfl | simp, by rw [fold_up, if_neg hc]; exact HM3.out, by omega, rfl⟩
        case rest =>
          obtain ⟨m4, rfl, hm4, hl4, rfl⟩ := hcut
          have HM4 := Lib.hid hm4
          clear hm4
          go_upto_if 75 with (fail)
          go_cut [11] from 74 (fun v W => FromR W0 ((((((([] : List Nat) ++ (if 0 < x then [i - 1] else [])) ++ (if x + 1 < X then [i + 1] else [])) ++ (if 0 < z then [i - X] else [])) ++ (if z + 1 < Z then [i + X] else [])) ++ (if 0 < y then [i - S] else [])).foldl (upF L) 0) v W)
          case first =>
            by_cases hc : 0 < y
            · have hcI : (0 : Int) < y := by omega
              obtain ⟨u, hu⟩ : ∃ u : Nat, (i : Int) - (S : Int) = u := ⟨i - S, by have := G3.out hc; omega⟩
              have HU := Lib.hid (show i - S = u by omega)
              have hun : u < n := HMEM.out u (by rw [← HSD.out, ← HU.out]; simp [hc])
              obtain ⟨lu, hlu⟩ : ∃ lu, L[u]? = some lu := ⟨_, List.getElem?_eq_getElem (by rw [HLN.out]; exact hun)⟩
              have hq : W0.cell? ⟨bl, u, none⟩ = some (.int .i64 lu) := HL0.out.cell (by rw [List.getElem?_map, hlu]; rfl)
              have hlu15 : lu ≤ 15 := by have := H15.out u; simp only [List.getD, hlu] at this; exact this
              have HN := Lib.hid (show upF L m4 u = max m4 (lu - 1) by unfold upF; simp [List.getD, hlu])
              have hunI : (u : Int) < n := by omega
              have hu0 : (0 : Int) ≤ (u : Int) := by omega
              obtain ⟨t, ht⟩ : ∃ t : Int, (lu : Int) - 1 = t := ⟨_, rfl⟩
              clear hlu
              by_cases hmx : (m4 : Int) < t
              · obtain ⟨t', rfl⟩ : ∃ t' : Nat, t = t' := ⟨t.toNat, by omega⟩
                go_wp2_with fail
                go_meet
                case rel => exact ⟨t', by first | rfl | simp, by rw [fold_up, if_pos hc, ← HM4.out, HU.out, HN.out]; omega, by omega, rfl⟩
              · go_wp2_with fail
                go_meet
                case rel => exact ⟨m4, by first | rfl | simp, by rw [fold_up, if_pos hc, ← HM4.out, HU.out, HN.out]; omega, by omega, rfl⟩
            · have hcI : ¬ (0 : Int) < y := by omega
              go_wp2_with fail
              go_meet
              case rel => exact ⟨m4, by first | rfl | simp, by rw [fold_up, if_neg hc]; exact HM4.out, by omega, rfl⟩
          case rest =>
            obtain ⟨m5, rfl, hm5, hl5, rfl⟩ := hcut
            have HM5 := Lib.hid hm5
            clear hm5
            go_upto_if 93 with (fail)
            go_cut [11] from 89 (fun v W => FromR W0 (((((((([] : List Nat) ++ (if 0 < x then [i - 1] else [])) ++ (if x + 1 < X then [i + 1] else [])) ++ (if 0 < z then [i - X] else [])) ++ (if z + 1 < Z then [i + X] else [])) ++ (if 0 < y then [i - S] else [])) ++ (if y + 1 < Y then [i + S] else [])).foldl (upF L) 0) v W)
            case first =>
              by_cases hc : y + 1 < Y
              · have hcI : (y : Int) + 1 < Y := by omega
                obtain ⟨u, hu⟩ : ∃ u : Nat, (i : Int) + (S : Int) = u := ⟨i + S, by omega⟩
                have HU := Lib.hid (show i + S = u by omega)
                have hun : u < n := HMEM.out u (by rw [← HSD.out, ← HU.out]; simp [hc])
                obtain ⟨lu, hlu⟩ : ∃ lu, L[u]? = some lu := ⟨_, List.getElem?_eq_getElem (by rw [HLN.out]; exact hun)⟩
                have hq : W0.cell? ⟨bl, u, none⟩ = some (.int .i64 lu) := HL0.out.cell (by rw [List.getElem?_map, hlu]; rfl)
                have hlu15 : lu ≤ 15 := by have := H15.out u; simp only [List.getD, hlu] at this; exact this
                have HN := Lib.hid (show upF L m5 u = max m5 (lu - 1) by unfold upF; simp [List.getD, hlu])
                have hunI : (u : Int) < n := by omega
                have hu0 : (0 : Int) ≤ (u : Int) := by omega
                obtain ⟨t, ht⟩ : ∃ t : Int, (lu : Int) - 1 = t := ⟨_, rfl⟩
                clear hlu
                by_cases hmx : (m5 : Int) < t
                · obtain ⟨t', rfl⟩ : ∃ t' : Nat, t = t' := ⟨t.toNat, by omega⟩
                  go_wp2_with fail
                  go_meet
                  case rel => exact ⟨t', by first | rfl | simp, by rw [fold_up, if_pos hc, ← HM5.out, HU.out, HN.out]; omega, by omega, rfl⟩
                · go_wp2_with fail
                  go_meet
                  case rel => exact ⟨m5, by first | rfl | simp, by rw [fold_up, if_pos hc, ← HM5.out, HU.out, HN.out]; omega, by omega, rfl⟩
              · have hcI : ¬ (y : Int) + 1 < Y := by omega
                go_wp2_with fail
                go_meet
                case rel => exact ⟨m5, by first | rfl | simp, by rw [fold_up, if_neg hc]; exact HM5.out, by omega, rfl⟩
            case rest =>
              obtain ⟨m6, rfl, hm6, hl6, rfl⟩ := hcut
              have HM6 := Lib.hid hm6
              clear hm6
              go_wp2_with fail
              go_ret
              refine ⟨?_, HB0.out⟩
              have h := HM6.out
              simp only [List.append_assoc, List.nil_append] at h
              rw [HAns.out, ← HSD.out, ← h]
              rfl
end GlowW
end Go.Proofs.YtbkadecfmjjadaaDoor
