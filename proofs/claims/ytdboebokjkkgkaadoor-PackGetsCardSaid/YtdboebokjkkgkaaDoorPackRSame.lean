/-
  The reference says of two chunks that hold the same that they are the same.
-/
import Derived.Test.YtdboebokjkkgkaaDoorPackSame
namespace Go.Proofs.YtdboebokjkkgkaaDoor
open Go.RowKit
set_option linter.unusedVariables false
set_option linter.unusedSimpArgs false
namespace PackW
open BytesW RunsW

def RSRel (w : World) (n : Nat) (v : Value) (wr : World) : Prop := ∃ j : Nat, v = .int .i64 j ∧ j ≤ n ∧ Below w.heap.size w wr

set_option maxRecDepth 100000 in
set_option maxHeartbeats 4000000 in
theorem rsame_c {w : World} {p q : Nat} {k : Ck} (hp : ChkK w p k) (hq : ChkK w q k) :
    Calls Tryd.prog 14 #[.pointer (some ⟨p, 0, none⟩), .pointer (some ⟨q, 0, none⟩)] w fun e w' => e = .returned (.bool true) ∧ Below w.heap.size w w' := by
  obtain ⟨C, L, ts⟩ := k
  obtain ⟨TA, tc, h1, h2, h3, h4, h5⟩ := hp
  obtain ⟨TB, td, g1, g2, g3, g4, g5⟩ := hq
  simp only at h1 h2 h3 h5 g1 g2 g3 g5
  have HP := Lib.hid h1
  have HQ := Lib.hid g1
  have HPT := Lib.hid h2
  have HQT := Lib.hid g2
  have hpl := h1.lt
  have hql := g1.lt
  obtain ⟨n, hn⟩ : ∃ n, n = ts.length := ⟨_, rfl⟩
  have t0 := h1.t
  have t1 := g1.t
  rw [← hn] at h3 h5 g3 g5 t0 t1
  have HN := Lib.hid hn
  have hCL := h1.2.1
  have hLL := h1.2.2
  have HT0 := Lib.hid t0
  have HT1 := Lib.hid t1
  clear h1 g1 h2 g2 hn t0 t1
  go_enter Tryd.func14, Tryd.ntmps14
  go_wp2_with fail
  go_loopw [5] (RSRel w 4096) (fun v _ => 4096 - (intOf v).toNat)
  case atStart => exact ⟨0, rfl, by omega, Below.refl _ _⟩
  case round =>
    obtain ⟨j, rfl, hj, hbw⟩ := hrel
    have HB := Lib.hid hbw
    have hz := hbw.size
    clear hbw
    by_cases hj4 : j < 4096
    · have hjI : (j : Int) < 4096 := by omega
      obtain ⟨x, hx⟩ : ∃ x, C[j]? = some x := ⟨_, List.getElem?_eq_getElem (by omega)⟩
      obtain ⟨y, hy⟩ : ∃ y, L[j]? = some y := ⟨_, List.getElem?_eq_getElem (by omega)⟩
      have hkp := HP.out.below HB.out
      have hkq := HQ.out.below HB.out
      obtain ⟨X, hX⟩ : ∃ X : Int, X = (x.1.toNat : Int) := ⟨_, rfl⟩
      obtain ⟨Y, hY⟩ : ∃ Y : Int, Y = (x.2.toNat : Int) := ⟨_, rfl⟩
      obtain ⟨U, hU⟩ : ∃ U : Int, U = (y.1.toNat : Int) := ⟨_, rfl⟩
      obtain ⟨V, hV⟩ : ∃ V : Int, V = (y.2.toNat : Int) := ⟨_, rfl⟩
      have a0 := (hkp.cell (j * 2)).trans (ckV_c hCL hx).1
      have a1 := (hkp.cell (j * 2 + 1)).trans (ckV_c hCL hx).2
      have a2 := (hkp.cell (8192 + j * 2)).trans (ckV_l hCL hy).1
      have a3 := (hkp.cell (8192 + j * 2 + 1)).trans (ckV_l hCL hy).2
      have b0 := (hkq.cell (j * 2)).trans (ckV_c hCL hx).1
      have b1 := (hkq.cell (j * 2 + 1)).trans (ckV_c hCL hx).2
      have b2 := (hkq.cell (8192 + j * 2)).trans (ckV_l hCL hy).1
      have b3 := (hkq.cell (8192 + j * 2 + 1)).trans (ckV_l hCL hy).2
      simp only [bv, ← hX, ← hY, ← hU, ← hV] at a0 a1 a2 a3 b0 b1 b2 b3
      clear hx hy hkp hkq hX hY hU hV
      go_wp2_with fail
      go_quiet (fail)
      go_wp2
      go_roundw
      case rel => exact ⟨j + 1, by go_num, by omega, BaseP.below_drewN HB.out _⟩
      case measure => simp [intOf]; omega
    · have hjI : ¬ (j : Int) < 4096 := by omega
      have t0 := (HB.out.cell (p := ⟨p, 16384, none⟩) hpl).trans HT0.out
      have t1 := (HB.out.cell (p := ⟨q, 16384, none⟩) hql).trans HT1.out
      obtain ⟨wo, rfl⟩ : ∃ wo : World, wo = wr := ⟨_, rfl⟩
      go_wp2_with fail
      go_quiet (fail)
      go_wp2
      go_loopw [6] (RSRel w n) (fun v _ => n - (intOf v).toNat)
      case atStart => exact ⟨0, rfl, by omega, BaseP.below_drewN HB.out _⟩
      case round =>
        obtain ⟨i, rfl, hi, hbw⟩ := hrel
        have HB2 := Lib.hid hbw
        clear hbw t0 t1
        have t0 := (HB2.out.cell (p := ⟨p, 16384, none⟩) hpl).trans HT0.out
        have t1 := (HB2.out.cell (p := ⟨q, 16384, none⟩) hql).trans HT1.out
        by_cases hil : i < n
        · have hiI : (i : Int) < n := by omega
          have hi0 : (0 : Int) ≤ (i : Int) := by omega
          obtain ⟨⟨a, d⟩, hx⟩ : ∃ x, ts[i]? = some x := ⟨_, List.getElem?_eq_getElem (by have := HN.out; omega)⟩
          obtain ⟨b, o, rfl, hbl, hcs⟩ := (HPT.out.below HB2.out).cells (fun e => by rw [e] at hx; simp at hx)
          obtain ⟨b', o', rfl, hbl', hcs'⟩ := (HQT.out.below HB2.out).cells (fun e => by rw [e] at hx; simp at hx)
          obtain ⟨p0, p1⟩ := hcs _ _ hx
          obtain ⟨p2, p3⟩ := hcs' _ _ hx
          simp only [tkv] at p0 p1 p2 p3
          clear hcs hcs' hx
          go_wp2_with fail
          go_quiet (fail)
          go_wp2
          go_roundw
          case rel => exact ⟨i + 1, by go_num, by omega, BaseP.below_drewN HB2.out _⟩
          case measure => simp [intOf]; omega
        · have hiI : ¬ (i : Int) < n := by omega
          go_wp2_with fail
          go_ret
          exact ⟨rfl, HB2.out⟩
end PackW
end Go.Proofs.YtdboebokjkkgkaaDoor
