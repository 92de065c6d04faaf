/-
  The reference's Sources.
-/
import Derived.Test.YtbkadecfmjjadaaDoorGlowRef3
import Derived.Test.YtbkadecfmjjadaaDoorGlowStepsP
namespace Go.Proofs.YtbkadecfmjjadaaDoor
open Go.RowKit
set_option linter.unusedVariables false
set_option linter.unusedSimpArgs false
namespace GlowW
open BlkP RowG KindP KindW
def rowF (n : Nat) (f : Nat → Nat) : List Value := (List.range n).map fun i => .int .i64 (f i : Nat)
theorem rowF_get {n : Nat} {f : Nat → Nat} {i : Nat} (h : i < n) : (rowF n f)[i]? = some (.int .i64 (f i : Nat)) := by simp [rowF, h]
theorem rowF_eq {n : Nat} {f g : Nat → Nat} (h : ∀ i, i < n → f i = g i) : rowF n f = rowF n g := by
  unfold rowF
  apply List.map_congr_left
  intro i hi
  rw [h i (List.mem_range.1 hi)]
theorem rowF_set {n : Nat} {f g : Nat → Nat} {q v : Nat} (hq : q < n) (hv : g q = v) (h : ∀ i, i < n → i ≠ q → f i = g i) : (rowF n f).set q (.int .i64 (v : Nat)) = rowF n g := by
  apply List.ext_getElem?
  intro i
  by_cases e : q = i
  · subst e
    rw [List.getElem?_set_self (by simpa [rowF] using hq), rowF_get hq, hv]
  · rw [List.getElem?_set_ne e]
    by_cases hi : i < n
    · rw [rowF_get hi, rowF_get hi, h i hi (fun x => e x.symm)]
    · rw [List.getElem?_eq_none (by simp [rowF]; omega), List.getElem?_eq_none (by simp [rowF]; omega)]
def colF (S N : Nat) (cl : Nat → Bool) (q i : Nat) : Nat := if i % S < q then GlowP.skyO S N cl i else 0
def colG (S N : Nat) (cl : Nat → Bool) (q t i : Nat) : Nat := if i % S < q then GlowP.skyO S N cl i else if i % S = q ∧ t ≤ i / S then 15 else 0
section
variable {S Y N q t : Nat} {cl : Nat → Bool}
theorem mod_at {y : Nat} (hq : q < S) : (y * S + q) % S = q ∧ (y * S + q) / S = y := by
  have hS : 0 < S := by omega
  constructor
  · rw [Nat.mul_comm, Nat.mul_add_mod, Nat.mod_eq_of_lt hq]
  · rw [Nat.mul_comm, Nat.mul_add_div hS, Nat.div_eq_of_lt hq, Nat.add_zero]
theorem self_at {i : Nat} : i / S * S + i % S = i := by rw [Nat.mul_comm]; exact Nat.div_add_mod i S
theorem div_lt_at {i : Nat} (hN : S * Y = N) (h : i < N) : i / S < Y := Nat.div_lt_of_lt_mul (by rw [hN]; exact h)
theorem at_lt_at {y : Nat} (hN : S * Y = N) (hq : q < S) (hy : y < Y) : y * S + q < N := by
  have : y * S + S ≤ Y * S := by rw [← Nat.succ_mul]; exact Nat.mul_le_mul_right _ hy
  rw [← hN, Nat.mul_comm S Y]
  omega
theorem colG_start (hN : S * Y = N) : ∀ i, i < N → colG S N cl q Y i = colF S N cl q i := fun i hi => by
  have := div_lt_at hN hi
  unfold colG colF
  rw [if_neg (show ¬ (i % S = q ∧ Y ≤ i / S) by omega)]
theorem colG_step (hq : q < S) : colG S N cl q t (t * S + q) = 15 ∧ ∀ i, i ≠ t * S + q → colG S N cl q (t + 1) i = colG S N cl q t i := by
  obtain ⟨h1, h2⟩ := mod_at (y := t) hq
  refine ⟨?_, fun i hi => ?_⟩
  · unfold colG
    rw [h1, h2, if_neg (by omega), if_pos ⟨rfl, Nat.le_refl _⟩]
  · unfold colG
    by_cases a : i % S < q
    · rw [if_pos a, if_pos a]
    · rw [if_neg a, if_neg a]
      by_cases b : i % S = q ∧ t ≤ i / S
      · by_cases c : t = i / S
        · exfalso
          apply hi
          rw [c, ← b.1]
          exact self_at.symm
        · rw [if_pos b, if_pos ⟨b.1, by omega⟩]
      · rw [if_neg b, if_neg (fun e => b ⟨e.1, by omega⟩)]
theorem sky_col (hN : S * Y = N) (hq : q < S) (hcl : ∀ y, t ≤ y → y < Y → cl (y * S + q) = true) {i : Nat} (hi : i < N) (hm : i % S = q) (ht : t ≤ i / S) : GlowP.skyO S N cl i = 15 := by
  have hS : 0 < S := by omega
  have hy := div_lt_at hN hi
  unfold GlowP.skyO
  rw [if_pos ((GlowP.sky_iff hS).2 ⟨?_, fun k hk => ?_⟩)]
  · have := hcl (i / S) ht hy
    rw [← hm, self_at] at this
    exact this
  · have e : i + k * S = (i / S + k) * S + q := by
      rw [Nat.add_mul, ← hm]
      have := self_at (S := S) (i := i)
      omega
    have hlt : i / S + k < Y := by
      have := div_lt_at hN hk
      rw [e, (mod_at hq).2] at this
      exact this
    rw [e]
    exact hcl _ (by omega) hlt
theorem colG_break (hN : S * Y = N) (hq : q < S) (ht : t < Y) (hcl : ∀ y, t + 1 ≤ y → y < Y → cl (y * S + q) = true) (hc : cl (t * S + q) = false) : ∀ i, i < N → colG S N cl q (t + 1) i = colF S N cl (q + 1) i := fun i hi => by
  have hS : 0 < S := by omega
  unfold colG colF
  by_cases a : i % S < q
  · rw [if_pos a, if_pos (by omega)]
  · rw [if_neg a]
    by_cases b : i % S = q
    · rw [if_pos (show i % S < q + 1 by omega)]
      by_cases c : t + 1 ≤ i / S
      · rw [if_pos ⟨b, c⟩, sky_col hN hq hcl hi b c]
      · rw [if_neg (fun e => c e.2)]
        have e : i + (t - i / S) * S = t * S + q := by
          have h1 := self_at (S := S) (i := i)
          have h2 : (t - i / S) * S + i / S * S = t * S := by rw [← Nat.add_mul]; congr 1; omega
          omega
        exact (sun_no (k := t - i / S) hS (by rw [e]; exact at_lt_at hN hq ht) (by rw [e]; exact hc)).symm
    · rw [if_neg (fun e => b e.1), if_neg (by omega)]
theorem colG_end (hN : S * Y = N) (hq : q < S) (hcl : ∀ y, 0 ≤ y → y < Y → cl (y * S + q) = true) : ∀ i, i < N → colG S N cl q 0 i = colF S N cl (q + 1) i := fun i hi => by
  unfold colG colF
  by_cases a : i % S < q
  · rw [if_pos a, if_pos (by omega)]
  · rw [if_neg a]
    by_cases b : i % S = q
    · rw [if_pos ⟨b, Nat.zero_le _⟩, if_pos (by omega), sky_col hN hq hcl hi b (Nat.zero_le _)]
    · rw [if_neg (fun e => b e.1), if_neg (by omega)]
end
theorem rowF_zero (S N n : Nat) (cl : Nat → Bool) : rowF n (colF S N cl 0) = List.replicate n (.int .i64 0) := by
  apply List.ext_getElem?
  intro i
  by_cases hi : i < n
  · rw [rowF_get hi, List.getElem?_replicate, if_pos hi]
    rfl
  · rw [List.getElem?_eq_none (by simp [rowF]; omega), List.getElem?_eq_none (by simp; omega)]
theorem rowF_sky {X Y Z n : Nat} (hX : 1 ≤ X) (hZ : 1 ≤ Z) (hn : X * Y * Z = n) (O : List Bool) : rowF n (colF (X * Z) n (GlowP.clO O) (Z * X)) = (skyL X Y Z O).map i64v := by
  subst hn
  unfold skyL rowF
  rw [List.map_map]
  apply List.map_congr_left
  intro i _
  have : 0 < X * Z := Nat.mul_pos hX hZ
  unfold colF
  rw [if_pos (by rw [Nat.mul_comm Z X]; exact Nat.mod_lt _ this)]
  rfl
def SzRel (w0 : World) (g n m : Nat) (f : Nat → List Value) (v : Value) (W : World) : Prop := ∃ y : Nat, v = .int .i64 y ∧ y ≤ m ∧ Blk W g 3 (f y) ∧ Below w0.heap.size w0 W
def SyRel (w0 : World) (g n S Y q : Nat) (cl : Nat → Bool) (v : Value) (W : World) : Prop := ∃ (t : Nat) (s : Int), v = .int .i64 s ∧ s = (t : Int) - 1 ∧ t ≤ Y ∧ (∀ y, t ≤ y → y < Y → cl (y * S + q) = true) ∧ Blk W g 3 (rowF n (colG S n cl q t)) ∧ Below w0.heap.size w0 W
set_option maxRecDepth 100000 in
set_option maxHeartbeats 16000000 in
theorem sources_c {w : World} {X Y Z n c bb oo : Nat} {cs : List (Nat × Nat)} (hX : 1 ≤ X ∧ X ≤ 256) (hY : 1 ≤ Y ∧ Y ≤ 256) (hZ : 1 ≤ Z ∧ Z ≤ 256) (hn : X * Y * Z = n) (hn2 : n ≤ 6000)
    (hR : Rd enc2 w (.slice (some ⟨bb, oo, none⟩) n c) cs) (hcs : n = cs.length) :
    Calls Tryd.prog 31 #[.agg #[.int .i64 X, .int .i64 Y, .int .i64 Z, .slice (some ⟨bb, oo, none⟩) n c]] w (WholeI w n ((skyL X Y Z (cs.map openA)).map i64v)) := by
  have HN := Lib.hid hn
  have HR := Lib.hid hR
  have HC := Lib.hid hcs
  obtain ⟨cl, hcl⟩ : ∃ cl, GlowP.clO (cs.map openA) = cl := ⟨_, rfl⟩
  obtain ⟨S, hS⟩ : ∃ S, X * Z = S := ⟨_, rfl⟩
  have HS := Lib.hid hS
  have HSN := Lib.hid (show S * Y = n by rw [← hS, ← hn]; ac_rfl)
  have HCLO := Lib.hid (show ∀ (u : Nat) (k l : Nat), cs[u]? = some (k, l) → cl u = openA (k, l) from fun u k l h => by rw [← hcl, openL, h])
  have HANS := Lib.hid (show rowF n (colF S n cl (Z * X)) = (skyL X Y Z (cs.map openA)).map i64v by rw [← hcl, ← hS]; exact rowF_sky hX.1 hZ.1 hn _)
  rw [← HANS.out]
  clear hn hR hcs hcl hS
  go_enter Tryd.func31, Tryd.ntmps31
  go_wp2_with ((with_reducible refine at_slot 11 ?_); refine Classical.byContradiction (fun hG => ?_))
  refine hG ?_
  clear hG
  refine list_named (fun W => W.cell? ⟨w.heap.size, 0, none⟩ = some (.int .i64 X) ∧ W.cell? ⟨w.heap.size, 1, none⟩ = some (.int .i64 Y) ∧ W.cell? ⟨w.heap.size, 2, none⟩ = some (.int .i64 Z) ∧ W.cell? ⟨w.heap.size, 3, none⟩ = some (.slice (some ⟨bb, oo, none⟩) n c) ∧ w.heap.size < W.heap.size ∧ Below w.heap.size w W) (by (refine ⟨?_, ?_, ?_, ?_, ?_, by (repeat' (first | (with_reducible exact Below.refl _ _) | (with_reducible refine Below.setCell ?_ (by (first | omega | (simp; done) | (simp; omega))) _) | (with_reducible refine Below.alloc ?_ (by (first | omega | (simp; done) | (simp; omega))) _) | (with_reducible refine Below.drew ?_) | (with_reducible refine below_drewN ?_ _)))⟩); all_goals (repeat' (first | (with_reducible assumption) | (with_reducible refine HeldP.c_drew ?_) | (with_reducible refine HeldP.c_drewN ?_) | (with_reducible refine HeldP.c_same (by omega) ?_) | (with_reducible refine HeldP.c_other ?_ ?_) | (with_reducible refine HeldP.c_new (by first | omega | (simp; done) | (simp; omega)) ?_) | (with_reducible refine HeldP.c_alloc ?_ ?_) | (with_reducible refine HeldP.e_drew ?_) | (with_reducible refine HeldP.e_drewN ?_) | (with_reducible refine HeldP.e_set ?_) | (with_reducible refine HeldP.e_new (by first | omega | (simp; done) | (simp; omega)) ⟨_, rfl⟩) | (with_reducible refine HeldP.e_alloc ?_ ?_) | (with_reducible refine HeldP.f_drew ?_) | (with_reducible refine HeldP.f_drewN ?_) | (with_reducible refine HeldP.f_set ?_) | (with_reducible refine HeldP.f_new (by first | omega | (simp; done) | (simp; omega))) | (with_reducible refine HeldP.f_alloc ?_ ?_) | (with_reducible refine HeldP.s_drew ?_) | (with_reducible refine HeldP.s_drewN ?_) | (with_reducible refine HeldP.s_set ?_) | (with_reducible refine HeldP.s_new (by first | omega | (simp; done) | (simp; omega))) | (with_reducible refine HeldP.s_alloc ?_) | (with_reducible exact ⟨_, by assumption⟩) | omega | (intro e; simp at e; done) | (intro e; simp at e; omega) | (exact rfl) | (simp; done) | (simp; omega)))) ?_
  rintro wk ⟨k0, k1, k2, k3, hzw, hb0⟩
  have KK0 := Lib.hid k0
  have KK1 := Lib.hid k1
  have KK2 := Lib.hid k2
  have KK3 := Lib.hid k3
  have HB0 := Lib.hid hb0
  have HRK := Lib.hid (HR.out.below hb0)
  clear hb0 k0 k1 k2 k3
  refine wp_makeI _ rfl _ _ rfl n rfl rfl (by omega) ?_
  intro w2 hd2 hb2
  obtain ⟨gn, hgn⟩ : ∃ gn, wk.heap.size = gn := ⟨_, rfl⟩
  rw [hgn] at hd2 ⊢
  have HD2 := Lib.hid (show Blk w2 gn 3 (rowF n (colF S n cl 0)) by rw [rowF_zero]; exact hd2)
  have HB2 := Lib.hid hb2
  have hgn1 : wk.heap.size ≤ gn := by omega
  have hwgn : w.heap.size ≠ gn := by omega
  clear hd2 hb2 hgn
  go_wp2_with fail
  go_loopw [4] (SzRel wk gn n Z (fun z => rowF n (colF S n cl (z * X)))) (fun v _ => Z - (intOf v).toNat)
  case atStart => exact ⟨0, rfl, by omega, by simp only [Nat.zero_mul]; exact HD2.out, HB2.out⟩
  case round =>
    obtain ⟨z, rfl, hz, hd, hb⟩ := hrel
    have HDZ := Lib.hid hd
    have HBZ := Lib.hid hb
    have k0 : wr.cell? ⟨w.heap.size, 0, none⟩ = some (.int .i64 X) := (hb.cell (p := ⟨w.heap.size, 0, none⟩) hzw).trans KK0.out
    have k1 : wr.cell? ⟨w.heap.size, 1, none⟩ = some (.int .i64 Y) := (hb.cell (p := ⟨w.heap.size, 1, none⟩) hzw).trans KK1.out
    have k2 : wr.cell? ⟨w.heap.size, 2, none⟩ = some (.int .i64 Z) := (hb.cell (p := ⟨w.heap.size, 2, none⟩) hzw).trans KK2.out
    have k3 : wr.cell? ⟨w.heap.size, 3, none⟩ = some (.slice (some ⟨bb, oo, none⟩) n c) := (hb.cell (p := ⟨w.heap.size, 3, none⟩) hzw).trans KK3.out
    clear hd hb
    by_cases hzZ : z < Z
    · have hzI : (z : Int) < Z := by omega
      go_wp2_with fail
      go_loopw [5] (SzRel wk gn n X (fun x => rowF n (colF S n cl (z * X + x)))) (fun v _ => X - (intOf v).toNat)
      case atStart => exact ⟨0, rfl, by omega, by simp only [Nat.add_zero]; exact HDZ.out, HBZ.out⟩
      case round =>
        clear k0 k1 k2 k3
        obtain ⟨x, rfl, hx, hd, hb⟩ := hrel
        have HDX := Lib.hid hd
        have HBX := Lib.hid hb
        have k0 : wr.cell? ⟨w.heap.size, 0, none⟩ = some (.int .i64 X) := (hb.cell (p := ⟨w.heap.size, 0, none⟩) hzw).trans KK0.out
        have k1 : wr.cell? ⟨w.heap.size, 1, none⟩ = some (.int .i64 Y) := (hb.cell (p := ⟨w.heap.size, 1, none⟩) hzw).trans KK1.out
        have k2 : wr.cell? ⟨w.heap.size, 2, none⟩ = some (.int .i64 Z) := (hb.cell (p := ⟨w.heap.size, 2, none⟩) hzw).trans KK2.out
        have k3 : wr.cell? ⟨w.heap.size, 3, none⟩ = some (.slice (some ⟨bb, oo, none⟩) n c) := (hb.cell (p := ⟨w.heap.size, 3, none⟩) hzw).trans KK3.out
        clear hd hb
        by_cases hxX : x < X
        · have hxI : (x : Int) < X := by omega
          obtain ⟨q, hq⟩ : ∃ q, z * X + x = q := ⟨_, rfl⟩
          have hqS : q < S := by
            have : (z + 1) * X ≤ Z * X := Nat.mul_le_mul_right _ hzZ
            rw [Nat.succ_mul] at this
            rw [← HS.out, Nat.mul_comm X Z]
            omega
          have HQ := Lib.hid hq
          have HNX := Lib.hid (show z * X + (x + 1) = q + 1 by omega)
          have HDQ := Lib.hid (show Blk wr gn 3 (rowF n (colG S n cl q Y)) by
            have h : Blk wr gn 3 (rowF n (colF S n cl (z * X + x))) := HDX.out
            rw [hq, ← rowF_eq (colG_start HSN.out)] at h
            exact h)
          clear hq
          go_wp2_with fail
          go_loopw [6] (SyRel wk gn n S Y q cl) (fun v _ => (intOf v + 1).toNat)
          case atStart => exact ⟨Y, _, rfl, rfl, Nat.le_refl _, fun y h1 h2 => by omega, HDQ.out, HBX.out⟩
          case round =>
            clear k0 k1 k2 k3
            obtain ⟨t, s, rfl, hs, ht, hall, hd, hb⟩ := hrel
            have HDT := Lib.hid hd
            have HBT := Lib.hid hb
            have HALL := Lib.hid hall
            have hdl := hd.lt
            have hrl := hb.size
            have k0 : wr.cell? ⟨w.heap.size, 0, none⟩ = some (.int .i64 X) := (hb.cell (p := ⟨w.heap.size, 0, none⟩) hzw).trans KK0.out
            have k1 : wr.cell? ⟨w.heap.size, 1, none⟩ = some (.int .i64 Y) := (hb.cell (p := ⟨w.heap.size, 1, none⟩) hzw).trans KK1.out
            have k2 : wr.cell? ⟨w.heap.size, 2, none⟩ = some (.int .i64 Z) := (hb.cell (p := ⟨w.heap.size, 2, none⟩) hzw).trans KK2.out
            have k3 : wr.cell? ⟨w.heap.size, 3, none⟩ = some (.slice (some ⟨bb, oo, none⟩) n c) := (hb.cell (p := ⟨w.heap.size, 3, none⟩) hzw).trans KK3.out
            by_cases ht0 : t = 0
            · subst ht0
              have hsI : s < 0 := by omega
              clear hd hb hall
              go_wp2_with fail
              go_roundw
              case rel => exact ⟨x + 1, by go_num, by omega, by show Blk _ gn 3 (rowF n (colF S n cl (z * X + (x + 1)))); rw [HNX.out, ← rowF_eq (colG_end HSN.out hqS HALL.out)]; exact HDT.out, HBT.out⟩
              case measure => first | (simp [intOf]; done) | (simp [intOf]; omega)
            · obtain ⟨y, rfl⟩ : ∃ y, t = y + 1 := ⟨t - 1, by omega⟩
              obtain rfl : s = (y : Int) := by omega
              have hyY : y < Y := by omega
              obtain ⟨i, hi⟩ : ∃ i, (y * Z + z) * X + x = i := ⟨_, rfl⟩
              have hiq : y * S + q = i := by
                rw [← hi, ← HS.out, ← HQ.out, Nat.add_mul, Nat.mul_assoc, Nat.mul_comm Z X]
                omega
              have hin : i < n := by rw [← hiq]; exact at_lt_at HSN.out hqS hyY
              have HIQ := Lib.hid hiq
              obtain ⟨p1, hp1⟩ : ∃ p, y * Z = p := ⟨_, rfl⟩
              obtain ⟨p2, hp2⟩ : ∃ p, p1 + z = p := ⟨_, rfl⟩
              obtain ⟨p3, hp3⟩ : ∃ p, p2 * X = p := ⟨_, rfl⟩
              have e1 : (y : Int) * (Z : Int) = (p1 : Int) := by rw [← hp1]; simp
              have e2 : (p1 : Int) + (z : Int) = (p2 : Int) := by omega
              have e3 : (p2 : Int) * (X : Int) = (p3 : Int) := by rw [← hp3]; simp
              rw [hp1, hp2, hp3] at hi
              have e4 : (p3 : Int) + (x : Int) = (i : Int) := by omega
              have l3 : p2 ≤ p3 := by rw [← hp3]; exact Nat.le_mul_of_pos_right _ (by omega)
              have l1 : p3 ≤ i := by omega
              obtain ⟨⟨kk, ll⟩, hcx⟩ : ∃ x, cs[i]? = some x := ⟨_, List.getElem?_eq_getElem (by have := HC.out; omega)⟩
              obtain ⟨b', o', hbo', hblw, c0, c1⟩ := rd2 (HRK.out.below hb) hcx
              obtain ⟨rfl, rfl⟩ : bb = b' ∧ oo = o' := by injection hbo' with hbo'; injection hbo' with e1 e2 e3; exact ⟨e1, e2⟩
              obtain ⟨oa, hoa⟩ : ∃ oa, openA (kk, ll) = oa := ⟨_, rfl⟩
              have HOA := Lib.hid hoa
              have HCI := Lib.hid (show cl (y * S + q) = oa by rw [hiq, HCLO.out i kk ll hcx]; exact hoa)
              have hiI : (i : Int) < n := by omega
              have hi0 : (0 : Int) ≤ (i : Int) := by omega
              have hy0 : (0 : Int) ≤ (y : Int) := by omega
              clear hd hb hall hi hp1 hp2 hp3 hcx hbo' hoa hiq hs
              cases oa
              · go_wp2_with (go_at_call 40; refine (rclear_c HOA.out).mono ?_; rintro e w5 ⟨rfl, hb5⟩; have HB5 := Lib.hid hb5; clear hb5)
                go_roundw
                case rel => exact ⟨x + 1, by go_num, by omega, by show Blk _ gn 3 (rowF n (colF S n cl (z * X + (x + 1)))); rw [HNX.out, ← rowF_eq (colG_break HSN.out hqS hyY HALL.out HCI.out)]; exact HDT.out.below HB5.out, HBT.out.trans (HB5.out.mono HBT.out.size)⟩
                case measure => first | (simp [intOf]; done) | (simp [intOf]; omega)
              · go_wp2_with (go_at_call 40; refine Classical.byContradiction (fun hG => ?_))
                refine hG ?_
                clear hG
                refine (rclear_c HOA.out).mono ?_
                rintro e w5 ⟨rfl, hb5⟩
                have hd5 := HDT.out.below hb5
                have dc : w5.cell? ⟨gn, i, none⟩ = some (.int .i64 (colG S n cl q (y + 1) i : Nat)) := hd5.cell (rowF_get hin)
                have df := hd5.frozen i
                have HD5 := Lib.hid hd5
                have HB5 := Lib.hid (bel_th HBT.out hb5 HBT.out.size)
                clear hb5 hd5 c0 c1 e1 e2 e3 e4 k0 k1 k2 k3
                go_wp2_with fail
                go_roundw
                case rel =>
                  refine ⟨y, (y : Int) - 1, by first | rfl | go_num, rfl, by omega, fun y' h1 h2 => ?_, ?_, HB5.out.setCell hgn1 _⟩
                  · by_cases e : y' = y
                    · subst e
                      exact HCI.out
                    · exact HALL.out y' (by omega) h2
                  · obtain ⟨g1, g2⟩ := colG_step (S := S) (N := n) (cl := cl) (t := y) hqS
                    refine HD5.out.setTo ?_
                    exact rowF_set (v := 15) hin (by rw [← HIQ.out]; exact g1) (fun i' _ hne => g2 i' (by rw [HIQ.out]; exact hne))
                case measure => first | (simp [intOf]; done) | (simp [intOf]; omega)
        · obtain rfl : x = X := by omega
          go_wp2_with fail
          go_roundw
          case rel => exact ⟨z + 1, by go_num, by omega, by have h := HDX.out; show Blk _ gn 3 (rowF n (colF S n cl ((z + 1) * x))); rw [show (z + 1) * x = z * x + x by rw [Nat.succ_mul]]; exact h, HBX.out⟩
          case measure => first | (simp [intOf]; done) | (simp [intOf]; omega)
    · obtain rfl : z = Z := by omega
      go_wp2_with fail
      go_ret
      exact ⟨gn, rfl, HDZ.out, HB0.out.trans (HBZ.out.mono HB0.out.size)⟩
end GlowW
end Go.Proofs.YtbkadecfmjjadaaDoor
