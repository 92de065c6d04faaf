/-
  What the laws of ray ask in common: Same, goes, no, awake.
-/
import Derived.Test.YtcmndfjoaoinjaaDoorRayNo
import Derived.Test.YtcmndfjoaoinjaaDoorRayTab
import Derived.Deep.QuietTactic
import Derived.BigQuiet
namespace Go.Proofs.YtcmndfjoaoinjaaDoor
open Go.RowKit
set_option linter.unusedVariables false
set_option linter.unusedSimpArgs false
namespace RayP
open PlaceW BlkP
/-- A slice of places: its cells. -/
def RowT (w : World) (v : Value) (l : List T3) : Prop := ∃ A c, v = .slice A l.length c ∧ l.length ≤ c ∧ c ≤ maxLen ∧ (l ≠ [] → ∃ g, A = some ⟨g, 0, none⟩ ∧ g < w.heap.size ∧
    ∀ i p, l[i]? = some p → w.cell? ⟨g, i * 3, none⟩ = some (.int .i64 p.x) ∧ w.cell? ⟨g, i * 3 + 1, none⟩ = some (.int .i64 p.y) ∧ w.cell? ⟨g, i * 3 + 2, none⟩ = some (.int .i64 p.z))
theorem OwnL.rowT {w : World} {B : Nat} {v : Value} {l : List T3} (h : OwnL w B v l) : RowT w v l := by
  obtain ⟨A, c, rfl, hc, hm, hne⟩ := h.cells
  refine ⟨A, c, rfl, hc, hm, fun h0 => ?_⟩
  obtain ⟨g, hA, _, hg, hcs⟩ := hne h0
  exact ⟨g, hA, hg, fun i p hp => (hcs i p hp).1⟩
theorem RowT.below {w w' : World} {v : Value} {l : List T3} (h : RowT w v l) (hb : Below w.heap.size w w') : RowT w' v l := by
  obtain ⟨A, c, rfl, hc, hm, hne⟩ := h
  refine ⟨A, c, rfl, hc, hm, fun h0 => ?_⟩
  obtain ⟨g, hA, hg, hcs⟩ := hne h0
  refine ⟨g, hA, Nat.lt_of_lt_of_le hg hb.size, fun i p hp => ?_⟩
  obtain ⟨h1, h2, h3⟩ := hcs i p hp
  exact ⟨(hb.cell (p := ⟨g, _, none⟩) hg).trans h1, (hb.cell (p := ⟨g, _, none⟩) hg).trans h2, (hb.cell (p := ⟨g, _, none⟩) hg).trans h3⟩
theorem lst_get {l : List T3} {k : Nat} (h : k < l.length) : ∃ p, l[k]? = some p := ⟨_, List.getElem?_eq_getElem h⟩
set_option maxHeartbeats 2000000 in
/-- Two slices of the same places. -/
theorem same_yes {w : World} {va vb : Value} {l : List T3} (ha : RowT w va l) (hb : RowT w vb l) (hl : l.length ≤ 1000) :
    Calls Tryd.prog 9 #[va, vb] w fun e w' => e = .returned (.bool true) ∧ Below w.heap.size w w' := by
  obtain ⟨A, ca, rfl, hca, hma, hna⟩ := ha
  obtain ⟨B, cb, rfl, hcb, hmb, hnb⟩ := hb
  obtain ⟨n, hn⟩ : ∃ n, l.length = n := ⟨_, rfl⟩
  rw [hn] at hca hcb hl ⊢
  have HN := Lib.hid hn
  have HA := Lib.hid hna
  have HB := Lib.hid hnb
  have hML : maxLen = 9223372036854775807 := rfl
  have hma2 : ca ≤ 9223372036854775807 := hma
  have hmb2 : cb ≤ 9223372036854775807 := hmb
  clear hn hna hnb hma hmb hML
  go_enter Tryd.func9, Tryd.ntmps9
  go_wp2_with fail
  go_loopw [5] (fun i wr => ∃ k : Nat, k ≤ n ∧ i = .int .i64 (k : Int) ∧ Below w.heap.size w wr) (fun i _ => (n - intOf i).toNat)
  case atStart => exact ⟨0, by omega, rfl, Below.refl _ _⟩
  case round =>
    obtain ⟨k, hk, rfl, hby⟩ := hrel
    by_cases hlt : k < n
    · obtain ⟨p, hp⟩ := lst_get (l := l) (k := k) (by rw [HN.out]; exact hlt)
      have hne : l ≠ [] := fun e => by
        rw [e] at hp
        simp at hp
      obtain ⟨g1, rfl, hg1, hc1⟩ := HA.out hne
      obtain ⟨g2, rfl, hg2, hc2⟩ := HB.out hne
      obtain ⟨a0, a1, a2⟩ := hc1 k p hp
      obtain ⟨b0, b1, b2⟩ := hc2 k p hp
      have c0 := (hby.cell (p := ⟨g1, _, none⟩) hg1).trans a0
      have c1 := (hby.cell (p := ⟨g1, _, none⟩) hg1).trans a1
      have c2 := (hby.cell (p := ⟨g1, _, none⟩) hg1).trans a2
      have d0 := (hby.cell (p := ⟨g2, _, none⟩) hg2).trans b0
      have d1 := (hby.cell (p := ⟨g2, _, none⟩) hg2).trans b1
      have d2 := (hby.cell (p := ⟨g2, _, none⟩) hg2).trans b2
      have hI : (k : Int) < (n : Int) := by omega
      have h0 : (0 : Int) ≤ (k : Int) := by omega
      have HBY := Lib.hid hby
      clear a0 a1 a2 b0 b1 b2 hc1 hc2 hby hp
      go_wp2_with fail
      go_quiet (fail)
      go_wp2_with fail
      go_roundw
      case rel => exact ⟨k + 1, by omega, by go_num, by have := HBY.out; (repeat' (first | (with_reducible exact Below.refl _ _) | (with_reducible refine Below.setCell ?_ (by (first | omega | (simp; done) | (simp; omega))) _) | (with_reducible refine Below.alloc ?_ (by (first | omega | (simp; done) | (simp; omega))) _) | (with_reducible refine Below.drew ?_) | (with_reducible refine below_drewN ?_ _) | (with_reducible refine Below.trans ?_ (Below.mono this (by (first | omega | (simp; done) | (simp; omega)))))))⟩
      case measure => (simp only [intOf]; omega)
    · obtain rfl : k = n := by omega
      have hI : ¬ (k : Int) < (k : Int) := by omega
      have HBY := Lib.hid hby
      clear hby
      go_wp2_with fail
      go_ret
      exact ⟨rfl, HBY.out⟩
/-- A slice of numbers: those of places, three each. -/
def IntT (w : World) (v : Value) (l : List T3) : Prop := ∃ A c, v = .slice A (3 * l.length) c ∧ 3 * l.length ≤ c ∧ c ≤ maxLen ∧ (l ≠ [] → ∃ g, A = some ⟨g, 0, none⟩ ∧ g < w.heap.size ∧
    ∀ i p, l[i]? = some p → w.cell? ⟨g, 3 * i, none⟩ = some (.int .i64 p.x) ∧ w.cell? ⟨g, 3 * i + 1, none⟩ = some (.int .i64 p.y) ∧ w.cell? ⟨g, 3 * i + 2, none⟩ = some (.int .i64 p.z))
theorem IntT.nil (w : World) : IntT w (.slice none 0 0) [] := ⟨none, 0, rfl, Nat.le_refl _, by simp [maxLen], fun h => absurd rfl h⟩
theorem IntT.of {w : World} {g : Nat} {T : TypeId} {l : List T3} (h : Blk w g T (cellsL l)) (hl : l.length ≤ 1000) {N : Nat} (hN : N = 3 * l.length) : IntT w (.slice (some ⟨g, 0, none⟩) N N) l := by
  subst hN
  refine ⟨_, _, rfl, Nat.le_refl _, by (unfold maxLen; omega), fun _ => ⟨g, rfl, h.lt, fun i p hp => ?_⟩⟩
  obtain ⟨h1, h2, h3⟩ := cellsL_get hp
  rw [Nat.mul_comm 3 i]
  exact ⟨h.cell h1, h.cell h2, h.cell h3⟩
theorem IntT.below {w w' : World} {v : Value} {l : List T3} (h : IntT w v l) (hb : Below w.heap.size w w') : IntT w' v l := by
  obtain ⟨A, c, rfl, hc, hm, hne⟩ := h
  refine ⟨A, c, rfl, hc, hm, fun h0 => ?_⟩
  obtain ⟨g, hA, hg, hcs⟩ := hne h0
  refine ⟨g, hA, Nat.lt_of_lt_of_le hg hb.size, fun i p hp => ?_⟩
  obtain ⟨h1, h2, h3⟩ := hcs i p hp
  exact ⟨(hb.cell (p := ⟨g, _, none⟩) hg).trans h1, (hb.cell (p := ⟨g, _, none⟩) hg).trans h2, (hb.cell (p := ⟨g, _, none⟩) hg).trans h3⟩
set_option maxHeartbeats 4000000 in
theorem goes_yes {w : World} {p d : T3} {n : Int} {l : List T3} {vl : Value} (hT : ATab w) (he : errA p d n = 0) (hl : ansA p d n = l) (hlen : l.length ≤ 256) (hI : IntT w vl l) :
    Calls Tryd.prog 11 #[.agg #[.int .i64 p.x, .int .i64 p.y, .int .i64 p.z], .agg #[.int .i64 d.x, .int .i64 d.y, .int .i64 d.z], .int .i64 n, vl] w fun e w' => e = .returned (.bool true) ∧ Below w.heap.size w w' := by
  have HT := Lib.hid hT
  have HE := Lib.hid he
  have HL := Lib.hid hl
  have HI := Lib.hid hI
  obtain ⟨A, ca, rfl, hca, hma, hna⟩ := hI
  obtain ⟨nn, hn⟩ : ∃ nn, l.length = nn := ⟨_, rfl⟩
  rw [hn] at hca hlen ⊢
  have HN := Lib.hid hn
  have HA := Lib.hid hna
  have hma2 : ca ≤ 9223372036854775807 := hma
  clear hn hna hma hT he hl
  go_enter Tryd.func11, Tryd.ntmps11
  go_wp2_with fail
  go_at_call 7
  refine (way_any (HT.out.below (by (repeat' (first | (with_reducible exact Below.refl _ _) | (with_reducible refine Below.setCell ?_ (by (first | omega | (simp; done) | (simp; omega))) _) | (with_reducible refine Below.alloc ?_ (by (first | omega | (simp; done) | (simp; omega))) _) | (with_reducible refine Below.drew ?_) | (with_reducible refine below_drewN ?_ _))))) HE.out HL.out).mono ?_
  rintro e w1 ⟨va, rfl, hO, hb1⟩
  have hb1' : Below w.heap.size w w1 := by (repeat' (first | (with_reducible exact Below.refl _ _) | (with_reducible refine Below.setCell ?_ (by (first | omega | (simp; done) | (simp; omega))) _) | (with_reducible refine Below.alloc ?_ (by (first | omega | (simp; done) | (simp; omega))) _) | (with_reducible refine Below.drew ?_) | (with_reducible refine below_drewN ?_ _) | (with_reducible refine Below.trans ?_ (Below.mono hb1 (by (first | omega | (simp; done) | (simp; omega)))))))
  obtain ⟨B, cb, rfl, hcb, hmb, hnb⟩ := hO.rowT
  have HN2 := HN.out
  rw [HN2] at hcb ⊢
  clear HN2
  have HB := Lib.hid hnb
  have hmb2 : cb ≤ 9223372036854775807 := hmb
  have HB1 := Lib.hid hb1'
  have e1 : ((3 * (nn : Int)) == ((3 * nn : Nat) : Int)) = true := by simp
  clear hb1 hb1' hO hnb hmb HI
  go_wp2_with fail
  go_loopw [11] (fun i wr => ∃ k : Nat, k ≤ nn ∧ i = .int .i64 (k : Int) ∧ Below w.heap.size w wr ∧ Below w1.heap.size w1 wr) (fun i _ => (nn - intOf i).toNat)
  case atStart => exact ⟨0, by omega, rfl, HB1.out, Below.refl _ _⟩
  case round =>
    obtain ⟨k, hk, rfl, hby, hby1⟩ := hrel
    by_cases hlt : k < nn
    · obtain ⟨q, hp⟩ := lst_get (l := l) (k := k) (by rw [HN.out]; exact hlt)
      have hne : l ≠ [] := fun e => by
        rw [e] at hp
        simp at hp
      obtain ⟨g1, rfl, hg1, hc1⟩ := HA.out hne
      obtain ⟨g2, rfl, hg2, hc2⟩ := HB.out hne
      obtain ⟨a0, a1, a2⟩ := hc1 k q hp
      obtain ⟨b0, b1, b2⟩ := hc2 k q hp
      have c0 := (hby.cell (p := ⟨g1, _, none⟩) hg1).trans a0
      have c1 := (hby.cell (p := ⟨g1, _, none⟩) hg1).trans a1
      have c2 := (hby.cell (p := ⟨g1, _, none⟩) hg1).trans a2
      have d0 := (hby1.cell (p := ⟨g2, _, none⟩) hg2).trans b0
      have d1 := (hby1.cell (p := ⟨g2, _, none⟩) hg2).trans b1
      have d2 := (hby1.cell (p := ⟨g2, _, none⟩) hg2).trans b2
      have hI : (k : Int) < (nn : Int) := by omega
      have h0 : (0 : Int) ≤ (k : Int) := by omega
      have x0 : IntKind.i64.wrap (3 * (k : Int)) = 3 * (k : Int) := IntWalk.i64_in _ (by omega)
      have x1 : IntKind.i64.wrap (3 * (k : Int) + 1) = 3 * (k : Int) + 1 := IntWalk.i64_in _ (by omega)
      have x2 : IntKind.i64.wrap (3 * (k : Int) + 2) = 3 * (k : Int) + 2 := IntWalk.i64_in _ (by omega)
      have y0 : (3 * (k : Int)).toNat = 3 * k := by omega
      have y1 : (3 * (k : Int) + 1).toNat = 3 * k + 1 := by omega
      have y2 : (3 * (k : Int) + 2).toNat = 3 * k + 2 := by omega
      have z0 : 0 ≤ 3 * (k : Int) := by omega
      have z1 : 0 ≤ 3 * (k : Int) + 1 := by omega
      have z2 : 0 ≤ 3 * (k : Int) + 2 := by omega
      have t0 : 3 * (k : Int) < ((3 * nn : Nat) : Int) := by omega
      have t1 : 3 * (k : Int) + 1 < ((3 * nn : Nat) : Int) := by omega
      have t2 : 3 * (k : Int) + 2 < ((3 * nn : Nat) : Int) := by omega
      have HBY := Lib.hid hby
      have HBY1 := Lib.hid hby1
      clear a0 a1 a2 b0 b1 b2 hc1 hc2 hby hby1 hp
      go_wp2_with fail
      go_quiet (fail)
      clear x0 x1 x2 y0 y1 y2
      go_wp2_with fail
      go_roundw
      case rel => exact ⟨k + 1, by omega, by go_num, by have := HBY.out; (repeat' (first | (with_reducible exact Below.refl _ _) | (with_reducible refine Below.setCell ?_ (by (first | omega | (simp; done) | (simp; omega))) _) | (with_reducible refine Below.alloc ?_ (by (first | omega | (simp; done) | (simp; omega))) _) | (with_reducible refine Below.drew ?_) | (with_reducible refine below_drewN ?_ _) | (with_reducible refine Below.trans ?_ (Below.mono this (by (first | omega | (simp; done) | (simp; omega))))))), by have := HBY1.out; (repeat' (first | (with_reducible exact Below.refl _ _) | (with_reducible refine Below.setCell ?_ (by (first | omega | (simp; done) | (simp; omega))) _) | (with_reducible refine Below.alloc ?_ (by (first | omega | (simp; done) | (simp; omega))) _) | (with_reducible refine Below.drew ?_) | (with_reducible refine below_drewN ?_ _) | (with_reducible refine Below.trans ?_ (Below.mono this (by (first | omega | (simp; done) | (simp; omega)))))))⟩
      case measure => (simp only [intOf]; omega)
    · obtain rfl : k = nn := by omega
      have hI : ¬ (k : Int) < (k : Int) := by omega
      have HBY := Lib.hid hby
      clear hby hby1
      go_wp2_with fail
      go_ret
      exact ⟨rfl, HBY.out⟩
set_option maxHeartbeats 4000000 in
theorem no_yes {w : World} {p d : T3} {n er : Int} (hT : ATab w) (he : errA p d n = er) (hl : ansA p d n = []) :
    Calls Tryd.prog 12 #[.agg #[.int .i64 p.x, .int .i64 p.y, .int .i64 p.z], .agg #[.int .i64 d.x, .int .i64 d.y, .int .i64 d.z], .int .i64 n, .int .i64 er] w fun e w' => e = .returned (.bool true) ∧ Below w.heap.size w w' := by
  have HT := Lib.hid hT
  have HE := Lib.hid he
  have HL := Lib.hid hl
  clear hT he hl
  go_enter Tryd.func12, Tryd.ntmps12
  go_wp2_with fail
  go_at_call 7
  refine (way_any (HT.out.below (by (repeat' (first | (with_reducible exact Below.refl _ _) | (with_reducible refine Below.setCell ?_ (by (first | omega | (simp; done) | (simp; omega))) _) | (with_reducible refine Below.alloc ?_ (by (first | omega | (simp; done) | (simp; omega))) _) | (with_reducible refine Below.drew ?_) | (with_reducible refine below_drewN ?_ _))))) HE.out HL.out).mono ?_
  rintro e w1 ⟨va, rfl, hO, hb1⟩
  have hb1' : Below w.heap.size w w1 := by (repeat' (first | (with_reducible exact Below.refl _ _) | (with_reducible refine Below.setCell ?_ (by (first | omega | (simp; done) | (simp; omega))) _) | (with_reducible refine Below.alloc ?_ (by (first | omega | (simp; done) | (simp; omega))) _) | (with_reducible refine Below.drew ?_) | (with_reducible refine below_drewN ?_ _) | (with_reducible refine Below.trans ?_ (Below.mono hb1 (by (first | omega | (simp; done) | (simp; omega)))))))
  obtain ⟨B, cb, rfl, hcb, hmb, hnb⟩ := hO.rowT
  have HB1 := Lib.hid hb1'
  clear hb1 hb1' hO hnb hmb hcb
  go_wp2_with fail
  go_ret
  exact ⟨rfl, HB1.out⟩
def p20 : T3 := ⟨0, 0, 20⟩
def p64 : T3 := ⟨0, 0, 64⟩
def d111 : T3 := ⟨1, 1, 1⟩
def d0 : T3 := ⟨0, 0, 0⟩
theorem awake_1 : errA p20 d111 3 = 0 ∧ ansA p20 d111 3 = [⟨1, 0, 20⟩, ⟨1, 1, 20⟩, ⟨1, 1, 21⟩] := ⟨by kernel_rfl, by kernel_rfl⟩
theorem awake_2 : errA p64 d0 1 = 10 ∧ ansA p64 d0 1 = [] := ⟨by kernel_rfl, by kernel_rfl⟩
set_option maxHeartbeats 4000000 in
theorem awake_c {w : World} (hT : ATab w) : Calls Tryd.prog 10 #[] w fun e w' => e = .returned (.bool true) ∧ Below w.heap.size w w' := by
  have HT := Lib.hid hT
  clear hT
  go_enter Tryd.func10, Tryd.ntmps10
  go_wp2_with fail
  go_at_call 11
  refine (goes_yes (p := p20) (d := d111) (HT.out.below (by (repeat' (first | (with_reducible exact Below.refl _ _) | (with_reducible refine Below.setCell ?_ (by (first | omega | (simp; done) | (simp; omega))) _) | (with_reducible refine Below.alloc ?_ (by (first | omega | (simp; done) | (simp; omega))) _) | (with_reducible refine Below.drew ?_) | (with_reducible refine below_drewN ?_ _))))) awake_1.1 awake_1.2 (by decide) (IntT.of (by (repeat' (first | (with_reducible refine BlkP.Blk.drew ?_) | (with_reducible refine BlkP.Blk.drewN ?_ _) | (with_reducible refine BlkP.Blk.setAt (us := ?_) (by first | omega | (simp; done) | (simp; omega)) rfl ?_ ?_) | (with_reducible refine BlkP.Blk.otherAt ?_ (by first | omega | (simp; done) | (simp; omega))) | (with_reducible refine BlkP.Blk.newA' (by first | omega | (simp; done) | (simp; omega)) rfl) | (with_reducible refine BlkP.Blk.alloc ?_ _) | (exact rfl)))) (by decide) rfl)).mono ?_
  rintro e w1 ⟨rfl, hb1⟩
  have hb1' : Below w.heap.size w w1 := by (repeat' (first | (with_reducible exact Below.refl _ _) | (with_reducible refine Below.setCell ?_ (by (first | omega | (simp; done) | (simp; omega))) _) | (with_reducible refine Below.alloc ?_ (by (first | omega | (simp; done) | (simp; omega))) _) | (with_reducible refine Below.drew ?_) | (with_reducible refine below_drewN ?_ _) | (with_reducible refine Below.trans ?_ (Below.mono hb1 (by (first | omega | (simp; done) | (simp; omega)))))))
  have HB1 := Lib.hid hb1'
  clear hb1 hb1'
  go_wp2_with fail
  go_at_call 12
  refine (no_yes (p := p64) (d := d0) (HT.out.below HB1.out) awake_2.1 awake_2.2).mono ?_
  rintro e w2 ⟨rfl, hb2⟩
  go_wp2_with fail
  go_ret
  exact ⟨rfl, HB1.out.trans (hb2.mono HB1.out.size)⟩
end RayP
end Go.Proofs.YtcmndfjoaoinjaaDoor
