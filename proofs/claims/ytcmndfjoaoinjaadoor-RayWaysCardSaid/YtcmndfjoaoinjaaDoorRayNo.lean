/-
  Way, and the reference's, whatever is asked: one contract each, refusals with it.
-/
import Derived.Test.YtcmndfjoaoinjaaDoorRayWay
import Derived.Test.YtcmndfjoaoinjaaDoorRayRef
namespace Go.Proofs.YtcmndfjoaoinjaaDoor
open Go.RowKit
set_option linter.unusedVariables false
set_option linter.unusedSimpArgs false
namespace RayP
open PlaceW BlkP
/-- The error that is answered. -/
def errA (p d : T3) (n : Int) : Int := if mayT p = true then (if dirB d.x d.y d.z = true ∧ 0 ≤ n ∧ n ≤ 256 then 0 else 2) else 10
/-- The places that are answered. -/
def ansA (p d : T3) (n : Int) : List T3 := if errA p d n = 0 then wayA p d n.toNat else []
/-- What a call leaves. -/
def WayE (l : List T3) (er : Int) (w0 : World) (e : Ending) (w' : World) : Prop := ∃ v, e = .returned (.tuple #[v, .int .i64 er]) ∧ OwnL w' w0.heap.size v l ∧ Below w0.heap.size w0 w'
theorem no_e {er : Int} {w0 w' : World} (hb : Below w0.heap.size w0 w') : WayE [] er w0 (.returned (.tuple #[.slice none 0 0, .int .i64 er])) w' := ⟨_, rfl, OwnL.nil _ _, hb⟩
set_option maxHeartbeats 1000000 in
theorem way_no1 {p d : T3} {n : Int} {w : World} (hp : mayT p = false) : Calls Tryd.prog 7 #[.agg #[.int .i64 p.x, .int .i64 p.y, .int .i64 p.z], .agg #[.int .i64 d.x, .int .i64 d.y, .int .i64 d.z], .int .i64 n] w (WayE [] 10 w) := by
  have HP := Lib.hid (show mayB p.x p.y p.z = false from hp)
  clear hp
  go_enter Tryd.func7, Tryd.ntmps7
  go_wp2_with fail
  go_step3
  go_wp2_with fail
  go_at_call 15
  refine (may_b HP.out _).mono ?_
  rintro e w1 ⟨rfl, hb1⟩
  go_wp2_with fail
  try rw [Exit.noGoto_ret]
  go_ret2
  exact no_e (by (repeat' (first | (with_reducible exact Below.refl _ _) | (with_reducible refine Below.setCell ?_ (by (first | omega | (simp; done) | (simp; omega))) _) | (with_reducible refine Below.alloc ?_ (by (first | omega | (simp; done) | (simp; omega))) _) | (with_reducible refine Below.drew ?_) | (with_reducible refine below_drewN ?_ _) | (with_reducible refine Below.trans ?_ (Below.mono hb1 (by (first | omega | (simp; done) | (simp; omega))))))))
set_option maxHeartbeats 1000000 in
theorem way_no2 {p d : T3} {n : Int} {w : World} (hp : mayT p = true) (hd : dirB d.x d.y d.z = false ∨ n < 0 ∨ 256 < n) : Calls Tryd.prog 7 #[.agg #[.int .i64 p.x, .int .i64 p.y, .int .i64 p.z], .agg #[.int .i64 d.x, .int .i64 d.y, .int .i64 d.z], .int .i64 n] w (WayE [] 2 w) := by
  have HP := Lib.hid (show mayB p.x p.y p.z = true from hp)
  have HC : ∀ r, dirB d.x d.y d.z = r → (r = false ∨ n < 0 ∨ 256 < n) := fun r h => h ▸ hd
  obtain ⟨r, hr⟩ : ∃ r, dirB d.x d.y d.z = r := ⟨_, rfl⟩
  have hc := HC r hr
  have HR := Lib.hid hr
  clear hp hd HC hr
  cases r with
  | false =>
    clear hc
    go_enter Tryd.func7, Tryd.ntmps7
    go_wp2_with fail
    go_step3
    go_wp2_with fail
    go_at_call 15
    refine (may_b HP.out _).mono ?_
    rintro e w1 ⟨rfl, hb1⟩
    obtain ⟨hc1, hf1⟩ := bcell hb1; have hz1 : w.heap.size + 1 < w1.heap.size := (by have := hb1.size; (try simp at this); omega); have hl1_0 : w.heap.size < w1.heap.size := (by omega); have hn1_0 : w.heap.size ≠ w1.heap.size := (by omega); have hn1_1 : w.heap.size + 1 ≠ w1.heap.size := (by omega)
    go_wp2_with fail
    go_at_call 16
    refine (direction_c HR.out _).mono ?_
    rintro e w2 ⟨rfl, hb2⟩
    go_wp2_with fail
    try rw [Exit.noGoto_ret]
    go_ret2
    exact no_e (by (repeat' (first | (with_reducible exact Below.refl _ _) | (with_reducible refine Below.setCell ?_ (by (first | omega | (simp; done) | (simp; omega))) _) | (with_reducible refine Below.alloc ?_ (by (first | omega | (simp; done) | (simp; omega))) _) | (with_reducible refine Below.drew ?_) | (with_reducible refine below_drewN ?_ _) | (with_reducible refine Below.trans ?_ (Below.mono hb1 (by (first | omega | (simp; done) | (simp; omega))))) | (with_reducible refine Below.trans ?_ (Below.mono hb2 (by (first | omega | (simp; done) | (simp; omega))))))))
  | true =>
    have hc2 : n < 0 ∨ 256 < n := by rcases hc with h | h | h <;> first | cases h | exact .inl h | exact .inr h
    clear hc
    rcases hc2 with h | h
    all_goals
      go_enter Tryd.func7, Tryd.ntmps7
      go_wp2_with fail
      go_step3
      go_wp2_with fail
      go_at_call 15
      refine (may_b HP.out _).mono ?_
      rintro e w1 ⟨rfl, hb1⟩
      obtain ⟨hc1, hf1⟩ := bcell hb1; have hz1 : w.heap.size + 1 < w1.heap.size := (by have := hb1.size; (try simp at this); omega); have hl1_0 : w.heap.size < w1.heap.size := (by omega); have hn1_0 : w.heap.size ≠ w1.heap.size := (by omega); have hn1_1 : w.heap.size + 1 ≠ w1.heap.size := (by omega)
      go_wp2_with fail
      go_at_call 16
      refine (direction_c HR.out _).mono ?_
      rintro e w2 ⟨rfl, hb2⟩
      go_wp2_with fail
      try rw [Exit.noGoto_ret]
      go_ret2
      exact no_e (by (repeat' (first | (with_reducible exact Below.refl _ _) | (with_reducible refine Below.setCell ?_ (by (first | omega | (simp; done) | (simp; omega))) _) | (with_reducible refine Below.alloc ?_ (by (first | omega | (simp; done) | (simp; omega))) _) | (with_reducible refine Below.drew ?_) | (with_reducible refine below_drewN ?_ _) | (with_reducible refine Below.trans ?_ (Below.mono hb1 (by (first | omega | (simp; done) | (simp; omega))))) | (with_reducible refine Below.trans ?_ (Below.mono hb2 (by (first | omega | (simp; done) | (simp; omega))))))))
/-- Way, whatever is asked. -/
theorem way_any {p d : T3} {n er : Int} {l : List T3} {w : World} (hT : ATab w) (he : errA p d n = er) (hl : ansA p d n = l) : Calls Tryd.prog 7 #[.agg #[.int .i64 p.x, .int .i64 p.y, .int .i64 p.z], .agg #[.int .i64 d.x, .int .i64 d.y, .int .i64 d.z], .int .i64 n] w (WayE l er w) := by
  subst he hl
  by_cases hp : mayT p = true
  · by_cases hc : dirB d.x d.y d.z = true ∧ 0 ≤ n ∧ n ≤ 256
    · obtain ⟨k, rfl⟩ : ∃ k : Nat, n = k := ⟨n.toNat, by omega⟩
      have e : errA p d k = 0 := by rw [errA, if_pos hp, if_pos hc]
      rw [ansA, e, if_pos rfl]
      exact (way_c hT hp hc.1 (by omega)).mono fun _ _ h => h
    · have e : errA p d n = 2 := by rw [errA, if_pos hp, if_neg hc]
      rw [ansA, e, if_neg (by omega)]
      refine way_no2 hp ?_
      cases hd : dirB d.x d.y d.z with
      | false => exact .inl rfl
      | true =>
        right
        by_cases h0 : n < 0
        · exact .inl h0
        · exact .inr (by
            rw [hd] at hc
            simp at hc
            omega)
  · have e : errA p d n = 10 := by rw [errA, if_neg hp]
    rw [ansA, e, if_neg (by omega)]
    exact way_no1 (Bool.eq_false_iff.2 hp)
set_option maxHeartbeats 1000000 in
theorem r_way_no1 {p d : T3} {n : Int} {w : World} (hp : mayT p = false) : Calls Tryd.prog 8 #[.agg #[.int .i64 p.x, .int .i64 p.y, .int .i64 p.z], .agg #[.int .i64 d.x, .int .i64 d.y, .int .i64 d.z], .int .i64 n] w (WayE [] 10 w) := by
  have HP := Lib.hid (show mayB p.x p.y p.z = false from hp)
  clear hp
  go_enter Tryd.func8, Tryd.ntmps8
  go_wp2_with fail
  go_at_call 21
  refine (r_may_b HP.out _).mono ?_
  rintro e w1 ⟨rfl, hb1⟩
  go_wp2_with fail
  go_ret2
  exact no_e (by (repeat' (first | (with_reducible exact Below.refl _ _) | (with_reducible refine Below.setCell ?_ (by (first | omega | (simp; done) | (simp; omega))) _) | (with_reducible refine Below.alloc ?_ (by (first | omega | (simp; done) | (simp; omega))) _) | (with_reducible refine Below.drew ?_) | (with_reducible refine below_drewN ?_ _) | (with_reducible refine Below.trans ?_ (Below.mono hb1 (by (first | omega | (simp; done) | (simp; omega))))))))
/-- How far the numbers have been looked at, all within. -/
def SomeM (d : T3) (v8 v9 : Value) : Prop := ∃ k : Nat, k ≤ 3 ∧ v9 = .int .i64 (k : Int) ∧ v8 = .bool (someK d k) ∧ ∀ j, j < k → inD (numK d j) = true
theorem dir_of {d : T3} (h : ∀ j, j < 3 → inD (numK d j) = true) (hs : someK d 3 = true) : dirB d.x d.y d.z = true := by
  have hx : inD d.x = true := h 0 (by omega)
  have hy : inD d.y = true := h 1 (by omega)
  have hz : inD d.z = true := h 2 (by omega)
  unfold dirB
  rw [hx, hy, hz]
  simp [someK] at hs
  by_cases a : d.x = 0
  · by_cases b : d.y = 0
    · simp [a, b] at hs ⊢
      exact hs
    · simp [b]
  · simp [a]
set_option maxHeartbeats 4000000 in
theorem r_way_no2 {p d : T3} {n : Int} {w : World} (hp : mayT p = true) (hd : dirB d.x d.y d.z = false ∨ n < 0 ∨ 256 < n) : Calls Tryd.prog 8 #[.agg #[.int .i64 p.x, .int .i64 p.y, .int .i64 p.z], .agg #[.int .i64 d.x, .int .i64 d.y, .int .i64 d.z], .int .i64 n] w (WayE [] 2 w) := by
  have HP := Lib.hid (show mayB p.x p.y p.z = true from hp)
  have HC := Lib.hid hd
  clear hp hd
  go_enter Tryd.func8, Tryd.ntmps8
  go_wp2_with fail
  go_at_call 21
  refine (r_may_b HP.out _).mono ?_
  rintro e w1 ⟨rfl, hb1⟩
  have hB1 : Blk w1 (w.heap.size + 1) 24 [.int .i64 d.x, .int .i64 d.y, .int .i64 d.z] := BlkP.Blk.below (by (repeat' (first | (with_reducible refine BlkP.Blk.drew ?_) | (with_reducible refine BlkP.Blk.drewN ?_ _) | (with_reducible refine BlkP.Blk.setAt (us := ?_) (by first | omega | (simp; done) | (simp; omega)) rfl ?_ ?_) | (with_reducible refine BlkP.Blk.otherAt ?_ (by first | omega | (simp; done) | (simp; omega))) | (with_reducible refine BlkP.Blk.newA' (by first | omega | (simp; done) | (simp; omega)) rfl) | (with_reducible refine BlkP.Blk.alloc ?_ _) | (exact rfl)))) hb1
  have hb1' : Below w.heap.size w w1 := by (repeat' (first | (with_reducible exact Below.refl _ _) | (with_reducible refine Below.setCell ?_ (by (first | omega | (simp; done) | (simp; omega))) _) | (with_reducible refine Below.alloc ?_ (by (first | omega | (simp; done) | (simp; omega))) _) | (with_reducible refine Below.drew ?_) | (with_reducible refine below_drewN ?_ _) | (with_reducible refine Below.trans ?_ (Below.mono hb1 (by (first | omega | (simp; done) | (simp; omega)))))))
  have c0 := hB1.cell (i := 0) (v := .int .i64 d.x) rfl
  have c1 := hB1.cell (i := 1) (v := .int .i64 d.y) rfl
  have c2 := hB1.cell (i := 2) (v := .int .i64 d.z) rfl
  have HBB1 := Lib.hid hb1'
  clear hB1 hb1' hb1
  go_wp2_with fail
  go_loop [8, 9] (fun v8 v9 => SomeM d v8 v9) (fun _ v9 => (3 - intOf v9).toNat)
  case atStart => exact ⟨0, by omega, rfl, by simp [someK], fun j hj => absurd hj (by omega)⟩
  case round =>
    obtain ⟨k, hk, rfl, rfl, hall⟩ := hrel
    obtain ⟨sb, hsb⟩ : ∃ sb, someK d k = sb := ⟨_, rfl⟩
    rw [hsb]
    have HSB := Lib.hid hsb
    have HALL := Lib.hid hall
    clear hsb hall
    by_cases hlt : k < 3
    · have HK : Hid (someK d (k + 1) = (sb || decide (numK d k ≠ 0))) := Lib.hid (by rw [someK_succ d hlt, HSB.out])
      obtain ⟨x, hx⟩ : ∃ x, numK d k = x := ⟨_, rfl⟩
      have hcx : w1.cell? ⟨w.heap.size + 1, k, none⟩ = some (.int .i64 x) := by
        subst hx
        match k, hlt with
        | 0, _ => exact c0
        | 1, _ => exact c1
        | 2, _ => exact c2
      have HX := Lib.hid hx
      have hkI : (k : Int) < 3 := by omega
      cases hin : inD x with
      | true =>
        obtain ⟨b1, b2⟩ := inD_true hin
        have HA2 : Hid (∀ j, j < k + 1 → inD (numK d j) = true) := Lib.hid (fun j hj => by
          rcases Nat.lt_or_eq_of_le (Nat.le_of_lt_succ hj) with h1 | rfl
          · exact HALL.out j h1
          · rw [hx]
            exact hin)
        have hk1 : ¬ x < -1000 := by omega
        have hk2 : ¬ 1000 < x := by omega
        clear hx c0 c1 c2 hin
        cases sb with
        | true =>
          go_wp2_with fail
          go_round
          case rel => exact ⟨k + 1, by omega, by go_num, by rw [HK.out]; rfl, HA2.out⟩
          case measure => (simp only [intOf]; omega)
        | false =>
          go_wp2_with fail
          go_round
          case rel => exact ⟨k + 1, by omega, by go_num, by rw [HK.out, HX.out]; by_cases q : x = 0 <;> simp [q], HA2.out⟩
          case measure => (simp only [intOf]; omega)
      | false =>
        have hx2 := inD_false hin
        clear hx c0 c1 c2 hin
        rcases hx2 with h | h
        all_goals
          go_wp2_with fail
          go_ret2
          exact no_e HBB1.out
    · obtain rfl : k = 3 := by omega
      clear c0 c1 c2
      cases sb with
      | false =>
        go_wp2_with fail
        go_ret2
        exact no_e HBB1.out
      | true =>
        have hn : n < 0 ∨ 256 < n := by
          rcases HC.out with h | h | h
          · rw [dir_of HALL.out HSB.out] at h
            cases h
          · exact .inl h
          · exact .inr h
        rcases hn with h | h
        all_goals
          go_wp2_with fail
          go_ret2
          exact no_e HBB1.out
/-- The reference's Way, whatever is asked. -/
theorem r_way_any {p d : T3} {n er : Int} {l : List T3} {w : World} (he : errA p d n = er) (hl : ansA p d n = l) : Calls Tryd.prog 8 #[.agg #[.int .i64 p.x, .int .i64 p.y, .int .i64 p.z], .agg #[.int .i64 d.x, .int .i64 d.y, .int .i64 d.z], .int .i64 n] w (WayE l er w) := by
  subst he hl
  by_cases hp : mayT p = true
  · by_cases hc : dirB d.x d.y d.z = true ∧ 0 ≤ n ∧ n ≤ 256
    · obtain ⟨k, rfl⟩ : ∃ k : Nat, n = k := ⟨n.toNat, by omega⟩
      have e : errA p d k = 0 := by rw [errA, if_pos hp, if_pos hc]
      rw [ansA, e, if_pos rfl]
      exact (r_way_c hp hc.1 (by omega)).mono fun _ _ h => h
    · have e : errA p d n = 2 := by rw [errA, if_pos hp, if_neg hc]
      rw [ansA, e, if_neg (by omega)]
      refine r_way_no2 hp ?_
      cases hd : dirB d.x d.y d.z with
      | false => exact .inl rfl
      | true =>
        right
        by_cases h0 : n < 0
        · exact .inl h0
        · exact .inr (by
            rw [hd] at hc
            simp at hc
            omega)
  · have e : errA p d n = 10 := by rw [errA, if_neg hp]
    rw [ansA, e, if_neg (by omega)]
    exact r_way_no1 (Bool.eq_false_iff.2 hp)
end RayP
end Go.Proofs.YtcmndfjoaoinjaaDoor
