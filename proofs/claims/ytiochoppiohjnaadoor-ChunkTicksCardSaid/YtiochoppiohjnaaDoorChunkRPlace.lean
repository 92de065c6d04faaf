/-
  The reference's place, Due.
-/
import Derived.Test.YtiochoppiohjnaaDoorChunkRLeast
namespace Go.Proofs.YtiochoppiohjnaaDoor
open Go.RowKit
set_option linter.unusedVariables false
set_option linter.unusedSimpArgs false
namespace ChunkW
open BytesW PackW

def RPRel (w : World) (ts : List Tick) (x : Int) (i : Value) (wr : World) : Prop := ∃ j : Nat, i = .int .i64 j ∧ j ≤ ts.length ∧ (∀ k, k < j → ∀ t, ts[k]? = some t → atP x t = false) ∧ Below w.heap.size w wr
set_option maxRecDepth 100000 in
set_option maxHeartbeats 4000000 in
theorem rplace_c {w : World} {A : Option Addr} {ts : List Tick} {n c : Nat} {x r : Int} (hA : PairC tkv w A ts) (hn : n = ts.length) (hl : n ≤ 1000000) (hr : findI ts x = r) :
    Calls Tryd.prog 47 #[.slice A n c, .int .i64 x] w fun e w' => e = .returned (.int .i64 r) ∧ Below w.heap.size w w' := by
  have HP := Lib.hid hA
  have HN := Lib.hid hn
  have HR := Lib.hid hr
  clear hA hn hr
  by_cases h0 : x < 0
  · have HF : Hid (r = -1) := Lib.hid (by
      rw [← HR.out, findI, findT, if_neg (by unfold isIx; simp; omega)])
    have h0I : ¬ (0 : Int) ≤ x := by omega
    go_enter Tryd.func47, Tryd.ntmps47
    go_wp2_with fail
    go_loopw [5] (fun v wr => v = .int .i64 0 ∧ Below w.heap.size w wr) (fun _ _ => 1)
    case atStart => exact ⟨rfl, Below.refl _ _⟩
    case round =>
      obtain ⟨rfl, hbw⟩ := hrel
      have HB := Lib.hid hbw
      clear hbw
      by_cases hn0 : 0 < n
      · have e : decide ((0 : Int) < n) = true := by simpa using hn0
        go_wp2_with fail
        go_ret
        exact ⟨by rw [HF.out]; rfl, HB.out⟩
      · have e : decide ((0 : Int) < n) = false := by simpa using hn0
        go_wp2_with fail
        go_ret
        exact ⟨by rw [HF.out]; rfl, HB.out⟩
  · have h0I : (0 : Int) ≤ x := by omega
    by_cases h1 : x ≤ 4095
    · have hix : isIx x = true := by unfold isIx; simp; omega
      have HIX := Lib.hid hix
      clear hix h0
      go_enter Tryd.func47, Tryd.ntmps47
      go_wp2_with fail
      go_loopw [5] (RPRel w ts x) (fun v _ => n - (intOf v).toNat)
      case atStart => exact ⟨0, rfl, by omega, fun k hk => by omega, Below.refl _ _⟩
      case round =>
        obtain ⟨j, rfl, hj, hall, hbw⟩ := hrel
        have HB := Lib.hid hbw
        have HALL := Lib.hid hall
        have hjn : j ≤ n := by have := HN.out; omega
        clear hbw hj hall
        by_cases hjl : j < n
        · have hjI : (j : Int) < n := by omega
          have hjI0 : (0 : Int) ≤ j := by omega
          obtain ⟨⟨a, d⟩, hx⟩ : ∃ x, ts[j]? = some x := ⟨_, List.getElem?_eq_getElem (by have := HN.out; omega)⟩
          have HX := Lib.hid hx
          obtain ⟨b, o, rfl, hbl, hcs⟩ := (HP.out.below HB.out).cells (fun e => by rw [e] at hx; simp at hx)
          obtain ⟨c0, c1⟩ := hcs _ _ hx
          simp only [tkv] at c0 c1
          clear hx hcs
          by_cases hd : a = x
          · have HF : Hid (r = (j : Int)) := Lib.hid (by
              rw [← HR.out, findI, findT, if_pos HIX.out, idx_at HX.out (by simpa [atP] using hd) HALL.out])
            clear HR HIX HALL
            subst hd
            go_wp2_with fail
            go_ret
            exact ⟨by rw [HF.out]; rfl, HB.out⟩
          · have HNX : Hid (∀ k, k < j + 1 → ∀ t, ts[k]? = some t → atP x t = false) := Lib.hid (fun k hk t ht => by
              rcases Nat.lt_or_eq_of_le (Nat.le_of_lt_succ hk) with h | h
              · exact HALL.out k h t ht
              · subst h
                rw [HX.out] at ht
                injection ht with ht
                subst ht
                simpa [atP] using hd)
            have e9 : (a == x) = false := by simpa using hd
            go_wp2_with fail
            go_roundw
            case rel => exact ⟨j + 1, by go_num, by have := HN.out; omega, HNX.out, by have HBo := HB.out; (repeat' (first | (with_reducible exact Below.refl _ _) | (with_reducible refine Below.setCell ?_ (by (first | omega | (simp; done) | (simp; omega))) _) | (with_reducible refine Below.alloc ?_ (by (first | omega | (simp; done) | (simp; omega))) _) | (with_reducible refine Below.drew ?_) | (with_reducible refine below_drewN ?_ _) | (with_reducible refine Below.trans ?_ (Below.mono HBo (by (first | omega | (simp; done) | (simp; omega)))))))⟩
            case measure => simp [intOf]; omega
        · have hjI : ¬ (j : Int) < n := by omega
          have HF : Hid (r = -1) := Lib.hid (by
            rw [← HR.out, findI, findT, if_pos HIX.out, idx_no (fun t ht => by
              obtain ⟨k, hk, rfl⟩ := List.getElem_of_mem ht
              exact HALL.out k (by have := HN.out; omega) _ (List.getElem?_eq_getElem hk))])
          go_wp2_with fail
          go_ret
          exact ⟨by rw [HF.out]; rfl, HB.out⟩
    · have HF : Hid (r = -1) := Lib.hid (by
        rw [← HR.out, findI, findT, if_neg (by unfold isIx; simp; omega)])
      have h1I : ¬ x ≤ 4095 := h1
      go_enter Tryd.func47, Tryd.ntmps47
      go_wp2_with fail
      go_loopw [5] (fun v wr => v = .int .i64 0 ∧ Below w.heap.size w wr) (fun _ _ => 1)
      case atStart => exact ⟨rfl, Below.refl _ _⟩
      case round =>
        obtain ⟨rfl, hbw⟩ := hrel
        have HB := Lib.hid hbw
        clear hbw
        by_cases hn0 : 0 < n
        · have e : decide ((0 : Int) < n) = true := by simpa using hn0
          go_wp2_with fail
          go_ret
          exact ⟨by rw [HF.out]; rfl, HB.out⟩
        · have e : decide ((0 : Int) < n) = false := by simpa using hn0
          go_wp2_with fail
          go_ret
          exact ⟨by rw [HF.out]; rfl, HB.out⟩
set_option maxRecDepth 100000 in
theorem rdue_c {w : World} {A : Option Addr} {ts : List Tick} {n c : Nat} {x r : Int} (hA : PairC tkv w A ts) (hn : n = ts.length) (hl : n ≤ 1000000) (hr : dueT ts x = r) :
    Calls Tryd.prog 28 #[.slice A n c, .int .i64 x] w fun e w' => e = .returned (.int .i64 r) ∧ Below w.heap.size w w' := by
  have HP := Lib.hid hA
  have HN := Lib.hid hn
  rcases hq : findT ts x with _ | j
  · have HC := Lib.hid (rplace_c (c := c) hA hn hl (show findI ts x = -1 by rw [findI, hq]))
    have HF : Hid (r = 0) := Lib.hid (by rw [← hr, dueT, hq])
    clear hA hn hr hq
    go_enter Tryd.func28, Tryd.ntmps28
    go_wp2_with fail
    go_at_call 47
    refine (HC.out).mono ?_
    rintro e w1 ⟨rfl, hb1⟩
    have HB1 := Lib.hid hb1
    clear hb1
    go_wp2_with fail
    go_ret
    exact ⟨by rw [HF.out]; rfl, HB1.out⟩
  · have HC := Lib.hid (rplace_c (c := c) hA hn hl (show findI ts x = (j : Int) by rw [findI, hq]))
    have hx := find_at hq
    have hjn := (find_lt hq).1
    rw [← hn] at hjn
    have HF : Hid (r = (ts.getD j (0, 0)).2) := Lib.hid (by rw [← hr, dueT, hq])
    obtain ⟨D, hD⟩ : ∃ D, D = (ts.getD j (0, 0)).2 := ⟨_, rfl⟩
    rw [← hD] at HF hx
    have HX := Lib.hid hx
    have hjI : (j : Int) < n := by omega
    have hjI0 : (0 : Int) ≤ j := by omega
    clear hA hn hr hq hx hD
    go_enter Tryd.func28, Tryd.ntmps28
    go_wp2_with fail
    go_at_call 47
    refine (HC.out).mono ?_
    rintro e w1 ⟨rfl, hb1⟩
    have HB1 := Lib.hid hb1
    obtain ⟨b, o, rfl, hbl, hcs⟩ := (HP.out.below hb1).cells (fun e => by have h := HX.out; rw [e] at h; simp at h)
    obtain ⟨c0, c1⟩ := hcs _ _ HX.out
    simp only [tkv] at c0 c1
    clear hb1 hcs
    go_wp2_with fail
    go_ret
    exact ⟨by rw [HF.out]; rfl, HB1.out⟩
end ChunkW
end Go.Proofs.YtiochoppiohjnaaDoor
