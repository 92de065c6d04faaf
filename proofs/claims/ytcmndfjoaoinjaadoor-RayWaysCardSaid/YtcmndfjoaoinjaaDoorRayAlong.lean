/-
  The reference's along: the crossings of one axis, in a row of the call's own.
-/
import Derived.Test.YtcmndfjoaoinjaaDoorRayMem
import Derived.Deep.AppendLies
namespace Go.Proofs.YtcmndfjoaoinjaaDoor
open Go.RowKit
set_option linter.unusedVariables false
set_option linter.unusedSimpArgs false
namespace RayP
open PlaceW BlkP
/-- A crossing's cells, as the reference has them. -/
def cellsC (a b s : Int) (m : Nat) : List Value := [.int .i64 a, .int .i64 b, .int .i64 ((2 * (m : Int) + 1)), .int .i64 (2 * s)]
/-- The first n of an axis. -/
def cellsR (a b s : Int) (n : Nat) : List Value := (List.range n).flatMap fun m => cellsC a b s m
theorem cellsR_succ (a b s : Int) (n : Nat) : cellsR a b s (n + 1) = cellsR a b s n ++ cellsC a b s n := by simp [cellsR, List.range_succ]
theorem cellsR_len (a b s : Int) : ∀ n : Nat, (cellsR a b s n).length = n * 4
  | 0 => rfl
  | n + 1 => by
    rw [cellsR_succ, List.length_append, cellsR_len a b s n]
    simp [cellsC]
    omega
theorem cellsR_get (a b s : Int) : ∀ {n m c : Nat}, m < n → c < 4 → (cellsR a b s n)[m * 4 + c]? = (cellsC a b s m)[c]?
  | n + 1, m, c, h, hc => by
    rw [cellsR_succ]
    rcases Nat.lt_or_eq_of_le (Nat.le_of_lt_succ h) with h1 | rfl
    · rw [List.getElem?_append_left (by rw [cellsR_len]; omega)]
      exact cellsR_get a b s h1 hc
    · rw [List.getElem?_append_right (by rw [cellsR_len]; omega), cellsR_len]
      congr 1
      omega
theorem infoCr : (Tryd.prog.info? 54).map (fun i => (i.zero, i.size, i.bytes)) = some (some (.agg #[.int .i64 0, .int .i64 0, .int .i64 0, .int .i64 0]), 4, 32) := by kernel_rfl
/-- The sign with which an axis is crossed. -/
def byA (d : Int) : Int := if d < 0 then -1 else 1
/-- How many there are. -/
def howM (d : Int) (n : Nat) : Nat := if d = 0 then 0 else n
/-- What along leaves. -/
def AlongP (a d : Int) (n : Nat) (w0 : World) (e : Ending) (w' : World) : Prop := ∃ v, e = .returned v ∧ w'.ownsRow w0.heap.size 54 4 v (howM d n) (cellsR a (byA d) (sz d) (howM d n)) ∧ Below w0.heap.size w0 w'
set_option maxHeartbeats 4000000 in
theorem along_c {a d : Int} {n : Nat} (ha : 0 ≤ a ∧ a ≤ 2) (hd : -1000 ≤ d ∧ d ≤ 1000) (hn : n ≤ 256) (w : World) :
    Calls Tryd.prog 22 #[.int .i64 a, .int .i64 d, .int .i64 (n : Int)] w (AlongP a d n w) := by
  obtain ⟨i0, hi0, hz0, hz1, hz2⟩ := info_parts infoCr
  have HI0 := Lib.hid hi0
  have HZ0 := Lib.hid hz0
  have HZ1 := Lib.hid hz1
  have HZ2 := Lib.hid hz2
  clear hi0 hz0 hz1 hz2
  by_cases h0 : d = 0
  · have H0 := Lib.hid h0
    have e1 : (d != 0) = false := by simpa using h0
    have e2 : ¬ d < 0 := by omega
    clear h0
    go_enter Tryd.func22, Tryd.ntmps22
    go_wp2_with fail
    go_loopw [7, 10] (fun v k wr => v = .slice none 0 0 ∧ k = .int .i64 1 ∧ wr = w) (fun _ k _ => 0)
    case atStart => exact ⟨rfl, rfl, rfl⟩
    case round =>
      obtain ⟨rfl, rfl, rfl⟩ := hrel
      by_cases hn1 : 1 ≤ n
      · have e3 : (1 : Int) ≤ (n : Int) := by omega
        go_wp2_with fail
        go_ret
        exact ⟨_, rfl, by rw [howM, if_pos H0.out]; exact World.ownsRow_nil _ _ _ _, by (repeat' (first | (with_reducible exact Below.refl _ _) | (with_reducible refine Below.setCell ?_ (by (first | omega | (simp; done) | (simp; omega))) _) | (with_reducible refine Below.alloc ?_ (by (first | omega | (simp; done) | (simp; omega))) _) | (with_reducible refine Below.drew ?_) | (with_reducible refine below_drewN ?_ _)))⟩
      · have e3 : ¬ (1 : Int) ≤ (n : Int) := by omega
        go_wp2_with fail
        go_ret
        exact ⟨_, rfl, by rw [howM, if_pos H0.out]; exact World.ownsRow_nil _ _ _ _, by (repeat' (first | (with_reducible exact Below.refl _ _) | (with_reducible refine Below.setCell ?_ (by (first | omega | (simp; done) | (simp; omega))) _) | (with_reducible refine Below.alloc ?_ (by (first | omega | (simp; done) | (simp; omega))) _) | (with_reducible refine Below.drew ?_) | (with_reducible refine below_drewN ?_ _)))⟩
  · have HH : Hid (howM d n = n) := Lib.hid (if_neg h0)
    have e1 : (d != 0) = true := by simpa using h0
    obtain ⟨b, s, hb, hs, hsb, hss⟩ : ∃ b s : Int, byA d = b ∧ sz d = s ∧ ((d < 0 ∧ b = -1 ∧ s = -d) ∨ (¬ d < 0 ∧ b = 1 ∧ s = d)) ∧ (0 ≤ s ∧ s ≤ 1000) := by
      refine ⟨_, _, rfl, rfl, ?_, ?_⟩
      · rcases sz_cases d with ⟨h1, h2⟩ | ⟨h1, h2⟩
        · exact .inr ⟨by omega, if_neg (by omega), h2⟩
        · exact .inl ⟨h1, if_pos h1, h2⟩
      · rcases sz_cases d with ⟨h1, h2⟩ | ⟨h1, h2⟩ <;> omega
    have HB := Lib.hid hb
    have HS := Lib.hid hs
    clear h0 hb hs
    rcases hsb with ⟨hlt, rfl, hsd⟩ | ⟨hlt, rfl, hsd⟩
    · have HSD := Lib.hid hsd
      clear hsd
      go_enter Tryd.func22, Tryd.ntmps22
      go_wp2_with fail
      go_loopw [7, 10] (fun v k wr => ∃ j : Nat, j ≤ n ∧ k = .int .i64 (j + 1) ∧ wr.ownsRow w.heap.size 54 4 v j (cellsR a (-1) s j) ∧ Below w.heap.size w wr) (fun _ k _ => (n + 1 - intOf k).toNat)
      case atStart => exact ⟨0, by omega, by simp, World.ownsRow_nil _ _ _ _, Below.refl _ _⟩
      case round =>
        obtain ⟨j, hj, rfl, hO, hB⟩ := hrel
        have hsB := hB.size
        by_cases hlt : j < n
        · have e3 : (j : Int) + 1 ≤ (n : Int) := by omega
          have HO := Lib.hid hO
          have HBB := Lib.hid hB
          clear hO hB
          go_wp2_with (at_builtin; go_loud (refine wpList_append_own_at _ rfl _ _ 49 rfl w.heap.size 54 i0 (.agg #[.int .i64 0, .int .i64 0, .int .i64 0, .int .i64 0]) 4 32 Tryd.underlying49 HI0.out HZ0.out HZ1.out HZ2.out rfl (by decide) _ _ _ rfl (HO.out.alloc _) ⟨wr.heap.size, 0, none⟩ 1 1 [.int .i64 a, .int .i64 (-1), .int .i64 (2 * ((j : Int) + 1) - 1), .int .i64 (2 * -d)] rfl rfl ?c1 ?c2 ?c3 ?c4 ?c5 ?_))
          case c1 => exact World.news_of_block (cs := #[.int .i64 a, .int .i64 (-1), .int .i64 (2 * ((j : Int) + 1) - 1), .int .i64 (2 * -d)]) (t := 54) (fr := (0, 0)) (heap_alloc_new wr _)
          case c2 => simp [Value.oneCell']
          case c3 => (unfold maxLen; omega)
          case c4 => omega
          case c5 => (simp; omega)
          intro v' w2 hO2 hgrow _ _
          have hB2 : Below w.heap.size w w2 := (HBB.out.alloc hsB _).grown hgrow (by simp; omega) (ownBlock_ge HO.out)
          have HO2 : Hid (w2.ownsRow w.heap.size 54 4 v' (j + 1) (cellsR a (-1) s (j + 1))) := Lib.hid (by
            rw [cellsR_succ, cellsC, show (2 * (j : Int) + 1) = 2 * ((j : Int) + 1) - 1 by omega, HSD.out]
            rw [HSD.out] at hO2
            exact hO2)
          have HB2 := Lib.hid hB2
          clear hO2 hgrow hB2
          go_wp2_with fail
          go_roundw
          case rel => exact ⟨j + 1, by omega, by go_num, HO2.out, HB2.out⟩
          case measure => (simp only [intOf]; omega)
        · obtain rfl : j = n := by omega
          have e3 : ¬ (j : Int) + 1 ≤ (j : Int) := by omega
          have HO := Lib.hid hO
          have HBB := Lib.hid hB
          clear hO hB
          go_wp2_with fail
          go_ret
          exact ⟨_, rfl, by rw [HH.out, HB.out, HS.out]; exact HO.out, HBB.out⟩
    · have HSD := Lib.hid hsd
      clear hsd
      go_enter Tryd.func22, Tryd.ntmps22
      go_wp2_with fail
      go_loopw [7, 10] (fun v k wr => ∃ j : Nat, j ≤ n ∧ k = .int .i64 (j + 1) ∧ wr.ownsRow w.heap.size 54 4 v j (cellsR a (1) s j) ∧ Below w.heap.size w wr) (fun _ k _ => (n + 1 - intOf k).toNat)
      case atStart => exact ⟨0, by omega, by simp, World.ownsRow_nil _ _ _ _, Below.refl _ _⟩
      case round =>
        obtain ⟨j, hj, rfl, hO, hB⟩ := hrel
        have hsB := hB.size
        by_cases hlt : j < n
        · have e3 : (j : Int) + 1 ≤ (n : Int) := by omega
          have HO := Lib.hid hO
          have HBB := Lib.hid hB
          clear hO hB
          go_wp2_with (at_builtin; go_loud (refine wpList_append_own_at _ rfl _ _ 49 rfl w.heap.size 54 i0 (.agg #[.int .i64 0, .int .i64 0, .int .i64 0, .int .i64 0]) 4 32 Tryd.underlying49 HI0.out HZ0.out HZ1.out HZ2.out rfl (by decide) _ _ _ rfl (HO.out.alloc _) ⟨wr.heap.size, 0, none⟩ 1 1 [.int .i64 a, .int .i64 (1), .int .i64 (2 * ((j : Int) + 1) - 1), .int .i64 (2 * d)] rfl rfl ?c1 ?c2 ?c3 ?c4 ?c5 ?_))
          case c1 => exact World.news_of_block (cs := #[.int .i64 a, .int .i64 (1), .int .i64 (2 * ((j : Int) + 1) - 1), .int .i64 (2 * d)]) (t := 54) (fr := (0, 0)) (heap_alloc_new wr _)
          case c2 => simp [Value.oneCell']
          case c3 => (unfold maxLen; omega)
          case c4 => omega
          case c5 => (simp; omega)
          intro v' w2 hO2 hgrow _ _
          have hB2 : Below w.heap.size w w2 := (HBB.out.alloc hsB _).grown hgrow (by simp; omega) (ownBlock_ge HO.out)
          have HO2 : Hid (w2.ownsRow w.heap.size 54 4 v' (j + 1) (cellsR a (1) s (j + 1))) := Lib.hid (by
            rw [cellsR_succ, cellsC, show (2 * (j : Int) + 1) = 2 * ((j : Int) + 1) - 1 by omega, HSD.out]
            rw [HSD.out] at hO2
            exact hO2)
          have HB2 := Lib.hid hB2
          clear hO2 hgrow hB2
          go_wp2_with fail
          go_roundw
          case rel => exact ⟨j + 1, by omega, by go_num, HO2.out, HB2.out⟩
          case measure => (simp only [intOf]; omega)
        · obtain rfl : j = n := by omega
          have e3 : ¬ (j : Int) + 1 ≤ (j : Int) := by omega
          have HO := Lib.hid hO
          have HBB := Lib.hid hB
          clear hO hB
          go_wp2_with fail
          go_ret
          exact ⟨_, rfl, by rw [HH.out, HB.out, HS.out]; exact HO.out, HBB.out⟩
end RayP
end Go.Proofs.YtcmndfjoaoinjaaDoor
