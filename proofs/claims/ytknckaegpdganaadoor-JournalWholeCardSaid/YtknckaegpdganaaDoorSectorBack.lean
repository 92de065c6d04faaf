/-
  slices.Backward of writes: an iterator that reads its row between two rounds, whatever the rounds do to one map.
-/
import Derived.RangeFuncNested
import Derived.RangeFuncBound
import Derived.RangeFuncCalls
import Derived.RangeFuncLeaves
import Derived.Shelf.Abstract
import Derived.Shelf.RegionOpen
import Derived.WalkKit
import Derived.OwnWalkIn
import Derived.TacticsInMore
import Derived.LoopNIn
import Derived.LoopIn
import Derived.Test.YtknckaegpdganaaDoorSectorClone
-- mine: whole_c same_c awake_c take_c step_c back_c
namespace Go.Proofs.YtknckaegpdganaaDoor
open Go.RowKit Go.Shelf
set_option linter.unusedVariables false
set_option linter.unusedSimpArgs false
set_option maxRecDepth 100000
attribute [local go_sem] Oper.semAt_some
namespace SecW
open BlkP RowG FrS PushG JournalP SecP
/-- A write that may be taken back, with its place in the row. -/
abbrev Ele (n : Nat) : Type := Nat × { x : Nat × Sec × Sec // x.1 < n ∧ ∃ y : Sec, y.length = 512 ∧ raw y = x.2.2 }
def encE {n : Nat} (x : Ele n) : Array Value := #[.int .i64 (x.1 : Int), .agg #[.int .i64 (x.2.1.1 : Int), .string (str x.2.1.2.1), .string (str x.2.1.2.2)]]
/-- But for the block M what lay there lies there. -/
def KpM (z M : Nat) (W W' : World) : Prop := W.heap.size ≤ W'.heap.size ∧ ∀ k, k < z → k ≠ M → W'.heap[k]? = W.heap[k]?
theorem KpM.refl (z M : Nat) (W : World) : KpM z M W W := ⟨Nat.le_refl _, fun _ _ _ => rfl⟩
theorem KpM.trans {z M : Nat} {a b c : World} (h : KpM z M a b) (k : KpM z M b c) : KpM z M a c := ⟨Nat.le_trans h.1 k.1, fun i hi hn => (k.2 i hi hn).trans (h.2 i hi hn)⟩
theorem KpM.below {z M : Nat} {W W' : World} (h : Below z W W') : KpM z M W W' := ⟨h.size, fun k hk _ => h.block k hk⟩
theorem KpM.cell {z M : Nat} {W W' : World} (h : KpM z M W W') {b o : Nat} (hb : b < z) (hn : b ≠ M) : W'.cell? ⟨b, o, none⟩ = W.cell? ⟨b, o, none⟩ := by
  unfold World.cell?
  rw [h.2 b hb hn]
theorem KpM.put {z M l : Nat} {W : World} (o : Obj) (hl : z ≤ l) : KpM z M W (W.putObj l o) := ⟨(grownBy_putObj' W l o).size, fun k hk _ => World.putObj_heap_other (by omega)⟩
/-- Writes with their places. -/
def eles {n : Nat} (l : List (Nat × Sec × Sec)) (h : ∀ x ∈ l, x.1 < n ∧ ∃ y : Sec, y.length = 512 ∧ raw y = x.2.2) : List (Ele n) := (l.attach.zipIdx).map (fun p => (p.2, ⟨p.1.1, h p.1.1 p.1.2⟩))
theorem eles_map {n : Nat} (l : List (Nat × Sec × Sec)) (h : ∀ x ∈ l, x.1 < n ∧ ∃ y : Sec, y.length = 512 ∧ raw y = x.2.2) : (eles l h).map (fun x => x.2.1) = l := by
  apply List.ext_getElem?
  intro i
  rw [eles, List.map_map, List.getElem?_map, List.getElem?_zipIdx, Option.map_map]
  by_cases hi : i < l.length
  · rw [List.getElem?_eq_getElem hi, List.getElem?_eq_getElem (by simpa using hi)]
    simp
  · rw [List.getElem?_eq_none (Nat.le_of_not_lt hi), List.getElem?_eq_none (by simpa using hi)]
    rfl
theorem eles_idx {n : Nat} (l : List (Nat × Sec × Sec)) (h : ∀ x ∈ l, x.1 < n ∧ ∃ y : Sec, y.length = 512 ∧ raw y = x.2.2) (i : Nat) (x : Ele n) (hx : (eles l h)[i]? = some x) : x.1 = i := by
  rw [eles, List.getElem?_map, List.getElem?_zipIdx, Option.map_map] at hx
  obtain ⟨y, _, hy⟩ := Option.map_eq_some_iff.1 hx
  rw [← hy]
  simp
theorem eles_len {n : Nat} (l : List (Nat × Sec × Sec)) (h : ∀ x ∈ l, x.1 < n ∧ ∃ y : Sec, y.length = 512 ∧ raw y = x.2.2) : (eles l h).length = l.length := by
  have := congrArg List.length (eles_map l h)
  simpa using this
theorem back_c {w : World} {A : Option Addr} {m c : Nat} :
    Calls Tryd.prog 46 #[.slice A m c] w fun e w' => e = .returned (.func (.func 72) #[] #[.pointer (some ⟨w.heap.size, 0, none⟩)]) ∧ w' = w.alloc (.cells #[.slice A m c] TWs) := by
  go_enter Tryd.func46, Tryd.ntmps46
  go_wp2_with fail
  go_ret
  exact ⟨rfl, rfl⟩
set_option maxHeartbeats 16000000 in
theorem back_stops {n k Bs M m c z : Nat} {A : Option Addr} {E : List (Ele n)} {W0 : World} (hk : 1 ≤ k) (hm : E.length = m) (hm2 : m ≤ 1000000) (hidx : ∀ (i : Nat) x, E[i]? = some x → x.1 = i) (hz : z = W0.heap.size) (hbox : Blk W0 Bs TWs [.slice A m c]) (hBs : Bs ≠ M) (hR : Rd encW W0 (.slice A m c) (E.map (fun x => x.2.1))) (hA : ∀ b o, A = some ⟨b, o, none⟩ → E ≠ [] → b ≠ M) :
    SeqStopsK Fence.wide k Tryd.prog 72 #[.pointer (some ⟨Bs, 0, none⟩)] encE (KpM z M) (fun xs => xs = E.reverse) (fun _ => True) m W0 := by
  intro l J Jx W hW hJ hJx hY h0
  have HY := Lib.hid hY
  have hs0 : KpM z M W0 W := KpM.below (by rw [hz]; exact hW)
  have b0 := (hs0.cell (o := 0) (by rw [hz]; exact hbox.lt) hBs).trans (hbox.cell (i := 0) rfl)
  have hBz : Bs < W.heap.size := Nat.lt_of_lt_of_le hbox.lt hs0.1
  have HS0 := Lib.hid hs0
  have HBX := Lib.hid hbox
  have HR := Lib.hid hR
  have HA := Lib.hid hA
  have HI := Lib.hid hidx
  have HM := Lib.hid hm
  have HZ := Lib.hid hz
  have hcc : m ≤ c ∧ c ≤ 9223372036854775807 := ⟨(RowE.rd_len hR).2.1, (RowE.rd_len hR).2.2⟩
  clear hY hR hA hidx hm hs0 hbox hW hJ hJx hz
  refine callsIn_of_wp Tryd.func72 rfl trivial ?_ rfl
  simp only [Tryd.ntmps72, List.size_toArray, List.length_cons, List.length_nil, Nat.reduceAdd, Nat.reduceSub, Array.replicate_succ, Array.replicate_zero, List.push_toArray, List.append_toArray, List.nil_append, List.cons_append]
  gi_wp2
  gi_loopw [3] (fun p wr => ∃ (j : Nat) (q : Int), p = .int .i64 q ∧ q = (j : Int) - 1 ∧ j ≤ m ∧ J (E.drop j).reverse wr ∧ KpM z M W0 wr) (fun p _ => (RowKit.intOf p + 1).toNat)
  case atStart => exact ⟨m, _, rfl, by first | rfl | (unfold wrap64; omega) | (simp; omega), Nat.le_refl _, by rw [← HM.out, List.drop_length]; exact h0, HS0.out⟩
  case round =>
    obtain ⟨j, q, rfl, hq, hj, hJs, hks⟩ := hrel
    have HK := Lib.hid hks
    cases j with
    | zero =>
      have hq0 : ¬ (0 : Int) ≤ q := by omega
      clear hks
      gi_wp2
      go_end0
      exact ⟨⟨_, rfl⟩, .inl (by simpa using hJs)⟩
    | succ j =>
      obtain rfl : q = (j : Int) := by omega
      obtain ⟨x, hx⟩ : ∃ x, E[j]? = some x := ⟨_, List.getElem?_eq_getElem (by rw [HM.out]; omega)⟩
      have hxi := HI.out j x hx
      have hdrop : E.drop j = x :: E.drop (j + 1) := (List.getElem_cons_drop (by rw [HM.out]; omega)).symm.trans (by rw [(List.getElem?_eq_some_iff.1 hx).2])
      obtain ⟨fn, tmps, assign, body, hy, hRr⟩ := HY.out (E.drop (j + 1)).reverse x wr hJs (by simp [HM.out]; omega)
      obtain ⟨xi, ⟨xa, xd, xw⟩, hxp⟩ := x
      obtain rfl : xi = j := hxi
      dsimp only [encE] at hy
      obtain ⟨b, o, hbo, hlt, hcs⟩ := HR.out.at (i := xi) (x := (xa, xd, xw)) (by rw [List.getElem?_map, hx]; rfl)
      have hbM := HA.out b o hbo (fun q => by rw [q] at hx; simp at hx)
      subst hbo
      have hbz : b < z := by rw [HZ.out]; exact hlt
      have x0 := (hks.cell (o := o + xi * 3 + 0) hbz hbM).trans (hcs 0 _ rfl)
      have x1 := (hks.cell (o := o + xi * 3 + 1) hbz hbM).trans (hcs 1 _ rfl)
      have x2 := (hks.cell (o := o + xi * 3 + 2) hbz hbM).trans (hcs 2 _ rfl)
      have hol : o + xi * 3 + 0 = o + xi * 3 := rfl
      rw [hol] at x0
      have bb := (hks.cell (o := 0) (by rw [HZ.out]; exact HBX.out.lt) hBs).trans (HBX.out.cell (i := 0) rfl)
      have hbW : Bs < wr.heap.size := Nat.lt_of_lt_of_le HBX.out.lt hks.1
      have hbW2 : b < wr.heap.size := Nat.lt_of_lt_of_le hlt hks.1
      have hji : (xi : Int) < (m : Int) := by omega
      have hge : (0 : Int) ≤ (xi : Int) := by omega
      have HD := Lib.hid hdrop
      have HW2 := Lib.hid (show wrap64 ((xi : Int) - 1) = (xi : Int) - 1 by unfold wrap64; omega)
      clear hq
      clear hcs hx hdrop hJs hks
      gi_wp2
      refine hRr.mono ?_
      rintro e W3 (⟨rfl, hJ3, hk3⟩ | ⟨rfl, hJx3⟩)
      · have HK3 := Lib.hid (HK.out.trans hk3)
        have HJ3 := Lib.hid hJ3
        clear hk3 hJ3 x0 x1 x2
        gi_wp2
        go_roundw
        case rel =>
          refine ⟨xi, _, rfl, by first | rfl | exact HW2.out | (have := HW2.out; omega), by omega, ?_, HK3.out⟩
          rw [HD.out, List.reverse_cons]
          exact HJ3.out
        case measure => first | (simp [RowKit.intOf]; done) | (simp [RowKit.intOf]; omega)
      · gi_wp2
        refine bodyPost_ret (results_none rfl _ _ _) rfl ?_
        exact ⟨⟨_, rfl⟩, .inr ⟨_, trivial, hJx3⟩⟩
end SecW
end Go.Proofs.YtknckaegpdganaaDoor
