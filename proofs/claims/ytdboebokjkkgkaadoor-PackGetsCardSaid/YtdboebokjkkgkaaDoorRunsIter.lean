/-
  A row's runs, one by one: the iterator's contract.
-/
import Derived.RangeFuncNested
import Derived.RangeFuncBound
import Derived.RangeFuncCalls
import Derived.RangeFuncLeaves
import Derived.Shelf.Abstract
import Derived.Shelf.RegionOpen
import Derived.WalkKit
import Derived.OwnWalkIn
import Derived.TacticsInMore
import Derived.LoopNIn
import Derived.LoopIn
import Derived.Test.YtdboebokjkkgkaaDoorBytesMemIn
import Derived.Test.YtdboebokjkkgkaaDoorRunsSame
namespace Go.Proofs.YtdboebokjkkgkaaDoor
open Go.RowKit Go.Shelf
set_option linter.unusedVariables false
set_option linter.unusedSimpArgs false
attribute [local go_sem] Oper.semAt_some
namespace RunsW
open BytesW

/-- A run of a row that lies in w0: where it lies, how many, of which number. -/
structure Piece (w0 : World) where
  A : Option Addr
  c : Nat
  n : Nat
  x : UInt8
  has : AtC w0 A (List.replicate n x)
  pos : 1 ≤ n
  le : n ≤ 1000000
def Piece.run {w0 : World} (p : Piece w0) : Nat × UInt8 := (p.n, p.x)
def encP {w0 : World} (p : Piece w0) : Array Value := #[.slice p.A p.n p.c]
def rlen : Value → Nat
  | .slice _ n _ => n
  | _ => 0
theorem grown_none {w w' : World} (hb : Below w.heap.size w w') : w.grownBy w' none := ⟨hb.os, hb.tape, hb.output, hb.size, fun k hk _ => hb.block k hk⟩

theorem each_c {w : World} {A : Option Addr} {n c : Nat} : Calls Tryd.prog 41 #[.slice A n c] w fun e w' => e = .returned (.func (.func 51) #[] #[.pointer (some ⟨w.heap.size, 0, none⟩)]) ∧ w' = w.alloc (.cells #[.slice A n c] 26) := by
  go_enter Tryd.func41, Tryd.ntmps41
  go_wp2_with fail
  go_ret
  exact ⟨rfl, rfl⟩

set_option maxRecDepth 100000 in
set_option maxHeartbeats 2000000 in
theorem each1_in (n : Nat) (hn : 2 ≤ n) (l E n₀ : Nat) {A : Option Addr} {c : Nat} {row : List UInt8} {w0 : World} (hAt : AtC w0 A row) (hle : row.length ≤ 1000000) (hcap : row.length ≤ c) (hn₀ : n₀ = w0.heap.size)
    (J Jx : List (Piece w0) → World → Prop) (hJa : ∀ pre W W', J pre W → W.grownBy W' none → J pre W')
    (hY : ∀ pre x W, J pre W → pre.length < row.length → YieldAt Fence.wide (n - 1) Tryd.prog l (encP x) W fun e W' =>
      (e = .returned (.bool true) ∧ J (pre ++ [x]) W' ∧ Below n₀ W W') ∨ (e = .returned (.bool false) ∧ Jx (pre ++ [x]) W'))
    (W : World) (hW : Below n₀ w0 W) (cE : W.cell? ⟨E, 0, none⟩ = some (.slice A row.length c)) (h0 : J [] W) :
    CallsIn Fence.wide n Tryd.prog 51 #[.func (.yield l) #[] #[], .pointer (some ⟨E, 0, none⟩)] W fun e W' => (∃ v, e = .returned v) ∧
      ((∃ ys : List (Piece w0), ys.map Piece.run = runs row ∧ J ys W') ∨ (∃ pre : List (Piece w0), True ∧ Jx pre W')) := by
  refine callsIn_of_wp Tryd.func51 rfl trivial ?_ rfl
  simp only [Tryd.ntmps51, List.size_toArray, List.length_cons, List.length_nil, Nat.reduceAdd, Nat.reduceSub, Array.replicate_succ, Array.replicate_zero, List.push_toArray, List.append_toArray, List.nil_append, List.cons_append]
  gi_wp2
  gi_loopw [3] (fun v wr => ∃ (pre : List (Piece w0)) (rest : List UInt8) (A' : Option Addr) (c' : Nat), v = .slice A' rest.length c' ∧ pre.map Piece.run ++ runs rest = runs row ∧ AtC w0 A' rest ∧ rest.length ≤ c' ∧ pre.length + rest.length ≤ row.length ∧ J pre wr ∧ Below n₀ w0 wr)
    (fun v _ => rlen v)
  case atStart => exact ⟨[], row, A, c, rfl, rfl, hAt, hcap, by simp, h0, hW⟩
  case round =>
    obtain ⟨pre, rest, A', c', rfl, hr, hA', hc', hlen, hJ, hB⟩ := hrel
    cases rest with
    | nil =>
      gi_wp2
      go_end0
      exact ⟨⟨_, rfl⟩, .inl ⟨pre, by simpa [runs] using hr, hJ⟩⟩
    | cons x r =>
      obtain ⟨k, hk⟩ : ∃ k, lead x (x :: r) = k := ⟨_, rfl⟩
      obtain ⟨s, hs⟩ : ∃ s, x :: r = s := ⟨_, rfl⟩
      have hkl := lead_le x (x :: r)
      have hkp := lead_pos x r
      have hsp := lead_split x (x :: r)
      have hrf := runs_first (x := x) (r := r)
      have hpos : 0 < (x :: r).length := by simp
      rw [hk] at hkl hkp hsp hrf
      rw [hs] at hr hA' hc' hlen hk hkl hsp hrf hpos ⊢
      have HS := Lib.hid hs
      have HK := Lib.hid hk
      have HR := Lib.hid hr
      have HRF := Lib.hid hrf
      have HSP := Lib.hid hsp
      clear hs hk hr hrf hsp
      have hAr : AtC wr A' s := hA'.below (by rw [← hn₀]; exact hB)
      have hsl : s.length ≤ 1000000 := by omega
      have hp0 : (0 : Int) < s.length := by omega
      obtain ⟨p, hp⟩ : ∃ p : Piece w0, p = ⟨A', c', k, x, by have h := hA'.take k; rw [HSP.out.1, List.take_left' (by simp)] at h; exact h, hkp, by omega⟩ := ⟨_, rfl⟩
      have hpr : p.run = (k, x) := by rw [hp]; rfl
      have hpe : encP p = #[.slice A' k c'] := by rw [hp]; rfl
      have hks : ((k : Int)).toNat = k := rfl
      gi_wp2_with (first
        | (refine ⟨trivial, fun _ => by omega, ?_⟩; gi_at_call 52; refine (callsIn_wide.2 (same_c hAr hsl HS.out.symm HK.out)).mono ?_; rintro e w1 ⟨rfl, hb1⟩; have hJ1 := hJa _ _ _ hJ (grown_none hb1); have hB1 := hB.trans (hb1.mono (by rw [hn₀]; have := hB.size; omega)); obtain ⟨fn, tmps, assign, body, hy, hR⟩ := hY pre p w1 hJ1 (by omega); rw [hpe] at hy)
        | ((with_reducible refine gi_slot 14 ?_); refine wpI_upto rfl (.tmp 12) (.tmp 13) rfl rfl rfl (by omega) (by omega) hc' ?_; rw [hks]))
      refine ⟨fun _ => by omega, hR.mono ?_⟩
      rintro e W3 (⟨rfl, hJ3, hk3⟩ | ⟨rfl, hJx3⟩)
      · gi_wp2_with ((with_reducible refine gi_slot 19 ?_); refine wpI_fromC rfl (.tmp 17) (.tmp 18) rfl (k := k) rfl rfl hA' hkl hc' ?_; intro A2 hA2)
        go_roundw
        case rel =>
          refine ⟨pre ++ [p], s.drop k, A2, c' - k, by simp, ?_, hA2, by simp; omega, by simp; omega, hJ3, hB1.trans hk3⟩
          rw [List.map_append, List.map_cons, List.map_nil, hpr, List.append_assoc, List.singleton_append, ← HRF.out, HR.out]
        case measure => simp [rlen]; omega
      · gi_wp2
        refine bodyPost_ret (results_none rfl _ _ _) rfl ?_
        exact ⟨⟨_, rfl⟩, .inr ⟨pre ++ [p], trivial, hJx3⟩⟩

theorem each_stops (n : Nat) (hn : 2 ≤ n) (E : Nat) {A : Option Addr} {c : Nat} {row : List UInt8} {w0 w1 : World} (hAt : AtC w0 A row) (hle : row.length ≤ 1000000) (hcap : row.length ≤ c) (hb : Below w0.heap.size w0 w1) (hE : E < w1.heap.size)
    (cE : w1.cell? ⟨E, 0, none⟩ = some (.slice A row.length c)) :
    SeqStopsK Fence.wide n Tryd.prog 51 #[.pointer (some ⟨E, 0, none⟩)] (encP (w0 := w0)) (Below w0.heap.size) (fun ys => ys.map Piece.run = runs row) (fun _ => True) row.length w1 := by
  intro l J Jx W hW hJ hJx hY h0
  exact each1_in n hn l E w0.heap.size hAt hle hcap rfl J Jx (fun pre A B h hg => hJ pre A B none h hg (fun r e => by cases e)) hY W (hb.trans (hW.mono hb.size)) ((hW.cell (p := ⟨E, 0, none⟩) hE).trans cE) h0
end RunsW
end Go.Proofs.YtdboebokjkkgkaaDoor
