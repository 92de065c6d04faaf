/-
  Each, and the iterator's contract in the form that a range asks for.
-/
import Derived.Test.YtokkomglbddgcaaPlaceIter
import Derived.Test.YtokkomglbddgcaaHeldP
namespace Go.Proofs.Ytokkomglbddgcaa
open Go.RowKit Go.Shelf
set_option linter.unusedSimpArgs false
set_option linter.unusedVariables false
attribute [local go_sem] Oper.semAt_some
namespace PlaceW

/-- What Each leaves: a function over three new variables, that hold the box's ends and the error's number. -/
def EachPost (b : BoxR) (w : World) (e : Ending) (w' : World) : Prop := ∃ B : Nat, e = .returned (.func (.func 47) #[] #[.pointer (some ⟨B + 2, 0, none⟩), .pointer (some ⟨B, 0, none⟩), .pointer (some ⟨B + 1, 0, none⟩)]) ∧
  w.heap.size ≤ B ∧ B + 2 < w'.heap.size ∧ w'.cell? ⟨B, 0, none⟩ = some (.int .i64 b.l1) ∧ w'.cell? ⟨B, 1, none⟩ = some (.int .i64 b.l2) ∧ w'.cell? ⟨B, 2, none⟩ = some (.int .i64 b.l3) ∧
  w'.cell? ⟨B + 1, 0, none⟩ = some (.int .i64 b.h1) ∧ w'.cell? ⟨B + 1, 1, none⟩ = some (.int .i64 b.h2) ∧ w'.cell? ⟨B + 1, 2, none⟩ = some (.int .i64 b.h3) ∧ w'.cell? ⟨B + 2, 0, none⟩ = some (.int .i64 b.e) ∧ Below w.heap.size w w'

set_option maxRecDepth 100000 in
set_option maxHeartbeats 2000000 in
theorem each_c {x y z u v t : Int} {b : BoxR} (h : boxOf x y z u v t = b) (w : World) :
    Calls Try.prog 35 #[.agg #[.int .i64 x, .int .i64 y, .int .i64 z], .agg #[.int .i64 u, .int .i64 v, .int .i64 t]] w (EachPost b w) := by
  have H := Lib.hid h
  clear h
  obtain ⟨l1, l2, l3, h1, h2, h3, n, er⟩ := b
  go_enter Try.func35, Try.ntmps35
  go_wp2_with fail
  go_at_call 32
  refine (box_c H.out _).mono ?_
  rintro e w1 ⟨rfl, hb⟩
  have hs := hb.size
  simp at hs
  have hl : w.heap.size < w1.heap.size := by omega
  go_wp2_with fail
  go_ret
  refine ⟨w1.heap.size, rfl, by omega, by simp, by (repeat' (first | (with_reducible assumption) | (with_reducible refine HeldP.c_drew ?_) | (with_reducible refine HeldP.c_drewN ?_) | (with_reducible refine HeldP.c_same (by omega) ?_) | (with_reducible refine HeldP.c_other ?_ ?_) | (with_reducible refine HeldP.c_new (by first | omega | (simp; done) | (simp; omega)) ?_) | (with_reducible refine HeldP.c_alloc ?_ ?_) | (with_reducible refine HeldP.e_drew ?_) | (with_reducible refine HeldP.e_drewN ?_) | (with_reducible refine HeldP.e_set ?_) | (with_reducible refine HeldP.e_new (by first | omega | (simp; done) | (simp; omega)) ⟨_, rfl⟩) | (with_reducible refine HeldP.e_alloc ?_ ?_) | (with_reducible refine HeldP.f_drew ?_) | (with_reducible refine HeldP.f_drewN ?_) | (with_reducible refine HeldP.f_set ?_) | (with_reducible refine HeldP.f_new (by first | omega | (simp; done) | (simp; omega))) | (with_reducible refine HeldP.f_alloc ?_ ?_) | (with_reducible refine HeldP.s_drew ?_) | (with_reducible refine HeldP.s_drewN ?_) | (with_reducible refine HeldP.s_set ?_) | (with_reducible refine HeldP.s_new (by first | omega | (simp; done) | (simp; omega))) | (with_reducible refine HeldP.s_alloc ?_) | (with_reducible exact ⟨_, by assumption⟩) | omega | (intro e; simp at e; done) | (intro e; simp at e; omega) | (exact rfl) | (simp; done) | (simp; omega))), by (repeat' (first | (with_reducible assumption) | (with_reducible refine HeldP.c_drew ?_) | (with_reducible refine HeldP.c_drewN ?_) | (with_reducible refine HeldP.c_same (by omega) ?_) | (with_reducible refine HeldP.c_other ?_ ?_) | (with_reducible refine HeldP.c_new (by first | omega | (simp; done) | (simp; omega)) ?_) | (with_reducible refine HeldP.c_alloc ?_ ?_) | (with_reducible refine HeldP.e_drew ?_) | (with_reducible refine HeldP.e_drewN ?_) | (with_reducible refine HeldP.e_set ?_) | (with_reducible refine HeldP.e_new (by first | omega | (simp; done) | (simp; omega)) ⟨_, rfl⟩) | (with_reducible refine HeldP.e_alloc ?_ ?_) | (with_reducible refine HeldP.f_drew ?_) | (with_reducible refine HeldP.f_drewN ?_) | (with_reducible refine HeldP.f_set ?_) | (with_reducible refine HeldP.f_new (by first | omega | (simp; done) | (simp; omega))) | (with_reducible refine HeldP.f_alloc ?_ ?_) | (with_reducible refine HeldP.s_drew ?_) | (with_reducible refine HeldP.s_drewN ?_) | (with_reducible refine HeldP.s_set ?_) | (with_reducible refine HeldP.s_new (by first | omega | (simp; done) | (simp; omega))) | (with_reducible refine HeldP.s_alloc ?_) | (with_reducible exact ⟨_, by assumption⟩) | omega | (intro e; simp at e; done) | (intro e; simp at e; omega) | (exact rfl) | (simp; done) | (simp; omega))), by (repeat' (first | (with_reducible assumption) | (with_reducible refine HeldP.c_drew ?_) | (with_reducible refine HeldP.c_drewN ?_) | (with_reducible refine HeldP.c_same (by omega) ?_) | (with_reducible refine HeldP.c_other ?_ ?_) | (with_reducible refine HeldP.c_new (by first | omega | (simp; done) | (simp; omega)) ?_) | (with_reducible refine HeldP.c_alloc ?_ ?_) | (with_reducible refine HeldP.e_drew ?_) | (with_reducible refine HeldP.e_drewN ?_) | (with_reducible refine HeldP.e_set ?_) | (with_reducible refine HeldP.e_new (by first | omega | (simp; done) | (simp; omega)) ⟨_, rfl⟩) | (with_reducible refine HeldP.e_alloc ?_ ?_) | (with_reducible refine HeldP.f_drew ?_) | (with_reducible refine HeldP.f_drewN ?_) | (with_reducible refine HeldP.f_set ?_) | (with_reducible refine HeldP.f_new (by first | omega | (simp; done) | (simp; omega))) | (with_reducible refine HeldP.f_alloc ?_ ?_) | (with_reducible refine HeldP.s_drew ?_) | (with_reducible refine HeldP.s_drewN ?_) | (with_reducible refine HeldP.s_set ?_) | (with_reducible refine HeldP.s_new (by first | omega | (simp; done) | (simp; omega))) | (with_reducible refine HeldP.s_alloc ?_) | (with_reducible exact ⟨_, by assumption⟩) | omega | (intro e; simp at e; done) | (intro e; simp at e; omega) | (exact rfl) | (simp; done) | (simp; omega))), by (repeat' (first | (with_reducible assumption) | (with_reducible refine HeldP.c_drew ?_) | (with_reducible refine HeldP.c_drewN ?_) | (with_reducible refine HeldP.c_same (by omega) ?_) | (with_reducible refine HeldP.c_other ?_ ?_) | (with_reducible refine HeldP.c_new (by first | omega | (simp; done) | (simp; omega)) ?_) | (with_reducible refine HeldP.c_alloc ?_ ?_) | (with_reducible refine HeldP.e_drew ?_) | (with_reducible refine HeldP.e_drewN ?_) | (with_reducible refine HeldP.e_set ?_) | (with_reducible refine HeldP.e_new (by first | omega | (simp; done) | (simp; omega)) ⟨_, rfl⟩) | (with_reducible refine HeldP.e_alloc ?_ ?_) | (with_reducible refine HeldP.f_drew ?_) | (with_reducible refine HeldP.f_drewN ?_) | (with_reducible refine HeldP.f_set ?_) | (with_reducible refine HeldP.f_new (by first | omega | (simp; done) | (simp; omega))) | (with_reducible refine HeldP.f_alloc ?_ ?_) | (with_reducible refine HeldP.s_drew ?_) | (with_reducible refine HeldP.s_drewN ?_) | (with_reducible refine HeldP.s_set ?_) | (with_reducible refine HeldP.s_new (by first | omega | (simp; done) | (simp; omega))) | (with_reducible refine HeldP.s_alloc ?_) | (with_reducible exact ⟨_, by assumption⟩) | omega | (intro e; simp at e; done) | (intro e; simp at e; omega) | (exact rfl) | (simp; done) | (simp; omega))), by (repeat' (first | (with_reducible assumption) | (with_reducible refine HeldP.c_drew ?_) | (with_reducible refine HeldP.c_drewN ?_) | (with_reducible refine HeldP.c_same (by omega) ?_) | (with_reducible refine HeldP.c_other ?_ ?_) | (with_reducible refine HeldP.c_new (by first | omega | (simp; done) | (simp; omega)) ?_) | (with_reducible refine HeldP.c_alloc ?_ ?_) | (with_reducible refine HeldP.e_drew ?_) | (with_reducible refine HeldP.e_drewN ?_) | (with_reducible refine HeldP.e_set ?_) | (with_reducible refine HeldP.e_new (by first | omega | (simp; done) | (simp; omega)) ⟨_, rfl⟩) | (with_reducible refine HeldP.e_alloc ?_ ?_) | (with_reducible refine HeldP.f_drew ?_) | (with_reducible refine HeldP.f_drewN ?_) | (with_reducible refine HeldP.f_set ?_) | (with_reducible refine HeldP.f_new (by first | omega | (simp; done) | (simp; omega))) | (with_reducible refine HeldP.f_alloc ?_ ?_) | (with_reducible refine HeldP.s_drew ?_) | (with_reducible refine HeldP.s_drewN ?_) | (with_reducible refine HeldP.s_set ?_) | (with_reducible refine HeldP.s_new (by first | omega | (simp; done) | (simp; omega))) | (with_reducible refine HeldP.s_alloc ?_) | (with_reducible exact ⟨_, by assumption⟩) | omega | (intro e; simp at e; done) | (intro e; simp at e; omega) | (exact rfl) | (simp; done) | (simp; omega))), by (repeat' (first | (with_reducible assumption) | (with_reducible refine HeldP.c_drew ?_) | (with_reducible refine HeldP.c_drewN ?_) | (with_reducible refine HeldP.c_same (by omega) ?_) | (with_reducible refine HeldP.c_other ?_ ?_) | (with_reducible refine HeldP.c_new (by first | omega | (simp; done) | (simp; omega)) ?_) | (with_reducible refine HeldP.c_alloc ?_ ?_) | (with_reducible refine HeldP.e_drew ?_) | (with_reducible refine HeldP.e_drewN ?_) | (with_reducible refine HeldP.e_set ?_) | (with_reducible refine HeldP.e_new (by first | omega | (simp; done) | (simp; omega)) ⟨_, rfl⟩) | (with_reducible refine HeldP.e_alloc ?_ ?_) | (with_reducible refine HeldP.f_drew ?_) | (with_reducible refine HeldP.f_drewN ?_) | (with_reducible refine HeldP.f_set ?_) | (with_reducible refine HeldP.f_new (by first | omega | (simp; done) | (simp; omega))) | (with_reducible refine HeldP.f_alloc ?_ ?_) | (with_reducible refine HeldP.s_drew ?_) | (with_reducible refine HeldP.s_drewN ?_) | (with_reducible refine HeldP.s_set ?_) | (with_reducible refine HeldP.s_new (by first | omega | (simp; done) | (simp; omega))) | (with_reducible refine HeldP.s_alloc ?_) | (with_reducible exact ⟨_, by assumption⟩) | omega | (intro e; simp at e; done) | (intro e; simp at e; omega) | (exact rfl) | (simp; done) | (simp; omega))), by (repeat' (first | (with_reducible assumption) | (with_reducible refine HeldP.c_drew ?_) | (with_reducible refine HeldP.c_drewN ?_) | (with_reducible refine HeldP.c_same (by omega) ?_) | (with_reducible refine HeldP.c_other ?_ ?_) | (with_reducible refine HeldP.c_new (by first | omega | (simp; done) | (simp; omega)) ?_) | (with_reducible refine HeldP.c_alloc ?_ ?_) | (with_reducible refine HeldP.e_drew ?_) | (with_reducible refine HeldP.e_drewN ?_) | (with_reducible refine HeldP.e_set ?_) | (with_reducible refine HeldP.e_new (by first | omega | (simp; done) | (simp; omega)) ⟨_, rfl⟩) | (with_reducible refine HeldP.e_alloc ?_ ?_) | (with_reducible refine HeldP.f_drew ?_) | (with_reducible refine HeldP.f_drewN ?_) | (with_reducible refine HeldP.f_set ?_) | (with_reducible refine HeldP.f_new (by first | omega | (simp; done) | (simp; omega))) | (with_reducible refine HeldP.f_alloc ?_ ?_) | (with_reducible refine HeldP.s_drew ?_) | (with_reducible refine HeldP.s_drewN ?_) | (with_reducible refine HeldP.s_set ?_) | (with_reducible refine HeldP.s_new (by first | omega | (simp; done) | (simp; omega))) | (with_reducible refine HeldP.s_alloc ?_) | (with_reducible exact ⟨_, by assumption⟩) | omega | (intro e; simp at e; done) | (intro e; simp at e; omega) | (exact rfl) | (simp; done) | (simp; omega))), by (repeat' (first | (with_reducible exact Below.refl _ _) | (with_reducible refine Below.setCell ?_ (by (first | omega | (simp; done) | (simp; omega))) _) | (with_reducible refine Below.alloc ?_ (by (first | omega | (simp; done) | (simp; omega))) _) | (with_reducible refine Below.drew ?_) | (with_reducible refine below_drewN ?_ _) | (with_reducible refine Below.trans ?_ (Below.mono hb (by (first | omega | (simp; done) | (simp; omega)))))))⟩

set_option maxRecDepth 100000 in
set_option maxHeartbeats 2000000 in
/-- Where Box answers an error it hands over none. -/
theorem each0_in (F : Fence) (n : Nat) (hF : F.fn 47) (hro : F.round = none) (hn : 1 ≤ n) (l E L H : Nat) (er : Int) (he : (er != 0) = true) (W : World) (cE : W.cell? ⟨E, 0, none⟩ = some (.int .i64 er)) :
    CallsIn F n Try.prog 47 #[.func (.yield l) #[] #[], .pointer (some ⟨E, 0, none⟩), .pointer (some ⟨L, 0, none⟩), .pointer (some ⟨H, 0, none⟩)] W fun e W' => (∃ v, e = .returned v) ∧ W = W' := by
  refine callsIn_of_wp Try.func47 rfl hF ?_ hro
  simp only [Try.ntmps47, List.size_toArray, List.length_cons, List.length_nil, Nat.reduceAdd, Nat.reduceSub, Array.replicate_succ, Array.replicate_zero, List.push_toArray, List.append_toArray, List.nil_append, List.cons_append]
  refine wpIn_scope_straight ?_
  gi_wp2
  refine noGoto_ret ?_
  refine bodyPost_ret (results_none rfl _ _ _) rfl ?_
  exact ⟨⟨_, rfl⟩, rfl⟩

/-- The places of a box, one by one. -/
def boxPlaces (b : BoxR) : List (Int × Int × Int) := if b.e = 0 then boxL b.l1 b.l2 b.l3 (b.h1 - b.l1 + 1).toNat (b.h3 - b.l3 + 1).toNat (b.h2 - b.l2 + 1).toNat else []
/-- The ends of a box that is one. -/
def BoxR.ok (b : BoxR) : Prop := b.e = 0 → (-1048576 ≤ b.l1 ∧ -1048576 ≤ b.l2 ∧ -1048576 ≤ b.l3 ∧ b.l1 ≤ b.h1 ∧ b.l2 ≤ b.h2 ∧ b.l3 ≤ b.h3 ∧ b.h1 < 1048576 ∧ b.h2 < 1048576 ∧ b.h3 < 1048576)

theorem each_stops (F : Fence) (n : Nat) (hF : F.fn 47) (hro : F.round = none) (hn : 1 ≤ n) (E L H n₀ : Nat) (b : BoxR) (hb : b.ok) (w : World) (hn₀ : n₀ ≤ w.heap.size) (hE : E < n₀) (hL : L < n₀) (hH : H < n₀)
    (cE : w.cell? ⟨E, 0, none⟩ = some (.int .i64 b.e)) (cL0 : w.cell? ⟨L, 0, none⟩ = some (.int .i64 b.l1)) (cL1 : w.cell? ⟨L, 1, none⟩ = some (.int .i64 b.l2)) (cL2 : w.cell? ⟨L, 2, none⟩ = some (.int .i64 b.l3))
    (cH0 : w.cell? ⟨H, 0, none⟩ = some (.int .i64 b.h1)) (cH1 : w.cell? ⟨H, 1, none⟩ = some (.int .i64 b.h2)) (cH2 : w.cell? ⟨H, 2, none⟩ = some (.int .i64 b.h3)) :
    SeqStopsK F n Try.prog 47 #[.pointer (some ⟨E, 0, none⟩), .pointer (some ⟨L, 0, none⟩), .pointer (some ⟨H, 0, none⟩)] encP (Below n₀) (fun ys => ys = boxPlaces b) (fun pre => pre <+: boxPlaces b) (boxPlaces b).length w := by
  intro l J Jx W hW _ _ hY h0
  have kc : ∀ B i, B < n₀ → W.cell? ⟨B, i, none⟩ = w.cell? ⟨B, i, none⟩ := fun B i h => hW.cell (p := ⟨B, i, none⟩) (Nat.lt_of_lt_of_le h hn₀)
  by_cases he : b.e = 0
  · have hp : boxPlaces b = boxL b.l1 b.l2 b.l3 (b.h1 - b.l1 + 1).toNat (b.h3 - b.l3 + 1).toNat (b.h2 - b.l2 + 1).toNat := by rw [boxPlaces, if_pos he]
    rw [hp] at hY ⊢
    obtain ⟨a1, a2, a3, a4, a5, a6, a7, a8, a9⟩ := hb he
    exact each1_in F n hF hro hn l E L H n₀ b.l1 b.l2 b.l3 b.h1 b.h2 b.h3 _ _ _ (by omega) (by omega) (by omega) a1 a2 a3 a7 a8 a9 J Jx hY W hE hL hH ((kc E 0 hE).trans (by rw [cE, he])) ((kc L 0 hL).trans cL0) ((kc L 1 hL).trans cL1) ((kc L 2 hL).trans cL2) ((kc H 0 hH).trans cH0) ((kc H 1 hH).trans cH1) ((kc H 2 hH).trans cH2) h0
  · have hp : boxPlaces b = [] := by rw [boxPlaces, if_neg he]
    rw [hp] at hY ⊢
    refine (each0_in F n hF hro hn l E L H b.e (by simpa using he) W ((kc E 0 hE).trans cE)).mono ?_
    rintro e W' ⟨hv, rfl⟩
    exact ⟨hv, .inl ⟨[], rfl, h0⟩⟩

theorem box_ok_of {x y z u v t : Int} {b : BoxR} (h : boxOf x y z u v t = b) : b.ok := by
  subst h
  unfold boxOf BoxR.ok
  split
  · rename_i hm
    obtain ⟨h1, h2⟩ := Bool.and_eq_true_iff.1 hm
    obtain ⟨a1, a2, a3, a4, a5, a6⟩ := mayB_true h1
    obtain ⟨c1, c2, c3, c4, c5, c6⟩ := mayB_true h2
    split
    · intro _
      simp only [loI, hiI]
      refine ⟨?_, ?_, ?_, ?_, ?_, ?_, ?_, ?_, ?_⟩
      all_goals
        repeat' split
        all_goals omega
    · intro hh
      simp at hh
  · intro hh
    simp at hh
end PlaceW
end Go.Proofs.Ytokkomglbddgcaa
