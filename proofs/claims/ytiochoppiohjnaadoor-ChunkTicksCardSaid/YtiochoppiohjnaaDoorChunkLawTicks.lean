/-
  ChunkTicks: of every list of ticks, and whatever is done to it, each answer is the document's; all else stays.
-/
import Derived.Test.YtiochoppiohjnaaDoorChunkRWakeJ
import Derived.Test.YtiochoppiohjnaaDoorChunkRReady
import Derived.Test.YtiochoppiohjnaaDoorChunkRDrop
import Derived.Test.YtiochoppiohjnaaDoorChunkRLeast
namespace Go.Proofs.YtiochoppiohjnaaDoor
open Go.RowKit
set_option linter.unusedVariables false
set_option linter.unusedSimpArgs false
namespace ChunkW
open BytesW PackW

/-- The one edit. -/
def ed7 : Ed := ⟨7, (2, 0), (3, 0)⟩
theorem ed7_ok : ∀ q ∈ [ed7], EdOk q := fun q hq => by
  simp at hq
  subst hq
  exact ⟨by decide, by decide⟩
theorem ed7_c {W : World} {g : Nat} (hg : g < W.heap.size) (h0 : W.cell? ⟨g, 0, none⟩ = some (.int .i64 7)) (h1 : W.cell? ⟨g, 1, none⟩ = some (.int .u8 2)) (h2 : W.cell? ⟨g, 2, none⟩ = some (.int .u8 0)) (h3 : W.cell? ⟨g, 3, none⟩ = some (.int .u8 3)) (h4 : W.cell? ⟨g, 4, none⟩ = some (.int .u8 0)) : EditC W (some ⟨g, 0, none⟩) [ed7] := fun _ => ⟨g, 0, rfl, hg, fun i x hx => by
  match i, hx with
  | 0, hx =>
    obtain rfl : ed7 = x := by simpa using hx
    exact ⟨h0, h1, h2, h3, h4⟩
  | k + 1, hx => simp at hx⟩
/-- Own ticks of which the blocks' type is known. -/
def TkA (w : World) (A : Option Addr) (l : List Tick) : Prop := PairA tkv 63 w A l
theorem TkA.c {w : World} {A : Option Addr} {l : List Tick} (h : TkA w A l) : PairC tkv w A l := PairA.c h
theorem TkA.below {w w' : World} {A : Option Addr} {l : List Tick} (h : TkA w A l) (hb : Below w.heap.size w w') : TkA w' A l := PairA.below h hb
theorem TkA.grownC {w w' : World} {A : Option Addr} {l : List Tick} {p : Nat} {C L : List Cell} {v : Value} (h : TkA w A l) (h1 : Chk w p C L v) (hg : w.grownBy w' (some p)) : TkA w' A l := pair_chk h (by decide) h1 hg
theorem TkA.grown {w w' : World} {A : Option Addr} {l : List Tick} {p : Nat} {k : Ck} (h : TkA w A l) (hk : ChkK w p k) (hg : w.grownBy w' (some p)) : TkA w' A l := by
  obtain ⟨_, _, h1, _⟩ := hk
  exact pair_chk h (by decide) h1 hg
def TkRel (w : World) (p n m : Nat) (OA : Option Addr) (ts : List Tick) (C L : List Cell) (u v : Value) (wr : World) : Prop := ∃ (j : Nat) (us : List Tick) (WA : Option Addr) (wc : Nat), v = .int .i64 j ∧ u = .slice WA us.length wc ∧ j ≤ m ∧ us.length ≤ n + j ∧ ChkK wr p ⟨C, L, us⟩ ∧ TkA wr WA us ∧ TkA wr OA ts ∧ Below w.heap.size w wr
theorem rtks_n {w : World} {A B : Option Addr} {l m : List Tick} {a b c d : Nat} {r : Bool} (ha : a = l.length) (hb : b = m.length) (hA : PairC tkv w A l) (hB : PairC tkv w B m) (hl : a ≤ 1000000) (hm : b ≤ 1000000) (hr : decide (l = m) = r) :
    Calls Tryd.prog 18 #[.slice A a c, .slice B b d] w fun e w' => e = .returned (.bool r) ∧ Below w.heap.size w w' := by
  subst ha hb
  exact rtks_c hA hB hl hm hr
theorem own_empty {w : World} {B : Nat} (hB : B ≤ w.heap.size) : OwnP tkv 63 (w.alloc (.cells #[] 63)) B (.slice (some ⟨w.heap.size, 0, none⟩) 0 0) [] := by
  unfold OwnP
  refine ⟨by simp [flatP], .inr ⟨w.heap.size, 0, #[], rfl, hB, by rw [heap_alloc_new], by simp, by simp [maxLen], by simp, rfl⟩⟩

set_option maxRecDepth 100000 in
set_option maxHeartbeats 16000000 in
theorem law_ticks {w : World} {A B : Option Addr} {ts : List Tick} {l : List Ac} {c d : Nat} {now : Int} (hT : KindW.Tab w) (hd : ts.length ≤ c ∧ c ≤ 9223372036854775807) (hA : PairC tkv w A ts) (hm9 : l.length ≤ 9223372036854775807) (hB : ActC w B l ∧ ∀ q ∈ l, AcOk q) (l2 : -9223372036854775808 ≤ now) (u2 : now ≤ 9223372036854775807) :
    Calls Tryd.prog 5 #[.slice A ts.length c, .slice B l.length d, .int .i64 now] w fun e w' => e = .returned (.bool true) ∧ Below w.heap.size w w' := by
  have HT := Lib.hid hT
  have HA := Lib.hid hA
  have HAC := Lib.hid hB.1
  have HOK := Lib.hid hB.2
  obtain ⟨n, hn⟩ : ∃ n, n = ts.length := ⟨_, rfl⟩
  obtain ⟨m, hm⟩ : ∃ m, m = l.length := ⟨_, rfl⟩
  have HN := Lib.hid hn
  have HM := Lib.hid hm
  rw [← hn] at hd ⊢
  rw [← hm] at hm9 ⊢
  clear hT hA hB hn hm
  by_cases h1 : 300 < n
  · have e1 : decide ((300 : Int) < n) = true := by simp; omega
    clear h1
    go_enter Tryd.func5, Tryd.ntmps5
    go_wp2_with (go_at_call 9; refine (awake_c HT.out).mono ?_; rintro e w1 ⟨rfl, hb1⟩)
    go_ret
    exact ⟨rfl, hb1⟩
  have e1 : decide ((300 : Int) < n) = false := by simp; omega
  by_cases h2 : 300 < m
  · have e2 : decide ((300 : Int) < m) = true := by simp; omega
    clear h1 h2
    go_enter Tryd.func5, Tryd.ntmps5
    go_wp2_with (go_at_call 9; refine (awake_c HT.out).mono ?_; rintro e w1 ⟨rfl, hb1⟩)
    go_ret
    exact ⟨rfl, hb1⟩
  have e2 : decide ((300 : Int) < m) = false := by simp; omega
  have hn300 : n ≤ 300 := by omega
  have hm300 : m ≤ 300 := by omega
  clear h1 h2
  go_enter Tryd.func5, Tryd.ntmps5
  go_wp2_with ((with_reducible refine at_slot 24 ?_); refine Classical.byContradiction (fun hG => ?_))
  refine hG ?_
  clear hG
  refine wp_appP rfl (.tmp 22) (.tmp 23) rfl underTicks infoTick rfl (by omega) one_tk (B := w.heap.size) (l := []) (l2 := ts) rfl (own_empty (Nat.le_refl _)) (by rw [← HN.out]; rfl) (HA.out.below ((Below.refl _ _).alloc (Nat.le_refl _) _)) (by have := HN.out; simp; omega) (by simp) ?_
  intro v3 w3 hown3 hg3 hb3
  rw [List.nil_append] at hown3
  obtain ⟨OA, oc, rfl, ho3, _, _⟩ := hown3.typed
  rw [← HN.out]
  have HO3 : Hid (TkA w3 OA ts) := Lib.hid ho3
  have HOW := Lib.hid hown3
  have HB3 := Lib.hid (((Below.refl w.heap.size w).alloc (Nat.le_refl _) _).trans hb3)
  have hz3 := HB3.out.size
  clear hown3 hg3 hb3 ho3
  go_wp2_with fail
  go_at_call 10
  refine calls_namedW (fun W => EditC W (some ⟨w3.heap.size, 0, none⟩) [ed7] ∧ Below w3.heap.size w3 W) ⟨ed7_c (by simp) (by (repeat' (first | (with_reducible assumption) | (with_reducible refine HeldP.c_drew ?_) | (with_reducible refine HeldP.c_drewN ?_) | (with_reducible refine HeldP.c_same (by omega) ?_) | (with_reducible refine HeldP.c_other ?_ ?_) | (with_reducible refine HeldP.c_new (by first | omega | (simp; done) | (simp; omega)) ?_) | (with_reducible refine HeldP.c_alloc ?_ ?_) | (with_reducible refine HeldP.e_drew ?_) | (with_reducible refine HeldP.e_drewN ?_) | (with_reducible refine HeldP.e_set ?_) | (with_reducible refine HeldP.e_new (by first | omega | (simp; done) | (simp; omega)) ⟨_, rfl⟩) | (with_reducible refine HeldP.e_alloc ?_ ?_) | (with_reducible refine HeldP.f_drew ?_) | (with_reducible refine HeldP.f_drewN ?_) | (with_reducible refine HeldP.f_set ?_) | (with_reducible refine HeldP.f_new (by first | omega | (simp; done) | (simp; omega))) | (with_reducible refine HeldP.f_alloc ?_ ?_) | (with_reducible refine HeldP.s_drew ?_) | (with_reducible refine HeldP.s_drewN ?_) | (with_reducible refine HeldP.s_set ?_) | (with_reducible refine HeldP.s_new (by first | omega | (simp; done) | (simp; omega))) | (with_reducible refine HeldP.s_alloc ?_) | (with_reducible exact ⟨_, by assumption⟩) | omega | (intro e; simp at e; done) | (intro e; simp at e; omega) | (exact rfl) | (simp; done) | (simp; omega)))) (by (repeat' (first | (with_reducible assumption) | (with_reducible refine HeldP.c_drew ?_) | (with_reducible refine HeldP.c_drewN ?_) | (with_reducible refine HeldP.c_same (by omega) ?_) | (with_reducible refine HeldP.c_other ?_ ?_) | (with_reducible refine HeldP.c_new (by first | omega | (simp; done) | (simp; omega)) ?_) | (with_reducible refine HeldP.c_alloc ?_ ?_) | (with_reducible refine HeldP.e_drew ?_) | (with_reducible refine HeldP.e_drewN ?_) | (with_reducible refine HeldP.e_set ?_) | (with_reducible refine HeldP.e_new (by first | omega | (simp; done) | (simp; omega)) ⟨_, rfl⟩) | (with_reducible refine HeldP.e_alloc ?_ ?_) | (with_reducible refine HeldP.f_drew ?_) | (with_reducible refine HeldP.f_drewN ?_) | (with_reducible refine HeldP.f_set ?_) | (with_reducible refine HeldP.f_new (by first | omega | (simp; done) | (simp; omega))) | (with_reducible refine HeldP.f_alloc ?_ ?_) | (with_reducible refine HeldP.s_drew ?_) | (with_reducible refine HeldP.s_drewN ?_) | (with_reducible refine HeldP.s_set ?_) | (with_reducible refine HeldP.s_new (by first | omega | (simp; done) | (simp; omega))) | (with_reducible refine HeldP.s_alloc ?_) | (with_reducible exact ⟨_, by assumption⟩) | omega | (intro e; simp at e; done) | (intro e; simp at e; omega) | (exact rfl) | (simp; done) | (simp; omega)))) (by (repeat' (first | (with_reducible assumption) | (with_reducible refine HeldP.c_drew ?_) | (with_reducible refine HeldP.c_drewN ?_) | (with_reducible refine HeldP.c_same (by omega) ?_) | (with_reducible refine HeldP.c_other ?_ ?_) | (with_reducible refine HeldP.c_new (by first | omega | (simp; done) | (simp; omega)) ?_) | (with_reducible refine HeldP.c_alloc ?_ ?_) | (with_reducible refine HeldP.e_drew ?_) | (with_reducible refine HeldP.e_drewN ?_) | (with_reducible refine HeldP.e_set ?_) | (with_reducible refine HeldP.e_new (by first | omega | (simp; done) | (simp; omega)) ⟨_, rfl⟩) | (with_reducible refine HeldP.e_alloc ?_ ?_) | (with_reducible refine HeldP.f_drew ?_) | (with_reducible refine HeldP.f_drewN ?_) | (with_reducible refine HeldP.f_set ?_) | (with_reducible refine HeldP.f_new (by first | omega | (simp; done) | (simp; omega))) | (with_reducible refine HeldP.f_alloc ?_ ?_) | (with_reducible refine HeldP.s_drew ?_) | (with_reducible refine HeldP.s_drewN ?_) | (with_reducible refine HeldP.s_set ?_) | (with_reducible refine HeldP.s_new (by first | omega | (simp; done) | (simp; omega))) | (with_reducible refine HeldP.s_alloc ?_) | (with_reducible exact ⟨_, by assumption⟩) | omega | (intro e; simp at e; done) | (intro e; simp at e; omega) | (exact rfl) | (simp; done) | (simp; omega)))) (by (repeat' (first | (with_reducible assumption) | (with_reducible refine HeldP.c_drew ?_) | (with_reducible refine HeldP.c_drewN ?_) | (with_reducible refine HeldP.c_same (by omega) ?_) | (with_reducible refine HeldP.c_other ?_ ?_) | (with_reducible refine HeldP.c_new (by first | omega | (simp; done) | (simp; omega)) ?_) | (with_reducible refine HeldP.c_alloc ?_ ?_) | (with_reducible refine HeldP.e_drew ?_) | (with_reducible refine HeldP.e_drewN ?_) | (with_reducible refine HeldP.e_set ?_) | (with_reducible refine HeldP.e_new (by first | omega | (simp; done) | (simp; omega)) ⟨_, rfl⟩) | (with_reducible refine HeldP.e_alloc ?_ ?_) | (with_reducible refine HeldP.f_drew ?_) | (with_reducible refine HeldP.f_drewN ?_) | (with_reducible refine HeldP.f_set ?_) | (with_reducible refine HeldP.f_new (by first | omega | (simp; done) | (simp; omega))) | (with_reducible refine HeldP.f_alloc ?_ ?_) | (with_reducible refine HeldP.s_drew ?_) | (with_reducible refine HeldP.s_drewN ?_) | (with_reducible refine HeldP.s_set ?_) | (with_reducible refine HeldP.s_new (by first | omega | (simp; done) | (simp; omega))) | (with_reducible refine HeldP.s_alloc ?_) | (with_reducible exact ⟨_, by assumption⟩) | omega | (intro e; simp at e; done) | (intro e; simp at e; omega) | (exact rfl) | (simp; done) | (simp; omega)))) (by (repeat' (first | (with_reducible assumption) | (with_reducible refine HeldP.c_drew ?_) | (with_reducible refine HeldP.c_drewN ?_) | (with_reducible refine HeldP.c_same (by omega) ?_) | (with_reducible refine HeldP.c_other ?_ ?_) | (with_reducible refine HeldP.c_new (by first | omega | (simp; done) | (simp; omega)) ?_) | (with_reducible refine HeldP.c_alloc ?_ ?_) | (with_reducible refine HeldP.e_drew ?_) | (with_reducible refine HeldP.e_drewN ?_) | (with_reducible refine HeldP.e_set ?_) | (with_reducible refine HeldP.e_new (by first | omega | (simp; done) | (simp; omega)) ⟨_, rfl⟩) | (with_reducible refine HeldP.e_alloc ?_ ?_) | (with_reducible refine HeldP.f_drew ?_) | (with_reducible refine HeldP.f_drewN ?_) | (with_reducible refine HeldP.f_set ?_) | (with_reducible refine HeldP.f_new (by first | omega | (simp; done) | (simp; omega))) | (with_reducible refine HeldP.f_alloc ?_ ?_) | (with_reducible refine HeldP.s_drew ?_) | (with_reducible refine HeldP.s_drewN ?_) | (with_reducible refine HeldP.s_set ?_) | (with_reducible refine HeldP.s_new (by first | omega | (simp; done) | (simp; omega))) | (with_reducible refine HeldP.s_alloc ?_) | (with_reducible exact ⟨_, by assumption⟩) | omega | (intro e; simp at e; done) | (intro e; simp at e; omega) | (exact rfl) | (simp; done) | (simp; omega)))), by (repeat' (first | (with_reducible exact Below.refl _ _) | (with_reducible refine Below.setCell ?_ (by (first | omega | (simp; done) | (simp; omega))) _) | (with_reducible refine Below.alloc ?_ (by (first | omega | (simp; done) | (simp; omega))) _) | (with_reducible refine Below.drew ?_) | (with_reducible refine below_drewN ?_ _)))⟩ ?_
  rintro w4 ⟨hed, hb4⟩
  refine (of_c (l := [ed7]) (ts := []) (d := 0) hed ed7_ok (by simp) PairC.nil (by simp)).mono ?_
  rintro e w5 ⟨p, rfl, hkp, hpl, hb5⟩
  have hb35 := below_t hb4 hb5
  obtain ⟨C0, hC0⟩ : ∃ C, C = (ofP [ed7]).1 := ⟨_, rfl⟩
  obtain ⟨L0, hL0⟩ : ∃ C, C = (ofP [ed7]).2 := ⟨_, rfl⟩
  have HCL : Hid (∀ us, ckOf [ed7] us = ⟨C0, L0, us⟩) := Lib.hid (fun us => by rw [hC0, hL0]; rfl)
  rw [HCL.out] at hkp
  obtain ⟨TA0, tc0, k1, _, _, _, _⟩ := hkp
  have HK5 : Hid (Chk w5 p C0 L0 (.slice TA0 0 tc0)) := Lib.hid k1
  have HO5 := Lib.hid (HO3.out.below hb35)
  have HOW5 := Lib.hid (HOW.out.below hb35)
  have HB5 := Lib.hid (below_t HB3.out hb35)
  have hpw : w.heap.size ≤ p := by have := hb4.size; omega
  have q0 := k1.t
  have q1 := k1.frozen 16384
  have hpl5 := k1.lt
  clear hed hb4 hpl hb5 hb35 k1 hC0 hL0
  go_wp2_with ((with_reducible refine at_slot 36 ?_); refine Classical.byContradiction (fun hG => ?_))
  refine hG ?_
  clear hG
  refine list_named (fun W => ChkK W p ⟨C0, L0, ts⟩ ∧ TkA W OA ts ∧ Below w.heap.size w W) ⟨chk_set HK5.out (by have h := HOW5.out; rw [← HN.out] at h; exact h) (by have := HN.out; omega), HO5.out.grownC HK5.out (grown_set _ _ _ _), HB5.out.setCell (by first | omega | (simp only; omega)) _⟩ ?_
  clear q0 q1 hpl5
  rintro w6 ⟨hk6, ho6, hb6⟩
  have HK6 := Lib.hid hk6
  have HO6 := Lib.hid ho6
  have HB6 := Lib.hid hb6
  have hz6 := hb6.size
  clear hk6 ho6 hb6
  refine wp_appP rfl (.tmp 34) (.tmp 35) rfl underTicks infoTick rfl (by omega) one_tk (B := w6.heap.size) (l := []) (l2 := ts) rfl (OwnP.nil _ _ _) (by rw [← HN.out]; rfl) (HA.out.below HB6.out) (by have := HN.out; simp; omega) (Nat.le_refl _) ?_
  intro v7 w7 hown7 hg7 hb7
  rw [List.nil_append] at hown7
  obtain ⟨WA, wc, rfl, hw7, _, _⟩ := hown7.typed
  rw [← HN.out]
  have HW7 : Hid (TkA w7 WA ts) := Lib.hid hw7
  have HK7 := Lib.hid (HK6.out.below hb7)
  have HO7 := Lib.hid (HO6.out.below hb7)
  have HB7 := Lib.hid (below_t HB6.out hb7)
  clear hown7 hg7 hb7 hw7
  go_wp2_with fail
  go_loopw [9, 10] (TkRel w p n m OA ts C0 L0) (fun _ v _ => m + 1 - (intOf v).toNat)
  case atStart => exact ⟨0, ts, WA, wc, rfl, by rw [← HN.out], by omega, by have := HN.out; omega, HK7.out, HW7.out, HO7.out, HB7.out⟩
  case round =>
    obtain ⟨j, us, WA, wc, rfl, rfl, hj, hul, hk, hwa, hoa, hbw⟩ := hrel
    obtain ⟨un, hun⟩ : ∃ un, un = us.length := ⟨_, rfl⟩
    rw [← hun] at hul ⊢
    have HUN := Lib.hid hun
    have HK := Lib.hid hk
    have HW := Lib.hid hwa
    have HO := Lib.hid hoa
    have HB := Lib.hid hbw
    have hz := hbw.size
    obtain ⟨TA, tc, k1, k2, k3, k4, k5⟩ := hk
    simp only at k1 k2 k3 k5
    rw [← hun] at k1
    have HTA := Lib.hid k2
    have hpl := k1.lt
    have q0 := k1.t
    have hjI : (j : Int) ≤ m := by omega
    have hun6 : un ≤ 600 := by omega
    obtain ⟨lt0, hlt0⟩ : ∃ r, leastT us = r := ⟨_, rfl⟩
    have HLE := Lib.hid hlt0
    clear hwa hoa hbw k1 k2 k3 k4 k5 hun hlt0
    go_wp2_with fail
    go_at_call 18
    refine (rtks_n HUN.out HUN.out HTA.out HW.out.c (by omega) (by omega) (decide_eq_true rfl)).mono ?_
    rintro e w8 ⟨rfl, hb8⟩
    have HB8 := Lib.hid hb8
    clear hb8 q0
    go_wp2_with fail
    go_at_call 19
    refine (least_c (HK.out.below HB8.out) HLE.out).mono ?_
    rintro e w9 ⟨rfl, hb9⟩
    have HB9 := Lib.hid (below_t HB8.out hb9)
    clear hb9
    go_wp2_with fail
    go_at_call 20
    refine (rleast_c (HW.out.below HB9.out).c HUN.out (by omega) HLE.out).mono ?_
    rintro e w10 ⟨rfl, hb10⟩
    have HB10 := Lib.hid (below_t HB9.out hb10)
    clear hb10
    go_wp2_with fail
    go_at_call 21
    refine (ready_c (HK.out.below HB10.out)).mono ?_
    rintro e w11 ⟨v11, rfl, hown11, hb11⟩
    obtain ⟨RA, rca, rfl, hr11, _, _⟩ := hown11.typed
    obtain ⟨rn, hrn⟩ : ∃ rn, rn = (readyT us now).length := ⟨_, rfl⟩
    have hrl := ready_len us now
    simp only at hr11 hown11 ⊢
    rw [← hrn] at hrl ⊢
    have HRN := Lib.hid hrn
    have HR11 : Hid (TkA w11 RA (readyT us now)) := Lib.hid hr11
    have HB11 := Lib.hid (below_t HB10.out hb11)
    have hrl6 : rn ≤ 600 := by have := HUN.out; omega
    clear hown11 hb11 hr11 hrn hrl
    go_wp2_with fail
    go_at_call 22
    refine (rready_c (HW.out.below HB11.out).c HUN.out (by omega)).mono ?_
    rintro e w12 ⟨v12, rfl, hown12, hb12⟩
    obtain ⟨SA, sca, rfl, hs12, _, _⟩ := hown12.typed
    rw [← HRN.out]
    have HS12 : Hid (TkA w12 SA (readyT us now)) := Lib.hid hs12
    have HR12 := Lib.hid (HR11.out.below hb12)
    have HB12 := Lib.hid (below_t HB11.out hb12)
    clear hown12 hb12 hs12
    go_wp2_with fail
    go_at_call 18
    refine (rtks_n HRN.out HRN.out HR12.out.c HS12.out.c (by omega) (by omega) (decide_eq_true rfl)).mono ?_
    rintro e w13 ⟨rfl, hb13⟩
    have HB13 := Lib.hid (below_t HB12.out hb13)
    have HK13 := Lib.hid (HK.out.below HB13.out)
    have HW13 := Lib.hid (HW.out.below HB13.out)
    have HO13 := Lib.hid (HO.out.below HB13.out)
    have HBw := Lib.hid (below_t HB.out HB13.out)
    have hz13 := HBw.out.size
    have hpl13 : p < w13.heap.size := by obtain ⟨_, _, h, _⟩ := HK13.out; exact h.lt
    clear hb13
    by_cases hjm : j < m
    · have hjmI : (j : Int) < m := by omega
      have hjne : ¬ (j : Int) = m := by omega
      have hj0 : (0 : Int) ≤ j := by omega
      obtain ⟨q, hq⟩ : ∃ q, l[j]? = some q := ⟨_, List.getElem?_eq_getElem (by have := HM.out; omega)⟩
      obtain ⟨b, o, rfl, hbl, hcs⟩ := HAC.out (fun e => by rw [e] at hq; simp at hq)
      have hc := hcs j q hq
      have b0 := (HBw.out.cell (p := ⟨b, o + j * 3, none⟩) hbl).trans hc.1
      have b1 := (HBw.out.cell (p := ⟨b, o + j * 3 + 1, none⟩) hbl).trans hc.2.1
      have b2 := (HBw.out.cell (p := ⟨b, o + j * 3 + 2, none⟩) hbl).trans hc.2.2
      have hmp : w13.heap.size ≠ p := by omega
      obtain ⟨dr, ix, du⟩ := q
      simp only at b0 b1 b2
      clear hq hcs hc
      cases dr
      · go_wp2_with fail
        go_at_call 25
        refine calls_namedW (fun W => ((W.cell? ⟨w13.heap.size, 0, none⟩ = some (.bool false) ∧ W.cell? ⟨w13.heap.size, 1, none⟩ = some (.int .i64 ix) ∧ W.cell? ⟨w13.heap.size, 2, none⟩ = some (.int .i64 du)) ∧ w13.heap.size < W.heap.size) ∧ Below w13.heap.size w13 W) ⟨⟨⟨by (repeat' (first | (with_reducible assumption) | (with_reducible refine HeldP.c_drew ?_) | (with_reducible refine HeldP.c_drewN ?_) | (with_reducible refine HeldP.c_same (by omega) ?_) | (with_reducible refine HeldP.c_other ?_ ?_) | (with_reducible refine HeldP.c_new (by first | omega | (simp; done) | (simp; omega)) ?_) | (with_reducible refine HeldP.c_alloc ?_ ?_) | (with_reducible refine HeldP.e_drew ?_) | (with_reducible refine HeldP.e_drewN ?_) | (with_reducible refine HeldP.e_set ?_) | (with_reducible refine HeldP.e_new (by first | omega | (simp; done) | (simp; omega)) ⟨_, rfl⟩) | (with_reducible refine HeldP.e_alloc ?_ ?_) | (with_reducible refine HeldP.f_drew ?_) | (with_reducible refine HeldP.f_drewN ?_) | (with_reducible refine HeldP.f_set ?_) | (with_reducible refine HeldP.f_new (by first | omega | (simp; done) | (simp; omega))) | (with_reducible refine HeldP.f_alloc ?_ ?_) | (with_reducible refine HeldP.s_drew ?_) | (with_reducible refine HeldP.s_drewN ?_) | (with_reducible refine HeldP.s_set ?_) | (with_reducible refine HeldP.s_new (by first | omega | (simp; done) | (simp; omega))) | (with_reducible refine HeldP.s_alloc ?_) | (with_reducible exact ⟨_, by assumption⟩) | omega | (intro e; simp at e; done) | (intro e; simp at e; omega) | (exact rfl) | (simp; done) | (simp; omega))), by (repeat' (first | (with_reducible assumption) | (with_reducible refine HeldP.c_drew ?_) | (with_reducible refine HeldP.c_drewN ?_) | (with_reducible refine HeldP.c_same (by omega) ?_) | (with_reducible refine HeldP.c_other ?_ ?_) | (with_reducible refine HeldP.c_new (by first | omega | (simp; done) | (simp; omega)) ?_) | (with_reducible refine HeldP.c_alloc ?_ ?_) | (with_reducible refine HeldP.e_drew ?_) | (with_reducible refine HeldP.e_drewN ?_) | (with_reducible refine HeldP.e_set ?_) | (with_reducible refine HeldP.e_new (by first | omega | (simp; done) | (simp; omega)) ⟨_, rfl⟩) | (with_reducible refine HeldP.e_alloc ?_ ?_) | (with_reducible refine HeldP.f_drew ?_) | (with_reducible refine HeldP.f_drewN ?_) | (with_reducible refine HeldP.f_set ?_) | (with_reducible refine HeldP.f_new (by first | omega | (simp; done) | (simp; omega))) | (with_reducible refine HeldP.f_alloc ?_ ?_) | (with_reducible refine HeldP.s_drew ?_) | (with_reducible refine HeldP.s_drewN ?_) | (with_reducible refine HeldP.s_set ?_) | (with_reducible refine HeldP.s_new (by first | omega | (simp; done) | (simp; omega))) | (with_reducible refine HeldP.s_alloc ?_) | (with_reducible exact ⟨_, by assumption⟩) | omega | (intro e; simp at e; done) | (intro e; simp at e; omega) | (exact rfl) | (simp; done) | (simp; omega))), by (repeat' (first | (with_reducible assumption) | (with_reducible refine HeldP.c_drew ?_) | (with_reducible refine HeldP.c_drewN ?_) | (with_reducible refine HeldP.c_same (by omega) ?_) | (with_reducible refine HeldP.c_other ?_ ?_) | (with_reducible refine HeldP.c_new (by first | omega | (simp; done) | (simp; omega)) ?_) | (with_reducible refine HeldP.c_alloc ?_ ?_) | (with_reducible refine HeldP.e_drew ?_) | (with_reducible refine HeldP.e_drewN ?_) | (with_reducible refine HeldP.e_set ?_) | (with_reducible refine HeldP.e_new (by first | omega | (simp; done) | (simp; omega)) ⟨_, rfl⟩) | (with_reducible refine HeldP.e_alloc ?_ ?_) | (with_reducible refine HeldP.f_drew ?_) | (with_reducible refine HeldP.f_drewN ?_) | (with_reducible refine HeldP.f_set ?_) | (with_reducible refine HeldP.f_new (by first | omega | (simp; done) | (simp; omega))) | (with_reducible refine HeldP.f_alloc ?_ ?_) | (with_reducible refine HeldP.s_drew ?_) | (with_reducible refine HeldP.s_drewN ?_) | (with_reducible refine HeldP.s_set ?_) | (with_reducible refine HeldP.s_new (by first | omega | (simp; done) | (simp; omega))) | (with_reducible refine HeldP.s_alloc ?_) | (with_reducible exact ⟨_, by assumption⟩) | omega | (intro e; simp at e; done) | (intro e; simp at e; omega) | (exact rfl) | (simp; done) | (simp; omega)))⟩, by (repeat' (first | (with_reducible assumption) | (with_reducible refine HeldP.c_drew ?_) | (with_reducible refine HeldP.c_drewN ?_) | (with_reducible refine HeldP.c_same (by omega) ?_) | (with_reducible refine HeldP.c_other ?_ ?_) | (with_reducible refine HeldP.c_new (by first | omega | (simp; done) | (simp; omega)) ?_) | (with_reducible refine HeldP.c_alloc ?_ ?_) | (with_reducible refine HeldP.e_drew ?_) | (with_reducible refine HeldP.e_drewN ?_) | (with_reducible refine HeldP.e_set ?_) | (with_reducible refine HeldP.e_new (by first | omega | (simp; done) | (simp; omega)) ⟨_, rfl⟩) | (with_reducible refine HeldP.e_alloc ?_ ?_) | (with_reducible refine HeldP.f_drew ?_) | (with_reducible refine HeldP.f_drewN ?_) | (with_reducible refine HeldP.f_set ?_) | (with_reducible refine HeldP.f_new (by first | omega | (simp; done) | (simp; omega))) | (with_reducible refine HeldP.f_alloc ?_ ?_) | (with_reducible refine HeldP.s_drew ?_) | (with_reducible refine HeldP.s_drewN ?_) | (with_reducible refine HeldP.s_set ?_) | (with_reducible refine HeldP.s_new (by first | omega | (simp; done) | (simp; omega))) | (with_reducible refine HeldP.s_alloc ?_) | (with_reducible exact ⟨_, by assumption⟩) | omega | (intro e; simp at e; done) | (intro e; simp at e; omega) | (exact rfl) | (simp; done) | (simp; omega)))⟩, by (repeat' (first | (with_reducible exact Below.refl _ _) | (with_reducible refine Below.setCell ?_ (by (first | omega | (simp; done) | (simp; omega))) _) | (with_reducible refine Below.alloc ?_ (by (first | omega | (simp; done) | (simp; omega))) _) | (with_reducible refine Below.drew ?_) | (with_reducible refine below_drewN ?_ _)))⟩ ?_
        rintro w3' ⟨⟨⟨m0, m1, m2⟩, ml⟩, hb3⟩
        have hk3 := HK13.out.below hb3
        have hw3 := HW13.out.below hb3
        have ho3 := HO13.out.below hb3
        refine (wake_c (k := ⟨C0, L0, us⟩) hk3 (by have := HUN.out; simp only; omega)).mono ?_
        rintro e w4' ⟨rfl, hk4, hg4⟩
        obtain ⟨us', hus⟩ : ∃ us', wakeT us ix du = us' := ⟨_, rfl⟩
        have HUS := Lib.hid hus
        simp only [hus] at hk4
        have q1 := cellG m1 ml hmp hg4
        have q2 := cellG m2 ml hmp hg4
        have HK4 : Hid (ChkK w4' p ⟨C0, L0, us'⟩) := Lib.hid hk4
        have HW4 := Lib.hid (hw3.grown hk3 hg4)
        have HO4 := Lib.hid (ho3.grown hk3 hg4)
        have HB4 := Lib.hid (grown_below (below_t HBw.out hb3) hg4 hpw)
        have ml4 : w13.heap.size < w4'.heap.size := Nat.lt_of_lt_of_le ml hg4.size
        have hul' : us'.length ≤ un + 1 := by have h1 := wake_len us ix du; have h2 := HUN.out; rw [hus] at h1; omega
        clear m0 m1 m2 ml hk3 hw3 ho3 hb3 hk4 hg4 b0 b1 b2 hus
        go_wp2_with fail
        go_at_call 26
        refine (rwake_c (HW4.out).c HUN.out (by omega)).mono ?_
        rw [HUS.out]
        rintro e w5' ⟨v5, rfl, hown5, hb5⟩
        obtain ⟨WA5, wc5, rfl, hw5, _, _⟩ := hown5.typed
        obtain ⟨vn, hvn⟩ : ∃ vn, vn = us'.length := ⟨_, rfl⟩
        rw [← hvn] at hul' ⊢
        have HVN := Lib.hid hvn
        have HW5 : Hid (TkA w5' WA5 us') := Lib.hid hw5
        have HK5' := Lib.hid (HK4.out.below hb5)
        have HO5' := Lib.hid (HO4.out.below hb5)
        have HB5' := Lib.hid (below_t HB4.out hb5)
        have ml5 : w13.heap.size < w5'.heap.size := Nat.lt_of_lt_of_le ml4 hb5.size
        have q1' := (hb5.cell (p := ⟨w13.heap.size, 1, none⟩) ml4).trans q1
        have q2' := (hb5.cell (p := ⟨w13.heap.size, 2, none⟩) ml4).trans q2
        obtain ⟨D1, hD1⟩ : ∃ D, dueT us' ix = D := ⟨_, rfl⟩
        obtain ⟨D2, hD2⟩ : ∃ D, dueT us' du = D := ⟨_, rfl⟩
        have HD1 := Lib.hid hD1
        have HD2 := Lib.hid hD2
        clear hown5 hb5 hw5 q1 q2 ml4 hvn hD1 hD2
        go_wp2_with fail
        refine wp_region_noPanic ?_
        refine wp_region_held_drew (S := fun W => Below w5'.heap.size w5' W) (by kernel_rfl) ((Below.refl _ w5').drew) (fun hHeld => ?_)
        refine wpAnyH_take (i := 0) (oi := ⟨some 97, _, _, _, _, _⟩) (v := .pointer (some ⟨p, 0, none⟩)) rfl (by kernel_rfl) (by kernel_rfl) (by kernel_rfl) (fun _ _ _ h => h) (Or.inl ⟨by rfl, fun W hSW => by go_simp⟩) hHeld ?_
        simp only [Act.put, List.setIfInBounds_toArray, List.set_cons_zero, List.set_cons_succ]
        refine wpAnyH_take (i := 1) (oi := ⟨some 98, _, _, _, _, _⟩) (v := .pointer (some ⟨w13.heap.size, 1, none⟩)) rfl (by kernel_rfl) (by kernel_rfl) (by kernel_rfl) (fun _ _ _ h => h) (Or.inl ⟨by rfl, fun W hSW => by go_simp⟩) hHeld ?_
        simp only [Act.put, List.setIfInBounds_toArray, List.set_cons_zero, List.set_cons_succ]
        refine wpAnyH_take (i := 2) (oi := ⟨some 99, _, _, _, _, _⟩) (v := .int .i64 ix) rfl (by kernel_rfl) (by kernel_rfl) (by kernel_rfl) (fun _ _ _ h => h) (Or.inl ⟨by rfl, fun W hSW => by have a0 := (hSW.cell (p := ⟨w13.heap.size, 1, none⟩) ml5).trans q1'; go_simp⟩) hHeld ?_
        simp only [Act.put, List.setIfInBounds_toArray, List.set_cons_zero, List.set_cons_succ]
        refine wpAnyH_take (i := 4) (oi := ⟨some 101, _, _, _, _, _⟩) (v := .slice WA5 vn wc5) rfl (by kernel_rfl) (by kernel_rfl) (by kernel_rfl) (fun _ _ _ h => h) (Or.inl ⟨by rfl, fun W hSW => by go_simp⟩) hHeld ?_
        simp only [Act.put, List.setIfInBounds_toArray, List.set_cons_zero, List.set_cons_succ]
        refine wpAnyH_take (i := 5) (oi := ⟨some 102, _, _, _, _, _⟩) (v := .pointer (some ⟨w13.heap.size, 1, none⟩)) rfl (by kernel_rfl) (by kernel_rfl) (by kernel_rfl) (fun _ _ _ h => h) (Or.inl ⟨by rfl, fun W hSW => by go_simp⟩) hHeld ?_
        simp only [Act.put, List.setIfInBounds_toArray, List.set_cons_zero, List.set_cons_succ]
        refine wpAnyH_take (i := 6) (oi := ⟨some 103, _, _, _, _, _⟩) (v := .int .i64 ix) rfl (by kernel_rfl) (by kernel_rfl) (by kernel_rfl) (fun _ _ _ h => h) (Or.inl ⟨by rfl, fun W hSW => by have a0 := (hSW.cell (p := ⟨w13.heap.size, 1, none⟩) ml5).trans q1'; go_simp⟩) hHeld ?_
        simp only [Act.put, List.setIfInBounds_toArray, List.set_cons_zero, List.set_cons_succ]
        refine wpAnyH_ready (rs := [3]) (by kernel_rfl) (by simp) ?_
        refine AllReadyH.cons (o := ⟨some 100, _, _, _, _, _⟩) rfl (fun K hK => ?_) AllReadyH.nil
        go_simp
        refine (due_c (HK5'.out.below hHeld) HD1.out).mono ?_
        rintro e w20 ⟨rfl, hb20⟩
        go_wp2_with fail
        refine hK.out _ _ (below_t hHeld hb20) (fun hHeld => ?_)
        clear hK K hb20
        refine wpAnyH_ready (rs := [7]) (by kernel_rfl) (by simp) ?_
        refine AllReadyH.cons (o := ⟨some 104, _, _, _, _, _⟩) rfl (fun K hK => ?_) AllReadyH.nil
        go_simp
        refine (rdue_c (HW5.out.below hHeld).c HVN.out (by omega) HD1.out).mono ?_
        rintro e w21 ⟨rfl, hb21⟩
        go_wp2_with fail
        refine hK.out _ _ (below_t hHeld hb21) (fun hHeld => ?_)
        clear hK K hb21
        refine wpAnyH_take (i := 8) (oi := ⟨some 105, _, _, _, _, _⟩) (v := .bool false) rfl (by kernel_rfl) (by kernel_rfl) (by kernel_rfl) (fun _ _ _ h => h) (Or.inl ⟨by rfl, fun W hSW => by go_simp⟩) hHeld ?_
        simp only [Act.put, List.setIfInBounds_toArray, List.set_cons_zero, List.set_cons_succ]
        refine wpAnyH_take (i := 9) (oi := ⟨some 106, _, _, _, _, _⟩) (v := .bool false) rfl (by kernel_rfl) (by kernel_rfl) (by kernel_rfl) (fun _ _ _ h => h) (Or.inl ⟨by rfl, fun W hSW => by go_simp⟩) hHeld ?_
        simp only [Act.put, List.setIfInBounds_toArray, List.set_cons_zero, List.set_cons_succ]
        refine wpAnyH_take (i := 10) (oi := ⟨some 107, _, _, _, _, _⟩) (v := .pointer (some ⟨p, 0, none⟩)) rfl (by kernel_rfl) (by kernel_rfl) (by kernel_rfl) (fun _ _ _ h => h) (Or.inl ⟨by rfl, fun W hSW => by go_simp⟩) hHeld ?_
        simp only [Act.put, List.setIfInBounds_toArray, List.set_cons_zero, List.set_cons_succ]
        refine wpAnyH_take (i := 11) (oi := ⟨some 108, _, _, _, _, _⟩) (v := .pointer (some ⟨w13.heap.size, 2, none⟩)) rfl (by kernel_rfl) (by kernel_rfl) (by kernel_rfl) (fun _ _ _ h => h) (Or.inl ⟨by rfl, fun W hSW => by go_simp⟩) hHeld ?_
        simp only [Act.put, List.setIfInBounds_toArray, List.set_cons_zero, List.set_cons_succ]
        refine wpAnyH_take (i := 12) (oi := ⟨some 109, _, _, _, _, _⟩) (v := .int .i64 du) rfl (by kernel_rfl) (by kernel_rfl) (by kernel_rfl) (fun _ _ _ h => h) (Or.inl ⟨by rfl, fun W hSW => by have a0 := (hSW.cell (p := ⟨w13.heap.size, 2, none⟩) ml5).trans q2'; go_simp⟩) hHeld ?_
        simp only [Act.put, List.setIfInBounds_toArray, List.set_cons_zero, List.set_cons_succ]
        refine wpAnyH_take (i := 14) (oi := ⟨some 111, _, _, _, _, _⟩) (v := .slice WA5 vn wc5) rfl (by kernel_rfl) (by kernel_rfl) (by kernel_rfl) (fun _ _ _ h => h) (Or.inl ⟨by rfl, fun W hSW => by go_simp⟩) hHeld ?_
        simp only [Act.put, List.setIfInBounds_toArray, List.set_cons_zero, List.set_cons_succ]
        refine wpAnyH_take (i := 15) (oi := ⟨some 112, _, _, _, _, _⟩) (v := .pointer (some ⟨w13.heap.size, 2, none⟩)) rfl (by kernel_rfl) (by kernel_rfl) (by kernel_rfl) (fun _ _ _ h => h) (Or.inl ⟨by rfl, fun W hSW => by go_simp⟩) hHeld ?_
        simp only [Act.put, List.setIfInBounds_toArray, List.set_cons_zero, List.set_cons_succ]
        refine wpAnyH_take (i := 16) (oi := ⟨some 113, _, _, _, _, _⟩) (v := .int .i64 du) rfl (by kernel_rfl) (by kernel_rfl) (by kernel_rfl) (fun _ _ _ h => h) (Or.inl ⟨by rfl, fun W hSW => by have a0 := (hSW.cell (p := ⟨w13.heap.size, 2, none⟩) ml5).trans q2'; go_simp⟩) hHeld ?_
        simp only [Act.put, List.setIfInBounds_toArray, List.set_cons_zero, List.set_cons_succ]
        refine wpAnyH_ready (rs := [13]) (by kernel_rfl) (by simp) ?_
        refine AllReadyH.cons (o := ⟨some 110, _, _, _, _, _⟩) rfl (fun K hK => ?_) AllReadyH.nil
        go_simp
        refine (due_c (HK5'.out.below hHeld) HD2.out).mono ?_
        rintro e w22 ⟨rfl, hb22⟩
        go_wp2_with fail
        refine hK.out _ _ (below_t hHeld hb22) (fun hHeld => ?_)
        clear hK K hb22
        refine wpAnyH_ready (rs := [17]) (by kernel_rfl) (by simp) ?_
        refine AllReadyH.cons (o := ⟨some 114, _, _, _, _, _⟩) rfl (fun K hK => ?_) AllReadyH.nil
        go_simp
        refine (rdue_c (HW5.out.below hHeld).c HVN.out (by omega) HD2.out).mono ?_
        rintro e w23 ⟨rfl, hb23⟩
        go_wp2_with fail
        refine hK.out _ _ (below_t hHeld hb23) (fun hHeld => ?_)
        clear hK K hb23
        refine wpAnyH_take (i := 18) (oi := ⟨some 115, _, _, _, _, _⟩) (v := .bool false) rfl (by kernel_rfl) (by kernel_rfl) (by kernel_rfl) (fun _ _ _ h => h) (Or.inl ⟨by rfl, fun W hSW => by go_simp⟩) hHeld ?_
        simp only [Act.put, List.setIfInBounds_toArray, List.set_cons_zero, List.set_cons_succ]
        refine wpAnyH_take (i := 19) (oi := ⟨some 116, _, _, _, _, _⟩) (v := .bool false) rfl (by kernel_rfl) (by kernel_rfl) (by kernel_rfl) (fun _ _ _ h => h) (Or.inl ⟨by rfl, fun W hSW => by go_simp⟩) hHeld ?_
        simp only [Act.put, List.setIfInBounds_toArray, List.set_cons_zero, List.set_cons_succ]
        refine wpAnyH_done (by kernel_rfl) ?_ _
        refine NoPanic.normal ?_
        go_wp2_with fail
        go_roundw
        case rel => exact ⟨j + 1, us', WA5, wc5, by go_num, by rw [HVN.out], by omega, by have := HVN.out; omega, HK5'.out.below hHeld, HW5.out.below hHeld, HO5'.out.below hHeld, below_t HB5'.out hHeld⟩
        case measure => simp [intOf]; omega
      · go_wp2_with fail
        go_at_call 23
        refine calls_namedW (fun W => ((W.cell? ⟨w13.heap.size, 0, none⟩ = some (.bool true) ∧ W.cell? ⟨w13.heap.size, 1, none⟩ = some (.int .i64 ix) ∧ W.cell? ⟨w13.heap.size, 2, none⟩ = some (.int .i64 du)) ∧ w13.heap.size < W.heap.size) ∧ Below w13.heap.size w13 W) ⟨⟨⟨by (repeat' (first | (with_reducible assumption) | (with_reducible refine HeldP.c_drew ?_) | (with_reducible refine HeldP.c_drewN ?_) | (with_reducible refine HeldP.c_same (by omega) ?_) | (with_reducible refine HeldP.c_other ?_ ?_) | (with_reducible refine HeldP.c_new (by first | omega | (simp; done) | (simp; omega)) ?_) | (with_reducible refine HeldP.c_alloc ?_ ?_) | (with_reducible refine HeldP.e_drew ?_) | (with_reducible refine HeldP.e_drewN ?_) | (with_reducible refine HeldP.e_set ?_) | (with_reducible refine HeldP.e_new (by first | omega | (simp; done) | (simp; omega)) ⟨_, rfl⟩) | (with_reducible refine HeldP.e_alloc ?_ ?_) | (with_reducible refine HeldP.f_drew ?_) | (with_reducible refine HeldP.f_drewN ?_) | (with_reducible refine HeldP.f_set ?_) | (with_reducible refine HeldP.f_new (by first | omega | (simp; done) | (simp; omega))) | (with_reducible refine HeldP.f_alloc ?_ ?_) | (with_reducible refine HeldP.s_drew ?_) | (with_reducible refine HeldP.s_drewN ?_) | (with_reducible refine HeldP.s_set ?_) | (with_reducible refine HeldP.s_new (by first | omega | (simp; done) | (simp; omega))) | (with_reducible refine HeldP.s_alloc ?_) | (with_reducible exact ⟨_, by assumption⟩) | omega | (intro e; simp at e; done) | (intro e; simp at e; omega) | (exact rfl) | (simp; done) | (simp; omega))), by (repeat' (first | (with_reducible assumption) | (with_reducible refine HeldP.c_drew ?_) | (with_reducible refine HeldP.c_drewN ?_) | (with_reducible refine HeldP.c_same (by omega) ?_) | (with_reducible refine HeldP.c_other ?_ ?_) | (with_reducible refine HeldP.c_new (by first | omega | (simp; done) | (simp; omega)) ?_) | (with_reducible refine HeldP.c_alloc ?_ ?_) | (with_reducible refine HeldP.e_drew ?_) | (with_reducible refine HeldP.e_drewN ?_) | (with_reducible refine HeldP.e_set ?_) | (with_reducible refine HeldP.e_new (by first | omega | (simp; done) | (simp; omega)) ⟨_, rfl⟩) | (with_reducible refine HeldP.e_alloc ?_ ?_) | (with_reducible refine HeldP.f_drew ?_) | (with_reducible refine HeldP.f_drewN ?_) | (with_reducible refine HeldP.f_set ?_) | (with_reducible refine HeldP.f_new (by first | omega | (simp; done) | (simp; omega))) | (with_reducible refine HeldP.f_alloc ?_ ?_) | (with_reducible refine HeldP.s_drew ?_) | (with_reducible refine HeldP.s_drewN ?_) | (with_reducible refine HeldP.s_set ?_) | (with_reducible refine HeldP.s_new (by first | omega | (simp; done) | (simp; omega))) | (with_reducible refine HeldP.s_alloc ?_) | (with_reducible exact ⟨_, by assumption⟩) | omega | (intro e; simp at e; done) | (intro e; simp at e; omega) | (exact rfl) | (simp; done) | (simp; omega))), by (repeat' (first | (with_reducible assumption) | (with_reducible refine HeldP.c_drew ?_) | (with_reducible refine HeldP.c_drewN ?_) | (with_reducible refine HeldP.c_same (by omega) ?_) | (with_reducible refine HeldP.c_other ?_ ?_) | (with_reducible refine HeldP.c_new (by first | omega | (simp; done) | (simp; omega)) ?_) | (with_reducible refine HeldP.c_alloc ?_ ?_) | (with_reducible refine HeldP.e_drew ?_) | (with_reducible refine HeldP.e_drewN ?_) | (with_reducible refine HeldP.e_set ?_) | (with_reducible refine HeldP.e_new (by first | omega | (simp; done) | (simp; omega)) ⟨_, rfl⟩) | (with_reducible refine HeldP.e_alloc ?_ ?_) | (with_reducible refine HeldP.f_drew ?_) | (with_reducible refine HeldP.f_drewN ?_) | (with_reducible refine HeldP.f_set ?_) | (with_reducible refine HeldP.f_new (by first | omega | (simp; done) | (simp; omega))) | (with_reducible refine HeldP.f_alloc ?_ ?_) | (with_reducible refine HeldP.s_drew ?_) | (with_reducible refine HeldP.s_drewN ?_) | (with_reducible refine HeldP.s_set ?_) | (with_reducible refine HeldP.s_new (by first | omega | (simp; done) | (simp; omega))) | (with_reducible refine HeldP.s_alloc ?_) | (with_reducible exact ⟨_, by assumption⟩) | omega | (intro e; simp at e; done) | (intro e; simp at e; omega) | (exact rfl) | (simp; done) | (simp; omega)))⟩, by (repeat' (first | (with_reducible assumption) | (with_reducible refine HeldP.c_drew ?_) | (with_reducible refine HeldP.c_drewN ?_) | (with_reducible refine HeldP.c_same (by omega) ?_) | (with_reducible refine HeldP.c_other ?_ ?_) | (with_reducible refine HeldP.c_new (by first | omega | (simp; done) | (simp; omega)) ?_) | (with_reducible refine HeldP.c_alloc ?_ ?_) | (with_reducible refine HeldP.e_drew ?_) | (with_reducible refine HeldP.e_drewN ?_) | (with_reducible refine HeldP.e_set ?_) | (with_reducible refine HeldP.e_new (by first | omega | (simp; done) | (simp; omega)) ⟨_, rfl⟩) | (with_reducible refine HeldP.e_alloc ?_ ?_) | (with_reducible refine HeldP.f_drew ?_) | (with_reducible refine HeldP.f_drewN ?_) | (with_reducible refine HeldP.f_set ?_) | (with_reducible refine HeldP.f_new (by first | omega | (simp; done) | (simp; omega))) | (with_reducible refine HeldP.f_alloc ?_ ?_) | (with_reducible refine HeldP.s_drew ?_) | (with_reducible refine HeldP.s_drewN ?_) | (with_reducible refine HeldP.s_set ?_) | (with_reducible refine HeldP.s_new (by first | omega | (simp; done) | (simp; omega))) | (with_reducible refine HeldP.s_alloc ?_) | (with_reducible exact ⟨_, by assumption⟩) | omega | (intro e; simp at e; done) | (intro e; simp at e; omega) | (exact rfl) | (simp; done) | (simp; omega)))⟩, by (repeat' (first | (with_reducible exact Below.refl _ _) | (with_reducible refine Below.setCell ?_ (by (first | omega | (simp; done) | (simp; omega))) _) | (with_reducible refine Below.alloc ?_ (by (first | omega | (simp; done) | (simp; omega))) _) | (with_reducible refine Below.drew ?_) | (with_reducible refine below_drewN ?_ _)))⟩ ?_
        rintro w3' ⟨⟨⟨m0, m1, m2⟩, ml⟩, hb3⟩
        have hk3 := HK13.out.below hb3
        have hw3 := HW13.out.below hb3
        have ho3 := HO13.out.below hb3
        refine (drop_c (k := ⟨C0, L0, us⟩) hk3).mono ?_
        rintro e w4' ⟨rfl, hk4, hg4⟩
        obtain ⟨us', hus⟩ : ∃ us', dropT us ix = us' := ⟨_, rfl⟩
        have HUS := Lib.hid hus
        simp only [hus] at hk4
        have q1 := cellG m1 ml hmp hg4
        have q2 := cellG m2 ml hmp hg4
        have HK4 : Hid (ChkK w4' p ⟨C0, L0, us'⟩) := Lib.hid hk4
        have HW4 := Lib.hid (hw3.grown hk3 hg4)
        have HO4 := Lib.hid (ho3.grown hk3 hg4)
        have HB4 := Lib.hid (grown_below (below_t HBw.out hb3) hg4 hpw)
        have ml4 : w13.heap.size < w4'.heap.size := Nat.lt_of_lt_of_le ml hg4.size
        have hul' : us'.length ≤ un + 1 := by have h1 := drop_len us ix; have h2 := HUN.out; rw [hus] at h1; omega
        clear m0 m1 m2 ml hk3 hw3 ho3 hb3 hk4 hg4 b0 b1 b2 hus
        go_wp2_with fail
        go_at_call 24
        refine (rdrop_c (HW4.out).c HUN.out (by omega)).mono ?_
        rw [HUS.out]
        rintro e w5' ⟨v5, rfl, hown5, hb5⟩
        obtain ⟨WA5, wc5, rfl, hw5, _, _⟩ := hown5.typed
        obtain ⟨vn, hvn⟩ : ∃ vn, vn = us'.length := ⟨_, rfl⟩
        rw [← hvn] at hul' ⊢
        have HVN := Lib.hid hvn
        have HW5 : Hid (TkA w5' WA5 us') := Lib.hid hw5
        have HK5' := Lib.hid (HK4.out.below hb5)
        have HO5' := Lib.hid (HO4.out.below hb5)
        have HB5' := Lib.hid (below_t HB4.out hb5)
        have ml5 : w13.heap.size < w5'.heap.size := Nat.lt_of_lt_of_le ml4 hb5.size
        have q1' := (hb5.cell (p := ⟨w13.heap.size, 1, none⟩) ml4).trans q1
        have q2' := (hb5.cell (p := ⟨w13.heap.size, 2, none⟩) ml4).trans q2
        obtain ⟨D1, hD1⟩ : ∃ D, dueT us' ix = D := ⟨_, rfl⟩
        obtain ⟨D2, hD2⟩ : ∃ D, dueT us' du = D := ⟨_, rfl⟩
        have HD1 := Lib.hid hD1
        have HD2 := Lib.hid hD2
        clear hown5 hb5 hw5 q1 q2 ml4 hvn hD1 hD2
        go_wp2_with fail
        refine wp_region_noPanic ?_
        refine wp_region_held_drew (S := fun W => Below w5'.heap.size w5' W) (by kernel_rfl) ((Below.refl _ w5').drew) (fun hHeld => ?_)
        refine wpAnyH_take (i := 0) (oi := ⟨some 97, _, _, _, _, _⟩) (v := .pointer (some ⟨p, 0, none⟩)) rfl (by kernel_rfl) (by kernel_rfl) (by kernel_rfl) (fun _ _ _ h => h) (Or.inl ⟨by rfl, fun W hSW => by go_simp⟩) hHeld ?_
        simp only [Act.put, List.setIfInBounds_toArray, List.set_cons_zero, List.set_cons_succ]
        refine wpAnyH_take (i := 1) (oi := ⟨some 98, _, _, _, _, _⟩) (v := .pointer (some ⟨w13.heap.size, 1, none⟩)) rfl (by kernel_rfl) (by kernel_rfl) (by kernel_rfl) (fun _ _ _ h => h) (Or.inl ⟨by rfl, fun W hSW => by go_simp⟩) hHeld ?_
        simp only [Act.put, List.setIfInBounds_toArray, List.set_cons_zero, List.set_cons_succ]
        refine wpAnyH_take (i := 2) (oi := ⟨some 99, _, _, _, _, _⟩) (v := .int .i64 ix) rfl (by kernel_rfl) (by kernel_rfl) (by kernel_rfl) (fun _ _ _ h => h) (Or.inl ⟨by rfl, fun W hSW => by have a0 := (hSW.cell (p := ⟨w13.heap.size, 1, none⟩) ml5).trans q1'; go_simp⟩) hHeld ?_
        simp only [Act.put, List.setIfInBounds_toArray, List.set_cons_zero, List.set_cons_succ]
        refine wpAnyH_take (i := 4) (oi := ⟨some 101, _, _, _, _, _⟩) (v := .slice WA5 vn wc5) rfl (by kernel_rfl) (by kernel_rfl) (by kernel_rfl) (fun _ _ _ h => h) (Or.inl ⟨by rfl, fun W hSW => by go_simp⟩) hHeld ?_
        simp only [Act.put, List.setIfInBounds_toArray, List.set_cons_zero, List.set_cons_succ]
        refine wpAnyH_take (i := 5) (oi := ⟨some 102, _, _, _, _, _⟩) (v := .pointer (some ⟨w13.heap.size, 1, none⟩)) rfl (by kernel_rfl) (by kernel_rfl) (by kernel_rfl) (fun _ _ _ h => h) (Or.inl ⟨by rfl, fun W hSW => by go_simp⟩) hHeld ?_
        simp only [Act.put, List.setIfInBounds_toArray, List.set_cons_zero, List.set_cons_succ]
        refine wpAnyH_take (i := 6) (oi := ⟨some 103, _, _, _, _, _⟩) (v := .int .i64 ix) rfl (by kernel_rfl) (by kernel_rfl) (by kernel_rfl) (fun _ _ _ h => h) (Or.inl ⟨by rfl, fun W hSW => by have a0 := (hSW.cell (p := ⟨w13.heap.size, 1, none⟩) ml5).trans q1'; go_simp⟩) hHeld ?_
        simp only [Act.put, List.setIfInBounds_toArray, List.set_cons_zero, List.set_cons_succ]
        refine wpAnyH_ready (rs := [3]) (by kernel_rfl) (by simp) ?_
        refine AllReadyH.cons (o := ⟨some 100, _, _, _, _, _⟩) rfl (fun K hK => ?_) AllReadyH.nil
        go_simp
        refine (due_c (HK5'.out.below hHeld) HD1.out).mono ?_
        rintro e w20 ⟨rfl, hb20⟩
        go_wp2_with fail
        refine hK.out _ _ (below_t hHeld hb20) (fun hHeld => ?_)
        clear hK K hb20
        refine wpAnyH_ready (rs := [7]) (by kernel_rfl) (by simp) ?_
        refine AllReadyH.cons (o := ⟨some 104, _, _, _, _, _⟩) rfl (fun K hK => ?_) AllReadyH.nil
        go_simp
        refine (rdue_c (HW5.out.below hHeld).c HVN.out (by omega) HD1.out).mono ?_
        rintro e w21 ⟨rfl, hb21⟩
        go_wp2_with fail
        refine hK.out _ _ (below_t hHeld hb21) (fun hHeld => ?_)
        clear hK K hb21
        refine wpAnyH_take (i := 8) (oi := ⟨some 105, _, _, _, _, _⟩) (v := .bool false) rfl (by kernel_rfl) (by kernel_rfl) (by kernel_rfl) (fun _ _ _ h => h) (Or.inl ⟨by rfl, fun W hSW => by go_simp⟩) hHeld ?_
        simp only [Act.put, List.setIfInBounds_toArray, List.set_cons_zero, List.set_cons_succ]
        refine wpAnyH_take (i := 9) (oi := ⟨some 106, _, _, _, _, _⟩) (v := .bool false) rfl (by kernel_rfl) (by kernel_rfl) (by kernel_rfl) (fun _ _ _ h => h) (Or.inl ⟨by rfl, fun W hSW => by go_simp⟩) hHeld ?_
        simp only [Act.put, List.setIfInBounds_toArray, List.set_cons_zero, List.set_cons_succ]
        refine wpAnyH_take (i := 10) (oi := ⟨some 107, _, _, _, _, _⟩) (v := .pointer (some ⟨p, 0, none⟩)) rfl (by kernel_rfl) (by kernel_rfl) (by kernel_rfl) (fun _ _ _ h => h) (Or.inl ⟨by rfl, fun W hSW => by go_simp⟩) hHeld ?_
        simp only [Act.put, List.setIfInBounds_toArray, List.set_cons_zero, List.set_cons_succ]
        refine wpAnyH_take (i := 11) (oi := ⟨some 108, _, _, _, _, _⟩) (v := .pointer (some ⟨w13.heap.size, 2, none⟩)) rfl (by kernel_rfl) (by kernel_rfl) (by kernel_rfl) (fun _ _ _ h => h) (Or.inl ⟨by rfl, fun W hSW => by go_simp⟩) hHeld ?_
        simp only [Act.put, List.setIfInBounds_toArray, List.set_cons_zero, List.set_cons_succ]
        refine wpAnyH_take (i := 12) (oi := ⟨some 109, _, _, _, _, _⟩) (v := .int .i64 du) rfl (by kernel_rfl) (by kernel_rfl) (by kernel_rfl) (fun _ _ _ h => h) (Or.inl ⟨by rfl, fun W hSW => by have a0 := (hSW.cell (p := ⟨w13.heap.size, 2, none⟩) ml5).trans q2'; go_simp⟩) hHeld ?_
        simp only [Act.put, List.setIfInBounds_toArray, List.set_cons_zero, List.set_cons_succ]
        refine wpAnyH_take (i := 14) (oi := ⟨some 111, _, _, _, _, _⟩) (v := .slice WA5 vn wc5) rfl (by kernel_rfl) (by kernel_rfl) (by kernel_rfl) (fun _ _ _ h => h) (Or.inl ⟨by rfl, fun W hSW => by go_simp⟩) hHeld ?_
        simp only [Act.put, List.setIfInBounds_toArray, List.set_cons_zero, List.set_cons_succ]
        refine wpAnyH_take (i := 15) (oi := ⟨some 112, _, _, _, _, _⟩) (v := .pointer (some ⟨w13.heap.size, 2, none⟩)) rfl (by kernel_rfl) (by kernel_rfl) (by kernel_rfl) (fun _ _ _ h => h) (Or.inl ⟨by rfl, fun W hSW => by go_simp⟩) hHeld ?_
        simp only [Act.put, List.setIfInBounds_toArray, List.set_cons_zero, List.set_cons_succ]
        refine wpAnyH_take (i := 16) (oi := ⟨some 113, _, _, _, _, _⟩) (v := .int .i64 du) rfl (by kernel_rfl) (by kernel_rfl) (by kernel_rfl) (fun _ _ _ h => h) (Or.inl ⟨by rfl, fun W hSW => by have a0 := (hSW.cell (p := ⟨w13.heap.size, 2, none⟩) ml5).trans q2'; go_simp⟩) hHeld ?_
        simp only [Act.put, List.setIfInBounds_toArray, List.set_cons_zero, List.set_cons_succ]
        refine wpAnyH_ready (rs := [13]) (by kernel_rfl) (by simp) ?_
        refine AllReadyH.cons (o := ⟨some 110, _, _, _, _, _⟩) rfl (fun K hK => ?_) AllReadyH.nil
        go_simp
        refine (due_c (HK5'.out.below hHeld) HD2.out).mono ?_
        rintro e w22 ⟨rfl, hb22⟩
        go_wp2_with fail
        refine hK.out _ _ (below_t hHeld hb22) (fun hHeld => ?_)
        clear hK K hb22
        refine wpAnyH_ready (rs := [17]) (by kernel_rfl) (by simp) ?_
        refine AllReadyH.cons (o := ⟨some 114, _, _, _, _, _⟩) rfl (fun K hK => ?_) AllReadyH.nil
        go_simp
        refine (rdue_c (HW5.out.below hHeld).c HVN.out (by omega) HD2.out).mono ?_
        rintro e w23 ⟨rfl, hb23⟩
        go_wp2_with fail
        refine hK.out _ _ (below_t hHeld hb23) (fun hHeld => ?_)
        clear hK K hb23
        refine wpAnyH_take (i := 18) (oi := ⟨some 115, _, _, _, _, _⟩) (v := .bool false) rfl (by kernel_rfl) (by kernel_rfl) (by kernel_rfl) (fun _ _ _ h => h) (Or.inl ⟨by rfl, fun W hSW => by go_simp⟩) hHeld ?_
        simp only [Act.put, List.setIfInBounds_toArray, List.set_cons_zero, List.set_cons_succ]
        refine wpAnyH_take (i := 19) (oi := ⟨some 116, _, _, _, _, _⟩) (v := .bool false) rfl (by kernel_rfl) (by kernel_rfl) (by kernel_rfl) (fun _ _ _ h => h) (Or.inl ⟨by rfl, fun W hSW => by go_simp⟩) hHeld ?_
        simp only [Act.put, List.setIfInBounds_toArray, List.set_cons_zero, List.set_cons_succ]
        refine wpAnyH_done (by kernel_rfl) ?_ _
        refine NoPanic.normal ?_
        go_wp2_with fail
        go_roundw
        case rel => exact ⟨j + 1, us', WA5, wc5, by go_num, by rw [HVN.out], by omega, by have := HVN.out; omega, HK5'.out.below hHeld, HW5.out.below hHeld, HO5'.out.below hHeld, below_t HB5'.out hHeld⟩
        case measure => simp [intOf]; omega
    · have ejm : j = m := by omega
      subst ejm
      go_wp2_with fail
      go_at_call 10
      refine calls_namedW (fun W => EditC W (some ⟨w13.heap.size, 0, none⟩) [ed7] ∧ Below w13.heap.size w13 W) ⟨ed7_c (by simp) (by (repeat' (first | (with_reducible assumption) | (with_reducible refine HeldP.c_drew ?_) | (with_reducible refine HeldP.c_drewN ?_) | (with_reducible refine HeldP.c_same (by omega) ?_) | (with_reducible refine HeldP.c_other ?_ ?_) | (with_reducible refine HeldP.c_new (by first | omega | (simp; done) | (simp; omega)) ?_) | (with_reducible refine HeldP.c_alloc ?_ ?_) | (with_reducible refine HeldP.e_drew ?_) | (with_reducible refine HeldP.e_drewN ?_) | (with_reducible refine HeldP.e_set ?_) | (with_reducible refine HeldP.e_new (by first | omega | (simp; done) | (simp; omega)) ⟨_, rfl⟩) | (with_reducible refine HeldP.e_alloc ?_ ?_) | (with_reducible refine HeldP.f_drew ?_) | (with_reducible refine HeldP.f_drewN ?_) | (with_reducible refine HeldP.f_set ?_) | (with_reducible refine HeldP.f_new (by first | omega | (simp; done) | (simp; omega))) | (with_reducible refine HeldP.f_alloc ?_ ?_) | (with_reducible refine HeldP.s_drew ?_) | (with_reducible refine HeldP.s_drewN ?_) | (with_reducible refine HeldP.s_set ?_) | (with_reducible refine HeldP.s_new (by first | omega | (simp; done) | (simp; omega))) | (with_reducible refine HeldP.s_alloc ?_) | (with_reducible exact ⟨_, by assumption⟩) | omega | (intro e; simp at e; done) | (intro e; simp at e; omega) | (exact rfl) | (simp; done) | (simp; omega)))) (by (repeat' (first | (with_reducible assumption) | (with_reducible refine HeldP.c_drew ?_) | (with_reducible refine HeldP.c_drewN ?_) | (with_reducible refine HeldP.c_same (by omega) ?_) | (with_reducible refine HeldP.c_other ?_ ?_) | (with_reducible refine HeldP.c_new (by first | omega | (simp; done) | (simp; omega)) ?_) | (with_reducible refine HeldP.c_alloc ?_ ?_) | (with_reducible refine HeldP.e_drew ?_) | (with_reducible refine HeldP.e_drewN ?_) | (with_reducible refine HeldP.e_set ?_) | (with_reducible refine HeldP.e_new (by first | omega | (simp; done) | (simp; omega)) ⟨_, rfl⟩) | (with_reducible refine HeldP.e_alloc ?_ ?_) | (with_reducible refine HeldP.f_drew ?_) | (with_reducible refine HeldP.f_drewN ?_) | (with_reducible refine HeldP.f_set ?_) | (with_reducible refine HeldP.f_new (by first | omega | (simp; done) | (simp; omega))) | (with_reducible refine HeldP.f_alloc ?_ ?_) | (with_reducible refine HeldP.s_drew ?_) | (with_reducible refine HeldP.s_drewN ?_) | (with_reducible refine HeldP.s_set ?_) | (with_reducible refine HeldP.s_new (by first | omega | (simp; done) | (simp; omega))) | (with_reducible refine HeldP.s_alloc ?_) | (with_reducible exact ⟨_, by assumption⟩) | omega | (intro e; simp at e; done) | (intro e; simp at e; omega) | (exact rfl) | (simp; done) | (simp; omega)))) (by (repeat' (first | (with_reducible assumption) | (with_reducible refine HeldP.c_drew ?_) | (with_reducible refine HeldP.c_drewN ?_) | (with_reducible refine HeldP.c_same (by omega) ?_) | (with_reducible refine HeldP.c_other ?_ ?_) | (with_reducible refine HeldP.c_new (by first | omega | (simp; done) | (simp; omega)) ?_) | (with_reducible refine HeldP.c_alloc ?_ ?_) | (with_reducible refine HeldP.e_drew ?_) | (with_reducible refine HeldP.e_drewN ?_) | (with_reducible refine HeldP.e_set ?_) | (with_reducible refine HeldP.e_new (by first | omega | (simp; done) | (simp; omega)) ⟨_, rfl⟩) | (with_reducible refine HeldP.e_alloc ?_ ?_) | (with_reducible refine HeldP.f_drew ?_) | (with_reducible refine HeldP.f_drewN ?_) | (with_reducible refine HeldP.f_set ?_) | (with_reducible refine HeldP.f_new (by first | omega | (simp; done) | (simp; omega))) | (with_reducible refine HeldP.f_alloc ?_ ?_) | (with_reducible refine HeldP.s_drew ?_) | (with_reducible refine HeldP.s_drewN ?_) | (with_reducible refine HeldP.s_set ?_) | (with_reducible refine HeldP.s_new (by first | omega | (simp; done) | (simp; omega))) | (with_reducible refine HeldP.s_alloc ?_) | (with_reducible exact ⟨_, by assumption⟩) | omega | (intro e; simp at e; done) | (intro e; simp at e; omega) | (exact rfl) | (simp; done) | (simp; omega)))) (by (repeat' (first | (with_reducible assumption) | (with_reducible refine HeldP.c_drew ?_) | (with_reducible refine HeldP.c_drewN ?_) | (with_reducible refine HeldP.c_same (by omega) ?_) | (with_reducible refine HeldP.c_other ?_ ?_) | (with_reducible refine HeldP.c_new (by first | omega | (simp; done) | (simp; omega)) ?_) | (with_reducible refine HeldP.c_alloc ?_ ?_) | (with_reducible refine HeldP.e_drew ?_) | (with_reducible refine HeldP.e_drewN ?_) | (with_reducible refine HeldP.e_set ?_) | (with_reducible refine HeldP.e_new (by first | omega | (simp; done) | (simp; omega)) ⟨_, rfl⟩) | (with_reducible refine HeldP.e_alloc ?_ ?_) | (with_reducible refine HeldP.f_drew ?_) | (with_reducible refine HeldP.f_drewN ?_) | (with_reducible refine HeldP.f_set ?_) | (with_reducible refine HeldP.f_new (by first | omega | (simp; done) | (simp; omega))) | (with_reducible refine HeldP.f_alloc ?_ ?_) | (with_reducible refine HeldP.s_drew ?_) | (with_reducible refine HeldP.s_drewN ?_) | (with_reducible refine HeldP.s_set ?_) | (with_reducible refine HeldP.s_new (by first | omega | (simp; done) | (simp; omega))) | (with_reducible refine HeldP.s_alloc ?_) | (with_reducible exact ⟨_, by assumption⟩) | omega | (intro e; simp at e; done) | (intro e; simp at e; omega) | (exact rfl) | (simp; done) | (simp; omega)))) (by (repeat' (first | (with_reducible assumption) | (with_reducible refine HeldP.c_drew ?_) | (with_reducible refine HeldP.c_drewN ?_) | (with_reducible refine HeldP.c_same (by omega) ?_) | (with_reducible refine HeldP.c_other ?_ ?_) | (with_reducible refine HeldP.c_new (by first | omega | (simp; done) | (simp; omega)) ?_) | (with_reducible refine HeldP.c_alloc ?_ ?_) | (with_reducible refine HeldP.e_drew ?_) | (with_reducible refine HeldP.e_drewN ?_) | (with_reducible refine HeldP.e_set ?_) | (with_reducible refine HeldP.e_new (by first | omega | (simp; done) | (simp; omega)) ⟨_, rfl⟩) | (with_reducible refine HeldP.e_alloc ?_ ?_) | (with_reducible refine HeldP.f_drew ?_) | (with_reducible refine HeldP.f_drewN ?_) | (with_reducible refine HeldP.f_set ?_) | (with_reducible refine HeldP.f_new (by first | omega | (simp; done) | (simp; omega))) | (with_reducible refine HeldP.f_alloc ?_ ?_) | (with_reducible refine HeldP.s_drew ?_) | (with_reducible refine HeldP.s_drewN ?_) | (with_reducible refine HeldP.s_set ?_) | (with_reducible refine HeldP.s_new (by first | omega | (simp; done) | (simp; omega))) | (with_reducible refine HeldP.s_alloc ?_) | (with_reducible exact ⟨_, by assumption⟩) | omega | (intro e; simp at e; done) | (intro e; simp at e; omega) | (exact rfl) | (simp; done) | (simp; omega)))), by (repeat' (first | (with_reducible exact Below.refl _ _) | (with_reducible refine Below.setCell ?_ (by (first | omega | (simp; done) | (simp; omega))) _) | (with_reducible refine Below.alloc ?_ (by (first | omega | (simp; done) | (simp; omega))) _) | (with_reducible refine Below.drew ?_) | (with_reducible refine below_drewN ?_ _)))⟩ ?_
      rintro w14 ⟨hed, hb14⟩
      have hof := of_c (l := [ed7]) (ts := us) (c := 1) (d := wc) hed ed7_ok (by simp) (HW13.out.below hb14).c (by have := HUN.out; omega)
      rw [← HUN.out] at hof
      refine hof.mono ?_
      rintro e w15 ⟨q, rfl, hkq, hql, hb15⟩
      rw [HCL.out] at hkq
      have hb1315 := below_t hb14 hb15
      have HQ15 := Lib.hid hkq
      have HK15 := Lib.hid (HK13.out.below hb1315)
      have HO15 := Lib.hid (HO13.out.below hb1315)
      have HB15 := Lib.hid (below_t HBw.out hb1315)
      clear hed hb14 hof hkq hql hb15 hb1315
      go_wp2_with fail
      go_at_call 15
      refine (rsame7_c HK15.out HQ15.out (sameK_self _)).mono ?_
      rintro e w16 ⟨rfl, hb16⟩
      have HO16 := Lib.hid (HO15.out.below hb16)
      have HB16 := Lib.hid (below_t HB15.out hb16)
      clear hb16
      go_wp2_with fail
      go_at_call 18
      refine (rtks_n HN.out HN.out HO16.out.c (HA.out.below HB16.out) (by omega) (by omega) (decide_eq_true rfl)).mono ?_
      rintro e w17 ⟨rfl, hb17⟩
      have HB17 := Lib.hid (below_t HB16.out hb17)
      clear hb17
      go_wp2_with (go_at_call 9; refine (awake_c (HT.out.below HB17.out)).mono ?_; rintro e w18 ⟨rfl, hb18⟩)
      go_ret
      exact ⟨rfl, below_t HB17.out hb18⟩
end ChunkW
end Go.Proofs.YtiochoppiohjnaaDoor
