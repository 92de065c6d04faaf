/-
  Drop, Wake.
-/
import Derived.Test.YtiochoppiohjnaaDoorChunkRepl
namespace Go.Proofs.YtiochoppiohjnaaDoor
open Go.RowKit
set_option linter.unusedVariables false
set_option linter.unusedSimpArgs false
namespace ChunkW
open BytesW PackW

theorem grown_of {w w1 w2 : World} {p : Nat} (hb : Below w.heap.size w w1) (hg : w1.grownBy w2 (some p)) : w.grownBy w2 (some p) := World.grownBy.trans ⟨hb.os, hb.tape, hb.output, hb.size, fun k hk _ => hb.block k hk⟩ hg
theorem chk_set {w : World} {p B n tc : Nat} {C L : List Cell} {v : Value} {TA : Option Addr} {l : List Tick} (h : Chk w p C L v) (ho : OwnP tkv 63 w B (.slice TA n tc) l) (hl : l.length ≤ 1000000) : ChkK (w.setCell ⟨p, 16384, none⟩ (.slice TA n tc)) p ⟨C, L, l⟩ := by
  obtain ⟨A, c, e, hA, h1, h2⟩ := ho.typed
  injection e with e1 e2 e3
  subst e1 e2 e3
  exact ⟨_, _, h.setT _, (pair_chk hA (by decide) h (grown_set w p 16384 _)).c, h1, h2, hl⟩
theorem own_sl {w : World} {B : Nat} {v : Value} {l : List Tick} (h : OwnP tkv 63 w B v l) : ∃ TA tc, v = .slice TA l.length tc := by
  obtain ⟨A, c, e, _⟩ := h.typed
  exact ⟨A, c, e⟩
/-- What Wake and Drop leave. -/
def LeavesP (w : World) (p : Nat) (k : Ck) (e : Ending) (w' : World) : Prop := e = .returned (.tuple #[]) ∧ ChkK w' p k ∧ w.grownBy w' (some p)

set_option maxRecDepth 100000 in
set_option maxHeartbeats 4000000 in
theorem drop_c {w : World} {p : Nat} {k : Ck} {i : Int} (hk : ChkK w p k) :
    Calls Tryd.prog 23 #[.pointer (some ⟨p, 0, none⟩), .int .i64 i] w (LeavesP w p ⟨k.cs, k.ls, dropT k.ts i⟩) := by
  have HF : Hid (∀ q, findI k.ts i = q → Calls Tryd.prog 45 #[.pointer (some ⟨p, 0, none⟩), .int .i64 i] w fun e w' => e = .returned (.int .i64 q) ∧ Below w.heap.size w w') := Lib.hid (fun q h => find_c hk h)
  have HKK := Lib.hid hk
  obtain ⟨C, L, ts⟩ := k
  obtain ⟨TA, tc, h1, h2, h3, h4, h5⟩ := hk
  simp only at h1 h2 h3 h5 HF ⊢
  obtain ⟨n, hn⟩ : ∃ n, n = ts.length := ⟨_, rfl⟩
  rw [← hn] at h1
  have HK := Lib.hid h1
  have HP := Lib.hid h2
  have H3 := Lib.hid h3
  have H5 := Lib.hid h5
  have HN := Lib.hid hn
  have hpl := h1.lt
  clear h1 h2 h3 h4 h5 hn
  rcases hq : findT ts i with _ | j
  · have HC := Lib.hid (HF.out (-1) (by rw [findI, hq]))
    have HD : Hid (dropT ts i = ts) := Lib.hid (by rw [dropT, hq])
    clear hq
    rw [HD.out]
    go_enter Tryd.func23, Tryd.ntmps23
    go_wp2_with fail
    go_at_call 45
    refine (HC.out).mono ?_
    rintro e w1 ⟨rfl, hb1⟩
    have HB1 := Lib.hid hb1
    clear hb1
    go_wp2_with fail
    go_end0
    exact ⟨rfl, HKK.out.below HB1.out, grown_of HB1.out (World.grownBy.refl _ _)⟩
  · have HC := Lib.hid (HF.out j (by rw [findI, hq]))
    have hj := (find_lt hq).1
    have HD : Hid (dropT ts i = replT ts j (j + 1) []) := Lib.hid (by rw [dropT, hq])
    have HRL : Hid (∀ W : World, Below w.heap.size w W → Calls Tryd.prog 46 #[.slice TA n tc, .int .i64 (j : Int), .int .i64 ((j : Int) + 1), .slice none 0 0] W (GivesT W (replT ts j (j + 1) []))) := Lib.hid (fun W hW => by
      have h := replace_c (d := 0) (B := none) (m := []) (a := j) (b := j + 1) (HP.out.below hW) PairC.nil H3.out (by omega) (by omega) (by have := H5.out; simp; omega)
      rw [← HN.out] at h
      exact h)
    have hlen := drop_len ts i
    have HLN : Hid ((replT ts j (j + 1) []).length ≤ 1000000) := Lib.hid (by rw [← HD.out]; have := H5.out; omega)
    have hjn : j < n := by have := HN.out; omega
    have hwr : IntKind.i64.wrap ((j : Int) + 1) = (j : Int) + 1 := by rw [IntKind.wrap_i64]; have := H5.out; have := HN.out; omega
    clear hq hj hlen
    rw [HD.out]
    go_enter Tryd.func23, Tryd.ntmps23
    go_wp2_with fail
    go_at_call 45
    refine (HC.out).mono ?_
    rintro e w1 ⟨rfl, hb1⟩
    have HB1 := Lib.hid hb1
    have t1 := (HK.out.below hb1).t
    clear hb1
    go_wp2_with fail
    go_at_call 46
    refine (HRL.out _ HB1.out).mono ?_
    rintro e w2 ⟨v2, rfl, hown2, hb2⟩
    obtain ⟨TA2, tc2, rfl⟩ := own_sl hown2
    have HB2 := Lib.hid (below_t HB1.out hb2)
    have HK2 := Lib.hid (HK.out.below HB2.out)
    have HO2 := Lib.hid hown2
    have q1 := HK2.out.frozen 16384
    have q2 := HK2.out.t
    clear hown2 hb2 t1
    go_wp2_with fail
    go_end0
    exact ⟨rfl, chk_set HK2.out HO2.out HLN.out, grown_of HB2.out (grown_set _ _ _ _)⟩

theorem cellG {w w' : World} {p b i : Nat} {v : Value} (h : w.cell? ⟨b, i, none⟩ = some v) (hb : b < w.heap.size) (hne : b ≠ p) (hg : w.grownBy w' (some p)) : w'.cell? ⟨b, i, none⟩ = some v := by
  rw [← h]
  unfold World.cell?
  simp only [hg.block b hb (fun e => hne (by injection e))]
theorem one_pair {W : World} {g : Nat} {t : Tick} (hg : g < W.heap.size) (h0 : W.cell? ⟨g, 0, none⟩ = some (.int .i64 t.1)) (h1 : W.cell? ⟨g, 1, none⟩ = some (.int .i64 t.2)) : PairC tkv W (some ⟨g, 0, none⟩) [t] := fun _ => ⟨g, 0, rfl, hg, fun i x hx => by
  match i, hx with
  | 0, hx =>
    obtain rfl : t = x := by simpa using hx
    exact ⟨h0, h1⟩
  | k + 1, hx => simp at hx⟩

set_option maxRecDepth 100000 in
set_option maxHeartbeats 8000000 in
theorem wake_c {w : World} {p : Nat} {k : Ck} {i d : Int} (hk : ChkK w p k) (hkl : k.ts.length ≤ 900000) :
    Calls Tryd.prog 25 #[.pointer (some ⟨p, 0, none⟩), .int .i64 i, .int .i64 d] w (LeavesP w p ⟨k.cs, k.ls, wakeT k.ts i d⟩) := by
  have HF : Hid (∀ (W : World) q, Below w.heap.size w W → findI k.ts i = q → Calls Tryd.prog 45 #[.pointer (some ⟨p, 0, none⟩), .int .i64 i] W fun e w' => e = .returned (.int .i64 q) ∧ Below W.heap.size W w') := Lib.hid (fun W q hW h => find_c (hk.below hW) h)
  have HKK := Lib.hid hk
  obtain ⟨C, L, ts⟩ := k
  obtain ⟨TA, tc, h1, h2, h3, h4, h5⟩ := hk
  simp only at h1 h2 h3 h5 HF hkl ⊢
  obtain ⟨n, hn⟩ : ∃ n, n = ts.length := ⟨_, rfl⟩
  rw [← hn] at h1
  have HK := Lib.hid h1
  have HP := Lib.hid h2
  have H3 := Lib.hid h3
  have H5 := Lib.hid hkl
  have HN := Lib.hid hn
  have hpl := h1.lt
  clear h1 h2 h3 h4 h5 hn hkl
  obtain ⟨x, hx⟩ : ∃ x, isIx i = x := ⟨_, rfl⟩
  have HX := Lib.hid hx
  cases x
  · have HD : Hid (wakeT ts i d = ts) := Lib.hid (by rw [wakeT, if_pos (.inl hx)])
    clear hx
    rw [HD.out]
    go_enter Tryd.func25, Tryd.ntmps25
    go_wp2_with (go_at_call 48; refine (isIndex_c HX.out).mono ?_; rintro e w1 ⟨rfl, rfl⟩)
    ((try simp only [Exit.inBlock, Exit.then]); refine bodyPost_ret (results_none rfl _ _ _) rfl ?_)
    exact ⟨rfl, HKK.out, World.grownBy.refl _ _⟩
  · by_cases hd : d < 1
    · have HD : Hid (wakeT ts i d = ts) := Lib.hid (by rw [wakeT, if_pos (.inr hd)])
      have ed : decide (d < 1) = true := by simpa using hd
      clear hx hd
      rw [HD.out]
      go_enter Tryd.func25, Tryd.ntmps25
      go_wp2_with (go_at_call 48; refine (isIndex_c HX.out).mono ?_; rintro e w1 ⟨rfl, rfl⟩)
      ((try simp only [Exit.inBlock, Exit.then]); refine bodyPost_ret (results_none rfl _ _ _) rfl ?_)
      exact ⟨rfl, HKK.out, World.grownBy.refl _ _⟩
    · have ed : decide (d < 1) = false := by simpa using hd
      have hlen := wake_len ts i d
      have HLN0 : Hid ((wakeT ts i d).length ≤ 1000000) := Lib.hid (by have := H5.out; omega)
      have hnot : ¬ (isIx i = false ∨ d < 1) := by rw [hx]; simp; omega
      rcases hq : findT ts i with _ | j
      · have HC := Lib.hid (fun W hW => HF.out W (-1) hW (by rw [findI, hq]))
        obtain ⟨j, hj⟩ : ∃ j, behindT ts i = j := ⟨_, rfl⟩
        have hjn := behind_le ts i
        rw [hj] at hjn
        have HD : Hid (wakeT ts i d = replT ts j j [(i, d)]) := Lib.hid (by rw [wakeT, if_neg hnot, hq, hj])
        have HBE : Hid (∀ W : World, Below w.heap.size w W → Calls Tryd.prog 49 #[.slice TA n tc, .int .i64 i] W fun e w' => e = .returned (.int .i64 (j : Int)) ∧ Below W.heap.size W w') := Lib.hid (fun W hW => by rw [HN.out]; exact behind_c (HP.out.below hW) (by have := H5.out; omega) hj)
        have HRL : Hid (∀ (W : World) (B : Option Addr), Below w.heap.size w W → PairC tkv W B [(i, d)] → Calls Tryd.prog 46 #[.slice TA n tc, .int .i64 (j : Int), .int .i64 (j : Int), .slice B 1 1] W (GivesT W (replT ts j j [(i, d)]))) := Lib.hid (fun W B hW hB => by
          have h := replace_c (d := 1) (m := [(i, d)]) (a := j) (b := j) (HP.out.below hW) hB H3.out (by omega) hjn (by have := H5.out; simp; omega)
          rw [← HN.out] at h
          exact h)
        rw [HD.out] at HLN0
        have HLN := Lib.hid HLN0.out
        rw [HD.out]
        clear hx hd hlen hnot hq hj hjn HD HLN0
        go_enter Tryd.func25, Tryd.ntmps25
        go_wp2_with (go_at_call 48; refine (isIndex_c HX.out).mono ?_; rintro e w1 ⟨rfl, rfl⟩)
        go_at_call 45
        refine calls_namedW (fun W => Below w.heap.size w W ∧ w.heap.size < W.heap.size ∧ W.cell? ⟨w.heap.size, 0, none⟩ = some (.int .i64 i) ∧ W.cell? ⟨w.heap.size, 1, none⟩ = some (.int .i64 d)) ⟨by (repeat' (first | (with_reducible exact Below.refl _ _) | (with_reducible refine Below.setCell ?_ (by (first | omega | (simp; done) | (simp; omega))) _) | (with_reducible refine Below.alloc ?_ (by (first | omega | (simp; done) | (simp; omega))) _) | (with_reducible refine Below.drew ?_) | (with_reducible refine below_drewN ?_ _))), by (repeat' (first | (with_reducible assumption) | (with_reducible refine HeldP.c_drew ?_) | (with_reducible refine HeldP.c_drewN ?_) | (with_reducible refine HeldP.c_same (by omega) ?_) | (with_reducible refine HeldP.c_other ?_ ?_) | (with_reducible refine HeldP.c_new (by first | omega | (simp; done) | (simp; omega)) ?_) | (with_reducible refine HeldP.c_alloc ?_ ?_) | (with_reducible refine HeldP.e_drew ?_) | (with_reducible refine HeldP.e_drewN ?_) | (with_reducible refine HeldP.e_set ?_) | (with_reducible refine HeldP.e_new (by first | omega | (simp; done) | (simp; omega)) ⟨_, rfl⟩) | (with_reducible refine HeldP.e_alloc ?_ ?_) | (with_reducible refine HeldP.f_drew ?_) | (with_reducible refine HeldP.f_drewN ?_) | (with_reducible refine HeldP.f_set ?_) | (with_reducible refine HeldP.f_new (by first | omega | (simp; done) | (simp; omega))) | (with_reducible refine HeldP.f_alloc ?_ ?_) | (with_reducible refine HeldP.s_drew ?_) | (with_reducible refine HeldP.s_drewN ?_) | (with_reducible refine HeldP.s_set ?_) | (with_reducible refine HeldP.s_new (by first | omega | (simp; done) | (simp; omega))) | (with_reducible refine HeldP.s_alloc ?_) | (with_reducible exact ⟨_, by assumption⟩) | omega | (intro e; simp at e; done) | (intro e; simp at e; omega) | (exact rfl) | (simp; done) | (simp; omega))), by (repeat' (first | (with_reducible assumption) | (with_reducible refine HeldP.c_drew ?_) | (with_reducible refine HeldP.c_drewN ?_) | (with_reducible refine HeldP.c_same (by omega) ?_) | (with_reducible refine HeldP.c_other ?_ ?_) | (with_reducible refine HeldP.c_new (by first | omega | (simp; done) | (simp; omega)) ?_) | (with_reducible refine HeldP.c_alloc ?_ ?_) | (with_reducible refine HeldP.e_drew ?_) | (with_reducible refine HeldP.e_drewN ?_) | (with_reducible refine HeldP.e_set ?_) | (with_reducible refine HeldP.e_new (by first | omega | (simp; done) | (simp; omega)) ⟨_, rfl⟩) | (with_reducible refine HeldP.e_alloc ?_ ?_) | (with_reducible refine HeldP.f_drew ?_) | (with_reducible refine HeldP.f_drewN ?_) | (with_reducible refine HeldP.f_set ?_) | (with_reducible refine HeldP.f_new (by first | omega | (simp; done) | (simp; omega))) | (with_reducible refine HeldP.f_alloc ?_ ?_) | (with_reducible refine HeldP.s_drew ?_) | (with_reducible refine HeldP.s_drewN ?_) | (with_reducible refine HeldP.s_set ?_) | (with_reducible refine HeldP.s_new (by first | omega | (simp; done) | (simp; omega))) | (with_reducible refine HeldP.s_alloc ?_) | (with_reducible exact ⟨_, by assumption⟩) | omega | (intro e; simp at e; done) | (intro e; simp at e; omega) | (exact rfl) | (simp; done) | (simp; omega))), by (repeat' (first | (with_reducible assumption) | (with_reducible refine HeldP.c_drew ?_) | (with_reducible refine HeldP.c_drewN ?_) | (with_reducible refine HeldP.c_same (by omega) ?_) | (with_reducible refine HeldP.c_other ?_ ?_) | (with_reducible refine HeldP.c_new (by first | omega | (simp; done) | (simp; omega)) ?_) | (with_reducible refine HeldP.c_alloc ?_ ?_) | (with_reducible refine HeldP.e_drew ?_) | (with_reducible refine HeldP.e_drewN ?_) | (with_reducible refine HeldP.e_set ?_) | (with_reducible refine HeldP.e_new (by first | omega | (simp; done) | (simp; omega)) ⟨_, rfl⟩) | (with_reducible refine HeldP.e_alloc ?_ ?_) | (with_reducible refine HeldP.f_drew ?_) | (with_reducible refine HeldP.f_drewN ?_) | (with_reducible refine HeldP.f_set ?_) | (with_reducible refine HeldP.f_new (by first | omega | (simp; done) | (simp; omega))) | (with_reducible refine HeldP.f_alloc ?_ ?_) | (with_reducible refine HeldP.s_drew ?_) | (with_reducible refine HeldP.s_drewN ?_) | (with_reducible refine HeldP.s_set ?_) | (with_reducible refine HeldP.s_new (by first | omega | (simp; done) | (simp; omega))) | (with_reducible refine HeldP.s_alloc ?_) | (with_reducible exact ⟨_, by assumption⟩) | omega | (intro e; simp at e; done) | (intro e; simp at e; omega) | (exact rfl) | (simp; done) | (simp; omega)))⟩ ?_
        rintro w1 ⟨hb1, hz1, g10, g11⟩
        refine (HC.out w1 hb1).mono ?_
        rintro e w2 ⟨rfl, hb2⟩
        have HB2 := Lib.hid (below_t hb1 hb2)
        have hg6p : w.heap.size ≠ p := by omega
        have hz2 : w.heap.size < w2.heap.size := Nat.lt_of_lt_of_le hz1 hb2.size
        have G20 := Lib.hid ((hb2.cell (p := ⟨w.heap.size, 0, none⟩) hz1).trans g10)
        have G21 := Lib.hid ((hb2.cell (p := ⟨w.heap.size, 1, none⟩) hz1).trans g11)
        have t2 := (HK.out.below HB2.out).t
        clear hb1 hz1 g10 g11 hb2
        go_wp2_with fail
        go_at_call 49
        refine (HBE.out w2 HB2.out).mono ?_
        rintro e w3 ⟨rfl, hb3⟩
        have HB3 := Lib.hid (below_t HB2.out hb3)
        have hg6 : w.heap.size < w3.heap.size := Nat.lt_of_lt_of_le hz2 hb3.size
        have G0 := Lib.hid ((hb3.cell (p := ⟨w.heap.size, 0, none⟩) hz2).trans G20.out)
        have G1 := Lib.hid ((hb3.cell (p := ⟨w.heap.size, 1, none⟩) hz2).trans G21.out)
        have t3 := (HK.out.below HB3.out).t
        clear hb3 t2 hz2
        go_wp2_with fail
        refine wp_region_noPanic ?_
        refine wp_region_held_drew (S := fun W => w3.grownBy W (some p)) (by kernel_rfl) (gdrew (World.grownBy.refl _ _)) (fun hHeld => ?_)
        refine wpAnyH_take (i := 0) (oi := ⟨some 33, _, _, _, _, _⟩) (v := .pointer (some ⟨p, 0, none⟩)) rfl (by kernel_rfl) (by kernel_rfl) (by kernel_rfl) (fun _ _ _ h => h) (Or.inl ⟨by rfl, fun W hSW => by go_simp⟩) hHeld ?_
        simp only [Act.put, List.setIfInBounds_toArray, List.set_cons_zero, List.set_cons_succ]
        refine wpAnyH_take (i := 1) (oi := ⟨some 34, _, _, _, _, _⟩) (v := .pointer (some ⟨p, 0, none⟩)) rfl (by kernel_rfl) (by kernel_rfl) (by kernel_rfl) (fun _ _ _ h => h) (Or.inl ⟨by rfl, fun W hSW => by go_simp⟩) hHeld ?_
        simp only [Act.put, List.setIfInBounds_toArray, List.set_cons_zero, List.set_cons_succ]
        refine wpAnyH_take (i := 2) (oi := ⟨some 35, _, _, _, _, _⟩) (v := .pointer (some ⟨p, 0, none⟩)) rfl (by kernel_rfl) (by kernel_rfl) (by kernel_rfl) (fun _ _ _ h => h) (Or.inl ⟨by rfl, fun W hSW => by go_simp⟩) hHeld ?_
        simp only [Act.put, List.setIfInBounds_toArray, List.set_cons_zero, List.set_cons_succ]
        refine wpAnyH_take (i := 3) (oi := ⟨some 36, _, _, _, _, _⟩) (v := .pointer (some ⟨p, 16384, none⟩)) rfl (by kernel_rfl) (by kernel_rfl) (by kernel_rfl) (fun _ _ _ h => h) (Or.inl ⟨by rfl, fun W hSW => by go_simp⟩) hHeld ?_
        simp only [Act.put, List.setIfInBounds_toArray, List.set_cons_zero, List.set_cons_succ]
        refine wpAnyH_take (i := 5) (oi := ⟨some 38, _, _, _, _, _⟩) (v := .int .i64 j) rfl (by kernel_rfl) (by kernel_rfl) (by kernel_rfl) (fun _ _ _ h => h) (Or.inl ⟨by rfl, fun W hSW => by go_simp⟩) hHeld ?_
        simp only [Act.put, List.setIfInBounds_toArray, List.set_cons_zero, List.set_cons_succ]
        refine wpAnyH_take (i := 6) (oi := ⟨some 39, _, _, _, _, _⟩) (v := .int .i64 j) rfl (by kernel_rfl) (by kernel_rfl) (by kernel_rfl) (fun _ _ _ h => h) (Or.inl ⟨by rfl, fun W hSW => by go_simp⟩) hHeld ?_
        simp only [Act.put, List.setIfInBounds_toArray, List.set_cons_zero, List.set_cons_succ]
        refine wpAnyH_take (i := 7) (oi := ⟨some 40, _, _, _, _, _⟩) (v := .agg #[.int .i64 i, .int .i64 d]) rfl (by kernel_rfl) (by kernel_rfl) (by kernel_rfl) (fun _ _ _ h => h) (Or.inl ⟨by rfl, fun W hSW => by have c0 := cellG G0.out hg6 hg6p hSW; have c1 := cellG G1.out hg6 hg6p hSW; go_simp⟩) hHeld ?_
        simp only [Act.put, List.setIfInBounds_toArray, List.set_cons_zero, List.set_cons_succ]
        refine wpAnyH_ready (rs := [4, 8]) (by kernel_rfl) (by simp) ?_
        refine AllReadyH.cons (o := ⟨some 37, _, _, _, _, _⟩) rfl (fun K hK => ?_) (AllReadyH.cons (o := ⟨some 41, _, _, _, _, _⟩) rfl (fun K hK => ?_) AllReadyH.nil)
        · go_simp
          refine hK.out _ _ hHeld (fun _ => ?_)
          clear hK K
          refine wpAnyH_ready (rs := [8]) (by kernel_rfl) (by simp) ?_
          refine AllReadyH.cons (o := ⟨some 41, _, _, _, _, _⟩) rfl (fun K hK => ?_) AllReadyH.nil
          go_simp
          refine hK.out _ _ (World.grownBy.trans hHeld (grown_of ((Below.refl _ _).alloc (Nat.le_refl _) _) (World.grownBy.refl _ _))) (fun _ => ?_)
          clear hK K
          refine wpAnyH_ready (rs := [9]) (by kernel_rfl) (by simp) ?_
          refine AllReadyH.cons (o := ⟨some 42, _, _, _, _, _⟩) rfl (fun K hK => ?_) AllReadyH.nil
          go_simp
          refine calls_namedW (fun W => Below w3.heap.size w3 W ∧ w3.heap.size < W.heap.size ∧ W.cell? ⟨w3.heap.size, 0, none⟩ = some (.int .i64 i) ∧ W.cell? ⟨w3.heap.size, 1, none⟩ = some (.int .i64 d)) ⟨by (repeat' (first | (with_reducible exact Below.refl _ _) | (with_reducible refine Below.setCell ?_ (by (first | omega | (simp; done) | (simp; omega))) _) | (with_reducible refine Below.alloc ?_ (by (first | omega | (simp; done) | (simp; omega))) _) | (with_reducible refine Below.drew ?_) | (with_reducible refine below_drewN ?_ _))), by simp, by (repeat' (first | (with_reducible assumption) | (with_reducible refine HeldP.c_drew ?_) | (with_reducible refine HeldP.c_drewN ?_) | (with_reducible refine HeldP.c_same (by omega) ?_) | (with_reducible refine HeldP.c_other ?_ ?_) | (with_reducible refine HeldP.c_new (by first | omega | (simp; done) | (simp; omega)) ?_) | (with_reducible refine HeldP.c_alloc ?_ ?_) | (with_reducible refine HeldP.e_drew ?_) | (with_reducible refine HeldP.e_drewN ?_) | (with_reducible refine HeldP.e_set ?_) | (with_reducible refine HeldP.e_new (by first | omega | (simp; done) | (simp; omega)) ⟨_, rfl⟩) | (with_reducible refine HeldP.e_alloc ?_ ?_) | (with_reducible refine HeldP.f_drew ?_) | (with_reducible refine HeldP.f_drewN ?_) | (with_reducible refine HeldP.f_set ?_) | (with_reducible refine HeldP.f_new (by first | omega | (simp; done) | (simp; omega))) | (with_reducible refine HeldP.f_alloc ?_ ?_) | (with_reducible refine HeldP.s_drew ?_) | (with_reducible refine HeldP.s_drewN ?_) | (with_reducible refine HeldP.s_set ?_) | (with_reducible refine HeldP.s_new (by first | omega | (simp; done) | (simp; omega))) | (with_reducible refine HeldP.s_alloc ?_) | (with_reducible exact ⟨_, by assumption⟩) | omega | (intro e; simp at e; done) | (intro e; simp at e; omega) | (exact rfl) | (simp; done) | (simp; omega))), by (repeat' (first | (with_reducible assumption) | (with_reducible refine HeldP.c_drew ?_) | (with_reducible refine HeldP.c_drewN ?_) | (with_reducible refine HeldP.c_same (by omega) ?_) | (with_reducible refine HeldP.c_other ?_ ?_) | (with_reducible refine HeldP.c_new (by first | omega | (simp; done) | (simp; omega)) ?_) | (with_reducible refine HeldP.c_alloc ?_ ?_) | (with_reducible refine HeldP.e_drew ?_) | (with_reducible refine HeldP.e_drewN ?_) | (with_reducible refine HeldP.e_set ?_) | (with_reducible refine HeldP.e_new (by first | omega | (simp; done) | (simp; omega)) ⟨_, rfl⟩) | (with_reducible refine HeldP.e_alloc ?_ ?_) | (with_reducible refine HeldP.f_drew ?_) | (with_reducible refine HeldP.f_drewN ?_) | (with_reducible refine HeldP.f_set ?_) | (with_reducible refine HeldP.f_new (by first | omega | (simp; done) | (simp; omega))) | (with_reducible refine HeldP.f_alloc ?_ ?_) | (with_reducible refine HeldP.s_drew ?_) | (with_reducible refine HeldP.s_drewN ?_) | (with_reducible refine HeldP.s_set ?_) | (with_reducible refine HeldP.s_new (by first | omega | (simp; done) | (simp; omega))) | (with_reducible refine HeldP.s_alloc ?_) | (with_reducible exact ⟨_, by assumption⟩) | omega | (intro e; simp at e; done) | (intro e; simp at e; omega) | (exact rfl) | (simp; done) | (simp; omega)))⟩ ?_
          rintro w4 ⟨hb4, hz4, c40, c41⟩
          refine (HRL.out w4 _ (below_t HB3.out hb4) (one_pair (t := (i, d)) hz4 c40 c41)).mono ?_
          rintro e w5 ⟨v5, rfl, hown5, hb5⟩
          obtain ⟨TA5, tc5, rfl⟩ := own_sl hown5
          have HB35 := Lib.hid (below_t hb4 hb5)
          have HB5 := Lib.hid (below_t HB3.out HB35.out)
          have HK5 := Lib.hid (HK.out.below HB5.out)
          have HO5 := Lib.hid hown5
          go_wp2_with fail
          refine hK.out _ _ (grown_of HB35.out (World.grownBy.refl _ _)) (fun hHeld5 => ?_)
          clear hK K hown5 hb4 hb5 c40 c41 hz4
          refine wpAnyH_take (i := 10) (oi := ⟨some 43, _, _, _, _, _⟩) (v := .pointer (some ⟨p, 0, none⟩)) rfl (by kernel_rfl) (by kernel_rfl) (by kernel_rfl) (fun _ _ _ h => h) (Or.inl ⟨by rfl, fun W hSW => by go_simp⟩) hHeld5 ?_
          simp only [Act.put, List.setIfInBounds_toArray, List.set_cons_zero, List.set_cons_succ]
          refine wpAnyH_take (i := 11) (oi := ⟨some 44, _, _, _, _, _⟩) (v := .pointer (some ⟨p, 16384, none⟩)) rfl (by kernel_rfl) (by kernel_rfl) (by kernel_rfl) (fun _ _ _ h => h) (Or.inl ⟨by rfl, fun W hSW => by go_simp⟩) hHeld5 ?_
          simp only [Act.put, List.setIfInBounds_toArray, List.set_cons_zero, List.set_cons_succ]
          refine wpAnyH_ready (rs := [12]) (by kernel_rfl) (by simp) ?_
          refine AllReadyH.cons (o := ⟨none, _, _, _, _, _⟩) rfl (fun K hK => ?_) AllReadyH.nil
          have q1 := HK5.out.frozen 16384
          have q2 := HK5.out.t
          go_simp
          refine hK.out _ _ (grown_of HB35.out (grown_set _ _ _ _)) (fun _ => ?_)
          clear hK K q1 q2
          refine wpAnyH_done (by kernel_rfl) ?_ _
          refine NoPanic.normal ?_
          go_wp2_with fail
          go_end0
          exact ⟨rfl, chk_set HK5.out HO5.out HLN.out, grown_of HB5.out (grown_set _ _ _ _)⟩
        · go_simp
          refine hK.out _ _ (World.grownBy.trans hHeld (grown_of ((Below.refl _ _).alloc (Nat.le_refl _) _) (World.grownBy.refl _ _))) (fun _ => ?_)
          clear hK K
          have hpw3 : p < w3.heap.size := (HK.out.below HB3.out).lt
          have hpn3 : p ≠ w3.heap.size := by omega
          refine wpAnyH_ready (rs := [4]) (by kernel_rfl) (by simp) ?_
          refine AllReadyH.cons (o := ⟨some 37, _, _, _, _, _⟩) rfl (fun K hK => ?_) AllReadyH.nil
          go_simp
          refine hK.out _ _ (World.grownBy.trans hHeld (grown_of ((Below.refl _ _).alloc (Nat.le_refl _) _) (World.grownBy.refl _ _))) (fun _ => ?_)
          clear hK K
          refine wpAnyH_ready (rs := [9]) (by kernel_rfl) (by simp) ?_
          refine AllReadyH.cons (o := ⟨some 42, _, _, _, _, _⟩) rfl (fun K hK => ?_) AllReadyH.nil
          go_simp
          refine calls_namedW (fun W => Below w3.heap.size w3 W ∧ w3.heap.size < W.heap.size ∧ W.cell? ⟨w3.heap.size, 0, none⟩ = some (.int .i64 i) ∧ W.cell? ⟨w3.heap.size, 1, none⟩ = some (.int .i64 d)) ⟨by (repeat' (first | (with_reducible exact Below.refl _ _) | (with_reducible refine Below.setCell ?_ (by (first | omega | (simp; done) | (simp; omega))) _) | (with_reducible refine Below.alloc ?_ (by (first | omega | (simp; done) | (simp; omega))) _) | (with_reducible refine Below.drew ?_) | (with_reducible refine below_drewN ?_ _))), by simp, by (repeat' (first | (with_reducible assumption) | (with_reducible refine HeldP.c_drew ?_) | (with_reducible refine HeldP.c_drewN ?_) | (with_reducible refine HeldP.c_same (by omega) ?_) | (with_reducible refine HeldP.c_other ?_ ?_) | (with_reducible refine HeldP.c_new (by first | omega | (simp; done) | (simp; omega)) ?_) | (with_reducible refine HeldP.c_alloc ?_ ?_) | (with_reducible refine HeldP.e_drew ?_) | (with_reducible refine HeldP.e_drewN ?_) | (with_reducible refine HeldP.e_set ?_) | (with_reducible refine HeldP.e_new (by first | omega | (simp; done) | (simp; omega)) ⟨_, rfl⟩) | (with_reducible refine HeldP.e_alloc ?_ ?_) | (with_reducible refine HeldP.f_drew ?_) | (with_reducible refine HeldP.f_drewN ?_) | (with_reducible refine HeldP.f_set ?_) | (with_reducible refine HeldP.f_new (by first | omega | (simp; done) | (simp; omega))) | (with_reducible refine HeldP.f_alloc ?_ ?_) | (with_reducible refine HeldP.s_drew ?_) | (with_reducible refine HeldP.s_drewN ?_) | (with_reducible refine HeldP.s_set ?_) | (with_reducible refine HeldP.s_new (by first | omega | (simp; done) | (simp; omega))) | (with_reducible refine HeldP.s_alloc ?_) | (with_reducible exact ⟨_, by assumption⟩) | omega | (intro e; simp at e; done) | (intro e; simp at e; omega) | (exact rfl) | (simp; done) | (simp; omega))), by (repeat' (first | (with_reducible assumption) | (with_reducible refine HeldP.c_drew ?_) | (with_reducible refine HeldP.c_drewN ?_) | (with_reducible refine HeldP.c_same (by omega) ?_) | (with_reducible refine HeldP.c_other ?_ ?_) | (with_reducible refine HeldP.c_new (by first | omega | (simp; done) | (simp; omega)) ?_) | (with_reducible refine HeldP.c_alloc ?_ ?_) | (with_reducible refine HeldP.e_drew ?_) | (with_reducible refine HeldP.e_drewN ?_) | (with_reducible refine HeldP.e_set ?_) | (with_reducible refine HeldP.e_new (by first | omega | (simp; done) | (simp; omega)) ⟨_, rfl⟩) | (with_reducible refine HeldP.e_alloc ?_ ?_) | (with_reducible refine HeldP.f_drew ?_) | (with_reducible refine HeldP.f_drewN ?_) | (with_reducible refine HeldP.f_set ?_) | (with_reducible refine HeldP.f_new (by first | omega | (simp; done) | (simp; omega))) | (with_reducible refine HeldP.f_alloc ?_ ?_) | (with_reducible refine HeldP.s_drew ?_) | (with_reducible refine HeldP.s_drewN ?_) | (with_reducible refine HeldP.s_set ?_) | (with_reducible refine HeldP.s_new (by first | omega | (simp; done) | (simp; omega))) | (with_reducible refine HeldP.s_alloc ?_) | (with_reducible exact ⟨_, by assumption⟩) | omega | (intro e; simp at e; done) | (intro e; simp at e; omega) | (exact rfl) | (simp; done) | (simp; omega)))⟩ ?_
          rintro w4 ⟨hb4, hz4, c40, c41⟩
          refine (HRL.out w4 _ (below_t HB3.out hb4) (one_pair (t := (i, d)) hz4 c40 c41)).mono ?_
          rintro e w5 ⟨v5, rfl, hown5, hb5⟩
          obtain ⟨TA5, tc5, rfl⟩ := own_sl hown5
          have HB35 := Lib.hid (below_t hb4 hb5)
          have HB5 := Lib.hid (below_t HB3.out HB35.out)
          have HK5 := Lib.hid (HK.out.below HB5.out)
          have HO5 := Lib.hid hown5
          go_wp2_with fail
          refine hK.out _ _ (grown_of HB35.out (World.grownBy.refl _ _)) (fun hHeld5 => ?_)
          clear hK K hown5 hb4 hb5 c40 c41 hz4
          refine wpAnyH_take (i := 10) (oi := ⟨some 43, _, _, _, _, _⟩) (v := .pointer (some ⟨p, 0, none⟩)) rfl (by kernel_rfl) (by kernel_rfl) (by kernel_rfl) (fun _ _ _ h => h) (Or.inl ⟨by rfl, fun W hSW => by go_simp⟩) hHeld5 ?_
          simp only [Act.put, List.setIfInBounds_toArray, List.set_cons_zero, List.set_cons_succ]
          refine wpAnyH_take (i := 11) (oi := ⟨some 44, _, _, _, _, _⟩) (v := .pointer (some ⟨p, 16384, none⟩)) rfl (by kernel_rfl) (by kernel_rfl) (by kernel_rfl) (fun _ _ _ h => h) (Or.inl ⟨by rfl, fun W hSW => by go_simp⟩) hHeld5 ?_
          simp only [Act.put, List.setIfInBounds_toArray, List.set_cons_zero, List.set_cons_succ]
          refine wpAnyH_ready (rs := [12]) (by kernel_rfl) (by simp) ?_
          refine AllReadyH.cons (o := ⟨none, _, _, _, _, _⟩) rfl (fun K hK => ?_) AllReadyH.nil
          have q1 := HK5.out.frozen 16384
          have q2 := HK5.out.t
          go_simp
          refine hK.out _ _ (grown_of HB35.out (grown_set _ _ _ _)) (fun _ => ?_)
          clear hK K q1 q2
          refine wpAnyH_done (by kernel_rfl) ?_ _
          refine NoPanic.normal ?_
          go_wp2_with fail
          go_end0
          exact ⟨rfl, chk_set HK5.out HO5.out HLN.out, grown_of HB5.out (grown_set _ _ _ _)⟩

      · have HC := Lib.hid (fun W hW => HF.out W j hW (by rw [findI, hq]))
        have hjl := (find_lt hq).1
        have hat := find_at hq
        obtain ⟨E, hE⟩ : ∃ E, E = (ts.getD j (0, 0)).2 := ⟨_, rfl⟩
        rw [← hE] at hat
        have HAT := Lib.hid hat
        have hjn : j < n := by have := HN.out; omega
        have hjI : (j : Int) < n := by omega
        have hwr : IntKind.i64.wrap ((j : Int) + 1) = (j : Int) + 1 := by rw [IntKind.wrap_i64]; have := H5.out; have := HN.out; omega
        have HCELL : Hid (∀ W : World, Below w.heap.size w W → ∃ b o, TA = some ⟨b, o, none⟩ ∧ W.cell? ⟨b, o + j * 2 + 1, none⟩ = some (.int .i64 E)) := Lib.hid (fun W hW => by
          obtain ⟨b, o, e, hbl, hcs⟩ := (HP.out.below hW).cells (fun e => by rw [e] at hat; simp at hat)
          exact ⟨b, o, e, (hcs _ _ hat).2⟩)
        by_cases hde : d < E
        · have hdd : decide (d < E) = true := by simpa using hde
          have HD : Hid (wakeT ts i d = replT ts j (j + 1) [(i, d)]) := Lib.hid (by rw [wakeT, if_neg hnot, hq]; simp only; rw [← hE, if_pos hde])
          have HRL : Hid (∀ (W : World) (B : Option Addr), Below w.heap.size w W → PairC tkv W B [(i, d)] → Calls Tryd.prog 46 #[.slice TA n tc, .int .i64 (j : Int), .int .i64 ((j : Int) + 1), .slice B 1 1] W (GivesT W (replT ts j (j + 1) [(i, d)]))) := Lib.hid (fun W B hW hB => by
            have h := replace_c (d := 1) (m := [(i, d)]) (a := j) (b := j + 1) (HP.out.below hW) hB H3.out (by omega) (by omega) (by have := H5.out; simp; omega)
            rw [← HN.out] at h
            exact h)
          rw [HD.out] at HLN0
          have HLN := Lib.hid HLN0.out
          rw [HD.out]
          clear hx hd hlen hnot hq hjl hat hE hde HD HLN0
          go_enter Tryd.func25, Tryd.ntmps25
          go_wp2_with (go_at_call 48; refine (isIndex_c HX.out).mono ?_; rintro e w1 ⟨rfl, rfl⟩)
          go_at_call 45
          refine calls_namedW (fun W => Below w.heap.size w W ∧ w.heap.size < W.heap.size ∧ W.cell? ⟨w.heap.size, 0, none⟩ = some (.int .i64 i) ∧ W.cell? ⟨w.heap.size, 1, none⟩ = some (.int .i64 d)) ⟨by (repeat' (first | (with_reducible exact Below.refl _ _) | (with_reducible refine Below.setCell ?_ (by (first | omega | (simp; done) | (simp; omega))) _) | (with_reducible refine Below.alloc ?_ (by (first | omega | (simp; done) | (simp; omega))) _) | (with_reducible refine Below.drew ?_) | (with_reducible refine below_drewN ?_ _))), by (repeat' (first | (with_reducible assumption) | (with_reducible refine HeldP.c_drew ?_) | (with_reducible refine HeldP.c_drewN ?_) | (with_reducible refine HeldP.c_same (by omega) ?_) | (with_reducible refine HeldP.c_other ?_ ?_) | (with_reducible refine HeldP.c_new (by first | omega | (simp; done) | (simp; omega)) ?_) | (with_reducible refine HeldP.c_alloc ?_ ?_) | (with_reducible refine HeldP.e_drew ?_) | (with_reducible refine HeldP.e_drewN ?_) | (with_reducible refine HeldP.e_set ?_) | (with_reducible refine HeldP.e_new (by first | omega | (simp; done) | (simp; omega)) ⟨_, rfl⟩) | (with_reducible refine HeldP.e_alloc ?_ ?_) | (with_reducible refine HeldP.f_drew ?_) | (with_reducible refine HeldP.f_drewN ?_) | (with_reducible refine HeldP.f_set ?_) | (with_reducible refine HeldP.f_new (by first | omega | (simp; done) | (simp; omega))) | (with_reducible refine HeldP.f_alloc ?_ ?_) | (with_reducible refine HeldP.s_drew ?_) | (with_reducible refine HeldP.s_drewN ?_) | (with_reducible refine HeldP.s_set ?_) | (with_reducible refine HeldP.s_new (by first | omega | (simp; done) | (simp; omega))) | (with_reducible refine HeldP.s_alloc ?_) | (with_reducible exact ⟨_, by assumption⟩) | omega | (intro e; simp at e; done) | (intro e; simp at e; omega) | (exact rfl) | (simp; done) | (simp; omega))), by (repeat' (first | (with_reducible assumption) | (with_reducible refine HeldP.c_drew ?_) | (with_reducible refine HeldP.c_drewN ?_) | (with_reducible refine HeldP.c_same (by omega) ?_) | (with_reducible refine HeldP.c_other ?_ ?_) | (with_reducible refine HeldP.c_new (by first | omega | (simp; done) | (simp; omega)) ?_) | (with_reducible refine HeldP.c_alloc ?_ ?_) | (with_reducible refine HeldP.e_drew ?_) | (with_reducible refine HeldP.e_drewN ?_) | (with_reducible refine HeldP.e_set ?_) | (with_reducible refine HeldP.e_new (by first | omega | (simp; done) | (simp; omega)) ⟨_, rfl⟩) | (with_reducible refine HeldP.e_alloc ?_ ?_) | (with_reducible refine HeldP.f_drew ?_) | (with_reducible refine HeldP.f_drewN ?_) | (with_reducible refine HeldP.f_set ?_) | (with_reducible refine HeldP.f_new (by first | omega | (simp; done) | (simp; omega))) | (with_reducible refine HeldP.f_alloc ?_ ?_) | (with_reducible refine HeldP.s_drew ?_) | (with_reducible refine HeldP.s_drewN ?_) | (with_reducible refine HeldP.s_set ?_) | (with_reducible refine HeldP.s_new (by first | omega | (simp; done) | (simp; omega))) | (with_reducible refine HeldP.s_alloc ?_) | (with_reducible exact ⟨_, by assumption⟩) | omega | (intro e; simp at e; done) | (intro e; simp at e; omega) | (exact rfl) | (simp; done) | (simp; omega))), by (repeat' (first | (with_reducible assumption) | (with_reducible refine HeldP.c_drew ?_) | (with_reducible refine HeldP.c_drewN ?_) | (with_reducible refine HeldP.c_same (by omega) ?_) | (with_reducible refine HeldP.c_other ?_ ?_) | (with_reducible refine HeldP.c_new (by first | omega | (simp; done) | (simp; omega)) ?_) | (with_reducible refine HeldP.c_alloc ?_ ?_) | (with_reducible refine HeldP.e_drew ?_) | (with_reducible refine HeldP.e_drewN ?_) | (with_reducible refine HeldP.e_set ?_) | (with_reducible refine HeldP.e_new (by first | omega | (simp; done) | (simp; omega)) ⟨_, rfl⟩) | (with_reducible refine HeldP.e_alloc ?_ ?_) | (with_reducible refine HeldP.f_drew ?_) | (with_reducible refine HeldP.f_drewN ?_) | (with_reducible refine HeldP.f_set ?_) | (with_reducible refine HeldP.f_new (by first | omega | (simp; done) | (simp; omega))) | (with_reducible refine HeldP.f_alloc ?_ ?_) | (with_reducible refine HeldP.s_drew ?_) | (with_reducible refine HeldP.s_drewN ?_) | (with_reducible refine HeldP.s_set ?_) | (with_reducible refine HeldP.s_new (by first | omega | (simp; done) | (simp; omega))) | (with_reducible refine HeldP.s_alloc ?_) | (with_reducible exact ⟨_, by assumption⟩) | omega | (intro e; simp at e; done) | (intro e; simp at e; omega) | (exact rfl) | (simp; done) | (simp; omega)))⟩ ?_
          rintro w1 ⟨hb1, hz1, g10, g11⟩
          refine (HC.out w1 hb1).mono ?_
          rintro e w3 ⟨rfl, hb2⟩
          have HB3 := Lib.hid (below_t hb1 hb2)
          have hg6p : w.heap.size ≠ p := by omega
          have hg6 : w.heap.size < w3.heap.size := Nat.lt_of_lt_of_le hz1 hb2.size
          have G0 := Lib.hid ((hb2.cell (p := ⟨w.heap.size, 0, none⟩) hz1).trans g10)
          have G1 := Lib.hid ((hb2.cell (p := ⟨w.heap.size, 1, none⟩) hz1).trans g11)
          have t3 := (HK.out.below HB3.out).t
          obtain ⟨b, o, rfl, p1⟩ := HCELL.out w3 HB3.out
          clear hb1 hz1 g10 g11 hb2
          go_wp2_with fail
          refine wp_region_noPanic ?_
          refine wp_region_held_drew (S := fun W => w3.grownBy W (some p)) (by kernel_rfl) (gdrew (World.grownBy.refl _ _)) (fun hHeld => ?_)
          refine wpAnyH_take (i := 0) (oi := ⟨some 55, _, _, _, _, _⟩) (v := .pointer (some ⟨p, 0, none⟩)) rfl (by kernel_rfl) (by kernel_rfl) (by kernel_rfl) (fun _ _ _ h => h) (Or.inl ⟨by rfl, fun W hSW => by go_simp⟩) hHeld ?_
          simp only [Act.put, List.setIfInBounds_toArray, List.set_cons_zero, List.set_cons_succ]
          refine wpAnyH_take (i := 1) (oi := ⟨some 56, _, _, _, _, _⟩) (v := .pointer (some ⟨p, 0, none⟩)) rfl (by kernel_rfl) (by kernel_rfl) (by kernel_rfl) (fun _ _ _ h => h) (Or.inl ⟨by rfl, fun W hSW => by go_simp⟩) hHeld ?_
          simp only [Act.put, List.setIfInBounds_toArray, List.set_cons_zero, List.set_cons_succ]
          refine wpAnyH_take (i := 2) (oi := ⟨some 57, _, _, _, _, _⟩) (v := .pointer (some ⟨p, 0, none⟩)) rfl (by kernel_rfl) (by kernel_rfl) (by kernel_rfl) (fun _ _ _ h => h) (Or.inl ⟨by rfl, fun W hSW => by go_simp⟩) hHeld ?_
          simp only [Act.put, List.setIfInBounds_toArray, List.set_cons_zero, List.set_cons_succ]
          refine wpAnyH_take (i := 3) (oi := ⟨some 58, _, _, _, _, _⟩) (v := .pointer (some ⟨p, 16384, none⟩)) rfl (by kernel_rfl) (by kernel_rfl) (by kernel_rfl) (fun _ _ _ h => h) (Or.inl ⟨by rfl, fun W hSW => by go_simp⟩) hHeld ?_
          simp only [Act.put, List.setIfInBounds_toArray, List.set_cons_zero, List.set_cons_succ]
          refine wpAnyH_take (i := 5) (oi := ⟨some 60, _, _, _, _, _⟩) (v := .int .i64 j) rfl (by kernel_rfl) (by kernel_rfl) (by kernel_rfl) (fun _ _ _ h => h) (Or.inl ⟨by rfl, fun W hSW => by go_simp⟩) hHeld ?_
          simp only [Act.put, List.setIfInBounds_toArray, List.set_cons_zero, List.set_cons_succ]
          refine wpAnyH_take (i := 6) (oi := ⟨some 61, _, _, _, _, _⟩) (v := .int .i64 j) rfl (by kernel_rfl) (by kernel_rfl) (by kernel_rfl) (fun _ _ _ h => h) (Or.inl ⟨by rfl, fun W hSW => by go_simp⟩) hHeld ?_
          simp only [Act.put, List.setIfInBounds_toArray, List.set_cons_zero, List.set_cons_succ]
          refine wpAnyH_take (i := 7) (oi := ⟨some 62, _, _, _, _, _⟩) (v := .int .i64 ((j : Int) + 1)) rfl (by kernel_rfl) (by kernel_rfl) (by kernel_rfl) (fun _ _ _ h => h) (Or.inl ⟨by rfl, fun W hSW => by go_simp⟩) hHeld ?_
          simp only [Act.put, List.setIfInBounds_toArray, List.set_cons_zero, List.set_cons_succ]
          refine wpAnyH_take (i := 8) (oi := ⟨some 63, _, _, _, _, _⟩) (v := .agg #[.int .i64 i, .int .i64 d]) rfl (by kernel_rfl) (by kernel_rfl) (by kernel_rfl) (fun _ _ _ h => h) (Or.inl ⟨by rfl, fun W hSW => by have c0 := cellG G0.out hg6 hg6p hSW; have c1 := cellG G1.out hg6 hg6p hSW; go_simp⟩) hHeld ?_
          simp only [Act.put, List.setIfInBounds_toArray, List.set_cons_zero, List.set_cons_succ]
          refine wpAnyH_ready (rs := [4, 9]) (by kernel_rfl) (by simp) ?_
          refine AllReadyH.cons (o := ⟨some 59, _, _, _, _, _⟩) rfl (fun K hK => ?_) (AllReadyH.cons (o := ⟨some 64, _, _, _, _, _⟩) rfl (fun K hK => ?_) AllReadyH.nil)
          · go_simp
            refine hK.out _ _ hHeld (fun _ => ?_)
            clear hK K
            refine wpAnyH_ready (rs := [9]) (by kernel_rfl) (by simp) ?_
            refine AllReadyH.cons (o := ⟨some 64, _, _, _, _, _⟩) rfl (fun K hK => ?_) AllReadyH.nil
            go_simp
            refine hK.out _ _ (World.grownBy.trans hHeld (grown_of ((Below.refl _ _).alloc (Nat.le_refl _) _) (World.grownBy.refl _ _))) (fun _ => ?_)
            clear hK K
            refine wpAnyH_ready (rs := [10]) (by kernel_rfl) (by simp) ?_
            refine AllReadyH.cons (o := ⟨some 65, _, _, _, _, _⟩) rfl (fun K hK => ?_) AllReadyH.nil
            go_simp
            refine calls_namedW (fun W => Below w3.heap.size w3 W ∧ w3.heap.size < W.heap.size ∧ W.cell? ⟨w3.heap.size, 0, none⟩ = some (.int .i64 i) ∧ W.cell? ⟨w3.heap.size, 1, none⟩ = some (.int .i64 d)) ⟨by (repeat' (first | (with_reducible exact Below.refl _ _) | (with_reducible refine Below.setCell ?_ (by (first | omega | (simp; done) | (simp; omega))) _) | (with_reducible refine Below.alloc ?_ (by (first | omega | (simp; done) | (simp; omega))) _) | (with_reducible refine Below.drew ?_) | (with_reducible refine below_drewN ?_ _))), by simp, by (repeat' (first | (with_reducible assumption) | (with_reducible refine HeldP.c_drew ?_) | (with_reducible refine HeldP.c_drewN ?_) | (with_reducible refine HeldP.c_same (by omega) ?_) | (with_reducible refine HeldP.c_other ?_ ?_) | (with_reducible refine HeldP.c_new (by first | omega | (simp; done) | (simp; omega)) ?_) | (with_reducible refine HeldP.c_alloc ?_ ?_) | (with_reducible refine HeldP.e_drew ?_) | (with_reducible refine HeldP.e_drewN ?_) | (with_reducible refine HeldP.e_set ?_) | (with_reducible refine HeldP.e_new (by first | omega | (simp; done) | (simp; omega)) ⟨_, rfl⟩) | (with_reducible refine HeldP.e_alloc ?_ ?_) | (with_reducible refine HeldP.f_drew ?_) | (with_reducible refine HeldP.f_drewN ?_) | (with_reducible refine HeldP.f_set ?_) | (with_reducible refine HeldP.f_new (by first | omega | (simp; done) | (simp; omega))) | (with_reducible refine HeldP.f_alloc ?_ ?_) | (with_reducible refine HeldP.s_drew ?_) | (with_reducible refine HeldP.s_drewN ?_) | (with_reducible refine HeldP.s_set ?_) | (with_reducible refine HeldP.s_new (by first | omega | (simp; done) | (simp; omega))) | (with_reducible refine HeldP.s_alloc ?_) | (with_reducible exact ⟨_, by assumption⟩) | omega | (intro e; simp at e; done) | (intro e; simp at e; omega) | (exact rfl) | (simp; done) | (simp; omega))), by (repeat' (first | (with_reducible assumption) | (with_reducible refine HeldP.c_drew ?_) | (with_reducible refine HeldP.c_drewN ?_) | (with_reducible refine HeldP.c_same (by omega) ?_) | (with_reducible refine HeldP.c_other ?_ ?_) | (with_reducible refine HeldP.c_new (by first | omega | (simp; done) | (simp; omega)) ?_) | (with_reducible refine HeldP.c_alloc ?_ ?_) | (with_reducible refine HeldP.e_drew ?_) | (with_reducible refine HeldP.e_drewN ?_) | (with_reducible refine HeldP.e_set ?_) | (with_reducible refine HeldP.e_new (by first | omega | (simp; done) | (simp; omega)) ⟨_, rfl⟩) | (with_reducible refine HeldP.e_alloc ?_ ?_) | (with_reducible refine HeldP.f_drew ?_) | (with_reducible refine HeldP.f_drewN ?_) | (with_reducible refine HeldP.f_set ?_) | (with_reducible refine HeldP.f_new (by first | omega | (simp; done) | (simp; omega))) | (with_reducible refine HeldP.f_alloc ?_ ?_) | (with_reducible refine HeldP.s_drew ?_) | (with_reducible refine HeldP.s_drewN ?_) | (with_reducible refine HeldP.s_set ?_) | (with_reducible refine HeldP.s_new (by first | omega | (simp; done) | (simp; omega))) | (with_reducible refine HeldP.s_alloc ?_) | (with_reducible exact ⟨_, by assumption⟩) | omega | (intro e; simp at e; done) | (intro e; simp at e; omega) | (exact rfl) | (simp; done) | (simp; omega)))⟩ ?_
            rintro w4 ⟨hb4, hz4, c40, c41⟩
            refine (HRL.out w4 _ (below_t HB3.out hb4) (one_pair (t := (i, d)) hz4 c40 c41)).mono ?_
            rintro e w5 ⟨v5, rfl, hown5, hb5⟩
            obtain ⟨TA5, tc5, rfl⟩ := own_sl hown5
            have HB35 := Lib.hid (below_t hb4 hb5)
            have HB5 := Lib.hid (below_t HB3.out HB35.out)
            have HK5 := Lib.hid (HK.out.below HB5.out)
            have HO5 := Lib.hid hown5
            go_wp2_with fail
            refine hK.out _ _ (grown_of HB35.out (World.grownBy.refl _ _)) (fun hHeld5 => ?_)
            clear hK K hown5 hb4 hb5 c40 c41 hz4
            refine wpAnyH_take (i := 11) (oi := ⟨some 66, _, _, _, _, _⟩) (v := .pointer (some ⟨p, 0, none⟩)) rfl (by kernel_rfl) (by kernel_rfl) (by kernel_rfl) (fun _ _ _ h => h) (Or.inl ⟨by rfl, fun W hSW => by go_simp⟩) hHeld5 ?_
            simp only [Act.put, List.setIfInBounds_toArray, List.set_cons_zero, List.set_cons_succ]
            refine wpAnyH_take (i := 12) (oi := ⟨some 67, _, _, _, _, _⟩) (v := .pointer (some ⟨p, 16384, none⟩)) rfl (by kernel_rfl) (by kernel_rfl) (by kernel_rfl) (fun _ _ _ h => h) (Or.inl ⟨by rfl, fun W hSW => by go_simp⟩) hHeld5 ?_
            simp only [Act.put, List.setIfInBounds_toArray, List.set_cons_zero, List.set_cons_succ]
            refine wpAnyH_ready (rs := [13]) (by kernel_rfl) (by simp) ?_
            refine AllReadyH.cons (o := ⟨none, _, _, _, _, _⟩) rfl (fun K hK => ?_) AllReadyH.nil
            have q1 := HK5.out.frozen 16384
            have q2 := HK5.out.t
            go_simp
            refine hK.out _ _ (grown_of HB35.out (grown_set _ _ _ _)) (fun _ => ?_)
            clear hK K q1 q2
            refine wpAnyH_done (by kernel_rfl) ?_ _
            refine NoPanic.normal ?_
            go_wp2_with fail
            go_end0
            exact ⟨rfl, chk_set HK5.out HO5.out HLN.out, grown_of HB5.out (grown_set _ _ _ _)⟩
          · go_simp
            refine hK.out _ _ (World.grownBy.trans hHeld (grown_of ((Below.refl _ _).alloc (Nat.le_refl _) _) (World.grownBy.refl _ _))) (fun _ => ?_)
            clear hK K
            have hpw3 : p < w3.heap.size := (HK.out.below HB3.out).lt
            have hpn3 : p ≠ w3.heap.size := by omega
            refine wpAnyH_ready (rs := [4]) (by kernel_rfl) (by simp) ?_
            refine AllReadyH.cons (o := ⟨some 59, _, _, _, _, _⟩) rfl (fun K hK => ?_) AllReadyH.nil
            go_simp
            refine hK.out _ _ (World.grownBy.trans hHeld (grown_of ((Below.refl _ _).alloc (Nat.le_refl _) _) (World.grownBy.refl _ _))) (fun _ => ?_)
            clear hK K
            refine wpAnyH_ready (rs := [10]) (by kernel_rfl) (by simp) ?_
            refine AllReadyH.cons (o := ⟨some 65, _, _, _, _, _⟩) rfl (fun K hK => ?_) AllReadyH.nil
            go_simp
            refine calls_namedW (fun W => Below w3.heap.size w3 W ∧ w3.heap.size < W.heap.size ∧ W.cell? ⟨w3.heap.size, 0, none⟩ = some (.int .i64 i) ∧ W.cell? ⟨w3.heap.size, 1, none⟩ = some (.int .i64 d)) ⟨by (repeat' (first | (with_reducible exact Below.refl _ _) | (with_reducible refine Below.setCell ?_ (by (first | omega | (simp; done) | (simp; omega))) _) | (with_reducible refine Below.alloc ?_ (by (first | omega | (simp; done) | (simp; omega))) _) | (with_reducible refine Below.drew ?_) | (with_reducible refine below_drewN ?_ _))), by simp, by (repeat' (first | (with_reducible assumption) | (with_reducible refine HeldP.c_drew ?_) | (with_reducible refine HeldP.c_drewN ?_) | (with_reducible refine HeldP.c_same (by omega) ?_) | (with_reducible refine HeldP.c_other ?_ ?_) | (with_reducible refine HeldP.c_new (by first | omega | (simp; done) | (simp; omega)) ?_) | (with_reducible refine HeldP.c_alloc ?_ ?_) | (with_reducible refine HeldP.e_drew ?_) | (with_reducible refine HeldP.e_drewN ?_) | (with_reducible refine HeldP.e_set ?_) | (with_reducible refine HeldP.e_new (by first | omega | (simp; done) | (simp; omega)) ⟨_, rfl⟩) | (with_reducible refine HeldP.e_alloc ?_ ?_) | (with_reducible refine HeldP.f_drew ?_) | (with_reducible refine HeldP.f_drewN ?_) | (with_reducible refine HeldP.f_set ?_) | (with_reducible refine HeldP.f_new (by first | omega | (simp; done) | (simp; omega))) | (with_reducible refine HeldP.f_alloc ?_ ?_) | (with_reducible refine HeldP.s_drew ?_) | (with_reducible refine HeldP.s_drewN ?_) | (with_reducible refine HeldP.s_set ?_) | (with_reducible refine HeldP.s_new (by first | omega | (simp; done) | (simp; omega))) | (with_reducible refine HeldP.s_alloc ?_) | (with_reducible exact ⟨_, by assumption⟩) | omega | (intro e; simp at e; done) | (intro e; simp at e; omega) | (exact rfl) | (simp; done) | (simp; omega))), by (repeat' (first | (with_reducible assumption) | (with_reducible refine HeldP.c_drew ?_) | (with_reducible refine HeldP.c_drewN ?_) | (with_reducible refine HeldP.c_same (by omega) ?_) | (with_reducible refine HeldP.c_other ?_ ?_) | (with_reducible refine HeldP.c_new (by first | omega | (simp; done) | (simp; omega)) ?_) | (with_reducible refine HeldP.c_alloc ?_ ?_) | (with_reducible refine HeldP.e_drew ?_) | (with_reducible refine HeldP.e_drewN ?_) | (with_reducible refine HeldP.e_set ?_) | (with_reducible refine HeldP.e_new (by first | omega | (simp; done) | (simp; omega)) ⟨_, rfl⟩) | (with_reducible refine HeldP.e_alloc ?_ ?_) | (with_reducible refine HeldP.f_drew ?_) | (with_reducible refine HeldP.f_drewN ?_) | (with_reducible refine HeldP.f_set ?_) | (with_reducible refine HeldP.f_new (by first | omega | (simp; done) | (simp; omega))) | (with_reducible refine HeldP.f_alloc ?_ ?_) | (with_reducible refine HeldP.s_drew ?_) | (with_reducible refine HeldP.s_drewN ?_) | (with_reducible refine HeldP.s_set ?_) | (with_reducible refine HeldP.s_new (by first | omega | (simp; done) | (simp; omega))) | (with_reducible refine HeldP.s_alloc ?_) | (with_reducible exact ⟨_, by assumption⟩) | omega | (intro e; simp at e; done) | (intro e; simp at e; omega) | (exact rfl) | (simp; done) | (simp; omega)))⟩ ?_
            rintro w4 ⟨hb4, hz4, c40, c41⟩
            refine (HRL.out w4 _ (below_t HB3.out hb4) (one_pair (t := (i, d)) hz4 c40 c41)).mono ?_
            rintro e w5 ⟨v5, rfl, hown5, hb5⟩
            obtain ⟨TA5, tc5, rfl⟩ := own_sl hown5
            have HB35 := Lib.hid (below_t hb4 hb5)
            have HB5 := Lib.hid (below_t HB3.out HB35.out)
            have HK5 := Lib.hid (HK.out.below HB5.out)
            have HO5 := Lib.hid hown5
            go_wp2_with fail
            refine hK.out _ _ (grown_of HB35.out (World.grownBy.refl _ _)) (fun hHeld5 => ?_)
            clear hK K hown5 hb4 hb5 c40 c41 hz4
            refine wpAnyH_take (i := 11) (oi := ⟨some 66, _, _, _, _, _⟩) (v := .pointer (some ⟨p, 0, none⟩)) rfl (by kernel_rfl) (by kernel_rfl) (by kernel_rfl) (fun _ _ _ h => h) (Or.inl ⟨by rfl, fun W hSW => by go_simp⟩) hHeld5 ?_
            simp only [Act.put, List.setIfInBounds_toArray, List.set_cons_zero, List.set_cons_succ]
            refine wpAnyH_take (i := 12) (oi := ⟨some 67, _, _, _, _, _⟩) (v := .pointer (some ⟨p, 16384, none⟩)) rfl (by kernel_rfl) (by kernel_rfl) (by kernel_rfl) (fun _ _ _ h => h) (Or.inl ⟨by rfl, fun W hSW => by go_simp⟩) hHeld5 ?_
            simp only [Act.put, List.setIfInBounds_toArray, List.set_cons_zero, List.set_cons_succ]
            refine wpAnyH_ready (rs := [13]) (by kernel_rfl) (by simp) ?_
            refine AllReadyH.cons (o := ⟨none, _, _, _, _, _⟩) rfl (fun K hK => ?_) AllReadyH.nil
            have q1 := HK5.out.frozen 16384
            have q2 := HK5.out.t
            go_simp
            refine hK.out _ _ (grown_of HB35.out (grown_set _ _ _ _)) (fun _ => ?_)
            clear hK K q1 q2
            refine wpAnyH_done (by kernel_rfl) ?_ _
            refine NoPanic.normal ?_
            go_wp2_with fail
            go_end0
            exact ⟨rfl, chk_set HK5.out HO5.out HLN.out, grown_of HB5.out (grown_set _ _ _ _)⟩

        · have hdd : decide (d < E) = false := by simpa using hde
          have HD : Hid (wakeT ts i d = ts) := Lib.hid (by rw [wakeT, if_neg hnot, hq]; simp only; rw [← hE, if_neg hde])
          rw [HD.out]
          clear hx hd hlen hnot hq hjl hat hE hde HD HLN0
          go_enter Tryd.func25, Tryd.ntmps25
          go_wp2_with (go_at_call 48; refine (isIndex_c HX.out).mono ?_; rintro e w1 ⟨rfl, rfl⟩)
          go_at_call 45
          refine calls_namedW (fun W => Below w.heap.size w W) (by (repeat' (first | (with_reducible exact Below.refl _ _) | (with_reducible refine Below.setCell ?_ (by (first | omega | (simp; done) | (simp; omega))) _) | (with_reducible refine Below.alloc ?_ (by (first | omega | (simp; done) | (simp; omega))) _) | (with_reducible refine Below.drew ?_) | (with_reducible refine below_drewN ?_ _)))) ?_
          rintro w1 hb1
          refine (HC.out w1 hb1).mono ?_
          rintro e w3 ⟨rfl, hb2⟩
          have HB3 := Lib.hid (below_t hb1 hb2)
          have t3 := (HK.out.below HB3.out).t
          obtain ⟨b, o, rfl, p1⟩ := HCELL.out w3 HB3.out
          clear hb1 hb2
          go_wp2_with fail
          go_end0
          exact ⟨rfl, HKK.out.below HB3.out, grown_of HB3.out (World.grownBy.refl _ _)⟩
end ChunkW
end Go.Proofs.YtiochoppiohjnaaDoor
