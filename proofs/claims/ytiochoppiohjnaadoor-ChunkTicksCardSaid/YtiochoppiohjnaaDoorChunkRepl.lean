/-
  replace, Due.
-/
import Derived.Test.YtiochoppiohjnaaDoorChunkConcat
namespace Go.Proofs.YtiochoppiohjnaaDoor
open Go.RowKit
set_option linter.unusedVariables false
set_option linter.unusedSimpArgs false
namespace ChunkW
open BytesW PackW

theorem run_fromT (w : World) {A : Option Addr} {L c k : Nat} (h1 : k ≤ L) : (Instr.sliceAt 23 (.slice A L c) (some (.int .i64 (k : Int))) none none).run Tryd.prog w = .ok (.slice (if c = k then A else A.map (·.add (k * 2))) (L - k) (c - k)) w := by
  obtain ⟨i, hi, _, hs, _⟩ := info_parts infoTick
  have h0 : (k : Int) ≤ L := by omega
  simp [Instr.sliceAt, Instr.slice, run_underlying underTicks, Instr.sliceBounds, run_sliceBound, h0, h1, Result.andThen, sizeOf, typeInfo, hi, hs]
theorem PairC.drop {α : Type} {f : α → Value × Value} {w : World} {A : Option Addr} {l : List α} (h : PairC f w A l) (k c : Nat) (hc : l.length ≤ c) : PairC f w (if c = k then A else A.map (·.add (k * 2))) (l.drop k) := fun hl => by
  have hk : k < l.length := by
    rcases Nat.lt_or_ge k l.length with h1 | h1
    · exact h1
    · exact absurd (List.drop_of_length_le h1) hl
  obtain ⟨b, o, rfl, hb, hcs⟩ := h (fun e => by rw [e] at hk; simp at hk)
  rw [if_neg (by omega)]
  refine ⟨b, o + k * 2, by simp [Addr.add], hb, fun i x hx => ?_⟩
  rw [List.getElem?_drop] at hx
  have := hcs (k + i) x hx
  rw [show o + (k + i) * 2 = o + k * 2 + i * 2 by omega] at this
  exact this
/-- Three slices, one behind the other. -/
theorem three_c {W : World} {g : Nat} {v1 v2 v3 : Value} {l1 l2 l3 : List Tick} {c : Nat} (hg : g < W.heap.size) (h1 : W.cell? ⟨g, 0, none⟩ = some v1) (h2 : W.cell? ⟨g, 1, none⟩ = some v2) (h3 : W.cell? ⟨g, 2, none⟩ = some v3) (s1 : SlT W v1 l1) (s2 : SlT W v2 l2) (s3 : SlT W v3 l3) (hl : (l1 ++ l2 ++ l3).length ≤ 1000000) :
    Calls Tryd.prog 38 #[.slice (some ⟨g, 0, none⟩) 3 c] W (GivesT W (l1 ++ l2 ++ l3)) := by
  have h := concatT_c (w := W) (g := g) (o := 0) (n := 3) (c := c) (ps := [(v1, l1), (v2, l2), (v3, l3)]) rfl (by omega) hg (fun i q hq => by
    rw [Nat.zero_add]
    match i, hq with
    | 0, hq =>
      obtain rfl : (v1, l1) = q := by simpa using hq
      exact h1
    | 1, hq =>
      obtain rfl : (v2, l2) = q := by simpa using hq
      exact h2
    | 2, hq =>
      obtain rfl : (v3, l3) = q := by simpa using hq
      exact h3
    | k + 3, hq => simp at hq) (fun q hq => by
    simp only [List.mem_cons, List.not_mem_nil, or_false] at hq
    rcases hq with rfl | rfl | rfl
    · exact s1
    · exact s2
    · exact s3) (by simpa [catT, List.append_assoc] using hl)
  have e : catT [(v1, l1), (v2, l2), (v3, l3)] = l1 ++ l2 ++ l3 := by simp [catT]
  rw [e] at h
  exact h
set_option maxRecDepth 100000 in
set_option maxHeartbeats 4000000 in
theorem replace_c {w : World} {A B : Option Addr} {l m : List Tick} {c d a b : Nat} (hA : PairC tkv w A l) (hB : PairC tkv w B m) (hc : l.length ≤ c) (hab : a ≤ b) (hb : b ≤ l.length) (hl : l.length + m.length ≤ 1000000) :
    Calls Tryd.prog 46 #[.slice A l.length c, .int .i64 (a : Int), .int .i64 (b : Int), .slice B m.length d] w (GivesT w (replT l a b m)) := by
  obtain ⟨n, hn⟩ : ∃ n, n = l.length := ⟨_, rfl⟩
  obtain ⟨k, hk⟩ : ∃ k, k = m.length := ⟨_, rfl⟩
  obtain ⟨A2, hA2⟩ : ∃ A2, A2 = (if c = b then A else A.map (·.add (b * 2))) := ⟨_, rfl⟩
  have HFROM : Hid (∀ W : World, (Instr.sliceAt 23 (.slice A n c) (some (.int .i64 (b : Int))) none none).run Tryd.prog W = .ok (.slice A2 (n - b) (c - b)) W) := Lib.hid (fun W => by rw [hA2]; exact run_fromT W (by omega))
  have HUP : Hid (∀ W : World, (Instr.sliceAt 23 (.slice A n c) none (some (.int .i64 (a : Int))) none).run Tryd.prog W = .ok (.slice A a c) W) := Lib.hid (fun W => run_uptoT W (by omega) (by omega))
  have HCAT : Hid (∀ (W : World) (g : Nat), Below w.heap.size w W → g < W.heap.size → W.cell? ⟨g, 0, none⟩ = some (.slice A a c) → W.cell? ⟨g, 1, none⟩ = some (.slice B k d) → W.cell? ⟨g, 2, none⟩ = some (.slice A2 (n - b) (c - b)) → Calls Tryd.prog 38 #[.slice (some ⟨g, 0, none⟩) 3 3] W (GivesT W (replT l a b m))) := Lib.hid (fun W g hW hg h1 h2 h3 => by
    refine three_c hg h1 h2 h3 ⟨A, c, by rw [List.length_take, Nat.min_eq_left (by omega)], (hA.below hW).take a⟩ ⟨B, d, by rw [hk], hB.below hW⟩ ⟨A2, c - b, by rw [List.length_drop, hn], by rw [hA2]; exact PairC.drop (hA.below hW) b c hc⟩ ?_
    simp
    omega)
  rw [← hn] at hc hb ⊢
  rw [← hk]
  clear hA hB hl hn hk hA2
  go_enter Tryd.func46, Tryd.ntmps46
  go_wp2_with fail
  refine wp_region_noPanic ?_
  refine wp_region_held_drew (S := fun w' => Below w.heap.size w w') (by kernel_rfl) ((Below.refl _ w).drew) (fun hHeld => ?_)
  refine wpAnyH_take (i := 0) (oi := ⟨some 9, _, _, _, _, _⟩) (v := .slice A n c) rfl (by kernel_rfl) (by kernel_rfl) (by kernel_rfl) (fun _ _ _ h => h) (Or.inl ⟨by rfl, fun W hSW => by go_simp⟩) hHeld ?_
  simp only [Act.put, List.setIfInBounds_toArray, List.set_cons_zero, List.set_cons_succ]
  refine wpAnyH_take (i := 1) (oi := ⟨some 10, _, _, _, _, _⟩) (v := .int .i64 a) rfl (by kernel_rfl) (by kernel_rfl) (by kernel_rfl) (fun _ _ _ h => h) (Or.inl ⟨by rfl, fun W hSW => by go_simp⟩) hHeld ?_
  simp only [Act.put, List.setIfInBounds_toArray, List.set_cons_zero, List.set_cons_succ]
  refine wpAnyH_take (i := 2) (oi := ⟨some 11, _, _, _, _, _⟩) (v := .slice A a c) rfl (by kernel_rfl) (by kernel_rfl) (by kernel_rfl) (fun _ _ _ h => h) (Or.inl ⟨by rfl, fun W hSW => by have r := HUP.out W; go_simp⟩) hHeld ?_
  simp only [Act.put, List.setIfInBounds_toArray, List.set_cons_zero, List.set_cons_succ]
  refine wpAnyH_take (i := 3) (oi := ⟨some 12, _, _, _, _, _⟩) (v := .slice B k d) rfl (by kernel_rfl) (by kernel_rfl) (by kernel_rfl) (fun _ _ _ h => h) (Or.inl ⟨by rfl, fun W hSW => by go_simp⟩) hHeld ?_
  simp only [Act.put, List.setIfInBounds_toArray, List.set_cons_zero, List.set_cons_succ]
  refine wpAnyH_take (i := 4) (oi := ⟨some 13, _, _, _, _, _⟩) (v := .slice A n c) rfl (by kernel_rfl) (by kernel_rfl) (by kernel_rfl) (fun _ _ _ h => h) (Or.inl ⟨by rfl, fun W hSW => by go_simp⟩) hHeld ?_
  simp only [Act.put, List.setIfInBounds_toArray, List.set_cons_zero, List.set_cons_succ]
  refine wpAnyH_take (i := 5) (oi := ⟨some 14, _, _, _, _, _⟩) (v := .int .i64 b) rfl (by kernel_rfl) (by kernel_rfl) (by kernel_rfl) (fun _ _ _ h => h) (Or.inl ⟨by rfl, fun W hSW => by go_simp⟩) hHeld ?_
  simp only [Act.put, List.setIfInBounds_toArray, List.set_cons_zero, List.set_cons_succ]
  refine wpAnyH_take (i := 6) (oi := ⟨some 15, _, _, _, _, _⟩) (v := .slice A2 (n - b) (c - b)) rfl (by kernel_rfl) (by kernel_rfl) (by kernel_rfl) (fun _ _ _ h => h) (Or.inl ⟨by rfl, fun W hSW => by have r := HFROM.out W; go_simp⟩) hHeld ?_
  simp only [Act.put, List.setIfInBounds_toArray, List.set_cons_zero, List.set_cons_succ]
  refine wpAnyH_ready (rs := [7]) (by kernel_rfl) (by simp) ?_
  refine AllReadyH.cons (o := ⟨some 16, _, _, _, _, _⟩) rfl (fun K hK => ?_) AllReadyH.nil
  go_simp
  refine hK.out _ _ (((Below.refl _ w).drew).alloc (Nat.le_refl _) _) (fun hHeld2 => ?_)
  clear hK K
  refine wpAnyH_ready (rs := [8]) (by kernel_rfl) (by simp) ?_
  refine AllReadyH.cons (o := ⟨some 17, _, _, _, _, _⟩) rfl (fun K hK => ?_) AllReadyH.nil
  go_simp
  refine (HCAT.out _ w.heap.size (((Below.refl _ w).drew).alloc (Nat.le_refl _) _) (by simp) (by (repeat' (first | (with_reducible assumption) | (with_reducible refine HeldP.c_drew ?_) | (with_reducible refine HeldP.c_drewN ?_) | (with_reducible refine HeldP.c_same (by omega) ?_) | (with_reducible refine HeldP.c_other ?_ ?_) | (with_reducible refine HeldP.c_new (by first | omega | (simp; done) | (simp; omega)) ?_) | (with_reducible refine HeldP.c_alloc ?_ ?_) | (with_reducible refine HeldP.e_drew ?_) | (with_reducible refine HeldP.e_drewN ?_) | (with_reducible refine HeldP.e_set ?_) | (with_reducible refine HeldP.e_new (by first | omega | (simp; done) | (simp; omega)) ⟨_, rfl⟩) | (with_reducible refine HeldP.e_alloc ?_ ?_) | (with_reducible refine HeldP.f_drew ?_) | (with_reducible refine HeldP.f_drewN ?_) | (with_reducible refine HeldP.f_set ?_) | (with_reducible refine HeldP.f_new (by first | omega | (simp; done) | (simp; omega))) | (with_reducible refine HeldP.f_alloc ?_ ?_) | (with_reducible refine HeldP.s_drew ?_) | (with_reducible refine HeldP.s_drewN ?_) | (with_reducible refine HeldP.s_set ?_) | (with_reducible refine HeldP.s_new (by first | omega | (simp; done) | (simp; omega))) | (with_reducible refine HeldP.s_alloc ?_) | (with_reducible exact ⟨_, by assumption⟩) | omega | (intro e; simp at e; done) | (intro e; simp at e; omega) | (exact rfl) | (simp; done) | (simp; omega)))) (by (repeat' (first | (with_reducible assumption) | (with_reducible refine HeldP.c_drew ?_) | (with_reducible refine HeldP.c_drewN ?_) | (with_reducible refine HeldP.c_same (by omega) ?_) | (with_reducible refine HeldP.c_other ?_ ?_) | (with_reducible refine HeldP.c_new (by first | omega | (simp; done) | (simp; omega)) ?_) | (with_reducible refine HeldP.c_alloc ?_ ?_) | (with_reducible refine HeldP.e_drew ?_) | (with_reducible refine HeldP.e_drewN ?_) | (with_reducible refine HeldP.e_set ?_) | (with_reducible refine HeldP.e_new (by first | omega | (simp; done) | (simp; omega)) ⟨_, rfl⟩) | (with_reducible refine HeldP.e_alloc ?_ ?_) | (with_reducible refine HeldP.f_drew ?_) | (with_reducible refine HeldP.f_drewN ?_) | (with_reducible refine HeldP.f_set ?_) | (with_reducible refine HeldP.f_new (by first | omega | (simp; done) | (simp; omega))) | (with_reducible refine HeldP.f_alloc ?_ ?_) | (with_reducible refine HeldP.s_drew ?_) | (with_reducible refine HeldP.s_drewN ?_) | (with_reducible refine HeldP.s_set ?_) | (with_reducible refine HeldP.s_new (by first | omega | (simp; done) | (simp; omega))) | (with_reducible refine HeldP.s_alloc ?_) | (with_reducible exact ⟨_, by assumption⟩) | omega | (intro e; simp at e; done) | (intro e; simp at e; omega) | (exact rfl) | (simp; done) | (simp; omega)))) (by (repeat' (first | (with_reducible assumption) | (with_reducible refine HeldP.c_drew ?_) | (with_reducible refine HeldP.c_drewN ?_) | (with_reducible refine HeldP.c_same (by omega) ?_) | (with_reducible refine HeldP.c_other ?_ ?_) | (with_reducible refine HeldP.c_new (by first | omega | (simp; done) | (simp; omega)) ?_) | (with_reducible refine HeldP.c_alloc ?_ ?_) | (with_reducible refine HeldP.e_drew ?_) | (with_reducible refine HeldP.e_drewN ?_) | (with_reducible refine HeldP.e_set ?_) | (with_reducible refine HeldP.e_new (by first | omega | (simp; done) | (simp; omega)) ⟨_, rfl⟩) | (with_reducible refine HeldP.e_alloc ?_ ?_) | (with_reducible refine HeldP.f_drew ?_) | (with_reducible refine HeldP.f_drewN ?_) | (with_reducible refine HeldP.f_set ?_) | (with_reducible refine HeldP.f_new (by first | omega | (simp; done) | (simp; omega))) | (with_reducible refine HeldP.f_alloc ?_ ?_) | (with_reducible refine HeldP.s_drew ?_) | (with_reducible refine HeldP.s_drewN ?_) | (with_reducible refine HeldP.s_set ?_) | (with_reducible refine HeldP.s_new (by first | omega | (simp; done) | (simp; omega))) | (with_reducible refine HeldP.s_alloc ?_) | (with_reducible exact ⟨_, by assumption⟩) | omega | (intro e; simp at e; done) | (intro e; simp at e; omega) | (exact rfl) | (simp; done) | (simp; omega))))).mono ?_
  rintro e w2 ⟨v2, rfl, hown2, hb2⟩
  go_wp2_with fail
  have HO2 := Lib.hid hown2
  have HB2 := Lib.hid (below_t hHeld2 hb2)
  refine hK.out _ _ HB2.out (fun hHeld3 => ?_)
  clear hK K hHeld hHeld2 hHeld3 hown2 hb2
  refine wpAnyH_ready (rs := [9]) (by kernel_rfl) (by simp) ?_
  refine AllReadyH.cons (o := ⟨some 8, _, _, _, _, _⟩) rfl (fun K hK => ?_) AllReadyH.nil
  go_simp
  refine hK.out _ _ HB2.out (fun _ => ?_)
  clear hK K
  refine wpAnyH_done (by kernel_rfl) ?_ _
  refine NoPanic.normal ?_
  go_wp2_with fail
  go_ret
  exact ⟨_, rfl, HO2.out.mono (by simp), HB2.out⟩

set_option maxRecDepth 100000 in
set_option maxHeartbeats 4000000 in
theorem due_c {w : World} {p : Nat} {k : Ck} {i r : Int} (hk : ChkK w p k) (hr : dueT k.ts i = r) :
    Calls Tryd.prog 27 #[.pointer (some ⟨p, 0, none⟩), .int .i64 i] w fun e w' => e = .returned (.int .i64 r) ∧ Below w.heap.size w w' := by
  have HF : Hid (∀ q, findI k.ts i = q → Calls Tryd.prog 45 #[.pointer (some ⟨p, 0, none⟩), .int .i64 i] w fun e w' => e = .returned (.int .i64 q) ∧ Below w.heap.size w w') := Lib.hid (fun q h => find_c hk h)
  obtain ⟨C, L, ts⟩ := k
  obtain ⟨TA, tc, h1, h2, h3, h4, h5⟩ := hk
  simp only at h1 h2 h3 h5 hr HF
  have HR := Lib.hid hr
  have HK := Lib.hid h1
  have HP := Lib.hid h2
  obtain ⟨n, hn⟩ : ∃ n, n = ts.length := ⟨_, rfl⟩
  have HN := Lib.hid hn
  have ht := h1.t
  rw [← hn] at ht
  have HT0 := Lib.hid ht
  have hpl := h1.lt
  clear hr h1 h2 h3 h4 h5 hn ht
  rcases hq : findT ts i with _ | j
  · have hF := HF.out (-1) (by rw [findI, hq])
    have HRR : Hid (r = 0) := Lib.hid (by rw [← HR.out, dueT, hq])
    have HC := Lib.hid hF
    clear hq hF
    go_enter Tryd.func27, Tryd.ntmps27
    go_wp2_with fail
    go_at_call 45
    refine (HC.out).mono ?_
    rintro e w1 ⟨rfl, hb1⟩
    have HB1 := Lib.hid hb1
    clear hb1
    go_wp2_with fail
    go_ret
    exact ⟨by rw [HRR.out]; rfl, HB1.out⟩
  · have hF := HF.out j (by rw [findI, hq])
    have hj := (find_lt hq).1
    have hx := find_at hq
    have HRR : Hid (r = (ts.getD j (0, 0)).2) := Lib.hid (by rw [← HR.out, dueT, hq])
    have HC := Lib.hid hF
    have HX := Lib.hid hx
    have hjn : (j : Int) < n := by have := HN.out; omega
    clear hq hF hx hj
    go_enter Tryd.func27, Tryd.ntmps27
    go_wp2_with fail
    go_at_call 45
    refine (HC.out).mono ?_
    rintro e w1 ⟨rfl, hb1⟩
    have HB1 := Lib.hid hb1
    have t1 := (hb1.cell (p := ⟨p, 16384, none⟩) hpl).trans HT0.out
    obtain ⟨b, o, rfl, hbl, hcs⟩ := (HP.out.below hb1).cells (fun e => by have := HX.out; rw [e] at this; simp at this)
    obtain ⟨p0, p1⟩ := hcs _ _ HX.out
    simp only [tkv] at p0 p1
    obtain ⟨D, hD⟩ : ∃ D, D = (ts.getD j (0, 0)).2 := ⟨_, rfl⟩
    rw [← hD] at p1
    have HD := Lib.hid hD
    clear hb1 hcs hD p0
    go_wp2_with fail
    go_ret
    exact ⟨by rw [HRR.out, ← HD.out]; rfl, HB1.out⟩
end ChunkW
end Go.Proofs.YtiochoppiohjnaaDoor
