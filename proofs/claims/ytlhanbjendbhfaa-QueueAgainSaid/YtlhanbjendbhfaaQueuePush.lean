/-
  One tick more at a heap's end, one less.
-/
import Derived.Test.YtlhanbjendbhfaaQueueSwap
namespace Go.Proofs.Ytlhanbjendbhfaa
open Go.RowKit
set_option linter.unusedVariables false
set_option linter.unusedSimpArgs false
namespace QueW
open BlkP RowG FrS PushG HeapP ChunkW

section
variable {w0 : World} {ops : Array Oper} {o : Oper} {a : Act} {Q : Exit → Act → World → Prop} {W : World}
/-- append(v, x) as one operation of a region. -/
theorem step_pushT {K : Act → World → Prop} {E : Prop} (hgd : o.guard = none) (s x : Operand) (ho : o.op = .call { callee := .builtin .append, args := #[s, x], argTypes := #[TLs, TLs] }) {B : Nat} {v : Value} {l : List Tick} {y : Tick} {n : Nat}
    (hW : W = w0.alloc (.cells #[.int .i64 y.1, .int .i64 y.2] TT)) (hs : a.eval s = v) (hown : RowG.Own encT TT w0 B v l) {g0 : Nat} (hx : a.eval x = .slice (some ⟨g0, 0, none⟩) 1 1) (hg0 : g0 = w0.heap.size) (hn : l.length = n) (hl : n ≤ 1000000) (hB : B ≤ w0.heap.size)
    (h : ∀ g c w', Pushed encT TT w0 B v l y (n + 1) g c w' → K (a.put o.dst (.slice (some ⟨g, 0, none⟩) (n + 1) c)) w') : if Region.wanted o (yielded ops a.tmps) = true then Oper.wp Try.prog o a W K Q else E := by
  subst hW hn hg0
  have hw : Region.wanted o (yielded ops a.tmps) = true := by simp [Region.wanted, hgd]
  rw [if_pos hw]
  obtain ⟨g, cp, w', hr, h2, h3, h4⟩ := run_pushG encT underT infoT rfl (by decide) (by decide) (y := y) (c := #[.int .i64 y.1, .int .i64 y.2]) rfl hown hl hB o.type
  unfold Oper.wp execOp
  simp only [ho, resolve, invoke, builtin, Sem.run_bind, Sem.run_pure, Result.andThen_ok, List.map_toArray, List.map_cons, List.map_nil, hs, hx, hr]
  refine h g cp w' ⟨h2, h3, ?_⟩
  rcases h4 with q | ⟨g', q, hg⟩
  · exact .inl q.symm
  · have : g = g' := by simpa [Value.ownBlock] using q
    subst this
    exact .inr hg
end
theorem own_take {w : World} {B g n c m : Nat} {l : List Tick} (h : RowG.Own encT TT w B (.slice (some ⟨g, 0, none⟩) n c) l) (hm : m ≤ l.length) : RowG.Own encT TT w B (.slice (some ⟨g, 0, none⟩) m c) (l.take m) := by
  have hl : (l.take m).length = m := by simp; omega
  unfold RowG.Own at h ⊢
  refine ⟨flat_len _, ?_⟩
  rcases h.2 with ⟨h0, _⟩ | ⟨g', cap, cur, h0, hB, hg, hn, hc, hs, ht⟩
  · cases h0
  · injection h0 with h0 h1 h2
    injection h0 with h0
    injection h0 with h0
    subst h0 h2
    refine .inr ⟨g, c, cur, by rw [hl], hB, hg, by rw [hl]; omega, hc, hs, ?_⟩
    rw [hl]
    have e : flat encT l = flat encT (l.take m) ++ flat encT (l.drop m) := by rw [← flat_app, List.take_append_drop]
    have hf : (flat encT (l.take m)).length = m * encT.k := by rw [flat_len, hl]
    have ht2 : List.take (l.length * encT.k) cur.toList = flat encT l := ht
    have hle : m * encT.k ≤ l.length * encT.k := Nat.mul_le_mul_right _ hm
    have : List.take (m * encT.k) (List.take (l.length * encT.k) cur.toList) = flat encT (l.take m) := by
      rw [ht2, e, ← hf, List.take_left]
    rw [List.take_take, Nat.min_eq_left hle] at this
    exact this
theorem own_len {w : World} {B : Nat} {v : Value} {l : List Tick} (h : RowG.Own encT TT w B v l) {n : Nat} (hn : l.length = n) : ∃ A c, v = .slice A n c ∧ n ≤ c ∧ c ≤ 9223372036854775807 ∧ (0 < n → ∃ g, A = some ⟨g, 0, none⟩ ∧ B ≤ g ∧ g < w.heap.size) := h.form hn
theorem fr3 {w : World} {pb : Nat} {S : Nat → Prop} {o : Obj} {x : Value} (h1 : S pb) : Fr S w ((w.setCell ⟨pb, 0, none⟩ x).alloc o) :=
  (Fr.set S w ⟨pb, 0, none⟩ x h1).trans (Fr.alloc S _ o) (fun i hi => .inl hi)
theorem fr_fresh {w w' : World} {S S' : Nat → Prop} (h : Fr S w w') (hs : ∀ k, S k → k < w.heap.size → S' k) : Fr S' w w' := ⟨h.os, h.tape, h.output, h.size, fun k hk hn => h.block k hk (fun q => hn (hs k q hk))⟩
theorem sp_new {pb g : Nat} {v : Value} {n c : Nat} (h : v.ownBlock = some g) : Sp pb v = Sp pb (.slice (some ⟨g, 0, none⟩) n c) := by
  funext k
  unfold Sp
  rw [h]
  rfl
set_option maxRecDepth 100000 in
set_option maxHeartbeats 16000000 in
theorem Push_c {w : World} {pb B n a : Nat} {v : Value} {d : Int} {l : List Tick} {W : Nat → Nat} (h : Pd w B pb v l W) (hn : l.length = n) (hn2 : n ≤ 4999) (ha : a < 4096) (hB : B ≤ w.heap.size) :
    Calls Try.prog 87 #[.pointer (some ⟨pb, 0, none⟩), .iface TT (.agg #[.int .i64 (a : Int), .int .i64 d])] w fun e w' => e = .returned (.tuple #[]) ∧ ∃ g c, Pd w' B pb (.slice (some ⟨g, 0, none⟩) (n + 1) c) (l ++ [((a : Int), d)]) (upd W a (n + 1)) ∧ Fr (Sp pb v) w w' ∧ (v.ownBlock = some g ∨ w.heap.size ≤ g) := by
  have hp := h.lt
  have HN := Lib.hid hn
  have HH := Lib.hid h
  have hnI : (n : Int) ≤ 4999 := by omega
  obtain ⟨A, c0, rfl, _, _, _⟩ := own_len h.row hn
  obtain ⟨s, hs⟩ : ∃ s, w.heap.size = s := ⟨_, rfl⟩
  have HS := Lib.hid hs
  clear h hn hs
  go_enter Try.func87, Try.ntmps87
  go_wp2_with fail
  refine wp_region_noPanic ?_
  refine wp_region_held_drew (S := fun Xw => Fr (Sp pb (.slice A n c0)) w Xw) (by kernel_rfl) ((Fr.refl _ w).drew) (fun hHeld => ?_)
  refine wpAnyH_take (i := 0) (oi := ⟨some 4, _, _, _, _, _⟩) (v := .pointer (some ⟨pb, 0, none⟩)) rfl (by kernel_rfl) (by kernel_rfl) (by kernel_rfl) (fun _ _ _ h => h) (Or.inl ⟨by rfl, fun Xw hSW => by go_simp⟩) hHeld ?_
  simp only [Act.put, List.setIfInBounds_toArray, List.set_cons_zero, List.set_cons_succ]
  refine wpAnyH_take (i := 1) (oi := ⟨some 5, _, _, _, _, _⟩) (v := .pointer (some ⟨pb, 0, none⟩)) rfl (by kernel_rfl) (by kernel_rfl) (by kernel_rfl) (fun _ _ _ h => h) (Or.inl ⟨by rfl, fun Xw hSW => by go_simp⟩) hHeld ?_
  simp only [Act.put, List.setIfInBounds_toArray, List.set_cons_zero, List.set_cons_succ]
  refine wpAnyH_take (i := 2) (oi := ⟨some 6, _, _, _, _, _⟩) (v := .pointer (some ⟨pb, 0, none⟩)) rfl (by kernel_rfl) (by kernel_rfl) (by kernel_rfl) (fun _ _ _ h => h) (Or.inl ⟨by rfl, fun Xw hSW => by go_simp⟩) hHeld ?_
  simp only [Act.put, List.setIfInBounds_toArray, List.set_cons_zero, List.set_cons_succ]
  refine wpAnyH_take (i := 3) (oi := ⟨some 7, _, _, _, _, _⟩) (v := .pointer (some ⟨pb, 0, none⟩)) rfl (by kernel_rfl) (by kernel_rfl) (by kernel_rfl) (fun _ _ _ h => h) (Or.inl ⟨by rfl, fun Xw hSW => by go_simp⟩) hHeld ?_
  simp only [Act.put, List.setIfInBounds_toArray, List.set_cons_zero, List.set_cons_succ]
  refine wpAnyH_take (i := 5) (oi := ⟨some 9, _, _, _, _, _⟩) (v := .iface TT (.agg #[.int .i64 (a : Int), .int .i64 d])) rfl (by kernel_rfl) (by kernel_rfl) (by kernel_rfl) (fun _ _ _ h => h) (Or.inl ⟨by rfl, fun Xw hSW => by go_simp⟩) hHeld ?_
  simp only [Act.put, List.setIfInBounds_toArray, List.set_cons_zero, List.set_cons_succ]
  refine wpAnyH_take (i := 6) (oi := ⟨some 10, _, _, _, _, _⟩) (v := .agg #[.int .i64 (a : Int), .int .i64 d]) rfl (by kernel_rfl) (by kernel_rfl) (by kernel_rfl) (fun _ _ _ h => h) (Or.inl ⟨by rfl, fun Xw hSW => by have q : (Instr.typeAssert (.iface TT (.agg #[.int .i64 (a : Int), .int .i64 d])) 20 TT false).run Try.prog Xw = .ok (.agg #[.int .i64 (a : Int), .int .i64 d]) Xw := (by kernel_rfl); go_simp⟩) hHeld ?_
  simp only [Act.put, List.setIfInBounds_toArray, List.set_cons_zero, List.set_cons_succ]
  refine wpAnyH_ready (rs := [4, 7]) (by kernel_rfl) (by simp) ?_
  refine AllReadyH.cons (o := ⟨some 8, _, _, _, _, _⟩) rfl (fun K hK => ?_) (AllReadyH.cons (o := ⟨some 11, _, _, _, _, _⟩) rfl (fun K hK => ?_) AllReadyH.nil)
  · have e0 := HH.out.cell0
    have l0 := HH.out.lt
    go_simp
    refine hK.out _ _ hHeld (fun hHeld => ?_)
    clear hK K e0 l0
    refine wpAnyH_ready (rs := [7]) (by kernel_rfl) (by simp) ?_
    refine AllReadyH.cons (o := ⟨some 11, _, _, _, _, _⟩) rfl (fun K hK => ?_) AllReadyH.nil
    go_simp
    refine hK.out _ _ (Fr.trans hHeld (Fr.alloc (Sp pb (.slice A n c0)) _ _) (fun i hi => .inl hi)) (fun hHeld => ?_)
    clear hK K
    refine wpAnyH_ready (rs := [8]) (by kernel_rfl) (by simp) ?_
    refine AllReadyH.cons (o := ⟨some 12, _, _, _, _, _⟩) rfl (fun K hK => ?_) AllReadyH.nil
    refine step_pushT (w0 := w.drew) (B := B) (v := .slice A n c0) (l := l) (y := ((a : Int), d)) (n := n) rfl (.tmp 8) (.tmp 11) rfl rfl rfl HH.out.row rfl (by first | rfl | (simp; done)) HN.out (by omega) hB ?_
    intro g c w5 hpu
    have hfr : Fr (Sp pb (.slice A n c0)) w w5 := (Fr.refl _ w).drew.trans (Fr.grown (S := Sp pb (.slice A n c0)) (w := w.drew) hpu.2.1 (fun i hi => .inr hi)) (fun i hi => .inl hi)
    have HFR := Lib.hid hfr
    have HO5 := Lib.hid hpu.1
    have HG5 := Lib.hid (show (Value.slice A n c0).ownBlock = some g ∨ w.heap.size ≤ g from hpu.2.2)
    have HB5 := Lib.hid (show Blk w5 pb TPd (pvals (.slice A n c0) W) from HH.out.blk.grown (w := w.drew) (w' := w5) hpu.2.1 (fun e => HH.out.ne e.symm))
    clear hpu
    refine hK.out _ _ hfr (fun hHeld => ?_)
    clear hK K hfr
    refine wpAnyH_take (i := 9) (oi := ⟨some 13, _, _, _, _, _⟩) (v := .pointer (some ⟨pb, 0, none⟩)) rfl (by kernel_rfl) (by kernel_rfl) (by kernel_rfl) (fun _ _ _ h => h) (Or.inl ⟨by rfl, fun Xw hSW => by go_simp⟩) hHeld ?_
    simp only [Act.put, List.setIfInBounds_toArray, List.set_cons_zero, List.set_cons_succ]
    refine wpAnyH_take (i := 10) (oi := ⟨some 14, _, _, _, _, _⟩) (v := .pointer (some ⟨pb, 0, none⟩)) rfl (by kernel_rfl) (by kernel_rfl) (by kernel_rfl) (fun _ _ _ h => h) (Or.inl ⟨by rfl, fun Xw hSW => by go_simp⟩) hHeld ?_
    simp only [Act.put, List.setIfInBounds_toArray, List.set_cons_zero, List.set_cons_succ]
    refine wpAnyH_ready (rs := [11]) (by kernel_rfl) (by simp) ?_
    refine AllReadyH.cons (o := ⟨none, _, _, _, _, _⟩) rfl (fun K hK => ?_) AllReadyH.nil
    have f0 := HB5.out.frozen 0
    have e0 := HB5.out.cell (pv_0 _ W)
    have l0 := HB5.out.lt
    go_simp
    refine hK.out _ _ (HFR.out.trans (Fr.set (Sp pb (.slice A n c0)) _ _ _ (.inl rfl)) (fun i hi => .inl hi)) (fun hHeld => ?_)
    clear hK K f0 e0 l0
    refine wpAnyH_done (by kernel_rfl) ?_ _
    refine NoPanic.normal ?_
    have hgp : g ≠ pb := fun e => by
      rcases HG5.out with q | q
      · exact HH.out.ne (by rw [q, e])
      · omega
    refine HeldP.then_named (S := fun W' => Pd W' B pb (.slice (some ⟨g, 0, none⟩) (n + 1) c) (l ++ [((a : Int), d)]) W ∧ Fr (Sp pb (.slice A n c0)) w W') ⟨⟨HB5.out.set 0 _, (Fr.set (fun k => k = pb) w5 ⟨pb, 0, none⟩ _ rfl).own HO5.out (fun q hq e => hgp (by
        have : g = q := by simpa [Value.ownBlock] using hq
        rw [this, e])), fun e => hgp (by simpa [Value.ownBlock] using e)⟩, hHeld⟩ ?_
    clear hHeld
    rintro w6 ⟨h6, f6⟩
    have H6 := Lib.hid h6
    have F6 := Lib.hid f6
    have e0 := h6.cell0
    have l0 := h6.lt
    clear h6 f6
    go_wp2_with fail
    refine (len_c).mono ?_
    rintro e w7 ⟨rfl, rfl⟩
    go_wp2_with fail
    refine (note_c (i := n) H6.out.blk H6.out.row (by rw [List.length_append, HN.out]; rfl) (by omega) (by rw [List.getElem?_append_right (by rw [HN.out]; exact Nat.le_refl _), HN.out, Nat.sub_self]; rfl) ha).mono ?_
    rintro e w8 ⟨rfl, hb8, hf8⟩
    have H8 := Lib.hid hb8
    have F8 := Lib.hid hf8
    clear hb8 hf8
    go_wp2_with fail
    go_end0
    refine ⟨rfl, g, c, ⟨H8.out, F8.out.own H6.out.row (fun q hq e => hgp (by
        have : g = q := by simpa [Value.ownBlock] using hq
        rw [this, e])), H6.out.ne⟩, F6.out.trans F8.out (fun i hi => .inl (.inl hi)), HG5.out⟩
  · go_simp
    refine hK.out _ _ (Fr.trans hHeld (Fr.alloc (Sp pb (.slice A n c0)) _ _) (fun i hi => .inl hi)) (fun hHeld => ?_)
    clear hK K
    refine wpAnyH_ready (rs := [4]) (by kernel_rfl) (by simp) ?_
    refine AllReadyH.cons (o := ⟨some 8, _, _, _, _, _⟩) rfl (fun K hK => ?_) AllReadyH.nil
    have e0 := HH.out.cell0
    have l0 := HH.out.lt
    go_simp
    refine hK.out _ _ hHeld (fun hHeld => ?_)
    clear hK K e0 l0
    refine wpAnyH_ready (rs := [8]) (by kernel_rfl) (by simp) ?_
    refine AllReadyH.cons (o := ⟨some 12, _, _, _, _, _⟩) rfl (fun K hK => ?_) AllReadyH.nil
    refine step_pushT (w0 := w.drew) (B := B) (v := .slice A n c0) (l := l) (y := ((a : Int), d)) (n := n) rfl (.tmp 8) (.tmp 11) rfl rfl rfl HH.out.row rfl (by first | rfl | (simp; done)) HN.out (by omega) hB ?_
    intro g c w5 hpu
    have hfr : Fr (Sp pb (.slice A n c0)) w w5 := (Fr.refl _ w).drew.trans (Fr.grown (S := Sp pb (.slice A n c0)) (w := w.drew) hpu.2.1 (fun i hi => .inr hi)) (fun i hi => .inl hi)
    have HFR := Lib.hid hfr
    have HO5 := Lib.hid hpu.1
    have HG5 := Lib.hid (show (Value.slice A n c0).ownBlock = some g ∨ w.heap.size ≤ g from hpu.2.2)
    have HB5 := Lib.hid (show Blk w5 pb TPd (pvals (.slice A n c0) W) from HH.out.blk.grown (w := w.drew) (w' := w5) hpu.2.1 (fun e => HH.out.ne e.symm))
    clear hpu
    refine hK.out _ _ hfr (fun hHeld => ?_)
    clear hK K hfr
    refine wpAnyH_take (i := 9) (oi := ⟨some 13, _, _, _, _, _⟩) (v := .pointer (some ⟨pb, 0, none⟩)) rfl (by kernel_rfl) (by kernel_rfl) (by kernel_rfl) (fun _ _ _ h => h) (Or.inl ⟨by rfl, fun Xw hSW => by go_simp⟩) hHeld ?_
    simp only [Act.put, List.setIfInBounds_toArray, List.set_cons_zero, List.set_cons_succ]
    refine wpAnyH_take (i := 10) (oi := ⟨some 14, _, _, _, _, _⟩) (v := .pointer (some ⟨pb, 0, none⟩)) rfl (by kernel_rfl) (by kernel_rfl) (by kernel_rfl) (fun _ _ _ h => h) (Or.inl ⟨by rfl, fun Xw hSW => by go_simp⟩) hHeld ?_
    simp only [Act.put, List.setIfInBounds_toArray, List.set_cons_zero, List.set_cons_succ]
    refine wpAnyH_ready (rs := [11]) (by kernel_rfl) (by simp) ?_
    refine AllReadyH.cons (o := ⟨none, _, _, _, _, _⟩) rfl (fun K hK => ?_) AllReadyH.nil
    have f0 := HB5.out.frozen 0
    have e0 := HB5.out.cell (pv_0 _ W)
    have l0 := HB5.out.lt
    go_simp
    refine hK.out _ _ (HFR.out.trans (Fr.set (Sp pb (.slice A n c0)) _ _ _ (.inl rfl)) (fun i hi => .inl hi)) (fun hHeld => ?_)
    clear hK K f0 e0 l0
    refine wpAnyH_done (by kernel_rfl) ?_ _
    refine NoPanic.normal ?_
    have hgp : g ≠ pb := fun e => by
      rcases HG5.out with q | q
      · exact HH.out.ne (by rw [q, e])
      · omega
    refine HeldP.then_named (S := fun W' => Pd W' B pb (.slice (some ⟨g, 0, none⟩) (n + 1) c) (l ++ [((a : Int), d)]) W ∧ Fr (Sp pb (.slice A n c0)) w W') ⟨⟨HB5.out.set 0 _, (Fr.set (fun k => k = pb) w5 ⟨pb, 0, none⟩ _ rfl).own HO5.out (fun q hq e => hgp (by
        have : g = q := by simpa [Value.ownBlock] using hq
        rw [this, e])), fun e => hgp (by simpa [Value.ownBlock] using e)⟩, hHeld⟩ ?_
    clear hHeld
    rintro w6 ⟨h6, f6⟩
    have H6 := Lib.hid h6
    have F6 := Lib.hid f6
    have e0 := h6.cell0
    have l0 := h6.lt
    clear h6 f6
    go_wp2_with fail
    refine (len_c).mono ?_
    rintro e w7 ⟨rfl, rfl⟩
    go_wp2_with fail
    refine (note_c (i := n) H6.out.blk H6.out.row (by rw [List.length_append, HN.out]; rfl) (by omega) (by rw [List.getElem?_append_right (by rw [HN.out]; exact Nat.le_refl _), HN.out, Nat.sub_self]; rfl) ha).mono ?_
    rintro e w8 ⟨rfl, hb8, hf8⟩
    have H8 := Lib.hid hb8
    have F8 := Lib.hid hf8
    clear hb8 hf8
    go_wp2_with fail
    go_end0
    refine ⟨rfl, g, c, ⟨H8.out, F8.out.own H6.out.row (fun q hq e => hgp (by
        have : g = q := by simpa [Value.ownBlock] using hq
        rw [this, e])), H6.out.ne⟩, F6.out.trans F8.out (fun i hi => .inl (.inl hi)), HG5.out⟩
set_option maxRecDepth 100000 in
set_option maxHeartbeats 16000000 in
theorem Pop_c {w : World} {pb B m n a g c : Nat} {d : Int} {l : List Tick} {W : Nat → Nat} (h : Pd w B pb (.slice (some ⟨g, 0, none⟩) n c) l W) (hn : l.length = n) (hm : n = m + 1) (hn2 : n ≤ 5000) (hx : l[m]? = some ((a : Int), d)) (ha : a < 4096) :
    Calls Try.prog 86 #[.pointer (some ⟨pb, 0, none⟩)] w fun e w' => e = .returned (.iface TT (.agg #[.int .i64 (a : Int), .int .i64 d])) ∧ Pd w' B pb (.slice (some ⟨g, 0, none⟩) m c) (l.take m) (upd W a 0) ∧ Fr (Sp pb (.slice (some ⟨g, 0, none⟩) n c)) w w' := by
  have x0 := h.row.cell (j := 0) hx rfl
  have x1 := h.row.cell (j := 1) hx rfl
  simp only [show encT.k = 2 from rfl, Nat.add_zero] at x0 x1
  have hg : g < w.heap.size := (h.row.ge g rfl).2
  have hp := h.lt
  have e0 := h.cell0
  have f0 := h.blk.frozen 0
  have hmI : (n : Int) - 1 = (m : Int) := by omega
  have hm2 : (m : Int) < (n : Int) := by omega
  have hnI : (n : Int) ≤ 5000 := by omega
  have hcap : m ≤ c := by
    obtain ⟨A, c2, e, h1, _⟩ := own_len h.row hn
    injection e with _ _ e3
    omega
  have haI : (a : Int) < 4096 := by omega
  have hgp : g ≠ pb := fun e => h.ne (by rw [e]; rfl)
  have HH := Lib.hid h
  have HN := Lib.hid hn
  have HM := Lib.hid hm
  clear h hn hm hx
  go_enter Try.func86, Try.ntmps86
  go_wp2_with fail
  refine (len_c).mono ?_
  rintro e w7 ⟨rfl, rfl⟩
  go_wp2_with fail
  refine HeldP.wp_named (S := fun W' => Blk W' pb TPd (pvals (.slice (some ⟨g, 0, none⟩) m c) W) ∧ RowG.Own encT TT W' B (.slice (some ⟨g, 0, none⟩) m c) (l.take m) ∧ Blk W' w7.heap.size TT [.int .i64 (a : Int), .int .i64 d] ∧ Fr (Sp pb (.slice (some ⟨g, 0, none⟩) n c)) w7 W') ⟨?_, ?_, ?_, ?_⟩ ?_
  · exact (HH.out.blk.set 0 _).alloc _
  · have ho := own_take (m := m) HH.out.row (by rw [HN.out]; omega)
    exact (fr3 (S := fun k => k = pb) rfl).own ho (fun q hq e => hgp (by
      have : g = q := by simpa [Value.ownBlock] using hq
      rw [this, e]))
  · (repeat' (first | (with_reducible refine BlkP.Blk.drew ?_) | (with_reducible refine BlkP.Blk.drewN ?_ _) | (with_reducible refine BlkP.Blk.setAt (us := ?_) (by first | omega | (simp; done) | (simp; omega)) rfl ?_ ?_) | (with_reducible refine BlkP.Blk.otherAt ?_ (by first | omega | (simp; done) | (simp; omega))) | (with_reducible refine BlkP.Blk.newA' (by first | omega | (simp; done) | (simp; omega)) rfl) | (with_reducible refine BlkP.Blk.alloc ?_ _) | (exact rfl)))
  · exact (fr3 (S := fun k => k = pb) rfl).mono (fun k hk => .inl hk)
  rintro w1 ⟨hb1, ho1, ht1, hf1⟩
  have H1 := Lib.hid hb1
  have O1 := Lib.hid ho1
  have F1 := Lib.hid hf1
  have T1 := Lib.hid ht1
  have t0 := ht1.cell (i := 0) rfl
  have t1 := ht1.cell (i := 1) rfl
  have l1 := ht1.lt
  have p1 := hb1.lt
  have c1 := hb1.cell (pv_at' _ W ha)
  have fz := hb1.frozen (1 + a)
  have hpn : pb ≠ w7.heap.size := by omega
  have HB := Lib.hid (show ∀ w', w' = (w1.drew.setCell ⟨pb, 1 + a, none⟩ (.int .u16 0)) → Blk w' pb TPd (pvals (.slice (some ⟨g, 0, none⟩) m c) (upd W a 0)) ∧ Fr (fun k => k = pb) w1 w' from fun w' e => by
    subst e
    refine ⟨?_, (Fr.refl _ w1).drew.trans (Fr.set (fun k => k = pb) w1.drew ⟨pb, 1 + a, none⟩ _ rfl) (fun i hi => .inl hi)⟩
    have q := (hb1.drew).set (1 + a) (.int .u16 ((0 : Nat) : Int))
    rw [pv_set' _ W ha] at q
    exact q)
  clear hb1 ho1 ht1 hf1 x0 x1 e0 f0
  go_region
  refine HeldP.then_named (S := fun W' => W' = w1.drew.setCell ⟨pb, 1 + a, none⟩ (.int .u16 0)) rfl ?_
  rintro w2 e
  obtain ⟨hb2, hf2⟩ := HB.out w2 e
  have H2 := Lib.hid hb2
  have F2 := Lib.hid hf2
  have T2 := hf2.blk T1.out (fun e => hpn e.symm)
  have t0 := T2.cell (i := 0) rfl
  have t1 := T2.cell (i := 1) rfl
  have l2 := T2.lt
  clear hb2 hf2 e T2
  go_wp2_with fail
  go_ret
  exact ⟨rfl, ⟨H2.out, F2.out.own O1.out (fun q hq e => hgp (by
      have : g = q := by simpa [Value.ownBlock] using hq
      rw [this, e])), HH.out.ne⟩, F1.out.trans F2.out (fun i hi => .inl (.inl hi))⟩
end QueW
end Go.Proofs.Ytlhanbjendbhfaa
