/-
  glow.spread.
-/
import Derived.Deep.LoopGhost
import Derived.Test.YtbkadecfmjjadaaDoorGlowSpreadM
namespace Go.Proofs.YtbkadecfmjjadaaDoor
open Go.RowKit Go.Shelf
set_option linter.unusedVariables false
set_option linter.unusedSimpArgs false
attribute [local go_sem] Oper.semAt_some
namespace GlowW
open BlkP RowG

/-- The lights have been spread: just their block is another one. -/
def SpreadP (w : World) (gl : Nat) (L : List Nat) (e : Ending) (w' : World) : Prop := e = .returned (.tuple #[]) ∧ Blk w' gl 5 (L.map u8v) ∧ w.grownBy w' (some gl)
theorem lit_get {L : List Nat} {i : Nat} (h : i < L.length) : (L.map u8v)[i]? = some (.int .u8 ((L.getD i 0 : Nat) : Int)) := by simp [List.getD, h, u8v]
def Loop1 (w : World) (gl go n : Nat) (O : List Bool) (L : List Nat) (v : Value) (wr : World) : Prop := ∃ (j : Nat) (vs : List Value), v = .int .i64 j ∧ j ≤ n ∧ SM gl go w.heap.size n O wr L vs (GlowP.knS L j) ∧ Below w.heap.size w wr

/-- Between two turns. -/
def Bright (w : World) (gl go n : Nat) (O : List Bool) (side : Nat → List Nat) (FS : GlowP.St) (k : Nat) (x : Value) (Ds : List Nat) (W : World) : Prop :=
  x = .int .u8 k ∧ 1 ≤ k ∧ k ≤ 15 ∧ ∃ (st : GlowP.St) (vs : List Value), SM gl go w.heap.size n O W st.1 vs st.2 ∧ GlowP.downS O side k st = FS ∧ GlowP.Good n st ∧ Marks w.heap.size Ds W ∧ w.grownBy W (some gl)
/-- Between two cells of a list. -/
def Cells (w : World) (gl go n : Nat) (O : List Bool) (side : Nat → List Nat) (b le bl : Nat) (vA : Value) (lc : List Nat) (s0 : GlowP.St) (k : Nat) (x : Value) (Ds : List Nat) (W : World) : Prop :=
  ∃ idx : Nat, x = .int .i64 idx ∧ idx ≤ lc.length ∧ k = lc.length - idx ∧ ∃ (st : GlowP.St) (vs : List Value), SM gl go w.heap.size n O W st.1 vs st.2 ∧ st = (lc.take idx).foldl (GlowP.cellS O side le) s0 ∧ GlowP.Good n st ∧ vs[b]? = some vA ∧ st.2 b = lc ∧ Blk W bl 5 [u8v le] ∧ Marks w.heap.size Ds W ∧ w.grownBy W (some gl)
/-- Between two sides of a cell. -/
def Sides {M : Nat} (w w2 : World) (gl go n : Nat) (O : List Bool) (b le bl E : Nat) (vA : Value) (Ds : List Nat) (s0 : GlowP.St) (ps : List (Num M)) (W : World) : Prop :=
  ∃ (st : GlowP.St) (vs : List Value), SM gl go w.heap.size n O W st.1 vs st.2 ∧ st = (ps.map (·.1)).foldl (GlowP.stepS O le) s0 ∧ GlowP.Good n st ∧ vs[b]? = some vA ∧ (∀ v ∈ vs, v.ownBlock ≠ some E) ∧ Blk W bl 5 [u8v le] ∧ Marks w.heap.size Ds W ∧ w.grownBy W (some gl) ∧ w2.heap.size ≤ W.heap.size
theorem grown_turned {w W W' : World} {gl M : Nat} {row : Option Nat} (h : w.grownBy W (some gl)) (hg : W.grownBy W' row) (hM : w.heap.size ≤ M) (hr : ∀ r, row = some r → M ≤ r) : w.grownBy W' (some gl) :=
  ⟨hg.os.trans h.os, hg.tape.trans h.tape, hg.output.trans h.output, Nat.le_trans h.size hg.size, fun k hk hne => (hg.block k (Nat.lt_of_lt_of_le hk h.size) (fun e => by have := hr k e.symm; omega)).trans (h.block k hk hne)⟩
theorem grown_same {w W W' : World} {gl : Nat} {row : Option Nat} (h : w.grownBy W (some gl)) (hg : W.grownBy W' row) (hr : ∀ r, row = some r → r = gl ∨ w.heap.size ≤ r) : w.grownBy W' (some gl) :=
  ⟨hg.os.trans h.os, hg.tape.trans h.tape, hg.output.trans h.output, Nat.le_trans h.size hg.size, fun k hk hne => (hg.block k (Nat.lt_of_lt_of_le hk h.size) (fun e => by
    rcases hr k e.symm with q | q
    · exact hne (by rw [q])
    · omega)).trans (h.block k hk hne)⟩
theorem sides_own {M : Nat} {w w2 : World} {gl go n : Nat} {O : List Bool} {b le bl E : Nat} {vA : Value} {Ds : List Nat} {s0 : GlowP.St} (hw : w.heap.size ≤ w2.heap.size) (hD : ∀ D ∈ Ds, D < w2.heap.size) : OwnFrom w2.heap.size (fun (ps : List (Num M)) W => Sides w w2 gl go n O b le bl E vA Ds s0 ps W) :=
  fun ps W W' row ⟨st, vs, h1, h2, h3, h4, h5, h6, h7, h8, h9⟩ hg hr => ⟨st, vs, h1.turned hg (fun r e => (hr r e).2), h2, h3, h4, h5, blk_turned h6 hg (fun r e => (hr r e).2), h7.turned hD hg hr, grown_turned h8 hg hw (fun r e => (hr r e).1), Nat.le_trans h9 hg.size⟩
theorem drewN_grown (W : World) (k : Nat) (r : Option Nat) : W.grownBy (W.drewN k) r := ⟨rfl, rfl, rfl, Nat.le_refl _, fun _ _ _ => rfl⟩
theorem drewN_keeps (W : World) (k : Nat) : KeepsOthers W (W.drewN k) := KeepsOthers.of_grownBy (drewN_grown W k none) (fun j o e => by cases e)
theorem setCell_grown (W : World) (b i : Nat) (v : Value) : W.grownBy (W.setCell ⟨b, i, none⟩ v) (some b) := ⟨rfl, rfl, rfl, by simp, fun k _ hk => heap_setCell_other W ⟨b, i, none⟩ k v (fun e => hk (by rw [e]))⟩
/-- The end of a side that is lit. -/
theorem push_end {M : Nat} {w w2 W' W5 w6 : World} {gl go n : Nat} {O : List Bool} {b le bl E nq : Nat} {vA : Value} {Ds : List Nat} {s0 s4 : GlowP.St} {vs4 : List Value} {pre : List (Num M)} {x : Nat} {hx : x < M} {v5 : Value} {g2 ln2 c2 : Nat} (h4 : SM gl go w.heap.size n O W' s4.1 vs4 s4.2) (h5 : SM gl go w.heap.size n O W5 (s4.1.set x le) vs4 s4.2) (hst : s4 = (pre.map (·.1)).foldl (GlowP.stepS O le) s0) (hgd : GlowP.Good n s4) (hxn : x < n) (hq : O.getD x false = true ∧ s4.1.getD x 0 < le)
    (hvA : vs4[b]? = some vA) (hne : ∀ v ∈ vs4, v.ownBlock ≠ some E) (hmk : Marks w.heap.size Ds W') (hgw : w.grownBy W' (some gl)) (hz : w2.heap.size ≤ W'.heap.size) (hW5 : W5 = (W'.drewN nq).setCell ⟨gl, x, none⟩ (u8v le)) (hv5 : vs4[le]? = some v5)
    (ho : RowG.Own encN 3 w6 (w.heap.size + 3) (.slice (some ⟨g2, 0, none⟩) (ln2 + 1) c2) (s4.2 le ++ [x])) (hg : W5.grownBy w6 v5.ownBlock) (hb : (Value.slice (some ⟨g2, 0, none⟩) (ln2 + 1) c2).ownBlock = v5.ownBlock ∨ ∃ g', (Value.slice (some ⟨g2, 0, none⟩) (ln2 + 1) c2).ownBlock = some g' ∧ W5.heap.size ≤ g')
    (hbl6 : Blk w6 bl 5 [u8v le]) (hbl : bl ≠ w.heap.size + 2) (hbE : E < W'.heap.size) (hgl : gl < w.heap.size) (hble : b ≠ le ∧ w.heap.size + 3 ≤ E) :
    KeepsOthers W' (w6.setCell ⟨w.heap.size + 2, le, none⟩ (.slice (some ⟨g2, 0, none⟩) (ln2 + 1) c2)) ∧ KpE E W' (w6.setCell ⟨w.heap.size + 2, le, none⟩ (.slice (some ⟨g2, 0, none⟩) (ln2 + 1) c2)) ∧
      Sides w w2 gl go n O b le bl E vA Ds s0 (pre ++ [⟨x, hx⟩]) (w6.setCell ⟨w.heap.size + 2, le, none⟩ (.slice (some ⟨g2, 0, none⟩) (ln2 + 1) c2)) := by
  have hm5 := List.mem_of_getElem? hv5
  have gA : W'.grownBy W5 (some gl) := by
    rw [hW5]
    exact World.grownBy.trans (drewN_grown _ _ _) (setCell_grown _ _ _ _)
  have gC := setCell_grown w6 (w.heap.size + 2) le (.slice (some ⟨g2, 0, none⟩) (ln2 + 1) c2)
  have hz5 : W5.heap.size = W'.heap.size := by rw [hW5]; simp
  have hkb6 : Blk w6 (w.heap.size + 2) TKn vs4 := h5.kn.blk.grown hg (fun e => row_ne h5 h5.kn.blk (by decide) _ hm5 e.symm)
  have cells5 : ∀ (j : Nat) (o : Obj), v5.ownBlock = some j → W5.heap[j]? = some o → o.isCells = true := fun j o e ho' => by
    obtain ⟨us, hu⟩ := own_blk (h5.kn.own le v5 hv5) e
    unfold Blk at hu
    rw [hu] at ho'
    injection ho' with ho'
    subst ho'
    rfl
  have kA : KeepsOthers W' W5 := KeepsOthers.of_grownBy gA (fun j o e ho' => by
    injection e with e
    subst e
    have hu := h4.light
    unfold Blk at hu
    rw [hu] at ho'
    injection ho' with ho'
    subst ho'
    rfl)
  have kB : KeepsOthers W5 w6 := KeepsOthers.of_grownBy hg cells5
  have kC := KeepsOthers.setCell w6 ⟨w.heap.size + 2, le, none⟩ (.slice (some ⟨g2, 0, none⟩) (ln2 + 1) c2)
  have hgE : some E ≠ some gl := fun e => by injection e with e; omega
  refine ⟨kA.trans (kB.trans kC), ?_, (s4.1.set x le, GlowP.push s4.2 le x), vs4.set le (.slice (some ⟨g2, 0, none⟩) (ln2 + 1) c2), h5.pushed hv5 ho hg hb, ?_, ?_, ?_, ?_, hbl6.other hbl _, hmk.keeps (kA.trans (kB.trans kC)), ?_, ?_⟩
  · refine (KpE.grown gA hgE (fun k vs e h => ?_)).trans ((KpE.grown hg (fun e => hne v5 hm5 e.symm) (fun k vs e h => ?_)).trans (KpE.grown gC (fun e => by injection e with e; omega) (fun k vs e h => ?_)))
    · injection e with e
      subst e
      exact Blk.ne h h4.light (by decide) rfl
    · obtain ⟨us, hu⟩ := own_blk (h5.kn.own le v5 hv5) e
      exact Blk.ne h hu (by decide) rfl
    · injection e with e
      subst e
      exact Blk.ne h hkb6 (by decide) rfl
  · rw [List.map_append, List.foldl_append, ← hst]
    show _ = GlowP.stepS O le s4 x
    unfold GlowP.stepS
    rw [if_pos hq]
  · have := hgd.step (O := O) (less := le) hxn
    unfold GlowP.stepS at this
    rw [if_pos hq] at this
    exact this
  · rw [List.getElem?_set_ne (fun e => hble.1 e.symm)]
    exact hvA
  · intro v hv
    obtain ⟨j, hj⟩ := List.getElem?_of_mem hv
    by_cases e : j = le
    · subst e
      rw [List.getElem?_set_self (List.getElem?_eq_some_iff.1 hv5).1] at hj
      have : (Value.slice (some ⟨g2, 0, none⟩) (ln2 + 1) c2) = v := by simpa using hj
      subst this
      rcases hb with e | ⟨g', e, hge⟩
      · rw [e]
        exact hne v5 hm5
      · rw [e]
        intro q
        injection q with q
        omega
    · rw [List.getElem?_set_ne (fun q => e q.symm)] at hj
      exact hne v (List.mem_of_getElem? hj)
  · refine grown_same (grown_same (grown_same hgw gA (fun r e => .inl (by injection e with e; exact e.symm))) hg (fun r e => .inr ?_)) gC (fun r e => .inr ?_)
    · have := ((h5.kn.own le v5 hv5).ge _ e).1
      omega
    · injection e with e
      omega
  · have := hg.size
    simp
    omega
theorem sub8 {k le : Nat} (h : (k : Int) - 1 = le) (h2 : le < 256) : ∀ w, (binOp .sub 5 (.int .u8 k) (.int .u8 1)).run Tryd.prog w = .ok (.int .u8 le) w := fun w => by
  have e : (binOp .sub 5 (.int .u8 k) (.int .u8 1)).run Tryd.prog w = .ok (.int .u8 (IntKind.u8.wrap ((k : Int) - 1))) w := by kernel_rfl
  rw [e, h, IntKind.wrap_u8]
  congr 2
  omega

set_option maxRecDepth 100000 in
set_option maxHeartbeats 16000000 in
theorem spread_c {w : World} {gl go ga n X Y Z : Nat} {O : List Bool} {L : List Nat} (hX : 1 ≤ X ∧ X ≤ 256) (hY : 1 ≤ Y ∧ Y ≤ 256) (hZ : 1 ≤ Z ∧ Z ≤ 256) (hn : X * Y * Z = n) (hn2 : n ≤ 262144)
    (hl : Blk w gl 5 (L.map u8v)) (ho : Blk w go 4 (O.map Value.bool)) (ha : Blk w ga 70 (axesV X Y Z)) (hLn : L.length = n) (hOn : O.length = n) (h15 : ∀ i, L.getD i 0 ≤ 15) (h0 : ∀ i, GlowP.clO O i = false → L.getD i 0 = 0) :
    Calls Tryd.prog 29 #[.slice (some ⟨gl, 0, none⟩) n n, .slice (some ⟨go, 0, none⟩) n n, .func (.func 37) #[] #[.pointer (some ⟨ga, 0, none⟩)]] w (SpreadP w gl (GlowP.downS O (GlowP.sideX X Y Z) 15 (L, GlowP.knS L n)).1) := by
  obtain ⟨FS, hFS⟩ : ∃ FS, GlowP.downS O (GlowP.sideX X Y Z) 15 (L, GlowP.knS L n) = FS := ⟨_, rfl⟩
  rw [hFS]
  obtain ⟨side, hside⟩ : ∃ side, GlowP.sideX X Y Z = side := ⟨_, rfl⟩
  rw [hside] at hFS
  have HFS := Lib.hid hFS
  have HSD := Lib.hid hside
  have HN := Lib.hid hn
  have HL := Lib.hid hl
  have HO := Lib.hid ho
  have HA := Lib.hid ha
  have HLN := Lib.hid hLn
  have HON := Lib.hid hOn
  have H15 := Lib.hid h15
  have H0 := Lib.hid h0
  have hgl := hl.lt
  have hgo := ho.lt
  have hga := ha.lt
  obtain ⟨i0, hi, hz0, hz1, hz2⟩ := info_parts infoInt
  have HI := Lib.hid hi
  have HZ0 := Lib.hid hz0
  have HZ1 := Lib.hid hz1
  have HZ2 := Lib.hid hz2
  clear hFS hside hn hl ho ha hLn hOn h15 h0 hi hz0 hz1 hz2
  refine (callsIn_wide (n := 6)).1 ?_
  refine callsIn_of_wp_marks Tryd.func29 rfl trivial ?_ rfl
  refine wpIn_wide.2 ?_
  simp only [Tryd.ntmps29, List.size_toArray, List.length_cons, List.length_nil, Nat.reduceAdd, Nat.reduceSub, Array.replicate_succ, Array.replicate_zero, List.push_toArray, List.append_toArray, List.nil_append, List.cons_append]
  go_wp2_with fail
  have hst0 : SM gl go w.heap.size n O (((w.alloc (.cells #[.slice (some ⟨gl, 0, none⟩) n n] 55)).alloc (.cells #[.slice (some ⟨go, 0, none⟩) n n] 53)).alloc (.cells (List.replicate 16 (.slice none 0 0)).toArray TKn)) L (List.replicate 16 (.slice none 0 0)) (GlowP.knS L 0) :=
    ⟨by have hl := HL.out; (repeat' (first | (with_reducible exact hl) | (with_reducible refine BlkP.Blk.drew ?_) | (with_reducible refine BlkP.Blk.drewN ?_ _) | (with_reducible refine BlkP.Blk.setAt (us := ?_) (by first | omega | (simp; done) | (simp; omega)) rfl ?_ ?_) | (with_reducible refine BlkP.Blk.otherAt ?_ (by first | omega | (simp; done) | (simp; omega))) | (with_reducible refine BlkP.Blk.newA' (by first | omega | (simp; done) | (simp; omega)) rfl) | (with_reducible refine BlkP.Blk.alloc ?_ _) | (exact rfl))), by have ho := HO.out; (repeat' (first | (with_reducible exact ho) | (with_reducible refine BlkP.Blk.drew ?_) | (with_reducible refine BlkP.Blk.drewN ?_ _) | (with_reducible refine BlkP.Blk.setAt (us := ?_) (by first | omega | (simp; done) | (simp; omega)) rfl ?_ ?_) | (with_reducible refine BlkP.Blk.otherAt ?_ (by first | omega | (simp; done) | (simp; omega))) | (with_reducible refine BlkP.Blk.newA' (by first | omega | (simp; done) | (simp; omega)) rfl) | (with_reducible refine BlkP.Blk.alloc ?_ _) | (exact rfl))), by (repeat' (first | (with_reducible refine BlkP.Blk.drew ?_) | (with_reducible refine BlkP.Blk.drewN ?_ _) | (with_reducible refine BlkP.Blk.setAt (us := ?_) (by first | omega | (simp; done) | (simp; omega)) rfl ?_ ?_) | (with_reducible refine BlkP.Blk.otherAt ?_ (by first | omega | (simp; done) | (simp; omega))) | (with_reducible refine BlkP.Blk.newA' (by first | omega | (simp; done) | (simp; omega)) rfl) | (with_reducible refine BlkP.Blk.alloc ?_ _) | (exact rfl))), by (repeat' (first | (with_reducible refine BlkP.Blk.drew ?_) | (with_reducible refine BlkP.Blk.drewN ?_ _) | (with_reducible refine BlkP.Blk.setAt (us := ?_) (by first | omega | (simp; done) | (simp; omega)) rfl ?_ ?_) | (with_reducible refine BlkP.Blk.otherAt ?_ (by first | omega | (simp; done) | (simp; omega))) | (with_reducible refine BlkP.Blk.newA' (by first | omega | (simp; done) | (simp; omega)) rfl) | (with_reducible refine BlkP.Blk.alloc ?_ _) | (exact rfl))), KN.zero (by (repeat' (first | (with_reducible refine BlkP.Blk.drew ?_) | (with_reducible refine BlkP.Blk.drewN ?_ _) | (with_reducible refine BlkP.Blk.setAt (us := ?_) (by first | omega | (simp; done) | (simp; omega)) rfl ?_ ?_) | (with_reducible refine BlkP.Blk.otherAt ?_ (by first | omega | (simp; done) | (simp; omega))) | (with_reducible refine BlkP.Blk.newA' (by first | omega | (simp; done) | (simp; omega)) rfl) | (with_reducible refine BlkP.Blk.alloc ?_ _) | (exact rfl)))) (by omega)⟩
  have HST0 := Lib.hid hst0
  clear hst0
  go_loopw [16] (Loop1 w gl go n O L) (fun v _ => n - (intOf v).toNat)
  case atStart => exact ⟨0, _, rfl, by omega, HST0.out, by (repeat' (first | (with_reducible exact Below.refl _ _) | (with_reducible refine Below.setCell ?_ (by (first | omega | (simp; done) | (simp; omega))) _) | (with_reducible refine Below.alloc ?_ (by (first | omega | (simp; done) | (simp; omega))) _) | (with_reducible refine Below.drew ?_) | (with_reducible refine below_drewN ?_ _)))⟩
  case round =>
    obtain ⟨j, vs, rfl, hj, hsm, hb⟩ := hrel
    have HSM := Lib.hid hsm
    have HB := Lib.hid hb
    have hz := hb.size
    by_cases hlt : j < n
    · have hjI : (j : Int) < n := by omega
      obtain ⟨b, hbv⟩ : ∃ b, L.getD j 0 = b := ⟨_, rfl⟩
      have c0 := hsm.light.cell (lit_get (L := L) (i := j) (by have := HLN.out; omega))
      rw [hbv] at c0
      have hb15 : b ≤ 15 := by rw [← hbv]; exact H15.out j
      by_cases hb0 : 0 < b
      · obtain ⟨v, hv⟩ := hsm.kn.get (k := b) (by omega)
        have hown := hsm.kn.own b v hv
        have hcv := hsm.kn.blk.cell hv
        have hcf := hsm.kn.blk.frozen b
        have HV := Lib.hid hv
        have HOW := Lib.hid hown
        have HLE := Lib.hid (show (GlowP.knS L j b).length ≤ 1000000 by have := (GlowP.Good.first (L := L) j (by have := HLN.out; omega) b hb0); have h2 := List.countP_le_length (p := fun x => decide (b ≤ x)) (l := L.take j); rw [List.length_take] at h2; omega)
        have HE := Lib.hid (show GlowP.knS L (j + 1) = GlowP.push (GlowP.knS L j) b j by rw [GlowP.knS, hbv, if_pos hb0])
        obtain ⟨ln, hln⟩ : ∃ ln, (GlowP.knS L j b).length = ln := ⟨_, rfl⟩
        obtain ⟨Av, cv, rfl, _, _, _⟩ := hown.form hln
        have HLNN := Lib.hid hln
        clear hln
        have hb0I : (0 : Int) < b := by omega
        have hb16I : (b : Int) < 16 := by omega
        have hkl : w.heap.size + 3 ≤ wr.heap.size := hsm.kn.blk.lt
        clear hsm hb hbv hown hv
        go_wp2_with ((with_reducible refine at_slot 29 ?_); refine Classical.byContradiction (fun hG => ?_))
        refine hG ?_
        clear hG
        refine wp_pushN (v := .slice Av ln cv) rfl _ _ rfl rfl HOW.out rfl HLE.out hkl ?_
        rw [HLNN.out]
        intro g c w2 ho2 hg2 hb2
        have HO2 := Lib.hid ho2
        have HG2 := Lib.hid hg2
        have HB2 := Lib.hid hb2
        have hkb := (HSM.out.kn.blk.grown hg2 (fun e => row_ne HSM.out HSM.out.kn.blk (by decide) _ (List.mem_of_getElem? HV.out) e.symm)).frozen b
        have hkc := (HSM.out.kn.blk.grown hg2 (fun e => row_ne HSM.out HSM.out.kn.blk (by decide) _ (List.mem_of_getElem? HV.out) e.symm)).cell HV.out
        have hgz := hg2.size
        clear ho2 hg2 hb2 hcv hcf c0
        go_wp2_with fail
        go_roundw
        case rel =>
          refine ⟨j + 1, vs.set b (.slice (some ⟨g, 0, none⟩) (ln + 1) c), by go_num, by omega, ?_, ?_⟩
          · rw [HE.out]
            exact HSM.out.pushed HV.out HO2.out HG2.out HB2.out
          · have hB0 := HB.out
            refine ((hB0.trans ((Below.refl _ wr).grown HG2.out (by omega) (fun k hk => ?_))).setCell (by first | omega | (simp; omega)) _)
            have := (HOW.out.ge k hk).1
            omega
        case measure => simp [intOf]; omega
      · obtain rfl : b = 0 := by omega
        have HE := Lib.hid (show GlowP.knS L (j + 1) = GlowP.knS L j by rw [GlowP.knS, hbv]; rfl)
        clear hsm hb hbv
        go_wp2_with fail
        go_roundw
        case rel => exact ⟨j + 1, vs, by go_num, by omega, by rw [HE.out]; exact HSM.out, HB.out⟩
        case measure => simp [intOf]; omega
    · obtain rfl : n = j := by omega
      clear hsm hb
      go_wp2_with fail
      refine wp_loop_ghost_k (fun k a W => ∃ x9 : Value, ∃ x10 : Value, ∃ x12 : Value, ∃ x13 : Value, ∃ x32 : Value, ∃ x33 : Value, ∃ x34 : Value, ∃ x35 : Value, ∃ x36 : Value, ∃ x37 : Value, ∃ x38 : Value, ∃ x39 : Value, ∃ x40 : Value, ∃ x41 : Value, ∃ x42 : Value, ∃ x43 : Value, ∃ x44 : Value, ∃ x45 : Value, ∃ x46 : Value, ∃ x47 : Value, ∃ x48 : Value, ∃ x49 : Value, ∃ x50 : Value, ∃ x51 : Value, ∃ x52 : Value, ∃ x53 : Value, ∃ x54 : Value, ∃ x55 : Value, ∃ x56 : Value, ∃ x57 : Value, ∃ x58 : Value, ∃ x59 : Value, ∃ x60 : Value, ∃ x61 : Value, ∃ x62 : Value, ∃ x63 : Value, ∃ x64 : Value, ∃ x65 : Value, ∃ x66 : Value, ∃ x67 : Value, ∃ x68 : Value, ∃ x69 : Value, ∃ x70 : Value, ∃ x71 : Value, ∃ x72 : Value, ∃ x73 : Value, ∃ x74 : Value, ∃ Ds : List Nat, Bright w gl go n O side FS k x9 Ds W ∧ a = { tmps := #[.slice (some ⟨gl, 0, none⟩) n n, .slice (some ⟨go, 0, none⟩) n n, .func (.func 37) #[] #[.pointer (some ⟨ga, 0, none⟩)], .pointer (some ⟨w.heap.size, 0, none⟩), .pointer (some ⟨w.heap.size + 1, 0, none⟩), undef, .pointer (some ⟨w.heap.size + 1 + 1, 0, none⟩), u7, u8, x9, x10, undef, x12, x13, .slice (some ⟨gl, 0, none⟩) n n, .int .i64 n, .int .i64 n, .bool false, u18, u19, u20, u21, u22, u23, u24, u25, u26, u27, u28, u29, u30, u31, x32, x33, x34, x35, x36, x37, x38, x39, x40, x41, x42, x43, x44, x45, x46, x47, x48, x49, x50, x51, x52, x53, x54, x55, x56, x57, x58, x59, x60, x61, x62, x63, x64, x65, x66, x67, x68, x69, x70, x71, x72, x73, x74], defers := Ds.map mark }) 15 ?_ ?_
      · refine ⟨_, _, _, _, _, _, _, _, _, _, _, _, _, _, _, _, _, _, _, _, _, _, _, _, _, _, _, _, _, _, _, _, _, _, _, _, _, _, _, _, _, _, _, _, _, _, _, [], ?_, rfl⟩
        refine ⟨rfl, by omega, by omega, (L, GlowP.knS L n), vs, HSM.out, HFS.out, GlowP.Good.start HLN.out, Marks.nil _ _, ?_⟩
        exact ⟨HB.out.os, HB.out.tape, HB.out.output, HB.out.size, fun k hk _ => HB.out.block k hk⟩
      · clear HSM HB hz HST0
        intro k a W hI
        obtain ⟨x9, x10, x12, x13, x32, x33, x34, x35, x36, x37, x38, x39, x40, x41, x42, x43, x44, x45, x46, x47, x48, x49, x50, x51, x52, x53, x54, x55, x56, x57, x58, x59, x60, x61, x62, x63, x64, x65, x66, x67, x68, x69, x70, x71, x72, x73, x74, Ds, hbr, rfl⟩ := hI
        intro J K hJ hK
        obtain ⟨rfl, hk1, hk15, st, vs2, hsm, hdn, hgd, hmk, hgw⟩ := hbr
        have HSM := Lib.hid hsm
        have HDN := Lib.hid hdn
        have HGD := Lib.hid hgd
        have HMK := Lib.hid hmk
        have HGW := Lib.hid hgw
        have HJ := Lib.hid hJ
        have hz := hgw.size
        have hkl : w.heap.size + 3 ≤ W.heap.size := hsm.kn.blk.lt
        by_cases hk2 : 1 < k
        · obtain ⟨vA, hvA⟩ := hsm.kn.get (k := k) (by omega)
          have hown := hsm.kn.own k vA hvA
          have hcv := hsm.kn.blk.cell hvA
          obtain ⟨lc, hlc⟩ : ∃ lc, st.2 k = lc := ⟨_, rfl⟩
          rw [hlc] at hown
          obtain ⟨ln, hln⟩ : ∃ ln, lc.length = ln := ⟨_, rfl⟩
          obtain ⟨Av, cv, rfl, hcap, hcm, hAv⟩ := hown.form hln
          obtain ⟨le, hle⟩ : ∃ le : Nat, (k : Int) - 1 = le := ⟨k - 1, by omega⟩
          have hleN : k - 1 = le := by omega
          have HLE := Lib.hid hleN
          have hle1 : 1 ≤ le := by omega
          have hle15 : le < 15 := by omega
          have HVA := Lib.hid hvA
          have HLC := Lib.hid hlc
          have HLN := Lib.hid hln
          have HAV := Lib.hid hAv
          have hk2I : (1 : Int) < k := by omega
          have hk16I : (k : Int) < 16 := by omega
          have hlnn : ln ≤ 262144 := by have := hgd.le k; rw [hlc, hln] at this; omega
          have hs8 := sub8 hle (by omega)
          have hkl2 : w.heap.size + 1 + 1 < W.heap.size := by omega
          have hWgl : W.heap.size ≠ gl := by omega
          have hWk : W.heap.size ≠ w.heap.size + 2 := by omega
          have hkle : k ≠ le := by omega
          have hkn2 : w.heap.size + 1 + 1 ≠ W.heap.size := by omega
          clear hsm hdn hgd hmk hgw hJ hvA hown hlc hln hAv hleN
          go_wp2_with fail
          refine wp_loop_ghost_k (fun k3 a W3 => ∃ y12 : Value, ∃ y13 : Value, ∃ y42 : Value, ∃ y43 : Value, ∃ y44 : Value, ∃ y45 : Value, ∃ y46 : Value, ∃ y47 : Value, ∃ y48 : Value, ∃ y49 : Value, ∃ y50 : Value, ∃ y51 : Value, ∃ y52 : Value, ∃ y53 : Value, ∃ y54 : Value, ∃ y55 : Value, ∃ y56 : Value, ∃ y57 : Value, ∃ y58 : Value, ∃ y59 : Value, ∃ y60 : Value, ∃ y61 : Value, ∃ y62 : Value, ∃ y63 : Value, ∃ y64 : Value, ∃ y65 : Value, ∃ y66 : Value, ∃ y67 : Value, ∃ y68 : Value, ∃ y69 : Value, ∃ y70 : Value, ∃ y71 : Value, ∃ y72 : Value, ∃ y73 : Value, ∃ y74 : Value, ∃ Ds : List Nat, Cells w gl go n O side k le W.heap.size (.slice Av ln cv) lc st k3 y42 Ds W3 ∧ a = { tmps := #[.slice (some ⟨gl, 0, none⟩) n n, .slice (some ⟨go, 0, none⟩) n n, .func (.func 37) #[] #[.pointer (some ⟨ga, 0, none⟩)], .pointer (some ⟨w.heap.size, 0, none⟩), .pointer (some ⟨w.heap.size + 1, 0, none⟩), undef, .pointer (some ⟨w.heap.size + 1 + 1, 0, none⟩), u7, u8, .int .u8 k, .pointer (some ⟨W.heap.size, 0, none⟩), undef, y12, y13, .slice (some ⟨gl, 0, none⟩) n n, .int .i64 n, .int .i64 n, .bool false, u18, u19, u20, u21, u22, u23, u24, u25, u26, u27, u28, u29, u30, u31, .int .u8 k, .bool true, x34, x35, .int .u8 k, .int .u8 le, .int .u8 k, .pointer (some ⟨w.heap.size + 1 + 1, k, none⟩), .slice Av ln cv, .int .i64 ln, y42, y43, y44, y45, y46, y47, y48, y49, y50, y51, y52, y53, y54, y55, y56, y57, y58, y59, y60, y61, y62, y63, y64, y65, y66, y67, y68, y69, y70, y71, y72, y73, y74], defers := Ds.map mark }) ln ?_ ?_
          · refine ⟨_, _, _, _, _, _, _, _, _, _, _, _, _, _, _, _, _, _, _, _, _, _, _, _, _, _, _, _, _, _, _, _, _, _, _, Ds, ?_, rfl⟩
            have hb0 : Below W.heap.size W (W.alloc (.cells #[.int .u8 le] 5)) := (Below.refl _ W).alloc (Nat.le_refl _) _
            exact ⟨0, rfl, by omega, by rw [HLN.out]; rfl, st, vs2, HSM.out.below hb0, by simp, HGD.out, HVA.out, HLC.out, Blk.newA' rfl rfl, HMK.out.keeps (KeepsOthers.alloc _ _), grown_same HGW.out (World.grownBy_alloc _ _ none) (fun r e => by cases e)⟩
          · intro k3 a W3 hI
            obtain ⟨y12, y13, y42, y43, y44, y45, y46, y47, y48, y49, y50, y51, y52, y53, y54, y55, y56, y57, y58, y59, y60, y61, y62, y63, y64, y65, y66, y67, y68, y69, y70, y71, y72, y73, y74, Ds3, hcl, rfl⟩ := hI
            intro J3 K3 hJ3 hK3
            obtain ⟨idx, rfl, hidx, rfl, s3, vs3, hsm3, hst3, hgd3, hvA3, hlc3, hbl3, hmk3, hgw3⟩ := hcl
            have HSM3 := Lib.hid hsm3
            have HST3 := Lib.hid hst3
            have HGD3 := Lib.hid hgd3
            have HVA3 := Lib.hid hvA3
            have HLC3 := Lib.hid hlc3
            have HBL3 := Lib.hid hbl3
            have HMK3 := Lib.hid hmk3
            have HGW3 := Lib.hid hgw3
            have HJ3 := Lib.hid hJ3
            have hz3 := hgw3.size
            have hidn : idx ≤ ln := by have := HLN.out; omega
            have hE3 : w.heap.size + 3 ≤ W3.heap.size := hsm3.kn.blk.lt
            by_cases hlt3 : idx < ln
            · have hltI : (idx : Int) < ln := by omega
              obtain ⟨c, hc⟩ : ∃ c, lc[idx]? = some c := ⟨_, List.getElem?_eq_getElem (by have := HLN.out; omega)⟩
              obtain ⟨g, rfl, _, _⟩ := HAV.out (by omega)
              have hown3 := hsm3.kn.own k _ hvA3
              rw [hlc3] at hown3
              have hcc : W3.cell? ⟨g, idx, none⟩ = some (.int .i64 c) := by
                have h := hown3.cell (j := 0) hc rfl
                rw [show idx * encN.k + 0 = idx from (by show idx * 1 + 0 = idx; omega)] at h
                exact h
              have hcM : c < X * Y * Z := by
                have := hgd3.mem k c (by rw [hlc3]; exact List.mem_of_getElem? hc)
                have h2 := HN.out
                omega
              have HC := Lib.hid hc
              have HCM := Lib.hid hcM
              clear hsm3 hst3 hgd3 hvA3 hlc3 hbl3 hmk3 hgw3 hJ3 hown3 hc hcM
              go_wp2_with fail
              refine inside1_c.mono ?_
              rintro e w2 ⟨rfl, hw2⟩
              have HW2 := Lib.hid hw2
              clear hw2
              go_wp2_with fail
              have hw2 := HW2.out
              have HSM2 := Lib.hid (show SM gl go w.heap.size n O w2 s3.1 vs3 s3.2 by rw [hw2]; exact HSM3.out.below ((Below.refl _ W3).alloc (Nat.le_refl _) _))
              have HE2 := Lib.hid (show Blk w2 W3.heap.size 3 [i64v c] by rw [hw2]; exact Blk.newA' rfl rfl)
              have HBL2 := Lib.hid (show Blk w2 W.heap.size 5 [u8v le] by rw [hw2]; exact HBL3.out.alloc _)
              have HMK2 := Lib.hid (show Marks w.heap.size Ds3 w2 by rw [hw2]; exact HMK3.out.keeps (KeepsOthers.alloc _ _))
              have HGW2 := Lib.hid (show w.grownBy w2 (some gl) by rw [hw2]; exact grown_same HGW3.out (World.grownBy_alloc _ _ none) (fun r e => by cases e))
              have HA2 := Lib.hid (HA.out.grown HGW2.out (fun e => by injection e with e; exact Blk.ne HA.out HL.out (by decide) e))
              have hzw : W3.heap.size < w2.heap.size := by rw [hw2]; simp
              have HNE := Lib.hid (show ∀ v ∈ vs3, v.ownBlock ≠ some W3.heap.size from fun v hv e => by
                obtain ⟨j, hj⟩ := List.getElem?_of_mem hv
                have := ((HSM3.out.kn.own j v hj).ge _ e).2
                omega)
              have hblE : W.heap.size ≠ W3.heap.size := by have := HBL3.out.lt; omega
              clear hw2 hcc hcv HW2
              refine wpIn_wide (n := 6) |>.1 ?_
              refine wpIn_rangeFunc_ownF rfl (by omega) (gf := 38) (lb := #[.pointer (some ⟨ga, 0, none⟩), .pointer (some ⟨W3.heap.size, 0, none⟩)]) rfl trivial (enters_of Tryd.func38 (by kernel_rfl) rfl)
                (each_stops 5 (by omega) W3.heap.size ga hX hY hZ HCM.out HE2.out HA2.out) (fun h k => h.trans k) (fun W l o o' _ h ho _ => KpE.put W l o o' h ho) (Below.refl _ _) (fun _ => rfl)
                (fun ps W' => Sides w w2 gl go n O k le W.heap.size W3.heap.size (.slice (some ⟨g, 0, none⟩) ln cv) Ds3 s3 ps W') (fun _ _ _ => False) (sides_own (by omega) (fun D hD => (HMK2.out.at_ D hD).2.1)) (fun _ _ _ _ _ hs _ _ => hs)
                ⟨s3, vs3, HSM2.out, rfl, HGD3.out, HVA3.out, HNE.out, HBL2.out, HMK2.out, HGW2.out, Nat.le_refl _⟩
                (fun x => { tmps := #[.slice (some ⟨gl, 0, none⟩) n n, .slice (some ⟨go, 0, none⟩) n n, .func (.func 37) #[] #[.pointer (some ⟨ga, 0, none⟩)], .pointer (some ⟨w.heap.size, 0, none⟩), .pointer (some ⟨w.heap.size + 1, 0, none⟩), undef, .pointer (some ⟨w.heap.size + 1 + 1, 0, none⟩), u7, u8, .int .u8 k, .pointer (some ⟨W.heap.size, 0, none⟩), undef, .int .i64 c, .int .i64 x.1, .slice (some ⟨gl, 0, none⟩) n n, .int .i64 n, .int .i64 n, .bool false, u18, u19, u20, u21, u22, u23, u24, u25, u26, u27, u28, u29, u30, u31, .int .u8 k, .bool true, x34, x35, .int .u8 k, .int .u8 le, .int .u8 k, .pointer (some ⟨w.heap.size + 1 + 1, k, none⟩), .slice (some ⟨g, 0, none⟩) ln cv, .int .i64 ln, .int .i64 idx, .bool true, .pointer (some ⟨g, idx, none⟩), .int .i64 c, .func (.func 37) #[] #[.pointer (some ⟨ga, 0, none⟩)], .int .i64 c, .func (.func 38) #[] #[.pointer (some ⟨ga, 0, none⟩), .pointer (some ⟨W3.heap.size, 0, none⟩)], .int .i64 x.1, y50, y51, y52, y53, y54, y55, y56, y57, y58, y59, y60, y61, y62, y63, y64, y65, y66, y67, y68, y69, y70, y71, y72, y73, y74], defers := [] }) ?assign ?body ?done ?stop
              case assign =>
                rintro l p W' K hK
                dsimp only
                gi_wp2
                first | exact hK | simpa using hK
              case body =>
                rintro l' pre ⟨x, hx⟩ W' ⟨s4, vs4, hsm4, hst4, hgd4, hvA4, hne4, hbl4, hmk4, hgw4, hz4⟩ hlt
                dsimp only
                have hxn : x < n := by have := HN.out; omega
                have HSM4 := Lib.hid hsm4
                have HST4 := Lib.hid hst4
                have HGD4 := Lib.hid hgd4
                have HVA4 := Lib.hid hvA4
                have HNE4 := Lib.hid hne4
                have HBL4 := Lib.hid hbl4
                have HMK4 := Lib.hid hmk4
                have HGW4 := Lib.hid hgw4
                obtain ⟨ob, hob⟩ : ∃ ob, O[x]? = some ob := ⟨_, List.getElem?_eq_getElem (by have := HON.out; omega)⟩
                obtain ⟨q, hq⟩ : ∃ q, s4.1.getD x 0 = q := ⟨_, rfl⟩
                have hOx : O.getD x false = ob := by simp [hob]
                have c3 := hsm4.boxL.cell (i := 0) rfl
                have c4 := hsm4.boxO.cell (i := 0) rfl
                have co := hsm4.opn.cell (boolV_get hob)
                have cl := hsm4.light.cell (lit_get (L := s4.1) (i := x) (by rw [hgd4.len]; exact hxn))
                rw [hq] at cl
                have cb : W'.cell? ⟨W.heap.size, 0, none⟩ = some (.int .u8 le) := hbl4.cell (i := 0) rfl
                have hxI : (x : Int) < n := by omega
                have hle16I : (le : Int) < 16 := by omega
                clear hsm4 hst4 hgd4 hvA4 hne4 hbl4 hmk4 hgw4 hob
                cases ob
                · have HE := Lib.hid (show GlowP.stepS O le s4 x = s4 by unfold GlowP.stepS; rw [if_neg (fun h => by rw [hOx] at h; cases h.1)])
                  clear hq hOx
                  gi_wp2
                  refine QuietR.region (by kernel_rfl) (by kernel_rfl) (by kernel_rfl) ?_
                  repeat (gi_big_quiet_step (fail))
                  refine wpQuietIn_nil ?_
                  intro _ hw'
                  obtain ⟨nq, hw''⟩ := hw'
                  subst hw''
                  gi_wp2
                  exact ⟨drewN_keeps _ _, KpE.grown (drewN_grown _ _ none) (by simp) (fun _ _ e => by cases e), s4, vs4, HSM4.out.turned (drewN_grown _ _ none) (fun r e => by cases e), by rw [List.map_append, List.foldl_append, ← HST4.out]; exact HE.out.symm, HGD4.out, HVA4.out, HNE4.out, HBL4.out, HMK4.out.keeps (drewN_keeps _ _), grown_same HGW4.out (drewN_grown _ _ none) (fun r e => by cases e), hz4⟩
                · by_cases hql : q < le
                  · have hqo : O.getD x false = true ∧ s4.1.getD x 0 < le := ⟨hOx, by rw [hq]; exact hql⟩
                    have hdI : (q : Int) < le := by omega
                    obtain ⟨v5, hv5⟩ := HSM4.out.kn.get (k := le) (by omega)
                    have hown5 := HSM4.out.kn.own le v5 hv5
                    obtain ⟨ln2, hln2⟩ : ∃ ln2, (s4.2 le).length = ln2 := ⟨_, rfl⟩
                    obtain ⟨Av2, cv2, rfl, _, _, _⟩ := hown5.form hln2
                    have HV5 := Lib.hid hv5
                    have HLN5 := Lib.hid hln2
                    have HLE5 := Lib.hid (show (s4.2 le).length ≤ 1000000 by have := HGD4.out.le le; omega)
                    clear hq hOx hv5 hown5 hln2
                    have HQO := Lib.hid hqo
                    clear hqo
                    gi_wp2
                    refine QuietR.region (by kernel_rfl) (by kernel_rfl) (by kernel_rfl) ?_
                    repeat (gi_big_quiet_step (fail))
                    refine wpQuietIn_nil ?_
                    intro _ hw'
                    obtain ⟨nq, hw''⟩ := hw'
                    obtain ⟨Wd, hWd⟩ : ∃ Wd, Wd = W'.drewN nq := ⟨_, rfl⟩
                    rw [hw'', ← hWd]
                    clear hw''
                    have HWD := Lib.hid hWd
                    have d3 : Wd.cell? ⟨w.heap.size, 0, none⟩ = some (.slice (some ⟨gl, 0, none⟩) n n) := by rw [hWd]; exact c3
                    have d5 : Wd.cell? ⟨W.heap.size, 0, none⟩ = some (.int .u8 le) := by rw [hWd]; exact cb
                    have dl : Wd.cell? ⟨gl, x, none⟩ = some (.int .u8 q) := by rw [hWd]; exact cl
                    have df : Wd.frozen? ⟨gl, x, none⟩ = false := by rw [hWd]; exact HSM4.out.light.frozen x
                    clear hWd c3 c4 co cl cb
                    gi_wp2
                    obtain ⟨W5, hW5⟩ : ∃ W5, W5 = Wd.setCell ⟨gl, x, none⟩ (.int .u8 le) := ⟨_, rfl⟩
                    rw [← hW5]
                    have HW5 := Lib.hid (show W5 = (W'.drewN nq).setCell ⟨gl, x, none⟩ (u8v le) by rw [hW5, HWD.out]; rfl)
                    have HSM5 := Lib.hid (show SM gl go w.heap.size n O W5 (s4.1.set x le) vs4 s4.2 by rw [HW5.out]; exact (HSM4.out.turned (drewN_grown _ _ none) (fun r e => by cases e)).lit x le)
                    have HBL5 := Lib.hid (show Blk W5 W.heap.size 5 [u8v le] by rw [HW5.out]; exact HBL4.out.other hWgl _)
                    have hc5 : W5.cell? ⟨W.heap.size, 0, none⟩ = some (.int .u8 le) := HBL5.out.cell (i := 0) rfl
                    have hk5 : W5.cell? ⟨w.heap.size + 1 + 1, le, none⟩ = some (.slice Av2 ln2 cv2) := HSM5.out.kn.blk.cell HV5.out
                    have hbl5 := HBL5.out.lt
                    have hkl5 : w.heap.size + 3 ≤ W5.drew.heap.size := HSM5.out.kn.blk.lt
                    have HOW5 := Lib.hid (show RowG.Own encN 3 W5.drew (w.heap.size + 3) (.slice Av2 ln2 cv2) (s4.2 le) from HSM5.out.kn.own le _ HV5.out)
                    have hkl6 : w.heap.size + 1 + 1 < W5.heap.size := HSM5.out.kn.blk.lt
                    have hqo := HQO.out
                    have W0 : ∀ {r : Option Nat} {w6 : World}, W5.grownBy w6 r ↔ W5.drew.grownBy w6 r := fun {r w6} => ⟨fun h => ⟨h.os, h.tape, h.output, h.size, h.block⟩, fun h => ⟨h.os, h.tape, h.output, h.size, h.block⟩⟩
                    clear hW5 d3 d5 dl df hqo
                    refine RoundR.region (S := fun Xw => Xw.cell? ⟨W.heap.size, 0, none⟩ = some (.int .u8 le)) (by kernel_rfl) (by kernel_rfl) hc5 (fun hHeld => ?_)
                    refine wpAnyH_take (i := 0) (oi := ⟨some 66, _, _, _, _, _⟩) (v := .int .u8 le) rfl (by kernel_rfl) (by kernel_rfl) (by kernel_rfl) (fun _ _ _ h => h) (Or.inl ⟨by rfl, fun Xw hSW => by go_simp⟩) hHeld ?_
                    simp only [Act.put, List.setIfInBounds_toArray, List.set_cons_zero, List.set_cons_succ]
                    refine wpAnyH_take (i := 1) (oi := ⟨some 67, _, _, _, _, _⟩) (v := .int .u8 le) rfl (by kernel_rfl) (by kernel_rfl) (by kernel_rfl) (fun _ _ _ h => h) (Or.inl ⟨by rfl, fun Xw hSW => by go_simp⟩) hHeld ?_
                    simp only [Act.put, List.setIfInBounds_toArray, List.set_cons_zero, List.set_cons_succ]
                    refine wpAnyH_take (i := 2) (oi := ⟨some 68, _, _, _, _, _⟩) (v := .pointer (some ⟨w.heap.size + 1 + 1, le, none⟩)) rfl (by kernel_rfl) (by kernel_rfl) (by kernel_rfl) (fun _ _ _ h => h) (Or.inl ⟨by rfl, fun Xw hSW => by go_simp⟩) hHeld ?_
                    simp only [Act.put, List.setIfInBounds_toArray, List.set_cons_zero, List.set_cons_succ]
                    refine wpAnyH_take (i := 4) (oi := ⟨some 70, _, _, _, _, _⟩) (v := .int .i64 x) rfl (by kernel_rfl) (by kernel_rfl) (by kernel_rfl) (fun _ _ _ h => h) (Or.inl ⟨by rfl, fun Xw hSW => by go_simp⟩) hHeld ?_
                    simp only [Act.put, List.setIfInBounds_toArray, List.set_cons_zero, List.set_cons_succ]
                    refine wpAnyH_ready (rs := [3, 5]) (by kernel_rfl) (by simp) ?_
                    refine AllReadyH.cons (o := ⟨some 69, _, _, _, _, _⟩) rfl (fun K hK => ?_) (AllReadyH.cons (o := ⟨some 71, _, _, _, _, _⟩) rfl (fun K hK => ?_) AllReadyH.nil)
                    · go_simp
                      refine hK.out _ _ (hHeld) (fun hHeld => ?_)
                      clear hK K
                      refine wpAnyH_ready (rs := [5]) (by kernel_rfl) (by simp) ?_
                      refine AllReadyH.cons (o := ⟨some 71, _, _, _, _, _⟩) rfl (fun K hK => ?_) AllReadyH.nil
                      go_simp
                      refine hK.out _ _ (by (repeat' (first | (with_reducible assumption) | (with_reducible refine HeldP.c_drew ?_) | (with_reducible refine HeldP.c_drewN ?_) | (with_reducible refine HeldP.c_same (by omega) ?_) | (with_reducible refine HeldP.c_other ?_ ?_) | (with_reducible refine HeldP.c_new (by first | omega | (simp; done) | (simp; omega)) ?_) | (with_reducible refine HeldP.c_alloc ?_ ?_) | (with_reducible refine HeldP.e_drew ?_) | (with_reducible refine HeldP.e_drewN ?_) | (with_reducible refine HeldP.e_set ?_) | (with_reducible refine HeldP.e_new (by first | omega | (simp; done) | (simp; omega)) ⟨_, rfl⟩) | (with_reducible refine HeldP.e_alloc ?_ ?_) | (with_reducible refine HeldP.f_drew ?_) | (with_reducible refine HeldP.f_drewN ?_) | (with_reducible refine HeldP.f_set ?_) | (with_reducible refine HeldP.f_new (by first | omega | (simp; done) | (simp; omega))) | (with_reducible refine HeldP.f_alloc ?_ ?_) | (with_reducible refine HeldP.s_drew ?_) | (with_reducible refine HeldP.s_drewN ?_) | (with_reducible refine HeldP.s_set ?_) | (with_reducible refine HeldP.s_new (by first | omega | (simp; done) | (simp; omega))) | (with_reducible refine HeldP.s_alloc ?_) | (with_reducible exact ⟨_, by assumption⟩) | omega | (intro e; simp at e; done) | (intro e; simp at e; omega) | (exact rfl) | (simp; done) | (simp; omega)))) (fun hHeld => ?_)
                      clear hK K
                      refine wpAnyH_ready (rs := [6]) (by kernel_rfl) (by simp) ?_
                      refine AllReadyH.cons (o := ⟨some 72, _, _, _, _, _⟩) rfl (fun K hK => ?_) AllReadyH.nil
                      refine step_pushN (w0 := W5.drew) (y := x) (v := .slice Av2 ln2 cv2) (l := s4.2 le) rfl (.tmp 69) (.tmp 71) rfl rfl rfl HOW5.out rfl HLE5.out hkl5 ?_
                      rw [HLN5.out]
                      intro g2 c2 w6 ho6 hg6 hb6
                      have HO6 := Lib.hid ho6
                      have HG6 := Lib.hid hg6
                      have HB6 := Lib.hid hb6
                      have hkb6 : Blk w6 (w.heap.size + 1 + 1) TKn vs4 := HSM5.out.kn.blk.grown (W0.mpr hg6) (fun e => row_ne HSM5.out HSM5.out.kn.blk (by decide) _ (List.mem_of_getElem? HV5.out) e.symm)
                      have hc6 := hkb6.cell HV5.out
                      have hf6 := hkb6.frozen le
                      have hbl6 : Blk w6 W.heap.size 5 [u8v le] := HBL5.out.grown (W0.mpr hg6) (fun e => row_ne HSM5.out HBL5.out (by decide) _ (List.mem_of_getElem? HV5.out) e.symm)
                      have hb6c : w6.cell? ⟨W.heap.size, 0, none⟩ = some (.int .u8 le) := hbl6.cell (i := 0) rfl
                      have HBL6 := Lib.hid hbl6
                      clear ho6 hg6 hb6 hkb6 hbl6
                      refine hK.out _ _ (hb6c) (fun hHeld => ?_)
                      clear hK K
                      refine wpAnyH_ready (rs := [7]) (by kernel_rfl) (by simp) ?_
                      refine AllReadyH.cons (o := ⟨some 73, _, _, _, _, _⟩) rfl (fun K hK => ?_) AllReadyH.nil
                      go_simp
                      refine hK.out _ _ (hb6c) (fun hHeld => ?_)
                      clear hK K
                      refine wpAnyH_ready (rs := [8]) (by kernel_rfl) (by simp) ?_
                      refine AllReadyH.cons (o := ⟨none, _, _, _, _, _⟩) rfl (fun K hK => ?_) AllReadyH.nil
                      go_simp
                      refine hK.out _ _ (by (repeat' (first | (with_reducible assumption) | (with_reducible refine HeldP.c_drew ?_) | (with_reducible refine HeldP.c_drewN ?_) | (with_reducible refine HeldP.c_same (by omega) ?_) | (with_reducible refine HeldP.c_other ?_ ?_) | (with_reducible refine HeldP.c_new (by first | omega | (simp; done) | (simp; omega)) ?_) | (with_reducible refine HeldP.c_alloc ?_ ?_) | (with_reducible refine HeldP.e_drew ?_) | (with_reducible refine HeldP.e_drewN ?_) | (with_reducible refine HeldP.e_set ?_) | (with_reducible refine HeldP.e_new (by first | omega | (simp; done) | (simp; omega)) ⟨_, rfl⟩) | (with_reducible refine HeldP.e_alloc ?_ ?_) | (with_reducible refine HeldP.f_drew ?_) | (with_reducible refine HeldP.f_drewN ?_) | (with_reducible refine HeldP.f_set ?_) | (with_reducible refine HeldP.f_new (by first | omega | (simp; done) | (simp; omega))) | (with_reducible refine HeldP.f_alloc ?_ ?_) | (with_reducible refine HeldP.s_drew ?_) | (with_reducible refine HeldP.s_drewN ?_) | (with_reducible refine HeldP.s_set ?_) | (with_reducible refine HeldP.s_new (by first | omega | (simp; done) | (simp; omega))) | (with_reducible refine HeldP.s_alloc ?_) | (with_reducible exact ⟨_, by assumption⟩) | omega | (intro e; simp at e; done) | (intro e; simp at e; omega) | (exact rfl) | (simp; done) | (simp; omega)))) (fun hHeld => ?_)
                      clear hK K
                      refine wpAnyH_done (by kernel_rfl) ?_ _
                      refine RoundR.Calm.normal ?_
                      gi_wp2
                      exact push_end HSM4.out HSM5.out HST4.out HGD4.out hxn HQO.out HVA4.out HNE4.out HMK4.out HGW4.out hz4 HW5.out HV5.out HO6.out (W0.mpr HG6.out) HB6.out HBL6.out hWk (by omega) hgl ⟨hkle, hE3⟩
                    · go_simp
                      refine hK.out _ _ (by (repeat' (first | (with_reducible assumption) | (with_reducible refine HeldP.c_drew ?_) | (with_reducible refine HeldP.c_drewN ?_) | (with_reducible refine HeldP.c_same (by omega) ?_) | (with_reducible refine HeldP.c_other ?_ ?_) | (with_reducible refine HeldP.c_new (by first | omega | (simp; done) | (simp; omega)) ?_) | (with_reducible refine HeldP.c_alloc ?_ ?_) | (with_reducible refine HeldP.e_drew ?_) | (with_reducible refine HeldP.e_drewN ?_) | (with_reducible refine HeldP.e_set ?_) | (with_reducible refine HeldP.e_new (by first | omega | (simp; done) | (simp; omega)) ⟨_, rfl⟩) | (with_reducible refine HeldP.e_alloc ?_ ?_) | (with_reducible refine HeldP.f_drew ?_) | (with_reducible refine HeldP.f_drewN ?_) | (with_reducible refine HeldP.f_set ?_) | (with_reducible refine HeldP.f_new (by first | omega | (simp; done) | (simp; omega))) | (with_reducible refine HeldP.f_alloc ?_ ?_) | (with_reducible refine HeldP.s_drew ?_) | (with_reducible refine HeldP.s_drewN ?_) | (with_reducible refine HeldP.s_set ?_) | (with_reducible refine HeldP.s_new (by first | omega | (simp; done) | (simp; omega))) | (with_reducible refine HeldP.s_alloc ?_) | (with_reducible exact ⟨_, by assumption⟩) | omega | (intro e; simp at e; done) | (intro e; simp at e; omega) | (exact rfl) | (simp; done) | (simp; omega)))) (fun hHeld => ?_)
                      clear hK K
                      have hk5a : (W5.alloc (.cells #[.int .i64 x] 3)).cell? ⟨w.heap.size + 1 + 1, le, none⟩ = some (.slice Av2 ln2 cv2) := by (repeat' (first | (with_reducible assumption) | (with_reducible refine HeldP.c_drew ?_) | (with_reducible refine HeldP.c_drewN ?_) | (with_reducible refine HeldP.c_same (by omega) ?_) | (with_reducible refine HeldP.c_other ?_ ?_) | (with_reducible refine HeldP.c_new (by first | omega | (simp; done) | (simp; omega)) ?_) | (with_reducible refine HeldP.c_alloc ?_ ?_) | (with_reducible refine HeldP.e_drew ?_) | (with_reducible refine HeldP.e_drewN ?_) | (with_reducible refine HeldP.e_set ?_) | (with_reducible refine HeldP.e_new (by first | omega | (simp; done) | (simp; omega)) ⟨_, rfl⟩) | (with_reducible refine HeldP.e_alloc ?_ ?_) | (with_reducible refine HeldP.f_drew ?_) | (with_reducible refine HeldP.f_drewN ?_) | (with_reducible refine HeldP.f_set ?_) | (with_reducible refine HeldP.f_new (by first | omega | (simp; done) | (simp; omega))) | (with_reducible refine HeldP.f_alloc ?_ ?_) | (with_reducible refine HeldP.s_drew ?_) | (with_reducible refine HeldP.s_drewN ?_) | (with_reducible refine HeldP.s_set ?_) | (with_reducible refine HeldP.s_new (by first | omega | (simp; done) | (simp; omega))) | (with_reducible refine HeldP.s_alloc ?_) | (with_reducible exact ⟨_, by assumption⟩) | omega | (intro e; simp at e; done) | (intro e; simp at e; omega) | (exact rfl) | (simp; done) | (simp; omega)))
                      have hk5b : (W5.drew.alloc (.cells #[.int .i64 x] 3)).cell? ⟨w.heap.size + 1 + 1, le, none⟩ = some (.slice Av2 ln2 cv2) := hk5a
                      refine wpAnyH_ready (rs := [3]) (by kernel_rfl) (by simp) ?_
                      refine AllReadyH.cons (o := ⟨some 69, _, _, _, _, _⟩) rfl (fun K hK => ?_) AllReadyH.nil
                      go_simp
                      refine hK.out _ _ (hHeld) (fun hHeld => ?_)
                      clear hK K
                      refine wpAnyH_ready (rs := [6]) (by kernel_rfl) (by simp) ?_
                      refine AllReadyH.cons (o := ⟨some 72, _, _, _, _, _⟩) rfl (fun K hK => ?_) AllReadyH.nil
                      refine step_pushN (w0 := W5.drew) (y := x) (v := .slice Av2 ln2 cv2) (l := s4.2 le) rfl (.tmp 69) (.tmp 71) rfl rfl rfl HOW5.out rfl HLE5.out hkl5 ?_
                      rw [HLN5.out]
                      intro g2 c2 w6 ho6 hg6 hb6
                      have HO6 := Lib.hid ho6
                      have HG6 := Lib.hid hg6
                      have HB6 := Lib.hid hb6
                      have hkb6 : Blk w6 (w.heap.size + 1 + 1) TKn vs4 := HSM5.out.kn.blk.grown (W0.mpr hg6) (fun e => row_ne HSM5.out HSM5.out.kn.blk (by decide) _ (List.mem_of_getElem? HV5.out) e.symm)
                      have hc6 := hkb6.cell HV5.out
                      have hf6 := hkb6.frozen le
                      have hbl6 : Blk w6 W.heap.size 5 [u8v le] := HBL5.out.grown (W0.mpr hg6) (fun e => row_ne HSM5.out HBL5.out (by decide) _ (List.mem_of_getElem? HV5.out) e.symm)
                      have hb6c : w6.cell? ⟨W.heap.size, 0, none⟩ = some (.int .u8 le) := hbl6.cell (i := 0) rfl
                      have HBL6 := Lib.hid hbl6
                      clear ho6 hg6 hb6 hkb6 hbl6
                      refine hK.out _ _ (hb6c) (fun hHeld => ?_)
                      clear hK K
                      refine wpAnyH_ready (rs := [7]) (by kernel_rfl) (by simp) ?_
                      refine AllReadyH.cons (o := ⟨some 73, _, _, _, _, _⟩) rfl (fun K hK => ?_) AllReadyH.nil
                      go_simp
                      refine hK.out _ _ (hb6c) (fun hHeld => ?_)
                      clear hK K
                      refine wpAnyH_ready (rs := [8]) (by kernel_rfl) (by simp) ?_
                      refine AllReadyH.cons (o := ⟨none, _, _, _, _, _⟩) rfl (fun K hK => ?_) AllReadyH.nil
                      go_simp
                      refine hK.out _ _ (by (repeat' (first | (with_reducible assumption) | (with_reducible refine HeldP.c_drew ?_) | (with_reducible refine HeldP.c_drewN ?_) | (with_reducible refine HeldP.c_same (by omega) ?_) | (with_reducible refine HeldP.c_other ?_ ?_) | (with_reducible refine HeldP.c_new (by first | omega | (simp; done) | (simp; omega)) ?_) | (with_reducible refine HeldP.c_alloc ?_ ?_) | (with_reducible refine HeldP.e_drew ?_) | (with_reducible refine HeldP.e_drewN ?_) | (with_reducible refine HeldP.e_set ?_) | (with_reducible refine HeldP.e_new (by first | omega | (simp; done) | (simp; omega)) ⟨_, rfl⟩) | (with_reducible refine HeldP.e_alloc ?_ ?_) | (with_reducible refine HeldP.f_drew ?_) | (with_reducible refine HeldP.f_drewN ?_) | (with_reducible refine HeldP.f_set ?_) | (with_reducible refine HeldP.f_new (by first | omega | (simp; done) | (simp; omega))) | (with_reducible refine HeldP.f_alloc ?_ ?_) | (with_reducible refine HeldP.s_drew ?_) | (with_reducible refine HeldP.s_drewN ?_) | (with_reducible refine HeldP.s_set ?_) | (with_reducible refine HeldP.s_new (by first | omega | (simp; done) | (simp; omega))) | (with_reducible refine HeldP.s_alloc ?_) | (with_reducible exact ⟨_, by assumption⟩) | omega | (intro e; simp at e; done) | (intro e; simp at e; omega) | (exact rfl) | (simp; done) | (simp; omega)))) (fun hHeld => ?_)
                      clear hK K
                      refine wpAnyH_done (by kernel_rfl) ?_ _
                      refine RoundR.Calm.normal ?_
                      gi_wp2
                      exact push_end HSM4.out HSM5.out HST4.out HGD4.out hxn HQO.out HVA4.out HNE4.out HMK4.out HGW4.out hz4 HW5.out HV5.out HO6.out (W0.mpr HG6.out) HB6.out HBL6.out hWk (by omega) hgl ⟨hkle, hE3⟩
                  · have HE := Lib.hid (show GlowP.stepS O le s4 x = s4 by unfold GlowP.stepS; rw [if_neg (fun h => by rw [hq] at h; exact hql h.2)])
                    have hdI : ¬ (q : Int) < le := by omega
                    have hdD : decide ((q : Int) < (le : Int)) = false := decide_eq_false hdI
                    clear hq hOx
                    gi_wp2
                    refine QuietR.region (by kernel_rfl) (by kernel_rfl) (by kernel_rfl) ?_
                    repeat (gi_big_quiet_step (fail))
                    refine wpQuietIn_nil ?_
                    intro _ hw'
                    obtain ⟨nq, hw''⟩ := hw'
                    subst hw''
                    gi_wp2
                    exact ⟨drewN_keeps _ _, KpE.grown (drewN_grown _ _ none) (by simp) (fun _ _ e => by cases e), s4, vs4, HSM4.out.turned (drewN_grown _ _ none) (fun r e => by cases e), by rw [List.map_append, List.foldl_append, ← HST4.out]; exact HE.out.symm, HGD4.out, HVA4.out, HNE4.out, HBL4.out, HMK4.out.keeps (drewN_keeps _ _), grown_same HGW4.out (drewN_grown _ _ none) (fun r e => by cases e), hz4⟩
              case done =>
                rintro D ys W' hD hS ⟨s4, vs4, hsm4, hst4, hgd4, hvA4, hne4, hbl4, hmk4, hgw4, hz4⟩ hKD
                have HS := Lib.hid hS
                have HSM4 := Lib.hid hsm4
                have HST4 := Lib.hid hst4
                have HGD4 := Lib.hid hgd4
                have HVA4 := Lib.hid hvA4
                have HBL4 := Lib.hid hbl4
                have HMK4 := Lib.hid hmk4
                have HGW4 := Lib.hid hgw4
                have HKD := Lib.hid hKD
                clear hS hsm4 hst4 hgd4 hvA4 hne4 hbl4 hmk4 hgw4 hKD
                go_wp2_with fail
                refine Handed.intro (lc.length - (idx + 1)) (by have := HLN.out; omega) (HJ3.out _ _ _ ?_)
                refine ⟨_, _, _, _, _, _, _, _, _, _, _, _, _, _, _, _, _, _, _, _, _, _, _, _, _, _, _, _, _, _, _, _, _, _, _, D :: Ds3, ?_, rfl⟩
                refine ⟨idx + 1, by go_num, by have := HLN.out; omega, rfl, s4, vs4, HSM4.out, ?_, HGD4.out, HVA4.out, ?_, HBL4.out, HMK4.out.cons (fun E hE => by have := (HMK2.out.at_ E hE).2.1; omega) (by omega) HKD.out, HGW4.out⟩
                · rw [HST4.out, HS.out, List.take_add_one, HC.out, List.foldl_append, ← HST3.out]
                  show _ = GlowP.cellS O side le s3 c
                  rw [GlowP.cellS, ← HSD.out, GlowP.sideX, if_pos HCM.out]
                · rw [HST4.out, GlowP.fold_other (by omega)]
                  exact HLC3.out
              case stop =>
                rintro D c pre W _ _ h _
                exact h.elim
            · obtain rfl : ln = idx := by omega
              have HX3 := Lib.hid (show lc.take ln = lc by rw [← HLN.out]; exact List.take_length)
              clear hsm3 hst3 hgd3 hvA3 hlc3 hbl3 hmk3 hgw3 hJ3
              go_wp2_with fail
              refine Handed.intro le (by have := HLE.out; omega) (HJ.out _ _ _ ?_)
              refine ⟨_, _, _, _, _, _, _, _, _, _, _, _, _, _, _, _, _, _, _, _, _, _, _, _, _, _, _, _, _, _, _, _, _, _, _, _, _, _, _, _, _, _, _, _, _, _, _, Ds3, ?_, rfl⟩
              refine ⟨rfl, hle1, by omega, s3, vs3, HSM3.out, ?_, HGD3.out, HMK3.out, HGW3.out⟩
              have e := HDN.out
              rw [GlowP.downS_more O side hk2, HLE.out, GlowP.turnS, HLC.out, HLE.out] at e
              rw [HST3.out, HX3.out]
              exact e
        · obtain rfl : k = 1 := by omega
          have hk2I : ¬ (1 : Int) < ((1 : Nat) : Int) := by omega
          clear hsm hdn hgd hmk hgw hJ
          go_wp2_with fail
          refine leaves_marks (B := w.heap.size) Ds W HMK.out (fun W' h1 h2 h3 h4 h5 h6 => ⟨_, results_none rfl _ _ _, rfl, ?_, ?_⟩)
          · have e : st = FS := HDN.out
            rw [← e]
            exact h2 gl _ HSM.out.light rfl
          · exact ⟨h3.trans HGW.out.os, h4.trans HGW.out.tape, h5.trans HGW.out.output, by rw [h6]; exact HGW.out.size, fun k hk hne => (h1 k hk).trans (HGW.out.block k hk hne)⟩
end GlowW
end Go.Proofs.YtbkadecfmjjadaaDoor
