/-
  Cut: a disk of its own, the writes behind the cut taken back, the last one first.
-/
import Derived.Test.YtknckaegpdganaaDoorSectorBack
-- mine: whole_c same_c awake_c take_c step_c back_c
namespace Go.Proofs.YtknckaegpdganaaDoor
open Go.RowKit Go.Shelf
set_option linter.unusedVariables false
set_option linter.unusedSimpArgs false
set_option maxRecDepth 100000
attribute [local go_sem] Oper.semAt_some
namespace SecW
open BlkP RowG FrS PushG JournalP SecP
/-- Between two rounds: the writes pre are taken back. -/
def Undone (W2 : World) (M n : Nat) (f : Nat → Sec) (pre : List (Ele n)) (W : World) : Prop := Fr (fun k => k = M) W2 W ∧ MapD W M n (undoL f (pre.map (fun x => x.2.1)))
theorem undone_own {W2 : World} {M n : Nat} {f : Nat → Sec} (hM : M < W2.heap.size) : OwnFrom W2.heap.size (Undone W2 M n f) := fun s X Y row hs hg hr => by
  obtain ⟨h1, h2⟩ := hs
  refine ⟨h1.trans (Fr.grown (S := fun k => row = some k) hg (fun i hi => hi)) (fun i hi => .inr (hr i hi).1), h2.grown hg (fun e => ?_)⟩
  have := (hr M e.symm).1
  omega
theorem rd_ne_map {w : World} {M n b o m c : Nat} {f : Nat → Sec} {l : List (Nat × Sec × Sec)} (h : MapD w M n f) (hR : Rd encW w (.slice (some ⟨b, o, none⟩) m c) l) (hl : l ≠ []) : b ≠ M := fun e => by
  obtain ⟨x, hx⟩ : ∃ x, l[0]? = some x := by
    cases l with
    | nil => exact absurd rfl hl
    | cons x r => exact ⟨x, rfl⟩
  obtain ⟨b', o', e1, _, hcs⟩ := hR.at hx
  injection e1 with e1
  injection e1 with e1 e2
  subst e1
  have := hcs 0 _ rfl
  obtain ⟨es, k, hm⟩ := h.is
  subst e
  unfold World.cell? at this
  rw [hm] at this
  cases this
section
variable {w : World} {B pd : Nat} {d : Dk} {S : Nat → Prop}
theorem Cut_out {i : Int} (h : Dsk w B pd d S) (hi : i < 0 ∨ (d.ws.length : Int) < i) :
    Calls Tryd.prog 18 #[.pointer (some ⟨pd, 0, none⟩), .int .i64 i] w fun e w' => e = .returned (.tuple #[.pointer none, .int .i64 2]) ∧ w' = w := by
  obtain ⟨pm, M, v, hp, hS⟩ := h
  have HP := Lib.hid hp
  have c0 := hp.bd.cell (i := 0) rfl
  have m2 := hp.bm.cell (i := 2) rfl
  have lpd := hp.bd.lt
  have lpm := hp.bm.lt
  obtain ⟨n, hn⟩ : ∃ n, d.ws.length = n := ⟨_, rfl⟩
  obtain ⟨A, c, rfl, hcn, hcm, hA⟩ := hp.log.form (n := n) (by rw [logW_len]; exact hn)
  rw [hn] at hi
  clear hp hS hn hA
  by_cases h0 : i < 0
  · clear hi
    go_enter Tryd.func18, Tryd.ntmps18
    go_wp2_with fail
    refine (isMade_c HP.out.bd).mono ?_
    rintro e w1 ⟨rfl, rfl⟩
    go_wp2_with fail
    refine bodyPost_ret (v := .tuple #[.pointer none, .int .i64 2]) (by simp [results, Tryd.results18, go_sem]) rfl ?_
    exact ⟨rfl, rfl⟩
  · have h1 : (n : Int) < i := by omega
    clear hi
    go_enter Tryd.func18, Tryd.ntmps18
    go_wp2_with fail
    refine (isMade_c HP.out.bd).mono ?_
    rintro e w1 ⟨rfl, rfl⟩
    go_wp2_with fail
    refine bodyPost_ret (v := .tuple #[.pointer none, .int .i64 2]) (by simp [results, Tryd.results18, go_sem]) rfl ?_
    exact ⟨rfl, rfl⟩
set_option maxHeartbeats 16000000 in
theorem Cut_c {j : Nat} (h : Dsk w B pd d S) (hl : d.ws.length ≤ 1000) (hj : j ≤ d.ws.length) :
    Calls Tryd.prog 18 #[.pointer (some ⟨pd, 0, none⟩), .int .i64 (j : Int)] w fun e w' => ∃ p, e = .returned (.tuple #[.pointer (some ⟨p, 0, none⟩), .int .i64 0]) ∧ Made w p (d.cut j) w' := by
  obtain ⟨pm, M, v, hp, hS⟩ := h
  have HP := Lib.hid hp
  have c0 := hp.bd.cell (i := 0) rfl
  have m1 := hp.bm.cell (i := 1) rfl
  have m2 := hp.bm.cell (i := 2) rfl
  have lpd := hp.bd.lt
  have lpm := hp.bm.lt
  obtain ⟨n, hn⟩ : ∃ n, d.ws.length = n := ⟨_, rfl⟩
  have HN := Lib.hid hn
  obtain ⟨A, c, rfl, hcn, hcm, hA⟩ := hp.log.form (n := n) (by rw [logW_len]; exact hn)
  have HR := Lib.hid hp.log.rd
  rw [hn] at hl hj
  have h0 : ¬ (j : Int) < 0 := by omega
  have h1 : ¬ (n : Int) < (j : Int) := by omega
  clear hp hS hn hA
  refine (callsIn_wide (n := 8)).1 ?_
  refine callsIn_of_wp_marks Tryd.func18 rfl trivial ?_ rfl
  refine wpIn_wide.2 ?_
  simp only [Tryd.ntmps18, List.size_toArray, List.length_cons, List.length_nil, Nat.reduceAdd, Nat.reduceSub, Array.replicate_succ, Array.replicate_zero, List.push_toArray, List.append_toArray, List.nil_append, List.cons_append]
  go_wp2_with fail
  refine (isMade_c HP.out.bd).mono ?_
  rintro e w1 ⟨rfl, hw⟩
  obtain rfl := hw.symm
  clear hw
  go_wp2_with fail
  refine (clone_d HP.out.map).mono ?_
  rintro e w1 ⟨M1, rfl, hge1, hm1, hb1⟩
  have B1 := Lib.hid hb1
  have M1D := Lib.hid hm1
  have hz1 := hb1.size
  have HP1 := Lib.hid (HP.out.fr (Fr.below (fun _ => False) hb1) (fun _ _ q => q))
  have c0 := HP1.out.bd.cell (i := 0) rfl
  have m0 := HP1.out.bm.cell (i := 0) rfl
  have m2 := HP1.out.bm.cell (i := 2) rfl
  have lpd := HP1.out.bd.lt
  have lpm := HP1.out.bm.lt
  clear hb1 hm1
  go_wp2_with ((with_reducible refine at_slot 44 ?_); refine Classical.byContradiction (fun hG => ?_))
  refine hG ?_
  clear hG
  obtain ⟨bl, hbl⟩ : ∃ bl, w1.heap.size = bl := ⟨_, rfl⟩
  refine list_named (S := fun W => Below w1.heap.size w1 W ∧ Blk W bl TS [.map (some M1)]) ⟨by (repeat' (first | (with_reducible exact Below.refl _ _) | (with_reducible refine Below.setCell ?_ (by (first | omega | (simp; done) | (simp; omega))) _) | (with_reducible refine Below.alloc ?_ (by (first | omega | (simp; done) | (simp; omega))) _) | (with_reducible refine Below.drew ?_) | (with_reducible refine below_drewN ?_ _))), by rw [← hbl]; (repeat' (first | (with_reducible refine BlkP.Blk.drew ?_) | (with_reducible refine BlkP.Blk.drewN ?_ _) | (with_reducible refine BlkP.Blk.setAt (us := ?_) (by first | omega | (simp; done) | (simp; omega)) rfl ?_ ?_) | (with_reducible refine BlkP.Blk.otherAt ?_ (by first | omega | (simp; done) | (simp; omega))) | (with_reducible refine BlkP.Blk.newA' (by first | omega | (simp; done) | (simp; omega)) rfl) | (with_reducible refine BlkP.Blk.alloc ?_ _) | (exact rfl)))⟩ ?_
  rintro wb ⟨hbb, hk6⟩
  rw [hbl]
  have BB := Lib.hid (below_t B1.out hbb)
  have KB := Lib.hid hk6
  have MB := Lib.hid (M1D.out.below hbb)
  have HRB := Lib.hid ((HR.out.below B1.out).below hbb)
  have HPB := Lib.hid (HP1.out.fr (Fr.below (fun _ => False) hbb) (fun _ _ q => q))
  have hzb := hbb.size
  clear hbb hk6 c0 m0 m2 lpd lpm
  refine RowE.wp_fromE tyW rfl (.tmp 42) (.tmp 43) rfl rfl rfl HRB.out (by rw [logW_len, HN.out]; exact hj) ?_
  intro A' hR'
  have HR2 := Lib.hid hR'
  clear hR'
  go_wp2_with fail
  refine back_c.mono ?_
  rintro e w2 ⟨rfl, rfl⟩
  go_wp2_with fail
  obtain ⟨bs, hbs⟩ : ∃ bs, wb.heap.size = bs := ⟨_, rfl⟩
  refine HeldP.wp_named (S := fun W => Below wb.heap.size wb W ∧ Blk W bs TWs [.slice A' (n - j) (c - j)]) ⟨by (repeat' (first | (with_reducible exact Below.refl _ _) | (with_reducible refine Below.setCell ?_ (by (first | omega | (simp; done) | (simp; omega))) _) | (with_reducible refine Below.alloc ?_ (by (first | omega | (simp; done) | (simp; omega))) _) | (with_reducible refine Below.drew ?_) | (with_reducible refine below_drewN ?_ _))), by rw [← hbs]; (repeat' (first | (with_reducible refine BlkP.Blk.drew ?_) | (with_reducible refine BlkP.Blk.drewN ?_ _) | (with_reducible refine BlkP.Blk.setAt (us := ?_) (by first | omega | (simp; done) | (simp; omega)) rfl ?_ ?_) | (with_reducible refine BlkP.Blk.otherAt ?_ (by first | omega | (simp; done) | (simp; omega))) | (with_reducible refine BlkP.Blk.newA' (by first | omega | (simp; done) | (simp; omega)) rfl) | (with_reducible refine BlkP.Blk.alloc ?_ _) | (exact rfl)))⟩ ?_
  rintro W2 ⟨hb2, hk7⟩
  rw [hbs]
  have K7 := Lib.hid hk7
  have K6 := Lib.hid (KB.out.below hb2)
  have HM2 := Lib.hid (MB.out.below hb2)
  have HR3 := Lib.hid (HR2.out.below hb2)
  have HP2 := Lib.hid (HPB.out.fr (Fr.below (fun _ => False) hb2) (fun _ _ q => q))
  have B2 := Lib.hid (below_t BB.out hb2)
  have hz2 := hb2.size
  have HL := Lib.hid (show M1 < W2.heap.size ∧ w.heap.size ≤ M1 from ⟨HM2.out.lt, hge1⟩)
  clear hb2 hk7
  obtain ⟨E, hE⟩ : ∃ E, eles ((logW d.base d.ws).drop j) (fun x hx => log_can HP.out.ok hx) = E := ⟨_, rfl⟩
  have HE := Lib.hid (show E.map (fun x => x.2.1) = (logW d.base d.ws).drop j by rw [← hE]; exact eles_map _ _)
  have hEl : E.length = n - j := by rw [← hE, eles_len, List.length_drop, logW_len, HN.out]
  have hEi : ∀ (i : Nat) x, E[i]? = some x → x.1 = i := by
    intro i x hx
    rw [← hE] at hx
    exact eles_idx _ _ i x hx
  clear hE
  refine (wpIn_wide (n := 8)).1 ?_
  refine wpIn_rangeFunc_ownH rfl (by omega) (gf := 72) (lb := #[.pointer (some ⟨bs, 0, none⟩)]) rfl trivial (enters_of Tryd.func72 (by kernel_rfl) rfl)
    (back_stops (n := d.n) (k := 7) (Bs := bs) (M := M1) (m := n - j) (c := c - j) (z := W2.heap.size) (A := A') (E := E) (W0 := W2) (by omega) hEl (by omega) hEi rfl K7.out (HM2.out.blk K7.out) (by rw [HE.out]; exact HR3.out) (fun b o hb hne => by subst hb; exact rd_ne_map HM2.out HR3.out (by rw [← HE.out]; simpa using hne)))
    (fun h k => h.trans k) (fun W l o o' hl _ _ _ => KpM.put o' hl) (Below.refl _ _) (fun _ => rfl)
    (Undone W2 M1 d.n d.now) (fun _ _ _ => False) (undone_own HL.out.1) (fun _ _ _ _ _ hs _ _ => hs) ⟨Fr.refl _ _, HM2.out⟩
    (fun x a' W => ∃ Bx, W2.heap.size ≤ Bx ∧ Blk W Bx TW [.int .i64 (x.2.1.1 : Int), .string (str x.2.1.2.1), .string (str x.2.1.2.2)] ∧ a' = { tmps := #[.pointer (some ⟨pd, 0, none⟩), .int .i64 (j : Int), undef, undef, .pointer none, .int .i64 0, .pointer (some ⟨bl, 0, none⟩), undef, .pointer (some ⟨Bx, 0, none⟩), .bool false, .pointer (some ⟨pd, 0, none⟩), .bool true, .bool false, .bool (decide ((j : Int) < 0)), .int .i64 (j : Int), .bool (decide ((j : Int) < 0)), .bool (decide ((j : Int) < 0)), .int .i64 (j : Int), .pointer (some ⟨pd, 0, none⟩), .pointer (some ⟨pd, 0, none⟩), .pointer (some ⟨pd, 0, none⟩), .pointer (some ⟨pm, 0, none⟩), .pointer (some ⟨pm, 0, none⟩), .pointer (some ⟨pm, 2, none⟩), .slice A n c, .int .i64 (n : Int), .bool false, .bool (decide ((j : Int) < 0)), .pointer (some ⟨pd, 0, none⟩), .pointer (some ⟨pd, 0, none⟩), .pointer (some ⟨pd, 0, none⟩), .pointer (some ⟨pm, 0, none⟩), .pointer (some ⟨pm, 0, none⟩), .pointer (some ⟨pm, 1, none⟩), .map (some M), .map (some M1), .pointer (some ⟨pd, 0, none⟩), .pointer (some ⟨pd, 0, none⟩), .pointer (some ⟨pd, 0, none⟩), .pointer (some ⟨pm, 0, none⟩), .pointer (some ⟨pm, 0, none⟩), .pointer (some ⟨pm, 2, none⟩), .slice A n c, .int .i64 (j : Int), .slice A' (n - j) (c - j), .func (.func 72) #[] #[.pointer (some ⟨bs, 0, none⟩)], .int .i64 (x.1 : Int), .agg #[.int .i64 (x.2.1.1 : Int), .string (str x.2.1.2.1), .string (str x.2.1.2.2)], undef, undef, undef, undef, undef, undef, undef, undef, undef, undef, undef, undef, undef, undef, undef, undef, undef, undef, undef], defers := [] })
    (fun x a' s X Y row hs hg hr => by
      obtain ⟨Bx, h1, h2, h3⟩ := hs
      refine ⟨Bx, h1, h2.grown hg (fun e => ?_), h3⟩
      obtain ⟨o, ho, hc⟩ := (hr Bx e.symm).2
      unfold Blk at h2
      rw [h2] at ho
      cases ho
      cases hc) ?assign ?body ?done ?stop
  case assign =>
    rintro l pre x W K hI hK
    have HI := Lib.hid hI
    have HKK := Lib.hid hK
    clear hI hK
    dsimp only [encE]
    gi_wp2
    refine HKK.out _ _ ((KeepsOthers.alloc _ _).from _) (KpM.below ((Below.refl _ W).alloc (by have := HI.out.1.size; omega) _)) ⟨HI.out.1.trans (Fr.alloc _ _ _) (fun i hi => .inl hi), HI.out.2.alloc _⟩ ⟨W.heap.size, HI.out.1.size, by (repeat' (first | (with_reducible refine BlkP.Blk.drew ?_) | (with_reducible refine BlkP.Blk.drewN ?_ _) | (with_reducible refine BlkP.Blk.setAt (us := ?_) (by first | omega | (simp; done) | (simp; omega)) rfl ?_ ?_) | (with_reducible refine BlkP.Blk.otherAt ?_ (by first | omega | (simp; done) | (simp; omega))) | (with_reducible refine BlkP.Blk.newA' (by first | omega | (simp; done) | (simp; omega)) rfl) | (with_reducible refine BlkP.Blk.alloc ?_ _) | (exact rfl))), rfl⟩
  case body =>
    rintro l pre x a' W hl hrec hI ⟨Bx, hBx, hkx, rfl⟩ hlt
    obtain ⟨xi, ⟨xa, xd, xw⟩, hx1, ⟨y, hy1, hy2⟩⟩ := x
    dsimp only at hkx hx1 hy2 ⊢
    subst hy2
    have HI := Lib.hid hI
    have k6 := HI.out.1.blk K6.out (HM2.out.blk K6.out)
    have l0 := k6.cell (i := 0) rfl
    have ll := k6.lt
    have x0 := hkx.cell (i := 0) rfl
    have x2 := hkx.cell (i := 2) rfl
    have lx := hkx.lt
    have HY := Lib.hid hy1
    clear hI hkx k6 hrec
    gi_wp2
    refine ⟨trivial, ?_⟩
    refine (CallsIn.inRound l (callsIn_wide.2 (put_c HI.out.2 hx1 HY.out))).mono ?_
    rintro e W3 ⟨rfl, hm3, hf3⟩
    gi_wp2
    refine ⟨KeepsFrom.of_grownBy (row := some M1) ⟨hf3.os, hf3.tape, hf3.output, hf3.size, fun k hk hne => hf3.block k hk (fun e => hne (by rw [e]))⟩ (fun i hi => by injection hi with hi; have := HL.out.1; omega), ⟨hf3.size, fun k hk hne => hf3.block k (Nat.lt_of_lt_of_le hk HI.out.1.size) hne⟩, HI.out.1.trans hf3 (fun i hi => .inl hi), ?_⟩
    rw [List.map_append, undo_app]
    have : pad (raw y) = y := pad_raw HY.out
    show MapD W3 M1 d.n (upd _ xa (pad (raw y)))
    rw [this]
    exact hm3
  case stop =>
    rintro D c' pre W _ _ h _
    exact h.elim
  case done =>
    rintro D xs wk hD rfl ⟨hf, hm⟩ hKD
    have hundo : undoL d.now ((E.reverse).map (fun x => x.2.1)) = (d.cut j).now := by
      rw [List.map_reverse, HE.out, undo_log HP.out.ok (n - j) (by rw [HN.out]; omega)]
      rfl
    rw [hundo] at hm
    have HF := Lib.hid hf
    have HM3 := Lib.hid hm
    have HKD := Lib.hid hKD
    have k6 := hf.blk K6.out (HM2.out.blk K6.out)
    have l0 := k6.cell (i := 0) rfl
    have ll := k6.lt
    have hp3 := HP2.out.fr hf (fun k hk e => by subst e; have := (HP.out.ge hk).2; have := HL.out.2; omega)
    have c0 := hp3.bd.cell (i := 0) rfl
    have m0 := hp3.bm.cell (i := 0) rfl
    have lpd := hp3.bd.lt
    have lpm := hp3.bm.lt
    have hsz := hf.size
    clear hf hm hundo hKD k6 hp3
    go_wp2_with fail
    refine wp_region_noPanic ?_
    refine wp_region_held_drew (S := fun W => Below wk.heap.size wk W) (by kernel_rfl) ((Below.refl _ wk).drew) (fun hHeld => ?_)
    refine wpAnyH_take (i := 0) (oi := ⟨some 55, _, _, _, _, _⟩) (v := .pointer (some ⟨pd, 0, none⟩)) rfl (by kernel_rfl) (by kernel_rfl) (by kernel_rfl) (fun _ _ _ h => h) (Or.inl ⟨by rfl, fun W hSW => by go_simp⟩) hHeld ?_
    simp only [Act.put, List.setIfInBounds_toArray, List.set_cons_zero, List.set_cons_succ]
    refine wpAnyH_take (i := 1) (oi := ⟨some 56, _, _, _, _, _⟩) (v := .pointer (some ⟨pd, 0, none⟩)) rfl (by kernel_rfl) (by kernel_rfl) (by kernel_rfl) (fun _ _ _ h => h) (Or.inl ⟨by rfl, fun W hSW => by go_simp⟩) hHeld ?_
    simp only [Act.put, List.setIfInBounds_toArray, List.set_cons_zero, List.set_cons_succ]
    refine wpAnyH_take (i := 2) (oi := ⟨some 57, _, _, _, _, _⟩) (v := .pointer (some ⟨pd, 0, none⟩)) rfl (by kernel_rfl) (by kernel_rfl) (by kernel_rfl) (fun _ _ _ h => h) (Or.inl ⟨by rfl, fun W hSW => by go_simp⟩) hHeld ?_
    simp only [Act.put, List.setIfInBounds_toArray, List.set_cons_zero, List.set_cons_succ]
    refine wpAnyH_take (i := 3) (oi := ⟨some 58, _, _, _, _, _⟩) (v := .pointer (some ⟨pm, 0, none⟩)) rfl (by kernel_rfl) (by kernel_rfl) (by kernel_rfl) (fun _ _ _ h => h) (Or.inl ⟨by rfl, fun W hSW => by have a0 := (hSW.cell (p := ⟨pd, 0, none⟩) lpd).trans c0; go_simp⟩) hHeld ?_
    simp only [Act.put, List.setIfInBounds_toArray, List.set_cons_zero, List.set_cons_succ]
    refine wpAnyH_take (i := 4) (oi := ⟨some 59, _, _, _, _, _⟩) (v := .pointer (some ⟨pm, 0, none⟩)) rfl (by kernel_rfl) (by kernel_rfl) (by kernel_rfl) (fun _ _ _ h => h) (Or.inl ⟨by rfl, fun W hSW => by go_simp⟩) hHeld ?_
    simp only [Act.put, List.setIfInBounds_toArray, List.set_cons_zero, List.set_cons_succ]
    refine wpAnyH_take (i := 5) (oi := ⟨some 60, _, _, _, _, _⟩) (v := .pointer (some ⟨pm, 0, none⟩)) rfl (by kernel_rfl) (by kernel_rfl) (by kernel_rfl) (fun _ _ _ h => h) (Or.inl ⟨by rfl, fun W hSW => by go_simp⟩) hHeld ?_
    simp only [Act.put, List.setIfInBounds_toArray, List.set_cons_zero, List.set_cons_succ]
    refine wpAnyH_take (i := 6) (oi := ⟨some 61, _, _, _, _, _⟩) (v := .int .i64 (d.n : Int)) rfl (by kernel_rfl) (by kernel_rfl) (by kernel_rfl) (fun _ _ _ h => h) (Or.inl ⟨by rfl, fun W hSW => by have a0 := (hSW.cell (p := ⟨pm, 0, none⟩) lpm).trans m0; go_simp⟩) hHeld ?_
    simp only [Act.put, List.setIfInBounds_toArray, List.set_cons_zero, List.set_cons_succ]
    refine wpAnyH_take (i := 7) (oi := ⟨some 62, _, _, _, _, _⟩) (v := .map (some M1)) rfl (by kernel_rfl) (by kernel_rfl) (by kernel_rfl) (fun _ _ _ h => h) (Or.inl ⟨by rfl, fun W hSW => by have a0 := (hSW.cell (p := ⟨bl, 0, none⟩) ll).trans l0; go_simp⟩) hHeld ?_
    simp only [Act.put, List.setIfInBounds_toArray, List.set_cons_zero, List.set_cons_succ]
    refine wpAnyH_take (i := 8) (oi := ⟨some 63, _, _, _, _, _⟩) (v := .agg #[.int .i64 (d.n : Int), .map (some M1), .slice none 0 0]) rfl (by kernel_rfl) (by kernel_rfl) (by kernel_rfl) (fun _ _ _ h => h) (Or.inl ⟨by rfl, fun W hSW => by go_simp⟩) hHeld ?_
    simp only [Act.put, List.setIfInBounds_toArray, List.set_cons_zero, List.set_cons_succ]
    refine wpAnyH_ready (rs := [9]) (by kernel_rfl) (by simp) ?_
    refine AllReadyH.cons (o := ⟨some 64, _, _, _, _, _⟩) rfl (fun K hK => ?_) AllReadyH.nil
    go_simp
    refine hK.out _ _ (Below.alloc hHeld (by have := hHeld.size; (try simp at this); (first | omega | (simp; done) | (simp; omega))) _) (fun hHeld => ?_)
    clear hK K
    refine wpAnyH_take (i := 10) (oi := ⟨some 65, _, _, _, _, _⟩) (v := .agg #[.pointer (some ⟨wk.heap.size, 0, none⟩)]) rfl (by kernel_rfl) (by kernel_rfl) (by kernel_rfl) (fun _ _ _ h => h) (Or.inl ⟨by rfl, fun W hSW => by go_simp⟩) hHeld ?_
    simp only [Act.put, List.setIfInBounds_toArray, List.set_cons_zero, List.set_cons_succ]
    refine wpAnyH_ready (rs := [11]) (by kernel_rfl) (by simp) ?_
    refine AllReadyH.cons (o := ⟨some 66, _, _, _, _, _⟩) rfl (fun K hK => ?_) AllReadyH.nil
    go_simp
    refine hK.out _ _ (Below.alloc hHeld (by have := hHeld.size; (try simp at this); (first | omega | (simp; done) | (simp; omega))) _) (fun hHeld => ?_)
    clear hK K
    refine wpAnyH_ready (rs := [12]) (by kernel_rfl) (by simp) ?_
    refine AllReadyH.cons (o := ⟨some 4, _, _, _, _, _⟩) rfl (fun K hK => ?_) AllReadyH.nil
    go_simp
    refine hK.out _ _ hHeld (fun hHeld => ?_)
    clear hK K
    refine wpAnyH_ready (rs := [13]) (by kernel_rfl) (by simp) ?_
    refine AllReadyH.cons (o := ⟨some 5, _, _, _, _, _⟩) rfl (fun K hK => ?_) AllReadyH.nil
    go_simp
    refine hK.out _ _ hHeld (fun hHeld => ?_)
    clear hK K
    refine wpAnyH_done (by kernel_rfl) ?_ _
    refine NoPanic.normal ?_
    clear hHeld
    go_wp2_with fail
    have HFW := Lib.hid (show Fr (fun k => k = D) ((wk.drew.alloc (.cells #[.int .i64 (d.n : Int), .map (some M1), .slice none 0 0] TMd)).alloc (.cells #[.pointer (some ⟨wk.heap.size, 0, none⟩)] TD)) (((wk.drew.alloc (.cells #[.int .i64 (d.n : Int), .map (some M1), .slice none 0 0] TMd)).alloc (.cells #[.pointer (some ⟨wk.heap.size, 0, none⟩)] TD)).putObj D (.deferred none)) from Fr.grown (grownBy_putObj' _ D _) (fun i e => by injection e with e; exact e.symm))
    have hDW : D < wk.heap.size := (Array.getElem?_eq_some_iff.1 HKD.out).1
    have hKD3 : ((wk.drew.alloc (.cells #[.int .i64 (d.n : Int), .map (some M1), .slice none 0 0] TMd)).alloc (.cells #[.pointer (some ⟨wk.heap.size, 0, none⟩)] TD)).heap[D]? = some (.deferred (some [])) := by
      rw [Below.heap_alloc _ _ D (by simp; omega), Below.heap_alloc wk.drew _ D hDW]
      exact HKD.out
    refine ⟨by simp, .inl ⟨_, _, rfl, run_takeDeferred hKD3, ?_⟩⟩
    refine ⟨.tuple #[.pointer (some ⟨wk.heap.size + 1, 0, none⟩), .int .i64 0], by simp [results, Tryd.results18, go_sem], ?_⟩
    have hwz := B2.out.size
    have hl1 := HL.out.1
    have hl2 := HL.out.2
    have hbw : Below w.heap.size w wk := (B2.out.trans ((HF.out).toBelow (B := w.heap.size) (by omega) (fun i hi => by omega)))
    refine ⟨wk.heap.size + 1, rfl, made_of (M := M1) (pm := wk.heap.size) (v := .slice none 0 0) ?_ (HFW.out.blk (by (repeat' (first | (with_reducible refine BlkP.Blk.drew ?_) | (with_reducible refine BlkP.Blk.drewN ?_ _) | (with_reducible refine BlkP.Blk.setAt (us := ?_) (by first | omega | (simp; done) | (simp; omega)) rfl ?_ ?_) | (with_reducible refine BlkP.Blk.otherAt ?_ (by first | omega | (simp; done) | (simp; omega))) | (with_reducible refine BlkP.Blk.newA' (by first | omega | (simp; done) | (simp; omega)) rfl) | (with_reducible refine BlkP.Blk.alloc ?_ _) | (exact rfl)))) (by omega)) (HFW.out.blk (by (repeat' (first | (with_reducible refine BlkP.Blk.drew ?_) | (with_reducible refine BlkP.Blk.drewN ?_ _) | (with_reducible refine BlkP.Blk.setAt (us := ?_) (by first | omega | (simp; done) | (simp; omega)) rfl ?_ ?_) | (with_reducible refine BlkP.Blk.otherAt ?_ (by first | omega | (simp; done) | (simp; omega))) | (with_reducible refine BlkP.Blk.newA' (by first | omega | (simp; done) | (simp; omega)) rfl) | (with_reducible refine BlkP.Blk.alloc ?_ _) | (exact rfl)))) (by omega)) (((HM3.out.drew.alloc _).alloc _).fr HFW.out (by omega)) (Own.nil _ _ _ _) (HP.out.ok.cut j) (by omega) (by omega) hl2⟩
    refine Below.trans ?_ (HFW.out.toBelow (B := w.heap.size) (by simp; omega) (fun i hi => by omega))
    (repeat' (first | (with_reducible exact Below.refl _ _) | (with_reducible refine Below.setCell ?_ (by (first | omega | (simp; done) | (simp; omega))) _) | (with_reducible refine Below.alloc ?_ (by (first | omega | (simp; done) | (simp; omega))) _) | (with_reducible refine Below.drew ?_) | (with_reducible refine below_drewN ?_ _) | (with_reducible refine Below.trans ?_ (Below.mono hbw (by (first | omega | (simp; done) | (simp; omega)))))))
end
end SecW
end Go.Proofs.YtknckaegpdganaaDoor
