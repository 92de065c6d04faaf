/-
  The small line that each law ends with, read and written.
-/
import Derived.BigQuiet
import Derived.BigRegion
import Derived.Lib.Hide
import Derived.Deep.RegionHeld3
import Derived.Deep.MidRow
import Derived.Defers
import Derived.Recover
import Derived.WalkLawsBesides
import Derived.Test.YtcfkdddflbdfaaaDoorLineW1
namespace Go.Proofs.YtcfkdddflbdfaaaDoor
open Go.RowKit
set_option linter.unusedVariables false
set_option linter.unusedSimpArgs false
namespace LineW
open DigP LineP BlkP RowG FrS
open BaseP (bcell below_drewN)
theorem sizeTO : (Tryd.prog.info? 27).map (·.size) = some 10 := by kernel_rfl
theorem grown_row (w : World) (g : Nat) (cells : Array Value) : w.grownBy (w.setRow g cells) (some g) := ⟨rfl, rfl, rfl, by simp [World.setRow], fun k hk hne => by
  simp only [World.setRow, Array.getElem?_modify]
  rw [if_neg (fun e => hne (by rw [e]))]⟩
theorem at_storeT (T : TypeId) {x y : Operand} {P : Program} {w : World} {ops : Array Oper} {rest : List Oper} {a : Act} {Q : Exit → Act → World → Prop} {ty : TypeId} {pos : String} {af : _} {g : _} (h : wpList P ops Q ((⟨none, .store T x y, ty, pos, af, g⟩ : Oper) :: rest) a w) : wpList P ops Q ((⟨none, .store T x y, ty, pos, af, g⟩ : Oper) :: rest) a w := h
theorem wp_storeT {w : World} {ops : Array Oper} {rest : List Oper} {o : Oper} {a : Act} {Q : Exit → Act → World → Prop} (T : TypeId) (hgd : o.guard = none) (x y : Operand) (ho : o.op = .store T x y) {g : Nat} {vs us : List Value} {n : Nat} (hs : (Tryd.prog.info? T).map (·.size) = some n) (h1 : vs.toArray.all (·.oneCell') = true) (hn : vs.length = n) (hx : a.eval x = .pointer (some ⟨g, 0, none⟩)) (hy : a.eval y = .agg vs.toArray) (hk : Blk w g T us) (hu : us.length = n)
    (h : ∀ w', Blk w' g T vs → w.grownBy w' (some g) → w'.heap.size = w.heap.size → wpList Tryd.prog ops Q rest (a.put o.dst undef) w') : wpList Tryd.prog ops Q (o :: rest) a w := by
  refine wpList_plain hgd fun K hK => ?_
  refine wp_store_row (P := Tryd.prog) T x y ho g vs.toArray hx hy T us.toArray hk (by rw [hs]; simp [hn]) (by simp [hu, hn]) h1 ?_
  refine hK _ _ (h _ (setRow_heap w g us.toArray vs.toArray _ _ hk) (grown_row w g _) ?_)
  simp [World.setRow]
theorem Txt.fr {S : Nat → Prop} {w w' : World} {b : Nat} {ws : List (List UInt8)} (h : Txt w b ws) (hf : Fr S w w') (hn : ¬ S b) : Txt w' b ws :=
  ⟨Nat.lt_of_lt_of_le h.1 hf.size, fun j x hx => (hf.cell (p := ⟨b, j, none⟩) h.1 hn).trans (h.2 j x hx)⟩
theorem Env.fr {S : Nat → Prop} {w w' : World} (h : Env w) (hf : Fr S w w') (h0 : ¬ S 0) (h1 : ¬ S 1) : Env w' := by
  refine ⟨⟨fun k hk => (hf.cell (p := ⟨_, _, none⟩) h.tab.size h0).trans (h.tab.name k hk), fun k hk => (hf.cell (p := ⟨_, _, none⟩) h.tab.size h0).trans (h.tab.least k hk), fun k hk => (hf.cell (p := ⟨_, _, none⟩) h.tab.size h0).trans (h.tab.most k hk), fun k hk => (hf.cell (p := ⟨_, _, none⟩) h.tab.size h0).trans (h.tab.trait k hk), Nat.lt_of_lt_of_le h.tab.size hf.size⟩, ?_⟩
  have hp := h.pow
  unfold Lib.TabIs World.var? at hp ⊢
  rw [gPow] at hp ⊢
  simp only [Option.bind_some] at hp ⊢
  rw [hf.block _ (by
    rcases Nat.lt_or_ge 1 w.heap.size with q | q
    · exact q
    · rw [Array.getElem?_eq_none q] at hp
      cases hp) h1]
  exact hp
noncomputable def takeNm : String := (Tryd.t79.methods.getD 0 default).name
noncomputable def tellNm : String := (Tryd.t79.methods.getD 1 default).name
theorem run_mkf : ∀ (fn : Fn) (first cap : Array Value) (w : World), (Instr.makeFunc fn first cap).run Tryd.prog w = .ok (.func fn first cap) w := fun _ _ _ _ => rfl
theorem m_ntake (b o : Nat) (w : World) : (method 276 TN (.pointer (some ⟨b, o, none⟩)) takeNm).run Tryd.prog w = .ok (106, .pointer (some ⟨b, o, none⟩)) w := by kernel_rfl
theorem m_dtake (b o : Nat) (w : World) : (method 276 TD (.pointer (some ⟨b, o, none⟩)) takeNm).run Tryd.prog w = .ok (103, .pointer (some ⟨b, o, none⟩)) w := by kernel_rfl
theorem m_ntell (b o : Nat) (w : World) : (method 276 TN (.pointer (some ⟨b, o, none⟩)) tellNm).run Tryd.prog w = .ok (107, .pointer (some ⟨b, o, none⟩)) w := by kernel_rfl
theorem m_dtell (b o : Nat) (w : World) : (method 276 TD (.pointer (some ⟨b, o, none⟩)) tellNm).run Tryd.prog w = .ok (104, .pointer (some ⟨b, o, none⟩)) w := by kernel_rfl
theorem exec_mkM {w : World} {o : Oper} {a : Act} {nm : String} (x : Operand) (ho : o.op = .makeFunc (.method nm) #[x] #[]) {r : Value} (hx : a.eval x = r) : (execOp a.eval o).run Tryd.prog w = .ok (.value (.func (.method nm) #[r] #[])) w := by
  simp [execOp, ho, hx, run_mkf, Result.andThen]
theorem idle_d (po pe : Addr) (w : World) : CallsD Tryd.prog 47 #[.pointer (some po), .pointer (some pe)] .returning w fun e u' w' => e = .returned (.tuple #[]) ∧ u' = .returning ∧ w' = w := by
  refine callsD_of_wpS Tryd.func47 rfl fun c₀ cs hu => ?_
  apply wpS_seq
  apply wpS_region
  simp [wpOpsS, go_sem, recoverD, hu, Tryd.ntmps47, Exit.thenS]
  refine wpS_cond (t := false) (by simp [Act.eval, Array.replicate]) ?_
  simp only [Bool.false_eq_true, if_false]
  refine wpS_of_wp (wp_skip ?_)
  cases c₀
  simp_all [bodyPostS, results, Tryd.results47]
def stL : Nat → List Value
  | 0 => [.int .i64 3, .int .i64 0, .int .i64 0, .int .i64 0, .int .i64 0, .int .i64 0, .int .i64 0, .int .u8 0, .int .u8 0, .int .i64 0]
  | 1 => [.int .i64 3, .int .i64 0, .int .i64 0, .int .i64 0, .int .i64 0, .int .i64 0, .int .i64 0, .int .u8 0, .int .u8 0, .int .i64 0]
  | 2 => [.int .i64 3, .int .i64 0, .int .i64 (-1), .int .i64 0, .int .i64 0, .int .i64 0, .int .i64 0, .int .u8 0, .int .u8 0, .int .i64 0]
  | 3 => [.int .i64 3, .int .i64 0, .int .i64 (-1), .int .i64 2, .int .i64 0, .int .i64 0, .int .i64 0, .int .u8 0, .int .u8 0, .int .i64 0]
  | _ => [.int .i64 3, .int .i64 0, .int .i64 (-1), .int .i64 2, .int .i64 0, .int .i64 0, .int .i64 0, .int .u8 0, .int .u8 0, .int .i64 4]
theorem pow_lt {w : World} (h : Env w) : 1 < w.heap.size := by
  have hp := h.pow
  unfold Lib.TabIs World.var? at hp
  rw [gPow] at hp
  simp only [Option.bind_some] at hp
  rcases Nat.lt_or_ge 1 w.heap.size with q | q
  · exact q
  · rw [Array.getElem?_eq_none q] at hp
    cases hp
set_option maxRecDepth 100000 in
set_option maxHeartbeats 8000000 in
theorem read_small {w : World} (hE : Env w) :
    Calls Tryd.prog 26 #[.string ⟨smallL.toArray⟩] w fun e w' => e = .returned (.tuple #[.agg #[.int .i64 3, .int .i64 0, .int .i64 (-1), .int .i64 2, .int .i64 0, .int .i64 0, .int .i64 0, .int .u8 0, .int .u8 0, .int .i64 4], .int .i64 0]) ∧ Below w.heap.size w w' := by
  have HE := Lib.hid hE
  have hmf := run_mkf
  obtain ⟨s, hs⟩ : ∃ s, w.heap.size = s := ⟨_, rfl⟩
  have hs0 : ¬ (fun k => k = s) 0 := by have := hE.tab.size; show ¬ (_ = s); omega
  have hs1 : ¬ (fun k => k = s) 1 := by have := pow_lt hE; show ¬ (_ = s); omega
  clear hE
  go_enter_defers Tryd.func26, Tryd.ntmps26
  go_wp2_with fail
  refine calls_named (S := fun W => Below w.heap.size w W ∧ Blk W s 27 [.int .i64 0, .int .i64 0, .int .i64 0, .int .i64 0, .int .i64 0, .int .i64 0, .int .i64 0, .int .u8 0, .int .u8 0, .int .i64 0] ∧ Blk W (s + 1) 28 [.int .i64 0]) ⟨by (repeat' (first | (with_reducible exact Below.refl _ _) | (with_reducible refine Below.setCell ?_ (by (first | omega | (simp; done) | (simp; omega))) _) | (with_reducible refine Below.alloc ?_ (by (first | omega | (simp; done) | (simp; omega))) _) | (with_reducible refine Below.drew ?_) | (with_reducible refine below_drewN ?_ _))), by subst hs; (repeat' (first | (with_reducible refine BlkP.Blk.drew ?_) | (with_reducible refine BlkP.Blk.drewN ?_ _) | (with_reducible refine BlkP.Blk.setAt (us := ?_) (by first | omega | (simp; done) | (simp; omega)) rfl ?_ ?_) | (with_reducible refine BlkP.Blk.otherAt ?_ (by first | omega | (simp; done) | (simp; omega))) | (with_reducible refine BlkP.Blk.newA' (by first | omega | (simp; done) | (simp; omega)) rfl) | (with_reducible refine BlkP.Blk.alloc ?_ _) | (exact rfl))), by subst hs; (repeat' (first | (with_reducible refine BlkP.Blk.drew ?_) | (with_reducible refine BlkP.Blk.drewN ?_ _) | (with_reducible refine BlkP.Blk.setAt (us := ?_) (by first | omega | (simp; done) | (simp; omega)) rfl ?_ ?_) | (with_reducible refine BlkP.Blk.otherAt ?_ (by first | omega | (simp; done) | (simp; omega))) | (with_reducible refine BlkP.Blk.newA' (by first | omega | (simp; done) | (simp; omega)) rfl) | (with_reducible refine BlkP.Blk.alloc ?_ _) | (exact rfl)))⟩ ?_
  try rw [hs]
  rintro w0 ⟨hb0, hk0, he0⟩
  try rw [← hs] at hb0
  refine (split_small _).mono ?_
  rintro e w1 ⟨rfl, ht1, hb1⟩
  have HB1 := Lib.hid (below_t hb0 hb1)
  have K1 := Lib.hid (hk0.below hb1)
  have E1 := Lib.hid (he0.below hb1)
  have hlt0 := he0.lt
  generalize w0.heap.size = b1 at ht1 hlt0 ⊢
  have T1 := Lib.hid ht1
  have HE1 := Lib.hid (HE.out.below HB1.out)
  have hsw : w.heap.size ≤ s := by omega
  have hb1s : ¬ (fun k => k = s) b1 := by show ¬ (b1 = s); omega
  have lw := ht1.1
  have q0 := ht1.2 0 _ rfl
  have q1 := ht1.2 1 _ rfl
  have q2 := ht1.2 2 _ rfl
  have q3 := ht1.2 3 _ rfl
  have q4 := ht1.2 4 _ rfl
  have Q1 := Lib.hid q1
  have Q2 := Lib.hid q2
  have Q3 := Lib.hid q3
  have Q4 := Lib.hid q4
  clear hb0 hk0 he0 ht1 hb1 q1 q2 q3 q4 hs hlt0
  go_wp2_with fail
  refine wp_region_noPanic ?_
  refine wp_region_held_drew (S := fun Xw => Fr (fun k => k = s) w1 Xw) (by kernel_rfl) ((Fr.refl _ w1).drew) (fun hHeld => ?_)
  refine wpAnyH_take (i := 1) (oi := ⟨some 12, _, _, _, _, _⟩) (v := .slice (some ⟨b1, 0, none⟩) 5 5) rfl (by kernel_rfl) (by kernel_rfl) (by kernel_rfl) (fun _ _ _ h => h) (Or.inl ⟨by rfl, fun Xw hSW => by go_simp⟩) hHeld ?_
  simp only [Act.put, List.setIfInBounds_toArray, List.set_cons_zero, List.set_cons_succ]
  refine wpAnyH_take (i := 2) (oi := ⟨some 13, _, _, _, _, _⟩) (v := .pointer (some ⟨b1, 0, none⟩)) rfl (by kernel_rfl) (by kernel_rfl) (by kernel_rfl) (fun _ _ _ h => h) (Or.inl ⟨by rfl, fun Xw hSW => by go_simp⟩) hHeld ?_
  simp only [Act.put, List.setIfInBounds_toArray, List.set_cons_zero, List.set_cons_succ]
  refine wpAnyH_take (i := 3) (oi := ⟨some 14, _, _, _, _, _⟩) (v := .string ⟨([112, 117, 115, 104]).toArray⟩) rfl (by kernel_rfl) (by kernel_rfl) (by kernel_rfl) (fun _ _ _ h => h) (Or.inl ⟨by rfl, fun Xw hSW => by have a := (hSW.cell (p := ⟨b1, 0, none⟩) lw hb1s).trans q0; go_simp⟩) hHeld ?_
  simp only [Act.put, List.setIfInBounds_toArray, List.set_cons_zero, List.set_cons_succ]
  refine wpAnyH_ready (rs := [0]) (by kernel_rfl) (by simp) ?_
  refine AllReadyH.cons (o := ⟨some 11, _, _, _, _, _⟩) rfl (fun K hK => ?_) AllReadyH.nil
  go_simp
  refine ops_c.mono ?_
  rintro e w2 ⟨⟨b2, rfl, hge2, ht2⟩, hb2⟩
  have HT2 := Lib.hid ht2
  have BK2 := Lib.hid (Blk.below (w := w1.drew) K1.out hb2)
  clear ht2 hge2
  refine hK.out _ _ (Fr.trans hHeld (Fr.below (fun k => k = s) hb2) (fun i hi => .inl hi)) (fun hHeld => ?_)
  clear hK K
  clear hb2
  refine wpAnyH_ready (rs := [4]) (by kernel_rfl) (by simp) ?_
  refine AllReadyH.cons (o := ⟨some 15, _, _, _, _, _⟩) rfl (fun K hK => ?_) AllReadyH.nil
  go_simp
  refine (index_c (x := [112, 117, 115, 104]) (r := 3) HT2.out rfl (by decide) (by kernel_rfl)).mono ?_
  rintro e w3 ⟨rfl, hb3⟩
  have BK3 := Lib.hid (BK2.out.below hb3)
  refine hK.out _ _ (Fr.trans hHeld (Fr.below (fun k => k = s) hb3) (fun i hi => .inl hi)) (fun hHeld => ?_)
  clear hK K
  clear hb3
  refine wpAnyH_take (i := 5) (oi := ⟨some 16, _, _, _, _, _⟩) (v := .pointer (some ⟨s, 0, none⟩)) rfl (by kernel_rfl) (by kernel_rfl) (by kernel_rfl) (fun _ _ _ h => h) (Or.inl ⟨by rfl, fun Xw hSW => by go_simp⟩) hHeld ?_
  simp only [Act.put, List.setIfInBounds_toArray, List.set_cons_zero, List.set_cons_succ]
  have k3 := BK3.out.cell (i := 0) rfl
  have f3 := BK3.out.frozen 0
  have HF3 := Lib.hid (show Fr (fun k => k = s) w1 w3 from hHeld)
  refine wpAnyH_ready (rs := [6]) (by kernel_rfl) (by simp) ?_
  refine AllReadyH.cons (o := ⟨none, _, _, _, _, _⟩) rfl (fun K hK => ?_) AllReadyH.nil
  go_simp
  refine hK.out _ _ (Fr.trans HF3.out (Fr.set (fun k => k = s) _ _ _ rfl) (fun i hi => .inl hi)) (fun hHeld => ?_)
  clear hK K
  refine wpAnyH_done (by kernel_rfl) ?_ _
  refine NoPanic.normal ?_
  refine HeldP.then_named (S := fun W => Fr (fun k => k = s) w1 W ∧ Blk W s 27 [.int .i64 3, .int .i64 0, .int .i64 0, .int .i64 0, .int .i64 0, .int .i64 0, .int .i64 0, .int .u8 0, .int .u8 0, .int .i64 0]) ⟨hHeld, BK3.out.set 0 _⟩ ?_
  clear hHeld k3 f3
  rintro w4 ⟨hf4, hk4⟩
  have F4 := Lib.hid hf4
  have K4 := Lib.hid hk4
  have k40 := hk4.cell (i := 0) rfl
  have k4l := hk4.lt
  clear hf4 hk4 q0 lw
  go_wp2_with fail
  refine must_yes.mono ?_
  rintro e _ ⟨rfl, rfl⟩
  go_wp2_with fail
  refine (behind_c (T := 27) K4.out rfl).mono ?_
  rintro e w5 ⟨⟨g, c, rfl, ho5⟩, hb5⟩
  have HO5 := Lib.hid ho5
  have gne : ¬ (fun k => k = s) g := by have := (ho5.ge g rfl).1; show ¬ (g = s); omega
  have F5 := Lib.hid (F4.out.trans (Fr.below (fun k => k = s) hb5) (fun i hi => .inl hi))
  have K5 := Lib.hid (K4.out.below hb5)
  clear ho5 hb5 k40 k4l
  go_wp2_with fail
  refine must_yes.mono ?_
  rintro e _ ⟨rfl, rfl⟩
  go_wp2_with fail
  go_loopw [31] (fun v wr => ∃ i : Nat, v = .int .i64 (i : Nat) ∧ i ≤ 4 ∧ Blk wr s 27 (stL i) ∧ Fr (fun k => k = s) w5 wr) (fun v _ => 6 - (intOf v).toNat)
  case atStart => exact ⟨0, rfl, by omega, K5.out, Fr.refl _ _⟩
  case round =>
    obtain ⟨i, rfl, hi, hkb, hfr⟩ := hrel
    have HFR := Lib.hid (F5.out.trans hfr (fun i hi => .inl hi))
    have OR := Lib.hid (hfr.own HO5.out (fun g' hg' => by cases hg'; exact gne))
    have TR := Lib.hid (T1.out.fr HFR.out hb1s)
    have lwr := TR.out.1
    have q1 := TR.out.2 1 _ rfl
    have q2 := TR.out.2 2 _ rfl
    have q3 := TR.out.2 3 _ rfl
    have q4 := TR.out.2 4 _ rfl
    have r0 := Own.cell OR.out (i := 0) (j := 0) rfl rfl
    have r1 := Own.cell OR.out (i := 1) (j := 0) rfl rfl
    have r2 := Own.cell OR.out (i := 2) (j := 0) rfl rfl
    have r3 := Own.cell OR.out (i := 3) (j := 0) rfl rfl
    have rl := (OR.out.ge g rfl).2
    simp only [show encW.k = 1 from rfl, Nat.mul_one, Nat.add_zero] at r0 r1 r2 r3
    have HFRL := Lib.hid hfr
    clear hfr
    have : i = 0 ∨ i = 1 ∨ i = 2 ∨ i = 3 ∨ i = 4 := by omega
    rcases this with rfl | rfl | rfl | rfl | rfl
    · have KB := Lib.hid (show Blk wr s 27 [.int .i64 3, .int .i64 0, .int .i64 0, .int .i64 0, .int .i64 0, .int .i64 0, .int .i64 0, .int .u8 0, .int .u8 0, .int .i64 0] from hkb)
      clear hkb
      have hm := m_ntake s 1
      simp [takeNm, Tryd.t79] at hm
      go_wp2_with fail
      refine wp_region_noPanic ?_
      refine wp_region_held_drew (S := fun Xw => Fr (fun k => k = s) wr Xw) (by kernel_rfl) ((Fr.refl _ wr).drew) (fun hHeld => ?_)
      refine wpAnyH_take (i := 0) (oi := ⟨some 36, _, _, _, _, _⟩) (v := .iface TN (.pointer (some ⟨s, 1, none⟩))) rfl (by kernel_rfl) (by kernel_rfl) (by kernel_rfl) (fun _ _ _ h => h) (Or.inl ⟨by rfl, fun Xw hSW => by go_simp⟩) hHeld ?_
      simp only [Act.put, List.setIfInBounds_toArray, List.set_cons_zero, List.set_cons_succ]
      refine wpAnyH_take (i := 1) (oi := ⟨some 37, _, _, _, _, _⟩) (v := .slice (some ⟨b1, 0, none⟩) 5 5) rfl (by kernel_rfl) (by kernel_rfl) (by kernel_rfl) (fun _ _ _ h => h) (Or.inl ⟨by rfl, fun Xw hSW => by go_simp⟩) hHeld ?_
      simp only [Act.put, List.setIfInBounds_toArray, List.set_cons_zero, List.set_cons_succ]
      refine wpAnyH_take (i := 2) (oi := ⟨some 38, _, _, _, _, _⟩) (v := .int .i64 0) rfl (by kernel_rfl) (by kernel_rfl) (by kernel_rfl) (fun _ _ _ h => h) (Or.inl ⟨by rfl, fun Xw hSW => by go_simp⟩) hHeld ?_
      simp only [Act.put, List.setIfInBounds_toArray, List.set_cons_zero, List.set_cons_succ]
      refine wpAnyH_take (i := 3) (oi := ⟨some 39, _, _, _, _, _⟩) (v := .int .i64 1) rfl (by kernel_rfl) (by kernel_rfl) (by kernel_rfl) (fun _ _ _ h => h) (Or.inl ⟨by rfl, fun Xw hSW => by go_simp; try decide⟩) hHeld ?_
      simp only [Act.put, List.setIfInBounds_toArray, List.set_cons_zero, List.set_cons_succ]
      refine wpAnyH_take (i := 4) (oi := ⟨some 40, _, _, _, _, _⟩) (v := .pointer (some ⟨b1, 1, none⟩)) rfl (by kernel_rfl) (by kernel_rfl) (by kernel_rfl) (fun _ _ _ h => h) (Or.inl ⟨by rfl, fun Xw hSW => by go_simp⟩) hHeld ?_
      simp only [Act.put, List.setIfInBounds_toArray, List.set_cons_zero, List.set_cons_succ]
      refine wpAnyH_take (i := 5) (oi := ⟨some 41, _, _, _, _, _⟩) (v := .string ⟨(num 0).toArray⟩) rfl (by kernel_rfl) (by kernel_rfl) (by kernel_rfl) (fun _ _ _ h => h) (Or.inl ⟨by rfl, fun Xw hSW => by have a := (hSW.cell (p := ⟨b1, 1, none⟩) lwr hb1s).trans q1; go_simp⟩) hHeld ?_
      simp only [Act.put, List.setIfInBounds_toArray, List.set_cons_zero, List.set_cons_succ]
      refine wpAnyH_take (i := 6) (oi := ⟨some 42, _, _, _, _, _⟩) (v := _) rfl (by kernel_rfl) (by kernel_rfl) (by kernel_rfl) (fun _ _ _ h => h) (Or.inl ⟨by rfl, fun Xw hSW => by exact exec_mkM _ rfl rfl⟩) hHeld ?_
      simp only [Act.put, List.setIfInBounds_toArray, List.set_cons_zero, List.set_cons_succ]
      refine wpAnyH_take (i := 7) (oi := ⟨some 43, _, _, _, _, _⟩) (v := .func (.method takeNm) #[.iface TN (.pointer (some ⟨s, 1, none⟩))] #[]) rfl (by kernel_rfl) (by kernel_rfl) (by kernel_rfl) (fun _ _ _ h => h) (Or.inl ⟨by rfl, fun Xw hSW => by go_simp; try exact rfl⟩) hHeld ?_
      simp only [Act.put, List.setIfInBounds_toArray, List.set_cons_zero, List.set_cons_succ]
      refine wpAnyH_take (i := 8) (oi := ⟨some 44, _, _, _, _, _⟩) (v := .iface TN (.pointer (some ⟨s, 1, none⟩))) rfl (by kernel_rfl) (by kernel_rfl) (by kernel_rfl) (fun _ _ _ h => h) (Or.inl ⟨by rfl, fun Xw hSW => by go_simp⟩) hHeld ?_
      simp only [Act.put, List.setIfInBounds_toArray, List.set_cons_zero, List.set_cons_succ]
      refine wpAnyH_ready (rs := [9]) (by kernel_rfl) (by simp) ?_
      refine AllReadyH.cons (o := ⟨some 45, _, _, _, _, _⟩) rfl (fun K hK => ?_) AllReadyH.nil
      go_simp
      have hHeld0 := HFR.out
      refine (numtake_c (n := 0) (by omega) (by omega) (HE1.out.fr hHeld0.drew hs0 hs1) KB.out.drew (o := 1) rfl).mono ?_
      rintro e w5 ⟨rfl, hk5, hf5⟩
      have K5 := Lib.hid hk5
      have F5 := Lib.hid hf5
      clear hk5 hf5 hHeld0
      refine hK.out _ _ (Fr.trans hHeld F5.out (fun i hi => .inl hi)) (fun hHeld => ?_)
      clear hK K
      refine wpAnyH_done (by kernel_rfl) ?_ _
      refine NoPanic.normal ?_
      have F6 := Lib.hid (show Fr (fun k => k = s) wr w5 from hHeld)
      clear hHeld hm
      go_wp2_with fail
      go_roundw
      case rel => exact ⟨1, by first | rfl | simp, by omega, K5.out, HFRL.out.trans F6.out (fun i hi => .inl hi)⟩
      case measure => simp [intOf]
    · have KB := Lib.hid (show Blk wr s 27 [.int .i64 3, .int .i64 0, .int .i64 0, .int .i64 0, .int .i64 0, .int .i64 0, .int .i64 0, .int .u8 0, .int .u8 0, .int .i64 0] from hkb)
      clear hkb
      have hm := m_ntake s 2
      simp [takeNm, Tryd.t79] at hm
      go_wp2_with fail
      refine wp_region_noPanic ?_
      refine wp_region_held_drew (S := fun Xw => Fr (fun k => k = s) wr Xw) (by kernel_rfl) ((Fr.refl _ wr).drew) (fun hHeld => ?_)
      refine wpAnyH_take (i := 0) (oi := ⟨some 36, _, _, _, _, _⟩) (v := .iface TN (.pointer (some ⟨s, 2, none⟩))) rfl (by kernel_rfl) (by kernel_rfl) (by kernel_rfl) (fun _ _ _ h => h) (Or.inl ⟨by rfl, fun Xw hSW => by go_simp⟩) hHeld ?_
      simp only [Act.put, List.setIfInBounds_toArray, List.set_cons_zero, List.set_cons_succ]
      refine wpAnyH_take (i := 1) (oi := ⟨some 37, _, _, _, _, _⟩) (v := .slice (some ⟨b1, 0, none⟩) 5 5) rfl (by kernel_rfl) (by kernel_rfl) (by kernel_rfl) (fun _ _ _ h => h) (Or.inl ⟨by rfl, fun Xw hSW => by go_simp⟩) hHeld ?_
      simp only [Act.put, List.setIfInBounds_toArray, List.set_cons_zero, List.set_cons_succ]
      refine wpAnyH_take (i := 2) (oi := ⟨some 38, _, _, _, _, _⟩) (v := .int .i64 1) rfl (by kernel_rfl) (by kernel_rfl) (by kernel_rfl) (fun _ _ _ h => h) (Or.inl ⟨by rfl, fun Xw hSW => by go_simp⟩) hHeld ?_
      simp only [Act.put, List.setIfInBounds_toArray, List.set_cons_zero, List.set_cons_succ]
      refine wpAnyH_take (i := 3) (oi := ⟨some 39, _, _, _, _, _⟩) (v := .int .i64 2) rfl (by kernel_rfl) (by kernel_rfl) (by kernel_rfl) (fun _ _ _ h => h) (Or.inl ⟨by rfl, fun Xw hSW => by go_simp; try decide⟩) hHeld ?_
      simp only [Act.put, List.setIfInBounds_toArray, List.set_cons_zero, List.set_cons_succ]
      refine wpAnyH_take (i := 4) (oi := ⟨some 40, _, _, _, _, _⟩) (v := .pointer (some ⟨b1, 2, none⟩)) rfl (by kernel_rfl) (by kernel_rfl) (by kernel_rfl) (fun _ _ _ h => h) (Or.inl ⟨by rfl, fun Xw hSW => by go_simp⟩) hHeld ?_
      simp only [Act.put, List.setIfInBounds_toArray, List.set_cons_zero, List.set_cons_succ]
      refine wpAnyH_take (i := 5) (oi := ⟨some 41, _, _, _, _, _⟩) (v := .string ⟨(num (-1)).toArray⟩) rfl (by kernel_rfl) (by kernel_rfl) (by kernel_rfl) (fun _ _ _ h => h) (Or.inl ⟨by rfl, fun Xw hSW => by have a := (hSW.cell (p := ⟨b1, 2, none⟩) lwr hb1s).trans q2; go_simp⟩) hHeld ?_
      simp only [Act.put, List.setIfInBounds_toArray, List.set_cons_zero, List.set_cons_succ]
      refine wpAnyH_take (i := 6) (oi := ⟨some 42, _, _, _, _, _⟩) (v := _) rfl (by kernel_rfl) (by kernel_rfl) (by kernel_rfl) (fun _ _ _ h => h) (Or.inl ⟨by rfl, fun Xw hSW => by exact exec_mkM _ rfl rfl⟩) hHeld ?_
      simp only [Act.put, List.setIfInBounds_toArray, List.set_cons_zero, List.set_cons_succ]
      refine wpAnyH_take (i := 7) (oi := ⟨some 43, _, _, _, _, _⟩) (v := .func (.method takeNm) #[.iface TN (.pointer (some ⟨s, 2, none⟩))] #[]) rfl (by kernel_rfl) (by kernel_rfl) (by kernel_rfl) (fun _ _ _ h => h) (Or.inl ⟨by rfl, fun Xw hSW => by go_simp; try exact rfl⟩) hHeld ?_
      simp only [Act.put, List.setIfInBounds_toArray, List.set_cons_zero, List.set_cons_succ]
      refine wpAnyH_take (i := 8) (oi := ⟨some 44, _, _, _, _, _⟩) (v := .iface TN (.pointer (some ⟨s, 2, none⟩))) rfl (by kernel_rfl) (by kernel_rfl) (by kernel_rfl) (fun _ _ _ h => h) (Or.inl ⟨by rfl, fun Xw hSW => by go_simp⟩) hHeld ?_
      simp only [Act.put, List.setIfInBounds_toArray, List.set_cons_zero, List.set_cons_succ]
      refine wpAnyH_ready (rs := [9]) (by kernel_rfl) (by simp) ?_
      refine AllReadyH.cons (o := ⟨some 45, _, _, _, _, _⟩) rfl (fun K hK => ?_) AllReadyH.nil
      go_simp
      have hHeld0 := HFR.out
      refine (numtake_c (n := -1) (by omega) (by omega) (HE1.out.fr hHeld0.drew hs0 hs1) KB.out.drew (o := 2) rfl).mono ?_
      rintro e w5 ⟨rfl, hk5, hf5⟩
      have K5 := Lib.hid hk5
      have F5 := Lib.hid hf5
      clear hk5 hf5 hHeld0
      refine hK.out _ _ (Fr.trans hHeld F5.out (fun i hi => .inl hi)) (fun hHeld => ?_)
      clear hK K
      refine wpAnyH_done (by kernel_rfl) ?_ _
      refine NoPanic.normal ?_
      have F6 := Lib.hid (show Fr (fun k => k = s) wr w5 from hHeld)
      clear hHeld hm
      go_wp2_with fail
      go_roundw
      case rel => exact ⟨2, by first | rfl | simp, by omega, K5.out, HFRL.out.trans F6.out (fun i hi => .inl hi)⟩
      case measure => simp [intOf]
    · have KB := Lib.hid (show Blk wr s 27 [.int .i64 3, .int .i64 0, .int .i64 (-1), .int .i64 0, .int .i64 0, .int .i64 0, .int .i64 0, .int .u8 0, .int .u8 0, .int .i64 0] from hkb)
      clear hkb
      have hm := m_ntake s 3
      simp [takeNm, Tryd.t79] at hm
      go_wp2_with fail
      refine wp_region_noPanic ?_
      refine wp_region_held_drew (S := fun Xw => Fr (fun k => k = s) wr Xw) (by kernel_rfl) ((Fr.refl _ wr).drew) (fun hHeld => ?_)
      refine wpAnyH_take (i := 0) (oi := ⟨some 36, _, _, _, _, _⟩) (v := .iface TN (.pointer (some ⟨s, 3, none⟩))) rfl (by kernel_rfl) (by kernel_rfl) (by kernel_rfl) (fun _ _ _ h => h) (Or.inl ⟨by rfl, fun Xw hSW => by go_simp⟩) hHeld ?_
      simp only [Act.put, List.setIfInBounds_toArray, List.set_cons_zero, List.set_cons_succ]
      refine wpAnyH_take (i := 1) (oi := ⟨some 37, _, _, _, _, _⟩) (v := .slice (some ⟨b1, 0, none⟩) 5 5) rfl (by kernel_rfl) (by kernel_rfl) (by kernel_rfl) (fun _ _ _ h => h) (Or.inl ⟨by rfl, fun Xw hSW => by go_simp⟩) hHeld ?_
      simp only [Act.put, List.setIfInBounds_toArray, List.set_cons_zero, List.set_cons_succ]
      refine wpAnyH_take (i := 2) (oi := ⟨some 38, _, _, _, _, _⟩) (v := .int .i64 2) rfl (by kernel_rfl) (by kernel_rfl) (by kernel_rfl) (fun _ _ _ h => h) (Or.inl ⟨by rfl, fun Xw hSW => by go_simp⟩) hHeld ?_
      simp only [Act.put, List.setIfInBounds_toArray, List.set_cons_zero, List.set_cons_succ]
      refine wpAnyH_take (i := 3) (oi := ⟨some 39, _, _, _, _, _⟩) (v := .int .i64 3) rfl (by kernel_rfl) (by kernel_rfl) (by kernel_rfl) (fun _ _ _ h => h) (Or.inl ⟨by rfl, fun Xw hSW => by go_simp; try decide⟩) hHeld ?_
      simp only [Act.put, List.setIfInBounds_toArray, List.set_cons_zero, List.set_cons_succ]
      refine wpAnyH_take (i := 4) (oi := ⟨some 40, _, _, _, _, _⟩) (v := .pointer (some ⟨b1, 3, none⟩)) rfl (by kernel_rfl) (by kernel_rfl) (by kernel_rfl) (fun _ _ _ h => h) (Or.inl ⟨by rfl, fun Xw hSW => by go_simp⟩) hHeld ?_
      simp only [Act.put, List.setIfInBounds_toArray, List.set_cons_zero, List.set_cons_succ]
      refine wpAnyH_take (i := 5) (oi := ⟨some 41, _, _, _, _, _⟩) (v := .string ⟨(num 2).toArray⟩) rfl (by kernel_rfl) (by kernel_rfl) (by kernel_rfl) (fun _ _ _ h => h) (Or.inl ⟨by rfl, fun Xw hSW => by have a := (hSW.cell (p := ⟨b1, 3, none⟩) lwr hb1s).trans q3; go_simp⟩) hHeld ?_
      simp only [Act.put, List.setIfInBounds_toArray, List.set_cons_zero, List.set_cons_succ]
      refine wpAnyH_take (i := 6) (oi := ⟨some 42, _, _, _, _, _⟩) (v := _) rfl (by kernel_rfl) (by kernel_rfl) (by kernel_rfl) (fun _ _ _ h => h) (Or.inl ⟨by rfl, fun Xw hSW => by exact exec_mkM _ rfl rfl⟩) hHeld ?_
      simp only [Act.put, List.setIfInBounds_toArray, List.set_cons_zero, List.set_cons_succ]
      refine wpAnyH_take (i := 7) (oi := ⟨some 43, _, _, _, _, _⟩) (v := .func (.method takeNm) #[.iface TN (.pointer (some ⟨s, 3, none⟩))] #[]) rfl (by kernel_rfl) (by kernel_rfl) (by kernel_rfl) (fun _ _ _ h => h) (Or.inl ⟨by rfl, fun Xw hSW => by go_simp; try exact rfl⟩) hHeld ?_
      simp only [Act.put, List.setIfInBounds_toArray, List.set_cons_zero, List.set_cons_succ]
      refine wpAnyH_take (i := 8) (oi := ⟨some 44, _, _, _, _, _⟩) (v := .iface TN (.pointer (some ⟨s, 3, none⟩))) rfl (by kernel_rfl) (by kernel_rfl) (by kernel_rfl) (fun _ _ _ h => h) (Or.inl ⟨by rfl, fun Xw hSW => by go_simp⟩) hHeld ?_
      simp only [Act.put, List.setIfInBounds_toArray, List.set_cons_zero, List.set_cons_succ]
      refine wpAnyH_ready (rs := [9]) (by kernel_rfl) (by simp) ?_
      refine AllReadyH.cons (o := ⟨some 45, _, _, _, _, _⟩) rfl (fun K hK => ?_) AllReadyH.nil
      go_simp
      have hHeld0 := HFR.out
      refine (numtake_c (n := 2) (by omega) (by omega) (HE1.out.fr hHeld0.drew hs0 hs1) KB.out.drew (o := 3) rfl).mono ?_
      rintro e w5 ⟨rfl, hk5, hf5⟩
      have K5 := Lib.hid hk5
      have F5 := Lib.hid hf5
      clear hk5 hf5 hHeld0
      refine hK.out _ _ (Fr.trans hHeld F5.out (fun i hi => .inl hi)) (fun hHeld => ?_)
      clear hK K
      refine wpAnyH_done (by kernel_rfl) ?_ _
      refine NoPanic.normal ?_
      have F6 := Lib.hid (show Fr (fun k => k = s) wr w5 from hHeld)
      clear hHeld hm
      go_wp2_with fail
      go_roundw
      case rel => exact ⟨3, by first | rfl | simp, by omega, K5.out, HFRL.out.trans F6.out (fun i hi => .inl hi)⟩
      case measure => simp [intOf]
    · have KB := Lib.hid (show Blk wr s 27 [.int .i64 3, .int .i64 0, .int .i64 (-1), .int .i64 2, .int .i64 0, .int .i64 0, .int .i64 0, .int .u8 0, .int .u8 0, .int .i64 0] from hkb)
      clear hkb
      have hm := m_dtake s 9
      simp [takeNm, Tryd.t79] at hm
      go_wp2_with fail
      refine wp_region_noPanic ?_
      refine wp_region_held_drew (S := fun Xw => Fr (fun k => k = s) wr Xw) (by kernel_rfl) ((Fr.refl _ wr).drew) (fun hHeld => ?_)
      refine wpAnyH_take (i := 0) (oi := ⟨some 36, _, _, _, _, _⟩) (v := .iface TD (.pointer (some ⟨s, 9, none⟩))) rfl (by kernel_rfl) (by kernel_rfl) (by kernel_rfl) (fun _ _ _ h => h) (Or.inl ⟨by rfl, fun Xw hSW => by go_simp⟩) hHeld ?_
      simp only [Act.put, List.setIfInBounds_toArray, List.set_cons_zero, List.set_cons_succ]
      refine wpAnyH_take (i := 1) (oi := ⟨some 37, _, _, _, _, _⟩) (v := .slice (some ⟨b1, 0, none⟩) 5 5) rfl (by kernel_rfl) (by kernel_rfl) (by kernel_rfl) (fun _ _ _ h => h) (Or.inl ⟨by rfl, fun Xw hSW => by go_simp⟩) hHeld ?_
      simp only [Act.put, List.setIfInBounds_toArray, List.set_cons_zero, List.set_cons_succ]
      refine wpAnyH_take (i := 2) (oi := ⟨some 38, _, _, _, _, _⟩) (v := .int .i64 3) rfl (by kernel_rfl) (by kernel_rfl) (by kernel_rfl) (fun _ _ _ h => h) (Or.inl ⟨by rfl, fun Xw hSW => by go_simp⟩) hHeld ?_
      simp only [Act.put, List.setIfInBounds_toArray, List.set_cons_zero, List.set_cons_succ]
      refine wpAnyH_take (i := 3) (oi := ⟨some 39, _, _, _, _, _⟩) (v := .int .i64 4) rfl (by kernel_rfl) (by kernel_rfl) (by kernel_rfl) (fun _ _ _ h => h) (Or.inl ⟨by rfl, fun Xw hSW => by go_simp; try decide⟩) hHeld ?_
      simp only [Act.put, List.setIfInBounds_toArray, List.set_cons_zero, List.set_cons_succ]
      refine wpAnyH_take (i := 4) (oi := ⟨some 40, _, _, _, _, _⟩) (v := .pointer (some ⟨b1, 4, none⟩)) rfl (by kernel_rfl) (by kernel_rfl) (by kernel_rfl) (fun _ _ _ h => h) (Or.inl ⟨by rfl, fun Xw hSW => by go_simp⟩) hHeld ?_
      simp only [Act.put, List.setIfInBounds_toArray, List.set_cons_zero, List.set_cons_succ]
      refine wpAnyH_take (i := 5) (oi := ⟨some 41, _, _, _, _, _⟩) (v := .string ⟨([117, 112]).toArray⟩) rfl (by kernel_rfl) (by kernel_rfl) (by kernel_rfl) (fun _ _ _ h => h) (Or.inl ⟨by rfl, fun Xw hSW => by have a := (hSW.cell (p := ⟨b1, 4, none⟩) lwr hb1s).trans q4; go_simp⟩) hHeld ?_
      simp only [Act.put, List.setIfInBounds_toArray, List.set_cons_zero, List.set_cons_succ]
      refine wpAnyH_take (i := 6) (oi := ⟨some 42, _, _, _, _, _⟩) (v := _) rfl (by kernel_rfl) (by kernel_rfl) (by kernel_rfl) (fun _ _ _ h => h) (Or.inl ⟨by rfl, fun Xw hSW => by exact exec_mkM _ rfl rfl⟩) hHeld ?_
      simp only [Act.put, List.setIfInBounds_toArray, List.set_cons_zero, List.set_cons_succ]
      refine wpAnyH_take (i := 7) (oi := ⟨some 43, _, _, _, _, _⟩) (v := .func (.method takeNm) #[.iface TD (.pointer (some ⟨s, 9, none⟩))] #[]) rfl (by kernel_rfl) (by kernel_rfl) (by kernel_rfl) (fun _ _ _ h => h) (Or.inl ⟨by rfl, fun Xw hSW => by go_simp; try exact rfl⟩) hHeld ?_
      simp only [Act.put, List.setIfInBounds_toArray, List.set_cons_zero, List.set_cons_succ]
      refine wpAnyH_take (i := 8) (oi := ⟨some 44, _, _, _, _, _⟩) (v := .iface TD (.pointer (some ⟨s, 9, none⟩))) rfl (by kernel_rfl) (by kernel_rfl) (by kernel_rfl) (fun _ _ _ h => h) (Or.inl ⟨by rfl, fun Xw hSW => by go_simp⟩) hHeld ?_
      simp only [Act.put, List.setIfInBounds_toArray, List.set_cons_zero, List.set_cons_succ]
      refine wpAnyH_ready (rs := [9]) (by kernel_rfl) (by simp) ?_
      refine AllReadyH.cons (o := ⟨some 45, _, _, _, _, _⟩) rfl (fun K hK => ?_) AllReadyH.nil
      go_simp
      have hHeld0 := HFR.out
      refine (dirtake_c (n := 4) (x := [117, 112]) KB.out.drew (o := 9) rfl (by kernel_rfl) (by omega)).mono ?_
      rintro e w5 ⟨rfl, hk5, hf5⟩
      have K5 := Lib.hid hk5
      have F5 := Lib.hid hf5
      clear hk5 hf5 hHeld0
      refine hK.out _ _ (Fr.trans hHeld F5.out (fun i hi => .inl hi)) (fun hHeld => ?_)
      clear hK K
      refine wpAnyH_done (by kernel_rfl) ?_ _
      refine NoPanic.normal ?_
      have F6 := Lib.hid (show Fr (fun k => k = s) wr w5 from hHeld)
      clear hHeld hm
      go_wp2_with fail
      go_roundw
      case rel => exact ⟨4, by first | rfl | simp, by omega, K5.out, HFRL.out.trans F6.out (fun i hi => .inl hi)⟩
      case measure => simp [intOf]
    · have KB := hkb
      have c0 := KB.cell (i := 0) rfl
      have c1 := KB.cell (i := 1) rfl
      have c2 := KB.cell (i := 2) rfl
      have c3 := KB.cell (i := 3) rfl
      have c4 := KB.cell (i := 4) rfl
      have c5 := KB.cell (i := 5) rfl
      have c6 := KB.cell (i := 6) rfl
      have c7 := KB.cell (i := 7) rfl
      have c8 := KB.cell (i := 8) rfl
      have c9 := KB.cell (i := 9) rfl
      have kl := KB.lt
      have HKB := Lib.hid KB
      have ke := HFR.out.blk E1.out (show ¬ (s + 1 = s) by omega)
      have BF := HB1.out.trans (HFR.out.toBelow HB1.out.size (fun i hi => by cases hi; exact hsw))
      have e0 := ke.cell (i := 0) rfl
      have ef := ke.frozen 0
      have HKE2 := Lib.hid ke
      clear KB hkb ke
      go_wp2_with ((with_reducible refine at_storeT 27 ?_); refine Classical.byContradiction (fun hG => ?_))
      refine hG ?_
      clear hG
      refine wp_storeT 27 rfl (.tmp 2) (.tmp 47) rfl sizeTO (vs := [.int .i64 3, .int .i64 0, .int .i64 (-1), .int .i64 2, .int .i64 0, .int .i64 0, .int .i64 0, .int .u8 0, .int .u8 0, .int .i64 4]) (us := [.int .i64 3, .int .i64 0, .int .i64 (-1), .int .i64 2, .int .i64 0, .int .i64 0, .int .i64 0, .int .u8 0, .int .u8 0, .int .i64 4]) (n := 10) (by simp [Value.oneCell']) rfl rfl rfl HKB.out rfl ?_
      intro w6 hk6 hg6 hz6
      have ke6 := HKE2.out.grown hg6 (by simp)
      have e6 := ke6.cell (i := 0) rfl
      have ef6 := ke6.frozen 0
      have d0 := hk6.cell (i := 0) rfl
      have d1 := hk6.cell (i := 1) rfl
      have d2 := hk6.cell (i := 2) rfl
      have d3 := hk6.cell (i := 3) rfl
      have d4 := hk6.cell (i := 4) rfl
      have d5 := hk6.cell (i := 5) rfl
      have d6 := hk6.cell (i := 6) rfl
      have d7 := hk6.cell (i := 7) rfl
      have d8 := hk6.cell (i := 8) rfl
      have d9 := hk6.cell (i := 9) rfl
      have HB6 := Lib.hid (show Below w.heap.size w w6 from BF.grown hg6 BF.size (fun k hk => by cases hk; exact hsw))
      clear c0 c1 c2 c3 c4 c5 c6 c7 c8 c9 e0 ef
      go_wp2_with fail
      refine leaves_cons (f := 47) (args := #[.pointer (some ⟨s, 0, none⟩), .pointer (some ⟨s + 1, 0, none⟩)]) (by simp) (by simp [go_sem]) ?_
      refine (idle_d _ _ _).mono ?_
      rintro e u' w7 ⟨rfl, rfl, rfl⟩
      refine ⟨.tuple #[.agg #[.int .i64 3, .int .i64 0, .int .i64 (-1), .int .i64 2, .int .i64 0, .int .i64 0, .int .i64 0, .int .u8 0, .int .u8 0, .int .i64 4], .int .i64 0], ?_, rfl, ?_⟩
      · have x0 := d0
        simp [results, Tryd.results26, go_sem, *]
      · exact HB6.out.setCell (show w.heap.size ≤ s + 1 by omega) _
end LineW
end Go.Proofs.YtcfkdddflbdfaaaDoor
