/-
  What a commit names: read through method values.
-/
import Derived.Test.YtknckaegpdganaaDoorBytesRefs
import Derived.Test.YtknckaegpdganaaDoorJouSmall
import Derived.Test.YtknckaegpdganaaDoorJouSum
namespace Go.Proofs.YtknckaegpdganaaDoor
-- mine: whole_c same_c awake_c take_c step_c back_c
open Go.RowKit
set_option linter.unusedVariables false
set_option linter.unusedSimpArgs false
set_option maxRecDepth 100000
namespace JouW
open BlkP RowG FrS PushG JournalP SecP SecW JouP
/-- A reader over what is done to a row of another kind. -/
theorem rs_row {α : Type} {e : Enc α} {E : TypeId} {w w' : World} {B p : Nat} {v : Value} {l : List α} {s : BytesW.St} (h : BytesW.RS w p s) (ho : RowG.Own e E w B v l) (hE : E ≠ 5) (hp : v.ownBlock ≠ some p) (hg : w.grownBy w' v.ownBlock) : BytesW.RS w' p s := by
  obtain ⟨A, c, h1, h2, h3⟩ := h
  refine ⟨A, c, (hg.block p (BytesW.lt_of_heap h1) (fun q => hp q.symm)).trans h1, ?_, h3⟩
  cases hv : v.ownBlock with
  | none =>
    rw [hv] at hg
    refine h2.keep fun b cs fr hh => hg.block b (BytesW.lt_of_heap hh) (by simp)
  | some g =>
    obtain ⟨us, hu⟩ := own_cells ho hv
    rw [hv] at hg
    exact h2.grown hu hE hg
theorem nm_stuck {home : Int → Bool} {f : Nat → Sec} {a : Nat} {s : BytesW.St} {i : Nat} (h : nmTo home f a s i = none) : ∀ j, nmTo home f a s (i + j) = none
  | 0 => h
  | j + 1 => by
    have ih := nm_stuck h j
    show nmTo home f a s (i + j + 1) = none
    rw [nmTo, ih]
theorem nm_next {home : Int → Bool} {f : Nat → Sec} {a : Nat} {s s1 : BytesW.St} {i : Nat} {g : Grp} (h : nmTo home f a s i = some (g, s1)) (hq : home ((BytesW.rNum s1).1 : Int) = true) : nmTo home f a s (i + 1) = some (g ++ [((BytesW.rNum s1).1, f (a + 1 + i))], (BytesW.rFixed (BytesW.rNum s1).2 4).2) := by
  rw [nmTo, h]
  simp only [hq, if_true]
theorem nm_fails {home : Int → Bool} {f : Nat → Sec} {a : Nat} {s s1 : BytesW.St} {i : Nat} {g : Grp} (h : nmTo home f a s i = some (g, s1)) (hq : home ((BytesW.rNum s1).1 : Int) = false) : nmTo home f a s (i + 1) = none := by
  rw [nmTo, h]
  simp only [hq]
  rfl
/-- What a call tells, a reader turned. -/
def NamedP (w : World) (p : Nat) (l : Grp) (e : Ending) (w' : World) : Prop := ∃ v, e = .returned v ∧ RowG.Own encA TA w' w.heap.size v l ∧ Fr (fun k => k = p) w w'
theorem nm_none {home : Int → Bool} {f : Nat → Sec} {a m : Nat} {s s1 s2 : BytesW.St} {N i : Nat} (h1 : (BytesW.rFixed s 4).2 = s1) (h2 : BytesW.rNum s1 = (N, s2)) (h : m < N ∨ (i ≤ N ∧ nmTo home f a s2 i = none)) : nmOf home f a m s = [] := by
  unfold nmOf
  rw [h1, h2]
  rcases h with h | ⟨hi, h⟩
  · rw [if_pos h]
  · split
    · rfl
    · obtain ⟨j, rfl⟩ : ∃ j, N = i + j := ⟨N - i, by omega⟩
      simp only [nm_stuck h j]
theorem nm_some {home : Int → Bool} {f : Nat → Sec} {a m : Nat} {s s1 s2 s3 : BytesW.St} {N : Nat} {g : Grp} (h1 : (BytesW.rFixed s 4).2 = s1) (h2 : BytesW.rNum s1 = (N, s2)) (hm : ¬ m < N) (h : nmTo home f a s2 N = some (g, s3)) : nmOf home f a m s = g := by
  unfold nmOf
  rw [h1, h2]
  rw [if_neg hm]
  simp only [h]
set_option maxHeartbeats 16000000 in
theorem named_c {w : World} {B pd p a m : Nat} {d : Dk} {S : Nat → Prop} {s : BytesW.St} (h : Dsk w B pd d S) (hp : BytesW.RS w p s) (hpS : ¬ S p) (ha : a + m < d.n) (hm : m ≤ 60) :
    Calls Tryd.prog 74 #[jv (some ⟨pd, 0, none⟩) (a : Int) (m : Int), .func (.func 75) #[.pointer (some ⟨p, 0, none⟩)] #[], .func (.func 76) #[.pointer (some ⟨p, 0, none⟩)] #[]] w (NamedP w p (nmOf (homeB d.n a m) d.now a m s)) := by
  have Q := Lib.hid h
  have HPS := Lib.hid hpS
  have HPL := Lib.hid hp.lt
  have hnn := h.ok.hi
  have HLT := Lib.hid (show ∀ k, S k → k < w.heap.size from fun k hk => (h.ge hk).2)
  have R0 := Lib.hid hp
  obtain ⟨v1, s1, e1⟩ : ∃ v1 s1, BytesW.rFixed s 4 = (v1, s1) := ⟨_, _, rfl⟩
  obtain ⟨N, s2, e2⟩ : ∃ N s2, BytesW.rNum s1 = (N, s2) := ⟨_, _, rfl⟩
  have E1 := Lib.hid e1
  have E2 := Lib.hid e2
  have hN := BytesW.rNum_lt s1
  rw [e2] at hN
  simp only at hN
  unfold jv
  clear h hp e1 e2 hpS
  go_enter Tryd.func74, Tryd.ntmps74
  go_wp2_with fail
  refine calls_named (S := fun W => Below w.heap.size w W ∧ Blk W w.heap.size TJ [.pointer (some ⟨pd, 0, none⟩), .int .i64 (a : Int), .int .i64 (m : Int)]) ⟨by (repeat' (first | (with_reducible exact Below.refl _ _) | (with_reducible refine Below.setCell ?_ (by (first | omega | (simp; done) | (simp; omega))) _) | (with_reducible refine Below.alloc ?_ (by (first | omega | (simp; done) | (simp; omega))) _) | (with_reducible refine Below.drew ?_) | (with_reducible refine below_drewN ?_ _))), by (repeat' (first | (with_reducible refine BlkP.Blk.drew ?_) | (with_reducible refine BlkP.Blk.drewN ?_ _) | (with_reducible refine BlkP.Blk.setAt (us := ?_) (by first | omega | (simp; done) | (simp; omega)) rfl ?_ ?_) | (with_reducible refine BlkP.Blk.otherAt ?_ (by first | omega | (simp; done) | (simp; omega))) | (with_reducible refine BlkP.Blk.newA' (by first | omega | (simp; done) | (simp; omega)) rfl) | (with_reducible refine BlkP.Blk.alloc ?_ _) | (exact rfl)))⟩ (fun w1 hq1 => ?_)
  obtain ⟨hb1, hk1⟩ := hq1
  refine (BytesW.fixed_c (R0.out.below hb1) E1.out).mono ?_
  rintro e w2 ⟨rfl, hg2, hs2⟩
  have F2 := Lib.hid ((Fr.below (fun k => k = p) hb1).trans (Fr.grown (S := fun k => k = p) hg2 (fun i hi => by injection hi with hi; exact hi.symm)) (fun i hi => .inl hi))
  have K2 := Lib.hid (hk1.grown hg2 (fun e => by have := HPL.out; injection e with e; omega))
  have RS2 := Lib.hid hs2
  clear hb1 hk1 hg2 hs2
  go_wp2_with fail
  refine (BytesW.num_c RS2.out E2.out).mono ?_
  rintro e w3 ⟨rfl, hg3, hs3⟩
  have F3 := Lib.hid (F2.out.trans (Fr.grown (S := fun k => k = p) hg3 (fun i hi => by injection hi with hi; exact hi.symm)) (fun i hi => .inl hi))
  have hk3 := K2.out.grown hg3 (fun e => by have := HPL.out; injection e with e; omega)
  have K3 := Lib.hid hk3
  have RS3 := Lib.hid hs3
  have k0 := hk3.cell (i := 0) rfl
  have k1 := hk3.cell (i := 1) rfl
  have k2 := hk3.cell (i := 2) rfl
  have kl := hk3.lt
  clear hg3 hs3 hk3
  by_cases hmN : m < N
  · have hmI : (m : Int) < (N : Int) := by omega
    have HZ := Lib.hid (nm_none (home := homeB d.n a m) (f := d.now) (a := a) (i := 0) (by rw [E1.out]) E2.out (.inl hmN))
    clear hmN
    go_wp2_with fail
    go_ret
    exact ⟨_, rfl, by rw [HZ.out]; exact Own.nil _ _ _ _, F3.out⟩
  have hmI : ¬ (m : Int) < (N : Int) := by omega
  go_wp2_with fail
  go_loopw [8, 22] (fun v8 v22 wr => ∃ (i : Nat) (g : Grp) (s' : BytesW.St) (vr : Value), v22 = .int .i64 (i : Int) ∧ vr = v8 ∧ i ≤ N ∧ nmTo (homeB d.n a m) d.now a s2 i = some (g, s') ∧ RowG.Own encA TA wr w.heap.size vr g ∧ BytesW.RS wr p s' ∧ Blk wr w.heap.size TJ [.pointer (some ⟨pd, 0, none⟩), .int .i64 (a : Int), .int .i64 (m : Int)] ∧ Fr (fun k => k = p) w wr ∧ ∀ g, vr.ownBlock = some g → w.heap.size < g) (fun _ v _ => N - (RowKit.intOf v).toNat)
  case atStart => exact ⟨0, [], s2, _, rfl, rfl, Nat.zero_le _, rfl, Own.nil _ _ _ _, RS3.out, K3.out, F3.out, fun g hg => by cases hg⟩
  case round =>
    obtain ⟨i, g, s', vr, rfl, rfl, hi, hnm, ho, hrs, hkr, hf, hvr⟩ := hrel
    have HNM := Lib.hid hnm
    have OW := Lib.hid ho
    have RSR := Lib.hid hrs
    have KR := Lib.hid hkr
    have FR := Lib.hid hf
    have HVR := Lib.hid hvr
    clear hnm ho hrs hkr hf hvr k0 k1 k2 kl
    by_cases hin : i < N
    · have hiI : (i : Int) < (N : Int) := by omega
      obtain ⟨x, s4, e4⟩ : ∃ x s4, BytesW.rNum s' = (x, s4) := ⟨_, _, rfl⟩
      have hx := BytesW.rNum_lt s'
      rw [e4] at hx
      simp only at hx
      have E4 := Lib.hid e4
      clear e4
      go_wp2_with fail
      refine (BytesW.num_c RSR.out E4.out).mono ?_
      rintro e w4 ⟨rfl, hg4, hs4⟩
      have F4 := Lib.hid (FR.out.trans (Fr.grown (S := fun k => k = p) hg4 (fun i hi => by injection hi with hi; exact hi.symm)) (fun i hi => .inl hi))
      have hk4 := KR.out.grown hg4 (fun e => by have := HPL.out; injection e with e; omega)
      have K4 := Lib.hid hk4
      have RS4 := Lib.hid hs4
      have O4 := Lib.hid (OW.out.grown hg4 (.inr (fun e => by have := HVR.out _ e; have := HPL.out; omega)))
      have Q4 := Lib.hid (Q.out.fr F4.out (fun k hk e => HPS.out (e ▸ hk)))
      have k0 := hk4.cell (i := 0) rfl
      have k1 := hk4.cell (i := 1) rfl
      have k2 := hk4.cell (i := 2) rfl
      have kl := hk4.lt
      clear hg4 hs4 hk4
      by_cases hx63 : x < 9223372036854775808
      · obtain ⟨q, hq⟩ : ∃ q, homeB d.n a m (x : Int) = q := ⟨_, rfl⟩
        have HQ := Lib.hid hq
        clear hq
        go_wp2_with fail
        refine (isHome_c Q4.out (by omega) HQ.out).mono ?_
        rintro e w5 ⟨rfl, hb5⟩
        have F5 := Lib.hid (F4.out.trans (Fr.below (fun k => k = p) hb5) (fun i hi => .inl hi))
        have hk5 := K4.out.below hb5
        have K5 := Lib.hid hk5
        have RS5 := Lib.hid (RS4.out.below hb5)
        have O5 := Lib.hid (O4.out.below hb5)
        have Q5 := Lib.hid (Q4.out.below hb5)
        clear k0 k1 k2 kl
        have k0 := hk5.cell (i := 0) rfl
        have k1 := hk5.cell (i := 1) rfl
        have k2 := hk5.cell (i := 2) rfl
        have kl := hk5.lt
        clear hb5 hk5
        cases q with
        | false =>
          have HZ := Lib.hid (nm_none (f := d.now) (a := a) (m := m) (i := i + 1) (s := s) (by rw [E1.out]) E2.out (.inr ⟨hin, nm_fails HNM.out (by rw [E4.out]; exact HQ.out)⟩))
          go_wp2_with fail
          go_ret
          exact ⟨_, rfl, by rw [HZ.out]; exact Own.nil _ _ _ _, F5.out⟩
        | true =>
          have HNX := Lib.hid (nm_next HNM.out (show homeB d.n a m (((BytesW.rNum s').1 : Nat) : Int) = true from by rw [E4.out]; exact HQ.out))
          obtain ⟨y, hy⟩ : ∃ y, d.now (a + 1 + i) = y := ⟨_, rfl⟩
          have HY := Lib.hid (show readD d ((a + 1 + i : Nat) : Int) = y by
            unfold readD
            rw [if_pos (inD_iff.2 ⟨by omega, by omega⟩), Int.toNat_natCast]
            exact hy)
          have HGL := Lib.hid (show g.length ≤ 1000000 by have := (nm_facts _ _ _ _ _ _ _ HNM.out).1; omega)
          obtain ⟨v5, s6, e6⟩ : ∃ v5 s6, BytesW.rFixed s4 4 = (v5, s6) := ⟨_, _, rfl⟩
          have E6 := Lib.hid e6
          rw [E4.out, hy] at HNX
          simp only [E6.out] at HNX
          clear hy e6
          have hz5 := F5.out.size
          go_wp2_with fail
          have HJV := Lib.hid (show ¬ vr.ownBlock = some w.heap.size from fun q => by have := HVR.out _ q; omega)
          refine wp_region_noPanic ?_
          refine wp_region_held_drew (S := fun W => Fr (fun k => vr.ownBlock = some k) w5 W) (by kernel_rfl) ((Fr.refl (fun k => vr.ownBlock = some k) w5).drew) (fun hHeld => ?_)
          refine wpAnyH_take (i := 0) (oi := ⟨some 32, _, _, _, _, _⟩) (v := vr) rfl (by kernel_rfl) (by kernel_rfl) (by kernel_rfl) (fun _ _ _ h => h) (Or.inl ⟨by rfl, fun W hSW => by go_simp⟩) hHeld ?_
          simp only [Act.put, List.setIfInBounds_toArray, List.set_cons_zero, List.set_cons_succ]
          refine wpAnyH_take (i := 1) (oi := ⟨some 33, _, _, _, _, _⟩) (v := .int .i64 (x : Int)) rfl (by kernel_rfl) (by kernel_rfl) (by kernel_rfl) (fun _ _ _ h => h) (Or.inl ⟨by rfl, fun W hSW => by go_simp⟩) hHeld ?_
          simp only [Act.put, List.setIfInBounds_toArray, List.set_cons_zero, List.set_cons_succ]
          refine wpAnyH_take (i := 2) (oi := ⟨some 34, _, _, _, _, _⟩) (v := .agg #[.pointer (some ⟨pd, 0, none⟩), .int .i64 (a : Int), .int .i64 (m : Int)]) rfl (by kernel_rfl) (by kernel_rfl) (by kernel_rfl) (fun _ _ _ h => h) (Or.inl ⟨by rfl, fun W hSW => by have a0 := (hSW.cell (p := ⟨w.heap.size, 0, none⟩) kl HJV.out).trans k0; have a1 := (hSW.cell (p := ⟨w.heap.size, 1, none⟩) kl HJV.out).trans k1; have a2 := (hSW.cell (p := ⟨w.heap.size, 2, none⟩) kl HJV.out).trans k2; go_simp⟩) hHeld ?_
          simp only [Act.put, List.setIfInBounds_toArray, List.set_cons_zero, List.set_cons_succ]
          refine wpAnyH_take (i := 3) (oi := ⟨some 35, _, _, _, _, _⟩) (v := .agg #[.pointer (some ⟨pd, 0, none⟩), .int .i64 (a : Int), .int .i64 (m : Int)]) rfl (by kernel_rfl) (by kernel_rfl) (by kernel_rfl) (fun _ _ _ h => h) (Or.inl ⟨by rfl, fun W hSW => by have a0 := (hSW.cell (p := ⟨w.heap.size, 0, none⟩) kl HJV.out).trans k0; have a1 := (hSW.cell (p := ⟨w.heap.size, 1, none⟩) kl HJV.out).trans k1; have a2 := (hSW.cell (p := ⟨w.heap.size, 2, none⟩) kl HJV.out).trans k2; go_simp⟩) hHeld ?_
          simp only [Act.put, List.setIfInBounds_toArray, List.set_cons_zero, List.set_cons_succ]
          refine wpAnyH_take (i := 4) (oi := ⟨some 36, _, _, _, _, _⟩) (v := .int .i64 (i : Int)) rfl (by kernel_rfl) (by kernel_rfl) (by kernel_rfl) (fun _ _ _ h => h) (Or.inl ⟨by rfl, fun W hSW => by go_simp⟩) hHeld ?_
          simp only [Act.put, List.setIfInBounds_toArray, List.set_cons_zero, List.set_cons_succ]
          refine wpAnyH_ready (rs := [5]) (by kernel_rfl) (by simp) ?_
          refine AllReadyH.cons (o := ⟨some 37, _, _, _, _, _⟩) rfl (fun K hK => ?_) AllReadyH.nil
          go_simp
          refine (body_c (a := a) (i := i) (m := (m : Int)) (by omega)).mono ?_
          rintro e w6 ⟨rfl, hb6⟩
          have B6 := Lib.hid (show Below w5.heap.size w5 w6 from ((Below.refl _ w5).drew).trans hb6)
          go_wp2_with fail
          refine hK.out _ _ (Fr.below _ B6.out) (fun hHeld => ?_)
          clear hK K hb6
          refine wpAnyH_ready (rs := [6]) (by kernel_rfl) (by simp) ?_
          refine AllReadyH.cons (o := ⟨some 38, _, _, _, _, _⟩) rfl (fun K hK => ?_) AllReadyH.nil
          go_simp
          refine (read_c (Q5.out.below B6.out) HY.out).mono ?_
          rintro e w7 ⟨rfl, hb7⟩
          have B7 := Lib.hid (below_t B6.out hb7)
          go_wp2_with fail
          refine hK.out _ _ (Fr.below _ B7.out) (fun hHeld => ?_)
          clear hK K hb7
          refine wpAnyH_take (i := 7) (oi := ⟨some 39, _, _, _, _, _⟩) (v := .agg #[.int .i64 (x : Int), .string (str y)]) rfl (by kernel_rfl) (by kernel_rfl) (by kernel_rfl) (fun _ _ _ h => h) (Or.inl ⟨by rfl, fun W hSW => by go_simp⟩) hHeld ?_
          simp only [Act.put, List.setIfInBounds_toArray, List.set_cons_zero, List.set_cons_succ]
          refine wpAnyH_ready (rs := [8]) (by kernel_rfl) (by simp) ?_
          refine AllReadyH.cons (o := ⟨some 40, _, _, _, _, _⟩) rfl (fun K hK => ?_) AllReadyH.nil
          go_simp
          refine hK.out _ _ (Fr.below _ (B7.out.alloc (by have := B7.out.size; omega) _)) (fun hHeldA => ?_)
          clear hK K
          refine wpAnyH_ready (rs := [9]) (by kernel_rfl) (by simp) ?_
          refine AllReadyH.cons (o := ⟨some 41, _, _, _, _, _⟩) rfl (fun K hK => ?_) AllReadyH.nil
          refine RowE.step_pushE tyA (by decide) rfl (.tmp 32) (.tmp 40) rfl (w0 := w7) (B := w.heap.size) (v := vr) (l := g) (y := (x, y)) rfl rfl rfl (O5.out.below B7.out) rfl rfl HGL.out (by have := B7.out.size; omega) ?_
          intro gn cn w9 hpu
          have hfr : Fr (fun k => vr.ownBlock = some k) w5 w9 := (Fr.below _ B7.out).trans (Fr.grown (S := fun k => vr.ownBlock = some k) hpu.2.1 (fun i hi => hi)) (fun i hi => .inl hi)
          have HFR := Lib.hid hfr
          have HO9 := Lib.hid hpu.1
          have HG9 := Lib.hid hpu.2.2
          have R9 := Lib.hid (rs_row (RS5.out.below B7.out) (O5.out.below B7.out) (by decide) (fun e => by have := HVR.out _ e; have := HPL.out; omega) hpu.2.1)
          clear hpu
          refine hK.out _ _ hfr (fun hHeldD => ?_)
          clear hK K hfr
          refine wpAnyH_ready (rs := [10]) (by kernel_rfl) (by simp) ?_
          refine AllReadyH.cons (o := ⟨some 8, _, _, _, _, _⟩) rfl (fun K hK => ?_) AllReadyH.nil
          go_simp
          refine hK.out _ _ HFR.out (fun hHeldE => ?_)
          clear hK K
          refine wpAnyH_done (by kernel_rfl) ?_ _
          refine NoPanic.normal ?_
          have KK := Lib.hid (HFR.out.blk K5.out HJV.out)
          have FK := Lib.hid (F5.out.trans HFR.out (fun k hk => .inr (by have := HVR.out _ hk; omega)))
          have RK := Lib.hid R9.out
          have OK := Lib.hid HO9.out
          have HGK := Lib.hid (show ∀ k, (Value.slice (some ⟨gn, 0, none⟩) (g.length + 1) cn).ownBlock = some k → w.heap.size < k from fun k hk => by
            have hk' : gn = k := by simpa [Value.ownBlock] using hk
            subst hk'
            rcases HG9.out with q | q
            · exact HVR.out _ q
            · have := B7.out.size
              omega)
          clear hHeldE
          have hk6 := KK.out
          clear k0 k1 k2 kl
          go_wp2_with fail
          refine (BytesW.fixed_c RK.out E6.out).mono ?_
          rintro e w8 ⟨rfl, hg8, hs8⟩
          have F8 := Lib.hid (FK.out.trans (Fr.grown (S := fun k => k = p) hg8 (fun i hi => by injection hi with hi; exact hi.symm)) (fun i hi => .inl hi))
          have K8 := Lib.hid (hk6.grown hg8 (fun e => by have := HPL.out; injection e with e; omega))
          have O8 := Lib.hid (OK.out.grown hg8 (.inr (fun e => by have := HGK.out _ e; have := HPL.out; omega)))
          have RS8 := Lib.hid hs8
          clear hg8 hs8 hk6
          go_wp2_with fail
          go_roundw
          case rel => exact ⟨i + 1, _, _, _, by first | rfl | (congr 1; omega), rfl, by omega, HNX.out, O8.out, RS8.out, K8.out, F8.out, HGK.out⟩
          case measure => first | (simp [RowKit.intOf]; done) | (simp [RowKit.intOf]; omega)
      · have hx64 : ¬ (x : Int) < 9223372036854775808 := by omega
        have HQ := Lib.hid (show homeB d.n a m (x : Int) = false by
          cases hq : homeB d.n a m (x : Int) with
          | false => rfl
          | true =>
            have := (homeB_iff.1 hq).2.1
            omega)
        go_wp2_with fail
        refine (isHome_c (r := false) Q4.out (by omega) ?_).mono ?_
        · cases hq : homeB d.n a m (wrap64 (x : Int)) with
          | false => rfl
          | true =>
            have := (homeB_iff.1 hq).1
            unfold wrap64 at this
            omega
        · rintro e w5 ⟨rfl, hb5⟩
          have F5 := Lib.hid (F4.out.trans (Fr.below (fun k => k = p) hb5) (fun i hi => .inl hi))
          have HZ := Lib.hid (nm_none (f := d.now) (a := a) (m := m) (i := i + 1) (s := s) (by rw [E1.out]) E2.out (.inr ⟨hin, nm_fails HNM.out (by rw [E4.out]; exact HQ.out)⟩))
          clear hb5 k0 k1 k2 kl
          go_wp2_with fail
          go_ret
          exact ⟨_, rfl, by rw [HZ.out]; exact Own.nil _ _ _ _, F5.out⟩
    · have hie : i = N := by omega
      have hiI : ¬ (i : Int) < (N : Int) := by omega
      have HZ := Lib.hid (nm_some (f := d.now) (a := a) (m := m) (s := s) (by rw [E1.out]) E2.out (by omega) (by rw [← hie]; exact HNM.out))
      clear hin hie
      go_wp2_with fail
      go_ret
      exact ⟨_, rfl, by rw [HZ.out]; exact OW.out, FR.out⟩
end JouW
end Go.Proofs.YtknckaegpdganaaDoor


/-
  The group whose commit stands.
-/
namespace Go.Proofs.YtknckaegpdganaaDoor
-- mine: whole_c same_c awake_c take_c step_c back_c
open Go.RowKit
set_option linter.unusedVariables false
set_option linter.unusedSimpArgs false
set_option maxRecDepth 100000
namespace JouW
open BlkP RowG FrS PushG JournalP SecP SecW JouP CrcW
theorem run_uptoJ {w : World} {s : Sec} {k : Nat} (h : k ≤ s.length) : (Instr.sliceAt 9 (.string (str s)) none (some (.int .i64 (k : Int))) none).run Tryd.prog w = .ok (.string (str (s.take k))) w := by
  have h1 : (k : Int) ≤ (s.length : Int) := by omega
  have hz := str_size s
  have he : (str s).extract 0 k = str (s.take k) := by
    unfold str
    apply ByteArray.ext
    simp [ByteArray.extract, ByteArray.copySlice]
  simp [Instr.sliceAt, Instr.slice, run_underlying BytesW.under9, Instr.sliceBounds, run_sliceBound, h1, h, Result.andThen, hz, he]
theorem run_fromJ {w : World} {s : Sec} {k : Nat} (h : k ≤ s.length) : (Instr.sliceAt 9 (.string (str s)) (some (.int .i64 (k : Int))) none none).run Tryd.prog w = .ok (.string (str (s.drop k))) w := by
  have h1 : (k : Int) ≤ (s.length : Int) := by omega
  have hz := str_size s
  have he : (str s).extract k s.length = str (s.drop k) := by
    unfold str
    apply ByteArray.ext
    simp [ByteArray.extract, ByteArray.copySlice]
    try exact List.take_of_length_le (by rw [List.length_drop]; exact Nat.le_refl _)
  simp [Instr.sliceAt, Instr.slice, run_underlying BytesW.under9, Instr.sliceBounds, run_sliceBound, h1, h, Result.andThen, hz, he]
theorem str_inj {a b : Sec} (h : str a = str b) : a = b := by
  rw [← str_toList a, ← str_toList b, h]
theorem prefix_of {t c : Sec} : c.isPrefixOf t = (decide (c.length ≤ t.length) && decide (t.take c.length = c)) := by
  rw [Bool.eq_iff_iff, List.isPrefixOf_iff_prefix, Bool.and_eq_true, decide_eq_true_eq, decide_eq_true_eq, List.prefix_iff_eq_take]
  constructor
  · intro h
    refine ⟨?_, h.symm⟩
    have := congrArg List.length h
    rw [List.length_take] at this
    omega
  · rintro ⟨_, h⟩
    exact h.symm
set_option maxHeartbeats 4000000 in
theorem hasPrefix_c {w : World} {t c : Sec} {r : Bool} (hr : c.isPrefixOf t = r) :
    Calls Tryd.prog 80 #[.string (str t), .string (str c)] w fun e w' => e = .returned (.bool r) ∧ w' = w := by
  have z1 := str_size t
  have z2 := str_size c
  rw [prefix_of] at hr
  by_cases h : c.length ≤ t.length
  · have hI : (c.length : Int) ≤ (t.length : Int) := by omega
    have r1 := run_uptoJ (w := w) h
    rw [decide_eq_true h, Bool.true_and] at hr
    by_cases he : t.take c.length = c
    · rw [decide_eq_true he] at hr
      subst hr
      rw [he] at r1
      clear he
      go_enter Tryd.func80, Tryd.ntmps80
      go_wp2_with fail
      go_ret
      exact ⟨by first | rfl | simp, rfl⟩
    · rw [decide_eq_false he] at hr
      subst hr
      have hne3 : ¬ (str (t.take c.length)).toList = (str c).toList := by
        rw [str_toList, str_toList]
        exact he
      clear he
      go_enter Tryd.func80, Tryd.ntmps80
      go_wp2_with fail
      go_ret
      exact ⟨by first | rfl | simp [hne3], rfl⟩
  · have hI : ¬ (c.length : Int) ≤ (t.length : Int) := by omega
    rw [decide_eq_false h, Bool.false_and] at hr
    subst hr
    go_enter Tryd.func80, Tryd.ntmps80
    go_wp2_with fail
    go_ret
    exact ⟨by first | rfl | simp, rfl⟩
theorem cutPrefix_i {w : World} {t c : Sec} {r : Bool} (hr : c.isPrefixOf t = r) :
    Calls Tryd.prog 99 #[.string (str t), .string (str c)] w fun e w' => e = .returned (.tuple #[.string (str (if r then t.drop c.length else t)), .bool r]) ∧ w' = w := by
  have HR := Lib.hid hr
  have z1 := str_size t
  have z2 := str_size c
  rw [prefix_of] at hr
  cases r with
  | true =>
    have hl : c.length ≤ t.length := by
      rw [Bool.and_eq_true, decide_eq_true_eq] at hr
      exact hr.1
    have r1 := run_fromJ (w := w) hl
    clear hr
    go_enter Tryd.func99, Tryd.ntmps99
    go_wp2_with fail
    refine (hasPrefix_c HR.out).mono ?_
    rintro e w1 ⟨rfl, hw⟩
    obtain rfl := hw.symm
    go_wp2_with fail
    refine bodyPost_ret (v := .tuple #[.string (str (t.drop c.length)), .bool true]) (by simp [results, Tryd.results99, go_sem]) rfl ?_
    exact ⟨rfl, rfl⟩
  | false =>
    clear hr
    go_enter Tryd.func99, Tryd.ntmps99
    go_wp2_with fail
    refine (hasPrefix_c HR.out).mono ?_
    rintro e w1 ⟨rfl, hw⟩
    obtain rfl := hw.symm
    go_wp2_with fail
    refine bodyPost_ret (v := .tuple #[.string (str t), .bool false]) (by simp [results, Tryd.results99, go_sem]) rfl ?_
    exact ⟨rfl, rfl⟩
theorem cutPrefix_c {w : World} {t c : Sec} {r : Bool} (hr : c.isPrefixOf t = r) :
    Calls Tryd.prog 77 #[.string (str t), .string (str c)] w fun e w' => e = .returned (.tuple #[.string (str (if r then t.drop c.length else t)), .bool r]) ∧ w' = w := by
  have HR := Lib.hid hr
  obtain ⟨z, hz⟩ : ∃ z, (if r then t.drop c.length else t) = z := ⟨_, rfl⟩
  have HZ := Lib.hid hz
  rw [hz]
  clear hr hz
  go_enter Tryd.func77, Tryd.ntmps77
  go_wp2_with fail
  refine (cutPrefix_i HR.out).mono ?_
  rintro e w1 ⟨rfl, hw⟩
  obtain rfl := hw.symm
  rw [HZ.out]
  go_wp2_with fail
  refine bodyPost_ret (v := .tuple #[.string (str z), .bool r]) (by simp [results, Tryd.results77, go_sem]) rfl ?_
  exact ⟨rfl, rfl⟩
theorem nmOf_fine {home : Int → Bool} {f : Nat → Sec} {a m : Nat} {s : BytesW.St} (hf : ∀ i, (f i).length = 512) : (nmOf home f a m s).length ≤ m ∧ (∀ x ∈ nmOf home f a m s, home x.1 = true) ∧ ∀ x ∈ nmOf home f a m s, x.2.length = 512 := by
  unfold nmOf
  split
  · refine ⟨Nat.zero_le _, ?_, ?_⟩ <;> intro x hx <;> cases hx
  · rename_i hm
    split
    · rename_i g s1 h
      have hh := nm_facts _ _ _ _ _ _ _ h
      refine ⟨by rw [hh.1]; omega, hh.2.1, fun x hx => ?_⟩
      obtain ⟨k, hk⟩ := List.getElem?_of_mem hx
      rw [hh.2.2 k x hk]
      exact hf _
    · refine ⟨Nat.zero_le _, ?_, ?_⟩ <;> intro x hx <;> cases hx
set_option maxHeartbeats 16000000 in
theorem standing_c {w : World} {B pd a m : Nat} {d : Dk} {S : Nat → Prop} (hT : Tab w) (h : Dsk w B pd d S) (ha : a + m < d.n) (hm : m ≤ 60) :
    Calls Tryd.prog 48 #[jv (some ⟨pd, 0, none⟩) (a : Int) (m : Int)] w fun e w' => ∃ v, e = .returned v ∧ RowG.Own encA TA w' w.heap.size v (standJ d.n a m d.now) ∧ Below w.heap.size w w' := by
  have Q := Lib.hid h
  have HT := Lib.hid hT
  have HLT := Lib.hid (show ∀ k, S k → k < w.heap.size from fun k hk => (h.ge hk).2)
  have hnn := h.ok.hi
  have HNOW := Lib.hid h.ok.now
  have HST := Lib.hid (stP_is (n := d.n) (a := a) (m := m) (f := d.now) hnn hm h.ok.now)
  obtain ⟨y, hy⟩ : ∃ y, d.now a = y := ⟨_, rfl⟩
  have HY := Lib.hid hy
  have HYL := Lib.hid (show y.length = 512 by rw [← hy]; exact h.ok.now a)
  have HRD := Lib.hid (show readD d (a : Int) = y by
    unfold readD
    rw [if_pos (inD_iff.2 ⟨by omega, by omega⟩), Int.toNat_natCast]
    exact hy)
  unfold jv
  clear h hT hy
  go_enter Tryd.func48, Tryd.ntmps48
  go_wp2_with fail
  refine calls_named (S := fun W => Below w.heap.size w W ∧ Blk W w.heap.size TJ [.pointer (some ⟨pd, 0, none⟩), .int .i64 (a : Int), .int .i64 (m : Int)]) ⟨by (repeat' (first | (with_reducible exact Below.refl _ _) | (with_reducible refine Below.setCell ?_ (by (first | omega | (simp; done) | (simp; omega))) _) | (with_reducible refine Below.alloc ?_ (by (first | omega | (simp; done) | (simp; omega))) _) | (with_reducible refine Below.drew ?_) | (with_reducible refine below_drewN ?_ _))), by (repeat' (first | (with_reducible refine BlkP.Blk.drew ?_) | (with_reducible refine BlkP.Blk.drewN ?_ _) | (with_reducible refine BlkP.Blk.setAt (us := ?_) (by first | omega | (simp; done) | (simp; omega)) rfl ?_ ?_) | (with_reducible refine BlkP.Blk.otherAt ?_ (by first | omega | (simp; done) | (simp; omega))) | (with_reducible refine BlkP.Blk.newA' (by first | omega | (simp; done) | (simp; omega)) rfl) | (with_reducible refine BlkP.Blk.alloc ?_ _) | (exact rfl)))⟩ (fun w1 hq1 => ?_)
  obtain ⟨hb1, hk1⟩ := hq1
  refine (read_c (Q.out.below hb1) HRD.out).mono ?_
  rintro e w2 ⟨rfl, hb2⟩
  have B2 := Lib.hid (below_t hb1 hb2)
  have K2 := Lib.hid (hk1.below hb2)
  clear hb1 hk1 hb2
  go_wp2_with ((with_reducible refine at_slot 13 ?_); refine Classical.byContradiction (fun hG => ?_))
  refine hG ?_
  clear hG
  refine BytesW.wp_bytes rfl (.tmp 12) rfl (l := y) rfl ?_ (by rw [HYL.out]; decide)
  intro c3 w3 cs3 hh3 hc31 hc32 hcs3 hcl3 hb3 hz3
  have B3 := Lib.hid (below_t B2.out hb3)
  have hk3 := K2.out.below hb3
  have K3 := Lib.hid hk3
  have A3 := Lib.hid (show BytesW.At w3 (some ⟨w2.heap.size, 0, none⟩) y from fun _ => ⟨w2.heap.size, 0, cs3, _, rfl, hh3, fun i x hx => by rw [Nat.zero_add]; exact hcl3 i x hx⟩)
  clear hh3 hcs3 hcl3 hb3 hz3 hc31 hc32
  go_wp2_with fail
  refine (BytesW.newReader_c A3.out (by have := HYL.out; omega)).mono ?_
  rintro e w4 ⟨p, rfl, hrs, hp1, hp2, hb4⟩
  have B4 := Lib.hid (below_t B3.out hb4)
  have hk4 := hk3.below hb4
  have K4 := Lib.hid hk4
  have R4 := Lib.hid hrs
  have HP1 := Lib.hid (show w.heap.size < p from by have := hk3.lt; omega)
  have Q4 := Lib.hid (Q.out.below B4.out)
  have k0 := hk4.cell (i := 0) rfl
  have k1 := hk4.cell (i := 1) rfl
  have k2 := hk4.cell (i := 2) rfl
  have kl := hk4.lt
  clear hb4 hk3 hk4 hrs hp1 hp2
  go_wp2_with fail
  refine (named_c Q4.out R4.out (fun q => by have := HLT.out p q; have := HP1.out; omega) ha hm).mono ?_
  rintro e w5 ⟨v5, rfl, ho5, hf5⟩
  have B5 := Lib.hid (B4.out.trans (hf5.toBelow B4.out.size (fun i hi => by have := HP1.out; omega)))
  obtain ⟨g, hg⟩ : ∃ g, nmOf (homeB d.n a m) d.now a m (y, false) = g := ⟨_, rfl⟩
  have HGF := Lib.hid (nmOf_fine (home := homeB d.n a m) (a := a) (m := m) (s := (y, false)) HNOW.out)
  rw [hg] at ho5 HGF
  have hgl : g.length ≤ 60 := Nat.le_trans HGF.out.1 hm
  have HST2 := Lib.hid (show (if ((commitN g).isPrefixOf y && (y.drop (commitN g).length).all (· == 0)) = true then g else []) = standJ d.n a m d.now by
    rw [← HST.out]
    unfold stP
    rw [HY.out, hg])
  have O5 := Lib.hid (ho5.mono (show w.heap.size ≤ w4.heap.size from B4.out.size))
  obtain ⟨A5, c5, hv5, hc5, hc6, _⟩ := ho5.form rfl
  subst hv5
  obtain ⟨n5, hn5⟩ : ∃ n5, g.length = n5 := ⟨_, rfl⟩
  rw [hn5] at O5 hgl hc5 ⊢
  have HN5 := Lib.hid hn5
  clear hg ho5 hf5 k0 k1 k2 kl hn5
  go_wp2_with fail
  refine (commit_c (HT.out.below B5.out) O5.out.rd HN5.out hgl (fun x hx => by have := home_lt (HGF.out.2.1 x hx); omega) (fun x hx => Nat.le_of_eq (HGF.out.2.2 x hx))).mono ?_
  rintro e w6 ⟨rfl, hb6⟩
  have B6 := Lib.hid (below_t B5.out hb6)
  have O6 := Lib.hid (O5.out.below hb6)
  clear hb6
  obtain ⟨cm, hcm⟩ : ∃ cm, commitN g = cm := ⟨_, rfl⟩
  rw [hcm] at HST2 ⊢
  clear hcm
  obtain ⟨r, hr⟩ : ∃ r, cm.isPrefixOf y = r := ⟨_, rfl⟩
  have HR := Lib.hid hr
  rw [hr] at HST2
  clear hr
  go_wp2_with fail
  refine (cutPrefix_c HR.out).mono ?_
  rintro e w7 ⟨rfl, hw⟩
  obtain rfl := hw.symm
  cases r with
  | false =>
    have HE := Lib.hid (show [] = standJ d.n a m d.now from HST2.out)
    go_wp2_with fail
    go_ret
    exact ⟨_, rfl, by rw [← HE.out]; exact Own.nil _ _ _ _, B6.out⟩
  | true =>
    obtain ⟨z, hz⟩ : ∃ z, y.drop cm.length = z := ⟨_, rfl⟩
    rw [hz] at HST2
    simp only [if_true, hz]
    clear hz
    obtain ⟨q, hq⟩ : ∃ q, z.all (· == 0) = q := ⟨_, rfl⟩
    have HQ := Lib.hid hq
    rw [hq] at HST2
    clear hq
    go_wp2_with fail
    refine (isBlank_c HQ.out).mono ?_
    rintro e w8 ⟨rfl, hw⟩
    obtain rfl := hw.symm
    cases q with
    | false =>
      have HE := Lib.hid (show [] = standJ d.n a m d.now from HST2.out)
      go_wp2_with fail
      go_ret
      exact ⟨_, rfl, by rw [← HE.out]; exact Own.nil _ _ _ _, B6.out⟩
    | true =>
      have HE := Lib.hid (show g = standJ d.n a m d.now from HST2.out)
      go_wp2_with fail
      go_ret
      exact ⟨_, rfl, by rw [← HE.out]; exact O6.out, B6.out⟩
end JouW
end Go.Proofs.YtknckaegpdganaaDoor
