/-
  Write: the sector in the map, and one write more.
-/
import Derived.Test.YtknckaegpdganaaDoorSectorDisk
-- mine: whole_c same_c awake_c take_c step_c back_c
namespace Go.Proofs.YtknckaegpdganaaDoor
open Go.RowKit
set_option linter.unusedVariables false
set_option linter.unusedSimpArgs false
set_option maxRecDepth 100000
namespace SecW
open BlkP RowG FrS PushG JournalP SecP
theorem grown_set (w : World) (b i : Nat) (x : Value) : w.grownBy (w.setCell ⟨b, i, none⟩ x) (some b) := ⟨rfl, rfl, rfl, by simp, fun k _ hne => heap_setCell_other w _ k x (fun e => hne (by rw [e]))⟩
/-- What is kept: what was written, or nothing. -/
theorem put_c' {w : World} {M n i : Nat} {f : Nat → Sec} {y : Sec} (h : MapD w M n f) (hi : i < n) (hy : y.length = 512) :
    Calls Tryd.prog 47 #[.map (some M), .int .i64 (i : Int), .agg #[.string (str y)]] w fun e w' => e = .returned (.tuple #[]) ∧ MapD w' M n (upd f i y) ∧ Fr (fun k => k = M) w w' := by
  by_cases hb : y = SecP.blank
  · subst hb
    exact put_blank h hi
  · have := put_c h hi hy
    rw [raw_of hb] at this
    exact this
theorem write_turned {w wn wm w9 : World} {B pd pm M g c j : Nat} {v : Value} {d : Dk} {S : Nat → Prop} {s : Sec} (hp : DskP w B pd pm M v d) (hS : ∀ k, S k ↔ Sp pd pm M v k) (hb : Below w.heap.size w wn) (hf : Fr (fun k => k = pm ∨ v.ownBlock = some k) wn wm) (hf9 : Fr (fun k => k = M) wm w9)
    (hk : Blk wm pm TMd [.int .i64 (d.n : Int), .map (some M), .slice (some ⟨g, 0, none⟩) (d.ws.length + 1) c]) (ho : RowG.Own encW TW wm B (.slice (some ⟨g, 0, none⟩) (d.ws.length + 1) c) (logW d.base d.ws ++ [(j, pad s, raw (d.now j))])) (hm : MapD w9 M d.n (upd d.now j (pad s))) (hg : v.ownBlock = some g ∨ wn.heap.size ≤ g) (hj : j < d.n) (hs : s.length ≤ 512) : Turned w B pd S (d.write j s) w9 := by
  have hz := hb.size
  have hgM : (Value.slice (some ⟨g, 0, none⟩) (d.ws.length + 1) c).ownBlock = some g := rfl
  have hgne : g ≠ M := fun e => by
    rcases hg with q | q
    · exact hp.Mv (by rw [q, e])
    · have := hp.map.lt
      omega
  have hall : Fr S w w9 := ((Fr.below S hb).trans (hf.mono (S' := S) (fun k hk => (hS k).2 (hk.elim (fun e => .inr (.inl e)) (fun e => .inr (.inr (.inr e)))))) (fun i hi => .inl hi)).trans (hf9.mono (S' := S) (fun k hk => (hS k).2 (.inr (.inr (.inl hk))))) (fun i hi => .inl hi)
  refine ⟨fun k => Sp pd pm M (.slice (some ⟨g, 0, none⟩) (d.ws.length + 1) c) k, ⟨pm, M, _, ⟨?_, ?_, ?_, ?_, hp.ok.writeN hj hs, hp.ld, hp.lm, hp.lM⟩, fun k => Iff.rfl⟩, hall, fun k hk => ?_⟩
  · exact hf9.blk (hf.blk (hp.bd.below hb) (fun q => q.elim (fun e => hp.pdm e) hp.pdv)) hp.pdM
  · exact hf9.blk hk hp.pmM
  · have : (d.write j s).now = upd d.now j (pad s) := now_write ..
    rw [this]
    exact hm
  · have : logW (d.write j s).base (d.write j s).ws = logW d.base d.ws ++ [(j, pad s, raw (d.now j))] := logW_app ..
    rw [this]
    exact hf9.own ho (fun q hq e => hgne (by
      have : g = q := by simpa [Value.ownBlock] using hq
      rw [this, e]))
  · rcases hk with q | q | q | q
    · exact .inl ((hS k).2 (.inl q))
    · exact .inl ((hS k).2 (.inr (.inl q)))
    · exact .inl ((hS k).2 (.inr (.inr (.inl q))))
    · have e : g = k := by simpa [Value.ownBlock] using q
      subst e
      rcases hg with q2 | q2
      · exact .inl ((hS g).2 (.inr (.inr (.inr q2))))
      · exact .inr (by omega)
set_option maxHeartbeats 16000000 in
theorem Write_c {w : World} {B pd : Nat} {d : Dk} {S : Nat → Prop} {i : Int} {s : Sec} (h : Dsk w B pd d S) (hl : d.ws.length ≤ 1000) :
    Calls Tryd.prog 28 #[.pointer (some ⟨pd, 0, none⟩), .int .i64 i, .string (str s)] w fun e w' => e = .returned (.int .i64 (writeE d i s)) ∧ Turned w B pd S (writeD d i s) w' := by
  obtain ⟨pm, M, v, hp, hS⟩ := h
  have HP := Lib.hid hp
  have HS := Lib.hid hS
  have c0 := hp.bd.cell (i := 0) rfl
  have m0 := hp.bm.cell (i := 0) rfl
  have m1 := hp.bm.cell (i := 1) rfl
  have m2 := hp.bm.cell (i := 2) rfl
  have lpd := hp.bd.lt
  have lpm := hp.bm.lt
  by_cases hi : 0 ≤ i ∧ i < d.n
  · obtain ⟨j, rfl⟩ : ∃ j : Nat, i = (j : Int) := ⟨i.toNat, by omega⟩
    have hj : j < d.n := by omega
    have hb : inD d (j : Int) = true := inD_iff.2 hi
    clear hi
    by_cases hs : s.length ≤ 512
    · have HLS := Lib.hid hs
      have HL := Lib.hid (show s.length ≤ 512 from hs)
      have HB := Lib.hid hb
      have HBZ := Lib.hid (show B ≤ w.heap.size by have := hp.ld; have := hp.bd.lt; omega)
      have HWD := Lib.hid (show writeD d (j : Int) s = d.write j s by unfold writeD; rw [hb]; simp [hs])
      have HWE := Lib.hid (show writeE d (j : Int) s = 0 by unfold writeE; rw [hb]; simp [hs])
      rw [HWE.out]
      have hsz := str_size s
      have hsI : ¬ (512 : Int) < (s.length : Int) := by omega
      clear hp hS hb hs
      go_enter Tryd.func28, Tryd.ntmps28
      go_wp2_with fail
      refine (isMade_c HP.out.bd).mono ?_
      rintro e w1 ⟨rfl, hw⟩
      obtain rfl := hw.symm
      clear hw
      go_wp2_with fail
      refine (has_c (d := d) HP.out.bm HB.out).mono ?_
      rintro e w1 ⟨rfl, hw⟩
      obtain rfl := hw.symm
      clear hw
      go_wp2_with fail
      refine wp_region_noPanic ?_
      refine wp_region_held_drew (S := fun W => Below w.heap.size w W) (by kernel_rfl) ((Below.refl _ w).drew) (fun hHeld => ?_)
      refine wpAnyH_take (i := 0) (oi := ⟨some 24, _, _, _, _, _⟩) (v := .int .i64 (j : Int)) rfl (by kernel_rfl) (by kernel_rfl) (by kernel_rfl) (fun _ _ _ h => h) (Or.inl ⟨by rfl, fun W hSW => by go_simp⟩) hHeld ?_
      simp only [Act.put, List.setIfInBounds_toArray, List.set_cons_zero, List.set_cons_succ]
      refine wpAnyH_take (i := 1) (oi := ⟨some 25, _, _, _, _, _⟩) (v := .string (str s)) rfl (by kernel_rfl) (by kernel_rfl) (by kernel_rfl) (fun _ _ _ h => h) (Or.inl ⟨by rfl, fun W hSW => by go_simp⟩) hHeld ?_
      simp only [Act.put, List.setIfInBounds_toArray, List.set_cons_zero, List.set_cons_succ]
      refine wpAnyH_take (i := 4) (oi := ⟨some 28, _, _, _, _, _⟩) (v := .pointer (some ⟨pd, 0, none⟩)) rfl (by kernel_rfl) (by kernel_rfl) (by kernel_rfl) (fun _ _ _ h => h) (Or.inl ⟨by rfl, fun W hSW => by go_simp⟩) hHeld ?_
      simp only [Act.put, List.setIfInBounds_toArray, List.set_cons_zero, List.set_cons_succ]
      refine wpAnyH_take (i := 5) (oi := ⟨some 29, _, _, _, _, _⟩) (v := .pointer (some ⟨pd, 0, none⟩)) rfl (by kernel_rfl) (by kernel_rfl) (by kernel_rfl) (fun _ _ _ h => h) (Or.inl ⟨by rfl, fun W hSW => by go_simp⟩) hHeld ?_
      simp only [Act.put, List.setIfInBounds_toArray, List.set_cons_zero, List.set_cons_succ]
      refine wpAnyH_take (i := 6) (oi := ⟨some 30, _, _, _, _, _⟩) (v := .pointer (some ⟨pd, 0, none⟩)) rfl (by kernel_rfl) (by kernel_rfl) (by kernel_rfl) (fun _ _ _ h => h) (Or.inl ⟨by rfl, fun W hSW => by go_simp⟩) hHeld ?_
      simp only [Act.put, List.setIfInBounds_toArray, List.set_cons_zero, List.set_cons_succ]
      refine wpAnyH_take (i := 7) (oi := ⟨some 31, _, _, _, _, _⟩) (v := .pointer (some ⟨pm, 0, none⟩)) rfl (by kernel_rfl) (by kernel_rfl) (by kernel_rfl) (fun _ _ _ h => h) (Or.inl ⟨by rfl, fun W hSW => by have a0 := (hSW.cell (p := ⟨pd, 0, none⟩) lpd).trans c0; go_simp⟩) hHeld ?_
      simp only [Act.put, List.setIfInBounds_toArray, List.set_cons_zero, List.set_cons_succ]
      refine wpAnyH_take (i := 8) (oi := ⟨some 32, _, _, _, _, _⟩) (v := .pointer (some ⟨pm, 0, none⟩)) rfl (by kernel_rfl) (by kernel_rfl) (by kernel_rfl) (fun _ _ _ h => h) (Or.inl ⟨by rfl, fun W hSW => by go_simp⟩) hHeld ?_
      simp only [Act.put, List.setIfInBounds_toArray, List.set_cons_zero, List.set_cons_succ]
      refine wpAnyH_take (i := 9) (oi := ⟨some 33, _, _, _, _, _⟩) (v := .pointer (some ⟨pm, 1, none⟩)) rfl (by kernel_rfl) (by kernel_rfl) (by kernel_rfl) (fun _ _ _ h => h) (Or.inl ⟨by rfl, fun W hSW => by go_simp⟩) hHeld ?_
      simp only [Act.put, List.setIfInBounds_toArray, List.set_cons_zero, List.set_cons_succ]
      refine wpAnyH_take (i := 10) (oi := ⟨some 34, _, _, _, _, _⟩) (v := .map (some M)) rfl (by kernel_rfl) (by kernel_rfl) (by kernel_rfl) (fun _ _ _ h => h) (Or.inl ⟨by rfl, fun W hSW => by have a0 := (hSW.cell (p := ⟨pm, 1, none⟩) lpm).trans m1; go_simp⟩) hHeld ?_
      simp only [Act.put, List.setIfInBounds_toArray, List.set_cons_zero, List.set_cons_succ]
      refine wpAnyH_take (i := 11) (oi := ⟨some 35, _, _, _, _, _⟩) (v := .int .i64 (j : Int)) rfl (by kernel_rfl) (by kernel_rfl) (by kernel_rfl) (fun _ _ _ h => h) (Or.inl ⟨by rfl, fun W hSW => by go_simp⟩) hHeld ?_
      simp only [Act.put, List.setIfInBounds_toArray, List.set_cons_zero, List.set_cons_succ]
      refine wpAnyH_take (i := 12) (oi := ⟨some 36, _, _, _, _, _⟩) (v := .agg #[.string (str (raw (d.now j)))]) rfl (by kernel_rfl) (by kernel_rfl) (by kernel_rfl) (fun _ _ _ h => h) (Or.inl ⟨by rfl, fun W hSW => by have q := run_lookD (HP.out.map.below hSW) hj; go_simp⟩) hHeld ?_
      simp only [Act.put, List.setIfInBounds_toArray, List.set_cons_zero, List.set_cons_succ]
      refine wpAnyH_ready (rs := [2, 14]) (by kernel_rfl) (by simp) ?_
      refine AllReadyH.cons (o := ⟨some 26, _, _, _, _, _⟩) rfl (fun K hK => ?_) (AllReadyH.cons (o := ⟨some 7, _, _, _, _, _⟩) rfl (fun K hK => ?_) AllReadyH.nil)
      · go_simp
        refine (whole_c HL.out).mono ?_
        rintro e w2 ⟨rfl, hb2⟩
        go_wp2_with fail
        have hz2 := hb2.size
        try simp at hz2
        have HB2 := Lib.hid hb2
        refine hK.out _ _ (below_t hHeld hb2) (fun hHeld2 => ?_)
        clear hK K hb2
        refine wpAnyH_take (i := 3) (oi := ⟨some 27, _, _, _, _, _⟩) (v := .agg #[.int .i64 (j : Int), .string (str (pad s))]) rfl (by kernel_rfl) (by kernel_rfl) (by kernel_rfl) (fun _ _ _ h => h) (Or.inl ⟨by rfl, fun W hSW => by go_simp⟩) hHeld2 ?_
        simp only [Act.put, List.setIfInBounds_toArray, List.set_cons_zero, List.set_cons_succ]
        refine wpAnyH_take (i := 13) (oi := ⟨some 37, _, _, _, _, _⟩) (v := .agg #[.int .i64 (j : Int), .string (str (pad s)), .string (str (raw (d.now j)))]) rfl (by kernel_rfl) (by kernel_rfl) (by kernel_rfl) (fun _ _ _ h => h) (Or.inl ⟨by rfl, fun W hSW => by go_simp⟩) hHeld2 ?_
        simp only [Act.put, List.setIfInBounds_toArray, List.set_cons_zero, List.set_cons_succ]
        refine wpAnyH_ready (rs := [14]) (by kernel_rfl) (by simp) ?_
        refine AllReadyH.cons (o := ⟨some 7, _, _, _, _, _⟩) rfl (fun K hK => ?_) AllReadyH.nil
        go_simp
        refine hK.out _ _ (Below.alloc hHeld2 (by have := (hHeld2).size; (try simp at this); (first | omega | (simp; done) | (simp; omega))) _) (fun hHeld3 => ?_)
        clear hK K
        refine wpAnyH_ready (rs := [15]) (by kernel_rfl) (by simp) ?_
        refine AllReadyH.cons (o := ⟨none, _, _, _, _, _⟩) rfl (fun K hK => ?_) AllReadyH.nil
        have z0 : (w2.alloc (.cells #[.int .i64 0, .string ⟨#[]⟩, .string ⟨#[]⟩] TW)).heap.size = w2.heap.size + 1 := by simp

        go_simp
        refine hK.out _ _ (by (repeat' (first | (with_reducible exact Below.refl _ _) | (with_reducible refine Below.setCell ?_ (by (first | omega | (simp; done) | (simp; omega))) _) | (with_reducible refine Below.alloc ?_ (by (first | omega | (simp; done) | (simp; omega))) _) | (with_reducible refine Below.drew ?_) | (with_reducible refine below_drewN ?_ _) | (with_reducible refine Below.trans ?_ (Below.mono hHeld2 (by (first | omega | (simp; done) | (simp; omega)))))))) (fun hHeld4 => ?_)
        clear hK K
        refine wpAnyH_done (by kernel_rfl) ?_ _
        refine NoPanic.normal ?_
        obtain ⟨tb, htb⟩ : ∃ tb, w2.heap.size = tb := ⟨_, rfl⟩
        have hge : w.heap.size ≤ tb := by rw [← htb]; (have := HB2.out.size; simpa using this)
        refine HeldP.then_named (S := fun W => Below w.heap.size w W ∧ Blk W tb TW [.int .i64 (j : Int), .string (str (pad s)), .string (str (raw (d.now j)))]) ⟨hHeld4, by rw [← htb]; (repeat' (first | (with_reducible refine BlkP.Blk.drew ?_) | (with_reducible refine BlkP.Blk.drewN ?_ _) | (with_reducible refine BlkP.Blk.setAt (us := ?_) (by first | omega | (simp; done) | (simp; omega)) rfl ?_ ?_) | (with_reducible refine BlkP.Blk.otherAt ?_ (by first | omega | (simp; done) | (simp; omega))) | (with_reducible refine BlkP.Blk.newA' (by first | omega | (simp; done) | (simp; omega)) rfl) | (with_reducible refine BlkP.Blk.alloc ?_ _) | (exact rfl)))⟩ ?_
        rintro wn ⟨hb7, k7⟩
        rw [htb]
        have B7 := Lib.hid hb7
        have K7 := Lib.hid k7
        clear hHeld hHeld2 hHeld3 hHeld4 hb7 k7 z0 hz2 htb
        have p7 := HP.out.fr (Fr.below (fun _ => False) B7.out) (fun _ _ q => q)
        have HP7 := Lib.hid p7
        have c0 := p7.bd.cell (i := 0) rfl
        have m1 := p7.bm.cell (i := 1) rfl
        have m2 := p7.bm.cell (i := 2) rfl
        have lpd := p7.bd.lt
        have lpm := p7.bm.lt
        have t0 := K7.out.cell (i := 0) rfl
        have t1 := K7.out.cell (i := 1) rfl
        have t2 := K7.out.cell (i := 2) rfl
        have ltb := K7.out.lt
        have hz7 := B7.out.size
        have HX := Lib.hid (show tb ≠ pm ∧ v.ownBlock ≠ some tb ∧ tb ≠ pd ∧ tb ≠ M from ⟨fun e => by have := HP.out.bm.lt; omega, fun e => by have := (HP.out.log.ge _ e).2; omega, fun e => by have := HP.out.bd.lt; omega, fun e => by have := HP.out.map.lt; omega⟩)
        clear p7
        go_wp2_with fail
        refine wp_region_noPanic ?_
        refine wp_region_held_drew (S := fun W => Fr (fun k => k = pm ∨ v.ownBlock = some k) wn W) (by kernel_rfl) ((Fr.refl _ wn).drew) (fun hHeld => ?_)
        refine wpAnyH_take (i := 0) (oi := ⟨some 38, _, _, _, _, _⟩) (v := .pointer (some ⟨pd, 0, none⟩)) rfl (by kernel_rfl) (by kernel_rfl) (by kernel_rfl) (fun _ _ _ h => h) (Or.inl ⟨by rfl, fun W hSW => by go_simp⟩) hHeld ?_
        simp only [Act.put, List.setIfInBounds_toArray, List.set_cons_zero, List.set_cons_succ]
        refine wpAnyH_take (i := 1) (oi := ⟨some 39, _, _, _, _, _⟩) (v := .pointer (some ⟨pd, 0, none⟩)) rfl (by kernel_rfl) (by kernel_rfl) (by kernel_rfl) (fun _ _ _ h => h) (Or.inl ⟨by rfl, fun W hSW => by go_simp⟩) hHeld ?_
        simp only [Act.put, List.setIfInBounds_toArray, List.set_cons_zero, List.set_cons_succ]
        refine wpAnyH_take (i := 2) (oi := ⟨some 40, _, _, _, _, _⟩) (v := .pointer (some ⟨pd, 0, none⟩)) rfl (by kernel_rfl) (by kernel_rfl) (by kernel_rfl) (fun _ _ _ h => h) (Or.inl ⟨by rfl, fun W hSW => by go_simp⟩) hHeld ?_
        simp only [Act.put, List.setIfInBounds_toArray, List.set_cons_zero, List.set_cons_succ]
        refine wpAnyH_take (i := 3) (oi := ⟨some 41, _, _, _, _, _⟩) (v := .pointer (some ⟨pm, 0, none⟩)) rfl (by kernel_rfl) (by kernel_rfl) (by kernel_rfl) (fun _ _ _ h => h) (Or.inl ⟨by rfl, fun W hSW => by have a0 := (hSW.cell (p := ⟨pd, 0, none⟩) lpd (fun q => q.elim (fun e => HP.out.pdm e) HP.out.pdv)).trans c0; go_simp⟩) hHeld ?_
        simp only [Act.put, List.setIfInBounds_toArray, List.set_cons_zero, List.set_cons_succ]
        refine wpAnyH_take (i := 4) (oi := ⟨some 42, _, _, _, _, _⟩) (v := .pointer (some ⟨pd, 0, none⟩)) rfl (by kernel_rfl) (by kernel_rfl) (by kernel_rfl) (fun _ _ _ h => h) (Or.inl ⟨by rfl, fun W hSW => by go_simp⟩) hHeld ?_
        simp only [Act.put, List.setIfInBounds_toArray, List.set_cons_zero, List.set_cons_succ]
        refine wpAnyH_take (i := 5) (oi := ⟨some 43, _, _, _, _, _⟩) (v := .pointer (some ⟨pd, 0, none⟩)) rfl (by kernel_rfl) (by kernel_rfl) (by kernel_rfl) (fun _ _ _ h => h) (Or.inl ⟨by rfl, fun W hSW => by go_simp⟩) hHeld ?_
        simp only [Act.put, List.setIfInBounds_toArray, List.set_cons_zero, List.set_cons_succ]
        refine wpAnyH_take (i := 6) (oi := ⟨some 44, _, _, _, _, _⟩) (v := .pointer (some ⟨pd, 0, none⟩)) rfl (by kernel_rfl) (by kernel_rfl) (by kernel_rfl) (fun _ _ _ h => h) (Or.inl ⟨by rfl, fun W hSW => by go_simp⟩) hHeld ?_
        simp only [Act.put, List.setIfInBounds_toArray, List.set_cons_zero, List.set_cons_succ]
        refine wpAnyH_take (i := 7) (oi := ⟨some 45, _, _, _, _, _⟩) (v := .pointer (some ⟨pm, 0, none⟩)) rfl (by kernel_rfl) (by kernel_rfl) (by kernel_rfl) (fun _ _ _ h => h) (Or.inl ⟨by rfl, fun W hSW => by have a0 := (hSW.cell (p := ⟨pd, 0, none⟩) lpd (fun q => q.elim (fun e => HP.out.pdm e) HP.out.pdv)).trans c0; go_simp⟩) hHeld ?_
        simp only [Act.put, List.setIfInBounds_toArray, List.set_cons_zero, List.set_cons_succ]
        refine wpAnyH_take (i := 8) (oi := ⟨some 46, _, _, _, _, _⟩) (v := .pointer (some ⟨pm, 0, none⟩)) rfl (by kernel_rfl) (by kernel_rfl) (by kernel_rfl) (fun _ _ _ h => h) (Or.inl ⟨by rfl, fun W hSW => by go_simp⟩) hHeld ?_
        simp only [Act.put, List.setIfInBounds_toArray, List.set_cons_zero, List.set_cons_succ]
        refine wpAnyH_take (i := 9) (oi := ⟨some 47, _, _, _, _, _⟩) (v := .pointer (some ⟨pm, 2, none⟩)) rfl (by kernel_rfl) (by kernel_rfl) (by kernel_rfl) (fun _ _ _ h => h) (Or.inl ⟨by rfl, fun W hSW => by go_simp⟩) hHeld ?_
        simp only [Act.put, List.setIfInBounds_toArray, List.set_cons_zero, List.set_cons_succ]
        refine wpAnyH_take (i := 11) (oi := ⟨some 49, _, _, _, _, _⟩) (v := .agg #[.int .i64 (j : Int), .string (str (pad s)), .string (str (raw (d.now j)))]) rfl (by kernel_rfl) (by kernel_rfl) (by kernel_rfl) (fun _ _ _ h => h) (Or.inl ⟨by rfl, fun W hSW => by have a0 := (hSW.cell (p := ⟨tb, 0, none⟩) ltb (fun q => q.elim HX.out.1 HX.out.2.1)).trans t0; have a1 := (hSW.cell (p := ⟨tb, 1, none⟩) ltb (fun q => q.elim HX.out.1 HX.out.2.1)).trans t1; have a2 := (hSW.cell (p := ⟨tb, 2, none⟩) ltb (fun q => q.elim HX.out.1 HX.out.2.1)).trans t2; go_simp⟩) hHeld ?_
        simp only [Act.put, List.setIfInBounds_toArray, List.set_cons_zero, List.set_cons_succ]
        refine wpAnyH_ready (rs := [10, 12]) (by kernel_rfl) (by simp) ?_
        refine AllReadyH.cons (o := ⟨some 48, _, _, _, _, _⟩) rfl (fun K hK => ?_) (AllReadyH.cons (o := ⟨some 50, _, _, _, _, _⟩) rfl (fun K hK => ?_) AllReadyH.nil)
        · go_simp
          refine hK.out _ _ hHeld (fun hHeldA => ?_)
          clear hK K
          refine wpAnyH_ready (rs := [12]) (by kernel_rfl) (by simp) ?_
          refine AllReadyH.cons (o := ⟨some 50, _, _, _, _, _⟩) rfl (fun K hK => ?_) AllReadyH.nil
          go_simp
          refine hK.out _ _ (hHeld.trans (Fr.alloc _ _ _) (fun i hi => .inl hi)) (fun hHeldB => ?_)
          clear hK K
          refine wpAnyH_ready (rs := [13]) (by kernel_rfl) (by simp) ?_
          refine AllReadyH.cons (o := ⟨some 51, _, _, _, _, _⟩) rfl (fun K hK => ?_) AllReadyH.nil
          refine RowE.step_pushE tyW (by decide) rfl (.tmp 48) (.tmp 50) rfl (w0 := wn.drew) (B := B) (v := v) (l := logW d.base d.ws) (y := (j, pad s, raw (d.now j))) rfl rfl rfl HP7.out.log rfl rfl (by rw [logW_len]; omega) (by have := HBZ.out; have := B7.out.size; show B ≤ wn.heap.size; omega) ?_
          intro g c w5 hpu
          rw [logW_len] at hpu ⊢
          have hfr : Fr (fun k => k = pm ∨ v.ownBlock = some k) wn w5 := (Fr.refl _ wn).drew.trans (Fr.grown (S := fun k => k = pm ∨ v.ownBlock = some k) (w := wn.drew) hpu.2.1 (fun i hi => .inr hi)) (fun i hi => .inl hi)
          have HFR := Lib.hid hfr
          have HO5 := Lib.hid hpu.1
          have HG5 := Lib.hid (show v.ownBlock = some g ∨ wn.heap.size ≤ g from hpu.2.2)
          have hb5 : Blk w5 pm TMd [.int .i64 (d.n : Int), .map (some M), v] := HP7.out.bm.grown (w := wn.drew) (w' := w5) hpu.2.1 (fun e => HP.out.pmv e.symm)
          have HB5 := Lib.hid hb5
          clear hpu
          refine hK.out _ _ hfr (fun hHeldC => ?_)
          clear hK K hfr
          refine wpAnyH_take (i := 14) (oi := ⟨some 52, _, _, _, _, _⟩) (v := .pointer (some ⟨pm, 0, none⟩)) rfl (by kernel_rfl) (by kernel_rfl) (by kernel_rfl) (fun _ _ _ h => h) (Or.inl ⟨by rfl, fun W hSW => by go_simp⟩) hHeldC ?_
          simp only [Act.put, List.setIfInBounds_toArray, List.set_cons_zero, List.set_cons_succ]
          refine wpAnyH_take (i := 15) (oi := ⟨some 53, _, _, _, _, _⟩) (v := .pointer (some ⟨pm, 2, none⟩)) rfl (by kernel_rfl) (by kernel_rfl) (by kernel_rfl) (fun _ _ _ h => h) (Or.inl ⟨by rfl, fun W hSW => by go_simp⟩) hHeldC ?_
          simp only [Act.put, List.setIfInBounds_toArray, List.set_cons_zero, List.set_cons_succ]
          refine wpAnyH_ready (rs := [16]) (by kernel_rfl) (by simp) ?_
          refine AllReadyH.cons (o := ⟨none, _, _, _, _, _⟩) rfl (fun K hK => ?_) AllReadyH.nil
          have f0 := hb5.frozen 2
          have e0 := hb5.cell (i := 2) rfl
          have l0 := hb5.lt
          clear hb5
          go_simp
          refine hK.out _ _ (HFR.out.trans (Fr.set (fun k => k = pm ∨ v.ownBlock = some k) _ _ _ (.inl rfl)) (fun i hi => .inl hi)) (fun hHeldD => ?_)
          clear hK K f0 e0 l0
          refine wpAnyH_done (by kernel_rfl) ?_ _
          refine NoPanic.normal ?_
          refine HeldP.then_named (S := fun W => Fr (fun k => k = pm ∨ v.ownBlock = some k) wn W ∧ Blk W pm TMd [.int .i64 (d.n : Int), .map (some M), .slice (some ⟨g, 0, none⟩) (d.ws.length + 1) c] ∧ RowG.Own encW TW W B (.slice (some ⟨g, 0, none⟩) (d.ws.length + 1) c) (logW d.base d.ws ++ [(j, pad s, raw (d.now j))])) ⟨hHeldD, HB5.out.set 2 _, HO5.out.grown (grown_set _ pm 2 _) (.inr (fun e => ?_))⟩ ?_
          · obtain ⟨us, hu⟩ := own_cells HO5.out e
            exact blk_ne HB5.out hu (by decide) rfl
          rintro wm ⟨hf8, hk8, ho8⟩
          have F8 := Lib.hid hf8
          have K8 := Lib.hid hk8
          have O8 := Lib.hid ho8
          clear hHeld hHeldA hHeldB hHeldC hHeldD hf8 hk8 ho8 c0 m1 m2 lpd lpm t0 t1 t2 ltb
          have k8d := F8.out.blk HP7.out.bd (fun q => q.elim (fun e => HP.out.pdm e) HP.out.pdv)
          have M8 := Lib.hid (HP7.out.map.fr F8.out (fun q => q.elim (fun e => HP.out.pmM e.symm) HP.out.Mv))
          have T8 := Lib.hid (F8.out.blk K7.out (fun q => q.elim HX.out.1 HX.out.2.1))
          have HD8 := Lib.hid k8d
          have c0 := k8d.cell (i := 0) rfl
          have lpd := k8d.lt
          have m1 := K8.out.cell (i := 1) rfl
          have lpm := K8.out.lt
          have t1 := T8.out.cell (i := 1) rfl
          have ltb := T8.out.lt
          have hz8 := F8.out.size
          clear k8d
          go_wp2_with fail
          refine wp_region_noPanic ?_
          refine wp_region_held_drew (S := fun W => Fr (fun k => k = M) wm W) (by kernel_rfl) ((Fr.refl _ wm).drew) (fun hHeld => ?_)
          refine wpAnyH_take (i := 0) (oi := ⟨some 54, _, _, _, _, _⟩) (v := .pointer (some ⟨pd, 0, none⟩)) rfl (by kernel_rfl) (by kernel_rfl) (by kernel_rfl) (fun _ _ _ h => h) (Or.inl ⟨by rfl, fun W hSW => by go_simp⟩) hHeld ?_
          simp only [Act.put, List.setIfInBounds_toArray, List.set_cons_zero, List.set_cons_succ]
          refine wpAnyH_take (i := 1) (oi := ⟨some 55, _, _, _, _, _⟩) (v := .pointer (some ⟨pd, 0, none⟩)) rfl (by kernel_rfl) (by kernel_rfl) (by kernel_rfl) (fun _ _ _ h => h) (Or.inl ⟨by rfl, fun W hSW => by go_simp⟩) hHeld ?_
          simp only [Act.put, List.setIfInBounds_toArray, List.set_cons_zero, List.set_cons_succ]
          refine wpAnyH_take (i := 2) (oi := ⟨some 56, _, _, _, _, _⟩) (v := .pointer (some ⟨pd, 0, none⟩)) rfl (by kernel_rfl) (by kernel_rfl) (by kernel_rfl) (fun _ _ _ h => h) (Or.inl ⟨by rfl, fun W hSW => by go_simp⟩) hHeld ?_
          simp only [Act.put, List.setIfInBounds_toArray, List.set_cons_zero, List.set_cons_succ]
          refine wpAnyH_take (i := 3) (oi := ⟨some 57, _, _, _, _, _⟩) (v := .pointer (some ⟨pm, 0, none⟩)) rfl (by kernel_rfl) (by kernel_rfl) (by kernel_rfl) (fun _ _ _ h => h) (Or.inl ⟨by rfl, fun W hSW => by have a0 := (hSW.cell (p := ⟨pd, 0, none⟩) lpd HP.out.pdM).trans c0; go_simp⟩) hHeld ?_
          simp only [Act.put, List.setIfInBounds_toArray, List.set_cons_zero, List.set_cons_succ]
          refine wpAnyH_take (i := 4) (oi := ⟨some 58, _, _, _, _, _⟩) (v := .pointer (some ⟨pm, 0, none⟩)) rfl (by kernel_rfl) (by kernel_rfl) (by kernel_rfl) (fun _ _ _ h => h) (Or.inl ⟨by rfl, fun W hSW => by go_simp⟩) hHeld ?_
          simp only [Act.put, List.setIfInBounds_toArray, List.set_cons_zero, List.set_cons_succ]
          refine wpAnyH_take (i := 5) (oi := ⟨some 59, _, _, _, _, _⟩) (v := .pointer (some ⟨pm, 1, none⟩)) rfl (by kernel_rfl) (by kernel_rfl) (by kernel_rfl) (fun _ _ _ h => h) (Or.inl ⟨by rfl, fun W hSW => by go_simp⟩) hHeld ?_
          simp only [Act.put, List.setIfInBounds_toArray, List.set_cons_zero, List.set_cons_succ]
          refine wpAnyH_take (i := 6) (oi := ⟨some 60, _, _, _, _, _⟩) (v := .map (some M)) rfl (by kernel_rfl) (by kernel_rfl) (by kernel_rfl) (fun _ _ _ h => h) (Or.inl ⟨by rfl, fun W hSW => by have a0 := (hSW.cell (p := ⟨pm, 1, none⟩) lpm HP.out.pmM).trans m1; go_simp⟩) hHeld ?_
          simp only [Act.put, List.setIfInBounds_toArray, List.set_cons_zero, List.set_cons_succ]
          refine wpAnyH_take (i := 7) (oi := ⟨some 61, _, _, _, _, _⟩) (v := .int .i64 (j : Int)) rfl (by kernel_rfl) (by kernel_rfl) (by kernel_rfl) (fun _ _ _ h => h) (Or.inl ⟨by rfl, fun W hSW => by go_simp⟩) hHeld ?_
          simp only [Act.put, List.setIfInBounds_toArray, List.set_cons_zero, List.set_cons_succ]
          refine wpAnyH_take (i := 8) (oi := ⟨some 62, _, _, _, _, _⟩) (v := .pointer (some ⟨tb, 0, none⟩)) rfl (by kernel_rfl) (by kernel_rfl) (by kernel_rfl) (fun _ _ _ h => h) (Or.inl ⟨by rfl, fun W hSW => by go_simp⟩) hHeld ?_
          simp only [Act.put, List.setIfInBounds_toArray, List.set_cons_zero, List.set_cons_succ]
          refine wpAnyH_take (i := 9) (oi := ⟨some 63, _, _, _, _, _⟩) (v := .pointer (some ⟨tb, 1, none⟩)) rfl (by kernel_rfl) (by kernel_rfl) (by kernel_rfl) (fun _ _ _ h => h) (Or.inl ⟨by rfl, fun W hSW => by go_simp⟩) hHeld ?_
          simp only [Act.put, List.setIfInBounds_toArray, List.set_cons_zero, List.set_cons_succ]
          refine wpAnyH_take (i := 10) (oi := ⟨some 64, _, _, _, _, _⟩) (v := .string (str (pad s))) rfl (by kernel_rfl) (by kernel_rfl) (by kernel_rfl) (fun _ _ _ h => h) (Or.inl ⟨by rfl, fun W hSW => by have a0 := (hSW.cell (p := ⟨tb, 1, none⟩) ltb HX.out.2.2.2).trans t1; go_simp⟩) hHeld ?_
          simp only [Act.put, List.setIfInBounds_toArray, List.set_cons_zero, List.set_cons_succ]
          refine wpAnyH_take (i := 11) (oi := ⟨some 65, _, _, _, _, _⟩) (v := .agg #[.string (str (pad s))]) rfl (by kernel_rfl) (by kernel_rfl) (by kernel_rfl) (fun _ _ _ h => h) (Or.inl ⟨by rfl, fun W hSW => by go_simp⟩) hHeld ?_
          simp only [Act.put, List.setIfInBounds_toArray, List.set_cons_zero, List.set_cons_succ]
          refine wpAnyH_ready (rs := [12]) (by kernel_rfl) (by simp) ?_
          refine AllReadyH.cons (o := ⟨some 66, _, _, _, _, _⟩) rfl (fun K hK => ?_) AllReadyH.nil
          go_simp
          refine (put_c' (show MapD wm.drew M d.n d.now from M8.out.drew) hj (pad_len HL.out)).mono ?_
          rintro e w9 ⟨rfl, hm9, hf9⟩
          have M9 := Lib.hid hm9
          have F9 := Lib.hid ((Fr.refl (fun k => k = M) wm).drew.trans hf9 (fun i hi => .inl hi))
          clear hm9 hf9
          refine hK.out _ _ F9.out (fun hHeldZ => ?_)
          clear hK K hHeldZ
          refine wpAnyH_done (by kernel_rfl) ?_ _
          refine NoPanic.normal ?_
          go_wp2_with fail
          go_ret
          refine ⟨rfl, ?_⟩
          rw [HWD.out]
          exact write_turned HP.out HS.out B7.out F8.out F9.out K8.out O8.out M9.out HG5.out hj HLS.out
        · go_simp
          refine hK.out _ _ (hHeld.trans (Fr.alloc _ _ _) (fun i hi => .inl hi)) (fun hHeldB => ?_)
          clear hK K
          refine wpAnyH_ready (rs := [10]) (by kernel_rfl) (by simp) ?_
          refine AllReadyH.cons (o := ⟨some 48, _, _, _, _, _⟩) rfl (fun K hK => ?_) AllReadyH.nil
          have m2b : (wn.drew.alloc (.cells #[.int .i64 (j : Int), .string (str (pad s)), .string (str (raw (d.now j)))] TW)).cell? ⟨pm, 2, none⟩ = some v := (World.cell?_alloc_lt _ _ _ lpm).trans m2
          have lpb := Nat.lt_of_lt_of_le lpm (Nat.le_succ _)
          go_simp
          refine hK.out _ _ hHeldB (fun hHeldA => ?_)
          clear hK K m2b lpb
          refine wpAnyH_ready (rs := [13]) (by kernel_rfl) (by simp) ?_
          refine AllReadyH.cons (o := ⟨some 51, _, _, _, _, _⟩) rfl (fun K hK => ?_) AllReadyH.nil
          refine RowE.step_pushE tyW (by decide) rfl (.tmp 48) (.tmp 50) rfl (w0 := wn.drew) (B := B) (v := v) (l := logW d.base d.ws) (y := (j, pad s, raw (d.now j))) rfl rfl rfl HP7.out.log rfl rfl (by rw [logW_len]; omega) (by have := HBZ.out; have := B7.out.size; show B ≤ wn.heap.size; omega) ?_
          intro g c w5 hpu
          rw [logW_len] at hpu ⊢
          have hfr : Fr (fun k => k = pm ∨ v.ownBlock = some k) wn w5 := (Fr.refl _ wn).drew.trans (Fr.grown (S := fun k => k = pm ∨ v.ownBlock = some k) (w := wn.drew) hpu.2.1 (fun i hi => .inr hi)) (fun i hi => .inl hi)
          have HFR := Lib.hid hfr
          have HO5 := Lib.hid hpu.1
          have HG5 := Lib.hid (show v.ownBlock = some g ∨ wn.heap.size ≤ g from hpu.2.2)
          have hb5 : Blk w5 pm TMd [.int .i64 (d.n : Int), .map (some M), v] := HP7.out.bm.grown (w := wn.drew) (w' := w5) hpu.2.1 (fun e => HP.out.pmv e.symm)
          have HB5 := Lib.hid hb5
          clear hpu
          refine hK.out _ _ hfr (fun hHeldC => ?_)
          clear hK K hfr
          refine wpAnyH_take (i := 14) (oi := ⟨some 52, _, _, _, _, _⟩) (v := .pointer (some ⟨pm, 0, none⟩)) rfl (by kernel_rfl) (by kernel_rfl) (by kernel_rfl) (fun _ _ _ h => h) (Or.inl ⟨by rfl, fun W hSW => by go_simp⟩) hHeldC ?_
          simp only [Act.put, List.setIfInBounds_toArray, List.set_cons_zero, List.set_cons_succ]
          refine wpAnyH_take (i := 15) (oi := ⟨some 53, _, _, _, _, _⟩) (v := .pointer (some ⟨pm, 2, none⟩)) rfl (by kernel_rfl) (by kernel_rfl) (by kernel_rfl) (fun _ _ _ h => h) (Or.inl ⟨by rfl, fun W hSW => by go_simp⟩) hHeldC ?_
          simp only [Act.put, List.setIfInBounds_toArray, List.set_cons_zero, List.set_cons_succ]
          refine wpAnyH_ready (rs := [16]) (by kernel_rfl) (by simp) ?_
          refine AllReadyH.cons (o := ⟨none, _, _, _, _, _⟩) rfl (fun K hK => ?_) AllReadyH.nil
          have f0 := hb5.frozen 2
          have e0 := hb5.cell (i := 2) rfl
          have l0 := hb5.lt
          clear hb5
          go_simp
          refine hK.out _ _ (HFR.out.trans (Fr.set (fun k => k = pm ∨ v.ownBlock = some k) _ _ _ (.inl rfl)) (fun i hi => .inl hi)) (fun hHeldD => ?_)
          clear hK K f0 e0 l0
          refine wpAnyH_done (by kernel_rfl) ?_ _
          refine NoPanic.normal ?_
          refine HeldP.then_named (S := fun W => Fr (fun k => k = pm ∨ v.ownBlock = some k) wn W ∧ Blk W pm TMd [.int .i64 (d.n : Int), .map (some M), .slice (some ⟨g, 0, none⟩) (d.ws.length + 1) c] ∧ RowG.Own encW TW W B (.slice (some ⟨g, 0, none⟩) (d.ws.length + 1) c) (logW d.base d.ws ++ [(j, pad s, raw (d.now j))])) ⟨hHeldD, HB5.out.set 2 _, HO5.out.grown (grown_set _ pm 2 _) (.inr (fun e => ?_))⟩ ?_
          · obtain ⟨us, hu⟩ := own_cells HO5.out e
            exact blk_ne HB5.out hu (by decide) rfl
          rintro wm ⟨hf8, hk8, ho8⟩
          have F8 := Lib.hid hf8
          have K8 := Lib.hid hk8
          have O8 := Lib.hid ho8
          clear hHeld hHeldA hHeldB hHeldC hHeldD hf8 hk8 ho8 c0 m1 m2 lpd lpm t0 t1 t2 ltb
          have k8d := F8.out.blk HP7.out.bd (fun q => q.elim (fun e => HP.out.pdm e) HP.out.pdv)
          have M8 := Lib.hid (HP7.out.map.fr F8.out (fun q => q.elim (fun e => HP.out.pmM e.symm) HP.out.Mv))
          have T8 := Lib.hid (F8.out.blk K7.out (fun q => q.elim HX.out.1 HX.out.2.1))
          have HD8 := Lib.hid k8d
          have c0 := k8d.cell (i := 0) rfl
          have lpd := k8d.lt
          have m1 := K8.out.cell (i := 1) rfl
          have lpm := K8.out.lt
          have t1 := T8.out.cell (i := 1) rfl
          have ltb := T8.out.lt
          have hz8 := F8.out.size
          clear k8d
          go_wp2_with fail
          refine wp_region_noPanic ?_
          refine wp_region_held_drew (S := fun W => Fr (fun k => k = M) wm W) (by kernel_rfl) ((Fr.refl _ wm).drew) (fun hHeld => ?_)
          refine wpAnyH_take (i := 0) (oi := ⟨some 54, _, _, _, _, _⟩) (v := .pointer (some ⟨pd, 0, none⟩)) rfl (by kernel_rfl) (by kernel_rfl) (by kernel_rfl) (fun _ _ _ h => h) (Or.inl ⟨by rfl, fun W hSW => by go_simp⟩) hHeld ?_
          simp only [Act.put, List.setIfInBounds_toArray, List.set_cons_zero, List.set_cons_succ]
          refine wpAnyH_take (i := 1) (oi := ⟨some 55, _, _, _, _, _⟩) (v := .pointer (some ⟨pd, 0, none⟩)) rfl (by kernel_rfl) (by kernel_rfl) (by kernel_rfl) (fun _ _ _ h => h) (Or.inl ⟨by rfl, fun W hSW => by go_simp⟩) hHeld ?_
          simp only [Act.put, List.setIfInBounds_toArray, List.set_cons_zero, List.set_cons_succ]
          refine wpAnyH_take (i := 2) (oi := ⟨some 56, _, _, _, _, _⟩) (v := .pointer (some ⟨pd, 0, none⟩)) rfl (by kernel_rfl) (by kernel_rfl) (by kernel_rfl) (fun _ _ _ h => h) (Or.inl ⟨by rfl, fun W hSW => by go_simp⟩) hHeld ?_
          simp only [Act.put, List.setIfInBounds_toArray, List.set_cons_zero, List.set_cons_succ]
          refine wpAnyH_take (i := 3) (oi := ⟨some 57, _, _, _, _, _⟩) (v := .pointer (some ⟨pm, 0, none⟩)) rfl (by kernel_rfl) (by kernel_rfl) (by kernel_rfl) (fun _ _ _ h => h) (Or.inl ⟨by rfl, fun W hSW => by have a0 := (hSW.cell (p := ⟨pd, 0, none⟩) lpd HP.out.pdM).trans c0; go_simp⟩) hHeld ?_
          simp only [Act.put, List.setIfInBounds_toArray, List.set_cons_zero, List.set_cons_succ]
          refine wpAnyH_take (i := 4) (oi := ⟨some 58, _, _, _, _, _⟩) (v := .pointer (some ⟨pm, 0, none⟩)) rfl (by kernel_rfl) (by kernel_rfl) (by kernel_rfl) (fun _ _ _ h => h) (Or.inl ⟨by rfl, fun W hSW => by go_simp⟩) hHeld ?_
          simp only [Act.put, List.setIfInBounds_toArray, List.set_cons_zero, List.set_cons_succ]
          refine wpAnyH_take (i := 5) (oi := ⟨some 59, _, _, _, _, _⟩) (v := .pointer (some ⟨pm, 1, none⟩)) rfl (by kernel_rfl) (by kernel_rfl) (by kernel_rfl) (fun _ _ _ h => h) (Or.inl ⟨by rfl, fun W hSW => by go_simp⟩) hHeld ?_
          simp only [Act.put, List.setIfInBounds_toArray, List.set_cons_zero, List.set_cons_succ]
          refine wpAnyH_take (i := 6) (oi := ⟨some 60, _, _, _, _, _⟩) (v := .map (some M)) rfl (by kernel_rfl) (by kernel_rfl) (by kernel_rfl) (fun _ _ _ h => h) (Or.inl ⟨by rfl, fun W hSW => by have a0 := (hSW.cell (p := ⟨pm, 1, none⟩) lpm HP.out.pmM).trans m1; go_simp⟩) hHeld ?_
          simp only [Act.put, List.setIfInBounds_toArray, List.set_cons_zero, List.set_cons_succ]
          refine wpAnyH_take (i := 7) (oi := ⟨some 61, _, _, _, _, _⟩) (v := .int .i64 (j : Int)) rfl (by kernel_rfl) (by kernel_rfl) (by kernel_rfl) (fun _ _ _ h => h) (Or.inl ⟨by rfl, fun W hSW => by go_simp⟩) hHeld ?_
          simp only [Act.put, List.setIfInBounds_toArray, List.set_cons_zero, List.set_cons_succ]
          refine wpAnyH_take (i := 8) (oi := ⟨some 62, _, _, _, _, _⟩) (v := .pointer (some ⟨tb, 0, none⟩)) rfl (by kernel_rfl) (by kernel_rfl) (by kernel_rfl) (fun _ _ _ h => h) (Or.inl ⟨by rfl, fun W hSW => by go_simp⟩) hHeld ?_
          simp only [Act.put, List.setIfInBounds_toArray, List.set_cons_zero, List.set_cons_succ]
          refine wpAnyH_take (i := 9) (oi := ⟨some 63, _, _, _, _, _⟩) (v := .pointer (some ⟨tb, 1, none⟩)) rfl (by kernel_rfl) (by kernel_rfl) (by kernel_rfl) (fun _ _ _ h => h) (Or.inl ⟨by rfl, fun W hSW => by go_simp⟩) hHeld ?_
          simp only [Act.put, List.setIfInBounds_toArray, List.set_cons_zero, List.set_cons_succ]
          refine wpAnyH_take (i := 10) (oi := ⟨some 64, _, _, _, _, _⟩) (v := .string (str (pad s))) rfl (by kernel_rfl) (by kernel_rfl) (by kernel_rfl) (fun _ _ _ h => h) (Or.inl ⟨by rfl, fun W hSW => by have a0 := (hSW.cell (p := ⟨tb, 1, none⟩) ltb HX.out.2.2.2).trans t1; go_simp⟩) hHeld ?_
          simp only [Act.put, List.setIfInBounds_toArray, List.set_cons_zero, List.set_cons_succ]
          refine wpAnyH_take (i := 11) (oi := ⟨some 65, _, _, _, _, _⟩) (v := .agg #[.string (str (pad s))]) rfl (by kernel_rfl) (by kernel_rfl) (by kernel_rfl) (fun _ _ _ h => h) (Or.inl ⟨by rfl, fun W hSW => by go_simp⟩) hHeld ?_
          simp only [Act.put, List.setIfInBounds_toArray, List.set_cons_zero, List.set_cons_succ]
          refine wpAnyH_ready (rs := [12]) (by kernel_rfl) (by simp) ?_
          refine AllReadyH.cons (o := ⟨some 66, _, _, _, _, _⟩) rfl (fun K hK => ?_) AllReadyH.nil
          go_simp
          refine (put_c' (show MapD wm.drew M d.n d.now from M8.out.drew) hj (pad_len HL.out)).mono ?_
          rintro e w9 ⟨rfl, hm9, hf9⟩
          have M9 := Lib.hid hm9
          have F9 := Lib.hid ((Fr.refl (fun k => k = M) wm).drew.trans hf9 (fun i hi => .inl hi))
          clear hm9 hf9
          refine hK.out _ _ F9.out (fun hHeldZ => ?_)
          clear hK K hHeldZ
          refine wpAnyH_done (by kernel_rfl) ?_ _
          refine NoPanic.normal ?_
          go_wp2_with fail
          go_ret
          refine ⟨rfl, ?_⟩
          rw [HWD.out]
          exact write_turned HP.out HS.out B7.out F8.out F9.out K8.out O8.out M9.out HG5.out hj HLS.out
      · go_simp
        refine hK.out _ _ (Below.alloc hHeld (by have := (hHeld).size; (try simp at this); (first | omega | (simp; done) | (simp; omega))) _) (fun hHeldA => ?_)
        clear hK K
        refine wpAnyH_ready (rs := [2]) (by kernel_rfl) (by simp) ?_
        refine AllReadyH.cons (o := ⟨some 26, _, _, _, _, _⟩) rfl (fun K hK => ?_) AllReadyH.nil
        go_simp
        refine (whole_c HL.out).mono ?_
        rintro e w2 ⟨rfl, hb2⟩
        go_wp2_with fail
        have hz2 := hb2.size
        try simp at hz2
        have HB2 := Lib.hid hb2
        refine hK.out _ _ (below_t hHeldA hb2) (fun hHeld2 => ?_)
        clear hK K hb2
        refine wpAnyH_take (i := 3) (oi := ⟨some 27, _, _, _, _, _⟩) (v := .agg #[.int .i64 (j : Int), .string (str (pad s))]) rfl (by kernel_rfl) (by kernel_rfl) (by kernel_rfl) (fun _ _ _ h => h) (Or.inl ⟨by rfl, fun W hSW => by go_simp⟩) hHeld2 ?_
        simp only [Act.put, List.setIfInBounds_toArray, List.set_cons_zero, List.set_cons_succ]
        refine wpAnyH_take (i := 13) (oi := ⟨some 37, _, _, _, _, _⟩) (v := .agg #[.int .i64 (j : Int), .string (str (pad s)), .string (str (raw (d.now j)))]) rfl (by kernel_rfl) (by kernel_rfl) (by kernel_rfl) (fun _ _ _ h => h) (Or.inl ⟨by rfl, fun W hSW => by go_simp⟩) hHeld2 ?_
        simp only [Act.put, List.setIfInBounds_toArray, List.set_cons_zero, List.set_cons_succ]
        have kA := (show Blk (w.drew.alloc (.cells #[.int .i64 0, .string ⟨#[]⟩, .string ⟨#[]⟩] TW)) w.heap.size TW [.int .i64 0, .string ⟨#[]⟩, .string ⟨#[]⟩] by (repeat' (first | (with_reducible refine BlkP.Blk.drew ?_) | (with_reducible refine BlkP.Blk.drewN ?_ _) | (with_reducible refine BlkP.Blk.setAt (us := ?_) (by first | omega | (simp; done) | (simp; omega)) rfl ?_ ?_) | (with_reducible refine BlkP.Blk.otherAt ?_ (by first | omega | (simp; done) | (simp; omega))) | (with_reducible refine BlkP.Blk.newA' (by first | omega | (simp; done) | (simp; omega)) rfl) | (with_reducible refine BlkP.Blk.alloc ?_ _) | (exact rfl)))).below HB2.out
        refine wpAnyH_ready (rs := [15]) (by kernel_rfl) (by simp) ?_
        refine AllReadyH.cons (o := ⟨none, _, _, _, _, _⟩) rfl (fun K hK => ?_) AllReadyH.nil
        have KA := Lib.hid kA
        have a0 := kA.cell (i := 0) rfl
        have a1 := kA.cell (i := 1) rfl
        have a2 := kA.cell (i := 2) rfl
        have af := fun i => kA.frozen i
        have al := kA.lt
        clear kA

        go_simp
        refine hK.out _ _ (by (repeat' (first | (with_reducible exact Below.refl _ _) | (with_reducible refine Below.setCell ?_ (by (first | omega | (simp; done) | (simp; omega))) _) | (with_reducible refine Below.alloc ?_ (by (first | omega | (simp; done) | (simp; omega))) _) | (with_reducible refine Below.drew ?_) | (with_reducible refine below_drewN ?_ _) | (with_reducible refine Below.trans ?_ (Below.mono hHeld2 (by (first | omega | (simp; done) | (simp; omega)))))))) (fun hHeld4 => ?_)
        clear hK K
        refine wpAnyH_done (by kernel_rfl) ?_ _
        refine NoPanic.normal ?_
        obtain ⟨tb, htb⟩ : ∃ tb, w.heap.size = tb := ⟨_, rfl⟩
        have hge : w.heap.size ≤ tb := by exact Nat.le_of_eq htb
        refine HeldP.then_named (S := fun W => Below w.heap.size w W ∧ Blk W tb TW [.int .i64 (j : Int), .string (str (pad s)), .string (str (raw (d.now j)))]) ⟨hHeld4, by rw [← htb]; (repeat' (first | (with_reducible exact KA.out) | (with_reducible refine BlkP.Blk.drew ?_) | (with_reducible refine BlkP.Blk.drewN ?_ _) | (with_reducible refine BlkP.Blk.setAt (us := ?_) (by first | omega | (simp; done) | (simp; omega)) rfl ?_ ?_) | (with_reducible refine BlkP.Blk.otherAt ?_ (by first | omega | (simp; done) | (simp; omega))) | (with_reducible refine BlkP.Blk.newA' (by first | omega | (simp; done) | (simp; omega)) rfl) | (with_reducible refine BlkP.Blk.alloc ?_ _) | (exact rfl)))⟩ ?_
        rintro wn ⟨hb7, k7⟩
        rw [htb]
        have B7 := Lib.hid hb7
        have K7 := Lib.hid k7
        clear hHeld hHeldA hHeld2 hHeld4 hb7 k7 a0 a1 a2 af al hz2 htb
        have p7 := HP.out.fr (Fr.below (fun _ => False) B7.out) (fun _ _ q => q)
        have HP7 := Lib.hid p7
        have c0 := p7.bd.cell (i := 0) rfl
        have m1 := p7.bm.cell (i := 1) rfl
        have m2 := p7.bm.cell (i := 2) rfl
        have lpd := p7.bd.lt
        have lpm := p7.bm.lt
        have t0 := K7.out.cell (i := 0) rfl
        have t1 := K7.out.cell (i := 1) rfl
        have t2 := K7.out.cell (i := 2) rfl
        have ltb := K7.out.lt
        have hz7 := B7.out.size
        have HX := Lib.hid (show tb ≠ pm ∧ v.ownBlock ≠ some tb ∧ tb ≠ pd ∧ tb ≠ M from ⟨fun e => by have := HP.out.bm.lt; omega, fun e => by have := (HP.out.log.ge _ e).2; omega, fun e => by have := HP.out.bd.lt; omega, fun e => by have := HP.out.map.lt; omega⟩)
        clear p7
        go_wp2_with fail
        refine wp_region_noPanic ?_
        refine wp_region_held_drew (S := fun W => Fr (fun k => k = pm ∨ v.ownBlock = some k) wn W) (by kernel_rfl) ((Fr.refl _ wn).drew) (fun hHeld => ?_)
        refine wpAnyH_take (i := 0) (oi := ⟨some 38, _, _, _, _, _⟩) (v := .pointer (some ⟨pd, 0, none⟩)) rfl (by kernel_rfl) (by kernel_rfl) (by kernel_rfl) (fun _ _ _ h => h) (Or.inl ⟨by rfl, fun W hSW => by go_simp⟩) hHeld ?_
        simp only [Act.put, List.setIfInBounds_toArray, List.set_cons_zero, List.set_cons_succ]
        refine wpAnyH_take (i := 1) (oi := ⟨some 39, _, _, _, _, _⟩) (v := .pointer (some ⟨pd, 0, none⟩)) rfl (by kernel_rfl) (by kernel_rfl) (by kernel_rfl) (fun _ _ _ h => h) (Or.inl ⟨by rfl, fun W hSW => by go_simp⟩) hHeld ?_
        simp only [Act.put, List.setIfInBounds_toArray, List.set_cons_zero, List.set_cons_succ]
        refine wpAnyH_take (i := 2) (oi := ⟨some 40, _, _, _, _, _⟩) (v := .pointer (some ⟨pd, 0, none⟩)) rfl (by kernel_rfl) (by kernel_rfl) (by kernel_rfl) (fun _ _ _ h => h) (Or.inl ⟨by rfl, fun W hSW => by go_simp⟩) hHeld ?_
        simp only [Act.put, List.setIfInBounds_toArray, List.set_cons_zero, List.set_cons_succ]
        refine wpAnyH_take (i := 3) (oi := ⟨some 41, _, _, _, _, _⟩) (v := .pointer (some ⟨pm, 0, none⟩)) rfl (by kernel_rfl) (by kernel_rfl) (by kernel_rfl) (fun _ _ _ h => h) (Or.inl ⟨by rfl, fun W hSW => by have a0 := (hSW.cell (p := ⟨pd, 0, none⟩) lpd (fun q => q.elim (fun e => HP.out.pdm e) HP.out.pdv)).trans c0; go_simp⟩) hHeld ?_
        simp only [Act.put, List.setIfInBounds_toArray, List.set_cons_zero, List.set_cons_succ]
        refine wpAnyH_take (i := 4) (oi := ⟨some 42, _, _, _, _, _⟩) (v := .pointer (some ⟨pd, 0, none⟩)) rfl (by kernel_rfl) (by kernel_rfl) (by kernel_rfl) (fun _ _ _ h => h) (Or.inl ⟨by rfl, fun W hSW => by go_simp⟩) hHeld ?_
        simp only [Act.put, List.setIfInBounds_toArray, List.set_cons_zero, List.set_cons_succ]
        refine wpAnyH_take (i := 5) (oi := ⟨some 43, _, _, _, _, _⟩) (v := .pointer (some ⟨pd, 0, none⟩)) rfl (by kernel_rfl) (by kernel_rfl) (by kernel_rfl) (fun _ _ _ h => h) (Or.inl ⟨by rfl, fun W hSW => by go_simp⟩) hHeld ?_
        simp only [Act.put, List.setIfInBounds_toArray, List.set_cons_zero, List.set_cons_succ]
        refine wpAnyH_take (i := 6) (oi := ⟨some 44, _, _, _, _, _⟩) (v := .pointer (some ⟨pd, 0, none⟩)) rfl (by kernel_rfl) (by kernel_rfl) (by kernel_rfl) (fun _ _ _ h => h) (Or.inl ⟨by rfl, fun W hSW => by go_simp⟩) hHeld ?_
        simp only [Act.put, List.setIfInBounds_toArray, List.set_cons_zero, List.set_cons_succ]
        refine wpAnyH_take (i := 7) (oi := ⟨some 45, _, _, _, _, _⟩) (v := .pointer (some ⟨pm, 0, none⟩)) rfl (by kernel_rfl) (by kernel_rfl) (by kernel_rfl) (fun _ _ _ h => h) (Or.inl ⟨by rfl, fun W hSW => by have a0 := (hSW.cell (p := ⟨pd, 0, none⟩) lpd (fun q => q.elim (fun e => HP.out.pdm e) HP.out.pdv)).trans c0; go_simp⟩) hHeld ?_
        simp only [Act.put, List.setIfInBounds_toArray, List.set_cons_zero, List.set_cons_succ]
        refine wpAnyH_take (i := 8) (oi := ⟨some 46, _, _, _, _, _⟩) (v := .pointer (some ⟨pm, 0, none⟩)) rfl (by kernel_rfl) (by kernel_rfl) (by kernel_rfl) (fun _ _ _ h => h) (Or.inl ⟨by rfl, fun W hSW => by go_simp⟩) hHeld ?_
        simp only [Act.put, List.setIfInBounds_toArray, List.set_cons_zero, List.set_cons_succ]
        refine wpAnyH_take (i := 9) (oi := ⟨some 47, _, _, _, _, _⟩) (v := .pointer (some ⟨pm, 2, none⟩)) rfl (by kernel_rfl) (by kernel_rfl) (by kernel_rfl) (fun _ _ _ h => h) (Or.inl ⟨by rfl, fun W hSW => by go_simp⟩) hHeld ?_
        simp only [Act.put, List.setIfInBounds_toArray, List.set_cons_zero, List.set_cons_succ]
        refine wpAnyH_take (i := 11) (oi := ⟨some 49, _, _, _, _, _⟩) (v := .agg #[.int .i64 (j : Int), .string (str (pad s)), .string (str (raw (d.now j)))]) rfl (by kernel_rfl) (by kernel_rfl) (by kernel_rfl) (fun _ _ _ h => h) (Or.inl ⟨by rfl, fun W hSW => by have a0 := (hSW.cell (p := ⟨tb, 0, none⟩) ltb (fun q => q.elim HX.out.1 HX.out.2.1)).trans t0; have a1 := (hSW.cell (p := ⟨tb, 1, none⟩) ltb (fun q => q.elim HX.out.1 HX.out.2.1)).trans t1; have a2 := (hSW.cell (p := ⟨tb, 2, none⟩) ltb (fun q => q.elim HX.out.1 HX.out.2.1)).trans t2; go_simp⟩) hHeld ?_
        simp only [Act.put, List.setIfInBounds_toArray, List.set_cons_zero, List.set_cons_succ]
        refine wpAnyH_ready (rs := [10, 12]) (by kernel_rfl) (by simp) ?_
        refine AllReadyH.cons (o := ⟨some 48, _, _, _, _, _⟩) rfl (fun K hK => ?_) (AllReadyH.cons (o := ⟨some 50, _, _, _, _, _⟩) rfl (fun K hK => ?_) AllReadyH.nil)
        · go_simp
          refine hK.out _ _ hHeld (fun hHeldA => ?_)
          clear hK K
          refine wpAnyH_ready (rs := [12]) (by kernel_rfl) (by simp) ?_
          refine AllReadyH.cons (o := ⟨some 50, _, _, _, _, _⟩) rfl (fun K hK => ?_) AllReadyH.nil
          go_simp
          refine hK.out _ _ (hHeld.trans (Fr.alloc _ _ _) (fun i hi => .inl hi)) (fun hHeldB => ?_)
          clear hK K
          refine wpAnyH_ready (rs := [13]) (by kernel_rfl) (by simp) ?_
          refine AllReadyH.cons (o := ⟨some 51, _, _, _, _, _⟩) rfl (fun K hK => ?_) AllReadyH.nil
          refine RowE.step_pushE tyW (by decide) rfl (.tmp 48) (.tmp 50) rfl (w0 := wn.drew) (B := B) (v := v) (l := logW d.base d.ws) (y := (j, pad s, raw (d.now j))) rfl rfl rfl HP7.out.log rfl rfl (by rw [logW_len]; omega) (by have := HBZ.out; have := B7.out.size; show B ≤ wn.heap.size; omega) ?_
          intro g c w5 hpu
          rw [logW_len] at hpu ⊢
          have hfr : Fr (fun k => k = pm ∨ v.ownBlock = some k) wn w5 := (Fr.refl _ wn).drew.trans (Fr.grown (S := fun k => k = pm ∨ v.ownBlock = some k) (w := wn.drew) hpu.2.1 (fun i hi => .inr hi)) (fun i hi => .inl hi)
          have HFR := Lib.hid hfr
          have HO5 := Lib.hid hpu.1
          have HG5 := Lib.hid (show v.ownBlock = some g ∨ wn.heap.size ≤ g from hpu.2.2)
          have hb5 : Blk w5 pm TMd [.int .i64 (d.n : Int), .map (some M), v] := HP7.out.bm.grown (w := wn.drew) (w' := w5) hpu.2.1 (fun e => HP.out.pmv e.symm)
          have HB5 := Lib.hid hb5
          clear hpu
          refine hK.out _ _ hfr (fun hHeldC => ?_)
          clear hK K hfr
          refine wpAnyH_take (i := 14) (oi := ⟨some 52, _, _, _, _, _⟩) (v := .pointer (some ⟨pm, 0, none⟩)) rfl (by kernel_rfl) (by kernel_rfl) (by kernel_rfl) (fun _ _ _ h => h) (Or.inl ⟨by rfl, fun W hSW => by go_simp⟩) hHeldC ?_
          simp only [Act.put, List.setIfInBounds_toArray, List.set_cons_zero, List.set_cons_succ]
          refine wpAnyH_take (i := 15) (oi := ⟨some 53, _, _, _, _, _⟩) (v := .pointer (some ⟨pm, 2, none⟩)) rfl (by kernel_rfl) (by kernel_rfl) (by kernel_rfl) (fun _ _ _ h => h) (Or.inl ⟨by rfl, fun W hSW => by go_simp⟩) hHeldC ?_
          simp only [Act.put, List.setIfInBounds_toArray, List.set_cons_zero, List.set_cons_succ]
          refine wpAnyH_ready (rs := [16]) (by kernel_rfl) (by simp) ?_
          refine AllReadyH.cons (o := ⟨none, _, _, _, _, _⟩) rfl (fun K hK => ?_) AllReadyH.nil
          have f0 := hb5.frozen 2
          have e0 := hb5.cell (i := 2) rfl
          have l0 := hb5.lt
          clear hb5
          go_simp
          refine hK.out _ _ (HFR.out.trans (Fr.set (fun k => k = pm ∨ v.ownBlock = some k) _ _ _ (.inl rfl)) (fun i hi => .inl hi)) (fun hHeldD => ?_)
          clear hK K f0 e0 l0
          refine wpAnyH_done (by kernel_rfl) ?_ _
          refine NoPanic.normal ?_
          refine HeldP.then_named (S := fun W => Fr (fun k => k = pm ∨ v.ownBlock = some k) wn W ∧ Blk W pm TMd [.int .i64 (d.n : Int), .map (some M), .slice (some ⟨g, 0, none⟩) (d.ws.length + 1) c] ∧ RowG.Own encW TW W B (.slice (some ⟨g, 0, none⟩) (d.ws.length + 1) c) (logW d.base d.ws ++ [(j, pad s, raw (d.now j))])) ⟨hHeldD, HB5.out.set 2 _, HO5.out.grown (grown_set _ pm 2 _) (.inr (fun e => ?_))⟩ ?_
          · obtain ⟨us, hu⟩ := own_cells HO5.out e
            exact blk_ne HB5.out hu (by decide) rfl
          rintro wm ⟨hf8, hk8, ho8⟩
          have F8 := Lib.hid hf8
          have K8 := Lib.hid hk8
          have O8 := Lib.hid ho8
          clear hHeld hHeldA hHeldB hHeldC hHeldD hf8 hk8 ho8 c0 m1 m2 lpd lpm t0 t1 t2 ltb
          have k8d := F8.out.blk HP7.out.bd (fun q => q.elim (fun e => HP.out.pdm e) HP.out.pdv)
          have M8 := Lib.hid (HP7.out.map.fr F8.out (fun q => q.elim (fun e => HP.out.pmM e.symm) HP.out.Mv))
          have T8 := Lib.hid (F8.out.blk K7.out (fun q => q.elim HX.out.1 HX.out.2.1))
          have HD8 := Lib.hid k8d
          have c0 := k8d.cell (i := 0) rfl
          have lpd := k8d.lt
          have m1 := K8.out.cell (i := 1) rfl
          have lpm := K8.out.lt
          have t1 := T8.out.cell (i := 1) rfl
          have ltb := T8.out.lt
          have hz8 := F8.out.size
          clear k8d
          go_wp2_with fail
          refine wp_region_noPanic ?_
          refine wp_region_held_drew (S := fun W => Fr (fun k => k = M) wm W) (by kernel_rfl) ((Fr.refl _ wm).drew) (fun hHeld => ?_)
          refine wpAnyH_take (i := 0) (oi := ⟨some 54, _, _, _, _, _⟩) (v := .pointer (some ⟨pd, 0, none⟩)) rfl (by kernel_rfl) (by kernel_rfl) (by kernel_rfl) (fun _ _ _ h => h) (Or.inl ⟨by rfl, fun W hSW => by go_simp⟩) hHeld ?_
          simp only [Act.put, List.setIfInBounds_toArray, List.set_cons_zero, List.set_cons_succ]
          refine wpAnyH_take (i := 1) (oi := ⟨some 55, _, _, _, _, _⟩) (v := .pointer (some ⟨pd, 0, none⟩)) rfl (by kernel_rfl) (by kernel_rfl) (by kernel_rfl) (fun _ _ _ h => h) (Or.inl ⟨by rfl, fun W hSW => by go_simp⟩) hHeld ?_
          simp only [Act.put, List.setIfInBounds_toArray, List.set_cons_zero, List.set_cons_succ]
          refine wpAnyH_take (i := 2) (oi := ⟨some 56, _, _, _, _, _⟩) (v := .pointer (some ⟨pd, 0, none⟩)) rfl (by kernel_rfl) (by kernel_rfl) (by kernel_rfl) (fun _ _ _ h => h) (Or.inl ⟨by rfl, fun W hSW => by go_simp⟩) hHeld ?_
          simp only [Act.put, List.setIfInBounds_toArray, List.set_cons_zero, List.set_cons_succ]
          refine wpAnyH_take (i := 3) (oi := ⟨some 57, _, _, _, _, _⟩) (v := .pointer (some ⟨pm, 0, none⟩)) rfl (by kernel_rfl) (by kernel_rfl) (by kernel_rfl) (fun _ _ _ h => h) (Or.inl ⟨by rfl, fun W hSW => by have a0 := (hSW.cell (p := ⟨pd, 0, none⟩) lpd HP.out.pdM).trans c0; go_simp⟩) hHeld ?_
          simp only [Act.put, List.setIfInBounds_toArray, List.set_cons_zero, List.set_cons_succ]
          refine wpAnyH_take (i := 4) (oi := ⟨some 58, _, _, _, _, _⟩) (v := .pointer (some ⟨pm, 0, none⟩)) rfl (by kernel_rfl) (by kernel_rfl) (by kernel_rfl) (fun _ _ _ h => h) (Or.inl ⟨by rfl, fun W hSW => by go_simp⟩) hHeld ?_
          simp only [Act.put, List.setIfInBounds_toArray, List.set_cons_zero, List.set_cons_succ]
          refine wpAnyH_take (i := 5) (oi := ⟨some 59, _, _, _, _, _⟩) (v := .pointer (some ⟨pm, 1, none⟩)) rfl (by kernel_rfl) (by kernel_rfl) (by kernel_rfl) (fun _ _ _ h => h) (Or.inl ⟨by rfl, fun W hSW => by go_simp⟩) hHeld ?_
          simp only [Act.put, List.setIfInBounds_toArray, List.set_cons_zero, List.set_cons_succ]
          refine wpAnyH_take (i := 6) (oi := ⟨some 60, _, _, _, _, _⟩) (v := .map (some M)) rfl (by kernel_rfl) (by kernel_rfl) (by kernel_rfl) (fun _ _ _ h => h) (Or.inl ⟨by rfl, fun W hSW => by have a0 := (hSW.cell (p := ⟨pm, 1, none⟩) lpm HP.out.pmM).trans m1; go_simp⟩) hHeld ?_
          simp only [Act.put, List.setIfInBounds_toArray, List.set_cons_zero, List.set_cons_succ]
          refine wpAnyH_take (i := 7) (oi := ⟨some 61, _, _, _, _, _⟩) (v := .int .i64 (j : Int)) rfl (by kernel_rfl) (by kernel_rfl) (by kernel_rfl) (fun _ _ _ h => h) (Or.inl ⟨by rfl, fun W hSW => by go_simp⟩) hHeld ?_
          simp only [Act.put, List.setIfInBounds_toArray, List.set_cons_zero, List.set_cons_succ]
          refine wpAnyH_take (i := 8) (oi := ⟨some 62, _, _, _, _, _⟩) (v := .pointer (some ⟨tb, 0, none⟩)) rfl (by kernel_rfl) (by kernel_rfl) (by kernel_rfl) (fun _ _ _ h => h) (Or.inl ⟨by rfl, fun W hSW => by go_simp⟩) hHeld ?_
          simp only [Act.put, List.setIfInBounds_toArray, List.set_cons_zero, List.set_cons_succ]
          refine wpAnyH_take (i := 9) (oi := ⟨some 63, _, _, _, _, _⟩) (v := .pointer (some ⟨tb, 1, none⟩)) rfl (by kernel_rfl) (by kernel_rfl) (by kernel_rfl) (fun _ _ _ h => h) (Or.inl ⟨by rfl, fun W hSW => by go_simp⟩) hHeld ?_
          simp only [Act.put, List.setIfInBounds_toArray, List.set_cons_zero, List.set_cons_succ]
          refine wpAnyH_take (i := 10) (oi := ⟨some 64, _, _, _, _, _⟩) (v := .string (str (pad s))) rfl (by kernel_rfl) (by kernel_rfl) (by kernel_rfl) (fun _ _ _ h => h) (Or.inl ⟨by rfl, fun W hSW => by have a0 := (hSW.cell (p := ⟨tb, 1, none⟩) ltb HX.out.2.2.2).trans t1; go_simp⟩) hHeld ?_
          simp only [Act.put, List.setIfInBounds_toArray, List.set_cons_zero, List.set_cons_succ]
          refine wpAnyH_take (i := 11) (oi := ⟨some 65, _, _, _, _, _⟩) (v := .agg #[.string (str (pad s))]) rfl (by kernel_rfl) (by kernel_rfl) (by kernel_rfl) (fun _ _ _ h => h) (Or.inl ⟨by rfl, fun W hSW => by go_simp⟩) hHeld ?_
          simp only [Act.put, List.setIfInBounds_toArray, List.set_cons_zero, List.set_cons_succ]
          refine wpAnyH_ready (rs := [12]) (by kernel_rfl) (by simp) ?_
          refine AllReadyH.cons (o := ⟨some 66, _, _, _, _, _⟩) rfl (fun K hK => ?_) AllReadyH.nil
          go_simp
          refine (put_c' (show MapD wm.drew M d.n d.now from M8.out.drew) hj (pad_len HL.out)).mono ?_
          rintro e w9 ⟨rfl, hm9, hf9⟩
          have M9 := Lib.hid hm9
          have F9 := Lib.hid ((Fr.refl (fun k => k = M) wm).drew.trans hf9 (fun i hi => .inl hi))
          clear hm9 hf9
          refine hK.out _ _ F9.out (fun hHeldZ => ?_)
          clear hK K hHeldZ
          refine wpAnyH_done (by kernel_rfl) ?_ _
          refine NoPanic.normal ?_
          go_wp2_with fail
          go_ret
          refine ⟨rfl, ?_⟩
          rw [HWD.out]
          exact write_turned HP.out HS.out B7.out F8.out F9.out K8.out O8.out M9.out HG5.out hj HLS.out
        · go_simp
          refine hK.out _ _ (hHeld.trans (Fr.alloc _ _ _) (fun i hi => .inl hi)) (fun hHeldB => ?_)
          clear hK K
          refine wpAnyH_ready (rs := [10]) (by kernel_rfl) (by simp) ?_
          refine AllReadyH.cons (o := ⟨some 48, _, _, _, _, _⟩) rfl (fun K hK => ?_) AllReadyH.nil
          have m2b : (wn.drew.alloc (.cells #[.int .i64 (j : Int), .string (str (pad s)), .string (str (raw (d.now j)))] TW)).cell? ⟨pm, 2, none⟩ = some v := (World.cell?_alloc_lt _ _ _ lpm).trans m2
          have lpb := Nat.lt_of_lt_of_le lpm (Nat.le_succ _)
          go_simp
          refine hK.out _ _ hHeldB (fun hHeldA => ?_)
          clear hK K m2b lpb
          refine wpAnyH_ready (rs := [13]) (by kernel_rfl) (by simp) ?_
          refine AllReadyH.cons (o := ⟨some 51, _, _, _, _, _⟩) rfl (fun K hK => ?_) AllReadyH.nil
          refine RowE.step_pushE tyW (by decide) rfl (.tmp 48) (.tmp 50) rfl (w0 := wn.drew) (B := B) (v := v) (l := logW d.base d.ws) (y := (j, pad s, raw (d.now j))) rfl rfl rfl HP7.out.log rfl rfl (by rw [logW_len]; omega) (by have := HBZ.out; have := B7.out.size; show B ≤ wn.heap.size; omega) ?_
          intro g c w5 hpu
          rw [logW_len] at hpu ⊢
          have hfr : Fr (fun k => k = pm ∨ v.ownBlock = some k) wn w5 := (Fr.refl _ wn).drew.trans (Fr.grown (S := fun k => k = pm ∨ v.ownBlock = some k) (w := wn.drew) hpu.2.1 (fun i hi => .inr hi)) (fun i hi => .inl hi)
          have HFR := Lib.hid hfr
          have HO5 := Lib.hid hpu.1
          have HG5 := Lib.hid (show v.ownBlock = some g ∨ wn.heap.size ≤ g from hpu.2.2)
          have hb5 : Blk w5 pm TMd [.int .i64 (d.n : Int), .map (some M), v] := HP7.out.bm.grown (w := wn.drew) (w' := w5) hpu.2.1 (fun e => HP.out.pmv e.symm)
          have HB5 := Lib.hid hb5
          clear hpu
          refine hK.out _ _ hfr (fun hHeldC => ?_)
          clear hK K hfr
          refine wpAnyH_take (i := 14) (oi := ⟨some 52, _, _, _, _, _⟩) (v := .pointer (some ⟨pm, 0, none⟩)) rfl (by kernel_rfl) (by kernel_rfl) (by kernel_rfl) (fun _ _ _ h => h) (Or.inl ⟨by rfl, fun W hSW => by go_simp⟩) hHeldC ?_
          simp only [Act.put, List.setIfInBounds_toArray, List.set_cons_zero, List.set_cons_succ]
          refine wpAnyH_take (i := 15) (oi := ⟨some 53, _, _, _, _, _⟩) (v := .pointer (some ⟨pm, 2, none⟩)) rfl (by kernel_rfl) (by kernel_rfl) (by kernel_rfl) (fun _ _ _ h => h) (Or.inl ⟨by rfl, fun W hSW => by go_simp⟩) hHeldC ?_
          simp only [Act.put, List.setIfInBounds_toArray, List.set_cons_zero, List.set_cons_succ]
          refine wpAnyH_ready (rs := [16]) (by kernel_rfl) (by simp) ?_
          refine AllReadyH.cons (o := ⟨none, _, _, _, _, _⟩) rfl (fun K hK => ?_) AllReadyH.nil
          have f0 := hb5.frozen 2
          have e0 := hb5.cell (i := 2) rfl
          have l0 := hb5.lt
          clear hb5
          go_simp
          refine hK.out _ _ (HFR.out.trans (Fr.set (fun k => k = pm ∨ v.ownBlock = some k) _ _ _ (.inl rfl)) (fun i hi => .inl hi)) (fun hHeldD => ?_)
          clear hK K f0 e0 l0
          refine wpAnyH_done (by kernel_rfl) ?_ _
          refine NoPanic.normal ?_
          refine HeldP.then_named (S := fun W => Fr (fun k => k = pm ∨ v.ownBlock = some k) wn W ∧ Blk W pm TMd [.int .i64 (d.n : Int), .map (some M), .slice (some ⟨g, 0, none⟩) (d.ws.length + 1) c] ∧ RowG.Own encW TW W B (.slice (some ⟨g, 0, none⟩) (d.ws.length + 1) c) (logW d.base d.ws ++ [(j, pad s, raw (d.now j))])) ⟨hHeldD, HB5.out.set 2 _, HO5.out.grown (grown_set _ pm 2 _) (.inr (fun e => ?_))⟩ ?_
          · obtain ⟨us, hu⟩ := own_cells HO5.out e
            exact blk_ne HB5.out hu (by decide) rfl
          rintro wm ⟨hf8, hk8, ho8⟩
          have F8 := Lib.hid hf8
          have K8 := Lib.hid hk8
          have O8 := Lib.hid ho8
          clear hHeld hHeldA hHeldB hHeldC hHeldD hf8 hk8 ho8 c0 m1 m2 lpd lpm t0 t1 t2 ltb
          have k8d := F8.out.blk HP7.out.bd (fun q => q.elim (fun e => HP.out.pdm e) HP.out.pdv)
          have M8 := Lib.hid (HP7.out.map.fr F8.out (fun q => q.elim (fun e => HP.out.pmM e.symm) HP.out.Mv))
          have T8 := Lib.hid (F8.out.blk K7.out (fun q => q.elim HX.out.1 HX.out.2.1))
          have HD8 := Lib.hid k8d
          have c0 := k8d.cell (i := 0) rfl
          have lpd := k8d.lt
          have m1 := K8.out.cell (i := 1) rfl
          have lpm := K8.out.lt
          have t1 := T8.out.cell (i := 1) rfl
          have ltb := T8.out.lt
          have hz8 := F8.out.size
          clear k8d
          go_wp2_with fail
          refine wp_region_noPanic ?_
          refine wp_region_held_drew (S := fun W => Fr (fun k => k = M) wm W) (by kernel_rfl) ((Fr.refl _ wm).drew) (fun hHeld => ?_)
          refine wpAnyH_take (i := 0) (oi := ⟨some 54, _, _, _, _, _⟩) (v := .pointer (some ⟨pd, 0, none⟩)) rfl (by kernel_rfl) (by kernel_rfl) (by kernel_rfl) (fun _ _ _ h => h) (Or.inl ⟨by rfl, fun W hSW => by go_simp⟩) hHeld ?_
          simp only [Act.put, List.setIfInBounds_toArray, List.set_cons_zero, List.set_cons_succ]
          refine wpAnyH_take (i := 1) (oi := ⟨some 55, _, _, _, _, _⟩) (v := .pointer (some ⟨pd, 0, none⟩)) rfl (by kernel_rfl) (by kernel_rfl) (by kernel_rfl) (fun _ _ _ h => h) (Or.inl ⟨by rfl, fun W hSW => by go_simp⟩) hHeld ?_
          simp only [Act.put, List.setIfInBounds_toArray, List.set_cons_zero, List.set_cons_succ]
          refine wpAnyH_take (i := 2) (oi := ⟨some 56, _, _, _, _, _⟩) (v := .pointer (some ⟨pd, 0, none⟩)) rfl (by kernel_rfl) (by kernel_rfl) (by kernel_rfl) (fun _ _ _ h => h) (Or.inl ⟨by rfl, fun W hSW => by go_simp⟩) hHeld ?_
          simp only [Act.put, List.setIfInBounds_toArray, List.set_cons_zero, List.set_cons_succ]
          refine wpAnyH_take (i := 3) (oi := ⟨some 57, _, _, _, _, _⟩) (v := .pointer (some ⟨pm, 0, none⟩)) rfl (by kernel_rfl) (by kernel_rfl) (by kernel_rfl) (fun _ _ _ h => h) (Or.inl ⟨by rfl, fun W hSW => by have a0 := (hSW.cell (p := ⟨pd, 0, none⟩) lpd HP.out.pdM).trans c0; go_simp⟩) hHeld ?_
          simp only [Act.put, List.setIfInBounds_toArray, List.set_cons_zero, List.set_cons_succ]
          refine wpAnyH_take (i := 4) (oi := ⟨some 58, _, _, _, _, _⟩) (v := .pointer (some ⟨pm, 0, none⟩)) rfl (by kernel_rfl) (by kernel_rfl) (by kernel_rfl) (fun _ _ _ h => h) (Or.inl ⟨by rfl, fun W hSW => by go_simp⟩) hHeld ?_
          simp only [Act.put, List.setIfInBounds_toArray, List.set_cons_zero, List.set_cons_succ]
          refine wpAnyH_take (i := 5) (oi := ⟨some 59, _, _, _, _, _⟩) (v := .pointer (some ⟨pm, 1, none⟩)) rfl (by kernel_rfl) (by kernel_rfl) (by kernel_rfl) (fun _ _ _ h => h) (Or.inl ⟨by rfl, fun W hSW => by go_simp⟩) hHeld ?_
          simp only [Act.put, List.setIfInBounds_toArray, List.set_cons_zero, List.set_cons_succ]
          refine wpAnyH_take (i := 6) (oi := ⟨some 60, _, _, _, _, _⟩) (v := .map (some M)) rfl (by kernel_rfl) (by kernel_rfl) (by kernel_rfl) (fun _ _ _ h => h) (Or.inl ⟨by rfl, fun W hSW => by have a0 := (hSW.cell (p := ⟨pm, 1, none⟩) lpm HP.out.pmM).trans m1; go_simp⟩) hHeld ?_
          simp only [Act.put, List.setIfInBounds_toArray, List.set_cons_zero, List.set_cons_succ]
          refine wpAnyH_take (i := 7) (oi := ⟨some 61, _, _, _, _, _⟩) (v := .int .i64 (j : Int)) rfl (by kernel_rfl) (by kernel_rfl) (by kernel_rfl) (fun _ _ _ h => h) (Or.inl ⟨by rfl, fun W hSW => by go_simp⟩) hHeld ?_
          simp only [Act.put, List.setIfInBounds_toArray, List.set_cons_zero, List.set_cons_succ]
          refine wpAnyH_take (i := 8) (oi := ⟨some 62, _, _, _, _, _⟩) (v := .pointer (some ⟨tb, 0, none⟩)) rfl (by kernel_rfl) (by kernel_rfl) (by kernel_rfl) (fun _ _ _ h => h) (Or.inl ⟨by rfl, fun W hSW => by go_simp⟩) hHeld ?_
          simp only [Act.put, List.setIfInBounds_toArray, List.set_cons_zero, List.set_cons_succ]
          refine wpAnyH_take (i := 9) (oi := ⟨some 63, _, _, _, _, _⟩) (v := .pointer (some ⟨tb, 1, none⟩)) rfl (by kernel_rfl) (by kernel_rfl) (by kernel_rfl) (fun _ _ _ h => h) (Or.inl ⟨by rfl, fun W hSW => by go_simp⟩) hHeld ?_
          simp only [Act.put, List.setIfInBounds_toArray, List.set_cons_zero, List.set_cons_succ]
          refine wpAnyH_take (i := 10) (oi := ⟨some 64, _, _, _, _, _⟩) (v := .string (str (pad s))) rfl (by kernel_rfl) (by kernel_rfl) (by kernel_rfl) (fun _ _ _ h => h) (Or.inl ⟨by rfl, fun W hSW => by have a0 := (hSW.cell (p := ⟨tb, 1, none⟩) ltb HX.out.2.2.2).trans t1; go_simp⟩) hHeld ?_
          simp only [Act.put, List.setIfInBounds_toArray, List.set_cons_zero, List.set_cons_succ]
          refine wpAnyH_take (i := 11) (oi := ⟨some 65, _, _, _, _, _⟩) (v := .agg #[.string (str (pad s))]) rfl (by kernel_rfl) (by kernel_rfl) (by kernel_rfl) (fun _ _ _ h => h) (Or.inl ⟨by rfl, fun W hSW => by go_simp⟩) hHeld ?_
          simp only [Act.put, List.setIfInBounds_toArray, List.set_cons_zero, List.set_cons_succ]
          refine wpAnyH_ready (rs := [12]) (by kernel_rfl) (by simp) ?_
          refine AllReadyH.cons (o := ⟨some 66, _, _, _, _, _⟩) rfl (fun K hK => ?_) AllReadyH.nil
          go_simp
          refine (put_c' (show MapD wm.drew M d.n d.now from M8.out.drew) hj (pad_len HL.out)).mono ?_
          rintro e w9 ⟨rfl, hm9, hf9⟩
          have M9 := Lib.hid hm9
          have F9 := Lib.hid ((Fr.refl (fun k => k = M) wm).drew.trans hf9 (fun i hi => .inl hi))
          clear hm9 hf9
          refine hK.out _ _ F9.out (fun hHeldZ => ?_)
          clear hK K hHeldZ
          refine wpAnyH_done (by kernel_rfl) ?_ _
          refine NoPanic.normal ?_
          go_wp2_with fail
          go_ret
          refine ⟨rfl, ?_⟩
          rw [HWD.out]
          exact write_turned HP.out HS.out B7.out F8.out F9.out K8.out O8.out M9.out HG5.out hj HLS.out
    · have HB := Lib.hid hb
      have HWD := Lib.hid (show writeD d (j : Int) s = d by unfold writeD; rw [hb]; simp [hs])
      have HWE := Lib.hid (show writeE d (j : Int) s = 3 by unfold writeE; rw [hb]; simp [hs])
      rw [HWE.out, HWD.out]
      have hsz := str_size s
      have hsI : (512 : Int) < (s.length : Int) := by omega
      clear hp hS hb hs
      go_enter Tryd.func28, Tryd.ntmps28
      go_wp2_with fail
      refine (isMade_c HP.out.bd).mono ?_
      rintro e w1 ⟨rfl, rfl⟩
      go_wp2_with fail
      refine (has_c (d := d) HP.out.bm HB.out).mono ?_
      rintro e w1 ⟨rfl, rfl⟩
      go_wp2_with fail
      go_ret
      exact ⟨rfl, Turned.same ⟨pm, M, v, HP.out, HS.out⟩ (Below.refl _ _)⟩
  · have hb : inD d i = false := by
      cases hq : inD d i with
      | false => rfl
      | true => exact absurd (inD_iff.1 hq) hi
    have HB := Lib.hid hb
    have HWD := Lib.hid (show writeD d i s = d by unfold writeD; rw [hb]; rfl)
    have HWE := Lib.hid (show writeE d i s = 2 by unfold writeE; rw [hb]; rfl)
    rw [HWE.out, HWD.out]
    clear hp hS hb hi
    go_enter Tryd.func28, Tryd.ntmps28
    go_wp2_with fail
    refine (isMade_c HP.out.bd).mono ?_
    rintro e w1 ⟨rfl, rfl⟩
    go_wp2_with fail
    refine (has_c (d := d) HP.out.bm HB.out).mono ?_
    rintro e w1 ⟨rfl, rfl⟩
    go_wp2_with fail
    go_ret
    exact ⟨rfl, Turned.same ⟨pm, M, v, HP.out, HS.out⟩ (Below.refl _ _)⟩
end SecW
end Go.Proofs.YtknckaegpdganaaDoor
