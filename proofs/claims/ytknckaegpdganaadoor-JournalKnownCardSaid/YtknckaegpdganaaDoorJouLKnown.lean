/-
  JournalKnown.
-/
import Derived.Test.YtknckaegpdganaaDoorJouLaw
import Derived.Test.YtknckaegpdganaaDoorJournalHeart
import Derived.Test.YtknckaegpdganaaDoorSectorICut
namespace Go.Proofs.YtknckaegpdganaaDoor
-- mine: whole_c same_c awake_c take_c step_c back_c
open Go.RowKit
set_option linter.unusedVariables false
set_option linter.unusedSimpArgs false
set_option maxRecDepth 100000
namespace JouW
open BlkP RowG FrS PushG JournalP SecP SecW JouP CrcW
section
variable {w : World}
set_option maxHeartbeats 4000000 in
theorem Put_no {p : Option Addr} {a m : Int} {A0 : Option Addr} {n c : Nat} (h : p = none ∨ ∃ b, p = some ⟨b, 0, none⟩ ∧ Blk w b TD [.pointer none]) :
    Calls Tryd.prog 9 #[.pointer p, .int .i64 a, .int .i64 m, .slice A0 n c] w fun e w' => e = .returned (.int .i64 1) ∧ Below w.heap.size w w' := by
  have H := Lib.hid h
  clear h
  go_enter Tryd.func9, Tryd.ntmps9
  go_wp2_with fail
  refine (open_no H.out).mono ?_
  rintro e w1 ⟨rfl, hb1⟩
  have B1 := Lib.hid hb1
  unfold jv
  clear hb1
  go_wp2_with fail
  go_ret
  exact ⟨rfl, B1.out.alloc B1.out.size _⟩
set_option maxHeartbeats 4000000 in
theorem Recover_no {p : Option Addr} {a m : Int} (h : p = none ∨ ∃ b, p = some ⟨b, 0, none⟩ ∧ Blk w b TD [.pointer none]) :
    Calls Tryd.prog 19 #[.pointer p, .int .i64 a, .int .i64 m] w fun e w' => e = .returned (.tuple #[.bool false, .int .i64 1]) ∧ Below w.heap.size w w' := by
  have H := Lib.hid h
  clear h
  go_enter Tryd.func19, Tryd.ntmps19
  go_wp2_with fail
  refine (open_no H.out).mono ?_
  rintro e w1 ⟨rfl, hb1⟩
  have B1 := Lib.hid hb1
  unfold jv
  clear hb1
  go_wp2_with fail
  refine bodyPost_ret (v := .tuple #[.bool false, .int .i64 1]) (by simp [results, Tryd.results19, go_sem]) rfl ?_
  exact ⟨rfl, B1.out.alloc B1.out.size _⟩
end
/-! ### The examples, plainly -/
def aL : List (Int × Sec) := [(9, [97])]
def aaaL : List (Int × Sec) := [(9, [97]), (9, [97]), (9, [97])]
def l3 : List (Int × Sec) := [(3, [])]
def l256 : List (Int × Sec) := [(256, [])]
theorem kE1 : putE twoD 1 2 aaaL = 3 := by decide +kernel
theorem kE2 : putE twoD 1 2 l3 = 2 := by decide +kernel
theorem kE3 : putE twoD 1 2 l256 = 2 := by decide +kernel
theorem kE4 : putE twoD 254 2 aL = 2 := by decide +kernel
theorem kE5 : putE twoD (-1) 2 aL = 2 := by decide +kernel
theorem kE6 : putE twoD 1 2 [] = 0 := by decide +kernel
theorem kD {a m : Int} {L : List (Int × Sec)} {z : Int} (h : putE twoD a m L = z) (hz : z ≠ 0) : putD twoD a m L = twoD := if_neg (by rw [h]; exact hz)
theorem kD6 : putD twoD 1 2 [] = twoD := (if_pos kE6).trans (adds_nil _)
theorem cut_two {k i : Nat} : (twoD.cut k).now i = app zero ((bods 2 twoG ++ (1, pad (commitN twoG)) :: homes 1 twoG).take k) i := by
  show app (app (oldD 0 []).base (twoD.ws.take k)) [] i = _
  rw [two_ws]
  rfl
theorem fits2 : Fits 256 1 2 twoG := ⟨by decide, by decide, by decide⟩
theorem cut_n {k : Nat} : (twoD.cut k).n = 256 := rfl
theorem open2 {d : Dk} (h : d.n = 256) : openE d.n 1 2 = 0 := by rw [h]; decide
theorem st_cut2 : stJ (twoD.cut 2) 1 2 = [] := standJ_blank (m := 2) (by omega) (cut_two.trans rfl)
theorem st_cut3 : stJ (twoD.cut 3) 1 2 = pads twoG := by
  have h := put_stands (n := 256) (a := 1) (m := 2) (f := (oldD 0 []).now) (g := twoG) (by decide) fits2
  have e : app (oldD 0 []).now (preJ 1 (oldD 0 []).now ++ bods 2 twoG ++ [(1, pad (commitN twoG))]) = (twoD.cut 3).now := by
    funext i
    rw [cut_two, two_pre]
    rfl
  rw [show (1 : Nat) + 1 = 2 from rfl] at h
  rw [e] at h
  exact standJ_is (n := 256) (m := 2) (by omega) (by omega) h
theorem st_cut5 : stJ (twoD.cut 5) 1 2 = pads twoG := by
  rw [← st_cut3]
  refine standJ_own (n := 256) (a := 1) (m := 2) (by omega) (by omega) (fun i h1 h2 => ?_)
  rw [cut_two, cut_two]
  have : i = 1 ∨ i = 2 ∨ i = 3 := by omega
  rcases this with rfl | rfl | rfl <;> rfl
def x5 : Dk := twoD.cut 2
def y5 : Dk := (twoD.cut 3).adds (homes 1 (pads twoG))
def z5 : Dk := (twoD.cut 5).adds (homes 1 (pads twoG))
theorem recB_some {d : Dk} (h : d.n = 256) {g : Grp} (hs : stJ d 1 2 = g) (hg : g ≠ []) : recB d 1 2 = true ∧ recD d 1 2 = d.adds (homes 1 g) := by
  unfold recB recD
  rw [hs, open2 h, decide_eq_true rfl, if_pos rfl]
  refine ⟨?_, ?_⟩
  · cases g with
    | nil => exact absurd rfl hg
    | cons x r => rfl
  · show d.adds (recWs 1 g) = _
    unfold recWs
    rw [if_neg hg]
theorem recB_none {d : Dk} (h : d.n = 256) (hs : stJ d 1 2 = []) : recB d 1 2 = false ∧ recD d 1 2 = d := by
  unfold recB recD
  rw [hs, open2 h, decide_eq_true rfl, if_pos rfl]
  exact ⟨rfl, adds_nil d⟩
theorem k_x : recB (twoD.cut 2) 1 2 = false ∧ recD (twoD.cut 2) 1 2 = twoD.cut 2 := recB_none cut_n st_cut2
theorem k_y : recB (twoD.cut 3) 1 2 = true ∧ recD (twoD.cut 3) 1 2 = y5 := recB_some cut_n st_cut3 (by decide)
theorem k_z : recB (twoD.cut 5) 1 2 = true ∧ recD (twoD.cut 5) 1 2 = z5 := recB_some cut_n st_cut5 (by decide)
theorem k_z5 : recB z5 1 2 = false ∧ recD z5 1 2 = z5 := recB_none rfl (standJ_blank (m := 2) (by omega) (by
  show app (twoD.cut 5).base ((twoD.cut 5).ws ++ homes 1 (pads twoG)) 1 = _
  rfl))
theorem k_d : openE twoD.n 1 61 = 2 := by decide
theorem k_d2 : recB twoD 1 61 = false ∧ recD twoD 1 61 = twoD := ⟨(rec_bad k_d (by omega)).2, (rec_bad k_d (by omega)).1⟩
theorem y5_map : y5.ws.map (fun x => (x.1 : Int)) = [9, 8, 1] := rfl
theorem y5_len : y5.ws.length = 3 := rfl
theorem z5_len : z5.ws.length = 3 := rfl
theorem z5_9 : readD z5 9 = pad [97] := by
  unfold readD
  rw [if_pos (by decide), show (9 : Int).toNat = 9 from rfl]
  show pad (pad [97]) = _
  exact pad_pad (by simp)
theorem z5_8 : readD z5 8 = pad [98] := by
  unfold readD
  rw [if_pos (by decide), show (8 : Int).toNat = 8 from rfl]
  show pad (pad [98]) = _
  exact pad_pad (by simp)
set_option maxHeartbeats 16000000 in
theorem law_known {w : World} (hT : Tab w) :
    Calls Tryd.prog 4 #[] w fun e w' => e = .returned (.bool true) ∧ Below w.heap.size w w' := by
  have HT := Lib.hid hT
  have hg := hT.size
  clear hT
  go_enter Tryd.func4, Tryd.ntmps4
  go_wp2_with fail
  refine (two_c HT.out).mono ?_
  rintro e w1 ⟨pd, S0, rfl, hq, hb⟩
  have Q1 := Lib.hid hq
  have B1 := Lib.hid hb
  clear hq hb
  go_wp2_with fail
  refine (awake_c (HT.out.below B1.out)).mono ?_
  rintro e w2 ⟨rfl, hb2⟩
  have B2 := Lib.hid (below_t B1.out hb2)
  have Q2 := Lib.hid (Q1.out.below hb2)
  clear hb2
  go_wp2_with fail
  refine Size_c.mono ?_
  rintro e w3 ⟨rfl, hw⟩
  obtain rfl := hw.symm
  clear hw
  rw [show sizeJ 0 = 0 from rfl]
  go_wp2_with fail
  refine Size_c.mono ?_
  rintro e w3 ⟨rfl, hw⟩
  obtain rfl := hw.symm
  clear hw
  rw [show sizeJ 61 = 0 from rfl]
  go_wp2_with fail
  refine Size_c.mono ?_
  rintro e w3 ⟨rfl, hw⟩
  obtain rfl := hw.symm
  clear hw
  rw [show sizeJ 60 = 61 from rfl]
  go_wp2_with fail
  obtain ⟨ga, hga⟩ : ∃ ga, w2.heap.size = ga := ⟨_, rfl⟩
  refine HeldP.wp_named (S := fun W => Below w2.heap.size w2 W ∧ Blk W ga TA (flat encL aL)) ⟨by (repeat' (first | (with_reducible exact Below.refl _ _) | (with_reducible refine Below.setCell ?_ (by (first | omega | (simp; done) | (simp; omega))) _) | (with_reducible refine Below.alloc ?_ (by (first | omega | (simp; done) | (simp; omega))) _) | (with_reducible refine Below.drew ?_) | (with_reducible refine below_drewN ?_ _))), by rw [← hga]; show Blk _ _ _ [.int .i64 9, .string (str [97])]; (repeat' (first | (with_reducible refine BlkP.Blk.drew ?_) | (with_reducible refine BlkP.Blk.drewN ?_ _) | (with_reducible refine BlkP.Blk.setAt (us := ?_) (by first | omega | (simp; done) | (simp; omega)) rfl ?_ ?_) | (with_reducible refine BlkP.Blk.otherAt ?_ (by first | omega | (simp; done) | (simp; omega))) | (with_reducible refine BlkP.Blk.newA' (by first | omega | (simp; done) | (simp; omega)) rfl) | (with_reducible refine BlkP.Blk.alloc ?_ _) | (exact rfl)))⟩ (fun wr hqr => ?_)
  obtain ⟨hbr, hkr⟩ := hqr
  try rw [hga]
  have KA := Lib.hid hkr
  have QR := Lib.hid (Q2.out.below hbr)
  have BW := Lib.hid (below_t B2.out hbr)
  obtain ⟨Sd, hSd⟩ : ∃ Sd, S0 = Sd := ⟨_, rfl⟩
  rw [hSd] at QR
  have HAN := Lib.hid (show ¬ Sd ga from fun q => by have := (Q2.out.ge (hSd ▸ q)).2; omega)
  have ka0 : wr.cell? ⟨ga, 0, none⟩ = some (.int .i64 9) := hkr.cell (i := 0) rfl
  have ka1 : wr.cell? ⟨ga, 1, none⟩ = some (.string (str [97])) := hkr.cell (i := 1) rfl
  have kal := hkr.lt
  have kal2 : ga < wr.heap.size := kal
  clear hbr hkr hga hSd Q1 Q2 B1 B2
  refine wp_region_noPanic ?_
  refine wp_region_held_drew (S := fun W => Fr Sd wr W) (by kernel_rfl) ((Fr.refl Sd wr).drew) (fun hHeld => ?_)
  refine wpAnyH_take (i := 0) (oi := ⟨some 48, _, _, _, _, _⟩) (v := .pointer (some ⟨pd, 0, none⟩)) rfl (by kernel_rfl) (by kernel_rfl) (by kernel_rfl) (fun _ _ _ h => h) (Or.inl ⟨by rfl, fun W hSW => by go_simp⟩) hHeld ?_
  simp only [Act.put, List.setIfInBounds_toArray, List.set_cons_zero, List.set_cons_succ]
  refine wpAnyH_take (i := 1) (oi := ⟨some 49, _, _, _, _, _⟩) (v := .slice (some ⟨ga, 0, none⟩) 1 1) rfl (by kernel_rfl) (by kernel_rfl) (by kernel_rfl) (fun _ _ _ h => h) (Or.inl ⟨by rfl, fun W hSW => by go_simp⟩) hHeld ?_
  simp only [Act.put, List.setIfInBounds_toArray, List.set_cons_zero, List.set_cons_succ]
  refine wpAnyH_take (i := 2) (oi := ⟨some 50, _, _, _, _, _⟩) (v := .pointer (some ⟨ga, 0, none⟩)) rfl (by kernel_rfl) (by kernel_rfl) (by kernel_rfl) (fun _ _ _ h => h) (Or.inl ⟨by rfl, fun W hSW => by go_simp⟩) hHeld ?_
  simp only [Act.put, List.setIfInBounds_toArray, List.set_cons_zero, List.set_cons_succ]
  refine wpAnyH_take (i := 3) (oi := ⟨some 51, _, _, _, _, _⟩) (v := .agg #[.int .i64 9, .string (str [97])]) rfl (by kernel_rfl) (by kernel_rfl) (by kernel_rfl) (fun _ _ _ h => h) (Or.inl ⟨by rfl, fun W hSW => by have a0 := (hSW.cell (p := ⟨ga, 0, none⟩) kal HAN.out).trans ka0; have a1 := (hSW.cell (p := ⟨ga, 1, none⟩) kal HAN.out).trans ka1; go_simp⟩) hHeld ?_
  simp only [Act.put, List.setIfInBounds_toArray, List.set_cons_zero, List.set_cons_succ]
  refine wpAnyH_take (i := 4) (oi := ⟨some 52, _, _, _, _, _⟩) (v := .slice (some ⟨ga, 0, none⟩) 1 1) rfl (by kernel_rfl) (by kernel_rfl) (by kernel_rfl) (fun _ _ _ h => h) (Or.inl ⟨by rfl, fun W hSW => by go_simp⟩) hHeld ?_
  simp only [Act.put, List.setIfInBounds_toArray, List.set_cons_zero, List.set_cons_succ]
  refine wpAnyH_take (i := 5) (oi := ⟨some 53, _, _, _, _, _⟩) (v := .pointer (some ⟨ga, 0, none⟩)) rfl (by kernel_rfl) (by kernel_rfl) (by kernel_rfl) (fun _ _ _ h => h) (Or.inl ⟨by rfl, fun W hSW => by go_simp⟩) hHeld ?_
  simp only [Act.put, List.setIfInBounds_toArray, List.set_cons_zero, List.set_cons_succ]
  refine wpAnyH_take (i := 6) (oi := ⟨some 54, _, _, _, _, _⟩) (v := .agg #[.int .i64 9, .string (str [97])]) rfl (by kernel_rfl) (by kernel_rfl) (by kernel_rfl) (fun _ _ _ h => h) (Or.inl ⟨by rfl, fun W hSW => by have a0 := (hSW.cell (p := ⟨ga, 0, none⟩) kal HAN.out).trans ka0; have a1 := (hSW.cell (p := ⟨ga, 1, none⟩) kal HAN.out).trans ka1; go_simp⟩) hHeld ?_
  simp only [Act.put, List.setIfInBounds_toArray, List.set_cons_zero, List.set_cons_succ]
  refine wpAnyH_take (i := 7) (oi := ⟨some 55, _, _, _, _, _⟩) (v := .slice (some ⟨ga, 0, none⟩) 1 1) rfl (by kernel_rfl) (by kernel_rfl) (by kernel_rfl) (fun _ _ _ h => h) (Or.inl ⟨by rfl, fun W hSW => by go_simp⟩) hHeld ?_
  simp only [Act.put, List.setIfInBounds_toArray, List.set_cons_zero, List.set_cons_succ]
  refine wpAnyH_take (i := 8) (oi := ⟨some 56, _, _, _, _, _⟩) (v := .pointer (some ⟨ga, 0, none⟩)) rfl (by kernel_rfl) (by kernel_rfl) (by kernel_rfl) (fun _ _ _ h => h) (Or.inl ⟨by rfl, fun W hSW => by go_simp⟩) hHeld ?_
  simp only [Act.put, List.setIfInBounds_toArray, List.set_cons_zero, List.set_cons_succ]
  refine wpAnyH_take (i := 9) (oi := ⟨some 57, _, _, _, _, _⟩) (v := .agg #[.int .i64 9, .string (str [97])]) rfl (by kernel_rfl) (by kernel_rfl) (by kernel_rfl) (fun _ _ _ h => h) (Or.inl ⟨by rfl, fun W hSW => by have a0 := (hSW.cell (p := ⟨ga, 0, none⟩) kal HAN.out).trans ka0; have a1 := (hSW.cell (p := ⟨ga, 1, none⟩) kal HAN.out).trans ka1; go_simp⟩) hHeld ?_
  simp only [Act.put, List.setIfInBounds_toArray, List.set_cons_zero, List.set_cons_succ]
  have QW0 := QR
  have FW0 := Lib.hid (Fr.refl Sd wr)
  have NW0 := Lib.hid (show ∀ k, Sd k → Sd k ∨ wr.heap.size ≤ k from fun k hk => .inl hk)
  refine wpAnyH_ready (rs := [10]) (by kernel_rfl) (by simp) ?_
  refine AllReadyH.cons (o := ⟨some 58, _, _, _, _, _⟩) rfl (fun K hK => ?_) AllReadyH.nil
  go_simp
  refine hK.out _ _ (hHeld.trans (Fr.alloc Sd _ _) (fun i hi => .inl hi)) (fun hHeld => ?_)
  clear hK K
  refine wpAnyH_ready (rs := [11]) (by kernel_rfl) (by simp) ?_
  refine AllReadyH.cons (o := ⟨some 59, _, _, _, _, _⟩) rfl (fun K hK => ?_) AllReadyH.nil
  go_simp
  refine calls_named (S := fun W => Below wr.heap.size wr W ∧ Blk W wr.heap.size TA (flat encL aaaL)) ⟨by (repeat' (first | (with_reducible exact Below.refl _ _) | (with_reducible refine Below.setCell ?_ (by (first | omega | (simp; done) | (simp; omega))) _) | (with_reducible refine Below.alloc ?_ (by (first | omega | (simp; done) | (simp; omega))) _) | (with_reducible refine Below.drew ?_) | (with_reducible refine below_drewN ?_ _))), by show Blk _ _ _ [.int .i64 9, .string (str [97]), .int .i64 9, .string (str [97]), .int .i64 9, .string (str [97])]; (repeat' (first | (with_reducible refine BlkP.Blk.drew ?_) | (with_reducible refine BlkP.Blk.drewN ?_ _) | (with_reducible refine BlkP.Blk.setAt (us := ?_) (by first | omega | (simp; done) | (simp; omega)) rfl ?_ ?_) | (with_reducible refine BlkP.Blk.otherAt ?_ (by first | omega | (simp; done) | (simp; omega))) | (with_reducible refine BlkP.Blk.newA' (by first | omega | (simp; done) | (simp; omega)) rfl) | (with_reducible refine BlkP.Blk.alloc ?_ _) | (exact rfl)))⟩ (fun u1 hq => ?_)
  obtain ⟨hb, hk⟩ := hq
  have QU := Lib.hid (QW0.out.below hb)
  have FU := Lib.hid (FW0.out.trans (Fr.below Sd hb) (fun i hi => .inl hi))
  have BU := Lib.hid (BW.out.trans (show Below w.heap.size wr u1 from hb.mono (by have := BW.out.size; exact this)))
  have RU := Lib.hid (rd_lit (n := 3) hk rfl (by omega))
  have HRB := Lib.hid (show ∀ g, (Value.slice (some ⟨wr.heap.size, 0, none⟩) 3 3).ownBlock = some g → ¬ Sd g from fun g hg q => by
    have hg' : wr.heap.size = g := by simpa [Value.ownBlock] using hg
    have := (QW0.out.ge q).2
    omega)
  clear hb hk
  refine (Put_c (a := 1) (m := 2) (L := aaaL) (HT.out.below BU.out) hg QU.out (by rw [two_len]; omega) RU.out rfl (fun _ => HRB.out) kE1 (kD kE1 (by omega))).mono ?_
  rintro e v1 ⟨rfl, S1, hq, hf, hn⟩
  have QW1 := Lib.hid hq
  have FW1 := Lib.hid (FU.out.trans hf NW0.out)
  have BW' := Lib.hid (BU.out.trans (QU.out.toBelow hf))
  have NW1 := Lib.hid (show ∀ k, S1 k → Sd k ∨ wr.heap.size ≤ k from fun k hk => by
    rcases hn k hk with q | q
    · exact NW0.out k q
    · have := FU.out.size
      exact .inr (by omega))
  clear hq hf hn QU FU BU RU HRB BW
  have BW := BW'
  clear BW'
  go_wp2_with fail
  refine hK.out _ _ FW1.out (fun hHeld => ?_)
  clear hK K
  refine wpAnyH_take (i := 12) (oi := ⟨some 60, _, _, _, _, _⟩) (v := .bool true) rfl (by kernel_rfl) (by kernel_rfl) (by kernel_rfl) (fun _ _ _ h => h) (Or.inl ⟨by rfl, fun W hSW => by go_simp⟩) hHeld ?_
  simp only [Act.put, List.setIfInBounds_toArray, List.set_cons_zero, List.set_cons_succ]
  refine wpAnyH_take (i := 13) (oi := ⟨some 61, _, _, _, _, _⟩) (v := .bool true) rfl (by kernel_rfl) (by kernel_rfl) (by kernel_rfl) (fun _ _ _ h => h) (Or.inl ⟨by rfl, fun W hSW => by go_simp⟩) hHeld ?_
  simp only [Act.put, List.setIfInBounds_toArray, List.set_cons_zero, List.set_cons_succ]
  refine wpAnyH_take (i := 14) (oi := ⟨some 62, _, _, _, _, _⟩) (v := .pointer (some ⟨pd, 0, none⟩)) rfl (by kernel_rfl) (by kernel_rfl) (by kernel_rfl) (fun _ _ _ h => h) (Or.inl ⟨by rfl, fun W hSW => by go_simp⟩) hHeld ?_
  simp only [Act.put, List.setIfInBounds_toArray, List.set_cons_zero, List.set_cons_succ]
  refine wpAnyH_take (i := 15) (oi := ⟨some 63, _, _, _, _, _⟩) (v := .agg #[.int .i64 3, .string ⟨#[]⟩]) rfl (by kernel_rfl) (by kernel_rfl) (by kernel_rfl) (fun _ _ _ h => h) (Or.inl ⟨by rfl, fun W hSW => by go_simp⟩) hHeld ?_
  simp only [Act.put, List.setIfInBounds_toArray, List.set_cons_zero, List.set_cons_succ]
  refine wpAnyH_ready (rs := [16]) (by kernel_rfl) (by simp) ?_
  refine AllReadyH.cons (o := ⟨some 64, _, _, _, _, _⟩) rfl (fun K hK => ?_) AllReadyH.nil
  go_simp
  refine hK.out _ _ (hHeld.trans (Fr.alloc Sd _ _) (fun i hi => .inl hi)) (fun hHeld => ?_)
  clear hK K
  refine wpAnyH_ready (rs := [17]) (by kernel_rfl) (by simp) ?_
  refine AllReadyH.cons (o := ⟨some 65, _, _, _, _, _⟩) rfl (fun K hK => ?_) AllReadyH.nil
  go_simp
  refine calls_named (S := fun W => Below v1.heap.size v1 W ∧ Blk W v1.heap.size TA (flat encL l3)) ⟨by (repeat' (first | (with_reducible exact Below.refl _ _) | (with_reducible refine Below.setCell ?_ (by (first | omega | (simp; done) | (simp; omega))) _) | (with_reducible refine Below.alloc ?_ (by (first | omega | (simp; done) | (simp; omega))) _) | (with_reducible refine Below.drew ?_) | (with_reducible refine below_drewN ?_ _))), by show Blk _ _ _ [.int .i64 3, .string ⟨#[]⟩]; (repeat' (first | (with_reducible refine BlkP.Blk.drew ?_) | (with_reducible refine BlkP.Blk.drewN ?_ _) | (with_reducible refine BlkP.Blk.setAt (us := ?_) (by first | omega | (simp; done) | (simp; omega)) rfl ?_ ?_) | (with_reducible refine BlkP.Blk.otherAt ?_ (by first | omega | (simp; done) | (simp; omega))) | (with_reducible refine BlkP.Blk.newA' (by first | omega | (simp; done) | (simp; omega)) rfl) | (with_reducible refine BlkP.Blk.alloc ?_ _) | (exact rfl)))⟩ (fun u2 hq => ?_)
  obtain ⟨hb, hk⟩ := hq
  have QU := Lib.hid (QW1.out.below hb)
  have FU := Lib.hid (FW1.out.trans (Fr.below Sd hb) (fun i hi => .inl hi))
  have BU := Lib.hid (BW.out.trans (show Below w.heap.size v1 u2 from hb.mono (by have := BW.out.size; exact this)))
  have RU := Lib.hid (rd_lit (n := 1) hk rfl (by omega))
  have HRB := Lib.hid (show ∀ g, (Value.slice (some ⟨v1.heap.size, 0, none⟩) 1 1).ownBlock = some g → ¬ S1 g from fun g hg q => by
    have hg' : v1.heap.size = g := by simpa [Value.ownBlock] using hg
    have := (QW1.out.ge q).2
    omega)
  clear hb hk
  refine (Put_c (a := 1) (m := 2) (L := l3) (HT.out.below BU.out) hg QU.out (by rw [two_len]; omega) RU.out rfl (fun _ => HRB.out) kE2 (kD kE2 (by omega))).mono ?_
  rintro e v2 ⟨rfl, S2, hq, hf, hn⟩
  have QW2 := Lib.hid hq
  have FW2 := Lib.hid (FU.out.trans hf NW1.out)
  have BW' := Lib.hid (BU.out.trans (QU.out.toBelow hf))
  have NW2 := Lib.hid (show ∀ k, S2 k → Sd k ∨ wr.heap.size ≤ k from fun k hk => by
    rcases hn k hk with q | q
    · exact NW1.out k q
    · have := FU.out.size
      exact .inr (by omega))
  clear hq hf hn QU FU BU RU HRB BW
  have BW := BW'
  clear BW'
  go_wp2_with fail
  refine hK.out _ _ FW2.out (fun hHeld => ?_)
  clear hK K
  refine wpAnyH_take (i := 18) (oi := ⟨some 66, _, _, _, _, _⟩) (v := .bool true) rfl (by kernel_rfl) (by kernel_rfl) (by kernel_rfl) (fun _ _ _ h => h) (Or.inl ⟨by rfl, fun W hSW => by go_simp⟩) hHeld ?_
  simp only [Act.put, List.setIfInBounds_toArray, List.set_cons_zero, List.set_cons_succ]
  refine wpAnyH_take (i := 19) (oi := ⟨some 67, _, _, _, _, _⟩) (v := .bool true) rfl (by kernel_rfl) (by kernel_rfl) (by kernel_rfl) (fun _ _ _ h => h) (Or.inl ⟨by rfl, fun W hSW => by go_simp⟩) hHeld ?_
  simp only [Act.put, List.setIfInBounds_toArray, List.set_cons_zero, List.set_cons_succ]
  refine wpAnyH_take (i := 20) (oi := ⟨some 68, _, _, _, _, _⟩) (v := .bool true) rfl (by kernel_rfl) (by kernel_rfl) (by kernel_rfl) (fun _ _ _ h => h) (Or.inl ⟨by rfl, fun W hSW => by go_simp⟩) hHeld ?_
  simp only [Act.put, List.setIfInBounds_toArray, List.set_cons_zero, List.set_cons_succ]
  refine wpAnyH_take (i := 21) (oi := ⟨some 69, _, _, _, _, _⟩) (v := .pointer (some ⟨pd, 0, none⟩)) rfl (by kernel_rfl) (by kernel_rfl) (by kernel_rfl) (fun _ _ _ h => h) (Or.inl ⟨by rfl, fun W hSW => by go_simp⟩) hHeld ?_
  simp only [Act.put, List.setIfInBounds_toArray, List.set_cons_zero, List.set_cons_succ]
  refine wpAnyH_take (i := 22) (oi := ⟨some 70, _, _, _, _, _⟩) (v := .agg #[.int .i64 256, .string ⟨#[]⟩]) rfl (by kernel_rfl) (by kernel_rfl) (by kernel_rfl) (fun _ _ _ h => h) (Or.inl ⟨by rfl, fun W hSW => by go_simp⟩) hHeld ?_
  simp only [Act.put, List.setIfInBounds_toArray, List.set_cons_zero, List.set_cons_succ]
  refine wpAnyH_ready (rs := [23]) (by kernel_rfl) (by simp) ?_
  refine AllReadyH.cons (o := ⟨some 71, _, _, _, _, _⟩) rfl (fun K hK => ?_) AllReadyH.nil
  go_simp
  refine hK.out _ _ (hHeld.trans (Fr.alloc Sd _ _) (fun i hi => .inl hi)) (fun hHeld => ?_)
  clear hK K
  refine wpAnyH_ready (rs := [24]) (by kernel_rfl) (by simp) ?_
  refine AllReadyH.cons (o := ⟨some 72, _, _, _, _, _⟩) rfl (fun K hK => ?_) AllReadyH.nil
  go_simp
  refine calls_named (S := fun W => Below v2.heap.size v2 W ∧ Blk W v2.heap.size TA (flat encL l256)) ⟨by (repeat' (first | (with_reducible exact Below.refl _ _) | (with_reducible refine Below.setCell ?_ (by (first | omega | (simp; done) | (simp; omega))) _) | (with_reducible refine Below.alloc ?_ (by (first | omega | (simp; done) | (simp; omega))) _) | (with_reducible refine Below.drew ?_) | (with_reducible refine below_drewN ?_ _))), by show Blk _ _ _ [.int .i64 256, .string ⟨#[]⟩]; (repeat' (first | (with_reducible refine BlkP.Blk.drew ?_) | (with_reducible refine BlkP.Blk.drewN ?_ _) | (with_reducible refine BlkP.Blk.setAt (us := ?_) (by first | omega | (simp; done) | (simp; omega)) rfl ?_ ?_) | (with_reducible refine BlkP.Blk.otherAt ?_ (by first | omega | (simp; done) | (simp; omega))) | (with_reducible refine BlkP.Blk.newA' (by first | omega | (simp; done) | (simp; omega)) rfl) | (with_reducible refine BlkP.Blk.alloc ?_ _) | (exact rfl)))⟩ (fun u3 hq => ?_)
  obtain ⟨hb, hk⟩ := hq
  have QU := Lib.hid (QW2.out.below hb)
  have FU := Lib.hid (FW2.out.trans (Fr.below Sd hb) (fun i hi => .inl hi))
  have BU := Lib.hid (BW.out.trans (show Below w.heap.size v2 u3 from hb.mono (by have := BW.out.size; exact this)))
  have RU := Lib.hid (rd_lit (n := 1) hk rfl (by omega))
  have HRB := Lib.hid (show ∀ g, (Value.slice (some ⟨v2.heap.size, 0, none⟩) 1 1).ownBlock = some g → ¬ S2 g from fun g hg q => by
    have hg' : v2.heap.size = g := by simpa [Value.ownBlock] using hg
    have := (QW2.out.ge q).2
    omega)
  clear hb hk
  refine (Put_c (a := 1) (m := 2) (L := l256) (HT.out.below BU.out) hg QU.out (by rw [two_len]; omega) RU.out rfl (fun _ => HRB.out) kE3 (kD kE3 (by omega))).mono ?_
  rintro e v3 ⟨rfl, S3, hq, hf, hn⟩
  have QW3 := Lib.hid hq
  have FW3 := Lib.hid (FU.out.trans hf NW2.out)
  have BW' := Lib.hid (BU.out.trans (QU.out.toBelow hf))
  have NW3 := Lib.hid (show ∀ k, S3 k → Sd k ∨ wr.heap.size ≤ k from fun k hk => by
    rcases hn k hk with q | q
    · exact NW2.out k q
    · have := FU.out.size
      exact .inr (by omega))
  clear hq hf hn QU FU BU RU HRB BW
  have BW := BW'
  clear BW'
  go_wp2_with fail
  refine hK.out _ _ FW3.out (fun hHeld => ?_)
  clear hK K
  refine wpAnyH_take (i := 25) (oi := ⟨some 73, _, _, _, _, _⟩) (v := .bool true) rfl (by kernel_rfl) (by kernel_rfl) (by kernel_rfl) (fun _ _ _ h => h) (Or.inl ⟨by rfl, fun W hSW => by go_simp⟩) hHeld ?_
  simp only [Act.put, List.setIfInBounds_toArray, List.set_cons_zero, List.set_cons_succ]
  refine wpAnyH_take (i := 26) (oi := ⟨some 74, _, _, _, _, _⟩) (v := .bool true) rfl (by kernel_rfl) (by kernel_rfl) (by kernel_rfl) (fun _ _ _ h => h) (Or.inl ⟨by rfl, fun W hSW => by go_simp⟩) hHeld ?_
  simp only [Act.put, List.setIfInBounds_toArray, List.set_cons_zero, List.set_cons_succ]
  refine wpAnyH_take (i := 27) (oi := ⟨some 75, _, _, _, _, _⟩) (v := .bool true) rfl (by kernel_rfl) (by kernel_rfl) (by kernel_rfl) (fun _ _ _ h => h) (Or.inl ⟨by rfl, fun W hSW => by go_simp⟩) hHeld ?_
  simp only [Act.put, List.setIfInBounds_toArray, List.set_cons_zero, List.set_cons_succ]
  refine wpAnyH_take (i := 28) (oi := ⟨some 76, _, _, _, _, _⟩) (v := .pointer (some ⟨pd, 0, none⟩)) rfl (by kernel_rfl) (by kernel_rfl) (by kernel_rfl) (fun _ _ _ h => h) (Or.inl ⟨by rfl, fun W hSW => by go_simp⟩) hHeld ?_
  simp only [Act.put, List.setIfInBounds_toArray, List.set_cons_zero, List.set_cons_succ]
  refine wpAnyH_take (i := 29) (oi := ⟨some 77, _, _, _, _, _⟩) (v := .slice (some ⟨ga, 0, none⟩) 1 1) rfl (by kernel_rfl) (by kernel_rfl) (by kernel_rfl) (fun _ _ _ h => h) (Or.inl ⟨by rfl, fun W hSW => by go_simp⟩) hHeld ?_
  simp only [Act.put, List.setIfInBounds_toArray, List.set_cons_zero, List.set_cons_succ]
  refine wpAnyH_ready (rs := [30]) (by kernel_rfl) (by simp) ?_
  refine AllReadyH.cons (o := ⟨some 78, _, _, _, _, _⟩) rfl (fun K hK => ?_) AllReadyH.nil
  go_simp
  have QU := Lib.hid QW3.out
  have FU := Lib.hid FW3.out
  have BU := Lib.hid BW.out
  have RU := Lib.hid (rd_lit (n := 1) (l := aL) (FW3.out.blk KA.out HAN.out) rfl (by omega))
  have HRB := Lib.hid (show ∀ g, (Value.slice (some ⟨ga, 0, none⟩) 1 1).ownBlock = some g → ¬ S3 g from fun g hg q => by
    have hg' : ga = g := by simpa [Value.ownBlock] using hg
    subst hg'
    rcases NW3.out _ q with q2 | q2
    · exact HAN.out q2
    · omega)
  refine (Put_c (a := 254) (m := 2) (L := aL) (HT.out.below BU.out) hg QU.out (by rw [two_len]; omega) RU.out rfl (fun _ => HRB.out) kE4 (kD kE4 (by omega))).mono ?_
  rintro e v4 ⟨rfl, S4, hq, hf, hn⟩
  have QW4 := Lib.hid hq
  have FW4 := Lib.hid (FU.out.trans hf NW3.out)
  have BW' := Lib.hid (BU.out.trans (QU.out.toBelow hf))
  have NW4 := Lib.hid (show ∀ k, S4 k → Sd k ∨ wr.heap.size ≤ k from fun k hk => by
    rcases hn k hk with q | q
    · exact NW3.out k q
    · have := FU.out.size
      exact .inr (by omega))
  clear hq hf hn QU FU BU RU HRB BW
  have BW := BW'
  clear BW'
  go_wp2_with fail
  refine hK.out _ _ FW4.out (fun hHeld => ?_)
  clear hK K
  refine wpAnyH_take (i := 31) (oi := ⟨some 79, _, _, _, _, _⟩) (v := .bool true) rfl (by kernel_rfl) (by kernel_rfl) (by kernel_rfl) (fun _ _ _ h => h) (Or.inl ⟨by rfl, fun W hSW => by go_simp⟩) hHeld ?_
  simp only [Act.put, List.setIfInBounds_toArray, List.set_cons_zero, List.set_cons_succ]
  refine wpAnyH_take (i := 32) (oi := ⟨some 80, _, _, _, _, _⟩) (v := .bool true) rfl (by kernel_rfl) (by kernel_rfl) (by kernel_rfl) (fun _ _ _ h => h) (Or.inl ⟨by rfl, fun W hSW => by go_simp⟩) hHeld ?_
  simp only [Act.put, List.setIfInBounds_toArray, List.set_cons_zero, List.set_cons_succ]
  refine wpAnyH_take (i := 33) (oi := ⟨some 81, _, _, _, _, _⟩) (v := .bool true) rfl (by kernel_rfl) (by kernel_rfl) (by kernel_rfl) (fun _ _ _ h => h) (Or.inl ⟨by rfl, fun W hSW => by go_simp⟩) hHeld ?_
  simp only [Act.put, List.setIfInBounds_toArray, List.set_cons_zero, List.set_cons_succ]
  refine wpAnyH_take (i := 34) (oi := ⟨some 82, _, _, _, _, _⟩) (v := .pointer none) rfl (by kernel_rfl) (by kernel_rfl) (by kernel_rfl) (fun _ _ _ h => h) (Or.inl ⟨by rfl, fun W hSW => by go_simp⟩) hHeld ?_
  simp only [Act.put, List.setIfInBounds_toArray, List.set_cons_zero, List.set_cons_succ]
  refine wpAnyH_take (i := 35) (oi := ⟨some 83, _, _, _, _, _⟩) (v := .slice (some ⟨ga, 0, none⟩) 1 1) rfl (by kernel_rfl) (by kernel_rfl) (by kernel_rfl) (fun _ _ _ h => h) (Or.inl ⟨by rfl, fun W hSW => by go_simp⟩) hHeld ?_
  simp only [Act.put, List.setIfInBounds_toArray, List.set_cons_zero, List.set_cons_succ]
  refine wpAnyH_ready (rs := [36]) (by kernel_rfl) (by simp) ?_
  refine AllReadyH.cons (o := ⟨some 84, _, _, _, _, _⟩) rfl (fun K hK => ?_) AllReadyH.nil
  go_simp
  refine (Put_no (p := none) (.inl rfl)).mono ?_
  rintro e v5 ⟨rfl, hb2⟩
  have BV := Lib.hid hb2
  clear hb2
  have QW5 := Lib.hid (QW4.out.below BV.out)
  have FW5 := Lib.hid (FW4.out.trans (Fr.below Sd BV.out) (fun i hi => .inl hi))
  have BW' := Lib.hid (below_t BW.out BV.out)
  have NW5 := NW4
  clear BW BV
  have BW := BW'
  clear BW'
  go_wp2_with fail
  refine hK.out _ _ FW5.out (fun hHeld => ?_)
  clear hK K
  refine wpAnyH_take (i := 37) (oi := ⟨some 85, _, _, _, _, _⟩) (v := .bool true) rfl (by kernel_rfl) (by kernel_rfl) (by kernel_rfl) (fun _ _ _ h => h) (Or.inl ⟨by rfl, fun W hSW => by go_simp⟩) hHeld ?_
  simp only [Act.put, List.setIfInBounds_toArray, List.set_cons_zero, List.set_cons_succ]
  refine wpAnyH_take (i := 38) (oi := ⟨some 86, _, _, _, _, _⟩) (v := .bool true) rfl (by kernel_rfl) (by kernel_rfl) (by kernel_rfl) (fun _ _ _ h => h) (Or.inl ⟨by rfl, fun W hSW => by go_simp⟩) hHeld ?_
  simp only [Act.put, List.setIfInBounds_toArray, List.set_cons_zero, List.set_cons_succ]
  refine wpAnyH_take (i := 39) (oi := ⟨some 87, _, _, _, _, _⟩) (v := .bool true) rfl (by kernel_rfl) (by kernel_rfl) (by kernel_rfl) (fun _ _ _ h => h) (Or.inl ⟨by rfl, fun W hSW => by go_simp⟩) hHeld ?_
  simp only [Act.put, List.setIfInBounds_toArray, List.set_cons_zero, List.set_cons_succ]
  refine wpAnyH_take (i := 40) (oi := ⟨some 88, _, _, _, _, _⟩) (v := .agg #[.pointer none]) rfl (by kernel_rfl) (by kernel_rfl) (by kernel_rfl) (fun _ _ _ h => h) (Or.inl ⟨by rfl, fun W hSW => by go_simp⟩) hHeld ?_
  simp only [Act.put, List.setIfInBounds_toArray, List.set_cons_zero, List.set_cons_succ]
  refine wpAnyH_take (i := 42) (oi := ⟨some 90, _, _, _, _, _⟩) (v := .slice (some ⟨ga, 0, none⟩) 1 1) rfl (by kernel_rfl) (by kernel_rfl) (by kernel_rfl) (fun _ _ _ h => h) (Or.inl ⟨by rfl, fun W hSW => by go_simp⟩) hHeld ?_
  simp only [Act.put, List.setIfInBounds_toArray, List.set_cons_zero, List.set_cons_succ]
  refine wpAnyH_ready (rs := [41]) (by kernel_rfl) (by simp) ?_
  refine AllReadyH.cons (o := ⟨some 89, _, _, _, _, _⟩) rfl (fun K hK => ?_) AllReadyH.nil
  go_simp
  refine hK.out _ _ (hHeld.trans (Fr.alloc Sd _ _) (fun i hi => .inl hi)) (fun hHeld => ?_)
  clear hK K
  refine wpAnyH_ready (rs := [43]) (by kernel_rfl) (by simp) ?_
  refine AllReadyH.cons (o := ⟨some 91, _, _, _, _, _⟩) rfl (fun K hK => ?_) AllReadyH.nil
  go_simp
  refine calls_named (S := fun W => Below v5.heap.size v5 W ∧ Blk W v5.heap.size TD [.pointer none]) ⟨by (repeat' (first | (with_reducible exact Below.refl _ _) | (with_reducible refine Below.setCell ?_ (by (first | omega | (simp; done) | (simp; omega))) _) | (with_reducible refine Below.alloc ?_ (by (first | omega | (simp; done) | (simp; omega))) _) | (with_reducible refine Below.drew ?_) | (with_reducible refine below_drewN ?_ _))), by (repeat' (first | (with_reducible refine BlkP.Blk.drew ?_) | (with_reducible refine BlkP.Blk.drewN ?_ _) | (with_reducible refine BlkP.Blk.setAt (us := ?_) (by first | omega | (simp; done) | (simp; omega)) rfl ?_ ?_) | (with_reducible refine BlkP.Blk.otherAt ?_ (by first | omega | (simp; done) | (simp; omega))) | (with_reducible refine BlkP.Blk.newA' (by first | omega | (simp; done) | (simp; omega)) rfl) | (with_reducible refine BlkP.Blk.alloc ?_ _) | (exact rfl)))⟩ (fun u6 hq => ?_)
  obtain ⟨hb, hk⟩ := hq
  refine (Put_no (p := some ⟨v5.heap.size, 0, none⟩) (.inr ⟨_, rfl, hk⟩)).mono ?_
  rintro e v6 ⟨rfl, hb2⟩
  have BV := Lib.hid (below_t hb hb2)
  clear hb hb2 hk
  have QW6 := Lib.hid (QW5.out.below BV.out)
  have FW6 := Lib.hid (FW5.out.trans (Fr.below Sd BV.out) (fun i hi => .inl hi))
  have BW' := Lib.hid (below_t BW.out BV.out)
  have NW6 := NW5
  clear BW BV
  have BW := BW'
  clear BW'
  go_wp2_with fail
  refine hK.out _ _ FW6.out (fun hHeld => ?_)
  clear hK K
  refine wpAnyH_take (i := 44) (oi := ⟨some 92, _, _, _, _, _⟩) (v := .bool true) rfl (by kernel_rfl) (by kernel_rfl) (by kernel_rfl) (fun _ _ _ h => h) (Or.inl ⟨by rfl, fun W hSW => by go_simp⟩) hHeld ?_
  simp only [Act.put, List.setIfInBounds_toArray, List.set_cons_zero, List.set_cons_succ]
  refine wpAnyH_take (i := 45) (oi := ⟨some 93, _, _, _, _, _⟩) (v := .bool true) rfl (by kernel_rfl) (by kernel_rfl) (by kernel_rfl) (fun _ _ _ h => h) (Or.inl ⟨by rfl, fun W hSW => by go_simp⟩) hHeld ?_
  simp only [Act.put, List.setIfInBounds_toArray, List.set_cons_zero, List.set_cons_succ]
  refine wpAnyH_take (i := 46) (oi := ⟨some 94, _, _, _, _, _⟩) (v := .bool true) rfl (by kernel_rfl) (by kernel_rfl) (by kernel_rfl) (fun _ _ _ h => h) (Or.inl ⟨by rfl, fun W hSW => by go_simp⟩) hHeld ?_
  simp only [Act.put, List.setIfInBounds_toArray, List.set_cons_zero, List.set_cons_succ]
  refine wpAnyH_take (i := 47) (oi := ⟨some 95, _, _, _, _, _⟩) (v := .pointer (some ⟨pd, 0, none⟩)) rfl (by kernel_rfl) (by kernel_rfl) (by kernel_rfl) (fun _ _ _ h => h) (Or.inl ⟨by rfl, fun W hSW => by go_simp⟩) hHeld ?_
  simp only [Act.put, List.setIfInBounds_toArray, List.set_cons_zero, List.set_cons_succ]
  refine wpAnyH_take (i := 48) (oi := ⟨some 96, _, _, _, _, _⟩) (v := .slice (some ⟨ga, 0, none⟩) 1 1) rfl (by kernel_rfl) (by kernel_rfl) (by kernel_rfl) (fun _ _ _ h => h) (Or.inl ⟨by rfl, fun W hSW => by go_simp⟩) hHeld ?_
  simp only [Act.put, List.setIfInBounds_toArray, List.set_cons_zero, List.set_cons_succ]
  refine wpAnyH_ready (rs := [49]) (by kernel_rfl) (by simp) ?_
  refine AllReadyH.cons (o := ⟨some 97, _, _, _, _, _⟩) rfl (fun K hK => ?_) AllReadyH.nil
  go_simp
  have QU := Lib.hid QW6.out
  have FU := Lib.hid FW6.out
  have BU := Lib.hid BW.out
  have RU := Lib.hid (rd_lit (n := 1) (l := aL) (FW6.out.blk KA.out HAN.out) rfl (by omega))
  have HRB := Lib.hid (show ∀ g, (Value.slice (some ⟨ga, 0, none⟩) 1 1).ownBlock = some g → ¬ S4 g from fun g hg q => by
    have hg' : ga = g := by simpa [Value.ownBlock] using hg
    subst hg'
    rcases NW6.out _ q with q2 | q2
    · exact HAN.out q2
    · omega)
  refine (Put_c (a := (-1)) (m := 2) (L := aL) (HT.out.below BU.out) hg QU.out (by rw [two_len]; omega) RU.out rfl (fun _ => HRB.out) kE5 (kD kE5 (by omega))).mono ?_
  rintro e v7 ⟨rfl, S7, hq, hf, hn⟩
  have QW7 := Lib.hid hq
  have FW7 := Lib.hid (FU.out.trans hf NW6.out)
  have BW' := Lib.hid (BU.out.trans (QU.out.toBelow hf))
  have NW7 := Lib.hid (show ∀ k, S7 k → Sd k ∨ wr.heap.size ≤ k from fun k hk => by
    rcases hn k hk with q | q
    · exact NW6.out k q
    · have := FU.out.size
      exact .inr (by omega))
  clear hq hf hn QU FU BU RU HRB BW
  have BW := BW'
  clear BW'
  go_wp2_with fail
  refine hK.out _ _ FW7.out (fun hHeld => ?_)
  clear hK K
  refine wpAnyH_take (i := 50) (oi := ⟨some 98, _, _, _, _, _⟩) (v := .bool true) rfl (by kernel_rfl) (by kernel_rfl) (by kernel_rfl) (fun _ _ _ h => h) (Or.inl ⟨by rfl, fun W hSW => by go_simp⟩) hHeld ?_
  simp only [Act.put, List.setIfInBounds_toArray, List.set_cons_zero, List.set_cons_succ]
  refine wpAnyH_take (i := 51) (oi := ⟨some 99, _, _, _, _, _⟩) (v := .bool true) rfl (by kernel_rfl) (by kernel_rfl) (by kernel_rfl) (fun _ _ _ h => h) (Or.inl ⟨by rfl, fun W hSW => by go_simp⟩) hHeld ?_
  simp only [Act.put, List.setIfInBounds_toArray, List.set_cons_zero, List.set_cons_succ]
  refine wpAnyH_take (i := 52) (oi := ⟨some 100, _, _, _, _, _⟩) (v := .bool true) rfl (by kernel_rfl) (by kernel_rfl) (by kernel_rfl) (fun _ _ _ h => h) (Or.inl ⟨by rfl, fun W hSW => by go_simp⟩) hHeld ?_
  simp only [Act.put, List.setIfInBounds_toArray, List.set_cons_zero, List.set_cons_succ]
  refine wpAnyH_take (i := 53) (oi := ⟨some 101, _, _, _, _, _⟩) (v := .pointer (some ⟨pd, 0, none⟩)) rfl (by kernel_rfl) (by kernel_rfl) (by kernel_rfl) (fun _ _ _ h => h) (Or.inl ⟨by rfl, fun W hSW => by go_simp⟩) hHeld ?_
  simp only [Act.put, List.setIfInBounds_toArray, List.set_cons_zero, List.set_cons_succ]
  refine wpAnyH_ready (rs := [54]) (by kernel_rfl) (by simp) ?_
  refine AllReadyH.cons (o := ⟨some 102, _, _, _, _, _⟩) rfl (fun K hK => ?_) AllReadyH.nil
  go_simp
  have QU := Lib.hid QW7.out
  have FU := Lib.hid FW7.out
  have BU := Lib.hid BW.out
  have RU := Lib.hid (Rd.nil encL v7)
  have HRB := Lib.hid (show ∀ g, (Value.slice none 0 0).ownBlock = some g → ¬ S7 g from fun g hg q => by cases hg)
  refine (Put_c (a := 1) (m := 2) (L := []) (HT.out.below BU.out) hg QU.out (by rw [two_len]; omega) RU.out rfl (fun _ => HRB.out) kE6 kD6).mono ?_
  rintro e v8 ⟨rfl, S8, hq, hf, hn⟩
  have QW8 := Lib.hid hq
  have FW8 := Lib.hid (FU.out.trans hf NW7.out)
  have BW' := Lib.hid (BU.out.trans (QU.out.toBelow hf))
  have NW8 := Lib.hid (show ∀ k, S8 k → Sd k ∨ wr.heap.size ≤ k from fun k hk => by
    rcases hn k hk with q | q
    · exact NW7.out k q
    · have := FU.out.size
      exact .inr (by omega))
  clear hq hf hn QU FU BU RU HRB BW
  have BW := BW'
  clear BW'
  go_wp2_with fail
  refine hK.out _ _ FW8.out (fun hHeld => ?_)
  clear hK K
  refine wpAnyH_take (i := 55) (oi := ⟨some 103, _, _, _, _, _⟩) (v := .bool true) rfl (by kernel_rfl) (by kernel_rfl) (by kernel_rfl) (fun _ _ _ h => h) (Or.inl ⟨by rfl, fun W hSW => by go_simp⟩) hHeld ?_
  simp only [Act.put, List.setIfInBounds_toArray, List.set_cons_zero, List.set_cons_succ]
  refine wpAnyH_take (i := 56) (oi := ⟨some 104, _, _, _, _, _⟩) (v := .bool true) rfl (by kernel_rfl) (by kernel_rfl) (by kernel_rfl) (fun _ _ _ h => h) (Or.inl ⟨by rfl, fun W hSW => by go_simp⟩) hHeld ?_
  simp only [Act.put, List.setIfInBounds_toArray, List.set_cons_zero, List.set_cons_succ]
  refine wpAnyH_ready (rs := [57]) (by kernel_rfl) (by simp) ?_
  refine AllReadyH.cons (o := ⟨some 5, _, _, _, _, _⟩) rfl (fun K hK => ?_) AllReadyH.nil
  go_simp
  refine hK.out _ _ hHeld (fun hHeld => ?_)
  clear hK K
  refine wpAnyH_done (by kernel_rfl) ?_ _
  refine NoPanic.normal ?_
  clear hHeld
  have QD := Lib.hid QW8.out
  have B := Lib.hid BW.out
  have hzB := B.out.size
  clear ka0 ka1 kal kal2
  clear QW0 QR FW0 NW0 KA HAN BW
  clear QW1 FW1 NW1 QW2 FW2 NW2 QW3 FW3 NW3 QW4 FW4 NW4 QW5 FW5 NW5 QW6 FW6 NW6 QW7 FW7 NW7 QW8 FW8 NW8
  go_wp2_with fail
  refine (Writes_c QD.out).mono ?_
  rintro e wa ⟨rfl, hw⟩
  obtain rfl := hw.symm
  clear hw
  rw [two_len]
  go_wp2_with fail
  refine (Cut_i (i := 2) (j := 2) rfl QD.out (by rw [two_len]; omega) (by rw [two_len]; omega)).mono ?_
  rintro e wb ⟨px, rfl, Sx, hq, hb⟩
  have DDX := Lib.hid (show ∀ k, S8 k → ¬ Sx k from apart_new (fun k hk => (QD.out.ge hk).2) (fun k hk => (hq.ge hk).1))
  have QX := Lib.hid (hq.mono hzB)
  have QD := Lib.hid (QD.out.below hb)
  have B' := Lib.hid (below_t B.out hb)
  clear B
  have B := B'
  have hzB := B.out.size
  clear B'
  clear hq hb
  go_wp2_with fail
  refine (Cut_i (i := 3) (j := 3) rfl QD.out (by rw [two_len]; omega) (by rw [two_len]; omega)).mono ?_
  rintro e wc ⟨py, rfl, Sy, hq, hb⟩
  have DDY := Lib.hid (show ∀ k, S8 k → ¬ Sy k from apart_new (fun k hk => (QD.out.ge hk).2) (fun k hk => (hq.ge hk).1))
  have DXY := Lib.hid (show ∀ k, Sx k → ¬ Sy k from apart_new (fun k hk => (QX.out.ge hk).2) (fun k hk => (hq.ge hk).1))
  have QY := Lib.hid (hq.mono hzB)
  have QD := Lib.hid (QD.out.below hb)
  have QX := Lib.hid (QX.out.below hb)
  have B' := Lib.hid (below_t B.out hb)
  clear B
  have B := B'
  have hzB := B.out.size
  clear B'
  clear hq hb
  go_wp2_with fail
  refine (Cut_i (i := 5) (j := 5) rfl QD.out (by rw [two_len]; omega) (by rw [two_len]; omega)).mono ?_
  rintro e wd ⟨pz, rfl, Sz, hq, hb⟩
  have DDZ := Lib.hid (show ∀ k, S8 k → ¬ Sz k from apart_new (fun k hk => (QD.out.ge hk).2) (fun k hk => (hq.ge hk).1))
  have DXZ := Lib.hid (show ∀ k, Sx k → ¬ Sz k from apart_new (fun k hk => (QX.out.ge hk).2) (fun k hk => (hq.ge hk).1))
  have DYZ := Lib.hid (show ∀ k, Sy k → ¬ Sz k from apart_new (fun k hk => (QY.out.ge hk).2) (fun k hk => (hq.ge hk).1))
  have QZ := Lib.hid (hq.mono hzB)
  have QD := Lib.hid (QD.out.below hb)
  have QX := Lib.hid (QX.out.below hb)
  have QY := Lib.hid (QY.out.below hb)
  have B' := Lib.hid (below_t B.out hb)
  clear B
  have B := B'
  have hzB := B.out.size
  clear B'
  clear hq hb
  go_wp2_with fail
  have DYX := Lib.hid (show ∀ k, Sy k → ¬ Sx k from fun k h1 h2 => DXY.out k h2 h1)
  clear DXY
  have DZX := Lib.hid (show ∀ k, Sz k → ¬ Sx k from fun k h1 h2 => DXZ.out k h2 h1)
  clear DXZ
  refine (Recover_c (a := 1) (m := 2) (HT.out.below B.out) QX.out (by show 0 ≤ 900; omega) k_x.1 k_x.2 (open2 cut_n)).mono ?_
  rintro e we ⟨rfl, Sx2, hq, hf, hn⟩
  have DDX' := Lib.hid (show ∀ k, S8 k → ¬ Sx2 k from apart_turned (fun k hk => (QD.out.ge hk).2) DDX.out hn)
  have QD' := Lib.hid (QD.out.fr hf DDX.out)
  clear DDX QD
  have DDX := DDX'
  have QD := QD'
  clear DDX' QD'
  have DYX' := Lib.hid (show ∀ k, Sy k → ¬ Sx2 k from apart_turned (fun k hk => (QY.out.ge hk).2) DYX.out hn)
  have QY' := Lib.hid (QY.out.fr hf DYX.out)
  clear DYX QY
  have DYX := DYX'
  have QY := QY'
  clear DYX' QY'
  have DZX' := Lib.hid (show ∀ k, Sz k → ¬ Sx2 k from apart_turned (fun k hk => (QZ.out.ge hk).2) DZX.out hn)
  have QZ' := Lib.hid (QZ.out.fr hf DZX.out)
  clear DZX QZ
  have DZX := DZX'
  have QZ := QZ'
  clear DZX' QZ'
  have B' := Lib.hid (B.out.trans (QX.out.toBelow hf))
  have QX' := Lib.hid hq
  clear B QX
  have B := B'
  have QX := QX'
  have hzB := B.out.size
  clear B' QX' hq hf hn
  go_wp2_with fail
  have DXY := Lib.hid (show ∀ k, Sx2 k → ¬ Sy k from fun k h1 h2 => DYX.out k h2 h1)
  clear DYX
  have DZY := Lib.hid (show ∀ k, Sz k → ¬ Sy k from fun k h1 h2 => DYZ.out k h2 h1)
  clear DYZ
  refine (Recover_c (a := 1) (m := 2) (HT.out.below B.out) QY.out (by show 0 ≤ 900; omega) k_y.1 k_y.2 (open2 cut_n)).mono ?_
  rintro e wf ⟨rfl, Sy2, hq, hf, hn⟩
  have DDY' := Lib.hid (show ∀ k, S8 k → ¬ Sy2 k from apart_turned (fun k hk => (QD.out.ge hk).2) DDY.out hn)
  have QD' := Lib.hid (QD.out.fr hf DDY.out)
  clear DDY QD
  have DDY := DDY'
  have QD := QD'
  clear DDY' QD'
  have DXY' := Lib.hid (show ∀ k, Sx2 k → ¬ Sy2 k from apart_turned (fun k hk => (QX.out.ge hk).2) DXY.out hn)
  have QX' := Lib.hid (QX.out.fr hf DXY.out)
  clear DXY QX
  have DXY := DXY'
  have QX := QX'
  clear DXY' QX'
  have DZY' := Lib.hid (show ∀ k, Sz k → ¬ Sy2 k from apart_turned (fun k hk => (QZ.out.ge hk).2) DZY.out hn)
  have QZ' := Lib.hid (QZ.out.fr hf DZY.out)
  clear DZY QZ
  have DZY := DZY'
  have QZ := QZ'
  clear DZY' QZ'
  have B' := Lib.hid (B.out.trans (QY.out.toBelow hf))
  have QY' := Lib.hid hq
  clear B QY
  have B := B'
  have QY := QY'
  have hzB := B.out.size
  clear B' QY' hq hf hn
  go_wp2_with fail
  have DXZ := Lib.hid (show ∀ k, Sx2 k → ¬ Sz k from fun k h1 h2 => DZX.out k h2 h1)
  clear DZX
  have DYZ := Lib.hid (show ∀ k, Sy2 k → ¬ Sz k from fun k h1 h2 => DZY.out k h2 h1)
  clear DZY
  refine (Recover_c (a := 1) (m := 2) (HT.out.below B.out) QZ.out (by show 0 ≤ 900; omega) k_z.1 k_z.2 (open2 cut_n)).mono ?_
  rintro e wg ⟨rfl, Sz2, hq, hf, hn⟩
  have DDZ' := Lib.hid (show ∀ k, S8 k → ¬ Sz2 k from apart_turned (fun k hk => (QD.out.ge hk).2) DDZ.out hn)
  have QD' := Lib.hid (QD.out.fr hf DDZ.out)
  clear DDZ QD
  have DDZ := DDZ'
  have QD := QD'
  clear DDZ' QD'
  have DXZ' := Lib.hid (show ∀ k, Sx2 k → ¬ Sz2 k from apart_turned (fun k hk => (QX.out.ge hk).2) DXZ.out hn)
  have QX' := Lib.hid (QX.out.fr hf DXZ.out)
  clear DXZ QX
  have DXZ := DXZ'
  have QX := QX'
  clear DXZ' QX'
  have DYZ' := Lib.hid (show ∀ k, Sy2 k → ¬ Sz2 k from apart_turned (fun k hk => (QY.out.ge hk).2) DYZ.out hn)
  have QY' := Lib.hid (QY.out.fr hf DYZ.out)
  clear DYZ QY
  have DYZ := DYZ'
  have QY := QY'
  clear DYZ' QY'
  have B' := Lib.hid (B.out.trans (QZ.out.toBelow hf))
  have QZ' := Lib.hid hq
  clear B QZ
  have B := B'
  have QZ := QZ'
  have hzB := B.out.size
  clear B' QZ' hq hf hn
  go_wp2_with fail
  refine (Recover_c (a := 1) (m := 2) (HT.out.below B.out) QZ.out (by rw [z5_len]; omega) k_z5.1 k_z5.2 (open2 rfl)).mono ?_
  rintro e wh ⟨rfl, Sz3, hq, hf, hn⟩
  have DDZ' := Lib.hid (show ∀ k, S8 k → ¬ Sz3 k from apart_turned (fun k hk => (QD.out.ge hk).2) DDZ.out hn)
  have QD' := Lib.hid (QD.out.fr hf DDZ.out)
  clear DDZ QD
  have DDZ := DDZ'
  have QD := QD'
  clear DDZ' QD'
  have DXZ' := Lib.hid (show ∀ k, Sx2 k → ¬ Sz3 k from apart_turned (fun k hk => (QX.out.ge hk).2) DXZ.out hn)
  have QX' := Lib.hid (QX.out.fr hf DXZ.out)
  clear DXZ QX
  have DXZ := DXZ'
  have QX := QX'
  clear DXZ' QX'
  have DYZ' := Lib.hid (show ∀ k, Sy2 k → ¬ Sz3 k from apart_turned (fun k hk => (QY.out.ge hk).2) DYZ.out hn)
  have QY' := Lib.hid (QY.out.fr hf DYZ.out)
  clear DYZ QY
  have DYZ := DYZ'
  have QY := QY'
  clear DYZ' QY'
  have B' := Lib.hid (B.out.trans (QZ.out.toBelow hf))
  have QZ' := Lib.hid hq
  clear B QZ
  have B := B'
  have QZ := QZ'
  have hzB := B.out.size
  clear B' QZ' hq hf hn
  go_wp2_with fail
  refine (Recover_no (p := none) (.inl rfl)).mono ?_
  rintro e wi ⟨rfl, hb⟩
  have QD := Lib.hid (QD.out.below hb)
  have QX := Lib.hid (QX.out.below hb)
  have QY := Lib.hid (QY.out.below hb)
  have QZ := Lib.hid (QZ.out.below hb)
  have B' := Lib.hid (below_t B.out hb)
  clear B
  have B := B'
  have hzB := B.out.size
  clear B'
  clear hb
  go_wp2_with fail
  have DXD := Lib.hid (show ∀ k, Sx2 k → ¬ S8 k from fun k h1 h2 => DDX.out k h2 h1)
  have DYD := Lib.hid (show ∀ k, Sy2 k → ¬ S8 k from fun k h1 h2 => DDY.out k h2 h1)
  have DZD := Lib.hid (show ∀ k, Sz3 k → ¬ S8 k from fun k h1 h2 => DDZ.out k h2 h1)
  clear DDX DDY DDZ
  refine (Recover_c (a := 1) (m := 61) (HT.out.below B.out) QD.out (by rw [two_len]; omega) k_d2.1 k_d2.2 k_d).mono ?_
  rintro e wj ⟨rfl, Sd2, hq, hf, hn⟩
  have DXD' := Lib.hid (show ∀ k, Sx2 k → ¬ Sd2 k from apart_turned (fun k hk => (QX.out.ge hk).2) DXD.out hn)
  have QX' := Lib.hid (QX.out.fr hf DXD.out)
  clear DXD QX
  have DXD := DXD'
  have QX := QX'
  clear DXD' QX'
  have DYD' := Lib.hid (show ∀ k, Sy2 k → ¬ Sd2 k from apart_turned (fun k hk => (QY.out.ge hk).2) DYD.out hn)
  have QY' := Lib.hid (QY.out.fr hf DYD.out)
  clear DYD QY
  have DYD := DYD'
  have QY := QY'
  clear DYD' QY'
  have DZD' := Lib.hid (show ∀ k, Sz3 k → ¬ Sd2 k from apart_turned (fun k hk => (QZ.out.ge hk).2) DZD.out hn)
  have QZ' := Lib.hid (QZ.out.fr hf DZD.out)
  clear DZD QZ
  have DZD := DZD'
  have QZ := QZ'
  clear DZD' QZ'
  have B' := Lib.hid (B.out.trans (QD.out.toBelow hf))
  have QD' := Lib.hid hq
  clear B QD
  have B := B'
  have QD := QD'
  have hzB := B.out.size
  clear B' QD' hq hf hn
  go_wp2_with fail
  refine (Writes_c QX.out).mono ?_
  rintro e wk ⟨rfl, hw⟩
  obtain rfl := hw.symm
  clear hw
  rw [show (twoD.cut 2).ws.length = 0 from rfl]
  go_wp2_with fail
  refine calls_named (S := fun W => Below wj.heap.size wj W ∧ Blk W wj.heap.size 3 (flat RowG.encI [9, 8, 1])) ⟨by (repeat' (first | (with_reducible exact Below.refl _ _) | (with_reducible refine Below.setCell ?_ (by (first | omega | (simp; done) | (simp; omega))) _) | (with_reducible refine Below.alloc ?_ (by (first | omega | (simp; done) | (simp; omega))) _) | (with_reducible refine Below.drew ?_) | (with_reducible refine below_drewN ?_ _))), by show Blk _ _ _ [.int .i64 9, .int .i64 8, .int .i64 1]; (repeat' (first | (with_reducible refine BlkP.Blk.drew ?_) | (with_reducible refine BlkP.Blk.drewN ?_ _) | (with_reducible refine BlkP.Blk.setAt (us := ?_) (by first | omega | (simp; done) | (simp; omega)) rfl ?_ ?_) | (with_reducible refine BlkP.Blk.otherAt ?_ (by first | omega | (simp; done) | (simp; omega))) | (with_reducible refine BlkP.Blk.newA' (by first | omega | (simp; done) | (simp; omega)) rfl) | (with_reducible refine BlkP.Blk.alloc ?_ _) | (exact rfl)))⟩ (fun wl hql => ?_)
  obtain ⟨hb, hk⟩ := hql
  have RL := Lib.hid (rd_lit (n := 3) hk rfl (by omega))
  clear hk
  have QY := Lib.hid (QY.out.below hb)
  have QZ := Lib.hid (QZ.out.below hb)
  have B' := Lib.hid (below_t B.out hb)
  clear B
  have B := B'
  have hzB := B.out.size
  clear B'
  clear hb
  refine (writes_c QY.out (by rw [y5_len]; omega) RL.out rfl y5_map).mono ?_
  rintro e wm ⟨rfl, hb⟩
  have QZ := Lib.hid (QZ.out.below hb)
  have B' := Lib.hid (below_t B.out hb)
  clear B
  have B := B'
  have hzB := B.out.size
  clear B'
  clear hb
  go_wp2_with fail
  refine (has_c (i := 9) (s := [97]) QZ.out (by omega) (by show (9 : Int) < 256; omega) (by simp) z5_9).mono ?_
  rintro e wn ⟨rfl, hb⟩
  have QZ := Lib.hid (QZ.out.below hb)
  have B' := Lib.hid (below_t B.out hb)
  clear B
  have B := B'
  have hzB := B.out.size
  clear B'
  clear hb
  go_wp2_with fail
  refine (has_c (i := 8) (s := [98]) QZ.out (by omega) (by show (8 : Int) < 256; omega) (by simp) z5_8).mono ?_
  rintro e wo ⟨rfl, hb⟩
  have QZ := Lib.hid (QZ.out.below hb)
  have B' := Lib.hid (below_t B.out hb)
  clear B
  have B := B'
  have hzB := B.out.size
  clear B'
  clear hb
  go_wp2_with fail
  go_ret
  exact ⟨rfl, B.out⟩
end JouW
end Go.Proofs.YtknckaegpdganaaDoor
