/-
  The small line that each law ends with: got, put; the laws' own look at it.
-/
import Derived.BigQuiet
import Derived.BigRegion
import Derived.Lib.Hide
import Derived.Deep.RegionHeld3
import Derived.Deep.MidRow
import Derived.Test.YtcfkdddflbdfaaaDoorLineW2
namespace Go.Proofs.YtcfkdddflbdfaaaDoor
open Go.RowKit
set_option linter.unusedVariables false
set_option linter.unusedSimpArgs false
namespace LineW
open DigP LineP BlkP RowG FrS
open BaseP (bcell below_drewN)
def encS : Enc (List UInt8) := ⟨fun l => [.string ⟨l.toArray⟩], 1, fun _ => rfl, fun x v h => by
  simp only [List.mem_cons, List.not_mem_nil, or_false] at h
  subst h
  rfl⟩
theorem underS : Tryd.prog.underlying 48 = some (.slice 9) := Tryd.underlying48
theorem infoS : (Tryd.prog.info? 9).map (fun i => (i.zero, i.size, i.bytes)) = some (some (.string ByteArray.empty), 1, 16) := by kernel_rfl
theorem run_neO (w : World) : (binOp .neq 27 (.agg #[.int .i64 3, .int .i64 0, .int .i64 (-1), .int .i64 2, .int .i64 0, .int .i64 0, .int .i64 0, .int .u8 0, .int .u8 0, .int .i64 4]) (.agg #[.int .i64 3, .int .i64 0, .int .i64 (-1), .int .i64 2, .int .i64 0, .int .i64 0, .int .i64 0, .int .u8 0, .int .u8 0, .int .i64 4])).run Tryd.prog w = .ok (.bool false) w := by kernel_rfl
theorem txt_own {w : World} {B n c g : Nat} {ws : List (List UInt8)} (h : RowG.Own encS 9 w B (.slice (some ⟨g, 0, none⟩) n c) ws) : Txt w g ws := ⟨(h.ge g rfl).2, fun j x hx => by
  have := Own.cell h (i := j) (j := 0) (x := x) (u := .string ⟨x.toArray⟩) hx rfl
  rwa [show encS.k = 1 from rfl, Nat.mul_one, Nat.add_zero] at this⟩
set_option maxRecDepth 100000 in
set_option maxHeartbeats 8000000 in
theorem get_small {w : World} (hE : Env w) :
    Calls Tryd.prog 14 #[.string ⟨smallL.toArray⟩] w fun e w' => e = .returned (.tuple #[.agg #[.int .i64 3, .int .i64 0, .int .i64 (-1), .int .i64 2, .int .i64 0, .int .i64 0, .int .i64 0, .int .u8 0, .int .u8 0, .int .i64 4], .int .i64 0]) ∧ Below w.heap.size w w' := by
  have HE := Lib.hid hE
  clear hE
  obtain ⟨s, hs⟩ : ∃ s, w.heap.size = s := ⟨_, rfl⟩
  have hlen : smallL.length = 14 := rfl
  have hsz : ({ data := smallL.toArray } : ByteArray).size = 14 := rfl
  go_enter Tryd.func14, Tryd.ntmps14
  go_wp2_with fail
  refine calls_named (S := fun W => Below w.heap.size w W ∧ Blk W s 27 [.int .i64 0, .int .i64 0, .int .i64 0, .int .i64 0, .int .i64 0, .int .i64 0, .int .i64 0, .int .u8 0, .int .u8 0, .int .i64 0]) ⟨by (repeat' (first | (with_reducible exact Below.refl _ _) | (with_reducible refine Below.setCell ?_ (by (first | omega | (simp; done) | (simp; omega))) _) | (with_reducible refine Below.alloc ?_ (by (first | omega | (simp; done) | (simp; omega))) _) | (with_reducible refine Below.drew ?_) | (with_reducible refine below_drewN ?_ _))), by subst hs; (repeat' (first | (with_reducible refine BlkP.Blk.drew ?_) | (with_reducible refine BlkP.Blk.drewN ?_ _) | (with_reducible refine BlkP.Blk.setAt (us := ?_) (by first | omega | (simp; done) | (simp; omega)) rfl ?_ ?_) | (with_reducible refine BlkP.Blk.otherAt ?_ (by first | omega | (simp; done) | (simp; omega))) | (with_reducible refine BlkP.Blk.newA' (by first | omega | (simp; done) | (simp; omega)) rfl) | (with_reducible refine BlkP.Blk.alloc ?_ _) | (exact rfl)))⟩ ?_
  try rw [hs]
  rintro w0 ⟨hb0, hk0⟩
  try rw [← hs] at hb0
  refine (read_small (HE.out.below hb0)).mono ?_
  rintro e w1 ⟨rfl, hb1⟩
  have HB1 := Lib.hid (below_t hb0 hb1)
  have K1 := Lib.hid (hk0.below hb1)
  have hsw : w.heap.size ≤ s := by omega
  clear hb0 hk0 hb1 hs
  go_wp2_with ((with_reducible refine at_storeT 27 ?_); refine Classical.byContradiction (fun hG => ?_))
  refine hG ?_
  clear hG
  refine wp_storeT 27 rfl (.tmp 2) (.tmp 10) rfl sizeTO (vs := [.int .i64 3, .int .i64 0, .int .i64 (-1), .int .i64 2, .int .i64 0, .int .i64 0, .int .i64 0, .int .u8 0, .int .u8 0, .int .i64 4]) (us := [.int .i64 0, .int .i64 0, .int .i64 0, .int .i64 0, .int .i64 0, .int .i64 0, .int .i64 0, .int .u8 0, .int .u8 0, .int .i64 0]) (n := 10) (by simp [Value.oneCell']) rfl rfl rfl K1.out rfl ?_
  intro w6 hk6 hg6 hz6
  have HB6 := Lib.hid (show Below w.heap.size w w6 from HB1.out.grown hg6 HB1.out.size (fun k hk => by cases hk; exact hsw))
  have d0 := hk6.cell (i := 0) rfl
  have d1 := hk6.cell (i := 1) rfl
  have d2 := hk6.cell (i := 2) rfl
  have d3 := hk6.cell (i := 3) rfl
  have d4 := hk6.cell (i := 4) rfl
  have d5 := hk6.cell (i := 5) rfl
  have d6 := hk6.cell (i := 6) rfl
  have d7 := hk6.cell (i := 7) rfl
  have d8 := hk6.cell (i := 8) rfl
  have d9 := hk6.cell (i := 9) rfl
  clear hg6
  go_wp2_with fail
  refine bodyPost_ret (v := .tuple #[.agg #[.int .i64 3, .int .i64 0, .int .i64 (-1), .int .i64 2, .int .i64 0, .int .i64 0, .int .i64 0, .int .u8 0, .int .u8 0, .int .i64 4], .int .i64 0]) (by simp [results, Tryd.results14, go_sem, d0, d1, d2, d3, d4, d5, d6, d7, d8, d9]) rfl ?_
  exact ⟨rfl, HB6.out⟩
set_option maxRecDepth 100000 in
set_option maxHeartbeats 8000000 in
theorem put_small {w : World} (hE : Env w) :
    Calls Tryd.prog 11 #[.agg #[.int .i64 3, .int .i64 0, .int .i64 (-1), .int .i64 2, .int .i64 0, .int .i64 0, .int .i64 0, .int .u8 0, .int .u8 0, .int .i64 4]] w fun e w' => e = .returned (.tuple #[.string ⟨smallL.toArray⟩, .int .i64 0]) ∧ Below w.heap.size w w' := by
  have HE := Lib.hid hE
  clear hE
  obtain ⟨s, hs⟩ : ∃ s, w.heap.size = s := ⟨_, rfl⟩
  go_enter Tryd.func11, Tryd.ntmps11
  go_wp2_with fail
  refine HeldP.wp_named (S := fun W => Below w.heap.size w W ∧ Blk W s 27 [.int .i64 3, .int .i64 0, .int .i64 (-1), .int .i64 2, .int .i64 0, .int .i64 0, .int .i64 0, .int .u8 0, .int .u8 0, .int .i64 4]) ⟨by (repeat' (first | (with_reducible exact Below.refl _ _) | (with_reducible refine Below.setCell ?_ (by (first | omega | (simp; done) | (simp; omega))) _) | (with_reducible refine Below.alloc ?_ (by (first | omega | (simp; done) | (simp; omega))) _) | (with_reducible refine Below.drew ?_) | (with_reducible refine below_drewN ?_ _))), by subst hs; (repeat' (first | (with_reducible refine BlkP.Blk.drew ?_) | (with_reducible refine BlkP.Blk.drewN ?_ _) | (with_reducible refine BlkP.Blk.setAt (us := ?_) (by first | omega | (simp; done) | (simp; omega)) rfl ?_ ?_) | (with_reducible refine BlkP.Blk.otherAt ?_ (by first | omega | (simp; done) | (simp; omega))) | (with_reducible refine BlkP.Blk.newA' (by first | omega | (simp; done) | (simp; omega)) rfl) | (with_reducible refine BlkP.Blk.alloc ?_ _) | (exact rfl)))⟩ ?_
  try rw [hs]
  rintro wn ⟨hbn, hk⟩
  try rw [← hs] at hbn
  have HB := Lib.hid hbn
  have HK := Lib.hid hk
  have c0 := hk.cell (i := 0) rfl
  have ml := hk.lt
  clear hk hbn hs
  refine wp_region_noPanic ?_
  refine wp_region_held_drew (S := fun W => Below wn.heap.size wn W) (by kernel_rfl) ((Below.refl _ wn).drew) (fun hHeld => ?_)
  refine wpAnyH_take (i := 1) (oi := ⟨some 11, _, _, _, _, _⟩) (v := .pointer (some ⟨s, 0, none⟩)) rfl (by kernel_rfl) (by kernel_rfl) (by kernel_rfl) (fun _ _ _ h => h) (Or.inl ⟨by rfl, fun W hSW => by go_simp⟩) hHeld ?_
  simp only [Act.put, List.setIfInBounds_toArray, List.set_cons_zero, List.set_cons_succ]
  refine wpAnyH_take (i := 2) (oi := ⟨some 12, _, _, _, _, _⟩) (v := .int .i64 3) rfl (by kernel_rfl) (by kernel_rfl) (by kernel_rfl) (fun _ _ _ h => h) (Or.inl ⟨by rfl, fun W hSW => by have a0 := (hSW.cell (p := ⟨s, 0, none⟩) ml).trans c0; go_simp⟩) hHeld ?_
  simp only [Act.put, List.setIfInBounds_toArray, List.set_cons_zero, List.set_cons_succ]
  refine wpAnyH_ready (rs := [0]) (by kernel_rfl) (by simp) ?_
  refine AllReadyH.cons (o := ⟨some 10, _, _, _, _, _⟩) rfl (fun K hK => ?_) AllReadyH.nil
  go_simp
  refine (ops_c).mono ?_
  rintro e w0 ⟨⟨b0, rfl, hge0, ht0⟩, hb0⟩
  have HT0 := Lib.hid ht0
  clear ht0 hge0
  refine hK.out _ _ (below_t hHeld hb0) (fun hHeld => ?_)
  clear hK K hb0
  refine wpAnyH_ready (rs := [3]) (by kernel_rfl) (by simp) ?_
  refine AllReadyH.cons (o := ⟨some 13, _, _, _, _, _⟩) rfl (fun K hK => ?_) AllReadyH.nil
  go_simp
  refine (textAt_c (x := [112, 117, 115, 104]) HT0.out rfl (by decide) (by decide)).mono ?_
  rintro e w3 ⟨rfl, hb3⟩
  have hz3 := Lib.hid (below_t hHeld hb3).size
  refine hK.out _ _ (below_t hHeld hb3) (fun hHeld => ?_)
  clear hK K hb3
  refine wpAnyH_ready (rs := [4]) (by kernel_rfl) (by simp) ?_
  refine AllReadyH.cons (o := ⟨some 14, _, _, _, _, _⟩) rfl (fun K hK => ?_) AllReadyH.nil
  go_simp
  refine hK.out _ _ (hHeld.alloc hHeld.size _) (fun hHeld => ?_)
  clear hK K
  refine any_named (S := fun W => Below wn.heap.size wn W ∧ RowG.Own encS 9 W wn.heap.size (.slice (some ⟨w3.heap.size, 0, none⟩) 1 1) [[112, 117, 115, 104]]) ⟨hHeld, own_lit (by (repeat' (first | (with_reducible refine BlkP.Blk.drew ?_) | (with_reducible refine BlkP.Blk.drewN ?_ _) | (with_reducible refine BlkP.Blk.setAt (us := ?_) (by first | omega | (simp; done) | (simp; omega)) rfl ?_ ?_) | (with_reducible refine BlkP.Blk.otherAt ?_ (by first | omega | (simp; done) | (simp; omega))) | (with_reducible refine BlkP.Blk.newA' (by first | omega | (simp; done) | (simp; omega)) rfl) | (with_reducible refine BlkP.Blk.alloc ?_ _) | (exact rfl)))) hz3.out rfl (by omega)⟩ ?_
  clear hHeld
  generalize w3.heap.size = g1
  rintro w4 ⟨hHeld, ho4⟩
  have O4 := Lib.hid ho4
  clear ho4
  refine wpAnyH_take (i := 5) (oi := ⟨some 4, _, _, _, _, _⟩) (v := .slice (some ⟨g1, 0, none⟩) 1 1) rfl (by kernel_rfl) (by kernel_rfl) (by kernel_rfl) (fun _ _ _ h => h) (Or.inl ⟨by rfl, fun W hSW => by go_simp⟩) hHeld ?_
  simp only [Act.put, List.setIfInBounds_toArray, List.set_cons_zero, List.set_cons_succ]
  refine wpAnyH_done (by kernel_rfl) ?_ _
  refine NoPanic.normal ?_
  have HB4 := Lib.hid (below_t HB.out hHeld)
  have K4 := Lib.hid (HK.out.below hHeld)
  have OO4 := Lib.hid (O4.out.mono HB.out.size)
  clear hHeld c0 ml
  go_wp2_with fail
  refine (behind_c (T := 27) K4.out rfl).mono ?_
  rintro e w5 ⟨⟨g, c, rfl, ho5⟩, hb5⟩
  have HO5 := Lib.hid ho5
  have B5 := Lib.hid (below_t HB4.out hb5)
  have K5 := Lib.hid (K4.out.below hb5)
  have OO5 := Lib.hid (OO4.out.below hb5)
  have E5 := Lib.hid (HE.out.below B5.out)
  have hge1 := (O4.out.ge g1 rfl)
  have hgg := (ho5.ge g rfl).1
  have hks := HK.out.lt
  have hBn := HB.out.size
  have gne : ¬ (fun k => k = g1) g := by show ¬ (g = g1); omega
  have sne : ¬ (fun k => k = g1) s := by show ¬ (s = g1); omega
  have e0ne : ¬ (fun k => k = g1) 0 := by have := HE.out.tab.size; show ¬ (_ = g1); omega
  have e1ne : ¬ (fun k => k = g1) 1 := by have := pow_lt HE.out; show ¬ (_ = g1); omega
  have hg1w : w.heap.size ≤ g1 := by omega
  clear ho5 hb5 hge1 hgg
  go_wp2_with fail
  go_loopw [4, 17] (fun v4 v wr => ∃ (i : Nat) (vr : Value), v = .int .i64 (i : Nat) ∧ vr = v4 ∧ i ≤ 4 ∧ RowG.Own encS 9 wr w.heap.size vr (smallW.take (i + 1)) ∧ Fr (fun k => k = g1) w5 wr ∧ ∀ k, vr.ownBlock = some k → k = g1 ∨ w5.heap.size ≤ k) (fun _ v _ => 6 - (intOf v).toNat)
  case atStart => exact ⟨0, _, rfl, rfl, by omega, OO5.out, Fr.refl _ _, fun k hk => by cases hk; exact .inl rfl⟩
  case round =>
    obtain ⟨i, vr, rfl, rfl, hi, how, hfr, hv⟩ := hrel
    have HFR := Lib.hid hfr
    have HV := Lib.hid hv
    have BR := Lib.hid (B5.out.trans (hfr.toBelow B5.out.size (fun i hi => by cases hi; exact hg1w)))
    have KR := Lib.hid (hfr.blk K5.out sne)
    have ER := Lib.hid (E5.out.fr hfr e0ne e1ne)
    have OR := Lib.hid (hfr.own HO5.out (fun g' hg' => by cases hg'; exact gne))
    have r0 := Own.cell OR.out (i := 0) (j := 0) rfl rfl
    have r1 := Own.cell OR.out (i := 1) (j := 0) rfl rfl
    have r2 := Own.cell OR.out (i := 2) (j := 0) rfl rfl
    have r3 := Own.cell OR.out (i := 3) (j := 0) rfl rfl
    have rl := (OR.out.ge g rfl).2
    simp only [show encW.k = 1 from rfl, Nat.mul_one, Nat.add_zero] at r0 r1 r2 r3
    clear hfr hv
    have : i = 0 ∨ i = 1 ∨ i = 2 ∨ i = 3 ∨ i = 4 := by omega
    rcases this with rfl | rfl | rfl | rfl | rfl
    · have OW := Lib.hid (show RowG.Own encS 9 wr w.heap.size vr [[112, 117, 115, 104]] from how)
      clear how
      have hm := m_ntell s 1
      simp [tellNm, Tryd.t79] at hm
      go_wp2_with fail
      refine (numtell_c (n := 0) (by omega) (by omega) ER.out KR.out (o := 1) rfl).mono ?_
      rintro e w6 ⟨rfl, hb6⟩
      have OW6 := Lib.hid (OW.out.below hb6)
      have F6 := Lib.hid (HFR.out.trans (Fr.below (fun k => k = g1) hb6) (fun i hi => .inl hi))
      have hz6 := (below_t BR.out hb6).size
      clear hb6 hm r0 r1 r2 r3 rl
      go_wp2_with ((with_reducible refine at_slot 25 ?_); refine Classical.byContradiction (fun hG => ?_))
      refine hG ?_
      clear hG
      refine RowG.wp_push encS rfl (.tmp 21) (.tmp 24) rfl underS infoS rfl (by decide) w6 #[.string ⟨(num 0).toArray⟩] rfl (num 0) rfl rfl (B := w.heap.size) OW6.out rfl (by unfold maxLen; simp) (by simp) hz6 ?_
      intro v7 w7 ho7 hg7 hv7
      have O7 := Lib.hid ho7
      have F7 := Lib.hid (F6.out.trans (Fr.grown (S := fun k => vr.ownBlock = some k) hg7 (fun k hk => hk)) (fun k hk => HV.out k hk))
      have V7 := Lib.hid (show ∀ k, v7.ownBlock = some k → k = g1 ∨ w5.heap.size ≤ k from fun k hk => by
        rcases hv7 with q | q
        · exact HV.out k (q ▸ hk)
        · right
          rw [q] at hk
          have := F6.out.size
          cases hk
          omega)
      clear ho7 hg7 hv7
      go_wp2_with fail
      go_roundw
      case rel => exact ⟨1, _, by first | rfl | simp, rfl, by omega, O7.out, F7.out, V7.out⟩
      case measure => simp [intOf]
    · have OW := Lib.hid (show RowG.Own encS 9 wr w.heap.size vr [[112, 117, 115, 104], num 0] from how)
      clear how
      have hm := m_ntell s 2
      simp [tellNm, Tryd.t79] at hm
      go_wp2_with fail
      refine (numtell_c (n := -1) (by omega) (by omega) ER.out KR.out (o := 2) rfl).mono ?_
      rintro e w6 ⟨rfl, hb6⟩
      have OW6 := Lib.hid (OW.out.below hb6)
      have F6 := Lib.hid (HFR.out.trans (Fr.below (fun k => k = g1) hb6) (fun i hi => .inl hi))
      have hz6 := (below_t BR.out hb6).size
      clear hb6 hm r0 r1 r2 r3 rl
      go_wp2_with ((with_reducible refine at_slot 25 ?_); refine Classical.byContradiction (fun hG => ?_))
      refine hG ?_
      clear hG
      refine RowG.wp_push encS rfl (.tmp 21) (.tmp 24) rfl underS infoS rfl (by decide) w6 #[.string ⟨(num (-1)).toArray⟩] rfl (num (-1)) rfl rfl (B := w.heap.size) OW6.out rfl (by unfold maxLen; simp) (by simp) hz6 ?_
      intro v7 w7 ho7 hg7 hv7
      have O7 := Lib.hid ho7
      have F7 := Lib.hid (F6.out.trans (Fr.grown (S := fun k => vr.ownBlock = some k) hg7 (fun k hk => hk)) (fun k hk => HV.out k hk))
      have V7 := Lib.hid (show ∀ k, v7.ownBlock = some k → k = g1 ∨ w5.heap.size ≤ k from fun k hk => by
        rcases hv7 with q | q
        · exact HV.out k (q ▸ hk)
        · right
          rw [q] at hk
          have := F6.out.size
          cases hk
          omega)
      clear ho7 hg7 hv7
      go_wp2_with fail
      go_roundw
      case rel => exact ⟨2, _, by first | rfl | simp, rfl, by omega, O7.out, F7.out, V7.out⟩
      case measure => simp [intOf]
    · have OW := Lib.hid (show RowG.Own encS 9 wr w.heap.size vr [[112, 117, 115, 104], num 0, num (-1)] from how)
      clear how
      have hm := m_ntell s 3
      simp [tellNm, Tryd.t79] at hm
      go_wp2_with fail
      refine (numtell_c (n := 2) (by omega) (by omega) ER.out KR.out (o := 3) rfl).mono ?_
      rintro e w6 ⟨rfl, hb6⟩
      have OW6 := Lib.hid (OW.out.below hb6)
      have F6 := Lib.hid (HFR.out.trans (Fr.below (fun k => k = g1) hb6) (fun i hi => .inl hi))
      have hz6 := (below_t BR.out hb6).size
      clear hb6 hm r0 r1 r2 r3 rl
      go_wp2_with ((with_reducible refine at_slot 25 ?_); refine Classical.byContradiction (fun hG => ?_))
      refine hG ?_
      clear hG
      refine RowG.wp_push encS rfl (.tmp 21) (.tmp 24) rfl underS infoS rfl (by decide) w6 #[.string ⟨(num 2).toArray⟩] rfl (num 2) rfl rfl (B := w.heap.size) OW6.out rfl (by unfold maxLen; simp) (by simp) hz6 ?_
      intro v7 w7 ho7 hg7 hv7
      have O7 := Lib.hid ho7
      have F7 := Lib.hid (F6.out.trans (Fr.grown (S := fun k => vr.ownBlock = some k) hg7 (fun k hk => hk)) (fun k hk => HV.out k hk))
      have V7 := Lib.hid (show ∀ k, v7.ownBlock = some k → k = g1 ∨ w5.heap.size ≤ k from fun k hk => by
        rcases hv7 with q | q
        · exact HV.out k (q ▸ hk)
        · right
          rw [q] at hk
          have := F6.out.size
          cases hk
          omega)
      clear ho7 hg7 hv7
      go_wp2_with fail
      go_roundw
      case rel => exact ⟨3, _, by first | rfl | simp, rfl, by omega, O7.out, F7.out, V7.out⟩
      case measure => simp [intOf]
    · have OW := Lib.hid (show RowG.Own encS 9 wr w.heap.size vr [[112, 117, 115, 104], num 0, num (-1), num 2] from how)
      clear how
      have hm := m_dtell s 9
      simp [tellNm, Tryd.t79] at hm
      go_wp2_with fail
      refine (dirtell_c (n := 4) (x := [117, 112]) (by decide) KR.out (o := 9) rfl).mono ?_
      rintro e w6 ⟨rfl, hb6⟩
      have OW6 := Lib.hid (OW.out.below hb6)
      have F6 := Lib.hid (HFR.out.trans (Fr.below (fun k => k = g1) hb6) (fun i hi => .inl hi))
      have hz6 := (below_t BR.out hb6).size
      clear hb6 hm r0 r1 r2 r3 rl
      go_wp2_with ((with_reducible refine at_slot 25 ?_); refine Classical.byContradiction (fun hG => ?_))
      refine hG ?_
      clear hG
      refine RowG.wp_push encS rfl (.tmp 21) (.tmp 24) rfl underS infoS rfl (by decide) w6 #[.string ⟨([117, 112]).toArray⟩] rfl ([117, 112]) rfl rfl (B := w.heap.size) OW6.out rfl (by unfold maxLen; simp) (by simp) hz6 ?_
      intro v7 w7 ho7 hg7 hv7
      have O7 := Lib.hid ho7
      have F7 := Lib.hid (F6.out.trans (Fr.grown (S := fun k => vr.ownBlock = some k) hg7 (fun k hk => hk)) (fun k hk => HV.out k hk))
      have V7 := Lib.hid (show ∀ k, v7.ownBlock = some k → k = g1 ∨ w5.heap.size ≤ k from fun k hk => by
        rcases hv7 with q | q
        · exact HV.out k (q ▸ hk)
        · right
          rw [q] at hk
          have := F6.out.size
          cases hk
          omega)
      clear ho7 hg7 hv7
      go_wp2_with fail
      go_roundw
      case rel => exact ⟨4, _, by first | rfl | simp, rfl, by omega, O7.out, F7.out, V7.out⟩
      case measure => simp [intOf]
    · have OW := Lib.hid (show RowG.Own encS 9 wr w.heap.size vr smallW from how)
      clear how
      obtain ⟨A4, cp, rfl, hcp, _, hA4⟩ := OW.out.form (n := 5) rfl
      obtain ⟨g4, rfl, _, _⟩ := hA4 (by omega)
      have TX := Lib.hid (txt_own OW.out)
      clear hA4 r0 r1 r2 r3 rl
      go_wp2_with fail
      refine (sentence_c TX.out rfl hcp (by decide) (by rw [small_join]; decide)).mono ?_
      rw [small_join]
      rintro e w7 ⟨rfl, hb7⟩
      have BR7 := Lib.hid (below_t BR.out hb7)
      have K7 := Lib.hid (KR.out.below hb7)
      have E7 := Lib.hid (ER.out.below hb7)
      clear hb7 hcp
      go_wp2_with fail
      refine (get_small E7.out).mono ?_
      rintro e w8 ⟨rfl, hb8⟩
      obtain ⟨t, ht⟩ : ∃ t, w8.heap.size = t := ⟨_, rfl⟩
      have BR8 := Lib.hid (below_t BR7.out hb8)
      have K8 := Lib.hid (K7.out.below hb8)
      have hz8 := BR8.out.size
      have hst := K8.out.lt
      clear hb8
      go_wp2_with ((with_reducible refine at_storeT 27 ?_); refine Classical.byContradiction (fun hG => ?_))
      refine hG ?_
      clear hG
      refine list_named (S := fun W => Below w.heap.size w W ∧ Blk W s 27 [.int .i64 3, .int .i64 0, .int .i64 (-1), .int .i64 2, .int .i64 0, .int .i64 0, .int .i64 0, .int .u8 0, .int .u8 0, .int .i64 4] ∧ Blk W t 27 [.int .i64 0, .int .i64 0, .int .i64 0, .int .i64 0, .int .i64 0, .int .i64 0, .int .i64 0, .int .u8 0, .int .u8 0, .int .i64 0]) ⟨by (repeat' (first | (with_reducible exact Below.refl _ _) | (with_reducible refine Below.setCell ?_ (by (first | omega | (simp; done) | (simp; omega))) _) | (with_reducible refine Below.alloc ?_ (by (first | omega | (simp; done) | (simp; omega))) _) | (with_reducible refine Below.drew ?_) | (with_reducible refine below_drewN ?_ _) | (with_reducible refine Below.trans ?_ (Below.mono BR8.out (by (first | omega | (simp; done) | (simp; omega))))))), by (repeat' (first | (with_reducible exact K8.out) | (with_reducible refine BlkP.Blk.drew ?_) | (with_reducible refine BlkP.Blk.drewN ?_ _) | (with_reducible refine BlkP.Blk.setAt (us := ?_) (by first | omega | (simp; done) | (simp; omega)) rfl ?_ ?_) | (with_reducible refine BlkP.Blk.otherAt ?_ (by first | omega | (simp; done) | (simp; omega))) | (with_reducible refine BlkP.Blk.newA' (by first | omega | (simp; done) | (simp; omega)) rfl) | (with_reducible refine BlkP.Blk.alloc ?_ _) | (exact rfl))), by subst ht; (repeat' (first | (with_reducible refine BlkP.Blk.drew ?_) | (with_reducible refine BlkP.Blk.drewN ?_ _) | (with_reducible refine BlkP.Blk.setAt (us := ?_) (by first | omega | (simp; done) | (simp; omega)) rfl ?_ ?_) | (with_reducible refine BlkP.Blk.otherAt ?_ (by first | omega | (simp; done) | (simp; omega))) | (with_reducible refine BlkP.Blk.newA' (by first | omega | (simp; done) | (simp; omega)) rfl) | (with_reducible refine BlkP.Blk.alloc ?_ _) | (exact rfl)))⟩ ?_
      try rw [ht]
      rintro w9 ⟨hb9, hk9, ht9⟩
      refine wp_storeT 27 rfl (.tmp 8) (.tmp 32) rfl sizeTO (vs := [.int .i64 3, .int .i64 0, .int .i64 (-1), .int .i64 2, .int .i64 0, .int .i64 0, .int .i64 0, .int .u8 0, .int .u8 0, .int .i64 4]) (us := [.int .i64 0, .int .i64 0, .int .i64 0, .int .i64 0, .int .i64 0, .int .i64 0, .int .i64 0, .int .u8 0, .int .u8 0, .int .i64 0]) (n := 10) (by simp [Value.oneCell']) rfl rfl rfl ht9 rfl ?_
      intro w10 hk6 hg6 hz6
      have HB10 := Lib.hid (show Below w.heap.size w w10 from hb9.grown hg6 hb9.size (fun k hk => by cases hk; omega))
      have hkk := hk9.grown hg6 (by simp; omega)
      have d0 := hk6.cell (i := 0) rfl
      have d1 := hk6.cell (i := 1) rfl
      have d2 := hk6.cell (i := 2) rfl
      have d3 := hk6.cell (i := 3) rfl
      have d4 := hk6.cell (i := 4) rfl
      have d5 := hk6.cell (i := 5) rfl
      have d6 := hk6.cell (i := 6) rfl
      have d7 := hk6.cell (i := 7) rfl
      have d8 := hk6.cell (i := 8) rfl
      have d9 := hk6.cell (i := 9) rfl
      have c0 := hkk.cell (i := 0) rfl
      have c1 := hkk.cell (i := 1) rfl
      have c2 := hkk.cell (i := 2) rfl
      have c3 := hkk.cell (i := 3) rfl
      have c4 := hkk.cell (i := 4) rfl
      have c5 := hkk.cell (i := 5) rfl
      have c6 := hkk.cell (i := 6) rfl
      have c7 := hkk.cell (i := 7) rfl
      have c8 := hkk.cell (i := 8) rfl
      have c9 := hkk.cell (i := 9) rfl
      have l6 := hk6.lt
      have lk := hkk.lt
      have hne := run_neO
      clear hg6 hb9 hk9 ht9 hk6 hkk
      go_wp2_with fail
      go_ret2
      exact ⟨rfl, HB10.out⟩
set_option maxRecDepth 100000 in
set_option maxHeartbeats 8000000 in
theorem works_c {w : World} (hE : Env w) :
    Calls Tryd.prog 13 #[] w fun e w' => e = .returned (.bool true) ∧ Below w.heap.size w w' := by
  have HE := Lib.hid hE
  clear hE
  go_enter Tryd.func13, Tryd.ntmps13
  go_wp2_with fail
  refine (get_small HE.out).mono ?_
  rintro e w1 ⟨rfl, hb1⟩
  obtain ⟨t, ht⟩ : ∃ t, w1.heap.size = t := ⟨_, rfl⟩
  have B1 := Lib.hid hb1
  have E1 := Lib.hid (HE.out.below hb1)
  have hz1 := hb1.size
  clear hb1
  go_wp2_with ((with_reducible refine at_storeT 27 ?_); refine Classical.byContradiction (fun hG => ?_))
  refine hG ?_
  clear hG
  refine list_named (S := fun W => Below w.heap.size w W ∧ Below w1.heap.size w1 W ∧ Blk W t 27 [.int .i64 0, .int .i64 0, .int .i64 0, .int .i64 0, .int .i64 0, .int .i64 0, .int .i64 0, .int .u8 0, .int .u8 0, .int .i64 0]) ⟨by (repeat' (first | (with_reducible exact Below.refl _ _) | (with_reducible refine Below.setCell ?_ (by (first | omega | (simp; done) | (simp; omega))) _) | (with_reducible refine Below.alloc ?_ (by (first | omega | (simp; done) | (simp; omega))) _) | (with_reducible refine Below.drew ?_) | (with_reducible refine below_drewN ?_ _) | (with_reducible refine Below.trans ?_ (Below.mono B1.out (by (first | omega | (simp; done) | (simp; omega))))))), by (repeat' (first | (with_reducible exact Below.refl _ _) | (with_reducible refine Below.setCell ?_ (by (first | omega | (simp; done) | (simp; omega))) _) | (with_reducible refine Below.alloc ?_ (by (first | omega | (simp; done) | (simp; omega))) _) | (with_reducible refine Below.drew ?_) | (with_reducible refine below_drewN ?_ _))), by subst ht; (repeat' (first | (with_reducible refine BlkP.Blk.drew ?_) | (with_reducible refine BlkP.Blk.drewN ?_ _) | (with_reducible refine BlkP.Blk.setAt (us := ?_) (by first | omega | (simp; done) | (simp; omega)) rfl ?_ ?_) | (with_reducible refine BlkP.Blk.otherAt ?_ (by first | omega | (simp; done) | (simp; omega))) | (with_reducible refine BlkP.Blk.newA' (by first | omega | (simp; done) | (simp; omega)) rfl) | (with_reducible refine BlkP.Blk.alloc ?_ _) | (exact rfl)))⟩ ?_
  try rw [ht]
  rintro w2 ⟨hb2, hb12, ht2⟩
  refine wp_storeT 27 rfl (.tmp 1) (.tmp 7) rfl sizeTO (vs := [.int .i64 3, .int .i64 0, .int .i64 (-1), .int .i64 2, .int .i64 0, .int .i64 0, .int .i64 0, .int .u8 0, .int .u8 0, .int .i64 4]) (us := [.int .i64 0, .int .i64 0, .int .i64 0, .int .i64 0, .int .i64 0, .int .i64 0, .int .i64 0, .int .u8 0, .int .u8 0, .int .i64 0]) (n := 10) (by simp [Value.oneCell']) rfl rfl rfl ht2 rfl ?_
  intro w3 hk6 hg6 hz6
  have HB3 := Lib.hid (show Below w.heap.size w w3 from hb2.grown hg6 hb2.size (fun k hk => by cases hk; omega))
  have E3 := Lib.hid (HE.out.below HB3.out)
  have d0 := hk6.cell (i := 0) rfl
  have d1 := hk6.cell (i := 1) rfl
  have d2 := hk6.cell (i := 2) rfl
  have d3 := hk6.cell (i := 3) rfl
  have d4 := hk6.cell (i := 4) rfl
  have d5 := hk6.cell (i := 5) rfl
  have d6 := hk6.cell (i := 6) rfl
  have d7 := hk6.cell (i := 7) rfl
  have d8 := hk6.cell (i := 8) rfl
  have d9 := hk6.cell (i := 9) rfl
  have l6 := hk6.lt
  have hne := run_neO
  clear hg6 hb2 hb12 ht2 hk6
  go_wp2_with fail
  refine (put_small E3.out).mono ?_
  rintro e w4 ⟨rfl, hb4⟩
  have HB4 := Lib.hid (below_t HB3.out hb4)
  have hself : (smallL == smallL) = true := by decide
  clear hb4
  go_wp2_with fail
  go_ret
  exact ⟨rfl, HB4.out⟩
end LineW
end Go.Proofs.YtcfkdddflbdfaaaDoor
