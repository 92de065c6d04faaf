/-
  Fire: what it answers.
-/
import Derived.Test.YtlahkmkipciiiaaDoorBurnChange
namespace Go.Proofs.YtlahkmkipciiiaaDoor
open Go.RowKit
set_option linter.unusedVariables false
set_option linter.unusedSimpArgs false
namespace BurnW
open BlkP RowG FrS PushG CellsW NearW BurnP
/-- The closure that is handed out: what it holds. -/
def ChgP (w : World) (bd : Nat) (n : Nr) (e : Ending) (w' : World) : Prop :=
  ∃ bn bp, e = .returned (.func (.func 71) #[] #[.pointer (some ⟨bn, 0, none⟩), .pointer (some ⟨bp, 0, none⟩)]) ∧ Blk w' bn TN (vals n) ∧ Blk w' bp TP [.pointer (some ⟨bd, 0, none⟩)] ∧ w.heap.size ≤ bn ∧ w.heap.size ≤ bp ∧ Below w.heap.size w w'
set_option maxRecDepth 100000 in
set_option maxHeartbeats 4000000 in
theorem changer_c {w : World} {bd : Nat} {n : Nr} : Calls Tryd.prog 43 #[nv n, .pointer (some ⟨bd, 0, none⟩)] w (ChgP w bd n) := by
  go_enter Tryd.func43, Tryd.ntmps43
  go_wp2_with ((with_reducible refine at_slot 2 ?_); refine Classical.byContradiction (fun hG => ?_))
  refine hG ?_
  clear hG
  refine wp_boxN rfl (.tmp 0) rfl rfl ?_
  intro w1 h1 hb1 hz1
  have HB1 := Lib.hid hb1
  have H1 := Lib.hid h1
  have HZ1 := Lib.hid hz1
  clear h1 hb1 hz1
  go_wp2_with fail
  go_ret
  exact ⟨w.heap.size, w1.heap.size, rfl, by (repeat' (first | (with_reducible exact H1.out) | (with_reducible refine BlkP.Blk.drew ?_) | (with_reducible refine BlkP.Blk.drewN ?_ _) | (with_reducible refine BlkP.Blk.setAt (us := ?_) (by first | omega | (simp; done) | (simp; omega)) rfl ?_ ?_) | (with_reducible refine BlkP.Blk.otherAt ?_ (by first | omega | (simp; done) | (simp; omega))) | (with_reducible refine BlkP.Blk.newA' (by first | omega | (simp; done) | (simp; omega)) rfl) | (with_reducible refine BlkP.Blk.alloc ?_ _) | (exact rfl))), by (repeat' (first | (with_reducible refine BlkP.Blk.drew ?_) | (with_reducible refine BlkP.Blk.drewN ?_ _) | (with_reducible refine BlkP.Blk.setAt (us := ?_) (by first | omega | (simp; done) | (simp; omega)) rfl ?_ ?_) | (with_reducible refine BlkP.Blk.otherAt ?_ (by first | omega | (simp; done) | (simp; omega))) | (with_reducible refine BlkP.Blk.newA' (by first | omega | (simp; done) | (simp; omega)) rfl) | (with_reducible refine BlkP.Blk.alloc ?_ _) | (exact rfl))), Nat.le_refl _, HB1.out.size, by have := HB1.out.size; (repeat' (first | (with_reducible exact Below.refl _ _) | (with_reducible refine Below.setCell ?_ (by (first | omega | (simp; done) | (simp; omega))) _) | (with_reducible refine Below.alloc ?_ (by (first | omega | (simp; done) | (simp; omega))) _) | (with_reducible refine Below.drew ?_) | (with_reducible refine below_drewN ?_ _) | (with_reducible refine Below.trans ?_ (Below.mono HB1.out (by (first | omega | (simp; done) | (simp; omega)))))))⟩
theorem wrapU_small {n : Int} (h : 0 ≤ n) (h' : n ≤ 18446744073709551615) : IntKind.u64.wrap n = n := by
  rw [IntKind.wrap_u64]
  omega
theorem rem_c {d c q : Nat} (h : d % c = q) : ((d : Int)).tmod (c : Int) = (q : Int) := by rw [← h, Int.ofNat_tmod]
theorem quo_c {d c q : Nat} (h : d / c = q) (hd : d ≤ 18446744073709551615) : IntKind.u64.wrap ((d : Int) / (c : Int)) = (q : Int) := by
  have h1 := Nat.div_le_self d c
  have h2 : ((d : Int)) / (c : Int) = ((d / c : Nat) : Int) := by simp
  rw [h2, wrapU_small (by omega) (by omega), h]
theorem wet_snd (n : Nr) : anyTo (fun c => c.1 == 13) (snd n).sd 6 = wet n := any_eq (fun i _ => by simp [isWater, snd, sure_kd])
theorem fuel_snd (n : Nr) : anyTo (fun c => KindP.burns c.1) (snd n).sd 6 = fuel n := any_eq (fun i _ => by simp [isFuel, snd, sure_kd])
theorem deed_end {w W : World} {s : Nat} {v : Value} {D : Dd} (hs : w.heap.size = s) (hb : Below w.heap.size w W) (hr : Blk W (s + 1) TD [.slice none 0 0, .int .i64 0, .int .i64 0]) (ho : RowG.Own encX TX W w.heap.size v D.l) {x y z : Value} :
    RowG.Own encX TX (((W.setCell ⟨s + 1, 0, none⟩ x).setCell ⟨s + 1, 1, none⟩ y).setCell ⟨s + 1, 2, none⟩ z) w.heap.size v D.l ∧ Below w.heap.size w (((W.setCell ⟨s + 1, 0, none⟩ x).setCell ⟨s + 1, 1, none⟩ y).setCell ⟨s + 1, 2, none⟩ z) :=
  ⟨own_set3 ho hr, ((hb.setCell (by simp; omega) _).setCell (by simp; omega) _).setCell (by simp; omega) _⟩
theorem tab_fr1 {w w' : World} {b : Nat} (h : KindW.Tab w) (hf : Fr (fun k => k = b) w w') (hne : 0 ≠ b) : KindW.Tab w' := tab_frB h hf hne
theorem tab_ne {w : World} {b : Nat} {T : TypeId} {vs : List Value} (h : KindW.Tab w) (k : Blk w b T vs) (hv : ∀ x, vs[0]? = some x → ∀ s, x ≠ .string s) (h0 : vs[0]? ≠ none) : 0 ≠ b := fun e => by
  subst e
  cases hx : vs[0]? with
  | none => exact h0 hx
  | some x => exact hv x hx _ (Option.some.inj ((k.cell hx).symm.trans (h.name 0 (by omega))))
set_option maxRecDepth 100000 in
set_option maxHeartbeats 16000000 in
theorem Fire_c {w : World} {n : Nr} {d : Nat} (hT : KindW.Tab w) (hd : n.dr = (d : Int)) (hd2 : d ≤ 18446744073709551615) : Calls Tryd.prog 22 #[nv n] w (DeedQ w (fire n d)) := by
  have HT := Lib.hid hT
  have HDR := Lib.hid hd
  obtain ⟨D, hD⟩ : ∃ D, fire n d = D := ⟨_, rfl⟩
  rw [hD]
  have HD := Lib.hid hD
  obtain ⟨⟨k0, l0⟩, hs0⟩ : ∃ c, sure n.s = c := ⟨_, rfl⟩
  have HS0 := Lib.hid hs0
  have HK0 := Lib.hid (show kd n.s = k0 by rw [← sure_kd, hs0])
  obtain ⟨s, hs⟩ : ∃ s, w.heap.size = s := ⟨_, rfl⟩
  have HS := Lib.hid hs
  clear hT hd hD hs0
  go_enter Tryd.func22, Tryd.ntmps22
  go_wp2_with ((with_reducible refine at_slot 1 ?_); refine Classical.byContradiction (fun hG => ?_))
  refine hG ?_
  clear hG
  refine wp_boxN rfl (.tmp 0) rfl rfl ?_
  intro w1 h1 hb1 hz1
  rw [hs] at h1 hz1
  try rw [hs]
  go_wp2_with ((with_reducible refine at_slot 8 ?_); refine Classical.byContradiction (fun hG => ?_))
  refine hG ?_
  clear hG
  refine list_named (S := fun W => Below w.heap.size w W ∧ Blk W s TN (vals n) ∧ Blk W (s + 1) TD [.slice none 0 0, .int .i64 0, .int .i64 0]) ⟨by (repeat' (first | (with_reducible exact Below.refl _ _) | (with_reducible refine Below.setCell ?_ (by (first | omega | (simp; done) | (simp; omega))) _) | (with_reducible refine Below.alloc ?_ (by (first | omega | (simp; done) | (simp; omega))) _) | (with_reducible refine Below.drew ?_) | (with_reducible refine below_drewN ?_ _) | (with_reducible refine Below.trans ?_ (Below.mono hb1 (by (first | omega | (simp; done) | (simp; omega))))))), by (repeat' (first | (with_reducible exact h1) | (with_reducible refine BlkP.Blk.drew ?_) | (with_reducible refine BlkP.Blk.drewN ?_ _) | (with_reducible refine BlkP.Blk.setAt (us := ?_) (by first | omega | (simp; done) | (simp; omega)) rfl ?_ ?_) | (with_reducible refine BlkP.Blk.otherAt ?_ (by first | omega | (simp; done) | (simp; omega))) | (with_reducible refine BlkP.Blk.newA' (by first | omega | (simp; done) | (simp; omega)) rfl) | (with_reducible refine BlkP.Blk.alloc ?_ _) | (exact rfl))), by (repeat' (first | (with_reducible refine BlkP.Blk.drew ?_) | (with_reducible refine BlkP.Blk.drewN ?_ _) | (with_reducible refine BlkP.Blk.setAt (us := ?_) (by first | omega | (simp; done) | (simp; omega)) rfl ?_ ?_) | (with_reducible refine BlkP.Blk.otherAt ?_ (by first | omega | (simp; done) | (simp; omega))) | (with_reducible refine BlkP.Blk.newA' (by first | omega | (simp; done) | (simp; omega)) rfl) | (with_reducible refine BlkP.Blk.alloc ?_ _) | (exact rfl)))⟩ ?_
  clear hb1 h1 hz1
  rintro w2 ⟨hb2, h2, hr2⟩
  have HB2 := Lib.hid hb2
  have H2 := Lib.hid h2
  have HR2 := Lib.hid hr2
  clear hb2 h2 hr2
  refine wp_loadN rfl (.tmp 1) rfl rfl (n := n) H2.out ?_
  go_wp2_with fail
  refine (sound_c (HT.out.below HB2.out)).mono ?_
  rintro e w3 ⟨rfl, hb3⟩
  have hB3 := below_t HB2.out hb3
  have h3 := H2.out.below hb3
  have hr3 := HR2.out.below hb3
  go_wp2_with ((with_reducible refine at_storeN ?_); refine Classical.byContradiction (fun hG => ?_))
  refine hG ?_
  clear hG
  refine wp_storeN rfl (.tmp 1) (.tmp 9) rfl rfl (n := snd n) rfl h3 rfl ?_
  intro w4 h4 hg4 hz4
  have HB4 := Lib.hid (show Below w.heap.size w w4 from hB3.grown hg4 (by have := hB3.size; omega) (fun q hq => by injection hq with hq; omega))
  have H4 := Lib.hid h4
  have HR4 := Lib.hid (hr3.grown hg4 (by simp))
  clear hb3 hB3 h3 hr3 h4 hg4 hz4
  go_wp2_with ((with_reducible refine at_slot 10 ?_); refine Classical.byContradiction (fun hG => ?_))
  refine hG ?_
  clear hG
  refine list_named (S := fun W => Below w.heap.size w W ∧ Blk W s TN (vals (snd n)) ∧ Blk W (s + 1) TD [.slice none 0 0, .int .i64 0, .int .i64 0] ∧ ∃ bd, bd = w4.heap.size ∧ s + 1 < bd ∧ Blk W bd TD [.slice none 0 0, .int .i64 0, .int .i64 0]) ⟨by have := HB4.out.size; (repeat' (first | (with_reducible exact Below.refl _ _) | (with_reducible refine Below.setCell ?_ (by (first | omega | (simp; done) | (simp; omega))) _) | (with_reducible refine Below.alloc ?_ (by (first | omega | (simp; done) | (simp; omega))) _) | (with_reducible refine Below.drew ?_) | (with_reducible refine below_drewN ?_ _) | (with_reducible refine Below.trans ?_ (Below.mono HB4.out (by (first | omega | (simp; done) | (simp; omega))))))), by (repeat' (first | (with_reducible exact H4.out) | (with_reducible refine BlkP.Blk.drew ?_) | (with_reducible refine BlkP.Blk.drewN ?_ _) | (with_reducible refine BlkP.Blk.setAt (us := ?_) (by first | omega | (simp; done) | (simp; omega)) rfl ?_ ?_) | (with_reducible refine BlkP.Blk.otherAt ?_ (by first | omega | (simp; done) | (simp; omega))) | (with_reducible refine BlkP.Blk.newA' (by first | omega | (simp; done) | (simp; omega)) rfl) | (with_reducible refine BlkP.Blk.alloc ?_ _) | (exact rfl))), by (repeat' (first | (with_reducible exact HR4.out) | (with_reducible refine BlkP.Blk.drew ?_) | (with_reducible refine BlkP.Blk.drewN ?_ _) | (with_reducible refine BlkP.Blk.setAt (us := ?_) (by first | omega | (simp; done) | (simp; omega)) rfl ?_ ?_) | (with_reducible refine BlkP.Blk.otherAt ?_ (by first | omega | (simp; done) | (simp; omega))) | (with_reducible refine BlkP.Blk.newA' (by first | omega | (simp; done) | (simp; omega)) rfl) | (with_reducible refine BlkP.Blk.alloc ?_ _) | (exact rfl))), w4.heap.size, rfl, HR4.out.lt, by (repeat' (first | (with_reducible refine BlkP.Blk.drew ?_) | (with_reducible refine BlkP.Blk.drewN ?_ _) | (with_reducible refine BlkP.Blk.setAt (us := ?_) (by first | omega | (simp; done) | (simp; omega)) rfl ?_ ?_) | (with_reducible refine BlkP.Blk.otherAt ?_ (by first | omega | (simp; done) | (simp; omega))) | (with_reducible refine BlkP.Blk.newA' (by first | omega | (simp; done) | (simp; omega)) rfl) | (with_reducible refine BlkP.Blk.alloc ?_ _) | (exact rfl)))⟩ ?_
  rintro w5 ⟨hb5, h5, hr5, bd, hbd, hsd, hd5⟩
  try rw [← hbd]
  have HB5 := Lib.hid hb5
  have H5 := Lib.hid h5
  have HR5 := Lib.hid hr5
  have HD5 := Lib.hid hd5
  have c0 := h5.cell (i := 0) (g_kind (snd n))
  have c1 := h5.cell (i := 1) (g_lev (snd n))
  rw [show (snd n).s = (k0, l0) from HS0.out] at c0 c1
  simp only at c0 c1
  have hsI : s < w5.heap.size := h5.lt
  clear hb5 h5 hr5 hd5 hbd
  have HSD := Lib.hid hsd
  by_cases hk14 : k0 = 14
  · have h14 : ((k0 : Int) != 14) = false := by simp; omega
    have HK14 := Lib.hid hk14
    clear hk14
    go_wp2_with ((with_reducible refine at_slot 15 ?_); refine Classical.byContradiction (fun hG => ?_))
    refine hG ?_
    clear hG
    refine wp_loadN rfl (.tmp 1) rfl rfl (n := snd n) H5.out ?_
    go_wp2_with fail
    refine changer_c.mono ?_
    rintro e w6 ⟨bn, bp, rfl, hn6, hp6, gn, gp, hb6⟩
    have HB6 := Lib.hid (below_t HB5.out hb6)
    have H6 := Lib.hid (H5.out.below hb6)
    have HR6 := Lib.hid (HR5.out.below hb6)
    have HD6 := Lib.hid (HD5.out.below hb6)
    have HN6 := Lib.hid hn6
    have HP6 := Lib.hid hp6
    have HGE := Lib.hid (show w5.heap.size ≤ bn ∧ w5.heap.size ≤ bp from ⟨gn, gp⟩)
    have c23 : w6.cell? ⟨s, 23, none⟩ = some (.int .u64 (d : Int)) := by
      have q := H6.out.cell (i := 23) (v := .int .u64 n.dr) rfl
      rw [HDR.out] at q
      exact q
    have ls := H6.out.lt
    clear hb6 hn6 hp6 gn gp c0 c1
    obtain ⟨q, hq⟩ : ∃ q, d % 6 = q := ⟨_, rfl⟩
    obtain ⟨t, ht⟩ : ∃ t, d / 6 = t := ⟨_, rfl⟩
    have HQ := Lib.hid hq
    have HTT := Lib.hid ht
    have hq6 : q < 6 := by omega
    have hti : t ≤ 4000000000000000000 := by omega
    clear hq ht
    go_wp2_with fail
    refine wp_region_noPanic ?_
    refine wp_region_held_drew (S := fun W => Below w6.heap.size w6 W) (by kernel_rfl) ((Below.refl _ w6).drew) (fun hHeld => ?_)
    refine wpAnyH_take (i := 0) (oi := ⟨some 17, _, _, _, _, _⟩) (v := .pointer (some ⟨s, 23, none⟩)) rfl (by kernel_rfl) (by kernel_rfl) (by kernel_rfl) (fun _ _ _ h => h) (Or.inl ⟨by rfl, fun W hSW => by go_simp⟩) hHeld ?_
    simp only [Act.put, List.setIfInBounds_toArray, List.set_cons_zero, List.set_cons_succ]
    refine wpAnyH_take (i := 1) (oi := ⟨some 18, _, _, _, _, _⟩) (v := .int .u64 (d : Int)) rfl (by kernel_rfl) (by kernel_rfl) (by kernel_rfl) (fun _ _ _ h => h) (Or.inl ⟨by rfl, fun W hSW => by have a0 := (hSW.cell (p := ⟨s, 23, none⟩) ls).trans c23; go_simp⟩) hHeld ?_
    simp only [Act.put, List.setIfInBounds_toArray, List.set_cons_zero, List.set_cons_succ]
    refine wpAnyH_take (i := 2) (oi := ⟨some 19, _, _, _, _, _⟩) (v := .int .u64 (q : Int)) rfl (by kernel_rfl) (by kernel_rfl) (by kernel_rfl) (fun _ _ _ h => h) (Or.inl ⟨by rfl, fun W hSW => by go_simp; exact rem_c HQ.out⟩) hHeld ?_
    simp only [Act.put, List.setIfInBounds_toArray, List.set_cons_zero, List.set_cons_succ]
    refine wpAnyH_take (i := 3) (oi := ⟨some 20, _, _, _, _, _⟩) (v := .int .i64 (q : Int)) rfl (by kernel_rfl) (by kernel_rfl) (by kernel_rfl) (fun _ _ _ h => h) (Or.inl ⟨by rfl, fun W hSW => by go_simp; exact BitsP.wrapI_small (by omega) (by omega)⟩) hHeld ?_
    simp only [Act.put, List.setIfInBounds_toArray, List.set_cons_zero, List.set_cons_succ]
    refine wpAnyH_take (i := 4) (oi := ⟨some 21, _, _, _, _, _⟩) (v := .pointer (some ⟨s, 23, none⟩)) rfl (by kernel_rfl) (by kernel_rfl) (by kernel_rfl) (fun _ _ _ h => h) (Or.inl ⟨by rfl, fun W hSW => by go_simp⟩) hHeld ?_
    simp only [Act.put, List.setIfInBounds_toArray, List.set_cons_zero, List.set_cons_succ]
    refine wpAnyH_take (i := 5) (oi := ⟨some 22, _, _, _, _, _⟩) (v := .int .u64 (d : Int)) rfl (by kernel_rfl) (by kernel_rfl) (by kernel_rfl) (fun _ _ _ h => h) (Or.inl ⟨by rfl, fun W hSW => by have a0 := (hSW.cell (p := ⟨s, 23, none⟩) ls).trans c23; go_simp⟩) hHeld ?_
    simp only [Act.put, List.setIfInBounds_toArray, List.set_cons_zero, List.set_cons_succ]
    refine wpAnyH_take (i := 6) (oi := ⟨some 23, _, _, _, _, _⟩) (v := .int .u64 (t : Int)) rfl (by kernel_rfl) (by kernel_rfl) (by kernel_rfl) (fun _ _ _ h => h) (Or.inl ⟨by rfl, fun W hSW => by go_simp; exact quo_c HTT.out hd2⟩) hHeld ?_
    simp only [Act.put, List.setIfInBounds_toArray, List.set_cons_zero, List.set_cons_succ]
    refine wpAnyH_take (i := 7) (oi := ⟨some 5, _, _, _, _, _⟩) (v := .int .i64 (q : Int)) rfl (by kernel_rfl) (by kernel_rfl) (by kernel_rfl) (fun _ _ _ h => h) (Or.inl ⟨by rfl, fun W hSW => by go_simp⟩) hHeld ?_
    simp only [Act.put, List.setIfInBounds_toArray, List.set_cons_zero, List.set_cons_succ]
    refine wpAnyH_take (i := 8) (oi := ⟨some 6, _, _, _, _, _⟩) (v := .int .u64 (t : Int)) rfl (by kernel_rfl) (by kernel_rfl) (by kernel_rfl) (fun _ _ _ h => h) (Or.inl ⟨by rfl, fun W hSW => by go_simp⟩) hHeld ?_
    simp only [Act.put, List.setIfInBounds_toArray, List.set_cons_zero, List.set_cons_succ]
    refine wpAnyH_done (by kernel_rfl) ?_ _
    refine NoPanic.normal ?_
    refine HeldP.then_named (S := fun W => Below w6.heap.size w6 W) hHeld ?_
    rintro w7 hb7
    clear hHeld c23 ls
    have HB7 := Lib.hid (below_t HB6.out hb7)
    have H7 := Lib.hid (H6.out.below hb7)
    have HR7 := Lib.hid (HR6.out.below hb7)
    have HD7 := Lib.hid (HD6.out.below hb7)
    have HN7 := Lib.hid (HN6.out.below hb7)
    have HP7 := Lib.hid (HP6.out.below hb7)
    clear hb7
    obtain ⟨wt, hwt⟩ : ∃ r, wet n = r := ⟨_, rfl⟩
    have HWT := Lib.hid hwt
    clear hwt
    go_wp2_with ((with_reducible refine at_slot 24 ?_); refine Classical.byContradiction (fun hG => ?_))
    refine hG ?_
    clear hG
    refine wp_loadN rfl (.tmp 1) rfl rfl (n := snd n) H7.out ?_
    go_wp2_with fail
    refine (beside_water_c (r := wt) (HT.out.below HB7.out) (by rw [wet_snd]; exact HWT.out)).mono ?_
    rintro e w8 ⟨rfl, hb8⟩
    have HB8 := Lib.hid (below_t HB7.out hb8)
    have H8 := Lib.hid (H7.out.below hb8)
    have HR8 := Lib.hid (HR7.out.below hb8)
    have HD8 := Lib.hid (HD7.out.below hb8)
    have HN8 := Lib.hid (HN7.out.below hb8)
    have HP8 := Lib.hid (HP7.out.below hb8)
    clear hb8
    cases wt with
    | true =>
      have HOVER := Lib.hid (show fire n d = over1 n from by
        unfold fire
        rw [if_pos (by rw [HK0.out]; exact HK14.out), if_pos HWT.out])
      have c0 := H8.out.cell (i := 0) (g_kind (snd n))
      have c1 := H8.out.cell (i := 1) (g_lev (snd n))
      rw [show (snd n).s = (k0, l0) from HS0.out] at c0 c1
      simp only at c0 c1
      have hsL := H8.out.lt
      obtain ⟨⟨la, lb⟩, hla⟩ : ∃ c, left l0 = c := ⟨_, rfl⟩
      have HLA := Lib.hid hla
      clear hla
      go_wp2_with fail
      refine (left_c (k := k0) HLA.out).mono ?_
      rintro e w9 ⟨rfl, hb9⟩
      clear c0 c1 hsL
      have HB9 := Lib.hid (below_t HB8.out hb9)
      have H9 := Lib.hid (H8.out.below hb9)
      have HR9 := Lib.hid (HR8.out.below hb9)
      have HD9 := Lib.hid (HD8.out.below hb9)
      have HN9 := Lib.hid (HN8.out.below hb9)
      have HP9 := Lib.hid (HP8.out.below hb9)
      clear hb9
      go_wp2_with fail
      refine (change_c (n := snd n) (d := 0) (k := la) (m := lb) (ko := k0) (lo := l0) (x1 := mv la) (x2 := mv k0) (HT.out.below HB9.out) HN9.out HP9.out HD9.out (by omega) (by rw [if_pos rfl]; exact HS0.out) rfl rfl).mono ?_
      rintro e w10 ⟨rfl, v, hov, hdv, hfv⟩
      have HOV := Lib.hid (hov.mono HB9.out.size)
      obtain ⟨A, cc, rfl, _, _, hAA⟩ := hov.form (n := 1) rfl
      have HB10 := Lib.hid (show Below w.heap.size w w10 from HB9.out.trans (hfv.toBelow HB9.out.size (fun q hq => by have := HSD.out; have := HS.out; omega)))
      have HR10 := Lib.hid (hfv.blk HR9.out (by have := HSD.out; omega))
      have HD10 := Lib.hid hdv
      have dI0 := hdv.cell (i := 1) rfl
      have dF0 := hdv.frozen 1
      have dL0 := hdv.lt
      clear hov hdv hfv hAA
      go_wp2_with ((with_reducible refine at_slot 62 ?_); refine Classical.byContradiction (fun hG => ?_))
      refine hG ?_
      clear hG
      refine list_named (S := fun W => Below w.heap.size w W ∧ Blk W (s + 1) TD [.slice none 0 0, .int .i64 0, .int .i64 0] ∧ Blk W bd TD [.slice A 1 cc, .int .i64 0, .int .i64 (mv la - mv k0)] ∧ RowG.Own encX TX W w.heap.size (.slice A 1 cc) [(0, (la, lb))]) ⟨by have := HS.out; have := HB10.out.size; (repeat' (first | (with_reducible exact Below.refl _ _) | (with_reducible refine Below.setCell ?_ (by (first | omega | (simp; done) | (simp; omega))) _) | (with_reducible refine Below.alloc ?_ (by (first | omega | (simp; done) | (simp; omega))) _) | (with_reducible refine Below.drew ?_) | (with_reducible refine below_drewN ?_ _) | (with_reducible refine Below.trans ?_ (Below.mono HB10.out (by (first | omega | (simp; done) | (simp; omega))))))), by (repeat' (first | (with_reducible exact HR10.out) | (with_reducible refine BlkP.Blk.drew ?_) | (with_reducible refine BlkP.Blk.drewN ?_ _) | (with_reducible refine BlkP.Blk.setAt (us := ?_) (by first | omega | (simp; done) | (simp; omega)) rfl ?_ ?_) | (with_reducible refine BlkP.Blk.otherAt ?_ (by first | omega | (simp; done) | (simp; omega))) | (with_reducible refine BlkP.Blk.newA' (by first | omega | (simp; done) | (simp; omega)) rfl) | (with_reducible refine BlkP.Blk.alloc ?_ _) | (exact rfl))), by (repeat' (first | (with_reducible exact HD10.out) | (with_reducible refine BlkP.Blk.drew ?_) | (with_reducible refine BlkP.Blk.drewN ?_ _) | (with_reducible refine BlkP.Blk.setAt (us := ?_) (by first | omega | (simp; done) | (simp; omega)) rfl ?_ ?_) | (with_reducible refine BlkP.Blk.otherAt ?_ (by first | omega | (simp; done) | (simp; omega))) | (with_reducible refine BlkP.Blk.newA' (by first | omega | (simp; done) | (simp; omega)) rfl) | (with_reducible refine BlkP.Blk.alloc ?_ _) | (exact rfl))), HOV.out⟩ ?_
      rintro z0 ⟨zb, zr, zd, zo⟩
      have ZB := Lib.hid zb
      have ZR := Lib.hid zr
      have ZO := Lib.hid zo
      have HE := Lib.hid (show D = ⟨[(0, (la, lb))], 0, (mv la - mv k0)⟩ from by
        rw [← HD.out, HOVER.out]
        have h14 := HK14.out
        have hl : n.s.2 = l0 := by
          have q := HS0.out
          rw [sure_of (by rw [HK0.out]; omega)] at q
          rw [q]
        simp only [over1, hl, HLA.out, Dd.mk.injEq, true_and]
        rw [h14, mv_14]
        omega)
      have r0 := zr.cell (i := 0) rfl
      have r1 := zr.cell (i := 1) rfl
      have r2 := zr.cell (i := 2) rfl
      have f0 := zr.frozen 0
      have f1 := zr.frozen 1
      have f2 := zr.frozen 2
      have rl := zr.lt
      have d0 := zd.cell (i := 0) rfl
      have d1 := zd.cell (i := 1) rfl
      have d2 := zd.cell (i := 2) rfl
      have dl := zd.lt
      have hne : bd ≠ s + 1 := by have := HSD.out; omega
      clear zb zr zd zo
      go_wp2_with fail
      refine bodyPost_ret (v := .agg #[.slice A 1 cc, .int .i64 0, .int .i64 (mv la - mv k0)]) (by simp [results, Tryd.results22, go_sem, rl, r0, r1, r2]) rfl ?_
      rw [HE.out]
      exact ⟨_, rfl, (deed_end (D := ⟨[(0, (la, lb))], 0, (mv la - mv k0)⟩) HS.out ZB.out ZR.out ZO.out).1, (deed_end (D := ⟨[(0, (la, lb))], 0, (mv la - mv k0)⟩) HS.out ZB.out ZR.out ZO.out).2⟩
    | false =>
      obtain ⟨⟨kq, lq⟩, hsq⟩ : ∃ c, sure (n.sd q) = c := ⟨_, rfl⟩
      have HSQ := Lib.hid hsq
      have HKQ := Lib.hid (show kd (n.sd q) = kq by rw [← sure_kd, hsq])
      have a0 := H8.out.cell (g_sk (snd n) (d := q) hq6)
      have a1 := H8.out.cell (g_sl (snd n) (d := q) hq6)
      rw [show (snd n).sd q = (kq, lq) from hsq] at a0 a1
      simp only at a0 a1
      have hsL := H8.out.lt
      have hq6I : (q : Int) < 6 := by omega
      obtain ⟨fq, hfq⟩ : ∃ r, KindP.burns kq = r := ⟨_, rfl⟩
      have HFQ := Lib.hid hfq
      have HFU := Lib.hid (show isFuel (n.sd (d % 6)) = fq by unfold isFuel; rw [HQ.out, HKQ.out]; exact hfq)
      clear hsq hfq
      go_wp2_with fail
      refine (burns_c (HT.out.below HB8.out) HFQ.out).mono ?_
      rintro e w9 ⟨rfl, hb9⟩
      clear a0 a1 hsL
      have HB9 := Lib.hid (below_t HB8.out hb9)
      have H9 := Lib.hid (H8.out.below hb9)
      have HR9 := Lib.hid (HR8.out.below hb9)
      have HD9 := Lib.hid (HD8.out.below hb9)
      have HN9 := Lib.hid (HN8.out.below hb9)
      have HP9 := Lib.hid (HP8.out.below hb9)
      clear hb9
      cases fq with
      | true =>
        have a0 := H9.out.cell (g_sk (snd n) (d := q) hq6)
        have a1 := H9.out.cell (g_sl (snd n) (d := q) hq6)
        rw [show (snd n).sd q = (kq, lq) from HSQ.out] at a0 a1
        simp only at a0 a1
        have hsL := H9.out.lt
        obtain ⟨⟨la, lb⟩, hla⟩ : ∃ c, flame kq = c := ⟨_, rfl⟩
        have HLA := Lib.hid hla
        clear hla
        go_wp2_with fail
        refine (flame_c (l := lq) HLA.out).mono ?_
        rintro e w10 ⟨rfl, hb10⟩
        clear a0 a1 hsL
        have HB10 := Lib.hid (below_t HB9.out hb10)
        have H10 := Lib.hid (H9.out.below hb10)
        have HR10 := Lib.hid (HR9.out.below hb10)
        have HD10 := Lib.hid (HD9.out.below hb10)
        have HN10 := Lib.hid (HN9.out.below hb10)
        have HP10 := Lib.hid (HP9.out.below hb10)
        clear hb10
        go_wp2_with fail
        rw [show (1 + (q : Int)) = ((q + 1 : Nat) : Int) from by omega]
        refine (change_c (n := snd n) (d := q + 1) (k := la) (m := lb) (ko := kq) (lo := lq) (x1 := 0) (x2 := mv kq) (HT.out.below HB10.out) HN10.out HP10.out HD10.out (by omega) (by rw [if_neg (by omega), Nat.add_sub_cancel]; exact HSQ.out) (by have q := mv_flame kq; rw [HLA.out] at q; exact q) rfl).mono ?_
        rintro e w11 ⟨rfl, v, hov, hdv, hfv⟩
        have HOV := Lib.hid (hov.mono HB10.out.size)
        obtain ⟨A, cc, rfl, _, _, hAA⟩ := hov.form (n := 1) rfl
        have HB11 := Lib.hid (show Below w.heap.size w w11 from HB10.out.trans (hfv.toBelow HB10.out.size (fun q hq => by have := HSD.out; have := HS.out; omega)))
        have HR11 := Lib.hid (hfv.blk HR10.out (by have := HSD.out; omega))
        have HD11 := Lib.hid hdv
        have dI0 := hdv.cell (i := 1) rfl
        have dF0 := hdv.frozen 1
        have dL0 := hdv.lt
        clear hov hdv hfv hAA
        go_wp2_with ((with_reducible refine at_slot 62 ?_); refine Classical.byContradiction (fun hG => ?_))
        refine hG ?_
        clear hG
        refine list_named (S := fun W => Below w.heap.size w W ∧ Blk W (s + 1) TD [.slice none 0 0, .int .i64 0, .int .i64 0] ∧ Blk W bd TD [.slice A 1 cc, .int .i64 3, .int .i64 (0 - mv kq)] ∧ RowG.Own encX TX W w.heap.size (.slice A 1 cc) [(q + 1, (la, lb))]) ⟨by have := HS.out; have := HB11.out.size; (repeat' (first | (with_reducible exact Below.refl _ _) | (with_reducible refine Below.setCell ?_ (by (first | omega | (simp; done) | (simp; omega))) _) | (with_reducible refine Below.alloc ?_ (by (first | omega | (simp; done) | (simp; omega))) _) | (with_reducible refine Below.drew ?_) | (with_reducible refine below_drewN ?_ _) | (with_reducible refine Below.trans ?_ (Below.mono HB11.out (by (first | omega | (simp; done) | (simp; omega))))))), by (repeat' (first | (with_reducible exact HR11.out) | (with_reducible refine BlkP.Blk.drew ?_) | (with_reducible refine BlkP.Blk.drewN ?_ _) | (with_reducible refine BlkP.Blk.setAt (us := ?_) (by first | omega | (simp; done) | (simp; omega)) rfl ?_ ?_) | (with_reducible refine BlkP.Blk.otherAt ?_ (by first | omega | (simp; done) | (simp; omega))) | (with_reducible refine BlkP.Blk.newA' (by first | omega | (simp; done) | (simp; omega)) rfl) | (with_reducible refine BlkP.Blk.alloc ?_ _) | (exact rfl))), by (repeat' (first | (with_reducible exact HD11.out) | (with_reducible refine BlkP.Blk.drew ?_) | (with_reducible refine BlkP.Blk.drewN ?_ _) | (with_reducible refine BlkP.Blk.setAt (us := ?_) (by first | omega | (simp; done) | (simp; omega)) rfl ?_ ?_) | (with_reducible refine BlkP.Blk.otherAt ?_ (by first | omega | (simp; done) | (simp; omega))) | (with_reducible refine BlkP.Blk.newA' (by first | omega | (simp; done) | (simp; omega)) rfl) | (with_reducible refine BlkP.Blk.alloc ?_ _) | (exact rfl))), HOV.out.grown (grown_set _ bd 1 _) (.inr (own_ne HOV.out HD11.out (by decide)))⟩ ?_
        rintro z0 ⟨zb, zr, zd, zo⟩
        have ZB := Lib.hid zb
        have ZR := Lib.hid zr
        have ZO := Lib.hid zo
        have HE := Lib.hid (show D = ⟨[(q + 1, (la, lb))], 3, (0 - mv kq)⟩ from by
          rw [← HD.out]
          unfold fire
          rw [if_pos (by rw [HK0.out]; exact HK14.out), if_neg (by rw [HWT.out]; simp), if_pos HFU.out]
          simp only [burn1, HQ.out, HKQ.out, HLA.out, Dd.mk.injEq, true_and]
          omega)
        have r0 := zr.cell (i := 0) rfl
        have r1 := zr.cell (i := 1) rfl
        have r2 := zr.cell (i := 2) rfl
        have f0 := zr.frozen 0
        have f1 := zr.frozen 1
        have f2 := zr.frozen 2
        have rl := zr.lt
        have d0 := zd.cell (i := 0) rfl
        have d1 := zd.cell (i := 1) rfl
        have d2 := zd.cell (i := 2) rfl
        have dl := zd.lt
        have hne : bd ≠ s + 1 := by have := HSD.out; omega
        clear zb zr zd zo
        go_wp2_with fail
        refine bodyPost_ret (v := .agg #[.slice A 1 cc, .int .i64 3, .int .i64 (0 - mv kq)]) (by simp [results, Tryd.results22, go_sem, rl, r0, r1, r2]) rfl ?_
        rw [HE.out]
        exact ⟨_, rfl, (deed_end (D := ⟨[(q + 1, (la, lb))], 3, (0 - mv kq)⟩) HS.out ZB.out ZR.out ZO.out).1, (deed_end (D := ⟨[(q + 1, (la, lb))], 3, (0 - mv kq)⟩) HS.out ZB.out ZR.out ZO.out).2⟩
      | false =>
        obtain ⟨fu, hfu⟩ : ∃ r, fuel n = r := ⟨_, rfl⟩
        have HFL := Lib.hid hfu
        clear hfu
        go_wp2_with ((with_reducible refine at_slot 39 ?_); refine Classical.byContradiction (fun hG => ?_))
        refine hG ?_
        clear hG
        refine wp_loadN rfl (.tmp 1) rfl rfl (n := snd n) H9.out ?_
        go_wp2_with fail
        refine (beside_burns_c (r := fu) (HT.out.below HB9.out) (by rw [fuel_snd]; exact HFL.out)).mono ?_
        rintro e w10 ⟨rfl, hb10⟩
        have HB10 := Lib.hid (below_t HB9.out hb10)
        have H10 := Lib.hid (H9.out.below hb10)
        have HR10 := Lib.hid (HR9.out.below hb10)
        have HD10 := Lib.hid (HD9.out.below hb10)
        have HN10 := Lib.hid (HN9.out.below hb10)
        have HP10 := Lib.hid (HP9.out.below hb10)
        clear hb10
        cases fu with
        | false =>
          have HOVER := Lib.hid (show fire n d = over1 n from by
            unfold fire
            rw [if_pos (by rw [HK0.out]; exact HK14.out), if_neg (by rw [HWT.out]; simp), if_neg (by rw [HFU.out]; simp), if_neg (by rw [HFL.out]; simp)])
          have c0 := H10.out.cell (i := 0) (g_kind (snd n))
          have c1 := H10.out.cell (i := 1) (g_lev (snd n))
          rw [show (snd n).s = (k0, l0) from HS0.out] at c0 c1
          simp only at c0 c1
          have hsL := H10.out.lt
          obtain ⟨⟨la, lb⟩, hla⟩ : ∃ c, left l0 = c := ⟨_, rfl⟩
          have HLA := Lib.hid hla
          clear hla
          go_wp2_with fail
          refine (left_c (k := k0) HLA.out).mono ?_
          rintro e w11 ⟨rfl, hb11⟩
          clear c0 c1 hsL
          have HB11 := Lib.hid (below_t HB10.out hb11)
          have H11 := Lib.hid (H10.out.below hb11)
          have HR11 := Lib.hid (HR10.out.below hb11)
          have HD11 := Lib.hid (HD10.out.below hb11)
          have HN11 := Lib.hid (HN10.out.below hb11)
          have HP11 := Lib.hid (HP10.out.below hb11)
          clear hb11
          go_wp2_with fail
          refine (change_c (n := snd n) (d := 0) (k := la) (m := lb) (ko := k0) (lo := l0) (x1 := mv la) (x2 := mv k0) (HT.out.below HB11.out) HN11.out HP11.out HD11.out (by omega) (by rw [if_pos rfl]; exact HS0.out) rfl rfl).mono ?_
          rintro e w12 ⟨rfl, v, hov, hdv, hfv⟩
          have HOV := Lib.hid (hov.mono HB11.out.size)
          obtain ⟨A, cc, rfl, _, _, hAA⟩ := hov.form (n := 1) rfl
          have HB12 := Lib.hid (show Below w.heap.size w w12 from HB11.out.trans (hfv.toBelow HB11.out.size (fun q hq => by have := HSD.out; have := HS.out; omega)))
          have HR12 := Lib.hid (hfv.blk HR11.out (by have := HSD.out; omega))
          have HD12 := Lib.hid hdv
          have dI0 := hdv.cell (i := 1) rfl
          have dF0 := hdv.frozen 1
          have dL0 := hdv.lt
          clear hov hdv hfv hAA
          go_wp2_with ((with_reducible refine at_slot 62 ?_); refine Classical.byContradiction (fun hG => ?_))
          refine hG ?_
          clear hG
          refine list_named (S := fun W => Below w.heap.size w W ∧ Blk W (s + 1) TD [.slice none 0 0, .int .i64 0, .int .i64 0] ∧ Blk W bd TD [.slice A 1 cc, .int .i64 0, .int .i64 (mv la - mv k0)] ∧ RowG.Own encX TX W w.heap.size (.slice A 1 cc) [(0, (la, lb))]) ⟨by have := HS.out; have := HB12.out.size; (repeat' (first | (with_reducible exact Below.refl _ _) | (with_reducible refine Below.setCell ?_ (by (first | omega | (simp; done) | (simp; omega))) _) | (with_reducible refine Below.alloc ?_ (by (first | omega | (simp; done) | (simp; omega))) _) | (with_reducible refine Below.drew ?_) | (with_reducible refine below_drewN ?_ _) | (with_reducible refine Below.trans ?_ (Below.mono HB12.out (by (first | omega | (simp; done) | (simp; omega))))))), by (repeat' (first | (with_reducible exact HR12.out) | (with_reducible refine BlkP.Blk.drew ?_) | (with_reducible refine BlkP.Blk.drewN ?_ _) | (with_reducible refine BlkP.Blk.setAt (us := ?_) (by first | omega | (simp; done) | (simp; omega)) rfl ?_ ?_) | (with_reducible refine BlkP.Blk.otherAt ?_ (by first | omega | (simp; done) | (simp; omega))) | (with_reducible refine BlkP.Blk.newA' (by first | omega | (simp; done) | (simp; omega)) rfl) | (with_reducible refine BlkP.Blk.alloc ?_ _) | (exact rfl))), by (repeat' (first | (with_reducible exact HD12.out) | (with_reducible refine BlkP.Blk.drew ?_) | (with_reducible refine BlkP.Blk.drewN ?_ _) | (with_reducible refine BlkP.Blk.setAt (us := ?_) (by first | omega | (simp; done) | (simp; omega)) rfl ?_ ?_) | (with_reducible refine BlkP.Blk.otherAt ?_ (by first | omega | (simp; done) | (simp; omega))) | (with_reducible refine BlkP.Blk.newA' (by first | omega | (simp; done) | (simp; omega)) rfl) | (with_reducible refine BlkP.Blk.alloc ?_ _) | (exact rfl))), HOV.out⟩ ?_
          rintro z0 ⟨zb, zr, zd, zo⟩
          have ZB := Lib.hid zb
          have ZR := Lib.hid zr
          have ZO := Lib.hid zo
          have HE := Lib.hid (show D = ⟨[(0, (la, lb))], 0, (mv la - mv k0)⟩ from by
            rw [← HD.out, HOVER.out]
            have h14 := HK14.out
            have hl : n.s.2 = l0 := by
              have q := HS0.out
              rw [sure_of (by rw [HK0.out]; omega)] at q
              rw [q]
            simp only [over1, hl, HLA.out, Dd.mk.injEq, true_and]
            rw [h14, mv_14]
            omega)
          have r0 := zr.cell (i := 0) rfl
          have r1 := zr.cell (i := 1) rfl
          have r2 := zr.cell (i := 2) rfl
          have f0 := zr.frozen 0
          have f1 := zr.frozen 1
          have f2 := zr.frozen 2
          have rl := zr.lt
          have d0 := zd.cell (i := 0) rfl
          have d1 := zd.cell (i := 1) rfl
          have d2 := zd.cell (i := 2) rfl
          have dl := zd.lt
          have hne : bd ≠ s + 1 := by have := HSD.out; omega
          clear zb zr zd zo
          go_wp2_with fail
          refine bodyPost_ret (v := .agg #[.slice A 1 cc, .int .i64 0, .int .i64 (mv la - mv k0)]) (by simp [results, Tryd.results22, go_sem, rl, r0, r1, r2]) rfl ?_
          rw [HE.out]
          exact ⟨_, rfl, (deed_end (D := ⟨[(0, (la, lb))], 0, (mv la - mv k0)⟩) HS.out ZB.out ZR.out ZO.out).1, (deed_end (D := ⟨[(0, (la, lb))], 0, (mv la - mv k0)⟩) HS.out ZB.out ZR.out ZO.out).2⟩
        | true =>
          obtain ⟨m, hm⟩ : ∃ m, t % 4 = m := ⟨_, rfl⟩
          have HMN := Lib.hid (show d / 6 % 4 = m by rw [HTT.out]; exact hm)
          by_cases hm0 : m = 0
          · have hmI : ((t : Int) % 4 == 0) = true := by simp; omega
            have HM0 := Lib.hid hm0
            clear hm0 hm
            have HOVER := Lib.hid (show fire n d = over1 n from by
              unfold fire
              rw [if_pos (by rw [HK0.out]; exact HK14.out), if_neg (by rw [HWT.out]; simp), if_neg (by rw [HFU.out]; simp), if_neg (by rw [HMN.out, HM0.out]; simp)])
            have c0 := H10.out.cell (i := 0) (g_kind (snd n))
            have c1 := H10.out.cell (i := 1) (g_lev (snd n))
            rw [show (snd n).s = (k0, l0) from HS0.out] at c0 c1
            simp only at c0 c1
            have hsL := H10.out.lt
            obtain ⟨⟨la, lb⟩, hla⟩ : ∃ c, left l0 = c := ⟨_, rfl⟩
            have HLA := Lib.hid hla
            clear hla
            go_wp2_with fail
            refine (left_c (k := k0) HLA.out).mono ?_
            rintro e w11 ⟨rfl, hb11⟩
            clear c0 c1 hsL
            have HB11 := Lib.hid (below_t HB10.out hb11)
            have H11 := Lib.hid (H10.out.below hb11)
            have HR11 := Lib.hid (HR10.out.below hb11)
            have HD11 := Lib.hid (HD10.out.below hb11)
            have HN11 := Lib.hid (HN10.out.below hb11)
            have HP11 := Lib.hid (HP10.out.below hb11)
            clear hb11
            go_wp2_with fail
            refine (change_c (n := snd n) (d := 0) (k := la) (m := lb) (ko := k0) (lo := l0) (x1 := mv la) (x2 := mv k0) (HT.out.below HB11.out) HN11.out HP11.out HD11.out (by omega) (by rw [if_pos rfl]; exact HS0.out) rfl rfl).mono ?_
            rintro e w12 ⟨rfl, v, hov, hdv, hfv⟩
            have HOV := Lib.hid (hov.mono HB11.out.size)
            obtain ⟨A, cc, rfl, _, _, hAA⟩ := hov.form (n := 1) rfl
            have HB12 := Lib.hid (show Below w.heap.size w w12 from HB11.out.trans (hfv.toBelow HB11.out.size (fun q hq => by have := HSD.out; have := HS.out; omega)))
            have HR12 := Lib.hid (hfv.blk HR11.out (by have := HSD.out; omega))
            have HD12 := Lib.hid hdv
            have dI0 := hdv.cell (i := 1) rfl
            have dF0 := hdv.frozen 1
            have dL0 := hdv.lt
            clear hov hdv hfv hAA
            go_wp2_with ((with_reducible refine at_slot 62 ?_); refine Classical.byContradiction (fun hG => ?_))
            refine hG ?_
            clear hG
            refine list_named (S := fun W => Below w.heap.size w W ∧ Blk W (s + 1) TD [.slice none 0 0, .int .i64 0, .int .i64 0] ∧ Blk W bd TD [.slice A 1 cc, .int .i64 0, .int .i64 (mv la - mv k0)] ∧ RowG.Own encX TX W w.heap.size (.slice A 1 cc) [(0, (la, lb))]) ⟨by have := HS.out; have := HB12.out.size; (repeat' (first | (with_reducible exact Below.refl _ _) | (with_reducible refine Below.setCell ?_ (by (first | omega | (simp; done) | (simp; omega))) _) | (with_reducible refine Below.alloc ?_ (by (first | omega | (simp; done) | (simp; omega))) _) | (with_reducible refine Below.drew ?_) | (with_reducible refine below_drewN ?_ _) | (with_reducible refine Below.trans ?_ (Below.mono HB12.out (by (first | omega | (simp; done) | (simp; omega))))))), by (repeat' (first | (with_reducible exact HR12.out) | (with_reducible refine BlkP.Blk.drew ?_) | (with_reducible refine BlkP.Blk.drewN ?_ _) | (with_reducible refine BlkP.Blk.setAt (us := ?_) (by first | omega | (simp; done) | (simp; omega)) rfl ?_ ?_) | (with_reducible refine BlkP.Blk.otherAt ?_ (by first | omega | (simp; done) | (simp; omega))) | (with_reducible refine BlkP.Blk.newA' (by first | omega | (simp; done) | (simp; omega)) rfl) | (with_reducible refine BlkP.Blk.alloc ?_ _) | (exact rfl))), by (repeat' (first | (with_reducible exact HD12.out) | (with_reducible refine BlkP.Blk.drew ?_) | (with_reducible refine BlkP.Blk.drewN ?_ _) | (with_reducible refine BlkP.Blk.setAt (us := ?_) (by first | omega | (simp; done) | (simp; omega)) rfl ?_ ?_) | (with_reducible refine BlkP.Blk.otherAt ?_ (by first | omega | (simp; done) | (simp; omega))) | (with_reducible refine BlkP.Blk.newA' (by first | omega | (simp; done) | (simp; omega)) rfl) | (with_reducible refine BlkP.Blk.alloc ?_ _) | (exact rfl))), HOV.out⟩ ?_
            rintro z0 ⟨zb, zr, zd, zo⟩
            have ZB := Lib.hid zb
            have ZR := Lib.hid zr
            have ZO := Lib.hid zo
            have HE := Lib.hid (show D = ⟨[(0, (la, lb))], 0, (mv la - mv k0)⟩ from by
              rw [← HD.out, HOVER.out]
              have h14 := HK14.out
              have hl : n.s.2 = l0 := by
                have q := HS0.out
                rw [sure_of (by rw [HK0.out]; omega)] at q
                rw [q]
              simp only [over1, hl, HLA.out, Dd.mk.injEq, true_and]
              rw [h14, mv_14]
              omega)
            have r0 := zr.cell (i := 0) rfl
            have r1 := zr.cell (i := 1) rfl
            have r2 := zr.cell (i := 2) rfl
            have f0 := zr.frozen 0
            have f1 := zr.frozen 1
            have f2 := zr.frozen 2
            have rl := zr.lt
            have d0 := zd.cell (i := 0) rfl
            have d1 := zd.cell (i := 1) rfl
            have d2 := zd.cell (i := 2) rfl
            have dl := zd.lt
            have hne : bd ≠ s + 1 := by have := HSD.out; omega
            clear zb zr zd zo
            go_wp2_with fail
            refine bodyPost_ret (v := .agg #[.slice A 1 cc, .int .i64 0, .int .i64 (mv la - mv k0)]) (by simp [results, Tryd.results22, go_sem, rl, r0, r1, r2]) rfl ?_
            rw [HE.out]
            exact ⟨_, rfl, (deed_end (D := ⟨[(0, (la, lb))], 0, (mv la - mv k0)⟩) HS.out ZB.out ZR.out ZO.out).1, (deed_end (D := ⟨[(0, (la, lb))], 0, (mv la - mv k0)⟩) HS.out ZB.out ZR.out ZO.out).2⟩
          · have hmI : ((t : Int) % 4 == 0) = false := by simp; omega
            have HM0 := Lib.hid hm0
            clear hm0 hm
            have dI0 := HD10.out.cell (i := 1) rfl
            have dF0 := HD10.out.frozen 1
            have dL0 := HD10.out.lt
            go_wp2_with ((with_reducible refine at_slot 62 ?_); refine Classical.byContradiction (fun hG => ?_))
            refine hG ?_
            clear hG
            refine list_named (S := fun W => Below w.heap.size w W ∧ Blk W (s + 1) TD [.slice none 0 0, .int .i64 0, .int .i64 0] ∧ Blk W bd TD [.slice none 0 0, .int .i64 3, .int .i64 0] ∧ RowG.Own encX TX W w.heap.size (.slice none 0 0) []) ⟨by have := HS.out; have := HB10.out.size; (repeat' (first | (with_reducible exact Below.refl _ _) | (with_reducible refine Below.setCell ?_ (by (first | omega | (simp; done) | (simp; omega))) _) | (with_reducible refine Below.alloc ?_ (by (first | omega | (simp; done) | (simp; omega))) _) | (with_reducible refine Below.drew ?_) | (with_reducible refine below_drewN ?_ _) | (with_reducible refine Below.trans ?_ (Below.mono HB10.out (by (first | omega | (simp; done) | (simp; omega))))))), by (repeat' (first | (with_reducible exact HR10.out) | (with_reducible refine BlkP.Blk.drew ?_) | (with_reducible refine BlkP.Blk.drewN ?_ _) | (with_reducible refine BlkP.Blk.setAt (us := ?_) (by first | omega | (simp; done) | (simp; omega)) rfl ?_ ?_) | (with_reducible refine BlkP.Blk.otherAt ?_ (by first | omega | (simp; done) | (simp; omega))) | (with_reducible refine BlkP.Blk.newA' (by first | omega | (simp; done) | (simp; omega)) rfl) | (with_reducible refine BlkP.Blk.alloc ?_ _) | (exact rfl))), by (repeat' (first | (with_reducible exact HD10.out) | (with_reducible refine BlkP.Blk.drew ?_) | (with_reducible refine BlkP.Blk.drewN ?_ _) | (with_reducible refine BlkP.Blk.setAt (us := ?_) (by first | omega | (simp; done) | (simp; omega)) rfl ?_ ?_) | (with_reducible refine BlkP.Blk.otherAt ?_ (by first | omega | (simp; done) | (simp; omega))) | (with_reducible refine BlkP.Blk.newA' (by first | omega | (simp; done) | (simp; omega)) rfl) | (with_reducible refine BlkP.Blk.alloc ?_ _) | (exact rfl))), Own.nil _ _ _ _⟩ ?_
            rintro z0 ⟨zb, zr, zd, zo⟩
            have ZB := Lib.hid zb
            have ZR := Lib.hid zr
            have ZO := Lib.hid zo
            have HE := Lib.hid (show D = ⟨[], 3, 0⟩ from by
              rw [← HD.out]
              unfold fire
              rw [if_pos (by rw [HK0.out]; exact HK14.out), if_neg (by rw [HWT.out]; simp), if_neg (by rw [HFU.out]; simp), if_pos ⟨HFL.out, by rw [HMN.out]; exact HM0.out⟩])
            have r0 := zr.cell (i := 0) rfl
            have r1 := zr.cell (i := 1) rfl
            have r2 := zr.cell (i := 2) rfl
            have f0 := zr.frozen 0
            have f1 := zr.frozen 1
            have f2 := zr.frozen 2
            have rl := zr.lt
            have d0 := zd.cell (i := 0) rfl
            have d1 := zd.cell (i := 1) rfl
            have d2 := zd.cell (i := 2) rfl
            have dl := zd.lt
            have hne : bd ≠ s + 1 := by have := HSD.out; omega
            clear zb zr zd zo
            go_wp2_with fail
            refine bodyPost_ret (v := .agg #[.slice none 0 0, .int .i64 3, .int .i64 0]) (by simp [results, Tryd.results22, go_sem, rl, r0, r1, r2]) rfl ?_
            rw [HE.out]
            exact ⟨_, rfl, (deed_end (D := ⟨[], 3, 0⟩) HS.out ZB.out ZR.out ZO.out).1, (deed_end (D := ⟨[], 3, 0⟩) HS.out ZB.out ZR.out ZO.out).2⟩
  · have h14 : ((k0 : Int) != 14) = true := by simp; omega
    have HK14 := Lib.hid hk14
    clear hk14
    go_wp2_with ((with_reducible refine at_slot 14 ?_); refine Classical.byContradiction (fun hG => ?_))
    refine hG ?_
    clear hG
    refine list_named (S := fun W => Below w.heap.size w W ∧ Blk W (s + 1) TD [.slice none 0 0, .int .i64 0, .int .i64 0] ∧ Blk W bd TD [.slice none 0 0, .int .i64 0, .int .i64 0] ∧ RowG.Own encX TX W w.heap.size (.slice none 0 0) []) ⟨by have := HS.out; have := HB5.out.size; (repeat' (first | (with_reducible exact Below.refl _ _) | (with_reducible refine Below.setCell ?_ (by (first | omega | (simp; done) | (simp; omega))) _) | (with_reducible refine Below.alloc ?_ (by (first | omega | (simp; done) | (simp; omega))) _) | (with_reducible refine Below.drew ?_) | (with_reducible refine below_drewN ?_ _) | (with_reducible refine Below.trans ?_ (Below.mono HB5.out (by (first | omega | (simp; done) | (simp; omega))))))), by (repeat' (first | (with_reducible exact HR5.out) | (with_reducible refine BlkP.Blk.drew ?_) | (with_reducible refine BlkP.Blk.drewN ?_ _) | (with_reducible refine BlkP.Blk.setAt (us := ?_) (by first | omega | (simp; done) | (simp; omega)) rfl ?_ ?_) | (with_reducible refine BlkP.Blk.otherAt ?_ (by first | omega | (simp; done) | (simp; omega))) | (with_reducible refine BlkP.Blk.newA' (by first | omega | (simp; done) | (simp; omega)) rfl) | (with_reducible refine BlkP.Blk.alloc ?_ _) | (exact rfl))), by (repeat' (first | (with_reducible exact HD5.out) | (with_reducible refine BlkP.Blk.drew ?_) | (with_reducible refine BlkP.Blk.drewN ?_ _) | (with_reducible refine BlkP.Blk.setAt (us := ?_) (by first | omega | (simp; done) | (simp; omega)) rfl ?_ ?_) | (with_reducible refine BlkP.Blk.otherAt ?_ (by first | omega | (simp; done) | (simp; omega))) | (with_reducible refine BlkP.Blk.newA' (by first | omega | (simp; done) | (simp; omega)) rfl) | (with_reducible refine BlkP.Blk.alloc ?_ _) | (exact rfl))), Own.nil _ _ _ _⟩ ?_
    rintro z0 ⟨zb, zr, zd, zo⟩
    have ZB := Lib.hid zb
    have ZR := Lib.hid zr
    have ZO := Lib.hid zo
    have HE := Lib.hid (show D = ⟨[], 0, 0⟩ from by
      rw [← HD.out]
      unfold fire
      rw [if_neg (by rw [HK0.out]; exact HK14.out)])
    have r0 := zr.cell (i := 0) rfl
    have r1 := zr.cell (i := 1) rfl
    have r2 := zr.cell (i := 2) rfl
    have f0 := zr.frozen 0
    have f1 := zr.frozen 1
    have f2 := zr.frozen 2
    have rl := zr.lt
    have d0 := zd.cell (i := 0) rfl
    have d1 := zd.cell (i := 1) rfl
    have d2 := zd.cell (i := 2) rfl
    have dl := zd.lt
    have hne : bd ≠ s + 1 := by have := HSD.out; omega
    clear zb zr zd zo
    go_wp2_with fail
    refine bodyPost_ret (v := .agg #[.slice none 0 0, .int .i64 0, .int .i64 0]) (by simp [results, Tryd.results22, go_sem, rl, r0, r1, r2]) rfl ?_
    rw [HE.out]
    exact ⟨_, rfl, (deed_end (D := ⟨[], 0, 0⟩) HS.out ZB.out ZR.out ZO.out).1, (deed_end (D := ⟨[], 0, 0⟩) HS.out ZB.out ZR.out ZO.out).2⟩
end BurnW
end Go.Proofs.YtlahkmkipciiiaaDoor
