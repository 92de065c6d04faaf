/-
  The library's calls at a disk: maps.Clone, slices.Clone, the sectors that are used, rising.
-/
import Derived.Test.YtjcmpcdalghniaaDoorSectorDisk
namespace Go.Proofs.YtjcmpcdalghniaaDoor
open Go.RowKit
set_option linter.unusedVariables false
set_option linter.unusedSimpArgs false
set_option maxRecDepth 100000
namespace SecW
open BlkP RowG FrS PushG JournalP SecP
section
variable {w : World} {B pd M n : Nat} {d : Dk} {S : Nat → Prop} {f : Nat → Sec}
theorem clone_c (h : MapD w M n f) :
    Calls Tryd.prog 33 #[.map (some M)] w fun e w' => e = .returned (.map (some w.heap.size)) ∧ MapD w' w.heap.size n f ∧ Below w.heap.size w w' := by
  obtain ⟨h0, D, b, h1, h2⟩ := h
  refine (AnyW.maps_Clone_owns cloneL 3 secElem M b D w h1).mono ?_
  rintro e w' ⟨he, h3, _, hb⟩
  exact ⟨he, ⟨h0, D, b, h3, h2⟩, hb⟩
theorem clone_d (h : MapD w M n f) :
    Calls Tryd.prog 33 #[.map (some M)] w fun e w' => ∃ M', e = .returned (.map (some M')) ∧ w.heap.size ≤ M' ∧ MapD w' M' n f ∧ Below w.heap.size w w' := by
  refine (clone_c h).mono ?_
  rintro e w' ⟨rfl, hm, hb⟩
  exact ⟨_, rfl, Nat.le_refl _, hm, hb⟩
theorem own_madeW {w : World} : RowG.Own encW TW (w.alloc (.cells #[] TW)) w.heap.size (.slice (some ⟨w.heap.size, 0, none⟩) 0 0) [] := World.ownsRow_made w #[] 0 (Nat.le_refl _) (Nat.zero_le _) rfl
set_option maxHeartbeats 16000000 in
theorem cloneW_c {A : Option Addr} {m c : Nat} {l : List (Nat × Sec × Sec)} (hR : Rd encW w (.slice A m c) l) (hl : m ≤ 1000000) :
    Calls Tryd.prog 36 #[.slice A m c] w fun e w' => ∃ v', e = .returned v' ∧ RowG.Own encW TW w' w.heap.size v' l ∧ Below w.heap.size w w' := by
  have q26 : ∀ (w : World) (a : Option Addr) (n c n' c' : Nat), (binOp .eql TWs (.slice a n c) (.slice none n' c')).run Tryd.prog w = .ok (.bool a.isNone) w := fun w a n c n' c' => Lib.run_eql_slice_nil w _ _ a n c n' c' underWs
  cases A with
  | none =>
    have hl0 : l = [] := by
      obtain ⟨A, c', e, _, _, hne⟩ := hR
      apply Classical.byContradiction
      intro q
      obtain ⟨b, o, hA, _⟩ := hne q
      injection e with e1
      rw [hA] at e1
      cases e1
    subst hl0
    clear hR
    go_enter Tryd.func36, Tryd.ntmps36
    go_wp2_with fail
    go_ret
    exact ⟨_, rfl, Own.nil _ _ _ _, Below.refl _ _⟩
  | some a =>
    have HR := Lib.hid hR
    clear hR
    go_enter Tryd.func36, Tryd.ntmps36
    go_wp2_with ((with_reducible refine at_slot 7 ?_); refine Classical.byContradiction (fun hG => ?_))
    refine hG ?_
    clear hG
    refine RowE.wp_appE tyW rfl (.tmp 5) (.tmp 6) rfl (B := w.heap.size) (l0 := []) rfl rfl own_madeW (HR.out.below ((Below.refl _ w).alloc (Nat.le_refl _) _)) (by simp; omega) (by simp; omega) (by simp) ?_
    intro v' w' ho hg _
    have HO := Lib.hid ho
    have HB := Lib.hid (show Below w.heap.size w w' from ((Below.refl _ w).alloc (Nat.le_refl _) _).grown hg (by simp) (fun k hk => by
      have hk' : (Value.slice (some ⟨w.heap.size, 0, none⟩) 0 0).ownBlock = some k := hk
      have : w.heap.size = k := by simpa [Value.ownBlock] using hk'
      omega))
    clear ho hg
    go_wp2_with fail
    go_ret
    exact ⟨v', rfl, HO.out, HB.out⟩
/-- What a call tells of numbers. -/
def ToldI (w : World) (v : Value) (l : List Nat) (w' : World) : Prop := RowG.Own RowG.encI 3 w' w.heap.size v (l.map fun i : Nat => (i : Int)) ∧ Below w.heap.size w w'
theorem flat_int : ∀ l : List Int, flat RowG.encI l = l.map encZ
  | [] => rfl
  | x :: r => by
    have h : flat RowG.encI (x :: r) = RowG.encI.f x ++ flat RowG.encI r := rfl
    rw [h, flat_int r]
    rfl
theorem sorts (m : Nat) : AnyZI.SortsIn Tryd.prog sortedL_ren Fence.wide m :=
  ⟨fun blk off cap ss W hH hblk hsz => callsIn_wide.2 (AnyM.slices_Sort_int sortL blk off cap ss W hH hblk hsz),
   fun p cap W => callsIn_wide.2 (AnyM.slices_Sort_int_none sortL p cap W)⟩
theorem sort_used (n : Nat) (f : Nat → Sec) {ss : List Int} (h : ((used n f).map (fun i : Nat => (i : Int))).Perm ss) : ss.mergeSort (fun x y => decide (x ≤ y)) = (used n f).map (fun i : Nat => (i : Int)) := by
  have h1 := mergeSort_of_perm_i h
  have h2 : ((used n f).map (fun i : Nat => (i : Int))).mergeSort leI = (used n f).map (fun i : Nat => (i : Int)) := by
    refine List.mergeSort_of_pairwise ?_
    refine List.pairwise_map.2 ((used_rises n f).imp (fun {a b} hab => ?_))
    simp only [leI, decide_eq_true_eq]
    omega
  rw [← h2]
  exact h1.symm
set_option maxHeartbeats 16000000 in
theorem Used_c (h : Dsk w B pd d S) :
    Calls Tryd.prog 26 #[.pointer (some ⟨pd, 0, none⟩)] w fun e w' => ∃ v, e = .returned v ∧ ToldI w v (used d.n d.now) w' := by
  obtain ⟨pm, M, v, hp, hS⟩ := h
  have HP := Lib.hid hp
  have c0 := hp.bd.cell (i := 0) rfl
  have m1 := hp.bm.cell (i := 1) rfl
  have lpd := hp.bd.lt
  have lpm := hp.bm.lt
  have hlM := hp.map.lt
  obtain ⟨hmap0, D, b, hown, hdat⟩ := hp.map
  have hsz := size_dat hown hdat
  have hul := used_len d.n d.now
  have hm : maxLen = 9223372036854775807 := rfl
  have hseq : SeqGives Fence.wide 2 Tryd.prog 48 #[.pointer (some ⟨w.heap.size, 0, none⟩)] encZ (fun ss => ss.Perm (intKeys D)) (Maps.size D) (w.alloc (.cells #[.map (some M)] TS)) :=
    AnyZI.keys_gives (ρ := keysL_ren) { keysL with } Fence.wide _ trivial rfl (by omega) w.heap.size M b D _ (by simp) (by simp) (by
      obtain ⟨es, clock, hb, Ft, hs, hD⟩ := hown
      exact ⟨es, clock, (Below.heap_alloc _ _ M hlM).trans hb, Ft, hs, hD⟩)
  have cK : ∀ mb W, Calls Tryd.prog 42 #[.map mb] W fun e w' => e = .returned (.func (.func 48) #[] #[.pointer (some ⟨W.heap.size, 0, none⟩)]) ∧ w' = W.alloc (.cells #[.map mb] TS) := fun mb W => (callsIn_wide (n := 5)).1 (AnyZI.keys_in keysL Fence.wide 5 trivial rfl mb W)
  have cS := (callsIn_wide (n := 5)).1 (AnyZI.sorted_in sortedL Fence.wide 5 trivial trivial trivial trivial rfl (by omega) (sorts _) (enters_of Tryd.func47 (by kernel_rfl) rfl) 48 #[.pointer (some ⟨w.heap.size, 0, none⟩)] trivial (enters_of Tryd.func48 (by kernel_rfl) rfl) _ _ (by omega) (by omega) _ hseq)
  have HK := Lib.hid cK
  have HS := Lib.hid cS
  have HPE := Lib.hid (keys_perm hown hdat)
  clear hp hS hown hdat hseq cK cS hmap0 hsz hul
  go_enter Tryd.func26, Tryd.ntmps26
  go_wp2_with fail
  refine (isMade_c HP.out.bd).mono ?_
  rintro e w1 ⟨rfl, hw⟩
  obtain rfl := hw.symm
  clear hw
  go_wp2_with fail
  refine (HK.out _ _).mono ?_
  rintro e w2 ⟨rfl, hw⟩
  obtain rfl := hw.symm
  clear hw
  go_wp2_with fail
  refine HS.out.mono ?_
  rintro e w3 ⟨v3, ss, rfl, hss, hrow, hnil, hb3⟩
  have hso := sort_used d.n d.now (HPE.out.trans hss.symm)
  have hlen : ss.length = ((used d.n d.now).map (fun i : Nat => (i : Int))).length := (HPE.out.trans hss.symm).length_eq.symm
  have HO := Lib.hid (show RowG.Own RowG.encI 3 w3 w.heap.size v3 ((used d.n d.now).map fun i : Nat => (i : Int)) by
    unfold RowG.Own
    rw [flat_int, ← hso, List.length_mergeSort]
    exact ownsRow_base_a hrow (by simp))
  have HB := Lib.hid (show Below w.heap.size w w3 from ((Below.refl _ w).alloc (Nat.le_refl _) _).trans (hb3.mono (by simp)))
  clear hss hrow hnil hb3 hso hlen
  go_wp2_with fail
  go_ret
  exact ⟨_, rfl, HO.out, HB.out⟩
end
end SecW
end Go.Proofs.YtjcmpcdalghniaaDoor
