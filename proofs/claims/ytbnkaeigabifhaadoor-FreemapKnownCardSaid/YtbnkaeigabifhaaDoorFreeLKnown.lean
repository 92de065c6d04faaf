/-
  FreemapKnown: the chapter's examples hold; maps that are none.
-/
import Derived.Test.YtbnkaeigabifhaaDoorFreeLaw2
import Derived.Test.YtbnkaeigabifhaaDoorFreeHomesW
-- mine: whole_c same_c awake_c take_c step_c back_c Made number_c next_c fixed_c clone_c int_c end_c put_c
namespace Go.Proofs.YtbnkaeigabifhaaDoor
open Go.RowKit
set_option linter.unusedVariables false
set_option linter.unusedSimpArgs false
set_option maxRecDepth 100000
namespace FreW
open BlkP RowG FrS PushG FreP
open BytesW (AtC)
open CrcW (Tab)
def q0 : List Bool := takeL (full 256) 3
def q1 : List Bool := turnL false [1] q0
def q2 : List Bool := takeL q1 2
def q3 : List Bool := turnL true [255] q2
theorem kq0 : takeO (full 256) 3 = [0, 1, 2] ∧ canT (full 256) 3 = true ∧ free q0 = 253 ∧ (inL q0 2 && has q0 2) = false ∧ (inL q0 3 && has q0 3) = true ∧ (inL q0 256 && has q0 256) = false := by decide +kernel
theorem kq1 : turnE false [1] q0 = 0 ∧ takeO q1 2 = [1, 3] ∧ canT q1 2 = true := by decide +kernel
theorem kq2 : turnE false [1, 1] q2 = 2 ∧ turnL false [1, 1] q2 = q2 ∧ turnE false [9] q2 = 2 ∧ turnL false [9] q2 = q2 ∧ turnE false [256] q2 = 2 ∧ turnL false [256] q2 = q2 ∧ turnE true [0] q2 = 2 ∧ turnL true [0] q2 = q2 ∧ turnE true [10, 10] q2 = 2 ∧ turnL true [10, 10] q2 = q2 := by decide +kernel
theorem kq3 : canT q2 (-1) = false ∧ canT q2 300 = false ∧ turnE true [255] q2 = 0 ∧ (inL q3 255 && has q3 255) = false ∧ free q3 = 251 := by decide +kernel
theorem ksz : size 256 = 1 ∧ size 4000 = 1 ∧ size 4001 = 2 ∧ size 255 = 0 ∧ size 131072 = 33 := by decide +kernel
theorem kof0 : ofM 256 [] = none := ofM_lens (by decide)
theorem ksum : (CrcP.sum (List.replicate 504 0)).toNat ≠ 0 := by decide +kernel
theorem kof1 : ofM 256 [List.replicate 512 0] = none := by
  cases h : ofM 256 [List.replicate 512 0] with
  | none => rfl
  | some L =>
    exfalso
    obtain ⟨h1, h2⟩ := ofM_len h
    have h3 := congrArg (fun l => l[0]?) h2
    rw [homes_at (by rw [h1]; decide)] at h3
    have h4 : home (has L) 0 = List.replicate 512 0 := by simpa using h3
    have hb : body (has L) 0 = List.replicate 504 0 := by
      have := congrArg (fun l => l.take 504) h4
      unfold home at this
      rw [List.append_assoc, List.take_left' (body_len _ _)] at this
      rw [this, List.take_replicate]
      rfl
    have hf : BytesW.fx (sumB (has L) 0) 4 = List.replicate 4 0 := by
      have := congrArg (fun l => (l.drop 504).take 4) h4
      unfold home at this
      rw [List.append_assoc, List.drop_left' (body_len _ _), List.take_left' (BytesW.fx_length _ _)] at this
      rw [this, List.drop_replicate, List.take_replicate]
      rfl
    have hv := BytesW.vf_fx (sumB (has L) 0) 4
    rw [hf] at hv
    unfold sumB at hv
    rw [Nat.mod_eq_of_lt (sum_lt _), hb] at hv
    exact ksum (by rw [← hv]; rfl)
/-- A literal row of numbers. -/
theorem lit_ints {W : World} {S : Nat → Prop} (hS : ∀ k, S k → k < W.heap.size) (l : List Int) {cs : Array Value} (hcs : cs.toList = l.map fun x => .int .i64 x) (hl : l.length ≤ 100) : Ints (W.alloc (.cells cs TI)) S (some ⟨W.heap.size, 0, none⟩) l.length l.length l := ⟨rfl, Nat.le_refl _, by omega, fun _ => ⟨W.heap.size, 0, rfl, by simp, fun h => by have := hS _ h; omega, fun i x hx => by
  rw [cell_of_row _ _ _ _ _ _ (heap_alloc_new W _), ← Array.getElem?_toList, hcs, Nat.zero_add, List.getElem?_map, hx]
  rfl⟩⟩
theorem lit_text {W : World} (x : List UInt8) : Rd encS (W.alloc (.cells #[.string ⟨x.toArray⟩] TS)) (.slice (some ⟨W.heap.size, 0, none⟩) 1 1) [x] := ⟨_, 1, rfl, Nat.le_refl _, by omega, fun _ => ⟨W.heap.size, 0, rfl, by simp, fun i y hy j u hu => by
  have hi := (List.getElem?_eq_some_iff.1 hy).1
  obtain rfl : i = 0 := by simp at hi; omega
  have : x = y := by simpa using hy
  subst this
  match j, hu with
  | 0, hu =>
    have : Value.string ⟨x.toArray⟩ = u := by simpa [encS] using hu
    subst this
    rw [cell_of_row _ _ _ _ _ _ (heap_alloc_new W _)]
    rfl⟩⟩
/-- A map that no call has made. -/
def Emp (w : World) (p : Nat) : Prop := Blk w p TM [.int .i64 0, .slice none 0 0]
theorem Give_no (w : World) : Calls Tryd.prog 19 #[.pointer none, .slice none 0 0] w fun e w' => e = .returned (.int .i64 1) ∧ w' = w := by
  have ht : Calls Tryd.prog 43 #[.pointer none, .slice none 0 0, .bool false] w fun e w' => e = .returned (.int .i64 1) ∧ w' = w := by
    go_enter Tryd.func43, Tryd.ntmps43
    go_wp2_with fail
    go_at_call 40
    refine (isMade_no _).mono ?_
    rintro e w1 ⟨rfl, hw⟩
    obtain rfl := hw.symm
    go_wp2_with fail
    go_ret
    exact ⟨rfl, rfl⟩
  have HT := Lib.hid ht
  clear ht
  go_enter Tryd.func19, Tryd.ntmps19
  go_wp2_with fail
  go_at_call 43
  refine HT.out.mono ?_
  rintro e w1 ⟨rfl, hw⟩
  obtain rfl := hw.symm
  go_wp2_with fail
  go_ret
  exact ⟨rfl, rfl⟩
section
variable {w : World} {p : Nat}
theorem Len_e (h : Emp w p) : Calls Tryd.prog 24 #[.pointer (some ⟨p, 0, none⟩)] w fun e w' => e = .returned (.int .i64 0) ∧ w' = w := by
  have c0 := Blk.cell h (i := 0) (v := .int .i64 0) rfl
  clear h
  go_enter Tryd.func24, Tryd.ntmps24
  go_wp2_with fail
  go_ret
  exact ⟨rfl, rfl⟩
theorem Keep_e (h : Emp w p) : Calls Tryd.prog 21 #[.pointer (some ⟨p, 0, none⟩), .slice none 0 0] w fun e w' => e = .returned (.int .i64 1) ∧ w' = w := by
  have H := Lib.hid h
  clear h
  have hi : Calls Tryd.prog 40 #[.pointer (some ⟨p, 0, none⟩)] w fun e w' => e = .returned (.bool false) ∧ w' = w := by
    go_enter Tryd.func40, Tryd.ntmps40
    go_wp2_with fail
    go_at_call 24
    refine (Len_e H.out).mono ?_
    rintro e w1 ⟨rfl, hw⟩
    obtain rfl := hw.symm
    go_wp2_with fail
    go_ret
    exact ⟨rfl, rfl⟩
  have HI := Lib.hid hi
  clear hi
  have ht : Calls Tryd.prog 43 #[.pointer (some ⟨p, 0, none⟩), .slice none 0 0, .bool true] w fun e w' => e = .returned (.int .i64 1) ∧ w' = w := by
    go_enter Tryd.func43, Tryd.ntmps43
    go_wp2_with fail
    go_at_call 40
    refine HI.out.mono ?_
    rintro e w1 ⟨rfl, hw⟩
    obtain rfl := hw.symm
    go_wp2_with fail
    go_ret
    exact ⟨rfl, rfl⟩
  have HT := Lib.hid ht
  clear ht HI
  go_enter Tryd.func21, Tryd.ntmps21
  go_wp2_with fail
  go_at_call 43
  refine HT.out.mono ?_
  rintro e w1 ⟨rfl, hw⟩
  obtain rfl := hw.symm
  go_wp2_with fail
  go_ret
  exact ⟨rfl, rfl⟩
theorem Homes_e (h : Emp w p) : Calls Tryd.prog 29 #[.pointer (some ⟨p, 0, none⟩)] w fun e w' => ∃ A c, e = .returned (.slice A 0 c) ∧ Below w.heap.size w w' := by
  have H := Lib.hid h
  have HS := Lib.hid (show size 0 = 0 by decide)
  obtain ⟨i8, hi8, hz8, hs8, hby8⟩ := info_parts BytesW.info5
  have HI8 := Lib.hid hi8
  have HZ8 := Lib.hid hz8
  have HS8 := Lib.hid hs8
  have HB8 := Lib.hid hby8
  obtain ⟨iS, hiS, hzS, hsS, hbyS⟩ := info_parts infoS
  have HIS := Lib.hid hiS
  have HZS := Lib.hid hzS
  have HSS := Lib.hid hsS
  have HBS := Lib.hid hbyS
  have hm : maxLen = 9223372036854775807 := rfl
  clear h hi8 hz8 hs8 hby8 hiS hzS hsS hbyS
  go_enter Tryd.func29, Tryd.ntmps29
  go_wp2_with fail
  go_at_call 24
  refine (Len_e H.out).mono ?_
  rintro e w1 ⟨rfl, hw⟩
  obtain rfl := hw.symm
  go_wp2_with fail
  go_at_call 13
  refine (Size_c 0 _).mono ?_
  rintro e w1 ⟨rfl, hw⟩
  obtain rfl := hw.symm
  rw [HS.out]
  go_wp2_with (first
    | ((with_reducible refine at_slot 16 ?_); refine wpList_make_full _ rfl _ _ T8s rfl w.heap.size T8 i8 (.int .u8 0) 1 BytesW.under26 HI8.out HZ8.out HS8.out .i64 .i64 _ _ 0 rfl rfl (by first | rfl | omega) (by first | rfl | omega) (by omega) (by omega) (Nat.le_refl _) ?_; intro w1 hown1 hg1; have B1 := Lib.hid (show Below w.heap.size w w1 from (Below.refl _ w).grown hg1 (Nat.le_refl _) (by simp)); have hs1 := B1.out.size; clear hown1 hg1)
    | ((with_reducible refine at_slot 18 ?_); refine wpList_make_own _ rfl _ _ TSs rfl w1.heap.size TS iS (.string ⟨#[]⟩) 1 underSs HIS.out HZS.out HSS.out .i64 .i64 _ 0 rfl rfl (by first | rfl | omega) (by omega) (by omega) (Nat.le_refl _) ?_; intro w2 hown2 hg2; have hb2 : Below w1.heap.size w1 w2 := (Below.refl _ w1).grown hg2 (Nat.le_refl _) (by simp); have B2 := Lib.hid (B1.out.trans (hb2.mono hs1)); clear hown2 hg2 hb2))
  go_loopw [5, 6, 7, 8, 9, 10, 20] (fun v5 v6 v7 v8 v9 v10 v20 wr => v20 = .int .i64 0 ∧ v5 = .slice (some ⟨w1.heap.size, 0, none⟩) 0 0 ∧ Below w.heap.size w wr) (fun v5 v6 v7 v8 v9 v10 v20 _ => 0)
  case atStart => exact ⟨rfl, rfl, B2.out⟩
  case round =>
    obtain ⟨rfl, rfl, hbr⟩ := hrel
    have BR := Lib.hid hbr
    clear hbr
    go_wp2_with fail
    go_ret
    exact ⟨_, _, rfl, BR.out⟩
end
set_option maxHeartbeats 4000000 in
theorem law_known {w : World} (hZ : TabZ w) (hC : Tab w) : Calls Tryd.prog 10 #[] w fun e w' => e = .returned (.bool true) ∧ Below w.heap.size w w' := by
  have HTZ := Lib.hid hZ
  have HTC := Lib.hid hC
  have B := Lib.hid (Below.refl w.heap.size w)
  have K0 := Lib.hid kq0
  have K1 := Lib.hid kq1
  have K2 := Lib.hid kq2
  have K3 := Lib.hid kq3
  have KS := Lib.hid ksz
  have KF0 := Lib.hid kof0
  have KF1 := Lib.hid kof1
  clear hZ hC
  go_enter Tryd.func10, Tryd.ntmps10
  go_wp2_with fail
  go_at_call 13
  refine (Size_c 256 _).mono ?_
  rintro e z ⟨rfl, hw⟩
  obtain rfl := hw.symm
  clear hw
  rw [KS.out.1]
  go_wp2_with fail
  go_at_call 13
  refine (Size_c 4000 _).mono ?_
  rintro e z ⟨rfl, hw⟩
  obtain rfl := hw.symm
  clear hw
  rw [KS.out.2.1]
  go_wp2_with fail
  go_at_call 13
  refine (Size_c 4001 _).mono ?_
  rintro e z ⟨rfl, hw⟩
  obtain rfl := hw.symm
  clear hw
  rw [KS.out.2.2.1]
  go_wp2_with fail
  go_at_call 13
  refine (Size_c 255 _).mono ?_
  rintro e z ⟨rfl, hw⟩
  obtain rfl := hw.symm
  clear hw
  rw [KS.out.2.2.2.1]
  go_wp2_with fail
  go_at_call 13
  refine (Size_c 131072 _).mono ?_
  rintro e z ⟨rfl, hw⟩
  obtain rfl := hw.symm
  clear hw
  rw [KS.out.2.2.2.2]
  go_wp2_with fail
  go_at_call 11
  refine (New_i (n := 256) (by omega) (by omega) _).mono ?_
  rintro e w1 ⟨p, rfl, S, hq, hb⟩
  have M := Lib.hid hq
  have B' := Lib.hid (hb)
  clear B
  have B := B'
  clear B'
  clear hq hb
  go_wp2_with fail
  go_at_call 16
  refine (Take_i M.out (HTZ.out.below B.out) 3).mono ?_
  rintro e w2 ⟨_, rfl, ho, hq, hf⟩
  rw [K0.out.1] at ho
  rw [K0.out.2.1]
  obtain ⟨Aa, ca, rfl, hca, hma, hAa⟩ := ho.form (n := 3) rfl
  obtain ⟨ga, rfl, _, hla⟩ := hAa (by omega)
  have B' := Lib.hid (B.out.trans (M.out.toBelow hf))
  clear B
  have B := B'
  clear B'
  have M' := Lib.hid ((show Mp w2 w.heap.size p 256 q0 S from hq))
  clear M
  have M := M'
  clear M'
  have ca0 := ho.cell (i := 0) (j := 0) (x := 0) (u := .int .i64 0) rfl rfl
  have ca2 := ho.cell (i := 2) (j := 0) (x := 2) (u := .int .i64 2) rfl rfl
  rw [show 0 * RowG.encI.k + 0 = 0 from rfl] at ca0
  rw [show 2 * RowG.encI.k + 0 = 2 from rfl] at ca2
  clear ho hq hf hAa
  go_wp2_with fail
  go_at_call 25
  refine (Free_i M.out).mono ?_
  rintro e z ⟨rfl, hw⟩
  obtain rfl := hw.symm
  clear hw
  rw [K0.out.2.2.1]
  go_wp2_with fail
  go_at_call 27
  refine (Has_i M.out 2).mono ?_
  rintro e w3 ⟨rfl, hb⟩
  rw [show (2 : Int).toNat = 2 from rfl, K0.out.2.2.2.1]
  have M' := Lib.hid (M.out.below hb)
  clear M
  have M := M'
  clear M'
  have B' := Lib.hid (B.out.trans (hb.mono B.out.size))
  clear B
  have B := B'
  clear B'
  clear hb
  go_wp2_with fail
  go_at_call 27
  refine (Has_i M.out 3).mono ?_
  rintro e w4 ⟨rfl, hb⟩
  rw [show (3 : Int).toNat = 3 from rfl, K0.out.2.2.2.2.1]
  have M' := Lib.hid (M.out.below hb)
  clear M
  have M := M'
  clear M'
  have B' := Lib.hid (B.out.trans (hb.mono B.out.size))
  clear B
  have B := B'
  clear B'
  clear hb
  go_wp2_with fail
  go_at_call 27
  refine (Has_i M.out 256).mono ?_
  rintro e w5 ⟨rfl, hb⟩
  rw [show (256 : Int).toNat = 256 from rfl, K0.out.2.2.2.2.2]
  have M' := Lib.hid (M.out.below hb)
  clear M
  have M := M'
  clear M'
  have B' := Lib.hid (B.out.trans (hb.mono B.out.size))
  clear B
  have B := B'
  clear B'
  clear hb
  clear ca0 ca2 hla
  go_wp2_with fail
  go_at_call 19
  refine calls_named (S := fun W => Mp W w.heap.size p 256 q0 S ∧ Ints W S (some ⟨w5.heap.size, 0, none⟩) 1 1 [1] ∧ Below w.heap.size w W) ⟨M.out.below (by (repeat' (first | (with_reducible exact Below.refl _ _) | (with_reducible refine Below.setCell ?_ (by (first | omega | (simp; done) | (simp; omega))) _) | (with_reducible refine Below.alloc ?_ (by (first | omega | (simp; done) | (simp; omega))) _) | (with_reducible refine Below.drew ?_) | (with_reducible refine below_drewN ?_ _)))), lit_ints (fun k hk => (M.out.ge hk).2) [1] rfl (by decide), B.out.trans (show Below w.heap.size w5 _ from Below.mono (show Below w5.heap.size w5 _ by (repeat' (first | (with_reducible exact Below.refl _ _) | (with_reducible refine Below.setCell ?_ (by (first | omega | (simp; done) | (simp; omega))) _) | (with_reducible refine Below.alloc ?_ (by (first | omega | (simp; done) | (simp; omega))) _) | (with_reducible refine Below.drew ?_) | (with_reducible refine below_drewN ?_ _)))) B.out.size)⟩ fun w6 h => ?_
  have MA := Lib.hid h.1
  have IA := Lib.hid h.2.1
  have BA := Lib.hid h.2.2
  clear h M B
  refine (Give_i MA.out IA.out).mono ?_
  rintro e w7 ⟨rfl, hq, hf⟩
  rw [K1.out.1]
  have M := Lib.hid (show Mp w7 w.heap.size p 256 q1 S by exact hq)
  have B := Lib.hid (BA.out.trans (MA.out.toBelow hf))
  clear hq hf MA IA BA
  go_wp2_with fail
  go_at_call 16
  refine (Take_i M.out (HTZ.out.below B.out) 2).mono ?_
  rintro e w8 ⟨_, rfl, ho, hq, hf⟩
  rw [K1.out.2.1] at ho
  rw [K1.out.2.2]
  obtain ⟨Ab, cb, rfl, hcb, hmb, hAb⟩ := ho.form (n := 2) rfl
  obtain ⟨gb, rfl, _, hlb⟩ := hAb (by omega)
  have B' := Lib.hid (B.out.trans (M.out.toBelow hf))
  clear B
  have B := B'
  clear B'
  have M' := Lib.hid ((show Mp w8 w.heap.size p 256 q2 S from hq))
  clear M
  have M := M'
  clear M'
  have cb0 := ho.cell (i := 0) (j := 0) (x := 1) (u := .int .i64 1) rfl rfl
  have cb1 := ho.cell (i := 1) (j := 0) (x := 3) (u := .int .i64 3) rfl rfl
  rw [show 0 * RowG.encI.k + 0 = 0 from rfl] at cb0
  rw [show 1 * RowG.encI.k + 0 = 1 from rfl] at cb1
  clear ho hq hf hAb
  go_wp2_with fail
  go_at_call 19
  refine calls_named (S := fun W => Mp W w.heap.size p 256 q2 S ∧ Ints W S (some ⟨w8.heap.size, 0, none⟩) 2 2 [1, 1] ∧ Below w.heap.size w W) ⟨M.out.below (by (repeat' (first | (with_reducible exact Below.refl _ _) | (with_reducible refine Below.setCell ?_ (by (first | omega | (simp; done) | (simp; omega))) _) | (with_reducible refine Below.alloc ?_ (by (first | omega | (simp; done) | (simp; omega))) _) | (with_reducible refine Below.drew ?_) | (with_reducible refine below_drewN ?_ _)))), lit_ints (fun k hk => (M.out.ge hk).2) [1, 1] rfl (by decide), B.out.trans (show Below w.heap.size w8 _ from Below.mono (show Below w8.heap.size w8 _ by (repeat' (first | (with_reducible exact Below.refl _ _) | (with_reducible refine Below.setCell ?_ (by (first | omega | (simp; done) | (simp; omega))) _) | (with_reducible refine Below.alloc ?_ (by (first | omega | (simp; done) | (simp; omega))) _) | (with_reducible refine Below.drew ?_) | (with_reducible refine below_drewN ?_ _)))) B.out.size)⟩ fun w9 h => ?_
  have MA := Lib.hid h.1
  have IA := Lib.hid h.2.1
  have BA := Lib.hid h.2.2
  clear h M B
  refine (Give_i MA.out IA.out).mono ?_
  rintro e w10 ⟨rfl, hq, hf⟩
  rw [K2.out.1]
  have M := Lib.hid (show Mp w10 w.heap.size p 256 q2 S by rwa [K2.out.2.1] at hq)
  have B := Lib.hid (BA.out.trans (MA.out.toBelow hf))
  clear hq hf MA IA BA
  clear cb0 cb1 hlb
  go_wp2_with fail
  go_at_call 19
  refine calls_named (S := fun W => Mp W w.heap.size p 256 q2 S ∧ Ints W S (some ⟨w10.heap.size, 0, none⟩) 1 1 [9] ∧ Below w.heap.size w W) ⟨M.out.below (by (repeat' (first | (with_reducible exact Below.refl _ _) | (with_reducible refine Below.setCell ?_ (by (first | omega | (simp; done) | (simp; omega))) _) | (with_reducible refine Below.alloc ?_ (by (first | omega | (simp; done) | (simp; omega))) _) | (with_reducible refine Below.drew ?_) | (with_reducible refine below_drewN ?_ _)))), lit_ints (fun k hk => (M.out.ge hk).2) [9] rfl (by decide), B.out.trans (show Below w.heap.size w10 _ from Below.mono (show Below w10.heap.size w10 _ by (repeat' (first | (with_reducible exact Below.refl _ _) | (with_reducible refine Below.setCell ?_ (by (first | omega | (simp; done) | (simp; omega))) _) | (with_reducible refine Below.alloc ?_ (by (first | omega | (simp; done) | (simp; omega))) _) | (with_reducible refine Below.drew ?_) | (with_reducible refine below_drewN ?_ _)))) B.out.size)⟩ fun w11 h => ?_
  have MA := Lib.hid h.1
  have IA := Lib.hid h.2.1
  have BA := Lib.hid h.2.2
  clear h M B
  refine (Give_i MA.out IA.out).mono ?_
  rintro e w12 ⟨rfl, hq, hf⟩
  rw [K2.out.2.2.1]
  have M := Lib.hid (show Mp w12 w.heap.size p 256 q2 S by rwa [K2.out.2.2.2.1] at hq)
  have B := Lib.hid (BA.out.trans (MA.out.toBelow hf))
  clear hq hf MA IA BA
  go_wp2_with fail
  go_at_call 19
  refine calls_named (S := fun W => Mp W w.heap.size p 256 q2 S ∧ Ints W S (some ⟨w12.heap.size, 0, none⟩) 1 1 [256] ∧ Below w.heap.size w W) ⟨M.out.below (by (repeat' (first | (with_reducible exact Below.refl _ _) | (with_reducible refine Below.setCell ?_ (by (first | omega | (simp; done) | (simp; omega))) _) | (with_reducible refine Below.alloc ?_ (by (first | omega | (simp; done) | (simp; omega))) _) | (with_reducible refine Below.drew ?_) | (with_reducible refine below_drewN ?_ _)))), lit_ints (fun k hk => (M.out.ge hk).2) [256] rfl (by decide), B.out.trans (show Below w.heap.size w12 _ from Below.mono (show Below w12.heap.size w12 _ by (repeat' (first | (with_reducible exact Below.refl _ _) | (with_reducible refine Below.setCell ?_ (by (first | omega | (simp; done) | (simp; omega))) _) | (with_reducible refine Below.alloc ?_ (by (first | omega | (simp; done) | (simp; omega))) _) | (with_reducible refine Below.drew ?_) | (with_reducible refine below_drewN ?_ _)))) B.out.size)⟩ fun w13 h => ?_
  have MA := Lib.hid h.1
  have IA := Lib.hid h.2.1
  have BA := Lib.hid h.2.2
  clear h M B
  refine (Give_i MA.out IA.out).mono ?_
  rintro e w14 ⟨rfl, hq, hf⟩
  rw [K2.out.2.2.2.2.1]
  have M := Lib.hid (show Mp w14 w.heap.size p 256 q2 S by rwa [K2.out.2.2.2.2.2.1] at hq)
  have B := Lib.hid (BA.out.trans (MA.out.toBelow hf))
  clear hq hf MA IA BA
  go_wp2_with fail
  go_at_call 21
  refine calls_named (S := fun W => Mp W w.heap.size p 256 q2 S ∧ Ints W S (some ⟨w14.heap.size, 0, none⟩) 1 1 [0] ∧ Below w.heap.size w W) ⟨M.out.below (by (repeat' (first | (with_reducible exact Below.refl _ _) | (with_reducible refine Below.setCell ?_ (by (first | omega | (simp; done) | (simp; omega))) _) | (with_reducible refine Below.alloc ?_ (by (first | omega | (simp; done) | (simp; omega))) _) | (with_reducible refine Below.drew ?_) | (with_reducible refine below_drewN ?_ _)))), lit_ints (fun k hk => (M.out.ge hk).2) [0] rfl (by decide), B.out.trans (show Below w.heap.size w14 _ from Below.mono (show Below w14.heap.size w14 _ by (repeat' (first | (with_reducible exact Below.refl _ _) | (with_reducible refine Below.setCell ?_ (by (first | omega | (simp; done) | (simp; omega))) _) | (with_reducible refine Below.alloc ?_ (by (first | omega | (simp; done) | (simp; omega))) _) | (with_reducible refine Below.drew ?_) | (with_reducible refine below_drewN ?_ _)))) B.out.size)⟩ fun w15 h => ?_
  have MA := Lib.hid h.1
  have IA := Lib.hid h.2.1
  have BA := Lib.hid h.2.2
  clear h M B
  refine (Keep_i MA.out IA.out).mono ?_
  rintro e w16 ⟨rfl, hq, hf⟩
  rw [K2.out.2.2.2.2.2.2.1]
  have M := Lib.hid (show Mp w16 w.heap.size p 256 q2 S by rwa [K2.out.2.2.2.2.2.2.2.1] at hq)
  have B := Lib.hid (BA.out.trans (MA.out.toBelow hf))
  clear hq hf MA IA BA
  go_wp2_with fail
  go_at_call 21
  refine calls_named (S := fun W => Mp W w.heap.size p 256 q2 S ∧ Ints W S (some ⟨w16.heap.size, 0, none⟩) 2 2 [10, 10] ∧ Below w.heap.size w W) ⟨M.out.below (by (repeat' (first | (with_reducible exact Below.refl _ _) | (with_reducible refine Below.setCell ?_ (by (first | omega | (simp; done) | (simp; omega))) _) | (with_reducible refine Below.alloc ?_ (by (first | omega | (simp; done) | (simp; omega))) _) | (with_reducible refine Below.drew ?_) | (with_reducible refine below_drewN ?_ _)))), lit_ints (fun k hk => (M.out.ge hk).2) [10, 10] rfl (by decide), B.out.trans (show Below w.heap.size w16 _ from Below.mono (show Below w16.heap.size w16 _ by (repeat' (first | (with_reducible exact Below.refl _ _) | (with_reducible refine Below.setCell ?_ (by (first | omega | (simp; done) | (simp; omega))) _) | (with_reducible refine Below.alloc ?_ (by (first | omega | (simp; done) | (simp; omega))) _) | (with_reducible refine Below.drew ?_) | (with_reducible refine below_drewN ?_ _)))) B.out.size)⟩ fun w17 h => ?_
  have MA := Lib.hid h.1
  have IA := Lib.hid h.2.1
  have BA := Lib.hid h.2.2
  clear h M B
  refine (Keep_i MA.out IA.out).mono ?_
  rintro e w18 ⟨rfl, hq, hf⟩
  rw [K2.out.2.2.2.2.2.2.2.2.1]
  have M := Lib.hid (show Mp w18 w.heap.size p 256 q2 S by rwa [K2.out.2.2.2.2.2.2.2.2.2] at hq)
  have B := Lib.hid (BA.out.trans (MA.out.toBelow hf))
  clear hq hf MA IA BA
  go_wp2_with fail
  go_at_call 16
  have HTO := Lib.hid (can_no (L := q2) (k := (-1)) K3.out.1)
  refine (Take_i M.out (HTZ.out.below B.out) (-1)).mono ?_
  rintro e w19 ⟨v, rfl, ho, hq, hf⟩
  rw [K3.out.1]
  clear ho
  have B' := Lib.hid (B.out.trans (M.out.toBelow hf))
  clear B
  have B := B'
  clear B'
  have M' := Lib.hid (show Mp w19 w.heap.size p 256 q2 S by rwa [HTO.out.2] at hq)
  clear M
  have M := M'
  clear M'
  clear hq hf HTO
  go_wp2_with fail
  go_at_call 16
  have HTO := Lib.hid (can_no (L := q2) (k := 300) K3.out.2.1)
  refine (Take_i M.out (HTZ.out.below B.out) 300).mono ?_
  rintro e w20 ⟨v, rfl, ho, hq, hf⟩
  rw [K3.out.2.1]
  clear ho
  have B' := Lib.hid (B.out.trans (M.out.toBelow hf))
  clear B
  have B := B'
  clear B'
  have M' := Lib.hid (show Mp w20 w.heap.size p 256 q2 S by rwa [HTO.out.2] at hq)
  clear M
  have M := M'
  clear M'
  clear hq hf HTO
  go_wp2_with fail
  go_at_call 21
  refine calls_named (S := fun W => Mp W w.heap.size p 256 q2 S ∧ Ints W S (some ⟨w20.heap.size, 0, none⟩) 1 1 [255] ∧ Below w.heap.size w W) ⟨M.out.below (by (repeat' (first | (with_reducible exact Below.refl _ _) | (with_reducible refine Below.setCell ?_ (by (first | omega | (simp; done) | (simp; omega))) _) | (with_reducible refine Below.alloc ?_ (by (first | omega | (simp; done) | (simp; omega))) _) | (with_reducible refine Below.drew ?_) | (with_reducible refine below_drewN ?_ _)))), lit_ints (fun k hk => (M.out.ge hk).2) [255] rfl (by decide), B.out.trans (show Below w.heap.size w20 _ from Below.mono (show Below w20.heap.size w20 _ by (repeat' (first | (with_reducible exact Below.refl _ _) | (with_reducible refine Below.setCell ?_ (by (first | omega | (simp; done) | (simp; omega))) _) | (with_reducible refine Below.alloc ?_ (by (first | omega | (simp; done) | (simp; omega))) _) | (with_reducible refine Below.drew ?_) | (with_reducible refine below_drewN ?_ _)))) B.out.size)⟩ fun w21 h => ?_
  have MA := Lib.hid h.1
  have IA := Lib.hid h.2.1
  have BA := Lib.hid h.2.2
  clear h M B
  refine (Keep_i MA.out IA.out).mono ?_
  rintro e w22 ⟨rfl, hq, hf⟩
  rw [K3.out.2.2.1]
  have M := Lib.hid (show Mp w22 w.heap.size p 256 q3 S by exact hq)
  have B := Lib.hid (BA.out.trans (MA.out.toBelow hf))
  clear hq hf MA IA BA
  go_wp2_with fail
  go_at_call 27
  refine (Has_i M.out 255).mono ?_
  rintro e w23 ⟨rfl, hb⟩
  rw [show (255 : Int).toNat = 255 from rfl, K3.out.2.2.2.1]
  have M' := Lib.hid (M.out.below hb)
  clear M
  have M := M'
  clear M'
  have B' := Lib.hid (B.out.trans (hb.mono B.out.size))
  clear B
  have B := B'
  clear B'
  clear hb
  go_wp2_with fail
  go_at_call 25
  refine (Free_i M.out).mono ?_
  rintro e z ⟨rfl, hw⟩
  obtain rfl := hw.symm
  clear hw
  rw [K3.out.2.2.2.2]
  clear M
  go_wp2_with fail
  go_at_call 11
  refine (New_no (n := 255) (by decide) _).mono ?_
  rintro e z ⟨rfl, hw⟩
  obtain rfl := hw.symm
  clear hw
  go_wp2_with fail
  go_at_call 32
  refine ((Of_i (n := 256) (by omega) (by omega) (HTC.out.below B.out) (RowG.Rd.nil encS _) rfl).mono (of_none2 KF0.out)).mono ?_
  rintro e w24 ⟨rfl, hb⟩
  have B' := Lib.hid (B.out.trans (hb.mono B.out.size))
  clear B
  have B := B'
  clear B'
  clear hb
  obtain ⟨i8, hi8, hz8, hs8, hby8⟩ := info_parts BytesW.info5
  have HI8 := Lib.hid hi8
  have HZ8 := Lib.hid hz8
  have HS8 := Lib.hid hs8
  have HB8 := Lib.hid hby8
  clear hi8 hz8 hs8 hby8
  go_wp2_with ((with_reducible refine at_slot 200 ?_); refine Classical.byContradiction (fun hG => ?_))
  refine hG ?_
  clear hG
  refine wpList_make_full _ rfl _ _ T8s rfl w24.heap.size T8 i8 (.int .u8 0) 1 BytesW.under26 HI8.out HZ8.out HS8.out .i64 .i64 _ _ 512 rfl rfl rfl rfl (by rw [HB8.out]; omega) (by simp [maxLen]) (Nat.le_refl _) ?_
  intro u1 hown1 hg1
  have hb : Below w24.heap.size w24 u1 := (Below.refl _ w24).grown hg1 (Nat.le_refl _) (by simp)
  obtain ⟨A9, c9, e9, _, _, hA9, _⟩ := CrcM.own_form (own_zeros hown1) (n := 512) (by simp)
  injection e9 with e91 e92 e93
  subst e91
  have HA9 := Lib.hid hA9
  have B' := Lib.hid (B.out.trans (hb.mono B.out.size))
  clear B
  have B := B'
  clear B'
  clear hb hown1 hg1 hA9
  obtain ⟨ZS, hZS⟩ : ∃ ZS : List UInt8, ZS = List.replicate 512 0 := ⟨_, rfl⟩
  rw [← hZS] at HA9 KF1
  have HZL := Lib.hid (show ZS.length = 512 by rw [hZS]; simp)
  clear hZS
  go_wp2_with ((with_reducible refine at_slot 201 ?_); refine Classical.byContradiction (fun hG => ?_))
  refine hG ?_
  clear hG
  refine BytesW.wp_strC rfl (.tmp 200) rfl (l := ZS) (by rw [HZL.out]; rfl) HA9.out ?_
  go_wp2_with fail
  go_at_call 32
  refine calls_named (S := fun W => Rd encS W (.slice (some ⟨u1.heap.size, 0, none⟩) 1 1) [ZS] ∧ Below w.heap.size w W) ⟨lit_text ZS, B.out.trans (show Below w.heap.size u1 _ from Below.mono (show Below u1.heap.size u1 _ by (repeat' (first | (with_reducible exact Below.refl _ _) | (with_reducible refine Below.setCell ?_ (by (first | omega | (simp; done) | (simp; omega))) _) | (with_reducible refine Below.alloc ?_ (by (first | omega | (simp; done) | (simp; omega))) _) | (with_reducible refine Below.drew ?_) | (with_reducible refine below_drewN ?_ _)))) B.out.size)⟩ fun u2 h => ?_
  have RZ := Lib.hid h.1
  have BZ := Lib.hid h.2
  clear h B
  refine ((Of_i (n := 256) (by omega) (by omega) (HTC.out.below BZ.out) RZ.out rfl).mono (of_none2 KF1.out)).mono ?_
  rintro e u3 ⟨rfl, hb⟩
  have B := Lib.hid (BZ.out.trans (hb.mono BZ.out.size))
  clear hb BZ RZ
  go_wp2_with fail
  go_at_call 19
  refine calls_named (S := fun W => Emp W u3.heap.size ∧ Below w.heap.size w W) ⟨BlkP.Blk.new _ _ _, B.out.alloc B.out.size _⟩ fun u4 h => ?_
  have EM := Lib.hid h.1
  have B' := Lib.hid h.2
  clear h B
  have B := B'
  clear B'
  refine (Give_no _).mono ?_
  rintro e z ⟨rfl, hw⟩
  obtain rfl := hw.symm
  clear hw
  go_wp2_with fail
  go_at_call 21
  refine (Keep_e EM.out).mono ?_
  rintro e z ⟨rfl, hw⟩
  obtain rfl := hw.symm
  clear hw
  go_wp2_with fail
  go_at_call 16
  refine (Take_no 0 _).mono ?_
  rintro e z ⟨rfl, hw⟩
  obtain rfl := hw.symm
  clear hw
  go_wp2_with fail
  go_at_call 25
  refine (Free_no _).mono ?_
  rintro e z ⟨rfl, hw⟩
  obtain rfl := hw.symm
  clear hw
  go_wp2_with fail
  go_at_call 24
  refine (Len_e EM.out).mono ?_
  rintro e z ⟨rfl, hw⟩
  obtain rfl := hw.symm
  clear hw
  go_wp2_with fail
  go_at_call 23
  refine (Copy_no _).mono ?_
  rintro e z ⟨rfl, hw⟩
  obtain rfl := hw.symm
  clear hw
  go_wp2_with fail
  go_at_call 29
  refine (Homes_e EM.out).mono ?_
  rintro e u5 ⟨A8, c8, rfl, hb⟩
  have B' := Lib.hid (B.out.trans (hb.mono B.out.size))
  clear B
  have B := B'
  clear B'
  clear hb EM
  go_wp2_with fail
  go_at_call 15
  refine (works_c (HTZ.out.below B.out)).mono ?_
  rintro e u6 ⟨rfl, hb⟩
  have B' := Lib.hid (B.out.trans (hb.mono B.out.size))
  clear B
  have B := B'
  clear B'
  clear hb
  go_wp2_with fail
  go_ret
  exact ⟨rfl, B.out⟩
end FreW
end Go.Proofs.YtbnkaeigabifhaaDoor
