/-
  The sum of the sector that data makes.
-/
import Derived.Test.YtknckaegpdganaaDoorCrcCalls
import Derived.Test.YtknckaegpdganaaDoorSectorBlank
import Derived.Test.YtknckaegpdganaaDoorJouSmall
import Derived.Test.YtknckaegpdganaaDoorBytesPuts
-- mine: whole_c same_c awake_c take_c step_c back_c
namespace Go.Proofs.YtknckaegpdganaaDoor
open Go.RowKit
set_option linter.unusedVariables false
set_option linter.unusedSimpArgs false
set_option maxRecDepth 100000
namespace JouW
open BlkP RowG FrS PushG JournalP SecP SecW JouP CrcW
/-- make([]byte, n), as one operation of a drawn region. -/
theorem step_makeZ {w : World} {ops : Array Oper} {o : Oper} {a : Act} {Q : Exit → Act → World → Prop} {K : Act → World → Prop} {G : Prop} (hg : o.guard = none) (x y : Operand) (hop : o.op = Op.makeSlice 94 x y) {n : Nat} {z : Int} (hz : z = (n : Int)) (hl : a.eval x = .int .i64 z) (hc : a.eval y = .int .i64 z) (hn : n ≤ 1000000)
    (h : ∀ w', BytesW.AtC w' (some ⟨w.heap.size, 0, none⟩) (List.replicate n 0) → Below w.heap.size w w' → K (a.put o.dst (.slice (some ⟨w.heap.size, 0, none⟩) n n)) w') : if Region.wanted o (yielded ops a.tmps) = true then Oper.wp Tryd.prog o a w K Q else G := by
  have hw : Region.wanted o (yielded ops a.tmps) = true := by simp [Region.wanted, hg]
  rw [if_pos hw]
  subst hz
  obtain ⟨i, hi, hz, hs1, hb⟩ := info_parts BytesW.info5
  have hr := run_make (P := Tryd.prog) w 94 5 i _ BytesW.under26 hi hz .i64 .i64 n n (by omega) (Int.le_refl _) (by rw [hb]; omega) (by omega)
  unfold Oper.wp
  simp [execOp, hop, hl, hc, hr, Result.andThen]
  refine h _ ?_ ((Below.refl _ _).alloc (Nat.le_refl _) _)
  refine fun hne => ⟨w.heap.size, 0, rfl, by simp, fun j x hx => ?_⟩
  have hj : j < n := by
    have := (List.getElem?_eq_some_iff.1 hx).1
    simpa using this
  have hx0 : x = 0 := by
    have := (List.getElem?_eq_some_iff.1 hx).2
    simpa using this.symm
  subst hx0
  rw [cell_of_row _ _ _ _ _ _ (heap_alloc_new w _), hs1]
  simp [madeCells, Value.cells, hj, BytesW.bv, Nat.mod_one]
theorem wrS {n : Int} (h1 : -9223372036854775808 ≤ n) (h2 : n < 9223372036854775808) : IntKind.i64.wrap n = n := by
  rw [IntKind.wrap_i64]
  omega
theorem sum_pad (x : Sec) : CrcP.more (CrcP.sum x) (List.replicate (512 - x.length) 0) = CrcP.sum (pad x) := CrcP.parts _ _
set_option maxHeartbeats 16000000 in
theorem sum_c {w : World} {x : Sec} (hT : Tab w) (hx : x.length ≤ 512) :
    Calls Tryd.prog 66 #[.string (str x)] w fun e w' => e = .returned (.int .u32 ((sumN (pad x) : Nat) : Int)) ∧ Below w.heap.size w w' := by
  have HT := Lib.hid hT
  have HX := Lib.hid hx
  have HZ := Lib.hid (str_size x)
  obtain ⟨u, hu⟩ : ∃ u, u = CrcP.nat (CrcP.sum x) := ⟨_, rfl⟩
  obtain ⟨n, hn⟩ : ∃ n, n = 512 - x.length := ⟨_, rfl⟩
  have HU := Lib.hid hu
  have HN := Lib.hid hn
  have HE := Lib.hid (sum_pad x)
  clear hT hx hu hn
  go_enter Tryd.func66, Tryd.ntmps66
  go_wp2_with fail
  refine wp_region_noPanic ?_
  refine wp_region_held_drew (S := fun W => Below w.heap.size w W) (by kernel_rfl) ((Below.refl _ w).drew) (fun hHeld => ?_)
  refine wpAnyH_take (i := 0) (oi := ⟨some 3, _, _, _, _, _⟩) (v := .string (str x)) rfl (by kernel_rfl) (by kernel_rfl) (by kernel_rfl) (fun _ _ _ h => h) (Or.inl ⟨by rfl, fun W hSW => by go_simp⟩) hHeld ?_
  simp only [Act.put, List.setIfInBounds_toArray, List.set_cons_zero, List.set_cons_succ]
  refine wpAnyH_take (i := 2) (oi := ⟨some 5, _, _, _, _, _⟩) (v := .string (str x)) rfl (by kernel_rfl) (by kernel_rfl) (by kernel_rfl) (fun _ _ _ h => h) (Or.inl ⟨by rfl, fun W hSW => by go_simp⟩) hHeld ?_
  simp only [Act.put, List.setIfInBounds_toArray, List.set_cons_zero, List.set_cons_succ]
  refine wpAnyH_take (i := 3) (oi := ⟨some 6, _, _, _, _, _⟩) (v := .int .i64 (x.length : Int)) rfl (by kernel_rfl) (by kernel_rfl) (by kernel_rfl) (fun _ _ _ h => h) (Or.inl ⟨by rfl, fun W hSW => by have := HZ.out; go_simp⟩) hHeld ?_
  simp only [Act.put, List.setIfInBounds_toArray, List.set_cons_zero, List.set_cons_succ]
  refine wpAnyH_take (i := 4) (oi := ⟨some 7, _, _, _, _, _⟩) (v := .int .i64 (n : Int)) rfl (by kernel_rfl) (by kernel_rfl) (by kernel_rfl) (fun _ _ _ h => h) (Or.inl ⟨by rfl, fun W hSW => by have h1 := HN.out; have h2 := HX.out; have h3 : (512 : Int) - (x.length : Int) = (n : Int) := (by omega); go_simp; first | done | exact wrS (by omega) (by omega)⟩) hHeld ?_
  simp only [Act.put, List.setIfInBounds_toArray, List.set_cons_zero, List.set_cons_succ]
  refine wpAnyH_ready (rs := [1, 5]) (by kernel_rfl) (by simp) ?_
  refine AllReadyH.cons (o := ⟨some 4, _, _, _, _, _⟩) rfl (fun K hK => ?_) ?_
  · go_simp
    refine (Text_c (HT.out.below (hHeld.mono (Nat.le_refl _))) (by have := HX.out; omega)).mono ?_
    rintro e w5 ⟨rfl, hw⟩
    obtain rfl := hw.symm
    rw [← HU.out]
    go_wp2_with fail
    refine hK.out _ _ hHeld (fun hHeld => ?_)
    clear hK K
    refine wpAnyH_ready (rs := [5]) (by kernel_rfl) (by simp) ?_
    refine AllReadyH.cons (o := ⟨some 8, _, _, _, _, _⟩) rfl (fun K hK => ?_) AllReadyH.nil
    refine step_makeZ rfl (.tmp 7) (.tmp 7) rfl (n := n) rfl rfl rfl (by have := HN.out; omega) ?_
    intro w6 ha6 hb6
    have HA := Lib.hid ha6
    clear ha6
    refine hK.out _ _ (below_t hHeld hb6) (fun hHeld => ?_)
    clear hK K hb6
    refine wpAnyH_ready (rs := [6]) (by kernel_rfl) (by simp) ?_
    refine AllReadyH.cons (o := ⟨some 9, _, _, _, _, _⟩) rfl (fun K hK => ?_) AllReadyH.nil
    go_simp
    refine (More_c (HT.out.below (hHeld.mono (Nat.le_refl _))) (n := n) (L := List.replicate n 0) (by simp) (by have := HN.out; omega) HA.out HU.out).mono ?_
    rintro e w9 ⟨rfl, hw⟩
    obtain rfl := hw.symm
    rw [HN.out, HE.out]
    go_wp2_with fail
    refine hK.out _ _ hHeld (fun hHeld => ?_)
    clear hK K
    refine wpAnyH_ready (rs := [7]) (by kernel_rfl) (by simp) ?_
    refine AllReadyH.cons (o := ⟨some 2, _, _, _, _, _⟩) rfl (fun K hK => ?_) AllReadyH.nil
    go_simp
    refine hK.out _ _ hHeld (fun hHeld => ?_)
    clear hK K
    refine wpAnyH_done (by kernel_rfl) ?_ _
    refine NoPanic.normal ?_
    go_wp2_with fail
    go_ret
    exact ⟨rfl, hHeld⟩
  refine AllReadyH.cons (o := ⟨some 8, _, _, _, _, _⟩) rfl (fun K hK => ?_) AllReadyH.nil
  refine step_makeZ rfl (.tmp 7) (.tmp 7) rfl (n := n) rfl rfl rfl (by have := HN.out; omega) ?_
  intro w5 ha5 hb5
  have HA := Lib.hid ha5
  clear ha5
  refine hK.out _ _ (below_t hHeld hb5) (fun hHeld => ?_)
  clear hK K hb5
  refine wpAnyH_ready (rs := [1]) (by kernel_rfl) (by simp) ?_
  refine AllReadyH.cons (o := ⟨some 4, _, _, _, _, _⟩) rfl (fun K hK => ?_) AllReadyH.nil
  go_simp
  refine (Text_c (HT.out.below (hHeld.mono (Nat.le_refl _))) (by have := HX.out; omega)).mono ?_
  rintro e w6 ⟨rfl, hw⟩
  obtain rfl := hw.symm
  rw [← HU.out]
  go_wp2_with fail
  refine hK.out _ _ hHeld (fun hHeld => ?_)
  clear hK K
  refine wpAnyH_ready (rs := [6]) (by kernel_rfl) (by simp) ?_
  refine AllReadyH.cons (o := ⟨some 9, _, _, _, _, _⟩) rfl (fun K hK => ?_) AllReadyH.nil
  go_simp
  refine (More_c (HT.out.below (hHeld.mono (Nat.le_refl _))) (n := n) (L := List.replicate n 0) (by simp) (by have := HN.out; omega) HA.out HU.out).mono ?_
  rintro e w9 ⟨rfl, hw⟩
  obtain rfl := hw.symm
  rw [HN.out, HE.out]
  go_wp2_with fail
  refine hK.out _ _ hHeld (fun hHeld => ?_)
  clear hK K
  refine wpAnyH_ready (rs := [7]) (by kernel_rfl) (by simp) ?_
  refine AllReadyH.cons (o := ⟨some 2, _, _, _, _, _⟩) rfl (fun K hK => ?_) AllReadyH.nil
  go_simp
  refine hK.out _ _ hHeld (fun hHeld => ?_)
  clear hK K
  refine wpAnyH_done (by kernel_rfl) ?_ _
  refine NoPanic.normal ?_
  go_wp2_with fail
  go_ret
  exact ⟨rfl, hHeld⟩
end JouW
end Go.Proofs.YtknckaegpdganaaDoor


/-
  The commit of a group, as text.
-/
-- mine: whole_c same_c awake_c take_c step_c back_c
namespace Go.Proofs.YtknckaegpdganaaDoor
open Go.RowKit
set_option linter.unusedVariables false
set_option linter.unusedSimpArgs false
set_option maxRecDepth 100000
namespace JouW
open BlkP RowG FrS PushG JournalP SecP SecW JouP CrcW
open Go.Lib (uvarint)
theorem fx4 (n : Nat) : BytesW.fxI n 4 = BytesW.fx n 4 := if_pos (by omega)
theorem sumN_lt (x : Sec) : sumN x < 4294967296 := (CrcP.sum x).isLt
theorem entries_take {G : Grp} {i : Nat} {x : Nat × Sec} (h : G[i]? = some x) : (G.take (i + 1)).flatMap entry = (G.take i).flatMap entry ++ (uvarint x.1 ++ BytesW.fx (sumN (pad x.2)) 4) := by
  rw [List.take_add_one, h, List.flatMap_append]
  simp [entry]
theorem entries_len60 {G : Grp} (h : ∀ x ∈ G, x.1 < 131072) (hl : G.length ≤ 60) (i : Nat) : (uvarint G.length ++ (G.take i).flatMap entry).length ≤ 430 := by
  have h1 := entries_len (g := G.take i) (fun x hx => h x (List.mem_of_mem_take hx))
  have h2 := uv3 (h := G.length) (by omega)
  rw [List.length_take] at h1
  rw [List.length_append]
  omega
set_option maxHeartbeats 16000000 in
theorem commit_c {w : World} {A : Option Addr} {n c : Nat} {G : Grp} (hT : Tab w) (hR : Rd encA w (.slice A n c) G) (hn : G.length = n) (hl : n ≤ 60) (hh : ∀ x ∈ G, x.1 < 131072) (hs : ∀ x ∈ G, x.2.length ≤ 512) :
    Calls Tryd.prog 36 #[.slice A n c] w fun e w' => e = .returned (.string (str (commitN G))) ∧ Below w.heap.size w w' := by
  have HT := Lib.hid hT
  have HR := Lib.hid hR
  have HN := Lib.hid hn
  have HH := Lib.hid hh
  have HS := Lib.hid hs
  have HL := Lib.hid (entries_len60 hh (by omega))
  clear hT hR hh hs hn
  go_enter Tryd.func36, Tryd.ntmps36
  go_wp2_with fail
  go_at_call 64
  refine (BytesW.put_c (w := w) (A := none) (l := []) (c := 0) (n := n) BytesW.At.nil (by simp) (by omega)).mono ?_
  rintro e w1 ⟨v1, rfl, ho1, hb1⟩
  have O1 := Lib.hid ho1
  have B1 := Lib.hid hb1
  clear ho1 hb1
  go_wp2_with fail
  go_loopw [3, 13] (fun v3 v13 wr => ∃ (i : Nat) (v : Value), v13 = .int .i64 (i : Int) ∧ v3 = v ∧ i ≤ n ∧ BytesW.Own wr w.heap.size v (uvarint n ++ (G.take i).flatMap entry) ∧ Below w.heap.size w wr) (fun _ v _ => n - (RowKit.intOf v).toNat)
  case atStart => exact ⟨0, _, rfl, rfl, Nat.zero_le _, by simpa using O1.out, B1.out⟩
  case round =>
    obtain ⟨i, vr, rfl, rfl, hi, ho, hbr⟩ := hrel
    have hle := HL.out i
    rw [HN.out] at hle
    obtain ⟨L, hL⟩ : ∃ L, uvarint n ++ (G.take i).flatMap entry = L := ⟨_, rfl⟩
    rw [hL] at ho hle
    have HLL := Lib.hid hL
    have hz := hbr.size
    have hB := hbr.mono (Nat.le_refl _)
    have OW := Lib.hid ho
    have BR := Lib.hid hbr
    obtain ⟨A2, c2, hv, hAt, hc1, hc2⟩ := ho.sl
    subst hv
    have AT := Lib.hid hAt
    clear hL hAt
    by_cases hin : i < n
    · have hiI : (i : Int) < (n : Int) := by omega
      obtain ⟨⟨xa, xs⟩, hx⟩ : ∃ x, G[i]? = some x := ⟨_, List.getElem?_eq_getElem (by rw [HN.out]; exact hin)⟩
      have hm := List.mem_of_getElem? hx
      have hxa : xa < 131072 := HH.out _ hm
      have hxs : xs.length ≤ 512 := HS.out _ hm
      have HE := Lib.hid (entries_take hx)
      obtain ⟨b, o, hbo, hlt, hcs⟩ := HR.out.at hx
      subst hbo
      have x0 := (hbr.cell (p := ⟨b, o + i * 2, none⟩) hlt).trans (hcs 0 _ rfl)
      have x1 := (hbr.cell (p := ⟨b, o + i * 2 + 1, none⟩) hlt).trans (hcs 1 _ rfl)
      have hxl := Nat.lt_of_lt_of_le hlt hbr.size
      obtain ⟨sx, hsx⟩ : ∃ sx, sumN (pad xs) = sx := ⟨_, rfl⟩
      have hsl : sx < 4294967296 := by rw [← hsx]; exact sumN_lt _
      have HSX := Lib.hid hsx
      clear hcs hx hm hbr ho hsx hB
      go_wp2_with fail
      refine calls_named (S := fun W => Below wr.heap.size wr W ∧ Blk W wr.heap.size TA [.int .i64 (xa : Int), .string (str xs)]) ⟨by (repeat' (first | (with_reducible exact Below.refl _ _) | (with_reducible refine Below.setCell ?_ (by (first | omega | (simp; done) | (simp; omega))) _) | (with_reducible refine Below.alloc ?_ (by (first | omega | (simp; done) | (simp; omega))) _) | (with_reducible refine Below.drew ?_) | (with_reducible refine below_drewN ?_ _))), by (repeat' (first | (with_reducible refine BlkP.Blk.drew ?_) | (with_reducible refine BlkP.Blk.drewN ?_ _) | (with_reducible refine BlkP.Blk.setAt (us := ?_) (by first | omega | (simp; done) | (simp; omega)) rfl ?_ ?_) | (with_reducible refine BlkP.Blk.otherAt ?_ (by first | omega | (simp; done) | (simp; omega))) | (with_reducible refine BlkP.Blk.newA' (by first | omega | (simp; done) | (simp; omega)) rfl) | (with_reducible refine BlkP.Blk.alloc ?_ _) | (exact rfl)))⟩ (fun w2 hq2 => ?_)
      obtain ⟨hb2, hk2⟩ := hq2
      refine (BytesW.put_c (AT.out.below hb2) (by omega) (by omega)).mono ?_
      rintro e w3 ⟨v3, rfl, ho3, hb3⟩
      have hk3 := hk2.below hb3
      have k1 := hk3.cell (i := 1) rfl
      have kl := hk3.lt
      have B3 := Lib.hid (below_t BR.out (below_t hb2 hb3))
      obtain ⟨L3, hL3⟩ : ∃ L3, L ++ uvarint xa = L3 := ⟨_, rfl⟩
      have hl3 : L3.length ≤ 440 := by
        have := uv3 (h := xa) (by omega)
        rw [← hL3, List.length_append]
        omega
      rw [hL3] at ho3
      have HL3 := Lib.hid hL3
      have O3 := Lib.hid (ho3.mono (show w.heap.size ≤ w2.heap.size from by have := hb2.size; omega))
      obtain ⟨A3, c3, hv3, hAt3, hc3, hc4⟩ := ho3.sl
      subst hv3
      have AT3 := Lib.hid hAt3
      clear hb2 hb3 ho3 hk2 hk3 hAt3 x0 x1 hL3
      go_wp2_with fail
      refine (sum_c (HT.out.below B3.out) hxs).mono ?_
      rintro e w4 ⟨rfl, hb4⟩
      rw [HSX.out]
      have B4 := Lib.hid (below_t B3.out hb4)
      have AT4 := Lib.hid (AT3.out.below hb4)
      clear hb4 k1 kl
      go_wp2_with fail
      refine (BytesW.putFixed_c (n := sx) (x := (sx : Int)) (k := 4) AT4.out (by omega) (by omega) rfl).mono ?_
      rintro e w5 ⟨v5, rfl, ho5, hb5⟩
      have B5 := Lib.hid (below_t B4.out hb5)
      have O5 := Lib.hid (ho5.mono (show w.heap.size ≤ w4.heap.size from B4.out.size))
      clear ho5 hb5
      go_wp2_with fail
      go_roundw
      case rel =>
        refine ⟨i + 1, v5, by first | rfl | (congr 1; omega), rfl, by omega, ?_, B5.out⟩
        have := O5.out
        rw [fx4] at this
        rw [HE.out, HSX.out, ← List.append_assoc, HLL.out, ← List.append_assoc, HL3.out]
        exact this
      case measure => first | (simp [RowKit.intOf]; done) | (simp [RowKit.intOf]; omega)
    · have hie : i = n := by omega
      subst hie
      have hiI : ¬ (i : Int) < (i : Int) := by omega
      have HD : Hid (L = named G) := Lib.hid (by rw [← HLL.out, ← HN.out, List.take_length]; rfl)
      clear hbr ho hB hin
      go_wp2_with fail
      have hc9 : c2 ≤ 9223372036854775807 := hc2
      refine (Sum_c (HT.out.below BR.out) rfl ⟨hc1, hc9⟩ AT.out.c).mono ?_
      rintro e w2 ⟨rfl, hw⟩
      obtain rfl := hw
      obtain ⟨sx, hsx⟩ : ∃ sx, sumN L = sx := ⟨_, rfl⟩
      have hsl : sx < 4294967296 := by rw [← hsx]; exact sumN_lt _
      have hsn : CrcP.nat (CrcP.sum L) = (sx : Int) := by rw [← hsx]; rfl
      rw [hsn]
      have HSX := Lib.hid hsx
      clear hsx hsn hc9
      go_wp2_with fail
      refine (BytesW.putFixed_c (w := w2) (A := none) (l := []) (c := 0) (n := sx) (x := (sx : Int)) (k := 4) BytesW.At.nil (by simp) (by omega) rfl).mono ?_
      rintro e w3 ⟨v3, rfl, ho3, hb3⟩
      rw [fx4, List.nil_append] at ho3
      have O3 := Lib.hid (ho3.mono (show w.heap.size ≤ w2.heap.size from BR.out.size))
      have B3 := Lib.hid (below_t BR.out hb3)
      have AT3 := Lib.hid (AT.out.below hb3)
      have HF : Hid ((BytesW.fx sx 4).length = 4) := Lib.hid (BytesW.fx_length _ _)
      clear ho3 hb3
      go_wp2_with ((with_reducible refine at_slot 35 ?_); refine Classical.byContradiction (fun hG => ?_))
      refine hG ?_
      clear hG
      refine BytesW.wp_append rfl (.tmp 33) (.tmp 34) rfl (B := w.heap.size) (l2 := L) rfl O3.out rfl AT3.out (by rw [HF.out]; omega) B3.out.size ?_
      intro v4 w4 ho4 hb4
      have B4 := Lib.hid (B3.out.trans hb4)
      obtain ⟨A4, c4, hv4, hAt4, hc4, hc5⟩ := ho4.sl
      subst hv4
      refine at_slot 36 ?_
      refine BytesW.wp_str rfl (.tmp 35) rfl rfl hAt4 ?_
      go_wp2_with fail
      go_ret
      refine ⟨?_, B4.out⟩
      rw [← HSX.out, HD.out]
      rfl
end JouW
end Go.Proofs.YtknckaegpdganaaDoor
