/-
  FreemapTurned: homes in which one bit is turned are none of a map.
-/
import Derived.Test.YtbnkaeigabifhaaDoorFreeLaw
import Derived.Deep.RegionHeld3
-- mine: whole_c same_c awake_c take_c step_c back_c Made number_c next_c fixed_c clone_c int_c end_c put_c
namespace Go.Proofs.YtbnkaeigabifhaaDoor
open Go.RowKit
set_option linter.unusedVariables false
set_option linter.unusedSimpArgs false
set_option maxRecDepth 100000
namespace FreW
open BlkP RowG FrS PushG FreP
open CrcW (Tab)
theorem wrap_pow8 (i : Nat) : IntKind.u8.wrap ((2 : Int) ^ (i % 8)) = ((2 ^ (i % 8) : Nat) : Int) := by
  have h : 2 ^ (i % 8) < 256 := Nat.pow_lt_pow_right (m := i % 8) (n := 8) (by decide) (Nat.mod_lt _ (by decide))
  have e : (2 : Int) ^ (i % 8) = ((2 ^ (i % 8) : Nat) : Int) := by simp
  rw [IntKind.wrap_u8, e]
  generalize 2 ^ (i % 8) = P at h ⊢
  omega
theorem pw_nat : ∀ q, q < 8 → (CrcP.pw true q).toNat = 2 ^ q := by decide
/-- One byte of a row of cells is stored. -/
theorem cells_store {w : World} {g d : Nat} {l : List UInt8} {y : UInt8} (hg : g < w.heap.size) (h : ∀ i x, l[i]? = some x → w.cell? ⟨g, i, none⟩ = some (BytesW.bv x)) : BytesW.AtC (w.setCell ⟨g, d, none⟩ (BytesW.bv y)) (some ⟨g, 0, none⟩) (l.set d y) := fun _ => by
  refine ⟨g, 0, rfl, by simpa using hg, fun i x hx => ?_⟩
  rw [Nat.zero_add]
  rw [List.getElem?_set] at hx
  split at hx
  · rename_i e
    subst e
    split at hx
    · rename_i hl
      injection hx with hx
      subst hx
      exact World.cell?_setCell_same _ _ _ (h d _ (List.getElem?_eq_getElem hl))
    · cases hx
  · rename_i e
    exact (World.cell?_setCell_other _ _ _ _ (fun q => e (by injection q))).trans (h i x hx)
theorem store_text {w : World} {B g n c : Nat} {l : List (List UInt8)} (h : RowG.Own encS TS w B (.slice (some ⟨g, 0, none⟩) n c) l) {i : Nat} {x : List UInt8} (hx : l[i]? = some x) (y : List UInt8) : RowG.Own encS TS (w.setCell ⟨g, i, none⟩ (.string ⟨y.toArray⟩)) B (.slice (some ⟨g, 0, none⟩) n c) (l.set i y) ∧ w.grownBy (w.setCell ⟨g, i, none⟩ (.string ⟨y.toArray⟩)) (some g) := by
  have hs := h.store (i := i) (j := 0) (x := x) (y := y) (u := .string ⟨y.toArray⟩) hx (by decide) rfl
  have e : i * encS.k + 0 = i := by
    have : encS.k = 1 := rfl
    rw [this]
    omega
  rw [e] at hs
  exact hs
theorem of_none {w : World} {n : Nat} {l : List (List UInt8)} (h : ofM n l = none) : ∀ e w', OfP w n l e w' → e = .returned (.tuple #[.pointer none, .int .i64 4]) ∧ Below w.heap.size w w' := fun e w' q => by
  rcases q with ⟨L', p, h1, _⟩ | ⟨_, h2, h3⟩
  · rw [h] at h1
    cases h1
  · exact ⟨h2, h3⟩
theorem fr_cells {w : World} {g : Nat} {cs : Array Value} (h : w.heap[g]? = some (.cells cs T8 (cs.size, cs.size + 1))) {d : Nat} (hd : d < cs.size) : w.frozen? ⟨g, d, none⟩ = false := by
  unfold World.frozen?
  rw [h]
  simp
  omega
theorem code_named {P : Program} {c : Code} {Q : Exit → Act → World → Prop} {a : Act} {W : World} (S : World → Prop) (h : S W) (k : ∀ W', S W' → c.wp P Q a W') : c.wp P Q a W := k W h
set_option maxHeartbeats 1000000 in
theorem law_turned {w : World} {n : Int} {k : Int} {A : Option Addr} {m c : Nat} {l : List Int} (hZ : TabZ w) (hC : Tab w) (hR : Rd RowG.encI w (.slice A m c) l) (hm : l.length = m) (hk1 : -9223372036854775808 ≤ k) (hk2 : k ≤ 9223372036854775807) : Calls Tryd.prog 9 #[.int .i64 n, .slice A m c, .int .i64 k] w fun e w' => e = .returned (.bool true) ∧ Below w.heap.size w w' := by
  have HTZ := Lib.hid hZ
  have HTC := Lib.hid hC
  have HRD := Lib.hid hR
  have HL := Lib.hid hm
  have B := Lib.hid (Below.refl w.heap.size w)
  clear hZ hC hR hm
  cases hn : isM n
  · have HN := Lib.hid hn
    clear hn
    go_enter Tryd.func9, Tryd.ntmps9
    go_wp2_with fail
    go_at_call 34
    refine (kept_no HN.out).mono ?_
    rintro e x1 ⟨rfl, hw⟩
    obtain rfl := hw.symm
    go_wp2_with fail
    go_at_call 15
    refine (works_c (HTZ.out.below B.out)).mono ?_
    rintro e x2 ⟨rfl, hb⟩
    have B' := Lib.hid (B.out.trans (hb.mono B.out.size))
    clear hb
    clear B
    have B := B'
    clear B'
    go_wp2_with fail
    go_ret
    exact ⟨rfl, B.out⟩
  · obtain ⟨lo, hi⟩ := isM_iff.1 hn
    clear hn
    obtain ⟨N, rfl⟩ := Int.eq_ofNat_of_zero_le (show 0 ≤ n by omega)
    have hlo : 256 ≤ N := by omega
    have hhi : N ≤ 131072 := by omega
    go_enter Tryd.func9, Tryd.ntmps9
    go_wp2_with fail
    go_at_call 34
    refine (kept_i hlo hhi HRD.out HL.out).mono ?_
    rintro e x1 ⟨p, L, rfl, S, hq, hb⟩
    have M := Lib.hid (hq.mono (B' := w.heap.size) B.out.size)
    clear hq
    have B' := Lib.hid (B.out.trans (hb.mono B.out.size))
    clear hb
    clear B
    have B := B'
    clear B'
    have HLN := Lib.hid M.out.len
    go_wp2_with fail
    go_at_call 29
    refine (Homes_i M.out (HTC.out.below B.out)).mono ?_
    rintro e y1 ⟨_, rfl, ho, hb⟩
    have hKp := hs_pos hlo
    have hK33 := hs_le hhi
    obtain ⟨K, hK⟩ : ∃ K, K = FreP.hs N := ⟨_, rfl⟩
    rw [← hK] at hKp hK33
    have HK := Lib.hid hK
    have HKL := Lib.hid (show FreP.hs L.length = K by rw [HLN.out, hK])
    obtain ⟨Au, cu, rfl, hcu, hmu, hAu⟩ := ho.form (n := K) (by rw [homes_len, HKL.out])
    obtain ⟨gu, rfl, hgu1, hgu2⟩ := hAu hKp
    have U := Lib.hid (ho.mono B.out.size)
    have B1 := Lib.hid (B.out.trans (hb.mono B.out.size))
    clear ho hb hAu hK M B
    obtain ⟨al, hal⟩ : ∃ al : Nat, al = K * 4096 := ⟨_, rfl⟩
    have halI : (K : Int) * 4096 = (al : Int) := by omega
    have hal0 : 0 < al := by omega
    have halb : al ≤ 135168 := by omega
    have hne0 : ((al : Int) == 0) = false := by simp; omega
    have hz : ¬ (al : Int) = 0 := by omega
    obtain ⟨r, hr⟩ : ∃ r, k.tmod (al : Int) = r := ⟨_, rfl⟩
    have hr1 : -(al : Int) < r := by
      have := Int.lt_tmod_of_pos k (b := (al : Int)) (by omega)
      omega
    have hr2 : r < (al : Int) := by
      have := Int.tmod_lt_of_pos k (b := (al : Int)) (by omega)
      omega
    have HAL := Lib.hid hal
    clear hal
    by_cases hr0 : r < 0
    · obtain ⟨q, hq⟩ : ∃ q : Nat, r + (al : Int) = (q : Int) := ⟨(r + (al : Int)).toNat, by omega⟩
      have hql : q < al := by omega
      obtain ⟨i, hi⟩ : ∃ i, i = q / 4096 := ⟨_, rfl⟩
      obtain ⟨a, ha⟩ : ∃ a, a = q % 4096 := ⟨_, rfl⟩
      have hiK : i < K := by have := HAL.out; omega
      have hiI : (i : Int) < (K : Int) := by omega
      have ha4 : a < 4096 := by omega
      have hw1 : IntKind.i64.wrap ((q : Int) / 4096) = (i : Int) := by rw [IntKind.wrap_i64]; omega
      have hm1 : (q : Int) % 4096 = (a : Int) := by omega
      obtain ⟨d, hd⟩ : ∃ d, d = a / 8 := ⟨_, rfl⟩
      have hw2 : IntKind.i64.wrap ((a : Int) / 8) = (d : Int) := by rw [IntKind.wrap_i64]; omega
      have hd5 : d < 512 := by omega
      have hd5I : (d : Int) < 512 := by omega
      have hx := homes_at (L := L) (k := i) (by rw [HKL.out]; exact hiK)
      obtain ⟨X, hX⟩ : ∃ X, X = home (has L) i := ⟨_, rfl⟩
      rw [← hX] at hx
      have HXL := Lib.hid (show X.length = 512 by rw [hX]; exact home_len _ _)
      obtain ⟨x, hxd⟩ : ∃ x, X[d]? = some x := ⟨_, List.getElem?_eq_getElem (by rw [HXL.out]; exact hd5)⟩
      obtain ⟨y, hy⟩ : ∃ y, y = x ^^^ CrcP.pw true (a % 8) := ⟨_, rfl⟩
      have HOF : Hid (ofM N ((homes L).set i (X.set d y)) = none) := Lib.hid (by
        have := of_turned (L := L) (k := i) (at_ := a) (x := x) (by rw [HKL.out]; exact hiK) (by rw [← hX, ← hd]; exact hxd)
        rw [← hX, ← hd, ← hy, HLN.out] at this
        exact this)
      have HALL : Hid (∀ s ∈ (homes L).set i (X.set d y), s.length ≤ 9223372036854775807) := Lib.hid (fun s hs => by
        rcases List.mem_or_eq_of_mem_set hs with q | q
        · rw [homes_all s q]; omega
        · rw [q, List.length_set, HXL.out]; omega)
      obtain ⟨P, hP⟩ : ∃ P : Nat, P = 2 ^ (a % 8) := ⟨_, rfl⟩
      have HPW : Hid (IntKind.u8.wrap ((2 : Int) ^ (a % 8)) = (P : Int)) := Lib.hid (by rw [hP]; exact wrap_pow8 a)
      have HXY : Hid (bits .xor .u8 (x.toNat : Int) (P : Int) = (y.toNat : Int)) := Lib.hid (by
        rw [hP, hy, ← pw_nat (a % 8) (Nat.mod_lt _ (by omega))]
        exact CrcM.xor_byte _ _)
      have hc := U.out.cell (i := i) (j := 0) (x := X) (u := .string ⟨X.toArray⟩) hx rfl
      rw [show i * encS.k + 0 = i from by have : encS.k = 1 := rfl; rw [this]; omega] at hc
      have HX := Lib.hid hx
      have HXD := Lib.hid hxd
      clear hX hy hP hi ha hd hx hxd
      go_wp2_with ((with_reducible refine at_slot 40 ?_); refine Classical.byContradiction (fun hG => ?_))
      refine hG ?_
      clear hG
      refine BytesW.wp_bytes rfl (.tmp 39) rfl (l := X) rfl ?_ (by rw [HXL.out]; simp [maxLen])
      intro cb w2 cs hcs hcb1 hcb2 hcs1 hcs2 hb2 hlt2
      rw [HXL.out] at hcb1 hcs1 ⊢
      have HCS : Hid (∀ i x, X[i]? = some x → w2.cell? ⟨y1.heap.size, i, none⟩ = some (BytesW.bv x)) := Lib.hid (fun i x hx => (cell_of_row w2 y1.heap.size i cs _ _ hcs).trans (hcs2 i x hx))
      have hfz := fr_cells hcs (d := d) (by omega)
      have c0 := HCS.out d x HXD.out
      unfold BytesW.bv at c0
      have U2 := Lib.hid (U.out.below hb2)
      have B2 := Lib.hid (B1.out.trans (hb2.mono B1.out.size))
      have hgb : ¬ gu = y1.heap.size := by omega
      obtain ⟨gb, hgbe⟩ : ∃ gb, gb = y1.heap.size := ⟨_, rfl⟩
      have hgbB : w.heap.size ≤ gb := by rw [hgbe]; exact B1.out.size
      rw [← hgbe] at HCS hfz c0 hlt2 hgb ⊢
      clear hcs hcs2 hb2 U B1 hc hgbe hcs1
      go_wp2_with fail
      refine wp_region_noPanic ?_
      refine wp_region_held_drew (S := fun Xw => Fr (fun b => b = gb) w2 Xw) (by kernel_rfl) ((Fr.refl _ w2).drew) (fun hHeld => ?_)
      refine wpAnyH_take (i := 0) (oi := ⟨some 43, _, _, _, _, _⟩) (v := .slice (some ⟨gb, 0, none⟩) 512 cb) rfl (by kernel_rfl) (by kernel_rfl) (by kernel_rfl) (fun _ _ _ h => h) (Or.inl ⟨by rfl, fun Xw hSW => by go_simp⟩) hHeld ?_
      simp only [Act.put, List.setIfInBounds_toArray, List.set_cons_zero, List.set_cons_succ]
      refine wpAnyH_take (i := 1) (oi := ⟨some 44, _, _, _, _, _⟩) (v := .int .i64 (a : Int)) rfl (by kernel_rfl) (by kernel_rfl) (by kernel_rfl) (fun _ _ _ h => h) (Or.inl ⟨by rfl, fun Xw hSW => by go_simp⟩) hHeld ?_
      simp only [Act.put, List.setIfInBounds_toArray, List.set_cons_zero, List.set_cons_succ]
      refine wpAnyH_take (i := 2) (oi := ⟨some 45, _, _, _, _, _⟩) (v := .int .i64 (d : Int)) rfl (by kernel_rfl) (by kernel_rfl) (by kernel_rfl) (fun _ _ _ h => h) (Or.inl ⟨by rfl, fun Xw hSW => by go_simp⟩) hHeld ?_
      simp only [Act.put, List.setIfInBounds_toArray, List.set_cons_zero, List.set_cons_succ]
      refine wpAnyH_take (i := 3) (oi := ⟨some 46, _, _, _, _, _⟩) (v := .pointer (some ⟨gb, d, none⟩)) rfl (by kernel_rfl) (by kernel_rfl) (by kernel_rfl) (fun _ _ _ h => h) (Or.inl ⟨by rfl, fun Xw hSW => by go_simp <;> (intros; omega)⟩) hHeld ?_
      simp only [Act.put, List.setIfInBounds_toArray, List.set_cons_zero, List.set_cons_succ]
      refine wpAnyH_take (i := 5) (oi := ⟨some 48, _, _, _, _, _⟩) (v := .int .i64 (a : Int)) rfl (by kernel_rfl) (by kernel_rfl) (by kernel_rfl) (fun _ _ _ h => h) (Or.inl ⟨by rfl, fun Xw hSW => by go_simp⟩) hHeld ?_
      simp only [Act.put, List.setIfInBounds_toArray, List.set_cons_zero, List.set_cons_succ]
      refine wpAnyH_take (i := 6) (oi := ⟨some 49, _, _, _, _, _⟩) (v := .int .i64 ((a : Int) % 8)) rfl (by kernel_rfl) (by kernel_rfl) (by kernel_rfl) (fun _ _ _ h => h) (Or.inl ⟨by rfl, fun Xw hSW => by go_simp <;> first | rfl | exact Int.tmod_eq_emod_of_nonneg (by omega)⟩) hHeld ?_
      simp only [Act.put, List.setIfInBounds_toArray, List.set_cons_zero, List.set_cons_succ]
      refine wpAnyH_take (i := 7) (oi := ⟨some 50, _, _, _, _, _⟩) (v := .int .u8 (P : Int)) rfl (by kernel_rfl) (by kernel_rfl) (by kernel_rfl) (fun _ _ _ h => h) (Or.inl ⟨by rfl, fun Xw hSW => by go_simp <;> first | exact HPW.out | (rw [HPW.out]; done) | (simp only [HPW.out]; done)⟩) hHeld ?_
      simp only [Act.put, List.setIfInBounds_toArray, List.set_cons_zero, List.set_cons_succ]
      refine wpAnyH_ready (rs := [4]) (by kernel_rfl) (by simp) ?_
      refine AllReadyH.cons (o := ⟨some 47, _, _, _, _, _⟩) rfl (fun K hK => ?_) AllReadyH.nil
      go_simp
      refine hK.out _ _ (hHeld) (fun hHeld => ?_)
      clear hK K
      refine wpAnyH_take (i := 8) (oi := ⟨some 51, _, _, _, _, _⟩) (v := .int .u8 (y.toNat : Int)) rfl (by kernel_rfl) (by kernel_rfl) (by kernel_rfl) (fun _ _ _ h => h) (Or.inl ⟨by rfl, fun Xw hSW => by go_simp <;> exact HXY.out⟩) hHeld ?_
      simp only [Act.put, List.setIfInBounds_toArray, List.set_cons_zero, List.set_cons_succ]
      refine wpAnyH_take (i := 9) (oi := ⟨some 52, _, _, _, _, _⟩) (v := .pointer (some ⟨gb, d, none⟩)) rfl (by kernel_rfl) (by kernel_rfl) (by kernel_rfl) (fun _ _ _ h => h) (Or.inl ⟨by rfl, fun Xw hSW => by go_simp <;> (intros; omega)⟩) hHeld ?_
      simp only [Act.put, List.setIfInBounds_toArray, List.set_cons_zero, List.set_cons_succ]
      refine wpAnyH_ready (rs := [10]) (by kernel_rfl) (by simp) ?_
      refine AllReadyH.cons (o := ⟨none, _, _, _, _, _⟩) rfl (fun K hK => ?_) AllReadyH.nil
      go_simp
      refine hK.out _ _ (hHeld.trans (Fr.set _ _ _ _ rfl) (fun _ q => .inl q.symm)) (fun hHeld => ?_)
      clear hK K
      refine wpAnyH_done (by kernel_rfl) ?_ _
      refine NoPanic.normal ?_
      have HAT : Hid (BytesW.AtC (w2.drew.setCell ⟨gb, d, none⟩ (.int .u8 (y.toNat : Int))) (some ⟨gb, 0, none⟩) (X.set d y)) := Lib.hid (cells_store (w := w2.drew) hlt2 (fun i x hx => HCS.out i x hx))
      have HXL2 : Hid ((X.set d y).length = 512) := Lib.hid (by rw [List.length_set, HXL.out])
      have U3 := Lib.hid (hHeld.own U2.out (fun g hg e => hgb (by rw [own_g hg] at e; exact e)))
      have B3 := Lib.hid (B2.out.trans (hHeld.toBelow B2.out.size (fun b hb => by rw [hb]; exact hgbB)))
      refine HeldP.then_named (S := fun W => BytesW.AtC W (some ⟨gb, 0, none⟩) (X.set d y) ∧ RowG.Own encS TS W w.heap.size (.slice (some ⟨gu, 0, none⟩) K cu) (homes L) ∧ Below w.heap.size w W) ⟨HAT.out, U3.out, B3.out⟩ ?_
      clear HAT U3 B3 hHeld U2 B2 c0 hfz HCS
      rintro w3 ⟨hat, hu3, hb3⟩
      have HAT := Lib.hid hat
      have U3 := Lib.hid hu3
      have B3 := Lib.hid hb3
      have hfz := hu3.frozen i
      have hc := hu3.cell (i := i) (j := 0) (x := X) (u := .string ⟨X.toArray⟩) HX.out rfl
      rw [show i * encS.k + 0 = i from by have : encS.k = 1 := rfl; rw [this]; omega] at hc
      have hgl := (hu3.ge gu rfl).2
      clear hat hu3 hb3
      go_wp2_with ((with_reducible refine at_slot 56 ?_); refine Classical.byContradiction (fun hG => ?_))
      refine hG ?_
      clear hG
      refine BytesW.wp_strC rfl (.tmp 55) rfl (l := X.set d y) (by rw [HXL2.out]; rfl) HAT.out ?_
      obtain ⟨Z, hZ⟩ : ∃ Z : ByteArray, Z = ⟨(X.set d y).toArray⟩ := ⟨_, rfl⟩
      have HST := Lib.hid (store_text U3.out HX.out (X.set d y))
      rw [← hZ] at HST ⊢
      clear hZ
      go_wp2_with fail
      go_at_call 32
      refine calls_named (S := fun W => RowG.Own encS TS W w.heap.size (.slice (some ⟨gu, 0, none⟩) K cu) ((homes L).set i (X.set d y)) ∧ Below w.heap.size w W) ⟨HST.out.1, B3.out.trans ((Below.refl _ _).grown HST.out.2 B3.out.size (fun i hi => by
        injection hi with hi
        have := U3.out.ge gu rfl
        omega))⟩ fun w4 h4 => ?_
      have U4 := Lib.hid h4.1
      have B := Lib.hid h4.2
      clear h4 HST U3 B3
      refine ((Of_i hlo hhi (HTC.out.below B.out) U4.out.rd (by rw [List.length_set, homes_len, HKL.out])).mono (of_none HOF.out)).mono ?_
      rintro e w5 ⟨rfl, hb5⟩
      have B5 := Lib.hid (B.out.trans (hb5.mono B.out.size))
      clear hb5
      go_wp2_with fail
      go_at_call 15
      refine (works_c (HTZ.out.below B5.out)).mono ?_
      rintro e w6 ⟨rfl, hb6⟩
      have B6 := Lib.hid (B5.out.trans (hb6.mono B5.out.size))
      clear hb6
      go_wp2_with fail
      go_ret
      exact ⟨rfl, B6.out⟩
    · obtain ⟨q, rfl⟩ : ∃ q : Nat, r = (q : Int) := ⟨r.toNat, by omega⟩
      have hql : q < al := by omega
      clear hr0
      obtain ⟨i, hi⟩ : ∃ i, i = q / 4096 := ⟨_, rfl⟩
      obtain ⟨a, ha⟩ : ∃ a, a = q % 4096 := ⟨_, rfl⟩
      have hiK : i < K := by have := HAL.out; omega
      have hiI : (i : Int) < (K : Int) := by omega
      have ha4 : a < 4096 := by omega
      have hw1 : IntKind.i64.wrap ((q : Int) / 4096) = (i : Int) := by rw [IntKind.wrap_i64]; omega
      have hm1 : (q : Int) % 4096 = (a : Int) := by omega
      obtain ⟨d, hd⟩ : ∃ d, d = a / 8 := ⟨_, rfl⟩
      have hw2 : IntKind.i64.wrap ((a : Int) / 8) = (d : Int) := by rw [IntKind.wrap_i64]; omega
      have hd5 : d < 512 := by omega
      have hd5I : (d : Int) < 512 := by omega
      have hx := homes_at (L := L) (k := i) (by rw [HKL.out]; exact hiK)
      obtain ⟨X, hX⟩ : ∃ X, X = home (has L) i := ⟨_, rfl⟩
      rw [← hX] at hx
      have HXL := Lib.hid (show X.length = 512 by rw [hX]; exact home_len _ _)
      obtain ⟨x, hxd⟩ : ∃ x, X[d]? = some x := ⟨_, List.getElem?_eq_getElem (by rw [HXL.out]; exact hd5)⟩
      obtain ⟨y, hy⟩ : ∃ y, y = x ^^^ CrcP.pw true (a % 8) := ⟨_, rfl⟩
      have HOF : Hid (ofM N ((homes L).set i (X.set d y)) = none) := Lib.hid (by
        have := of_turned (L := L) (k := i) (at_ := a) (x := x) (by rw [HKL.out]; exact hiK) (by rw [← hX, ← hd]; exact hxd)
        rw [← hX, ← hd, ← hy, HLN.out] at this
        exact this)
      have HALL : Hid (∀ s ∈ (homes L).set i (X.set d y), s.length ≤ 9223372036854775807) := Lib.hid (fun s hs => by
        rcases List.mem_or_eq_of_mem_set hs with q | q
        · rw [homes_all s q]; omega
        · rw [q, List.length_set, HXL.out]; omega)
      obtain ⟨P, hP⟩ : ∃ P : Nat, P = 2 ^ (a % 8) := ⟨_, rfl⟩
      have HPW : Hid (IntKind.u8.wrap ((2 : Int) ^ (a % 8)) = (P : Int)) := Lib.hid (by rw [hP]; exact wrap_pow8 a)
      have HXY : Hid (bits .xor .u8 (x.toNat : Int) (P : Int) = (y.toNat : Int)) := Lib.hid (by
        rw [hP, hy, ← pw_nat (a % 8) (Nat.mod_lt _ (by omega))]
        exact CrcM.xor_byte _ _)
      have hc := U.out.cell (i := i) (j := 0) (x := X) (u := .string ⟨X.toArray⟩) hx rfl
      rw [show i * encS.k + 0 = i from by have : encS.k = 1 := rfl; rw [this]; omega] at hc
      have HX := Lib.hid hx
      have HXD := Lib.hid hxd
      clear hX hy hP hi ha hd hx hxd
      go_wp2_with ((with_reducible refine at_slot 40 ?_); refine Classical.byContradiction (fun hG => ?_))
      refine hG ?_
      clear hG
      refine BytesW.wp_bytes rfl (.tmp 39) rfl (l := X) rfl ?_ (by rw [HXL.out]; simp [maxLen])
      intro cb w2 cs hcs hcb1 hcb2 hcs1 hcs2 hb2 hlt2
      rw [HXL.out] at hcb1 hcs1 ⊢
      have HCS : Hid (∀ i x, X[i]? = some x → w2.cell? ⟨y1.heap.size, i, none⟩ = some (BytesW.bv x)) := Lib.hid (fun i x hx => (cell_of_row w2 y1.heap.size i cs _ _ hcs).trans (hcs2 i x hx))
      have hfz := fr_cells hcs (d := d) (by omega)
      have c0 := HCS.out d x HXD.out
      unfold BytesW.bv at c0
      have U2 := Lib.hid (U.out.below hb2)
      have B2 := Lib.hid (B1.out.trans (hb2.mono B1.out.size))
      have hgb : ¬ gu = y1.heap.size := by omega
      obtain ⟨gb, hgbe⟩ : ∃ gb, gb = y1.heap.size := ⟨_, rfl⟩
      have hgbB : w.heap.size ≤ gb := by rw [hgbe]; exact B1.out.size
      rw [← hgbe] at HCS hfz c0 hlt2 hgb ⊢
      clear hcs hcs2 hb2 U B1 hc hgbe hcs1
      go_wp2_with fail
      refine wp_region_noPanic ?_
      refine wp_region_held_drew (S := fun Xw => Fr (fun b => b = gb) w2 Xw) (by kernel_rfl) ((Fr.refl _ w2).drew) (fun hHeld => ?_)
      refine wpAnyH_take (i := 0) (oi := ⟨some 43, _, _, _, _, _⟩) (v := .slice (some ⟨gb, 0, none⟩) 512 cb) rfl (by kernel_rfl) (by kernel_rfl) (by kernel_rfl) (fun _ _ _ h => h) (Or.inl ⟨by rfl, fun Xw hSW => by go_simp⟩) hHeld ?_
      simp only [Act.put, List.setIfInBounds_toArray, List.set_cons_zero, List.set_cons_succ]
      refine wpAnyH_take (i := 1) (oi := ⟨some 44, _, _, _, _, _⟩) (v := .int .i64 (a : Int)) rfl (by kernel_rfl) (by kernel_rfl) (by kernel_rfl) (fun _ _ _ h => h) (Or.inl ⟨by rfl, fun Xw hSW => by go_simp⟩) hHeld ?_
      simp only [Act.put, List.setIfInBounds_toArray, List.set_cons_zero, List.set_cons_succ]
      refine wpAnyH_take (i := 2) (oi := ⟨some 45, _, _, _, _, _⟩) (v := .int .i64 (d : Int)) rfl (by kernel_rfl) (by kernel_rfl) (by kernel_rfl) (fun _ _ _ h => h) (Or.inl ⟨by rfl, fun Xw hSW => by go_simp⟩) hHeld ?_
      simp only [Act.put, List.setIfInBounds_toArray, List.set_cons_zero, List.set_cons_succ]
      refine wpAnyH_take (i := 3) (oi := ⟨some 46, _, _, _, _, _⟩) (v := .pointer (some ⟨gb, d, none⟩)) rfl (by kernel_rfl) (by kernel_rfl) (by kernel_rfl) (fun _ _ _ h => h) (Or.inl ⟨by rfl, fun Xw hSW => by go_simp <;> (intros; omega)⟩) hHeld ?_
      simp only [Act.put, List.setIfInBounds_toArray, List.set_cons_zero, List.set_cons_succ]
      refine wpAnyH_take (i := 5) (oi := ⟨some 48, _, _, _, _, _⟩) (v := .int .i64 (a : Int)) rfl (by kernel_rfl) (by kernel_rfl) (by kernel_rfl) (fun _ _ _ h => h) (Or.inl ⟨by rfl, fun Xw hSW => by go_simp⟩) hHeld ?_
      simp only [Act.put, List.setIfInBounds_toArray, List.set_cons_zero, List.set_cons_succ]
      refine wpAnyH_take (i := 6) (oi := ⟨some 49, _, _, _, _, _⟩) (v := .int .i64 ((a : Int) % 8)) rfl (by kernel_rfl) (by kernel_rfl) (by kernel_rfl) (fun _ _ _ h => h) (Or.inl ⟨by rfl, fun Xw hSW => by go_simp <;> first | rfl | exact Int.tmod_eq_emod_of_nonneg (by omega)⟩) hHeld ?_
      simp only [Act.put, List.setIfInBounds_toArray, List.set_cons_zero, List.set_cons_succ]
      refine wpAnyH_take (i := 7) (oi := ⟨some 50, _, _, _, _, _⟩) (v := .int .u8 (P : Int)) rfl (by kernel_rfl) (by kernel_rfl) (by kernel_rfl) (fun _ _ _ h => h) (Or.inl ⟨by rfl, fun Xw hSW => by go_simp <;> first | exact HPW.out | (rw [HPW.out]; done) | (simp only [HPW.out]; done)⟩) hHeld ?_
      simp only [Act.put, List.setIfInBounds_toArray, List.set_cons_zero, List.set_cons_succ]
      refine wpAnyH_ready (rs := [4]) (by kernel_rfl) (by simp) ?_
      refine AllReadyH.cons (o := ⟨some 47, _, _, _, _, _⟩) rfl (fun K hK => ?_) AllReadyH.nil
      go_simp
      refine hK.out _ _ (hHeld) (fun hHeld => ?_)
      clear hK K
      refine wpAnyH_take (i := 8) (oi := ⟨some 51, _, _, _, _, _⟩) (v := .int .u8 (y.toNat : Int)) rfl (by kernel_rfl) (by kernel_rfl) (by kernel_rfl) (fun _ _ _ h => h) (Or.inl ⟨by rfl, fun Xw hSW => by go_simp <;> exact HXY.out⟩) hHeld ?_
      simp only [Act.put, List.setIfInBounds_toArray, List.set_cons_zero, List.set_cons_succ]
      refine wpAnyH_take (i := 9) (oi := ⟨some 52, _, _, _, _, _⟩) (v := .pointer (some ⟨gb, d, none⟩)) rfl (by kernel_rfl) (by kernel_rfl) (by kernel_rfl) (fun _ _ _ h => h) (Or.inl ⟨by rfl, fun Xw hSW => by go_simp <;> (intros; omega)⟩) hHeld ?_
      simp only [Act.put, List.setIfInBounds_toArray, List.set_cons_zero, List.set_cons_succ]
      refine wpAnyH_ready (rs := [10]) (by kernel_rfl) (by simp) ?_
      refine AllReadyH.cons (o := ⟨none, _, _, _, _, _⟩) rfl (fun K hK => ?_) AllReadyH.nil
      go_simp
      refine hK.out _ _ (hHeld.trans (Fr.set _ _ _ _ rfl) (fun _ q => .inl q.symm)) (fun hHeld => ?_)
      clear hK K
      refine wpAnyH_done (by kernel_rfl) ?_ _
      refine NoPanic.normal ?_
      have HAT : Hid (BytesW.AtC (w2.drew.setCell ⟨gb, d, none⟩ (.int .u8 (y.toNat : Int))) (some ⟨gb, 0, none⟩) (X.set d y)) := Lib.hid (cells_store (w := w2.drew) hlt2 (fun i x hx => HCS.out i x hx))
      have HXL2 : Hid ((X.set d y).length = 512) := Lib.hid (by rw [List.length_set, HXL.out])
      have U3 := Lib.hid (hHeld.own U2.out (fun g hg e => hgb (by rw [own_g hg] at e; exact e)))
      have B3 := Lib.hid (B2.out.trans (hHeld.toBelow B2.out.size (fun b hb => by rw [hb]; exact hgbB)))
      refine HeldP.then_named (S := fun W => BytesW.AtC W (some ⟨gb, 0, none⟩) (X.set d y) ∧ RowG.Own encS TS W w.heap.size (.slice (some ⟨gu, 0, none⟩) K cu) (homes L) ∧ Below w.heap.size w W) ⟨HAT.out, U3.out, B3.out⟩ ?_
      clear HAT U3 B3 hHeld U2 B2 c0 hfz HCS
      rintro w3 ⟨hat, hu3, hb3⟩
      have HAT := Lib.hid hat
      have U3 := Lib.hid hu3
      have B3 := Lib.hid hb3
      have hfz := hu3.frozen i
      have hc := hu3.cell (i := i) (j := 0) (x := X) (u := .string ⟨X.toArray⟩) HX.out rfl
      rw [show i * encS.k + 0 = i from by have : encS.k = 1 := rfl; rw [this]; omega] at hc
      have hgl := (hu3.ge gu rfl).2
      clear hat hu3 hb3
      go_wp2_with ((with_reducible refine at_slot 56 ?_); refine Classical.byContradiction (fun hG => ?_))
      refine hG ?_
      clear hG
      refine BytesW.wp_strC rfl (.tmp 55) rfl (l := X.set d y) (by rw [HXL2.out]; rfl) HAT.out ?_
      obtain ⟨Z, hZ⟩ : ∃ Z : ByteArray, Z = ⟨(X.set d y).toArray⟩ := ⟨_, rfl⟩
      have HST := Lib.hid (store_text U3.out HX.out (X.set d y))
      rw [← hZ] at HST ⊢
      clear hZ
      go_wp2_with fail
      go_at_call 32
      refine calls_named (S := fun W => RowG.Own encS TS W w.heap.size (.slice (some ⟨gu, 0, none⟩) K cu) ((homes L).set i (X.set d y)) ∧ Below w.heap.size w W) ⟨HST.out.1, B3.out.trans ((Below.refl _ _).grown HST.out.2 B3.out.size (fun i hi => by
        injection hi with hi
        have := U3.out.ge gu rfl
        omega))⟩ fun w4 h4 => ?_
      have U4 := Lib.hid h4.1
      have B := Lib.hid h4.2
      clear h4 HST U3 B3
      refine ((Of_i hlo hhi (HTC.out.below B.out) U4.out.rd (by rw [List.length_set, homes_len, HKL.out])).mono (of_none HOF.out)).mono ?_
      rintro e w5 ⟨rfl, hb5⟩
      have B5 := Lib.hid (B.out.trans (hb5.mono B.out.size))
      clear hb5
      go_wp2_with fail
      go_at_call 15
      refine (works_c (HTZ.out.below B5.out)).mono ?_
      rintro e w6 ⟨rfl, hb6⟩
      have B6 := Lib.hid (B5.out.trans (hb6.mono B5.out.size))
      clear hb6
      go_wp2_with fail
      go_ret
      exact ⟨rfl, B6.out⟩
end FreW
end Go.Proofs.YtbnkaeigabifhaaDoor
