/-
  pack.Put.
-/
import Derived.Deep.RegionHeld3
import Derived.Test.YtdboebokjkkgkaaDoorPackPal
import Derived.Test.YtdboebokjkkgkaaDoorPackPuts
namespace Go.Proofs.YtdboebokjkkgkaaDoor
open Go.RowKit
set_option linter.unusedVariables false
set_option linter.unusedSimpArgs false
namespace PackW
open BytesW RunsW

/-- What Put answers of a chunk. -/
def putA (k : Ck) : List UInt8 × Int := if can k then (putC k, 0) else ([], 2)
def PutP (w : World) (R : List UInt8 × Int) (e : Ending) (w' : World) : Prop := ∃ v, e = .returned (.tuple #[v, .int .i64 R.2]) ∧ BytesW.Own w' w.heap.size v R.1 ∧ Below w.heap.size w w'

set_option maxRecDepth 100000 in
set_option maxHeartbeats 40000000 in
theorem put6_c {w : World} {p : Nat} {k : Ck} {R : List UInt8 × Int} (hT : KindW.Tab w) (hk : ChkK w p k) (hR : putA k = R) :
    Calls Tryd.prog 12 #[.pointer (some ⟨p, 0, none⟩)] w (PutP w R) := by
  have HR := Lib.hid hR
  have HT := Lib.hid hT
  have HK := Lib.hid hk
  clear hR hT hk
  rcases hcan : can k with _ | _
  · have HC := Lib.hid hcan
    have HRR : Hid (R = ([], 2)) := Lib.hid (by rw [← HR.out, putA, hcan]; rfl)
    clear hcan
    go_enter Tryd.func12, Tryd.ntmps12
    go_wp2_with (go_at_call 21; refine (may6_c HT.out HK.out HC.out).mono ?_; rintro e w1 ⟨rfl, hb1⟩)
    go_ret2
    have h := HRR.out
    subst h
    exact ⟨_, rfl, Own.nil _ _, hb1⟩
  · have HC := Lib.hid hcan
    have HRR : Hid (R = (putC k, 0)) := Lib.hid (by rw [← HR.out, putA, hcan]; rfl)
    have hcan2 := hcan
    simp only [can, Bool.and_eq_true] at hcan2
    obtain ⟨⟨hcc, hcl⟩, hct⟩ := hcan2
    obtain ⟨C, L, ts⟩ := k
    simp only at hcc hcl hct
    obtain ⟨TA, tc, hck, hta, htc, htm, htl⟩ := HK.out
    simp only at hck hta htc
    have HCC := Lib.hid hcc
    have HCT := Lib.hid hct
    have HCK := Lib.hid hck
    have HTA := Lib.hid hta
    have HPL := Lib.hid (putC_len hcan hck.2.1 hck.2.2)
    obtain ⟨n, hn⟩ : ∃ n, n = ts.length := ⟨_, rfl⟩
    rw [← hn] at hck htc
    have HN := Lib.hid hn
    have HCK := Lib.hid hck
    clear hcan hcc hcl hct hck hta hn htl htm
    go_enter Tryd.func12, Tryd.ntmps12
    go_wp2_with (go_at_call 21; refine (may6_c HT.out HK.out HC.out).mono ?_; rintro e w1 ⟨rfl, hb1⟩)
    have HK1 := Lib.hid (HCK.out.below hb1)
    have HB1 := Lib.hid hb1
    clear hb1
    go_at_call 22
    refine (paletteOf_c HK1.out.atC HCK.out.2.1 HCC.out).mono ?_
    rintro e w2 ⟨vp, vq, rfl, hownp, hownq, hb2⟩
    obtain ⟨PA, pc, rfl, hpa, hpc, hpm⟩ := hownp.pairs
    obtain ⟨QA, qc, rfl, hqa, hqc, hqm⟩ := hownq.sl
    have HK2 := Lib.hid (HK1.out.below hb2)
    have HTA2 := Lib.hid ((HTA.out.below HB1.out).below hb2)
    have HB2 := Lib.hid (below_m HB1.out hb2)
    have HPA := Lib.hid hpa
    have HQA := Lib.hid hqa
    obtain ⟨P, hP⟩ : ∃ P, P = pal [] C := ⟨_, rfl⟩
    obtain ⟨PL, hPL⟩ : ∃ PL, PL = places C := ⟨_, rfl⟩
    have hP4 : P.length ≤ 40 := by rw [hP]; exact pal_le HCC.out
    have hPL4 : PL.length = 4096 := by rw [hPL]; simp [places, HCK.out.2.1]
    obtain ⟨la, hla⟩ : ∃ la, la = palB P := ⟨_, rfl⟩
    obtain ⟨lb, hlb⟩ : ∃ lb, lb = putR PL := ⟨_, rfl⟩
    obtain ⟨lc, hlc⟩ : ∃ lc, lc = L.map lnum := ⟨_, rfl⟩
    obtain ⟨ld, hld⟩ : ∃ ld, ld = putR lc := ⟨_, rfl⟩
    obtain ⟨le, hle⟩ : ∃ le, le = tksB ts := ⟨_, rfl⟩
    have hlc4 : lc.length = 4096 := by rw [hlc]; simp [HCK.out.2.2]
    have HALL : Hid (la ++ lb ++ ld ++ le = R.1 ∧ R.2 = 0) := Lib.hid (by
      rw [HRR.out, hla, hlb, hld, hlc, hle, hP, hPL]
      exact ⟨rfl, rfl⟩)
    have HLEN : Hid ((la ++ lb ++ ld ++ le).length ≤ 65536) := Lib.hid (by
      have h := HPL.out
      rw [HALL.out.1, HRR.out]
      exact h)
    rw [← hP, ← hPL]
    rw [← hP] at HPA
    rw [← hPL] at HQA
    have HCA : Hid (∀ W, Below w2.heap.size w2 W → Calls Tryd.prog 24 #[.slice PA P.length pc] W (Gives W la)) := Lib.hid (fun W h => by rw [hla]; exact paletteBytes_c (HPA.out.below h) (by omega))
    have HCB : Hid (∀ W, Below w2.heap.size w2 W → Calls Tryd.prog 25 #[.slice QA PL.length qc] W (Gives W lb)) := Lib.hid (fun W h => by rw [hlb]; exact put5_c (HQA.out.below h).c (by rw [hPL]; exact hqc) (by omega))
    have HCC2 : Hid (∀ W, Below w2.heap.size w2 W → Calls Tryd.prog 26 #[.pointer (some ⟨p, 8192, none⟩)] W (Gives W lc)) := Lib.hid (fun W h => by rw [hlc]; exact numbers_c (HK2.out.below h).atL HCK.out.2.2)
    have HCD : Hid (∀ W A c, BytesW.Own W w2.heap.size (.slice A lc.length c) lc → Calls Tryd.prog 25 #[.slice A lc.length c] W (Gives W ld)) := Lib.hid (fun W A c h => by
      obtain ⟨A', c', e, h1, h2, _⟩ := h.sl
      injection e with e1 e2 e3
      subst e1 e3
      rw [hld]
      exact put5_c h1.c h2 (by omega))
    have HCE : Hid (∀ W, Below w2.heap.size w2 W → Calls Tryd.prog 27 #[.slice TA n tc] W (Gives W le)) := Lib.hid (fun W h => by rw [hle, HN.out]; exact tickBytes_c (HTA2.out.below h) HCT.out)
    have HCC := HCC2
    have hz2 := HB2.out.size
    clear hla hlb hlc hld hle hP hPL hP4 hPL4 hlc4 hpa hqa hpc hqc hpm hqm hownp hownq hb2 HCC2
    go_wp2_with fail
    refine wp_region_noPanic ?_
    refine wp_region_held_drew (S := fun w' => Below w2.heap.size w2 w') (by kernel_rfl) ((Below.refl _ w2).drew) (fun hHeld => ?_)
    refine wpAnyH_take (i := 0) (oi := ⟨some 18, _, _, _, _, _⟩) (v := .slice PA P.length pc) rfl (by kernel_rfl) (by kernel_rfl) (by kernel_rfl) (fun _ _ _ h => h) (Or.inl ⟨by rfl, fun W hSW => by go_simp⟩) hHeld ?_
    simp only [Act.put, List.setIfInBounds_toArray, List.set_cons_zero, List.set_cons_succ]
    refine wpAnyH_take (i := 2) (oi := ⟨some 20, _, _, _, _, _⟩) (v := .slice QA PL.length qc) rfl (by kernel_rfl) (by kernel_rfl) (by kernel_rfl) (fun _ _ _ h => h) (Or.inl ⟨by rfl, fun W hSW => by go_simp⟩) hHeld ?_
    simp only [Act.put, List.setIfInBounds_toArray, List.set_cons_zero, List.set_cons_succ]
    refine wpAnyH_take (i := 4) (oi := ⟨some 22, _, _, _, _, _⟩) (v := .pointer (some ⟨p, 0, none⟩)) rfl (by kernel_rfl) (by kernel_rfl) (by kernel_rfl) (fun _ _ _ h => h) (Or.inl ⟨by rfl, fun W hSW => by go_simp⟩) hHeld ?_
    simp only [Act.put, List.setIfInBounds_toArray, List.set_cons_zero, List.set_cons_succ]
    refine wpAnyH_take (i := 5) (oi := ⟨some 23, _, _, _, _, _⟩) (v := .pointer (some ⟨p, 0, none⟩)) rfl (by kernel_rfl) (by kernel_rfl) (by kernel_rfl) (fun _ _ _ h => h) (Or.inl ⟨by rfl, fun W hSW => by go_simp⟩) hHeld ?_
    simp only [Act.put, List.setIfInBounds_toArray, List.set_cons_zero, List.set_cons_succ]
    refine wpAnyH_take (i := 6) (oi := ⟨some 24, _, _, _, _, _⟩) (v := .pointer (some ⟨p, 8192, none⟩)) rfl (by kernel_rfl) (by kernel_rfl) (by kernel_rfl) (fun _ _ _ h => h) (Or.inl ⟨by rfl, fun W hSW => by go_simp⟩) hHeld ?_
    simp only [Act.put, List.setIfInBounds_toArray, List.set_cons_zero, List.set_cons_succ]
    refine wpAnyH_take (i := 9) (oi := ⟨some 27, _, _, _, _, _⟩) (v := .pointer (some ⟨p, 0, none⟩)) rfl (by kernel_rfl) (by kernel_rfl) (by kernel_rfl) (fun _ _ _ h => h) (Or.inl ⟨by rfl, fun W hSW => by go_simp⟩) hHeld ?_
    simp only [Act.put, List.setIfInBounds_toArray, List.set_cons_zero, List.set_cons_succ]
    refine wpAnyH_take (i := 10) (oi := ⟨some 28, _, _, _, _, _⟩) (v := .pointer (some ⟨p, 0, none⟩)) rfl (by kernel_rfl) (by kernel_rfl) (by kernel_rfl) (fun _ _ _ h => h) (Or.inl ⟨by rfl, fun W hSW => by go_simp⟩) hHeld ?_
    simp only [Act.put, List.setIfInBounds_toArray, List.set_cons_zero, List.set_cons_succ]
    refine wpAnyH_take (i := 11) (oi := ⟨some 29, _, _, _, _, _⟩) (v := .pointer (some ⟨p, 16384, none⟩)) rfl (by kernel_rfl) (by kernel_rfl) (by kernel_rfl) (fun _ _ _ h => h) (Or.inl ⟨by rfl, fun W hSW => by go_simp⟩) hHeld ?_
    simp only [Act.put, List.setIfInBounds_toArray, List.set_cons_zero, List.set_cons_succ]
    refine wpAnyH_take (i := 12) (oi := ⟨some 30, _, _, _, _, _⟩) (v := .slice TA n tc) rfl (by kernel_rfl) (by kernel_rfl) (by kernel_rfl) (fun _ _ _ h => h) (Or.inl ⟨by rfl, fun W hSW => by have c := (HK2.out.below hSW).t; go_simp⟩) hHeld ?_
    simp only [Act.put, List.setIfInBounds_toArray, List.set_cons_zero, List.set_cons_succ]
    have hS : Below w2.heap.size w2 w2.drew := (Below.refl _ w2).drew
    refine wpAnyH_ready (rs := [1]) (by kernel_rfl) (by simp) ?_
    refine AllReadyH.cons (o := ⟨some 19, _, _, _, _, _⟩) rfl (fun K hK => ?_) AllReadyH.nil
    go_simp
    refine (HCA.out _ hS).mono ?_
    rintro e W1 ⟨va, rfl, ha0, hbb⟩
    replace ha0 := ha0.mono hS.size
    obtain ⟨Aa, ca, rfl, hAa, hca, hma⟩ := ha0.sl
    have ha := ha0
    replace hS := below_m hS hbb
    refine hK.out _ _ hS (fun _ => ?_)
    clear hK K hbb hAa hca hma ha0
    refine wpAnyH_ready (rs := [3]) (by kernel_rfl) (by simp) ?_
    refine AllReadyH.cons (o := ⟨some 21, _, _, _, _, _⟩) rfl (fun K hK => ?_) AllReadyH.nil
    go_simp
    refine (HCB.out _ hS).mono ?_
    rintro e W2 ⟨vb, rfl, hb0, hbb⟩
    replace hb0 := hb0.mono hS.size
    obtain ⟨Ab, cb, rfl, hAb, hcb, hmb⟩ := hb0.sl
    replace ha := ha.below hbb
    have hb := hb0
    replace hS := below_m hS hbb
    refine hK.out _ _ hS (fun _ => ?_)
    clear hK K hbb hAb hcb hmb hb0
    refine wpAnyH_ready (rs := [7]) (by kernel_rfl) (by simp) ?_
    refine AllReadyH.cons (o := ⟨some 25, _, _, _, _, _⟩) rfl (fun K hK => ?_) AllReadyH.nil
    go_simp
    refine (HCC.out _ hS).mono ?_
    rintro e W3 ⟨vc, rfl, hc0, hbb⟩
    replace hc0 := hc0.mono hS.size
    obtain ⟨Ac, cc, rfl, hAc, hcc, hmc⟩ := hc0.sl
    replace ha := ha.below hbb
    replace hb := hb.below hbb
    replace hS := below_m hS hbb
    refine hK.out _ _ hS (fun _ => ?_)
    clear hK K hbb hAc hcc hmc
    refine wpAnyH_ready (rs := [8]) (by kernel_rfl) (by simp) ?_
    refine AllReadyH.cons (o := ⟨some 26, _, _, _, _, _⟩) rfl (fun K hK => ?_) AllReadyH.nil
    go_simp
    refine (HCD.out _ _ _ hc0).mono ?_
    rintro e W4 ⟨vd, rfl, hd0, hbb⟩
    replace hd0 := hd0.mono hS.size
    obtain ⟨Ad, cd, rfl, hAd, hcd, hmd⟩ := hd0.sl
    replace ha := ha.below hbb
    replace hb := hb.below hbb
    have hd := hd0
    replace hS := below_m hS hbb
    refine hK.out _ _ hS (fun _ => ?_)
    clear hK K hbb hAd hcd hmd hd0
    refine wpAnyH_ready (rs := [13]) (by kernel_rfl) (by simp) ?_
    refine AllReadyH.cons (o := ⟨some 31, _, _, _, _, _⟩) rfl (fun K hK => ?_) AllReadyH.nil
    go_simp
    refine (HCE.out _ hS).mono ?_
    rintro e W5 ⟨ve, rfl, he0, hbb⟩
    replace he0 := he0.mono hS.size
    obtain ⟨Ae, ce, rfl, hAe, hce, hme⟩ := he0.sl
    replace ha := ha.below hbb
    replace hb := hb.below hbb
    replace hd := hd.below hbb
    have he := he0
    replace hS := below_m hS hbb
    refine hK.out _ _ hS (fun _ => ?_)
    clear hK K hbb hAe hce hme he0
    refine wpAnyH_ready (rs := [14]) (by kernel_rfl) (by simp) ?_
    refine AllReadyH.cons (o := ⟨some 32, _, _, _, _, _⟩) rfl (fun K hK => ?_) AllReadyH.nil
    go_simp
    have hbl : Below W5.heap.size W5 (W5.alloc (.cells #[.slice Aa la.length ca, .slice Ab lb.length cb, .slice Ad ld.length cd, .slice Ae le.length ce] 26)) := (Below.refl _ _).alloc (Nat.le_refl _) _
    obtain ⟨ps, hps⟩ : ∃ ps : List (Value × List UInt8), ps = [(.slice Aa la.length ca, la), (.slice Ab lb.length cb, lb), (.slice Ad ld.length cd, ld), (.slice Ae le.length ce, le)] := ⟨_, rfl⟩
    have hcat : cat ps = R.1 := by
      rw [hps, ← HALL.out.1]
      simp [cat]
    have hcl : (cat ps).length ≤ 1000000 := by
      have h := HLEN.out
      rw [HALL.out.1] at h
      rw [hcat]
      omega
    have hsl : ∀ q ∈ ps, Sl (W5.alloc (.cells #[.slice Aa la.length ca, .slice Ab lb.length cb, .slice Ad ld.length cd, .slice Ae le.length ce] 26)) q.1 q.2 := fun q hq => by
      rw [hps] at hq
      simp only [List.mem_cons, List.not_mem_nil, or_false] at hq
      rcases hq with rfl | rfl | rfl | rfl
      · exact ha.sl.below hbl
      · exact hb.sl.below hbl
      · exact hd.sl.below hbl
      · exact he.sl.below hbl
    have hcell : ∀ (i : Nat) q, ps[i]? = some q → (W5.alloc (.cells #[.slice Aa la.length ca, .slice Ab lb.length cb, .slice Ad ld.length cd, .slice Ae le.length ce] 26)).cell? ⟨W5.heap.size, 0 + i, none⟩ = some q.1 := fun i q hq => by
      rw [Nat.zero_add, World.cell?_alloc_new]
      rw [hps] at hq
      match i, hq with
      | 0, hq => simp only [List.getElem?_cons_zero, Option.some.injEq] at hq; subst hq; rfl
      | 1, hq => simp only [List.getElem?_cons_succ, List.getElem?_cons_zero, Option.some.injEq] at hq; subst hq; rfl
      | 2, hq => simp only [List.getElem?_cons_succ, List.getElem?_cons_zero, Option.some.injEq] at hq; subst hq; rfl
      | 3, hq => simp only [List.getElem?_cons_succ, List.getElem?_cons_zero, Option.some.injEq] at hq; subst hq; rfl
      | i + 4, hq => simp at hq
    have hS6 := below_m hS hbl
    refine hK.out _ _ hS6 (fun _ => ?_)
    clear hK K
    refine wpAnyH_ready (rs := [15]) (by kernel_rfl) (by simp) ?_
    refine AllReadyH.cons (o := ⟨some 33, _, _, _, _, _⟩) rfl (fun K hK => ?_) AllReadyH.nil
    go_simp
    refine (concat_c (ps := ps) (g := W5.heap.size) (o := 0) (by rw [hps]; rfl) (by omega) (by simp) hcell hsl hcl).mono ?_
    rintro e W6 ⟨v6, rfl, hown6, hb6⟩
    rw [hcat] at hown6
    have hS7 := below_m hS6 hb6
    have HO6 := Lib.hid (hown6.mono (B' := w.heap.size) (by have := hS6.size; omega))
    have HB6 := Lib.hid (below_m HB2.out hS7)
    refine hK.out _ _ hS7 (fun hHeld => ?_)
    clear hK K hsl hcell hcl hcat hS6 hbl hS hb6 hown6 hps
    refine wpAnyH_take (i := 16) (oi := ⟨some 2, _, _, _, _, _⟩) (v := v6) rfl (by kernel_rfl) (by kernel_rfl) (by kernel_rfl) (fun _ _ _ h => h) (Or.inl ⟨by rfl, fun W hSW => by go_simp⟩) hHeld ?_
    simp only [Act.put, List.setIfInBounds_toArray, List.set_cons_zero, List.set_cons_succ]
    refine wpAnyH_take (i := 17) (oi := ⟨some 3, _, _, _, _, _⟩) (v := .int .i64 0) rfl (by kernel_rfl) (by kernel_rfl) (by kernel_rfl) (fun _ _ _ h => h) (Or.inl ⟨by rfl, fun W hSW => by go_simp⟩) hHeld ?_
    simp only [Act.put, List.setIfInBounds_toArray, List.set_cons_zero, List.set_cons_succ]
    refine wpAnyH_done (by kernel_rfl) ?_ _
    refine NoPanic.normal ?_
    go_wp2_with fail
    go_ret2
    exact ⟨_, by rw [HALL.out.2]; rfl, HO6.out, HB6.out⟩

set_option maxRecDepth 100000 in
theorem putNil_c (w : World) : Calls Tryd.prog 12 #[.pointer none] w fun e w' => e = .returned (.tuple #[.slice none 0 0, .int .i64 1]) ∧ Below w.heap.size w w' := by
  go_enter Tryd.func12, Tryd.ntmps12
  go_wp2_with fail
  go_ret2
  exact ⟨rfl, Below.refl _ _⟩
end PackW
end Go.Proofs.YtdboebokjkkgkaaDoor


/-
  Chunks of one cell and one light; works.
-/
namespace Go.Proofs.YtdboebokjkkgkaaDoor
open Go.RowKit
open Go.Lib (uvarint uvarint_small uvarint_big uvarint_length64 uvarint_pos zigzag)
set_option linter.unusedVariables false
set_option linter.unusedSimpArgs false
namespace PackW
open BytesW RunsW

theorem pal_same : ∀ (n : Nat) (c : Cell), pal [c] (List.replicate n c) = [c]
  | 0, c => rfl
  | n + 1, c => by
    rw [List.replicate_succ, pal, if_pos (by simp), pal_same n c]
theorem pal_one (n : Nat) (c : Cell) : pal [] (List.replicate (n + 1) c) = [c] := by
  rw [List.replicate_succ, pal, if_neg (by simp)]
  exact pal_same n c
theorem putR_one {n : Nat} (hn : 1 ≤ n) (x : UInt8) : putR (List.replicate n x) = uvarint n ++ [x] := by
  have := putR_rep (x := x) (r := []) hn (by simp)
  rw [List.append_nil] at this
  exact this
theorem uv4096 : uvarint 4096 = [128, 32] := by
  rw [uvarint_big (by omega), uvarint_small (by omega)]
  rfl
/-- The bytes of a chunk of one cell and one light. -/
theorem put_one (c l : Cell) : putC ⟨List.replicate 4096 c, List.replicate 4096 l, []⟩ = [1, c.1, c.2, 128, 32, 0, 128, 32, lnum l, 0] := by
  have hp : pal [] (List.replicate 4096 c) = [c] := pal_one 4095 c
  have hq : places (List.replicate 4096 c) = List.replicate 4096 0 := by
    rw [places, hp, List.map_replicate]
    simp
  simp only [putC, hp, hq, List.map_replicate]
  rw [putR_one (by omega), putR_one (by omega), uv4096]
  simp [palB, flat, tksB, tkB, uvarint_small]
theorem can_one {c l : Cell} (hc : mayC c = true) (hl : mayL l = true) : can ⟨List.replicate 4096 c, List.replicate 4096 l, []⟩ = true := by
  simp only [can, mayT, Bool.and_true, Bool.and_eq_true]
  exact ⟨List.all_eq_true.2 fun x hx => by rw [(List.mem_replicate.1 hx).2]; exact hc, List.all_eq_true.2 fun x hx => by rw [(List.mem_replicate.1 hx).2]; exact hl⟩
theorem can_zero : can ⟨zeros, zeros, []⟩ = true := can_one (by decide) (by decide)
theorem put_zero : putA ⟨zeros, zeros, []⟩ = ([1, 0, 0, 128, 32, 0, 128, 32, 0, 0], 0) := by
  rw [putA, if_pos can_zero]
  unfold zeros
  rw [put_one]
  rfl
theorem ChkK.new {w : World} {p : Nat} (h : Chk w p zeros zeros (.slice none 0 0)) : ChkK w p ⟨zeros, zeros, []⟩ := ⟨none, 0, h, PairC.nil, by simp, by simp [maxLen], by simp⟩

set_option maxRecDepth 100000 in
set_option maxHeartbeats 4000000 in
theorem works_c {w : World} (hT : KindW.Tab w) : Calls Tryd.prog 15 #[] w fun e w' => e = .returned (.bool true) ∧ Below w.heap.size w w' := by
  have HT := Lib.hid hT
  obtain ⟨bs, hbs⟩ : ∃ bs : List UInt8, bs = [1, 0, 0, 128, 32, 0, 128, 32, 0, 0] := ⟨_, rfl⟩
  have HPUT : Hid (∀ (w : World) (p : Nat), KindW.Tab w → ChkK w p ⟨zeros, zeros, []⟩ → Calls Tryd.prog 12 #[.pointer (some ⟨p, 0, none⟩)] w (PutP w (bs, 0))) := Lib.hid (fun w p h1 h2 => put6_c h1 h2 (by rw [hbs]; exact put_zero))
  have HBS := Lib.hid hbs
  clear hT hbs
  go_enter Tryd.func15, Tryd.ntmps15
  go_wp2_with (first
    | ((with_reducible refine at_slot 4 ?_); refine wp_build rfl rfl ?_)
    | ((with_reducible refine at_slot 5 ?_); refine wp_box rfl (.tmp 4) rfl rfl ?_; intro w1 hk1 hb1 hz1)
    | (go_at_call 12; refine (HPUT.out _ _ (HT.out.below hb1) (ChkK.new hk1)).mono ?_; rintro e w2 ⟨v2, rfl, hown2, hb2⟩; dsimp only at hown2; obtain ⟨A2, c2, rfl, hA2, hc2, hm2⟩ := hown2.sl; have hbb := below_m hb1 hb2; have r13 : (convert 26 9 (.slice A2 bs.length c2)).run Tryd.prog w2 = .ok (.string ⟨#[1, 0, 0, 128, 32, 0, 128, 32, 0, 0]⟩) w2 := (by rw [run_str w2 c2 hA2, HBS.out])))
  go_ret
  exact ⟨rfl, hbb⟩
end PackW
end Go.Proofs.YtdboebokjkkgkaaDoor
