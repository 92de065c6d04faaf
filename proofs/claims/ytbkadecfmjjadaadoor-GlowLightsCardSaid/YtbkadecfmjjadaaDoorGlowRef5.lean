/-
  The reference's Light and Same.
-/
import Derived.Test.YtbkadecfmjjadaaDoorGlowRef4
import Derived.Deep.RegionHeld3
namespace Go.Proofs.YtbkadecfmjjadaaDoor
open Go.RowKit
set_option linter.unusedVariables false
set_option linter.unusedSimpArgs false
namespace GlowW
open BlkP RowG KindP KindW
def v2c (y : Nat × Nat) : Array Value := #[.int .u8 (y.1 : Int), .int .u8 (y.2 : Int)]
/-- append(v, y): a light more. -/
theorem run_pushL {w0 : World} {B : Nat} {v : Value} {l : List (Nat × Nat)} {y : Nat × Nat} (hown : RowG.Own enc2 37 w0 B v l) (hl : l.length ≤ 1000000) (hB : B ≤ w0.heap.size) (ty : TypeId) :
    ∃ v' w', (Builtin.append_ #[28, 28] ty #[v, .slice (some ⟨w0.heap.size, 0, none⟩) 1 1]).run Tryd.prog (w0.alloc (.cells (v2c y) 37)) = .ok v' w' ∧
      RowG.Own enc2 37 w' B v' (l ++ [y]) ∧ w0.grownBy w' v.ownBlock := by
  obtain ⟨i, hi, hz, hs1, hby⟩ := info_parts infoLight
  have hm : maxLen = 9223372036854775807 := rfl
  have hown2 : (w0.alloc (.cells (v2c y) 37)).ownsRow B 37 2 v l.length (flat enc2 l) := hown.alloc _
  have hc0 : (w0.alloc (.cells (v2c y) 37)).cell? ⟨w0.heap.size, 0, none⟩ = some (u8v y.1) := (cell_of_row _ _ _ _ _ _ (heap_alloc_new w0 _)).trans rfl
  have hc1 : (w0.alloc (.cells (v2c y) 37)).cell? ⟨w0.heap.size, 1, none⟩ = some (u8v y.2) := (cell_of_row _ _ _ _ _ _ (heap_alloc_new w0 _)).trans rfl
  obtain ⟨v', w', hr, h2, h3, _, _⟩ := run_append_own_at (P := Tryd.prog) (w0.alloc (.cells (v2c y) 37)) B 28 ty 37 i _ 2 2 underLights hi hz hs1 hby rfl (by omega) v l.length (flat enc2 l) hown2 ⟨w0.heap.size, 0, none⟩ 1 1 [u8v y.1, u8v y.2] rfl (fun j u hu => by
    match j, hu with
    | 0, hu =>
      have : u8v y.1 = u := by simpa using hu
      subst this
      exact hc0
    | 1, hu =>
      have : u8v y.2 = u := by simpa using hu
      subst this
      exact hc1) (fun u hu => by
    simp only [List.mem_cons, List.not_mem_nil, or_false] at hu
    rcases hu with rfl | rfl <;> rfl) (by omega) (by omega) (by simp; omega)
  have ho : RowG.Own enc2 37 w' B v' (l ++ [y]) := by
    unfold RowG.Own
    rw [flat_app, List.length_append]
    exact h2
  exact ⟨v', w', hr, ho, World.grownBy.trans (World.grownBy_alloc w0 _ _) h3⟩
section
variable {w0 : World} {ops : Array Oper} {rest : List Oper} {o : Oper} {a : Act} {Q : Exit → Act → World → Prop}
theorem step_pushL {K : Act → World → Prop} {E : Prop} {W : World} (hgd : o.guard = none) (s x : Operand) (ho : o.op = .call { callee := .builtin .append, args := #[s, x], argTypes := #[28, 28] }) {B : Nat} {v : Value} {l : List (Nat × Nat)} {y : Nat × Nat}
    (hW : W = w0.alloc (.cells (v2c y) 37)) (hs : a.eval s = v) (hown : RowG.Own enc2 37 w0 B v l) (hx : a.eval x = .slice (some ⟨w0.heap.size, 0, none⟩) 1 1) (hl : l.length ≤ 1000000) (hB : B ≤ w0.heap.size)
    (h : ∀ g c w', RowG.Own enc2 37 w' B (.slice g (l.length + 1) c) (l ++ [y]) → w0.grownBy w' v.ownBlock → K (a.put o.dst (.slice g (l.length + 1) c)) w') :
    if Region.wanted o (yielded ops a.tmps) = true then Oper.wp Tryd.prog o a W K Q else E := by
  subst hW
  have hw : Region.wanted o (yielded ops a.tmps) = true := by simp [Region.wanted, hgd]
  rw [if_pos hw]
  obtain ⟨v', w', hr, h2, h3⟩ := run_pushL (y := y) hown hl hB o.type
  obtain ⟨A, c, rfl, _, _, _⟩ := h2.form (n := l.length + 1) (by simp)
  unfold Oper.wp execOp
  simp only [ho, resolve, invoke, builtin, Sem.run_bind, Sem.run_pure, Result.andThen_ok, List.map_toArray, List.map_cons, List.map_nil, hs, hx, hr]
  exact h A c w' h2 h3
end
theorem r_lamp_b {k l v : Nat} (h : lamp k l = v) (w : World) : Calls Tryd.prog 30 #[.agg #[.int .u8 k, .int .u8 l]] w fun e w' => e = .returned (.int .u8 v) ∧ Below w.heap.size w w' := h ▸ r_lamp k l w
theorem small8 {a : Nat} (h : a ≤ 15) : IntKind.u8.wrap (a : Int) = (a : Int) := by rw [IntKind.wrap_u8]; omega
def OutRel (w7 : World) (n : Nat) (ls : List (Nat × Nat)) (v8 v9 : Value) (W : World) : Prop := ∃ j : Nat, v9 = .int .i64 j ∧ j ≤ n ∧ RowG.Own enc2 37 W w7.heap.size v8 (ls.take j) ∧ Below w7.heap.size w7 W
def OwnL (w : World) (ls : List (Nat × Nat)) (e : Ending) (w' : World) : Prop := ∃ v, e = .returned v ∧ RowG.Own enc2 37 w' w.heap.size v ls ∧ Below w.heap.size w w'
set_option maxRecDepth 100000 in
set_option maxHeartbeats 16000000 in
theorem rlight_c {w : World} {X Y Z n c bb oo : Nat} {cs : List (Nat × Nat)} (hX : 1 ≤ X ∧ X ≤ 256) (hY : 1 ≤ Y ∧ Y ≤ 256) (hZ : 1 ≤ Z ∧ Z ≤ 256) (hn : X * Y * Z = n) (hn2 : n ≤ 6000)
    (hR : Rd enc2 w (.slice (some ⟨bb, oo, none⟩) n c) cs) (hcs : n = cs.length) :
    Calls Tryd.prog 15 #[.agg #[.int .i64 X, .int .i64 Y, .int .i64 Z, .slice (some ⟨bb, oo, none⟩) n c]] w (OwnL w (lightA X Y Z cs)) := by
  have HN := Lib.hid hn
  have HR := Lib.hid hR
  have HC := Lib.hid hcs
  obtain ⟨ls, hls⟩ : ∃ ls, lightA X Y Z cs = ls := ⟨_, rfl⟩
  obtain ⟨LS, hLS⟩ : ∃ L, rdL X Y Z n (cs.map openA) (skyL X Y Z (cs.map openA)) 15 = L := ⟨_, rfl⟩
  obtain ⟨LM, hLM⟩ : ∃ L, rdL X Y Z n (cs.map openA) (cs.map lampA) 15 = L := ⟨_, rfl⟩
  have HLS := Lib.hid hLS
  have HLM := Lib.hid hLM
  have HLL := Lib.hid (show ls.length = n by rw [← hls, lightA_len, hn])
  have HLINK := Lib.hid (show ∀ (j a b : Nat), ls[j]? = some (a, b) → LS[j]? = some a ∧ LM[j]? = some b from fun j a b h => by
    rw [← hls] at h
    obtain ⟨hj, e⟩ := lightA_get h
    rw [hn] at hj
    injection e with e1 e2
    rw [← hLS, ← hLM, rdL_get hj, rdL_get hj, e1, e2]
    exact ⟨rfl, rfl⟩)
  have HTOP := Lib.hid (show ∀ (j a b : Nat), ls[j]? = some (a, b) → a ≤ 15 ∧ b ≤ 15 from fun j a b h => (steps_q X Y Z cs).top j (a, b) (by rw [hls]; exact h))
  have HSK := Lib.hid (show ∀ i, (skyL X Y Z (cs.map openA)).getD i 0 ≤ 15 from (sky_src X Y Z (cs.map openA)).1)
  have HLP := Lib.hid (show ∀ i, (cs.map lampA).getD i 0 ≤ 15 from (lamp_src cs).1)
  have HSKL := Lib.hid (show (skyL X Y Z (cs.map openA)).length = n by simp [skyL, hn])
  have HLPL := Lib.hid (show (cs.map lampA).length = n by rw [List.length_map]; omega)
  obtain ⟨F, hF⟩ : ∃ F : List Value, (cs.map lampA).map i64v = F := ⟨_, rfl⟩
  have HF := Lib.hid hF
  have HFL := Lib.hid (show F.length = n by rw [← hF, List.length_map, List.length_map]; omega)
  rw [hls]
  clear hn hR hcs hls hLS hLM hF
  go_enter Tryd.func15, Tryd.ntmps15
  go_wp2_with ((with_reducible refine at_slot 13 ?_); refine Classical.byContradiction (fun hG => ?_))
  refine hG ?_
  clear hG
  refine list_named (fun W => W.cell? ⟨w.heap.size, 0, none⟩ = some (.int .i64 X) ∧ W.cell? ⟨w.heap.size, 1, none⟩ = some (.int .i64 Y) ∧ W.cell? ⟨w.heap.size, 2, none⟩ = some (.int .i64 Z) ∧ W.cell? ⟨w.heap.size, 3, none⟩ = some (.slice (some ⟨bb, oo, none⟩) n c) ∧ w.heap.size < W.heap.size ∧ Below w.heap.size w W) (by (refine ⟨?_, ?_, ?_, ?_, ?_, by (repeat' (first | (with_reducible exact Below.refl _ _) | (with_reducible refine Below.setCell ?_ (by (first | omega | (simp; done) | (simp; omega))) _) | (with_reducible refine Below.alloc ?_ (by (first | omega | (simp; done) | (simp; omega))) _) | (with_reducible refine Below.drew ?_) | (with_reducible refine below_drewN ?_ _)))⟩); all_goals (repeat' (first | (with_reducible assumption) | (with_reducible refine HeldP.c_drew ?_) | (with_reducible refine HeldP.c_drewN ?_) | (with_reducible refine HeldP.c_same (by omega) ?_) | (with_reducible refine HeldP.c_other ?_ ?_) | (with_reducible refine HeldP.c_new (by first | omega | (simp; done) | (simp; omega)) ?_) | (with_reducible refine HeldP.c_alloc ?_ ?_) | (with_reducible refine HeldP.e_drew ?_) | (with_reducible refine HeldP.e_drewN ?_) | (with_reducible refine HeldP.e_set ?_) | (with_reducible refine HeldP.e_new (by first | omega | (simp; done) | (simp; omega)) ⟨_, rfl⟩) | (with_reducible refine HeldP.e_alloc ?_ ?_) | (with_reducible refine HeldP.f_drew ?_) | (with_reducible refine HeldP.f_drewN ?_) | (with_reducible refine HeldP.f_set ?_) | (with_reducible refine HeldP.f_new (by first | omega | (simp; done) | (simp; omega))) | (with_reducible refine HeldP.f_alloc ?_ ?_) | (with_reducible refine HeldP.s_drew ?_) | (with_reducible refine HeldP.s_drewN ?_) | (with_reducible refine HeldP.s_set ?_) | (with_reducible refine HeldP.s_new (by first | omega | (simp; done) | (simp; omega))) | (with_reducible refine HeldP.s_alloc ?_) | (with_reducible exact ⟨_, by assumption⟩) | omega | (intro e; simp at e; done) | (intro e; simp at e; omega) | (exact rfl) | (simp; done) | (simp; omega)))) ?_
  rintro wk ⟨k0, k1, k2, k3, hzw, hb0⟩
  have KK0 := Lib.hid k0
  have KK1 := Lib.hid k1
  have KK2 := Lib.hid k2
  have KK3 := Lib.hid k3
  have HB0 := Lib.hid hb0
  have HRK := Lib.hid (HR.out.below hb0)
  clear hb0 k0 k1 k2 k3
  refine wp_makeI _ rfl _ _ rfl n rfl rfl (by omega) ?_
  intro w2 hd2 hb2
  obtain ⟨gl, hgl⟩ : ∃ gl, wk.heap.size = gl := ⟨_, rfl⟩
  rw [hgl] at hd2 ⊢
  have HD2 := Lib.hid (show Blk w2 gl 3 (fillV F (.int .i64 0) 0) by rw [fillV_zero, HFL.out]; exact hd2)
  have HB2 := Lib.hid hb2
  have hgl1 : wk.heap.size ≤ gl := by omega
  clear hd2 hb2 hgl
  go_wp2_with fail
  go_loopw [4] (FlRel wk gl F n (fun j => j)) (fun v _ => n - (intOf v).toNat)
  case atStart => exact ⟨0, rfl, by omega, HD2.out, HB2.out⟩
  case round =>
    obtain ⟨j, rfl, hj, hd, hb⟩ := hrel
    have HD := Lib.hid (show Blk wr gl 3 (fillV F (.int .i64 0) j) from hd)
    have HB := Lib.hid hb
    have k0 : wr.cell? ⟨w.heap.size, 0, none⟩ = some (.int .i64 X) := (hb.cell (p := ⟨w.heap.size, 0, none⟩) hzw).trans KK0.out
    have k1 : wr.cell? ⟨w.heap.size, 1, none⟩ = some (.int .i64 Y) := (hb.cell (p := ⟨w.heap.size, 1, none⟩) hzw).trans KK1.out
    have k2 : wr.cell? ⟨w.heap.size, 2, none⟩ = some (.int .i64 Z) := (hb.cell (p := ⟨w.heap.size, 2, none⟩) hzw).trans KK2.out
    have k3 : wr.cell? ⟨w.heap.size, 3, none⟩ = some (.slice (some ⟨bb, oo, none⟩) n c) := (hb.cell (p := ⟨w.heap.size, 3, none⟩) hzw).trans KK3.out
    by_cases hlt : j < n
    · have hjI : (j : Int) < n := by omega
      have hj0 : (0 : Int) ≤ (j : Int) := by omega
      obtain ⟨⟨kk, ll⟩, hx⟩ : ∃ x, cs[j]? = some x := ⟨_, List.getElem?_eq_getElem (by have := HC.out; omega)⟩
      obtain ⟨b', o', hbo', hblw, c0, c1⟩ := rd2 (HRK.out.below hb) hx
      obtain ⟨rfl, rfl⟩ : bb = b' ∧ oo = o' := by injection hbo' with hbo'; injection hbo' with e1 e2 e3; exact ⟨e1, e2⟩
      obtain ⟨lm, hlm⟩ : ∃ lm, lampA (kk, ll) = lm := ⟨_, rfl⟩
      have hlm15 : lm ≤ 15 := by rw [← hlm]; exact (steps_q X Y Z cs).own j (kk, ll) hx
      have HLMJ := Lib.hid (show lamp kk ll = lm from hlm)
      have HFJ := Lib.hid (show F[j]? = some (.int .i64 lm) by rw [← HF.out, List.getElem?_map, List.getElem?_map, hx]; show some (i64v (lampA (kk, ll))) = _; rw [hlm]; rfl)
      clear hx hbo' hlm hd hb
      go_wp2_with (go_at_call 30; refine Classical.byContradiction (fun hG => ?_))
      refine hG ?_
      clear hG
      refine (r_lamp_b HLMJ.out _).mono ?_
      rintro e w5 ⟨rfl, hb5⟩
      have hd5 := HD.out.below hb5
      have dc : w5.cell? ⟨gl, j, none⟩ = some (.int .i64 0) := hd5.cell (fillV_get (by rw [HFL.out]; exact hlt))
      have df := hd5.frozen j
      have HD5 := Lib.hid hd5
      have HB5 := Lib.hid (bel_th HB.out hb5 HB.out.size)
      clear hb5 hd5 c0 c1 k0 k1 k2 k3
      go_wp2_with fail
      go_roundw
      case rel => exact ⟨j + 1, by go_num, by omega, HD5.out.setTo (fillV_set HFJ.out), HB5.out.setCell hgl1 _⟩
      case measure => first | (simp [intOf]; done) | (simp [intOf]; omega)
    · obtain rfl : n = j := by omega
      have HD3 := Lib.hid (show Blk wr gl 3 ((cs.map lampA).map i64v) by
        have h := HD.out
        rw [fillV_all (by rw [HFL.out]; exact Nat.le_refl _), ← HF.out] at h
        exact h)
      have HRr := Lib.hid (HRK.out.below hb)
      clear hd hb
      go_wp2_with (go_at_call 31; refine Classical.byContradiction (fun hG => ?_))
      refine hG ?_
      clear hG
      refine (sources_c hX hY hZ HN.out hn2 HRr.out HC.out).mono ?_
      rintro e w5 ⟨g5, rfl, hg5, hb5⟩
      have HG5 := Lib.hid hg5
      have HBR5 := Lib.hid (bel_th HB.out hb5 HB.out.size)
      have HR5 := Lib.hid (HRr.out.below hb5)
      have HD5 := Lib.hid (HD3.out.below hb5)
      have hb := HBR5.out
      clear k0 k1 k2 k3 hb5 hg5
      have k0 : w5.cell? ⟨w.heap.size, 0, none⟩ = some (.int .i64 X) := (hb.cell (p := ⟨w.heap.size, 0, none⟩) hzw).trans KK0.out
      have k1 : w5.cell? ⟨w.heap.size, 1, none⟩ = some (.int .i64 Y) := (hb.cell (p := ⟨w.heap.size, 1, none⟩) hzw).trans KK1.out
      have k2 : w5.cell? ⟨w.heap.size, 2, none⟩ = some (.int .i64 Z) := (hb.cell (p := ⟨w.heap.size, 2, none⟩) hzw).trans KK2.out
      have k3 : w5.cell? ⟨w.heap.size, 3, none⟩ = some (.slice (some ⟨bb, oo, none⟩) n c) := (hb.cell (p := ⟨w.heap.size, 3, none⟩) hzw).trans KK3.out
      clear hb
      go_wp2_with (go_at_call 32; refine Classical.byContradiction (fun hG => ?_))
      refine hG ?_
      clear hG
      refine (rounds_c hX hY hZ HN.out hn2 HR5.out HC.out HG5.out HSKL.out HSK.out).mono ?_
      rintro e w6 ⟨g6, rfl, hg6, hb6⟩
      rw [HLS.out] at hg6
      have HG6 := Lib.hid hg6
      have HBR6 := Lib.hid (bel_th HBR5.out hb6 HBR5.out.size)
      have HR6 := Lib.hid (HR5.out.below hb6)
      have HD6 := Lib.hid (HD5.out.below hb6)
      have hb := HBR6.out
      clear k0 k1 k2 k3 hb6 hg6
      have k0 : w6.cell? ⟨w.heap.size, 0, none⟩ = some (.int .i64 X) := (hb.cell (p := ⟨w.heap.size, 0, none⟩) hzw).trans KK0.out
      have k1 : w6.cell? ⟨w.heap.size, 1, none⟩ = some (.int .i64 Y) := (hb.cell (p := ⟨w.heap.size, 1, none⟩) hzw).trans KK1.out
      have k2 : w6.cell? ⟨w.heap.size, 2, none⟩ = some (.int .i64 Z) := (hb.cell (p := ⟨w.heap.size, 2, none⟩) hzw).trans KK2.out
      have k3 : w6.cell? ⟨w.heap.size, 3, none⟩ = some (.slice (some ⟨bb, oo, none⟩) n c) := (hb.cell (p := ⟨w.heap.size, 3, none⟩) hzw).trans KK3.out
      clear hb
      go_wp2_with (go_at_call 32; refine Classical.byContradiction (fun hG => ?_))
      refine hG ?_
      clear hG
      refine (rounds_c hX hY hZ HN.out hn2 HR6.out HC.out HD6.out HLPL.out HLP.out).mono ?_
      rintro e w7 ⟨g7, rfl, hg7, hb7⟩
      rw [HLM.out] at hg7
      have HG7 := Lib.hid hg7
      have HG67 := Lib.hid (HG6.out.below hb7)
      have HBR7 := Lib.hid (bel_th HBR6.out hb7 HBR6.out.size)
      have hg7l := hg7.lt
      have hg6l := HG67.out.lt
      have hb := HBR7.out
      clear k0 k1 k2 k3 hb7 hg7
      have k0 : w7.cell? ⟨w.heap.size, 0, none⟩ = some (.int .i64 X) := (hb.cell (p := ⟨w.heap.size, 0, none⟩) hzw).trans KK0.out
      have k1 : w7.cell? ⟨w.heap.size, 1, none⟩ = some (.int .i64 Y) := (hb.cell (p := ⟨w.heap.size, 1, none⟩) hzw).trans KK1.out
      have k2 : w7.cell? ⟨w.heap.size, 2, none⟩ = some (.int .i64 Z) := (hb.cell (p := ⟨w.heap.size, 2, none⟩) hzw).trans KK2.out
      have k3 : w7.cell? ⟨w.heap.size, 3, none⟩ = some (.slice (some ⟨bb, oo, none⟩) n c) := (hb.cell (p := ⟨w.heap.size, 3, none⟩) hzw).trans KK3.out
      have K3o := Lib.hid k3
      have hz7 : w.heap.size < w7.heap.size := by have := hb.size; omega
      clear hb
      go_wp2_with fail
      go_loopw [8, 9] (OutRel w7 n ls) (fun _ v _ => n - (intOf v).toNat)
      case atStart => exact ⟨0, rfl, by omega, Own.nil _ _ _ _, Below.refl _ _⟩
      case round =>
        clear k0 k1 k2 k3
        obtain ⟨j, rfl, hj, ho, hb⟩ := hrel
        have HBO := Lib.hid hb
        have HTL := Lib.hid (show (ls.take j).length = j by rw [List.length_take, HLL.out]; omega)
        obtain ⟨oA, oc, rfl, _, _, _⟩ := ho.form HTL.out
        have k3 := (hb.cell (p := ⟨w.heap.size, 3, none⟩) hz7).trans K3o.out
        have hzr := hb.size
        by_cases hlt : j < n
        · have hjI : (j : Int) < n := by omega
          have hj0 : (0 : Int) ≤ (j : Int) := by omega
          obtain ⟨⟨a, b⟩, hab⟩ : ∃ x, ls[j]? = some x := ⟨_, List.getElem?_eq_getElem (by rw [HLL.out]; exact hlt)⟩
          obtain ⟨h1, h2⟩ := HLINK.out j a b hab
          obtain ⟨ha15, hb15⟩ := HTOP.out j a b hab
          have ca : w7.cell? ⟨g6, j, none⟩ = some (.int .i64 a) := HG67.out.cell (by rw [List.getElem?_map, h1]; rfl)
          have cb : w7.cell? ⟨g7, j, none⟩ = some (.int .i64 b) := HG7.out.cell (by rw [List.getElem?_map, h2]; rfl)
          have HA8 := Lib.hid (small8 ha15)
          have HB8 := Lib.hid (small8 hb15)
          have HOD := Lib.hid (ho.drew)
          have HTK := Lib.hid (show ls.take (j + 1) = ls.take j ++ [(a, b)] by rw [List.take_add_one, hab]; rfl)
          clear ho hb hab h1 h2
          go_wp2_with fail
          refine wp_region_noPanic ?_
          refine wp_region_held_drew (S := fun W => Below w7.heap.size w7 W) (by kernel_rfl) HBO.out.drew (fun hHeld => ?_)
          refine wpAnyH_take (i := 0) (oi := ⟨some 46, _, _, _, _, _⟩) (v := .slice oA j oc) rfl (by kernel_rfl) (by kernel_rfl) (by kernel_rfl) (fun _ _ _ h => h) (Or.inl ⟨by rfl, fun W hSW => by go_simp⟩) hHeld ?_
          simp only [Act.put, List.setIfInBounds_toArray, List.set_cons_zero, List.set_cons_succ]
          refine wpAnyH_take (i := 1) (oi := ⟨some 47, _, _, _, _, _⟩) (v := .slice (some ⟨g6, 0, none⟩) n n) rfl (by kernel_rfl) (by kernel_rfl) (by kernel_rfl) (fun _ _ _ h => h) (Or.inl ⟨by rfl, fun W hSW => by go_simp⟩) hHeld ?_
          simp only [Act.put, List.setIfInBounds_toArray, List.set_cons_zero, List.set_cons_succ]
          refine wpAnyH_take (i := 2) (oi := ⟨some 48, _, _, _, _, _⟩) (v := .int .i64 j) rfl (by kernel_rfl) (by kernel_rfl) (by kernel_rfl) (fun _ _ _ h => h) (Or.inl ⟨by rfl, fun W hSW => by go_simp⟩) hHeld ?_
          simp only [Act.put, List.setIfInBounds_toArray, List.set_cons_zero, List.set_cons_succ]
          refine wpAnyH_take (i := 3) (oi := ⟨some 49, _, _, _, _, _⟩) (v := .pointer (some ⟨g6, j, none⟩)) rfl (by kernel_rfl) (by kernel_rfl) (by kernel_rfl) (fun _ _ _ h => h) (Or.inl ⟨by rfl, fun W hSW => by go_simp⟩) hHeld ?_
          simp only [Act.put, List.setIfInBounds_toArray, List.set_cons_zero, List.set_cons_succ]
          refine wpAnyH_take (i := 4) (oi := ⟨some 50, _, _, _, _, _⟩) (v := .int .i64 a) rfl (by kernel_rfl) (by kernel_rfl) (by kernel_rfl) (fun _ _ _ h => h) (Or.inl ⟨by rfl, fun W hSW => by have a0 := (hSW.cell (p := ⟨g6, j, none⟩) hg6l).trans ca; go_simp⟩) hHeld ?_
          simp only [Act.put, List.setIfInBounds_toArray, List.set_cons_zero, List.set_cons_succ]
          refine wpAnyH_take (i := 5) (oi := ⟨some 51, _, _, _, _, _⟩) (v := .int .u8 a) rfl (by kernel_rfl) (by kernel_rfl) (by kernel_rfl) (fun _ _ _ h => h) (Or.inl ⟨by rfl, fun W hSW => by go_simp <;> exact HA8.out⟩) hHeld ?_
          simp only [Act.put, List.setIfInBounds_toArray, List.set_cons_zero, List.set_cons_succ]
          refine wpAnyH_take (i := 6) (oi := ⟨some 52, _, _, _, _, _⟩) (v := .slice (some ⟨g7, 0, none⟩) n n) rfl (by kernel_rfl) (by kernel_rfl) (by kernel_rfl) (fun _ _ _ h => h) (Or.inl ⟨by rfl, fun W hSW => by go_simp⟩) hHeld ?_
          simp only [Act.put, List.setIfInBounds_toArray, List.set_cons_zero, List.set_cons_succ]
          refine wpAnyH_take (i := 7) (oi := ⟨some 53, _, _, _, _, _⟩) (v := .int .i64 j) rfl (by kernel_rfl) (by kernel_rfl) (by kernel_rfl) (fun _ _ _ h => h) (Or.inl ⟨by rfl, fun W hSW => by go_simp⟩) hHeld ?_
          simp only [Act.put, List.setIfInBounds_toArray, List.set_cons_zero, List.set_cons_succ]
          refine wpAnyH_take (i := 8) (oi := ⟨some 54, _, _, _, _, _⟩) (v := .pointer (some ⟨g7, j, none⟩)) rfl (by kernel_rfl) (by kernel_rfl) (by kernel_rfl) (fun _ _ _ h => h) (Or.inl ⟨by rfl, fun W hSW => by go_simp⟩) hHeld ?_
          simp only [Act.put, List.setIfInBounds_toArray, List.set_cons_zero, List.set_cons_succ]
          refine wpAnyH_take (i := 9) (oi := ⟨some 55, _, _, _, _, _⟩) (v := .int .i64 b) rfl (by kernel_rfl) (by kernel_rfl) (by kernel_rfl) (fun _ _ _ h => h) (Or.inl ⟨by rfl, fun W hSW => by have a0 := (hSW.cell (p := ⟨g7, j, none⟩) hg7l).trans cb; go_simp⟩) hHeld ?_
          simp only [Act.put, List.setIfInBounds_toArray, List.set_cons_zero, List.set_cons_succ]
          refine wpAnyH_take (i := 10) (oi := ⟨some 56, _, _, _, _, _⟩) (v := .int .u8 b) rfl (by kernel_rfl) (by kernel_rfl) (by kernel_rfl) (fun _ _ _ h => h) (Or.inl ⟨by rfl, fun W hSW => by go_simp <;> exact HB8.out⟩) hHeld ?_
          simp only [Act.put, List.setIfInBounds_toArray, List.set_cons_zero, List.set_cons_succ]
          refine wpAnyH_take (i := 11) (oi := ⟨some 57, _, _, _, _, _⟩) (v := .agg #[.int .u8 a, .int .u8 b]) rfl (by kernel_rfl) (by kernel_rfl) (by kernel_rfl) (fun _ _ _ h => h) (Or.inl ⟨by rfl, fun W hSW => by go_simp⟩) hHeld ?_
          simp only [Act.put, List.setIfInBounds_toArray, List.set_cons_zero, List.set_cons_succ]
          refine wpAnyH_ready (rs := [12]) (by kernel_rfl) (by simp) ?_
          refine AllReadyH.cons (o := ⟨some 58, _, _, _, _, _⟩) rfl (fun K hK => ?_) AllReadyH.nil
          go_simp
          refine hK.out _ _ (HBO.out.drew.alloc (by simp; omega) _) (fun hHeld => ?_)
          clear hK K
          refine wpAnyH_ready (rs := [13]) (by kernel_rfl) (by simp) ?_
          refine AllReadyH.cons (o := ⟨some 59, _, _, _, _, _⟩) rfl (fun K hK => ?_) AllReadyH.nil
          refine step_pushL rfl (.tmp 46) (.tmp 58) rfl (B := w7.heap.size) (y := (a, b)) rfl rfl HOD.out rfl (by have := HTL.out; omega) (by simp; omega) ?_
          intro g9 c9 w9 ho9 hg9
          have hb9 := HBO.out.drew.trans (HOD.out.grownB hg9 (by simp; omega))
          have HO9 := Lib.hid ho9
          have HB9 := Lib.hid hb9
          clear ho9 hg9 hb9
          refine hK.out _ _ HB9.out (fun hHeld => ?_)
          clear hK K
          refine wpAnyH_ready (rs := [14]) (by kernel_rfl) (by simp) ?_
          refine AllReadyH.cons (o := ⟨some 8, _, _, _, _, _⟩) rfl (fun K hK => ?_) AllReadyH.nil
          go_simp
          refine hK.out _ _ HB9.out (fun hHeld => ?_)
          clear hK K
          refine wpAnyH_done (by kernel_rfl) ?_ _
          refine NoPanic.normal ?_
          go_wp2_with fail
          go_roundw
          case rel => exact ⟨j + 1, by go_num, by omega, by rw [HTK.out]; have h := HO9.out; simp only [List.length_take] at h ⊢; exact h, HB9.out⟩
          case measure => first | (simp [intOf]; done) | (simp [intOf]; omega)
        · obtain rfl : n = j := by omega
          have HO := Lib.hid ho
          clear ho hb
          go_wp2_with fail
          go_ret
          refine ⟨_, rfl, ?_, HB0.out.trans ((HBR7.out.trans (HBO.out.mono HBR7.out.size)).mono HB0.out.size)⟩
          have h := HO.out
          rw [List.take_of_length_le (by rw [HLL.out]; exact Nat.le_refl _)] at h
          exact h.mono (by have := HB0.out.size; have := HBR7.out.size; omega)
def CntM (w4 : World) (n : Nat) (v : Value) (wr : World) : Prop := ∃ j : Nat, v = .int .i64 j ∧ j ≤ n ∧ Below w4.heap.size w4 wr
set_option maxHeartbeats 8000000 in
theorem rsame_c {w : World} {n c1 c2 ba oa bc oc : Nat} {ls : List (Nat × Nat)} (h1 : Rd enc2 w (.slice (some ⟨ba, oa, none⟩) n c1) ls) (h2 : Rd enc2 w (.slice (some ⟨bc, oc, none⟩) n c2) ls) (hn : n = ls.length) (hm : n ≤ 1000000) :
    Calls Tryd.prog 16 #[.slice (some ⟨ba, oa, none⟩) n c1, .slice (some ⟨bc, oc, none⟩) n c2] w fun e w' => e = .returned (.bool true) ∧ Below w.heap.size w w' := by
  have H1 := Lib.hid h1
  have H2 := Lib.hid h2
  have HN := Lib.hid hn
  have hc1 : n ≤ c1 := by
    obtain ⟨A', c', he, hx, _⟩ := h1
    injection he with _ _ h3
    omega
  have hc2 : n ≤ c2 := by
    obtain ⟨A', c', he, hx, _⟩ := h2
    injection he with _ _ h3
    omega
  clear h1 h2 hn
  go_enter Tryd.func16, Tryd.ntmps16
  go_wp2_with fail
  go_loopw [5] (CntM w n) (fun v _ => n - (intOf v).toNat)
  case atStart => exact ⟨0, rfl, by omega, Below.refl _ _⟩
  case round =>
    obtain ⟨j, rfl, hj, hb⟩ := hrel
    have HB := Lib.hid hb
    by_cases hlt : j < n
    · have hjI : (j : Int) < n := by omega
      have hj0 : (0 : Int) ≤ (j : Int) := by omega
      obtain ⟨⟨a, b⟩, hx⟩ : ∃ x, ls[j]? = some x := ⟨_, List.getElem?_eq_getElem (by have := HN.out; omega)⟩
      obtain ⟨b1, o1, hq1, hba, p0, p1⟩ := rd2 (H1.out.below hb) hx
      obtain ⟨rfl, rfl⟩ : ba = b1 ∧ oa = o1 := by injection hq1 with hq1; injection hq1 with e1 e2 e3; exact ⟨e1, e2⟩
      obtain ⟨b2, o2, hq2, hbc, q0, q1⟩ := rd2 (H2.out.below hb) hx
      obtain ⟨rfl, rfl⟩ : bc = b2 ∧ oc = o2 := by injection hq2 with hq2; injection hq2 with e1 e2 e3; exact ⟨e1, e2⟩
      clear hx hq1 hq2 hb
      go_wp2_with fail
      refine wp_region_noPanic ?_
      refine wp_region_held_drew (S := fun W => Below wr.heap.size wr W) (by kernel_rfl) ((Below.refl _ wr).drew) (fun hHeld => ?_)
      refine wpAnyH_take (i := 0) (oi := ⟨some 17, _, _, _, _, _⟩) (v := .slice (some ⟨ba, oa, none⟩) n c1) rfl (by kernel_rfl) (by kernel_rfl) (by kernel_rfl) (fun _ _ _ h => h) (Or.inl ⟨by rfl, fun W hSW => by go_simp⟩) hHeld ?_
      simp only [Act.put, List.setIfInBounds_toArray, List.set_cons_zero, List.set_cons_succ]
      refine wpAnyH_take (i := 1) (oi := ⟨some 18, _, _, _, _, _⟩) (v := .int .i64 j) rfl (by kernel_rfl) (by kernel_rfl) (by kernel_rfl) (fun _ _ _ h => h) (Or.inl ⟨by rfl, fun W hSW => by go_simp⟩) hHeld ?_
      simp only [Act.put, List.setIfInBounds_toArray, List.set_cons_zero, List.set_cons_succ]
      refine wpAnyH_take (i := 2) (oi := ⟨some 19, _, _, _, _, _⟩) (v := .pointer (some ⟨ba, oa + j * 2, none⟩)) rfl (by kernel_rfl) (by kernel_rfl) (by kernel_rfl) (fun _ _ _ h => h) (Or.inl ⟨by rfl, fun W hSW => by go_simp⟩) hHeld ?_
      simp only [Act.put, List.setIfInBounds_toArray, List.set_cons_zero, List.set_cons_succ]
      refine wpAnyH_take (i := 3) (oi := ⟨some 20, _, _, _, _, _⟩) (v := .agg #[.int .u8 a, .int .u8 b]) rfl (by kernel_rfl) (by kernel_rfl) (by kernel_rfl) (fun _ _ _ h => h) (Or.inl ⟨by rfl, fun W hSW => by have a0 := (hSW.cell (p := ⟨ba, oa + j * 2, none⟩) hba).trans p0; have a1 := (hSW.cell (p := ⟨ba, oa + j * 2 + 1, none⟩) hba).trans p1; go_simp⟩) hHeld ?_
      simp only [Act.put, List.setIfInBounds_toArray, List.set_cons_zero, List.set_cons_succ]
      refine wpAnyH_take (i := 4) (oi := ⟨some 21, _, _, _, _, _⟩) (v := .slice (some ⟨bc, oc, none⟩) n c2) rfl (by kernel_rfl) (by kernel_rfl) (by kernel_rfl) (fun _ _ _ h => h) (Or.inl ⟨by rfl, fun W hSW => by go_simp⟩) hHeld ?_
      simp only [Act.put, List.setIfInBounds_toArray, List.set_cons_zero, List.set_cons_succ]
      refine wpAnyH_take (i := 5) (oi := ⟨some 22, _, _, _, _, _⟩) (v := .int .i64 j) rfl (by kernel_rfl) (by kernel_rfl) (by kernel_rfl) (fun _ _ _ h => h) (Or.inl ⟨by rfl, fun W hSW => by go_simp⟩) hHeld ?_
      simp only [Act.put, List.setIfInBounds_toArray, List.set_cons_zero, List.set_cons_succ]
      refine wpAnyH_take (i := 6) (oi := ⟨some 23, _, _, _, _, _⟩) (v := .pointer (some ⟨bc, oc + j * 2, none⟩)) rfl (by kernel_rfl) (by kernel_rfl) (by kernel_rfl) (fun _ _ _ h => h) (Or.inl ⟨by rfl, fun W hSW => by go_simp⟩) hHeld ?_
      simp only [Act.put, List.setIfInBounds_toArray, List.set_cons_zero, List.set_cons_succ]
      refine wpAnyH_take (i := 7) (oi := ⟨some 24, _, _, _, _, _⟩) (v := .agg #[.int .u8 a, .int .u8 b]) rfl (by kernel_rfl) (by kernel_rfl) (by kernel_rfl) (fun _ _ _ h => h) (Or.inl ⟨by rfl, fun W hSW => by have a0 := (hSW.cell (p := ⟨bc, oc + j * 2, none⟩) hbc).trans q0; have a1 := (hSW.cell (p := ⟨bc, oc + j * 2 + 1, none⟩) hbc).trans q1; go_simp⟩) hHeld ?_
      simp only [Act.put, List.setIfInBounds_toArray, List.set_cons_zero, List.set_cons_succ]
      refine wpAnyH_take (i := 8) (oi := ⟨some 25, _, _, _, _, _⟩) (v := .bool false) rfl (by kernel_rfl) (by kernel_rfl) (by kernel_rfl) (fun _ _ _ h => h) (Or.inl ⟨by rfl, fun W hSW => by go_simp⟩) hHeld ?_
      simp only [Act.put, List.setIfInBounds_toArray, List.set_cons_zero, List.set_cons_succ]
      refine wpAnyH_done (by kernel_rfl) ?_ _
      refine NoPanic.normal ?_
      go_wp2_with fail
      go_roundw
      case rel => exact ⟨j + 1, by go_num, by omega, HB.out.trans (hHeld.mono HB.out.size)⟩
      case measure => first | (simp [intOf]; done) | (simp [intOf]; omega)
    · obtain rfl : n = j := by omega
      clear hb
      go_wp2_with fail
      go_ret
      exact ⟨rfl, HB.out⟩
end GlowW
end Go.Proofs.YtbkadecfmjjadaaDoor
