/-
  A chunk that is read by the program.
-/
import Derived.ScopeJumps
import Derived.WalkMore
import Derived.Test.YtdboebokjkkgkaaDoorPackList
import Derived.Test.YtdboebokjkkgkaaDoorPackSets
import Derived.Test.YtdboebokjkkgkaaDoorPackMem
namespace Go.Proofs.YtdboebokjkkgkaaDoor
open Go.RowKit
set_option linter.unusedVariables false
set_option linter.unusedSimpArgs false
namespace PackW
open BytesW RunsW

/-- A chunk that is there: its ticks' slice, and what it holds. -/
def ChkK (w : World) (p : Nat) (k : Ck) : Prop := ∃ A c, Chk w p k.cs k.ls (.slice A k.ts.length c) ∧ PairC tkv w A k.ts ∧ k.ts.length ≤ c ∧ c ≤ maxLen ∧ k.ts.length ≤ 1000000
theorem ChkK.below {w w' : World} {p : Nat} {k : Ck} (h : ChkK w p k) (hb : Below w.heap.size w w') : ChkK w' p k := by
  obtain ⟨A, c, h1, h2, h3⟩ := h
  exact ⟨A, c, h1.below hb, h2.below hb, h3⟩
/-- What Get answers. -/
def GetK (w : World) (r : Option Ck) (e : Ending) (w' : World) : Prop :=
  Below w.heap.size w w' ∧ (r = none → e = .returned (.tuple #[.pointer none, .int .i64 4])) ∧ (∀ k, r = some k → ∃ p, e = .returned (.tuple #[.pointer (some ⟨p, 0, none⟩), .int .i64 0]) ∧ ChkK w' p k ∧ w.heap.size ≤ p)
theorem GetK.none {w w' : World} {r : Option Ck} (hr : r = none) (hb : Below w.heap.size w w') : GetK w r (.returned (.tuple #[.pointer none, .int .i64 4])) w' := by
  subst hr
  exact ⟨hb, fun _ => rfl, fun k h => by cases h⟩

/-- What holds at a jump: there is none. -/
def JNone (w : World) (r : Option Ck) (a : Act) (w' : World) : Prop := Below w.heap.size w w' ∧ r = none ∧ ∃ u0 u1 u2 u3 u4 u5 u6 u7 u8 u9 u10 u11 u12 u13 u14 u15 u16 u17 u18 u19 u20 u21 u22 u23 u24 u25 u26 u27 u28 u29 u30 u31 u32 u33 u34 u35 u36 u37 u38 u39 u40 u41 u42 u43 u44 u45 u46 u47 u48 u49 u50 : Value, a = { tmps := #[u0, u1, u2, u3, u4, u5, u6, u7, u8, u9, u10, u11, u12, u13, u14, u15, u16, u17, u18, u19, u20, u21, u22, u23, u24, u25, u26, u27, u28, u29, u30, u31, u32, u33, u34, u35, u36, u37, u38, u39, u40, u41, u42, u43, u44, u45, u46, u47, u48, u49, u50], defers := [] }
theorem JNone.at {w w' : World} {r : Option Ck} {u0 u1 u2 u3 u4 u5 u6 u7 u8 u9 u10 u11 u12 u13 u14 u15 u16 u17 u18 u19 u20 u21 u22 u23 u24 u25 u26 u27 u28 u29 u30 u31 u32 u33 u34 u35 u36 u37 u38 u39 u40 u41 u42 u43 u44 u45 u46 u47 u48 u49 u50 : Value} (hb : Below w.heap.size w w') (hr : r = none) : JNone w r { tmps := #[u0, u1, u2, u3, u4, u5, u6, u7, u8, u9, u10, u11, u12, u13, u14, u15, u16, u17, u18, u19, u20, u21, u22, u23, u24, u25, u26, u27, u28, u29, u30, u31, u32, u33, u34, u35, u36, u37, u38, u39, u40, u41, u42, u43, u44, u45, u46, u47, u48, u49, u50], defers := [] } w' := ⟨hb, hr, u0, u1, u2, u3, u4, u5, u6, u7, u8, u9, u10, u11, u12, u13, u14, u15, u16, u17, u18, u19, u20, u21, u22, u23, u24, u25, u26, u27, u28, u29, u30, u31, u32, u33, u34, u35, u36, u37, u38, u39, u40, u41, u42, u43, u44, u45, u46, u47, u48, u49, u50, rfl⟩

set_option maxRecDepth 100000 in
set_option maxHeartbeats 4000000 in
theorem get6_c {w : World} {A : Option Addr} {b : List UInt8} {c : Nat} {r : Option Ck} (hT : KindW.Tab w) (hA : AtC w A b) (hc : b.length ≤ c) (hl : b.length ≤ 1000000) (hr : getC b = r) :
    Calls Tryd.prog 16 #[.slice A b.length c] w (GetK w r) := by
  have HR := Lib.hid hr
  have HT := Lib.hid hT
  have HA := Lib.hid hA
  clear hr hT hA
  go_enter Tryd.func16, Tryd.ntmps16
  go_wp2_with fail
  refine wp_scope_jumps 0 (JNone w r) (fun _ _ => 0) rfl ?_ ?_
  · by_cases hbig : 65536 < b.length
    · have hbI : (65536 : Int) < b.length := by omega
      have HN : Hid (r = none) := Lib.hid (by rw [← HR.out, getC, if_pos hbig])
      go_wp2_with ((with_reducible refine at_slot 4 ?_); refine wp_allocC rfl rfl ?_; intro w1 hk1 hb1 hz1)
      go_step3
      exact ⟨rfl, JNone.at hb1 HN.out⟩
    · have hbI : ¬ (65536 : Int) < b.length := by omega
      obtain ⟨p, hp⟩ : ∃ p, p = w.heap.size := ⟨_, rfl⟩
      have HP := Lib.hid hp
      go_wp2_with ((with_reducible refine at_slot 4 ?_); refine wp_allocC rfl rfl ?_; intro w1 hk1 hb1 hz1)
      rw [← hp] at hk1
      simp only [← HP.out]
      clear hp
      rcases e1 : cutPal b with _ | ⟨P, b1⟩
      · have HN : Hid (r = none) := Lib.hid (by rw [← HR.out, getC, if_neg hbig, e1])
        go_at_call 33
        refine (cutPalette_c (HT.out.below hb1) (HA.out.below hb1) hc hl e1).mono ?_
        rintro e w2 ⟨v2, A2, n2, c2, ok2, rfl, hb2, hs2, hn2⟩
        obtain rfl := hn2 rfl
        clear hs2 hn2
        go_wp2_with fail
        go_step3
        exact ⟨rfl, JNone.at (below_m hb1 hb2) HN.out⟩
      · have hb1l : b1.length ≤ 1000000 := by
          have h := congrArg List.length (cutPal_sound e1).2.2
          rw [List.length_append] at h
          omega
        have HPM := Lib.hid (cutPal_sound e1)
        have hPl : P.length ≤ 256 := by
          have h := nodup_len (cutPal_sound e1).1 (m := mays) (fun x hx => may_mem (List.all_eq_true.1 (cutPal_sound e1).2.1 x hx))
          rw [mays_len] at h
          omega
        have E1 := Lib.hid e1
        go_at_call 33
        refine (cutPalette_c (HT.out.below hb1) (HA.out.below hb1) hc hl e1).mono ?_
        rintro e w2 ⟨v2, A2, n2, c2, ok2, rfl, hb2, hs2, hn2⟩
        obtain ⟨rfl, hown2, rfl, hat2, hc2⟩ := hs2 P b1 rfl
        obtain ⟨PA, pc, rfl, hPA, hpc, _⟩ := hown2.typed
        have HB2 := Lib.hid (below_m hb1 hb2)
        have HK2 := Lib.hid (hk1.below hb2)
        have HPA := Lib.hid hPA
        have HAT2 := Lib.hid hat2
        clear hs2 hn2 hown2 hPA hk1 e1 hat2 hb2
        rcases e2 : cutRow b1 with _ | ⟨row, b2⟩
        · have HN : Hid (r = none) := Lib.hid (by rw [← HR.out, getC, if_neg hbig, E1.out]; simp only [e2])
          go_wp2_with fail
          go_at_call 34
          refine (cutRow_c (HAT2.out w2 (HA.out.below HB2.out)) hc2 hb1l e2).mono ?_
          rintro e w3 ⟨v3, A3, n3, c3, ok3, rfl, hb3, hs3, hn3⟩
          obtain rfl := hn3 rfl
          clear hs3 hn3
          go_wp2_with fail
          go_step3
          exact ⟨rfl, JNone.at (below_m HB2.out hb3) HN.out⟩
        · have hrow := (cutRow_sound e2).1
          have hb2l : b2.length ≤ 1000000 := by
            have h := congrArg List.length (cutRow_sound e2).2
            rw [List.length_append] at h
            omega
          have HROW := Lib.hid hrow
          have E2 := Lib.hid e2
          go_wp2_with fail
          go_at_call 34
          refine (cutRow_c (HAT2.out w2 (HA.out.below HB2.out)) hc2 hb1l e2).mono ?_
          rintro e w3 ⟨v3, A3, n3, c3, ok3, rfl, hb3, hs3, hn3⟩
          obtain ⟨rfl, hown3, rfl, hat3, hc3⟩ := hs3 row b2 rfl
          obtain ⟨RA, rc, rfl, hRA, hrc, _⟩ := hown3.sl
          have HB3 := Lib.hid (below_m HB2.out hb3)
          have HK3 := Lib.hid (HK2.out.below hb3)
          have HPA3 := Lib.hid (HPA.out.below hb3)
          have HRA := Lib.hid hRA
          have HAT3 : Hid (∀ W, AtC W A b → AtC W A3 b2) := Lib.hid (fun W h => hat3 W (HAT2.out W h))
          clear hs3 hn3 hown3 hRA e2 hat3 hb3 hrow
          rcases e3 : setC P 0 row with _ | cs
          · have HN : Hid (r = none) := Lib.hid (by rw [← HR.out, getC, if_neg hbig, E1.out]; simp only [E2.out, e3])
            go_wp2_with (go_at_call 35; refine (setCells_c HK3.out HPA3.out hPl HRA.out HROW.out e3).mono ?_; rintro e w4 ⟨ok4, rfl, hg4, hs4, hn4⟩; obtain rfl := hn4 rfl; clear hs4 hn4)
            go_step3
            exact ⟨rfl, JNone.at (below_n HB3.out (by have := HP.out; omega) hg4) HN.out⟩
          · have E3 := Lib.hid e3
            go_wp2_with (go_at_call 35; refine (setCells_c HK3.out HPA3.out hPl HRA.out HROW.out E3.out).mono ?_; rintro e w4 ⟨ok4, rfl, hg4, hs4, hn4⟩; obtain ⟨rfl, hk4⟩ := hs4 cs rfl; clear hs4 hn4)
            have HB4 := Lib.hid (below_n HB3.out (by have := HP.out; omega) hg4)
            have HK4 := Lib.hid hk4
            clear hk4 hg4 e3
            rcases e4 : cutRow b2 with _ | ⟨row2, b3⟩
            · have HN : Hid (r = none) := Lib.hid (by rw [← HR.out, getC, if_neg hbig, E1.out]; simp only [E2.out, E3.out, e4])
              go_at_call 34
              refine (cutRow_c ((HAT3.out w HA.out).below HB4.out) hc3 hb2l e4).mono ?_
              rintro e w5 ⟨v5, A5, n5, c5, ok5, rfl, hb5, hs5, hn5⟩
              obtain rfl := hn5 rfl
              clear hs5 hn5
              go_wp2_with fail
              go_step3
              exact ⟨rfl, JNone.at (below_m HB4.out hb5) HN.out⟩
            · have hrow := (cutRow_sound e4).1
              have hb3l : b3.length ≤ 1000000 := by
                have h := congrArg List.length (cutRow_sound e4).2
                rw [List.length_append] at h
                omega
              have HROW2 := Lib.hid hrow
              have E4 := Lib.hid e4
              go_at_call 34
              refine (cutRow_c ((HAT3.out w HA.out).below HB4.out) hc3 hb2l e4).mono ?_
              rintro e w5 ⟨v5, A5, n5, c5, ok5, rfl, hb5, hs5, hn5⟩
              obtain ⟨rfl, hown5, rfl, hat5, hc5⟩ := hs5 row2 b3 rfl
              obtain ⟨RB, rd, rfl, hRB, hrd, _⟩ := hown5.sl
              have HB5 := Lib.hid (below_m HB4.out hb5)
              have HK5 := Lib.hid (HK4.out.below hb5)
              have HRB := Lib.hid hRB
              have HAT5 : Hid (∀ W, AtC W A b → AtC W A5 b3) := Lib.hid (fun W h => hat5 W (HAT3.out W h))
              clear hs5 hn5 hown5 hRB e4 hat5 hb5 hrow
              go_wp2_with fail
              go_at_call 36
              refine (setLights_c HK5.out HRB.out HROW2.out).mono ?_
              rintro e w6 ⟨rfl, hk6, hg6⟩
              have HB6 := Lib.hid (below_n HB5.out (by have := HP.out; omega) hg6)
              have HK6 := Lib.hid hk6
              clear hk6 hg6
              rcases e5 : cutT b3 with _ | tl
              · have HN : Hid (r = none) := Lib.hid (by rw [← HR.out, getC, if_neg hbig, E1.out]; simp only [E2.out, E3.out, E4.out, e5])
                go_wp2_with fail
                go_at_call 37
                refine (ticks_c ((HAT5.out w HA.out).below HB6.out) hb3l e5).mono ?_
                rintro e w7 ⟨TA, tn, tc, ok7, rfl, hb7, hs7, hn7⟩
                obtain rfl := hn7 rfl
                have HK7 := Lib.hid (HK6.out.below hb7)
                have HB7 := Lib.hid (below_m HB6.out hb7)
                have q0 := HK7.out.t
                have q1 := HK7.out.frozen 16384
                clear hs7 hn7 hb7 e5
                go_wp2_with fail
                go_step3
                exact ⟨rfl, JNone.at (HB7.out.setCell (by have := HP.out; simp; omega) _) HN.out⟩
              · have HY : Hid (r = some ⟨cs, row2.map unlnum, tl⟩) := Lib.hid (by rw [← HR.out, getC, if_neg hbig, E1.out]; simp only [E2.out, E3.out, E4.out, e5])
                go_wp2_with fail
                go_at_call 37
                refine (ticks_c ((HAT5.out w HA.out).below HB6.out) hb3l e5).mono ?_
                rintro e w7 ⟨TA, tn, tc, ok7, rfl, hb7, hs7, hn7⟩
                obtain ⟨rfl, hown7⟩ := hs7 tl rfl
                have e5q := Lib.hid e5
                have HK7 := Lib.hid (HK6.out.below hb7)
                have HB7 := Lib.hid (below_m HB6.out hb7)
                have q0 := HK7.out.t
                have q1 := HK7.out.frozen 16384
                have HO7 := Lib.hid hown7
                clear hs7 hn7 hb7 e5 hown7
                go_wp2_with fail
                simp only [Exit.jump]
                go_ret2
                have hsx := HO7.out
                obtain ⟨TA', tc', e7, hTA, htc, htm⟩ := HO7.out.typed
                injection e7 with e7a e7b e7c
                subst e7a e7b e7c
                have hcan := (cutT_sound e5q.out).1
                have hlen := mayT_len _ _ (by omega) hcan
                have hg := grown_set w7 p 16384 (.slice TA tl.length tc)
                refine ⟨HB7.out.setCell (by have := HP.out; simp; omega) _, (fun h => by rw [HY.out] at h; cases h), (fun k h => ?_)⟩
                rw [HY.out] at h
                injection h with h
                subst h
                exact ⟨p, rfl, ⟨TA, tc, HK7.out.setT _, (pair_chk hTA (by decide) HK7.out hg).c, htc, htm, by simp; omega⟩, by rw [HP.out]; exact Nat.le_refl _⟩
  · rintro a' w' ⟨hb, hr, u0, u1, u2, u3, u4, u5, u6, u7, u8, u9, u10, u11, u12, u13, u14, u15, u16, u17, u18, u19, u20, u21, u22, u23, u24, u25, u26, u27, u28, u29, u30, u31, u32, u33, u34, u35, u36, u37, u38, u39, u40, u41, u42, u43, u44, u45, u46, u47, u48, u49, u50, rfl⟩
    go_wp2_with fail
    simp only [Exit.jump]
    go_ret2
    exact GetK.none hr hb
end PackW
end Go.Proofs.YtdboebokjkkgkaaDoor


/-
  Whether a chunk can be packed.
-/
namespace Go.Proofs.YtdboebokjkkgkaaDoor
open Go.RowKit
set_option linter.unusedVariables false
set_option linter.unusedSimpArgs false
namespace PackW
open BytesW RunsW

/-- The cells of a chunk, as one value. -/
def arrC (C : List Cell) : Array Value := (flatP cv C).toArray
theorem sizeCells : (Tryd.prog.info? 50).map (·.size) = some 8192 := by kernel_rfl
theorem sizeCell : (Tryd.prog.info? 43).map (·.size) = some 2 := by kernel_rfl
theorem underArr : Tryd.prog.underlying 50 = some (.array 4096 43) := Tryd.underlying50
theorem underCell : (match Tryd.prog.underlying 43 with | some (.struct _) => true | _ => false) = true := by kernel_rfl
set_option maxRecDepth 100000 in
theorem run_loadC {w : World} {p : Nat} {C L : List Cell} {v : Value} (h : Chk w p C L v) : (loadVar 50 ⟨p, 0, none⟩).run Tryd.prog w = .ok (.agg (arrC C)) w := by
  have hl : (loadCells ⟨p, 0, none⟩ (flatP cv C).length).run Tryd.prog w = .ok (flatP cv C).toArray w :=
    run_loadCells_list (P := Tryd.prog) w ⟨p, 0, none⟩ (flatP cv C) (fun j u hu => by
      rw [addr_add, Nat.zero_add, h.cell, ckV, List.getElem?_append_left (List.getElem?_eq_some_iff.1 hu).1, hu])
  rw [flatP_len, h.2.1] at hl
  have hs := sizeCells
  cases hq : Tryd.prog.info? 50 with
  | none => simp [hq] at hs
  | some i =>
    have hs2 : i.size = 8192 := by simpa [hq] using hs
    have hagg : (isAgg 50).run Tryd.prog w = .ok true w := by
      unfold isAgg
      rw [Sem.run_bind, run_underlying underArr w]
      simp
    simp only [loadVar, Sem.run_bind, hagg, Result.andThen_ok, sizeOf, typeInfo, Sem.run_pure]
    have hl2 : (loadCells ⟨p, 0, none⟩ 8192).run Tryd.prog w = .ok (arrC C) w := hl
    simp [hq, hs2, hl2]
theorem extract_two {l : List Value} {j : Nat} {a b : Value} (h0 : l[j]? = some a) (h1 : l[j + 1]? = some b) : l.toArray.extract j (j + 2) = #[a, b] := by
  obtain ⟨h2, h3⟩ := List.getElem?_eq_some_iff.1 h0
  obtain ⟨h4, h5⟩ := List.getElem?_eq_some_iff.1 h1
  rw [List.extract_toArray]
  show ((l.drop j).take (j + 2 - j)).toArray = _
  rw [List.drop_eq_getElem_cons h2, List.drop_eq_getElem_cons h4, h3, h5, show j + 2 - j = 2 by omega]
  rfl
set_option maxRecDepth 100000 in
theorem run_indexC {w : World} {C : List Cell} {c : Cell} {j : Nat} (hC : C.length = 4096) (h : C[j]? = some c) : (Instr.index 50 (.agg (arrC C)) (.int .i64 j)).run Tryd.prog w = .ok (.agg #[bv c.1, bv c.2]) w := by
  have hj : j < 4096 := by have := (List.getElem?_eq_some_iff.1 h).1; omega
  obtain ⟨h0, h1⟩ := flatP_get (f := cv) h
  have he := extract_two h0 h1
  have hs := sizeCell
  have hu := underCell
  cases hq : Tryd.prog.info? 43 with
  | none => simp [hq] at hs
  | some i =>
    have hs2 : i.size = 2 := by simpa [hq] using hs
    cases hqu : Tryd.prog.underlying 43 with
    | none => simp [hqu] at hu
    | some d =>
      have hagg : (isAgg 43).run Tryd.prog w = .ok true w := by
        unfold isAgg
        rw [Sem.run_bind, run_underlying hqu w]
        cases d <;> simp_all
      have hp : (part 43 (arrC C) (j * 2)).run Tryd.prog w = .ok (.agg #[bv c.1, bv c.2]) w := by
        simp only [part, Sem.run_bind, hagg, Result.andThen_ok]
        simp [sizeOf, typeInfo, hq, hs2]
        exact he
      have hjI : (j : Int) < 4096 := by omega
      simp [Instr.index, asIntOf, run_underlying underArr, hjI, sizeOf, typeInfo, hq, hs2, hp]
      intro h
      omega
section
variable {w : World} {ops : Array Oper} {rest : List Oper} {o : Oper} {a : Act} {Q : Exit → Act → World → Prop}
theorem wp_loadC (hgd : o.guard = none) (x : Operand) (ho : o.op = .load 50 x) {p : Nat} {C L : List Cell} {v : Value} (hx : a.eval x = .pointer (some ⟨p, 0, none⟩)) (hk : Chk w p C L v)
    (h : wpList Tryd.prog ops Q rest (a.put o.dst (.agg (arrC C))) w) : wpList Tryd.prog ops Q (o :: rest) a w := by
  refine wpList_plain hgd fun K hK => ?_
  unfold Oper.wp execOp
  simp only [ho, hx, Instr.loadAt, Instr.sureAddr, Sem.run_bind, Sem.run_pure, Result.andThen_ok, run_loadC hk]
  exact hK _ _ h
theorem wp_indexC (hgd : o.guard = none) (x y : Operand) (ho : o.op = .index 50 x y) {C : List Cell} {c : Cell} {j : Nat} (hx : a.eval x = .agg (arrC C)) (hy : a.eval y = .int .i64 j) (hC : C.length = 4096) (hc : C[j]? = some c) {X Y : Int} (hX : X = (c.1.toNat : Int)) (hY : Y = (c.2.toNat : Int))
    (h : wpList Tryd.prog ops Q rest (a.put o.dst (.agg #[.int .u8 X, .int .u8 Y])) w) : wpList Tryd.prog ops Q (o :: rest) a w := by
  subst hX hY
  refine wpList_plain hgd fun K hK => ?_
  have hr := run_indexC (w := w) hC hc
  unfold Oper.wp execOp
  simp only [ho, hx, hy, Sem.run_bind, Sem.run_pure, Result.andThen_ok, hr]
  exact hK _ _ h
end

def lightB (l : Cell) : Bool := mayL l
def MayRel (w : World) (C L : List Cell) (v : Value) (wr : World) : Prop := ∃ j : Nat, v = .int .i64 j ∧ j ≤ 4096 ∧ (C.take j).all mayC = true ∧ (L.take j).all mayL = true ∧ Below w.heap.size w wr
def MayRel2 (w : World) (ts : List Tick) (nx i : Value) (wr : World) : Prop := ∃ (j : Nat) (n : Int), i = .int .i64 j ∧ nx = .int .i64 n ∧ 0 ≤ n ∧ n ≤ 4096 ∧ j ≤ ts.length ∧ mayT 0 ts = mayT n (ts.drop j) ∧ Below w.heap.size w wr
theorem all_take {α : Type} {l : List α} {f : α → Bool} {j : Nat} {x : α} (h : (l.take j).all f = true) (hx : l[j]? = some x) (hf : f x = true) : (l.take (j + 1)).all f = true := by
  rw [List.take_add_one, hx]
  rw [List.all_append, h]
  simp [hf]
theorem all_no {α : Type} {l : List α} {f : α → Bool} {j : Nat} {x : α} (hx : l[j]? = some x) (hf : f x = false) : l.all f = false := by
  rw [List.all_eq_false]
  exact ⟨x, List.mem_of_getElem? hx, by simp [hf]⟩

set_option maxRecDepth 100000 in
set_option maxHeartbeats 4000000 in
theorem may6_c {w : World} {p : Nat} {k : Ck} {r : Bool} (hT : KindW.Tab w) (hk : ChkK w p k) (hr : can k = r) :
    Calls Tryd.prog 21 #[.pointer (some ⟨p, 0, none⟩)] w fun e w' => e = .returned (.bool r) ∧ Below w.heap.size w w' := by
  obtain ⟨C, L, ts⟩ := k
  obtain ⟨TA, tc, hck, hta, htc, htm, htl⟩ := hk
  simp only at hck hta htc htl
  have HR := Lib.hid hr
  have HT := Lib.hid hT
  have HK := Lib.hid hck
  have HTA := Lib.hid hta
  have HCL := Lib.hid hck.2.1
  have HLL := Lib.hid hck.2.2
  obtain ⟨n, hn⟩ : ∃ n, n = ts.length := ⟨_, rfl⟩
  have ht := hck.t
  have hlt := hck.lt
  rw [← hn] at htc ht htl
  have HN := Lib.hid hn
  clear hr hT hck hta hn
  go_enter Tryd.func21, Tryd.ntmps21
  go_wp2_with ((with_reducible refine at_slot 12 ?_); refine wp_loadC rfl (.tmp 11) rfl rfl HK.out ?_)
  go_loopw [13] (MayRel w C L) (fun v _ => 4096 - (intOf v).toNat)
  case atStart => exact ⟨0, rfl, by omega, rfl, rfl, Below.refl _ _⟩
  case round =>
    obtain ⟨j, rfl, hj, hcs, hls, hbw⟩ := hrel
    have HB := Lib.hid hbw
    have HCS := Lib.hid hcs
    have HLS := Lib.hid hls
    have hz := hbw.size
    clear hbw hcs hls
    by_cases hj4 : j < 4096
    · have hjI : (j : Int) < 4096 := by omega
      obtain ⟨x, hx⟩ : ∃ x, C[j]? = some x := ⟨_, List.getElem?_eq_getElem (by have := HCL.out; omega)⟩
      obtain ⟨y, hy⟩ : ∃ y, L[j]? = some y := ⟨_, List.getElem?_eq_getElem (by have := HLL.out; omega)⟩
      have hkr := HK.out.below HB.out
      obtain ⟨b, o, e, hbl, hls2⟩ := hkr.atL.cells (fun e => by rw [e] at hy; simp at hy)
      simp only [Option.some.injEq, Addr.mk.injEq] at e
      obtain ⟨rfl, rfl, _⟩ := e
      obtain ⟨p0, p1⟩ := hls2 _ _ hy
      obtain ⟨X, hX⟩ : ∃ X : Int, X = (x.1.toNat : Int) := ⟨_, rfl⟩
      obtain ⟨Y, hY⟩ : ∃ Y : Int, Y = (x.2.toNat : Int) := ⟨_, rfl⟩
      obtain ⟨U, hU⟩ : ∃ U : Int, U = (y.1.toNat : Int) := ⟨_, rfl⟩
      obtain ⟨V, hV⟩ : ∃ V : Int, V = (y.2.toNat : Int) := ⟨_, rfl⟩
      simp only [cv, bv, ← hU, ← hV] at p0 p1
      obtain ⟨m, hm⟩ : ∃ m, mayC x = m := ⟨_, rfl⟩
      have HMAY : Hid (∀ w : World, KindW.Tab w → Calls Tryd.prog 20 #[.agg #[.int .u8 X, .int .u8 Y]] w fun e w' => e = .returned (.bool m) ∧ Below w.heap.size w w') := Lib.hid (fun w h => by rw [hX, hY, ← hm]; exact KindW.k_may _ _ w h)
      have HX := Lib.hid hX
      have HY := Lib.hid hY
      have HU := Lib.hid hU
      have HV := Lib.hid hV
      have Hx := Lib.hid hx
      have Hy := Lib.hid hy
      have HM := Lib.hid hm
      have hW : Below w.heap.size w ((wr.alloc (.cells #[.int .u8 X, .int .u8 Y] 43)).alloc (.cells #[.int .u8 U, .int .u8 V] 45)) := (HB.out.alloc hz _).alloc (by simp; omega) _
      have HW := Lib.hid hW
      have HTW := Lib.hid (HT.out.below hW)
      clear hx hy hkr hls2 hX hY hU hV hm hW
      go_wp2_with ((with_reducible refine at_slot 16 ?_); refine wp_indexC rfl (.tmp 12) (.tmp 13) rfl rfl rfl HCL.out Hx.out HX.out HY.out ?_)
      go_at_call 20
      refine (HMAY.out _ HTW.out).mono ?_
      rintro e w1 ⟨rfl, hb1⟩
      have HB1 := Lib.hid (below_m HW.out hb1)
      have q0 : w1.cell? ⟨wr.heap.size + 1, 0, none⟩ = some (.int .u8 U) := by rw [hb1.cell (p := ⟨wr.heap.size + 1, 0, none⟩) (by simp)]; simp
      have q1 : w1.cell? ⟨wr.heap.size + 1, 1, none⟩ = some (.int .u8 V) := by rw [hb1.cell (p := ⟨wr.heap.size + 1, 1, none⟩) (by simp)]; simp
      clear hb1
      cases m
      · have HF : Hid (r = false) := Lib.hid (by rw [← HR.out]; simp only [can]; rw [all_no Hx.out HM.out]; rfl)
        go_wp2_with fail
        go_ret
        exact ⟨by rw [HF.out]; rfl, HB1.out⟩
      · by_cases hl1 : 15 < U
        · have HF : Hid (r = false) := Lib.hid (by
            have h : mayL y = false := by
              have := HU.out
              simp [mayL]
              omega
            rw [← HR.out]
            simp only [can]
            rw [all_no Hy.out h]
            simp)
          go_wp2_with fail
          go_ret
          exact ⟨by rw [HF.out]; rfl, HB1.out⟩
        · by_cases hl2 : 15 < V
          · have HF : Hid (r = false) := Lib.hid (by
              have h : mayL y = false := by
                have := HV.out
                simp [mayL]
                omega
              rw [← HR.out]
              simp only [can]
              rw [all_no Hy.out h]
              simp)
            have hd : decide (15 < U) = false := by simpa using hl1
            have hd2 : decide (15 < V) = true := by simpa using hl2
            clear hl1 hl2
            go_wp2_with fail
            go_ret
            exact ⟨by rw [HF.out]; rfl, HB1.out⟩
          · have HLY : Hid (mayL y = true) := Lib.hid (by
              have := HU.out
              have := HV.out
              simp [mayL]
              omega)
            have hd : decide (15 < U) = false := by simpa using hl1
            have hd2 : decide (15 < V) = false := by simpa using hl2
            clear hl1 hl2
            go_wp2_with fail
            go_roundw
            case rel => exact ⟨j + 1, by go_num, by omega, all_take HCS.out Hx.out HM.out, all_take HLS.out Hy.out HLY.out, HB1.out⟩
            case measure => simp [intOf]; omega
    · have hjI : ¬ (j : Int) < 4096 := by omega
      have HCA : Hid (C.all mayC = true) := Lib.hid (by have h := HCS.out; rw [List.take_of_length_le (by have := HCL.out; omega)] at h; exact h)
      have HLA : Hid (L.all mayL = true) := Lib.hid (by have h := HLS.out; rw [List.take_of_length_le (by have := HLL.out; omega)] at h; exact h)
      have HRT : Hid (mayT 0 ts = r) := Lib.hid (by rw [← HR.out]; simp only [can]; rw [HCA.out, HLA.out]; rfl)
      have ht2 := (HB.out.cell (p := ⟨p, 16384, none⟩) hlt).trans ht
      obtain ⟨wo, rfl⟩ : ∃ wo : World, wo = wr := ⟨_, rfl⟩
      go_wp2_with fail
      go_loopw [6, 42] (MayRel2 w ts) (fun _ v _ => n - (intOf v).toNat)
      case atStart => exact ⟨0, 0, rfl, rfl, by omega, by omega, by omega, rfl, HB.out⟩
      case round =>
        obtain ⟨i, nx, rfl, rfl, hx0, hx4, hi, hmt, hbw⟩ := hrel
        have HB2 := Lib.hid hbw
        have HMT := Lib.hid hmt
        have hz2 := hbw.size
        have hin : i ≤ n := by have := HN.out; omega
        clear hbw hmt hi
        by_cases hil : i < n
        · have hiI : (i : Int) < n := by omega
          obtain ⟨⟨a, d⟩, hx⟩ : ∃ x, ts[i]? = some x := ⟨_, List.getElem?_eq_getElem (by have := HN.out; omega)⟩
          obtain ⟨b, o, rfl, hbl, hcs⟩ := (HTA.out.below HB2.out).cells (fun e => by rw [e] at hx; simp at hx)
          obtain ⟨p0, p1⟩ := hcs _ _ hx
          simp only [tkv] at p0 p1
          have hd : ts.drop i = (a, d) :: ts.drop (i + 1) := by
            obtain ⟨h1, h2⟩ := List.getElem?_eq_some_iff.1 hx
            rw [List.drop_eq_getElem_cons h1, h2]
          have HD : Hid (r = (decide (nx ≤ a) && decide (a < 4096) && decide (1 ≤ d) && decide (d ≤ 2199023255552) && mayT (a + 1) (ts.drop (i + 1)))) := Lib.hid (by
            rw [← HRT.out, HMT.out, hd]
            rfl)
          have HD0 : Hid (mayT 0 ts = r) := HRT
          clear hcs hx hd
          by_cases c1 : a < nx
          · have HF : Hid (r = false) := Lib.hid (by rw [HD.out]; simp; omega)
            have d1 : decide (a < nx) = true := by simpa using c1
            clear c1
            go_wp2_with fail
            go_ret
            exact ⟨by rw [HF.out]; rfl, HB2.out.alloc hz2 _⟩
          · have d1 : decide (a < nx) = false := by simpa using c1
            by_cases c2 : 4096 ≤ a
            · have HF : Hid (r = false) := Lib.hid (by rw [HD.out]; simp; omega)
              have d2 : decide (4096 ≤ a) = true := by simpa using c2
              clear c1 c2
              go_wp2_with fail
              go_ret
              exact ⟨by rw [HF.out]; rfl, HB2.out.alloc hz2 _⟩
            · have d2 : decide (4096 ≤ a) = false := by simpa using c2
              by_cases c3 : d < 1
              · have HF : Hid (r = false) := Lib.hid (by rw [HD.out]; simp; omega)
                have d3 : decide (d < 1) = true := by simpa using c3
                clear c1 c2 c3
                go_wp2_with fail
                go_ret
                exact ⟨by rw [HF.out]; rfl, HB2.out.alloc hz2 _⟩
              · have d3 : decide (d < 1) = false := by simp; omega
                by_cases c4 : 2199023255552 < d
                · have HF : Hid (r = false) := Lib.hid (by rw [HD.out]; simp; omega)
                  have d4 : decide (2199023255552 < d) = true := by simpa using c4
                  clear c1 c2 c3 c4
                  go_wp2_with fail
                  go_ret
                  exact ⟨by rw [HF.out]; rfl, HB2.out.alloc hz2 _⟩
                · have d4 : decide (2199023255552 < d) = false := by simp; omega
                  have HG : Hid (mayT 0 ts = mayT (a + 1) (ts.drop (i + 1))) := Lib.hid (by
                    rw [HD0.out, HD.out, decide_eq_true (by omega : nx ≤ a), decide_eq_true (by omega : a < 4096), decide_eq_true (by omega : 1 ≤ d), decide_eq_true (by omega : d ≤ 2199023255552)]
                    simp)
                  have a0 : 0 ≤ a := by omega
                  have a4 : a < 4096 := by omega
                  clear c1 c2 c3 c4
                  go_wp2_with fail
                  go_roundw
                  case rel => exact ⟨i + 1, a + 1, by go_num, rfl, by omega, by omega, by have := HN.out; omega, HG.out, HB2.out.alloc hz2 _⟩
                  case measure => simp [intOf]; omega
        · have hiI : ¬ (i : Int) < n := by omega
          have HF : Hid (r = true) := Lib.hid (by
            rw [← HRT.out, HMT.out, List.drop_of_length_le (by have := HN.out; omega)]
            rfl)
          go_wp2_with fail
          go_ret
          exact ⟨by rw [HF.out]; rfl, HB2.out⟩
end PackW
end Go.Proofs.YtdboebokjkkgkaaDoor
