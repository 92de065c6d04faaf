/-
  Same of rows that are only read, any numbers.
-/
import Derived.Test.YtknckaegpdganaaDoorSectorArg
import Derived.Test.YtknckaegpdganaaDoorSectorSame
namespace Go.Proofs.YtknckaegpdganaaDoor
-- mine: whole_c same_c awake_c take_c step_c back_c
open Go.RowKit
set_option linter.unusedVariables false
set_option linter.unusedSimpArgs false
set_option maxRecDepth 100000
namespace JouW
open BlkP RowG FrS PushG JournalP SecP SecW
theorem run_eqL (w : World) (d : Nat) (a : Int) (s : Sec) : (Op.equalIn (d + 2) TA (.agg #[.int .i64 a, .string (str s)]) (.agg #[.int .i64 a, .string (str s)])).run Tryd.prog w = .ok true w := by
  have h := run_equalIn_agg (P := Tryd.prog) w (d + 1) TA #[.int .i64 a, .string (str s)] #[.int .i64 a, .string (str s)] underA stoodA
  rw [h]
  have hf := fieldsA
  generalize (Tryd.prog.fieldsOf TA).toList = fs at hf ⊢
  have hl : fs.length = 2 := by simpa using congrArg List.length hf
  rcases fs with _ | ⟨f0, _ | ⟨f1, _ | ⟨f2, ft⟩⟩⟩
  · simp at hl
  · simp at hl
  · simp only [List.map_cons, List.map_nil, List.cons.injEq, Prod.mk.injEq, and_true] at hf
    obtain ⟨⟨n0, t0, o0⟩, n1, t1, o1⟩ := hf
    have m0 : f0.name ≠ "_" := by simpa using n0
    have m1 : f1.name ≠ "_" := by simpa using n1
    unfold Op.eqFields
    simp only [m0, t0, o0, ne_eq, not_false_eq_true, if_true, Sem.run_bind, (run_partA w _ _).1, Result.andThen_ok, run_eqInt, Bool.not_true, Bool.false_eq_true, if_false]
    unfold Op.eqFields
    simp only [m1, t1, o1, ne_eq, not_false_eq_true, if_true, Sem.run_bind, (run_partA w _ _).2, Result.andThen_ok, run_eqStr, Bool.not_true, Bool.false_eq_true, if_false]
    simp [Op.eqFields]
  · simp at hl
theorem run_neL (w : World) (a : Int) (s : Sec) : (binOp .neq TA (.agg #[.int .i64 a, .string (str s)]) (.agg #[.int .i64 a, .string (str s)])).run Tryd.prog w = .ok (.bool false) w := by
  have h := run_eqL w 9998 a s
  simp only [binOp]
  simp [show Op.equal TA (.agg #[.int .i64 a, .string (str s)]) (.agg #[.int .i64 a, .string (str s)]) = Op.equalIn 10000 TA (.agg #[.int .i64 a, .string (str s)]) (.agg #[.int .i64 a, .string (str s)]) from rfl, h]
set_option maxHeartbeats 16000000 in
theorem SameR_c {w : World} {A1 A2 : Option Addr} {n c1 c2 : Nat} {l : List (Int × Sec)} (h1 : Rd encL w (.slice A1 n c1) l) (h2 : Rd encL w (.slice A2 n c2) l) (hn : l.length = n) :
    Calls Tryd.prog 13 #[.slice A1 n c1, .slice A2 n c2] w fun e w' => e = .returned (.bool true) ∧ Below w.heap.size w w' := by
  have H1 := Lib.hid h1
  have H2 := Lib.hid h2
  have HN := Lib.hid hn
  have hnb : n ≤ 9223372036854775807 := by have := (RowE.rd_len h1); omega
  clear h1 h2 hn
  go_enter Tryd.func13, Tryd.ntmps13
  go_wp2_with fail
  go_loopw [5] (fun v5 wr => ∃ i : Nat, v5 = .int .i64 (i : Int) ∧ i ≤ n ∧ Below w.heap.size w wr) (fun v _ => n - (RowKit.intOf v).toNat)
  case atStart => exact ⟨0, rfl, Nat.zero_le _, Below.refl _ _⟩
  case round =>
    obtain ⟨i, rfl, hin, hbr⟩ := hrel
    have B1 := Lib.hid hbr
    clear hbr
    by_cases hi : i < n
    · have hiI : (i : Int) < (n : Int) := by omega
      obtain ⟨⟨xa, xs⟩, hx⟩ : ∃ x, l[i]? = some x := ⟨_, List.getElem?_eq_getElem (by rw [HN.out]; exact hi)⟩
      obtain ⟨b1, o1, hb1, hl1, hcs1⟩ := (H1.out.below B1.out).at hx
      obtain ⟨b2, o2, hb2, hl2, hcs2⟩ := (H2.out.below B1.out).at hx
      subst hb1 hb2
      have x0 : wr.cell? ⟨b1, o1 + i * 2, none⟩ = some (.int .i64 xa) := hcs1 0 _ rfl
      have x1 : wr.cell? ⟨b1, o1 + i * 2 + 1, none⟩ = some (.string (str xs)) := hcs1 1 _ rfl
      have y0 : wr.cell? ⟨b2, o2 + i * 2, none⟩ = some (.int .i64 xa) := hcs2 0 _ rfl
      have y1 : wr.cell? ⟨b2, o2 + i * 2 + 1, none⟩ = some (.string (str xs)) := hcs2 1 _ rfl
      have xl := hl1
      have yl := hl2
      clear hx hcs1 hcs2 hl1 hl2
      go_wp2_with fail
      refine wp_region_noPanic ?_
      refine wp_region_held_drew (S := fun W => Below wr.heap.size wr W) (by kernel_rfl) ((Below.refl _ wr).drew) (fun hHeld => ?_)
      refine wpAnyH_take (i := 0) (oi := ⟨some 17, _, _, _, _, _⟩) (v := .slice (some ⟨b1, o1, none⟩) n c1) rfl (by kernel_rfl) (by kernel_rfl) (by kernel_rfl) (fun _ _ _ h => h) (Or.inl ⟨by rfl, fun W hSW => by go_simp⟩) hHeld ?_
      simp only [Act.put, List.setIfInBounds_toArray, List.set_cons_zero, List.set_cons_succ]
      refine wpAnyH_take (i := 1) (oi := ⟨some 18, _, _, _, _, _⟩) (v := .int .i64 (i : Int)) rfl (by kernel_rfl) (by kernel_rfl) (by kernel_rfl) (fun _ _ _ h => h) (Or.inl ⟨by rfl, fun W hSW => by go_simp⟩) hHeld ?_
      simp only [Act.put, List.setIfInBounds_toArray, List.set_cons_zero, List.set_cons_succ]
      refine wpAnyH_take (i := 2) (oi := ⟨some 19, _, _, _, _, _⟩) (v := .pointer (some ⟨b1, o1 + i * 2, none⟩)) rfl (by kernel_rfl) (by kernel_rfl) (by kernel_rfl) (fun _ _ _ h => h) (Or.inl ⟨by rfl, fun W hSW => by go_simp⟩) hHeld ?_
      simp only [Act.put, List.setIfInBounds_toArray, List.set_cons_zero, List.set_cons_succ]
      refine wpAnyH_take (i := 3) (oi := ⟨some 20, _, _, _, _, _⟩) (v := .agg #[.int .i64 xa, .string (str xs)]) rfl (by kernel_rfl) (by kernel_rfl) (by kernel_rfl) (fun _ _ _ h => h) (Or.inl ⟨by rfl, fun W hSW => by have a0 := (hSW.cell (p := ⟨b1, o1 + i * 2, none⟩) xl).trans x0; have a1 := (hSW.cell (p := ⟨b1, o1 + i * 2 + 1, none⟩) xl).trans x1; go_simp⟩) hHeld ?_
      simp only [Act.put, List.setIfInBounds_toArray, List.set_cons_zero, List.set_cons_succ]
      refine wpAnyH_take (i := 4) (oi := ⟨some 21, _, _, _, _, _⟩) (v := .slice (some ⟨b2, o2, none⟩) n c2) rfl (by kernel_rfl) (by kernel_rfl) (by kernel_rfl) (fun _ _ _ h => h) (Or.inl ⟨by rfl, fun W hSW => by go_simp⟩) hHeld ?_
      simp only [Act.put, List.setIfInBounds_toArray, List.set_cons_zero, List.set_cons_succ]
      refine wpAnyH_take (i := 5) (oi := ⟨some 22, _, _, _, _, _⟩) (v := .int .i64 (i : Int)) rfl (by kernel_rfl) (by kernel_rfl) (by kernel_rfl) (fun _ _ _ h => h) (Or.inl ⟨by rfl, fun W hSW => by go_simp⟩) hHeld ?_
      simp only [Act.put, List.setIfInBounds_toArray, List.set_cons_zero, List.set_cons_succ]
      refine wpAnyH_take (i := 6) (oi := ⟨some 23, _, _, _, _, _⟩) (v := .pointer (some ⟨b2, o2 + i * 2, none⟩)) rfl (by kernel_rfl) (by kernel_rfl) (by kernel_rfl) (fun _ _ _ h => h) (Or.inl ⟨by rfl, fun W hSW => by go_simp⟩) hHeld ?_
      simp only [Act.put, List.setIfInBounds_toArray, List.set_cons_zero, List.set_cons_succ]
      refine wpAnyH_take (i := 7) (oi := ⟨some 24, _, _, _, _, _⟩) (v := .agg #[.int .i64 xa, .string (str xs)]) rfl (by kernel_rfl) (by kernel_rfl) (by kernel_rfl) (fun _ _ _ h => h) (Or.inl ⟨by rfl, fun W hSW => by have a0 := (hSW.cell (p := ⟨b2, o2 + i * 2, none⟩) yl).trans y0; have a1 := (hSW.cell (p := ⟨b2, o2 + i * 2 + 1, none⟩) yl).trans y1; go_simp⟩) hHeld ?_
      simp only [Act.put, List.setIfInBounds_toArray, List.set_cons_zero, List.set_cons_succ]
      refine wpAnyH_take (i := 8) (oi := ⟨some 25, _, _, _, _, _⟩) (v := .bool false) rfl (by kernel_rfl) (by kernel_rfl) (by kernel_rfl) (fun _ _ _ h => h) (Or.inl ⟨by rfl, fun W hSW => by have q := run_neL W xa xs; go_simp⟩) hHeld ?_
      simp only [Act.put, List.setIfInBounds_toArray, List.set_cons_zero, List.set_cons_succ]
      refine wpAnyH_done (by kernel_rfl) ?_ _
      refine NoPanic.normal ?_
      have B2 := Lib.hid (below_t B1.out hHeld)
      clear hHeld x0 x1 y0 y1 xl yl
      go_wp2_with fail
      go_roundw
      case measure => first | (simp [RowKit.intOf]; done) | (simp [RowKit.intOf]; omega)
      case rel => exact ⟨i + 1, by first | rfl | (congr 1; omega), by omega, B2.out⟩
    · have hiI : ¬ (i : Int) < (n : Int) := by omega
      go_wp2_with fail
      go_ret
      exact ⟨rfl, B1.out⟩
theorem tyL : RowE.Ty encL TAs TA 24 := ⟨underAs, ⟨_, infoA, rfl⟩, by decide⟩
theorem own_madeL {w : World} : RowG.Own encL TA (w.alloc (.cells #[] TA)) w.heap.size (.slice (some ⟨w.heap.size, 0, none⟩) 0 0) [] := World.ownsRow_made w #[] 0 (Nat.le_refl _) (Nat.zero_le _) rfl
end JouW
end Go.Proofs.YtknckaegpdganaaDoor
