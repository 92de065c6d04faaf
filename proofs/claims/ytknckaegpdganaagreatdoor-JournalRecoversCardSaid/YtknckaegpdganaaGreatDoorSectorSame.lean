/-
  Same: two rows of writes.
-/
import Derived.Test.YtknckaegpdganaaGreatDoorSectorRef
-- mine: whole_c same_c awake_c take_c step_c back_c
namespace Go.Proofs.YtknckaegpdganaaGreatDoor
open Go.RowKit
set_option linter.unusedVariables false
set_option linter.unusedSimpArgs false
set_option maxRecDepth 100000
namespace SecW
open BlkP RowG FrS PushG JournalP SecP
theorem fieldsA : (Tryz.prog.fieldsOf TA).toList.map (fun f => (f.name != "_", f.type, f.offset)) = [(true, 3, 0), (true, 9, 1)] := by kernel_rfl
theorem underA : Tryz.prog.underlying TA = some (.struct (Tryz.prog.fieldsOf TA)) := by kernel_rfl
theorem stoodA : Tryz.prog.stoodInHeld TA = false := by kernel_rfl
theorem underStr : Tryz.prog.underlying 9 = some .string := Tryz.underlying9
theorem run_partA (w : World) (x y : Value) : (part 3 #[x, y] 0).run Tryz.prog w = .ok x w ∧ (part 9 #[x, y] 1).run Tryz.prog w = .ok y w := by
  have h1 : (isAgg 3).run Tryz.prog w = .ok false w := by
    unfold isAgg
    rw [Sem.run_bind, run_underlying underI w]
    simp
  have h2 : (isAgg 9).run Tryz.prog w = .ok false w := by
    unfold isAgg
    rw [Sem.run_bind, run_underlying underStr w]
    simp
  refine ⟨?_, ?_⟩ <;> simp [part, Sem.run_bind, h1, h2]
theorem run_eqInt (w : World) (d : Nat) (x : Int) : (Op.equalIn (d + 1) 3 (.int .i64 x) (.int .i64 x)).run Tryz.prog w = .ok true w := by
  have h := run_equalIn_int (P := Tryz.prog) w d 3 .i64 .i64 x x underI
  rw [h]
  simp
theorem run_eqStr (w : World) (d : Nat) (s : ByteArray) : (Op.equalIn (d + 1) 9 (.string s) (.string s)).run Tryz.prog w = .ok true w := by
  simp [Op.equalIn, Sem.run_bind, run_underlying underStr w]
  try (first | exact beq_self_eq_true _ | (cases s with | mk a => show (a == a) = true; simp))
theorem run_eqA (w : World) (d : Nat) (a : Nat) (s : Sec) : (Op.equalIn (d + 2) TA (.agg #[.int .i64 (a : Int), .string (str s)]) (.agg #[.int .i64 (a : Int), .string (str s)])).run Tryz.prog w = .ok true w := by
  have h := run_equalIn_agg (P := Tryz.prog) w (d + 1) TA #[.int .i64 (a : Int), .string (str s)] #[.int .i64 (a : Int), .string (str s)] underA stoodA
  rw [h]
  have hf := fieldsA
  generalize (Tryz.prog.fieldsOf TA).toList = fs at hf ⊢
  have hl : fs.length = 2 := by simpa using congrArg List.length hf
  rcases fs with _ | ⟨f0, _ | ⟨f1, _ | ⟨f2, ft⟩⟩⟩
  · simp at hl
  · simp at hl
  · simp only [List.map_cons, List.map_nil, List.cons.injEq, Prod.mk.injEq, and_true] at hf
    obtain ⟨⟨n0, t0, o0⟩, n1, t1, o1⟩ := hf
    have m0 : f0.name ≠ "_" := by simpa using n0
    have m1 : f1.name ≠ "_" := by simpa using n1
    unfold Op.eqFields
    simp only [m0, t0, o0, ne_eq, not_false_eq_true, if_true, Sem.run_bind, (run_partA w _ _).1, Result.andThen_ok, run_eqInt, Bool.not_true, Bool.false_eq_true, if_false]
    unfold Op.eqFields
    simp only [m1, t1, o1, ne_eq, not_false_eq_true, if_true, Sem.run_bind, (run_partA w _ _).2, Result.andThen_ok, run_eqStr, Bool.not_true, Bool.false_eq_true, if_false]
    simp [Op.eqFields]
  · simp at hl
theorem run_neA (w : World) (a : Nat) (s : Sec) : (binOp .neq TA (.agg #[.int .i64 (a : Int), .string (str s)]) (.agg #[.int .i64 (a : Int), .string (str s)])).run Tryz.prog w = .ok (.bool false) w := by
  have h := run_eqA w 9998 a s
  simp only [binOp]
  simp [show Op.equal TA (.agg #[.int .i64 (a : Int), .string (str s)]) (.agg #[.int .i64 (a : Int), .string (str s)]) = Op.equalIn 10000 TA (.agg #[.int .i64 (a : Int), .string (str s)]) (.agg #[.int .i64 (a : Int), .string (str s)]) from rfl, h]
set_option maxHeartbeats 16000000 in
theorem Same_c {w : World} {B1 B2 : Nat} {v1 v2 : Value} {l : List (Nat × Sec)} (h1 : RowG.Own encA TA w B1 v1 l) (h2 : RowG.Own encA TA w B2 v2 l) :
    Calls Tryz.prog 11 #[v1, v2] w fun e w' => e = .returned (.bool true) ∧ Below w.heap.size w w' := by
  have H1 := Lib.hid h1
  have H2 := Lib.hid h2
  obtain ⟨n, hn⟩ : ∃ n, l.length = n := ⟨_, rfl⟩
  have HN := Lib.hid hn
  obtain ⟨A1, c1, rfl, hc1, _, hA1⟩ := h1.form hn
  obtain ⟨A2, c2, rfl, hc2, _, hA2⟩ := h2.form hn
  have HA1 := Lib.hid hA1
  have HA2 := Lib.hid hA2
  have hnb : n ≤ 9223372036854775807 := by omega
  clear h1 h2 hn hA1 hA2
  go_enter Tryz.func11, Tryz.ntmps11
  go_wp2_with fail
  go_loopw [5] (fun v5 wr => ∃ i : Nat, v5 = .int .i64 (i : Int) ∧ i ≤ n ∧ Below w.heap.size w wr) (fun v _ => n - (RowKit.intOf v).toNat)
  case atStart => exact ⟨0, rfl, Nat.zero_le _, Below.refl _ _⟩
  case round =>
    obtain ⟨i, rfl, hin, hbr⟩ := hrel
    have B1 := Lib.hid hbr
    clear hbr
    by_cases hi : i < n
    · have hiI : (i : Int) < (n : Int) := by omega
      obtain ⟨g1, rfl, _, _⟩ := HA1.out (by omega)
      obtain ⟨g2, rfl, _, _⟩ := HA2.out (by omega)
      obtain ⟨⟨xa, xs⟩, hx⟩ : ∃ x, l[i]? = some x := ⟨_, List.getElem?_eq_getElem (by rw [HN.out]; exact hi)⟩
      have R1 := Lib.hid (H1.out.below B1.out)
      have R2 := Lib.hid (H2.out.below B1.out)
      have x0 : wr.cell? ⟨g1, i * 2, none⟩ = some (.int .i64 (xa : Int)) := R1.out.cell (j := 0) hx rfl
      have x1 : wr.cell? ⟨g1, i * 2 + 1, none⟩ = some (.string (str xs)) := R1.out.cell (j := 1) hx rfl
      have y0 : wr.cell? ⟨g2, i * 2, none⟩ = some (.int .i64 (xa : Int)) := R2.out.cell (j := 0) hx rfl
      have y1 : wr.cell? ⟨g2, i * 2 + 1, none⟩ = some (.string (str xs)) := R2.out.cell (j := 1) hx rfl
      have gl1 := (R1.out.ge g1 rfl).2
      have gl2 := (R2.out.ge g2 rfl).2
      clear hx
      go_wp2_with fail
      refine wp_region_noPanic ?_
      refine wp_region_held_drew (S := fun W => Below wr.heap.size wr W) (by kernel_rfl) ((Below.refl _ wr).drew) (fun hHeld => ?_)
      refine wpAnyH_take (i := 0) (oi := ⟨some 17, _, _, _, _, _⟩) (v := .slice (some ⟨g1, 0, none⟩) n c1) rfl (by kernel_rfl) (by kernel_rfl) (by kernel_rfl) (fun _ _ _ h => h) (Or.inl ⟨by rfl, fun W hSW => by go_simp⟩) hHeld ?_
      simp only [Act.put, List.setIfInBounds_toArray, List.set_cons_zero, List.set_cons_succ]
      refine wpAnyH_take (i := 1) (oi := ⟨some 18, _, _, _, _, _⟩) (v := .int .i64 (i : Int)) rfl (by kernel_rfl) (by kernel_rfl) (by kernel_rfl) (fun _ _ _ h => h) (Or.inl ⟨by rfl, fun W hSW => by go_simp⟩) hHeld ?_
      simp only [Act.put, List.setIfInBounds_toArray, List.set_cons_zero, List.set_cons_succ]
      refine wpAnyH_take (i := 2) (oi := ⟨some 19, _, _, _, _, _⟩) (v := .pointer (some ⟨g1, i * 2, none⟩)) rfl (by kernel_rfl) (by kernel_rfl) (by kernel_rfl) (fun _ _ _ h => h) (Or.inl ⟨by rfl, fun W hSW => by go_simp⟩) hHeld ?_
      simp only [Act.put, List.setIfInBounds_toArray, List.set_cons_zero, List.set_cons_succ]
      refine wpAnyH_take (i := 3) (oi := ⟨some 20, _, _, _, _, _⟩) (v := .agg #[.int .i64 (xa : Int), .string (str xs)]) rfl (by kernel_rfl) (by kernel_rfl) (by kernel_rfl) (fun _ _ _ h => h) (Or.inl ⟨by rfl, fun W hSW => by have a0 := (hSW.cell (p := ⟨g1, i * 2, none⟩) gl1).trans x0; have a1 := (hSW.cell (p := ⟨g1, i * 2 + 1, none⟩) gl1).trans x1; go_simp⟩) hHeld ?_
      simp only [Act.put, List.setIfInBounds_toArray, List.set_cons_zero, List.set_cons_succ]
      refine wpAnyH_take (i := 4) (oi := ⟨some 21, _, _, _, _, _⟩) (v := .slice (some ⟨g2, 0, none⟩) n c2) rfl (by kernel_rfl) (by kernel_rfl) (by kernel_rfl) (fun _ _ _ h => h) (Or.inl ⟨by rfl, fun W hSW => by go_simp⟩) hHeld ?_
      simp only [Act.put, List.setIfInBounds_toArray, List.set_cons_zero, List.set_cons_succ]
      refine wpAnyH_take (i := 5) (oi := ⟨some 22, _, _, _, _, _⟩) (v := .int .i64 (i : Int)) rfl (by kernel_rfl) (by kernel_rfl) (by kernel_rfl) (fun _ _ _ h => h) (Or.inl ⟨by rfl, fun W hSW => by go_simp⟩) hHeld ?_
      simp only [Act.put, List.setIfInBounds_toArray, List.set_cons_zero, List.set_cons_succ]
      refine wpAnyH_take (i := 6) (oi := ⟨some 23, _, _, _, _, _⟩) (v := .pointer (some ⟨g2, i * 2, none⟩)) rfl (by kernel_rfl) (by kernel_rfl) (by kernel_rfl) (fun _ _ _ h => h) (Or.inl ⟨by rfl, fun W hSW => by go_simp⟩) hHeld ?_
      simp only [Act.put, List.setIfInBounds_toArray, List.set_cons_zero, List.set_cons_succ]
      refine wpAnyH_take (i := 7) (oi := ⟨some 24, _, _, _, _, _⟩) (v := .agg #[.int .i64 (xa : Int), .string (str xs)]) rfl (by kernel_rfl) (by kernel_rfl) (by kernel_rfl) (fun _ _ _ h => h) (Or.inl ⟨by rfl, fun W hSW => by have a0 := (hSW.cell (p := ⟨g2, i * 2, none⟩) gl2).trans y0; have a1 := (hSW.cell (p := ⟨g2, i * 2 + 1, none⟩) gl2).trans y1; go_simp⟩) hHeld ?_
      simp only [Act.put, List.setIfInBounds_toArray, List.set_cons_zero, List.set_cons_succ]
      refine wpAnyH_take (i := 8) (oi := ⟨some 25, _, _, _, _, _⟩) (v := .bool false) rfl (by kernel_rfl) (by kernel_rfl) (by kernel_rfl) (fun _ _ _ h => h) (Or.inl ⟨by rfl, fun W hSW => by have q := run_neA W xa xs; go_simp⟩) hHeld ?_
      simp only [Act.put, List.setIfInBounds_toArray, List.set_cons_zero, List.set_cons_succ]
      refine wpAnyH_done (by kernel_rfl) ?_ _
      refine NoPanic.normal ?_
      have B2 := Lib.hid (below_t B1.out hHeld)
      clear hHeld x0 x1 y0 y1 gl1 gl2
      go_wp2_with fail
      go_roundw
      case measure => first | (simp [RowKit.intOf]; done) | (simp [RowKit.intOf]; omega)
      case rel => exact ⟨i + 1, by first | rfl | (congr 1; omega), by omega, B2.out⟩
    · have hiI : ¬ (i : Int) < (n : Int) := by omega
      go_wp2_with fail
      go_ret
      exact ⟨rfl, B1.out⟩
end SecW
end Go.Proofs.YtknckaegpdganaaGreatDoor
