/-
  RunsKnown: the chapter's examples.
-/
import Derived.Test.YtjmdjdkpcmekmaaRunsEx
namespace Go.Proofs.Ytjmdjdkpcmekmaa
open Go.RowKit
open Go.Lib (uvarint uvarint_small uvarint_big uvarint_length64 uvarint_pos zigzag)
set_option linter.unusedVariables false
set_option linter.unusedSimpArgs false
namespace RunsW
open BytesW

theorem repL_set {X : Int} {j m : Nat} (h : j < m) : (repL X j m).set j (.int .u8 X) = repL X (j + 1) m := by
  unfold repL
  obtain ⟨d, hd⟩ : ∃ d, m - j = d + 1 := ⟨m - j - 1, by omega⟩
  rw [hd, List.replicate_succ, List.set_append_right _ _ (by simp), List.length_replicate, Nat.sub_self, List.set_cons_zero, List.replicate_succ', List.append_assoc, show m - (j + 1) = d by omega]
  rfl
theorem repL_cell {w : World} {g j m : Nat} {X : Int} (h : w.heap[g]? = some (.cells (repL X j m).toArray 5 (0, 0))) (hj : j < m) : w.cell? ⟨g, j, none⟩ = some (.int .u8 0) ∧ w.frozen? ⟨g, j, none⟩ = false := by
  refine ⟨?_, by simp [World.frozen?, h]⟩
  rw [cell_of_row w g j _ _ _ h]
  obtain ⟨d, hd⟩ : ∃ d, m - j = d + 1 := ⟨m - j - 1, by omega⟩
  simp [repL, hd, List.replicate_succ]
theorem repL_store {w : World} {g j m : Nat} {X : Int} (h : w.heap[g]? = some (.cells (repL X j m).toArray 5 (0, 0))) (hj : j < m) : (w.setCell ⟨g, j, none⟩ (.int .u8 X)).heap[g]? = some (.cells (repL X (j + 1) m).toArray 5 (0, 0)) := by
  rw [heap_set h, ← repL_set hj]
  simp
def KRel (w : World) (N : Nat) (v : Value) (wr : World) : Prop := ∃ j : Nat, v = .int .i64 j ∧ j ≤ N ∧ wr.heap[w.heap.size]? = some (.cells (repL 9 j N).toArray 5 (0, 0)) ∧ Below w.heap.size w wr
def Yes (w : World) (e : Ending) (w' : World) : Prop := e = .returned (.bool true) ∧ Below w.heap.size w w'

set_option maxRecDepth 100000 in
set_option maxHeartbeats 4000000 in
theorem law_known (w : World) : Calls Try.prog 5 #[] w fun e w' => e = .returned (.bool true) ∧ Below w.heap.size w w' := by
  obtain ⟨i, hi, hz, hs1, hby⟩ := info_parts info5
  have HI := Lib.hid hi
  have HZ := Lib.hid hz
  have HS := Lib.hid hs1
  have HP0 : Hid (∀ w, Calls Try.prog 9 #[.slice none 0 0] w (Gives w [])) := Lib.hid (fun w => @put5_c w none [] 0 AtC.nil (by decide) (by decide))
  have HP7 : Hid (∀ (w : World) (A : Option Addr) (c : Nat), At w A [7] → 1 ≤ c → Calls Try.prog 9 #[.slice A 1 c] w (Gives w [1, 7])) := Lib.hid (fun w A c h hc => by
    have h := @put5_c w A [7] c h.c hc (by decide)
    rw [ex_put2] at h
    exact h)
  obtain ⟨N, hN⟩ : ∃ N : Nat, N = 300 := ⟨_, rfl⟩
  have HPL : Hid (∀ (w : World) (A : Option Addr) (c : Nat), At w A (List.replicate N 9) → N ≤ c → Calls Try.prog 9 #[.slice A N c] w (Gives w [172, 2, 9])) := Lib.hid (fun w A c h hc => by
    have h := @put5_c w A (List.replicate N 9) c h.c (by rw [List.length_replicate]; exact hc) (by rw [List.length_replicate]; omega)
    rw [List.length_replicate, hN, ex_put3] at h
    rw [hN]
    exact h)
  have HCL : Hid (∀ (w : World) (A : Option Addr) (c : Nat), At w A (List.replicate N 9) → N ≤ c → Calls Try.prog 11 #[.slice A N c] w (fun e w' => e = .returned (.int .i64 1) ∧ Below w.heap.size w w')) := Lib.hid (fun w A c h hc => by
    have h := @count_c w A (List.replicate N 9) c 1 h.c (by rw [List.length_replicate]; exact hc) (by rw [List.length_replicate]; omega) (by rw [hN]; exact ex_runs3)
    rw [List.length_replicate] at h
    exact h)
  have HC0 : Hid (∀ w, Calls Try.prog 11 #[.slice none 0 0] w (fun e w' => e = .returned (.int .i64 0) ∧ Below w.heap.size w w')) := Lib.hid (fun w => @count_c w none [] 0 0 AtC.nil (by decide) (by decide) rfl)
  have HG1 : Hid (∀ w, Calls Try.prog 15 #[.string ⟨#[3, 7, 153]⟩, .int .i64 3, .string ⟨#[7, 7, 7]⟩, .int .i64 2] w (Yes w)) := Lib.hid (fun w => gets_c (b := [3, 7, 153]) (want := [7, 7, 7]) (n := 3) (k := 2) ex_get2 (by decide) w)
  have HG2 : Hid (∀ w, Calls Try.prog 15 #[.string ⟨#[0, 7]⟩, .int .i64 0, .string ⟨#[]⟩, .int .i64 0] w (Yes w)) := Lib.hid (fun w => gets_c (b := [0, 7]) (want := []) (n := 0) (k := 0) (ex_get0 _) (by decide) w)
  have HG3 : Hid (∀ w, Calls Try.prog 15 #[.string ⟨#[]⟩, .int .i64 0, .string ⟨#[]⟩, .int .i64 0] w (Yes w)) := Lib.hid (fun w => gets_c (b := []) (want := []) (n := 0) (k := 0) (ex_get0 _) (by decide) w)
  have HN1 : Hid (∀ w, Calls Try.prog 16 #[.string ⟨#[3, 7]⟩, .int .i64 4, .int .i64 4] w (Yes w)) := Lib.hid (fun w => no_c (b := [3, 7]) (n := 4) (E := 4) ex_no2 (by decide) w)
  have HN2 : Hid (∀ w, Calls Try.prog 16 #[.string ⟨#[1, 7, 2, 7]⟩, .int .i64 3, .int .i64 4] w (Yes w)) := Lib.hid (fun w => no_c (b := [1, 7, 2, 7]) (n := 3) (E := 4) ex_no3 (by decide) w)
  have HN3 : Hid (∀ w, Calls Try.prog 16 #[.string ⟨#[0, 7, 1, 7]⟩, .int .i64 1, .int .i64 4] w (Yes w)) := Lib.hid (fun w => no_c (b := [0, 7, 1, 7]) (n := 1) (E := 4) ex_no4 (by decide) w)
  have HN4 : Hid (∀ w, Calls Try.prog 16 #[.string ⟨#[131, 0, 7]⟩, .int .i64 3, .int .i64 4] w (Yes w)) := Lib.hid (fun w => no_c (b := [131, 0, 7]) (n := 3) (E := 4) ex_no5 (by decide) w)
  have HN5 : Hid (∀ w, Calls Try.prog 16 #[.string ⟨#[3]⟩, .int .i64 3, .int .i64 4] w (Yes w)) := Lib.hid (fun w => no_c (b := [3]) (n := 3) (E := 4) ex_no6 (by decide) w)
  have HN6 : Hid (∀ w, Calls Try.prog 16 #[.string ⟨#[]⟩, .int .i64 (-1), .int .i64 2] w (Yes w)) := Lib.hid (fun w => no_c (b := []) (n := -1) (E := 2) ex_arg1 (by decide) w)
  have HN7 : Hid (∀ w, Calls Try.prog 16 #[.string ⟨#[]⟩, .int .i64 65537, .int .i64 2] w (Yes w)) := Lib.hid (fun w => no_c (b := []) (n := 65537) (E := 2) ex_arg2 (by decide) w)
  have HB := Lib.hid (show i.bytes * N ≤ 281474976710656 by rw [hby]; omega)
  have H7 : Hid (∀ W : World, At (W.alloc (.cells #[.int .u8 7] 5)) (some ⟨W.heap.size, 0, none⟩) [7]) := Lib.hid (fun W => at_map W [7])
  have HNN : Hid (Value.int .i64 300 = .int .i64 (N : Int)) := Lib.hid (by rw [hN]; rfl)
  have hN1 : N ≤ 300 := by omega
  have hN2 : 300 ≤ N := by omega
  clear hi hz hs1 hby hN
  go_enter Try.func5, Try.ntmps5
  go_wp2_with ((with_reducible refine at_slot 4 ?_); refine wpList_make_row _ rfl _ _ 22 rfl 5 i (.int .u8 0) under26 HI.out HZ.out HS.out rfl .i64 .i64 N HNN.out HNN.out HB.out (by omega) ?_; rw [madeCells_list])
  go_loopw [2] (KRel w N) (fun v _ => N - (intOf v).toNat)
  case atStart => exact ⟨0, rfl, by omega, by rw [heap_alloc_new]; simp [repL], al _ _⟩
  case round =>
    obtain ⟨j, rfl, hj, hg, hbw⟩ := hrel
    by_cases hj3 : j < N
    · obtain ⟨g1, g2⟩ := repL_cell hg hj3
      have HG := Lib.hid (repL_store hg hj3)
      clear hg
      go_wp2_with fail
      go_roundw
      case rel => exact ⟨j + 1, by go_num, by omega, HG.out, hbw.setCell (p := ⟨w.heap.size, j, none⟩) (Nat.le_refl _) _⟩
      case measure => simp [intOf]; omega
    · have hj2 : j = N := by omega
      subst hj2
      have hAL : At wr (some ⟨w.heap.size, 0, none⟩) (List.replicate j 9) := at_bytes hg (fun i x hx => by
        rw [List.getElem?_replicate] at hx
        split at hx
        · rename_i hi
          injection hx with hx
          subst hx
          simp [repL, hi, bv]
        · cases hx)
      have HAL := Lib.hid hAL
      clear hg hAL
      go_wp2_with (first
        | (go_at_call 8; refine (awake_c _).mono ?_; rintro e w1 ⟨rfl, hb1⟩)
        | (go_at_call 9; (with_reducible refine (HP0.out _).mono ?_); rintro e w2 ⟨v2, rfl, hown2, hb2⟩; obtain ⟨A2, c2, rfl, hA2, hc2, hcm2⟩ := hown2.sl)
        | (go_at_call 9; (with_reducible refine (HP7.out _ _ _ (H7.out _) (by omega)).mono ?_); rintro e w3 ⟨v3, rfl, hown3, hb3⟩; obtain ⟨A3, c3, rfl, hA3, hc3, hcm3⟩ := hown3.sl; have r3 := run_strn w3 c3 hA3 (k := 2) rfl; have hbb3 := below_m (below_m (below_m hb1 hb2) (al _ _)) hb3)
        | (go_at_call 9; (with_reducible refine (HPL.out _ _ _ (HAL.out.below hbb3) (by omega)).mono ?_); rintro e w4 ⟨v4, rfl, hown4, hb4⟩; obtain ⟨A4, c4, rfl, hA4, hc4, hcm4⟩ := hown4.sl; have r4 := run_strn w4 c4 hA4 (k := 3) rfl; have hbb4 := below_m hbb3 hb4)
        | (go_at_call 11; (with_reducible refine (HCL.out _ _ _ (HAL.out.below hbb4) (by omega)).mono ?_); rintro e w5 ⟨rfl, hb5⟩)
        | (go_at_call 11; (with_reducible refine (HC0.out _).mono ?_); rintro e w6 ⟨rfl, hb6⟩)
        | (go_at_call 15; (with_reducible refine (HG1.out _).mono ?_); rintro e w7 ⟨rfl, hb7⟩)
        | (go_at_call 16; (with_reducible refine (HN1.out _).mono ?_); rintro e w8 ⟨rfl, hb8⟩)
        | (go_at_call 16; (with_reducible refine (HN2.out _).mono ?_); rintro e w9 ⟨rfl, hb9⟩)
        | (go_at_call 15; (with_reducible refine (HG2.out _).mono ?_); rintro e w10 ⟨rfl, hb10⟩)
        | (go_at_call 16; (with_reducible refine (HN3.out _).mono ?_); rintro e w11 ⟨rfl, hb11⟩)
        | (go_at_call 16; (with_reducible refine (HN4.out _).mono ?_); rintro e w12 ⟨rfl, hb12⟩)
        | (go_at_call 16; (with_reducible refine (HN5.out _).mono ?_); rintro e w13 ⟨rfl, hb13⟩)
        | (go_at_call 15; (with_reducible refine (HG3.out _).mono ?_); rintro e w14 ⟨rfl, hb14⟩)
        | (go_at_call 16; (with_reducible refine (HN6.out _).mono ?_); rintro e w15 ⟨rfl, hb15⟩)
        | (go_at_call 16; (with_reducible refine (HN7.out _).mono ?_); rintro e w16 ⟨rfl, hb16⟩))
      go_ret
      exact ⟨rfl, below_m (below_m (below_m (below_m (below_m (below_m (below_m (below_m (below_m (below_m (below_m (below_m (below_m hbw hbb4) hb5) hb6) hb7) hb8) hb9) hb10) hb11) hb12) hb13) hb14) hb15) hb16⟩
end RunsW
end Go.Proofs.Ytjmdjdkpcmekmaa
