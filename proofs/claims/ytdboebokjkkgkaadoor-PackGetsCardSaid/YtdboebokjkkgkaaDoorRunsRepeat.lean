/-
  slices.Repeat of one byte.
-/
import Derived.Lib.Mul64
import Derived.Laws.Bits64b
import Derived.Laws.CopyOwn
import Derived.Deep.RegionLaw
import Derived.Deep.OwnRows
import Derived.Laws.OwnMore
import Derived.Deep.RegionHeld3
import Derived.Test.YtdboebokjkkgkaaDoorBytesMemIn
import Derived.Test.YtdboebokjkkgkaaDoorRunsSame
import Derived.Test.YtdboebokjkkgkaaDoorBytesPuts
namespace Go.Proofs.YtdboebokjkkgkaaDoor
open Go.RowKit
set_option linter.unusedVariables false
set_option linter.unusedSimpArgs false
namespace RunsW
open BytesW

theorem maskN (a : Nat) (ha : a < 18446744073709551616) : bits .and .u64 (a : Int) 4294967295 = ((a % 4294967296 : Nat) : Int) := by
  have h := bits_and_u64_nat a 4294967295 ha (by omega)
  have e : a &&& 4294967295 = a % 4294967296 := Nat.and_two_pow_sub_one_eq_mod a 32
  rw [e] at h
  exact h
theorem divN (a : Nat) : (a : Int) / 4294967296 = ((a / 4294967296 : Nat) : Int) := by omega
theorem mulN (a b : Nat) : (a : Int) * (b : Int) = ((a * b : Nat) : Int) := (Int.natCast_mul a b).symm
theorem addN (a b : Nat) : (a : Int) + (b : Int) = ((a + b : Nat) : Int) := (Int.natCast_add a b).symm
theorem wrapN (a : Nat) (ha : a < 18446744073709551616) : IntKind.u64.wrap (a : Int) = (a : Int) := by rw [IntKind.wrap_u64]; omega
theorem wrapM (a : Nat) : IntKind.u64.wrap (a : Int) = ((a % 18446744073709551616 : Nat) : Int) := by rw [IntKind.wrap_u64]; omega
theorem mul64_c {x y : Nat} (hx : x < 18446744073709551616) (hy : y < 18446744073709551616) (w : World) :
    Calls Tryd.prog 70 #[.int .u64 x, .int .u64 y] w fun e w' => e = .returned (.tuple #[.int .u64 ((x * y / 18446744073709551616 : Nat) : Int), .int .u64 ((x * y % 18446744073709551616 : Nat) : Int)]) ∧ w = w' := by
  obtain ⟨bd, bt, bw, hhi⟩ := Lib.mul64_hi x y hx hy
  have ba := Lib.half_mul_le (a := x / 4294967296) (b := y / 4294967296) (by omega) (by omega)
  have bb := Lib.half_mul_le (a := x / 4294967296) (b := y % 4294967296) (by omega) (by omega)
  have bc := Lib.half_mul_le (a := x % 4294967296) (b := y / 4294967296) (by omega) (by omega)
  have ba' : x / 4294967296 * (y / 4294967296) < 18446744073709551616 := by omega
  have bb' : x / 4294967296 * (y % 4294967296) < 18446744073709551616 := by omega
  have bc' : x % 4294967296 * (y / 4294967296) < 18446744073709551616 := by omega
  have bh1 : x / 4294967296 * (y / 4294967296) + (x / 4294967296 * (y % 4294967296) + x % 4294967296 * (y % 4294967296) / 4294967296) / 4294967296 < 18446744073709551616 := by omega
  have bh : x / 4294967296 * (y / 4294967296) + (x / 4294967296 * (y % 4294967296) + x % 4294967296 * (y % 4294967296) / 4294967296) / 4294967296 + ((x / 4294967296 * (y % 4294967296) + x % 4294967296 * (y % 4294967296) / 4294967296) % 4294967296 + x % 4294967296 * (y / 4294967296)) / 4294967296 < 18446744073709551616 := by omega
  go_enter Tryd.func70, Tryd.ntmps70
  go_wp2
  simp only [maskN x hx, maskN y hy, divN, mulN, addN, wrapN _ bd, wrapN _ bb', wrapN _ bt, maskN _ bt, wrapN _ bc', wrapN _ bw, wrapN _ ba', wrapN _ bh1, wrapN _ bh, wrapM (x * y)]
  rw [hhi]
  go_ret2
  exact ⟨rfl, rfl⟩
theorem mul1_c {m : Nat} (hm : m ≤ 65536) (w : World) :
    Calls Tryd.prog 68 #[.int .u64 1, .int .u64 m] w fun e w' => e = .returned (.tuple #[.int .u64 0, .int .u64 m]) ∧ w = w' := by
  have h := fun w => @mul64_c 1 m (by omega) (by omega) w
  rw [Nat.one_mul, Nat.div_eq_of_lt (by omega), Nat.mod_eq_of_lt (by omega)] at h
  have H := Lib.hid h
  clear h
  go_enter Tryd.func68, Tryd.ntmps68
  go_wp2_with (go_at_call 70; refine (H.out _).mono ?_; rintro e w' ⟨rfl, rfl⟩)
  go_ret2
  exact ⟨rfl, rfl⟩

/-- The row while it is filled. -/
def repL (X : Int) (j m : Nat) : List Value := List.replicate j (.int .u8 X) ++ List.replicate (m - j) (.int .u8 0)
theorem repL_len {X : Int} {j m : Nat} (h : j ≤ m) : (repL X j m).length = m := by simp [repL]; omega
theorem repL_splice {X : Int} {j k m : Nat} (h : j + k ≤ m) : splice (repL X j m) j (List.replicate k (.int .u8 X)) = repL X (j + k) m := by
  unfold splice repL
  rw [List.take_left' (by simp), List.drop_append, List.length_replicate, List.drop_eq_nil_of_le (by simp), List.drop_replicate, List.nil_append, ← List.append_assoc, List.replicate_append_replicate, List.length_replicate]
  congr 2
  omega
theorem madeCells_list (z : Value) (n : Nat) : madeCells #[z] n = (List.replicate n z).toArray := by
  apply Array.ext'
  rw [toList_madeCells_one]
theorem size5 : (Tryd.prog.info? 5).map (·.size) = some 1 := by kernel_rfl
def RepRel (w : World) (g m : Nat) (X : Int) (v : Value) (wr : World) : Prop := ∃ j : Nat, v = .int .i64 j ∧ 1 ≤ j ∧ j ≤ m ∧ wr.heap[g]? = some (.cells (repL X j m).toArray 5 (0, 0)) ∧ Below w.heap.size w wr
set_option maxRecDepth 100000 in
set_option maxHeartbeats 1000000 in
theorem repeat_c {w : World} {A : Option Addr} {c m : Nat} {x : UInt8} (hA : At w A [x]) (hm : m ≤ 65536) (hm1 : 1 ≤ m) :
    Calls Tryd.prog 59 #[.slice A 1 c, .int .i64 m] w (Gives w (List.replicate m x)) := by
  have H := Lib.hid (fun w => @mul1_c m hm w)
  obtain ⟨i, hi, hz, hs1, hby⟩ := info_parts info5
  have HB := Lib.hid (show i.bytes * m ≤ 281474976710656 by rw [hby]; omega)
  have HI := Lib.hid hi
  have HZ := Lib.hid hz
  have HS := Lib.hid hs1
  obtain ⟨b, o, rfl, hcs⟩ := at_cell hA.c (by simp)
  obtain ⟨x', X, ex, hX, X0, X1, g0⟩ := hcs 0 (by simp)
  have hxx : x' = x := by simpa using ex.symm
  subst hxx
  have HX := Lib.hid hX
  have hlt := World.block_lt_of_cell? w _ g0
  have HG : Hid ((w.alloc (.cells (Array.replicate m (.int .u8 0)) 5)).heap[w.heap.size]? = some (.cells (repL X 0 m).toArray 5 (0, 0))) := Lib.hid (by rw [heap_alloc_new]; simp [repL])
  have HP : Hid (∀ j v, [Value.int .u8 X][j]? = some v → (w.alloc (.cells (Array.replicate m (.int .u8 0)) 5)).cell? ((⟨b, o, none⟩ : Addr).add j) = some v) := Lib.hid (fun j v hv => by
    match j, hv with
    | 0, hv =>
      have : Value.int .u8 X = v := by simpa using hv
      subst this
      rw [addr_add]
      exact (World.cell?_alloc_lt _ _ _ hlt).trans g0)
  have HN : Hid ([Value.int IntKind.u8 X].length = Nat.min 1 m) := Lib.hid (by show 1 = min 1 m; omega)
  have HL := Lib.hid (repL_len (X := X) (j := 0) (m := m) (by omega))
  have HR := Lib.hid (repL_splice (X := X) (j := 0) (k := 1) (m := m) (by omega))
  clear hi hz hs1 hby hX ex hcs
  go_enter Tryd.func59, Tryd.ntmps59
  go_wp2_with (first
    | (go_at_call 68; refine (H.out _).mono ?_; rintro e w' ⟨rfl, rfl⟩)
    | ((with_reducible refine at_slot 30 ?_); refine wpList_make_row _ rfl _ _ 26 rfl 5 i (.int .u8 0) under26 HI.out HZ.out HS.out rfl .i64 .i64 m rfl rfl HB.out (by omega) ?_; rw [madeCells_list])
    | ((with_reducible refine at_slot 33 ?_); refine wpList_copy_splice rfl (.tmp 31) (.tmp 32) 26 26 rfl 5 under26 size5 _ _ m m 1 c rfl rfl w.heap.size 0 (repL X 0 m) 5 HG.out [.int .u8 X] HN.out (fun _ => ⟨rfl, _, rfl, HP.out⟩) (by rw [HL.out]; simp; omega) (fun v hv => by (obtain rfl : v = .int .u8 X := by simpa using hv); rfl) w.heap.size w ((Below.refl _ w).alloc (Nat.le_refl _) _) (Nat.le_refl _) ?_; intro w2 HG2 hb2))
  have HG3 := Lib.hid (show w2.heap[w.heap.size]? = some (.cells (repL X 1 m).toArray 5 (0, 0)) by have h := HG2.out; rw [show [Value.int IntKind.u8 X] = List.replicate 1 (.int .u8 X) from rfl, HR.out] at h; exact h)
  clear HG2
  go_loopw [8] (RepRel w w.heap.size m X) (fun v _ => m - (intOf v).toNat)
  case atStart => exact ⟨1, rfl, by omega, by omega, HG3.out, hb2⟩
  case round =>
    obtain ⟨j, rfl, hj1, hj, hg, hbw⟩ := hrel
    have HGJ := Lib.hid hg
    clear hg
    by_cases hjm : j < m
    · have hne : ¬ m = j := by omega
      obtain ⟨k, hk⟩ : ∃ k, k = Nat.min j (m - j) := ⟨_, rfl⟩
      have hk1 : 1 ≤ k := by rw [hk]; simp only [Nat.min_def]; split <;> omega
      have hk2 : j + k ≤ m := by rw [hk]; simp only [Nat.min_def]; split <;> omega
      have hk3 : k ≤ j := by rw [hk]; simp only [Nat.min_def]; split <;> omega
      have HK := Lib.hid hk
      have HSP := Lib.hid (repL_splice (X := X) (j := j) (k := k) (m := m) hk2)
      have HLJ := Lib.hid (repL_len (X := X) (j := j) (m := m) hj)
      have HCE : Hid (∀ (q : Nat) v, (List.replicate k (Value.int .u8 X))[q]? = some v → wr.cell? ((⟨w.heap.size, 0, none⟩ : Addr).add q) = some v) := Lib.hid (fun q v hv => by
        rw [List.getElem?_replicate] at hv
        split at hv
        · injection hv with hv
          subst hv
          rw [addr_add, Nat.zero_add, cell_of_row wr w.heap.size q _ _ _ HGJ.out]
          simp [repL]
          rw [List.getElem?_append_left (by simp; omega), List.getElem?_replicate, if_pos (by omega)]
        · cases hv)
      have HWR : Hid (IntKind.i64.wrap ((j : Int) + k) = ((j + k : Nat) : Int)) := Lib.hid (by rw [IntKind.wrap_i64]; omega)
      clear hk
      go_wp2_with fail
      refine wp_region_noPanic ?_
      refine wp_region_held_drew (S := fun _ => True) (by kernel_rfl) trivial (fun hHeld => ?_)
      refine wpAnyH_take (i := 0) (oi := ⟨some 38, _, _, _, _, _⟩) (v := .int .i64 j) rfl (by kernel_rfl) (by kernel_rfl) (by kernel_rfl) (fun _ _ _ h => h) (Or.inl ⟨by rfl, fun w hSw => by go_simp⟩) hHeld ?_
      simp only [Act.put, List.setIfInBounds_toArray, List.set_cons_zero, List.set_cons_succ]
      refine wpAnyH_take (i := 1) (oi := ⟨some 39, _, _, _, _, _⟩) (v := .slice (some ⟨w.heap.size, 0, none⟩) m m) rfl (by kernel_rfl) (by kernel_rfl) (by kernel_rfl) (fun _ _ _ h => h) (Or.inl ⟨by rfl, fun w hSw => by go_simp⟩) hHeld ?_
      simp only [Act.put, List.setIfInBounds_toArray, List.set_cons_zero, List.set_cons_succ]
      refine wpAnyH_take (i := 2) (oi := ⟨some 40, _, _, _, _, _⟩) (v := .int .i64 j) rfl (by kernel_rfl) (by kernel_rfl) (by kernel_rfl) (fun _ _ _ h => h) (Or.inl ⟨by rfl, fun w hSw => by go_simp⟩) hHeld ?_
      simp only [Act.put, List.setIfInBounds_toArray, List.set_cons_zero, List.set_cons_succ]
      refine wpAnyH_take (i := 3) (oi := ⟨some 41, _, _, _, _, _⟩) (v := .slice (some ⟨w.heap.size, j, none⟩) (m - j) (m - j)) rfl (by kernel_rfl) (by kernel_rfl) (by kernel_rfl) (fun _ _ _ h => h) (Or.inl ⟨by rfl, fun w hSw => by go_simp⟩) hHeld ?_
      simp only [Act.put, List.setIfInBounds_toArray, List.set_cons_zero, List.set_cons_succ]
      refine wpAnyH_take (i := 4) (oi := ⟨some 42, _, _, _, _, _⟩) (v := .slice (some ⟨w.heap.size, 0, none⟩) m m) rfl (by kernel_rfl) (by kernel_rfl) (by kernel_rfl) (fun _ _ _ h => h) (Or.inl ⟨by rfl, fun w hSw => by go_simp⟩) hHeld ?_
      simp only [Act.put, List.setIfInBounds_toArray, List.set_cons_zero, List.set_cons_succ]
      refine wpAnyH_take (i := 5) (oi := ⟨some 43, _, _, _, _, _⟩) (v := .int .i64 j) rfl (by kernel_rfl) (by kernel_rfl) (by kernel_rfl) (fun _ _ _ h => h) (Or.inl ⟨by rfl, fun w hSw => by go_simp⟩) hHeld ?_
      simp only [Act.put, List.setIfInBounds_toArray, List.set_cons_zero, List.set_cons_succ]
      refine wpAnyH_take (i := 6) (oi := ⟨some 44, _, _, _, _, _⟩) (v := .slice (some ⟨w.heap.size, 0, none⟩) j m) rfl (by kernel_rfl) (by kernel_rfl) (by kernel_rfl) (fun _ _ _ h => h) (Or.inl ⟨by rfl, fun w hSw => by go_simp⟩) hHeld ?_
      simp only [Act.put, List.setIfInBounds_toArray, List.set_cons_zero, List.set_cons_succ]
      refine wpAnyH_ready (rs := [7]) (by kernel_rfl) (by simp) ?_
      refine AllReadyH.cons (o := ⟨some 45, _, _, _, _, _⟩) rfl (fun K hK => ?_) AllReadyH.nil
      refine step_copy_splice rfl (.tmp 41) (.tmp 44) 26 26 rfl 5 under26 size5 _ _ (m - j) (m - j) j m rfl rfl w.heap.size j (repL X j m) 5 HGJ.out (List.replicate k (.int .u8 X)) (by rw [List.length_replicate]; exact HK.out) (fun _ => ⟨rfl, _, rfl, HCE.out⟩) (by rw [HLJ.out, List.length_replicate]; exact hk2) (fun v hv => by (obtain ⟨_, rfl⟩ := List.mem_replicate.1 hv); rfl) w.heap.size w hbw.drew (Nat.le_refl _) ?_
      intro w4 HG4 hb4
      rw [List.length_replicate]
      have HG5 := Lib.hid (show w4.heap[w.heap.size]? = some (.cells (repL X (j + k) m).toArray 5 (0, 0)) by have h := HG4.out; rw [HSP.out] at h; exact h)
      refine hK.out _ _ trivial (fun _ => ?_)
      clear hK K
      refine wpAnyH_ready (rs := [8]) (by kernel_rfl) (by simp) ?_
      refine AllReadyH.cons (o := ⟨some 46, _, _, _, _, _⟩) rfl (fun K hK => ?_) AllReadyH.nil
      go_simp
      rw [HWR.out]
      refine hK.out _ _ trivial (fun _ => ?_)
      clear hK K
      refine wpAnyH_ready (rs := [9]) (by kernel_rfl) (by simp) ?_
      refine AllReadyH.cons (o := ⟨some 8, _, _, _, _, _⟩) rfl (fun K hK => ?_) AllReadyH.nil
      go_simp
      refine hK.out _ _ trivial (fun _ => ?_)
      clear hK K
      refine wpAnyH_done (by kernel_rfl) ?_ _
      refine NoPanic.normal ?_
      go_wp2_with fail
      go_roundw
      case rel => exact ⟨j + k, (by first | rfl | go_num), by omega, hk2, HG5.out, hb4⟩
      case measure => simp [intOf]; omega
    · have hjm2 : j = m := by omega
      subst hjm2
      go_wp2_with fail
      go_ret
      refine ⟨_, rfl, ?_, hbw⟩
      have e : repL X j j = List.replicate j (.int .u8 X) := by simp [repL]
      have hg := HGJ.out
      rw [e] at hg
      refine ⟨by simp, .inr ⟨w.heap.size, j, _, by simp, Nat.le_refl _, hg, by simp, by simp [maxLen]; omega, by simp, ?_⟩⟩
      simp [bv, HX.out]
end RunsW
end Go.Proofs.YtdboebokjkkgkaaDoor
