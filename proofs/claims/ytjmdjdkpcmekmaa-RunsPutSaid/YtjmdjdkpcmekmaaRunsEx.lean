/-
  The chapter's examples, reckoned.
-/
import Derived.Test.YtjmdjdkpcmekmaaRunsGet
import Derived.Test.YtjmdjdkpcmekmaaRunsPut
import Derived.Test.YtjmdjdkpcmekmaaRunsCount
namespace Go.Proofs.Ytjmdjdkpcmekmaa
open Go.RowKit
open Go.Lib (uvarint uvarint_small uvarint_big uvarint_length64 uvarint_pos zigzag)
set_option linter.unusedVariables false
set_option linter.unusedSimpArgs false
namespace RunsW
open BytesW

theorem uv1 {m : Nat} (h : m < 128) : uvarint m = [m.toUInt8] := uvarint_small h
theorem ex_put1 : putR [0, 0, 5, 0] = [2, 0, 1, 5, 1, 0] := by
  simp [putR, runs, runBytes, uv1]
theorem ex_put2 : putR [7] = [1, 7] := by simp [putR, runs, runBytes, uv1]
theorem ex_runs1 : (runs [0, 0, 5, 0]).length = 3 := by simp [runs]
theorem ex_get1 : getA [3, 7] 3 = ([7, 7, 7], 2, 0) := by
  have h := get_put (l := [7, 7, 7]) (more := []) (by decide)
  have e : putR [7, 7, 7] = [3, 7] := by simp [putR, runs, runBytes, uv1]
  rw [e] at h
  simp at h
  simp [getA, gOf, h]
theorem no_of {b : List UInt8} {n : Nat} (hn : n ≤ 65536) (h : rowGet b n = none) : getA b n = ([], 0, 4) := by
  simp only [getA]
  rw [if_neg (by omega), Int.toNat_natCast, h]
  rfl
theorem ex_no1 : getA [3, 7] 2 = ([], 0, 4) := no_of (n := 2) (by omega) (getR_bad (m := 3) (k := 1) (x := 7) (r := []) (by decide) (by decide) rfl (by decide))
theorem ex_no2 : getA [3, 7] 4 = ([], 0, 4) := no_of (n := 4) (by omega) (by
  rw [rowGet, getR_next (m := 3) (k := 1) (x := 7) (r := []) (by decide) (by decide) rfl (by decide)]
  exact getR_none (by decide) (by decide))
theorem ex_no3 : getA [1, 7, 2, 7] 3 = ([], 0, 4) := no_of (n := 3) (by omega) (by
  rw [rowGet, getR_next (m := 1) (k := 1) (x := 7) (r := [2, 7]) (by decide) (by decide) rfl (by decide)]
  exact getR_bad (m := 2) (k := 1) (x := 7) (r := []) (by decide) (by decide) rfl (by decide))
theorem ex_no4 : getA [0, 7, 1, 7] 1 = ([], 0, 4) := no_of (n := 1) (by omega) (getR_bad (m := 0) (k := 1) (x := 7) (r := [1, 7]) (by decide) (by decide) rfl (by decide))
theorem ex_no5 : getA [131, 0, 7] 3 = ([], 0, 4) := no_of (n := 3) (by omega) (getR_none (by decide) (by decide))
theorem ex_no6 : getA [3] 3 = ([], 0, 4) := no_of (n := 3) (by omega) (getR_end (m := 3) (k := 1) (by decide) (by decide) rfl)
theorem ex_get2 : getA [3, 7, 153] 3 = ([7, 7, 7], 2, 0) := by
  have h := get_put (l := [7, 7, 7]) (more := [153]) (by decide)
  have e : putR [7, 7, 7] = [3, 7] := by simp [putR, runs, runBytes, uv1]
  rw [e] at h
  simp at h
  simp [getA, gOf, h]
theorem ex_get0 (b : List UInt8) : getA b 0 = ([], 0, 0) := by
  have h : rowGet b 0 = some ([], 0) := getR_done (by simp)
  simp [getA, gOf, h]
theorem ex_arg1 : getA [] (-1) = ([], 0, 2) := by simp [getA]
theorem ex_arg2 : getA [] 65537 = ([], 0, 2) := by simp [getA]
theorem uv300 : uvarint 300 = [172, 2] := by
  rw [uvarint_big (by omega), uvarint_small (by omega)]
  rfl
theorem ex_put3 : putR (List.replicate 300 9) = [172, 2, 9] := by
  have h := putR_rep (x := 9) (r := []) (n := 300) (by omega) (by simp)
  rw [List.append_nil, uv300] at h
  rw [h]
  rfl
theorem ex_runs3 : (runs (List.replicate 300 9)).length = 1 := by
  have h := runs_rep (x := 9) (r := []) (by simp) 299
  rw [List.append_nil] at h
  rw [h]
  rfl

theorem at_bytes {w : World} {g : Nat} {cs : Array Value} {fr : Nat × Nat} {l : List UInt8} (h : w.heap[g]? = some (.cells cs 5 fr)) (hc : ∀ (i : Nat) (x : UInt8), l[i]? = some x → cs[i]? = some (bv x)) : At w (some ⟨g, 0, none⟩) l :=
  fun _ => ⟨g, 0, cs, fr, rfl, h, fun i x hx => by rw [Nat.zero_add]; exact hc i x hx⟩
theorem at_map (w : World) (l : List UInt8) : At (w.alloc (.cells (l.map bv).toArray 5)) (some ⟨w.heap.size, 0, none⟩) l :=
  at_bytes (heap_alloc_new w _) (fun i x hx => by simp [hx])

theorem run_strn (w : World) {A : Option Addr} {l : List UInt8} {k : Nat} (c : Nat) (h : At w A l) (hl : l.length = k) : (convert 22 9 (.slice A k c)).run Try.prog w = .ok (.string ⟨l.toArray⟩) w := by
  subst hl
  exact run_str w c h
theorem al (W : World) (o : Obj) : Below W.heap.size W (W.alloc o) := (Below.refl _ _).alloc (Nat.le_refl _) o
theorem gets_c {b want : List UInt8} {n : Int} {k : Nat} (h : getA b n = (want, k, 0)) (hb : b.length ≤ 1000) (w : World) :
    Calls Try.prog 15 #[.string ⟨b.toArray⟩, .int .i64 n, .string ⟨want.toArray⟩, .int .i64 k] w fun e w' => e = .returned (.bool true) ∧ Below w.heap.size w w' := by
  have H := Lib.hid h
  clear h
  go_enter Try.func15, Try.ntmps15
  go_wp2_with (first
    | ((with_reducible refine at_slot 14 ?_); refine wp_bytes rfl (.tmp 13) rfl (l := b) rfl ?_ (by simp only [maxLen]; omega); intro c1 w1 cs1 hcs1 k1 k2 k3 k4 hb1 hz1; have hA1 := at_bytes hcs1 k4)
    | (go_at_call 13; refine (get_c hA1.c k1 (by omega) H.out).mono ?_; rintro e w2 ⟨v2, rfl, hown2, hb2⟩; dsimp only at hown2; obtain ⟨A2, c2, rfl, hA2, hc2, hcm2⟩ := hown2.sl; have r1 := run_str w2 c2 hA2))
  go_ret
  exact ⟨rfl, hb1.trans (hb2.mono hb1.size)⟩
theorem no_c {b : List UInt8} {n E : Int} (h : getA b n = ([], 0, E)) (hb : b.length ≤ 1000) (w : World) :
    Calls Try.prog 16 #[.string ⟨b.toArray⟩, .int .i64 n, .int .i64 E] w fun e w' => e = .returned (.bool true) ∧ Below w.heap.size w w' := by
  have H := Lib.hid h
  clear h
  go_enter Try.func16, Try.ntmps16
  go_wp2_with (first
    | ((with_reducible refine at_slot 12 ?_); refine wp_bytes rfl (.tmp 11) rfl (l := b) rfl ?_ (by simp only [maxLen]; omega); intro c1 w1 cs1 hcs1 k1 k2 k3 k4 hb1 hz1; have hA1 := at_bytes hcs1 k4)
    | (go_at_call 13; refine (get_c hA1.c k1 (by omega) H.out).mono ?_; rintro e w2 ⟨v2, rfl, hown2, hb2⟩; dsimp only at hown2; obtain ⟨A2, c2, rfl, hA2, hc2, hcm2⟩ := hown2.sl))
  go_ret
  exact ⟨rfl, hb1.trans (hb2.mono hb1.size)⟩

theorem awake_c (w : World) : Calls Try.prog 8 #[] w fun e w' => e = .returned (.bool true) ∧ Below w.heap.size w w' := by
  have HPUT : Hid (∀ (w : World) (A : Option Addr) (c : Nat), At w A [0, 0, 5, 0] → 4 ≤ c → Calls Try.prog 9 #[.slice A 4 c] w (Gives w [2, 0, 1, 5, 1, 0])) := Lib.hid (fun w A c h hc => by
    have h := @put5_c w A [0, 0, 5, 0] c h.c hc (by decide)
    rw [ex_put1] at h
    exact h)
  have HCNT : Hid (∀ (w : World) (A : Option Addr) (c : Nat), At w A [0, 0, 5, 0] → 4 ≤ c → Calls Try.prog 11 #[.slice A 4 c] w (fun e w' => e = .returned (.int .i64 3) ∧ Below w.heap.size w w')) := Lib.hid (fun w A c h hc => @count_c w A [0, 0, 5, 0] c 3 h.c hc (by decide) ex_runs1)
  go_enter Try.func8, Try.ntmps8
  go_wp2_with (first
    | (go_at_call 9; refine (HPUT.out _ _ _ (at_map _ [0, 0, 5, 0]) (by omega)).mono ?_; rintro e w1 ⟨v1, rfl, hown1, hb1⟩; obtain ⟨A1, c1, rfl, hA1, hc1, hcm1⟩ := hown1.sl)
    | ((with_reducible refine at_slot 3 ?_); refine wp_str rfl (.tmp 2) rfl (A := A1) (l := [2, 0, 1, 5, 1, 0]) (c := c1) rfl hA1 ?_)
    | (go_at_call 11; refine (HCNT.out _ _ _ (at_map _ [0, 0, 5, 0]) (by omega)).mono ?_; rintro e w2 ⟨rfl, hb2⟩)
    | (go_at_call 15; refine (gets_c (b := [3, 7]) (want := [7, 7, 7]) (n := 3) (k := 2) ex_get1 (by decide) _).mono ?_; rintro e w3 ⟨rfl, hb3⟩)
    | (go_at_call 16; refine (no_c (b := [3, 7]) (n := 2) (E := 4) ex_no1 (by decide) _).mono ?_; rintro e w4 ⟨rfl, hb4⟩))
  go_ret
  exact ⟨rfl, below_m (below_m (below_m (below_m (below_m (al _ _) hb1) (al _ _)) hb2) hb3) hb4⟩
end RunsW
end Go.Proofs.Ytjmdjdkpcmekmaa
