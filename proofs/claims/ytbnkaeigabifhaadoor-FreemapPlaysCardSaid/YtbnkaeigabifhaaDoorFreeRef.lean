/-
  The reference's map: New, Size, Free, Has, Take, Give, Keep.
-/
import Derived.Test.YtbnkaeigabifhaaDoorFreeTake
import Derived.Test.YtbnkaeigabifhaaDoorFreeHome
-- mine: whole_c same_c awake_c take_c step_c back_c Made number_c next_c fixed_c clone_c int_c end_c put_c
namespace Go.Proofs.YtbnkaeigabifhaaDoor
open Go.RowKit
set_option linter.unusedVariables false
set_option linter.unusedSimpArgs false
set_option maxRecDepth 100000
namespace FreW
open BlkP RowG FrS PushG FreP
theorem tyB : RowE.Ty encB TBs TB 1 := ⟨underBs, ⟨_, infoB, rfl⟩, by decide⟩
theorem own_false {w1 : World} {B g m : Nat} (h : w1.ownsRow B TB 1 (.slice (some ⟨g, 0, none⟩) m m) m (madeCells (Value.bool false).cells (m * 1)).toList) : RowG.Own encB TB w1 B (.slice (some ⟨g, 0, none⟩) m m) (List.replicate m false) := by
  unfold RowG.Own
  have e : flat encB (List.replicate m false) = (madeCells (Value.bool false).cells (m * 1)).toList := by
    apply List.ext_getElem?
    intro i
    have hk : encB.k = 1 := rfl
    rcases Nat.lt_or_ge i m with hi | hi
    · have h0 : (List.replicate m false)[i]? = some false := by rw [List.getElem?_replicate, if_pos hi]
      have := flat_get (e := encB) (l := List.replicate m false) (i := i) (j := 0) h0 (by decide)
      rw [hk, Nat.mul_one, Nat.add_zero] at this
      rw [this]
      simp [madeCells, Value.cells, hi, encB, Nat.mod_one]
    · rw [List.getElem?_eq_none (by rw [flat_len, hk]; simpa using hi), List.getElem?_eq_none (by simp [madeCells]; omega)]
  rw [List.length_replicate, e]
  exact h
/-- A bool of a row is stored. -/
theorem bool_set {w : World} {B g n c : Nat} {L : List Bool} (h : RowG.Own encB TB w B (.slice (some ⟨g, 0, none⟩) n c) L) {i : Nat} (hi : i < L.length) (b : Bool) : RowG.Own encB TB (w.setCell ⟨g, i, none⟩ (.bool b)) B (.slice (some ⟨g, 0, none⟩) n c) (L.set i b) ∧ w.grownBy (w.setCell ⟨g, i, none⟩ (.bool b)) (some g) := by
  have hs := h.store (i := i) (j := 0) (x := has L i) (y := b) (u := .bool b) (has_lt hi) (by decide) rfl
  have e : i * encB.k + 0 = i := by
    have : encB.k = 1 := rfl
    rw [this]
    omega
  rw [e] at hs
  exact hs
theorem bool_at {w : World} {B g n c : Nat} {L : List Bool} (h : RowG.Own encB TB w B (.slice (some ⟨g, 0, none⟩) n c) L) {i : Nat} (hi : i < L.length) : w.cell? ⟨g, i, none⟩ = some (.bool (has L i)) := by
  have := h.cell (i := i) (j := 0) (x := has L i) (u := .bool (has L i)) (has_lt hi) rfl
  simpa [encB] using this
theorem RMP.set {w : World} {B p g c n : Nat} {L : List Bool} (h : RMP w B p g c n L) {i : Nat} (hi : i < n) (b : Bool) : RMP (w.setCell ⟨g, i, none⟩ (.bool b)) B p g c n (L.set i b) := by
  have hs := bool_set h.row (i := i) (by rw [h.len]; exact hi) b
  exact ⟨h.bp.grown hs.2 (fun e => h.ne (by injection e)), hs.1, by rw [List.length_set, h.len], h.lo, h.hi, h.lp⟩
theorem rSize_c (n : Int) (w : World) : Calls Tryd.prog 14 #[.int .i64 n] w fun e w' => e = .returned (.int .i64 (size n : Int)) ∧ w' = w := by
  by_cases h0 : n < 256
  · have HS := Lib.hid (show size n = 0 by unfold size isM; simp; omega)
    go_enter Tryd.func14, Tryd.ntmps14
    go_wp2_with fail
    go_ret
    exact ⟨by rw [HS.out]; rfl, rfl⟩
  · by_cases h1 : n > 131072
    · have HS := Lib.hid (show size n = 0 by unfold size isM; simp; omega)
      go_enter Tryd.func14, Tryd.ntmps14
      go_wp2_with fail
      go_ret
      exact ⟨by rw [HS.out]; rfl, rfl⟩
    · obtain ⟨m, rfl⟩ := Int.eq_ofNat_of_zero_le (show 0 ≤ n by omega)
      have HS : Hid (size (m : Int) = FreP.hs m) := Lib.hid (by
        unfold size
        rw [if_pos (isM_iff.2 ⟨by omega, by omega⟩)]
        rfl)
      have hw : IntKind.i64.wrap ((m : Int) / 4000) = ((m / 4000 : Nat) : Int) := by rw [IntKind.wrap_i64]; omega
      have hr : (m : Int) % 4000 = ((m % 4000 : Nat) : Int) := by omega
      obtain ⟨q, hq⟩ : ∃ q, q = m / 4000 := ⟨_, rfl⟩
      obtain ⟨r, hr2⟩ : ∃ r, r = m % 4000 := ⟨_, rfl⟩
      have HE : Hid (FreP.hs m = if 0 < r then q + 1 else q) := Lib.hid (by
        rw [hq, hr2]
        unfold FreP.hs
        split <;> omega)
      have hq4 : q ≤ 100 := by omega
      rw [← hq] at hw
      rw [← hr2] at hr
      clear hq hr2
      by_cases hr0 : 0 < r
      · have HE2 := Lib.hid (HE.out.trans (if_pos hr0))
        go_enter Tryd.func14, Tryd.ntmps14
        go_wp2_with fail
        go_ret
        exact ⟨by rw [HS.out, HE2.out]; rfl, rfl⟩
      · have HE2 := Lib.hid (HE.out.trans (if_neg hr0))
        obtain rfl : r = 0 := by omega
        go_enter Tryd.func14, Tryd.ntmps14
        go_wp2_with fail
        go_ret
        exact ⟨by rw [HS.out, HE2.out]; rfl, rfl⟩
theorem rNew_no {n : Int} (h : isM n = false) (w : World) :
    Calls Tryd.prog 12 #[.int .i64 n] w fun e w' => e = .returned (.tuple #[.pointer none, .int .i64 2]) ∧ w' = w := by
  by_cases h0 : n < 256
  · go_enter Tryd.func12, Tryd.ntmps12
    go_wp2_with fail
    refine bodyPost_ret (v := .tuple #[.pointer none, .int .i64 2]) (by simp [results, Tryd.results12, go_sem]) rfl ?_
    exact ⟨rfl, rfl⟩
  · have h1 : n > 131072 := by
      apply Classical.byContradiction
      intro q
      have : isM n = true := isM_iff.2 ⟨by omega, by omega⟩
      rw [this] at h
      cases h
    clear h
    go_enter Tryd.func12, Tryd.ntmps12
    go_wp2_with fail
    refine bodyPost_ret (v := .tuple #[.pointer none, .int .i64 2]) (by simp [results, Tryd.results12, go_sem]) rfl ?_
    exact ⟨rfl, rfl⟩
/-- A map all of whose sectors are free. -/
def fullL (n : Nat) : List Bool := bitsL (fun _ => true) n
set_option maxHeartbeats 4000000 in
theorem rNew_i {n : Nat} (lo : 256 ≤ n) (hi : n ≤ 131072) (w : World) :
    Calls Tryd.prog 12 #[.int .i64 (n : Int)] w fun e w' => ∃ p, e = .returned (.tuple #[.pointer (some ⟨p, 0, none⟩), .int .i64 0]) ∧ RMade w p n (fullL n) w' := by
  obtain ⟨i, hi0, hz, hs1, hby⟩ := info_parts infoB
  have HI := Lib.hid hi0
  have HZ := Lib.hid hz
  have HS1 := Lib.hid hs1
  have HB := Lib.hid hby
  have hm : maxLen = 9223372036854775807 := rfl
  clear hi0 hz hs1 hby
  go_enter Tryd.func12, Tryd.ntmps12
  go_wp2_with ((with_reducible refine at_slot 13 ?_); refine wpList_make_full _ rfl _ _ TBs rfl w.heap.size TB i (.bool false) 1 underBs HI.out HZ.out HS1.out .i64 .i64 _ _ n rfl rfl rfl rfl (by rw [HB.out]; omega) (by omega) (Nat.le_refl _) ?_; intro w1 hown1 hg1; have OW := Lib.hid (own_false hown1); have BW := Lib.hid (show Below w.heap.size w w1 from (Below.refl _ w).grown hg1 (Nat.le_refl _) (by simp)); have hs1 := BW.out.size; clear hown1 hg1)
  go_loopw [5] (fun v5 wr => ∃ k : Nat, v5 = .int .i64 (k : Int) ∧ k ≤ n ∧ RowG.Own encB TB wr w.heap.size (.slice (some ⟨w.heap.size, 0, none⟩) n n) (upto (fun _ => true) n k) ∧ Below w.heap.size w wr) (fun v5 _ => n - (RowKit.intOf v5).toNat)
  case atStart => exact ⟨0, rfl, by omega, by rw [upto_zero]; exact OW.out, BW.out⟩
  case round =>
    obtain ⟨k, rfl, hk, ho, hbr⟩ := hrel
    have OR := Lib.hid ho
    have BR := Lib.hid hbr
    by_cases hlt : k < n
    · have cb := bool_at ho (i := k) (by rw [upto_len]; exact hlt)
      have hfz := ho.frozen k
      have HS := Lib.hid (bool_set ho (i := k) (by rw [upto_len]; exact hlt) true)
      have HU := Lib.hid (upto_succ (fun _ => true) hlt)
      clear ho hbr
      go_wp2_with fail
      go_roundw
      case rel =>
        refine ⟨k + 1, by go_num, by omega, ?_, ?_⟩
        · rw [HU.out, if_pos rfl]
          exact HS.out.1
        · exact BR.out.trans ((Below.refl _ _).grown HS.out.2 BR.out.size (fun i hi => by injection hi with hi; omega))
      case measure => simp [RowKit.intOf]; omega
    · obtain rfl : k = n := by omega
      have hz := hbr.size
      have HE := Lib.hid (upto_all (fun _ => true) k)
      clear ho hbr
      go_wp2_with fail
      refine bodyPost_ret (v := .tuple #[.pointer (some ⟨wr.heap.size, 0, none⟩), .int .i64 0]) (by simp [results, Tryd.results12, go_sem]) rfl ?_
      refine ⟨wr.heap.size, rfl, rmade_of (g := w.heap.size) (c := k) (BR.out.alloc hz _) (BlkP.Blk.new _ _ _) ?_ (bitsL_len _ _) lo hi hz⟩
      have := OR.out.alloc (.cells #[.slice (some ⟨w.heap.size, 0, none⟩) k k] TRM)
      rw [HE.out] at this
      exact this
section
variable {w : World} {B p n : Nat} {L : List Bool} {S : Nat → Prop}
theorem rHas_i (h : Rm w B p n L S) (x : Int) : Calls Tryd.prog 28 #[.pointer (some ⟨p, 0, none⟩), .int .i64 x] w fun e w' => e = .returned (.bool (inL L x && has L x.toNat)) ∧ w' = w := by
  have hlen := h.len
  obtain ⟨g, c, hP, hS⟩ := h
  have c0 := hP.bp.cell (i := 0) (v := .slice (some ⟨g, 0, none⟩) n c) rfl
  by_cases h0 : 0 ≤ x
  · by_cases h1 : x < n
    · obtain ⟨i, rfl⟩ := Int.eq_ofNat_of_zero_le h0
      have hi : i < n := by omega
      have cb := hP.bit hi
      have HR : Hid ((inL L (i : Int) && has L (i : Int).toNat) = has L i) := Lib.hid (by
        rw [inL_iff.2 ⟨by omega, by omega⟩, Bool.true_and]
        rfl)
      clear hP hS hlen
      rw [HR.out]
      obtain ⟨r, hr⟩ : ∃ r, r = has L i := ⟨_, rfl⟩
      rw [← hr] at cb ⊢
      clear hr HR
      go_enter Tryd.func28, Tryd.ntmps28
      go_wp2_with fail
      go_ret
      exact ⟨rfl, rfl⟩
    · have HR : Hid ((inL L x && has L x.toNat) = false) := Lib.hid (by
        unfold inL
        rw [hlen]
        simp [h1])
      rw [HR.out]
      have h2 : decide (x < (n : Int)) = false := by simpa using h1
      clear hP hS hlen
      go_enter Tryd.func28, Tryd.ntmps28
      go_wp2_with fail
      go_ret
      exact ⟨rfl, rfl⟩
  · have HR : Hid ((inL L x && has L x.toNat) = false) := Lib.hid (by
      unfold inL
      simp [h0])
    rw [HR.out]
    clear hP hS hlen
    go_enter Tryd.func28, Tryd.ntmps28
    go_wp2_with fail
    go_ret
    exact ⟨rfl, rfl⟩
set_option maxHeartbeats 1000000 in
theorem rFree_i (h : Rm w B p n L S) : Calls Tryd.prog 26 #[.pointer (some ⟨p, 0, none⟩)] w fun e w' => e = .returned (.int .i64 (free L : Int)) ∧ w' = w := by
  have hlen := h.len
  have hhi := h.hi
  obtain ⟨g, c, hP, hS⟩ := h
  have c0 := hP.bp.cell (i := 0) (v := .slice (some ⟨g, 0, none⟩) n c) rfl
  have HE : Hid (cnt (has L) 0 n = free L) := Lib.hid (by rw [← hlen]; rfl)
  have HB := Lib.hid (fun j (hj : j < n) => hP.bit hj)
  clear hP hS hlen
  go_enter Tryd.func26, Tryd.ntmps26
  go_wp2_with fail
  go_loopw [3, 4] (fun v3 v4 wr => ∃ (j : Nat), v4 = .int .i64 (j : Int) ∧ j ≤ n ∧ v3 = .int .i64 ((cnt (has L) 0 j : Nat) : Int) ∧ wr = w) (fun v3 v4 _ => n - (RowKit.intOf v4).toNat)
  case atStart => exact ⟨0, rfl, by omega, rfl, rfl⟩
  case round =>
    obtain ⟨j, rfl, hj, rfl, hwr⟩ := hrel
    obtain rfl := hwr
    by_cases hlt : j < n
    · have cb := HB.out j hlt
      have hle := cnt_le (has L) j 0
      have HC := Lib.hid (cnt_succ (has L) 0 j)
      rw [Nat.zero_add] at HC
      obtain ⟨q, hq⟩ : ∃ q, q = cnt (has L) 0 j := ⟨_, rfl⟩
      rw [← hq] at HC hle ⊢
      clear hq
      cases hb : has L j
      · rw [hb] at cb HC
        clear hb
        go_wp2_with fail
        go_roundw
        case rel => exact ⟨j + 1, by go_num, by omega, by rw [HC.out]; rfl, by first | rfl | trivial⟩
        case measure => simp [RowKit.intOf]; omega
      · rw [hb] at cb HC
        clear hb
        go_wp2_with fail
        go_roundw
        case rel => exact ⟨j + 1, by go_num, by omega, by rw [HC.out]; first | rfl | go_num, by first | rfl | trivial⟩
        case measure => simp [RowKit.intOf]; omega
    · obtain rfl : j = n := by omega
      go_wp2_with fail
      go_ret
      exact ⟨by rw [← HE.out]; rfl, rfl⟩
end
end FreW
end Go.Proofs.YtbnkaeigabifhaaDoor
