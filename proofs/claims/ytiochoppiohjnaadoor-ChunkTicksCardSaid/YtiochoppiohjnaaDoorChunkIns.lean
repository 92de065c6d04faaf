/-
  Ticks put in order by insertion.
-/
import Derived.Test.YtiochoppiohjnaaDoorChunkRow
namespace Go.Proofs.YtiochoppiohjnaaDoor
open Go.RowKit
set_option linter.unusedVariables false
set_option linter.unusedSimpArgs false
namespace ChunkW
open BytesW PackW SortW

theorem Row.swap2 {w : World} {B g n cap i j : Nat} {P Q R : List Tick} {u v : Tick} (h : Row w B g n cap (P ++ u :: (Q ++ v :: R))) (hi : P.length = i) (hj : i + 1 + Q.length = j) :
    Row ((((w.setCell ⟨g, j * 2, none⟩ (.int .i64 u.1)).setCell ⟨g, j * 2 + 1, none⟩ (.int .i64 u.2)).setCell ⟨g, i * 2, none⟩ (.int .i64 v.1)).setCell ⟨g, i * 2 + 1, none⟩ (.int .i64 v.2)) B g n cap (P ++ v :: (Q ++ u :: R)) := by
  obtain ⟨_, _, h3⟩ := two_at P u Q v R hi hj
  have h1 := (h.set (j := j) (by simp; omega) u).set (j := i) (by simp; omega) v
  rw [List.set_comm _ _ (by omega), h3] at h1
  exact h1
theorem ins_done {A C T : List Tick} {x : Tick} (hs : srt leT T = A ++ C) (hA : ∀ y ∈ A, leT y x = true) (hC : ∀ c ∈ C, leT c x = false) : srt leT (T ++ [x]) = A ++ x :: C := by
  rw [srt_append ordT, hs]
  have e : srt leT [x] = [x] := rfl
  have h0 := mrg_left (le := leT) A C [x] (fun y hy z hz => by
    simp only [List.mem_cons, List.not_mem_nil, or_false] at hz
    rw [hz]
    exact hA y hy)
  rw [e, h0]
  have h := mrg_right (le := leT) [x] C [] (fun c hc z hz => by
    simp only [List.mem_cons, List.not_mem_nil, or_false] at hz
    rw [hz]
    exact hC c hc)
  rw [List.append_nil] at h
  rw [h, mrg_nil_right]
  rfl
theorem all_le {A : List Tick} {y x : Tick} (hs : (A ++ [y]).Pairwise (fun a b => leT a b = true)) (h : leT y x = true) : ∀ z ∈ A ++ [y], leT z x = true := fun z hz => by
  rcases List.mem_append.1 hz with hz | hz
  · exact ordT.trans _ _ _ ((List.pairwise_append.1 hs).2.2 z hz y (by simp)) h
  · simp only [List.mem_cons, List.not_mem_nil, or_false] at hz
    rw [hz]
    exact h
theorem below_o {w0 w w' : World} {B g : Nat} (hb : Below B w0 w) (hg : B ≤ g) (hl : g < w.heap.size) (h : Below w.heap.size w w') : Below B w0 w' := hb.trans (h.mono (by omega))
def InsRel (w : World) (B g n cap a : Nat) (X S Y : List Tick) (i : Value) (wr : World) : Prop := ∃ k : Nat, i = .int .i64 ((a + k : Nat) : Int) ∧ 1 ≤ k ∧ (k ≤ S.length ∨ k = 1) ∧ Row wr B g n cap (X ++ srt leT (S.take k) ++ S.drop k ++ Y) ∧ Below B w wr
def InnRel (w : World) (B g n cap a k : Nat) (X S Y : List Tick) (x : Tick) (j : Value) (wr : World) : Prop := ∃ A C : List Tick, j = .int .i64 ((a + A.length : Nat) : Int) ∧ srt leT (S.take k) = A ++ C ∧ (∀ c ∈ C, leT c x = false) ∧ Row wr B g n cap (X ++ A ++ x :: (C ++ (S.drop (k + 1) ++ Y))) ∧ Below B w wr
theorem nil_or (A : List Tick) : A = [] ∨ ∃ A' y, A = A' ++ [y] := by
  rcases List.eq_nil_or_concat A with h | ⟨A', y, h⟩
  · exact .inl h
  · exact .inr ⟨A', y, by rw [h, List.concat_eq_append]⟩
theorem srt_first (S : List Tick) : srt leT (S.take 1) ++ S.drop 1 = S := by
  cases S with
  | nil => rfl
  | cons s r => rfl

set_option maxRecDepth 100000 in
set_option maxHeartbeats 8000000 in
theorem insertion_c {w : World} {B g n cap a b : Nat} {X S Y : List Tick} (hR : Row w B g n cap (X ++ S ++ Y)) (hn : n ≤ 1000000) (ha : X.length = a) (hb : a + S.length = b) :
    Calls Tryd.prog 61 #[.slice (some ⟨g, 0, none⟩) n cap, .int .i64 a, .int .i64 b, .func (.func 41) #[] #[]] w (SortP w B g n cap (X ++ srt leT S ++ Y)) := by
  have hlen := hR.2
  simp only [List.length_append] at hlen
  obtain ⟨T, hT⟩ : ∃ T, T = X ++ srt leT S ++ Y := ⟨_, rfl⟩
  have HT := Lib.hid hT
  rw [← hT]
  have hbn : b ≤ n := by omega
  have hgB := hR.ge
  have HA := Lib.hid ha
  have HBB := Lib.hid hb
  have HS0 : Hid (InsRel w B g n cap a X S Y (.int .i64 ((a + 1 : Nat) : Int)) w) := Lib.hid ⟨1, rfl, by omega, .inr rfl, by rw [List.append_assoc X, srt_first]; exact hR, Below.refl _ _⟩
  obtain ⟨a1, ha1⟩ : ∃ a1, a1 = a + 1 := ⟨_, rfl⟩
  have hw1 : IntKind.i64.wrap ((a : Int) + 1) = (a1 : Int) := by rw [IntKind.wrap_i64]; omega
  rw [← ha1] at HS0
  have hab : a ≤ b := by omega
  clear hT hlen ha hb hR ha1
  go_enter Tryd.func61, Tryd.ntmps61
  go_wp2_with fail
  clear hw1
  go_loopw [8] (InsRel w B g n cap a X S Y) (fun v _ => n + 1 - (intOf v).toNat)
  case atStart => exact HS0.out
  case round =>
    obtain ⟨k, rfl, hk1, hk2, hrow, hbw⟩ := hrel
    have HROW := Lib.hid hrow
    have HBW := Lib.hid hbw
    clear hrow hbw
    obtain ⟨i, hi⟩ : ∃ i, i = a + k := ⟨_, rfl⟩
    have HI := Lib.hid hi
    rw [← hi]
    have hai : a < i := by omega
    clear hi
    by_cases hlt : i < b
    · have hiI : (i : Int) < b := by omega
      obtain ⟨x, hx⟩ : ∃ x, S[k]? = some x := ⟨_, List.getElem?_eq_getElem (by have := HI.out; have := HBB.out; omega)⟩
      have HX := Lib.hid hx
      have HN0 : Hid (InnRel w B g n cap a k X S Y x (.int .i64 (i : Int)) wr) := Lib.hid (by
        refine ⟨srt leT (S.take k), [], ?_, by simp, fun c hc => by simp at hc, ?_, HBW.out⟩
        · rw [srt_len, List.length_take, HI.out, Nat.min_eq_left (by have := (List.getElem?_eq_some_iff.1 hx).1; omega)]
        · obtain ⟨h1, h2⟩ := List.getElem?_eq_some_iff.1 hx
          have h := HROW.out
          rw [List.drop_eq_getElem_cons h1, h2] at h
          simpa [List.append_assoc] using h)
      have HNEXT : Hid (∀ (A C : List Tick) (W : World), srt leT (S.take k) = A ++ C → (∀ c ∈ C, leT c x = false) → (∀ y ∈ A, leT y x = true) → Row W B g n cap (X ++ A ++ x :: (C ++ (S.drop (k + 1) ++ Y))) → Row W B g n cap (X ++ srt leT (S.take (k + 1)) ++ S.drop (k + 1) ++ Y)) := Lib.hid (fun A C W h1 h2 h3 h4 => by
        rw [List.take_add_one, hx, Option.toList, ins_done h1 h3 h2]
        simpa [List.append_assoc] using h4)
      clear hx
      go_wp2_with fail
      go_loopw [9] (InnRel w B g n cap a k X S Y x) (fun v _ => (intOf v).toNat)
      case atStart => exact HN0.out
      case round =>
        obtain ⟨A, C, rfl, hs, hC, hrow, hbw⟩ := hrel
        have HROW2 := Lib.hid hrow
        have HBW2 := Lib.hid hbw
        have HSC := Lib.hid hs
        have HCC := Lib.hid hC
        clear hrow hbw hs hC
        have HEND : Hid (∀ W, (∀ y ∈ A, leT y x = true) → Below wr.heap.size wr W → InsRel w B g n cap a X S Y (.int .i64 ((i : Int) + 1)) W) := Lib.hid (fun W hle hb => ⟨k + 1, by rw [HI.out]; congr 1, by omega, .inl (by have := HI.out; have := HBB.out; omega), HNEXT.out A C W HSC.out HCC.out hle (HROW2.out.below hb), below_o HBW2.out hgB HROW2.out.lt hb⟩)
        rcases nil_or A with rfl | ⟨A', y, rfl⟩
        · simp only [List.length_nil, Nat.add_zero]
          have hgt : decide ((a : Int) < (a : Int)) = false := by simp
          go_wp2_with fail
          refine wp_region_noPanic ?_
          refine wp_region_held_drew (S := fun W => Below wr.heap.size wr W) (by kernel_rfl) ((Below.refl _ wr).drew) (fun hHeld => ?_)
          refine wpAnyH_take (i := 0) (oi := ⟨some 18, _, _, _, _, _⟩) (v := .int .i64 a) rfl (by kernel_rfl) (by kernel_rfl) (by kernel_rfl) (fun _ _ _ h => h) (Or.inl ⟨by rfl, fun W hSW => by go_simp⟩) hHeld ?_
          simp only [Act.put, List.setIfInBounds_toArray, List.set_cons_zero, List.set_cons_succ]
          refine wpAnyH_take (i := 1) (oi := ⟨some 19, _, _, _, _, _⟩) (v := .int .i64 a) rfl (by kernel_rfl) (by kernel_rfl) (by kernel_rfl) (fun _ _ _ h => h) (Or.inl ⟨by rfl, fun W hSW => by go_simp⟩) hHeld ?_
          simp only [Act.put, List.setIfInBounds_toArray, List.set_cons_zero, List.set_cons_succ]
          refine wpAnyH_take (i := 2) (oi := ⟨some 20, _, _, _, _, _⟩) (v := .bool false) rfl (by kernel_rfl) (by kernel_rfl) (by kernel_rfl) (fun _ _ _ h => h) (Or.inl ⟨by rfl, fun W hSW => by go_simp⟩) hHeld ?_
          simp only [Act.put, List.setIfInBounds_toArray, List.set_cons_zero, List.set_cons_succ]
          refine wpAnyH_take (i := 3) (oi := ⟨some 21, _, _, _, _, _⟩) (v := .bool false) rfl (by kernel_rfl) (by kernel_rfl) (by kernel_rfl) (fun _ _ _ h => h) (Or.inl ⟨by rfl, fun W hSW => by go_simp⟩) hHeld ?_
          simp only [Act.put, List.setIfInBounds_toArray, List.set_cons_zero, List.set_cons_succ]
          refine wpAnyH_take (i := 4) (oi := ⟨some 22, _, _, _, _, _⟩) (v := undef) rfl (by kernel_rfl) (by kernel_rfl) (by kernel_rfl) (fun _ _ _ h => h) (Or.inr ⟨by kernel_rfl, rfl⟩) hHeld ?_
          simp only [Act.put, List.setIfInBounds_toArray, List.set_cons_zero, List.set_cons_succ]
          refine wpAnyH_take (i := 5) (oi := ⟨some 23, _, _, _, _, _⟩) (v := undef) rfl (by kernel_rfl) (by kernel_rfl) (by kernel_rfl) (fun _ _ _ h => h) (Or.inr ⟨by kernel_rfl, rfl⟩) hHeld ?_
          simp only [Act.put, List.setIfInBounds_toArray, List.set_cons_zero, List.set_cons_succ]
          refine wpAnyH_take (i := 6) (oi := ⟨some 24, _, _, _, _, _⟩) (v := undef) rfl (by kernel_rfl) (by kernel_rfl) (by kernel_rfl) (fun _ _ _ h => h) (Or.inr ⟨by kernel_rfl, rfl⟩) hHeld ?_
          simp only [Act.put, List.setIfInBounds_toArray, List.set_cons_zero, List.set_cons_succ]
          refine wpAnyH_take (i := 7) (oi := ⟨some 25, _, _, _, _, _⟩) (v := undef) rfl (by kernel_rfl) (by kernel_rfl) (by kernel_rfl) (fun _ _ _ h => h) (Or.inr ⟨by kernel_rfl, rfl⟩) hHeld ?_
          simp only [Act.put, List.setIfInBounds_toArray, List.set_cons_zero, List.set_cons_succ]
          refine wpAnyH_take (i := 8) (oi := ⟨some 26, _, _, _, _, _⟩) (v := undef) rfl (by kernel_rfl) (by kernel_rfl) (by kernel_rfl) (fun _ _ _ h => h) (Or.inr ⟨by kernel_rfl, rfl⟩) hHeld ?_
          simp only [Act.put, List.setIfInBounds_toArray, List.set_cons_zero, List.set_cons_succ]
          refine wpAnyH_take (i := 9) (oi := ⟨some 27, _, _, _, _, _⟩) (v := undef) rfl (by kernel_rfl) (by kernel_rfl) (by kernel_rfl) (fun _ _ _ h => h) (Or.inr ⟨by kernel_rfl, rfl⟩) hHeld ?_
          simp only [Act.put, List.setIfInBounds_toArray, List.set_cons_zero, List.set_cons_succ]
          refine wpAnyH_take (i := 10) (oi := ⟨some 28, _, _, _, _, _⟩) (v := undef) rfl (by kernel_rfl) (by kernel_rfl) (by kernel_rfl) (fun _ _ _ h => h) (Or.inr ⟨by kernel_rfl, rfl⟩) hHeld ?_
          simp only [Act.put, List.setIfInBounds_toArray, List.set_cons_zero, List.set_cons_succ]
          refine wpAnyH_take (i := 11) (oi := ⟨some 29, _, _, _, _, _⟩) (v := undef) rfl (by kernel_rfl) (by kernel_rfl) (by kernel_rfl) (fun _ _ _ h => h) (Or.inr ⟨by kernel_rfl, rfl⟩) hHeld ?_
          simp only [Act.put, List.setIfInBounds_toArray, List.set_cons_zero, List.set_cons_succ]
          refine wpAnyH_take (i := 12) (oi := ⟨some 30, _, _, _, _, _⟩) (v := undef) rfl (by kernel_rfl) (by kernel_rfl) (by kernel_rfl) (fun _ _ _ h => h) (Or.inr ⟨by kernel_rfl, rfl⟩) hHeld ?_
          simp only [Act.put, List.setIfInBounds_toArray, List.set_cons_zero, List.set_cons_succ]
          refine wpAnyH_take (i := 13) (oi := ⟨some 31, _, _, _, _, _⟩) (v := undef) rfl (by kernel_rfl) (by kernel_rfl) (by kernel_rfl) (fun _ _ _ h => h) (Or.inr ⟨by kernel_rfl, rfl⟩) hHeld ?_
          simp only [Act.put, List.setIfInBounds_toArray, List.set_cons_zero, List.set_cons_succ]
          refine wpAnyH_take (i := 14) (oi := ⟨some 32, _, _, _, _, _⟩) (v := undef) rfl (by kernel_rfl) (by kernel_rfl) (by kernel_rfl) (fun _ _ _ h => h) (Or.inr ⟨by kernel_rfl, rfl⟩) hHeld ?_
          simp only [Act.put, List.setIfInBounds_toArray, List.set_cons_zero, List.set_cons_succ]
          refine wpAnyH_take (i := 15) (oi := ⟨some 33, _, _, _, _, _⟩) (v := undef) rfl (by kernel_rfl) (by kernel_rfl) (by kernel_rfl) (fun _ _ _ h => h) (Or.inr ⟨by kernel_rfl, rfl⟩) hHeld ?_
          simp only [Act.put, List.setIfInBounds_toArray, List.set_cons_zero, List.set_cons_succ]
          refine wpAnyH_take (i := 16) (oi := ⟨some 34, _, _, _, _, _⟩) (v := .bool false) rfl (by kernel_rfl) (by kernel_rfl) (by kernel_rfl) (fun _ _ _ h => h) (Or.inl ⟨by rfl, fun W hSW => by go_simp⟩) hHeld ?_
          simp only [Act.put, List.setIfInBounds_toArray, List.set_cons_zero, List.set_cons_succ]
          refine wpAnyH_done (by kernel_rfl) ?_ _
          refine NoPanic.normal ?_
          go_wp2_with fail
          go_roundw
          case rel =>
            have h := HEND.out _ (fun y hy => by simp at hy) hHeld
            have e : IntKind.i64.wrap ((i : Int) + 1) = (i : Int) + 1 := by rw [IntKind.wrap_i64]; omega
            first | exact h | (rw [← e] at h; exact h)
          case measure => simp [intOf]; omega
        · obtain ⟨j, hj⟩ : ∃ j, j = a + A'.length := ⟨_, rfl⟩
          obtain ⟨j1, hj1⟩ : ∃ j1, j1 = a + (A' ++ [y]).length := ⟨_, rfl⟩
          have hrow := HROW2.out
          have hform : X ++ (A' ++ [y]) ++ x :: (C ++ (S.drop (k + 1) ++ Y)) = (X ++ A') ++ y :: ([] ++ x :: (C ++ (S.drop (k + 1) ++ Y))) := by simp
          rw [hform] at hrow
          have hl1 : (X ++ A').length = j := by have := HA.out; simp; omega
          have hl2 : j + 1 + ([] : List Tick).length = j1 := by simp at hj1 ⊢; omega
          obtain ⟨t1, t2, _⟩ := two_at _ y [] x (C ++ (S.drop (k + 1) ++ Y)) hl1 hl2
          obtain ⟨cy0, cy1⟩ := hrow.at t1
          obtain ⟨cx0, cx1⟩ := hrow.at t2
          have hlen := hrow.2
          simp only [List.length_append, List.length_cons, List.length_nil] at hlen
          have HROW3 := Lib.hid hrow
          have HL1 := Lib.hid hl1
          have HL2 := Lib.hid hl2
          have HJ1 := Lib.hid hj1
          have hgl := hrow.lt
          rw [← hj1]
          have hjj : j1 ≤ n := by simp at hl1 hl2; omega
          have hjn : j < n := by simp at hl1 hl2; omega
          have hj1n : (j1 : Int) < n := by simp at hl1 hl2; omega
          have hjnI : (j : Int) < n := by omega
          have hj0 : (0 : Int) ≤ (j : Int) := by omega
          have hj10 : (0 : Int) ≤ (j1 : Int) := by omega
          have hwj : IntKind.i64.wrap ((j1 : Int) - 1) = (j : Int) := by rw [IntKind.wrap_i64]; simp at hl2; omega
          have hgt : decide ((a : Int) < (j1 : Int)) = true := by simp; simp at hl2; omega
          have hj1lt : j < j1 := by simp at hl2; omega
          have haj : a < j1 := by simp at hl2; omega
          have hgt2 : decide (a < j1) = true := by simpa using haj
          obtain ⟨q, hq⟩ : ∃ q, leT y x = q := ⟨_, rfl⟩
          have hcq : decide (cfT x y < 0) = !q := by rw [cf_lt, hq]
          have HQ := Lib.hid hq
          clear hrow hform hl1 hl2 t1 t2 hlen hj hj1 hq
          cases q
          · go_wp2_with fail
            refine wp_region_noPanic ?_
            refine wp_region_held_drew (S := fun W => Below wr.heap.size wr W) (by kernel_rfl) ((Below.refl _ wr).drew) (fun hHeld => ?_)
            refine wpAnyH_take (i := 0) (oi := ⟨some 18, _, _, _, _, _⟩) (v := .int .i64 j1) rfl (by kernel_rfl) (by kernel_rfl) (by kernel_rfl) (fun _ _ _ h => h) (Or.inl ⟨by rfl, fun W hSW => by go_simp⟩) hHeld ?_
            simp only [Act.put, List.setIfInBounds_toArray, List.set_cons_zero, List.set_cons_succ]
            refine wpAnyH_take (i := 1) (oi := ⟨some 19, _, _, _, _, _⟩) (v := .int .i64 a) rfl (by kernel_rfl) (by kernel_rfl) (by kernel_rfl) (fun _ _ _ h => h) (Or.inl ⟨by rfl, fun W hSW => by go_simp⟩) hHeld ?_
            simp only [Act.put, List.setIfInBounds_toArray, List.set_cons_zero, List.set_cons_succ]
            refine wpAnyH_take (i := 2) (oi := ⟨some 20, _, _, _, _, _⟩) (v := .bool true) rfl (by kernel_rfl) (by kernel_rfl) (by kernel_rfl) (fun _ _ _ h => h) (Or.inl ⟨by rfl, fun W hSW => by go_simp⟩) hHeld ?_
            simp only [Act.put, List.setIfInBounds_toArray, List.set_cons_zero, List.set_cons_succ]
            refine wpAnyH_take (i := 3) (oi := ⟨some 21, _, _, _, _, _⟩) (v := .bool true) rfl (by kernel_rfl) (by kernel_rfl) (by kernel_rfl) (fun _ _ _ h => h) (Or.inl ⟨by rfl, fun W hSW => by go_simp⟩) hHeld ?_
            simp only [Act.put, List.setIfInBounds_toArray, List.set_cons_zero, List.set_cons_succ]
            refine wpAnyH_take (i := 4) (oi := ⟨some 22, _, _, _, _, _⟩) (v := .func (.func 41) #[] #[]) rfl (by kernel_rfl) (by kernel_rfl) (by kernel_rfl) (fun _ _ _ h => h) (Or.inl ⟨by rfl, fun W hSW => by go_simp⟩) hHeld ?_
            simp only [Act.put, List.setIfInBounds_toArray, List.set_cons_zero, List.set_cons_succ]
            refine wpAnyH_take (i := 5) (oi := ⟨some 23, _, _, _, _, _⟩) (v := .slice (some ⟨g, 0, none⟩) n cap) rfl (by kernel_rfl) (by kernel_rfl) (by kernel_rfl) (fun _ _ _ h => h) (Or.inl ⟨by rfl, fun W hSW => by go_simp⟩) hHeld ?_
            simp only [Act.put, List.setIfInBounds_toArray, List.set_cons_zero, List.set_cons_succ]
            refine wpAnyH_take (i := 6) (oi := ⟨some 24, _, _, _, _, _⟩) (v := .int .i64 j1) rfl (by kernel_rfl) (by kernel_rfl) (by kernel_rfl) (fun _ _ _ h => h) (Or.inl ⟨by rfl, fun W hSW => by go_simp⟩) hHeld ?_
            simp only [Act.put, List.setIfInBounds_toArray, List.set_cons_zero, List.set_cons_succ]
            refine wpAnyH_take (i := 7) (oi := ⟨some 25, _, _, _, _, _⟩) (v := .pointer (some ⟨g, j1 * 2, none⟩)) rfl (by kernel_rfl) (by kernel_rfl) (by kernel_rfl) (fun _ _ _ h => h) (Or.inl ⟨by rfl, fun W hSW => by go_simp⟩) hHeld ?_
            simp only [Act.put, List.setIfInBounds_toArray, List.set_cons_zero, List.set_cons_succ]
            refine wpAnyH_take (i := 8) (oi := ⟨some 26, _, _, _, _, _⟩) (v := .agg #[.int .i64 x.1, .int .i64 x.2]) rfl (by kernel_rfl) (by kernel_rfl) (by kernel_rfl) (fun _ _ _ h => h) (Or.inl ⟨by rfl, fun W hSW => by have c0 := (hSW.cell (p := ⟨g, j1 * 2, none⟩) hgl).trans cx0; have c1 := (hSW.cell (p := ⟨g, j1 * 2 + 1, none⟩) hgl).trans cx1; go_simp⟩) hHeld ?_
            simp only [Act.put, List.setIfInBounds_toArray, List.set_cons_zero, List.set_cons_succ]
            refine wpAnyH_take (i := 9) (oi := ⟨some 27, _, _, _, _, _⟩) (v := .slice (some ⟨g, 0, none⟩) n cap) rfl (by kernel_rfl) (by kernel_rfl) (by kernel_rfl) (fun _ _ _ h => h) (Or.inl ⟨by rfl, fun W hSW => by go_simp⟩) hHeld ?_
            simp only [Act.put, List.setIfInBounds_toArray, List.set_cons_zero, List.set_cons_succ]
            refine wpAnyH_take (i := 10) (oi := ⟨some 28, _, _, _, _, _⟩) (v := .int .i64 j1) rfl (by kernel_rfl) (by kernel_rfl) (by kernel_rfl) (fun _ _ _ h => h) (Or.inl ⟨by rfl, fun W hSW => by go_simp⟩) hHeld ?_
            simp only [Act.put, List.setIfInBounds_toArray, List.set_cons_zero, List.set_cons_succ]
            refine wpAnyH_take (i := 11) (oi := ⟨some 29, _, _, _, _, _⟩) (v := .int .i64 j) rfl (by kernel_rfl) (by kernel_rfl) (by kernel_rfl) (fun _ _ _ h => h) (Or.inl ⟨by rfl, fun W hSW => by go_simp⟩) hHeld ?_
            simp only [Act.put, List.setIfInBounds_toArray, List.set_cons_zero, List.set_cons_succ]
            refine wpAnyH_take (i := 12) (oi := ⟨some 30, _, _, _, _, _⟩) (v := .pointer (some ⟨g, j * 2, none⟩)) rfl (by kernel_rfl) (by kernel_rfl) (by kernel_rfl) (fun _ _ _ h => h) (Or.inl ⟨by rfl, fun W hSW => by go_simp⟩) hHeld ?_
            simp only [Act.put, List.setIfInBounds_toArray, List.set_cons_zero, List.set_cons_succ]
            refine wpAnyH_take (i := 13) (oi := ⟨some 31, _, _, _, _, _⟩) (v := .agg #[.int .i64 y.1, .int .i64 y.2]) rfl (by kernel_rfl) (by kernel_rfl) (by kernel_rfl) (fun _ _ _ h => h) (Or.inl ⟨by rfl, fun W hSW => by have c0 := (hSW.cell (p := ⟨g, j * 2, none⟩) hgl).trans cy0; have c1 := (hSW.cell (p := ⟨g, j * 2 + 1, none⟩) hgl).trans cy1; go_simp⟩) hHeld ?_
            simp only [Act.put, List.setIfInBounds_toArray, List.set_cons_zero, List.set_cons_succ]
            refine wpAnyH_ready (rs := [14]) (by kernel_rfl) (by simp) ?_
            refine AllReadyH.cons (o := ⟨some 32, _, _, _, _, _⟩) rfl (fun K hK => ?_) AllReadyH.nil
            go_simp
            refine (less_c (a := x) (b := y)).mono ?_
            rintro e w2 ⟨rfl, hb2⟩
            go_wp2_with fail
            refine hK.out _ _ (below_t hHeld hb2) (fun hHeld2 => ?_)
            clear hK K
            refine wpAnyH_take (i := 15) (oi := ⟨some 33, _, _, _, _, _⟩) (v := .bool true) rfl (by kernel_rfl) (by kernel_rfl) (by kernel_rfl) (fun _ _ _ h => h) (Or.inl ⟨by rfl, fun W hSW => by go_simp⟩) hHeld2 ?_
            simp only [Act.put, List.setIfInBounds_toArray, List.set_cons_zero, List.set_cons_succ]
            refine wpAnyH_take (i := 16) (oi := ⟨some 34, _, _, _, _, _⟩) (v := .bool true) rfl (by kernel_rfl) (by kernel_rfl) (by kernel_rfl) (fun _ _ _ h => h) (Or.inl ⟨by rfl, fun W hSW => by go_simp⟩) hHeld2 ?_
            simp only [Act.put, List.setIfInBounds_toArray, List.set_cons_zero, List.set_cons_succ]
            refine wpAnyH_done (by kernel_rfl) ?_ _
            refine NoPanic.normal ?_
            go_wp2_with fail
            have HB2 := Lib.hid hHeld2
            have hrow2 := HROW3.out.below hHeld2
            obtain ⟨t1, t2, _⟩ := two_at _ y [] x (C ++ (S.drop (k + 1) ++ Y)) HL1.out HL2.out
            obtain ⟨dy0, dy1⟩ := hrow2.at t1
            obtain ⟨dx0, dx1⟩ := hrow2.at t2
            have f0 := hrow2.frozen (j * 2)
            have f1 := hrow2.frozen (j * 2 + 1)
            have f2 := hrow2.frozen (j1 * 2)
            have f3 := hrow2.frozen (j1 * 2 + 1)
            have HSW := Lib.hid (hrow2.swap2 HL1.out HL2.out)
            have hjne : j ≠ j1 := by omega
            clear hHeld hHeld2 hrow2 t1 t2 cy0 cy1 cx0 cx1
            go_region
            go_wp2_with fail
            go_roundw
            case rel =>
              refine ⟨A', y :: C, ?_, ?_, ?_, ?_, ?_⟩
              · have h1 := HL1.out; rw [List.length_append] at h1; have := HA.out; first | (congr 2; omega) | (simp; omega)
              · rw [HSC.out]; simp
              · intro c hc
                rcases List.mem_cons.1 hc with rfl | hc
                · exact HQ.out
                · exact HCC.out c hc
              · have h := HSW.out
                have e : (X ++ A') ++ x :: ([] ++ y :: (C ++ (S.drop (k + 1) ++ Y))) = X ++ A' ++ x :: (y :: C ++ (S.drop (k + 1) ++ Y)) := by simp
                rw [e] at h
                first | exact h.below (Below.refl _ _).drew | exact h
              · have h := below_sw (i := j1) (j := j) (v1 := .int .i64 y.1) (v2 := .int .i64 y.2) (u1 := .int .i64 x.1) (u2 := .int .i64 x.2) (below_o HBW2.out hgB HROW2.out.lt HB2.out) hgB
                first | exact h.drew | exact h
            case measure => simp [intOf]; omega
          · go_wp2_with fail
            refine wp_region_noPanic ?_
            refine wp_region_held_drew (S := fun W => Below wr.heap.size wr W) (by kernel_rfl) ((Below.refl _ wr).drew) (fun hHeld => ?_)
            refine wpAnyH_take (i := 0) (oi := ⟨some 18, _, _, _, _, _⟩) (v := .int .i64 j1) rfl (by kernel_rfl) (by kernel_rfl) (by kernel_rfl) (fun _ _ _ h => h) (Or.inl ⟨by rfl, fun W hSW => by go_simp⟩) hHeld ?_
            simp only [Act.put, List.setIfInBounds_toArray, List.set_cons_zero, List.set_cons_succ]
            refine wpAnyH_take (i := 1) (oi := ⟨some 19, _, _, _, _, _⟩) (v := .int .i64 a) rfl (by kernel_rfl) (by kernel_rfl) (by kernel_rfl) (fun _ _ _ h => h) (Or.inl ⟨by rfl, fun W hSW => by go_simp⟩) hHeld ?_
            simp only [Act.put, List.setIfInBounds_toArray, List.set_cons_zero, List.set_cons_succ]
            refine wpAnyH_take (i := 2) (oi := ⟨some 20, _, _, _, _, _⟩) (v := .bool true) rfl (by kernel_rfl) (by kernel_rfl) (by kernel_rfl) (fun _ _ _ h => h) (Or.inl ⟨by rfl, fun W hSW => by go_simp⟩) hHeld ?_
            simp only [Act.put, List.setIfInBounds_toArray, List.set_cons_zero, List.set_cons_succ]
            refine wpAnyH_take (i := 3) (oi := ⟨some 21, _, _, _, _, _⟩) (v := .bool true) rfl (by kernel_rfl) (by kernel_rfl) (by kernel_rfl) (fun _ _ _ h => h) (Or.inl ⟨by rfl, fun W hSW => by go_simp⟩) hHeld ?_
            simp only [Act.put, List.setIfInBounds_toArray, List.set_cons_zero, List.set_cons_succ]
            refine wpAnyH_take (i := 4) (oi := ⟨some 22, _, _, _, _, _⟩) (v := .func (.func 41) #[] #[]) rfl (by kernel_rfl) (by kernel_rfl) (by kernel_rfl) (fun _ _ _ h => h) (Or.inl ⟨by rfl, fun W hSW => by go_simp⟩) hHeld ?_
            simp only [Act.put, List.setIfInBounds_toArray, List.set_cons_zero, List.set_cons_succ]
            refine wpAnyH_take (i := 5) (oi := ⟨some 23, _, _, _, _, _⟩) (v := .slice (some ⟨g, 0, none⟩) n cap) rfl (by kernel_rfl) (by kernel_rfl) (by kernel_rfl) (fun _ _ _ h => h) (Or.inl ⟨by rfl, fun W hSW => by go_simp⟩) hHeld ?_
            simp only [Act.put, List.setIfInBounds_toArray, List.set_cons_zero, List.set_cons_succ]
            refine wpAnyH_take (i := 6) (oi := ⟨some 24, _, _, _, _, _⟩) (v := .int .i64 j1) rfl (by kernel_rfl) (by kernel_rfl) (by kernel_rfl) (fun _ _ _ h => h) (Or.inl ⟨by rfl, fun W hSW => by go_simp⟩) hHeld ?_
            simp only [Act.put, List.setIfInBounds_toArray, List.set_cons_zero, List.set_cons_succ]
            refine wpAnyH_take (i := 7) (oi := ⟨some 25, _, _, _, _, _⟩) (v := .pointer (some ⟨g, j1 * 2, none⟩)) rfl (by kernel_rfl) (by kernel_rfl) (by kernel_rfl) (fun _ _ _ h => h) (Or.inl ⟨by rfl, fun W hSW => by go_simp⟩) hHeld ?_
            simp only [Act.put, List.setIfInBounds_toArray, List.set_cons_zero, List.set_cons_succ]
            refine wpAnyH_take (i := 8) (oi := ⟨some 26, _, _, _, _, _⟩) (v := .agg #[.int .i64 x.1, .int .i64 x.2]) rfl (by kernel_rfl) (by kernel_rfl) (by kernel_rfl) (fun _ _ _ h => h) (Or.inl ⟨by rfl, fun W hSW => by have c0 := (hSW.cell (p := ⟨g, j1 * 2, none⟩) hgl).trans cx0; have c1 := (hSW.cell (p := ⟨g, j1 * 2 + 1, none⟩) hgl).trans cx1; go_simp⟩) hHeld ?_
            simp only [Act.put, List.setIfInBounds_toArray, List.set_cons_zero, List.set_cons_succ]
            refine wpAnyH_take (i := 9) (oi := ⟨some 27, _, _, _, _, _⟩) (v := .slice (some ⟨g, 0, none⟩) n cap) rfl (by kernel_rfl) (by kernel_rfl) (by kernel_rfl) (fun _ _ _ h => h) (Or.inl ⟨by rfl, fun W hSW => by go_simp⟩) hHeld ?_
            simp only [Act.put, List.setIfInBounds_toArray, List.set_cons_zero, List.set_cons_succ]
            refine wpAnyH_take (i := 10) (oi := ⟨some 28, _, _, _, _, _⟩) (v := .int .i64 j1) rfl (by kernel_rfl) (by kernel_rfl) (by kernel_rfl) (fun _ _ _ h => h) (Or.inl ⟨by rfl, fun W hSW => by go_simp⟩) hHeld ?_
            simp only [Act.put, List.setIfInBounds_toArray, List.set_cons_zero, List.set_cons_succ]
            refine wpAnyH_take (i := 11) (oi := ⟨some 29, _, _, _, _, _⟩) (v := .int .i64 j) rfl (by kernel_rfl) (by kernel_rfl) (by kernel_rfl) (fun _ _ _ h => h) (Or.inl ⟨by rfl, fun W hSW => by go_simp⟩) hHeld ?_
            simp only [Act.put, List.setIfInBounds_toArray, List.set_cons_zero, List.set_cons_succ]
            refine wpAnyH_take (i := 12) (oi := ⟨some 30, _, _, _, _, _⟩) (v := .pointer (some ⟨g, j * 2, none⟩)) rfl (by kernel_rfl) (by kernel_rfl) (by kernel_rfl) (fun _ _ _ h => h) (Or.inl ⟨by rfl, fun W hSW => by go_simp⟩) hHeld ?_
            simp only [Act.put, List.setIfInBounds_toArray, List.set_cons_zero, List.set_cons_succ]
            refine wpAnyH_take (i := 13) (oi := ⟨some 31, _, _, _, _, _⟩) (v := .agg #[.int .i64 y.1, .int .i64 y.2]) rfl (by kernel_rfl) (by kernel_rfl) (by kernel_rfl) (fun _ _ _ h => h) (Or.inl ⟨by rfl, fun W hSW => by have c0 := (hSW.cell (p := ⟨g, j * 2, none⟩) hgl).trans cy0; have c1 := (hSW.cell (p := ⟨g, j * 2 + 1, none⟩) hgl).trans cy1; go_simp⟩) hHeld ?_
            simp only [Act.put, List.setIfInBounds_toArray, List.set_cons_zero, List.set_cons_succ]
            refine wpAnyH_ready (rs := [14]) (by kernel_rfl) (by simp) ?_
            refine AllReadyH.cons (o := ⟨some 32, _, _, _, _, _⟩) rfl (fun K hK => ?_) AllReadyH.nil
            go_simp
            refine (less_c (a := x) (b := y)).mono ?_
            rintro e w2 ⟨rfl, hb2⟩
            go_wp2_with fail
            refine hK.out _ _ (below_t hHeld hb2) (fun hHeld2 => ?_)
            clear hK K
            refine wpAnyH_take (i := 15) (oi := ⟨some 33, _, _, _, _, _⟩) (v := .bool false) rfl (by kernel_rfl) (by kernel_rfl) (by kernel_rfl) (fun _ _ _ h => h) (Or.inl ⟨by rfl, fun W hSW => by go_simp⟩) hHeld2 ?_
            simp only [Act.put, List.setIfInBounds_toArray, List.set_cons_zero, List.set_cons_succ]
            refine wpAnyH_take (i := 16) (oi := ⟨some 34, _, _, _, _, _⟩) (v := .bool false) rfl (by kernel_rfl) (by kernel_rfl) (by kernel_rfl) (fun _ _ _ h => h) (Or.inl ⟨by rfl, fun W hSW => by go_simp⟩) hHeld2 ?_
            simp only [Act.put, List.setIfInBounds_toArray, List.set_cons_zero, List.set_cons_succ]
            refine wpAnyH_done (by kernel_rfl) ?_ _
            refine NoPanic.normal ?_
            go_wp2_with fail
            go_roundw
            case rel =>
              have hsd := srt_sorted ordT (S.take k)
              rw [HSC.out] at hsd
              have h := HEND.out _ (all_le (List.pairwise_append.1 hsd).1 HQ.out) hHeld2
              have e : IntKind.i64.wrap ((i : Int) + 1) = (i : Int) + 1 := by rw [IntKind.wrap_i64]; omega
              first | exact h | (rw [← e] at h; exact h)
            case measure => simp [intOf]; omega
    · have hiI : ¬ (i : Int) < b := by omega
      have HF : Hid (Row wr B g n cap T) := Lib.hid (by
        have h := HROW.out
        rw [List.take_of_length_le (by have := HI.out; have := HBB.out; omega), List.drop_of_length_le (by have := HI.out; have := HBB.out; omega), List.append_nil, ← HT.out] at h
        exact h)
      go_wp2_with fail
      go_end0
      exact ⟨rfl, HF.out, HBW.out⟩
end ChunkW
end Go.Proofs.YtiochoppiohjnaaDoor
