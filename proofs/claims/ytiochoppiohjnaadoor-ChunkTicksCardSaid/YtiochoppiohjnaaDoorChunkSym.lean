/-
  Two rows merged in place, one of them a single tick.
-/
import Derived.Test.YtiochoppiohjnaaDoorChunkIns
namespace Go.Proofs.YtiochoppiohjnaaDoor
open Go.RowKit
set_option linter.unusedVariables false
set_option linter.unusedSimpArgs false
namespace ChunkW
open BytesW PackW SortW

theorem sorted_at {R : List Tick} (h : R.Pairwise (fun a b => leT a b = true)) {i j : Nat} {x y : Tick} (hi : R[i]? = some x) (hj : R[j]? = some y) (hij : i ≤ j) : leT x y = true := by
  rcases Nat.lt_or_eq_of_le hij with h1 | h1
  · obtain ⟨a1, a2⟩ := List.getElem?_eq_some_iff.1 hi
    obtain ⟨b1, b2⟩ := List.getElem?_eq_some_iff.1 hj
    rw [← a2, ← b2]
    exact List.pairwise_iff_getElem.1 h i j a1 b1 h1
  · subst h1
    rw [hi] at hj
    injection hj with hj
    subst hj
    exact (ordT.total x x).elim id id
theorem take_all {R : List Tick} {p : Nat} {f : Tick → Prop} (h : ∀ i y, i < p → R[i]? = some y → f y) : ∀ y ∈ R.take p, f y := fun y hy => by
  obtain ⟨i, hi⟩ := List.mem_iff_getElem?.1 hy
  rw [List.getElem?_take] at hi
  split at hi
  · exact h i y (by assumption) hi
  · cases hi
theorem drop_all {R : List Tick} {p : Nat} {f : Tick → Prop} (h : ∀ i y, p ≤ i → R[i]? = some y → f y) : ∀ y ∈ R.drop p, f y := fun y hy => by
  obtain ⟨i, hi⟩ := List.mem_iff_getElem?.1 hy
  rw [List.getElem?_drop] at hi
  exact h (p + i) y (by omega) hi
/-- One is put into a row that rises: behind all that are less. -/
theorem mrg_onel {R : List Tick} {x : Tick} {p : Nat} (h1 : ∀ y ∈ R.take p, leT x y = false) (h2 : ∀ y ∈ R.drop p, leT x y = true) : mrg leT [x] R = R.take p ++ x :: R.drop p := by
  conv => lhs; rw [← List.take_append_drop p R]
  have a := mrg_right (le := leT) (R.take p) [x] (R.drop p) (fun z hz y hy => by
    simp only [List.mem_cons, List.not_mem_nil, or_false] at hz
    rw [hz]
    exact h1 y hy)
  have b := mrg_left (le := leT) [x] [] (R.drop p) (fun z hz y hy => by
    simp only [List.mem_cons, List.not_mem_nil, or_false] at hz
    rw [hz]
    exact h2 y hy)
  rw [List.append_nil] at b
  rw [a, b, mrg_nil_left]
  rfl
theorem mrg_oner {L : List Tick} {y : Tick} {p : Nat} (h1 : ∀ x ∈ L.take p, leT x y = true) (h2 : ∀ x ∈ L.drop p, leT x y = false) : mrg leT L [y] = L.take p ++ y :: L.drop p := by
  conv => lhs; rw [← List.take_append_drop p L]
  have a := mrg_left (le := leT) (L.take p) (L.drop p) [y] (fun z hz w hw => by
    simp only [List.mem_cons, List.not_mem_nil, or_false] at hw
    rw [hw]
    exact h1 z hz)
  have b := mrg_right (le := leT) [y] (L.drop p) [] (fun z hz w hw => by
    simp only [List.mem_cons, List.not_mem_nil, or_false] at hw
    rw [hw]
    exact h2 z hz)
  rw [List.append_nil] at b
  rw [a, b, mrg_nil_right]
  rfl
theorem half {i j : Nat} (h : i < j) (hj : j ≤ 1000000) : ∃ c : Nat, c = (i + j) / 2 ∧ i ≤ c ∧ c < j := ⟨_, rfl, by omega, by omega⟩
/-- The first search: where the left one goes. -/
def SARel (w : World) (B g n cap m b : Nat) (X : List Tick) (x : Tick) (R Y : List Tick) (iv jv : Value) (wr : World) : Prop := ∃ i j : Nat, iv = .int .i64 i ∧ jv = .int .i64 j ∧ m ≤ i ∧ i ≤ j ∧ j ≤ b ∧ (∀ q y, q < i - m → R[q]? = some y → leT x y = false) ∧ (∀ q y, j - m ≤ q → R[q]? = some y → leT x y = true) ∧ Row wr B g n cap (X ++ x :: (R ++ Y)) ∧ Below B w wr
def SBRel (w : World) (B g n cap a p : Nat) (X : List Tick) (x : Tick) (R Y : List Tick) (kv : Value) (wr : World) : Prop := ∃ C D : List Tick, kv = .int .i64 ((a + C.length : Nat) : Int) ∧ R.take p = C ++ D ∧ Row wr B g n cap (X ++ C ++ x :: (D ++ (R.drop p ++ Y))) ∧ Below B w wr
theorem at_mid {X : List Tick} {x : Tick} {R Y : List Tick} {a m i : Nat} {y : Tick} (ha : X.length = a) (hm : a + 1 = m) (hi : m ≤ i) (hy : R[i - m]? = some y) : (X ++ x :: (R ++ Y))[i]? = some y ∧ (X ++ x :: (R ++ Y))[a]? = some x := by
  subst ha hm
  have h1 := (List.getElem?_eq_some_iff.1 hy).1
  constructor
  · rw [List.getElem?_append_right (by omega), show i - X.length = (i - (X.length + 1)) + 1 by omega, List.getElem?_cons_succ, List.getElem?_append_left h1, hy]
  · simp

set_option maxRecDepth 100000 in
set_option maxHeartbeats 8000000 in
theorem symA_c {w : World} {B g n cap a m b : Nat} {X R Y : List Tick} {x : Tick} (hR : Row w B g n cap (X ++ x :: (R ++ Y))) (hn : n ≤ 1000000) (ha : X.length = a) (hm : a + 1 = m) (hb : m + R.length = b) (hs : R.Pairwise (fun a b => leT a b = true)) :
    Calls Tryd.prog 62 #[.slice (some ⟨g, 0, none⟩) n cap, .int .i64 a, .int .i64 m, .int .i64 b, .func (.func 41) #[] #[]] w (SortP w B g n cap (X ++ mrg leT [x] R ++ Y)) := by
  have hlen := hR.2
  simp only [List.length_append, List.length_cons] at hlen
  obtain ⟨T, hT⟩ : ∃ T, T = X ++ mrg leT [x] R ++ Y := ⟨_, rfl⟩
  have HT := Lib.hid hT
  rw [← hT]
  have hbn : b ≤ n := by omega
  have hmb : m ≤ b := by omega
  have han : (a : Int) < n := by omega
  have hgB := hR.ge
  have HA := Lib.hid ha
  have HM := Lib.hid hm
  have HBB := Lib.hid hb
  have HS := Lib.hid hs
  have HR := Lib.hid hR
  have hw1 : IntKind.i64.wrap ((m : Int) - (a : Int)) = 1 := by rw [IntKind.wrap_i64]; omega
  clear hT hlen ha hb hR hm hs
  go_enter Tryd.func62, Tryd.ntmps62
  go_wp2_with fail
  clear hw1
  go_loopw [10, 11] (SARel w B g n cap m b X x R Y) (fun u v _ => (intOf v).toNat - (intOf u).toNat)
  case atStart => exact ⟨m, b, rfl, rfl, by omega, hmb, by omega, fun q y hq => absurd hq (by omega), fun q y hq hy => by have := (List.getElem?_eq_some_iff.1 hy).1; have := HBB.out; omega, HR.out, Below.refl _ _⟩
  case round =>
    obtain ⟨i, j, rfl, rfl, hmi, hij, hjb, h1, h2, hrow, hbw⟩ := hrel
    have HROW := Lib.hid hrow
    have HBW := Lib.hid hbw
    have H1 := Lib.hid h1
    have H2 := Lib.hid h2
    clear hrow hbw h1 h2
    by_cases hlt : i < j
    · have hltI : (i : Int) < j := by omega
      obtain ⟨c, hc, hic, hcj⟩ := half hlt (by omega)
      obtain ⟨y, hy⟩ : ∃ y, R[c - m]? = some y := ⟨_, List.getElem?_eq_getElem (by have := HBB.out; omega)⟩
      obtain ⟨t1, t2⟩ := at_mid (x := x) (Y := Y) HA.out HM.out (by omega) hy
      obtain ⟨cy0, cy1⟩ := HROW.out.at t1
      obtain ⟨cx0, cx1⟩ := HROW.out.at t2
      have hgl := HROW.out.lt
      have hcn : (c : Int) < n := by omega
      have hc0 : (0 : Int) ≤ (c : Int) := by omega
      have ha0 : (0 : Int) ≤ (a : Int) := by omega
      have HC := Lib.hid hc
      have HY := Lib.hid hy
      have hsum : ((i : Int) + (j : Int)) / 2 = (c : Int) := by omega
      obtain ⟨q, hq⟩ : ∃ q, leT x y = q := ⟨_, rfl⟩
      have hcq : decide (cfT y x < 0) = !q := by rw [cf_lt, hq]
      have HQ := Lib.hid hq
      clear hc hy t1 t2 hq
      cases q
      · go_wp2_with fail
        refine wp_region_noPanic ?_
        refine wp_region_held_drew (S := fun W => Below wr.heap.size wr W) (by kernel_rfl) ((Below.refl _ wr).drew) (fun hHeld => ?_)
        refine wpAnyH_take (i := 0) (oi := ⟨some 40, _, _, _, _, _⟩) (v := .func (.func 41) #[] #[]) rfl (by kernel_rfl) (by kernel_rfl) (by kernel_rfl) (fun _ _ _ h => h) (Or.inl ⟨by rfl, fun W hSW => by go_simp⟩) hHeld ?_
        simp only [Act.put, List.setIfInBounds_toArray, List.set_cons_zero, List.set_cons_succ]
        refine wpAnyH_take (i := 1) (oi := ⟨some 41, _, _, _, _, _⟩) (v := .slice (some ⟨g, 0, none⟩) n cap) rfl (by kernel_rfl) (by kernel_rfl) (by kernel_rfl) (fun _ _ _ h => h) (Or.inl ⟨by rfl, fun W hSW => by go_simp⟩) hHeld ?_
        simp only [Act.put, List.setIfInBounds_toArray, List.set_cons_zero, List.set_cons_succ]
        refine wpAnyH_take (i := 2) (oi := ⟨some 42, _, _, _, _, _⟩) (v := .int .i64 c) rfl (by kernel_rfl) (by kernel_rfl) (by kernel_rfl) (fun _ _ _ h => h) (Or.inl ⟨by rfl, fun W hSW => by go_simp⟩) hHeld ?_
        simp only [Act.put, List.setIfInBounds_toArray, List.set_cons_zero, List.set_cons_succ]
        refine wpAnyH_take (i := 3) (oi := ⟨some 43, _, _, _, _, _⟩) (v := .pointer (some ⟨g, c * 2, none⟩)) rfl (by kernel_rfl) (by kernel_rfl) (by kernel_rfl) (fun _ _ _ h => h) (Or.inl ⟨by rfl, fun W hSW => by go_simp⟩) hHeld ?_
        simp only [Act.put, List.setIfInBounds_toArray, List.set_cons_zero, List.set_cons_succ]
        refine wpAnyH_take (i := 4) (oi := ⟨some 44, _, _, _, _, _⟩) (v := .agg #[.int .i64 y.1, .int .i64 y.2]) rfl (by kernel_rfl) (by kernel_rfl) (by kernel_rfl) (fun _ _ _ h => h) (Or.inl ⟨by rfl, fun W hSW => by have c0 := (hSW.cell (p := ⟨g, c * 2, none⟩) hgl).trans cy0; have c1 := (hSW.cell (p := ⟨g, c * 2 + 1, none⟩) hgl).trans cy1; go_simp⟩) hHeld ?_
        simp only [Act.put, List.setIfInBounds_toArray, List.set_cons_zero, List.set_cons_succ]
        refine wpAnyH_take (i := 5) (oi := ⟨some 45, _, _, _, _, _⟩) (v := .slice (some ⟨g, 0, none⟩) n cap) rfl (by kernel_rfl) (by kernel_rfl) (by kernel_rfl) (fun _ _ _ h => h) (Or.inl ⟨by rfl, fun W hSW => by go_simp⟩) hHeld ?_
        simp only [Act.put, List.setIfInBounds_toArray, List.set_cons_zero, List.set_cons_succ]
        refine wpAnyH_take (i := 6) (oi := ⟨some 46, _, _, _, _, _⟩) (v := .int .i64 a) rfl (by kernel_rfl) (by kernel_rfl) (by kernel_rfl) (fun _ _ _ h => h) (Or.inl ⟨by rfl, fun W hSW => by go_simp⟩) hHeld ?_
        simp only [Act.put, List.setIfInBounds_toArray, List.set_cons_zero, List.set_cons_succ]
        refine wpAnyH_take (i := 7) (oi := ⟨some 47, _, _, _, _, _⟩) (v := .pointer (some ⟨g, a * 2, none⟩)) rfl (by kernel_rfl) (by kernel_rfl) (by kernel_rfl) (fun _ _ _ h => h) (Or.inl ⟨by rfl, fun W hSW => by go_simp⟩) hHeld ?_
        simp only [Act.put, List.setIfInBounds_toArray, List.set_cons_zero, List.set_cons_succ]
        refine wpAnyH_take (i := 8) (oi := ⟨some 48, _, _, _, _, _⟩) (v := .agg #[.int .i64 x.1, .int .i64 x.2]) rfl (by kernel_rfl) (by kernel_rfl) (by kernel_rfl) (fun _ _ _ h => h) (Or.inl ⟨by rfl, fun W hSW => by have c0 := (hSW.cell (p := ⟨g, a * 2, none⟩) hgl).trans cx0; have c1 := (hSW.cell (p := ⟨g, a * 2 + 1, none⟩) hgl).trans cx1; go_simp⟩) hHeld ?_
        simp only [Act.put, List.setIfInBounds_toArray, List.set_cons_zero, List.set_cons_succ]
        refine wpAnyH_ready (rs := [9]) (by kernel_rfl) (by simp) ?_
        refine AllReadyH.cons (o := ⟨some 49, _, _, _, _, _⟩) rfl (fun K hK => ?_) AllReadyH.nil
        go_simp
        refine (less_c (a := y) (b := x)).mono ?_
        rintro e w2 ⟨rfl, hb2⟩
        go_wp2_with fail
        refine hK.out _ _ (below_t hHeld hb2) (fun hHeld2 => ?_)
        clear hK K
        refine wpAnyH_take (i := 10) (oi := ⟨some 50, _, _, _, _, _⟩) (v := .bool true) rfl (by kernel_rfl) (by kernel_rfl) (by kernel_rfl) (fun _ _ _ h => h) (Or.inl ⟨by rfl, fun W hSW => by go_simp⟩) hHeld2 ?_
        simp only [Act.put, List.setIfInBounds_toArray, List.set_cons_zero, List.set_cons_succ]
        refine wpAnyH_done (by kernel_rfl) ?_ _
        refine NoPanic.normal ?_
        go_wp2_with fail
        go_roundw
        case rel =>
          refine ⟨c + 1, j, by go_num, rfl, by omega, by omega, hjb, fun q y2 hq2 hy2 => ?_, H2.out, HROW.out.below hHeld2, below_o HBW.out hgB hgl hHeld2⟩
          have h := sorted_at HS.out hy2 HY.out (by omega)
          cases hle : leT x y2 with
          | false => rfl
          | true =>
            have := ordT.trans _ _ _ hle h
            rw [HQ.out] at this
            cases this
        case measure => simp [intOf]; omega
      · go_wp2_with fail
        refine wp_region_noPanic ?_
        refine wp_region_held_drew (S := fun W => Below wr.heap.size wr W) (by kernel_rfl) ((Below.refl _ wr).drew) (fun hHeld => ?_)
        refine wpAnyH_take (i := 0) (oi := ⟨some 40, _, _, _, _, _⟩) (v := .func (.func 41) #[] #[]) rfl (by kernel_rfl) (by kernel_rfl) (by kernel_rfl) (fun _ _ _ h => h) (Or.inl ⟨by rfl, fun W hSW => by go_simp⟩) hHeld ?_
        simp only [Act.put, List.setIfInBounds_toArray, List.set_cons_zero, List.set_cons_succ]
        refine wpAnyH_take (i := 1) (oi := ⟨some 41, _, _, _, _, _⟩) (v := .slice (some ⟨g, 0, none⟩) n cap) rfl (by kernel_rfl) (by kernel_rfl) (by kernel_rfl) (fun _ _ _ h => h) (Or.inl ⟨by rfl, fun W hSW => by go_simp⟩) hHeld ?_
        simp only [Act.put, List.setIfInBounds_toArray, List.set_cons_zero, List.set_cons_succ]
        refine wpAnyH_take (i := 2) (oi := ⟨some 42, _, _, _, _, _⟩) (v := .int .i64 c) rfl (by kernel_rfl) (by kernel_rfl) (by kernel_rfl) (fun _ _ _ h => h) (Or.inl ⟨by rfl, fun W hSW => by go_simp⟩) hHeld ?_
        simp only [Act.put, List.setIfInBounds_toArray, List.set_cons_zero, List.set_cons_succ]
        refine wpAnyH_take (i := 3) (oi := ⟨some 43, _, _, _, _, _⟩) (v := .pointer (some ⟨g, c * 2, none⟩)) rfl (by kernel_rfl) (by kernel_rfl) (by kernel_rfl) (fun _ _ _ h => h) (Or.inl ⟨by rfl, fun W hSW => by go_simp⟩) hHeld ?_
        simp only [Act.put, List.setIfInBounds_toArray, List.set_cons_zero, List.set_cons_succ]
        refine wpAnyH_take (i := 4) (oi := ⟨some 44, _, _, _, _, _⟩) (v := .agg #[.int .i64 y.1, .int .i64 y.2]) rfl (by kernel_rfl) (by kernel_rfl) (by kernel_rfl) (fun _ _ _ h => h) (Or.inl ⟨by rfl, fun W hSW => by have c0 := (hSW.cell (p := ⟨g, c * 2, none⟩) hgl).trans cy0; have c1 := (hSW.cell (p := ⟨g, c * 2 + 1, none⟩) hgl).trans cy1; go_simp⟩) hHeld ?_
        simp only [Act.put, List.setIfInBounds_toArray, List.set_cons_zero, List.set_cons_succ]
        refine wpAnyH_take (i := 5) (oi := ⟨some 45, _, _, _, _, _⟩) (v := .slice (some ⟨g, 0, none⟩) n cap) rfl (by kernel_rfl) (by kernel_rfl) (by kernel_rfl) (fun _ _ _ h => h) (Or.inl ⟨by rfl, fun W hSW => by go_simp⟩) hHeld ?_
        simp only [Act.put, List.setIfInBounds_toArray, List.set_cons_zero, List.set_cons_succ]
        refine wpAnyH_take (i := 6) (oi := ⟨some 46, _, _, _, _, _⟩) (v := .int .i64 a) rfl (by kernel_rfl) (by kernel_rfl) (by kernel_rfl) (fun _ _ _ h => h) (Or.inl ⟨by rfl, fun W hSW => by go_simp⟩) hHeld ?_
        simp only [Act.put, List.setIfInBounds_toArray, List.set_cons_zero, List.set_cons_succ]
        refine wpAnyH_take (i := 7) (oi := ⟨some 47, _, _, _, _, _⟩) (v := .pointer (some ⟨g, a * 2, none⟩)) rfl (by kernel_rfl) (by kernel_rfl) (by kernel_rfl) (fun _ _ _ h => h) (Or.inl ⟨by rfl, fun W hSW => by go_simp⟩) hHeld ?_
        simp only [Act.put, List.setIfInBounds_toArray, List.set_cons_zero, List.set_cons_succ]
        refine wpAnyH_take (i := 8) (oi := ⟨some 48, _, _, _, _, _⟩) (v := .agg #[.int .i64 x.1, .int .i64 x.2]) rfl (by kernel_rfl) (by kernel_rfl) (by kernel_rfl) (fun _ _ _ h => h) (Or.inl ⟨by rfl, fun W hSW => by have c0 := (hSW.cell (p := ⟨g, a * 2, none⟩) hgl).trans cx0; have c1 := (hSW.cell (p := ⟨g, a * 2 + 1, none⟩) hgl).trans cx1; go_simp⟩) hHeld ?_
        simp only [Act.put, List.setIfInBounds_toArray, List.set_cons_zero, List.set_cons_succ]
        refine wpAnyH_ready (rs := [9]) (by kernel_rfl) (by simp) ?_
        refine AllReadyH.cons (o := ⟨some 49, _, _, _, _, _⟩) rfl (fun K hK => ?_) AllReadyH.nil
        go_simp
        refine (less_c (a := y) (b := x)).mono ?_
        rintro e w2 ⟨rfl, hb2⟩
        go_wp2_with fail
        refine hK.out _ _ (below_t hHeld hb2) (fun hHeld2 => ?_)
        clear hK K
        refine wpAnyH_take (i := 10) (oi := ⟨some 50, _, _, _, _, _⟩) (v := .bool false) rfl (by kernel_rfl) (by kernel_rfl) (by kernel_rfl) (fun _ _ _ h => h) (Or.inl ⟨by rfl, fun W hSW => by go_simp⟩) hHeld2 ?_
        simp only [Act.put, List.setIfInBounds_toArray, List.set_cons_zero, List.set_cons_succ]
        refine wpAnyH_done (by kernel_rfl) ?_ _
        refine NoPanic.normal ?_
        go_wp2_with fail
        go_roundw
        case rel => exact ⟨i, c, rfl, rfl, hmi, hic, by omega, H1.out, fun q y2 hq2 hy2 => ordT.trans _ _ _ HQ.out (sorted_at HS.out HY.out hy2 hq2), HROW.out.below hHeld2, below_o HBW.out hgB hgl hHeld2⟩
        case measure => simp [intOf]; omega
    · have hltI : ¬ (i : Int) < j := by omega
      obtain rfl : i = j := by omega
      obtain ⟨p, hp⟩ : ∃ p, p = i - m := ⟨_, rfl⟩
      obtain ⟨e, he⟩ : ∃ e, e = a + p := ⟨_, rfl⟩
      have hw2 : IntKind.i64.wrap ((i : Int) - 1) = (e : Int) := by rw [IntKind.wrap_i64]; have := HM.out; omega
      have HFIN : Hid (T = X ++ R.take p ++ x :: (R.drop p ++ Y)) := Lib.hid (by
        rw [HT.out, mrg_onel (p := p) (take_all (fun q y hq hy => H1.out q y (by omega) hy)) (drop_all (fun q y hq hy => H2.out q y (by omega) hy))]
        simp [List.append_assoc])
      have HN0 : Hid (SBRel w B g n cap a p X x R Y (.int .i64 (a : Int)) wr) := Lib.hid ⟨[], R.take p, by simp, by simp, by
        have e : X ++ [] ++ x :: (R.take p ++ (R.drop p ++ Y)) = X ++ x :: (R ++ Y) := by rw [← List.append_assoc (R.take p), List.take_append_drop, List.append_nil]
        rw [e]
        exact HROW.out, HBW.out⟩
      have HE := Lib.hid he
      have hpl : p ≤ R.length := by have := HBB.out; omega
      have HPL := Lib.hid hpl
      have hen : e < n := by have := HE.out; have := HM.out; have := HBB.out; omega
      have HP := Lib.hid hp
      clear hp he hpl
      go_wp2_with fail
      go_loopw [13] (SBRel w B g n cap a p X x R Y) (fun v _ => n - (intOf v).toNat)
      case atStart => exact HN0.out
      case round =>
        obtain ⟨C, D, rfl, hCD, hrow, hbw⟩ := hrel
        have HROW2 := Lib.hid hrow
        have HBW2 := Lib.hid hbw
        have HCD := Lib.hid hCD
        have hcl : C.length + D.length = p := by
          have := congrArg List.length hCD
          rw [List.length_take, List.length_append, Nat.min_eq_left HPL.out] at this
          omega
        obtain ⟨k, hk⟩ : ∃ k, k = a + C.length := ⟨_, rfl⟩
        have HK := Lib.hid hk
        rw [← hk]
        have hke : k ≤ e := by have := HE.out; omega
        have HCL := Lib.hid hcl
        clear hrow hbw hCD hcl hk
        rcases D with _ | ⟨d, D⟩
        · have hlast : ¬ (k : Int) < e := by have := HE.out; have := HK.out; have := HCL.out; simp at this; omega
          have HF : Hid (Row wr B g n cap T) := Lib.hid (by
            have h := HROW2.out
            have e1 := HCD.out
            rw [List.append_nil] at e1
            rw [HFIN.out, e1]
            simpa [List.append_assoc] using h)
          go_wp2_with fail
          ((try simp only [Exit.inBlock, Exit.then]); refine bodyPost_ret (results_none rfl _ _ _) rfl ?_)
          exact ⟨rfl, HF.out, HBW2.out⟩
        · have hlt2 : (k : Int) < e := by have := HE.out; have := HK.out; have := HCL.out; simp at this; omega
          obtain ⟨k1, hk1⟩ : ∃ k1, k1 = k + 1 := ⟨_, rfl⟩
          have hrow := HROW2.out
          have hform : X ++ C ++ x :: (d :: D ++ (R.drop p ++ Y)) = (X ++ C) ++ x :: ([] ++ d :: (D ++ (R.drop p ++ Y))) := by simp
          rw [hform] at hrow
          have hl1 : (X ++ C).length = k := by have := HA.out; have := HK.out; simp; omega
          have hl2 : k + 1 + ([] : List Tick).length = k1 := by simp; omega
          obtain ⟨t1, t2, _⟩ := two_at _ x [] d (D ++ (R.drop p ++ Y)) hl1 hl2
          obtain ⟨cx0, cx1⟩ := hrow.at t1
          obtain ⟨cd0, cd1⟩ := hrow.at t2
          have f0 := hrow.frozen (k * 2)
          have f1 := hrow.frozen (k * 2 + 1)
          have f2 := hrow.frozen (k1 * 2)
          have f3 := hrow.frozen (k1 * 2 + 1)
          have HSW := Lib.hid (hrow.swap hl1 hl2)
          have hkn : (k : Int) < n := by omega
          have hk1n : (k1 : Int) < n := by omega
          have hk0 : (0 : Int) ≤ (k : Int) := by omega
          have hk10 : (0 : Int) ≤ (k1 : Int) := by omega
          have hwk : IntKind.i64.wrap ((k : Int) + 1) = (k1 : Int) := by rw [IntKind.wrap_i64]; omega
          have hkne : k ≠ k1 := by omega
          have HK1 := Lib.hid hk1
          clear hrow hform hl1 hl2 t1 t2 hk1
          go_wp2_with fail
          go_region
          go_wp2_with fail
          go_roundw
          case rel =>
            refine ⟨C ++ [d], D, ?_, ?_, ?_, ?_⟩
            · have := HK1.out; have := HK.out; first | (congr 2; simp; omega) | (simp; omega)
            · rw [HCD.out]; simp
            · have h := HSW.out
              have e1 : (X ++ C) ++ d :: ([] ++ x :: (D ++ (R.drop p ++ Y))) = X ++ (C ++ [d]) ++ x :: (D ++ (R.drop p ++ Y)) := by simp
              rw [e1] at h
              first | exact h.below (Below.refl _ _).drew | exact h
            · have h := below_sw (i := k) (j := k1) (v1 := .int .i64 d.1) (v2 := .int .i64 d.2) (u1 := .int .i64 x.1) (u2 := .int .i64 x.2) HBW2.out hgB
              first | exact h.drew | exact h
          case measure => have := HK1.out; simp [intOf]; omega

/-- The second search. -/
def SCRel (w : World) (B g n cap a m : Nat) (X L : List Tick) (y : Tick) (Y : List Tick) (iv jv : Value) (wr : World) : Prop := ∃ i j : Nat, iv = .int .i64 i ∧ jv = .int .i64 j ∧ a ≤ i ∧ i ≤ j ∧ j ≤ m ∧ (∀ q x, q < i - a → L[q]? = some x → leT x y = true) ∧ (∀ q x, j - a ≤ q → L[q]? = some x → leT x y = false) ∧ Row wr B g n cap (X ++ L ++ y :: Y) ∧ Below B w wr
def SDRel (w : World) (B g n cap a p : Nat) (X L : List Tick) (y : Tick) (Y : List Tick) (kv : Value) (wr : World) : Prop := ∃ C D : List Tick, kv = .int .i64 ((a + p + C.length : Nat) : Int) ∧ L.drop p = C ++ D ∧ Row wr B g n cap (X ++ L.take p ++ C ++ y :: (D ++ Y)) ∧ Below B w wr
theorem at_left {X L Y : List Tick} {y : Tick} {a m c : Nat} {l : Tick} (ha : X.length = a) (hm : a + L.length = m) (hc : a ≤ c) (hl : L[c - a]? = some l) : (X ++ L ++ y :: Y)[c]? = some l ∧ (X ++ L ++ y :: Y)[m]? = some y := by
  subst ha hm
  have h1 := (List.getElem?_eq_some_iff.1 hl).1
  constructor
  · rw [List.append_assoc, List.getElem?_append_right (by omega), List.getElem?_append_left h1, hl]
  · rw [List.getElem?_append_right (by simp)]
    simp
set_option maxRecDepth 100000 in
set_option maxHeartbeats 8000000 in
theorem symB_c {w : World} {B g n cap a m b : Nat} {X L Y : List Tick} {y : Tick} (hR : Row w B g n cap (X ++ L ++ y :: Y)) (hn : n ≤ 1000000) (ha : X.length = a) (hm : a + L.length = m) (hb : m + 1 = b) (hs : L.Pairwise (fun a b => leT a b = true)) (hL : 2 ≤ L.length) :
    Calls Tryd.prog 62 #[.slice (some ⟨g, 0, none⟩) n cap, .int .i64 a, .int .i64 m, .int .i64 b, .func (.func 41) #[] #[]] w (SortP w B g n cap (X ++ mrg leT L [y] ++ Y)) := by
  have hlen := hR.2
  simp only [List.length_append, List.length_cons] at hlen
  obtain ⟨T, hT⟩ : ∃ T, T = X ++ mrg leT L [y] ++ Y := ⟨_, rfl⟩
  have HT := Lib.hid hT
  rw [← hT]
  have hmn : m < n := by omega
  have hmnI : (m : Int) < n := by omega
  have hm0 : (0 : Int) ≤ (m : Int) := by omega
  have ham : a ≤ m := by omega
  have hgB := hR.ge
  have HA := Lib.hid ha
  have HM := Lib.hid hm
  have HS := Lib.hid hs
  have HR := Lib.hid hR
  obtain ⟨dd, hdd⟩ : ∃ d, d = m - a := ⟨_, rfl⟩
  have hw1 : IntKind.i64.wrap ((m : Int) - (a : Int)) = (dd : Int) := by rw [IntKind.wrap_i64]; omega
  have hne : ((dd : Int) == 1) = false := by simp; omega
  have hw2 : IntKind.i64.wrap ((b : Int) - (m : Int)) = 1 := by rw [IntKind.wrap_i64]; omega
  clear hT hlen ha hb hR hm hs hdd
  go_enter Tryd.func62, Tryd.ntmps62
  go_wp2_with fail
  clear hw1 hw2 hne
  go_loopw [14, 15] (SCRel w B g n cap a m X L y Y) (fun u v _ => (intOf v).toNat - (intOf u).toNat)
  case atStart => exact ⟨a, m, rfl, rfl, by omega, ham, by omega, fun q x hq => absurd hq (by omega), fun q x hq hx => by have := (List.getElem?_eq_some_iff.1 hx).1; have := HM.out; omega, HR.out, Below.refl _ _⟩
  case round =>
    obtain ⟨i, j, rfl, rfl, hai, hij, hjm, h1, h2, hrow, hbw⟩ := hrel
    have HROW := Lib.hid hrow
    have HBW := Lib.hid hbw
    have H1 := Lib.hid h1
    have H2 := Lib.hid h2
    clear hrow hbw h1 h2
    by_cases hlt : i < j
    · have hltI : (i : Int) < j := by omega
      obtain ⟨c, hc, hic, hcj⟩ := half hlt (by omega)
      obtain ⟨l, hl⟩ : ∃ l, L[c - a]? = some l := ⟨_, List.getElem?_eq_getElem (by have := HM.out; omega)⟩
      obtain ⟨t1, t2⟩ := at_left (y := y) (Y := Y) HA.out HM.out (by omega) hl
      obtain ⟨cl0, cl1⟩ := HROW.out.at t1
      obtain ⟨cy0, cy1⟩ := HROW.out.at t2
      have hgl := HROW.out.lt
      have hcn : (c : Int) < n := by omega
      have hc0 : (0 : Int) ≤ (c : Int) := by omega
      have HL := Lib.hid hl
      have hsum : ((i : Int) + (j : Int)) / 2 = (c : Int) := by omega
      obtain ⟨q, hq⟩ : ∃ q, leT l y = q := ⟨_, rfl⟩
      have hcq : decide (cfT y l < 0) = !q := by rw [cf_lt, hq]
      have HQ := Lib.hid hq
      clear hc hl t1 t2 hq
      cases q
      · go_wp2_with fail
        refine wp_region_noPanic ?_
        refine wp_region_held_drew (S := fun W => Below wr.heap.size wr W) (by kernel_rfl) ((Below.refl _ wr).drew) (fun hHeld => ?_)
        refine wpAnyH_take (i := 0) (oi := ⟨some 92, _, _, _, _, _⟩) (v := .func (.func 41) #[] #[]) rfl (by kernel_rfl) (by kernel_rfl) (by kernel_rfl) (fun _ _ _ h => h) (Or.inl ⟨by rfl, fun W hSW => by go_simp⟩) hHeld ?_
        simp only [Act.put, List.setIfInBounds_toArray, List.set_cons_zero, List.set_cons_succ]
        refine wpAnyH_take (i := 1) (oi := ⟨some 93, _, _, _, _, _⟩) (v := .slice (some ⟨g, 0, none⟩) n cap) rfl (by kernel_rfl) (by kernel_rfl) (by kernel_rfl) (fun _ _ _ h => h) (Or.inl ⟨by rfl, fun W hSW => by go_simp⟩) hHeld ?_
        simp only [Act.put, List.setIfInBounds_toArray, List.set_cons_zero, List.set_cons_succ]
        refine wpAnyH_take (i := 2) (oi := ⟨some 94, _, _, _, _, _⟩) (v := .int .i64 m) rfl (by kernel_rfl) (by kernel_rfl) (by kernel_rfl) (fun _ _ _ h => h) (Or.inl ⟨by rfl, fun W hSW => by go_simp⟩) hHeld ?_
        simp only [Act.put, List.setIfInBounds_toArray, List.set_cons_zero, List.set_cons_succ]
        refine wpAnyH_take (i := 3) (oi := ⟨some 95, _, _, _, _, _⟩) (v := .pointer (some ⟨g, m * 2, none⟩)) rfl (by kernel_rfl) (by kernel_rfl) (by kernel_rfl) (fun _ _ _ h => h) (Or.inl ⟨by rfl, fun W hSW => by go_simp⟩) hHeld ?_
        simp only [Act.put, List.setIfInBounds_toArray, List.set_cons_zero, List.set_cons_succ]
        refine wpAnyH_take (i := 4) (oi := ⟨some 96, _, _, _, _, _⟩) (v := .agg #[.int .i64 y.1, .int .i64 y.2]) rfl (by kernel_rfl) (by kernel_rfl) (by kernel_rfl) (fun _ _ _ h => h) (Or.inl ⟨by rfl, fun W hSW => by have c0 := (hSW.cell (p := ⟨g, m * 2, none⟩) hgl).trans cy0; have c1 := (hSW.cell (p := ⟨g, m * 2 + 1, none⟩) hgl).trans cy1; go_simp⟩) hHeld ?_
        simp only [Act.put, List.setIfInBounds_toArray, List.set_cons_zero, List.set_cons_succ]
        refine wpAnyH_take (i := 5) (oi := ⟨some 97, _, _, _, _, _⟩) (v := .slice (some ⟨g, 0, none⟩) n cap) rfl (by kernel_rfl) (by kernel_rfl) (by kernel_rfl) (fun _ _ _ h => h) (Or.inl ⟨by rfl, fun W hSW => by go_simp⟩) hHeld ?_
        simp only [Act.put, List.setIfInBounds_toArray, List.set_cons_zero, List.set_cons_succ]
        refine wpAnyH_take (i := 6) (oi := ⟨some 98, _, _, _, _, _⟩) (v := .int .i64 c) rfl (by kernel_rfl) (by kernel_rfl) (by kernel_rfl) (fun _ _ _ h => h) (Or.inl ⟨by rfl, fun W hSW => by go_simp⟩) hHeld ?_
        simp only [Act.put, List.setIfInBounds_toArray, List.set_cons_zero, List.set_cons_succ]
        refine wpAnyH_take (i := 7) (oi := ⟨some 99, _, _, _, _, _⟩) (v := .pointer (some ⟨g, c * 2, none⟩)) rfl (by kernel_rfl) (by kernel_rfl) (by kernel_rfl) (fun _ _ _ h => h) (Or.inl ⟨by rfl, fun W hSW => by go_simp⟩) hHeld ?_
        simp only [Act.put, List.setIfInBounds_toArray, List.set_cons_zero, List.set_cons_succ]
        refine wpAnyH_take (i := 8) (oi := ⟨some 100, _, _, _, _, _⟩) (v := .agg #[.int .i64 l.1, .int .i64 l.2]) rfl (by kernel_rfl) (by kernel_rfl) (by kernel_rfl) (fun _ _ _ h => h) (Or.inl ⟨by rfl, fun W hSW => by have c0 := (hSW.cell (p := ⟨g, c * 2, none⟩) hgl).trans cl0; have c1 := (hSW.cell (p := ⟨g, c * 2 + 1, none⟩) hgl).trans cl1; go_simp⟩) hHeld ?_
        simp only [Act.put, List.setIfInBounds_toArray, List.set_cons_zero, List.set_cons_succ]
        refine wpAnyH_ready (rs := [9]) (by kernel_rfl) (by simp) ?_
        refine AllReadyH.cons (o := ⟨some 101, _, _, _, _, _⟩) rfl (fun K hK => ?_) AllReadyH.nil
        go_simp
        refine (less_c (a := y) (b := l)).mono ?_
        rintro e w2 ⟨rfl, hb2⟩
        go_wp2_with fail
        refine hK.out _ _ (below_t hHeld hb2) (fun hHeld2 => ?_)
        clear hK K
        refine wpAnyH_take (i := 10) (oi := ⟨some 102, _, _, _, _, _⟩) (v := .bool true) rfl (by kernel_rfl) (by kernel_rfl) (by kernel_rfl) (fun _ _ _ h => h) (Or.inl ⟨by rfl, fun W hSW => by go_simp⟩) hHeld2 ?_
        simp only [Act.put, List.setIfInBounds_toArray, List.set_cons_zero, List.set_cons_succ]
        refine wpAnyH_take (i := 11) (oi := ⟨some 103, _, _, _, _, _⟩) (v := .bool false) rfl (by kernel_rfl) (by kernel_rfl) (by kernel_rfl) (fun _ _ _ h => h) (Or.inl ⟨by rfl, fun W hSW => by go_simp⟩) hHeld2 ?_
        simp only [Act.put, List.setIfInBounds_toArray, List.set_cons_zero, List.set_cons_succ]
        refine wpAnyH_done (by kernel_rfl) ?_ _
        refine NoPanic.normal ?_
        go_wp2_with fail
        go_roundw
        case rel =>
          refine ⟨i, c, rfl, rfl, hai, hic, by omega, H1.out, fun q x2 hq2 hx2 => ?_, HROW.out.below hHeld2, below_o HBW.out hgB hgl hHeld2⟩
          have h := sorted_at HS.out HL.out hx2 hq2
          cases hle : leT x2 y with
          | false => rfl
          | true =>
            have := ordT.trans _ _ _ h hle
            rw [HQ.out] at this
            cases this
        case measure => simp [intOf]; omega
      · go_wp2_with fail
        refine wp_region_noPanic ?_
        refine wp_region_held_drew (S := fun W => Below wr.heap.size wr W) (by kernel_rfl) ((Below.refl _ wr).drew) (fun hHeld => ?_)
        refine wpAnyH_take (i := 0) (oi := ⟨some 92, _, _, _, _, _⟩) (v := .func (.func 41) #[] #[]) rfl (by kernel_rfl) (by kernel_rfl) (by kernel_rfl) (fun _ _ _ h => h) (Or.inl ⟨by rfl, fun W hSW => by go_simp⟩) hHeld ?_
        simp only [Act.put, List.setIfInBounds_toArray, List.set_cons_zero, List.set_cons_succ]
        refine wpAnyH_take (i := 1) (oi := ⟨some 93, _, _, _, _, _⟩) (v := .slice (some ⟨g, 0, none⟩) n cap) rfl (by kernel_rfl) (by kernel_rfl) (by kernel_rfl) (fun _ _ _ h => h) (Or.inl ⟨by rfl, fun W hSW => by go_simp⟩) hHeld ?_
        simp only [Act.put, List.setIfInBounds_toArray, List.set_cons_zero, List.set_cons_succ]
        refine wpAnyH_take (i := 2) (oi := ⟨some 94, _, _, _, _, _⟩) (v := .int .i64 m) rfl (by kernel_rfl) (by kernel_rfl) (by kernel_rfl) (fun _ _ _ h => h) (Or.inl ⟨by rfl, fun W hSW => by go_simp⟩) hHeld ?_
        simp only [Act.put, List.setIfInBounds_toArray, List.set_cons_zero, List.set_cons_succ]
        refine wpAnyH_take (i := 3) (oi := ⟨some 95, _, _, _, _, _⟩) (v := .pointer (some ⟨g, m * 2, none⟩)) rfl (by kernel_rfl) (by kernel_rfl) (by kernel_rfl) (fun _ _ _ h => h) (Or.inl ⟨by rfl, fun W hSW => by go_simp⟩) hHeld ?_
        simp only [Act.put, List.setIfInBounds_toArray, List.set_cons_zero, List.set_cons_succ]
        refine wpAnyH_take (i := 4) (oi := ⟨some 96, _, _, _, _, _⟩) (v := .agg #[.int .i64 y.1, .int .i64 y.2]) rfl (by kernel_rfl) (by kernel_rfl) (by kernel_rfl) (fun _ _ _ h => h) (Or.inl ⟨by rfl, fun W hSW => by have c0 := (hSW.cell (p := ⟨g, m * 2, none⟩) hgl).trans cy0; have c1 := (hSW.cell (p := ⟨g, m * 2 + 1, none⟩) hgl).trans cy1; go_simp⟩) hHeld ?_
        simp only [Act.put, List.setIfInBounds_toArray, List.set_cons_zero, List.set_cons_succ]
        refine wpAnyH_take (i := 5) (oi := ⟨some 97, _, _, _, _, _⟩) (v := .slice (some ⟨g, 0, none⟩) n cap) rfl (by kernel_rfl) (by kernel_rfl) (by kernel_rfl) (fun _ _ _ h => h) (Or.inl ⟨by rfl, fun W hSW => by go_simp⟩) hHeld ?_
        simp only [Act.put, List.setIfInBounds_toArray, List.set_cons_zero, List.set_cons_succ]
        refine wpAnyH_take (i := 6) (oi := ⟨some 98, _, _, _, _, _⟩) (v := .int .i64 c) rfl (by kernel_rfl) (by kernel_rfl) (by kernel_rfl) (fun _ _ _ h => h) (Or.inl ⟨by rfl, fun W hSW => by go_simp⟩) hHeld ?_
        simp only [Act.put, List.setIfInBounds_toArray, List.set_cons_zero, List.set_cons_succ]
        refine wpAnyH_take (i := 7) (oi := ⟨some 99, _, _, _, _, _⟩) (v := .pointer (some ⟨g, c * 2, none⟩)) rfl (by kernel_rfl) (by kernel_rfl) (by kernel_rfl) (fun _ _ _ h => h) (Or.inl ⟨by rfl, fun W hSW => by go_simp⟩) hHeld ?_
        simp only [Act.put, List.setIfInBounds_toArray, List.set_cons_zero, List.set_cons_succ]
        refine wpAnyH_take (i := 8) (oi := ⟨some 100, _, _, _, _, _⟩) (v := .agg #[.int .i64 l.1, .int .i64 l.2]) rfl (by kernel_rfl) (by kernel_rfl) (by kernel_rfl) (fun _ _ _ h => h) (Or.inl ⟨by rfl, fun W hSW => by have c0 := (hSW.cell (p := ⟨g, c * 2, none⟩) hgl).trans cl0; have c1 := (hSW.cell (p := ⟨g, c * 2 + 1, none⟩) hgl).trans cl1; go_simp⟩) hHeld ?_
        simp only [Act.put, List.setIfInBounds_toArray, List.set_cons_zero, List.set_cons_succ]
        refine wpAnyH_ready (rs := [9]) (by kernel_rfl) (by simp) ?_
        refine AllReadyH.cons (o := ⟨some 101, _, _, _, _, _⟩) rfl (fun K hK => ?_) AllReadyH.nil
        go_simp
        refine (less_c (a := y) (b := l)).mono ?_
        rintro e w2 ⟨rfl, hb2⟩
        go_wp2_with fail
        refine hK.out _ _ (below_t hHeld hb2) (fun hHeld2 => ?_)
        clear hK K
        refine wpAnyH_take (i := 10) (oi := ⟨some 102, _, _, _, _, _⟩) (v := .bool false) rfl (by kernel_rfl) (by kernel_rfl) (by kernel_rfl) (fun _ _ _ h => h) (Or.inl ⟨by rfl, fun W hSW => by go_simp⟩) hHeld2 ?_
        simp only [Act.put, List.setIfInBounds_toArray, List.set_cons_zero, List.set_cons_succ]
        refine wpAnyH_take (i := 11) (oi := ⟨some 103, _, _, _, _, _⟩) (v := .bool true) rfl (by kernel_rfl) (by kernel_rfl) (by kernel_rfl) (fun _ _ _ h => h) (Or.inl ⟨by rfl, fun W hSW => by go_simp⟩) hHeld2 ?_
        simp only [Act.put, List.setIfInBounds_toArray, List.set_cons_zero, List.set_cons_succ]
        refine wpAnyH_done (by kernel_rfl) ?_ _
        refine NoPanic.normal ?_
        go_wp2_with fail
        go_roundw
        case rel => exact ⟨c + 1, j, by go_num, rfl, by omega, by omega, hjm, fun q x2 hq2 hx2 => ordT.trans _ _ _ (sorted_at HS.out hx2 HL.out (by omega)) HQ.out, H2.out, HROW.out.below hHeld2, below_o HBW.out hgB hgl hHeld2⟩
        case measure => simp [intOf]; omega
    · have hltI : ¬ (i : Int) < j := by omega
      obtain rfl : i = j := by omega
      obtain ⟨p, hp⟩ : ∃ p, p = i - a := ⟨_, rfl⟩
      have HFIN : Hid (T = X ++ L.take p ++ y :: (L.drop p ++ Y)) := Lib.hid (by
        rw [HT.out, mrg_oner (p := p) (take_all (fun q x hq hx => H1.out q x (by omega) hx)) (drop_all (fun q x hq hx => H2.out q x (by omega) hx))]
        simp [List.append_assoc])
      have HN0 : Hid (SDRel w B g n cap a p X L y Y (.int .i64 (m : Int)) wr) := Lib.hid ⟨L.drop p, [], by have := HM.out; congr 2; simp; omega, by simp, by
        have h := HROW.out
        rw [← List.take_append_drop p L] at h
        simpa [List.append_assoc] using h, HBW.out⟩
      have HPI : Hid (a + p = i) := Lib.hid (by omega)
      have hpl : p ≤ L.length := by have := HM.out; omega
      have HPL := Lib.hid hpl
      have HP := Lib.hid hp
      clear hp hpl
      go_wp2_with fail
      go_loopw [17] (SDRel w B g n cap a p X L y Y) (fun v _ => (intOf v).toNat)
      case atStart => exact HN0.out
      case round =>
        obtain ⟨C, D, rfl, hCD, hrow, hbw⟩ := hrel
        have HROW2 := Lib.hid hrow
        have HBW2 := Lib.hid hbw
        have HCD := Lib.hid hCD
        have hcl : p + C.length + D.length = L.length := by
          have := congrArg List.length hCD
          rw [List.length_drop, List.length_append] at this
          have := HPL.out
          omega
        obtain ⟨k, hk⟩ : ∃ k, k = a + p + C.length := ⟨_, rfl⟩
        have HK := Lib.hid hk
        rw [← hk]
        have hkm : k ≤ m := by have := HM.out; omega
        have HCL := Lib.hid hcl
        clear hrow hbw hCD hcl hk
        rcases nil_or C with rfl | ⟨C', d, rfl⟩
        · have hlast : ¬ (i : Int) < k := by have := HPI.out; have := HK.out; simp at this; omega
          have HF : Hid (Row wr B g n cap T) := Lib.hid (by
            have h := HROW2.out
            have e1 := HCD.out
            rw [List.nil_append] at e1
            rw [HFIN.out, e1]
            simpa [List.append_assoc] using h)
          go_wp2_with fail
          ((try simp only [Exit.inBlock, Exit.then]); refine bodyPost_ret (results_none rfl _ _ _) rfl ?_)
          exact ⟨rfl, HF.out, HBW2.out⟩
        · have hlt2 : (i : Int) < k := by have := HPI.out; have := HK.out; simp at this; omega
          obtain ⟨k1, hk1⟩ : ∃ k1, k1 = k - 1 := ⟨_, rfl⟩
          have hrow := HROW2.out
          have hform : X ++ L.take p ++ (C' ++ [d]) ++ y :: (D ++ Y) = (X ++ L.take p ++ C') ++ d :: ([] ++ y :: (D ++ Y)) := by simp
          rw [hform] at hrow
          have hl1 : (X ++ L.take p ++ C').length = k1 := by
            have h2 := HK.out
            rw [List.length_append] at h2
            simp only [List.length_cons, List.length_nil] at h2
            have := HA.out
            have := HPL.out
            simp only [List.length_append, List.length_take]
            omega
          have hl2 : k1 + 1 + ([] : List Tick).length = k := by simp; omega
          obtain ⟨t1, t2, _⟩ := two_at _ d [] y (D ++ Y) hl1 hl2
          obtain ⟨cd0, cd1⟩ := hrow.at t1
          obtain ⟨cy0, cy1⟩ := hrow.at t2
          have f0 := hrow.frozen (k * 2)
          have f1 := hrow.frozen (k * 2 + 1)
          have f2 := hrow.frozen (k1 * 2)
          have f3 := hrow.frozen (k1 * 2 + 1)
          have HSW := Lib.hid (hrow.swap2 hl1 hl2)
          have hkn : (k : Int) < n := by omega
          have hk1n : (k1 : Int) < n := by omega
          have hk0 : (0 : Int) ≤ (k : Int) := by omega
          have hk10 : (0 : Int) ≤ (k1 : Int) := by omega
          have hwk : IntKind.i64.wrap ((k : Int) - 1) = (k1 : Int) := by rw [IntKind.wrap_i64]; omega
          have hkne : k1 ≠ k := by omega
          have HK1 := Lib.hid hk1
          clear hrow hform hl1 hl2 t1 t2 hk1
          go_wp2_with fail
          go_region
          go_wp2_with fail
          go_roundw
          case rel =>
            refine ⟨C', d :: D, ?_, ?_, ?_, ?_⟩
            · have := HK1.out; have h3 := HK.out; rw [List.length_append] at h3; simp only [List.length_cons, List.length_nil] at h3; first | (congr 2; omega) | (simp; omega)
            · rw [HCD.out]; simp
            · have h := HSW.out
              have e1 : (X ++ L.take p ++ C') ++ y :: ([] ++ d :: (D ++ Y)) = X ++ L.take p ++ C' ++ y :: (d :: D ++ Y) := by simp
              rw [e1] at h
              first | exact h.below (Below.refl _ _).drew | exact h
            · have h := below_sw (i := k) (j := k1) (v1 := .int .i64 d.1) (v2 := .int .i64 d.2) (u1 := .int .i64 y.1) (u2 := .int .i64 y.2) HBW2.out hgB
              first | exact h.drew | exact h
          case measure => have := HK1.out; simp [intOf]; omega
end ChunkW
end Go.Proofs.YtiochoppiohjnaaDoor
