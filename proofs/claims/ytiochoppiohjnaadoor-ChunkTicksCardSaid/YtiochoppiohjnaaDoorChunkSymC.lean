/-
  Two rows merged in place.
-/
import Derived.Test.YtiochoppiohjnaaDoorChunkSym
namespace Go.Proofs.YtiochoppiohjnaaDoor
open Go.RowKit
set_option linter.unusedVariables false
set_option linter.unusedSimpArgs false
namespace ChunkW
open BytesW PackW SortW

def srtd (l : List Tick) : Prop := l.Pairwise (fun a b => leT a b = true)
theorem srtd.take {l : List Tick} (h : srtd l) (k : Nat) : srtd (l.take k) := h.sublist (List.take_sublist k l)
theorem srtd.drop {l : List Tick} (h : srtd l) (k : Nat) : srtd (l.drop k) := h.sublist (List.drop_sublist k l)
/-- In the middle of four. -/
theorem at_L {X L R Y : List Tick} {a i u : Nat} (ha : X.length = a) (hi : i = a + u) (hu : u < L.length) : (X ++ L ++ R ++ Y)[i]? = L[u]? := by
  subst ha hi
  rw [List.append_assoc, List.append_assoc, List.getElem?_append_right (by omega), Nat.add_sub_cancel_left, List.getElem?_append_left hu]
theorem at_R {X L R Y : List Tick} {m i v : Nat} (hm : X.length + L.length = m) (hi : i = m + v) (hv : v < R.length) : (X ++ L ++ R ++ Y)[i]? = R[v]? := by
  subst hm hi
  rw [List.append_assoc, List.getElem?_append_right (by simp), List.length_append, Nat.add_sub_cancel_left, List.getElem?_append_left hv]
def SERel (w : World) (B g n cap s0 r0 pp : Nat) (D : List Tick) (sv rv : Value) (wr : World) : Prop := ∃ s r : Nat, sv = .int .i64 s ∧ rv = .int .i64 r ∧ s0 ≤ s ∧ s ≤ r ∧ r ≤ r0 ∧
  (s = s0 ∨ (0 < s ∧ ∃ x y, D[s - 1]? = some x ∧ D[pp - (s - 1)]? = some y ∧ leT x y = true)) ∧ (r = r0 ∨ ∃ x y, D[r]? = some x ∧ D[pp - r]? = some y ∧ leT x y = false) ∧ Row wr B g n cap D ∧ Below B w wr
/-- What the search has found parts both rows alike. -/
theorem cross {L R : List Tick} {σ t : Nat} (hL : srtd L) (hR : srtd R) (h1 : σ = 0 ∨ R.length ≤ t ∨ (0 < σ ∧ ∃ x y, L[σ - 1]? = some x ∧ R[t]? = some y ∧ leT x y = true)) (h2 : t = 0 ∨ L.length ≤ σ ∨ (0 < t ∧ ∃ x y, L[σ]? = some x ∧ R[t - 1]? = some y ∧ leT x y = false)) :
    mrg leT L R = mrg leT (L.take σ) (R.take t) ++ mrg leT (L.drop σ) (R.drop t) := by
  conv => lhs; rw [← List.take_append_drop σ L, ← List.take_append_drop t R]
  refine mrg_split _ _ _ _ ?_ ?_
  · rcases h1 with h1 | h1 | ⟨h0, x, y, hx, hy, hxy⟩
    · rw [h1]
      intro x hx
      simp at hx
    · intro x hx y hy
      rw [List.drop_of_length_le h1] at hy
      simp at hy
    · intro u hu v hv
      have a1 : leT u x = true := take_all (f := fun u => leT u x = true) (fun i z hi hz => sorted_at hL hz hx (by omega)) u hu
      have a2 : leT y v = true := drop_all (f := fun v => leT y v = true) (fun i z hi hz => sorted_at hR hy hz hi) v hv
      exact ordT.trans _ _ _ (ordT.trans _ _ _ a1 hxy) a2
  · rcases h2 with h2 | h2 | ⟨h0, x, y, hx, hy, hxy⟩
    · rw [h2]
      intro x hx y hy
      simp at hy
    · intro x hx
      rw [List.drop_of_length_le h2] at hx
      simp at hx
    · intro u hu v hv
      have a1 : leT x u = true := drop_all (f := fun u => leT x u = true) (fun i z hi hz => sorted_at hL hx hz hi) u hu
      have a2 : leT v y = true := take_all (f := fun v => leT v y = true) (fun i z hi hz => sorted_at hR hz hy (by omega)) v hv
      cases h : leT u v with
      | false => rfl
      | true =>
        have := ordT.trans _ _ _ (ordT.trans _ _ _ a1 h) a2
        rw [hxy] at this
        cases this
def SymIH (B g n cap N : Nat) : Prop := ∀ (w : World) (X L R Y : List Tick) (a m b : Nat), Row w B g n cap (X ++ L ++ R ++ Y) → X.length = a → a + L.length = m → m + R.length = b → srtd L → srtd R → 0 < L.length → 0 < R.length → L.length + R.length < N → Calls Tryd.prog 62 #[.slice (some ⟨g, 0, none⟩) n cap, .int .i64 a, .int .i64 m, .int .i64 b, .func (.func 41) #[] #[]] w (SortP w B g n cap (X ++ mrg leT L R ++ Y))

set_option maxRecDepth 100000 in
set_option maxHeartbeats 16000000 in
theorem symC_c {w : World} {B g n cap N a m b : Nat} {X L R Y : List Tick} (hIH : SymIH B g n cap N) (hR : Row w B g n cap (X ++ L ++ R ++ Y)) (hn : n ≤ 1000000) (ha : X.length = a) (hm : a + L.length = m) (hb : m + R.length = b) (hsL : srtd L) (hsR : srtd R) (hL : 2 ≤ L.length) (hR2 : 2 ≤ R.length) (hN : L.length + R.length ≤ N) :
    Calls Tryd.prog 62 #[.slice (some ⟨g, 0, none⟩) n cap, .int .i64 a, .int .i64 m, .int .i64 b, .func (.func 41) #[] #[]] w (SortP w B g n cap (X ++ mrg leT L R ++ Y)) := by
  have hlen := hR.2
  simp only [List.length_append] at hlen
  obtain ⟨T, hT⟩ : ∃ T, T = X ++ mrg leT L R ++ Y := ⟨_, rfl⟩
  obtain ⟨D, hD⟩ : ∃ D, D = X ++ L ++ R ++ Y := ⟨_, rfl⟩
  rw [← hT]
  rw [← hD] at hR
  have HT := Lib.hid hT
  have HD := Lib.hid hD
  have HIH := Lib.hid hIH
  have HR := Lib.hid hR
  have HDL : Hid (D.length = n) := Lib.hid hR.2.symm
  have HA := Lib.hid ha
  have HM := Lib.hid hm
  have HBB := Lib.hid hb
  have HSL := Lib.hid hsL
  have HSR := Lib.hid hsR
  have HNN0 := Lib.hid hN
  have hgB := hR.ge
  have hbn : b ≤ n := by omega
  have ham : a + 2 ≤ m := by omega
  have hmb : m + 2 ≤ b := by omega
  obtain ⟨d1, hd1⟩ : ∃ d, d = m - a := ⟨_, rfl⟩
  obtain ⟨d2, hd2⟩ : ∃ d, d = b - m := ⟨_, rfl⟩
  have hw1 : IntKind.i64.wrap ((m : Int) - (a : Int)) = (d1 : Int) := by rw [IntKind.wrap_i64]; omega
  have hne1 : ((d1 : Int) == 1) = false := by simp; omega
  have hw2 : IntKind.i64.wrap ((b : Int) - (m : Int)) = (d2 : Int) := by rw [IntKind.wrap_i64]; omega
  have hne2 : ((d2 : Int) == 1) = false := by simp; omega
  obtain ⟨mid, hmid⟩ : ∃ mid, mid = (a + b) / 2 := ⟨_, rfl⟩
  obtain ⟨nn, hnn⟩ : ∃ nn, nn = mid + m := ⟨_, rfl⟩
  obtain ⟨pp, hpp⟩ : ∃ pp, pp + 1 = nn := ⟨mid + m - 1, by omega⟩
  have hsum : ((a : Int) + (b : Int)) / 2 = (mid : Int) := by omega
  have hw3 : IntKind.i64.wrap ((mid : Int) + (m : Int)) = (nn : Int) := by rw [IntKind.wrap_i64]; omega
  have hw4 : IntKind.i64.wrap ((nn : Int) - 1) = (pp : Int) := by rw [IntKind.wrap_i64]; omega
  have HNN := Lib.hid hnn
  have HPP := Lib.hid hpp
  have hmid1 : 2 * mid ≤ a + b := by omega
  have hmid2 : a + b ≤ 2 * mid + 1 := by omega
  obtain ⟨s0, hs0⟩ : ∃ s, s = nn - b := ⟨_, rfl⟩
  have HS0 := Lib.hid hs0
  by_cases hmm : mid < m
  · have ecm : decide ((mid : Int) < (m : Int)) = true := by simp; omega
    have hw5 : IntKind.i64.wrap ((nn : Int) - (b : Int)) = (s0 : Int) := by rw [IntKind.wrap_i64]; omega
    have hs0a : a ≤ s0 := by omega
    have hs0m : s0 ≤ mid := by omega
    have hs0b : s0 + b ≤ mid + m := by omega
    have hs0c : mid + m ≤ s0 + b := by omega
    clear hT hD hIH hR ha hm hb hsL hsR hL hR2 hN hlen hd1 hd2 hmid hnn hpp hs0
    go_enter Tryd.func62, Tryd.ntmps62
    go_wp2_with fail
    go_loopw [20, 21] (SERel w B g n cap s0 mid pp D) (fun u v _ => (intOf v).toNat - (intOf u).toNat)
    case atStart => exact ⟨s0, mid, rfl, rfl, by omega, by omega, by omega, .inl rfl, .inl rfl, HR.out, Below.refl _ _⟩
    case round =>
      obtain ⟨s, r, rfl, rfl, hs0, hsr, hr0, h1, h2, hrow, hbw⟩ := hrel
      have HROW := Lib.hid hrow
      have HBW := Lib.hid hbw
      have H1 := Lib.hid h1
      have H2 := Lib.hid h2
      clear hrow hbw h1 h2
      by_cases hlt : s < r
      · have hltI : (s : Int) < r := by omega
        obtain ⟨c, hc, hic, hcj⟩ := half hlt (by omega)
        obtain ⟨e, he⟩ : ∃ e, e = pp - c := ⟨_, rfl⟩
        have HE := Lib.hid he
        have hen : e < n := by have := HPP.out; have := HNN.out; omega
        have hcn : c < n := by omega
        obtain ⟨x, hx⟩ : ∃ x, D[c]? = some x := ⟨_, List.getElem?_eq_getElem (by have := HDL.out; omega)⟩
        obtain ⟨y, hy⟩ : ∃ y, D[e]? = some y := ⟨_, List.getElem?_eq_getElem (by have := HDL.out; omega)⟩
        obtain ⟨cx0, cx1⟩ := HROW.out.at hx
        obtain ⟨cy0, cy1⟩ := HROW.out.at hy
        have hgl := HROW.out.lt
        have hcI : (c : Int) < n := by omega
        have hc0 : (0 : Int) ≤ (c : Int) := by omega
        have heI : (e : Int) < n := by omega
        have he0 : (0 : Int) ≤ (e : Int) := by omega
        have hsum2 : ((s : Int) + (r : Int)) / 2 = (c : Int) := by omega
        have hwe : IntKind.i64.wrap ((pp : Int) - (c : Int)) = (e : Int) := by rw [IntKind.wrap_i64]; have := HPP.out; have := HNN.out; omega
        have HX := Lib.hid hx
        have HY := Lib.hid hy
        obtain ⟨q, hq⟩ : ∃ q, leT x y = q := ⟨_, rfl⟩
        have hcq : decide (cfT y x < 0) = !q := by rw [cf_lt, hq]
        have HQ := Lib.hid hq
        clear hc hx hy hq he
        cases q
        · go_wp2_with fail
          refine wp_region_noPanic ?_
          refine wp_region_held_drew (S := fun W => Below wr.heap.size wr W) (by kernel_rfl) ((Below.refl _ wr).drew) (fun hHeld => ?_)
          refine wpAnyH_take (i := 0) (oi := ⟨some 158, _, _, _, _, _⟩) (v := .func (.func 41) #[] #[]) rfl (by kernel_rfl) (by kernel_rfl) (by kernel_rfl) (fun _ _ _ h => h) (Or.inl ⟨by rfl, fun W hSW => by go_simp⟩) hHeld ?_
          simp only [Act.put, List.setIfInBounds_toArray, List.set_cons_zero, List.set_cons_succ]
          refine wpAnyH_take (i := 1) (oi := ⟨some 159, _, _, _, _, _⟩) (v := .slice (some ⟨g, 0, none⟩) n cap) rfl (by kernel_rfl) (by kernel_rfl) (by kernel_rfl) (fun _ _ _ h => h) (Or.inl ⟨by rfl, fun W hSW => by go_simp⟩) hHeld ?_
          simp only [Act.put, List.setIfInBounds_toArray, List.set_cons_zero, List.set_cons_succ]
          refine wpAnyH_take (i := 2) (oi := ⟨some 160, _, _, _, _, _⟩) (v := .int .i64 pp) rfl (by kernel_rfl) (by kernel_rfl) (by kernel_rfl) (fun _ _ _ h => h) (Or.inl ⟨by rfl, fun W hSW => by go_simp⟩) hHeld ?_
          simp only [Act.put, List.setIfInBounds_toArray, List.set_cons_zero, List.set_cons_succ]
          refine wpAnyH_take (i := 3) (oi := ⟨some 161, _, _, _, _, _⟩) (v := .int .i64 c) rfl (by kernel_rfl) (by kernel_rfl) (by kernel_rfl) (fun _ _ _ h => h) (Or.inl ⟨by rfl, fun W hSW => by go_simp⟩) hHeld ?_
          simp only [Act.put, List.setIfInBounds_toArray, List.set_cons_zero, List.set_cons_succ]
          refine wpAnyH_take (i := 4) (oi := ⟨some 162, _, _, _, _, _⟩) (v := .int .i64 e) rfl (by kernel_rfl) (by kernel_rfl) (by kernel_rfl) (fun _ _ _ h => h) (Or.inl ⟨by rfl, fun W hSW => by go_simp⟩) hHeld ?_
          simp only [Act.put, List.setIfInBounds_toArray, List.set_cons_zero, List.set_cons_succ]
          refine wpAnyH_take (i := 5) (oi := ⟨some 163, _, _, _, _, _⟩) (v := .pointer (some ⟨g, e * 2, none⟩)) rfl (by kernel_rfl) (by kernel_rfl) (by kernel_rfl) (fun _ _ _ h => h) (Or.inl ⟨by rfl, fun W hSW => by go_simp⟩) hHeld ?_
          simp only [Act.put, List.setIfInBounds_toArray, List.set_cons_zero, List.set_cons_succ]
          refine wpAnyH_take (i := 6) (oi := ⟨some 164, _, _, _, _, _⟩) (v := .agg #[.int .i64 y.1, .int .i64 y.2]) rfl (by kernel_rfl) (by kernel_rfl) (by kernel_rfl) (fun _ _ _ h => h) (Or.inl ⟨by rfl, fun W hSW => by have c0 := (hSW.cell (p := ⟨g, e * 2, none⟩) hgl).trans cy0; have c1 := (hSW.cell (p := ⟨g, e * 2 + 1, none⟩) hgl).trans cy1; go_simp⟩) hHeld ?_
          simp only [Act.put, List.setIfInBounds_toArray, List.set_cons_zero, List.set_cons_succ]
          refine wpAnyH_take (i := 7) (oi := ⟨some 165, _, _, _, _, _⟩) (v := .slice (some ⟨g, 0, none⟩) n cap) rfl (by kernel_rfl) (by kernel_rfl) (by kernel_rfl) (fun _ _ _ h => h) (Or.inl ⟨by rfl, fun W hSW => by go_simp⟩) hHeld ?_
          simp only [Act.put, List.setIfInBounds_toArray, List.set_cons_zero, List.set_cons_succ]
          refine wpAnyH_take (i := 8) (oi := ⟨some 166, _, _, _, _, _⟩) (v := .int .i64 c) rfl (by kernel_rfl) (by kernel_rfl) (by kernel_rfl) (fun _ _ _ h => h) (Or.inl ⟨by rfl, fun W hSW => by go_simp⟩) hHeld ?_
          simp only [Act.put, List.setIfInBounds_toArray, List.set_cons_zero, List.set_cons_succ]
          refine wpAnyH_take (i := 9) (oi := ⟨some 167, _, _, _, _, _⟩) (v := .pointer (some ⟨g, c * 2, none⟩)) rfl (by kernel_rfl) (by kernel_rfl) (by kernel_rfl) (fun _ _ _ h => h) (Or.inl ⟨by rfl, fun W hSW => by go_simp⟩) hHeld ?_
          simp only [Act.put, List.setIfInBounds_toArray, List.set_cons_zero, List.set_cons_succ]
          refine wpAnyH_take (i := 10) (oi := ⟨some 168, _, _, _, _, _⟩) (v := .agg #[.int .i64 x.1, .int .i64 x.2]) rfl (by kernel_rfl) (by kernel_rfl) (by kernel_rfl) (fun _ _ _ h => h) (Or.inl ⟨by rfl, fun W hSW => by have c0 := (hSW.cell (p := ⟨g, c * 2, none⟩) hgl).trans cx0; have c1 := (hSW.cell (p := ⟨g, c * 2 + 1, none⟩) hgl).trans cx1; go_simp⟩) hHeld ?_
          simp only [Act.put, List.setIfInBounds_toArray, List.set_cons_zero, List.set_cons_succ]
          refine wpAnyH_ready (rs := [11]) (by kernel_rfl) (by simp) ?_
          refine AllReadyH.cons (o := ⟨some 169, _, _, _, _, _⟩) rfl (fun K hK => ?_) AllReadyH.nil
          go_simp
          refine (less_c (a := y) (b := x)).mono ?_
          rintro e w2 ⟨rfl, hb2⟩
          go_wp2_with fail
          refine hK.out _ _ (below_t hHeld hb2) (fun hHeld2 => ?_)
          clear hK K
          refine wpAnyH_take (i := 12) (oi := ⟨some 170, _, _, _, _, _⟩) (v := .bool true) rfl (by kernel_rfl) (by kernel_rfl) (by kernel_rfl) (fun _ _ _ h => h) (Or.inl ⟨by rfl, fun W hSW => by go_simp⟩) hHeld2 ?_
          simp only [Act.put, List.setIfInBounds_toArray, List.set_cons_zero, List.set_cons_succ]
          refine wpAnyH_take (i := 13) (oi := ⟨some 171, _, _, _, _, _⟩) (v := .bool false) rfl (by kernel_rfl) (by kernel_rfl) (by kernel_rfl) (fun _ _ _ h => h) (Or.inl ⟨by rfl, fun W hSW => by go_simp⟩) hHeld2 ?_
          simp only [Act.put, List.setIfInBounds_toArray, List.set_cons_zero, List.set_cons_succ]
          refine wpAnyH_done (by kernel_rfl) ?_ _
          refine NoPanic.normal ?_
          go_wp2_with fail
          go_roundw
          case rel => exact ⟨s, c, rfl, rfl, hs0, hic, by omega, H1.out, .inr ⟨x, y, HX.out, by rw [← HE.out]; exact HY.out, HQ.out⟩, HROW.out.below hHeld2, below_o HBW.out hgB hgl hHeld2⟩
          case measure => simp [intOf]; omega
        · go_wp2_with fail
          refine wp_region_noPanic ?_
          refine wp_region_held_drew (S := fun W => Below wr.heap.size wr W) (by kernel_rfl) ((Below.refl _ wr).drew) (fun hHeld => ?_)
          refine wpAnyH_take (i := 0) (oi := ⟨some 158, _, _, _, _, _⟩) (v := .func (.func 41) #[] #[]) rfl (by kernel_rfl) (by kernel_rfl) (by kernel_rfl) (fun _ _ _ h => h) (Or.inl ⟨by rfl, fun W hSW => by go_simp⟩) hHeld ?_
          simp only [Act.put, List.setIfInBounds_toArray, List.set_cons_zero, List.set_cons_succ]
          refine wpAnyH_take (i := 1) (oi := ⟨some 159, _, _, _, _, _⟩) (v := .slice (some ⟨g, 0, none⟩) n cap) rfl (by kernel_rfl) (by kernel_rfl) (by kernel_rfl) (fun _ _ _ h => h) (Or.inl ⟨by rfl, fun W hSW => by go_simp⟩) hHeld ?_
          simp only [Act.put, List.setIfInBounds_toArray, List.set_cons_zero, List.set_cons_succ]
          refine wpAnyH_take (i := 2) (oi := ⟨some 160, _, _, _, _, _⟩) (v := .int .i64 pp) rfl (by kernel_rfl) (by kernel_rfl) (by kernel_rfl) (fun _ _ _ h => h) (Or.inl ⟨by rfl, fun W hSW => by go_simp⟩) hHeld ?_
          simp only [Act.put, List.setIfInBounds_toArray, List.set_cons_zero, List.set_cons_succ]
          refine wpAnyH_take (i := 3) (oi := ⟨some 161, _, _, _, _, _⟩) (v := .int .i64 c) rfl (by kernel_rfl) (by kernel_rfl) (by kernel_rfl) (fun _ _ _ h => h) (Or.inl ⟨by rfl, fun W hSW => by go_simp⟩) hHeld ?_
          simp only [Act.put, List.setIfInBounds_toArray, List.set_cons_zero, List.set_cons_succ]
          refine wpAnyH_take (i := 4) (oi := ⟨some 162, _, _, _, _, _⟩) (v := .int .i64 e) rfl (by kernel_rfl) (by kernel_rfl) (by kernel_rfl) (fun _ _ _ h => h) (Or.inl ⟨by rfl, fun W hSW => by go_simp⟩) hHeld ?_
          simp only [Act.put, List.setIfInBounds_toArray, List.set_cons_zero, List.set_cons_succ]
          refine wpAnyH_take (i := 5) (oi := ⟨some 163, _, _, _, _, _⟩) (v := .pointer (some ⟨g, e * 2, none⟩)) rfl (by kernel_rfl) (by kernel_rfl) (by kernel_rfl) (fun _ _ _ h => h) (Or.inl ⟨by rfl, fun W hSW => by go_simp⟩) hHeld ?_
          simp only [Act.put, List.setIfInBounds_toArray, List.set_cons_zero, List.set_cons_succ]
          refine wpAnyH_take (i := 6) (oi := ⟨some 164, _, _, _, _, _⟩) (v := .agg #[.int .i64 y.1, .int .i64 y.2]) rfl (by kernel_rfl) (by kernel_rfl) (by kernel_rfl) (fun _ _ _ h => h) (Or.inl ⟨by rfl, fun W hSW => by have c0 := (hSW.cell (p := ⟨g, e * 2, none⟩) hgl).trans cy0; have c1 := (hSW.cell (p := ⟨g, e * 2 + 1, none⟩) hgl).trans cy1; go_simp⟩) hHeld ?_
          simp only [Act.put, List.setIfInBounds_toArray, List.set_cons_zero, List.set_cons_succ]
          refine wpAnyH_take (i := 7) (oi := ⟨some 165, _, _, _, _, _⟩) (v := .slice (some ⟨g, 0, none⟩) n cap) rfl (by kernel_rfl) (by kernel_rfl) (by kernel_rfl) (fun _ _ _ h => h) (Or.inl ⟨by rfl, fun W hSW => by go_simp⟩) hHeld ?_
          simp only [Act.put, List.setIfInBounds_toArray, List.set_cons_zero, List.set_cons_succ]
          refine wpAnyH_take (i := 8) (oi := ⟨some 166, _, _, _, _, _⟩) (v := .int .i64 c) rfl (by kernel_rfl) (by kernel_rfl) (by kernel_rfl) (fun _ _ _ h => h) (Or.inl ⟨by rfl, fun W hSW => by go_simp⟩) hHeld ?_
          simp only [Act.put, List.setIfInBounds_toArray, List.set_cons_zero, List.set_cons_succ]
          refine wpAnyH_take (i := 9) (oi := ⟨some 167, _, _, _, _, _⟩) (v := .pointer (some ⟨g, c * 2, none⟩)) rfl (by kernel_rfl) (by kernel_rfl) (by kernel_rfl) (fun _ _ _ h => h) (Or.inl ⟨by rfl, fun W hSW => by go_simp⟩) hHeld ?_
          simp only [Act.put, List.setIfInBounds_toArray, List.set_cons_zero, List.set_cons_succ]
          refine wpAnyH_take (i := 10) (oi := ⟨some 168, _, _, _, _, _⟩) (v := .agg #[.int .i64 x.1, .int .i64 x.2]) rfl (by kernel_rfl) (by kernel_rfl) (by kernel_rfl) (fun _ _ _ h => h) (Or.inl ⟨by rfl, fun W hSW => by have c0 := (hSW.cell (p := ⟨g, c * 2, none⟩) hgl).trans cx0; have c1 := (hSW.cell (p := ⟨g, c * 2 + 1, none⟩) hgl).trans cx1; go_simp⟩) hHeld ?_
          simp only [Act.put, List.setIfInBounds_toArray, List.set_cons_zero, List.set_cons_succ]
          refine wpAnyH_ready (rs := [11]) (by kernel_rfl) (by simp) ?_
          refine AllReadyH.cons (o := ⟨some 169, _, _, _, _, _⟩) rfl (fun K hK => ?_) AllReadyH.nil
          go_simp
          refine (less_c (a := y) (b := x)).mono ?_
          rintro e w2 ⟨rfl, hb2⟩
          go_wp2_with fail
          refine hK.out _ _ (below_t hHeld hb2) (fun hHeld2 => ?_)
          clear hK K
          refine wpAnyH_take (i := 12) (oi := ⟨some 170, _, _, _, _, _⟩) (v := .bool false) rfl (by kernel_rfl) (by kernel_rfl) (by kernel_rfl) (fun _ _ _ h => h) (Or.inl ⟨by rfl, fun W hSW => by go_simp⟩) hHeld2 ?_
          simp only [Act.put, List.setIfInBounds_toArray, List.set_cons_zero, List.set_cons_succ]
          refine wpAnyH_take (i := 13) (oi := ⟨some 171, _, _, _, _, _⟩) (v := .bool true) rfl (by kernel_rfl) (by kernel_rfl) (by kernel_rfl) (fun _ _ _ h => h) (Or.inl ⟨by rfl, fun W hSW => by go_simp⟩) hHeld2 ?_
          simp only [Act.put, List.setIfInBounds_toArray, List.set_cons_zero, List.set_cons_succ]
          refine wpAnyH_done (by kernel_rfl) ?_ _
          refine NoPanic.normal ?_
          go_wp2_with fail
          go_roundw
          case rel => exact ⟨c + 1, r, by go_num, rfl, by omega, by omega, hr0, .inr ⟨by omega, x, y, by rw [Nat.add_sub_cancel]; exact HX.out, by rw [Nat.add_sub_cancel, ← HE.out]; exact HY.out, HQ.out⟩, H2.out, HROW.out.below hHeld2, below_o HBW.out hgB hgl hHeld2⟩
          case measure => simp [intOf]; omega
      · have hltI : ¬ (s : Int) < r := by omega
        obtain rfl : s = r := by omega
        obtain ⟨wn, rfl⟩ : ∃ wn : World, wn = wr := ⟨_, rfl⟩
        obtain ⟨en, hen⟩ : ∃ en, en = nn - s := ⟨_, rfl⟩
        have hwen : IntKind.i64.wrap ((nn : Int) - (s : Int)) = (en : Int) := by rw [IntKind.wrap_i64]; have := HNN.out; omega
        have hnn := HNN.out
        have hpp := HPP.out
        have hA := HA.out
        have hM := HM.out
        have hBB := HBB.out
        have hNN0 := HNN0.out
        obtain ⟨σ, hσ⟩ : ∃ σ, σ = s - a := ⟨_, rfl⟩
        obtain ⟨t, ht⟩ : ∃ t, t = mid - s := ⟨_, rfl⟩
        have hσL : σ ≤ L.length := by omega
        have htR : t ≤ R.length := by omega
        have HMRG : Hid (mrg leT L R = mrg leT (L.take σ) (R.take t) ++ mrg leT (L.drop σ) (R.drop t)) := Lib.hid (by
          refine cross HSL.out HSR.out ?_ ?_
          · rcases H1.out with h | ⟨h0, x, y, hx, hy, hxy⟩
            · exact .inr (.inl (by omega))
            · by_cases hz : σ = 0
              · exact .inl hz
              · by_cases hz2 : R.length ≤ t
                · exact .inr (.inl hz2)
                · rw [HD.out, at_L hA (u := σ - 1) (by omega) (by omega)] at hx
                  rw [HD.out, at_R (m := m) (by omega) (v := t) (by omega) (by omega)] at hy
                  exact .inr (.inr ⟨by omega, x, y, hx, hy, hxy⟩)
          · rcases H2.out with h | ⟨x, y, hx, hy, hxy⟩
            · exact .inl (by omega)
            · by_cases hz : t = 0
              · exact .inl hz
              · by_cases hz2 : L.length ≤ σ
                · exact .inr (.inl hz2)
                · rw [HD.out, at_L hA (u := σ) (by omega) (by omega)] at hx
                  rw [HD.out, at_R (m := m) (by omega) (v := t - 1) (by omega) (by omega)] at hy
                  exact .inr (.inr ⟨by omega, x, y, hx, hy, hxy⟩))
        obtain ⟨L1, hL1⟩ : ∃ l, l = L.take σ := ⟨_, rfl⟩
        obtain ⟨L2, hL2⟩ : ∃ l, l = L.drop σ := ⟨_, rfl⟩
        obtain ⟨R1, hR1⟩ : ∃ l, l = R.take t := ⟨_, rfl⟩
        obtain ⟨R2, hR2⟩ : ∃ l, l = R.drop t := ⟨_, rfl⟩
        have hl1 : L1.length = σ := by rw [hL1, List.length_take]; omega
        have hl2 : L2.length = L.length - σ := by rw [hL2, List.length_drop]
        have hr1 : R1.length = t := by rw [hR1, List.length_take]; omega
        have hr2 : R2.length = R.length - t := by rw [hR2, List.length_drop]
        have hsL1 : srtd L1 := by rw [hL1]; exact HSL.out.take σ
        have hsL2 : srtd L2 := by rw [hL2]; exact HSL.out.drop σ
        have hsR1 : srtd R1 := by rw [hR1]; exact HSR.out.take t
        have hsR2 : srtd R2 := by rw [hR2]; exact HSR.out.drop t
        have HFIN : Hid (T = X ++ mrg leT L1 R1 ++ mrg leT L2 R2 ++ Y) := Lib.hid (by rw [HT.out, HMRG.out, hL1, hL2, hR1, hR2]; simp [List.append_assoc])
        have HROW0 : Hid (Row wn B g n cap (X ++ L1 ++ L2 ++ R1 ++ (R2 ++ Y))) := Lib.hid (by
          have h := HROW.out
          rw [HD.out] at h
          have e : X ++ L1 ++ L2 ++ R1 ++ (R2 ++ Y) = X ++ L ++ R ++ Y := by
            rw [hL1, hL2, hR1, hR2, List.append_assoc X, List.take_append_drop, List.append_assoc (X ++ L), ← List.append_assoc (R.take t), List.take_append_drop, ← List.append_assoc]
          rw [e]
          exact h)
        have HBWN := Lib.hid HBW.out
        have HROT0 : Hid (s < m → m < en → ∀ W : World, Row W B g n cap (X ++ L1 ++ L2 ++ R1 ++ (R2 ++ Y)) → Calls Tryd.prog 63 #[.slice (some ⟨g, 0, none⟩) n cap, .int .i64 s, .int .i64 m, .int .i64 en, .func (.func 41) #[] #[]] W (SortP W B g n cap (X ++ L1 ++ R1 ++ (L2 ++ R2 ++ Y)))) := Lib.hid (fun g1 g2 W hW => by
          have h := rotate_c (fv := .func (.func 41) #[] #[]) (a := s) (m := m) (b := en) (X := X ++ L1) (U := L2) (V := R1) (Y := R2 ++ Y) hW hn (by rw [List.length_append]; omega) (by omega) (by omega) (by omega) (by omega)
          have e : X ++ L1 ++ R1 ++ L2 ++ (R2 ++ Y) = X ++ L1 ++ R1 ++ (L2 ++ R2 ++ Y) := by simp [List.append_assoc]
          rw [e] at h
          exact h)
        have HLEFT0 : Hid (a < s → s < mid → ∀ W : World, Row W B g n cap (X ++ L1 ++ R1 ++ (L2 ++ R2 ++ Y)) → Calls Tryd.prog 62 #[.slice (some ⟨g, 0, none⟩) n cap, .int .i64 a, .int .i64 s, .int .i64 mid, .func (.func 41) #[] #[]] W (SortP W B g n cap (X ++ mrg leT L1 R1 ++ (L2 ++ R2 ++ Y)))) := Lib.hid (fun g1 g2 W hW => HIH.out W X L1 R1 (L2 ++ R2 ++ Y) a s mid hW hA (by omega) (by omega) hsL1 hsR1 (by omega) (by omega) (by omega))
        have HRIGHT0 : Hid (mid < en → en < b → ∀ W : World, Row W B g n cap (X ++ mrg leT L1 R1 ++ (L2 ++ R2 ++ Y)) → Calls Tryd.prog 62 #[.slice (some ⟨g, 0, none⟩) n cap, .int .i64 mid, .int .i64 en, .int .i64 b, .func (.func 41) #[] #[]] W (SortP W B g n cap (X ++ mrg leT L1 R1 ++ mrg leT L2 R2 ++ Y))) := Lib.hid (fun g1 g2 W hW => HIH.out W (X ++ mrg leT L1 R1) L2 R2 Y mid en b (by have e : X ++ mrg leT L1 R1 ++ L2 ++ R2 ++ Y = X ++ mrg leT L1 R1 ++ (L2 ++ R2 ++ Y) := (by simp [List.append_assoc]); rw [e]; exact hW) (by rw [List.length_append, mrg_len]; omega) (by omega) (by omega) hsL2 hsR2 (by omega) (by omega) (by omega))
        have HLEN : Hid (L1.length = s - a ∧ L2.length = m - s ∧ R1.length = mid - s ∧ R2.length = b - en ∧ en ≤ b) := Lib.hid (by omega)
        have hl : a ≤ s ∧ s ≤ m ∧ s ≤ mid ∧ en ≤ b := by omega
        obtain ⟨hl_1, hl_2, hl_3, hl_4⟩ := hl
        have hen2 : en ≤ mid + m - s := by omega
        have hen3 : mid + m - s ≤ en := by omega
        have hmid1 : a < mid := by omega
        have hmid2 : mid < b := by omega
        clear hNN0 hnn hpp hA hM hBB hσ ht hσL htR hL1 hL2 hR1 hR2 hl1 hl2 hr1 hr2 hsL1 hsL2 hsR1 hsR2 HMRG H1 H2 hen
        by_cases hP : s < m
        · have eP : decide ((s : Int) < (m : Int)) = true := by simp; omega
          have ePn : decide (s < m) = true := by simp; omega
          have eP2 : decide ((mid : Int) < (en : Int)) = true := by simp; omega
          have eP2n : decide (mid < en) = true := by simp; omega
          by_cases hQ : s < mid
          · have eQ : decide ((s : Int) < (mid : Int)) = true := by simp; omega
            have eQn : decide (s < mid) = true := by simp; omega
            have eQ2 : decide ((m : Int) < (en : Int)) = true := by simp; omega
            have eQ2n : decide (m < en) = true := by simp; omega
            have HROT := Lib.hid (HROT0.out (by omega) (by omega))
            by_cases hU : a < s
            · have eU : decide ((a : Int) < (s : Int)) = true := by simp; omega
              have eUn : decide (a < s) = true := by simp; omega
              have HLEFT := Lib.hid (HLEFT0.out (by omega) (by omega))
              by_cases hV : en < b
              · have eV : decide ((en : Int) < (b : Int)) = true := by simp; omega
                have eVn : decide (en < b) = true := by simp; omega
                have HRIGHT := Lib.hid (HRIGHT0.out (by omega) (by omega))
                clear hP hQ hU hV
                go_wp2_with fail
                go_at_call 63
                refine (HROT.out _ HROW0.out).mono ?_
                rintro e w2 ⟨rfl, hrow, hb⟩
                have HROW2 := Lib.hid hrow
                have HB2 := Lib.hid (HBWN.out.trans hb)
                clear hrow hb
                go_wp2_with fail
                go_at_call 62
                refine (HLEFT.out _ HROW2.out).mono ?_
                rintro e w3 ⟨rfl, hrow, hb⟩
                have HROW3 := Lib.hid hrow
                have HB3 := Lib.hid (HB2.out.trans hb)
                clear hrow hb
                go_wp2_with fail
                go_at_call 62
                refine (HRIGHT.out _ HROW3.out).mono ?_
                rintro e w4 ⟨rfl, hrow, hb⟩
                have HRZ := Lib.hid hrow
                have HBZ := Lib.hid (HB3.out.trans hb)
                clear hrow hb
                go_wp2_with fail
                go_end0
                refine ⟨rfl, ?_, HBZ.out⟩
                rw [HFIN.out]
                exact HRZ.out
              · have eV : decide ((en : Int) < (b : Int)) = false := by simp; omega
                have eVn : decide (en < b) = false := by simp; omega
                have HN2 : Hid (R2 = []) := Lib.hid (List.eq_nil_of_length_eq_zero (by have := HLEN.out; omega))
                clear hP hQ hU hV
                go_wp2_with fail
                go_at_call 63
                refine (HROT.out _ HROW0.out).mono ?_
                rintro e w2 ⟨rfl, hrow, hb⟩
                have HROW2 := Lib.hid hrow
                have HB2 := Lib.hid (HBWN.out.trans hb)
                clear hrow hb
                go_wp2_with fail
                go_at_call 62
                refine (HLEFT.out _ HROW2.out).mono ?_
                rintro e w3 ⟨rfl, hrow, hb⟩
                have HROW3 := Lib.hid hrow
                have HB3 := Lib.hid (HB2.out.trans hb)
                clear hrow hb
                have HRZ : Hid (Row _ B g n cap (X ++ mrg leT L1 R1 ++ mrg leT L2 R2 ++ Y)) := Lib.hid (by have h := HROW3.out; rw [HN2.out] at h ⊢; first | (rw [mrg_nil_left]; simpa [List.append_assoc] using h) | (rw [mrg_nil_right]; simpa [List.append_assoc] using h))
                have HBZ := Lib.hid HB3.out
                go_wp2_with fail
                go_end0
                refine ⟨rfl, ?_, HBZ.out⟩
                rw [HFIN.out]
                exact HRZ.out
            · have eU : decide ((a : Int) < (s : Int)) = false := by simp; omega
              have eUn : decide (a < s) = false := by simp; omega
              have HN1 : Hid (L1 = []) := Lib.hid (List.eq_nil_of_length_eq_zero (by have := HLEN.out; omega))
              by_cases hV : en < b
              · have eV : decide ((en : Int) < (b : Int)) = true := by simp; omega
                have eVn : decide (en < b) = true := by simp; omega
                have HRIGHT := Lib.hid (HRIGHT0.out (by omega) (by omega))
                clear hP hQ hU hV
                go_wp2_with fail
                go_at_call 63
                refine (HROT.out _ HROW0.out).mono ?_
                rintro e w2 ⟨rfl, hrow, hb⟩
                have HROW2 := Lib.hid hrow
                have HB2 := Lib.hid (HBWN.out.trans hb)
                clear hrow hb
                have HROW3 : Hid (Row _ B g n cap (X ++ mrg leT L1 R1 ++ (L2 ++ R2 ++ Y))) := Lib.hid (by have h := HROW2.out; rw [HN1.out] at h ⊢; first | (rw [mrg_nil_left]; simpa [List.append_assoc] using h) | (rw [mrg_nil_right]; simpa [List.append_assoc] using h))
                go_wp2_with fail
                go_at_call 62
                refine (HRIGHT.out _ HROW3.out).mono ?_
                rintro e w4 ⟨rfl, hrow, hb⟩
                have HRZ := Lib.hid hrow
                have HBZ := Lib.hid (HB2.out.trans hb)
                clear hrow hb
                go_wp2_with fail
                go_end0
                refine ⟨rfl, ?_, HBZ.out⟩
                rw [HFIN.out]
                exact HRZ.out
              · have eV : decide ((en : Int) < (b : Int)) = false := by simp; omega
                have eVn : decide (en < b) = false := by simp; omega
                have HN2 : Hid (R2 = []) := Lib.hid (List.eq_nil_of_length_eq_zero (by have := HLEN.out; omega))
                clear hP hQ hU hV
                go_wp2_with fail
                go_at_call 63
                refine (HROT.out _ HROW0.out).mono ?_
                rintro e w2 ⟨rfl, hrow, hb⟩
                have HROW2 := Lib.hid hrow
                have HB2 := Lib.hid (HBWN.out.trans hb)
                clear hrow hb
                have HROW3 : Hid (Row _ B g n cap (X ++ mrg leT L1 R1 ++ (L2 ++ R2 ++ Y))) := Lib.hid (by have h := HROW2.out; rw [HN1.out] at h ⊢; first | (rw [mrg_nil_left]; simpa [List.append_assoc] using h) | (rw [mrg_nil_right]; simpa [List.append_assoc] using h))
                have HRZ : Hid (Row _ B g n cap (X ++ mrg leT L1 R1 ++ mrg leT L2 R2 ++ Y)) := Lib.hid (by have h := HROW3.out; rw [HN2.out] at h ⊢; first | (rw [mrg_nil_left]; simpa [List.append_assoc] using h) | (rw [mrg_nil_right]; simpa [List.append_assoc] using h))
                have HBZ := Lib.hid HB2.out
                go_wp2_with fail
                go_end0
                refine ⟨rfl, ?_, HBZ.out⟩
                rw [HFIN.out]
                exact HRZ.out
          · have eQ : decide ((s : Int) < (mid : Int)) = false := by simp; omega
            have eQn : decide (s < mid) = false := by simp; omega
            have eQ2 : decide ((m : Int) < (en : Int)) = false := by simp; omega
            have eQ2n : decide (m < en) = false := by simp; omega
            have eU : decide ((a : Int) < (s : Int)) = true := by simp; omega
            have eUn : decide (a < s) = true := by simp; omega
            have HR1N : Hid (R1 = []) := Lib.hid (List.eq_nil_of_length_eq_zero (by have := HLEN.out; omega))
            by_cases hV : en < b
            · have eV : decide ((en : Int) < (b : Int)) = true := by simp; omega
              have eVn : decide (en < b) = true := by simp; omega
              have HRIGHT := Lib.hid (HRIGHT0.out (by omega) (by omega))
              clear hP hQ hV
              have HROW2 : Hid (Row wn B g n cap (X ++ L1 ++ R1 ++ (L2 ++ R2 ++ Y))) := Lib.hid (by have h := HROW0.out; rw [HR1N.out] at h ⊢; simpa [List.append_assoc] using h)
              have HROW3 : Hid (Row _ B g n cap (X ++ mrg leT L1 R1 ++ (L2 ++ R2 ++ Y))) := Lib.hid (by have h := HROW2.out; rw [HR1N.out] at h ⊢; first | (rw [mrg_nil_left]; simpa [List.append_assoc] using h) | (rw [mrg_nil_right]; simpa [List.append_assoc] using h))
              go_wp2_with fail
              go_at_call 62
              refine (HRIGHT.out _ HROW3.out).mono ?_
              rintro e w4 ⟨rfl, hrow, hb⟩
              have HRZ := Lib.hid hrow
              have HBZ := Lib.hid (HBWN.out.trans hb)
              clear hrow hb
              go_wp2_with fail
              go_end0
              refine ⟨rfl, ?_, HBZ.out⟩
              rw [HFIN.out]
              exact HRZ.out
            · have eV : decide ((en : Int) < (b : Int)) = false := by simp; omega
              have eVn : decide (en < b) = false := by simp; omega
              have HN2 : Hid (R2 = []) := Lib.hid (List.eq_nil_of_length_eq_zero (by have := HLEN.out; omega))
              clear hP hQ hV
              have HROW2 : Hid (Row wn B g n cap (X ++ L1 ++ R1 ++ (L2 ++ R2 ++ Y))) := Lib.hid (by have h := HROW0.out; rw [HR1N.out] at h ⊢; simpa [List.append_assoc] using h)
              have HROW3 : Hid (Row _ B g n cap (X ++ mrg leT L1 R1 ++ (L2 ++ R2 ++ Y))) := Lib.hid (by have h := HROW2.out; rw [HR1N.out] at h ⊢; first | (rw [mrg_nil_left]; simpa [List.append_assoc] using h) | (rw [mrg_nil_right]; simpa [List.append_assoc] using h))
              have HRZ : Hid (Row _ B g n cap (X ++ mrg leT L1 R1 ++ mrg leT L2 R2 ++ Y)) := Lib.hid (by have h := HROW3.out; rw [HN2.out] at h ⊢; first | (rw [mrg_nil_left]; simpa [List.append_assoc] using h) | (rw [mrg_nil_right]; simpa [List.append_assoc] using h))
              have HBZ := Lib.hid HBWN.out
              go_wp2_with fail
              go_end0
              refine ⟨rfl, ?_, HBZ.out⟩
              rw [HFIN.out]
              exact HRZ.out
        · have eP : decide ((s : Int) < (m : Int)) = false := by simp; omega
          have ePn : decide (s < m) = false := by simp; omega
          have eP2 : decide ((mid : Int) < (en : Int)) = false := by simp; omega
          have eP2n : decide (mid < en) = false := by simp; omega
          have eU : decide ((a : Int) < (s : Int)) = true := by simp; omega
          have eUn : decide (a < s) = true := by simp; omega
          have HL2N : Hid (L2 = []) := Lib.hid (List.eq_nil_of_length_eq_zero (by have := HLEN.out; omega))
          by_cases hQ : s < mid
          · have eQ : decide ((s : Int) < (mid : Int)) = true := by simp; omega
            have eQn : decide (s < mid) = true := by simp; omega
            have HLEFT := Lib.hid (HLEFT0.out (by omega) (by omega))
            clear hP hQ
            have HROW2 : Hid (Row wn B g n cap (X ++ L1 ++ R1 ++ (L2 ++ R2 ++ Y))) := Lib.hid (by have h := HROW0.out; rw [HL2N.out] at h ⊢; simpa [List.append_assoc] using h)
            go_wp2_with fail
            go_at_call 62
            refine (HLEFT.out _ HROW2.out).mono ?_
            rintro e w3 ⟨rfl, hrow, hb⟩
            have HROW3 := Lib.hid hrow
            have HB3 := Lib.hid (HBWN.out.trans hb)
            clear hrow hb
            have HRZ : Hid (Row _ B g n cap (X ++ mrg leT L1 R1 ++ mrg leT L2 R2 ++ Y)) := Lib.hid (by have h := HROW3.out; rw [HL2N.out] at h ⊢; first | (rw [mrg_nil_left]; simpa [List.append_assoc] using h) | (rw [mrg_nil_right]; simpa [List.append_assoc] using h))
            have HBZ := Lib.hid HB3.out
            go_wp2_with fail
            go_end0
            refine ⟨rfl, ?_, HBZ.out⟩
            rw [HFIN.out]
            exact HRZ.out
          · have eQ : decide ((s : Int) < (mid : Int)) = false := by simp; omega
            have eQn : decide (s < mid) = false := by simp; omega
            have HR1N : Hid (R1 = []) := Lib.hid (List.eq_nil_of_length_eq_zero (by have := HLEN.out; omega))
            clear hP hQ
            have HROW2 : Hid (Row wn B g n cap (X ++ L1 ++ R1 ++ (L2 ++ R2 ++ Y))) := Lib.hid (by have h := HROW0.out; rw [HL2N.out] at h ⊢; simpa [List.append_assoc] using h)
            have HROW3 : Hid (Row _ B g n cap (X ++ mrg leT L1 R1 ++ (L2 ++ R2 ++ Y))) := Lib.hid (by have h := HROW2.out; rw [HR1N.out] at h ⊢; first | (rw [mrg_nil_left]; simpa [List.append_assoc] using h) | (rw [mrg_nil_right]; simpa [List.append_assoc] using h))
            have HRZ : Hid (Row _ B g n cap (X ++ mrg leT L1 R1 ++ mrg leT L2 R2 ++ Y)) := Lib.hid (by have h := HROW3.out; rw [HL2N.out] at h ⊢; first | (rw [mrg_nil_left]; simpa [List.append_assoc] using h) | (rw [mrg_nil_right]; simpa [List.append_assoc] using h))
            have HBZ := Lib.hid HBWN.out
            go_wp2_with fail
            go_end0
            refine ⟨rfl, ?_, HBZ.out⟩
            rw [HFIN.out]
            exact HRZ.out
  · have ecm : decide ((mid : Int) < (m : Int)) = false := by simp; omega
    clear hT hD hIH hR ha hm hb hsL hsR hL hR2 hN hlen hd1 hd2 hmid hnn hpp hs0
    go_enter Tryd.func62, Tryd.ntmps62
    go_wp2_with fail
    go_loopw [20, 21] (SERel w B g n cap a m pp D) (fun u v _ => (intOf v).toNat - (intOf u).toNat)
    case atStart => exact ⟨a, m, rfl, rfl, by omega, by omega, by omega, .inl rfl, .inl rfl, HR.out, Below.refl _ _⟩
    case round =>
      obtain ⟨s, r, rfl, rfl, hs0, hsr, hr0, h1, h2, hrow, hbw⟩ := hrel
      have HROW := Lib.hid hrow
      have HBW := Lib.hid hbw
      have H1 := Lib.hid h1
      have H2 := Lib.hid h2
      clear hrow hbw h1 h2
      by_cases hlt : s < r
      · have hltI : (s : Int) < r := by omega
        obtain ⟨c, hc, hic, hcj⟩ := half hlt (by omega)
        obtain ⟨e, he⟩ : ∃ e, e = pp - c := ⟨_, rfl⟩
        have HE := Lib.hid he
        have hen : e < n := by have := HPP.out; have := HNN.out; omega
        have hcn : c < n := by omega
        obtain ⟨x, hx⟩ : ∃ x, D[c]? = some x := ⟨_, List.getElem?_eq_getElem (by have := HDL.out; omega)⟩
        obtain ⟨y, hy⟩ : ∃ y, D[e]? = some y := ⟨_, List.getElem?_eq_getElem (by have := HDL.out; omega)⟩
        obtain ⟨cx0, cx1⟩ := HROW.out.at hx
        obtain ⟨cy0, cy1⟩ := HROW.out.at hy
        have hgl := HROW.out.lt
        have hcI : (c : Int) < n := by omega
        have hc0 : (0 : Int) ≤ (c : Int) := by omega
        have heI : (e : Int) < n := by omega
        have he0 : (0 : Int) ≤ (e : Int) := by omega
        have hsum2 : ((s : Int) + (r : Int)) / 2 = (c : Int) := by omega
        have hwe : IntKind.i64.wrap ((pp : Int) - (c : Int)) = (e : Int) := by rw [IntKind.wrap_i64]; have := HPP.out; have := HNN.out; omega
        have HX := Lib.hid hx
        have HY := Lib.hid hy
        obtain ⟨q, hq⟩ : ∃ q, leT x y = q := ⟨_, rfl⟩
        have hcq : decide (cfT y x < 0) = !q := by rw [cf_lt, hq]
        have HQ := Lib.hid hq
        clear hc hx hy hq he
        cases q
        · go_wp2_with fail
          refine wp_region_noPanic ?_
          refine wp_region_held_drew (S := fun W => Below wr.heap.size wr W) (by kernel_rfl) ((Below.refl _ wr).drew) (fun hHeld => ?_)
          refine wpAnyH_take (i := 0) (oi := ⟨some 158, _, _, _, _, _⟩) (v := .func (.func 41) #[] #[]) rfl (by kernel_rfl) (by kernel_rfl) (by kernel_rfl) (fun _ _ _ h => h) (Or.inl ⟨by rfl, fun W hSW => by go_simp⟩) hHeld ?_
          simp only [Act.put, List.setIfInBounds_toArray, List.set_cons_zero, List.set_cons_succ]
          refine wpAnyH_take (i := 1) (oi := ⟨some 159, _, _, _, _, _⟩) (v := .slice (some ⟨g, 0, none⟩) n cap) rfl (by kernel_rfl) (by kernel_rfl) (by kernel_rfl) (fun _ _ _ h => h) (Or.inl ⟨by rfl, fun W hSW => by go_simp⟩) hHeld ?_
          simp only [Act.put, List.setIfInBounds_toArray, List.set_cons_zero, List.set_cons_succ]
          refine wpAnyH_take (i := 2) (oi := ⟨some 160, _, _, _, _, _⟩) (v := .int .i64 pp) rfl (by kernel_rfl) (by kernel_rfl) (by kernel_rfl) (fun _ _ _ h => h) (Or.inl ⟨by rfl, fun W hSW => by go_simp⟩) hHeld ?_
          simp only [Act.put, List.setIfInBounds_toArray, List.set_cons_zero, List.set_cons_succ]
          refine wpAnyH_take (i := 3) (oi := ⟨some 161, _, _, _, _, _⟩) (v := .int .i64 c) rfl (by kernel_rfl) (by kernel_rfl) (by kernel_rfl) (fun _ _ _ h => h) (Or.inl ⟨by rfl, fun W hSW => by go_simp⟩) hHeld ?_
          simp only [Act.put, List.setIfInBounds_toArray, List.set_cons_zero, List.set_cons_succ]
          refine wpAnyH_take (i := 4) (oi := ⟨some 162, _, _, _, _, _⟩) (v := .int .i64 e) rfl (by kernel_rfl) (by kernel_rfl) (by kernel_rfl) (fun _ _ _ h => h) (Or.inl ⟨by rfl, fun W hSW => by go_simp⟩) hHeld ?_
          simp only [Act.put, List.setIfInBounds_toArray, List.set_cons_zero, List.set_cons_succ]
          refine wpAnyH_take (i := 5) (oi := ⟨some 163, _, _, _, _, _⟩) (v := .pointer (some ⟨g, e * 2, none⟩)) rfl (by kernel_rfl) (by kernel_rfl) (by kernel_rfl) (fun _ _ _ h => h) (Or.inl ⟨by rfl, fun W hSW => by go_simp⟩) hHeld ?_
          simp only [Act.put, List.setIfInBounds_toArray, List.set_cons_zero, List.set_cons_succ]
          refine wpAnyH_take (i := 6) (oi := ⟨some 164, _, _, _, _, _⟩) (v := .agg #[.int .i64 y.1, .int .i64 y.2]) rfl (by kernel_rfl) (by kernel_rfl) (by kernel_rfl) (fun _ _ _ h => h) (Or.inl ⟨by rfl, fun W hSW => by have c0 := (hSW.cell (p := ⟨g, e * 2, none⟩) hgl).trans cy0; have c1 := (hSW.cell (p := ⟨g, e * 2 + 1, none⟩) hgl).trans cy1; go_simp⟩) hHeld ?_
          simp only [Act.put, List.setIfInBounds_toArray, List.set_cons_zero, List.set_cons_succ]
          refine wpAnyH_take (i := 7) (oi := ⟨some 165, _, _, _, _, _⟩) (v := .slice (some ⟨g, 0, none⟩) n cap) rfl (by kernel_rfl) (by kernel_rfl) (by kernel_rfl) (fun _ _ _ h => h) (Or.inl ⟨by rfl, fun W hSW => by go_simp⟩) hHeld ?_
          simp only [Act.put, List.setIfInBounds_toArray, List.set_cons_zero, List.set_cons_succ]
          refine wpAnyH_take (i := 8) (oi := ⟨some 166, _, _, _, _, _⟩) (v := .int .i64 c) rfl (by kernel_rfl) (by kernel_rfl) (by kernel_rfl) (fun _ _ _ h => h) (Or.inl ⟨by rfl, fun W hSW => by go_simp⟩) hHeld ?_
          simp only [Act.put, List.setIfInBounds_toArray, List.set_cons_zero, List.set_cons_succ]
          refine wpAnyH_take (i := 9) (oi := ⟨some 167, _, _, _, _, _⟩) (v := .pointer (some ⟨g, c * 2, none⟩)) rfl (by kernel_rfl) (by kernel_rfl) (by kernel_rfl) (fun _ _ _ h => h) (Or.inl ⟨by rfl, fun W hSW => by go_simp⟩) hHeld ?_
          simp only [Act.put, List.setIfInBounds_toArray, List.set_cons_zero, List.set_cons_succ]
          refine wpAnyH_take (i := 10) (oi := ⟨some 168, _, _, _, _, _⟩) (v := .agg #[.int .i64 x.1, .int .i64 x.2]) rfl (by kernel_rfl) (by kernel_rfl) (by kernel_rfl) (fun _ _ _ h => h) (Or.inl ⟨by rfl, fun W hSW => by have c0 := (hSW.cell (p := ⟨g, c * 2, none⟩) hgl).trans cx0; have c1 := (hSW.cell (p := ⟨g, c * 2 + 1, none⟩) hgl).trans cx1; go_simp⟩) hHeld ?_
          simp only [Act.put, List.setIfInBounds_toArray, List.set_cons_zero, List.set_cons_succ]
          refine wpAnyH_ready (rs := [11]) (by kernel_rfl) (by simp) ?_
          refine AllReadyH.cons (o := ⟨some 169, _, _, _, _, _⟩) rfl (fun K hK => ?_) AllReadyH.nil
          go_simp
          refine (less_c (a := y) (b := x)).mono ?_
          rintro e w2 ⟨rfl, hb2⟩
          go_wp2_with fail
          refine hK.out _ _ (below_t hHeld hb2) (fun hHeld2 => ?_)
          clear hK K
          refine wpAnyH_take (i := 12) (oi := ⟨some 170, _, _, _, _, _⟩) (v := .bool true) rfl (by kernel_rfl) (by kernel_rfl) (by kernel_rfl) (fun _ _ _ h => h) (Or.inl ⟨by rfl, fun W hSW => by go_simp⟩) hHeld2 ?_
          simp only [Act.put, List.setIfInBounds_toArray, List.set_cons_zero, List.set_cons_succ]
          refine wpAnyH_take (i := 13) (oi := ⟨some 171, _, _, _, _, _⟩) (v := .bool false) rfl (by kernel_rfl) (by kernel_rfl) (by kernel_rfl) (fun _ _ _ h => h) (Or.inl ⟨by rfl, fun W hSW => by go_simp⟩) hHeld2 ?_
          simp only [Act.put, List.setIfInBounds_toArray, List.set_cons_zero, List.set_cons_succ]
          refine wpAnyH_done (by kernel_rfl) ?_ _
          refine NoPanic.normal ?_
          go_wp2_with fail
          go_roundw
          case rel => exact ⟨s, c, rfl, rfl, hs0, hic, by omega, H1.out, .inr ⟨x, y, HX.out, by rw [← HE.out]; exact HY.out, HQ.out⟩, HROW.out.below hHeld2, below_o HBW.out hgB hgl hHeld2⟩
          case measure => simp [intOf]; omega
        · go_wp2_with fail
          refine wp_region_noPanic ?_
          refine wp_region_held_drew (S := fun W => Below wr.heap.size wr W) (by kernel_rfl) ((Below.refl _ wr).drew) (fun hHeld => ?_)
          refine wpAnyH_take (i := 0) (oi := ⟨some 158, _, _, _, _, _⟩) (v := .func (.func 41) #[] #[]) rfl (by kernel_rfl) (by kernel_rfl) (by kernel_rfl) (fun _ _ _ h => h) (Or.inl ⟨by rfl, fun W hSW => by go_simp⟩) hHeld ?_
          simp only [Act.put, List.setIfInBounds_toArray, List.set_cons_zero, List.set_cons_succ]
          refine wpAnyH_take (i := 1) (oi := ⟨some 159, _, _, _, _, _⟩) (v := .slice (some ⟨g, 0, none⟩) n cap) rfl (by kernel_rfl) (by kernel_rfl) (by kernel_rfl) (fun _ _ _ h => h) (Or.inl ⟨by rfl, fun W hSW => by go_simp⟩) hHeld ?_
          simp only [Act.put, List.setIfInBounds_toArray, List.set_cons_zero, List.set_cons_succ]
          refine wpAnyH_take (i := 2) (oi := ⟨some 160, _, _, _, _, _⟩) (v := .int .i64 pp) rfl (by kernel_rfl) (by kernel_rfl) (by kernel_rfl) (fun _ _ _ h => h) (Or.inl ⟨by rfl, fun W hSW => by go_simp⟩) hHeld ?_
          simp only [Act.put, List.setIfInBounds_toArray, List.set_cons_zero, List.set_cons_succ]
          refine wpAnyH_take (i := 3) (oi := ⟨some 161, _, _, _, _, _⟩) (v := .int .i64 c) rfl (by kernel_rfl) (by kernel_rfl) (by kernel_rfl) (fun _ _ _ h => h) (Or.inl ⟨by rfl, fun W hSW => by go_simp⟩) hHeld ?_
          simp only [Act.put, List.setIfInBounds_toArray, List.set_cons_zero, List.set_cons_succ]
          refine wpAnyH_take (i := 4) (oi := ⟨some 162, _, _, _, _, _⟩) (v := .int .i64 e) rfl (by kernel_rfl) (by kernel_rfl) (by kernel_rfl) (fun _ _ _ h => h) (Or.inl ⟨by rfl, fun W hSW => by go_simp⟩) hHeld ?_
          simp only [Act.put, List.setIfInBounds_toArray, List.set_cons_zero, List.set_cons_succ]
          refine wpAnyH_take (i := 5) (oi := ⟨some 163, _, _, _, _, _⟩) (v := .pointer (some ⟨g, e * 2, none⟩)) rfl (by kernel_rfl) (by kernel_rfl) (by kernel_rfl) (fun _ _ _ h => h) (Or.inl ⟨by rfl, fun W hSW => by go_simp⟩) hHeld ?_
          simp only [Act.put, List.setIfInBounds_toArray, List.set_cons_zero, List.set_cons_succ]
          refine wpAnyH_take (i := 6) (oi := ⟨some 164, _, _, _, _, _⟩) (v := .agg #[.int .i64 y.1, .int .i64 y.2]) rfl (by kernel_rfl) (by kernel_rfl) (by kernel_rfl) (fun _ _ _ h => h) (Or.inl ⟨by rfl, fun W hSW => by have c0 := (hSW.cell (p := ⟨g, e * 2, none⟩) hgl).trans cy0; have c1 := (hSW.cell (p := ⟨g, e * 2 + 1, none⟩) hgl).trans cy1; go_simp⟩) hHeld ?_
          simp only [Act.put, List.setIfInBounds_toArray, List.set_cons_zero, List.set_cons_succ]
          refine wpAnyH_take (i := 7) (oi := ⟨some 165, _, _, _, _, _⟩) (v := .slice (some ⟨g, 0, none⟩) n cap) rfl (by kernel_rfl) (by kernel_rfl) (by kernel_rfl) (fun _ _ _ h => h) (Or.inl ⟨by rfl, fun W hSW => by go_simp⟩) hHeld ?_
          simp only [Act.put, List.setIfInBounds_toArray, List.set_cons_zero, List.set_cons_succ]
          refine wpAnyH_take (i := 8) (oi := ⟨some 166, _, _, _, _, _⟩) (v := .int .i64 c) rfl (by kernel_rfl) (by kernel_rfl) (by kernel_rfl) (fun _ _ _ h => h) (Or.inl ⟨by rfl, fun W hSW => by go_simp⟩) hHeld ?_
          simp only [Act.put, List.setIfInBounds_toArray, List.set_cons_zero, List.set_cons_succ]
          refine wpAnyH_take (i := 9) (oi := ⟨some 167, _, _, _, _, _⟩) (v := .pointer (some ⟨g, c * 2, none⟩)) rfl (by kernel_rfl) (by kernel_rfl) (by kernel_rfl) (fun _ _ _ h => h) (Or.inl ⟨by rfl, fun W hSW => by go_simp⟩) hHeld ?_
          simp only [Act.put, List.setIfInBounds_toArray, List.set_cons_zero, List.set_cons_succ]
          refine wpAnyH_take (i := 10) (oi := ⟨some 168, _, _, _, _, _⟩) (v := .agg #[.int .i64 x.1, .int .i64 x.2]) rfl (by kernel_rfl) (by kernel_rfl) (by kernel_rfl) (fun _ _ _ h => h) (Or.inl ⟨by rfl, fun W hSW => by have c0 := (hSW.cell (p := ⟨g, c * 2, none⟩) hgl).trans cx0; have c1 := (hSW.cell (p := ⟨g, c * 2 + 1, none⟩) hgl).trans cx1; go_simp⟩) hHeld ?_
          simp only [Act.put, List.setIfInBounds_toArray, List.set_cons_zero, List.set_cons_succ]
          refine wpAnyH_ready (rs := [11]) (by kernel_rfl) (by simp) ?_
          refine AllReadyH.cons (o := ⟨some 169, _, _, _, _, _⟩) rfl (fun K hK => ?_) AllReadyH.nil
          go_simp
          refine (less_c (a := y) (b := x)).mono ?_
          rintro e w2 ⟨rfl, hb2⟩
          go_wp2_with fail
          refine hK.out _ _ (below_t hHeld hb2) (fun hHeld2 => ?_)
          clear hK K
          refine wpAnyH_take (i := 12) (oi := ⟨some 170, _, _, _, _, _⟩) (v := .bool false) rfl (by kernel_rfl) (by kernel_rfl) (by kernel_rfl) (fun _ _ _ h => h) (Or.inl ⟨by rfl, fun W hSW => by go_simp⟩) hHeld2 ?_
          simp only [Act.put, List.setIfInBounds_toArray, List.set_cons_zero, List.set_cons_succ]
          refine wpAnyH_take (i := 13) (oi := ⟨some 171, _, _, _, _, _⟩) (v := .bool true) rfl (by kernel_rfl) (by kernel_rfl) (by kernel_rfl) (fun _ _ _ h => h) (Or.inl ⟨by rfl, fun W hSW => by go_simp⟩) hHeld2 ?_
          simp only [Act.put, List.setIfInBounds_toArray, List.set_cons_zero, List.set_cons_succ]
          refine wpAnyH_done (by kernel_rfl) ?_ _
          refine NoPanic.normal ?_
          go_wp2_with fail
          go_roundw
          case rel => exact ⟨c + 1, r, by go_num, rfl, by omega, by omega, hr0, .inr ⟨by omega, x, y, by rw [Nat.add_sub_cancel]; exact HX.out, by rw [Nat.add_sub_cancel, ← HE.out]; exact HY.out, HQ.out⟩, H2.out, HROW.out.below hHeld2, below_o HBW.out hgB hgl hHeld2⟩
          case measure => simp [intOf]; omega
      · have hltI : ¬ (s : Int) < r := by omega
        obtain rfl : s = r := by omega
        obtain ⟨wn, rfl⟩ : ∃ wn : World, wn = wr := ⟨_, rfl⟩
        obtain ⟨en, hen⟩ : ∃ en, en = nn - s := ⟨_, rfl⟩
        have hwen : IntKind.i64.wrap ((nn : Int) - (s : Int)) = (en : Int) := by rw [IntKind.wrap_i64]; have := HNN.out; omega
        have hnn := HNN.out
        have hpp := HPP.out
        have hA := HA.out
        have hM := HM.out
        have hBB := HBB.out
        have hNN0 := HNN0.out
        obtain ⟨σ, hσ⟩ : ∃ σ, σ = s - a := ⟨_, rfl⟩
        obtain ⟨t, ht⟩ : ∃ t, t = mid - s := ⟨_, rfl⟩
        have hσL : σ ≤ L.length := by omega
        have htR : t ≤ R.length := by omega
        have HMRG : Hid (mrg leT L R = mrg leT (L.take σ) (R.take t) ++ mrg leT (L.drop σ) (R.drop t)) := Lib.hid (by
          refine cross HSL.out HSR.out ?_ ?_
          · rcases H1.out with h | ⟨h0, x, y, hx, hy, hxy⟩
            · exact .inl (by omega)
            · by_cases hz : σ = 0
              · exact .inl hz
              · by_cases hz2 : R.length ≤ t
                · exact .inr (.inl hz2)
                · rw [HD.out, at_L hA (u := σ - 1) (by omega) (by omega)] at hx
                  rw [HD.out, at_R (m := m) (by omega) (v := t) (by omega) (by omega)] at hy
                  exact .inr (.inr ⟨by omega, x, y, hx, hy, hxy⟩)
          · rcases H2.out with h | ⟨x, y, hx, hy, hxy⟩
            · exact .inr (.inl (by omega))
            · by_cases hz : t = 0
              · exact .inl hz
              · by_cases hz2 : L.length ≤ σ
                · exact .inr (.inl hz2)
                · rw [HD.out, at_L hA (u := σ) (by omega) (by omega)] at hx
                  rw [HD.out, at_R (m := m) (by omega) (v := t - 1) (by omega) (by omega)] at hy
                  exact .inr (.inr ⟨by omega, x, y, hx, hy, hxy⟩))
        obtain ⟨L1, hL1⟩ : ∃ l, l = L.take σ := ⟨_, rfl⟩
        obtain ⟨L2, hL2⟩ : ∃ l, l = L.drop σ := ⟨_, rfl⟩
        obtain ⟨R1, hR1⟩ : ∃ l, l = R.take t := ⟨_, rfl⟩
        obtain ⟨R2, hR2⟩ : ∃ l, l = R.drop t := ⟨_, rfl⟩
        have hl1 : L1.length = σ := by rw [hL1, List.length_take]; omega
        have hl2 : L2.length = L.length - σ := by rw [hL2, List.length_drop]
        have hr1 : R1.length = t := by rw [hR1, List.length_take]; omega
        have hr2 : R2.length = R.length - t := by rw [hR2, List.length_drop]
        have hsL1 : srtd L1 := by rw [hL1]; exact HSL.out.take σ
        have hsL2 : srtd L2 := by rw [hL2]; exact HSL.out.drop σ
        have hsR1 : srtd R1 := by rw [hR1]; exact HSR.out.take t
        have hsR2 : srtd R2 := by rw [hR2]; exact HSR.out.drop t
        have HFIN : Hid (T = X ++ mrg leT L1 R1 ++ mrg leT L2 R2 ++ Y) := Lib.hid (by rw [HT.out, HMRG.out, hL1, hL2, hR1, hR2]; simp [List.append_assoc])
        have HROW0 : Hid (Row wn B g n cap (X ++ L1 ++ L2 ++ R1 ++ (R2 ++ Y))) := Lib.hid (by
          have h := HROW.out
          rw [HD.out] at h
          have e : X ++ L1 ++ L2 ++ R1 ++ (R2 ++ Y) = X ++ L ++ R ++ Y := by
            rw [hL1, hL2, hR1, hR2, List.append_assoc X, List.take_append_drop, List.append_assoc (X ++ L), ← List.append_assoc (R.take t), List.take_append_drop, ← List.append_assoc]
          rw [e]
          exact h)
        have HBWN := Lib.hid HBW.out
        have HROT0 : Hid (s < m → m < en → ∀ W : World, Row W B g n cap (X ++ L1 ++ L2 ++ R1 ++ (R2 ++ Y)) → Calls Tryd.prog 63 #[.slice (some ⟨g, 0, none⟩) n cap, .int .i64 s, .int .i64 m, .int .i64 en, .func (.func 41) #[] #[]] W (SortP W B g n cap (X ++ L1 ++ R1 ++ (L2 ++ R2 ++ Y)))) := Lib.hid (fun g1 g2 W hW => by
          have h := rotate_c (fv := .func (.func 41) #[] #[]) (a := s) (m := m) (b := en) (X := X ++ L1) (U := L2) (V := R1) (Y := R2 ++ Y) hW hn (by rw [List.length_append]; omega) (by omega) (by omega) (by omega) (by omega)
          have e : X ++ L1 ++ R1 ++ L2 ++ (R2 ++ Y) = X ++ L1 ++ R1 ++ (L2 ++ R2 ++ Y) := by simp [List.append_assoc]
          rw [e] at h
          exact h)
        have HLEFT0 : Hid (a < s → s < mid → ∀ W : World, Row W B g n cap (X ++ L1 ++ R1 ++ (L2 ++ R2 ++ Y)) → Calls Tryd.prog 62 #[.slice (some ⟨g, 0, none⟩) n cap, .int .i64 a, .int .i64 s, .int .i64 mid, .func (.func 41) #[] #[]] W (SortP W B g n cap (X ++ mrg leT L1 R1 ++ (L2 ++ R2 ++ Y)))) := Lib.hid (fun g1 g2 W hW => HIH.out W X L1 R1 (L2 ++ R2 ++ Y) a s mid hW hA (by omega) (by omega) hsL1 hsR1 (by omega) (by omega) (by omega))
        have HRIGHT0 : Hid (mid < en → en < b → ∀ W : World, Row W B g n cap (X ++ mrg leT L1 R1 ++ (L2 ++ R2 ++ Y)) → Calls Tryd.prog 62 #[.slice (some ⟨g, 0, none⟩) n cap, .int .i64 mid, .int .i64 en, .int .i64 b, .func (.func 41) #[] #[]] W (SortP W B g n cap (X ++ mrg leT L1 R1 ++ mrg leT L2 R2 ++ Y))) := Lib.hid (fun g1 g2 W hW => HIH.out W (X ++ mrg leT L1 R1) L2 R2 Y mid en b (by have e : X ++ mrg leT L1 R1 ++ L2 ++ R2 ++ Y = X ++ mrg leT L1 R1 ++ (L2 ++ R2 ++ Y) := (by simp [List.append_assoc]); rw [e]; exact hW) (by rw [List.length_append, mrg_len]; omega) (by omega) (by omega) hsL2 hsR2 (by omega) (by omega) (by omega))
        have HLEN : Hid (L1.length = s - a ∧ L2.length = m - s ∧ R1.length = mid - s ∧ R2.length = b - en ∧ en ≤ b) := Lib.hid (by omega)
        have hl : a ≤ s ∧ s ≤ m ∧ s ≤ mid ∧ en ≤ b := by omega
        obtain ⟨hl_1, hl_2, hl_3, hl_4⟩ := hl
        have hen2 : en ≤ mid + m - s := by omega
        have hen3 : mid + m - s ≤ en := by omega
        have hmid1 : a < mid := by omega
        have hmid2 : mid < b := by omega
        clear hNN0 hnn hpp hA hM hBB hσ ht hσL htR hL1 hL2 hR1 hR2 hl1 hl2 hr1 hr2 hsL1 hsL2 hsR1 hsR2 HMRG H1 H2 hen
        by_cases hP : s < m
        · have eP : decide ((s : Int) < (m : Int)) = true := by simp; omega
          have ePn : decide (s < m) = true := by simp; omega
          have eP2 : decide ((mid : Int) < (en : Int)) = true := by simp; omega
          have eP2n : decide (mid < en) = true := by simp; omega
          by_cases hQ : s < mid
          · have eQ : decide ((s : Int) < (mid : Int)) = true := by simp; omega
            have eQn : decide (s < mid) = true := by simp; omega
            have eQ2 : decide ((m : Int) < (en : Int)) = true := by simp; omega
            have eQ2n : decide (m < en) = true := by simp; omega
            have HROT := Lib.hid (HROT0.out (by omega) (by omega))
            by_cases hU : a < s
            · have eU : decide ((a : Int) < (s : Int)) = true := by simp; omega
              have eUn : decide (a < s) = true := by simp; omega
              have HLEFT := Lib.hid (HLEFT0.out (by omega) (by omega))
              by_cases hV : en < b
              · have eV : decide ((en : Int) < (b : Int)) = true := by simp; omega
                have eVn : decide (en < b) = true := by simp; omega
                have HRIGHT := Lib.hid (HRIGHT0.out (by omega) (by omega))
                clear hP hQ hU hV
                go_wp2_with fail
                go_at_call 63
                refine (HROT.out _ HROW0.out).mono ?_
                rintro e w2 ⟨rfl, hrow, hb⟩
                have HROW2 := Lib.hid hrow
                have HB2 := Lib.hid (HBWN.out.trans hb)
                clear hrow hb
                go_wp2_with fail
                go_at_call 62
                refine (HLEFT.out _ HROW2.out).mono ?_
                rintro e w3 ⟨rfl, hrow, hb⟩
                have HROW3 := Lib.hid hrow
                have HB3 := Lib.hid (HB2.out.trans hb)
                clear hrow hb
                go_wp2_with fail
                go_at_call 62
                refine (HRIGHT.out _ HROW3.out).mono ?_
                rintro e w4 ⟨rfl, hrow, hb⟩
                have HRZ := Lib.hid hrow
                have HBZ := Lib.hid (HB3.out.trans hb)
                clear hrow hb
                go_wp2_with fail
                go_end0
                refine ⟨rfl, ?_, HBZ.out⟩
                rw [HFIN.out]
                exact HRZ.out
              · have eV : decide ((en : Int) < (b : Int)) = false := by simp; omega
                have eVn : decide (en < b) = false := by simp; omega
                have HN2 : Hid (R2 = []) := Lib.hid (List.eq_nil_of_length_eq_zero (by have := HLEN.out; omega))
                clear hP hQ hU hV
                go_wp2_with fail
                go_at_call 63
                refine (HROT.out _ HROW0.out).mono ?_
                rintro e w2 ⟨rfl, hrow, hb⟩
                have HROW2 := Lib.hid hrow
                have HB2 := Lib.hid (HBWN.out.trans hb)
                clear hrow hb
                go_wp2_with fail
                go_at_call 62
                refine (HLEFT.out _ HROW2.out).mono ?_
                rintro e w3 ⟨rfl, hrow, hb⟩
                have HROW3 := Lib.hid hrow
                have HB3 := Lib.hid (HB2.out.trans hb)
                clear hrow hb
                have HRZ : Hid (Row _ B g n cap (X ++ mrg leT L1 R1 ++ mrg leT L2 R2 ++ Y)) := Lib.hid (by have h := HROW3.out; rw [HN2.out] at h ⊢; first | (rw [mrg_nil_left]; simpa [List.append_assoc] using h) | (rw [mrg_nil_right]; simpa [List.append_assoc] using h))
                have HBZ := Lib.hid HB3.out
                go_wp2_with fail
                go_end0
                refine ⟨rfl, ?_, HBZ.out⟩
                rw [HFIN.out]
                exact HRZ.out
            · have eU : decide ((a : Int) < (s : Int)) = false := by simp; omega
              have eUn : decide (a < s) = false := by simp; omega
              have HN1 : Hid (L1 = []) := Lib.hid (List.eq_nil_of_length_eq_zero (by have := HLEN.out; omega))
              by_cases hV : en < b
              · have eV : decide ((en : Int) < (b : Int)) = true := by simp; omega
                have eVn : decide (en < b) = true := by simp; omega
                have HRIGHT := Lib.hid (HRIGHT0.out (by omega) (by omega))
                clear hP hQ hU hV
                go_wp2_with fail
                go_at_call 63
                refine (HROT.out _ HROW0.out).mono ?_
                rintro e w2 ⟨rfl, hrow, hb⟩
                have HROW2 := Lib.hid hrow
                have HB2 := Lib.hid (HBWN.out.trans hb)
                clear hrow hb
                have HROW3 : Hid (Row _ B g n cap (X ++ mrg leT L1 R1 ++ (L2 ++ R2 ++ Y))) := Lib.hid (by have h := HROW2.out; rw [HN1.out] at h ⊢; first | (rw [mrg_nil_left]; simpa [List.append_assoc] using h) | (rw [mrg_nil_right]; simpa [List.append_assoc] using h))
                go_wp2_with fail
                go_at_call 62
                refine (HRIGHT.out _ HROW3.out).mono ?_
                rintro e w4 ⟨rfl, hrow, hb⟩
                have HRZ := Lib.hid hrow
                have HBZ := Lib.hid (HB2.out.trans hb)
                clear hrow hb
                go_wp2_with fail
                go_end0
                refine ⟨rfl, ?_, HBZ.out⟩
                rw [HFIN.out]
                exact HRZ.out
              · have eV : decide ((en : Int) < (b : Int)) = false := by simp; omega
                have eVn : decide (en < b) = false := by simp; omega
                have HN2 : Hid (R2 = []) := Lib.hid (List.eq_nil_of_length_eq_zero (by have := HLEN.out; omega))
                clear hP hQ hU hV
                go_wp2_with fail
                go_at_call 63
                refine (HROT.out _ HROW0.out).mono ?_
                rintro e w2 ⟨rfl, hrow, hb⟩
                have HROW2 := Lib.hid hrow
                have HB2 := Lib.hid (HBWN.out.trans hb)
                clear hrow hb
                have HROW3 : Hid (Row _ B g n cap (X ++ mrg leT L1 R1 ++ (L2 ++ R2 ++ Y))) := Lib.hid (by have h := HROW2.out; rw [HN1.out] at h ⊢; first | (rw [mrg_nil_left]; simpa [List.append_assoc] using h) | (rw [mrg_nil_right]; simpa [List.append_assoc] using h))
                have HRZ : Hid (Row _ B g n cap (X ++ mrg leT L1 R1 ++ mrg leT L2 R2 ++ Y)) := Lib.hid (by have h := HROW3.out; rw [HN2.out] at h ⊢; first | (rw [mrg_nil_left]; simpa [List.append_assoc] using h) | (rw [mrg_nil_right]; simpa [List.append_assoc] using h))
                have HBZ := Lib.hid HB2.out
                go_wp2_with fail
                go_end0
                refine ⟨rfl, ?_, HBZ.out⟩
                rw [HFIN.out]
                exact HRZ.out
          · have eQ : decide ((s : Int) < (mid : Int)) = false := by simp; omega
            have eQn : decide (s < mid) = false := by simp; omega
            have eQ2 : decide ((m : Int) < (en : Int)) = false := by simp; omega
            have eQ2n : decide (m < en) = false := by simp; omega
            have eU : decide ((a : Int) < (s : Int)) = true := by simp; omega
            have eUn : decide (a < s) = true := by simp; omega
            have HR1N : Hid (R1 = []) := Lib.hid (List.eq_nil_of_length_eq_zero (by have := HLEN.out; omega))
            by_cases hV : en < b
            · have eV : decide ((en : Int) < (b : Int)) = true := by simp; omega
              have eVn : decide (en < b) = true := by simp; omega
              have HRIGHT := Lib.hid (HRIGHT0.out (by omega) (by omega))
              clear hP hQ hV
              have HROW2 : Hid (Row wn B g n cap (X ++ L1 ++ R1 ++ (L2 ++ R2 ++ Y))) := Lib.hid (by have h := HROW0.out; rw [HR1N.out] at h ⊢; simpa [List.append_assoc] using h)
              have HROW3 : Hid (Row _ B g n cap (X ++ mrg leT L1 R1 ++ (L2 ++ R2 ++ Y))) := Lib.hid (by have h := HROW2.out; rw [HR1N.out] at h ⊢; first | (rw [mrg_nil_left]; simpa [List.append_assoc] using h) | (rw [mrg_nil_right]; simpa [List.append_assoc] using h))
              go_wp2_with fail
              go_at_call 62
              refine (HRIGHT.out _ HROW3.out).mono ?_
              rintro e w4 ⟨rfl, hrow, hb⟩
              have HRZ := Lib.hid hrow
              have HBZ := Lib.hid (HBWN.out.trans hb)
              clear hrow hb
              go_wp2_with fail
              go_end0
              refine ⟨rfl, ?_, HBZ.out⟩
              rw [HFIN.out]
              exact HRZ.out
            · have eV : decide ((en : Int) < (b : Int)) = false := by simp; omega
              have eVn : decide (en < b) = false := by simp; omega
              have HN2 : Hid (R2 = []) := Lib.hid (List.eq_nil_of_length_eq_zero (by have := HLEN.out; omega))
              clear hP hQ hV
              have HROW2 : Hid (Row wn B g n cap (X ++ L1 ++ R1 ++ (L2 ++ R2 ++ Y))) := Lib.hid (by have h := HROW0.out; rw [HR1N.out] at h ⊢; simpa [List.append_assoc] using h)
              have HROW3 : Hid (Row _ B g n cap (X ++ mrg leT L1 R1 ++ (L2 ++ R2 ++ Y))) := Lib.hid (by have h := HROW2.out; rw [HR1N.out] at h ⊢; first | (rw [mrg_nil_left]; simpa [List.append_assoc] using h) | (rw [mrg_nil_right]; simpa [List.append_assoc] using h))
              have HRZ : Hid (Row _ B g n cap (X ++ mrg leT L1 R1 ++ mrg leT L2 R2 ++ Y)) := Lib.hid (by have h := HROW3.out; rw [HN2.out] at h ⊢; first | (rw [mrg_nil_left]; simpa [List.append_assoc] using h) | (rw [mrg_nil_right]; simpa [List.append_assoc] using h))
              have HBZ := Lib.hid HBWN.out
              go_wp2_with fail
              go_end0
              refine ⟨rfl, ?_, HBZ.out⟩
              rw [HFIN.out]
              exact HRZ.out
        · have eP : decide ((s : Int) < (m : Int)) = false := by simp; omega
          have ePn : decide (s < m) = false := by simp; omega
          have eP2 : decide ((mid : Int) < (en : Int)) = false := by simp; omega
          have eP2n : decide (mid < en) = false := by simp; omega
          have eU : decide ((a : Int) < (s : Int)) = true := by simp; omega
          have eUn : decide (a < s) = true := by simp; omega
          have HL2N : Hid (L2 = []) := Lib.hid (List.eq_nil_of_length_eq_zero (by have := HLEN.out; omega))
          by_cases hQ : s < mid
          · have eQ : decide ((s : Int) < (mid : Int)) = true := by simp; omega
            have eQn : decide (s < mid) = true := by simp; omega
            have HLEFT := Lib.hid (HLEFT0.out (by omega) (by omega))
            clear hP hQ
            have HROW2 : Hid (Row wn B g n cap (X ++ L1 ++ R1 ++ (L2 ++ R2 ++ Y))) := Lib.hid (by have h := HROW0.out; rw [HL2N.out] at h ⊢; simpa [List.append_assoc] using h)
            go_wp2_with fail
            go_at_call 62
            refine (HLEFT.out _ HROW2.out).mono ?_
            rintro e w3 ⟨rfl, hrow, hb⟩
            have HROW3 := Lib.hid hrow
            have HB3 := Lib.hid (HBWN.out.trans hb)
            clear hrow hb
            have HRZ : Hid (Row _ B g n cap (X ++ mrg leT L1 R1 ++ mrg leT L2 R2 ++ Y)) := Lib.hid (by have h := HROW3.out; rw [HL2N.out] at h ⊢; first | (rw [mrg_nil_left]; simpa [List.append_assoc] using h) | (rw [mrg_nil_right]; simpa [List.append_assoc] using h))
            have HBZ := Lib.hid HB3.out
            go_wp2_with fail
            go_end0
            refine ⟨rfl, ?_, HBZ.out⟩
            rw [HFIN.out]
            exact HRZ.out
          · have eQ : decide ((s : Int) < (mid : Int)) = false := by simp; omega
            have eQn : decide (s < mid) = false := by simp; omega
            have HR1N : Hid (R1 = []) := Lib.hid (List.eq_nil_of_length_eq_zero (by have := HLEN.out; omega))
            clear hP hQ
            have HROW2 : Hid (Row wn B g n cap (X ++ L1 ++ R1 ++ (L2 ++ R2 ++ Y))) := Lib.hid (by have h := HROW0.out; rw [HL2N.out] at h ⊢; simpa [List.append_assoc] using h)
            have HROW3 : Hid (Row _ B g n cap (X ++ mrg leT L1 R1 ++ (L2 ++ R2 ++ Y))) := Lib.hid (by have h := HROW2.out; rw [HR1N.out] at h ⊢; first | (rw [mrg_nil_left]; simpa [List.append_assoc] using h) | (rw [mrg_nil_right]; simpa [List.append_assoc] using h))
            have HRZ : Hid (Row _ B g n cap (X ++ mrg leT L1 R1 ++ mrg leT L2 R2 ++ Y)) := Lib.hid (by have h := HROW3.out; rw [HL2N.out] at h ⊢; first | (rw [mrg_nil_left]; simpa [List.append_assoc] using h) | (rw [mrg_nil_right]; simpa [List.append_assoc] using h))
            have HBZ := Lib.hid HBWN.out
            go_wp2_with fail
            go_end0
            refine ⟨rfl, ?_, HBZ.out⟩
            rw [HFIN.out]
            exact HRZ.out

theorem sym_c : ∀ (N : Nat) {B g n cap : Nat}, n ≤ 1000000 → SymIH B g n cap N
  | 0, B, g, n, cap, hn => fun w X L R Y a m b hR ha hm hb hsL hsR hL hR2 hN => absurd hN (by omega)
  | N + 1, B, g, n, cap, hn => fun w X L R Y a m b hR ha hm hb hsL hsR hL hR2 hN => by
    have ih := sym_c N (B := B) (g := g) (n := n) (cap := cap) hn
    match L, hL with
    | [x], _ =>
      have e : X ++ [x] ++ R ++ Y = X ++ x :: (R ++ Y) := by simp
      rw [e] at hR
      exact symA_c hR hn ha hm hb hsR
    | x1 :: x2 :: L, _ =>
      match R, hR2 with
      | [y], _ =>
        have e : X ++ (x1 :: x2 :: L) ++ [y] ++ Y = X ++ (x1 :: x2 :: L) ++ y :: Y := by simp
        rw [e] at hR
        exact symB_c hR hn ha hm hb hsL (by simp)
      | y1 :: y2 :: R, _ => exact symC_c ih hR hn ha hm hb hsL hsR (by simp) (by simp) (by omega)
end ChunkW
end Go.Proofs.YtiochoppiohjnaaDoor
