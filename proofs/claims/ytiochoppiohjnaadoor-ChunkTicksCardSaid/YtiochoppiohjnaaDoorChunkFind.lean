/-
  Where in a list of ticks one stands: closures, slices.IndexFunc, find, behind.
-/
import Derived.Shelf.Abstract
import Derived.Test.YtiochoppiohjnaaDoorChunkWalks1
namespace Go.Proofs.YtiochoppiohjnaaDoor
open Go.RowKit
set_option linter.unusedVariables false
set_option linter.unusedSimpArgs false
namespace ChunkW
open BytesW PackW

def tkA (t : Tick) : Value := .agg #[.int .i64 t.1, .int .i64 t.2]
theorem cl_at {w : World} {g : Nat} {i : Int} {t : Tick} (hg : w.cell? ⟨g, 0, none⟩ = some (.int .i64 i)) :
    Calls Tryd.prog 59 #[tkA t, .pointer (some ⟨g, 0, none⟩)] w fun e w' => e = .returned (.bool (atP i t)) ∧ Below w.heap.size w w' := by
  obtain ⟨a, d⟩ := t
  have hlt := World.block_lt_of_cell? w _ hg
  simp only at hlt
  have HR : Hid ((a == i) = atP i (a, d)) := Lib.hid (by unfold atP; by_cases h : a = i <;> simp [h])
  unfold tkA
  go_enter Tryd.func59, Tryd.ntmps59
  go_wp2_with fail
  go_ret
  exact ⟨by first | rfl | (rw [← HR.out]; rfl), (Below.refl _ w).alloc (Nat.le_refl _) _⟩
theorem cl_over {w : World} {g : Nat} {i : Int} {t : Tick} (hg : w.cell? ⟨g, 0, none⟩ = some (.int .i64 i)) :
    Calls Tryd.prog 60 #[tkA t, .pointer (some ⟨g, 0, none⟩)] w fun e w' => e = .returned (.bool (overP i t)) ∧ Below w.heap.size w w' := by
  obtain ⟨a, d⟩ := t
  have hlt := World.block_lt_of_cell? w _ hg
  simp only at hlt
  unfold tkA
  go_enter Tryd.func60, Tryd.ntmps60
  go_wp2_with fail
  go_ret
  exact ⟨by first | rfl | simp [overP], (Below.refl _ w).alloc (Nat.le_refl _) _⟩

def idxI (p : Tick → Bool) (l : List Tick) : Int := match idx p l with
  | some k => k
  | none => -1
def IdxRel (w : World) (ts : List Tick) (p : Tick → Bool) (i : Value) (wr : World) : Prop := ∃ j : Nat, i = .int .i64 j ∧ j ≤ ts.length ∧ (∀ k, k < j → ∀ t, ts[k]? = some t → p t = false) ∧ Below w.heap.size w wr
set_option maxRecDepth 100000 in
set_option maxHeartbeats 4000000 in
theorem idxFunc_c {w : World} {A : Option Addr} {ts : List Tick} {c g : Nat} {u : Value} {p : Tick → Bool} {r : Int} (eg : ∀ args w, (callFunc g args).run Tryd.prog w = .ok (.enter g args) w) (hA : PairC tkv w A ts) (hl : ts.length ≤ 1000000)
    (hp : ∀ (W : World) (t : Tick), Below w.heap.size w W → Calls Tryd.prog g #[tkA t, u] W fun e w' => e = .returned (.bool (p t)) ∧ Below W.heap.size W w') (hr : idxI p ts = r) :
    Calls Tryd.prog 58 #[.slice A ts.length c, .func (.func g) #[] #[u]] w fun e w' => e = .returned (.int .i64 r) ∧ Below w.heap.size w w' := by
  obtain ⟨n, hn⟩ : ∃ n, n = ts.length := ⟨_, rfl⟩
  rw [← hn] at hl ⊢
  have HN := Lib.hid hn
  have HA := Lib.hid hA
  have HR := Lib.hid hr
  have HP := Lib.hid hp
  clear hn hA hr hp
  go_enter Tryd.func58, Tryd.ntmps58
  go_wp2_with fail
  go_loopw [8] (IdxRel w ts p) (fun v _ => n - (intOf v).toNat)
  case atStart => exact ⟨0, rfl, by omega, fun k hk => absurd hk (by omega), Below.refl _ _⟩
  case round =>
    obtain ⟨j, rfl, hj, hall, hbw⟩ := hrel
    have HB := Lib.hid hbw
    have HAL := Lib.hid hall
    have hz := hbw.size
    have hjn : j ≤ n := by have := HN.out; omega
    clear hbw hall hj
    by_cases hjl : j < n
    · have hjI : (j : Int) < n := by omega
      have hjI0 : (0 : Int) ≤ j := by omega
      obtain ⟨⟨a, d⟩, hx⟩ : ∃ x, ts[j]? = some x := ⟨_, List.getElem?_eq_getElem (by have := HN.out; omega)⟩
      obtain ⟨b, o, rfl, hbl, hcs⟩ := (HA.out.below HB.out).cells (fun e => by rw [e] at hx; simp at hx)
      obtain ⟨p0, p1⟩ := hcs _ _ hx
      simp only [tkv] at p0 p1
      obtain ⟨m, hm⟩ : ∃ m, p (a, d) = m := ⟨_, rfl⟩
      have HC := Lib.hid (HP.out wr (a, d) HB.out)
      rw [hm] at HC
      have HX := Lib.hid hx
      have HM := Lib.hid hm
      clear hcs hx hm
      cases m
      · go_wp2_with (refine (HC.out).mono ?_; rintro e w2 ⟨rfl, hb2⟩; have HB2 := Lib.hid (below_t HB.out hb2); clear hb2 p0 p1)
        go_roundw
        case rel => exact ⟨j + 1, by go_num, by have := HN.out; omega, fun k hk t ht => by
          rcases Nat.lt_or_ge k j with h | h
          · exact HAL.out k h t ht
          · obtain rfl : k = j := by omega
            rw [HX.out] at ht
            injection ht with ht
            rw [← ht]
            exact HM.out, HB2.out⟩
        case measure => simp [intOf]; omega
      · have HF : Hid (r = (j : Int)) := Lib.hid (by rw [← HR.out, idxI, idx_at HX.out HM.out HAL.out])
        go_wp2_with (refine (HC.out).mono ?_; rintro e w2 ⟨rfl, hb2⟩; have HB2 := Lib.hid (below_t HB.out hb2); clear hb2 p0 p1)
        go_ret
        exact ⟨by rw [HF.out]; rfl, HB2.out⟩
    · have hjI : ¬ (j : Int) < n := by omega
      have HF : Hid (r = -1) := Lib.hid (by
        rw [← HR.out, idxI, idx_no (fun t ht => ?_)]
        obtain ⟨k, hk⟩ := List.mem_iff_getElem?.1 ht
        have := (List.getElem?_eq_some_iff.1 hk).1
        exact HAL.out k (by have := HN.out; omega) t hk)
      go_wp2_with fail
      go_ret
      exact ⟨by rw [HF.out]; rfl, HB.out⟩

def findI (l : List Tick) (i : Int) : Int := match findT l i with
  | some k => k
  | none => -1
set_option maxRecDepth 100000 in
set_option maxHeartbeats 4000000 in
theorem find_c {w : World} {p : Nat} {k : Ck} {i r : Int} (hk : ChkK w p k) (hr : findI k.ts i = r) :
    Calls Tryd.prog 45 #[.pointer (some ⟨p, 0, none⟩), .int .i64 i] w fun e w' => e = .returned (.int .i64 r) ∧ Below w.heap.size w w' := by
  obtain ⟨C, L, ts⟩ := k
  obtain ⟨TA, tc, h1, h2, h3, h4, h5⟩ := hk
  simp only at h1 h2 h3 h5 hr
  have HR := Lib.hid hr
  have HK := Lib.hid h1
  have HP := Lib.hid h2
  have hpl := h1.lt
  have ht := h1.t
  have H5 := Lib.hid h5
  clear hr h1 h2 h3 h4 h5
  obtain ⟨q, hq⟩ : ∃ q, isIx i = q := ⟨_, rfl⟩
  have HQ := Lib.hid hq
  clear hq
  cases q
  · have HF : Hid (r = -1) := Lib.hid (by rw [← HR.out, findI, findT, if_neg (by rw [HQ.out]; simp)])
    go_enter Tryd.func45, Tryd.ntmps45
    go_wp2_with (go_at_call 48; refine (isIndex_c HQ.out).mono ?_; rintro e w1 ⟨rfl, rfl⟩)
    go_ret
    exact ⟨by rw [HF.out]; rfl, (Below.refl _ w).alloc (Nat.le_refl _) _⟩
  · have HI : Hid (idxI (atP i) ts = r) := Lib.hid (by rw [← HR.out, findI, findT, if_pos HQ.out]; rfl)
    go_enter Tryd.func45, Tryd.ntmps45
    go_wp2_with (go_at_call 48; refine (isIndex_c HQ.out).mono ?_; rintro e w1 ⟨rfl, rfl⟩)
    go_at_call 58
    refine calls_namedW (fun W => Below w.heap.size w W ∧ W.cell? ⟨w.heap.size, 0, none⟩ = some (.int .i64 i) ∧ w.heap.size < W.heap.size) ⟨by (repeat' (first | (with_reducible exact Below.refl _ _) | (with_reducible refine Below.setCell ?_ (by (first | omega | (simp; done) | (simp; omega))) _) | (with_reducible refine Below.alloc ?_ (by (first | omega | (simp; done) | (simp; omega))) _) | (with_reducible refine Below.drew ?_) | (with_reducible refine below_drewN ?_ _))), by (repeat' (first | (with_reducible assumption) | (with_reducible refine HeldP.c_drew ?_) | (with_reducible refine HeldP.c_drewN ?_) | (with_reducible refine HeldP.c_same (by omega) ?_) | (with_reducible refine HeldP.c_other ?_ ?_) | (with_reducible refine HeldP.c_new (by first | omega | (simp; done) | (simp; omega)) ?_) | (with_reducible refine HeldP.c_alloc ?_ ?_) | (with_reducible refine HeldP.e_drew ?_) | (with_reducible refine HeldP.e_drewN ?_) | (with_reducible refine HeldP.e_set ?_) | (with_reducible refine HeldP.e_new (by first | omega | (simp; done) | (simp; omega)) ⟨_, rfl⟩) | (with_reducible refine HeldP.e_alloc ?_ ?_) | (with_reducible refine HeldP.f_drew ?_) | (with_reducible refine HeldP.f_drewN ?_) | (with_reducible refine HeldP.f_set ?_) | (with_reducible refine HeldP.f_new (by first | omega | (simp; done) | (simp; omega))) | (with_reducible refine HeldP.f_alloc ?_ ?_) | (with_reducible refine HeldP.s_drew ?_) | (with_reducible refine HeldP.s_drewN ?_) | (with_reducible refine HeldP.s_set ?_) | (with_reducible refine HeldP.s_new (by first | omega | (simp; done) | (simp; omega))) | (with_reducible refine HeldP.s_alloc ?_) | (with_reducible exact ⟨_, by assumption⟩) | omega | (intro e; simp at e; done) | (intro e; simp at e; omega) | (exact rfl) | (simp; done) | (simp; omega))), by (repeat' (first | (with_reducible assumption) | (with_reducible refine HeldP.c_drew ?_) | (with_reducible refine HeldP.c_drewN ?_) | (with_reducible refine HeldP.c_same (by omega) ?_) | (with_reducible refine HeldP.c_other ?_ ?_) | (with_reducible refine HeldP.c_new (by first | omega | (simp; done) | (simp; omega)) ?_) | (with_reducible refine HeldP.c_alloc ?_ ?_) | (with_reducible refine HeldP.e_drew ?_) | (with_reducible refine HeldP.e_drewN ?_) | (with_reducible refine HeldP.e_set ?_) | (with_reducible refine HeldP.e_new (by first | omega | (simp; done) | (simp; omega)) ⟨_, rfl⟩) | (with_reducible refine HeldP.e_alloc ?_ ?_) | (with_reducible refine HeldP.f_drew ?_) | (with_reducible refine HeldP.f_drewN ?_) | (with_reducible refine HeldP.f_set ?_) | (with_reducible refine HeldP.f_new (by first | omega | (simp; done) | (simp; omega))) | (with_reducible refine HeldP.f_alloc ?_ ?_) | (with_reducible refine HeldP.s_drew ?_) | (with_reducible refine HeldP.s_drewN ?_) | (with_reducible refine HeldP.s_set ?_) | (with_reducible refine HeldP.s_new (by first | omega | (simp; done) | (simp; omega))) | (with_reducible refine HeldP.s_alloc ?_) | (with_reducible exact ⟨_, by assumption⟩) | omega | (intro e; simp at e; done) | (intro e; simp at e; omega) | (exact rfl) | (simp; done) | (simp; omega)))⟩ ?_
    rintro w1 ⟨hb1, hc1, hz1⟩
    refine (idxFunc_c (enters_of Tryd.func59 (by kernel_rfl) rfl) (HP.out.below hb1) H5.out (fun W t hW => cl_at ((hW.cell (p := ⟨w.heap.size, 0, none⟩) hz1).trans hc1)) HI.out).mono ?_
    rintro e w2 ⟨rfl, hb2⟩
    have HB2 := Lib.hid (below_t hb1 hb2)
    clear hb1 hc1 hz1 hb2
    go_wp2_with fail
    go_ret
    exact ⟨rfl, HB2.out⟩
set_option maxRecDepth 100000 in
set_option maxHeartbeats 4000000 in
theorem behind_c {w : World} {A : Option Addr} {ts : List Tick} {c : Nat} {i : Int} {r : Nat} (hA : PairC tkv w A ts) (hl : ts.length ≤ 1000000) (hr : behindT ts i = r) :
    Calls Tryd.prog 49 #[.slice A ts.length c, .int .i64 i] w fun e w' => e = .returned (.int .i64 (r : Int)) ∧ Below w.heap.size w w' := by
  have HR := Lib.hid hr
  have HA := Lib.hid hA
  have HL := Lib.hid hl
  obtain ⟨n, hn⟩ : ∃ n, n = ts.length := ⟨_, rfl⟩
  have HN := Lib.hid hn
  rcases hq : idx (overP i) ts with _ | k
  · have HI : Hid (∀ W : World, PairC tkv W A ts → (∀ (W' : World) (t : Tick), Below W.heap.size W W' → Calls Tryd.prog 60 #[tkA t, .pointer (some ⟨w.heap.size, 0, none⟩)] W' fun e w' => e = .returned (.bool (overP i t)) ∧ Below W'.heap.size W' w') → Calls Tryd.prog 58 #[.slice A n c, .func (.func 60) #[] #[.pointer (some ⟨w.heap.size, 0, none⟩)]] W fun e w' => e = .returned (.int .i64 (-1)) ∧ Below W.heap.size W w') := Lib.hid (fun W h hp => by rw [hn]; exact idxFunc_c (enters_of Tryd.func60 (by kernel_rfl) rfl) h hl hp (by rw [idxI, hq]))
    have HF : Hid ((r : Int) = n) := Lib.hid (by rw [← hr, behindT, hq, hn]; rfl)
    rw [← hn]
    clear hr hA hl hn hq
    go_enter Tryd.func49, Tryd.ntmps49
    go_wp2_with fail
    go_at_call 58
    refine calls_namedW (fun W => Below w.heap.size w W ∧ W.cell? ⟨w.heap.size, 0, none⟩ = some (.int .i64 i) ∧ w.heap.size < W.heap.size) ⟨by (repeat' (first | (with_reducible exact Below.refl _ _) | (with_reducible refine Below.setCell ?_ (by (first | omega | (simp; done) | (simp; omega))) _) | (with_reducible refine Below.alloc ?_ (by (first | omega | (simp; done) | (simp; omega))) _) | (with_reducible refine Below.drew ?_) | (with_reducible refine below_drewN ?_ _))), by (repeat' (first | (with_reducible assumption) | (with_reducible refine HeldP.c_drew ?_) | (with_reducible refine HeldP.c_drewN ?_) | (with_reducible refine HeldP.c_same (by omega) ?_) | (with_reducible refine HeldP.c_other ?_ ?_) | (with_reducible refine HeldP.c_new (by first | omega | (simp; done) | (simp; omega)) ?_) | (with_reducible refine HeldP.c_alloc ?_ ?_) | (with_reducible refine HeldP.e_drew ?_) | (with_reducible refine HeldP.e_drewN ?_) | (with_reducible refine HeldP.e_set ?_) | (with_reducible refine HeldP.e_new (by first | omega | (simp; done) | (simp; omega)) ⟨_, rfl⟩) | (with_reducible refine HeldP.e_alloc ?_ ?_) | (with_reducible refine HeldP.f_drew ?_) | (with_reducible refine HeldP.f_drewN ?_) | (with_reducible refine HeldP.f_set ?_) | (with_reducible refine HeldP.f_new (by first | omega | (simp; done) | (simp; omega))) | (with_reducible refine HeldP.f_alloc ?_ ?_) | (with_reducible refine HeldP.s_drew ?_) | (with_reducible refine HeldP.s_drewN ?_) | (with_reducible refine HeldP.s_set ?_) | (with_reducible refine HeldP.s_new (by first | omega | (simp; done) | (simp; omega))) | (with_reducible refine HeldP.s_alloc ?_) | (with_reducible exact ⟨_, by assumption⟩) | omega | (intro e; simp at e; done) | (intro e; simp at e; omega) | (exact rfl) | (simp; done) | (simp; omega))), by (repeat' (first | (with_reducible assumption) | (with_reducible refine HeldP.c_drew ?_) | (with_reducible refine HeldP.c_drewN ?_) | (with_reducible refine HeldP.c_same (by omega) ?_) | (with_reducible refine HeldP.c_other ?_ ?_) | (with_reducible refine HeldP.c_new (by first | omega | (simp; done) | (simp; omega)) ?_) | (with_reducible refine HeldP.c_alloc ?_ ?_) | (with_reducible refine HeldP.e_drew ?_) | (with_reducible refine HeldP.e_drewN ?_) | (with_reducible refine HeldP.e_set ?_) | (with_reducible refine HeldP.e_new (by first | omega | (simp; done) | (simp; omega)) ⟨_, rfl⟩) | (with_reducible refine HeldP.e_alloc ?_ ?_) | (with_reducible refine HeldP.f_drew ?_) | (with_reducible refine HeldP.f_drewN ?_) | (with_reducible refine HeldP.f_set ?_) | (with_reducible refine HeldP.f_new (by first | omega | (simp; done) | (simp; omega))) | (with_reducible refine HeldP.f_alloc ?_ ?_) | (with_reducible refine HeldP.s_drew ?_) | (with_reducible refine HeldP.s_drewN ?_) | (with_reducible refine HeldP.s_set ?_) | (with_reducible refine HeldP.s_new (by first | omega | (simp; done) | (simp; omega))) | (with_reducible refine HeldP.s_alloc ?_) | (with_reducible exact ⟨_, by assumption⟩) | omega | (intro e; simp at e; done) | (intro e; simp at e; omega) | (exact rfl) | (simp; done) | (simp; omega)))⟩ ?_
    rintro w1 ⟨hb1, hc1, hz1⟩
    refine (HI.out w1 (HA.out.below hb1) (fun W t hW => cl_over ((hW.cell (p := ⟨w.heap.size, 0, none⟩) hz1).trans hc1))).mono ?_
    rintro e w2 ⟨rfl, hb2⟩
    have HB2 := Lib.hid (below_t hb1 hb2)
    clear hb1 hc1 hz1 hb2
    go_wp2_with fail
    go_ret
    exact ⟨by rw [HF.out]; rfl, HB2.out⟩
  · have HI : Hid (∀ W : World, PairC tkv W A ts → (∀ (W' : World) (t : Tick), Below W.heap.size W W' → Calls Tryd.prog 60 #[tkA t, .pointer (some ⟨w.heap.size, 0, none⟩)] W' fun e w' => e = .returned (.bool (overP i t)) ∧ Below W'.heap.size W' w') → Calls Tryd.prog 58 #[.slice A n c, .func (.func 60) #[] #[.pointer (some ⟨w.heap.size, 0, none⟩)]] W fun e w' => e = .returned (.int .i64 (k : Int)) ∧ Below W.heap.size W w') := Lib.hid (fun W h hp => by rw [hn]; exact idxFunc_c (enters_of Tryd.func60 (by kernel_rfl) rfl) h hl hp (by rw [idxI, hq]))
    have HF : Hid ((r : Int) = k) := Lib.hid (by rw [← hr, behindT, hq]; rfl)
    rw [← hn]
    clear hr hA hl hn hq
    go_enter Tryd.func49, Tryd.ntmps49
    go_wp2_with fail
    go_at_call 58
    refine calls_namedW (fun W => Below w.heap.size w W ∧ W.cell? ⟨w.heap.size, 0, none⟩ = some (.int .i64 i) ∧ w.heap.size < W.heap.size) ⟨by (repeat' (first | (with_reducible exact Below.refl _ _) | (with_reducible refine Below.setCell ?_ (by (first | omega | (simp; done) | (simp; omega))) _) | (with_reducible refine Below.alloc ?_ (by (first | omega | (simp; done) | (simp; omega))) _) | (with_reducible refine Below.drew ?_) | (with_reducible refine below_drewN ?_ _))), by (repeat' (first | (with_reducible assumption) | (with_reducible refine HeldP.c_drew ?_) | (with_reducible refine HeldP.c_drewN ?_) | (with_reducible refine HeldP.c_same (by omega) ?_) | (with_reducible refine HeldP.c_other ?_ ?_) | (with_reducible refine HeldP.c_new (by first | omega | (simp; done) | (simp; omega)) ?_) | (with_reducible refine HeldP.c_alloc ?_ ?_) | (with_reducible refine HeldP.e_drew ?_) | (with_reducible refine HeldP.e_drewN ?_) | (with_reducible refine HeldP.e_set ?_) | (with_reducible refine HeldP.e_new (by first | omega | (simp; done) | (simp; omega)) ⟨_, rfl⟩) | (with_reducible refine HeldP.e_alloc ?_ ?_) | (with_reducible refine HeldP.f_drew ?_) | (with_reducible refine HeldP.f_drewN ?_) | (with_reducible refine HeldP.f_set ?_) | (with_reducible refine HeldP.f_new (by first | omega | (simp; done) | (simp; omega))) | (with_reducible refine HeldP.f_alloc ?_ ?_) | (with_reducible refine HeldP.s_drew ?_) | (with_reducible refine HeldP.s_drewN ?_) | (with_reducible refine HeldP.s_set ?_) | (with_reducible refine HeldP.s_new (by first | omega | (simp; done) | (simp; omega))) | (with_reducible refine HeldP.s_alloc ?_) | (with_reducible exact ⟨_, by assumption⟩) | omega | (intro e; simp at e; done) | (intro e; simp at e; omega) | (exact rfl) | (simp; done) | (simp; omega))), by (repeat' (first | (with_reducible assumption) | (with_reducible refine HeldP.c_drew ?_) | (with_reducible refine HeldP.c_drewN ?_) | (with_reducible refine HeldP.c_same (by omega) ?_) | (with_reducible refine HeldP.c_other ?_ ?_) | (with_reducible refine HeldP.c_new (by first | omega | (simp; done) | (simp; omega)) ?_) | (with_reducible refine HeldP.c_alloc ?_ ?_) | (with_reducible refine HeldP.e_drew ?_) | (with_reducible refine HeldP.e_drewN ?_) | (with_reducible refine HeldP.e_set ?_) | (with_reducible refine HeldP.e_new (by first | omega | (simp; done) | (simp; omega)) ⟨_, rfl⟩) | (with_reducible refine HeldP.e_alloc ?_ ?_) | (with_reducible refine HeldP.f_drew ?_) | (with_reducible refine HeldP.f_drewN ?_) | (with_reducible refine HeldP.f_set ?_) | (with_reducible refine HeldP.f_new (by first | omega | (simp; done) | (simp; omega))) | (with_reducible refine HeldP.f_alloc ?_ ?_) | (with_reducible refine HeldP.s_drew ?_) | (with_reducible refine HeldP.s_drewN ?_) | (with_reducible refine HeldP.s_set ?_) | (with_reducible refine HeldP.s_new (by first | omega | (simp; done) | (simp; omega))) | (with_reducible refine HeldP.s_alloc ?_) | (with_reducible exact ⟨_, by assumption⟩) | omega | (intro e; simp at e; done) | (intro e; simp at e; omega) | (exact rfl) | (simp; done) | (simp; omega)))⟩ ?_
    rintro w1 ⟨hb1, hc1, hz1⟩
    refine (HI.out w1 (HA.out.below hb1) (fun W t hW => cl_over ((hW.cell (p := ⟨w.heap.size, 0, none⟩) hz1).trans hc1))).mono ?_
    rintro e w2 ⟨rfl, hb2⟩
    have HB2 := Lib.hid (below_t hb1 hb2)
    clear hb1 hc1 hz1 hb2
    go_wp2_with fail
    go_ret
    exact ⟨by rw [HF.out]; rfl, HB2.out⟩
end ChunkW
end Go.Proofs.YtiochoppiohjnaaDoor
