/-
  Spots put in order: slices.SortFunc by place.CmpSpot.
-/
import Derived.Shelf.SlSortCmp.NoneTotal
import Derived.Test.YtcmmfihhnmhhgaaAnchorLay
import Derived.Test.YtcmmfihhnmhhgaaAnchorMem
namespace Go.Proofs.Ytcmmfihhnmhhgaa
open Go.RowKit
set_option linter.unusedVariables false
set_option linter.unusedSimpArgs false
namespace AncW
open BlkP RowG FrS PushG AncP Go.Sort
/-- Nothing but draws and new blocks. -/
def Grw (w w' : World) : Prop := ∃ q os, w' = grow (w.drewN q) os
theorem Grw.refl (w : World) : Grw w w := ⟨0, #[], by rw [grow_empty]; rfl⟩
theorem Grw.alloc {w W : World} (h : Grw w W) (o : Obj) : Grw w (W.alloc o) := by
  obtain ⟨q, os, rfl⟩ := h
  exact ⟨q, os ++ #[o], by rw [alloc_eq_grow, grow_grow]⟩
theorem Grw.drew {w W : World} (h : Grw w W) : Grw w W.drew := by
  obtain ⟨q, os, rfl⟩ := h
  exact ⟨q + 1, os, rfl⟩
theorem Grw.drewN {w W : World} (h : Grw w W) (n : Nat) : Grw w (W.drewN n) := by
  obtain ⟨q, os, rfl⟩ := h
  exact ⟨q + n, os, by simp [World.drewN, grow, Nat.add_assoc]⟩
theorem keepG {x y z u v t : Int} {w W : World} (o : Obj) (h : (W.cell? ⟨w.heap.size, 0, none⟩ = some (.int .i64 x) ∧ W.cell? ⟨w.heap.size, 1, none⟩ = some (.int .i64 y) ∧ W.cell? ⟨w.heap.size, 2, none⟩ = some (.int .i64 z) ∧ W.cell? ⟨w.heap.size + 1, 0, none⟩ = some (.int .i64 u) ∧ W.cell? ⟨w.heap.size + 1, 1, none⟩ = some (.int .i64 v) ∧ W.cell? ⟨w.heap.size + 1, 2, none⟩ = some (.int .i64 t) ∧ w.heap.size + 1 < W.heap.size ∧ Below w.heap.size w W) ∧ Grw w W) :
    ((W.alloc o).cell? ⟨w.heap.size, 0, none⟩ = some (.int .i64 x) ∧ (W.alloc o).cell? ⟨w.heap.size, 1, none⟩ = some (.int .i64 y) ∧ (W.alloc o).cell? ⟨w.heap.size, 2, none⟩ = some (.int .i64 z) ∧ (W.alloc o).cell? ⟨w.heap.size + 1, 0, none⟩ = some (.int .i64 u) ∧ (W.alloc o).cell? ⟨w.heap.size + 1, 1, none⟩ = some (.int .i64 v) ∧ (W.alloc o).cell? ⟨w.heap.size + 1, 2, none⟩ = some (.int .i64 t) ∧ w.heap.size + 1 < (W.alloc o).heap.size ∧ Below w.heap.size w (W.alloc o)) ∧ Grw w (W.alloc o) :=
  ⟨PlaceW.keep2 ((Below.refl _ _).alloc (Nat.le_refl _) _) h.1, h.2.alloc o⟩
set_option maxHeartbeats 1000000 in
theorem cmpG_c {x y z u v t n : Int} (h : PlaceW.cmpOf x y z u v t = n) (w : World) :
    Calls Try.prog 32 #[.agg #[.int .i64 x, .int .i64 y, .int .i64 z], .agg #[.int .i64 u, .int .i64 v, .int .i64 t]] w fun e w' => e = .returned (.int .i64 n) ∧ Grw w w' := by
  obtain ⟨a, ha⟩ : ∃ a, PlaceW.cmpI x u = a := ⟨_, rfl⟩
  obtain ⟨b, hb⟩ : ∃ b, PlaceW.cmpI z t = b := ⟨_, rfl⟩
  obtain ⟨c, hc⟩ : ∃ c, PlaceW.cmpI y v = c := ⟨_, rfl⟩
  have H : Hid (PlaceW.firstNZ [a, b, c] = n) := Lib.hid (by rw [← h, PlaceW.cmpOf, ha, hb, hc])
  have HA := Lib.hid ha
  have HB := Lib.hid hb
  have HC := Lib.hid hc
  clear h ha hb hc
  go_enter Try.func32, Try.ntmps32
  go_wp2_with fail
  go_region_held3 (fun w' => (w'.cell? ⟨w.heap.size, 0, none⟩ = some (.int .i64 x) ∧ w'.cell? ⟨w.heap.size, 1, none⟩ = some (.int .i64 y) ∧ w'.cell? ⟨w.heap.size, 2, none⟩ = some (.int .i64 z) ∧ w'.cell? ⟨w.heap.size + 1, 0, none⟩ = some (.int .i64 u) ∧ w'.cell? ⟨w.heap.size + 1, 1, none⟩ = some (.int .i64 v) ∧ w'.cell? ⟨w.heap.size + 1, 2, none⟩ = some (.int .i64 t) ∧ w.heap.size + 1 < w'.heap.size ∧ Below w.heap.size w w') ∧ Grw w w')
    (first | assumption | (exact ⟨⟨by simp, by simp, by simp, by simp, by simp, by simp, by simp, (((Below.refl _ _).alloc (Nat.le_refl _) _).alloc (by simp) _).drew⟩, (((Grw.refl _).alloc _).alloc _).drew⟩) | (exact keepG _ (by assumption)))
    (first | (go_at_call 42; (first | (with_reducible refine (PlaceW.compare_c HA.out _).mono ?_) | (with_reducible refine (PlaceW.compare_c HB.out _).mono ?_) | (with_reducible refine (PlaceW.compare_c HC.out _).mono ?_)); rintro e w' ⟨rfl, rfl⟩) | (go_at_call 41; refine (PlaceW.or_c (l := [a, b, c]) _ rfl (by simp) (PlaceW.cells3_new _ _ (by simp)) H.out).mono ?_; rintro e w' ⟨rfl, rfl⟩))
  go_wp2
  go_ret
  refine ⟨rfl, ?_⟩
  repeat' (first | (with_reducible exact Grw.refl _) | (with_reducible refine Grw.alloc ?_ _) | (with_reducible refine Grw.drew ?_) | (with_reducible refine Grw.drewN ?_ _))

theorem Grw.grows {a b c : World} (h : Grw a b) (k : Grw b c) : Grw a c := by
  obtain ⟨q, os, rfl⟩ := h
  obtain ⟨q2, os2, rfl⟩ := k
  exact ⟨q + q2, os ++ os2, by simp [grow, World.drewN, Array.append_assoc, Nat.add_assoc]⟩
theorem cmpSG_c {x y z u v t n : Int} (h : PlaceW.cmpOf x y z u v t = n) (w : World) :
    Calls Try.prog 19 #[.agg #[.int .i64 x, .int .i64 y, .int .i64 z], .agg #[.int .i64 u, .int .i64 v, .int .i64 t]] w fun e w' => e = .returned (.int .i64 n) ∧ Grw w w' := by
  have H := Lib.hid h
  clear h
  go_enter Try.func19, Try.ntmps19
  go_wp2_with (go_at_call 32; refine (cmpG_c H.out _).mono ?_; rintro e w1 ⟨rfl, hb⟩)
  go_ret
  refine ⟨rfl, ?_⟩
  refine Grw.grows ?_ hb
  repeat' (first | (with_reducible exact Grw.refl _) | (with_reducible refine Grw.alloc ?_ _) | (with_reducible refine Grw.drew ?_))
/-! ### The order -/
def cfP (a b : V) : Int := PlaceW.cmpOf a.1 a.2.1 a.2.2 b.1 b.2.1 b.2.2
theorem cf_lt (a b : V) : cfP a b < 0 ↔ ltS a b := by
  unfold cfP ltS PlaceW.cmpOf PlaceW.cmpI
  by_cases h1 : a.1 < b.1
  · simp [h1, PlaceW.firstNZ]
  · by_cases h2 : b.1 < a.1
    · have : ¬ a.1 = b.1 := by omega
      simp [h1, h2, this, PlaceW.firstNZ]
    · have e1 : a.1 = b.1 := by omega
      by_cases h3 : a.2.2 < b.2.2
      · simp [h1, h2, e1, h3, PlaceW.firstNZ]
      · by_cases h4 : b.2.2 < a.2.2
        · have : ¬ a.2.2 = b.2.2 := by omega
          simp [h1, h2, e1, h3, h4, this, PlaceW.firstNZ]
        · have e2 : a.2.2 = b.2.2 := by omega
          by_cases h5 : a.2.1 < b.2.1
          · simp [h1, h2, e1, h3, h4, e2, h5, PlaceW.firstNZ]
          · by_cases h6 : b.2.1 < a.2.1
            · simp [h1, h2, e1, h3, h4, e2, h5, h6, PlaceW.firstNZ]
            · simp [h1, h2, e1, h3, h4, e2, h5, h6, PlaceW.firstNZ]
theorem lt_true {a b : V} : ltOf cfP a b = true ↔ ltS a b := by
  unfold ltOf
  rw [decide_eq_true_eq]
  exact cf_lt a b
theorem lt_false {a b : V} : ltOf cfP a b = false ↔ ¬ ltS a b := by
  rw [← Bool.not_eq_true, lt_true]
theorem swoP : SWO (ltOf cfP) where
  irrefl x := by
    rw [lt_false]
    unfold ltS
    omega
  trans x y z h1 h2 := by
    rw [lt_true] at *
    unfold ltS at *
    omega
  ntrans x y z h1 h2 := by
    rw [lt_false] at *
    unfold ltS at *
    omega
theorem totP (x y : V) (h1 : ltOf cfP x y = false) (h2 : ltOf cfP y x = false) : x = y := by
  rw [lt_false] at h1 h2
  unfold ltS at h1 h2
  exact Prod.ext (by omega) (Prod.ext (by omega) (by omega))
/-! ### The row -/
theorem flatK_list (l : List V) : (flatK encS.f 3 l.toArray).toList = flat encS l := by
  apply List.ext_getElem?
  intro j
  have hs : (flatK encS.f 3 l.toArray).size = l.length * 3 := by simp
  have hf : (flat encS l).length = l.length * 3 := flat_len l
  by_cases hj : j < l.length * 3
  · have hi : j / 3 < l.length := Nat.div_lt_of_lt_mul (by omega)
    have h1 := flat_get (e := encS) (l := l) (i := j / 3) (j := j % 3) (List.getElem?_eq_getElem hi) (Nat.mod_lt _ (by decide))
    have e : j / 3 * encS.k + j % 3 = j := by
      show j / 3 * 3 + j % 3 = j
      omega
    rw [e] at h1
    rw [h1, Array.getElem?_toList, Array.getElem?_eq_getElem (by omega)]
    have h2 := get_flatK encS.f 3 l.toArray j (by simpa using hj)
    rw [getElem!_pos _ j (by omega)] at h2
    rw [h2]
    have h3 : (l.toArray)[j / 3]! = l[j / 3] := by
      rw [getElem!_pos _ _ (by simpa using hi)]
      simp
    rw [h3]
    have h4 : j % 3 < (encS.f l[j / 3]).length := by
      rw [encS.len]
      exact Nat.mod_lt _ (by decide)
    rw [getElem!_pos (encS.f l[j / 3]) (j % 3) h4, List.getElem?_eq_getElem h4]
  · rw [List.getElem?_eq_none (l := (flatK encS.f 3 l.toArray).toList) (by rw [Array.length_toList, hs]; omega), List.getElem?_eq_none (l := flat encS l) (by rw [hf]; omega)]
section
variable {w : World} {B g n c : Nat} {l : List V}
theorem own_holds (h : RowG.Own encS TS w B (.slice (some ⟨g, 0, none⟩) n c) l) : HoldsK encS.f 3 w g 0 l.toArray := by
  intro j hj
  have hj' : j < l.length * 3 := by simpa using hj
  have hi : j / 3 < l.length := Nat.div_lt_of_lt_mul (by omega)
  refine ⟨?_, h.frozen _⟩
  have h4 : j % 3 < (encS.f l[j / 3]).length := by
    rw [encS.len]
    exact Nat.mod_lt _ (by decide)
  have h1 := h.cell (i := j / 3) (j := j % 3) (List.getElem?_eq_getElem hi) (List.getElem?_eq_getElem h4)
  have e : j / 3 * encS.k + j % 3 = j := by
    show j / 3 * 3 + j % 3 = j
    omega
  rw [e] at h1
  rw [Nat.zero_add, h1, get_flatK encS.f 3 l.toArray j (by simpa using hj')]
  have h3 : (l.toArray)[j / 3]! = l[j / 3] := by
    rw [getElem!_pos _ _ (by simpa using hi)]
    simp
  rw [h3, getElem!_pos (encS.f l[j / 3]) (j % 3) h4]
  rfl
theorem heap_sortedK {os : Array Obj} {cur : Array Value} {e : TypeId} {fr : Nat × Nat} {m : Nat} (d : Array V) (hb : w.heap[g]? = some (.cells cur e fr)) :
    (sortWorldK encS.f 3 w g 0 m d os).heap[g]? = some (.cells (putCells id 0 (flatK encS.f 3 d) cur) e fr) := by
  have hg : g < w.heap.size := (Array.getElem?_eq_some_iff.1 hb).1
  unfold sortWorldK putRowK
  rw [heap_grow_old _ _ (by simpa [putRow, mapBlock] using hg)]
  simp [putRow, mapBlock, Sort.ahead, Array.getElem?_modify, hb, onCells]
theorem grownBy_sortedK {os : Array Obj} {m : Nat} (d : Array V) : w.grownBy (sortWorldK encS.f 3 w g 0 m d os) (some g) := by
  refine ⟨rfl, rfl, rfl, by simp [sortWorldK, putRowK, grow, putRow, mapBlock], fun k hk hne => ?_⟩
  unfold sortWorldK putRowK
  rw [heap_grow_old _ _ (by simpa [putRow, mapBlock] using hk)]
  have : g ≠ k := fun e => hne (by rw [e])
  simp [putRow, mapBlock, Sort.ahead, Array.getElem?_modify, this]
theorem take_putK (cur : Array Value) (l : List V) (h : l.length * 3 ≤ cur.size) : (putCells id 0 (flatK encS.f 3 l.toArray) cur).toList.take (l.length * 3) = flat encS l := by
  have hf : (flat encS l).length = l.length * 3 := flat_len l
  apply List.ext_getElem?
  intro j
  by_cases hj : j < l.length * 3
  · rw [List.getElem?_take_of_lt hj, Array.getElem?_toList, ← flatK_list, Array.getElem?_toList]
    simp [putCells, hj, show j < cur.size by omega]
  · rw [List.getElem?_take_eq_none (by omega), List.getElem?_eq_none (by omega)]
theorem own_sortedK {os : Array Obj} {m : Nat} {l' : List V} (h : RowG.Own encS TS w B (.slice (some ⟨g, 0, none⟩) n c) l) (hl : l'.length = l.length) : RowG.Own encS TS (sortWorldK encS.f 3 w g 0 m l'.toArray os) B (.slice (some ⟨g, 0, none⟩) n c) l' := by
  unfold RowG.Own at h ⊢
  refine ⟨flat_len l', ?_⟩
  rcases h.2 with ⟨h0, _⟩ | ⟨g', cap, cur, h0, hB, hg, hn, hc, hs, ht⟩
  · cases h0
  · injection h0 with h0 h1 h2
    injection h0 with h0
    injection h0 with h0
    subst h0 h2
    refine .inr ⟨g, c, _, by rw [hl, ← h1], hB, heap_sortedK _ hg, by rw [hl]; exact hn, hc, by simpa [putCells] using hs, ?_⟩
    have hs' : cur.size = c * 3 := hs
    rw [hl, ← hl]
    exact take_putK cur l' (by rw [hl, hs']; exact Nat.mul_le_mul_right _ hn)
end
theorem cmpLaysP (blk off size : Nat) (w : World) : CmpLays Try.prog 19 #[] encS.f 3 cfP blk off size w := fun m os dk _ x y => (cmpSG_c (x := x.1) (y := x.2.1) (z := x.2.2) (u := y.1) (v := y.2.1) (t := y.2.2) rfl _).mono (by
  rintro e w' ⟨rfl, h⟩
  exact ⟨rfl, h⟩)
theorem isAggP (w : World) : (isAgg TS).run Try.prog w = .ok true w := by kernel_rfl
theorem sizeP (w : World) : (Go.sizeOf TS).run Try.prog w = .ok 3 w := by kernel_rfl
def sortP (l : List V) : List V := l.mergeSort fun x y => !(ltOf cfP y x)
theorem sortP_mem {l : List V} {q : V} : q ∈ sortP l ↔ q ∈ l := List.mem_mergeSort
theorem sortP_len (l : List V) : (sortP l).length = l.length := List.length_mergeSort l
theorem sortP_dup {l : List V} (h : l.Nodup) : (sortP l).Nodup := ((List.mergeSort_perm l _).nodup_iff).2 h
theorem sortP_rises {l : List V} (h : l.Nodup) : (sortP l).Pairwise ltS := by
  have h1 : (sortP l).Pairwise (fun x y => (!(ltOf cfP y x)) = true) := List.pairwise_mergeSort (fun a b c h1 h2 => by
    rw [Bool.not_eq_true'] at *
    exact swoP.ntrans _ _ _ h2 h1) (fun a b => by
    rw [Bool.or_eq_true, Bool.not_eq_true', Bool.not_eq_true', lt_false, lt_false]
    unfold ltS
    omega) l
  have h2 := sortP_dup h
  refine List.Pairwise.imp₂ (fun a b hab hne => ?_) h1 h2
  rw [Bool.not_eq_true', lt_false] at hab
  apply Classical.byContradiction
  intro hn
  exact hne (totP a b (lt_false.2 hn) (lt_false.2 hab))

/-- The row stands in order behind it. -/
theorem sortF_c {w : World} {B g n c : Nat} {l : List V} (h : RowG.Own encS TS w B (.slice (some ⟨g, 0, none⟩) n c) l) (hl : l.length = n) (hn : n ≤ 1000000) :
    Calls Try.prog 24 #[.slice (some ⟨g, 0, none⟩) n c, .func (.func 19) #[] #[]] w fun e w' => e = .returned (.tuple #[]) ∧ w.grownBy w' (some g) ∧ RowG.Own encS TS w' B (.slice (some ⟨g, 0, none⟩) n c) (sortP l) := by
  have hglt : g < w.heap.size := (h.ge g rfl).2
  have hH := own_holds h
  have eg : ∀ args w, (callFunc 19 args).run Try.prog w = .ok (.enter 19 args) w := enters_of Try.func19 (by kernel_rfl) rfl
  have hcon := AnyQ.slices_SortFunc_total (P := Try.prog) sortL 3 isAggP sizeP encS.f encS.len encS.one cfP swoP 19 #[] g 0 c l.toArray w eg (cmpLaysP g 0 _ w) hH hglt (by simp; omega) totP
  rw [show l.toArray.size = n by simpa using hl] at hcon
  refine hcon.mono ?_
  rintro e w' ⟨rfl, m, os, rfl⟩
  exact ⟨rfl, grownBy_sortedK _, own_sortedK h (sortP_len l)⟩
theorem sortF_none {w : World} {A : Option Addr} {c : Nat} :
    Calls Try.prog 24 #[.slice A 0 c, .func (.func 19) #[] #[]] w fun e w' => e = .returned (.tuple #[]) ∧ w' = w :=
  AnyF.slices_SortFunc_none (P := Try.prog) (ρ := sortL_ren) { sortL with } A c (.func (.func 19) #[] #[]) w
/-- What was met, put in order, is what ticks. -/
theorem sorted_is {a b : An} {l : List V} (ha : Is64 a.1) (hb : Is64 b.1) (hl : l = pmet a b) : Ticks a b (sortP l) := by
  subst hl
  exact ⟨sortP_rises (pmet_nodup a b), fun s => by rw [sortP_mem, pmet_mem ha hb]⟩
end AncW
end Go.Proofs.Ytcmmfihhnmhhgaa
