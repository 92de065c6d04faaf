/-
  A heap's ticks put in order by index: slices.SortFunc by List's comparison.
-/
import Derived.Shelf.SlSortCmp.NoneTotal
import Derived.Test.YtlhanbjendbhfaaQueueLay
import Derived.Test.YtlhanbjendbhfaaQueueOps2
import Derived.Test.YtlhanbjendbhfaaPlaceWalks5
namespace Go.Proofs.Ytlhanbjendbhfaa
open Go.RowKit
set_option linter.unusedVariables false
set_option linter.unusedSimpArgs false
namespace QueW
open BlkP RowG FrS PushG HeapP ChunkW Go.Sort
/-- Nothing but draws and new blocks. -/
def Grw (w w' : World) : Prop := ∃ q os, w' = grow (w.drewN q) os
theorem Grw.refl (w : World) : Grw w w := ⟨0, #[], by rw [grow_empty]; rfl⟩
theorem Grw.alloc {w W : World} (h : Grw w W) (o : Obj) : Grw w (W.alloc o) := by
  obtain ⟨q, os, rfl⟩ := h
  exact ⟨q, os ++ #[o], by rw [alloc_eq_grow, grow_grow]⟩
theorem Grw.drew {w W : World} (h : Grw w W) : Grw w W.drew := by
  obtain ⟨q, os, rfl⟩ := h
  exact ⟨q + 1, os, rfl⟩
def cfT (a b : Tick) : Int := PlaceW.cmpI a.1 b.1
def ltT (a b : Tick) : Prop := a.1 < b.1
theorem cf_lt (a b : Tick) : cfT a b < 0 ↔ ltT a b := by
  unfold cfT ltT PlaceW.cmpI
  by_cases h1 : a.1 < b.1
  · simp [h1]
  · by_cases h2 : b.1 < a.1
    · simp [h1, h2]
    · simp [h1, h2]
theorem lt_true {a b : Tick} : ltOf cfT a b = true ↔ ltT a b := by
  unfold ltOf
  rw [decide_eq_true_eq]
  exact cf_lt a b
theorem lt_false {a b : Tick} : ltOf cfT a b = false ↔ ¬ ltT a b := by
  rw [← Bool.not_eq_true, lt_true]
theorem swoT : SWO (ltOf cfT) where
  irrefl x := by
    rw [lt_false]
    unfold ltT
    omega
  trans x y z h1 h2 := by
    rw [lt_true] at *
    unfold ltT at *
    omega
  ntrans x y z h1 h2 := by
    rw [lt_false] at *
    unfold ltT at *
    omega
set_option maxHeartbeats 1000000 in
theorem cmpT_c (x y u v : Int) (w : World) : Calls Try.prog 45 #[.agg #[.int .i64 x, .int .i64 y], .agg #[.int .i64 u, .int .i64 v]] w fun e w' => e = .returned (.int .i64 (PlaceW.cmpI x u)) ∧ Grw w w' := by
  go_enter Try.func45, Try.ntmps45
  go_wp2_with fail
  refine (PlaceW.compare_c rfl _).mono ?_
  rintro e w1 ⟨rfl, rfl⟩
  go_wp2_with fail
  go_ret
  exact ⟨rfl, ((Grw.refl _).alloc _).alloc _⟩
theorem flatK_list (l : List Tick) : (flatK encT.f 2 l.toArray).toList = flat encT l := by
  apply List.ext_getElem?
  intro j
  have hs : (flatK encT.f 2 l.toArray).size = l.length * 2 := by simp
  have hf : (flat encT l).length = l.length * 2 := flat_len l
  by_cases hj : j < l.length * 2
  · have hi : j / 2 < l.length := Nat.div_lt_of_lt_mul (by omega)
    have h1 := flat_get (e := encT) (l := l) (i := j / 2) (j := j % 2) (List.getElem?_eq_getElem hi) (Nat.mod_lt _ (by decide))
    have e : j / 2 * encT.k + j % 2 = j := by
      show j / 2 * 2 + j % 2 = j
      omega
    rw [e] at h1
    rw [h1, Array.getElem?_toList, Array.getElem?_eq_getElem (by omega)]
    have h2 := get_flatK encT.f 2 l.toArray j (by simpa using hj)
    rw [getElem!_pos _ j (by omega)] at h2
    rw [h2]
    have h3 : (l.toArray)[j / 2]! = l[j / 2] := by
      rw [getElem!_pos _ _ (by simpa using hi)]
      simp
    rw [h3]
    have h4 : j % 2 < (encT.f l[j / 2]).length := by
      rw [encT.len]
      exact Nat.mod_lt _ (by decide)
    rw [getElem!_pos (encT.f l[j / 2]) (j % 2) h4, List.getElem?_eq_getElem h4]
  · rw [List.getElem?_eq_none (l := (flatK encT.f 2 l.toArray).toList) (by rw [Array.length_toList, hs]; omega), List.getElem?_eq_none (l := flat encT l) (by rw [hf]; omega)]
section
variable {w : World} {B g n c : Nat} {l : List Tick}
theorem own_holds (h : RowG.Own encT TT w B (.slice (some ⟨g, 0, none⟩) n c) l) : HoldsK encT.f 2 w g 0 l.toArray := by
  intro j hj
  have hj' : j < l.length * 2 := by simpa using hj
  have hi : j / 2 < l.length := Nat.div_lt_of_lt_mul (by omega)
  refine ⟨?_, h.frozen _⟩
  have h4 : j % 2 < (encT.f l[j / 2]).length := by
    rw [encT.len]
    exact Nat.mod_lt _ (by decide)
  have h1 := h.cell (i := j / 2) (j := j % 2) (List.getElem?_eq_getElem hi) (List.getElem?_eq_getElem h4)
  have e : j / 2 * encT.k + j % 2 = j := by
    show j / 2 * 2 + j % 2 = j
    omega
  rw [e] at h1
  rw [Nat.zero_add, h1, get_flatK encT.f 2 l.toArray j (by simpa using hj')]
  have h3 : (l.toArray)[j / 2]! = l[j / 2] := by
    rw [getElem!_pos _ _ (by simpa using hi)]
    simp
  rw [h3, getElem!_pos (encT.f l[j / 2]) (j % 2) h4]
  rfl
theorem heap_sortedK {os : Array Obj} {cur : Array Value} {e : TypeId} {fr : Nat × Nat} {m : Nat} (d : Array Tick) (hb : w.heap[g]? = some (.cells cur e fr)) :
    (sortWorldK encT.f 2 w g 0 m d os).heap[g]? = some (.cells (putCells id 0 (flatK encT.f 2 d) cur) e fr) := by
  have hg : g < w.heap.size := (Array.getElem?_eq_some_iff.1 hb).1
  unfold sortWorldK putRowK
  rw [heap_grow_old _ _ (by simpa [putRow, mapBlock] using hg)]
  simp [putRow, mapBlock, Sort.ahead, Array.getElem?_modify, hb, onCells]
theorem grownBy_sortedK {os : Array Obj} {m : Nat} (d : Array Tick) : w.grownBy (sortWorldK encT.f 2 w g 0 m d os) (some g) := by
  refine ⟨rfl, rfl, rfl, by simp [sortWorldK, putRowK, grow, putRow, mapBlock], fun k hk hne => ?_⟩
  unfold sortWorldK putRowK
  rw [heap_grow_old _ _ (by simpa [putRow, mapBlock] using hk)]
  have : g ≠ k := fun e => hne (by rw [e])
  simp [putRow, mapBlock, Sort.ahead, Array.getElem?_modify, this]
theorem take_putK (cur : Array Value) (l : List Tick) (h : l.length * 2 ≤ cur.size) : (putCells id 0 (flatK encT.f 2 l.toArray) cur).toList.take (l.length * 2) = flat encT l := by
  have hf : (flat encT l).length = l.length * 2 := flat_len l
  apply List.ext_getElem?
  intro j
  by_cases hj : j < l.length * 2
  · rw [List.getElem?_take_of_lt hj, Array.getElem?_toList, ← flatK_list, Array.getElem?_toList]
    simp [putCells, hj, show j < cur.size by omega]
  · rw [List.getElem?_take_eq_none (by omega), List.getElem?_eq_none (by omega)]
theorem own_sortedK {os : Array Obj} {m : Nat} {l' : List Tick} (h : RowG.Own encT TT w B (.slice (some ⟨g, 0, none⟩) n c) l) (hl : l'.length = l.length) : RowG.Own encT TT (sortWorldK encT.f 2 w g 0 m l'.toArray os) B (.slice (some ⟨g, 0, none⟩) n c) l' := by
  unfold RowG.Own at h ⊢
  refine ⟨flat_len l', ?_⟩
  rcases h.2 with ⟨h0, _⟩ | ⟨g', cap, cur, h0, hB, hg, hn, hc, hs, ht⟩
  · cases h0
  · injection h0 with h0 h1 h2
    injection h0 with h0
    injection h0 with h0
    subst h0 h2
    refine .inr ⟨g, c, _, by rw [hl, ← h1], hB, heap_sortedK _ hg, by rw [hl]; exact hn, hc, by simpa [putCells] using hs, ?_⟩
    have hs' : cur.size = c * 2 := hs
    rw [hl, ← hl]
    exact take_putK cur l' (by rw [hl, hs']; exact Nat.mul_le_mul_right _ hn)
end
theorem sort_is {l L : List Tick} {d' : Array Tick} (hl : ∀ t, t ∈ l ↔ t ∈ L) (hn : l.Nodup) (hL : Good L) (hone : ∀ s t, s ∈ l → t ∈ l → s.1 = t.1 → s = t) (hp : PermIn 0 l.toArray.size l.toArray d') (hs : SortedIn (ltOf cfT) 0 l.toArray.size d') : d' = L.toArray := by
  obtain ⟨p1, _, p3⟩ := hp
  have e1 : d'.extract 0 l.toArray.size = d' := by
    rw [← p1]
    exact Array.extract_size
  have e2 : l.toArray.extract 0 l.toArray.size = l.toArray := Array.extract_size
  rw [e1, e2] at p3
  have p4 : d'.toList.Perm l := p3
  have p5 : l.Perm L := (List.perm_ext_iff_of_nodup hn (up_nd hL.1)).2 hl
  have hsl : d'.toList.length = l.length := p4.length_eq
  have key : d'.toList = L := List.Perm.eq_of_pairwise (le := fun a b => a.1 ≤ b.1) (fun a b ha hb h1 h2 => hone a b (p4.mem_iff.1 ha) ((hl b).2 hb) (by omega)) (List.pairwise_iff_getElem.2 (fun i j hi hj hij => by
    have := hs i j (Nat.zero_le _) hij (by simpa [hsl] using hj)
    rw [lt_false] at this
    unfold ltT at this
    rw [getElem!_pos _ _ (by simpa using hj), getElem!_pos _ _ (by simpa using hi)] at this
    simp only [Array.getElem_toList]
    omega)) ((up_nodup hL.1).imp (fun h => by omega)) (p4.trans p5)
  rw [← key]
theorem cmpLaysT (blk off size : Nat) (w : World) : CmpLays Try.prog 45 #[] encT.f 2 cfT blk off size w := fun m os dk _ x y => (cmpT_c x.1 x.2 y.1 y.2 _).mono (by
  rintro e w' ⟨rfl, h⟩
  exact ⟨rfl, h⟩)
theorem isAggT (w : World) : (isAgg TT).run Try.prog w = .ok true w := by kernel_rfl
theorem sizeT (w : World) : (Go.sizeOf TT).run Try.prog w = .ok 2 w := by kernel_rfl
/-- The row stands in order behind it. -/
theorem sort_c {w : World} {B g n c : Nat} {l L : List Tick} (h : RowG.Own encT TT w B (.slice (some ⟨g, 0, none⟩) n c) l) (hl : l.length = n) (hn : n ≤ 1000000) (hm : ∀ t, t ∈ l ↔ t ∈ L) (hnd : l.Nodup) (hL : Good L) (hone : ∀ s t, s ∈ l → t ∈ l → s.1 = t.1 → s = t) :
    Calls Try.prog 44 #[.slice (some ⟨g, 0, none⟩) n c, .func (.func 45) #[] #[]] w fun e w' => e = .returned (.tuple #[]) ∧ w.grownBy w' (some g) ∧ RowG.Own encT TT w' B (.slice (some ⟨g, 0, none⟩) n c) L := by
  have hglt : g < w.heap.size := (h.ge g rfl).2
  have hH := own_holds h
  have eg : ∀ args w, (callFunc 45 args).run Try.prog w = .ok (.enter 45 args) w := enters_of Try.func45 (by kernel_rfl) rfl
  have hsz : l.toArray.size = n := by simpa using hl
  have hlim : Go.Lib.bitLen n < 4611686018427387904 := Nat.lt_of_le_of_lt (Go.Lib.bitLen_le n 62 (by omega) (by omega)) (by omega)
  have hp := Go.Proofs.AnyQ.pdqsortCmpFunc_all (P := Try.prog) (ρ := sortT_ren) sortT 2 isAggT sizeT encT.f cfT 45 #[] swoT g 0 c l.toArray w eg (cmpLaysT g 0 _ w) ⟨encT.len, encT.one, hH, hglt⟩ (l.toArray.size + 1) 0 l.toArray.size (Go.Lib.bitLen l.toArray.size) l.toArray w (by omega) rfl (Go.Proofs.SWK.start hH) (Nat.zero_le _) (Nat.le_refl _) (by omega) (by rw [hsz]; exact hlim) (Or.inl rfl)
  rw [hsz] at hp
  have hb : Calls Try.prog 51 #[.int .u64 (n : Int)] w fun e w' => e = .returned (.int .i64 (Go.Lib.bitLen n : Nat)) ∧ w' = w := by
    have h := Go.Proofs.Any.bits_Len (Go.Proofs.SlLaysF0.n15.bits (P := Try.prog) (ρ := sortT_ren) { sortT with }) (n : Int) w (by omega) (by omega)
    rwa [Int.toNat_natCast] at h
  have wr : IntKind.u64.wrap (n : Int) = n := by simp [IntKind.wrap, IntKind.bits, IntKind.signed]; omega
  have hs := pdq_sorts (ltOf cfT) swoT l.toArray 0 l.toArray.size (Go.Lib.bitLen l.toArray.size) true true (Nat.zero_le _) (Nat.le_refl _) (Or.inl rfl)
  have hd := sort_is hm hnd hL hone hs.1 hs.2
  rw [hsz] at hd
  rw [hd] at hp
  have HB := Lib.hid hb
  have HP := Lib.hid hp
  have H := Lib.hid h
  have HLL := Lib.hid (show L.length = l.length from (((List.perm_ext_iff_of_nodup hnd (up_nd hL.1)).2 hm).length_eq).symm)
  have hnI : (n : Int) ≤ 1000000 := by omega
  clear h hb hp hs hd hH eg hlim hm hnd hL hone
  go_enter Try.func44, Try.ntmps44
  go_wp2_with fail
  refine HB.out.mono ?_
  rintro e w1 ⟨rfl, rfl⟩
  go_wp2_with fail
  refine HP.out.mono ?_
  rintro e w2 ⟨rfl, m, os, rfl⟩
  go_wp2_with fail
  go_end0
  exact ⟨rfl, grownBy_sortedK _, own_sortedK H.out HLL.out⟩
end QueW
end Go.Proofs.Ytlhanbjendbhfaa
