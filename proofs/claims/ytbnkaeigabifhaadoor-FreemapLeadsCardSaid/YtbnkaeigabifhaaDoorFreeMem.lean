/-
  A map's memory: the program's (its number, its words), the reference's (a bool a sector); what is only read.
-/
import Derived.Test.YtbnkaeigabifhaaDoorFreePlain
import Derived.Test.YtbnkaeigabifhaaDoorRowE
import Derived.Test.YtbnkaeigabifhaaDoorPushG
import Derived.Test.YtbnkaeigabifhaaDoorFrS
import Derived.Test.YtbnkaeigabifhaaDoorCrcSmall
-- mine: whole_c same_c awake_c take_c step_c back_c Made number_c next_c fixed_c clone_c int_c end_c put_c
namespace Go.Proofs.YtbnkaeigabifhaaDoor
open Go.RowKit
set_option linter.unusedVariables false
set_option linter.unusedSimpArgs false
set_option maxRecDepth 100000
namespace FreW
open BlkP RowG FrS PushG FreP
abbrev TM : TypeId := 54
abbrev TRM : TypeId := 58
abbrev TU : TypeId := 60
abbrev TUs : TypeId := 52
abbrev TB : TypeId := 4
abbrev TBs : TypeId := 56
abbrev TI : TypeId := 3
abbrev TIs : TypeId := 32
abbrev TS : TypeId := 9
abbrev TSs : TypeId := 43
def encU : Enc Nat := ⟨fun n => [.int .u64 (n : Int)], 1, fun _ => rfl, fun x v h => by
  simp only [List.mem_cons, List.not_mem_nil, or_false] at h
  subst h
  rfl⟩
def encB : Enc Bool := ⟨fun b => [.bool b], 1, fun _ => rfl, fun x v h => by
  simp only [List.mem_cons, List.not_mem_nil, or_false] at h
  subst h
  rfl⟩
def encS : Enc (List UInt8) := ⟨fun l => [.string ⟨l.toArray⟩], 1, fun _ => rfl, fun x v h => by
  simp only [List.mem_cons, List.not_mem_nil, or_false] at h
  subst h
  rfl⟩
theorem infoU : (Tryd.prog.info? TU).map (fun i => (i.zero, i.size, i.bytes)) = some (some (.int .u64 0), 1, 8) := by kernel_rfl
theorem infoB : (Tryd.prog.info? TB).map (fun i => (i.zero, i.size, i.bytes)) = some (some (.bool false), 1, 1) := by kernel_rfl
theorem infoI : (Tryd.prog.info? TI).map (fun i => (i.zero, i.size, i.bytes)) = some (some (.int .i64 0), 1, 8) := by kernel_rfl
theorem infoS : (Tryd.prog.info? TS).map (fun i => (i.zero, i.size, i.bytes)) = some (some (.string ⟨#[]⟩), 1, 16) := by kernel_rfl
theorem underUs : Tryd.prog.underlying TUs = some (.slice TU) := Tryd.underlying52
theorem underBs : Tryd.prog.underlying TBs = some (.slice TB) := Tryd.underlying56
theorem underIs : Tryd.prog.underlying TIs = some (.slice TI) := Tryd.underlying32
theorem underSs : Tryd.prog.underlying TSs = some (.slice TS) := Tryd.underlying43
/-- A map's parts: g the words' block. -/
structure MapP (w : World) (B p g c n : Nat) (L : List Bool) : Prop where
  bp : Blk w p TM [.int .i64 (n : Int), .slice (some ⟨g, 0, none⟩) (nw n) c]
  row : RowG.Own encU TU w B (.slice (some ⟨g, 0, none⟩) (nw n) c) (words L)
  len : L.length = n
  lo : 256 ≤ n
  hi : n ≤ 131072
  lp : B ≤ p
def Mp (w : World) (B p n : Nat) (L : List Bool) (S : Nat → Prop) : Prop := ∃ g c, MapP w B p g c n L ∧ ∀ k, S k ↔ (k = p ∨ k = g)
def Turned (w : World) (B p n : Nat) (S : Nat → Prop) (L' : List Bool) (w' : World) : Prop := Mp w' B p n L' S ∧ Fr S w w'
def Made (w : World) (p n : Nat) (L : List Bool) (w' : World) : Prop := ∃ S, Mp w' w.heap.size p n L S ∧ Below w.heap.size w w'
theorem own_g {g k n c : Nat} (h : (Value.slice (some ⟨g, 0, none⟩) n c).ownBlock = some k) : k = g := by
  have : g = k := by simpa [Value.ownBlock] using h
  exact this.symm
theorem blk_ne {w : World} {a b : Nat} {T T' : TypeId} {us vs : List Value} (ha : Blk w a T us) (hb : Blk w b T' vs) (ht : T ≠ T') : a ≠ b := fun e => by
  subst e
  unfold Blk at ha hb
  rw [ha] at hb
  injection hb with hb
  injection hb with _ h2
  exact ht h2
section
variable {w w' : World} {B p g c n : Nat} {L : List Bool} {S T : Nat → Prop}
theorem MapP.gb (h : MapP w B p g c n L) : B ≤ g ∧ g < w.heap.size := h.row.ge g rfl
theorem MapP.ne (h : MapP w B p g c n L) : p ≠ g := by
  obtain ⟨us, hu⟩ := own_cells h.row (g := g) rfl
  exact blk_ne h.bp hu (by decide)
theorem MapP.fr (h : MapP w B p g c n L) (hf : Fr T w w') (hd : ∀ k, (k = p ∨ k = g) → ¬ T k) : MapP w' B p g c n L :=
  ⟨hf.blk h.bp (hd _ (.inl rfl)), hf.own h.row (fun k hk => hd _ (.inr (own_g hk))), h.len, h.lo, h.hi, h.lp⟩
theorem MapP.ge (h : MapP w B p g c n L) {k : Nat} (hk : k = p ∨ k = g) : B ≤ k ∧ k < w.heap.size := by
  rcases hk with rfl | rfl
  · exact ⟨h.lp, h.bp.lt⟩
  · exact h.gb
theorem MapP.word (h : MapP w B p g c n L) {j : Nat} (hj : j < nw n) : w.cell? ⟨g, j, none⟩ = some (.int .u64 (wd L j : Int)) := by
  have := h.row.cell (i := j) (j := 0) (x := wd L j) (u := .int .u64 (wd L j : Int)) (words_at (by rw [h.len]; exact hj)) rfl
  simpa [encU] using this
theorem Mp.len (h : Mp w B p n L S) : L.length = n := by
  obtain ⟨g, c, h1, _⟩ := h
  exact h1.len
theorem Mp.lo (h : Mp w B p n L S) : 256 ≤ n := by
  obtain ⟨g, c, h1, _⟩ := h
  exact h1.lo
theorem Mp.hi (h : Mp w B p n L S) : n ≤ 131072 := by
  obtain ⟨g, c, h1, _⟩ := h
  exact h1.hi
theorem Mp.mono {B' : Nat} (h : Mp w B p n L S) (hB : B' ≤ B) : Mp w B' p n L S := by
  obtain ⟨g, c, h1, h2⟩ := h
  exact ⟨g, c, ⟨h1.bp, h1.row.mono hB, h1.len, h1.lo, h1.hi, Nat.le_trans hB h1.lp⟩, h2⟩
theorem Mp.fr (h : Mp w B p n L S) (hf : Fr T w w') (hd : ∀ k, S k → ¬ T k) : Mp w' B p n L S := by
  obtain ⟨g, c, h1, h2⟩ := h
  exact ⟨g, c, h1.fr hf (fun k hk => hd k ((h2 k).2 hk)), h2⟩
theorem Mp.below (h : Mp w B p n L S) (hb : Below w.heap.size w w') : Mp w' B p n L S := h.fr (Fr.below (fun _ => False) hb) (fun _ _ q => q)
theorem Mp.ge (h : Mp w B p n L S) {k : Nat} (hk : S k) : B ≤ k ∧ k < w.heap.size := by
  obtain ⟨g, c, h1, h2⟩ := h
  exact h1.ge ((h2 k).1 hk)
theorem Mp.at (h : Mp w B p n L S) : S p := by
  obtain ⟨g, c, h1, h2⟩ := h
  exact (h2 p).2 (.inl rfl)
theorem Mp.lt (h : Mp w B p n L S) : p < w.heap.size := (h.ge h.at).2
theorem Mp.toBelow (h : Mp w B p n L S) (hf : Fr S w w') : Below B w w' := hf.toBelow (by have := h.ge h.at; omega) (fun k hk => (h.ge hk).1)
theorem Turned.same (h : Mp w B p n L S) (hb : Below w.heap.size w w') : Turned w B p n S L w' := ⟨h.below hb, Fr.below _ hb⟩
/-- Two maps apart: what is done to the one leaves the other apart. -/
theorem apart_turned {S' : Nat → Prop} (hT : ∀ k, T k → k < w.heap.size) (hd : ∀ k, T k → ¬ S k) (hn : ∀ k, S' k → S k ∨ w.heap.size ≤ k) : ∀ k, T k → ¬ S' k := fun k ht hs => by
  rcases hn k hs with q | q
  · exact hd k ht q
  · have := hT k ht
    omega
theorem apart_new (hT : ∀ k, T k → k < w.heap.size) (hS : ∀ k, S k → w.heap.size ≤ k) : ∀ k, T k → ¬ S k := fun k ht hs => by
  have := hT k ht
  have := hS k hs
  omega
end
theorem made_of {w W : World} {p g c n : Nat} {L : List Bool} (hb : Below w.heap.size w W) (h1 : Blk W p TM [.int .i64 (n : Int), .slice (some ⟨g, 0, none⟩) (nw n) c]) (ho : RowG.Own encU TU W w.heap.size (.slice (some ⟨g, 0, none⟩) (nw n) c) (words L)) (hl : L.length = n) (lo : 256 ≤ n) (hi : n ≤ 131072) (lp : w.heap.size ≤ p) : Made w p n L W :=
  ⟨fun k => k = p ∨ k = g, ⟨g, c, ⟨h1, ho, hl, lo, hi, lp⟩, fun k => Iff.rfl⟩, hb⟩
/-- The reference's map. -/
structure RMP (w : World) (B p g c n : Nat) (L : List Bool) : Prop where
  bp : Blk w p TRM [.slice (some ⟨g, 0, none⟩) n c]
  row : RowG.Own encB TB w B (.slice (some ⟨g, 0, none⟩) n c) L
  len : L.length = n
  lo : 256 ≤ n
  hi : n ≤ 131072
  lp : B ≤ p
def Rm (w : World) (B p n : Nat) (L : List Bool) (S : Nat → Prop) : Prop := ∃ g c, RMP w B p g c n L ∧ ∀ k, S k ↔ (k = p ∨ k = g)
def RTurned (w : World) (B p n : Nat) (S : Nat → Prop) (L' : List Bool) (w' : World) : Prop := ∃ S', Rm w' B p n L' S' ∧ Fr S w w' ∧ ∀ k, S' k → S k ∨ w.heap.size ≤ k
def RMade (w : World) (p n : Nat) (L : List Bool) (w' : World) : Prop := ∃ S, Rm w' w.heap.size p n L S ∧ Below w.heap.size w w'
section
variable {w w' : World} {B p g c n : Nat} {L : List Bool} {S T : Nat → Prop}
theorem RMP.gb (h : RMP w B p g c n L) : B ≤ g ∧ g < w.heap.size := h.row.ge g rfl
theorem RMP.ne (h : RMP w B p g c n L) : p ≠ g := by
  obtain ⟨us, hu⟩ := own_cells h.row (g := g) rfl
  exact blk_ne h.bp hu (by decide)
theorem RMP.fr (h : RMP w B p g c n L) (hf : Fr T w w') (hd : ∀ k, (k = p ∨ k = g) → ¬ T k) : RMP w' B p g c n L :=
  ⟨hf.blk h.bp (hd _ (.inl rfl)), hf.own h.row (fun k hk => hd _ (.inr (own_g hk))), h.len, h.lo, h.hi, h.lp⟩
theorem RMP.ge (h : RMP w B p g c n L) {k : Nat} (hk : k = p ∨ k = g) : B ≤ k ∧ k < w.heap.size := by
  rcases hk with rfl | rfl
  · exact ⟨h.lp, h.bp.lt⟩
  · exact h.gb
theorem RMP.bit (h : RMP w B p g c n L) {j : Nat} (hj : j < n) : w.cell? ⟨g, j, none⟩ = some (.bool (has L j)) := by
  have := h.row.cell (i := j) (j := 0) (x := has L j) (u := .bool (has L j)) (has_lt (by rw [h.len]; exact hj)) rfl
  simpa [encB] using this
theorem Rm.len (h : Rm w B p n L S) : L.length = n := by
  obtain ⟨g, c, h1, _⟩ := h
  exact h1.len
theorem Rm.lo (h : Rm w B p n L S) : 256 ≤ n := by
  obtain ⟨g, c, h1, _⟩ := h
  exact h1.lo
theorem Rm.hi (h : Rm w B p n L S) : n ≤ 131072 := by
  obtain ⟨g, c, h1, _⟩ := h
  exact h1.hi
theorem Rm.mono {B' : Nat} (h : Rm w B p n L S) (hB : B' ≤ B) : Rm w B' p n L S := by
  obtain ⟨g, c, h1, h2⟩ := h
  exact ⟨g, c, ⟨h1.bp, h1.row.mono hB, h1.len, h1.lo, h1.hi, Nat.le_trans hB h1.lp⟩, h2⟩
theorem Rm.fr (h : Rm w B p n L S) (hf : Fr T w w') (hd : ∀ k, S k → ¬ T k) : Rm w' B p n L S := by
  obtain ⟨g, c, h1, h2⟩ := h
  exact ⟨g, c, h1.fr hf (fun k hk => hd k ((h2 k).2 hk)), h2⟩
theorem Rm.below (h : Rm w B p n L S) (hb : Below w.heap.size w w') : Rm w' B p n L S := h.fr (Fr.below (fun _ => False) hb) (fun _ _ q => q)
theorem Rm.ge (h : Rm w B p n L S) {k : Nat} (hk : S k) : B ≤ k ∧ k < w.heap.size := by
  obtain ⟨g, c, h1, h2⟩ := h
  exact h1.ge ((h2 k).1 hk)
theorem Rm.at (h : Rm w B p n L S) : S p := by
  obtain ⟨g, c, h1, h2⟩ := h
  exact (h2 p).2 (.inl rfl)
theorem Rm.lt (h : Rm w B p n L S) : p < w.heap.size := (h.ge h.at).2
theorem Rm.toBelow (h : Rm w B p n L S) (hf : Fr S w w') : Below B w w' := hf.toBelow (by have := h.ge h.at; omega) (fun k hk => (h.ge hk).1)
theorem RTurned.same (h : Rm w B p n L S) (hb : Below w.heap.size w w') : RTurned w B p n S L w' := ⟨S, h.below hb, Fr.below _ hb, fun _ hk => .inl hk⟩
end
theorem rmade_of {w W : World} {p g c n : Nat} {L : List Bool} (hb : Below w.heap.size w W) (h1 : Blk W p TRM [.slice (some ⟨g, 0, none⟩) n c]) (ho : RowG.Own encB TB W w.heap.size (.slice (some ⟨g, 0, none⟩) n c) L) (hl : L.length = n) (lo : 256 ≤ n) (hi : n ≤ 131072) (lp : w.heap.size ≤ p) : RMade w p n L W :=
  ⟨fun k => k = p ∨ k = g, ⟨g, c, ⟨h1, ho, hl, lo, hi, lp⟩, fun k => Iff.rfl⟩, hb⟩
/-! ### Rows of numbers that are only read -/
/-- A slice of just these numbers, that lies outside S. -/
structure Ints (w : World) (S : Nat → Prop) (A : Option Addr) (n c : Nat) (l : List Int) : Prop where
  len : l.length = n
  cap : n ≤ c
  max : c ≤ 9223372036854775807
  at_ : 0 < n → ∃ b o, A = some ⟨b, o, none⟩ ∧ b < w.heap.size ∧ ¬ S b ∧ ∀ i x, l[i]? = some x → w.cell? ⟨b, o + i, none⟩ = some (.int .i64 x)
section
variable {w w' : World} {S T : Nat → Prop} {A : Option Addr} {n c : Nat} {l : List Int}
theorem Ints.fr (h : Ints w S A n c l) (hf : Fr S w w') : Ints w' S A n c l := ⟨h.len, h.cap, h.max, fun q => by
  obtain ⟨b, o, h1, h2, h3, h4⟩ := h.at_ q
  exact ⟨b, o, h1, Nat.lt_of_lt_of_le h2 hf.size, h3, fun i x hx => (hf.cell (p := ⟨b, o + i, none⟩) h2 h3).trans (h4 i x hx)⟩⟩
theorem Ints.fr2 (h : Ints w S A n c l) (hf : Fr T w w') (hST : ∀ k, k < w.heap.size → T k → S k) : Ints w' S A n c l := ⟨h.len, h.cap, h.max, fun q => by
  obtain ⟨b, o, h1, h2, h3, h4⟩ := h.at_ q
  exact ⟨b, o, h1, Nat.lt_of_lt_of_le h2 hf.size, h3, fun i x hx => (hf.cell (p := ⟨b, o + i, none⟩) h2 (fun t => h3 (hST b h2 t))).trans (h4 i x hx)⟩⟩
theorem Ints.below (h : Ints w S A n c l) (hb : Below w.heap.size w w') : Ints w' S A n c l := h.fr (Fr.below S hb)
theorem Ints.sub (h : Ints w S A n c l) {lo hi : Nat} (h1 : lo ≤ hi) (h2 : hi ≤ n) : Ints w S (if c - lo = 0 then A else A.map (·.add (lo * 1))) (hi - lo) (c - lo) ((l.take hi).drop lo) := ⟨by simp [h.len]; omega, by have := h.cap; omega, by have := h.max; omega, fun q => by
  obtain ⟨b, o, rfl, h4, h5, h6⟩ := h.at_ (by omega)
  have := h.cap
  have hadd : (⟨b, o, none⟩ : Addr).add (lo * 1) = ⟨b, o + lo, none⟩ := by rw [Nat.mul_one]; unfold Addr.add; split <;> simp_all
  refine ⟨b, o + lo, by rw [if_neg (by omega), Option.map_some, hadd], h4, h5, fun i x hx => ?_⟩
  rw [List.getElem?_drop, List.getElem?_take] at hx
  split at hx
  · rw [Nat.add_assoc]
    exact h6 _ _ hx
  · cases hx⟩
theorem Ints.upto (h : Ints w S A n c l) {k : Nat} (hk : k ≤ n) : Ints w S A k c (l.take k) := ⟨by simp [h.len]; omega, by have := h.cap; omega, h.max, fun q => by
  obtain ⟨b, o, h1, h2, h3, h4⟩ := h.at_ (by omega)
  refine ⟨b, o, h1, h2, h3, fun i x hx => h4 i x ?_⟩
  rw [List.getElem?_take] at hx
  split at hx
  · exact hx
  · cases hx⟩
theorem Ints.one {b o : Nat} (h : Ints w S (some ⟨b, o, none⟩) n c l) {k : Nat} {x : Int} (hk : k < n) (hx : l[k]? = some x) : Ints w S (some ⟨b, o + k, none⟩) 1 (c - k) [x] := ⟨rfl, by have := h.cap; omega, by have := h.max; omega, fun q => by
  obtain ⟨b', o', h1, h2, h3, h4⟩ := h.at_ (by omega)
  injection h1 with h1
  injection h1 with h1 h5
  subst h1 h5
  refine ⟨b, o + k, rfl, h2, h3, fun i y hy => ?_⟩
  have hi := (List.getElem?_eq_some_iff.1 hy).1
  obtain rfl : i = 0 := by simp at hi; omega
  have : x = y := by simpa using hy
  subst this
  exact h4 k x hx⟩
theorem Ints.of_rd (h : Rd RowG.encI w (.slice A n c) l) (hn : l.length = n) (hd : 0 < n → ∀ b o, A = some ⟨b, o, none⟩ → b < w.heap.size → ¬ S b) : Ints w S A n c l := by
  obtain ⟨A', c', he, h1, h2, h3⟩ := h
  injection he with e1 e2 e3
  subst e1 e3
  refine ⟨hn, by omega, h2, fun q => ?_⟩
  obtain ⟨b, o, rfl, hlt, hc⟩ := h3 (fun e => by rw [e] at hn; simp at hn; omega)
  refine ⟨b, o, rfl, hlt, hd q b o rfl hlt, fun i x hx => ?_⟩
  have := hc i x hx 0 (.int .i64 x) rfl
  rwa [show o + i * RowG.encI.k + 0 = o + i from by have : RowG.encI.k = 1 := rfl; rw [this]; omega] at this
end
end FreW
end Go.Proofs.YtbnkaeigabifhaaDoor
