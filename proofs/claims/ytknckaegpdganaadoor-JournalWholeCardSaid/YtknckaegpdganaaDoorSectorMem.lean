/-
  A disk's memory: the program's, with its map and its log; the reference's, with all its writes.
-/
import Derived.Test.YtknckaegpdganaaDoorSectorDat
import Derived.Test.YtknckaegpdganaaDoorRowE
import Derived.Test.YtknckaegpdganaaDoorPushG
-- mine: whole_c same_c awake_c take_c step_c back_c
namespace Go.Proofs.YtknckaegpdganaaDoor
open Go.RowKit
set_option linter.unusedVariables false
set_option linter.unusedSimpArgs false
set_option maxRecDepth 100000
namespace SecW
open BlkP RowG FrS PushG JournalP SecP
abbrev TD : TypeId := 42
abbrev TMd : TypeId := 77
abbrev TW : TypeId := 81
abbrev TWs : TypeId := 75
abbrev TA : TypeId := 39
abbrev TAs : TypeId := 22
abbrev TRD : TypeId := 83
/-- A write that is told. -/
def encA : Enc (Nat × Sec) := ⟨fun q => [.int .i64 (q.1 : Int), .string (str q.2)], 2, fun _ => rfl, fun x v h => by
  simp only [List.mem_cons, List.not_mem_nil, or_false] at h
  rcases h with rfl | rfl <;> rfl⟩
/-- A write, and what was there ahead of it. -/
def encW : Enc (Nat × Sec × Sec) := ⟨fun q => [.int .i64 (q.1 : Int), .string (str q.2.1), .string (str q.2.2)], 3, fun _ => rfl, fun x v h => by
  simp only [List.mem_cons, List.not_mem_nil, or_false] at h
  rcases h with rfl | rfl | rfl <;> rfl⟩
theorem infoA : (Tryd.prog.info? TA).map (fun i => (i.zero, i.size, i.bytes)) = some (some (.agg #[.int .i64 0, .string ⟨#[]⟩]), 2, 24) := by kernel_rfl
theorem infoW : (Tryd.prog.info? TW).map (fun i => (i.zero, i.size, i.bytes)) = some (some (.agg #[.int .i64 0, .string ⟨#[]⟩, .string ⟨#[]⟩]), 3, 40) := by kernel_rfl
theorem underAs : Tryd.prog.underlying TAs = some (.slice TA) := Tryd.underlying22
theorem underWs : Tryd.prog.underlying TWs = some (.slice TW) := Tryd.underlying75
theorem tyA : RowE.Ty encA TAs TA 24 := ⟨underAs, ⟨_, infoA, rfl⟩, by decide⟩
theorem tyW : RowE.Ty encW TWs TW 40 := ⟨underWs, ⟨_, infoW, rfl⟩, by decide⟩
/-- A disk's parts. -/
structure DskP (w : World) (B pd pm M : Nat) (v : Value) (d : Dk) : Prop where
  bd : Blk w pd TD [.pointer (some ⟨pm, 0, none⟩)]
  bm : Blk w pm TMd [.int .i64 (d.n : Int), .map (some M), v]
  map : MapD w M d.n d.now
  log : RowG.Own encW TW w B v (logW d.base d.ws)
  ok : Ok d
  ld : B ≤ pd
  lm : B ≤ pm
  lM : B ≤ M
def Sp (pd pm M : Nat) (v : Value) (k : Nat) : Prop := k = pd ∨ k = pm ∨ k = M ∨ v.ownBlock = some k
/-- A disk d at pd, whose blocks are those of S. -/
def Dsk (w : World) (B pd : Nat) (d : Dk) (S : Nat → Prop) : Prop := ∃ pm M v, DskP w B pd pm M v d ∧ ∀ k, S k ↔ Sp pd pm M v k
/-- A disk that has turned. -/
def Turned (w : World) (B pd : Nat) (S : Nat → Prop) (d' : Dk) (w' : World) : Prop := ∃ S', Dsk w' B pd d' S' ∧ Fr S w w' ∧ ∀ k, S' k → S k ∨ w.heap.size ≤ k
/-- A disk that the call has made. -/
def Made (w : World) (pd : Nat) (d : Dk) (w' : World) : Prop := ∃ S, Dsk w' w.heap.size pd d S ∧ Below w.heap.size w w'
section
variable {w w' w'' : World} {B pd pm M : Nat} {v : Value} {d d' : Dk} {S T : Nat → Prop}
theorem DskP.fr (h : DskP w B pd pm M v d) (hf : Fr T w w') (hd : ∀ k, Sp pd pm M v k → ¬ T k) : DskP w' B pd pm M v d :=
  ⟨hf.blk h.bd (hd _ (.inl rfl)), hf.blk h.bm (hd _ (.inr (.inl rfl))), h.map.fr hf (hd _ (.inr (.inr (.inl rfl)))), hf.own h.log (fun g hg => hd _ (.inr (.inr (.inr hg)))), h.ok, h.ld, h.lm, h.lM⟩
theorem DskP.ge (h : DskP w B pd pm M v d) {k : Nat} (hk : Sp pd pm M v k) : B ≤ k ∧ k < w.heap.size := by
  rcases hk with rfl | rfl | rfl | q
  · exact ⟨h.ld, h.bd.lt⟩
  · exact ⟨h.lm, h.bm.lt⟩
  · exact ⟨h.lM, h.map.lt⟩
  · exact h.log.ge k q
theorem blk_ne {a b : Nat} {T T' : TypeId} {us vs : List Value} (ha : Blk w a T us) (hb : Blk w b T' vs) (ht : T ≠ T') : a ≠ b := fun e => by
  subst e
  unfold Blk at ha hb
  rw [ha] at hb
  injection hb with hb
  injection hb with _ h2
  exact ht h2
theorem DskP.pdm (h : DskP w B pd pm M v d) : pd ≠ pm := blk_ne h.bd h.bm (by decide)
theorem DskP.pdM (h : DskP w B pd pm M v d) : pd ≠ M := h.map.blk h.bd
theorem DskP.pmM (h : DskP w B pd pm M v d) : pm ≠ M := h.map.blk h.bm
theorem DskP.pdv (h : DskP w B pd pm M v d) : v.ownBlock ≠ some pd := fun q => by
  obtain ⟨us, hu⟩ := own_cells h.log q
  exact blk_ne h.bd hu (by decide) rfl
theorem DskP.pmv (h : DskP w B pd pm M v d) : v.ownBlock ≠ some pm := fun q => by
  obtain ⟨us, hu⟩ := own_cells h.log q
  exact blk_ne h.bm hu (by decide) rfl
theorem DskP.Mv (h : DskP w B pd pm M v d) : v.ownBlock ≠ some M := h.map.own h.log
theorem DskP.mono {B' : Nat} (h : DskP w B pd pm M v d) (hB : B' ≤ B) : DskP w B' pd pm M v d :=
  ⟨h.bd, h.bm, h.map, h.log.mono hB, h.ok, Nat.le_trans hB h.ld, Nat.le_trans hB h.lm, Nat.le_trans hB h.lM⟩
theorem Dsk.mono {B' : Nat} (h : Dsk w B pd d S) (hB : B' ≤ B) : Dsk w B' pd d S := by
  obtain ⟨pm, M, v, h1, h2⟩ := h
  exact ⟨pm, M, v, h1.mono hB, h2⟩
theorem Dsk.ok (h : Dsk w B pd d S) : Ok d := by
  obtain ⟨pm, M, v, h1, _⟩ := h
  exact h1.ok
theorem Dsk.fr (h : Dsk w B pd d S) (hf : Fr T w w') (hd : ∀ k, S k → ¬ T k) : Dsk w' B pd d S := by
  obtain ⟨pm, M, v, h1, h2⟩ := h
  exact ⟨pm, M, v, h1.fr hf (fun k hk => hd k ((h2 k).2 hk)), h2⟩
theorem Dsk.below (h : Dsk w B pd d S) (hb : Below w.heap.size w w') : Dsk w' B pd d S := h.fr (Fr.below (fun _ => False) hb) (fun _ _ q => q)
theorem Dsk.ge (h : Dsk w B pd d S) {k : Nat} (hk : S k) : B ≤ k ∧ k < w.heap.size := by
  obtain ⟨pm, M, v, h1, h2⟩ := h
  exact h1.ge ((h2 k).1 hk)
theorem Dsk.at (h : Dsk w B pd d S) : S pd := by
  obtain ⟨pm, M, v, h1, h2⟩ := h
  exact (h2 pd).2 (.inl rfl)
theorem Dsk.lt (h : Dsk w B pd d S) : pd < w.heap.size := (h.ge h.at).2
theorem Dsk.toBelow (h : Dsk w B pd d S) (hf : Fr S w w') : Below B w w' := hf.toBelow (by have := h.ge h.at; omega) (fun k hk => (h.ge hk).1)
theorem Turned.same (h : Dsk w B pd d S) (hb : Below w.heap.size w w') : Turned w B pd S d w' := ⟨S, h.below hb, Fr.below _ hb, fun _ hk => .inl hk⟩
/-- Two disks apart: what is done to the one leaves the other apart. -/
theorem apart_turned {S' : Nat → Prop} (hT : ∀ k, T k → k < w.heap.size) (hd : ∀ k, T k → ¬ S k) (hn : ∀ k, S' k → S k ∨ w.heap.size ≤ k) : ∀ k, T k → ¬ S' k := fun k ht hs => by
  rcases hn k hs with q | q
  · exact hd k ht q
  · have := hT k ht
    omega
theorem apart_new (hT : ∀ k, T k → k < w.heap.size) (hS : ∀ k, S k → w.heap.size ≤ k) : ∀ k, T k → ¬ S k := fun k ht hs => by
  have := hT k ht
  have := hS k hs
  omega
end
theorem made_of {w W : World} {p pm M : Nat} {v : Value} {d : Dk} (hb : Below w.heap.size w W) (h1 : Blk W p TD [.pointer (some ⟨pm, 0, none⟩)]) (h2 : Blk W pm TMd [.int .i64 (d.n : Int), .map (some M), v]) (hm : MapD W M d.n d.now) (ho : RowG.Own encW TW W w.heap.size v (logW d.base d.ws)) (hk : Ok d) (l1 : w.heap.size ≤ p) (l2 : w.heap.size ≤ pm) (l3 : w.heap.size ≤ M) : Made w p d W :=
  ⟨fun k => Sp p pm M v k, ⟨pm, M, v, ⟨h1, h2, hm, ho, hk, l1, l2, l3⟩, fun k => Iff.rfl⟩, hb⟩
/-- The reference's disk. -/
structure RD (w : World) (B pq : Nat) (v : Value) (A : List (Nat × Sec)) (kept m : Nat) (d : Dk) : Prop where
  bq : Blk w pq TRD [.int .i64 (d.n : Int), v, .int .i64 (kept : Int)]
  row : RowG.Own encA TA w B v A
  hk : kept ≤ A.length
  is : ofAll d.n A kept = d
  ok : Ok d
  all : ∀ x ∈ A, x.1 < d.n ∧ x.2.length = 512
  len : A.length ≤ m
  lq : B ≤ pq
def Rsk (w : World) (B pq m : Nat) (d : Dk) (S : Nat → Prop) : Prop := ∃ v A kept, RD w B pq v A kept m d ∧ ∀ k, S k ↔ (k = pq ∨ v.ownBlock = some k)
def RTurned (w : World) (B pq m : Nat) (S : Nat → Prop) (d' : Dk) (w' : World) : Prop := ∃ S', Rsk w' B pq m d' S' ∧ Fr S w w' ∧ ∀ k, S' k → S k ∨ w.heap.size ≤ k
def RMade (w : World) (pq m : Nat) (d : Dk) (w' : World) : Prop := ∃ S, Rsk w' w.heap.size pq m d S ∧ Below w.heap.size w w'
section
variable {w w' w'' : World} {B pq m kept : Nat} {v : Value} {A : List (Nat × Sec)} {d d' : Dk} {S T : Nat → Prop}
theorem RD.now (h : RD w B pq v A kept m d) : d.now = app zero A := by
  have := all_now d.n A kept
  rw [h.is] at this
  exact this
theorem RD.ws (h : RD w B pq v A kept m d) : d.ws = A.drop kept := by
  have : (ofAll d.n A kept).ws = A.drop kept := rfl
  rw [h.is] at this
  exact this
theorem RD.fr (h : RD w B pq v A kept m d) (hf : Fr T w w') (hd : ∀ k, (k = pq ∨ v.ownBlock = some k) → ¬ T k) : RD w' B pq v A kept m d :=
  ⟨hf.blk h.bq (hd _ (.inl rfl)), hf.own h.row (fun g hg => hd _ (.inr hg)), h.hk, h.is, h.ok, h.all, h.len, h.lq⟩
theorem RD.pqv (h : RD w B pq v A kept m d) : v.ownBlock ≠ some pq := fun q => by
  obtain ⟨us, hu⟩ := own_cells h.row q
  exact blk_ne h.bq hu (by decide) rfl
theorem RD.ge (h : RD w B pq v A kept m d) {k : Nat} (hk : k = pq ∨ v.ownBlock = some k) : B ≤ k ∧ k < w.heap.size := by
  rcases hk with rfl | q
  · exact ⟨h.lq, h.bq.lt⟩
  · exact h.row.ge k q
theorem Rsk.mono {B' m' : Nat} (h : Rsk w B pq m d S) (hB : B' ≤ B) (hm : m ≤ m') : Rsk w B' pq m' d S := by
  obtain ⟨v, A, kept, h1, h2⟩ := h
  exact ⟨v, A, kept, ⟨h1.bq, h1.row.mono hB, h1.hk, h1.is, h1.ok, h1.all, Nat.le_trans h1.len hm, Nat.le_trans hB h1.lq⟩, h2⟩
theorem Rsk.ok (h : Rsk w B pq m d S) : Ok d := by
  obtain ⟨v, A, kept, h1, _⟩ := h
  exact h1.ok
theorem Rsk.fr (h : Rsk w B pq m d S) (hf : Fr T w w') (hd : ∀ k, S k → ¬ T k) : Rsk w' B pq m d S := by
  obtain ⟨v, A, kept, h1, h2⟩ := h
  exact ⟨v, A, kept, h1.fr hf (fun k hk => hd k ((h2 k).2 hk)), h2⟩
theorem Rsk.below (h : Rsk w B pq m d S) (hb : Below w.heap.size w w') : Rsk w' B pq m d S := h.fr (Fr.below (fun _ => False) hb) (fun _ _ q => q)
theorem Rsk.ge (h : Rsk w B pq m d S) {k : Nat} (hk : S k) : B ≤ k ∧ k < w.heap.size := by
  obtain ⟨v, A, kept, h1, h2⟩ := h
  exact h1.ge ((h2 k).1 hk)
theorem Rsk.at (h : Rsk w B pq m d S) : S pq := by
  obtain ⟨v, A, kept, h1, h2⟩ := h
  exact (h2 pq).2 (.inl rfl)
theorem Rsk.lt (h : Rsk w B pq m d S) : pq < w.heap.size := (h.ge h.at).2
theorem Rsk.toBelow (h : Rsk w B pq m d S) (hf : Fr S w w') : Below B w w' := hf.toBelow (by have := h.ge h.at; omega) (fun k hk => (h.ge hk).1)
theorem Rsk.len (h : Rsk w B pq m d S) : d.ws.length ≤ m := by
  obtain ⟨v, A, kept, h1, _⟩ := h
  rw [h1.ws, List.length_drop]
  have := h1.len
  omega
theorem RTurned.same (h : Rsk w B pq m d S) (hb : Below w.heap.size w w') : RTurned w B pq m S d w' := ⟨S, h.below hb, Fr.below _ hb, fun _ hk => .inl hk⟩
end
end SecW
end Go.Proofs.YtknckaegpdganaaDoor
