/-
  glow.spread: its memory, and the marks that its ranges over a function leave.
-/
import Derived.Test.YtbkadecfmjjadaaDoorGlowIter
import Derived.Test.YtbkadecfmjjadaaDoorGlowStep
import Derived.Test.YtbkadecfmjjadaaDoorRoundR
namespace Go.Proofs.YtbkadecfmjjadaaDoor
open Go.RowKit Go.Shelf
set_option linter.unusedVariables false
set_option linter.unusedSimpArgs false
namespace GlowW
open BlkP RowG

def mark (D : Nat) : Deferred := { target := .collected D, args := #[] }
/-- The blocks of deferred calls that the ranges have laid: of none more than once, all empty. -/
structure Marks (B : Nat) (Ds : List Nat) (W : World) : Prop where
  nodup : Ds.Nodup
  at_ : ∀ D ∈ Ds, B ≤ D ∧ D < W.heap.size ∧ W.heap[D]? = some (.deferred (some []))
theorem Marks.nil (B : Nat) (W : World) : Marks B [] W := ⟨List.nodup_nil, fun D h => by cases h⟩
theorem Marks.keeps {B : Nat} {Ds : List Nat} {W W' : World} (h : Marks B Ds W) (k : KeepsOthers W W') : Marks B Ds W' :=
  ⟨h.nodup, fun D hD => ⟨(h.at_ D hD).1, Nat.lt_of_lt_of_le (h.at_ D hD).2.1 k.size, k.same D _ (h.at_ D hD).2.2 rfl⟩⟩
theorem Marks.turned {B M : Nat} {Ds : List Nat} {W W' : World} {row : Option Nat} (h : Marks B Ds W) (hM : ∀ D ∈ Ds, D < M) (hg : W.grownBy W' row) (hr : ∀ r, row = some r → M ≤ r ∧ ∃ o : Obj, W.heap[r]? = some o ∧ o.isCells = false) : Marks B Ds W' :=
  ⟨h.nodup, fun D hD => ⟨(h.at_ D hD).1, Nat.lt_of_lt_of_le (h.at_ D hD).2.1 hg.size, (hg.block D (h.at_ D hD).2.1 (fun e => by
    have := (hr D e.symm).1
    have := hM D hD
    omega)).trans (h.at_ D hD).2.2⟩⟩
theorem Marks.cons {B D : Nat} {Ds : List Nat} {W : World} (h : Marks B Ds W) (hD : ∀ E ∈ Ds, E < D) (hB : B ≤ D) (hk : W.heap[D]? = some (.deferred (some []))) : Marks B (D :: Ds) W :=
  ⟨List.nodup_cons.2 ⟨fun hm => by have := hD D hm; omega, h.nodup⟩, fun E hE => by
    rcases List.mem_cons.1 hE with rfl | hE
    · exact ⟨hB, (Array.getElem?_eq_some_iff.1 hk).1, hk⟩
    · exact h.at_ E hE⟩
/-- A function's way out through its marks. -/
theorem leaves_marks {F : Fence} {n : Nat} {P : Program} {fn : Func} {tmps : Array Value} {R : Ending → World → Prop} {B : Nat} : ∀ (Ds : List Nat) (W : World), Marks B Ds W →
    (∀ W', (∀ k, k < B → W'.heap[k]? = W.heap[k]?) → (∀ (k : Nat) (o : Obj), W.heap[k]? = some o → o.isCells = true → W'.heap[k]? = some o) → W'.os = W.os → W'.tape = W.tape → W'.output = W.output → W'.heap.size = W.heap.size → LeavesInM F n P fn tmps R [] .returning W') →
    LeavesInM F n P fn tmps R (Ds.map mark) .returning W
  | [], W, _, h => h W (fun _ _ => rfl) (fun _ _ h _ => h) rfl rfl rfl rfl
  | D :: Ds, W, hm, h => by
    obtain ⟨hB, hlt, hk⟩ := hm.at_ D (by simp)
    have hnd := List.nodup_cons.1 hm.nodup
    refine ⟨by simp, .inl ⟨D, _, rfl, run_takeDeferred hk, ?_⟩⟩
    refine leaves_marks (B := B) Ds _ ⟨hnd.2, fun E hE => ⟨(hm.at_ E (by simp [hE])).1, by rw [World.putObj_size]; exact (hm.at_ E (by simp [hE])).2.1, (World.putObj_heap_other (fun e => hnd.1 (by rw [← e]; exact hE))).trans (hm.at_ E (by simp [hE])).2.2⟩⟩ (fun W' h1 h2 h3 h4 h5 h6 => ?_)
    refine h W' (fun k hk' => (h1 k hk').trans (World.putObj_heap_other (by omega))) (fun k o ho hc => h2 k o ?_ hc) h3 h4 h5 (by rw [h6, World.putObj_size])
    refine (World.putObj_heap_other (fun e => ?_)).trans ho
    subst e
    rw [hk] at ho
    injection ho with ho
    subst ho
    cases hc

/-- The memory of spread: lights, what is open, both captured variables, the lists. -/
structure SM (gl go b0 n : Nat) (O : List Bool) (W : World) (L : List Nat) (vs : List Value) (kn : Nat → List Nat) : Prop where
  light : Blk W gl 5 (L.map u8v)
  opn : Blk W go 4 (O.map Value.bool)
  boxL : Blk W b0 55 [.slice (some ⟨gl, 0, none⟩) n n]
  boxO : Blk W (b0 + 1) 53 [.slice (some ⟨go, 0, none⟩) n n]
  kn : KN W (b0 + 3) (b0 + 2) vs kn
theorem own_blk {W : World} {B : Nat} {v : Value} {l : List Nat} {g : Nat} (h : RowG.Own encN 3 W B v l) (hg : v.ownBlock = some g) : ∃ us, Blk W g 3 us := by
  unfold RowG.Own at h
  rcases h.2 with ⟨rfl, _⟩ | ⟨g', cap, cur, rfl, _, hgg, _⟩
  · cases hg
  · have : g' = g := by simpa [Value.ownBlock] using hg
    subst this
    exact ⟨cur.toList, hgg⟩
theorem blk_turned {W W' : World} {b : Nat} {T : TypeId} {us : List Value} {row : Option Nat} (h : Blk W b T us) (hg : W.grownBy W' row) (hr : ∀ r, row = some r → ∃ o : Obj, W.heap[r]? = some o ∧ o.isCells = false) : Blk W' b T us :=
  h.grown hg (fun e => by
    obtain ⟨o, ho, hc⟩ := hr b e.symm
    unfold Blk at h
    rw [h] at ho
    injection ho with ho
    subst ho
    cases hc)
section
variable {gl go b0 n : Nat} {O : List Bool} {W W' : World} {L : List Nat} {vs : List Value} {kn : Nat → List Nat}
theorem SM.turned (h : SM gl go b0 n O W L vs kn) {row : Option Nat} (hg : W.grownBy W' row) (hr : ∀ r, row = some r → ∃ o : Obj, W.heap[r]? = some o ∧ o.isCells = false) : SM gl go b0 n O W' L vs kn := by
  refine ⟨blk_turned h.light hg hr, blk_turned h.opn hg hr, blk_turned h.boxL hg hr, blk_turned h.boxO hg hr, h.kn.grown hg (fun e => ?_) (fun v hv => ?_)⟩
  · obtain ⟨o, ho, hc⟩ := hr _ e.symm
    have := h.kn.blk
    unfold Blk at this
    rw [this] at ho
    injection ho with ho
    subst ho
    cases hc
  · cases hvb : v.ownBlock with
    | none => exact .inl rfl
    | some g =>
      refine .inr (fun e => ?_)
      obtain ⟨j, hj⟩ := List.getElem?_of_mem hv
      obtain ⟨us, hu⟩ := own_blk (h.kn.own j v hj) hvb
      obtain ⟨o, ho, hc⟩ := hr _ e.symm
      unfold Blk at hu
      rw [hu] at ho
      injection ho with ho
      subst ho
      cases hc
theorem SM.below (h : SM gl go b0 n O W L vs kn) (hb : Below W.heap.size W W') : SM gl go b0 n O W' L vs kn := ⟨h.light.below hb, h.opn.below hb, h.boxL.below hb, h.boxO.below hb, h.kn.below hb⟩
theorem row_ne (h : SM gl go b0 n O W L vs kn) {b : Nat} {T : TypeId} {us : List Value} (hb : Blk W b T us) (hT : T ≠ 3) : ∀ v ∈ vs, v.ownBlock ≠ some b := fun v hv e => by
  obtain ⟨j, hj⟩ := List.getElem?_of_mem hv
  obtain ⟨xs, hx⟩ := own_blk (h.kn.own j v hj) e
  exact Blk.ne hb hx hT rfl
/-- A light is stored. -/
theorem SM.lit (h : SM gl go b0 n O W L vs kn) (i x : Nat) : SM gl go b0 n O (W.setCell ⟨gl, i, none⟩ (u8v x)) (L.set i x) vs kn :=
  ⟨by have := h.light.set i (u8v x); rw [← List.map_set] at this; exact this, h.opn.other (Blk.ne h.opn h.light (by decide)) _, h.boxL.other (Blk.ne h.boxL h.light (by decide)) _, h.boxO.other (Blk.ne h.boxO h.light (by decide)) _,
    h.kn.other (Blk.ne h.light h.kn.blk (by decide)) (row_ne h h.light (by decide)) i _⟩
/-- A number joins a list; its slice is stored. -/
theorem SM.pushed (h : SM gl go b0 n O W L vs kn) {k y : Nat} {v v' : Value} (hk : vs[k]? = some v) (ho : RowG.Own encN 3 W' (b0 + 3) v' (kn k ++ [y])) (hg : W.grownBy W' v.ownBlock) (hv : v'.ownBlock = v.ownBlock ∨ ∃ g, v'.ownBlock = some g ∧ W.heap.size ≤ g) :
    SM gl go b0 n O (W'.setCell ⟨b0 + 2, k, none⟩ v') L (vs.set k v') (GlowP.push kn k y) := by
  have hm := List.mem_of_getElem? hk
  have key : ∀ {b : Nat} {T : TypeId} {us : List Value}, Blk W b T us → T ≠ 3 → b ≠ b0 + 2 → Blk (W'.setCell ⟨b0 + 2, k, none⟩ v') b T us := fun hb hT hne =>
    (hb.grown hg (fun e => row_ne h hb hT v hm e.symm)).other hne _
  exact ⟨key h.light (by decide) (Blk.ne h.light h.kn.blk (by decide)), key h.opn (by decide) (Blk.ne h.opn h.kn.blk (by decide)), key h.boxL (by decide) (by omega), key h.boxO (by decide) (by omega), h.kn.pushed hk ho hg hv⟩
end

theorem infoInt : (Tryd.prog.info? 3).map (fun i => (i.zero, i.size, i.bytes)) = some (some (.int .i64 0), 1, 8) := by kernel_rfl
theorem underInts : Tryd.prog.underlying 40 = some (.slice 3) := by kernel_rfl
/-- append(v, y): as one run. -/
theorem run_pushN {w0 : World} {B : Nat} {v : Value} {l : List Nat} {y : Nat} (hown : RowG.Own encN 3 w0 B v l) (hl : l.length ≤ 1000000) (hB : B ≤ w0.heap.size) (ty : TypeId) :
    ∃ g c w', (Builtin.append_ #[40, 40] ty #[v, .slice (some ⟨w0.heap.size, 0, none⟩) 1 1]).run Tryd.prog (w0.alloc (.cells #[i64v y] 3)) = .ok (.slice (some ⟨g, 0, none⟩) (l.length + 1) c) w' ∧
      RowG.Own encN 3 w' B (.slice (some ⟨g, 0, none⟩) (l.length + 1) c) (l ++ [y]) ∧ w0.grownBy w' v.ownBlock ∧ ((Value.slice (some ⟨g, 0, none⟩) (l.length + 1) c).ownBlock = v.ownBlock ∨ ∃ g', (Value.slice (some ⟨g, 0, none⟩) (l.length + 1) c).ownBlock = some g' ∧ w0.heap.size ≤ g') := by
  obtain ⟨i, hi, hz, hs1, hby⟩ := info_parts infoInt
  have hm : maxLen = 9223372036854775807 := rfl
  have hown2 : (w0.alloc (.cells #[i64v y] 3)).ownsRow B 3 1 v l.length (flat encN l) := hown.alloc _
  have hc0 : (w0.alloc (.cells #[i64v y] 3)).cell? ⟨w0.heap.size, 0, none⟩ = some (i64v y) := (cell_of_row _ _ _ _ _ _ (heap_alloc_new w0 _)).trans rfl
  obtain ⟨v', w', hr, h2, h3, _, h5⟩ := run_append_own_at (P := Tryd.prog) (w0.alloc (.cells #[i64v y] 3)) B 40 ty 3 i _ 1 8 underInts hi hz hs1 hby rfl (by omega) v l.length (flat encN l) hown2 ⟨w0.heap.size, 0, none⟩ 1 1 [i64v y] rfl (fun j u hu => by
    match j, hu with
    | 0, hu =>
      have : i64v y = u := by simpa using hu
      subst this
      exact hc0) (fun u hu => by
    have : u = i64v y := by simpa using hu
    subst this
    rfl) (by omega) (by omega) (by simp; omega)
  have ho : RowG.Own encN 3 w' B v' (l ++ [y]) := by
    unfold RowG.Own
    rw [flat_app, List.length_append]
    exact h2
  obtain ⟨A, c, rfl, hc1, hc2, hA⟩ := ho.form (n := l.length + 1) (by simp)
  obtain ⟨g, rfl, hg1, hg2⟩ := hA (by omega)
  refine ⟨g, c, w', hr, ho, World.grownBy.trans (World.grownBy_alloc w0 _ _) h3, ?_⟩
  rcases h5 with e | e
  · exact .inl e
  · exact .inr ⟨_, e, by simp⟩
section
variable {w0 : World} {ops : Array Oper} {rest : List Oper} {o : Oper} {a : Act} {Q : Exit → Act → World → Prop}
theorem wp_pushN (hgd : o.guard = none) (s x : Operand) (ho : o.op = .call { callee := .builtin .append, args := #[s, x], argTypes := #[40, 40] }) {B : Nat} {v : Value} {l : List Nat} {y : Nat}
    (hs : a.eval s = v) (hown : RowG.Own encN 3 w0 B v l) (hx : a.eval x = .slice (some ⟨w0.heap.size, 0, none⟩) 1 1) (hl : l.length ≤ 1000000) (hB : B ≤ w0.heap.size)
    (h : ∀ g c w', RowG.Own encN 3 w' B (.slice (some ⟨g, 0, none⟩) (l.length + 1) c) (l ++ [y]) → w0.grownBy w' v.ownBlock → ((Value.slice (some ⟨g, 0, none⟩) (l.length + 1) c).ownBlock = v.ownBlock ∨ ∃ g', (Value.slice (some ⟨g, 0, none⟩) (l.length + 1) c).ownBlock = some g' ∧ w0.heap.size ≤ g') → wpList Tryd.prog ops Q rest (a.put o.dst (.slice (some ⟨g, 0, none⟩) (l.length + 1) c)) w') :
    wpList Tryd.prog ops Q (o :: rest) a (w0.alloc (.cells #[.int .i64 (y : Int)] 3)) := by
  refine wpList_plain hgd fun K hK => ?_
  obtain ⟨g, c, w', hr, h2, h3, h4⟩ := run_pushN (y := y) hown hl hB o.type
  simp only [i64v] at hr
  unfold Oper.wp execOp
  simp only [ho, resolve, invoke, builtin, Sem.run_bind, Sem.run_pure, Result.andThen_ok, List.map_toArray, List.map_cons, List.map_nil, hs, hx, hr]
  exact hK _ _ (h g c w' h2 h3 h4)
theorem step_pushN {K : Act → World → Prop} {E : Prop} {W : World} (hgd : o.guard = none) (s x : Operand) (ho : o.op = .call { callee := .builtin .append, args := #[s, x], argTypes := #[40, 40] }) {B : Nat} {v : Value} {l : List Nat} {y : Nat}
    (hW : W = w0.alloc (.cells #[.int .i64 (y : Int)] 3)) (hs : a.eval s = v) (hown : RowG.Own encN 3 w0 B v l) (hx : a.eval x = .slice (some ⟨w0.heap.size, 0, none⟩) 1 1) (hl : l.length ≤ 1000000) (hB : B ≤ w0.heap.size)
    (h : ∀ g c w', RowG.Own encN 3 w' B (.slice (some ⟨g, 0, none⟩) (l.length + 1) c) (l ++ [y]) → w0.grownBy w' v.ownBlock → ((Value.slice (some ⟨g, 0, none⟩) (l.length + 1) c).ownBlock = v.ownBlock ∨ ∃ g', (Value.slice (some ⟨g, 0, none⟩) (l.length + 1) c).ownBlock = some g' ∧ w0.heap.size ≤ g') → K (a.put o.dst (.slice (some ⟨g, 0, none⟩) (l.length + 1) c)) w') :
    if Region.wanted o (yielded ops a.tmps) = true then Oper.wp Tryd.prog o a W K Q else E := by
  subst hW
  have hw : Region.wanted o (yielded ops a.tmps) = true := by simp [Region.wanted, hgd]
  rw [if_pos hw]
  obtain ⟨g, c, w', hr, h2, h3, h4⟩ := run_pushN (y := y) hown hl hB o.type
  simp only [i64v] at hr
  unfold Oper.wp execOp
  simp only [ho, resolve, invoke, builtin, Sem.run_bind, Sem.run_pure, Result.andThen_ok, List.map_toArray, List.map_cons, List.map_nil, hs, hx, hr]
  exact h g c w' h2 h3 h4
end
end GlowW
end Go.Proofs.YtbkadecfmjjadaaDoor
