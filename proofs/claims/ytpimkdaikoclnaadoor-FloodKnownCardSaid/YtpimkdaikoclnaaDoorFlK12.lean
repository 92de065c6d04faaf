import Derived.Test.YtpimkdaikoclnaaDoorFlK11
import Derived.Test.YtpimkdaikoclnaaDoorFlK5
import Derived.Test.YtpimkdaikoclnaaDoorFlK7
import Derived.Test.YtpimkdaikoclnaaDoorFlK1
import Derived.Test.YtpimkdaikoclnaaDoorFlK3
namespace Go.Proofs.YtpimkdaikoclnaaDoor
open Go.RowKit
set_option linter.unusedVariables false
set_option linter.unusedSimpArgs false
namespace FloodW
open BlkP RowG GlowW FloodP
def newL (f : Fld) (q : V) : Prop := inB f q = true ∧ (litV f (rightL f) false q ≠ wasB f false q ∨ litV f (rightL f) true q ≠ wasB f true q)
theorem atV_out {f : Fld} {l : Nat → Nat} {q : V} (h : ¬ inB f q = true) : atV f l q = 0 := if_neg h
theorem was_out {f : Fld} {b : Bool} {q : V} (h : ¬ inB f q = true) : wasB f b q = 0 := by
 rw [← litV_was]
 exact atV_out h
theorem chg_iff {w : World} {g g2 : Gh} {o : Nat × Nat} (hb : Begin g o) (hm : MoreS g g2) (hs : St w g2) (hk : ∃ b, (g.at_, b) ∈ g2.kn) (hsol : ∀ b, SolV sidesV (clr g.f) (nowS g.f b) (g2.nw b)) :
  (∀ b, g2.nw b = litV g.f (rightL g.f) b) ∧ ∀ q, (q ∈ g2.kn.map (·.1) ∧ chg g2 q = true) ↔ newL g.f q := by
 have hW := hb.old.fw
 have hnw : ∀ b, g2.nw b = litV g.f (rightL g.f) b := fun b => right_uniq hW (fun q => (hs.le b q).2) (hsol b)
 refine ⟨hnw, fun q => ?_⟩
 have hch : chg g2 q = true ↔ (litV g.f (rightL g.f) false q ≠ wasB g.f false q ∨ litV g.f (rightL g.f) true q ≠ wasB g.f true q) := by
  unfold chg
  rw [decide_eq_true_eq, hnw, hnw, hm.was, hm.was]
 rw [hch]
 constructor
 ·rintro ⟨_, h2⟩
  refine ⟨?_, h2⟩
  apply Classical.byContradiction
  intro hn
  have e1 : ∀ b, litV g.f (rightL g.f) b q = wasB g.f b q := fun b => by
   rw [was_out hn]
   exact atV_out hn
  rcases h2 with h2 | h2 <;> exact h2 (e1 _)
 ·rintro ⟨h1, h2⟩
  refine ⟨?_, h2⟩
  apply Classical.byContradiction
  intro hn
  have hne : q ≠ g.at_ := fun e => by
   obtain ⟨b, hb'⟩ := hk
   exact hn (by rw [e]; exact List.mem_map.2 ⟨_, hb', rfl⟩)
  obtain ⟨_, _, h3⟩ := hs.dflt q hn
  have key : ∀ b, litV g.f (rightL g.f) b q = wasB g.f b q := fun b => by
   have h4 := h3 b
   rw [hnw, hm.clr, hm.was] at h4
   rw [h4]
   cases hc : clr g.f q with
   | true => rw [if_pos rfl]
   | false =>
    rw [if_neg (by simp)]
    have hcO : clO g.f g.at_ o q = false := by rw [clO_ne hne]; exact hc
    cases b with
    | false =>
     have := hb.old.sky q
     rw [hcO] at this
     simpa using this.symm
    | true =>
     have := hb.old.lamp q
     rw [hcO] at this
     simpa using this.symm
  rcases h2 with h2 | h2 <;> exact h2 (key _)
def setL (f : Fld) (a : V → Nat × Nat) (T : List V) (l : List (Nat × Nat)) : List (Nat × Nat) := T.foldl (fun l q => l.set (numB f q) (a q)) l
theorem setL_len (f : Fld) (a : V → Nat × Nat) : ∀ (T : List V) (l : List (Nat × Nat)), (setL f a T l).length = l.length
 | [], l => rfl
 | q :: r, l => by
  show (setL f a r (l.set (numB f q) (a q))).length = _
  rw [setL_len f a r, List.length_set]
theorem setL_app (f : Fld) (a : V → Nat × Nat) (T : List V) (q : V) (l : List (Nat × Nat)) : setL f a (T ++ [q]) l = (setL f a T l).set (numB f q) (a q) := by
 unfold setL
 rw [List.foldl_append]
 rfl
theorem setL_get {f : Fld} {a : V → Nat × Nat} {i : Nat} (hi : i < f.X * f.Y * f.Z) : ∀ (T : List V) (l : List (Nat × Nat)), (∀ q ∈ T, inB f q = true) → i < l.length → (setL f a T l)[i]? = if plc f i ∈ T then some (a (plc f i)) else l[i]?
 | [], l, _, _ => by simp [setL]
 | q :: r, l, hq, hl => by
  show (setL f a r (l.set (numB f q) (a q)))[i]? = _
  rw [setL_get hi r _ (fun x hx => hq x (by simp [hx])) (by rw [List.length_set]; exact hl)]
  by_cases h1 : plc f i ∈ r
  ·rw [if_pos h1, if_pos (by simp [h1])]
  ·rw [if_neg h1]
   by_cases h2 : numB f q = i
   ·have e : plc f i = q := by rw [← h2]; exact plc_num (hq q (by simp))
    rw [if_pos (by simp [e]), e, h2, List.getElem?_set_self hl]
   ·have hne : ¬ plc f i ∈ q :: r := fun hm => by
     rcases List.mem_cons.1 hm with e | hm
     ·exact h2 (by rw [← e]; exact num_plc hi)
     ·exact h1 hm
    rw [if_neg hne, List.getElem?_set_ne h2]
theorem setL_right {f : Fld} (hW : FldW f) {T : List V} (hT : ∀ q, q ∈ T ↔ newL f q) : setL f (fun q => (litV f (rightL f) false q, litV f (rightL f) true q)) T f.ls = rightL f := by
 apply List.ext_getElem?
 intro i
 by_cases hi : i < f.X * f.Y * f.Z
 ·have hl : i < f.ls.length := by rw [hW.ls]; exact hi
  rw [setL_get hi T f.ls (fun q hq => ((hT q).1 hq).1) hl]
  have hin := plc_in hi
  have hr : i < (rightL f).length := by rw [rightL_len]; exact hi
  have hv : ∀ (ls : List (Nat × Nat)) b, litV f ls b (plc f i) = cond b (ls.getD i (0, 0)).2 (ls.getD i (0, 0)).1 := fun ls b => by
   unfold litV atV
   rw [if_pos hin, num_plc hi]
  have e1 : (rightL f)[i]? = some (litV f (rightL f) false (plc f i), litV f (rightL f) true (plc f i)) := by
   rw [hv, hv, List.getElem?_eq_getElem hr]
   simp [List.getD, hr]
  have e2 : f.ls[i]? = some (wasB f false (plc f i), wasB f true (plc f i)) := by
   rw [← litV_was, ← litV_was, hv, hv, List.getElem?_eq_getElem hl]
   simp [List.getD, hl]
  by_cases hm : plc f i ∈ T
  ·rw [if_pos hm, e1]
  ·rw [if_neg hm, e1, e2]
   have hn : ¬ newL f (plc f i) := fun h => hm ((hT _).2 h)
   have h1 : litV f (rightL f) false (plc f i) = wasB f false (plc f i) := Classical.not_not.1 (fun e => hn ⟨hin, .inl e⟩)
   have h2 : litV f (rightL f) true (plc f i) = wasB f true (plc f i) := Classical.not_not.1 (fun e => hn ⟨hin, .inr e⟩)
   rw [h1, h2]
 ·rw [List.getElem?_eq_none (by rw [setL_len, hW.ls]; omega), List.getElem?_eq_none (by rw [rightL_len]; omega)]
def SC (f : Fld) (k : Nat) : Prop := k = f.F ∨ f.vA.ownBlock = some k ∨ f.vT.ownBlock = some k ∨ f.vL.ownBlock = some k
structure Chd (w : World) (f : Fld) (p : V) (o : Nat × Nat) (T : List V) (f' : Fld) (w' : World) : Prop where
 fld : FldM w' f'
 f_ : ∃ vA vT l, f' = { f with vA := vA, vT := vT, ak := f.ak ++ l, ts := f.ts ++ T, ls := rightL f } ∧ l.length ≤ 3600 ∧ ∀ q ∈ l, nearK f p o q
 fr : Fr (SC f) w w'
 new : ∀ k, SC f' k → SC f k ∨ w.heap.size ≤ k
 dup : T.Nodup
 up : T.Pairwise ltP
 mem : ∀ q, q ∈ T ↔ newL f q
def ChangeP (w : World) (f : Fld) (p : V) (o : Nat × Nat) (e : Ending) (w' : World) : Prop := ∃ T f', e = .returned (.int .i64 (T.length : Nat)) ∧ Chd w f p o T f' w'
def ghB (f : Fld) (p : V) (o : Nat × Nat) (wk M : Nat) : Gh := { f := f, wk := wk, M := M, at_ := p, low := p.2.1, kn := [], ow := fun b q => cond b (lmN f q) 0, nw := fun b q => if clr f q = true then wasB f b q else 0, ak0 := f.ak, kd := nearK f p o }
theorem begin_gh {f : Fld} {p : V} {o : Nat × Nat} {wk M : Nat} (h : Old f p o) : Begin (ghB f p o wk M) o := ⟨h, fun _ => rfl, fun _ => rfl, fun _ _ => rfl, rfl, fun _ h => h⟩
theorem sx_begin {W : World} {f : Fld} {p : V} {o : Nat × Nat} {wk M : Nat} (h : FldM W f) (hA : Old f p o) (hT : KindW.Tab W) (hak : f.ak.length ≤ 10000) (hwk : Blk W wk TWk (wcells (ghB f p o wk M))) (hM : MapK W M []) (hg : ¬ SC f 0) (h1 : 0 < wk) (h2 : 0 < M) : Sx W (ghB f p o wk M) := by
 have hp := in_may hA.fw hA.inb
 have hp' := hp
 unfold mayP at hp'
 refine ⟨⟨h, hA.fw, hwk, hM, List.nodup_nil, List.nodup_nil, fun q b hq => (by cases hq), fun q _ => ⟨rfl, rfl, fun _ => rfl⟩, fun b q => ⟨?_, ?_⟩, fun q hq => (by cases hq), ⟨hak, [], by simp [ghB], by simp, fun q hq => (by cases hq)⟩, hp, by show 0 ≤ p.2.1 ∧ p.2.1 ≤ 63; omega⟩, hT, fun hs => ?_⟩
 ·cases b with
  | false => exact Nat.zero_le _
  | true => exact lamp15 _
 ·show (if clr f q = true then wasB f b q else 0) ≤ 15
  split
  ·exact was15 hA.fw b q
  ·exact Nat.zero_le _
 ·rcases hs with e | e | e | e | e
  ·exact hg (.inl e)
  ·exact hg (.inr (.inl e))
  ·have e' : 0 = wk := e
   omega
  ·have e' : 0 = M := e
   omega
  ·cases e
def SLg (g : Gh) (k : Nat) : Prop := k = g.f.F ∨ g.f.vT.ownBlock = some k ∨ g.f.vL.ownBlock = some k
structure Lp (w1 : World) (g : Gh) (a : V → Nat × Nat) (T : List V) (gT : Nat) (t : Nat) (f : Fld) (W : World) : Prop where
 fld : FldM W f
 f_ : ∃ vT, f = { g.f with vT := vT, ts := g.f.ts ++ T.take t, ls := setL g.f a (T.take t) g.f.ls }
 fr : Fr (SLg g) w1 W
 new : ∀ k, f.vT.ownBlock = some k → k ≠ gT ∧ (SLg g k ∨ w1.heap.size ≤ k)
section
variable {w1 W W' : World} {g : Gh} {a : V → Nat × Nat} {T : List V} {gT t : Nat} {f : Fld} {q : V}
theorem Lp.below (h : Lp w1 g a T gT t f W) (hb : Below W.heap.size W W') : Lp w1 g a T gT t f W' := ⟨h.fld.below hb, h.f_, h.fr.trans (Fr.below (SLg g) hb) (fun i hi => .inl hi), h.new⟩
theorem Lp.same (h : Lp w1 g a T gT t f W) : f.F = g.f.F ∧ f.vL = g.f.vL ∧ f.vC = g.f.vC ∧ f.X = g.f.X ∧ f.Y = g.f.Y ∧ f.Z = g.f.Z ∧ f.lo = g.f.lo ∧ f.cs = g.f.cs := by
 obtain ⟨vT, e⟩ := h.f_
 rw [e]
 exact ⟨rfl, rfl, rfl, rfl, rfl, rfl, rfl, rfl⟩
theorem Lp.inB (h : Lp w1 g a T gT t f W) (q : V) : inB f q = inB g.f q := by
 obtain ⟨vT, e⟩ := h.f_
 rw [e]; rfl
theorem Lp.num (h : Lp w1 g a T gT t f W) (q : V) : numB f q = numB g.f q := by
 obtain ⟨vT, e⟩ := h.f_
 rw [e]; rfl
theorem Lp.fw (h : Lp w1 g a T gT t f W) (hW : FldW g.f) (ha : ∀ q, (a q).1 ≤ 15 ∧ (a q).2 ≤ 15) : FldW f := by
 obtain ⟨vT, e⟩ := h.f_
 rw [e]
 refine ⟨hW.x, hW.y, hW.z, hW.lx, hW.ly, hW.lz, hW.cs, by show (setL g.f a (T.take t) g.f.ls).length = _; rw [setL_len]; exact hW.ls, hW.c8, ?_⟩
 show ∀ c ∈ setL g.f a (T.take t) g.f.ls, c.1 ≤ 15 ∧ c.2 ≤ 15
 have key : ∀ (L : List V) (l : List (Nat × Nat)), (∀ c ∈ l, c.1 ≤ 15 ∧ c.2 ≤ 15) → ∀ c ∈ setL g.f a L l, c.1 ≤ 15 ∧ c.2 ≤ 15 := by
  intro L
  induction L with
  | nil => intro l hl; exact hl
  | cons x r ih =>
   intro l hl
   refine ih (l.set (numB g.f x) (a x)) (fun c hc => ?_)
   rcases List.mem_or_eq_of_mem_set hc with h1 | h1
   ·exact hl c h1
   ·rw [h1]; exact ha x
 exact key _ _ hW.l15
theorem Lp.start (h : FldM w1 g.f) (hT : ∀ k, g.f.vT.ownBlock = some k → k ≠ gT) : Lp w1 g a T gT 0 g.f w1 := ⟨h, ⟨g.f.vT, by simp [setL]⟩, Fr.refl _ _, fun k hk => ⟨hT k hk, .inl (.inr (.inl hk))⟩⟩
theorem Lp.next (h : Lp w1 g a T gT t f W) (hq : T[t]? = some q) (hg : gT < w1.heap.size) (hp : LitP W f q (a q) W') : ∃ f2, Lp w1 g a T gT (t + 1) f2 W' := by
 obtain ⟨gr, c, h1, h2, h3⟩ := hp
 obtain ⟨vT, e⟩ := h.f_
 have hnum := h.num q
 refine ⟨_, h1, ⟨.slice (some ⟨gr, 0, none⟩) (f.ts.length + 1) c, ?_⟩, h.fr.trans h2 (fun i hi => ?_), fun k hk => ?_⟩
 ·rw [hnum, List.take_add_one, hq, Option.toList_some, setL_app, e]
  simp [Fld.lit, Fld.told]
 ·rcases hi with hi | hi | hi
  ·exact .inl (.inl (hi.trans h.same.1))
  ·rcases (h.new i hi).2 with q1 | q1
   ·exact .inl q1
   ·exact .inr q1
  ·exact .inl (.inr (.inr (by rw [← h.same.2.1]; exact hi)))
 ·have hk' : gr = k := by simpa [Fld.lit, Fld.told, Value.ownBlock] using hk
  subst hk'
  rcases h3 with h3 | h3
  ·exact h.new gr h3
  ·have := h.fr.size
   exact ⟨by omega, .inr (by omega)⟩
theorem Lp.work (h : Lp w1 g a T gT t f W) (hs : St w1 g) : Blk W g.wk TWk (wcells g) ∧ MapK W g.M g.kn ∧ ∀ q b, (q, b) ∈ g.kn → Blk W b TK (kcells g q) := by
 have hn : ∀ {b : Nat} {T : TypeId} {vs : List Value}, Blk w1 b T vs → T ≠ TW → T ≠ TP → T ≠ TL → ¬ SLg g b := fun hb h1 h2 h3 hk => by
  rcases hk with e | e | e
  ·exact Blk.ne hb hs.fld.blk h1 e
  ·obtain ⟨us, hu⟩ := own_cells hs.fld.ts e
   exact Blk.ne hb hu h2 rfl
  ·obtain ⟨us, hu⟩ := own_cells hs.fld.ls e
   exact Blk.ne hb hu h3 rfl
 refine ⟨h.fr.blk hs.work (hn hs.work (by decide) (by decide) (by decide)), ?_, fun q b hq => h.fr.blk (hs.known q b hq) (hn (hs.known q b hq) (by decide) (by decide) (by decide))⟩
 refine (h.fr.block _ hs.map.lt (fun hk => ?_)).trans hs.map
 rcases hk with e | e | e
 ·exact Blk.notMap hs.map hs.fld.blk e.symm
 ·obtain ⟨us, hu⟩ := own_cells hs.fld.ts e
  exact Blk.notMap hs.map hu rfl
 ·obtain ⟨us, hu⟩ := own_cells hs.fld.ls e
  exact Blk.notMap hs.map hu rfl
theorem Lp.row (h : Lp w1 g a T gT t f W) (hs : St w1 g) {n c : Nat} (hr : LocR w1 g (.slice (some ⟨gT, 0, none⟩) n c) T) (hT : ∀ k, g.f.vT.ownBlock = some k → k ≠ gT) : RowG.Own encP TP W 0 (.slice (some ⟨gT, 0, none⟩) n c) T := h.fr.own hr.1 (fun k hk hs2 => by
 have hk' : gT = k := by simpa [Value.ownBlock] using hk
 subst hk'
 rcases hs2 with e | e | e
 ·exact hr.2 gT rfl (.inl e)
 ·exact hT gT e rfl
 ·obtain ⟨us, hu⟩ := own_cells hs.fld.ls e
  obtain ⟨us2, hu2⟩ := own_cells hr.1 (g := gT) rfl
  exact Blk.ne hu2 hu (by decide) rfl)
end
end FloodW
end Go.Proofs.YtpimkdaikoclnaaDoor
namespace Go.Proofs.YtpimkdaikoclnaaDoor
open Go.RowKit
set_option linter.unusedVariables false
set_option linter.unusedSimpArgs false
namespace FloodW
open BlkP RowG GlowW FloodP
theorem wrF {a c : Int} (h : a = c) (h1 : -9223372036854775808 ≤ c) (h2 : c < 9223372036854775808) : wrap64 a = c := by rw [h, wr64 h1 h2]
theorem wrI {a c : Int} (h : a = c) (h1 : -9223372036854775808 ≤ c) (h2 : c ≤ 9223372036854775807) : IntKind.i64.wrap a = c := by rw [h, BitsP.wrapI_small h1 h2]
theorem remF {s m r : Nat} (h : s % m = r) : (s : Int).tmod m = (r : Int) := by rw [Int.tmod_eq_emod_of_nonneg (Int.natCast_nonneg _), ← h]; rfl
theorem quoF {s m r : Nat} (h : s / m = r) : (s : Int) / (m : Int) = (r : Int) := by rw [← h]; rfl
def fitI (n a b : Int) : Int := if n < a then a else if b < n then b else n
theorem fit_c {n a b r : Int} (h : fitI n a b = r) (w : World) : Calls Tryd.prog 22 #[.int .i64 n, .int .i64 a, .int .i64 b] w fun e w' => e = .returned (.int .i64 r) ∧ w = w' := by
 subst h
 unfold fitI
 by_cases h1 : n < a
 ·go_enter Tryd.func22, Tryd.ntmps22
  go_wp2
  go_ret
  exact ⟨by simp [h1], rfl⟩
 ·by_cases h2 : b < n
  ·go_enter Tryd.func22, Tryd.ntmps22
   go_wp2
   go_ret
   exact ⟨by simp [h1, h2], rfl⟩
  ·go_enter Tryd.func22, Tryd.ntmps22
   go_wp2
   go_ret
   exact ⟨by simp [h1, h2], rfl⟩
theorem fit_in {n a b : Int} (h : a ≤ b) : a ≤ fitI n a b ∧ fitI n a b ≤ b := by
 unfold fitI
 split
 ·omega
 ·split <;> omega
def farI (a b : V) : Nat := gapZ a.1 b.1 + (gapZ a.2.1 b.2.1 + gapZ a.2.2 b.2.2)
def dif (k j : Nat) (d : Int) : Int := if j < k then (d.natAbs : Int) else d
def sumD (k : Nat) (d0 d1 d2 : Int) : Nat := (if 0 < k then d0.natAbs else 0) + ((if 1 < k then d1.natAbs else 0) + (if 2 < k then d2.natAbs else 0))
def FarRel (w : World) (b : Nat) (d0 d1 d2 : Int) (v5 v7 : Value) (W : World) : Prop := ∃ k : Nat, k ≤ 3 ∧ v7 = .int .i64 (k : Nat) ∧ v5 = .int .i64 (sumD k d0 d1 d2 : Nat) ∧ Blk W b 3 [.int .i64 (dif k 0 d0), .int .i64 (dif k 1 d1), .int .i64 (dif k 2 d2)] ∧ Below w.heap.size w W
theorem dif_ge {k j : Nat} {d : Int} (h : ¬ j < k) : dif k j d = d := if_neg h
set_option maxRecDepth 100000 in
set_option maxHeartbeats 8000000 in
theorem far_c {w : World} {a b : V} (ha : mayP a) (hb : mayP b) : Calls Tryd.prog 32 #[.agg #[.int .i64 a.1, .int .i64 a.2.1, .int .i64 a.2.2], .agg #[.int .i64 b.1, .int .i64 b.2.1, .int .i64 b.2.2]] w fun e w' => e = .returned (.int .i64 (farI a b : Nat)) ∧ Below w.heap.size w w' := by
 unfold mayP at ha hb
 obtain ⟨d0, hd0⟩ : ∃ d, a.1 - b.1 = d := ⟨_, rfl⟩
 obtain ⟨d1, hd1⟩ : ∃ d, a.2.1 - b.2.1 = d := ⟨_, rfl⟩
 obtain ⟨d2, hd2⟩ : ∃ d, a.2.2 - b.2.2 = d := ⟨_, rfl⟩
 have HE := Lib.hid (show farI a b = sumD 3 d0 d1 d2 by
  unfold farI gapZ sumD
  rw [hd0, hd1, hd2]
  rfl)
 have B0 : -2097152 ≤ d0 ∧ d0 ≤ 2097152 := by omega
 have B1 : -2097152 ≤ d1 ∧ d1 ≤ 2097152 := by omega
 have B2 : -2097152 ≤ d2 ∧ d2 ≤ 2097152 := by omega
 have S0 := Lib.hid (wrF hd0 (by omega) (by omega))
 have S1 := Lib.hid (wrF hd1 (by omega) (by omega))
 have S2 := Lib.hid (wrF hd2 (by omega) (by omega))
 clear hd0 hd1 hd2 ha hb
 go_enter Tryd.func32, Tryd.ntmps32
 go_wp2_with fail
 go_loopw [5, 7] (fun v5 v7 wr => FarRel w (w.heap.size + 2) d0 d1 d2 v5 v7 wr) (fun _ v _ => 3 - (intOf v).toNat)
 case atStart => exact ⟨0, by omega, rfl, rfl, by rw [dif_ge (by omega), dif_ge (by omega), dif_ge (by omega), ← S0.out, ← S1.out, ← S2.out]; (repeat' (first | (with_reducible refine BlkP.Blk.drew ?_) | (with_reducible refine BlkP.Blk.drewN ?_ _) | (with_reducible refine BlkP.Blk.setAt (us := ?_) (by first | omega | (simp; done) | (simp; omega)) rfl ?_ ?_) | (with_reducible refine BlkP.Blk.otherAt ?_ (by first | omega | (simp; done) | (simp; omega))) | (with_reducible refine BlkP.Blk.newA' (by first | omega | (simp; done) | (simp; omega)) rfl) | (with_reducible refine BlkP.Blk.alloc ?_ _) | (exact rfl))), by (repeat' (first | (with_reducible exact Below.refl _ _) | (with_reducible refine Below.setCell ?_ (by (first | omega | (simp; done) | (simp; omega))) _) | (with_reducible refine Below.alloc ?_ (by (first | omega | (simp; done) | (simp; omega))) _) | (with_reducible refine Below.drew ?_) | (with_reducible refine below_drewN ?_ _)))⟩
 case round =>
  obtain ⟨k, hk, rfl, rfl, hd, hbl⟩ := hrel
  have HD := Lib.hid hd
  have HB := Lib.hid hbl
  clear hd hbl
  by_cases h3 : k = 3
  ·subst h3
   go_wp2
   go_ret
   exact ⟨by rw [HE.out]; rfl, HB.out.trans (by (repeat' (first | (with_reducible exact Below.refl _ _) | (with_reducible refine Below.setCell ?_ (by (first | omega | (simp; done) | (simp; omega))) _) | (with_reducible refine Below.alloc ?_ (by (first | omega | (simp; done) | (simp; omega))) _) | (with_reducible refine Below.drew ?_) | (with_reducible refine below_drewN ?_ _))))⟩
  ·have hk3 : k = 0 ∨ k = 1 ∨ k = 2 := by omega
   clear hk h3
   rcases hk3 with rfl | rfl | rfl
   ·have c0 := HD.out.cell (i := 0) (v := .int .i64 (dif 0 0 d0)) rfl
    have c1 := HD.out.cell (i := 1) (v := .int .i64 (dif 0 1 d1)) rfl
    have c2 := HD.out.cell (i := 2) (v := .int .i64 (dif 0 2 d2)) rfl
    have z0 := HD.out.frozen 0
    have hbz := HD.out.lt
    obtain ⟨n, hn⟩ : ∃ n : Nat, d0.natAbs = n := ⟨_, rfl⟩
    obtain ⟨s, hs⟩ : ∃ s : Nat, sumD 0 d0 d1 d2 = s := ⟨_, rfl⟩
    have hsb : s ≤ 6291456 := by rw [← hs]; unfold sumD; split <;> split <;> split <;> omega
    have hnx : sumD 1 d0 d1 d2 = s + n := by rw [← hs, ← hn]; unfold sumD; simp; try omega
    have HNX := Lib.hid hnx
    have AS := Lib.hid (wrF (a := (s : Int) + (n : Int)) (c := ((s + n : Nat) : Int)) (by omega) (by omega) (by omega))
    rw [hs]
    clear hnx hs
    rw [dif_ge (k := 0) (j := 0) (by omega)] at c0
    by_cases hneg : d0 < 0
    ·have hng : -d0 = (n : Int) := by omega
     have NR := Lib.hid (wrF hng (by omega) (by omega))
     have HND := Lib.hid hng
     clear hng
     clear hn
     go_wp2
     go_roundw
     case rel => exact ⟨1, by omega, rfl, by
      have e1 := HND.out
      rw [HNX.out]
      congr 1
      omega, by
      have q := (HD.out.set 0 (.int .i64 (-d0)))
      have e : ([.int .i64 (dif 0 0 d0), .int .i64 (dif 0 1 d1), .int .i64 (dif 0 2 d2)] : List Value).set 0 (.int .i64 (-d0)) = [.int .i64 (dif 1 0 d0), .int .i64 (dif 1 1 d1), .int .i64 (dif 1 2 d2)] := by
       have e0 : (d0.natAbs : Int) = -d0 := by omega
       simp [dif, e0]
      rw [e] at q
      exact q, HB.out.trans (by (repeat' (first | (with_reducible exact Below.refl _ _) | (with_reducible refine Below.setCell ?_ (by (first | omega | (simp; done) | (simp; omega))) _) | (with_reducible refine Below.alloc ?_ (by (first | omega | (simp; done) | (simp; omega))) _) | (with_reducible refine Below.drew ?_) | (with_reducible refine below_drewN ?_ _))))⟩
     case measure => simp [intOf]
    ·have HND := Lib.hid (show (n : Int) = d0 by omega)
     have hdn : d0 = (n : Int) := by omega
     rw [hdn] at c0
     have hneg2 : ¬ (n : Int) < 0 := by omega
     clear hn hneg hdn
     go_wp2
     go_roundw
     case rel => exact ⟨1, by omega, rfl, by rw [HNX.out, ← AS.out], by
      have q := HD.out
      have e : ([.int .i64 (dif 0 0 d0), .int .i64 (dif 0 1 d1), .int .i64 (dif 0 2 d2)] : List Value) = [.int .i64 (dif 1 0 d0), .int .i64 (dif 1 1 d1), .int .i64 (dif 1 2 d2)] := by
       have e0 : (d0.natAbs : Int) = d0 := by have := HND.out; omega
       simp [dif, e0]
      rw [e] at q
      exact q, HB.out⟩
     case measure => simp [intOf]
   ·have c0 := HD.out.cell (i := 0) (v := .int .i64 (dif 1 0 d0)) rfl
    have c1 := HD.out.cell (i := 1) (v := .int .i64 (dif 1 1 d1)) rfl
    have c2 := HD.out.cell (i := 2) (v := .int .i64 (dif 1 2 d2)) rfl
    have z0 := HD.out.frozen 1
    have hbz := HD.out.lt
    obtain ⟨n, hn⟩ : ∃ n : Nat, d1.natAbs = n := ⟨_, rfl⟩
    obtain ⟨s, hs⟩ : ∃ s : Nat, sumD 1 d0 d1 d2 = s := ⟨_, rfl⟩
    have hsb : s ≤ 6291456 := by rw [← hs]; unfold sumD; split <;> split <;> split <;> omega
    have hnx : sumD 2 d0 d1 d2 = s + n := by rw [← hs, ← hn]; unfold sumD; simp; try omega
    have HNX := Lib.hid hnx
    have AS := Lib.hid (wrF (a := (s : Int) + (n : Int)) (c := ((s + n : Nat) : Int)) (by omega) (by omega) (by omega))
    rw [hs]
    clear hnx hs
    rw [dif_ge (k := 1) (j := 1) (by omega)] at c1
    by_cases hneg : d1 < 0
    ·have hng : -d1 = (n : Int) := by omega
     have NR := Lib.hid (wrF hng (by omega) (by omega))
     have HND := Lib.hid hng
     clear hng
     clear hn
     go_wp2
     go_roundw
     case rel => exact ⟨2, by omega, rfl, by
      have e1 := HND.out
      rw [HNX.out]
      congr 1
      omega, by
      have q := (HD.out.set 1 (.int .i64 (-d1)))
      have e : ([.int .i64 (dif 1 0 d0), .int .i64 (dif 1 1 d1), .int .i64 (dif 1 2 d2)] : List Value).set 1 (.int .i64 (-d1)) = [.int .i64 (dif 2 0 d0), .int .i64 (dif 2 1 d1), .int .i64 (dif 2 2 d2)] := by
       have e0 : (d1.natAbs : Int) = -d1 := by omega
       simp [dif, e0]
      rw [e] at q
      exact q, HB.out.trans (by (repeat' (first | (with_reducible exact Below.refl _ _) | (with_reducible refine Below.setCell ?_ (by (first | omega | (simp; done) | (simp; omega))) _) | (with_reducible refine Below.alloc ?_ (by (first | omega | (simp; done) | (simp; omega))) _) | (with_reducible refine Below.drew ?_) | (with_reducible refine below_drewN ?_ _))))⟩
     case measure => simp [intOf]
    ·have HND := Lib.hid (show (n : Int) = d1 by omega)
     have hdn : d1 = (n : Int) := by omega
     rw [hdn] at c1
     have hneg2 : ¬ (n : Int) < 0 := by omega
     clear hn hneg hdn
     go_wp2
     go_roundw
     case rel => exact ⟨2, by omega, rfl, by rw [HNX.out, ← AS.out], by
      have q := HD.out
      have e : ([.int .i64 (dif 1 0 d0), .int .i64 (dif 1 1 d1), .int .i64 (dif 1 2 d2)] : List Value) = [.int .i64 (dif 2 0 d0), .int .i64 (dif 2 1 d1), .int .i64 (dif 2 2 d2)] := by
       have e0 : (d1.natAbs : Int) = d1 := by have := HND.out; omega
       simp [dif, e0]
      rw [e] at q
      exact q, HB.out⟩
     case measure => simp [intOf]
   ·have c0 := HD.out.cell (i := 0) (v := .int .i64 (dif 2 0 d0)) rfl
    have c1 := HD.out.cell (i := 1) (v := .int .i64 (dif 2 1 d1)) rfl
    have c2 := HD.out.cell (i := 2) (v := .int .i64 (dif 2 2 d2)) rfl
    have z0 := HD.out.frozen 2
    have hbz := HD.out.lt
    obtain ⟨n, hn⟩ : ∃ n : Nat, d2.natAbs = n := ⟨_, rfl⟩
    obtain ⟨s, hs⟩ : ∃ s : Nat, sumD 2 d0 d1 d2 = s := ⟨_, rfl⟩
    have hsb : s ≤ 6291456 := by rw [← hs]; unfold sumD; split <;> split <;> split <;> omega
    have hnx : sumD 3 d0 d1 d2 = s + n := by rw [← hs, ← hn]; unfold sumD; simp; try omega
    have HNX := Lib.hid hnx
    have AS := Lib.hid (wrF (a := (s : Int) + (n : Int)) (c := ((s + n : Nat) : Int)) (by omega) (by omega) (by omega))
    rw [hs]
    clear hnx hs
    rw [dif_ge (k := 2) (j := 2) (by omega)] at c2
    by_cases hneg : d2 < 0
    ·have hng : -d2 = (n : Int) := by omega
     have NR := Lib.hid (wrF hng (by omega) (by omega))
     have HND := Lib.hid hng
     clear hng
     clear hn
     go_wp2
     go_roundw
     case rel => exact ⟨3, by omega, rfl, by
      have e1 := HND.out
      rw [HNX.out]
      congr 1
      omega, by
      have q := (HD.out.set 2 (.int .i64 (-d2)))
      have e : ([.int .i64 (dif 2 0 d0), .int .i64 (dif 2 1 d1), .int .i64 (dif 2 2 d2)] : List Value).set 2 (.int .i64 (-d2)) = [.int .i64 (dif 3 0 d0), .int .i64 (dif 3 1 d1), .int .i64 (dif 3 2 d2)] := by
       have e0 : (d2.natAbs : Int) = -d2 := by omega
       simp [dif, e0]
      rw [e] at q
      exact q, HB.out.trans (by (repeat' (first | (with_reducible exact Below.refl _ _) | (with_reducible refine Below.setCell ?_ (by (first | omega | (simp; done) | (simp; omega))) _) | (with_reducible refine Below.alloc ?_ (by (first | omega | (simp; done) | (simp; omega))) _) | (with_reducible refine Below.drew ?_) | (with_reducible refine below_drewN ?_ _))))⟩
     case measure => simp [intOf]
    ·have HND := Lib.hid (show (n : Int) = d2 by omega)
     have hdn : d2 = (n : Int) := by omega
     rw [hdn] at c2
     have hneg2 : ¬ (n : Int) < 0 := by omega
     clear hn hneg hdn
     go_wp2
     go_roundw
     case rel => exact ⟨3, by omega, rfl, by rw [HNX.out, ← AS.out], by
      have q := HD.out
      have e : ([.int .i64 (dif 2 0 d0), .int .i64 (dif 2 1 d1), .int .i64 (dif 2 2 d2)] : List Value) = [.int .i64 (dif 3 0 d0), .int .i64 (dif 3 1 d1), .int .i64 (dif 3 2 d2)] := by
       have e0 : (d2.natAbs : Int) = d2 := by have := HND.out; omega
       simp [dif, e0]
      rw [e] at q
      exact q, HB.out⟩
     case measure => simp [intOf]
end FloodW
end Go.Proofs.YtpimkdaikoclnaaDoor
namespace Go.Proofs.YtpimkdaikoclnaaDoor
open Go.RowKit
set_option linter.unusedVariables false
set_option linter.unusedSimpArgs false
namespace FloodW
open BlkP RowG GlowW FloodP
structure FldC (f : Fld) : Prop where
 x : 1 ≤ f.X ∧ f.X ≤ 8
 y : 1 ≤ f.Y ∧ f.Y ≤ 16
 z : 1 ≤ f.Z ∧ f.Z ≤ 8
 lx : -1048576 ≤ f.lo.1 ∧ f.lo.1 + f.X ≤ 1048576
 ly : 0 ≤ f.lo.2.1 ∧ f.lo.2.1 + f.Y ≤ 64
 lz : -1048576 ≤ f.lo.2.2 ∧ f.lo.2.2 + f.Z ≤ 1048576
 cs : f.cs.length = f.X * f.Y * f.Z
 c8 : ∀ c ∈ f.cs, c.1 < 256 ∧ c.2 < 256
theorem FldW.c {f : Fld} (h : FldW f) : FldC f := ⟨h.x, h.y, h.z, h.lx, h.ly, h.lz, h.cs, h.c8⟩
theorem FldC.n {f : Fld} (h : FldC f) : 1 ≤ f.X * f.Y * f.Z ∧ f.X * f.Y * f.Z ≤ 1024 := by
 have hx := h.x
 have hy := h.y
 have hz := h.z
 have m1 : f.X * f.Y ≤ 8 * 16 := Nat.mul_le_mul (by omega) (by omega)
 have m2 : f.X * f.Y * f.Z ≤ 8 * 16 * 8 := Nat.mul_le_mul m1 (by omega)
 have p1 : 0 < f.X * f.Y := Nat.mul_pos (by omega) (by omega)
 have p2 : 0 < f.X * f.Y * f.Z := Nat.mul_pos p1 (by omega)
 omega
set_option maxRecDepth 100000 in
set_option maxHeartbeats 8000000 in
theorem at_c {w : World} {f : Fld} {i : Nat} (h : FldM w f) (hW : FldC f) (hi : i < f.X * f.Y * f.Z) :
  Calls Tryd.prog 21 #[.pointer (some ⟨f.F, 0, none⟩), .int .i64 i] w fun e w' => e = .returned (.agg #[.int .i64 ((plc f i).1), .int .i64 ((plc f i).2.1), .int .i64 ((plc f i).2.2)]) ∧ Below w.heap.size w w' := by
 have hn := hW.n
 have hbx := GlowP.at_box hi
 have hlx := hW.lx
 have hly := hW.ly
 have hlz := hW.lz
 obtain ⟨d, hd⟩ : ∃ d, i / f.X = d := ⟨_, rfl⟩
 obtain ⟨x, hx⟩ : ∃ x, i % f.X = x := ⟨_, rfl⟩
 obtain ⟨z, hz⟩ : ∃ z, d % f.Z = z := ⟨_, rfl⟩
 obtain ⟨y, hy⟩ : ∃ y, d / f.Z = y := ⟨_, rfl⟩
 have hy2 : i / (f.X * f.Z) = y := by rw [← Nat.div_div_eq_div_mul, hd, hy]
 obtain ⟨p, hp⟩ : ∃ p : Nat, f.X * f.Z = p := ⟨_, rfl⟩
 rw [hp] at hy2
 rw [hd, hx, hz, hy] at hbx
 obtain ⟨X, hXe⟩ : ∃ X, f.X = X := ⟨_, rfl⟩
 obtain ⟨Z, hZe⟩ : ∃ Z, f.Z = Z := ⟨_, rfl⟩
 have hX1 := hW.x
 have hZ1 := hW.z
 obtain ⟨px, hpx⟩ : ∃ p : Int, f.lo.1 + (x : Int) = p := ⟨_, rfl⟩
 obtain ⟨py, hpy⟩ : ∃ p : Int, f.lo.2.1 + (y : Int) = p := ⟨_, rfl⟩
 obtain ⟨pz, hpz⟩ : ∃ p : Int, f.lo.2.2 + (z : Int) = p := ⟨_, rfl⟩
 have HPL := Lib.hid (show plc f i = (px, py, pz) by
  unfold plc
  rw [hd, hx, hz, hy, hpx, hpy, hpz])
 have hplt : p ≤ 64 := by rw [← hp]; exact Nat.le_trans (Nat.mul_le_mul hX1.2 hZ1.2) (by decide)
 have hp0 : 1 ≤ p := by rw [← hp]; exact Nat.mul_pos (by omega) (by omega)
 rw [hXe] at hp hx hd
 rw [hZe] at hp hz hy
 have M0 := Lib.hid (wrI (a := (X : Int) * (Z : Int)) (c := (p : Int)) (by rw [← hp]; simp) (by omega) (by omega))
 have A0 := Lib.hid (wrI hpx (by omega) (by omega))
 have A1 := Lib.hid (wrI hpy (by omega) (by omega))
 have A2 := Lib.hid (wrI hpz (by omega) (by omega))
 have hyl : y ≤ i := by rw [← hy2]; exact Nat.div_le_self _ _
 have hdl : d ≤ i := by rw [← hd]; exact Nat.div_le_self _ _
 have QY := Lib.hid (wrI (a := (y : Int)) (c := (y : Int)) rfl (by omega) (by omega))
 have QD := Lib.hid (wrI (a := (d : Int)) (c := (d : Int)) rfl (by omega) (by omega))
 clear hyl hdl
 have n1 : (i : Int).tmod X = (x : Int) := remF hx
 have n2 : (i : Int) / (X : Int) = (d : Int) := quoF hd
 have n3 : (d : Int).tmod Z = (z : Int) := remF hz
 have n4 : (i : Int) / (p : Int) = (y : Int) := quoF hy2
 have hB := h.blk
 have hFl := h.blk.lt
 have H := Lib.hid h
 rw [hXe] at hX1
 rw [hZe] at hZ1
 have hXI : ¬ (X : Int) = 0 := by omega
 have hZI : ¬ (Z : Int) = 0 := by omega
 have hpI : ¬ (p : Int) = 0 := by omega
 have hXN : ¬ X = 0 := by omega
 have hZN : ¬ Z = 0 := by omega
 have hpN : ¬ p = 0 := by omega
 have HB := Lib.hid (show Blk w f.F TW [.int .i64 f.lo.1, .int .i64 f.lo.2.1, .int .i64 f.lo.2.2, i64v X, i64v f.Y, i64v Z, f.vC, f.vL, f.vA, f.vT, i64v f.other] by rw [← hXe, ← hZe]; exact hB)
 rw [HPL.out]
 clear hn hbx hlx hly hlz hd hx hz hy hy2 hp hXe hZe hX1 hZ1 hpx hpy hpz hplt hp0 h hW hi hB
 go_enter Tryd.func21, Tryd.ntmps21
 go_wp2_with fail
 have HB1 := Lib.hid (show Blk (w.alloc (.cells #[.int .i64 0, .int .i64 0, .int .i64 0] TP)) f.F TW [.int .i64 f.lo.1, .int .i64 f.lo.2.1, .int .i64 f.lo.2.2, i64v X, i64v f.Y, i64v Z, f.vC, f.vL, f.vA, f.vT, i64v f.other] by have q := HB.out; (repeat' (first | (with_reducible exact q) | (with_reducible refine BlkP.Blk.drew ?_) | (with_reducible refine BlkP.Blk.drewN ?_ _) | (with_reducible refine BlkP.Blk.setAt (us := ?_) (by first | omega | (simp; done) | (simp; omega)) rfl ?_ ?_) | (with_reducible refine BlkP.Blk.otherAt ?_ (by first | omega | (simp; done) | (simp; omega))) | (with_reducible refine BlkP.Blk.newA' (by first | omega | (simp; done) | (simp; omega)) rfl) | (with_reducible refine BlkP.Blk.alloc ?_ _) | (exact rfl))))
 refine wp_region_noPanic ?_
 refine wp_region_held_drew (S := fun Xw => Blk Xw f.F TW [.int .i64 f.lo.1, .int .i64 f.lo.2.1, .int .i64 f.lo.2.2, i64v X, i64v f.Y, i64v Z, f.vC, f.vL, f.vA, f.vT, i64v f.other]) (by kernel_rfl) (HB1.out) (fun hHeld => ?_)
 refine wpAnyH_take (i := 0) (oi := ⟨some 5, _, _, _, _, _⟩) (v := .pointer (some ⟨f.F, 0, none⟩)) rfl (by kernel_rfl) (by kernel_rfl) (by kernel_rfl) (fun _ _ _ h => h) (Or.inl ⟨by rfl, fun Xw hSW => by go_simp⟩) hHeld ?_
 simp only [Act.put, List.setIfInBounds_toArray, List.set_cons_zero, List.set_cons_succ]
 refine wpAnyH_take (i := 1) (oi := ⟨some 6, _, _, _, _, _⟩) (v := .pointer (some ⟨f.F, 0, none⟩)) rfl (by kernel_rfl) (by kernel_rfl) (by kernel_rfl) (fun _ _ _ h => h) (Or.inl ⟨by rfl, fun Xw hSW => by go_simp⟩) hHeld ?_
 simp only [Act.put, List.setIfInBounds_toArray, List.set_cons_zero, List.set_cons_succ]
 refine wpAnyH_take (i := 2) (oi := ⟨some 7, _, _, _, _, _⟩) (v := .pointer (some ⟨f.F, 0, none⟩)) rfl (by kernel_rfl) (by kernel_rfl) (by kernel_rfl) (fun _ _ _ h => h) (Or.inl ⟨by rfl, fun Xw hSW => by go_simp⟩) hHeld ?_
 simp only [Act.put, List.setIfInBounds_toArray, List.set_cons_zero, List.set_cons_succ]
 refine wpAnyH_take (i := 3) (oi := ⟨some 8, _, _, _, _, _⟩) (v := .pointer (some ⟨f.F, 0, none⟩)) rfl (by kernel_rfl) (by kernel_rfl) (by kernel_rfl) (fun _ _ _ h => h) (Or.inl ⟨by rfl, fun Xw hSW => by go_simp⟩) hHeld ?_
 simp only [Act.put, List.setIfInBounds_toArray, List.set_cons_zero, List.set_cons_succ]
 refine wpAnyH_take (i := 4) (oi := ⟨some 9, _, _, _, _, _⟩) (v := .int .i64 f.lo.1) rfl (by kernel_rfl) (by kernel_rfl) (by kernel_rfl) (fun _ _ _ h => h) (Or.inl ⟨by rfl, fun Xw hSW => by have k0 : Xw.cell? ⟨f.F, 0, none⟩ = some (.int .i64 f.lo.1) := hSW.cell (i := 0) rfl; go_simp⟩) hHeld ?_
 simp only [Act.put, List.setIfInBounds_toArray, List.set_cons_zero, List.set_cons_succ]
 refine wpAnyH_take (i := 5) (oi := ⟨some 10, _, _, _, _, _⟩) (v := .int .i64 (i : Int)) rfl (by kernel_rfl) (by kernel_rfl) (by kernel_rfl) (fun _ _ _ h => h) (Or.inl ⟨by rfl, fun Xw hSW => by go_simp⟩) hHeld ?_
 simp only [Act.put, List.setIfInBounds_toArray, List.set_cons_zero, List.set_cons_succ]
 refine wpAnyH_take (i := 6) (oi := ⟨some 11, _, _, _, _, _⟩) (v := .pointer (some ⟨f.F, 0, none⟩)) rfl (by kernel_rfl) (by kernel_rfl) (by kernel_rfl) (fun _ _ _ h => h) (Or.inl ⟨by rfl, fun Xw hSW => by go_simp⟩) hHeld ?_
 simp only [Act.put, List.setIfInBounds_toArray, List.set_cons_zero, List.set_cons_succ]
 refine wpAnyH_take (i := 7) (oi := ⟨some 12, _, _, _, _, _⟩) (v := .pointer (some ⟨f.F, 0, none⟩)) rfl (by kernel_rfl) (by kernel_rfl) (by kernel_rfl) (fun _ _ _ h => h) (Or.inl ⟨by rfl, fun Xw hSW => by go_simp⟩) hHeld ?_
 simp only [Act.put, List.setIfInBounds_toArray, List.set_cons_zero, List.set_cons_succ]
 refine wpAnyH_take (i := 8) (oi := ⟨some 13, _, _, _, _, _⟩) (v := .pointer (some ⟨f.F, 3, none⟩)) rfl (by kernel_rfl) (by kernel_rfl) (by kernel_rfl) (fun _ _ _ h => h) (Or.inl ⟨by rfl, fun Xw hSW => by go_simp⟩) hHeld ?_
 simp only [Act.put, List.setIfInBounds_toArray, List.set_cons_zero, List.set_cons_succ]
 refine wpAnyH_take (i := 9) (oi := ⟨some 14, _, _, _, _, _⟩) (v := .pointer (some ⟨f.F, 3, none⟩)) rfl (by kernel_rfl) (by kernel_rfl) (by kernel_rfl) (fun _ _ _ h => h) (Or.inl ⟨by rfl, fun Xw hSW => by go_simp⟩) hHeld ?_
 simp only [Act.put, List.setIfInBounds_toArray, List.set_cons_zero, List.set_cons_succ]
 refine wpAnyH_take (i := 10) (oi := ⟨some 15, _, _, _, _, _⟩) (v := .int .i64 (X : Int)) rfl (by kernel_rfl) (by kernel_rfl) (by kernel_rfl) (fun _ _ _ h => h) (Or.inl ⟨by rfl, fun Xw hSW => by have k3 : Xw.cell? ⟨f.F, 3, none⟩ = some (.int .i64 (X : Int)) := hSW.cell (i := 3) rfl; go_simp⟩) hHeld ?_
 simp only [Act.put, List.setIfInBounds_toArray, List.set_cons_zero, List.set_cons_succ]
 refine wpAnyH_take (i := 11) (oi := ⟨some 16, _, _, _, _, _⟩) (v := .int .i64 (x : Int)) rfl (by kernel_rfl) (by kernel_rfl) (by kernel_rfl) (fun _ _ _ h => h) (Or.inl ⟨by rfl, fun Xw hSW => by go_simp⟩) hHeld ?_
 simp only [Act.put, List.setIfInBounds_toArray, List.set_cons_zero, List.set_cons_succ]
 refine wpAnyH_take (i := 12) (oi := ⟨some 17, _, _, _, _, _⟩) (v := .int .i64 px) rfl (by kernel_rfl) (by kernel_rfl) (by kernel_rfl) (fun _ _ _ h => h) (Or.inl ⟨by rfl, fun Xw hSW => by go_simp; exact A0.out⟩) hHeld ?_
 simp only [Act.put, List.setIfInBounds_toArray, List.set_cons_zero, List.set_cons_succ]
 refine wpAnyH_take (i := 13) (oi := ⟨some 18, _, _, _, _, _⟩) (v := .pointer (some ⟨f.F, 0, none⟩)) rfl (by kernel_rfl) (by kernel_rfl) (by kernel_rfl) (fun _ _ _ h => h) (Or.inl ⟨by rfl, fun Xw hSW => by go_simp⟩) hHeld ?_
 simp only [Act.put, List.setIfInBounds_toArray, List.set_cons_zero, List.set_cons_succ]
 refine wpAnyH_take (i := 14) (oi := ⟨some 19, _, _, _, _, _⟩) (v := .pointer (some ⟨f.F, 0, none⟩)) rfl (by kernel_rfl) (by kernel_rfl) (by kernel_rfl) (fun _ _ _ h => h) (Or.inl ⟨by rfl, fun Xw hSW => by go_simp⟩) hHeld ?_
 simp only [Act.put, List.setIfInBounds_toArray, List.set_cons_zero, List.set_cons_succ]
 refine wpAnyH_take (i := 15) (oi := ⟨some 20, _, _, _, _, _⟩) (v := .pointer (some ⟨f.F, 0, none⟩)) rfl (by kernel_rfl) (by kernel_rfl) (by kernel_rfl) (fun _ _ _ h => h) (Or.inl ⟨by rfl, fun Xw hSW => by go_simp⟩) hHeld ?_
 simp only [Act.put, List.setIfInBounds_toArray, List.set_cons_zero, List.set_cons_succ]
 refine wpAnyH_take (i := 16) (oi := ⟨some 21, _, _, _, _, _⟩) (v := .pointer (some ⟨f.F, 1, none⟩)) rfl (by kernel_rfl) (by kernel_rfl) (by kernel_rfl) (fun _ _ _ h => h) (Or.inl ⟨by rfl, fun Xw hSW => by go_simp⟩) hHeld ?_
 simp only [Act.put, List.setIfInBounds_toArray, List.set_cons_zero, List.set_cons_succ]
 refine wpAnyH_take (i := 17) (oi := ⟨some 22, _, _, _, _, _⟩) (v := .int .i64 f.lo.2.1) rfl (by kernel_rfl) (by kernel_rfl) (by kernel_rfl) (fun _ _ _ h => h) (Or.inl ⟨by rfl, fun Xw hSW => by have k1 : Xw.cell? ⟨f.F, 1, none⟩ = some (.int .i64 f.lo.2.1) := hSW.cell (i := 1) rfl; go_simp⟩) hHeld ?_
 simp only [Act.put, List.setIfInBounds_toArray, List.set_cons_zero, List.set_cons_succ]
 refine wpAnyH_take (i := 18) (oi := ⟨some 23, _, _, _, _, _⟩) (v := .int .i64 (i : Int)) rfl (by kernel_rfl) (by kernel_rfl) (by kernel_rfl) (fun _ _ _ h => h) (Or.inl ⟨by rfl, fun Xw hSW => by go_simp⟩) hHeld ?_
 simp only [Act.put, List.setIfInBounds_toArray, List.set_cons_zero, List.set_cons_succ]
 refine wpAnyH_take (i := 19) (oi := ⟨some 24, _, _, _, _, _⟩) (v := .pointer (some ⟨f.F, 0, none⟩)) rfl (by kernel_rfl) (by kernel_rfl) (by kernel_rfl) (fun _ _ _ h => h) (Or.inl ⟨by rfl, fun Xw hSW => by go_simp⟩) hHeld ?_
 simp only [Act.put, List.setIfInBounds_toArray, List.set_cons_zero, List.set_cons_succ]
 refine wpAnyH_take (i := 20) (oi := ⟨some 25, _, _, _, _, _⟩) (v := .pointer (some ⟨f.F, 0, none⟩)) rfl (by kernel_rfl) (by kernel_rfl) (by kernel_rfl) (fun _ _ _ h => h) (Or.inl ⟨by rfl, fun Xw hSW => by go_simp⟩) hHeld ?_
 simp only [Act.put, List.setIfInBounds_toArray, List.set_cons_zero, List.set_cons_succ]
 refine wpAnyH_take (i := 21) (oi := ⟨some 26, _, _, _, _, _⟩) (v := .pointer (some ⟨f.F, 3, none⟩)) rfl (by kernel_rfl) (by kernel_rfl) (by kernel_rfl) (fun _ _ _ h => h) (Or.inl ⟨by rfl, fun Xw hSW => by go_simp⟩) hHeld ?_
 simp only [Act.put, List.setIfInBounds_toArray, List.set_cons_zero, List.set_cons_succ]
 refine wpAnyH_take (i := 22) (oi := ⟨some 27, _, _, _, _, _⟩) (v := .pointer (some ⟨f.F, 3, none⟩)) rfl (by kernel_rfl) (by kernel_rfl) (by kernel_rfl) (fun _ _ _ h => h) (Or.inl ⟨by rfl, fun Xw hSW => by go_simp⟩) hHeld ?_
 simp only [Act.put, List.setIfInBounds_toArray, List.set_cons_zero, List.set_cons_succ]
 refine wpAnyH_take (i := 23) (oi := ⟨some 28, _, _, _, _, _⟩) (v := .int .i64 (X : Int)) rfl (by kernel_rfl) (by kernel_rfl) (by kernel_rfl) (fun _ _ _ h => h) (Or.inl ⟨by rfl, fun Xw hSW => by have k3 : Xw.cell? ⟨f.F, 3, none⟩ = some (.int .i64 (X : Int)) := hSW.cell (i := 3) rfl; go_simp⟩) hHeld ?_
 simp only [Act.put, List.setIfInBounds_toArray, List.set_cons_zero, List.set_cons_succ]
 refine wpAnyH_take (i := 24) (oi := ⟨some 29, _, _, _, _, _⟩) (v := .pointer (some ⟨f.F, 0, none⟩)) rfl (by kernel_rfl) (by kernel_rfl) (by kernel_rfl) (fun _ _ _ h => h) (Or.inl ⟨by rfl, fun Xw hSW => by go_simp⟩) hHeld ?_
 simp only [Act.put, List.setIfInBounds_toArray, List.set_cons_zero, List.set_cons_succ]
 refine wpAnyH_take (i := 25) (oi := ⟨some 30, _, _, _, _, _⟩) (v := .pointer (some ⟨f.F, 0, none⟩)) rfl (by kernel_rfl) (by kernel_rfl) (by kernel_rfl) (fun _ _ _ h => h) (Or.inl ⟨by rfl, fun Xw hSW => by go_simp⟩) hHeld ?_
 simp only [Act.put, List.setIfInBounds_toArray, List.set_cons_zero, List.set_cons_succ]
 refine wpAnyH_take (i := 26) (oi := ⟨some 31, _, _, _, _, _⟩) (v := .pointer (some ⟨f.F, 3, none⟩)) rfl (by kernel_rfl) (by kernel_rfl) (by kernel_rfl) (fun _ _ _ h => h) (Or.inl ⟨by rfl, fun Xw hSW => by go_simp⟩) hHeld ?_
 simp only [Act.put, List.setIfInBounds_toArray, List.set_cons_zero, List.set_cons_succ]
 refine wpAnyH_take (i := 27) (oi := ⟨some 32, _, _, _, _, _⟩) (v := .pointer (some ⟨f.F, 5, none⟩)) rfl (by kernel_rfl) (by kernel_rfl) (by kernel_rfl) (fun _ _ _ h => h) (Or.inl ⟨by rfl, fun Xw hSW => by go_simp⟩) hHeld ?_
 simp only [Act.put, List.setIfInBounds_toArray, List.set_cons_zero, List.set_cons_succ]
 refine wpAnyH_take (i := 28) (oi := ⟨some 33, _, _, _, _, _⟩) (v := .int .i64 (Z : Int)) rfl (by kernel_rfl) (by kernel_rfl) (by kernel_rfl) (fun _ _ _ h => h) (Or.inl ⟨by rfl, fun Xw hSW => by have k5 : Xw.cell? ⟨f.F, 5, none⟩ = some (.int .i64 (Z : Int)) := hSW.cell (i := 5) rfl; go_simp⟩) hHeld ?_
 simp only [Act.put, List.setIfInBounds_toArray, List.set_cons_zero, List.set_cons_succ]
 refine wpAnyH_take (i := 29) (oi := ⟨some 34, _, _, _, _, _⟩) (v := .int .i64 (p : Int)) rfl (by kernel_rfl) (by kernel_rfl) (by kernel_rfl) (fun _ _ _ h => h) (Or.inl ⟨by rfl, fun Xw hSW => by go_simp; exact M0.out⟩) hHeld ?_
 simp only [Act.put, List.setIfInBounds_toArray, List.set_cons_zero, List.set_cons_succ]
 refine wpAnyH_take (i := 30) (oi := ⟨some 35, _, _, _, _, _⟩) (v := .int .i64 (y : Int)) rfl (by kernel_rfl) (by kernel_rfl) (by kernel_rfl) (fun _ _ _ h => h) (Or.inl ⟨by rfl, fun Xw hSW => by go_simp; exact QY.out⟩) hHeld ?_
 simp only [Act.put, List.setIfInBounds_toArray, List.set_cons_zero, List.set_cons_succ]
 refine wpAnyH_take (i := 31) (oi := ⟨some 36, _, _, _, _, _⟩) (v := .int .i64 py) rfl (by kernel_rfl) (by kernel_rfl) (by kernel_rfl) (fun _ _ _ h => h) (Or.inl ⟨by rfl, fun Xw hSW => by go_simp; exact A1.out⟩) hHeld ?_
 simp only [Act.put, List.setIfInBounds_toArray, List.set_cons_zero, List.set_cons_succ]
 refine wpAnyH_take (i := 32) (oi := ⟨some 37, _, _, _, _, _⟩) (v := .pointer (some ⟨f.F, 0, none⟩)) rfl (by kernel_rfl) (by kernel_rfl) (by kernel_rfl) (fun _ _ _ h => h) (Or.inl ⟨by rfl, fun Xw hSW => by go_simp⟩) hHeld ?_
 simp only [Act.put, List.setIfInBounds_toArray, List.set_cons_zero, List.set_cons_succ]
 refine wpAnyH_take (i := 33) (oi := ⟨some 38, _, _, _, _, _⟩) (v := .pointer (some ⟨f.F, 0, none⟩)) rfl (by kernel_rfl) (by kernel_rfl) (by kernel_rfl) (fun _ _ _ h => h) (Or.inl ⟨by rfl, fun Xw hSW => by go_simp⟩) hHeld ?_
 simp only [Act.put, List.setIfInBounds_toArray, List.set_cons_zero, List.set_cons_succ]
 refine wpAnyH_take (i := 34) (oi := ⟨some 39, _, _, _, _, _⟩) (v := .pointer (some ⟨f.F, 0, none⟩)) rfl (by kernel_rfl) (by kernel_rfl) (by kernel_rfl) (fun _ _ _ h => h) (Or.inl ⟨by rfl, fun Xw hSW => by go_simp⟩) hHeld ?_
 simp only [Act.put, List.setIfInBounds_toArray, List.set_cons_zero, List.set_cons_succ]
 refine wpAnyH_take (i := 35) (oi := ⟨some 40, _, _, _, _, _⟩) (v := .pointer (some ⟨f.F, 2, none⟩)) rfl (by kernel_rfl) (by kernel_rfl) (by kernel_rfl) (fun _ _ _ h => h) (Or.inl ⟨by rfl, fun Xw hSW => by go_simp⟩) hHeld ?_
 simp only [Act.put, List.setIfInBounds_toArray, List.set_cons_zero, List.set_cons_succ]
 refine wpAnyH_take (i := 36) (oi := ⟨some 41, _, _, _, _, _⟩) (v := .int .i64 f.lo.2.2) rfl (by kernel_rfl) (by kernel_rfl) (by kernel_rfl) (fun _ _ _ h => h) (Or.inl ⟨by rfl, fun Xw hSW => by have k2 : Xw.cell? ⟨f.F, 2, none⟩ = some (.int .i64 f.lo.2.2) := hSW.cell (i := 2) rfl; go_simp⟩) hHeld ?_
 simp only [Act.put, List.setIfInBounds_toArray, List.set_cons_zero, List.set_cons_succ]
 refine wpAnyH_take (i := 37) (oi := ⟨some 42, _, _, _, _, _⟩) (v := .int .i64 (i : Int)) rfl (by kernel_rfl) (by kernel_rfl) (by kernel_rfl) (fun _ _ _ h => h) (Or.inl ⟨by rfl, fun Xw hSW => by go_simp⟩) hHeld ?_
 simp only [Act.put, List.setIfInBounds_toArray, List.set_cons_zero, List.set_cons_succ]
 refine wpAnyH_take (i := 38) (oi := ⟨some 43, _, _, _, _, _⟩) (v := .pointer (some ⟨f.F, 0, none⟩)) rfl (by kernel_rfl) (by kernel_rfl) (by kernel_rfl) (fun _ _ _ h => h) (Or.inl ⟨by rfl, fun Xw hSW => by go_simp⟩) hHeld ?_
 simp only [Act.put, List.setIfInBounds_toArray, List.set_cons_zero, List.set_cons_succ]
 refine wpAnyH_take (i := 39) (oi := ⟨some 44, _, _, _, _, _⟩) (v := .pointer (some ⟨f.F, 0, none⟩)) rfl (by kernel_rfl) (by kernel_rfl) (by kernel_rfl) (fun _ _ _ h => h) (Or.inl ⟨by rfl, fun Xw hSW => by go_simp⟩) hHeld ?_
 simp only [Act.put, List.setIfInBounds_toArray, List.set_cons_zero, List.set_cons_succ]
 refine wpAnyH_take (i := 40) (oi := ⟨some 45, _, _, _, _, _⟩) (v := .pointer (some ⟨f.F, 3, none⟩)) rfl (by kernel_rfl) (by kernel_rfl) (by kernel_rfl) (fun _ _ _ h => h) (Or.inl ⟨by rfl, fun Xw hSW => by go_simp⟩) hHeld ?_
 simp only [Act.put, List.setIfInBounds_toArray, List.set_cons_zero, List.set_cons_succ]
 refine wpAnyH_take (i := 41) (oi := ⟨some 46, _, _, _, _, _⟩) (v := .pointer (some ⟨f.F, 3, none⟩)) rfl (by kernel_rfl) (by kernel_rfl) (by kernel_rfl) (fun _ _ _ h => h) (Or.inl ⟨by rfl, fun Xw hSW => by go_simp⟩) hHeld ?_
 simp only [Act.put, List.setIfInBounds_toArray, List.set_cons_zero, List.set_cons_succ]
 refine wpAnyH_take (i := 42) (oi := ⟨some 47, _, _, _, _, _⟩) (v := .int .i64 (X : Int)) rfl (by kernel_rfl) (by kernel_rfl) (by kernel_rfl) (fun _ _ _ h => h) (Or.inl ⟨by rfl, fun Xw hSW => by have k3 : Xw.cell? ⟨f.F, 3, none⟩ = some (.int .i64 (X : Int)) := hSW.cell (i := 3) rfl; go_simp⟩) hHeld ?_
 simp only [Act.put, List.setIfInBounds_toArray, List.set_cons_zero, List.set_cons_succ]
 refine wpAnyH_take (i := 43) (oi := ⟨some 48, _, _, _, _, _⟩) (v := .int .i64 (d : Int)) rfl (by kernel_rfl) (by kernel_rfl) (by kernel_rfl) (fun _ _ _ h => h) (Or.inl ⟨by rfl, fun Xw hSW => by go_simp; exact QD.out⟩) hHeld ?_
 simp only [Act.put, List.setIfInBounds_toArray, List.set_cons_zero, List.set_cons_succ]
 refine wpAnyH_take (i := 44) (oi := ⟨some 49, _, _, _, _, _⟩) (v := .pointer (some ⟨f.F, 0, none⟩)) rfl (by kernel_rfl) (by kernel_rfl) (by kernel_rfl) (fun _ _ _ h => h) (Or.inl ⟨by rfl, fun Xw hSW => by go_simp⟩) hHeld ?_
 simp only [Act.put, List.setIfInBounds_toArray, List.set_cons_zero, List.set_cons_succ]
 refine wpAnyH_take (i := 45) (oi := ⟨some 50, _, _, _, _, _⟩) (v := .pointer (some ⟨f.F, 0, none⟩)) rfl (by kernel_rfl) (by kernel_rfl) (by kernel_rfl) (fun _ _ _ h => h) (Or.inl ⟨by rfl, fun Xw hSW => by go_simp⟩) hHeld ?_
 simp only [Act.put, List.setIfInBounds_toArray, List.set_cons_zero, List.set_cons_succ]
 refine wpAnyH_take (i := 46) (oi := ⟨some 51, _, _, _, _, _⟩) (v := .pointer (some ⟨f.F, 3, none⟩)) rfl (by kernel_rfl) (by kernel_rfl) (by kernel_rfl) (fun _ _ _ h => h) (Or.inl ⟨by rfl, fun Xw hSW => by go_simp⟩) hHeld ?_
 simp only [Act.put, List.setIfInBounds_toArray, List.set_cons_zero, List.set_cons_succ]
 refine wpAnyH_take (i := 47) (oi := ⟨some 52, _, _, _, _, _⟩) (v := .pointer (some ⟨f.F, 5, none⟩)) rfl (by kernel_rfl) (by kernel_rfl) (by kernel_rfl) (fun _ _ _ h => h) (Or.inl ⟨by rfl, fun Xw hSW => by go_simp⟩) hHeld ?_
 simp only [Act.put, List.setIfInBounds_toArray, List.set_cons_zero, List.set_cons_succ]
 refine wpAnyH_take (i := 48) (oi := ⟨some 53, _, _, _, _, _⟩) (v := .int .i64 (Z : Int)) rfl (by kernel_rfl) (by kernel_rfl) (by kernel_rfl) (fun _ _ _ h => h) (Or.inl ⟨by rfl, fun Xw hSW => by have k5 : Xw.cell? ⟨f.F, 5, none⟩ = some (.int .i64 (Z : Int)) := hSW.cell (i := 5) rfl; go_simp⟩) hHeld ?_
 simp only [Act.put, List.setIfInBounds_toArray, List.set_cons_zero, List.set_cons_succ]
 refine wpAnyH_take (i := 49) (oi := ⟨some 54, _, _, _, _, _⟩) (v := .int .i64 (z : Int)) rfl (by kernel_rfl) (by kernel_rfl) (by kernel_rfl) (fun _ _ _ h => h) (Or.inl ⟨by rfl, fun Xw hSW => by go_simp⟩) hHeld ?_
 simp only [Act.put, List.setIfInBounds_toArray, List.set_cons_zero, List.set_cons_succ]
 refine wpAnyH_take (i := 50) (oi := ⟨some 55, _, _, _, _, _⟩) (v := .int .i64 pz) rfl (by kernel_rfl) (by kernel_rfl) (by kernel_rfl) (fun _ _ _ h => h) (Or.inl ⟨by rfl, fun Xw hSW => by go_simp; exact A2.out⟩) hHeld ?_
 simp only [Act.put, List.setIfInBounds_toArray, List.set_cons_zero, List.set_cons_succ]
 refine wpAnyH_take (i := 51) (oi := ⟨some 56, _, _, _, _, _⟩) (v := .agg #[.int .i64 px, .int .i64 py, .int .i64 pz]) rfl (by kernel_rfl) (by kernel_rfl) (by kernel_rfl) (fun _ _ _ h => h) (Or.inl ⟨by rfl, fun Xw hSW => by go_simp⟩) hHeld ?_
 simp only [Act.put, List.setIfInBounds_toArray, List.set_cons_zero, List.set_cons_succ]
 refine wpAnyH_ready (rs := [52]) (by kernel_rfl) (by simp) ?_
 refine AllReadyH.cons (o := ⟨none, _, _, _, _, _⟩) rfl (fun K hK => ?_) AllReadyH.nil
 go_simp
 refine hK.out _ _ (by (have q := HB.out; (repeat' (first | (with_reducible exact q) | (with_reducible refine BlkP.Blk.drew ?_) | (with_reducible refine BlkP.Blk.drewN ?_ _) | (with_reducible refine BlkP.Blk.setAt (us := ?_) (by first | omega | (simp; done) | (simp; omega)) rfl ?_ ?_) | (with_reducible refine BlkP.Blk.otherAt ?_ (by first | omega | (simp; done) | (simp; omega))) | (with_reducible refine BlkP.Blk.newA' (by first | omega | (simp; done) | (simp; omega)) rfl) | (with_reducible refine BlkP.Blk.alloc ?_ _) | (exact rfl))))) (fun hHeld => ?_)
 clear hK K
 refine wpAnyH_done (by kernel_rfl) ?_ _
 refine NoPanic.normal ?_
 go_wp2_with fail
 refine bodyPost_ret (v := .agg #[.int .i64 px, .int .i64 py, .int .i64 pz]) (by simp [results, Tryd.results21, go_sem]) rfl ?_
 exact ⟨rfl, by (repeat' (first | (with_reducible exact Below.refl _ _) | (with_reducible refine Below.setCell ?_ (by (first | omega | (simp; done) | (simp; omega))) _) | (with_reducible refine Below.alloc ?_ (by (first | omega | (simp; done) | (simp; omega))) _) | (with_reducible refine Below.drew ?_) | (with_reducible refine below_drewN ?_ _)))⟩
end FloodW
end Go.Proofs.YtpimkdaikoclnaaDoor
namespace Go.Proofs.YtpimkdaikoclnaaDoor
open Go.RowKit
set_option linter.unusedVariables false
set_option linter.unusedSimpArgs false
namespace FloodW
open BlkP RowG GlowW FloodP
def dk (j : Nat) (l : List (Nat × Nat)) : List (Nat × Nat) := (l.take j).map (fun a => (0, a.2)) ++ l.drop j
theorem dk_zero (l : List (Nat × Nat)) : dk 0 l = l := by simp [dk]
theorem dk_all {j : Nat} {l : List (Nat × Nat)} (h : l.length ≤ j) : dk j l = l.map (fun a => (0, a.2)) := by
 unfold dk
 rw [List.take_of_length_le h, List.drop_eq_nil_of_le h, List.append_nil]
theorem dk_get {j : Nat} {l : List (Nat × Nat)} {x : Nat × Nat} (h : l[j]? = some x) : (dk j l)[j]? = some x := by
 have hj := (List.getElem?_eq_some_iff.1 h).1
 unfold dk
 rw [List.getElem?_append_right (by simp; omega)]
 simp [h, Nat.min_eq_left (Nat.le_of_lt hj)]
theorem dk_next {j : Nat} {l : List (Nat × Nat)} {x : Nat × Nat} (h : l[j]? = some x) : (dk j l).set j (0, x.2) = dk (j + 1) l := by
 have hj := (List.getElem?_eq_some_iff.1 h).1
 have hx : l[j] = x := (List.getElem?_eq_some_iff.1 h).2
 unfold dk
 rw [List.set_append_right _ _ (by simp; omega)]
 have e1 : j - ((l.take j).map fun a => ((0 : Nat), a.2)).length = 0 := by simp; omega
 rw [e1, List.take_add_one, h, List.drop_eq_getElem_cons hj, hx]
 simp
theorem grown_drew {w w' : World} {r : Option Nat} (h : w.grownBy w' r) : w.grownBy w'.drew r := ⟨h.os, h.tape, h.output, h.size, h.block⟩
set_option maxRecDepth 100000 in
set_option maxHeartbeats 16000000 in
theorem right_c {w : World} {f : Fld} (h : FldM w f) (hW : FldC f) : Calls Tryd.prog 18 #[.pointer (some ⟨f.F, 0, none⟩)] w (OwnL w (rightL f)) := by
 have hN := hW.n
 obtain ⟨n, hn⟩ : ∃ n, f.X * f.Y * f.Z = n := ⟨_, rfl⟩
 rw [hn] at hN
 have HN := Lib.hid hn
 have hx := hW.x
 have hy := hW.y
 have hz := hW.z
 have hly := hW.ly
 have HB := Lib.hid h.blk
 have hcs : f.cs.length = n := by rw [hW.cs, hn]
 have hrd := h.cs.rd
 obtain ⟨A, c, hv, _, _, hA⟩ := h.cs.form hcs
 obtain ⟨bb, rfl, _, _⟩ := hA (by omega)
 rw [hv] at hrd
 have HRD := Lib.hid hrd
 have HCS := Lib.hid hcs
 have k3 : w.cell? ⟨f.F, 3, none⟩ = some (.int .i64 (f.X : Int)) := h.blk.cell (i := 3) rfl
 have k4 : w.cell? ⟨f.F, 4, none⟩ = some (.int .i64 (f.Y : Int)) := h.blk.cell (i := 4) rfl
 have k5 : w.cell? ⟨f.F, 5, none⟩ = some (.int .i64 (f.Z : Int)) := h.blk.cell (i := 5) rfl
 have k6 : w.cell? ⟨f.F, 6, none⟩ = some (.slice (some ⟨bb, 0, none⟩) n c) := (h.blk.cell (i := 6) (v := f.vC) rfl).trans (congrArg some hv)
 have hFl := h.blk.lt
 obtain ⟨L, hL⟩ : ∃ L, lightA f.X f.Y f.Z f.cs = L := ⟨_, rfl⟩
 have HL := Lib.hid hL
 have HLL := Lib.hid (show L.length = n by rw [← hL, lightA_len, hn])
 have hlit := rlight_c (w := w) (X := f.X) (Y := f.Y) (Z := f.Z) (n := n) (c := c) (bb := bb) (oo := 0) (cs := f.cs) (by omega) (by omega) (by omega) hn (by omega) hrd hcs.symm
 rw [hL] at hlit
 have HLIT := Lib.hid hlit
 clear hn hrd hv hA hcs hL hlit h
 go_enter Tryd.func18, Tryd.ntmps18
 go_wp2_with fail
 go_at_call 30
 refine HLIT.out.mono ?_
 rintro e w1 ⟨v, rfl, ho, hb⟩
 obtain ⟨A1, c1, rfl, _, _, hA1⟩ := ho.form HLL.out
 obtain ⟨g, rfl, hg1, hg2⟩ := hA1 (by omega)
 have HO := Lib.hid ho
 have HBE := Lib.hid hb
 have HB1 := Lib.hid (HB.out.below hb)
 clear hA1 ho hb k3 k4 k5 k6
 obtain ⟨s, hs⟩ : ∃ s : Int, f.lo.2.1 + (f.Y : Int) = s := ⟨_, rfl⟩
 have HS := Lib.hid hs
 have WS := Lib.hid (wrI hs (by omega) (by omega))
 have hsb : s ≤ 64 := by omega
 clear hs hly hx hy hz
 have HEXT : Hid (f.F ≠ g) := Lib.hid (by omega)
 go_wp2_with fail
 by_cases hlow : s < 64
 ·have HRR := Lib.hid (show rightL f = dk n L by
   unfold rightL
   rw [HL.out, dk_all (by rw [HLL.out]; exact Nat.le_refl _)]
   simp only [HS.out, hlow, if_true])
  go_loopw [4] (fun v wr => ∃ j : Nat, v = .int .i64 (j : Nat) ∧ j ≤ n ∧ RowG.Own enc2 TL wr w.heap.size (.slice (some ⟨g, 0, none⟩) n c1) (dk j L) ∧ w1.grownBy wr (some g)) (fun v _ => n - (intOf v).toNat)
  case atStart => exact ⟨0, rfl, by omega, by rw [dk_zero]; exact HO.out, ⟨rfl, rfl, rfl, Nat.le_refl _, fun _ _ _ => rfl⟩⟩
  case round =>
   obtain ⟨j, rfl, hj, hdk, hgr⟩ := hrel
   have HDK := Lib.hid hdk
   have HGR := Lib.hid hgr
   have HBR := Lib.hid (show Blk wr f.F TW (fcells f) from (Fr.grown (S := fun k => some g = some k) hgr (fun i e => e)).blk HB1.out (fun e => HEXT.out (by injection e with e; exact e.symm)))
   clear hdk hgr
   by_cases hjn : j < n
   ·have hjI : (j : Int) < n := by omega
    obtain ⟨x, hx⟩ : ∃ x, L[j]? = some x := ⟨_, List.getElem?_eq_getElem (by rw [HLL.out]; exact hjn)⟩
    have HX := Lib.hid hx
    go_wp2_with fail
    refine wp_region_noPanic ?_
    refine wp_region_held_drew (S := fun Xw => Blk Xw f.F TW (fcells f)) (by kernel_rfl) (HBR.out) (fun hHeld => ?_)
    refine wpAnyH_take (i := 0) (oi := ⟨some 10, _, _, _, _, _⟩) (v := .int .i64 (j : Int)) rfl (by kernel_rfl) (by kernel_rfl) (by kernel_rfl) (fun _ _ _ h => h) (Or.inl ⟨by rfl, fun Xw hSW => by go_simp⟩) hHeld ?_
    simp only [Act.put, List.setIfInBounds_toArray, List.set_cons_zero, List.set_cons_succ]
    refine wpAnyH_take (i := 1) (oi := ⟨some 11, _, _, _, _, _⟩) (v := .slice (some ⟨g, 0, none⟩) n c1) rfl (by kernel_rfl) (by kernel_rfl) (by kernel_rfl) (fun _ _ _ h => h) (Or.inl ⟨by rfl, fun Xw hSW => by go_simp⟩) hHeld ?_
    simp only [Act.put, List.setIfInBounds_toArray, List.set_cons_zero, List.set_cons_succ]
    refine wpAnyH_take (i := 2) (oi := ⟨some 12, _, _, _, _, _⟩) (v := .int .i64 (n : Int)) rfl (by kernel_rfl) (by kernel_rfl) (by kernel_rfl) (fun _ _ _ h => h) (Or.inl ⟨by rfl, fun Xw hSW => by go_simp⟩) hHeld ?_
    simp only [Act.put, List.setIfInBounds_toArray, List.set_cons_zero, List.set_cons_succ]
    refine wpAnyH_take (i := 3) (oi := ⟨some 13, _, _, _, _, _⟩) (v := .bool true) rfl (by kernel_rfl) (by kernel_rfl) (by kernel_rfl) (fun _ _ _ h => h) (Or.inl ⟨by rfl, fun Xw hSW => by go_simp⟩) hHeld ?_
    simp only [Act.put, List.setIfInBounds_toArray, List.set_cons_zero, List.set_cons_succ]
    refine wpAnyH_take (i := 4) (oi := ⟨some 14, _, _, _, _, _⟩) (v := .bool true) rfl (by kernel_rfl) (by kernel_rfl) (by kernel_rfl) (fun _ _ _ h => h) (Or.inl ⟨by rfl, fun Xw hSW => by go_simp⟩) hHeld ?_
    simp only [Act.put, List.setIfInBounds_toArray, List.set_cons_zero, List.set_cons_succ]
    refine wpAnyH_take (i := 5) (oi := ⟨some 15, _, _, _, _, _⟩) (v := .pointer (some ⟨f.F, 0, none⟩)) rfl (by kernel_rfl) (by kernel_rfl) (by kernel_rfl) (fun _ _ _ h => h) (Or.inl ⟨by rfl, fun Xw hSW => by go_simp⟩) hHeld ?_
    simp only [Act.put, List.setIfInBounds_toArray, List.set_cons_zero, List.set_cons_succ]
    refine wpAnyH_take (i := 6) (oi := ⟨some 16, _, _, _, _, _⟩) (v := .pointer (some ⟨f.F, 0, none⟩)) rfl (by kernel_rfl) (by kernel_rfl) (by kernel_rfl) (fun _ _ _ h => h) (Or.inl ⟨by rfl, fun Xw hSW => by go_simp⟩) hHeld ?_
    simp only [Act.put, List.setIfInBounds_toArray, List.set_cons_zero, List.set_cons_succ]
    refine wpAnyH_take (i := 7) (oi := ⟨some 17, _, _, _, _, _⟩) (v := .pointer (some ⟨f.F, 0, none⟩)) rfl (by kernel_rfl) (by kernel_rfl) (by kernel_rfl) (fun _ _ _ h => h) (Or.inl ⟨by rfl, fun Xw hSW => by go_simp⟩) hHeld ?_
    simp only [Act.put, List.setIfInBounds_toArray, List.set_cons_zero, List.set_cons_succ]
    refine wpAnyH_take (i := 8) (oi := ⟨some 18, _, _, _, _, _⟩) (v := .pointer (some ⟨f.F, 1, none⟩)) rfl (by kernel_rfl) (by kernel_rfl) (by kernel_rfl) (fun _ _ _ h => h) (Or.inl ⟨by rfl, fun Xw hSW => by go_simp⟩) hHeld ?_
    simp only [Act.put, List.setIfInBounds_toArray, List.set_cons_zero, List.set_cons_succ]
    refine wpAnyH_take (i := 9) (oi := ⟨some 19, _, _, _, _, _⟩) (v := .int .i64 f.lo.2.1) rfl (by kernel_rfl) (by kernel_rfl) (by kernel_rfl) (fun _ _ _ h => h) (Or.inl ⟨by rfl, fun Xw hSW => by have k := hSW.cell (i := 1) (v := .int .i64 f.lo.2.1) rfl; go_simp⟩) hHeld ?_
    simp only [Act.put, List.setIfInBounds_toArray, List.set_cons_zero, List.set_cons_succ]
    refine wpAnyH_take (i := 10) (oi := ⟨some 20, _, _, _, _, _⟩) (v := .pointer (some ⟨f.F, 0, none⟩)) rfl (by kernel_rfl) (by kernel_rfl) (by kernel_rfl) (fun _ _ _ h => h) (Or.inl ⟨by rfl, fun Xw hSW => by go_simp⟩) hHeld ?_
    simp only [Act.put, List.setIfInBounds_toArray, List.set_cons_zero, List.set_cons_succ]
    refine wpAnyH_take (i := 11) (oi := ⟨some 21, _, _, _, _, _⟩) (v := .pointer (some ⟨f.F, 0, none⟩)) rfl (by kernel_rfl) (by kernel_rfl) (by kernel_rfl) (fun _ _ _ h => h) (Or.inl ⟨by rfl, fun Xw hSW => by go_simp⟩) hHeld ?_
    simp only [Act.put, List.setIfInBounds_toArray, List.set_cons_zero, List.set_cons_succ]
    refine wpAnyH_take (i := 12) (oi := ⟨some 22, _, _, _, _, _⟩) (v := .pointer (some ⟨f.F, 3, none⟩)) rfl (by kernel_rfl) (by kernel_rfl) (by kernel_rfl) (fun _ _ _ h => h) (Or.inl ⟨by rfl, fun Xw hSW => by go_simp⟩) hHeld ?_
    simp only [Act.put, List.setIfInBounds_toArray, List.set_cons_zero, List.set_cons_succ]
    refine wpAnyH_take (i := 13) (oi := ⟨some 23, _, _, _, _, _⟩) (v := .pointer (some ⟨f.F, 4, none⟩)) rfl (by kernel_rfl) (by kernel_rfl) (by kernel_rfl) (fun _ _ _ h => h) (Or.inl ⟨by rfl, fun Xw hSW => by go_simp⟩) hHeld ?_
    simp only [Act.put, List.setIfInBounds_toArray, List.set_cons_zero, List.set_cons_succ]
    refine wpAnyH_take (i := 14) (oi := ⟨some 24, _, _, _, _, _⟩) (v := .int .i64 (f.Y : Int)) rfl (by kernel_rfl) (by kernel_rfl) (by kernel_rfl) (fun _ _ _ h => h) (Or.inl ⟨by rfl, fun Xw hSW => by have k : Xw.cell? ⟨f.F, 4, none⟩ = some (.int .i64 (f.Y : Int)) := hSW.cell (i := 4) rfl; go_simp⟩) hHeld ?_
    simp only [Act.put, List.setIfInBounds_toArray, List.set_cons_zero, List.set_cons_succ]
    refine wpAnyH_take (i := 15) (oi := ⟨some 25, _, _, _, _, _⟩) (v := .int .i64 s) rfl (by kernel_rfl) (by kernel_rfl) (by kernel_rfl) (fun _ _ _ h => h) (Or.inl ⟨by rfl, fun Xw hSW => by go_simp; exact WS.out⟩) hHeld ?_
    simp only [Act.put, List.setIfInBounds_toArray, List.set_cons_zero, List.set_cons_succ]
    refine wpAnyH_take (i := 16) (oi := ⟨some 26, _, _, _, _, _⟩) (v := .bool true) rfl (by kernel_rfl) (by kernel_rfl) (by kernel_rfl) (fun _ _ _ h => h) (Or.inl ⟨by rfl, fun Xw hSW => by go_simp⟩) hHeld ?_
    simp only [Act.put, List.setIfInBounds_toArray, List.set_cons_zero, List.set_cons_succ]
    refine wpAnyH_take (i := 17) (oi := ⟨some 27, _, _, _, _, _⟩) (v := .bool true) rfl (by kernel_rfl) (by kernel_rfl) (by kernel_rfl) (fun _ _ _ h => h) (Or.inl ⟨by rfl, fun Xw hSW => by go_simp⟩) hHeld ?_
    simp only [Act.put, List.setIfInBounds_toArray, List.set_cons_zero, List.set_cons_succ]
    refine wpAnyH_done (by kernel_rfl) ?_ _
    refine NoPanic.normal ?_
    have HH := Lib.hid hHeld
    have k0 : wr.drew.cell? ⟨g, j * 2, none⟩ = some (.int .u8 (x.1 : Int)) := HDK.out.drew.cell (j := 0) (dk_get hx) rfl
    have z0 : wr.drew.frozen? ⟨g, j * 2, none⟩ = false := HDK.out.drew.frozen (j * 2)
    have HWR := Lib.hid (show wrap64 ((j : Int) + 1) = ((j + 1 : Nat) : Int) by rw [wr64 (by omega) (by omega)]; omega)
    clear hx hHeld
    go_wp2_with fail
    go_roundw
    case rel =>
     have q := HDK.out.store (i := j) (j := 0) (x := x) (y := (0, x.2)) (u := .int .u8 0) (dk_get HX.out) (by decide) rfl
     rw [dk_next HX.out] at q
     exact ⟨j + 1, by first | rfl | rw [HWR.out] | (congr 1; omega), by omega, q.1.drew, grown_drew (HGR.out.trans q.2)⟩
    case measure =>
     simp only [intOf]
     omega
   ·have hje : j = n := by omega
    have hjI : ¬ (j : Int) < n := by omega
    go_wp2_with fail
    refine wp_region_noPanic ?_
    refine wp_region_held_drew (S := fun Xw => Blk Xw f.F TW (fcells f)) (by kernel_rfl) (HBR.out) (fun hHeld => ?_)
    refine wpAnyH_take (i := 0) (oi := ⟨some 10, _, _, _, _, _⟩) (v := .int .i64 (j : Int)) rfl (by kernel_rfl) (by kernel_rfl) (by kernel_rfl) (fun _ _ _ h => h) (Or.inl ⟨by rfl, fun Xw hSW => by go_simp⟩) hHeld ?_
    simp only [Act.put, List.setIfInBounds_toArray, List.set_cons_zero, List.set_cons_succ]
    refine wpAnyH_take (i := 1) (oi := ⟨some 11, _, _, _, _, _⟩) (v := .slice (some ⟨g, 0, none⟩) n c1) rfl (by kernel_rfl) (by kernel_rfl) (by kernel_rfl) (fun _ _ _ h => h) (Or.inl ⟨by rfl, fun Xw hSW => by go_simp⟩) hHeld ?_
    simp only [Act.put, List.setIfInBounds_toArray, List.set_cons_zero, List.set_cons_succ]
    refine wpAnyH_take (i := 2) (oi := ⟨some 12, _, _, _, _, _⟩) (v := .int .i64 (n : Int)) rfl (by kernel_rfl) (by kernel_rfl) (by kernel_rfl) (fun _ _ _ h => h) (Or.inl ⟨by rfl, fun Xw hSW => by go_simp⟩) hHeld ?_
    simp only [Act.put, List.setIfInBounds_toArray, List.set_cons_zero, List.set_cons_succ]
    refine wpAnyH_take (i := 3) (oi := ⟨some 13, _, _, _, _, _⟩) (v := .bool false) rfl (by kernel_rfl) (by kernel_rfl) (by kernel_rfl) (fun _ _ _ h => h) (Or.inl ⟨by rfl, fun Xw hSW => by go_simp⟩) hHeld ?_
    simp only [Act.put, List.setIfInBounds_toArray, List.set_cons_zero, List.set_cons_succ]
    refine wpAnyH_take (i := 4) (oi := ⟨some 14, _, _, _, _, _⟩) (v := .bool false) rfl (by kernel_rfl) (by kernel_rfl) (by kernel_rfl) (fun _ _ _ h => h) (Or.inl ⟨by rfl, fun Xw hSW => by go_simp⟩) hHeld ?_
    simp only [Act.put, List.setIfInBounds_toArray, List.set_cons_zero, List.set_cons_succ]
    refine wpAnyH_take (i := 5) (oi := ⟨some 15, _, _, _, _, _⟩) (v := undef) rfl (by kernel_rfl) (by kernel_rfl) (by kernel_rfl) (fun _ _ _ h => h) (Or.inr ⟨by kernel_rfl, rfl⟩) hHeld ?_
    simp only [Act.put, List.setIfInBounds_toArray, List.set_cons_zero, List.set_cons_succ]
    refine wpAnyH_take (i := 6) (oi := ⟨some 16, _, _, _, _, _⟩) (v := undef) rfl (by kernel_rfl) (by kernel_rfl) (by kernel_rfl) (fun _ _ _ h => h) (Or.inr ⟨by kernel_rfl, rfl⟩) hHeld ?_
    simp only [Act.put, List.setIfInBounds_toArray, List.set_cons_zero, List.set_cons_succ]
    refine wpAnyH_take (i := 7) (oi := ⟨some 17, _, _, _, _, _⟩) (v := undef) rfl (by kernel_rfl) (by kernel_rfl) (by kernel_rfl) (fun _ _ _ h => h) (Or.inr ⟨by kernel_rfl, rfl⟩) hHeld ?_
    simp only [Act.put, List.setIfInBounds_toArray, List.set_cons_zero, List.set_cons_succ]
    refine wpAnyH_take (i := 8) (oi := ⟨some 18, _, _, _, _, _⟩) (v := undef) rfl (by kernel_rfl) (by kernel_rfl) (by kernel_rfl) (fun _ _ _ h => h) (Or.inr ⟨by kernel_rfl, rfl⟩) hHeld ?_
    simp only [Act.put, List.setIfInBounds_toArray, List.set_cons_zero, List.set_cons_succ]
    refine wpAnyH_take (i := 9) (oi := ⟨some 19, _, _, _, _, _⟩) (v := undef) rfl (by kernel_rfl) (by kernel_rfl) (by kernel_rfl) (fun _ _ _ h => h) (Or.inr ⟨by kernel_rfl, rfl⟩) hHeld ?_
    simp only [Act.put, List.setIfInBounds_toArray, List.set_cons_zero, List.set_cons_succ]
    refine wpAnyH_take (i := 10) (oi := ⟨some 20, _, _, _, _, _⟩) (v := undef) rfl (by kernel_rfl) (by kernel_rfl) (by kernel_rfl) (fun _ _ _ h => h) (Or.inr ⟨by kernel_rfl, rfl⟩) hHeld ?_
    simp only [Act.put, List.setIfInBounds_toArray, List.set_cons_zero, List.set_cons_succ]
    refine wpAnyH_take (i := 11) (oi := ⟨some 21, _, _, _, _, _⟩) (v := undef) rfl (by kernel_rfl) (by kernel_rfl) (by kernel_rfl) (fun _ _ _ h => h) (Or.inr ⟨by kernel_rfl, rfl⟩) hHeld ?_
    simp only [Act.put, List.setIfInBounds_toArray, List.set_cons_zero, List.set_cons_succ]
    refine wpAnyH_take (i := 12) (oi := ⟨some 22, _, _, _, _, _⟩) (v := undef) rfl (by kernel_rfl) (by kernel_rfl) (by kernel_rfl) (fun _ _ _ h => h) (Or.inr ⟨by kernel_rfl, rfl⟩) hHeld ?_
    simp only [Act.put, List.setIfInBounds_toArray, List.set_cons_zero, List.set_cons_succ]
    refine wpAnyH_take (i := 13) (oi := ⟨some 23, _, _, _, _, _⟩) (v := undef) rfl (by kernel_rfl) (by kernel_rfl) (by kernel_rfl) (fun _ _ _ h => h) (Or.inr ⟨by kernel_rfl, rfl⟩) hHeld ?_
    simp only [Act.put, List.setIfInBounds_toArray, List.set_cons_zero, List.set_cons_succ]
    refine wpAnyH_take (i := 14) (oi := ⟨some 24, _, _, _, _, _⟩) (v := undef) rfl (by kernel_rfl) (by kernel_rfl) (by kernel_rfl) (fun _ _ _ h => h) (Or.inr ⟨by kernel_rfl, rfl⟩) hHeld ?_
    simp only [Act.put, List.setIfInBounds_toArray, List.set_cons_zero, List.set_cons_succ]
    refine wpAnyH_take (i := 15) (oi := ⟨some 25, _, _, _, _, _⟩) (v := undef) rfl (by kernel_rfl) (by kernel_rfl) (by kernel_rfl) (fun _ _ _ h => h) (Or.inr ⟨by kernel_rfl, rfl⟩) hHeld ?_
    simp only [Act.put, List.setIfInBounds_toArray, List.set_cons_zero, List.set_cons_succ]
    refine wpAnyH_take (i := 16) (oi := ⟨some 26, _, _, _, _, _⟩) (v := undef) rfl (by kernel_rfl) (by kernel_rfl) (by kernel_rfl) (fun _ _ _ h => h) (Or.inr ⟨by kernel_rfl, rfl⟩) hHeld ?_
    simp only [Act.put, List.setIfInBounds_toArray, List.set_cons_zero, List.set_cons_succ]
    refine wpAnyH_take (i := 17) (oi := ⟨some 27, _, _, _, _, _⟩) (v := .bool false) rfl (by kernel_rfl) (by kernel_rfl) (by kernel_rfl) (fun _ _ _ h => h) (Or.inl ⟨by rfl, fun Xw hSW => by go_simp⟩) hHeld ?_
    simp only [Act.put, List.setIfInBounds_toArray, List.set_cons_zero, List.set_cons_succ]
    refine wpAnyH_done (by kernel_rfl) ?_ _
    refine NoPanic.normal ?_
    clear hHeld
    go_wp2_with fail
    go_ret
    have hgz := HGR.out.size
    refine ⟨.slice (some ⟨g, 0, none⟩) n c1, rfl, by
     rw [HRR.out]
     have q := HDK.out.drew
     rw [hje] at q
     exact q, HBE.out.trans ?_⟩
    refine (Below.grown (Below.refl _ _) HGR.out (by omega) (fun k hk => by injection hk with hk; omega)).trans (by (repeat' (first | (with_reducible exact Below.refl _ _) | (with_reducible refine Below.setCell ?_ (by (first | omega | (simp; done) | (simp; omega))) _) | (with_reducible refine Below.alloc ?_ (by (first | omega | (simp; done) | (simp; omega))) _) | (with_reducible refine Below.drew ?_) | (with_reducible refine below_drewN ?_ _))))
 ·have HRR := Lib.hid (show rightL f = L by
   unfold rightL
   rw [HL.out]
   simp only [HS.out, hlow, if_false]
   exact List.map_id' L)
  go_loopw [4] (fun v wr => v = .int .i64 0 ∧ Below w1.heap.size w1 wr) (fun v _ => 1)
  case atStart => exact ⟨rfl, Below.refl _ _⟩
  case round =>
   obtain ⟨rfl, hb⟩ := hrel
   have HBW := Lib.hid hb
   have HBR := Lib.hid (HB1.out.below hb)
   clear hb
   have hjI : (0 : Int) < n := by omega
   have hjN : 0 < n := by omega
   go_wp2_with fail
   refine wp_region_noPanic ?_
   refine wp_region_held_drew (S := fun Xw => Blk Xw f.F TW (fcells f)) (by kernel_rfl) (HBR.out) (fun hHeld => ?_)
   refine wpAnyH_take (i := 0) (oi := ⟨some 10, _, _, _, _, _⟩) (v := .int .i64 0) rfl (by kernel_rfl) (by kernel_rfl) (by kernel_rfl) (fun _ _ _ h => h) (Or.inl ⟨by rfl, fun Xw hSW => by go_simp⟩) hHeld ?_
   simp only [Act.put, List.setIfInBounds_toArray, List.set_cons_zero, List.set_cons_succ]
   refine wpAnyH_take (i := 1) (oi := ⟨some 11, _, _, _, _, _⟩) (v := .slice (some ⟨g, 0, none⟩) n c1) rfl (by kernel_rfl) (by kernel_rfl) (by kernel_rfl) (fun _ _ _ h => h) (Or.inl ⟨by rfl, fun Xw hSW => by go_simp⟩) hHeld ?_
   simp only [Act.put, List.setIfInBounds_toArray, List.set_cons_zero, List.set_cons_succ]
   refine wpAnyH_take (i := 2) (oi := ⟨some 12, _, _, _, _, _⟩) (v := .int .i64 (n : Int)) rfl (by kernel_rfl) (by kernel_rfl) (by kernel_rfl) (fun _ _ _ h => h) (Or.inl ⟨by rfl, fun Xw hSW => by go_simp⟩) hHeld ?_
   simp only [Act.put, List.setIfInBounds_toArray, List.set_cons_zero, List.set_cons_succ]
   refine wpAnyH_take (i := 3) (oi := ⟨some 13, _, _, _, _, _⟩) (v := .bool true) rfl (by kernel_rfl) (by kernel_rfl) (by kernel_rfl) (fun _ _ _ h => h) (Or.inl ⟨by rfl, fun Xw hSW => by go_simp⟩) hHeld ?_
   simp only [Act.put, List.setIfInBounds_toArray, List.set_cons_zero, List.set_cons_succ]
   refine wpAnyH_take (i := 4) (oi := ⟨some 14, _, _, _, _, _⟩) (v := .bool true) rfl (by kernel_rfl) (by kernel_rfl) (by kernel_rfl) (fun _ _ _ h => h) (Or.inl ⟨by rfl, fun Xw hSW => by go_simp⟩) hHeld ?_
   simp only [Act.put, List.setIfInBounds_toArray, List.set_cons_zero, List.set_cons_succ]
   refine wpAnyH_take (i := 5) (oi := ⟨some 15, _, _, _, _, _⟩) (v := .pointer (some ⟨f.F, 0, none⟩)) rfl (by kernel_rfl) (by kernel_rfl) (by kernel_rfl) (fun _ _ _ h => h) (Or.inl ⟨by rfl, fun Xw hSW => by go_simp⟩) hHeld ?_
   simp only [Act.put, List.setIfInBounds_toArray, List.set_cons_zero, List.set_cons_succ]
   refine wpAnyH_take (i := 6) (oi := ⟨some 16, _, _, _, _, _⟩) (v := .pointer (some ⟨f.F, 0, none⟩)) rfl (by kernel_rfl) (by kernel_rfl) (by kernel_rfl) (fun _ _ _ h => h) (Or.inl ⟨by rfl, fun Xw hSW => by go_simp⟩) hHeld ?_
   simp only [Act.put, List.setIfInBounds_toArray, List.set_cons_zero, List.set_cons_succ]
   refine wpAnyH_take (i := 7) (oi := ⟨some 17, _, _, _, _, _⟩) (v := .pointer (some ⟨f.F, 0, none⟩)) rfl (by kernel_rfl) (by kernel_rfl) (by kernel_rfl) (fun _ _ _ h => h) (Or.inl ⟨by rfl, fun Xw hSW => by go_simp⟩) hHeld ?_
   simp only [Act.put, List.setIfInBounds_toArray, List.set_cons_zero, List.set_cons_succ]
   refine wpAnyH_take (i := 8) (oi := ⟨some 18, _, _, _, _, _⟩) (v := .pointer (some ⟨f.F, 1, none⟩)) rfl (by kernel_rfl) (by kernel_rfl) (by kernel_rfl) (fun _ _ _ h => h) (Or.inl ⟨by rfl, fun Xw hSW => by go_simp⟩) hHeld ?_
   simp only [Act.put, List.setIfInBounds_toArray, List.set_cons_zero, List.set_cons_succ]
   refine wpAnyH_take (i := 9) (oi := ⟨some 19, _, _, _, _, _⟩) (v := .int .i64 f.lo.2.1) rfl (by kernel_rfl) (by kernel_rfl) (by kernel_rfl) (fun _ _ _ h => h) (Or.inl ⟨by rfl, fun Xw hSW => by have k := hSW.cell (i := 1) (v := .int .i64 f.lo.2.1) rfl; go_simp⟩) hHeld ?_
   simp only [Act.put, List.setIfInBounds_toArray, List.set_cons_zero, List.set_cons_succ]
   refine wpAnyH_take (i := 10) (oi := ⟨some 20, _, _, _, _, _⟩) (v := .pointer (some ⟨f.F, 0, none⟩)) rfl (by kernel_rfl) (by kernel_rfl) (by kernel_rfl) (fun _ _ _ h => h) (Or.inl ⟨by rfl, fun Xw hSW => by go_simp⟩) hHeld ?_
   simp only [Act.put, List.setIfInBounds_toArray, List.set_cons_zero, List.set_cons_succ]
   refine wpAnyH_take (i := 11) (oi := ⟨some 21, _, _, _, _, _⟩) (v := .pointer (some ⟨f.F, 0, none⟩)) rfl (by kernel_rfl) (by kernel_rfl) (by kernel_rfl) (fun _ _ _ h => h) (Or.inl ⟨by rfl, fun Xw hSW => by go_simp⟩) hHeld ?_
   simp only [Act.put, List.setIfInBounds_toArray, List.set_cons_zero, List.set_cons_succ]
   refine wpAnyH_take (i := 12) (oi := ⟨some 22, _, _, _, _, _⟩) (v := .pointer (some ⟨f.F, 3, none⟩)) rfl (by kernel_rfl) (by kernel_rfl) (by kernel_rfl) (fun _ _ _ h => h) (Or.inl ⟨by rfl, fun Xw hSW => by go_simp⟩) hHeld ?_
   simp only [Act.put, List.setIfInBounds_toArray, List.set_cons_zero, List.set_cons_succ]
   refine wpAnyH_take (i := 13) (oi := ⟨some 23, _, _, _, _, _⟩) (v := .pointer (some ⟨f.F, 4, none⟩)) rfl (by kernel_rfl) (by kernel_rfl) (by kernel_rfl) (fun _ _ _ h => h) (Or.inl ⟨by rfl, fun Xw hSW => by go_simp⟩) hHeld ?_
   simp only [Act.put, List.setIfInBounds_toArray, List.set_cons_zero, List.set_cons_succ]
   refine wpAnyH_take (i := 14) (oi := ⟨some 24, _, _, _, _, _⟩) (v := .int .i64 (f.Y : Int)) rfl (by kernel_rfl) (by kernel_rfl) (by kernel_rfl) (fun _ _ _ h => h) (Or.inl ⟨by rfl, fun Xw hSW => by have k : Xw.cell? ⟨f.F, 4, none⟩ = some (.int .i64 (f.Y : Int)) := hSW.cell (i := 4) rfl; go_simp⟩) hHeld ?_
   simp only [Act.put, List.setIfInBounds_toArray, List.set_cons_zero, List.set_cons_succ]
   refine wpAnyH_take (i := 15) (oi := ⟨some 25, _, _, _, _, _⟩) (v := .int .i64 s) rfl (by kernel_rfl) (by kernel_rfl) (by kernel_rfl) (fun _ _ _ h => h) (Or.inl ⟨by rfl, fun Xw hSW => by go_simp; exact WS.out⟩) hHeld ?_
   simp only [Act.put, List.setIfInBounds_toArray, List.set_cons_zero, List.set_cons_succ]
   refine wpAnyH_take (i := 16) (oi := ⟨some 26, _, _, _, _, _⟩) (v := .bool false) rfl (by kernel_rfl) (by kernel_rfl) (by kernel_rfl) (fun _ _ _ h => h) (Or.inl ⟨by rfl, fun Xw hSW => by go_simp⟩) hHeld ?_
   simp only [Act.put, List.setIfInBounds_toArray, List.set_cons_zero, List.set_cons_succ]
   refine wpAnyH_take (i := 17) (oi := ⟨some 27, _, _, _, _, _⟩) (v := .bool false) rfl (by kernel_rfl) (by kernel_rfl) (by kernel_rfl) (fun _ _ _ h => h) (Or.inl ⟨by rfl, fun Xw hSW => by go_simp⟩) hHeld ?_
   simp only [Act.put, List.setIfInBounds_toArray, List.set_cons_zero, List.set_cons_succ]
   refine wpAnyH_done (by kernel_rfl) ?_ _
   refine NoPanic.normal ?_
   clear hHeld
   go_wp2_with fail
   go_ret
   exact ⟨.slice (some ⟨g, 0, none⟩) n c1, rfl, by rw [HRR.out]; exact (HO.out.below HBW.out).drew, HBE.out.trans ((HBW.out.mono HBE.out.size).trans (by (repeat' (first | (with_reducible exact Below.refl _ _) | (with_reducible refine Below.setCell ?_ (by (first | omega | (simp; done) | (simp; omega))) _) | (with_reducible refine Below.alloc ?_ (by (first | omega | (simp; done) | (simp; omega))) _) | (with_reducible refine Below.drew ?_) | (with_reducible refine below_drewN ?_ _)))))⟩
end FloodW
end Go.Proofs.YtpimkdaikoclnaaDoor
