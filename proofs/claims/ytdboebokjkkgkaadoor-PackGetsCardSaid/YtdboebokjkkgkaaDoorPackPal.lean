/-
  The palette, and the place of each cell in it.
-/
import Derived.Test.YtdboebokjkkgkaaDoorPackMap
import Derived.Test.YtdboebokjkkgkaaDoorPackNums
namespace Go.Proofs.YtdboebokjkkgkaaDoor
open Go.RowKit
set_option linter.unusedVariables false
set_option linter.unusedSimpArgs false
namespace PackW
open BytesW RunsW

theorem pal_split : ∀ (a b p : List Cell), pal p (a ++ b) = pal (pal p a) b
  | [], b, p => rfl
  | x :: a, b, p => by
    rw [List.cons_append, pal, pal_split a b]
    rfl
theorem idx_in {C : List Cell} {j : Nat} {c : Cell} (h : c ∈ pal [] (C.take j)) : (pal [] C).idxOf c = (pal [] (C.take j)).idxOf c := by
  have h1 := pal_split (C.take j) (C.drop j) []
  rw [List.take_append_drop] at h1
  obtain ⟨q, hq⟩ := pal_ext (C.drop j) (pal [] (C.take j))
  rw [h1, hq, idx_app h]
theorem pal_next {C : List Cell} {j : Nat} {c : Cell} (hx : C[j]? = some c) : pal [] (C.take (j + 1)) = if c ∈ pal [] (C.take j) then pal [] (C.take j) else pal [] (C.take j) ++ [c] := by
  rw [List.take_add_one, hx]
  exact pal_snoc _ _ _
theorem idx_out {C : List Cell} {j : Nat} {c : Cell} (hx : C[j]? = some c) (h : c ∉ pal [] (C.take j)) : (pal [] C).idxOf c = (pal [] (C.take j)).length := by
  have h1 := pal_next hx
  rw [if_neg h] at h1
  have h2 := idx_in (C := C) (j := j + 1) (c := c) (by rw [h1]; simp)
  rw [h2, h1, List.idxOf_append, if_neg h]
  simp
theorem pal_take_le {C : List Cell} (h : C.all mayC = true) (j : Nat) : (pal [] (C.take j)).length ≤ 40 := pal_le (List.all_eq_true.2 fun x hx => List.all_eq_true.1 h x (List.mem_of_mem_take hx))

section
variable {α : Type} {f : α → Value × Value} {E T : TypeId}
theorem OwnP.other {w w' : World} {B b : Nat} {v : Value} {l : List α} (h : OwnP f E w B v l) (hg : w.grownBy w' (some b)) (hb : ∀ cs fr, w.heap[b]? ≠ some (.cells cs E fr)) : OwnP f E w' B v l := by
  unfold OwnP at h ⊢
  refine h.kept hg (.inr fun e => ?_)
  rcases h.2 with ⟨rfl, _⟩ | ⟨g, cap, cur, rfl, _, hgb, _⟩
  · simp [Value.ownBlock] at e
  · obtain rfl : g = b := by simpa [Value.ownBlock] using e
    exact hb _ _ hgb
theorem OwnP.apart {w w' : World} {B g : Nat} {v : Value} {l : List α} {ob : Obj} (h : OwnP f E w B v l) (hg : w.heap[g]? = some ob) (ho : ∀ cs fr, ob ≠ .cells cs E fr) (hgr : w.grownBy w' v.ownBlock) : w'.heap[g]? = some ob := by
  refine (hgr.block g (lt_of_heap hg) (fun e => ?_)).trans hg
  unfold OwnP at h
  rcases h.2 with ⟨rfl, _⟩ | ⟨g', cap, cur, rfl, _, hgb, _⟩
  · simp [Value.ownBlock] at e
  · obtain rfl : g = g' := by simpa [Value.ownBlock] using e
    rw [hg] at hgb
    exact ho _ _ (Option.some.inj hgb)
/-- append(v, y) of one pair, and which block alone may have been written. -/
theorem wp_pushPG {w : World} {ops : Array Oper} {rest : List Oper} {o : Oper} {a : Act} {Q : Exit → Act → World → Prop} (hgd : o.guard = none) (s x : Operand) (ho : o.op = .call { callee := .builtin .append, args := #[s, x], argTypes := #[T, T] })
    (hT : Tryd.prog.underlying T = some (.slice E)) {z : Value} {bytes : Nat} (hI : (Tryd.prog.info? E).map (fun i => (i.zero, i.size, i.bytes)) = some (some z, 2, bytes)) (hz : z.cells.size = 2) (hby : bytes ≤ 16) (h1 : ∀ y, (f y).1.oneCell' = true ∧ (f y).2.oneCell' = true)
    {B : Nat} {v : Value} {l : List α} (w0 : World) (u1 u2 : Value) (hw : w = w0.alloc (.cells #[u1, u2] E)) (hs : a.eval s = v) (hown : OwnP f E w0 B v l) (y : α) (hu1 : u1 = (f y).1) (hu2 : u2 = (f y).2) (hx : a.eval x = .slice (some ⟨w0.heap.size, 0, none⟩) 1 1) (hl : l.length ≤ 2000000) (hB : B ≤ w0.heap.size)
    (h : ∀ v' w', OwnP f E w' B v' (l ++ [y]) → (w0.alloc (.cells #[u1, u2] E)).grownBy w' v.ownBlock → Below B w0 w' → wpList Tryd.prog ops Q rest (a.put o.dst v') w') : wpList Tryd.prog ops Q (o :: rest) a w := by
  subst hw hu1 hu2
  refine wpList_plain hgd fun K hK => ?_
  have hown2 := hown.alloc (.cells #[(f y).1, (f y).2] E)
  obtain ⟨v', w', hr, a1, a2⟩ := run_push hT hI hz hby h1 hown2 y (g := w0.heap.size) (by rw [World.cell?_alloc_new]; rfl) (by rw [World.cell?_alloc_new]; rfl) hl (by simp; omega) o.type
  unfold Oper.wp execOp
  simp only [ho, resolve, invoke, builtin, Sem.run_bind, Sem.run_pure, Result.andThen_ok, List.map_toArray, List.map_cons, List.map_nil, hs, hx, hr]
  exact hK _ _ (h v' w' a1 a2 (((Below.refl B w0).alloc hB _).trans (hown2.grownB a2 (by simp; omega))))
end

theorem wp_newMap {w : World} {ops : Array Oper} {rest : List Oper} {o : Oper} {a : Act} {Q : Exit → Act → World → Prop} {t : TypeId} (hgd : o.guard = none) (ho : o.op = .makeMap t none)
    (h : wpList Tryd.prog ops Q rest (a.put o.dst (.map (some w.heap.size))) (w.alloc (.map #[] 0))) : wpList Tryd.prog ops Q (o :: rest) a w := by
  refine wpList_plain hgd fun K hK => ?_
  have hr : (Instr.makeMap t none).run Tryd.prog w = .ok (.map (some w.heap.size)) (w.alloc (.map #[] 0)) := by kernel_rfl
  unfold Oper.wp execOp
  simp only [ho, Option.map_none, Sem.run_bind, Sem.run_pure, Result.andThen_ok, hr]
  exact hK _ _ h
/-- What stands behind the map's update. -/
theorem upd_facts {w wr W0 w2 : World} {X Y : Int} {l : List Value} {v : Value} {P P2 : List Cell} (hg2 : W0.grownBy w2 (some w.heap.size)) (hz0 : W0.heap.size = wr.heap.size + 1) (hz : w.heap.size ≤ wr.heap.size) (hglt : w.heap.size + 1 < wr.heap.size)
    (hq : W0.heap[wr.heap.size]? = some (.cells #[.int .u8 X, .int .u8 Y] 43 (0, 0))) (hr : W0.heap[w.heap.size + 1]? = some (.cells l.toArray 5 (0, 0))) (ho : OwnP cv 43 W0 w.heap.size v P) (hm : MapP W0 w.heap.size P) (hb : Below w.heap.size w W0) (hm2 : MapP w2 w.heap.size P2) :
    w2.cell? ⟨wr.heap.size, 0, none⟩ = some (.int .u8 X) ∧ w2.cell? ⟨wr.heap.size, 1, none⟩ = some (.int .u8 Y) ∧ Hid (w2.heap[w.heap.size + 1]? = some (.cells l.toArray 5 (0, 0))) ∧ Hid (OwnP cv 43 w2 w.heap.size v P) ∧ Hid (MapP w2 w.heap.size P2) ∧ Hid (Below w.heap.size w w2) ∧ w.heap.size + 1 < w2.heap.size := by
  have hz2 : W0.heap.size ≤ w2.heap.size := hg2.size
  have hq2 : w2.heap[wr.heap.size]? = some (.cells #[.int .u8 X, .int .u8 Y] 43 (0, 0)) := (hg2.block _ (by omega) (by simp; omega)).trans hq
  exact ⟨cell_of_row _ _ _ _ _ _ hq2, cell_of_row _ _ _ _ _ _ hq2, Lib.hid ((hg2.block _ (by omega) (by simp)).trans hr), Lib.hid (ho.other hg2 (fun cs fr h => by rw [hm] at h; cases h)), Lib.hid hm2, Lib.hid (hb.grown hg2 hb.size (fun k hk => by injection hk with hk; omega)), by omega⟩
/-- What stands behind the palette's append. -/
theorem push_facts {w w2 w3 : World} {X Y : Value} {l : List Value} {v : Value} {P P2 : List Cell} {j : Nat} (hg3 : (w2.alloc (.cells #[X, Y] 43)).grownBy w3 v.ownBlock) (ho : OwnP cv 43 w2 w.heap.size v P) (hzz : w.heap.size + 1 < w2.heap.size)
    (hr : w2.heap[w.heap.size + 1]? = some (.cells (fillL l j 4096 (.int .u8 0)).toArray 5 (0, 0))) (hm : MapP w2 w.heap.size P2) (hj : j < 4096) (hl : l.length = 4096) :
    w3.cell? ⟨w.heap.size + 1, j, none⟩ = some (.int .u8 0) ∧ w3.frozen? ⟨w.heap.size + 1, j, none⟩ = false ∧ Hid (w3.heap[w.heap.size + 1]? = some (.cells (fillL l j 4096 (.int .u8 0)).toArray 5 (0, 0))) ∧ Hid (MapP w3 w.heap.size P2) := by
  have hr1 : (w2.alloc (.cells #[X, Y] 43)).heap[w.heap.size + 1]? = some (.cells (fillL l j 4096 (.int .u8 0)).toArray 5 (0, 0)) := (Below.heap_alloc _ _ _ hzz).trans hr
  have hr3 := (ho.alloc (.cells #[X, Y] 43)).apart hr1 (fun cs fr h => by injection h with _ h2; exact absurd h2 (by decide)) hg3
  have hm1 : (w2.alloc (.cells #[X, Y] 43)).heap[w.heap.size]? = some (.map (ents 0 P2).toArray P2.length) := (Below.heap_alloc _ _ _ (by omega)).trans hm
  have hm3 := (ho.alloc (.cells #[X, Y] 43)).apart hm1 (fun cs fr h => by cases h) hg3
  refine ⟨?_, by simp [World.frozen?, hr3], Lib.hid hr3, Lib.hid hm3⟩
  rw [cell_of_row _ _ _ _ _ _ hr3, List.getElem?_toArray, fillL_last hj hl]
def PalOf (w : World) (C : List Cell) (vP i : Value) (wr : World) : Prop :=
  ∃ j : Nat, i = .int .i64 j ∧ j ≤ 4096 ∧ OwnP cv 43 wr w.heap.size vP (pal [] (C.take j)) ∧ MapP wr w.heap.size (pal [] (C.take j)) ∧ wr.heap[w.heap.size + 1]? = some (.cells (fillL ((places C).map bv) j 4096 (.int .u8 0)).toArray 5 (0, 0)) ∧ Below w.heap.size w wr
/-- What paletteOf answers. -/
def PalOfP (w : World) (C : List Cell) (e : Ending) (w' : World) : Prop :=
  ∃ v u, e = .returned (.tuple #[v, u]) ∧ OwnP cv 43 w' w.heap.size v (pal [] C) ∧ BytesW.Own w' w.heap.size u (places C) ∧ Below w.heap.size w w'

set_option maxRecDepth 100000 in
set_option maxHeartbeats 4000000 in
theorem paletteOf_c {w : World} {p o : Nat} {C : List Cell} (hA : PairC cv w (some ⟨p, o, none⟩) C) (hC : C.length = 4096) (hm : C.all mayC = true) :
    Calls Tryd.prog 22 #[.pointer (some ⟨p, o, none⟩)] w (PalOfP w C) := by
  obtain ⟨i, hi, hz, hs1, hby⟩ := info_parts info5
  obtain ⟨N, hN⟩ : ∃ N, N = 4096 := ⟨_, rfl⟩
  have HN := Lib.hid hN
  have HB := Lib.hid (show i.bytes * N ≤ 281474976710656 by rw [hby]; omega)
  have HI := Lib.hid hi
  have HZ := Lib.hid hz
  have HS := Lib.hid hs1
  have HA := Lib.hid hA
  have HC := Lib.hid hC
  have HM := Lib.hid hm
  have HPL := Lib.hid (show ((places C).map bv).length = 4096 by simp [places, hC])
  clear hi hz hs1 hby hN hA hC hm
  go_enter Tryd.func22, Tryd.ntmps22
  go_wp2_with (first | ((with_reducible refine at_slot 9 ?_); refine wp_newMap rfl rfl ?_) | ((with_reducible refine at_slot 10 ?_); refine wpList_make_row _ rfl _ _ 26 rfl 5 i (.int .u8 0) under26 HI.out HZ.out HS.out rfl .i64 .i64 N (by rw [HN.out]; rfl) (by rw [HN.out]; rfl) HB.out (by have := HN.out; omega) ?_; rw [madeCells_list]))
  go_loopw [2, 12] (PalOf w C) (fun _ v _ => 4096 - (intOf v).toNat)
  case atStart =>
    refine ⟨0, rfl, by omega, OwnP.nil _ _ _, ?_, ?_, ((Below.refl _ w).alloc (Nat.le_refl _) _).alloc (by simp) _⟩
    · show ((w.alloc _).alloc _).heap[w.heap.size]? = _
      rw [Below.heap_alloc _ _ _ (by simp), heap_alloc_new]
      rfl
    · rw [show w.heap.size + 1 = (w.alloc (.map #[] 0)).heap.size by simp, heap_alloc_new, HN.out, fillL_start]
  case round =>
    obtain ⟨j, rfl, hj, hown, hmp, hrow, hbw⟩ := hrel
    have HO := Lib.hid hown
    have HMP := Lib.hid hmp
    have HRW := Lib.hid hrow
    have HBW := Lib.hid hbw
    have hz := hbw.size
    have hmlt : w.heap.size < wr.heap.size := (Array.getElem?_eq_some_iff.1 hmp).1
    have hglt : w.heap.size + 1 < wr.heap.size := lt_of_heap hrow
    clear hown hmp hrow hbw
    by_cases hj4 : j < 4096
    · have hjI : (j : Int) < 4096 := by omega
      obtain ⟨x, hx⟩ : ∃ x, C[j]? = some x := ⟨_, List.getElem?_eq_getElem (by have := HC.out; omega)⟩
      obtain ⟨b, o', e, hbl, hcs⟩ := (HA.out.below HBW.out).cells (fun e => by rw [e] at hx; simp at hx)
      simp only [Option.some.injEq, Addr.mk.injEq] at e
      obtain ⟨rfl, rfl, _⟩ := e
      obtain ⟨p0, p1⟩ := hcs _ _ hx
      obtain ⟨X, hX⟩ : ∃ X : Int, X = (x.1.toNat : Int) := ⟨_, rfl⟩
      obtain ⟨Y, hY⟩ : ∃ Y : Int, Y = (x.2.toNat : Int) := ⟨_, rfl⟩
      simp only [cv, bv, ← hX, ← hY] at p0 p1
      obtain ⟨P, hP⟩ : ∃ P, P = pal [] (C.take j) := ⟨_, rfl⟩
      have hPle : P.length ≤ 40 := by rw [hP]; exact pal_take_le HM.out j
      have HPe := Lib.hid hP
      have HX := Lib.hid hX
      have HY := Lib.hid hY
      have Hx := Lib.hid hx
      have HO2 : Hid (OwnP cv 43 wr w.heap.size _ P) := Lib.hid (by rw [hP]; exact HO.out)
      have HMP2 : Hid (MapP wr w.heap.size P) := Lib.hid (by rw [hP]; exact HMP.out)
      have HW : Hid (Below wr.heap.size wr (wr.alloc (.cells #[.int .u8 X, .int .u8 Y] 43)).drew) := Lib.hid (((Below.refl _ wr).alloc (Nat.le_refl _) _).drew)
      have HMW : Hid (MapP (wr.alloc (.cells #[.int .u8 X, .int .u8 Y] 43)).drew w.heap.size P) := Lib.hid ((HW.out.block _ hmlt).trans HMP2.out)
      have HRW1 : Hid ((wr.alloc (.cells #[.int .u8 X, .int .u8 Y] 43)).drew.heap[w.heap.size + 1]? = some (.cells (fillL ((places C).map bv) j 4096 (.int .u8 0)).toArray 5 (0, 0))) := Lib.hid ((HW.out.block _ hglt).trans HRW.out)
      have hjN : (j : Int) < N := by have := HN.out; omega
      clear hx hX hY hP hcs HO HMP
      by_cases hin : x ∈ P
      · obtain ⟨I, hI⟩ : ∃ I : Int, (if x ∈ P then (P.idxOf x : Int) else 0) = I := ⟨_, rfl⟩
        have hq : decide (x ∈ P) = true := by simpa using hin
        have hI2 : I = (P.idxOf x : Int) := by rw [← hI, if_pos hin]
        have hlt := List.idxOf_lt_length_of_mem hin
        have hI0 : 0 ≤ I := by omega
        have hI1 : I < 256 := by omega
        have HV : Hid (((places C).map bv)[j]? = some (.int .u8 I)) := Lib.hid (by
          rw [List.getElem?_map, places, List.getElem?_map, Hx.out]
          simp only [Option.map_some, bv]
          rw [idx_in (j := j) (by rw [← HPe.out]; exact hin), ← HPe.out, toU8 (by omega), hI2])
        have HIN := Lib.hid hin
        have HI' := Lib.hid hI
        have HQ := Lib.hid hq
        have HPN : Hid (pal [] (C.take (j + 1)) = P) := Lib.hid (by rw [pal_next Hx.out, ← HPe.out, if_pos hin])
        clear hin hI hq hI2 hlt
        have g2 : wr.cell? ⟨w.heap.size + 1, j, none⟩ = some (.int .u8 0) := by
          rw [cell_of_row wr _ j _ _ _ HRW.out, List.getElem?_toArray, fillL_last hj4 (by rw [HPL.out])]
        have f2 : wr.frozen? ⟨w.heap.size + 1, j, none⟩ = false := by simp [World.frozen?, HRW.out]
        have hne : w.heap.size + 1 ≠ wr.heap.size := by omega
        go_wp2_with fail
        go_region
        go_wp2_with ((with_reducible refine at_slot 21 ?_); refine wp_lookupP rfl (.tmp 19) (.tmp 20) rfl rfl HMW.out rfl HX.out HY.out HI'.out HQ.out ?_)
        go_roundw
        case rel =>
          have hs := grown_set wr (w.heap.size + 1) j (.int .u8 I)
          have hsz := heap_setSz wr ⟨w.heap.size + 1, j, none⟩ (.int .u8 I)
          have hbl2 : Below (wr.setCell ⟨w.heap.size + 1, j, none⟩ (.int .u8 I)).heap.size (wr.setCell ⟨w.heap.size + 1, j, none⟩ (.int .u8 I)) ((wr.setCell ⟨w.heap.size + 1, j, none⟩ (.int .u8 I)).alloc (.cells #[.int .u8 X, .int .u8 Y] 43)).drew := ((Below.refl _ _).alloc (Nat.le_refl _) _).drew
          refine ⟨j + 1, by go_num, by omega, ?_, ?_, ?_, ((HBW.out.setCell (by simp) _).alloc (by rw [hsz]; exact hz) _).drew⟩
          · rw [HPN.out]
            exact (HO2.out.other hs (fun cs fr h => by rw [HRW.out] at h; injection h with h; injection h with _ h2; exact absurd h2 (by decide))).below hbl2
          · rw [HPN.out]
            exact (hbl2.block _ (by rw [hsz]; exact hmlt)).trans ((hs.block _ hmlt (by simp)).trans HMP2.out)
          · rw [hbl2.block _ (by rw [hsz]; exact hglt), heap_set HRW.out, List.setIfInBounds_toArray, fillL_set HV.out HPL.out]
        case measure => simp [intOf]; omega
      · have hq : decide (x ∈ P) = false := by simpa using hin
        have hI : (if x ∈ P then (P.idxOf x : Int) else 0) = 0 := by rw [if_neg hin]
        have HV : Hid (((places C).map bv)[j]? = some (.int .u8 (P.length : Int))) := Lib.hid (by
          rw [List.getElem?_map, places, List.getElem?_map, Hx.out]
          simp only [Option.map_some, bv]
          rw [idx_out Hx.out (by rw [← HPe.out]; exact hin), ← HPe.out, toU8 (by omega)])
        have HIN := Lib.hid hin
        have HI' := Lib.hid hI
        have HQ := Lib.hid hq
        have HPN : Hid (pal [] (C.take (j + 1)) = P ++ [x]) := Lib.hid (by rw [pal_next Hx.out, ← HPe.out, if_neg hin])
        have hw8 : IntKind.u8.wrap (P.length : Int) = P.length := by rw [IntKind.wrap_u8]; omega
        obtain ⟨pA, pc, rfl, hpA, hpc, hpm⟩ := HO2.out.pairs
        clear hin hI hq hpA
        go_wp2_with fail
        go_region
        obtain ⟨W0, hW0⟩ : ∃ W0, W0 = (wr.alloc (.cells #[.int .u8 X, .int .u8 Y] 43)).drew := ⟨_, rfl⟩
        have hq0 : W0.heap[wr.heap.size]? = some (.cells #[.int .u8 X, .int .u8 Y] 43 (0, 0)) := by
          rw [hW0]
          exact heap_alloc_new wr _
        have c0 : W0.cell? ⟨wr.heap.size, 0, none⟩ = some (.int .u8 X) := cell_of_row _ _ _ _ _ _ hq0
        have c1 : W0.cell? ⟨wr.heap.size, 1, none⟩ = some (.int .u8 Y) := cell_of_row _ _ _ _ _ _ hq0
        have hz0 : W0.heap.size = wr.heap.size + 1 := by rw [hW0]; simp
        have hr0 : W0.heap[w.heap.size + 1]? = some (.cells (fillL ((places C).map bv) j 4096 (.int .u8 0)).toArray 5 (0, 0)) := by rw [hW0]; exact HRW1.out
        have ho0 : OwnP cv 43 W0 w.heap.size (.slice pA P.length pc) P := by rw [hW0]; exact HO2.out.below HW.out
        have hm0 : MapP W0 w.heap.size P := by rw [hW0]; exact HMW.out
        have hb0 : Below w.heap.size w W0 := by rw [hW0]; exact (HBW.out.alloc hz _).drew
        rw [← hW0]
        have HQ0 := Lib.hid hq0
        have HZ0 := Lib.hid hz0
        have HR0 := Lib.hid hr0
        have HO0 := Lib.hid ho0
        have HM0 := Lib.hid hm0
        have HB0 := Lib.hid hb0
        clear hW0 hq0 hz0 hr0 ho0 hm0 hb0 HMW HRW1 HW HO2 HMP2 HRW
        go_wp2_with (first
          | ((with_reducible refine at_slot 21 ?_); refine wp_lookupP rfl (.tmp 19) (.tmp 20) rfl rfl HM0.out rfl HX.out HY.out HI'.out HQ.out ?_)
          | (at_mapUpdate; refine wp_updateP rfl (.tmp 29) (.tmp 30) (.tmp 31) rfl rfl HM0.out rfl HX.out HY.out rfl rfl HIN.out ?_; intro w2 hm2 hg2; obtain ⟨c0, c1, HR2, HO2, HM2, HB2, hzz⟩ := upd_facts hg2 HZ0.out hz hglt HQ0.out HR0.out HO0.out HM0.out HB0.out hm2; clear hg2 hm2)
          | ((with_reducible refine at_slot 35 ?_); refine wp_pushPG rfl (.tmp 32) (.tmp 34) rfl underCells infoCell rfl (by omega) one_cv w2 _ _ rfl rfl HO2.out x (by rw [HX.out]; rfl) (by rw [HY.out]; rfl) rfl (by omega) (by omega) ?_; intro v3 w3 hown3 hg3 hb3; obtain ⟨g2, f2, HR3, HM3⟩ := push_facts hg3 HO2.out hzz HR2.out HM2.out hj4 HPL.out; have HO3 := Lib.hid hown3; have HB3 := Lib.hid (HB2.out.trans hb3); clear hg3 hown3 hb3))
        go_roundw
        case rel =>
          have hs := grown_set w3 (w.heap.size + 1) j (.int .u8 (P.length : Int))
          refine ⟨j + 1, by go_num, by omega, ?_, ?_, ?_, HB3.out.setCell (by simp) _⟩
          · rw [HPN.out]
            exact HO3.out.other hs (fun cs fr h => by rw [HR3.out] at h; injection h with h; injection h with _ h2; exact absurd h2 (by decide))
          · rw [HPN.out]
            exact (hs.block _ (Array.getElem?_eq_some_iff.1 HM3.out).1 (by simp)).trans HM3.out
          · rw [heap_set HR3.out, List.setIfInBounds_toArray, fillL_set HV.out HPL.out]
        case measure => simp [intOf]; omega
    · have hjI : ¬ (j : Int) < 4096 := by omega
      obtain rfl : j = 4096 := by omega
      go_wp2_with fail
      go_ret2
      have h1 := HO.out
      have h2 := HRW.out
      rw [List.take_of_length_le (by have := HC.out; omega)] at h1
      have h3 := fillL_all ((places C).map bv) (.int .u8 0)
      rw [HPL.out] at h3
      rw [h3] at h2
      exact ⟨_, _, rfl, h1, own_full h2 (by omega) (by rw [HN.out]; simpa using HPL.out.symm) (by have := HPL.out; simp at this; omega), HBW.out⟩
end PackW
end Go.Proofs.YtdboebokjkkgkaaDoor
