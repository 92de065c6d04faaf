/-
  What ticks, in order.
-/
import Derived.BigQuiet
import Derived.BigRegion
import Derived.Lib.Hide
import Derived.Deep.RegionHeld3
import Derived.Deep.MidRow
import Derived.Laws.Tables
import Derived.Test.YtcmmfihhnmhhgaaAnchorNear
import Derived.Test.YtcmmfihhnmhhgaaAnchorMap
import Derived.Test.YtcmmfihhnmhhgaaAnchorSort
namespace Go.Proofs.Ytcmmfihhnmhhgaa
open Go.RowKit
set_option linter.unusedVariables false
set_option linter.unusedSimpArgs false
namespace AncW
open BlkP RowG FrS PushG AncP
open PlaceW (bcell below_drewN)

section
variable {w : World} {ops : Array Oper} {rest : List Oper} {o : Oper} {a : Act} {Q : Exit → Act → World → Prop}
theorem wp_lookupS (hgd : o.guard = none) (x k : Operand) (ho : o.op = .lookup TM x k true) {M : Nat} {l : List V} {q : V} {b : Bool} (hx : a.eval x = .map (some M)) (hk : a.eval k = .agg #[.int .i64 q.1, .int .i64 q.2.1, .int .i64 q.2.2]) (hm : MapS w M l) (hb : decide (q ∈ l) = b)
    (h : wpList Try.prog ops Q rest (a.put o.dst (.tuple #[.agg #[], .bool b])) w) : wpList Try.prog ops Q (o :: rest) a w := by
  refine wpList_plain hgd fun K hK => ?_
  have hr := run_lookupS q hb hm
  unfold Oper.wp execOp
  simp only [ho, hx, hk, hr, Sem.run_bind, Sem.run_pure, Result.andThen_ok]
  exact hK _ _ h
theorem wp_makeS (hgd : o.guard = none) (ho : o.op = .makeMap TM none)
    (h : ∀ w', MapS w' w.heap.size [] → Below w.heap.size w w' → wpList Try.prog ops Q rest (a.put o.dst (.map (some w.heap.size))) w') : wpList Try.prog ops Q (o :: rest) a w := by
  refine wpList_plain hgd fun K hK => ?_
  have hr := run_mkM w
  unfold Oper.wp execOp
  simp only [ho, Option.map_none, hr, Sem.run_bind, Sem.run_pure, Result.andThen_ok]
  exact hK _ _ (h _ (MapS.new w) ((Below.refl _ w).alloc (Nat.le_refl _) _))
theorem wp_updateS (hgd : o.guard = none) (x k v : Operand) (ho : o.op = .mapUpdate TM x k v) {M : Nat} {l : List V} {q : V} (hx : a.eval x = .map (some M)) (hk : a.eval k = .agg #[.int .i64 q.1, .int .i64 q.2.1, .int .i64 q.2.2]) (hv : a.eval v = .agg #[]) (hm : MapS w M l) (hb : decide (q ∈ l) = false)
    (h : ∀ w', MapS w' M (l ++ [q]) → w.grownBy w' (some M) → wpList Try.prog ops Q rest (a.put o.dst undef) w') : wpList Try.prog ops Q (o :: rest) a w := by
  refine wpList_plain hgd fun K hK => ?_
  obtain ⟨w', hr, h1, h2⟩ := run_updateS hm (of_decide_eq_false hb)
  unfold Oper.wp execOp
  simp only [ho, hx, hk, hv, hr, Sem.run_bind, Sem.run_pure, Result.andThen_ok]
  exact hK _ _ (h w' h1 h2)
end
theorem at_update {x k v : Operand} {P : Program} {w : World} {ops : Array Oper} {rest : List Oper} {a : Act} {Q : Exit → Act → World → Prop} {ty : TypeId} {pos : String} {af : _} {g : _} (h : wpList P ops Q ((⟨none, .mapUpdate TM x k v, ty, pos, af, g⟩ : Oper) :: rest) a w) : wpList P ops Q ((⟨none, .mapUpdate TM x k v, ty, pos, af, g⟩ : Oper) :: rest) a w := h
theorem run_index0 (w : World) (a b : An) : (Instr.index TT (.agg #[.int .i64 a.1.1, .int .i64 a.1.2.1, .int .i64 a.1.2.2, .bool a.2, .int .i64 b.1.1, .int .i64 b.1.2.1, .int .i64 b.1.2.2, .bool b.2]) (.int .i64 0)).run Try.prog w = .ok (.agg #[.int .i64 a.1.1, .int .i64 a.1.2.1, .int .i64 a.1.2.2, .bool a.2]) w := by kernel_rfl
theorem run_index1 (w : World) (a b : An) : (Instr.index TT (.agg #[.int .i64 a.1.1, .int .i64 a.1.2.1, .int .i64 a.1.2.2, .bool a.2, .int .i64 b.1.1, .int .i64 b.1.2.1, .int .i64 b.1.2.2, .bool b.2]) (.int .i64 1)).run Try.prog w = .ok (.agg #[.int .i64 b.1.1, .int .i64 b.1.2.1, .int .i64 b.1.2.2, .bool b.2]) w := by kernel_rfl
/-- The two rows lie apart. -/
def Apt (v u : Value) : Prop := ∀ g, u.ownBlock = some g → v.ownBlock ≠ some g
theorem spot_at {w : World} {B g n c i : Nat} {l : List V} {q : V} (h : RowG.Own encS TS w B (.slice (some ⟨g, 0, none⟩) n c) l) (hq : l[i]? = some q) : w.cell? ⟨g, i * 3, none⟩ = some (.int .i64 q.1) ∧ w.cell? ⟨g, i * 3 + 1, none⟩ = some (.int .i64 q.2.1) ∧ w.cell? ⟨g, i * 3 + 2, none⟩ = some (.int .i64 q.2.2) :=
  ⟨h.cell (j := 0) hq rfl, h.cell (j := 1) hq rfl, h.cell (j := 2) hq rfl⟩
/-- What the inner loop keeps. -/
def Kept (w0 wr : World) (M : Nat) (v u : Value) (l m : List V) : Prop := RowG.Own encS TS wr w0.heap.size v l ∧ MapS wr M l ∧ RowG.Own encS TS wr w0.heap.size u m ∧ Apt v u ∧ Below w0.heap.size w0 wr
theorem Kept.below {w0 w w' : World} {M : Nat} {v u : Value} {l m : List V} (h : Kept w0 w M v u l m) (hb : Below w.heap.size w w') : Kept w0 w' M v u l m :=
  ⟨h.1.below hb, h.2.1.below hb, h.2.2.1.below hb, h.2.2.2.1, below_t h.2.2.2.2 hb⟩
set_option maxRecDepth 100000 in
set_option maxHeartbeats 16000000 in
theorem Spots_c {w : World} {a b : An} (ha : Is64 a.1) (hb : Is64 b.1) :
    Calls Try.prog 12 #[.agg #[.int .i64 a.1.1, .int .i64 a.1.2.1, .int .i64 a.1.2.2, .bool a.2, .int .i64 b.1.1, .int .i64 b.1.2.1, .int .i64 b.1.2.2, .bool b.2]] w (RowP w (rspots a b)) := by
  have HIA := Lib.hid ha
  have HIB := Lib.hid hb
  clear ha hb
  obtain ⟨w0, hw0⟩ : ∃ w0, w0 = w := ⟨_, rfl⟩
  subst hw0
  obtain ⟨M, hM⟩ : ∃ M, w0.heap.size + 1 = M := ⟨_, rfl⟩
  have HMB := Lib.hid (show w0.heap.size ≤ M by omega)
  go_enter Try.func12, Try.ntmps12
  go_wp2_with ((with_reducible refine at_slot 11 ?_); refine Classical.byContradiction (fun hG => ?_))
  refine hG ?_
  clear hG
  refine list_named (S := fun W => Below w0.heap.size w0 W ∧ M = W.heap.size ∧ Blk W w0.heap.size TT [.int .i64 a.1.1, .int .i64 a.1.2.1, .int .i64 a.1.2.2, .bool a.2, .int .i64 b.1.1, .int .i64 b.1.2.1, .int .i64 b.1.2.2, .bool b.2]) ⟨by (repeat' (first | (with_reducible exact Below.refl _ _) | (with_reducible refine Below.setCell ?_ (by (first | omega | (simp; done) | (simp; omega))) _) | (with_reducible refine Below.alloc ?_ (by (first | omega | (simp; done) | (simp; omega))) _) | (with_reducible refine Below.drew ?_) | (with_reducible refine below_drewN ?_ _))), by simp; omega, by (repeat' (first | (with_reducible refine BlkP.Blk.drew ?_) | (with_reducible refine BlkP.Blk.drewN ?_ _) | (with_reducible refine BlkP.Blk.setAt (us := ?_) (by first | omega | (simp; done) | (simp; omega)) rfl ?_ ?_) | (with_reducible refine BlkP.Blk.otherAt ?_ (by first | omega | (simp; done) | (simp; omega))) | (with_reducible refine BlkP.Blk.newA' (by first | omega | (simp; done) | (simp; omega)) rfl) | (with_reducible refine BlkP.Blk.alloc ?_ _) | (exact rfl)))⟩ ?_
  rintro w1 ⟨hb1, hz1, hk1⟩
  refine wp_makeS rfl rfl ?_
  intro w2 hm2 hb2
  have HB1 := Lib.hid (below_t hb1 hb2)
  have HM1 := Lib.hid (show MapS w2 M [] from hz1 ▸ hm2)
  rw [← hz1]
  have k2 := hk1.below hb2
  have c0 := k2.cell (i := 0) rfl
  have c1 := k2.cell (i := 1) rfl
  have c2 := k2.cell (i := 2) rfl
  have c3 := k2.cell (i := 3) rfl
  have c4 := k2.cell (i := 4) rfl
  have c5 := k2.cell (i := 5) rfl
  have c6 := k2.cell (i := 6) rfl
  have c7 := k2.cell (i := 7) rfl
  have kl := k2.lt
  clear hb1 hb2 hm2 hz1 hM hk1 k2
  go_wp2_with fail
  clear c0 c1 c2 c3 c4 c5 c6 c7 kl
  go_loopw [3, 13] (fun v3 v13 wr => ∃ (l : List V) (vr : Value), vr = v3 ∧ RowG.Own encS TS wr w0.heap.size vr l ∧ MapS wr M l ∧ Below w0.heap.size w0 wr ∧ (v13 = .int .i64 0 ∧ l = [] ∨ v13 = .int .i64 1 ∧ l = adds [] (pnear a) ∨ v13 = .int .i64 2 ∧ l = pmet a b)) (fun _ v _ => 2 - (intOf v).toNat)
  case atStart => exact ⟨[], _, rfl, Own.nil _ _ _ _, HM1.out, HB1.out, .inl ⟨rfl, rfl⟩⟩
  case round =>
    obtain ⟨l, vr, rfl, hor, hmr, hbr, hv⟩ := hrel
    have HOR := Lib.hid hor
    have HMR := Lib.hid hmr
    have HBR := Lib.hid hbr
    have hbz := hbr.size
    clear hor hmr hbr
    rcases hv with ⟨rfl, rfl⟩ | ⟨rfl, rfl⟩ | ⟨rfl, rfl⟩
    · have hix := run_index0 wr a b
      go_wp2_with fail
      clear hix
      refine calls_named (S := fun W => Below wr.heap.size wr W) (by (repeat' (first | (with_reducible exact Below.refl _ _) | (with_reducible refine Below.setCell ?_ (by (first | omega | (simp; done) | (simp; omega))) _) | (with_reducible refine Below.alloc ?_ (by (first | omega | (simp; done) | (simp; omega))) _) | (with_reducible refine Below.drew ?_) | (with_reducible refine below_drewN ?_ _)))) ?_
      intro w1 hb1
      have HB1 := Lib.hid hb1
      refine near_c.mono ?_
      rintro e w2 ⟨vn, rfl, hon, hb2⟩
      obtain ⟨n, hn⟩ : ∃ n, (pnear a).length = n := ⟨_, rfl⟩
      have HN := Lib.hid hn
      have HN36 := Lib.hid (show n ≤ 36 from hn ▸ pnear_len a)
      have hn36 : n ≤ 36 := HN36.out
      obtain ⟨Au, cn, rfl, hncn, hcn, hAu⟩ := own_len hon hn
      have hbb := below_t HB1.out hb2
      have HA := Lib.hid hAu
      have HKK := Lib.hid (show Kept w0 w2 M vr (.slice Au n cn) (([] : List V)) (pnear a) from ⟨HOR.out.below hbb, HMR.out.below hbb, hon.mono (by have := HB1.out.size; have := HBR.out.size; omega), fun k hk e => by
          have h1 := (hon.ge k hk).1
          have h2 := (HOR.out.ge k e).2
          have h3 := HB1.out.size
          omega, below_t HBR.out hbb⟩)
      clear hb1 hb2 hon hn hAu hbb
      have HLE := Lib.hid (show (([] : List V)).length ≤ 72 by simp)
      go_wp2_with fail
      go_loopw [3, 19] (fun v3 v19 wr => ∃ (j : Nat) (v : Value), v19 = .int .i64 (j : Nat) ∧ j ≤ n ∧ v = v3 ∧ Kept w0 wr M v (.slice Au n cn) (adds (([] : List V)) ((pnear a).take j)) (pnear a)) (fun _ v _ => n - (intOf v).toNat)
      case atStart => exact ⟨0, vr, rfl, Nat.zero_le _, rfl, by rw [List.take_zero]; exact HKK.out⟩
      case round =>
        obtain ⟨j, v, rfl, hj, rfl, hk⟩ := hrel
        have HK := Lib.hid hk
        clear hk
        by_cases hjn : j < n
        · have hjI : (j : Int) < (n : Int) := by omega
          obtain ⟨g, rfl, _, _⟩ := HA.out (by omega)
          obtain ⟨⟨qx, qy, qz⟩, hq⟩ : ∃ q, (pnear a)[j]? = some q := ⟨_, List.getElem?_eq_getElem (by rw [HN.out]; exact hjn)⟩
          have HQ := Lib.hid hq
          obtain ⟨l1, hl1⟩ : ∃ l, adds (([] : List V)) ((pnear a).take j) = l := ⟨_, rfl⟩
          have HL1 := Lib.hid hl1
          have HLL := Lib.hid (show l1.length ≤ 108 by
            have h1 := adds_len ((pnear a).take j) (([] : List V))
            have h2 := HLE.out
            have h3 : ((pnear a).take j).length ≤ 36 := by rw [List.length_take]; have := HN36.out; have := HN.out; omega
            rw [hl1] at h1
            omega)
          have HADD := Lib.hid (show adds (([] : List V)) ((pnear a).take (j + 1)) = add1 l1 (qx, qy, qz) by rw [adds_take hq, hl1])
          rw [hl1] at HK
          obtain ⟨x0, x1, x2⟩ := spot_at HK.out.2.2.1 hq
          have gl := (HK.out.2.2.1.ge g rfl).2
          simp only at x0 x1 x2
          clear hq hl1
          go_wp2_with ((with_reducible refine at_slot 26 ?_); refine Classical.byContradiction (fun hG => ?_))
          refine hG ?_
          clear hG
          refine list_named (S := fun W => Kept w0 W M v (.slice (some ⟨g, 0, none⟩) n cn) l1 (pnear a) ∧ Blk W wr.heap.size TS [.int .i64 qx, .int .i64 qy, .int .i64 qz] ∧ wr.heap.size + 1 = W.heap.size) ⟨HK.out.below (by (repeat' (first | (with_reducible exact Below.refl _ _) | (with_reducible refine Below.setCell ?_ (by (first | omega | (simp; done) | (simp; omega))) _) | (with_reducible refine Below.alloc ?_ (by (first | omega | (simp; done) | (simp; omega))) _) | (with_reducible refine Below.drew ?_) | (with_reducible refine below_drewN ?_ _)))), by (repeat' (first | (with_reducible refine BlkP.Blk.drew ?_) | (with_reducible refine BlkP.Blk.drewN ?_ _) | (with_reducible refine BlkP.Blk.setAt (us := ?_) (by first | omega | (simp; done) | (simp; omega)) rfl ?_ ?_) | (with_reducible refine BlkP.Blk.otherAt ?_ (by first | omega | (simp; done) | (simp; omega))) | (with_reducible refine BlkP.Blk.newA' (by first | omega | (simp; done) | (simp; omega)) rfl) | (with_reducible refine BlkP.Blk.alloc ?_ _) | (exact rfl))), by simp⟩ ?_
          rintro w2 ⟨hk2, hq2, hz2⟩
          have HK2 := Lib.hid hk2
          have HQ2 := Lib.hid hq2
          have d0 := hq2.cell (i := 0) rfl
          have d1 := hq2.cell (i := 1) rfl
          have d2 := hq2.cell (i := 2) rfl
          have dl := hq2.lt
          clear hk2 hq2 x0 x1 x2 gl
          cases hb : decide ((qx, qy, qz) ∈ l1) with
          | true =>
            have HIN := Lib.hid hb
            clear hb
            refine wp_lookupS rfl (.tmp 24) (.tmp 25) rfl (q := (qx, qy, qz)) rfl rfl HK2.out.2.1 HIN.out ?_
            go_wp2_with fail
            go_roundw
            case rel =>
              refine ⟨j + 1, v, by first | rfl | (congr 1; omega), by omega, rfl, ?_⟩
              rw [HADD.out, add1, if_pos (of_decide_eq_true HIN.out)]
              exact HK2.out.below (by (repeat' (first | (with_reducible exact Below.refl _ _) | (with_reducible refine Below.setCell ?_ (by (first | omega | (simp; done) | (simp; omega))) _) | (with_reducible refine Below.alloc ?_ (by (first | omega | (simp; done) | (simp; omega))) _) | (with_reducible refine Below.drew ?_) | (with_reducible refine below_drewN ?_ _))))
            case measure =>
              simp only [intOf]
              omega
          | false =>
            have HIN := Lib.hid hb
            clear hb
            refine wp_lookupS rfl (.tmp 24) (.tmp 25) rfl (q := (qx, qy, qz)) rfl rfl HK2.out.2.1 HIN.out ?_
            go_wp2_with ((with_reducible refine at_update ?_); refine Classical.byContradiction (fun hG => ?_))
            refine hG ?_
            clear hG
            refine list_named (S := fun W => Kept w0 W M v (.slice (some ⟨g, 0, none⟩) n cn) l1 (pnear a) ∧ Blk W wr.heap.size TS [.int .i64 qx, .int .i64 qy, .int .i64 qz]) ⟨HK2.out.below (by (repeat' (first | (with_reducible exact Below.refl _ _) | (with_reducible refine Below.setCell ?_ (by (first | omega | (simp; done) | (simp; omega))) _) | (with_reducible refine Below.alloc ?_ (by (first | omega | (simp; done) | (simp; omega))) _) | (with_reducible refine Below.drew ?_) | (with_reducible refine below_drewN ?_ _)))), by (repeat' (first | (with_reducible exact HQ2.out) | (with_reducible refine BlkP.Blk.drew ?_) | (with_reducible refine BlkP.Blk.drewN ?_ _) | (with_reducible refine BlkP.Blk.setAt (us := ?_) (by first | omega | (simp; done) | (simp; omega)) rfl ?_ ?_) | (with_reducible refine BlkP.Blk.otherAt ?_ (by first | omega | (simp; done) | (simp; omega))) | (with_reducible refine BlkP.Blk.newA' (by first | omega | (simp; done) | (simp; omega)) rfl) | (with_reducible refine BlkP.Blk.alloc ?_ _) | (exact rfl)))⟩ ?_
            rintro w3 ⟨hk3, hq3⟩
            refine wp_updateS rfl (.tmp 30) (.tmp 31) (.tmp 32) rfl (q := (qx, qy, qz)) rfl rfl rfl hk3.2.1 HIN.out ?_
            intro w4 hm4 hg4
            have HM4 := Lib.hid hm4
            have HO4 := Lib.hid (hk3.1.grown hg4 (.inr (hk3.2.1.own hk3.1)))
            have HU4 := Lib.hid (hk3.2.2.1.grown hg4 (.inr (hk3.2.1.own hk3.2.2.1)))
            have HAP := Lib.hid hk3.2.2.2.1
            have HB4 := Lib.hid (show Below w0.heap.size w0 w4 from hk3.2.2.2.2.grown hg4 hk3.2.2.2.2.size (fun k hk => by cases hk; exact HMB.out))
            have q4 := hq3.grown hg4 (fun e => hk3.2.1.blk hq3 (Option.some.inj e))
            have d0 := q4.cell (i := 0) rfl
            have d1 := q4.cell (i := 1) rfl
            have d2 := q4.cell (i := 2) rfl
            have dl := q4.lt
            have hz4 := HB4.out.size
            clear hk3 hq3 hm4 hg4 q4
            go_wp2_with ((with_reducible refine at_slot 36 ?_); refine Classical.byContradiction (fun hG => ?_))
            refine hG ?_
            clear hG
            refine list_named (S := fun W => ∃ W0, W = W0.alloc (.cells #[.int .i64 qx, .int .i64 qy, .int .i64 qz] TS) ∧ W0 = w4) ⟨_, rfl, rfl⟩ ?_
            rintro _ ⟨w5, rfl, rfl⟩
            refine wp_pushS (w0 := w5) rfl (.tmp 33) (.tmp 35) rfl (y := (qx, qy, qz)) (l := l1) (n := l1.length) rfl rfl rfl HO4.out rfl rfl (by have := HLL.out; omega) (by omega) ?_
            rintro g6 c6 w6 ⟨ho6, hg6, hn6⟩
            have HO6 := Lib.hid ho6
            have HM6 := Lib.hid (HM4.out.grown hg6 (fun e => HM4.out.own HO4.out e.symm))
            have HU6 := Lib.hid (HU4.out.grown hg6 (by first | exact .inr (fun e => HAP.out g rfl e.symm) | exact .inr (fun e => HAP.out g rfl (e.symm))))
            have HB6 := Lib.hid (show Below w0.heap.size w0 w6 from HB4.out.grown hg6 hz4 (fun k hk => (HO4.out.ge k hk).1))
            have HA6 := Lib.hid (show Apt (.slice (some ⟨g6, 0, none⟩) (l1.length + 1) c6) (.slice (some ⟨g, 0, none⟩) n cn) from fun k hk e => by
              have e1 : g6 = k := Option.some.inj e
              rcases hn6 with h | h
              · exact HAP.out k hk ((show v.ownBlock = some g6 from h).trans (congrArg some e1))
              · have := (HU4.out.ge k hk).2
                omega)
            clear ho6 hg6 hn6 d0 d1 d2 dl
            go_wp2_with fail
            go_roundw
            case rel =>
              refine ⟨j + 1, _, by first | rfl | (congr 1; omega), by omega, rfl, ?_⟩
              rw [HADD.out, add1, if_neg (of_decide_eq_false HIN.out)]
              exact ⟨HO6.out, HM6.out, HU6.out, HA6.out, HB6.out⟩
            case measure =>
              simp only [intOf]
              omega
        · obtain rfl : j = n := by omega
          have hK : Kept w0 wr M v (.slice Au j cn) (adds [] (pnear a)) (pnear a) := by
            have h := HK.out
            rw [List.take_of_length_le (by rw [HN.out]; exact Nat.le_refl _)] at h
            exact h
          have HK2 := Lib.hid hK
          clear HK hK
          go_wp2_with fail
          go_roundw
          case rel => exact ⟨_, _, rfl, HK2.out.1, HK2.out.2.1, HK2.out.2.2.2.2, .inr (.inl ⟨rfl, rfl⟩)⟩
          case measure =>
            simp only [intOf]
            omega
    · have hix := run_index1 wr a b
      go_wp2_with fail
      clear hix
      refine calls_named (S := fun W => Below wr.heap.size wr W) (by (repeat' (first | (with_reducible exact Below.refl _ _) | (with_reducible refine Below.setCell ?_ (by (first | omega | (simp; done) | (simp; omega))) _) | (with_reducible refine Below.alloc ?_ (by (first | omega | (simp; done) | (simp; omega))) _) | (with_reducible refine Below.drew ?_) | (with_reducible refine below_drewN ?_ _)))) ?_
      intro w1 hb1
      have HB1 := Lib.hid hb1
      refine near_c.mono ?_
      rintro e w2 ⟨vn, rfl, hon, hb2⟩
      obtain ⟨n, hn⟩ : ∃ n, (pnear b).length = n := ⟨_, rfl⟩
      have HN := Lib.hid hn
      have HN36 := Lib.hid (show n ≤ 36 from hn ▸ pnear_len b)
      have hn36 : n ≤ 36 := HN36.out
      obtain ⟨Au, cn, rfl, hncn, hcn, hAu⟩ := own_len hon hn
      have hbb := below_t HB1.out hb2
      have HA := Lib.hid hAu
      have HKK := Lib.hid (show Kept w0 w2 M vr (.slice Au n cn) (adds [] (pnear a)) (pnear b) from ⟨HOR.out.below hbb, HMR.out.below hbb, hon.mono (by have := HB1.out.size; have := HBR.out.size; omega), fun k hk e => by
          have h1 := (hon.ge k hk).1
          have h2 := (HOR.out.ge k e).2
          have h3 := HB1.out.size
          omega, below_t HBR.out hbb⟩)
      clear hb1 hb2 hon hn hAu hbb
      have HLE := Lib.hid (show (adds [] (pnear a)).length ≤ 72 by have h := adds_len (pnear a) []; have h2 := pnear_len a; simp only [List.length_nil] at h; omega)
      go_wp2_with fail
      go_loopw [3, 19] (fun v3 v19 wr => ∃ (j : Nat) (v : Value), v19 = .int .i64 (j : Nat) ∧ j ≤ n ∧ v = v3 ∧ Kept w0 wr M v (.slice Au n cn) (adds (adds [] (pnear a)) ((pnear b).take j)) (pnear b)) (fun _ v _ => n - (intOf v).toNat)
      case atStart => exact ⟨0, vr, rfl, Nat.zero_le _, rfl, by rw [List.take_zero]; exact HKK.out⟩
      case round =>
        obtain ⟨j, v, rfl, hj, rfl, hk⟩ := hrel
        have HK := Lib.hid hk
        clear hk
        by_cases hjn : j < n
        · have hjI : (j : Int) < (n : Int) := by omega
          obtain ⟨g, rfl, _, _⟩ := HA.out (by omega)
          obtain ⟨⟨qx, qy, qz⟩, hq⟩ : ∃ q, (pnear b)[j]? = some q := ⟨_, List.getElem?_eq_getElem (by rw [HN.out]; exact hjn)⟩
          have HQ := Lib.hid hq
          obtain ⟨l1, hl1⟩ : ∃ l, adds (adds [] (pnear a)) ((pnear b).take j) = l := ⟨_, rfl⟩
          have HL1 := Lib.hid hl1
          have HLL := Lib.hid (show l1.length ≤ 108 by
            have h1 := adds_len ((pnear b).take j) (adds [] (pnear a))
            have h2 := HLE.out
            have h3 : ((pnear b).take j).length ≤ 36 := by rw [List.length_take]; have := HN36.out; have := HN.out; omega
            rw [hl1] at h1
            omega)
          have HADD := Lib.hid (show adds (adds [] (pnear a)) ((pnear b).take (j + 1)) = add1 l1 (qx, qy, qz) by rw [adds_take hq, hl1])
          rw [hl1] at HK
          obtain ⟨x0, x1, x2⟩ := spot_at HK.out.2.2.1 hq
          have gl := (HK.out.2.2.1.ge g rfl).2
          simp only at x0 x1 x2
          clear hq hl1
          go_wp2_with ((with_reducible refine at_slot 26 ?_); refine Classical.byContradiction (fun hG => ?_))
          refine hG ?_
          clear hG
          refine list_named (S := fun W => Kept w0 W M v (.slice (some ⟨g, 0, none⟩) n cn) l1 (pnear b) ∧ Blk W wr.heap.size TS [.int .i64 qx, .int .i64 qy, .int .i64 qz] ∧ wr.heap.size + 1 = W.heap.size) ⟨HK.out.below (by (repeat' (first | (with_reducible exact Below.refl _ _) | (with_reducible refine Below.setCell ?_ (by (first | omega | (simp; done) | (simp; omega))) _) | (with_reducible refine Below.alloc ?_ (by (first | omega | (simp; done) | (simp; omega))) _) | (with_reducible refine Below.drew ?_) | (with_reducible refine below_drewN ?_ _)))), by (repeat' (first | (with_reducible refine BlkP.Blk.drew ?_) | (with_reducible refine BlkP.Blk.drewN ?_ _) | (with_reducible refine BlkP.Blk.setAt (us := ?_) (by first | omega | (simp; done) | (simp; omega)) rfl ?_ ?_) | (with_reducible refine BlkP.Blk.otherAt ?_ (by first | omega | (simp; done) | (simp; omega))) | (with_reducible refine BlkP.Blk.newA' (by first | omega | (simp; done) | (simp; omega)) rfl) | (with_reducible refine BlkP.Blk.alloc ?_ _) | (exact rfl))), by simp⟩ ?_
          rintro w2 ⟨hk2, hq2, hz2⟩
          have HK2 := Lib.hid hk2
          have HQ2 := Lib.hid hq2
          have d0 := hq2.cell (i := 0) rfl
          have d1 := hq2.cell (i := 1) rfl
          have d2 := hq2.cell (i := 2) rfl
          have dl := hq2.lt
          clear hk2 hq2 x0 x1 x2 gl
          cases hb : decide ((qx, qy, qz) ∈ l1) with
          | true =>
            have HIN := Lib.hid hb
            clear hb
            refine wp_lookupS rfl (.tmp 24) (.tmp 25) rfl (q := (qx, qy, qz)) rfl rfl HK2.out.2.1 HIN.out ?_
            go_wp2_with fail
            go_roundw
            case rel =>
              refine ⟨j + 1, v, by first | rfl | (congr 1; omega), by omega, rfl, ?_⟩
              rw [HADD.out, add1, if_pos (of_decide_eq_true HIN.out)]
              exact HK2.out.below (by (repeat' (first | (with_reducible exact Below.refl _ _) | (with_reducible refine Below.setCell ?_ (by (first | omega | (simp; done) | (simp; omega))) _) | (with_reducible refine Below.alloc ?_ (by (first | omega | (simp; done) | (simp; omega))) _) | (with_reducible refine Below.drew ?_) | (with_reducible refine below_drewN ?_ _))))
            case measure =>
              simp only [intOf]
              omega
          | false =>
            have HIN := Lib.hid hb
            clear hb
            refine wp_lookupS rfl (.tmp 24) (.tmp 25) rfl (q := (qx, qy, qz)) rfl rfl HK2.out.2.1 HIN.out ?_
            go_wp2_with ((with_reducible refine at_update ?_); refine Classical.byContradiction (fun hG => ?_))
            refine hG ?_
            clear hG
            refine list_named (S := fun W => Kept w0 W M v (.slice (some ⟨g, 0, none⟩) n cn) l1 (pnear b) ∧ Blk W wr.heap.size TS [.int .i64 qx, .int .i64 qy, .int .i64 qz]) ⟨HK2.out.below (by (repeat' (first | (with_reducible exact Below.refl _ _) | (with_reducible refine Below.setCell ?_ (by (first | omega | (simp; done) | (simp; omega))) _) | (with_reducible refine Below.alloc ?_ (by (first | omega | (simp; done) | (simp; omega))) _) | (with_reducible refine Below.drew ?_) | (with_reducible refine below_drewN ?_ _)))), by (repeat' (first | (with_reducible exact HQ2.out) | (with_reducible refine BlkP.Blk.drew ?_) | (with_reducible refine BlkP.Blk.drewN ?_ _) | (with_reducible refine BlkP.Blk.setAt (us := ?_) (by first | omega | (simp; done) | (simp; omega)) rfl ?_ ?_) | (with_reducible refine BlkP.Blk.otherAt ?_ (by first | omega | (simp; done) | (simp; omega))) | (with_reducible refine BlkP.Blk.newA' (by first | omega | (simp; done) | (simp; omega)) rfl) | (with_reducible refine BlkP.Blk.alloc ?_ _) | (exact rfl)))⟩ ?_
            rintro w3 ⟨hk3, hq3⟩
            refine wp_updateS rfl (.tmp 30) (.tmp 31) (.tmp 32) rfl (q := (qx, qy, qz)) rfl rfl rfl hk3.2.1 HIN.out ?_
            intro w4 hm4 hg4
            have HM4 := Lib.hid hm4
            have HO4 := Lib.hid (hk3.1.grown hg4 (.inr (hk3.2.1.own hk3.1)))
            have HU4 := Lib.hid (hk3.2.2.1.grown hg4 (.inr (hk3.2.1.own hk3.2.2.1)))
            have HAP := Lib.hid hk3.2.2.2.1
            have HB4 := Lib.hid (show Below w0.heap.size w0 w4 from hk3.2.2.2.2.grown hg4 hk3.2.2.2.2.size (fun k hk => by cases hk; exact HMB.out))
            have q4 := hq3.grown hg4 (fun e => hk3.2.1.blk hq3 (Option.some.inj e))
            have d0 := q4.cell (i := 0) rfl
            have d1 := q4.cell (i := 1) rfl
            have d2 := q4.cell (i := 2) rfl
            have dl := q4.lt
            have hz4 := HB4.out.size
            clear hk3 hq3 hm4 hg4 q4
            go_wp2_with ((with_reducible refine at_slot 36 ?_); refine Classical.byContradiction (fun hG => ?_))
            refine hG ?_
            clear hG
            refine list_named (S := fun W => ∃ W0, W = W0.alloc (.cells #[.int .i64 qx, .int .i64 qy, .int .i64 qz] TS) ∧ W0 = w4) ⟨_, rfl, rfl⟩ ?_
            rintro _ ⟨w5, rfl, rfl⟩
            refine wp_pushS (w0 := w5) rfl (.tmp 33) (.tmp 35) rfl (y := (qx, qy, qz)) (l := l1) (n := l1.length) rfl rfl rfl HO4.out rfl rfl (by have := HLL.out; omega) (by omega) ?_
            rintro g6 c6 w6 ⟨ho6, hg6, hn6⟩
            have HO6 := Lib.hid ho6
            have HM6 := Lib.hid (HM4.out.grown hg6 (fun e => HM4.out.own HO4.out e.symm))
            have HU6 := Lib.hid (HU4.out.grown hg6 (by first | exact .inr (fun e => HAP.out g rfl e.symm) | exact .inr (fun e => HAP.out g rfl (e.symm))))
            have HB6 := Lib.hid (show Below w0.heap.size w0 w6 from HB4.out.grown hg6 hz4 (fun k hk => (HO4.out.ge k hk).1))
            have HA6 := Lib.hid (show Apt (.slice (some ⟨g6, 0, none⟩) (l1.length + 1) c6) (.slice (some ⟨g, 0, none⟩) n cn) from fun k hk e => by
              have e1 : g6 = k := Option.some.inj e
              rcases hn6 with h | h
              · exact HAP.out k hk ((show v.ownBlock = some g6 from h).trans (congrArg some e1))
              · have := (HU4.out.ge k hk).2
                omega)
            clear ho6 hg6 hn6 d0 d1 d2 dl
            go_wp2_with fail
            go_roundw
            case rel =>
              refine ⟨j + 1, _, by first | rfl | (congr 1; omega), by omega, rfl, ?_⟩
              rw [HADD.out, add1, if_neg (of_decide_eq_false HIN.out)]
              exact ⟨HO6.out, HM6.out, HU6.out, HA6.out, HB6.out⟩
            case measure =>
              simp only [intOf]
              omega
        · obtain rfl : j = n := by omega
          have hK : Kept w0 wr M v (.slice Au j cn) (pmet a b) (pnear b) := by
            have h := HK.out
            rw [List.take_of_length_le (by rw [HN.out]; exact Nat.le_refl _)] at h
            exact h
          have HK2 := Lib.hid hK
          clear HK hK
          go_wp2_with fail
          go_roundw
          case rel => exact ⟨_, _, rfl, HK2.out.1, HK2.out.2.1, HK2.out.2.2.2.2, .inr (.inr ⟨rfl, rfl⟩)⟩
          case measure =>
            simp only [intOf]
            omega
    · obtain ⟨n, hn⟩ : ∃ n, (pmet a b).length = n := ⟨_, rfl⟩
      have HN := Lib.hid hn
      obtain ⟨A, c, rfl, _, _, hA⟩ := own_len HOR.out hn
      have hn72 : n ≤ 72 := hn ▸ pmet_len a b
      have HTK := Lib.hid (sorted_is HIA.out HIB.out (rfl : pmet a b = pmet a b))
      rcases Nat.eq_zero_or_pos n with h0 | h0
      · subst h0
        have HNIL := Lib.hid (show rspots a b = [] by
          have h1 : pmet a b = [] := List.eq_nil_of_length_eq_zero HN.out
          have h2 := HTK.out
          rw [h1] at h2
          have h3 := ticks_is h2 (rspots_ticks HIA.out HIB.out)
          rw [← h3]
          exact List.eq_nil_of_length_eq_zero (sortP_len []))
        have HR := Lib.hid (show RowG.Own encS TS wr w0.heap.size (.slice A 0 c) [] by
          have h := HOR.out
          rw [List.eq_nil_of_length_eq_zero HN.out] at h
          exact h)
        clear hn hA
        go_wp2_with fail
        refine sortF_none.mono ?_
        rintro e w2 ⟨rfl, rfl⟩
        go_wp2_with fail
        go_ret
        refine ⟨_, rfl, ?_, HBR.out⟩
        rw [HNIL.out]
        exact HR.out
      · obtain ⟨g, rfl, hgB, _⟩ := hA h0
        have HGB := Lib.hid hgB
        have HSP := Lib.hid (show sortP (pmet a b) = rspots a b from ticks_is HTK.out (rspots_ticks HIA.out HIB.out))
        clear hn hA hgB
        go_wp2_with fail
        refine (sortF_c HOR.out HN.out (by omega)).mono ?_
        rintro e w2 ⟨rfl, hg2, ho2⟩
        rw [HSP.out] at ho2
        have HO2 := Lib.hid ho2
        have HB2 := Lib.hid (show Below w0.heap.size w0 w2 from HBR.out.grown hg2 HBR.out.size (fun k hk => by cases hk; exact HGB.out))
        clear hg2 ho2
        go_wp2_with fail
        go_ret
        exact ⟨_, rfl, HO2.out, HB2.out⟩
end AncW
end Go.Proofs.Ytcmmfihhnmhhgaa
