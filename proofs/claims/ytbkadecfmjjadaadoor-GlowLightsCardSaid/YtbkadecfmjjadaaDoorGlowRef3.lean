/-
  The reference's Rounds.
-/
import Derived.Test.YtbkadecfmjjadaaDoorGlowRef1
import Derived.Test.YtbkadecfmjjadaaDoorGlowRef2
namespace Go.Proofs.YtbkadecfmjjadaaDoor
open Go.RowKit
set_option linter.unusedVariables false
set_option linter.unusedSimpArgs false
namespace GlowW
open BlkP RowG KindP KindW
theorem in_congr {side : Nat → List Nat} {L M : Nat → Nat} {i : Nat} (h : ∀ s ∈ side i, L s = M s) : GlowP.inL side L i = GlowP.inL side M i :=
  Nat.le_antisymm (GlowP.in_le.2 fun s hs => by rw [h s hs]; exact GlowP.in_ge hs) (GlowP.in_le.2 fun s hs => by rw [← h s hs]; exact GlowP.in_ge hs)
theorem fillV_same {f : List Value} {z : Value} {j : Nat} (h : f[j]? = some z) : fillV f z (j + 1) = fillV f z j := by
  have hj := (List.getElem?_eq_some_iff.1 h).1
  rw [← fillV_set h]
  have hg := fillV_get (f := f) (z := z) hj
  apply List.ext_getElem?
  intro k
  by_cases e : j = k
  · subst e
    rw [List.getElem?_set_self (by rw [fillV_len (by omega)]; exact hj), hg]
  · rw [List.getElem?_set_ne e]
def rdL (X Y Z n : Nat) (O : List Bool) (own : List Nat) (k : Nat) : List Nat := (List.range n).map (GlowP.rounds (GlowP.sideX X Y Z) (GlowP.clO O) (fun i => own.getD i 0) k)
section
variable {X Y Z n : Nat} {O : List Bool} {own : List Nat}
theorem rdL_len (k : Nat) : (rdL X Y Z n O own k).length = n := by simp [rdL]
theorem rdL_get {k i : Nat} (h : i < n) : (rdL X Y Z n O own k)[i]? = some (GlowP.rounds (GlowP.sideX X Y Z) (GlowP.clO O) (fun i => own.getD i 0) k i) := by simp [rdL, h]
theorem rdL_getD {k i : Nat} (h : i < n) : (rdL X Y Z n O own k).getD i 0 = GlowP.rounds (GlowP.sideX X Y Z) (GlowP.clO O) (fun i => own.getD i 0) k i := by simp only [List.getD, rdL_get h]; rfl
theorem rdL_zero (h : own.length = n) : rdL X Y Z n O own 0 = own := by
  apply List.ext_getElem?
  intro i
  by_cases hi : i < n
  · rw [rdL_get hi]
    show some (own.getD i 0) = _
    rw [List.getElem?_eq_getElem (by omega)]
    simp [List.getD, List.getElem?_eq_getElem (show i < own.length by omega)]
  · rw [List.getElem?_eq_none (by rw [rdL_len]; omega), List.getElem?_eq_none (by omega)]
theorem rdL_le (h : ∀ i, own.getD i 0 ≤ 15) (k i : Nat) : (rdL X Y Z n O own k).getD i 0 ≤ 15 := by
  by_cases hi : i < n
  · rw [rdL_getD hi]
    exact GlowP.rounds_le h k i
  · simp [List.getD, List.getElem?_eq_none (show (rdL X Y Z n O own k).length ≤ i by rw [rdL_len]; omega)]
theorem rdL_next {k i : Nat} (hn : X * Y * Z = n) (h : i < n) : (rdL X Y Z n O own (k + 1))[i]? = some (if GlowP.clO O i = true then max (own.getD i 0) (GlowP.inL (GlowP.sideX X Y Z) (fun s => (rdL X Y Z n O own k).getD s 0) i) else 0) := by
  rw [rdL_get h]
  have e : GlowP.inL (GlowP.sideX X Y Z) (GlowP.rounds (GlowP.sideX X Y Z) (GlowP.clO O) (fun i => own.getD i 0) k) i = GlowP.inL (GlowP.sideX X Y Z) (fun s => (rdL X Y Z n O own k).getD s 0) i := in_congr fun s hs => by
    have := (GlowP.sideX_lt hs).2
    exact (rdL_getD (by omega)).symm
  rw [← e]
  rfl
end
theorem wp_makeI (w : World) {ops : Array Oper} {rest : List Oper} {o : Oper} {a : Act} {Q : Exit → Act → World → Prop} (hg : o.guard = none) (l c : Operand) (hop : o.op = Op.makeSlice 40 l c) (n : Nat) (hl : a.eval l = .int .i64 n) (hc : a.eval c = .int .i64 n) (hn : n ≤ 1000000)
    (h : ∀ w', Blk w' w.heap.size 3 (List.replicate n (.int .i64 0)) → Below w.heap.size w w' → wpList Tryd.prog ops Q rest (a.put o.dst (.slice (some ⟨w.heap.size, 0, none⟩) n n)) w') : wpList Tryd.prog ops Q (o :: rest) a w := by
  obtain ⟨i, hi, hz, hs1, hby⟩ := info_parts infoInt
  refine wpList_plain hg fun K hK' => ?_
  have hr := run_make (P := Tryd.prog) w 40 3 i _ underInts hi hz .i64 .i64 n n (by omega) (Int.le_refl _) (by rw [hby]; omega) (by omega)
  unfold Oper.wp
  simp [execOp, hop, hl, hc, hr, Result.andThen]
  refine hK' _ _ (h _ ?_ ((Below.refl _ _).alloc (Nat.le_refl _) _))
  have e := madeB (.int .i64 0) n
  rw [hs1, Nat.mul_one]
  exact Blk.newA' rfl (by rw [show (Value.int IntKind.i64 0).cells = #[Value.int IntKind.i64 0] from rfl, e])
theorem bel_th {w0 w w' : World} {B : Nat} (hb : Below B w0 w) (h : Below w.heap.size w w') (hB : B ≤ w.heap.size) : Below B w0 w' := hb.trans (h.mono hB)
def WholeI (w : World) (n : Nat) (vs : List Value) (e : Ending) (w' : World) : Prop := ∃ g, e = .returned (.slice (some ⟨g, 0, none⟩) n n) ∧ Blk w' g 3 vs ∧ Below w.heap.size w w'
def RdRel (W0 : World) (n : Nat) (LL : Nat → List Nat) (v5 v6 : Value) (W : World) : Prop := ∃ k g : Nat, v6 = .int .i64 k ∧ k ≤ 15 ∧ v5 = .slice (some ⟨g, 0, none⟩) n n ∧ Blk W g 3 ((LL k).map i64v) ∧ Below W0.heap.size W0 W
def FlRel (wk : World) (g : Nat) (F : List Value) (m : Nat) (f : Nat → Nat) (v : Value) (W : World) : Prop := ∃ y : Nat, v = .int .i64 y ∧ y ≤ m ∧ Blk W g 3 (fillV F (.int .i64 0) (f y)) ∧ Below wk.heap.size wk W
set_option maxRecDepth 100000 in
set_option maxHeartbeats 16000000 in
theorem rounds_c {w : World} {X Y Z n c bb oo bo : Nat} {cs : List (Nat × Nat)} {own : List Nat} (hX : 1 ≤ X ∧ X ≤ 256) (hY : 1 ≤ Y ∧ Y ≤ 256) (hZ : 1 ≤ Z ∧ Z ≤ 256) (hn : X * Y * Z = n) (hn2 : n ≤ 6000)
    (hR : Rd enc2 w (.slice (some ⟨bb, oo, none⟩) n c) cs) (hcs : n = cs.length) (hO : Blk w bo 3 (own.map i64v)) (hon : own.length = n) (h15 : ∀ i, own.getD i 0 ≤ 15) :
    Calls Tryd.prog 32 #[.agg #[.int .i64 X, .int .i64 Y, .int .i64 Z, .slice (some ⟨bb, oo, none⟩) n c], .slice (some ⟨bo, 0, none⟩) n n] w (WholeI w n ((rdL X Y Z n (cs.map openA) own 15).map i64v)) := by
  have HN := Lib.hid hn
  have HR := Lib.hid hR
  have HC := Lib.hid hcs
  have HO := Lib.hid hO
  have HON := Lib.hid hon
  have H15 := Lib.hid h15
  have hbol := hO.lt
  obtain ⟨LL, hLL⟩ : ∃ LL : Nat → List Nat, rdL X Y Z n (cs.map openA) own = LL := ⟨_, rfl⟩
  have HLL := Lib.hid hLL
  have HLN := Lib.hid (show ∀ k, (LL k).length = n from fun k => by rw [← hLL]; exact rdL_len k)
  have HL15 := Lib.hid (show ∀ k i, (LL k).getD i 0 ≤ 15 from fun k i => by rw [← hLL]; exact rdL_le h15 k i)
  have HNX := Lib.hid (show ∀ k i, i < n → (LL (k + 1))[i]? = some (if GlowP.clO (cs.map openA) i = true then max (own.getD i 0) (GlowP.inL (GlowP.sideX X Y Z) (fun s => (LL k).getD s 0) i) else 0) from fun k i hi => by rw [← hLL]; exact rdL_next hn hi)
  have HL0 := Lib.hid (show LL 0 = own by rw [← hLL]; exact rdL_zero hon)
  rw [hLL]
  clear hn hR hcs hO hon h15 hLL
  go_enter Tryd.func32, Tryd.ntmps32
  go_wp2_with fail
  refine HeldP.wp_named (fun W => W.cell? ⟨w.heap.size, 0, none⟩ = some (.int .i64 X) ∧ W.cell? ⟨w.heap.size, 1, none⟩ = some (.int .i64 Y) ∧ W.cell? ⟨w.heap.size, 2, none⟩ = some (.int .i64 Z) ∧ W.cell? ⟨w.heap.size, 3, none⟩ = some (.slice (some ⟨bb, oo, none⟩) n c) ∧ w.heap.size < W.heap.size ∧ Below w.heap.size w W) (by (refine ⟨?_, ?_, ?_, ?_, ?_, by (repeat' (first | (with_reducible exact Below.refl _ _) | (with_reducible refine Below.setCell ?_ (by (first | omega | (simp; done) | (simp; omega))) _) | (with_reducible refine Below.alloc ?_ (by (first | omega | (simp; done) | (simp; omega))) _) | (with_reducible refine Below.drew ?_) | (with_reducible refine below_drewN ?_ _)))⟩); all_goals (repeat' (first | (with_reducible assumption) | (with_reducible refine HeldP.c_drew ?_) | (with_reducible refine HeldP.c_drewN ?_) | (with_reducible refine HeldP.c_same (by omega) ?_) | (with_reducible refine HeldP.c_other ?_ ?_) | (with_reducible refine HeldP.c_new (by first | omega | (simp; done) | (simp; omega)) ?_) | (with_reducible refine HeldP.c_alloc ?_ ?_) | (with_reducible refine HeldP.e_drew ?_) | (with_reducible refine HeldP.e_drewN ?_) | (with_reducible refine HeldP.e_set ?_) | (with_reducible refine HeldP.e_new (by first | omega | (simp; done) | (simp; omega)) ⟨_, rfl⟩) | (with_reducible refine HeldP.e_alloc ?_ ?_) | (with_reducible refine HeldP.f_drew ?_) | (with_reducible refine HeldP.f_drewN ?_) | (with_reducible refine HeldP.f_set ?_) | (with_reducible refine HeldP.f_new (by first | omega | (simp; done) | (simp; omega))) | (with_reducible refine HeldP.f_alloc ?_ ?_) | (with_reducible refine HeldP.s_drew ?_) | (with_reducible refine HeldP.s_drewN ?_) | (with_reducible refine HeldP.s_set ?_) | (with_reducible refine HeldP.s_new (by first | omega | (simp; done) | (simp; omega))) | (with_reducible refine HeldP.s_alloc ?_) | (with_reducible exact ⟨_, by assumption⟩) | omega | (intro e; simp at e; done) | (intro e; simp at e; omega) | (exact rfl) | (simp; done) | (simp; omega)))) ?_
  rintro W0 ⟨k0, k1, k2, k3, hz0, hb0⟩
  have K0 := Lib.hid k0
  have K1 := Lib.hid k1
  have K2 := Lib.hid k2
  have K3 := Lib.hid k3
  have HB0 := Lib.hid hb0
  have HO0 := Lib.hid (HO.out.belowAt hb0 hbol)
  have HR0 := Lib.hid (HR.out.below hb0)
  have hbo0 : bo < W0.heap.size := by omega
  clear hb0 k0 k1 k2 k3
  go_loopw [5, 6] (RdRel W0 n LL) (fun _ v _ => 15 - (intOf v).toNat)
  case atStart => exact ⟨0, bo, rfl, by omega, rfl, by rw [HL0.out]; exact HO0.out, Below.refl _ _⟩
  case round =>
    obtain ⟨k, g, rfl, hk, rfl, hg, hb⟩ := hrel
    obtain ⟨wk, hwk⟩ : ∃ wk, wk = wr := ⟨_, rfl⟩
    subst hwk
    have HB := Lib.hid hb
    have HG := Lib.hid hg
    have hgl := hg.lt
    have hzk := hb.size
    by_cases hk15 : k < 15
    · have hkI : (k : Int) < 15 := by omega
      have hzw : w.heap.size < wk.heap.size := by omega
      have hbok : bo < wk.heap.size := by omega
      have k0 : wk.cell? ⟨w.heap.size, 0, none⟩ = some (.int .i64 X) := (hb.cell (p := ⟨w.heap.size, 0, none⟩) hz0).trans K0.out
      have k1 : wk.cell? ⟨w.heap.size, 1, none⟩ = some (.int .i64 Y) := (hb.cell (p := ⟨w.heap.size, 1, none⟩) hz0).trans K1.out
      have k2 : wk.cell? ⟨w.heap.size, 2, none⟩ = some (.int .i64 Z) := (hb.cell (p := ⟨w.heap.size, 2, none⟩) hz0).trans K2.out
      have k3 : wk.cell? ⟨w.heap.size, 3, none⟩ = some (.slice (some ⟨bb, oo, none⟩) n c) := (hb.cell (p := ⟨w.heap.size, 3, none⟩) hz0).trans K3.out
      have KK0 := Lib.hid k0
      have KK1 := Lib.hid k1
      have KK2 := Lib.hid k2
      have KK3 := Lib.hid k3
      have HRK := Lib.hid (HR0.out.below hb)
      have HOK := Lib.hid (HO0.out.belowAt hb hbo0)
      obtain ⟨F, hF⟩ : ∃ F : List Value, (LL (k + 1)).map i64v = F := ⟨_, rfl⟩
      have HF := Lib.hid hF
      have hFl : F.length = n := by rw [← hF, List.length_map]; exact HLN.out _
      have HFL := Lib.hid hFl
      clear hb hg k0 k1 k2 k3 hF hFl
      go_wp2_with ((with_reducible refine at_slot 20 ?_); refine Classical.byContradiction (fun hG => ?_))
      refine hG ?_
      clear hG
      refine wp_makeI _ rfl _ _ rfl n rfl rfl (by omega) ?_
      intro w2 hd2 hb2
      obtain ⟨gn, hgn⟩ : ∃ gn, wk.heap.size = gn := ⟨_, rfl⟩
      rw [hgn] at hd2 ⊢
      have HGN := Lib.hid hgn
      have HD2 := Lib.hid (show Blk w2 gn 3 (fillV F (.int .i64 0) 0) by rw [fillV_zero, HFL.out]; exact hd2)
      have HB2 := Lib.hid hb2
      have hgn1 : wk.heap.size ≤ gn := by omega
      have hggn : g ≠ gn := by omega
      have hbgn : bo ≠ gn := by omega
      have hwgn : w.heap.size ≠ gn := by omega
      clear hd2 hb2 hgn
      go_wp2_with fail
      go_loopw [8] (FlRel wk gn F Y (fun y => y * Z * X)) (fun v _ => Y - (intOf v).toNat)
      case atStart => exact ⟨0, rfl, by omega, by simp only [Nat.zero_mul]; exact HD2.out, HB2.out⟩
      case round =>
        obtain ⟨y, rfl, hy, hd, hb⟩ := hrel
        have HDY := Lib.hid hd
        have HBY := Lib.hid hb
        have k0 : wr.cell? ⟨w.heap.size, 0, none⟩ = some (.int .i64 X) := (hb.cell (p := ⟨w.heap.size, 0, none⟩) hzw).trans KK0.out
        have k1 : wr.cell? ⟨w.heap.size, 1, none⟩ = some (.int .i64 Y) := (hb.cell (p := ⟨w.heap.size, 1, none⟩) hzw).trans KK1.out
        have k2 : wr.cell? ⟨w.heap.size, 2, none⟩ = some (.int .i64 Z) := (hb.cell (p := ⟨w.heap.size, 2, none⟩) hzw).trans KK2.out
        have k3 : wr.cell? ⟨w.heap.size, 3, none⟩ = some (.slice (some ⟨bb, oo, none⟩) n c) := (hb.cell (p := ⟨w.heap.size, 3, none⟩) hzw).trans KK3.out
        clear hd hb
        by_cases hyY : y < Y
        · have hyI : (y : Int) < Y := by omega
          go_wp2_with fail
          go_loopw [9] (FlRel wk gn F Z (fun z => (y * Z + z) * X)) (fun v _ => Z - (intOf v).toNat)
          case atStart => exact ⟨0, rfl, by omega, by simp only [Nat.add_zero]; exact HDY.out, HBY.out⟩
          case round =>
            clear k0 k1 k2 k3
            obtain ⟨z, rfl, hz, hd, hb⟩ := hrel
            have HDZ := Lib.hid hd
            have HBZ := Lib.hid hb
            have k0 : wr.cell? ⟨w.heap.size, 0, none⟩ = some (.int .i64 X) := (hb.cell (p := ⟨w.heap.size, 0, none⟩) hzw).trans KK0.out
            have k1 : wr.cell? ⟨w.heap.size, 1, none⟩ = some (.int .i64 Y) := (hb.cell (p := ⟨w.heap.size, 1, none⟩) hzw).trans KK1.out
            have k2 : wr.cell? ⟨w.heap.size, 2, none⟩ = some (.int .i64 Z) := (hb.cell (p := ⟨w.heap.size, 2, none⟩) hzw).trans KK2.out
            have k3 : wr.cell? ⟨w.heap.size, 3, none⟩ = some (.slice (some ⟨bb, oo, none⟩) n c) := (hb.cell (p := ⟨w.heap.size, 3, none⟩) hzw).trans KK3.out
            clear hd hb
            by_cases hzZ : z < Z
            · have hzI : (z : Int) < Z := by omega
              go_wp2_with fail
              go_loopw [10] (FlRel wk gn F X (fun x => (y * Z + z) * X + x)) (fun v _ => X - (intOf v).toNat)
              case atStart => exact ⟨0, rfl, by omega, by simp only [Nat.add_zero]; exact HDZ.out, HBZ.out⟩
              case round =>
                clear k0 k1 k2 k3
                obtain ⟨x, rfl, hx, hd, hb⟩ := hrel
                have HDX := Lib.hid hd
                have HBX := Lib.hid hb
                have hdl := hd.lt
                have hrl := hb.size
                have k0 : wr.cell? ⟨w.heap.size, 0, none⟩ = some (.int .i64 X) := (hb.cell (p := ⟨w.heap.size, 0, none⟩) hzw).trans KK0.out
                have k1 : wr.cell? ⟨w.heap.size, 1, none⟩ = some (.int .i64 Y) := (hb.cell (p := ⟨w.heap.size, 1, none⟩) hzw).trans KK1.out
                have k2 : wr.cell? ⟨w.heap.size, 2, none⟩ = some (.int .i64 Z) := (hb.cell (p := ⟨w.heap.size, 2, none⟩) hzw).trans KK2.out
                have k3 : wr.cell? ⟨w.heap.size, 3, none⟩ = some (.slice (some ⟨bb, oo, none⟩) n c) := (hb.cell (p := ⟨w.heap.size, 3, none⟩) hzw).trans KK3.out
                by_cases hxX : x < X
                · have hxI : (x : Int) < X := by omega
                  obtain ⟨i, hi⟩ : ∃ i, GlowP.at_ X Z x z y = i := ⟨_, rfl⟩
                  have HI := Lib.hid hi
                  have hin : i < n := by rw [← HN.out, ← hi]; exact GlowP.at_lt hxX hzZ hyY
                  unfold GlowP.at_ at hi
                  have HII := Lib.hid hi
                  obtain ⟨p1, hp1⟩ : ∃ p, y * Z = p := ⟨_, rfl⟩
                  obtain ⟨p2, hp2⟩ : ∃ p, p1 + z = p := ⟨_, rfl⟩
                  obtain ⟨p3, hp3⟩ : ∃ p, p2 * X = p := ⟨_, rfl⟩
                  have e1 : (y : Int) * (Z : Int) = (p1 : Int) := by rw [← hp1]; simp
                  have e2 : (p1 : Int) + (z : Int) = (p2 : Int) := by omega
                  have e3 : (p2 : Int) * (X : Int) = (p3 : Int) := by rw [← hp3]; simp
                  rw [hp1, hp2, hp3] at hi
                  have e4 : (p3 : Int) + (x : Int) = (i : Int) := by omega
                  have l3 : p2 ≤ p3 := by rw [← hp3]; exact Nat.le_mul_of_pos_right _ (by omega)
                  have l1 : p3 ≤ i := by omega
                  have HD1 := Lib.hid (show Blk wr gn 3 (fillV F (.int .i64 0) i) by have h : Blk wr gn 3 (fillV F (.int .i64 0) ((y * Z + z) * X + x)) := hd; rw [HII.out] at h; exact h)
                  obtain ⟨⟨kk, ll⟩, hcx⟩ : ∃ x, cs[i]? = some x := ⟨_, List.getElem?_eq_getElem (by have := HC.out; omega)⟩
                  obtain ⟨b', o', hbo', hblw, c0, c1⟩ := rd2 (HRK.out.below hb) hcx
                  obtain ⟨rfl, rfl⟩ : bb = b' ∧ oo = o' := by injection hbo' with hbo'; injection hbo' with e1 e2 e3; exact ⟨e1, e2⟩
                  obtain ⟨oa, hoa⟩ : ∃ oa, openA (kk, ll) = oa := ⟨_, rfl⟩
                  have HOA := Lib.hid hoa
                  have hcl : GlowP.clO (cs.map openA) i = oa := by rw [openL, hcx]; exact hoa
                  have HCL := Lib.hid hcl
                  have HGX := Lib.hid (HG.out.belowAt hb hgl)
                  have HOX := Lib.hid (HOK.out.belowAt hb hbok)
                  have hiI : (i : Int) < n := by omega
                  have hi0 : (0 : Int) ≤ (i : Int) := by omega
                  have hFi := HNX.out k i hin
                  rw [hcl] at hFi
                  have HNXT := Lib.hid (show (y * Z + z) * X + (x + 1) = i + 1 by have := HII.out; omega)
                  clear hd hb hi hp1 hp2 hp3 hcx hbo' hoa hcl
                  cases oa
                  · have HFI := Lib.hid (show F[i]? = some (.int .i64 0) by rw [← HF.out, List.getElem?_map, hFi]; rfl)
                    clear hFi
                    go_wp2_with (go_at_call 40; refine (rclear_c HOA.out).mono ?_; rintro e w5 ⟨rfl, hb5⟩; have HB5 := Lib.hid hb5; clear hb5)
                    go_roundw
                    case rel => exact ⟨x + 1, by go_num, by omega, by show Blk _ gn 3 (fillV F (.int .i64 0) ((y * Z + z) * X + (x + 1))); rw [HNXT.out, fillV_same HFI.out]; exact HD1.out.below HB5.out, HBX.out.trans (HB5.out.mono HBX.out.size)⟩
                    case measure => first | (simp [intOf]; done) | (simp [intOf]; omega)
                  · obtain ⟨ow, how⟩ : ∃ ow, own[i]? = some ow := ⟨_, List.getElem?_eq_getElem (by rw [HON.out]; exact hin)⟩
                    have how2 : own.getD i 0 = ow := by simp [List.getD, how]
                    have how15 : ow ≤ 15 := by rw [← how2]; exact H15.out i
                    obtain ⟨inn, hinn⟩ : ∃ inn, GlowP.inL (GlowP.sideX X Y Z) (fun s => (LL k).getD s 0) i = inn := ⟨_, rfl⟩
                    have hin15 : inn ≤ 15 := by rw [← hinn]; exact GlowP.in_le.2 fun s _ => by have := HL15.out k s; omega
                    rw [how2, hinn] at hFi
                    have HFI := Lib.hid (show F[i]? = some (.int .i64 (max ow inn : Nat)) by rw [← HF.out, List.getElem?_map, hFi]; rfl)
                    have HINN := Lib.hid hinn
                    have HOWI := Lib.hid (show (own.map i64v)[i]? = some (.int .i64 ow) by rw [List.getElem?_map, how]; rfl)
                    clear hFi hinn how how2
                    go_wp2_with (go_at_call 40; refine Classical.byContradiction (fun hG => ?_))
                    refine hG ?_
                    clear hG
                    refine (rclear_c HOA.out).mono ?_
                    rintro e w5 ⟨rfl, hb5⟩
                    have hz5 := hb5.size
                    replace k0 := (hb5.cell (p := ⟨w.heap.size, 0, none⟩) (by show w.heap.size < _; omega)).trans k0
                    replace k1 := (hb5.cell (p := ⟨w.heap.size, 1, none⟩) (by show w.heap.size < _; omega)).trans k1
                    replace k2 := (hb5.cell (p := ⟨w.heap.size, 2, none⟩) (by show w.heap.size < _; omega)).trans k2
                    replace k3 := (hb5.cell (p := ⟨w.heap.size, 3, none⟩) (by show w.heap.size < _; omega)).trans k3
                    have HB5 := Lib.hid hb5
                    have HG5 := Lib.hid (HGX.out.below hb5)
                    have HO5 := Lib.hid (HOX.out.below hb5)
                    have HD5 := Lib.hid (HD1.out.below hb5)
                    clear hb5 c0 c1 e1 e2 e3 e4
                    go_wp2_with (go_at_call 41; refine Classical.byContradiction (fun hG => ?_))
                    refine hG ?_
                    clear hG
                    refine (from_c hX hY hZ HN.out hn2 hxX hzZ hyY HI.out HG5.out (HLN.out k) (HL15.out k)).mono ?_
                    rintro e w6 ⟨rfl, hb6⟩
                    have ho6 := HO5.out.below hb6
                    have hd6 := HD5.out.below hb6
                    have oc : w6.cell? ⟨bo, i, none⟩ = some (.int .i64 ow) := ho6.cell HOWI.out
                    have dc : w6.cell? ⟨gn, i, none⟩ = some (.int .i64 0) := hd6.cell (fillV_get (by rw [HFL.out]; exact hin))
                    have df := hd6.frozen i
                    have HD6 := Lib.hid hd6
                    have HB6 := Lib.hid (bel_th (bel_th HBX.out HB5.out HBX.out.size) hb6 (by have := HBX.out.size; omega))
                    rw [HINN.out]
                    clear hb6 ho6 hd6 k0 k1 k2 k3
                    by_cases hmx : (ow : Int) < inn
                    · have HM := Lib.hid (show max ow inn = inn by omega)
                      go_wp2_with fail
                      go_roundw
                      case rel => exact ⟨x + 1, by go_num, by omega, by show Blk _ gn 3 (fillV F (.int .i64 0) ((y * Z + z) * X + (x + 1))); rw [HNXT.out]; exact HD6.out.setTo (fillV_set (by rw [HFI.out, HM.out])), HB6.out.setCell hgn1 _⟩
                      case measure => first | (simp [intOf]; done) | (simp [intOf]; omega)
                    · have HM := Lib.hid (show max ow inn = ow by omega)
                      go_wp2_with fail
                      go_roundw
                      case rel => exact ⟨x + 1, by go_num, by omega, by show Blk _ gn 3 (fillV F (.int .i64 0) ((y * Z + z) * X + (x + 1))); rw [HNXT.out]; exact HD6.out.setTo (fillV_set (by rw [HFI.out, HM.out])), HB6.out.setCell hgn1 _⟩
                      case measure => first | (simp [intOf]; done) | (simp [intOf]; omega)
                · obtain rfl : x = X := by omega
                  clear hd hb
                  go_wp2_with fail
                  go_roundw
                  case rel => exact ⟨z + 1, by go_num, by omega, by have h := HDX.out; show Blk _ gn 3 (fillV F (.int .i64 0) ((y * Z + (z + 1)) * x)); rw [show (y * Z + (z + 1)) * x = (y * Z + z) * x + x by rw [← Nat.add_assoc, Nat.succ_mul]]; exact h, HBX.out⟩
                  case measure => first | (simp [intOf]; done) | (simp [intOf]; omega)
            · obtain rfl : z = Z := by omega
              go_wp2_with fail
              go_roundw
              case rel => exact ⟨y + 1, by go_num, by omega, by have h := HDZ.out; show Blk _ gn 3 (fillV F (.int .i64 0) ((y + 1) * z * X)); rw [show (y + 1) * z * X = (y * z + z) * X by rw [Nat.succ_mul]]; exact h, HBZ.out⟩
              case measure => first | (simp [intOf]; done) | (simp [intOf]; omega)
        · obtain rfl : y = Y := by omega
          go_wp2_with fail
          go_roundw
          case rel =>
            refine ⟨k + 1, gn, by go_num, by omega, rfl, ?_, HB.out.trans (HBY.out.mono HB.out.size)⟩
            rw [HF.out]
            have h : Blk wr gn 3 (fillV F (.int .i64 0) (y * Z * X)) := HDY.out
            rw [fillV_all (by rw [HFL.out, ← HN.out]; exact Nat.le_of_eq (by ac_rfl))] at h
            exact h
          case measure => first | (simp [intOf]; done) | (simp [intOf]; omega)
    · obtain rfl : k = 15 := by omega
      clear hb
      go_wp2_with fail
      go_ret
      exact ⟨g, rfl, HG.out, HB0.out.trans (HB.out.mono HB0.out.size)⟩
end GlowW
end Go.Proofs.YtbkadecfmjjadaaDoor
