/-
  glow.Light: what it answers.
-/
import Derived.Test.YtbkadecfmjjadaaDoorGlowSpread
import Derived.Deep.RegionHeld3
namespace Go.Proofs.YtbkadecfmjjadaaDoor
open Go.RowKit
set_option linter.unusedVariables false
set_option linter.unusedSimpArgs false
namespace GlowW
open BlkP RowG KindP KindW

/-- What comes of sources, by what is open. -/
def litA (X Y Z : Nat) (O : List Bool) (L : List Nat) (i : Nat) : Nat := GlowP.rounds (GlowP.sideX X Y Z) (GlowP.clO O) (fun i => L.getD i 0) 15 i
def skyL (X Y Z : Nat) (O : List Bool) : List Nat := (List.range (X * Y * Z)).map (GlowP.skyO (X * Z) (X * Y * Z) (GlowP.clO O))
def lightA (X Y Z : Nat) (cs : List (Nat × Nat)) : List (Nat × Nat) := (List.range (X * Y * Z)).map fun i => (litA X Y Z (cs.map openA) (skyL X Y Z (cs.map openA)) i, litA X Y Z (cs.map openA) (cs.map lampA) i)
theorem lightA_len (X Y Z : Nat) (cs : List (Nat × Nat)) : (lightA X Y Z cs).length = X * Y * Z := by simp [lightA]
theorem check_zero {X Y Z : Int} {n : Nat} (h : checkN X Y Z n = 0) : ∃ x y z : Nat, X = x ∧ Y = y ∧ Z = z ∧ (1 ≤ x ∧ x ≤ 256) ∧ (1 ≤ y ∧ y ≤ 256) ∧ (1 ≤ z ∧ z ≤ 256) ∧ x * y * z = n ∧ n ≤ 262144 := by
  unfold checkN at h
  split at h
  · rename_i hs
    simp only [sideB, Bool.and_eq_true, decide_eq_true_eq] at hs
    obtain ⟨⟨hX, hY⟩, hZ⟩ := hs
    split at h
    · cases h
    · rename_i h1
      split at h
      · cases h
      · rename_i h2
        obtain ⟨x, rfl⟩ := Int.eq_ofNat_of_zero_le (show 0 ≤ X by omega)
        obtain ⟨y, rfl⟩ := Int.eq_ofNat_of_zero_le (show 0 ≤ Y by omega)
        obtain ⟨z, rfl⟩ := Int.eq_ofNat_of_zero_le (show 0 ≤ Z by omega)
        have e : (x : Int) * (y : Int) * (z : Int) = ((x * y * z : Nat) : Int) := by simp
        rw [e] at h1 h2
        exact ⟨x, y, z, rfl, rfl, rfl, by omega, by omega, by omega, by omega, by omega⟩
  · cases h
theorem getD_out {L : List Nat} {i : Nat} (h : L.length ≤ i) : L.getD i 0 = 0 := by simp [List.getD, h]
theorem skyL_getD {X Y Z : Nat} {O : List Bool} {i : Nat} : (skyL X Y Z O).getD i 0 = if i < X * Y * Z then GlowP.skyO (X * Z) (X * Y * Z) (GlowP.clO O) i else 0 := by
  by_cases h : i < X * Y * Z
  · rw [if_pos h]
    simp [skyL, List.getD, h]
  · rw [if_neg h]
    exact getD_out (by simp [skyL]; omega)
theorem sky_src (X Y Z : Nat) (O : List Bool) : (∀ i, (skyL X Y Z O).getD i 0 ≤ 15) ∧ ∀ i, GlowP.clO O i = false → (skyL X Y Z O).getD i 0 = 0 := by
  refine ⟨fun i => ?_, fun i hi => ?_⟩
  · rw [skyL_getD]
    have := GlowP.sky_le (X * Z) (X * Y * Z) (GlowP.clO O) i
    split <;> omega
  · rw [skyL_getD, GlowP.sky_clear hi]
    split <;> rfl
theorem lamp_le15 (k l : Nat) : lamp k l ≤ 15 := by
  unfold lamp
  split
  · rename_i h
    split
    · rename_i e
      subst e
      simp [may, KindP.most, KindP.mosts] at h
      omega
    · split <;> omega
  · omega
theorem lamp_open {c : Nat × Nat} (h : openA c = false) : lampA c = 0 := by
  unfold openA at h
  unfold lampA lamp
  split
  · rename_i hm
    rw [hm, Bool.true_and] at h
    split
    · rename_i e
      rw [e] at h
      cases h
    · split
      · rename_i e
        rw [e] at h
        cases h
      · rfl
  · rfl
theorem lamp_src (cs : List (Nat × Nat)) : (∀ i, (cs.map lampA).getD i 0 ≤ 15) ∧ ∀ i, GlowP.clO (cs.map openA) i = false → (cs.map lampA).getD i 0 = 0 := by
  refine ⟨fun i => ?_, fun i hi => ?_⟩
  · by_cases h : i < cs.length
    · simp only [List.getD, List.getElem?_map, List.getElem?_eq_getElem h, Option.map_some, Option.getD_some]
      exact lamp_le15 _ _
    · rw [getD_out (by simp; omega)]
      omega
  · by_cases h : i < cs.length
    · simp only [GlowP.clO, List.getD, List.getElem?_map, List.getElem?_eq_getElem h, Option.map_some, Option.getD_some] at hi ⊢
      exact lamp_open hi
    · exact getD_out (by simp; omega)
/-- The lists make what the rounds make. -/
theorem spread_is {X Y Z n : Nat} {O : List Bool} {L : List Nat} (hn : X * Y * Z = n) (hL : L.length = n) (h15 : ∀ i, L.getD i 0 ≤ 15) (h0 : ∀ i, GlowP.clO O i = false → L.getD i 0 = 0) :
    (GlowP.downS O (GlowP.sideX X Y Z) 15 (L, GlowP.knS L n)).1 = (List.range n).map (litA X Y Z O L) := by
  obtain ⟨h1, h2, h3⟩ := GlowP.spread_sol (O := O) (side := GlowP.sideX X Y Z) hL h15 h0 (fun c _ s hs => by have := (GlowP.sideX_lt hs).2; omega) (fun c s hs => GlowP.sideX_sym hs)
  have hR := GlowP.rounds_sol (side := GlowP.sideX X Y Z) h15 h0
  have hRl := GlowP.rounds_le (side := GlowP.sideX X Y Z) (cl := GlowP.clO O) h15 15
  have hlit : ∀ i, litA X Y Z O L i = GlowP.rounds (GlowP.sideX X Y Z) (GlowP.clO O) (fun i => L.getD i 0) 15 i := fun _ => rfl
  generalize GlowP.rounds (GlowP.sideX X Y Z) (GlowP.clO O) (fun i => L.getD i 0) 15 = R at hR hRl hlit
  generalize GlowP.downS O (GlowP.sideX X Y Z) 15 (L, GlowP.knS L n) = st at h1 h2 h3 ⊢
  have hu := GlowP.unique h2 hRl h1 hR
  apply List.ext_getElem?
  intro i
  by_cases hi : i < n
  · have e := congrFun hu i
    rw [List.getElem?_map, List.getElem?_range hi]
    simp only [Option.map_some]
    rw [List.getElem?_eq_getElem (by omega), hlit, ← e]
    congr 1
    simp [GlowP.lt, List.getD, h3, hi]
  · rw [List.getElem?_eq_none (by omega), List.getElem?_eq_none (by simp; omega)]
/-- The lights lie in a new row. -/
def LightP (w : World) (n : Nat) (ls : List (Nat × Nat)) (e : Ending) (w' : World) : Prop := ∃ g, e = .returned (.tuple #[.slice (some ⟨g, 0, none⟩) n n, .int .i64 0]) ∧ Blk w' g 37 (flat enc2 ls) ∧ w.heap.size ≤ g ∧ Below w.heap.size w w'
theorem infoLight : (Tryd.prog.info? 37).map (fun i => (i.zero, i.size, i.bytes)) = some (some (.agg #[.int .u8 0, .int .u8 0]), 2, 2) := by kernel_rfl
theorem underLights : Tryd.prog.underlying 28 = some (.slice 37) := by kernel_rfl
theorem wp_make2 (w : World) {ops : Array Oper} {rest : List Oper} {o : Oper} {a : Act} {Q : Exit → Act → World → Prop} (hg : o.guard = none) (l c : Operand) (hop : o.op = Op.makeSlice 28 l c) (n : Nat) (hl : a.eval l = .int .i64 n) (hc : a.eval c = .int .i64 n) (hn : n ≤ 1000000)
    (h : ∀ w', Blk w' w.heap.size 37 (List.replicate (n * 2) (.int .u8 0)) → Below w.heap.size w w' → wpList Tryd.prog ops Q rest (a.put o.dst (.slice (some ⟨w.heap.size, 0, none⟩) n n)) w') : wpList Tryd.prog ops Q (o :: rest) a w := by
  obtain ⟨i, hi, hz, hs1, hby⟩ := info_parts infoLight
  refine wpList_plain hg fun K hK' => ?_
  have hr := run_make (P := Tryd.prog) w 28 37 i _ underLights hi hz .i64 .i64 n n (by omega) (Int.le_refl _) (by rw [hby]; omega) (by omega)
  unfold Oper.wp
  simp [execOp, hop, hl, hc, hr, Result.andThen]
  refine hK' _ _ (h _ ?_ ((Below.refl _ _).alloc (Nat.le_refl _) _))
  have e := made2 (.int .u8 0) n
  rw [hs1]
  exact Blk.newA' rfl e
theorem flat2_get {ls : List (Nat × Nat)} {i a b : Nat} (h : ls[i]? = some (a, b)) : (flat enc2 ls)[i * 2]? = some (.int .u8 a) ∧ (flat enc2 ls)[i * 2 + 1]? = some (.int .u8 b) :=
  ⟨flat_get (e := enc2) (j := 0) h (by decide), flat_get (e := enc2) (j := 1) h (by decide)⟩
theorem boolsV (cs : List (Nat × Nat)) : (cs.map fun c => Value.bool (openA c)) = (cs.map openA).map Value.bool := by simp [Function.comp_def]
theorem lampsV (cs : List (Nat × Nat)) : (cs.map fun c => Value.int .u8 (lampA c)) = (cs.map lampA).map u8v := by simp [u8v, Function.comp_def]
theorem skyVL (X Y Z : Nat) (O : List Bool) : skyV (X * Z) (X * Y * Z) (fun i => O.getD i false) = (skyL X Y Z O).map u8v := by
  show _ = ((List.range (X * Y * Z)).map (GlowP.skyO (X * Z) (X * Y * Z) (GlowP.clO O))).map u8v
  rw [List.map_map]
  rfl
def LRel (w9 : World) (g n : Nat) (F : List Value) (v : Value) (wr : World) : Prop := ∃ j : Nat, v = .int .i64 j ∧ j ≤ n ∧ Blk wr g 37 (fillV F (.int .u8 0) (j * 2)) ∧ Below w9.heap.size w9 wr

set_option maxHeartbeats 2000000 in
theorem light_no {w : World} {X Y Z : Int} {A : Option Addr} {n c r : Nat} (h : checkN X Y Z n = r) (hr : r ≠ 0) :
    Calls Tryd.prog 14 #[.agg #[.int .i64 X, .int .i64 Y, .int .i64 Z, .slice A n c]] w fun e w' => e = .returned (.tuple #[.slice none 0 0, .int .i64 r]) ∧ Below w.heap.size w w' := by
  have H := Lib.hid h
  have hr2 : ((r : Int) != 0) = true := by simp; omega
  clear h hr
  go_enter Tryd.func14, Tryd.ntmps14
  go_wp2_with (go_at_call 24; refine (check_c H.out).mono ?_; rintro e w1 ⟨rfl, hb⟩)
  go_ret2
  exact ⟨rfl, by (repeat' (first | (with_reducible exact Below.refl _ _) | (with_reducible refine Below.setCell ?_ (by (first | omega | (simp; done) | (simp; omega))) _) | (with_reducible refine Below.alloc ?_ (by (first | omega | (simp; done) | (simp; omega))) _) | (with_reducible refine Below.drew ?_) | (with_reducible refine below_drewN ?_ _) | (with_reducible refine Below.trans ?_ (Below.mono hb (by (first | omega | (simp; done) | (simp; omega)))))))⟩

set_option maxRecDepth 100000 in
set_option maxHeartbeats 16000000 in
theorem light_c {w : World} {X Y Z : Nat} {A : Option Addr} {n c : Nat} {cs : List (Nat × Nat)} (hT : Tab w) (hR : Rd enc2 w (.slice A n c) cs) (hcs : n = cs.length) (hX : 1 ≤ X ∧ X ≤ 256) (hY : 1 ≤ Y ∧ Y ≤ 256) (hZ : 1 ≤ Z ∧ Z ≤ 256) (hn : X * Y * Z = n) (hn2 : n ≤ 262144) :
    Calls Tryd.prog 14 #[.agg #[.int .i64 X, .int .i64 Y, .int .i64 Z, .slice A n c]] w (LightP w n (lightA X Y Z cs)) := by
  have hck : checkN (X : Int) (Y : Int) (Z : Int) n = 0 := by
    have e : (X : Int) * (Y : Int) * (Z : Int) = ((X * Y * Z : Nat) : Int) := by simp
    unfold checkN
    rw [e, hn]
    have hs : (sideB (X : Int) && sideB (Y : Int) && sideB (Z : Int)) = true := by simp [sideB]; omega
    rw [if_pos hs, if_neg (by omega), if_neg (by simp)]
  have HCK := Lib.hid hck
  have HT := Lib.hid hT
  have HR := Lib.hid hR
  have HCS := Lib.hid hcs
  have HNN := Lib.hid hn
  obtain ⟨O, hO⟩ : ∃ O, cs.map openA = O := ⟨_, rfl⟩
  have HOO := Lib.hid hO
  have HON := Lib.hid (show n = O.length by rw [← hO]; simp [hcs])
  obtain ⟨S, hS⟩ : ∃ S, X * Z = S := ⟨_, rfl⟩
  have HSS := Lib.hid hS
  have hS1 : 0 < S := by rw [← hS]; exact Nat.mul_pos (by omega) (by omega)
  have hSM : S ≤ 1000000 := by have := Nat.mul_le_mul hX.2 hZ.2; omega
  have e1 : (X : Int) * (Z : Int) = (S : Int) := by rw [← hS]; simp
  have hn0 : 0 < n := by rw [← hn]; exact Nat.mul_pos (Nat.mul_pos (by omega) (by omega)) (by omega)
  have hnM : n ≤ 1000000 := by omega
  clear hck hT hR hcs hn hO hS
  have HN := HCS
  go_enter Tryd.func14, Tryd.ntmps14
  go_wp2_with (go_at_call 24; refine (check_c HCK.out).mono ?_; rintro e w1 ⟨rfl, hb1⟩; have HB1 := Lib.hid hb1; have k0 : w1.cell? ⟨w.heap.size, 0, none⟩ = some (.int .i64 X) := (by (repeat' (first | (with_reducible assumption) | (with_reducible refine HeldP.c_below hb1 ?_ ?_) | (with_reducible refine HeldP.f_below hb1 ?_ ?_) | (with_reducible refine HeldP.c_drew ?_) | (with_reducible refine HeldP.c_drewN ?_) | (with_reducible refine HeldP.c_same (by omega) ?_) | (with_reducible refine HeldP.c_other ?_ ?_) | (with_reducible refine HeldP.c_new (by first | omega | (simp; done) | (simp; omega)) ?_) | (with_reducible refine HeldP.c_alloc ?_ ?_) | (with_reducible refine HeldP.e_drew ?_) | (with_reducible refine HeldP.e_drewN ?_) | (with_reducible refine HeldP.e_set ?_) | (with_reducible refine HeldP.e_new (by first | omega | (simp; done) | (simp; omega)) ⟨_, rfl⟩) | (with_reducible refine HeldP.e_alloc ?_ ?_) | (with_reducible refine HeldP.f_drew ?_) | (with_reducible refine HeldP.f_drewN ?_) | (with_reducible refine HeldP.f_set ?_) | (with_reducible refine HeldP.f_new (by first | omega | (simp; done) | (simp; omega))) | (with_reducible refine HeldP.f_alloc ?_ ?_) | (with_reducible refine HeldP.s_drew ?_) | (with_reducible refine HeldP.s_drewN ?_) | (with_reducible refine HeldP.s_set ?_) | (with_reducible refine HeldP.s_new (by first | omega | (simp; done) | (simp; omega))) | (with_reducible refine HeldP.s_alloc ?_) | (with_reducible exact ⟨_, by assumption⟩) | omega | (intro e; simp at e; done) | (intro e; simp at e; omega) | (exact rfl) | (simp; done) | (simp; omega)))); have k1 : w1.cell? ⟨w.heap.size, 1, none⟩ = some (.int .i64 Y) := (by (repeat' (first | (with_reducible assumption) | (with_reducible refine HeldP.c_below hb1 ?_ ?_) | (with_reducible refine HeldP.f_below hb1 ?_ ?_) | (with_reducible refine HeldP.c_drew ?_) | (with_reducible refine HeldP.c_drewN ?_) | (with_reducible refine HeldP.c_same (by omega) ?_) | (with_reducible refine HeldP.c_other ?_ ?_) | (with_reducible refine HeldP.c_new (by first | omega | (simp; done) | (simp; omega)) ?_) | (with_reducible refine HeldP.c_alloc ?_ ?_) | (with_reducible refine HeldP.e_drew ?_) | (with_reducible refine HeldP.e_drewN ?_) | (with_reducible refine HeldP.e_set ?_) | (with_reducible refine HeldP.e_new (by first | omega | (simp; done) | (simp; omega)) ⟨_, rfl⟩) | (with_reducible refine HeldP.e_alloc ?_ ?_) | (with_reducible refine HeldP.f_drew ?_) | (with_reducible refine HeldP.f_drewN ?_) | (with_reducible refine HeldP.f_set ?_) | (with_reducible refine HeldP.f_new (by first | omega | (simp; done) | (simp; omega))) | (with_reducible refine HeldP.f_alloc ?_ ?_) | (with_reducible refine HeldP.s_drew ?_) | (with_reducible refine HeldP.s_drewN ?_) | (with_reducible refine HeldP.s_set ?_) | (with_reducible refine HeldP.s_new (by first | omega | (simp; done) | (simp; omega))) | (with_reducible refine HeldP.s_alloc ?_) | (with_reducible exact ⟨_, by assumption⟩) | omega | (intro e; simp at e; done) | (intro e; simp at e; omega) | (exact rfl) | (simp; done) | (simp; omega)))); have k2 : w1.cell? ⟨w.heap.size, 2, none⟩ = some (.int .i64 Z) := (by (repeat' (first | (with_reducible assumption) | (with_reducible refine HeldP.c_below hb1 ?_ ?_) | (with_reducible refine HeldP.f_below hb1 ?_ ?_) | (with_reducible refine HeldP.c_drew ?_) | (with_reducible refine HeldP.c_drewN ?_) | (with_reducible refine HeldP.c_same (by omega) ?_) | (with_reducible refine HeldP.c_other ?_ ?_) | (with_reducible refine HeldP.c_new (by first | omega | (simp; done) | (simp; omega)) ?_) | (with_reducible refine HeldP.c_alloc ?_ ?_) | (with_reducible refine HeldP.e_drew ?_) | (with_reducible refine HeldP.e_drewN ?_) | (with_reducible refine HeldP.e_set ?_) | (with_reducible refine HeldP.e_new (by first | omega | (simp; done) | (simp; omega)) ⟨_, rfl⟩) | (with_reducible refine HeldP.e_alloc ?_ ?_) | (with_reducible refine HeldP.f_drew ?_) | (with_reducible refine HeldP.f_drewN ?_) | (with_reducible refine HeldP.f_set ?_) | (with_reducible refine HeldP.f_new (by first | omega | (simp; done) | (simp; omega))) | (with_reducible refine HeldP.f_alloc ?_ ?_) | (with_reducible refine HeldP.s_drew ?_) | (with_reducible refine HeldP.s_drewN ?_) | (with_reducible refine HeldP.s_set ?_) | (with_reducible refine HeldP.s_new (by first | omega | (simp; done) | (simp; omega))) | (with_reducible refine HeldP.s_alloc ?_) | (with_reducible exact ⟨_, by assumption⟩) | omega | (intro e; simp at e; done) | (intro e; simp at e; omega) | (exact rfl) | (simp; done) | (simp; omega)))); have k3 : w1.cell? ⟨w.heap.size, 3, none⟩ = some (.slice A n c) := (by (repeat' (first | (with_reducible assumption) | (with_reducible refine HeldP.c_below hb1 ?_ ?_) | (with_reducible refine HeldP.f_below hb1 ?_ ?_) | (with_reducible refine HeldP.c_drew ?_) | (with_reducible refine HeldP.c_drewN ?_) | (with_reducible refine HeldP.c_same (by omega) ?_) | (with_reducible refine HeldP.c_other ?_ ?_) | (with_reducible refine HeldP.c_new (by first | omega | (simp; done) | (simp; omega)) ?_) | (with_reducible refine HeldP.c_alloc ?_ ?_) | (with_reducible refine HeldP.e_drew ?_) | (with_reducible refine HeldP.e_drewN ?_) | (with_reducible refine HeldP.e_set ?_) | (with_reducible refine HeldP.e_new (by first | omega | (simp; done) | (simp; omega)) ⟨_, rfl⟩) | (with_reducible refine HeldP.e_alloc ?_ ?_) | (with_reducible refine HeldP.f_drew ?_) | (with_reducible refine HeldP.f_drewN ?_) | (with_reducible refine HeldP.f_set ?_) | (with_reducible refine HeldP.f_new (by first | omega | (simp; done) | (simp; omega))) | (with_reducible refine HeldP.f_alloc ?_ ?_) | (with_reducible refine HeldP.s_drew ?_) | (with_reducible refine HeldP.s_drewN ?_) | (with_reducible refine HeldP.s_set ?_) | (with_reducible refine HeldP.s_new (by first | omega | (simp; done) | (simp; omega))) | (with_reducible refine HeldP.s_alloc ?_) | (with_reducible exact ⟨_, by assumption⟩) | omega | (intro e; simp at e; done) | (intro e; simp at e; omega) | (exact rfl) | (simp; done) | (simp; omega)))); have hz1 : w.heap.size < w1.heap.size := (by have h := hb1.size; simp at h; omega); have HW1 := Lib.hid (show Below w.heap.size w w1 by (repeat' (first | (with_reducible exact Below.refl _ _) | (with_reducible refine Below.setCell ?_ (by (first | omega | (simp; done) | (simp; omega))) _) | (with_reducible refine Below.alloc ?_ (by (first | omega | (simp; done) | (simp; omega))) _) | (with_reducible refine Below.drew ?_) | (with_reducible refine below_drewN ?_ _) | (with_reducible refine Below.trans ?_ (Below.mono hb1 (by (first | omega | (simp; done) | (simp; omega)))))))); clear hb1)
  have HT1 := Lib.hid (HT.out.below HW1.out)
  have HR1 := Lib.hid (HR.out.below HW1.out)
  refine (opens_c HT1.out HR1.out HN.out hnM).mono ?_
  rintro e w2 ⟨bO, rfl, hO2, hgeO, hb2⟩
  rw [boolsV, HOO.out] at hO2
  have HO2 := Lib.hid hO2
  have HB2 := Lib.hid hb2
  have hltO := hO2.lt
  replace k0 := (hb2.cell (p := ⟨w.heap.size, 0, none⟩) hz1).trans k0
  replace k1 := (hb2.cell (p := ⟨w.heap.size, 1, none⟩) hz1).trans k1
  replace k2 := (hb2.cell (p := ⟨w.heap.size, 2, none⟩) hz1).trans k2
  replace k3 := (hb2.cell (p := ⟨w.heap.size, 3, none⟩) hz1).trans k3
  have hzb : w.heap.size < w2.heap.size := by have := hb2.size; omega
  have HT2 := Lib.hid (HT1.out.below hb2)
  have HR2 := Lib.hid (HR1.out.below hb2)
  have hwS : IntKind.i64.wrap (S : Int) = S := BitsP.wrapI_small (by omega) (by omega)
  clear hO2 hb2
  go_wp2_with fail
  refine wp_region_noPanic ?_
  refine wp_region_held_drew (S := fun W => Below w2.heap.size w2 W) (by kernel_rfl) ((Below.refl _ w2).drew) (fun hHeld => ?_)
  refine wpAnyH_take (i := 0) (oi := ⟨some 19, _, _, _, _, _⟩) (v := .slice (some ⟨bO, 0, none⟩) n n) rfl (by kernel_rfl) (by kernel_rfl) (by kernel_rfl) (fun _ _ _ h => h) (Or.inl ⟨by rfl, fun W hSW => by go_simp⟩) hHeld ?_
  simp only [Act.put, List.setIfInBounds_toArray, List.set_cons_zero, List.set_cons_succ]
  refine wpAnyH_take (i := 1) (oi := ⟨some 20, _, _, _, _, _⟩) (v := .pointer (some ⟨w.heap.size, 0, none⟩)) rfl (by kernel_rfl) (by kernel_rfl) (by kernel_rfl) (fun _ _ _ h => h) (Or.inl ⟨by rfl, fun W hSW => by go_simp⟩) hHeld ?_
  simp only [Act.put, List.setIfInBounds_toArray, List.set_cons_zero, List.set_cons_succ]
  refine wpAnyH_take (i := 2) (oi := ⟨some 21, _, _, _, _, _⟩) (v := .int .i64 X) rfl (by kernel_rfl) (by kernel_rfl) (by kernel_rfl) (fun _ _ _ h => h) (Or.inl ⟨by rfl, fun W hSW => by have a0 := (hSW.cell (p := ⟨w.heap.size, 0, none⟩) hzb).trans k0; go_simp⟩) hHeld ?_
  simp only [Act.put, List.setIfInBounds_toArray, List.set_cons_zero, List.set_cons_succ]
  refine wpAnyH_take (i := 3) (oi := ⟨some 22, _, _, _, _, _⟩) (v := .pointer (some ⟨w.heap.size, 2, none⟩)) rfl (by kernel_rfl) (by kernel_rfl) (by kernel_rfl) (fun _ _ _ h => h) (Or.inl ⟨by rfl, fun W hSW => by go_simp⟩) hHeld ?_
  simp only [Act.put, List.setIfInBounds_toArray, List.set_cons_zero, List.set_cons_succ]
  refine wpAnyH_take (i := 4) (oi := ⟨some 23, _, _, _, _, _⟩) (v := .int .i64 Z) rfl (by kernel_rfl) (by kernel_rfl) (by kernel_rfl) (fun _ _ _ h => h) (Or.inl ⟨by rfl, fun W hSW => by have a0 := (hSW.cell (p := ⟨w.heap.size, 2, none⟩) hzb).trans k2; go_simp⟩) hHeld ?_
  simp only [Act.put, List.setIfInBounds_toArray, List.set_cons_zero, List.set_cons_succ]
  refine wpAnyH_take (i := 5) (oi := ⟨some 24, _, _, _, _, _⟩) (v := .int .i64 S) rfl (by kernel_rfl) (by kernel_rfl) (by kernel_rfl) (fun _ _ _ h => h) (Or.inl ⟨by rfl, fun W hSW => by go_simp <;> exact hwS⟩) hHeld ?_
  simp only [Act.put, List.setIfInBounds_toArray, List.set_cons_zero, List.set_cons_succ]
  refine wpAnyH_take (i := 7) (oi := ⟨some 26, _, _, _, _, _⟩) (v := .pointer (some ⟨w.heap.size, 3, none⟩)) rfl (by kernel_rfl) (by kernel_rfl) (by kernel_rfl) (fun _ _ _ h => h) (Or.inl ⟨by rfl, fun W hSW => by go_simp⟩) hHeld ?_
  simp only [Act.put, List.setIfInBounds_toArray, List.set_cons_zero, List.set_cons_succ]
  refine wpAnyH_take (i := 8) (oi := ⟨some 27, _, _, _, _, _⟩) (v := .slice A n c) rfl (by kernel_rfl) (by kernel_rfl) (by kernel_rfl) (fun _ _ _ h => h) (Or.inl ⟨by rfl, fun W hSW => by have a0 := (hSW.cell (p := ⟨w.heap.size, 3, none⟩) hzb).trans k3; go_simp⟩) hHeld ?_
  simp only [Act.put, List.setIfInBounds_toArray, List.set_cons_zero, List.set_cons_succ]
  refine wpAnyH_ready (rs := [6]) (by kernel_rfl) (by simp) ?_
  refine AllReadyH.cons (o := ⟨some 25, _, _, _, _, _⟩) rfl (fun K hK => ?_) AllReadyH.nil
  go_simp
  refine (skies_c (w := w2.drew) HO2.out HON.out hn0 hnM hS1 hSM).mono ?_
  rintro e w3 ⟨g1, rfl, hg1, hge1, hb3'⟩
  have hb3 : Below w2.heap.size w2 w3 := ((Below.refl _ w2).drew).trans hb3'
  have HG1 := Lib.hid hg1
  have HB3 := Lib.hid hb3
  have hl1 := hg1.lt
  replace hge1 : w2.heap.size ≤ g1 := hge1
  have hT3 := Lib.hid (HT2.out.below hb3)
  have hR3 := Lib.hid (HR2.out.below hb3)
  refine hK.out _ _ (below_t hHeld hb3') (fun hHeld => ?_)
  clear hK K hb3 hb3' hg1
  refine wpAnyH_ready (rs := [9]) (by kernel_rfl) (by simp) ?_
  refine AllReadyH.cons (o := ⟨some 28, _, _, _, _, _⟩) rfl (fun K hK => ?_) AllReadyH.nil
  go_simp
  refine (lamps_c hT3.out hR3.out HN.out hnM).mono ?_
  rintro e w4 ⟨g2, rfl, hg2, hge2, hb4⟩
  have HG2 := Lib.hid hg2
  have HB4 := Lib.hid hb4
  refine hK.out _ _ (below_t hHeld hb4) (fun hHeld => ?_)
  clear hK K hb4 hg2
  refine wpAnyH_ready (rs := [10]) (by kernel_rfl) (by simp) ?_
  refine AllReadyH.cons (o := ⟨some 6, _, _, _, _, _⟩) rfl (fun K hK => ?_) AllReadyH.nil
  go_simp
  refine hK.out _ _ hHeld (fun hHeld => ?_)
  clear hK K
  refine wpAnyH_ready (rs := [11]) (by kernel_rfl) (by simp) ?_
  refine AllReadyH.cons (o := ⟨some 7, _, _, _, _, _⟩) rfl (fun K hK => ?_) AllReadyH.nil
  go_simp
  refine hK.out _ _ hHeld (fun hHeld => ?_)
  clear hK K
  refine wpAnyH_done (by kernel_rfl) ?_ _
  refine NoPanic.normal ?_
  have HG14 := Lib.hid (HG1.out.below HB4.out)
  have HO4 := Lib.hid (HO2.out.below hHeld)
  have HW4 := Lib.hid (show Below w.heap.size w w4 from (HW1.out.trans (HB2.out.mono HW1.out.size)).trans (hHeld.mono (by omega)))
  replace k0 := (hHeld.cell (p := ⟨w.heap.size, 0, none⟩) hzb).trans k0
  replace k1 := (hHeld.cell (p := ⟨w.heap.size, 1, none⟩) hzb).trans k1
  replace k2 := (hHeld.cell (p := ⟨w.heap.size, 2, none⟩) hzb).trans k2
  replace k3 := (hHeld.cell (p := ⟨w.heap.size, 3, none⟩) hzb).trans k3
  have hz4 := hHeld.size
  have hz34 := HB4.out.size
  have hzO : bO < w4.heap.size := by omega
  have hzb4 : w.heap.size < w4.heap.size := by omega
  have hg12 : g1 ≠ g2 := by omega
  clear hHeld hwS
  go_wp2_with fail
  refine (inside_c hX.2 hY.2 hZ.2).mono ?_
  rintro e w5 ⟨ga, rfl, hga, hb5⟩
  have HGA := Lib.hid hga
  have HG15 := Lib.hid (HG14.out.below hb5)
  have HG25 := Lib.hid (HG2.out.below hb5)
  have HO5 := Lib.hid (HO4.out.below hb5)
  have HW5 := Lib.hid (show Below w.heap.size w w5 from HW4.out.trans (hb5.mono HW4.out.size))
  replace k3 := (hb5.cell (p := ⟨w.heap.size, 3, none⟩) hzb4).trans k3
  have hz5 := hb5.size
  clear hga hb5 k0 k1 k2
  go_wp2_with fail
  have HSK := Lib.hid (show Blk w5 g1 5 ((skyL X Y Z O).map u8v) by have h := HG15.out; rw [← HSS.out, ← HNN.out, skyVL] at h; exact h)
  refine (spread_c hX hY hZ HNN.out hn2 HSK.out HO5.out HGA.out (by simp [skyL, HNN.out]) HON.out.symm (sky_src X Y Z O).1 (sky_src X Y Z O).2).mono ?_
  rintro e w6 ⟨rfl, hs6, hg6⟩
  rw [spread_is HNN.out (by simp [skyL, HNN.out]) (sky_src X Y Z O).1 (sky_src X Y Z O).2] at hs6
  have HS6 := Lib.hid hs6
  have HG26 := Lib.hid (HG25.out.grown hg6 (fun e => by injection e with e; omega))
  have HO6 := Lib.hid (HO5.out.grown hg6 (fun e => by injection e with e; exact Blk.ne HO5.out HSK.out (by decide) e))
  have HA6 := Lib.hid (HGA.out.grown hg6 (fun e => by injection e with e; exact Blk.ne HGA.out HSK.out (by decide) e))
  have hgw1 : w.heap.size < g1 := by omega
  have HW6 := Lib.hid (show Below w.heap.size w w6 from HW5.out.grown hg6 HW5.out.size (fun k hk => by injection hk with hk; omega))
  replace k3 := hg6.cell k3 (fun e => by injection e with e; have e' : w.heap.size = g1 := e; omega)
  have hz6 := hg6.size
  clear hs6 hg6
  go_wp2_with fail
  have HLM := Lib.hid (show Blk w6 g2 5 ((cs.map lampA).map u8v) by have h := HG26.out; rw [lampsV] at h; exact h)
  have hls := lamp_src cs
  rw [HOO.out] at hls
  refine (spread_c hX hY hZ HNN.out hn2 HLM.out HO6.out HA6.out (by simp [HCS.out]) HON.out.symm hls.1 hls.2).mono ?_
  rintro e w7 ⟨rfl, hs7, hg7⟩
  rw [spread_is HNN.out (by simp [HCS.out]) hls.1 hls.2] at hs7
  have HS7 := Lib.hid hs7
  have HS16 := Lib.hid (HS6.out.grown hg7 (fun e => by injection e with e; omega))
  have hgw2 : w.heap.size < g2 := by omega
  have HW7 := Lib.hid (show Below w.heap.size w w7 from HW6.out.grown hg7 HW6.out.size (fun k hk => by injection hk with hk; omega))
  replace k3 := hg7.cell k3 (fun e => by injection e with e; have e' : w.heap.size = g2 := e; omega)
  have hz7 := hg7.size
  have hg17 := HS16.out.lt
  have hg27 := HS7.out.lt
  clear hs7 hg7 hls
  go_wp2_with ((with_reducible refine at_slot 42 ?_); refine Classical.byContradiction (fun hG => ?_))
  refine hG ?_
  clear hG
  refine wp_make2 _ rfl _ _ rfl n rfl rfl hnM ?_
  intro w8 hd8 hb8
  have HD8 := Lib.hid hd8
  have HB8 := Lib.hid hb8
  obtain ⟨g, hg⟩ : ∃ g, g = w7.heap.size := ⟨_, rfl⟩
  rw [← hg] at HD8 ⊢
  have HGG := Lib.hid hg
  have hgg1 : g1 < g := by omega
  have hgg2 : g2 < g := by omega
  have hnF : (flat enc2 (lightA X Y Z cs)).length = n * 2 := by rw [flat_len, lightA_len, HNN.out]; rfl
  have HNF := Lib.hid hnF
  obtain ⟨F, hF⟩ : ∃ F, flat enc2 (lightA X Y Z cs) = F := ⟨_, rfl⟩
  have HF := Lib.hid hF
  rw [hF] at hnF
  have HFL := Lib.hid hnF
  have hgw : w.heap.size ≤ g := by omega
  have hg7 : w7.heap.size ≤ g := by omega
  clear hd8 hb8 hg k3 hF hnF HNF
  go_wp2_with fail
  go_loopw [45] (LRel w7 g n F) (fun v _ => n - (intOf v).toNat)
  case atStart => exact ⟨0, rfl, by omega, by rw [Nat.zero_mul, fillV_zero, HFL.out]; exact HD8.out, HB8.out⟩
  case round =>
    obtain ⟨j, rfl, hj, hd, hb⟩ := hrel
    have HD := Lib.hid hd
    have HB := Lib.hid hb
    have hgl := hd.lt
    have hzr := hb.size
    by_cases hlt : j < n
    · have hjI : (j : Int) < n := by omega
      obtain ⟨a, ha⟩ : ∃ a, litA X Y Z O (skyL X Y Z O) j = a := ⟨_, rfl⟩
      obtain ⟨b, hbb⟩ : ∃ b, litA X Y Z O (cs.map lampA) j = b := ⟨_, rfl⟩
      have hlj : (lightA X Y Z cs)[j]? = some (a, b) := by rw [lightA, List.getElem?_map, List.getElem?_range (by have := HNN.out; omega), HOO.out]; simp [ha, hbb]
      obtain ⟨hf0, hf1⟩ := flat2_get hlj
      rw [HF.out] at hf0 hf1
      have HX := Lib.hid (show ((fillV F (.int .u8 0) (j * 2)).set (j * 2) (.int .u8 a)).set (j * 2 + 1) (.int .u8 b) = fillV F (.int .u8 0) ((j + 1) * 2) by rw [fillV_set hf0, fillV_set hf1]; congr 1; omega)
      have c1 : wr.cell? ⟨g1, j, none⟩ = some (.int .u8 a) := (hb.cell (p := ⟨g1, j, none⟩) hg17).trans (HS16.out.cell (by rw [List.getElem?_map, List.getElem?_map, List.getElem?_range hlt]; simp [ha, u8v]))
      have c2 : wr.cell? ⟨g2, j, none⟩ = some (.int .u8 b) := (hb.cell (p := ⟨g2, j, none⟩) hg27).trans (HS7.out.cell (by rw [List.getElem?_map, List.getElem?_map, List.getElem?_range hlt]; simp [hbb, u8v]))
      have r0 := hd.cell (fillV_get (f := F) (z := .int .u8 0) (j := j * 2) (by have := HFL.out; omega))
      have r1 := hd.cell (fillV_get' (f := F) (z := .int .u8 0) (j := j * 2) (k := j * 2 + 1) (by omega) (by have := HFL.out; omega))
      have f0 := hd.frozen (j * 2)
      have f1 := hd.frozen (j * 2 + 1)
      have hg1l := hgg1
      have hg2l := hgg2
      clear hd hb hlj hf0 hf1 ha hbb
      go_wp2_with fail
      refine wp_region_noPanic ?_
      refine wp_region_held_drew (S := fun W => Below g wr W) (by kernel_rfl) ((Below.refl g wr).drew) (fun hHeld => ?_)
      refine wpAnyH_take (i := 0) (oi := ⟨some 48, _, _, _, _, _⟩) (v := .slice (some ⟨g, 0, none⟩) n n) rfl (by kernel_rfl) (by kernel_rfl) (by kernel_rfl) (fun _ _ _ h => h) (Or.inl ⟨by rfl, fun W hSW => by go_simp⟩) hHeld ?_
      simp only [Act.put, List.setIfInBounds_toArray, List.set_cons_zero, List.set_cons_succ]
      refine wpAnyH_take (i := 1) (oi := ⟨some 49, _, _, _, _, _⟩) (v := .int .i64 j) rfl (by kernel_rfl) (by kernel_rfl) (by kernel_rfl) (fun _ _ _ h => h) (Or.inl ⟨by rfl, fun W hSW => by go_simp⟩) hHeld ?_
      simp only [Act.put, List.setIfInBounds_toArray, List.set_cons_zero, List.set_cons_succ]
      refine wpAnyH_take (i := 2) (oi := ⟨some 50, _, _, _, _, _⟩) (v := .slice (some ⟨g1, 0, none⟩) n n) rfl (by kernel_rfl) (by kernel_rfl) (by kernel_rfl) (fun _ _ _ h => h) (Or.inl ⟨by rfl, fun W hSW => by go_simp⟩) hHeld ?_
      simp only [Act.put, List.setIfInBounds_toArray, List.set_cons_zero, List.set_cons_succ]
      refine wpAnyH_take (i := 3) (oi := ⟨some 51, _, _, _, _, _⟩) (v := .int .i64 j) rfl (by kernel_rfl) (by kernel_rfl) (by kernel_rfl) (fun _ _ _ h => h) (Or.inl ⟨by rfl, fun W hSW => by go_simp⟩) hHeld ?_
      simp only [Act.put, List.setIfInBounds_toArray, List.set_cons_zero, List.set_cons_succ]
      refine wpAnyH_take (i := 4) (oi := ⟨some 52, _, _, _, _, _⟩) (v := .pointer (some ⟨g1, j, none⟩)) rfl (by kernel_rfl) (by kernel_rfl) (by kernel_rfl) (fun _ _ _ h => h) (Or.inl ⟨by rfl, fun W hSW => by go_simp⟩) hHeld ?_
      simp only [Act.put, List.setIfInBounds_toArray, List.set_cons_zero, List.set_cons_succ]
      refine wpAnyH_take (i := 5) (oi := ⟨some 53, _, _, _, _, _⟩) (v := .int .u8 a) rfl (by kernel_rfl) (by kernel_rfl) (by kernel_rfl) (fun _ _ _ h => h) (Or.inl ⟨by rfl, fun W hSW => by have a0 := (hSW.cell (p := ⟨g1, j, none⟩) hg1l).trans c1; go_simp⟩) hHeld ?_
      simp only [Act.put, List.setIfInBounds_toArray, List.set_cons_zero, List.set_cons_succ]
      refine wpAnyH_take (i := 6) (oi := ⟨some 54, _, _, _, _, _⟩) (v := .slice (some ⟨g2, 0, none⟩) n n) rfl (by kernel_rfl) (by kernel_rfl) (by kernel_rfl) (fun _ _ _ h => h) (Or.inl ⟨by rfl, fun W hSW => by go_simp⟩) hHeld ?_
      simp only [Act.put, List.setIfInBounds_toArray, List.set_cons_zero, List.set_cons_succ]
      refine wpAnyH_take (i := 7) (oi := ⟨some 55, _, _, _, _, _⟩) (v := .int .i64 j) rfl (by kernel_rfl) (by kernel_rfl) (by kernel_rfl) (fun _ _ _ h => h) (Or.inl ⟨by rfl, fun W hSW => by go_simp⟩) hHeld ?_
      simp only [Act.put, List.setIfInBounds_toArray, List.set_cons_zero, List.set_cons_succ]
      refine wpAnyH_take (i := 8) (oi := ⟨some 56, _, _, _, _, _⟩) (v := .pointer (some ⟨g2, j, none⟩)) rfl (by kernel_rfl) (by kernel_rfl) (by kernel_rfl) (fun _ _ _ h => h) (Or.inl ⟨by rfl, fun W hSW => by go_simp⟩) hHeld ?_
      simp only [Act.put, List.setIfInBounds_toArray, List.set_cons_zero, List.set_cons_succ]
      refine wpAnyH_take (i := 9) (oi := ⟨some 57, _, _, _, _, _⟩) (v := .int .u8 b) rfl (by kernel_rfl) (by kernel_rfl) (by kernel_rfl) (fun _ _ _ h => h) (Or.inl ⟨by rfl, fun W hSW => by have a0 := (hSW.cell (p := ⟨g2, j, none⟩) hg2l).trans c2; go_simp⟩) hHeld ?_
      simp only [Act.put, List.setIfInBounds_toArray, List.set_cons_zero, List.set_cons_succ]
      refine wpAnyH_take (i := 10) (oi := ⟨some 58, _, _, _, _, _⟩) (v := .agg #[.int .u8 a, .int .u8 b]) rfl (by kernel_rfl) (by kernel_rfl) (by kernel_rfl) (fun _ _ _ h => h) (Or.inl ⟨by rfl, fun W hSW => by go_simp⟩) hHeld ?_
      simp only [Act.put, List.setIfInBounds_toArray, List.set_cons_zero, List.set_cons_succ]
      refine wpAnyH_take (i := 11) (oi := ⟨some 59, _, _, _, _, _⟩) (v := .pointer (some ⟨g, j * 2, none⟩)) rfl (by kernel_rfl) (by kernel_rfl) (by kernel_rfl) (fun _ _ _ h => h) (Or.inl ⟨by rfl, fun W hSW => by go_simp⟩) hHeld ?_
      simp only [Act.put, List.setIfInBounds_toArray, List.set_cons_zero, List.set_cons_succ]
      refine wpAnyH_ready (rs := [12]) (by kernel_rfl) (by simp) ?_
      refine AllReadyH.cons (o := ⟨none, _, _, _, _, _⟩) rfl (fun K hK => ?_) AllReadyH.nil
      go_simp
      refine hK.out _ _ (by (repeat' (first | (with_reducible exact Below.refl _ _) | (with_reducible refine Below.setCell ?_ (by (first | omega | (simp; done) | (simp; omega))) _) | (with_reducible refine Below.alloc ?_ (by (first | omega | (simp; done) | (simp; omega))) _) | (with_reducible refine Below.drew ?_) | (with_reducible refine below_drewN ?_ _)))) (fun hHeld => ?_)
      clear hK K
      refine wpAnyH_done (by kernel_rfl) ?_ _
      refine NoPanic.normal ?_
      go_wp2_with fail
      go_roundw
      case rel =>
        refine ⟨j + 1, by go_num, by omega, ?_, ?_⟩
        · rw [← HX.out]
          exact (HD.out.set _ _).set _ _
        · have HBo := HB.out
          (repeat' (first | (with_reducible exact Below.refl _ _) | (with_reducible refine Below.setCell ?_ (by (first | omega | (simp; done) | (simp; omega))) _) | (with_reducible refine Below.alloc ?_ (by (first | omega | (simp; done) | (simp; omega))) _) | (with_reducible refine Below.drew ?_) | (with_reducible refine below_drewN ?_ _) | (with_reducible refine Below.trans ?_ (Below.mono HBo (by (first | omega | (simp; done) | (simp; omega)))))))
      case measure => first | (simp [intOf]; done) | (simp [intOf]; omega)
    · obtain rfl : n = j := by omega
      clear hd hb
      go_wp2_with fail
      go_ret2
      exact ⟨g, rfl, by have h := HD.out; rw [fillV_all (by have := HFL.out; omega)] at h; rw [HF.out]; exact h, hgw, HW7.out.trans (HB.out.mono (by omega))⟩
end GlowW
end Go.Proofs.YtbkadecfmjjadaaDoor
