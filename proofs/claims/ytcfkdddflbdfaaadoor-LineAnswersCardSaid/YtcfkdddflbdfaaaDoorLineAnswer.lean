/-
  Package line's answers as lines.
-/
import Derived.BigQuiet
import Derived.BigRegion
import Derived.Lib.Hide
import Derived.Deep.RegionHeld3
import Derived.Deep.MidRow
import Derived.Test.YtcfkdddflbdfaaaDoorLineSmall
namespace Go.Proofs.YtcfkdddflbdfaaaDoor
open Go.RowKit
set_option linter.unusedVariables false
set_option linter.unusedSimpArgs false
namespace LineW
open DigP LineP BlkP RowG
open BaseP (bcell below_drewN)

theorem name_c (k : Nat) {w : World} (hE : Env w) : Calls Tryd.prog 52 #[.int .u8 k] w fun e w' => e = .returned (.string ⟨(KindP.nm k).toArray⟩) ∧ Below w.heap.size w w' :=
  (KindW.name_any k w hE.tab).mono fun e w' ⟨he, hw⟩ => ⟨he, hw ▸ Below.refl _ _⟩
theorem nm_len (k : Nat) : (KindP.nm k).length ≤ 20 := by
  by_cases h : k < 15
  · have key : ∀ k : Fin 15, (KindP.nm k.val).length ≤ 20 := by decide
    exact key ⟨k, h⟩
  · rw [KindP.nm_out (by omega)]
    simp
theorem orL_len {x y : List UInt8} {n : Nat} (hx : x.length ≤ n) (hy : y.length ≤ n) : (orL x y).length ≤ n := by
  unfold orL
  split <;> assumption
theorem join_le {ws : List (List UInt8)} {n m : Nat} (h : ∀ w ∈ ws, w.length ≤ n) (hm : ws.length ≤ m) : (DigP.join ws).length ≤ m * (n + 1) :=
  Nat.le_trans (join_len ws n h) (Nat.mul_le_mul_right _ hm)
def cellT (c : Nat × Nat) : List UInt8 := DigP.join [orL (KindP.nm c.1) (num (c.1 : Int)), num (c.2 : Int)]
theorem cellT_len {c : Nat × Nat} (hc1 : c.1 < 256) (hc2 : c.2 < 256) : (cellT c).length ≤ 42 := by
  refine join_le (n := 20) (m := 2) (fun w hw => ?_) (by simp)
  simp only [List.mem_cons, List.not_mem_nil, or_false] at hw
  rcases hw with rfl | rfl
  · exact orL_len (nm_len _) (num_len (by omega) (by omega))
  · exact num_len (by omega) (by omega)
/-- An answer. -/
structure Ans where
  e : Int
  p : V
  c : Nat × Nat
  l : Nat × Nat
  due : Int
  n : Int
  g : Int × Int × Int × Int
abbrev In64 (n : Int) : Prop := -9223372036854775808 ≤ n ∧ n < 9223372036854775808
structure Ans.Ok (a : Ans) : Prop where
  e : In64 a.e
  p0 : In64 a.p.1
  p1 : In64 a.p.2.1
  p2 : In64 a.p.2.2
  c1 : a.c.1 < 256
  c2 : a.c.2 < 256
  l1 : a.l.1 < 256
  l2 : a.l.2 < 256
  due : In64 a.due
  n : In64 a.n
  g0 : In64 a.g.1
  g1 : In64 a.g.2.1
  g2 : In64 a.g.2.2.1
  g3 : In64 a.g.2.2.2
theorem txt_len (i : Int) : (txt errsL i).length ≤ 60 := by
  unfold txt
  split
  · have key : ∀ k : Fin 31, (errsL.getD k.val []).length ≤ 60 := by decide
    rename_i h
    have hl : errsL.length = 31 := rfl
    exact key ⟨i.toNat, by omega⟩
  · simp
/-- Its line, of an operation of this kind. -/
def ansT (k : Int) (a : Ans) : List UInt8 :=
  if a.e ≠ 0 then DigP.join [[101, 114, 114, 111, 114], orL (txt errsL a.e) (num a.e)]
  else if k = 7 then DigP.join [cellT a.c, [115, 107, 121], num (a.l.1 : Int), [108, 97, 109, 112], num (a.l.2 : Int), [100, 117, 101], num a.due]
  else if k = 8 then DigP.join [num a.p.1, num a.p.2.1, num a.p.2.2, cellT a.c, [115, 116, 101, 112, 115], num a.n]
  else if k = 10 then DigP.join [[110, 111, 119], num a.n, [112, 108, 97, 99, 101, 100], num a.g.1, [98, 114, 111, 107, 101, 110], num a.g.2.1, [103, 114, 111, 119, 110], num a.g.2.2.1, [98, 117, 114, 110, 116], num a.g.2.2.2]
  else [111, 107]
theorem len_err {a : Ans} (h : a.Ok) : (DigP.join [[101, 114, 114, 111, 114], orL (txt errsL a.e) (num a.e)]).length ≤ 100000000 := by
  refine Nat.le_trans (join_le (n := 60) (m := 2) (fun w hw => ?_) (by simp)) (by omega)
  have hcl := cellT_len h.c1 h.c2
  have hn : ∀ n : Int, In64 n → (num n).length ≤ 60 := fun n hn => Nat.le_trans (num_len hn.1 (by have := hn.2; omega)) (by omega)
  have hu : ∀ n : Nat, n < 256 → (num (n : Int)).length ≤ 60 := fun n hn => Nat.le_trans (num_len (by omega) (by omega)) (by omega)
  have he := txt_len a.e
  simp only [List.mem_cons, List.not_mem_nil, or_false] at hw
  rcases hw with rfl | rfl <;> first | (show _ ≤ _; simp; done) | exact hn _ h.e | exact hn _ h.p0 | exact hn _ h.p1 | exact hn _ h.p2 | exact hn _ h.n | exact hn _ h.due | exact hn _ h.g0 | exact hn _ h.g1 | exact hn _ h.g2 | exact hn _ h.g3 | exact hu _ h.l1 | exact hu _ h.l2 | omega | exact orL_len he (hn _ h.e)
theorem len_7 {a : Ans} (h : a.Ok) : (DigP.join [cellT a.c, [115, 107, 121], num (a.l.1 : Int), [108, 97, 109, 112], num (a.l.2 : Int), [100, 117, 101], num a.due]).length ≤ 100000000 := by
  refine Nat.le_trans (join_le (n := 60) (m := 7) (fun w hw => ?_) (by simp)) (by omega)
  have hcl := cellT_len h.c1 h.c2
  have hn : ∀ n : Int, In64 n → (num n).length ≤ 60 := fun n hn => Nat.le_trans (num_len hn.1 (by have := hn.2; omega)) (by omega)
  have hu : ∀ n : Nat, n < 256 → (num (n : Int)).length ≤ 60 := fun n hn => Nat.le_trans (num_len (by omega) (by omega)) (by omega)
  have he := txt_len a.e
  simp only [List.mem_cons, List.not_mem_nil, or_false] at hw
  rcases hw with rfl | rfl | rfl | rfl | rfl | rfl | rfl <;> first | (show _ ≤ _; simp; done) | exact hn _ h.e | exact hn _ h.p0 | exact hn _ h.p1 | exact hn _ h.p2 | exact hn _ h.n | exact hn _ h.due | exact hn _ h.g0 | exact hn _ h.g1 | exact hn _ h.g2 | exact hn _ h.g3 | exact hu _ h.l1 | exact hu _ h.l2 | omega | exact orL_len he (hn _ h.e)
theorem len_8 {a : Ans} (h : a.Ok) : (DigP.join [num a.p.1, num a.p.2.1, num a.p.2.2, cellT a.c, [115, 116, 101, 112, 115], num a.n]).length ≤ 100000000 := by
  refine Nat.le_trans (join_le (n := 60) (m := 6) (fun w hw => ?_) (by simp)) (by omega)
  have hcl := cellT_len h.c1 h.c2
  have hn : ∀ n : Int, In64 n → (num n).length ≤ 60 := fun n hn => Nat.le_trans (num_len hn.1 (by have := hn.2; omega)) (by omega)
  have hu : ∀ n : Nat, n < 256 → (num (n : Int)).length ≤ 60 := fun n hn => Nat.le_trans (num_len (by omega) (by omega)) (by omega)
  have he := txt_len a.e
  simp only [List.mem_cons, List.not_mem_nil, or_false] at hw
  rcases hw with rfl | rfl | rfl | rfl | rfl | rfl <;> first | (show _ ≤ _; simp; done) | exact hn _ h.e | exact hn _ h.p0 | exact hn _ h.p1 | exact hn _ h.p2 | exact hn _ h.n | exact hn _ h.due | exact hn _ h.g0 | exact hn _ h.g1 | exact hn _ h.g2 | exact hn _ h.g3 | exact hu _ h.l1 | exact hu _ h.l2 | omega | exact orL_len he (hn _ h.e)
theorem len_10 {a : Ans} (h : a.Ok) : (DigP.join [[110, 111, 119], num a.n, [112, 108, 97, 99, 101, 100], num a.g.1, [98, 114, 111, 107, 101, 110], num a.g.2.1, [103, 114, 111, 119, 110], num a.g.2.2.1, [98, 117, 114, 110, 116], num a.g.2.2.2]).length ≤ 100000000 := by
  refine Nat.le_trans (join_le (n := 60) (m := 10) (fun w hw => ?_) (by simp)) (by omega)
  have hcl := cellT_len h.c1 h.c2
  have hn : ∀ n : Int, In64 n → (num n).length ≤ 60 := fun n hn => Nat.le_trans (num_len hn.1 (by have := hn.2; omega)) (by omega)
  have hu : ∀ n : Nat, n < 256 → (num (n : Int)).length ≤ 60 := fun n hn => Nat.le_trans (num_len (by omega) (by omega)) (by omega)
  have he := txt_len a.e
  simp only [List.mem_cons, List.not_mem_nil, or_false] at hw
  rcases hw with rfl | rfl | rfl | rfl | rfl | rfl | rfl | rfl | rfl | rfl <;> first | (show _ ≤ _; simp; done) | exact hn _ h.e | exact hn _ h.p0 | exact hn _ h.p1 | exact hn _ h.p2 | exact hn _ h.n | exact hn _ h.due | exact hn _ h.g0 | exact hn _ h.g1 | exact hn _ h.g2 | exact hn _ h.g3 | exact hu _ h.l1 | exact hu _ h.l2 | omega | exact orL_len he (hn _ h.e)
set_option maxRecDepth 100000 in
set_option maxHeartbeats 8000000 in
theorem cellWords_c {c : Nat × Nat} (hc1 : c.1 < 256) (hc2 : c.2 < 256) {w : World} (hE : Env w) :
    Calls Tryd.prog 32 #[.agg #[.int .u8 (c.1 : Int), .int .u8 (c.2 : Int)]] w fun e w' => e = .returned (.string ⟨(cellT c).toArray⟩) ∧ Below w.heap.size w w' := by
  have HE := Lib.hid hE
  have HJ := Lib.hid (show (DigP.join [orL (KindP.nm c.1) (num (c.1 : Int)), num (c.2 : Int)]).length ≤ 100000000 from by have := cellT_len hc1 hc2; unfold cellT at this; omega)
  obtain ⟨s, hs⟩ : ∃ s, w.heap.size = s := ⟨_, rfl⟩
  have HS := Lib.hid hs
  clear hE
  go_enter Tryd.func32, Tryd.ntmps32
  go_wp2_with fail
  refine HeldP.wp_named (S := fun W => Below w.heap.size w W ∧ Blk W s 25 [.int .u8 (c.1 : Int), .int .u8 (c.2 : Int)]) ⟨by (repeat' (first | (with_reducible exact Below.refl _ _) | (with_reducible refine Below.setCell ?_ (by (first | omega | (simp; done) | (simp; omega))) _) | (with_reducible refine Below.alloc ?_ (by (first | omega | (simp; done) | (simp; omega))) _) | (with_reducible refine Below.drew ?_) | (with_reducible refine below_drewN ?_ _))), by subst hs; (repeat' (first | (with_reducible refine BlkP.Blk.drew ?_) | (with_reducible refine BlkP.Blk.drewN ?_ _) | (with_reducible refine BlkP.Blk.setAt (us := ?_) (by first | omega | (simp; done) | (simp; omega)) rfl ?_ ?_) | (with_reducible refine BlkP.Blk.otherAt ?_ (by first | omega | (simp; done) | (simp; omega))) | (with_reducible refine BlkP.Blk.newA' (by first | omega | (simp; done) | (simp; omega)) rfl) | (with_reducible refine BlkP.Blk.alloc ?_ _) | (exact rfl)))⟩ ?_
  try rw [hs]
  rintro wn ⟨hbn, hk⟩
  try rw [← hs] at hbn
  have HN := Lib.hid (HE.out.below hbn)
  have HB := Lib.hid hbn
  have c0 := hk.cell (i := 0) rfl
  have c1 := hk.cell (i := 1) rfl
  have ml := hk.lt
  clear hk hbn hs
  refine wp_region_noPanic ?_
  refine wp_region_held_drew (S := fun W => Below wn.heap.size wn W) (by kernel_rfl) ((Below.refl _ wn).drew) (fun hHeld => ?_)
  refine wpAnyH_take (i := 0) (oi := ⟨some 3, _, _, _, _, _⟩) (v := .pointer (some ⟨s, 0, none⟩)) rfl (by kernel_rfl) (by kernel_rfl) (by kernel_rfl) (fun _ _ _ h => h) (Or.inl ⟨by rfl, fun W hSW => by go_simp⟩) hHeld ?_
  simp only [Act.put, List.setIfInBounds_toArray, List.set_cons_zero, List.set_cons_succ]
  refine wpAnyH_take (i := 1) (oi := ⟨some 4, _, _, _, _, _⟩) (v := .int .u8 (c.1 : Int)) rfl (by kernel_rfl) (by kernel_rfl) (by kernel_rfl) (fun _ _ _ h => h) (Or.inl ⟨by rfl, fun W hSW => by have a0 := (hSW.cell (p := ⟨s, 0, none⟩) ml).trans c0; go_simp⟩) hHeld ?_
  simp only [Act.put, List.setIfInBounds_toArray, List.set_cons_zero, List.set_cons_succ]
  refine wpAnyH_take (i := 3) (oi := ⟨some 6, _, _, _, _, _⟩) (v := .pointer (some ⟨s, 0, none⟩)) rfl (by kernel_rfl) (by kernel_rfl) (by kernel_rfl) (fun _ _ _ h => h) (Or.inl ⟨by rfl, fun W hSW => by go_simp⟩) hHeld ?_
  simp only [Act.put, List.setIfInBounds_toArray, List.set_cons_zero, List.set_cons_succ]
  refine wpAnyH_take (i := 4) (oi := ⟨some 7, _, _, _, _, _⟩) (v := .int .u8 (c.1 : Int)) rfl (by kernel_rfl) (by kernel_rfl) (by kernel_rfl) (fun _ _ _ h => h) (Or.inl ⟨by rfl, fun W hSW => by have a0 := (hSW.cell (p := ⟨s, 0, none⟩) ml).trans c0; go_simp⟩) hHeld ?_
  simp only [Act.put, List.setIfInBounds_toArray, List.set_cons_zero, List.set_cons_succ]
  refine wpAnyH_take (i := 8) (oi := ⟨some 11, _, _, _, _, _⟩) (v := .pointer (some ⟨s, 1, none⟩)) rfl (by kernel_rfl) (by kernel_rfl) (by kernel_rfl) (fun _ _ _ h => h) (Or.inl ⟨by rfl, fun W hSW => by go_simp⟩) hHeld ?_
  simp only [Act.put, List.setIfInBounds_toArray, List.set_cons_zero, List.set_cons_succ]
  refine wpAnyH_take (i := 9) (oi := ⟨some 12, _, _, _, _, _⟩) (v := .int .u8 (c.2 : Int)) rfl (by kernel_rfl) (by kernel_rfl) (by kernel_rfl) (fun _ _ _ h => h) (Or.inl ⟨by rfl, fun W hSW => by have a0 := (hSW.cell (p := ⟨s, 1, none⟩) ml).trans c1; go_simp⟩) hHeld ?_
  simp only [Act.put, List.setIfInBounds_toArray, List.set_cons_zero, List.set_cons_succ]
  refine wpAnyH_ready (rs := [2]) (by kernel_rfl) (by simp) ?_
  refine AllReadyH.cons (o := ⟨some 5, _, _, _, _, _⟩) rfl (fun K hK => ?_) AllReadyH.nil
  go_simp
  refine (name_c c.1 (HN.out.below hHeld)).mono ?_
  rintro e w2 ⟨rfl, hb2⟩
  refine hK.out _ _ (below_t hHeld hb2) (fun hHeld => ?_)
  clear hK K hb2
  refine wpAnyH_ready (rs := [5]) (by kernel_rfl) (by simp) ?_
  refine AllReadyH.cons (o := ⟨some 8, _, _, _, _, _⟩) rfl (fun K hK => ?_) AllReadyH.nil
  go_simp
  refine (digits_u8 hc1 (HN.out.below hHeld)).mono ?_
  rintro e w5 ⟨rfl, hb5⟩
  refine hK.out _ _ (below_t hHeld hb5) (fun hHeld => ?_)
  clear hK K hb5
  refine wpAnyH_ready (rs := [6]) (by kernel_rfl) (by simp) ?_
  refine AllReadyH.cons (o := ⟨some 9, _, _, _, _, _⟩) rfl (fun K hK => ?_) AllReadyH.nil
  go_simp
  refine hK.out _ _ (hHeld.alloc hHeld.size _) (fun hHeld => ?_)
  clear hK K
  refine any_named (S := fun W => Below wn.heap.size wn W ∧ Txt W w5.heap.size [KindP.nm c.1, num (c.1 : Int)]) ⟨hHeld, Txt.blk (Blk.newA' rfl rfl) rfl⟩ ?_
  clear hHeld
  rintro v6 ⟨hHeld, ht6⟩
  have HT6 := Lib.hid ht6
  clear ht6
  refine wpAnyH_ready (rs := [7]) (by kernel_rfl) (by simp) ?_
  refine AllReadyH.cons (o := ⟨some 10, _, _, _, _, _⟩) rfl (fun K hK => ?_) AllReadyH.nil
  go_simp
  refine (or_c HT6.out).mono ?_
  rintro e w7 ⟨rfl, hb7⟩
  refine hK.out _ _ (below_t hHeld hb7) (fun hHeld => ?_)
  clear hK K hb7
  refine wpAnyH_ready (rs := [10]) (by kernel_rfl) (by simp) ?_
  refine AllReadyH.cons (o := ⟨some 13, _, _, _, _, _⟩) rfl (fun K hK => ?_) AllReadyH.nil
  go_simp
  refine (digits_u8 hc2 (HN.out.below hHeld)).mono ?_
  rintro e w10 ⟨rfl, hb10⟩
  refine hK.out _ _ (below_t hHeld hb10) (fun hHeld => ?_)
  clear hK K hb10
  refine wpAnyH_ready (rs := [11]) (by kernel_rfl) (by simp) ?_
  refine AllReadyH.cons (o := ⟨some 14, _, _, _, _, _⟩) rfl (fun K hK => ?_) AllReadyH.nil
  go_simp
  refine hK.out _ _ (hHeld.alloc hHeld.size _) (fun hHeld => ?_)
  clear hK K
  refine any_named (S := fun W => Below wn.heap.size wn W ∧ Txt W w10.heap.size [orL (KindP.nm c.1) (num (c.1 : Int)), num (c.2 : Int)]) ⟨hHeld, Txt.blk (Blk.newA' rfl rfl) rfl⟩ ?_
  clear hHeld
  rintro v11 ⟨hHeld, ht11⟩
  have HT11 := Lib.hid ht11
  clear ht11
  refine wpAnyH_ready (rs := [12]) (by kernel_rfl) (by simp) ?_
  refine AllReadyH.cons (o := ⟨some 15, _, _, _, _, _⟩) rfl (fun K hK => ?_) AllReadyH.nil
  go_simp
  refine (sentence_c (n := 2) (c := 2) HT11.out rfl (by omega) (by omega) HJ.out).mono ?_
  rintro e w12 ⟨rfl, hb12⟩
  refine hK.out _ _ (below_t hHeld hb12) (fun hHeld => ?_)
  clear hK K hb12
  refine wpAnyH_take (i := 13) (oi := ⟨some 2, _, _, _, _, _⟩) (v := .string ⟨(DigP.join [orL (KindP.nm c.1) (num (c.1 : Int)), num (c.2 : Int)]).toArray⟩) rfl (by kernel_rfl) (by kernel_rfl) (by kernel_rfl) (fun _ _ _ h => h) (Or.inl ⟨by rfl, fun W hSW => by go_simp⟩) hHeld ?_
  simp only [Act.put, List.setIfInBounds_toArray, List.set_cons_zero, List.set_cons_succ]
  refine wpAnyH_done (by kernel_rfl) ?_ _
  refine NoPanic.normal ?_
  have HF := Lib.hid (below_t HB.out hHeld)
  clear hHeld c0 c1 ml
  go_wp2_with fail
  go_ret
  exact ⟨rfl, HF.out⟩
theorem calls_named {P : Program} {f : FuncId} {args : Array Value} {R : Ending → World → Prop} {W : World} (S : World → Prop) (h : S W) (k : ∀ W', S W' → Calls P f args W' R) : Calls P f args W R := k W h
set_option maxRecDepth 100000 in
set_option maxHeartbeats 8000000 in
theorem Answer_c {k : Int} {a : Ans} (ha : a.Ok) {w : World} (hE : Env w) :
    Calls Tryd.prog 16 #[.int .i64 k, .agg #[.int .i64 a.e, .int .i64 a.p.1, .int .i64 a.p.2.1, .int .i64 a.p.2.2, .int .u8 (a.c.1 : Int), .int .u8 (a.c.2 : Int), .int .u8 (a.l.1 : Int), .int .u8 (a.l.2 : Int), .int .i64 a.due, .int .i64 a.n, .int .i64 a.g.1, .int .i64 a.g.2.1, .int .i64 a.g.2.2.1, .int .i64 a.g.2.2.2]] w fun e w' => e = .returned (.string ⟨(ansT k a).toArray⟩) ∧ Below w.heap.size w w' := by
  have HA := Lib.hid ha
  have HE := Lib.hid hE
  obtain ⟨s, hs⟩ : ∃ s, w.heap.size = s := ⟨_, rfl⟩
  clear ha hE
  by_cases he : a.e ≠ 0
  · have HT := Lib.hid (show ansT k a = _ from if_pos he)
    have e0 : (a.e != 0) = true := by simpa using he
    clear he
    go_enter Tryd.func16, Tryd.ntmps16
    go_wp2_with fail
    refine HeldP.wp_named (S := fun W => Below w.heap.size w W ∧ Blk W s 41 [.int .i64 a.e, .int .i64 a.p.1, .int .i64 a.p.2.1, .int .i64 a.p.2.2, .int .u8 (a.c.1 : Int), .int .u8 (a.c.2 : Int), .int .u8 (a.l.1 : Int), .int .u8 (a.l.2 : Int), .int .i64 a.due, .int .i64 a.n, .int .i64 a.g.1, .int .i64 a.g.2.1, .int .i64 a.g.2.2.1, .int .i64 a.g.2.2.2]) ⟨by (repeat' (first | (with_reducible exact Below.refl _ _) | (with_reducible refine Below.setCell ?_ (by (first | omega | (simp; done) | (simp; omega))) _) | (with_reducible refine Below.alloc ?_ (by (first | omega | (simp; done) | (simp; omega))) _) | (with_reducible refine Below.drew ?_) | (with_reducible refine below_drewN ?_ _))), by subst hs; (repeat' (first | (with_reducible refine BlkP.Blk.drew ?_) | (with_reducible refine BlkP.Blk.drewN ?_ _) | (with_reducible refine BlkP.Blk.setAt (us := ?_) (by first | omega | (simp; done) | (simp; omega)) rfl ?_ ?_) | (with_reducible refine BlkP.Blk.otherAt ?_ (by first | omega | (simp; done) | (simp; omega))) | (with_reducible refine BlkP.Blk.newA' (by first | omega | (simp; done) | (simp; omega)) rfl) | (with_reducible refine BlkP.Blk.alloc ?_ _) | (exact rfl)))⟩ ?_
    try rw [hs]
    rintro wn ⟨hbn, hk⟩
    try rw [← hs] at hbn
    have HN := Lib.hid (HE.out.below hbn)
    have HB := Lib.hid hbn
    have c0 := hk.cell (i := 0) rfl
    have c1 := hk.cell (i := 1) rfl
    have c2 := hk.cell (i := 2) rfl
    have c3 := hk.cell (i := 3) rfl
    have c4 := hk.cell (i := 4) rfl
    have c5 := hk.cell (i := 5) rfl
    have c6 := hk.cell (i := 6) rfl
    have c7 := hk.cell (i := 7) rfl
    have c8 := hk.cell (i := 8) rfl
    have c9 := hk.cell (i := 9) rfl
    have c10 := hk.cell (i := 10) rfl
    have c11 := hk.cell (i := 11) rfl
    have c12 := hk.cell (i := 12) rfl
    have c13 := hk.cell (i := 13) rfl
    have ml := hk.lt
    clear hk hbn hs
    refine wp_region_noPanic ?_
    refine wp_region_held_drew (S := fun W => Below wn.heap.size wn W) (by kernel_rfl) ((Below.refl _ wn).drew) (fun hHeld => ?_)
    refine wpAnyH_take (i := 0) (oi := ⟨some 9, _, _, _, _, _⟩) (v := .pointer (some ⟨s, 0, none⟩)) rfl (by kernel_rfl) (by kernel_rfl) (by kernel_rfl) (fun _ _ _ h => h) (Or.inl ⟨by rfl, fun W hSW => by go_simp⟩) hHeld ?_
    simp only [Act.put, List.setIfInBounds_toArray, List.set_cons_zero, List.set_cons_succ]
    refine wpAnyH_take (i := 1) (oi := ⟨some 10, _, _, _, _, _⟩) (v := .int .i64 a.e) rfl (by kernel_rfl) (by kernel_rfl) (by kernel_rfl) (fun _ _ _ h => h) (Or.inl ⟨by rfl, fun W hSW => by have a0 := (hSW.cell (p := ⟨s, 0, none⟩) ml).trans c0; go_simp⟩) hHeld ?_
    simp only [Act.put, List.setIfInBounds_toArray, List.set_cons_zero, List.set_cons_succ]
    refine wpAnyH_take (i := 3) (oi := ⟨some 12, _, _, _, _, _⟩) (v := .pointer (some ⟨s, 0, none⟩)) rfl (by kernel_rfl) (by kernel_rfl) (by kernel_rfl) (fun _ _ _ h => h) (Or.inl ⟨by rfl, fun W hSW => by go_simp⟩) hHeld ?_
    simp only [Act.put, List.setIfInBounds_toArray, List.set_cons_zero, List.set_cons_succ]
    refine wpAnyH_take (i := 4) (oi := ⟨some 13, _, _, _, _, _⟩) (v := .int .i64 a.e) rfl (by kernel_rfl) (by kernel_rfl) (by kernel_rfl) (fun _ _ _ h => h) (Or.inl ⟨by rfl, fun W hSW => by have a0 := (hSW.cell (p := ⟨s, 0, none⟩) ml).trans c0; go_simp⟩) hHeld ?_
    simp only [Act.put, List.setIfInBounds_toArray, List.set_cons_zero, List.set_cons_succ]
    refine wpAnyH_ready (rs := [2]) (by kernel_rfl) (by simp) ?_
    refine AllReadyH.cons (o := ⟨some 11, _, _, _, _, _⟩) rfl (fun K hK => ?_) AllReadyH.nil
    go_simp
    refine (Error_c rfl).mono ?_
    rintro e w2 ⟨rfl, hb2⟩
    refine hK.out _ _ (below_t hHeld hb2) (fun hHeld => ?_)
    clear hK K hb2
    refine wpAnyH_ready (rs := [5]) (by kernel_rfl) (by simp) ?_
    refine AllReadyH.cons (o := ⟨some 14, _, _, _, _, _⟩) rfl (fun K hK => ?_) AllReadyH.nil
    go_simp
    refine (digits_errno HA.out.e.1 HA.out.e.2 (HN.out.below hHeld)).mono ?_
    rintro e w5 ⟨rfl, hb5⟩
    refine hK.out _ _ (below_t hHeld hb5) (fun hHeld => ?_)
    clear hK K hb5
    refine wpAnyH_ready (rs := [6]) (by kernel_rfl) (by simp) ?_
    refine AllReadyH.cons (o := ⟨some 15, _, _, _, _, _⟩) rfl (fun K hK => ?_) AllReadyH.nil
    go_simp
    refine hK.out _ _ (hHeld.alloc hHeld.size _) (fun hHeld => ?_)
    clear hK K
    refine any_named (S := fun W => Below wn.heap.size wn W ∧ Txt W w5.heap.size [txt errsL a.e, num a.e]) ⟨hHeld, Txt.blk (Blk.newA' rfl rfl) rfl⟩ ?_
    clear hHeld
    rintro v6 ⟨hHeld, ht6⟩
    have HT6 := Lib.hid ht6
    clear ht6
    refine wpAnyH_ready (rs := [7]) (by kernel_rfl) (by simp) ?_
    refine AllReadyH.cons (o := ⟨some 16, _, _, _, _, _⟩) rfl (fun K hK => ?_) AllReadyH.nil
    go_simp
    refine (or_c HT6.out).mono ?_
    rintro e w7 ⟨rfl, hb7⟩
    refine hK.out _ _ (below_t hHeld hb7) (fun hHeld => ?_)
    clear hK K hb7
    refine wpAnyH_ready (rs := [8]) (by kernel_rfl) (by simp) ?_
    refine AllReadyH.cons (o := ⟨some 17, _, _, _, _, _⟩) rfl (fun K hK => ?_) AllReadyH.nil
    go_simp
    refine hK.out _ _ (hHeld.alloc hHeld.size _) (fun hHeld => ?_)
    clear hK K
    refine any_named (S := fun W => Below wn.heap.size wn W ∧ Txt W w7.heap.size [[101, 114, 114, 111, 114], orL (txt errsL a.e) (num a.e)]) ⟨hHeld, Txt.blk (Blk.newA' rfl rfl) rfl⟩ ?_
    clear hHeld
    rintro v8 ⟨hHeld, ht8⟩
    have HT8 := Lib.hid ht8
    clear ht8
    refine wpAnyH_ready (rs := [9]) (by kernel_rfl) (by simp) ?_
    refine AllReadyH.cons (o := ⟨some 18, _, _, _, _, _⟩) rfl (fun K hK => ?_) AllReadyH.nil
    go_simp
    refine (sentence_c (n := 2) (c := 2) HT8.out rfl (by omega) (by omega) (len_err HA.out)).mono ?_
    rintro e w9 ⟨rfl, hb9⟩
    refine hK.out _ _ (below_t hHeld hb9) (fun hHeld => ?_)
    clear hK K hb9
    refine wpAnyH_take (i := 10) (oi := ⟨some 4, _, _, _, _, _⟩) (v := .string ⟨(DigP.join [[101, 114, 114, 111, 114], orL (txt errsL a.e) (num a.e)]).toArray⟩) rfl (by kernel_rfl) (by kernel_rfl) (by kernel_rfl) (fun _ _ _ h => h) (Or.inl ⟨by rfl, fun W hSW => by go_simp⟩) hHeld ?_
    simp only [Act.put, List.setIfInBounds_toArray, List.set_cons_zero, List.set_cons_succ]
    refine wpAnyH_done (by kernel_rfl) ?_ _
    refine NoPanic.normal ?_
    clear c0 c1 c2 c3 c4 c5 c6 c7 c8 c9 c10 c11 c12 c13 ml
    have HF := Lib.hid (below_t HB.out hHeld)
    clear hHeld
    go_wp2_with fail
    go_ret
    exact ⟨by rw [HT.out]; rfl, HF.out⟩
  · have he : a.e = 0 := Classical.not_not.1 he
    have e0 : (a.e != 0) = false := by simp [he]
    by_cases h7 : k = 7
    · have HT := Lib.hid (show ansT k a = DigP.join [cellT a.c, [115, 107, 121], num (a.l.1 : Int), [108, 97, 109, 112], num (a.l.2 : Int), [100, 117, 101], num a.due] by simp [ansT, he, h7])
      subst h7
      clear he
      go_enter Tryd.func16, Tryd.ntmps16
      go_wp2_with fail
      refine HeldP.wp_named (S := fun W => Below w.heap.size w W ∧ Blk W s 41 [.int .i64 a.e, .int .i64 a.p.1, .int .i64 a.p.2.1, .int .i64 a.p.2.2, .int .u8 (a.c.1 : Int), .int .u8 (a.c.2 : Int), .int .u8 (a.l.1 : Int), .int .u8 (a.l.2 : Int), .int .i64 a.due, .int .i64 a.n, .int .i64 a.g.1, .int .i64 a.g.2.1, .int .i64 a.g.2.2.1, .int .i64 a.g.2.2.2]) ⟨by (repeat' (first | (with_reducible exact Below.refl _ _) | (with_reducible refine Below.setCell ?_ (by (first | omega | (simp; done) | (simp; omega))) _) | (with_reducible refine Below.alloc ?_ (by (first | omega | (simp; done) | (simp; omega))) _) | (with_reducible refine Below.drew ?_) | (with_reducible refine below_drewN ?_ _))), by subst hs; (repeat' (first | (with_reducible refine BlkP.Blk.drew ?_) | (with_reducible refine BlkP.Blk.drewN ?_ _) | (with_reducible refine BlkP.Blk.setAt (us := ?_) (by first | omega | (simp; done) | (simp; omega)) rfl ?_ ?_) | (with_reducible refine BlkP.Blk.otherAt ?_ (by first | omega | (simp; done) | (simp; omega))) | (with_reducible refine BlkP.Blk.newA' (by first | omega | (simp; done) | (simp; omega)) rfl) | (with_reducible refine BlkP.Blk.alloc ?_ _) | (exact rfl)))⟩ ?_
      try rw [hs]
      rintro wn ⟨hbn, hk⟩
      try rw [← hs] at hbn
      have HN := Lib.hid (HE.out.below hbn)
      have HB := Lib.hid hbn
      have c0 := hk.cell (i := 0) rfl
      have c1 := hk.cell (i := 1) rfl
      have c2 := hk.cell (i := 2) rfl
      have c3 := hk.cell (i := 3) rfl
      have c4 := hk.cell (i := 4) rfl
      have c5 := hk.cell (i := 5) rfl
      have c6 := hk.cell (i := 6) rfl
      have c7 := hk.cell (i := 7) rfl
      have c8 := hk.cell (i := 8) rfl
      have c9 := hk.cell (i := 9) rfl
      have c10 := hk.cell (i := 10) rfl
      have c11 := hk.cell (i := 11) rfl
      have c12 := hk.cell (i := 12) rfl
      have c13 := hk.cell (i := 13) rfl
      have ml := hk.lt
      clear hk hbn hs
      refine wp_region_noPanic ?_
      refine wp_region_held_drew (S := fun W => Below wn.heap.size wn W) (by kernel_rfl) ((Below.refl _ wn).drew) (fun hHeld => ?_)
      refine wpAnyH_take (i := 0) (oi := ⟨some 22, _, _, _, _, _⟩) (v := .pointer (some ⟨s, 4, none⟩)) rfl (by kernel_rfl) (by kernel_rfl) (by kernel_rfl) (fun _ _ _ h => h) (Or.inl ⟨by rfl, fun W hSW => by go_simp⟩) hHeld ?_
      simp only [Act.put, List.setIfInBounds_toArray, List.set_cons_zero, List.set_cons_succ]
      refine wpAnyH_take (i := 1) (oi := ⟨some 23, _, _, _, _, _⟩) (v := .agg #[.int .u8 (a.c.1 : Int), .int .u8 (a.c.2 : Int)]) rfl (by kernel_rfl) (by kernel_rfl) (by kernel_rfl) (fun _ _ _ h => h) (Or.inl ⟨by rfl, fun W hSW => by have a0 := (hSW.cell (p := ⟨s, 4, none⟩) ml).trans c4; have a1 := (hSW.cell (p := ⟨s, 5, none⟩) ml).trans c5; go_simp⟩) hHeld ?_
      simp only [Act.put, List.setIfInBounds_toArray, List.set_cons_zero, List.set_cons_succ]
      refine wpAnyH_take (i := 3) (oi := ⟨some 25, _, _, _, _, _⟩) (v := .pointer (some ⟨s, 6, none⟩)) rfl (by kernel_rfl) (by kernel_rfl) (by kernel_rfl) (fun _ _ _ h => h) (Or.inl ⟨by rfl, fun W hSW => by go_simp⟩) hHeld ?_
      simp only [Act.put, List.setIfInBounds_toArray, List.set_cons_zero, List.set_cons_succ]
      refine wpAnyH_take (i := 4) (oi := ⟨some 26, _, _, _, _, _⟩) (v := .pointer (some ⟨s, 6, none⟩)) rfl (by kernel_rfl) (by kernel_rfl) (by kernel_rfl) (fun _ _ _ h => h) (Or.inl ⟨by rfl, fun W hSW => by go_simp⟩) hHeld ?_
      simp only [Act.put, List.setIfInBounds_toArray, List.set_cons_zero, List.set_cons_succ]
      refine wpAnyH_take (i := 5) (oi := ⟨some 27, _, _, _, _, _⟩) (v := .int .u8 (a.l.1 : Int)) rfl (by kernel_rfl) (by kernel_rfl) (by kernel_rfl) (fun _ _ _ h => h) (Or.inl ⟨by rfl, fun W hSW => by have a0 := (hSW.cell (p := ⟨s, 6, none⟩) ml).trans c6; go_simp⟩) hHeld ?_
      simp only [Act.put, List.setIfInBounds_toArray, List.set_cons_zero, List.set_cons_succ]
      refine wpAnyH_take (i := 7) (oi := ⟨some 29, _, _, _, _, _⟩) (v := .pointer (some ⟨s, 6, none⟩)) rfl (by kernel_rfl) (by kernel_rfl) (by kernel_rfl) (fun _ _ _ h => h) (Or.inl ⟨by rfl, fun W hSW => by go_simp⟩) hHeld ?_
      simp only [Act.put, List.setIfInBounds_toArray, List.set_cons_zero, List.set_cons_succ]
      refine wpAnyH_take (i := 8) (oi := ⟨some 30, _, _, _, _, _⟩) (v := .pointer (some ⟨s, 7, none⟩)) rfl (by kernel_rfl) (by kernel_rfl) (by kernel_rfl) (fun _ _ _ h => h) (Or.inl ⟨by rfl, fun W hSW => by go_simp⟩) hHeld ?_
      simp only [Act.put, List.setIfInBounds_toArray, List.set_cons_zero, List.set_cons_succ]
      refine wpAnyH_take (i := 9) (oi := ⟨some 31, _, _, _, _, _⟩) (v := .int .u8 (a.l.2 : Int)) rfl (by kernel_rfl) (by kernel_rfl) (by kernel_rfl) (fun _ _ _ h => h) (Or.inl ⟨by rfl, fun W hSW => by have a0 := (hSW.cell (p := ⟨s, 7, none⟩) ml).trans c7; go_simp⟩) hHeld ?_
      simp only [Act.put, List.setIfInBounds_toArray, List.set_cons_zero, List.set_cons_succ]
      refine wpAnyH_take (i := 11) (oi := ⟨some 33, _, _, _, _, _⟩) (v := .pointer (some ⟨s, 8, none⟩)) rfl (by kernel_rfl) (by kernel_rfl) (by kernel_rfl) (fun _ _ _ h => h) (Or.inl ⟨by rfl, fun W hSW => by go_simp⟩) hHeld ?_
      simp only [Act.put, List.setIfInBounds_toArray, List.set_cons_zero, List.set_cons_succ]
      refine wpAnyH_take (i := 12) (oi := ⟨some 34, _, _, _, _, _⟩) (v := .int .i64 a.due) rfl (by kernel_rfl) (by kernel_rfl) (by kernel_rfl) (fun _ _ _ h => h) (Or.inl ⟨by rfl, fun W hSW => by have a0 := (hSW.cell (p := ⟨s, 8, none⟩) ml).trans c8; go_simp⟩) hHeld ?_
      simp only [Act.put, List.setIfInBounds_toArray, List.set_cons_zero, List.set_cons_succ]
      refine wpAnyH_ready (rs := [2]) (by kernel_rfl) (by simp) ?_
      refine AllReadyH.cons (o := ⟨some 24, _, _, _, _, _⟩) rfl (fun K hK => ?_) AllReadyH.nil
      go_simp
      refine (cellWords_c HA.out.c1 HA.out.c2 (HN.out.below hHeld)).mono ?_
      rintro e w2 ⟨rfl, hb2⟩
      refine hK.out _ _ (below_t hHeld hb2) (fun hHeld => ?_)
      clear hK K hb2
      refine wpAnyH_ready (rs := [6]) (by kernel_rfl) (by simp) ?_
      refine AllReadyH.cons (o := ⟨some 28, _, _, _, _, _⟩) rfl (fun K hK => ?_) AllReadyH.nil
      go_simp
      refine (digits_u8 HA.out.l1 (HN.out.below hHeld)).mono ?_
      rintro e w6 ⟨rfl, hb6⟩
      refine hK.out _ _ (below_t hHeld hb6) (fun hHeld => ?_)
      clear hK K hb6
      refine wpAnyH_ready (rs := [10]) (by kernel_rfl) (by simp) ?_
      refine AllReadyH.cons (o := ⟨some 32, _, _, _, _, _⟩) rfl (fun K hK => ?_) AllReadyH.nil
      go_simp
      refine (digits_u8 HA.out.l2 (HN.out.below hHeld)).mono ?_
      rintro e w10 ⟨rfl, hb10⟩
      refine hK.out _ _ (below_t hHeld hb10) (fun hHeld => ?_)
      clear hK K hb10
      refine wpAnyH_ready (rs := [13]) (by kernel_rfl) (by simp) ?_
      refine AllReadyH.cons (o := ⟨some 35, _, _, _, _, _⟩) rfl (fun K hK => ?_) AllReadyH.nil
      go_simp
      refine (digits_i64 HA.out.due.1 HA.out.due.2 (HN.out.below hHeld)).mono ?_
      rintro e w13 ⟨rfl, hb13⟩
      refine hK.out _ _ (below_t hHeld hb13) (fun hHeld => ?_)
      clear hK K hb13
      refine wpAnyH_ready (rs := [14]) (by kernel_rfl) (by simp) ?_
      refine AllReadyH.cons (o := ⟨some 36, _, _, _, _, _⟩) rfl (fun K hK => ?_) AllReadyH.nil
      go_simp
      refine hK.out _ _ (hHeld.alloc hHeld.size _) (fun hHeld => ?_)
      clear hK K
      refine any_named (S := fun W => Below wn.heap.size wn W ∧ Txt W w13.heap.size [cellT a.c, [115, 107, 121], num (a.l.1 : Int), [108, 97, 109, 112], num (a.l.2 : Int), [100, 117, 101], num a.due]) ⟨hHeld, Txt.blk (Blk.newA' rfl rfl) rfl⟩ ?_
      clear hHeld
      rintro v14 ⟨hHeld, ht14⟩
      have HT14 := Lib.hid ht14
      clear ht14
      refine wpAnyH_ready (rs := [15]) (by kernel_rfl) (by simp) ?_
      refine AllReadyH.cons (o := ⟨some 37, _, _, _, _, _⟩) rfl (fun K hK => ?_) AllReadyH.nil
      go_simp
      refine (sentence_c (n := 7) (c := 7) HT14.out rfl (by omega) (by omega) (len_7 HA.out)).mono ?_
      rintro e w15 ⟨rfl, hb15⟩
      refine hK.out _ _ (below_t hHeld hb15) (fun hHeld => ?_)
      clear hK K hb15
      refine wpAnyH_take (i := 16) (oi := ⟨some 4, _, _, _, _, _⟩) (v := .string ⟨(DigP.join [cellT a.c, [115, 107, 121], num (a.l.1 : Int), [108, 97, 109, 112], num (a.l.2 : Int), [100, 117, 101], num a.due]).toArray⟩) rfl (by kernel_rfl) (by kernel_rfl) (by kernel_rfl) (fun _ _ _ h => h) (Or.inl ⟨by rfl, fun W hSW => by go_simp⟩) hHeld ?_
      simp only [Act.put, List.setIfInBounds_toArray, List.set_cons_zero, List.set_cons_succ]
      refine wpAnyH_done (by kernel_rfl) ?_ _
      refine NoPanic.normal ?_
      clear c0 c1 c2 c3 c4 c5 c6 c7 c8 c9 c10 c11 c12 c13 ml
      have HF := Lib.hid (below_t HB.out hHeld)
      clear hHeld
      go_wp2_with fail
      go_ret
      exact ⟨by rw [HT.out]; rfl, HF.out⟩
    have e7 : (k == 7) = false := by simpa using h7
    by_cases h8 : k = 8
    · have HT := Lib.hid (show ansT k a = DigP.join [num a.p.1, num a.p.2.1, num a.p.2.2, cellT a.c, [115, 116, 101, 112, 115], num a.n] by simp [ansT, he, h7, h8])
      subst h8
      clear he
      go_enter Tryd.func16, Tryd.ntmps16
      go_wp2_with fail
      refine HeldP.wp_named (S := fun W => Below w.heap.size w W ∧ Blk W s 41 [.int .i64 a.e, .int .i64 a.p.1, .int .i64 a.p.2.1, .int .i64 a.p.2.2, .int .u8 (a.c.1 : Int), .int .u8 (a.c.2 : Int), .int .u8 (a.l.1 : Int), .int .u8 (a.l.2 : Int), .int .i64 a.due, .int .i64 a.n, .int .i64 a.g.1, .int .i64 a.g.2.1, .int .i64 a.g.2.2.1, .int .i64 a.g.2.2.2]) ⟨by (repeat' (first | (with_reducible exact Below.refl _ _) | (with_reducible refine Below.setCell ?_ (by (first | omega | (simp; done) | (simp; omega))) _) | (with_reducible refine Below.alloc ?_ (by (first | omega | (simp; done) | (simp; omega))) _) | (with_reducible refine Below.drew ?_) | (with_reducible refine below_drewN ?_ _))), by subst hs; (repeat' (first | (with_reducible refine BlkP.Blk.drew ?_) | (with_reducible refine BlkP.Blk.drewN ?_ _) | (with_reducible refine BlkP.Blk.setAt (us := ?_) (by first | omega | (simp; done) | (simp; omega)) rfl ?_ ?_) | (with_reducible refine BlkP.Blk.otherAt ?_ (by first | omega | (simp; done) | (simp; omega))) | (with_reducible refine BlkP.Blk.newA' (by first | omega | (simp; done) | (simp; omega)) rfl) | (with_reducible refine BlkP.Blk.alloc ?_ _) | (exact rfl)))⟩ ?_
      try rw [hs]
      rintro wn ⟨hbn, hk⟩
      try rw [← hs] at hbn
      have HN := Lib.hid (HE.out.below hbn)
      have HB := Lib.hid hbn
      have c0 := hk.cell (i := 0) rfl
      have c1 := hk.cell (i := 1) rfl
      have c2 := hk.cell (i := 2) rfl
      have c3 := hk.cell (i := 3) rfl
      have c4 := hk.cell (i := 4) rfl
      have c5 := hk.cell (i := 5) rfl
      have c6 := hk.cell (i := 6) rfl
      have c7 := hk.cell (i := 7) rfl
      have c8 := hk.cell (i := 8) rfl
      have c9 := hk.cell (i := 9) rfl
      have c10 := hk.cell (i := 10) rfl
      have c11 := hk.cell (i := 11) rfl
      have c12 := hk.cell (i := 12) rfl
      have c13 := hk.cell (i := 13) rfl
      have ml := hk.lt
      clear hk hbn hs
      refine wp_region_noPanic ?_
      refine wp_region_held_drew (S := fun W => Below wn.heap.size wn W) (by kernel_rfl) ((Below.refl _ wn).drew) (fun hHeld => ?_)
      refine wpAnyH_take (i := 0) (oi := ⟨some 40, _, _, _, _, _⟩) (v := .pointer (some ⟨s, 1, none⟩)) rfl (by kernel_rfl) (by kernel_rfl) (by kernel_rfl) (fun _ _ _ h => h) (Or.inl ⟨by rfl, fun W hSW => by go_simp⟩) hHeld ?_
      simp only [Act.put, List.setIfInBounds_toArray, List.set_cons_zero, List.set_cons_succ]
      refine wpAnyH_take (i := 1) (oi := ⟨some 41, _, _, _, _, _⟩) (v := .pointer (some ⟨s, 1, none⟩)) rfl (by kernel_rfl) (by kernel_rfl) (by kernel_rfl) (fun _ _ _ h => h) (Or.inl ⟨by rfl, fun W hSW => by go_simp⟩) hHeld ?_
      simp only [Act.put, List.setIfInBounds_toArray, List.set_cons_zero, List.set_cons_succ]
      refine wpAnyH_take (i := 2) (oi := ⟨some 42, _, _, _, _, _⟩) (v := .int .i64 a.p.1) rfl (by kernel_rfl) (by kernel_rfl) (by kernel_rfl) (fun _ _ _ h => h) (Or.inl ⟨by rfl, fun W hSW => by have a0 := (hSW.cell (p := ⟨s, 1, none⟩) ml).trans c1; go_simp⟩) hHeld ?_
      simp only [Act.put, List.setIfInBounds_toArray, List.set_cons_zero, List.set_cons_succ]
      refine wpAnyH_take (i := 4) (oi := ⟨some 44, _, _, _, _, _⟩) (v := .pointer (some ⟨s, 1, none⟩)) rfl (by kernel_rfl) (by kernel_rfl) (by kernel_rfl) (fun _ _ _ h => h) (Or.inl ⟨by rfl, fun W hSW => by go_simp⟩) hHeld ?_
      simp only [Act.put, List.setIfInBounds_toArray, List.set_cons_zero, List.set_cons_succ]
      refine wpAnyH_take (i := 5) (oi := ⟨some 45, _, _, _, _, _⟩) (v := .pointer (some ⟨s, 2, none⟩)) rfl (by kernel_rfl) (by kernel_rfl) (by kernel_rfl) (fun _ _ _ h => h) (Or.inl ⟨by rfl, fun W hSW => by go_simp⟩) hHeld ?_
      simp only [Act.put, List.setIfInBounds_toArray, List.set_cons_zero, List.set_cons_succ]
      refine wpAnyH_take (i := 6) (oi := ⟨some 46, _, _, _, _, _⟩) (v := .int .i64 a.p.2.1) rfl (by kernel_rfl) (by kernel_rfl) (by kernel_rfl) (fun _ _ _ h => h) (Or.inl ⟨by rfl, fun W hSW => by have a0 := (hSW.cell (p := ⟨s, 2, none⟩) ml).trans c2; go_simp⟩) hHeld ?_
      simp only [Act.put, List.setIfInBounds_toArray, List.set_cons_zero, List.set_cons_succ]
      refine wpAnyH_take (i := 8) (oi := ⟨some 48, _, _, _, _, _⟩) (v := .pointer (some ⟨s, 1, none⟩)) rfl (by kernel_rfl) (by kernel_rfl) (by kernel_rfl) (fun _ _ _ h => h) (Or.inl ⟨by rfl, fun W hSW => by go_simp⟩) hHeld ?_
      simp only [Act.put, List.setIfInBounds_toArray, List.set_cons_zero, List.set_cons_succ]
      refine wpAnyH_take (i := 9) (oi := ⟨some 49, _, _, _, _, _⟩) (v := .pointer (some ⟨s, 3, none⟩)) rfl (by kernel_rfl) (by kernel_rfl) (by kernel_rfl) (fun _ _ _ h => h) (Or.inl ⟨by rfl, fun W hSW => by go_simp⟩) hHeld ?_
      simp only [Act.put, List.setIfInBounds_toArray, List.set_cons_zero, List.set_cons_succ]
      refine wpAnyH_take (i := 10) (oi := ⟨some 50, _, _, _, _, _⟩) (v := .int .i64 a.p.2.2) rfl (by kernel_rfl) (by kernel_rfl) (by kernel_rfl) (fun _ _ _ h => h) (Or.inl ⟨by rfl, fun W hSW => by have a0 := (hSW.cell (p := ⟨s, 3, none⟩) ml).trans c3; go_simp⟩) hHeld ?_
      simp only [Act.put, List.setIfInBounds_toArray, List.set_cons_zero, List.set_cons_succ]
      refine wpAnyH_take (i := 12) (oi := ⟨some 52, _, _, _, _, _⟩) (v := .pointer (some ⟨s, 4, none⟩)) rfl (by kernel_rfl) (by kernel_rfl) (by kernel_rfl) (fun _ _ _ h => h) (Or.inl ⟨by rfl, fun W hSW => by go_simp⟩) hHeld ?_
      simp only [Act.put, List.setIfInBounds_toArray, List.set_cons_zero, List.set_cons_succ]
      refine wpAnyH_take (i := 13) (oi := ⟨some 53, _, _, _, _, _⟩) (v := .agg #[.int .u8 (a.c.1 : Int), .int .u8 (a.c.2 : Int)]) rfl (by kernel_rfl) (by kernel_rfl) (by kernel_rfl) (fun _ _ _ h => h) (Or.inl ⟨by rfl, fun W hSW => by have a0 := (hSW.cell (p := ⟨s, 4, none⟩) ml).trans c4; have a1 := (hSW.cell (p := ⟨s, 5, none⟩) ml).trans c5; go_simp⟩) hHeld ?_
      simp only [Act.put, List.setIfInBounds_toArray, List.set_cons_zero, List.set_cons_succ]
      refine wpAnyH_take (i := 15) (oi := ⟨some 55, _, _, _, _, _⟩) (v := .pointer (some ⟨s, 9, none⟩)) rfl (by kernel_rfl) (by kernel_rfl) (by kernel_rfl) (fun _ _ _ h => h) (Or.inl ⟨by rfl, fun W hSW => by go_simp⟩) hHeld ?_
      simp only [Act.put, List.setIfInBounds_toArray, List.set_cons_zero, List.set_cons_succ]
      refine wpAnyH_take (i := 16) (oi := ⟨some 56, _, _, _, _, _⟩) (v := .int .i64 a.n) rfl (by kernel_rfl) (by kernel_rfl) (by kernel_rfl) (fun _ _ _ h => h) (Or.inl ⟨by rfl, fun W hSW => by have a0 := (hSW.cell (p := ⟨s, 9, none⟩) ml).trans c9; go_simp⟩) hHeld ?_
      simp only [Act.put, List.setIfInBounds_toArray, List.set_cons_zero, List.set_cons_succ]
      refine wpAnyH_ready (rs := [3]) (by kernel_rfl) (by simp) ?_
      refine AllReadyH.cons (o := ⟨some 43, _, _, _, _, _⟩) rfl (fun K hK => ?_) AllReadyH.nil
      go_simp
      refine (digits_int HA.out.p0.1 HA.out.p0.2 (HN.out.below hHeld)).mono ?_
      rintro e w3 ⟨rfl, hb3⟩
      refine hK.out _ _ (below_t hHeld hb3) (fun hHeld => ?_)
      clear hK K hb3
      refine wpAnyH_ready (rs := [7]) (by kernel_rfl) (by simp) ?_
      refine AllReadyH.cons (o := ⟨some 47, _, _, _, _, _⟩) rfl (fun K hK => ?_) AllReadyH.nil
      go_simp
      refine (digits_int HA.out.p1.1 HA.out.p1.2 (HN.out.below hHeld)).mono ?_
      rintro e w7 ⟨rfl, hb7⟩
      refine hK.out _ _ (below_t hHeld hb7) (fun hHeld => ?_)
      clear hK K hb7
      refine wpAnyH_ready (rs := [11]) (by kernel_rfl) (by simp) ?_
      refine AllReadyH.cons (o := ⟨some 51, _, _, _, _, _⟩) rfl (fun K hK => ?_) AllReadyH.nil
      go_simp
      refine (digits_int HA.out.p2.1 HA.out.p2.2 (HN.out.below hHeld)).mono ?_
      rintro e w11 ⟨rfl, hb11⟩
      refine hK.out _ _ (below_t hHeld hb11) (fun hHeld => ?_)
      clear hK K hb11
      refine wpAnyH_ready (rs := [14]) (by kernel_rfl) (by simp) ?_
      refine AllReadyH.cons (o := ⟨some 54, _, _, _, _, _⟩) rfl (fun K hK => ?_) AllReadyH.nil
      go_simp
      refine (cellWords_c HA.out.c1 HA.out.c2 (HN.out.below hHeld)).mono ?_
      rintro e w14 ⟨rfl, hb14⟩
      refine hK.out _ _ (below_t hHeld hb14) (fun hHeld => ?_)
      clear hK K hb14
      refine wpAnyH_ready (rs := [17]) (by kernel_rfl) (by simp) ?_
      refine AllReadyH.cons (o := ⟨some 57, _, _, _, _, _⟩) rfl (fun K hK => ?_) AllReadyH.nil
      go_simp
      refine (digits_int HA.out.n.1 HA.out.n.2 (HN.out.below hHeld)).mono ?_
      rintro e w17 ⟨rfl, hb17⟩
      refine hK.out _ _ (below_t hHeld hb17) (fun hHeld => ?_)
      clear hK K hb17
      refine wpAnyH_ready (rs := [18]) (by kernel_rfl) (by simp) ?_
      refine AllReadyH.cons (o := ⟨some 58, _, _, _, _, _⟩) rfl (fun K hK => ?_) AllReadyH.nil
      go_simp
      refine hK.out _ _ (hHeld.alloc hHeld.size _) (fun hHeld => ?_)
      clear hK K
      refine any_named (S := fun W => Below wn.heap.size wn W ∧ Txt W w17.heap.size [num a.p.1, num a.p.2.1, num a.p.2.2, cellT a.c, [115, 116, 101, 112, 115], num a.n]) ⟨hHeld, Txt.blk (Blk.newA' rfl rfl) rfl⟩ ?_
      clear hHeld
      rintro v18 ⟨hHeld, ht18⟩
      have HT18 := Lib.hid ht18
      clear ht18
      refine wpAnyH_ready (rs := [19]) (by kernel_rfl) (by simp) ?_
      refine AllReadyH.cons (o := ⟨some 59, _, _, _, _, _⟩) rfl (fun K hK => ?_) AllReadyH.nil
      go_simp
      refine (sentence_c (n := 6) (c := 6) HT18.out rfl (by omega) (by omega) (len_8 HA.out)).mono ?_
      rintro e w19 ⟨rfl, hb19⟩
      refine hK.out _ _ (below_t hHeld hb19) (fun hHeld => ?_)
      clear hK K hb19
      refine wpAnyH_take (i := 20) (oi := ⟨some 4, _, _, _, _, _⟩) (v := .string ⟨(DigP.join [num a.p.1, num a.p.2.1, num a.p.2.2, cellT a.c, [115, 116, 101, 112, 115], num a.n]).toArray⟩) rfl (by kernel_rfl) (by kernel_rfl) (by kernel_rfl) (fun _ _ _ h => h) (Or.inl ⟨by rfl, fun W hSW => by go_simp⟩) hHeld ?_
      simp only [Act.put, List.setIfInBounds_toArray, List.set_cons_zero, List.set_cons_succ]
      refine wpAnyH_done (by kernel_rfl) ?_ _
      refine NoPanic.normal ?_
      clear c0 c1 c2 c3 c4 c5 c6 c7 c8 c9 c10 c11 c12 c13 ml
      have HF := Lib.hid (below_t HB.out hHeld)
      clear hHeld
      go_wp2_with fail
      go_ret
      exact ⟨by rw [HT.out]; rfl, HF.out⟩
    have e8 : (k == 8) = false := by simpa using h8
    by_cases h10 : k = 10
    · have HT := Lib.hid (show ansT k a = DigP.join [[110, 111, 119], num a.n, [112, 108, 97, 99, 101, 100], num a.g.1, [98, 114, 111, 107, 101, 110], num a.g.2.1, [103, 114, 111, 119, 110], num a.g.2.2.1, [98, 117, 114, 110, 116], num a.g.2.2.2] by simp [ansT, he, h7, h8, h10])
      subst h10
      clear he
      go_enter Tryd.func16, Tryd.ntmps16
      go_wp2_with fail
      refine HeldP.wp_named (S := fun W => Below w.heap.size w W ∧ Blk W s 41 [.int .i64 a.e, .int .i64 a.p.1, .int .i64 a.p.2.1, .int .i64 a.p.2.2, .int .u8 (a.c.1 : Int), .int .u8 (a.c.2 : Int), .int .u8 (a.l.1 : Int), .int .u8 (a.l.2 : Int), .int .i64 a.due, .int .i64 a.n, .int .i64 a.g.1, .int .i64 a.g.2.1, .int .i64 a.g.2.2.1, .int .i64 a.g.2.2.2] ∧ Blk W (s + 1) 39 [.int .i64 a.g.1, .int .i64 a.g.2.1, .int .i64 a.g.2.2.1, .int .i64 a.g.2.2.2]) ⟨by (repeat' (first | (with_reducible exact Below.refl _ _) | (with_reducible refine Below.setCell ?_ (by (first | omega | (simp; done) | (simp; omega))) _) | (with_reducible refine Below.alloc ?_ (by (first | omega | (simp; done) | (simp; omega))) _) | (with_reducible refine Below.drew ?_) | (with_reducible refine below_drewN ?_ _))), by subst hs; (repeat' (first | (with_reducible refine BlkP.Blk.drew ?_) | (with_reducible refine BlkP.Blk.drewN ?_ _) | (with_reducible refine BlkP.Blk.setAt (us := ?_) (by first | omega | (simp; done) | (simp; omega)) rfl ?_ ?_) | (with_reducible refine BlkP.Blk.otherAt ?_ (by first | omega | (simp; done) | (simp; omega))) | (with_reducible refine BlkP.Blk.newA' (by first | omega | (simp; done) | (simp; omega)) rfl) | (with_reducible refine BlkP.Blk.alloc ?_ _) | (exact rfl))), by subst hs; (repeat' (first | (with_reducible refine BlkP.Blk.drew ?_) | (with_reducible refine BlkP.Blk.drewN ?_ _) | (with_reducible refine BlkP.Blk.setAt (us := ?_) (by first | omega | (simp; done) | (simp; omega)) rfl ?_ ?_) | (with_reducible refine BlkP.Blk.otherAt ?_ (by first | omega | (simp; done) | (simp; omega))) | (with_reducible refine BlkP.Blk.newA' (by first | omega | (simp; done) | (simp; omega)) rfl) | (with_reducible refine BlkP.Blk.alloc ?_ _) | (exact rfl)))⟩ ?_
      try rw [hs]
      rintro wn ⟨hbn, hk, hl⟩
      try rw [← hs] at hbn
      have HN := Lib.hid (HE.out.below hbn)
      have HB := Lib.hid hbn
      have c0 := hk.cell (i := 0) rfl
      have c1 := hk.cell (i := 1) rfl
      have c2 := hk.cell (i := 2) rfl
      have c3 := hk.cell (i := 3) rfl
      have c4 := hk.cell (i := 4) rfl
      have c5 := hk.cell (i := 5) rfl
      have c6 := hk.cell (i := 6) rfl
      have c7 := hk.cell (i := 7) rfl
      have c8 := hk.cell (i := 8) rfl
      have c9 := hk.cell (i := 9) rfl
      have c10 := hk.cell (i := 10) rfl
      have c11 := hk.cell (i := 11) rfl
      have c12 := hk.cell (i := 12) rfl
      have c13 := hk.cell (i := 13) rfl
      have ml := hk.lt
      have d0 := hl.cell (i := 0) rfl
      have d1 := hl.cell (i := 1) rfl
      have d2 := hl.cell (i := 2) rfl
      have d3 := hl.cell (i := 3) rfl
      have lm := hl.lt
      clear hk hbn hs hl
      refine wp_region_noPanic ?_
      refine wp_region_held_drew (S := fun W => Below wn.heap.size wn W) (by kernel_rfl) ((Below.refl _ wn).drew) (fun hHeld => ?_)
      refine wpAnyH_take (i := 0) (oi := ⟨some 64, _, _, _, _, _⟩) (v := .pointer (some ⟨s, 9, none⟩)) rfl (by kernel_rfl) (by kernel_rfl) (by kernel_rfl) (fun _ _ _ h => h) (Or.inl ⟨by rfl, fun W hSW => by go_simp⟩) hHeld ?_
      simp only [Act.put, List.setIfInBounds_toArray, List.set_cons_zero, List.set_cons_succ]
      refine wpAnyH_take (i := 1) (oi := ⟨some 65, _, _, _, _, _⟩) (v := .int .i64 a.n) rfl (by kernel_rfl) (by kernel_rfl) (by kernel_rfl) (fun _ _ _ h => h) (Or.inl ⟨by rfl, fun W hSW => by have a0 := (hSW.cell (p := ⟨s, 9, none⟩) ml).trans c9; go_simp⟩) hHeld ?_
      simp only [Act.put, List.setIfInBounds_toArray, List.set_cons_zero, List.set_cons_succ]
      refine wpAnyH_take (i := 3) (oi := ⟨some 67, _, _, _, _, _⟩) (v := .pointer (some ⟨s + 1, 0, none⟩)) rfl (by kernel_rfl) (by kernel_rfl) (by kernel_rfl) (fun _ _ _ h => h) (Or.inl ⟨by rfl, fun W hSW => by go_simp⟩) hHeld ?_
      simp only [Act.put, List.setIfInBounds_toArray, List.set_cons_zero, List.set_cons_succ]
      refine wpAnyH_take (i := 4) (oi := ⟨some 68, _, _, _, _, _⟩) (v := .int .i64 a.g.1) rfl (by kernel_rfl) (by kernel_rfl) (by kernel_rfl) (fun _ _ _ h => h) (Or.inl ⟨by rfl, fun W hSW => by have a0 := (hSW.cell (p := ⟨s + 1, 0, none⟩) lm).trans d0; go_simp⟩) hHeld ?_
      simp only [Act.put, List.setIfInBounds_toArray, List.set_cons_zero, List.set_cons_succ]
      refine wpAnyH_take (i := 6) (oi := ⟨some 70, _, _, _, _, _⟩) (v := .pointer (some ⟨s + 1, 1, none⟩)) rfl (by kernel_rfl) (by kernel_rfl) (by kernel_rfl) (fun _ _ _ h => h) (Or.inl ⟨by rfl, fun W hSW => by go_simp⟩) hHeld ?_
      simp only [Act.put, List.setIfInBounds_toArray, List.set_cons_zero, List.set_cons_succ]
      refine wpAnyH_take (i := 7) (oi := ⟨some 71, _, _, _, _, _⟩) (v := .int .i64 a.g.2.1) rfl (by kernel_rfl) (by kernel_rfl) (by kernel_rfl) (fun _ _ _ h => h) (Or.inl ⟨by rfl, fun W hSW => by have a0 := (hSW.cell (p := ⟨s + 1, 1, none⟩) lm).trans d1; go_simp⟩) hHeld ?_
      simp only [Act.put, List.setIfInBounds_toArray, List.set_cons_zero, List.set_cons_succ]
      refine wpAnyH_take (i := 9) (oi := ⟨some 73, _, _, _, _, _⟩) (v := .pointer (some ⟨s + 1, 2, none⟩)) rfl (by kernel_rfl) (by kernel_rfl) (by kernel_rfl) (fun _ _ _ h => h) (Or.inl ⟨by rfl, fun W hSW => by go_simp⟩) hHeld ?_
      simp only [Act.put, List.setIfInBounds_toArray, List.set_cons_zero, List.set_cons_succ]
      refine wpAnyH_take (i := 10) (oi := ⟨some 74, _, _, _, _, _⟩) (v := .int .i64 a.g.2.2.1) rfl (by kernel_rfl) (by kernel_rfl) (by kernel_rfl) (fun _ _ _ h => h) (Or.inl ⟨by rfl, fun W hSW => by have a0 := (hSW.cell (p := ⟨s + 1, 2, none⟩) lm).trans d2; go_simp⟩) hHeld ?_
      simp only [Act.put, List.setIfInBounds_toArray, List.set_cons_zero, List.set_cons_succ]
      refine wpAnyH_take (i := 12) (oi := ⟨some 76, _, _, _, _, _⟩) (v := .pointer (some ⟨s + 1, 3, none⟩)) rfl (by kernel_rfl) (by kernel_rfl) (by kernel_rfl) (fun _ _ _ h => h) (Or.inl ⟨by rfl, fun W hSW => by go_simp⟩) hHeld ?_
      simp only [Act.put, List.setIfInBounds_toArray, List.set_cons_zero, List.set_cons_succ]
      refine wpAnyH_take (i := 13) (oi := ⟨some 77, _, _, _, _, _⟩) (v := .int .i64 a.g.2.2.2) rfl (by kernel_rfl) (by kernel_rfl) (by kernel_rfl) (fun _ _ _ h => h) (Or.inl ⟨by rfl, fun W hSW => by have a0 := (hSW.cell (p := ⟨s + 1, 3, none⟩) lm).trans d3; go_simp⟩) hHeld ?_
      simp only [Act.put, List.setIfInBounds_toArray, List.set_cons_zero, List.set_cons_succ]
      refine wpAnyH_ready (rs := [2]) (by kernel_rfl) (by simp) ?_
      refine AllReadyH.cons (o := ⟨some 66, _, _, _, _, _⟩) rfl (fun K hK => ?_) AllReadyH.nil
      go_simp
      refine (digits_int HA.out.n.1 HA.out.n.2 (HN.out.below hHeld)).mono ?_
      rintro e w2 ⟨rfl, hb2⟩
      refine hK.out _ _ (below_t hHeld hb2) (fun hHeld => ?_)
      clear hK K hb2
      refine wpAnyH_ready (rs := [5]) (by kernel_rfl) (by simp) ?_
      refine AllReadyH.cons (o := ⟨some 69, _, _, _, _, _⟩) rfl (fun K hK => ?_) AllReadyH.nil
      go_simp
      refine (digits_i64 HA.out.g0.1 HA.out.g0.2 (HN.out.below hHeld)).mono ?_
      rintro e w5 ⟨rfl, hb5⟩
      refine hK.out _ _ (below_t hHeld hb5) (fun hHeld => ?_)
      clear hK K hb5
      refine wpAnyH_ready (rs := [8]) (by kernel_rfl) (by simp) ?_
      refine AllReadyH.cons (o := ⟨some 72, _, _, _, _, _⟩) rfl (fun K hK => ?_) AllReadyH.nil
      go_simp
      refine (digits_i64 HA.out.g1.1 HA.out.g1.2 (HN.out.below hHeld)).mono ?_
      rintro e w8 ⟨rfl, hb8⟩
      refine hK.out _ _ (below_t hHeld hb8) (fun hHeld => ?_)
      clear hK K hb8
      refine wpAnyH_ready (rs := [11]) (by kernel_rfl) (by simp) ?_
      refine AllReadyH.cons (o := ⟨some 75, _, _, _, _, _⟩) rfl (fun K hK => ?_) AllReadyH.nil
      go_simp
      refine (digits_i64 HA.out.g2.1 HA.out.g2.2 (HN.out.below hHeld)).mono ?_
      rintro e w11 ⟨rfl, hb11⟩
      refine hK.out _ _ (below_t hHeld hb11) (fun hHeld => ?_)
      clear hK K hb11
      refine wpAnyH_ready (rs := [14]) (by kernel_rfl) (by simp) ?_
      refine AllReadyH.cons (o := ⟨some 78, _, _, _, _, _⟩) rfl (fun K hK => ?_) AllReadyH.nil
      go_simp
      refine (digits_i64 HA.out.g3.1 HA.out.g3.2 (HN.out.below hHeld)).mono ?_
      rintro e w14 ⟨rfl, hb14⟩
      refine hK.out _ _ (below_t hHeld hb14) (fun hHeld => ?_)
      clear hK K hb14
      refine wpAnyH_ready (rs := [15]) (by kernel_rfl) (by simp) ?_
      refine AllReadyH.cons (o := ⟨some 79, _, _, _, _, _⟩) rfl (fun K hK => ?_) AllReadyH.nil
      go_simp
      refine hK.out _ _ (hHeld.alloc hHeld.size _) (fun hHeld => ?_)
      clear hK K
      refine any_named (S := fun W => Below wn.heap.size wn W ∧ Txt W w14.heap.size [[110, 111, 119], num a.n, [112, 108, 97, 99, 101, 100], num a.g.1, [98, 114, 111, 107, 101, 110], num a.g.2.1, [103, 114, 111, 119, 110], num a.g.2.2.1, [98, 117, 114, 110, 116], num a.g.2.2.2]) ⟨hHeld, Txt.blk (Blk.newA' rfl rfl) rfl⟩ ?_
      clear hHeld
      rintro v15 ⟨hHeld, ht15⟩
      have HT15 := Lib.hid ht15
      clear ht15
      refine wpAnyH_ready (rs := [16]) (by kernel_rfl) (by simp) ?_
      refine AllReadyH.cons (o := ⟨some 80, _, _, _, _, _⟩) rfl (fun K hK => ?_) AllReadyH.nil
      go_simp
      refine (sentence_c (n := 10) (c := 10) HT15.out rfl (by omega) (by omega) (len_10 HA.out)).mono ?_
      rintro e w16 ⟨rfl, hb16⟩
      refine hK.out _ _ (below_t hHeld hb16) (fun hHeld => ?_)
      clear hK K hb16
      refine wpAnyH_take (i := 17) (oi := ⟨some 4, _, _, _, _, _⟩) (v := .string ⟨(DigP.join [[110, 111, 119], num a.n, [112, 108, 97, 99, 101, 100], num a.g.1, [98, 114, 111, 107, 101, 110], num a.g.2.1, [103, 114, 111, 119, 110], num a.g.2.2.1, [98, 117, 114, 110, 116], num a.g.2.2.2]).toArray⟩) rfl (by kernel_rfl) (by kernel_rfl) (by kernel_rfl) (fun _ _ _ h => h) (Or.inl ⟨by rfl, fun W hSW => by go_simp⟩) hHeld ?_
      simp only [Act.put, List.setIfInBounds_toArray, List.set_cons_zero, List.set_cons_succ]
      refine wpAnyH_done (by kernel_rfl) ?_ _
      refine NoPanic.normal ?_
      clear c0 c1 c2 c3 c4 c5 c6 c7 c8 c9 c10 c11 c12 c13 ml
      have HF := Lib.hid (below_t HB.out hHeld)
      clear hHeld
      go_wp2_with fail
      go_ret
      exact ⟨by rw [HT.out]; rfl, HF.out⟩
    have e10 : (k == 10) = false := by simpa using h10
    have HT := Lib.hid (show ansT k a = [111, 107] by simp [ansT, he, h7, h8, h10])
    clear he h7 h8 h10
    go_enter Tryd.func16, Tryd.ntmps16
    go_wp2_with fail
    refine calls_named (S := fun W => Below w.heap.size w W) (by (repeat' (first | (with_reducible exact Below.refl _ _) | (with_reducible refine Below.setCell ?_ (by (first | omega | (simp; done) | (simp; omega))) _) | (with_reducible refine Below.alloc ?_ (by (first | omega | (simp; done) | (simp; omega))) _) | (with_reducible refine Below.drew ?_) | (with_reducible refine below_drewN ?_ _)))) ?_
    intro wn hbn
    have HB := Lib.hid hbn
    clear hbn
    refine (Error_c (x := [111, 107]) (by decide)).mono ?_
    rintro e w1 ⟨rfl, hb1⟩
    go_wp2_with fail
    go_ret
    exact ⟨by rw [HT.out]; rfl, below_t HB.out hb1⟩
end LineW
end Go.Proofs.YtcfkdddflbdfaaaDoor
