/-
  Words of the small line that each law ends with: parted, taken, told; the rows of words.
-/
import Derived.BigQuiet
import Derived.BigRegion
import Derived.Lib.Hide
import Derived.Deep.RegionHeld3
import Derived.Deep.MidRow
import Derived.Lib.SplitLaws
import Derived.Lib.IndexBytes
import Derived.Maps.AppendAt
import Derived.Test.YtcfkdddflbdfaaaDoorLineRef
import Derived.Test.YtcfkdddflbdfaaaDoorFrS
namespace Go.Proofs.YtcfkdddflbdfaaaDoor
open Go.RowKit
set_option linter.unusedVariables false
set_option linter.unusedSimpArgs false
namespace LineW
open DigP LineP BlkP RowG FrS
open BaseP (bcell below_drewN)
set_option maxRecDepth 100000 in
set_option maxHeartbeats 8000000 in
theorem split_c (s : List UInt8) (hs : s.length < 4000000) (w : World) :
    Calls Tryd.prog 48 #[.string ⟨s.toArray⟩, .string ⟨#[32]⟩] w fun e w' => e = .returned (.slice (some ⟨w.heap.size, 0, none⟩) (Lib.countB (⟨s.toArray⟩ : ByteArray) ⟨#[32]⟩ + 1) (Lib.countB (⟨s.toArray⟩ : ByteArray) ⟨#[32]⟩ + 1)) ∧ w' = w.alloc (.cells ((Lib.splitB ⟨#[32]⟩ 0 (Lib.countB (⟨s.toArray⟩ : ByteArray) ⟨#[32]⟩) (⟨s.toArray⟩ : ByteArray)).map Value.string).toArray 9) := by
  have hsz : (⟨s.toArray⟩ : ByteArray).size < 4294967281 := by
    rw [size_mk]
    omega
  have hle := Lib.countB_le ⟨#[32]⟩ (by decide) (⟨s.toArray⟩ : ByteArray).size (⟨s.toArray⟩ : ByteArray) (Nat.le_refl _)
  have hlen := Lib.splitB_all ⟨#[32]⟩ (by decide) 0 _ (⟨s.toArray⟩ : ByteArray) rfl
  have c := Any.strings_genSplit_core (P := Tryd.prog) (ρ := laysM146_ren) { laysM146 with } laysM146.i9 (⟨s.toArray⟩ : ByteArray) ⟨#[32]⟩ 0 (-1) (Lib.countB (⟨s.toArray⟩ : ByteArray) ⟨#[32]⟩ + 1) w hsz (by decide) (Nat.zero_le _)
    (fun x c hx => (Any.strings_Index_one { laysM146 with } x 32 _).mono fun e w' ⟨he, hw⟩ => ⟨by
      rw [he]
      show _ = Ending.returned (Value.int .i64 (Lib.index x.data.toList [32]))
      rw [Lib.index_one], hw⟩)
    ((Any.strings_Count_one { laysM146 with } (⟨s.toArray⟩ : ByteArray) 32 w).mono fun e w' ⟨he, hw⟩ => ⟨by
      rw [he]
      show _ = Ending.returned (Value.int .i64 ((Lib.count (⟨s.toArray⟩ : ByteArray).data.toList [32] : Nat) : Int))
      rw [Lib.count_one]
      rfl, hw⟩)
    (by decide) (by decide) (by rw [if_pos (by decide)]; omega)
  rw [Nat.add_sub_cancel, hlen] at c
  have e2 : Lib.cellsOf (Lib.splitB ⟨#[32]⟩ 0 (Lib.countB (⟨s.toArray⟩ : ByteArray) ⟨#[32]⟩) (⟨s.toArray⟩ : ByteArray)) (Lib.countB (⟨s.toArray⟩ : ByteArray) ⟨#[32]⟩ + 1) = ((Lib.splitB ⟨#[32]⟩ 0 (Lib.countB (⟨s.toArray⟩ : ByteArray) ⟨#[32]⟩) (⟨s.toArray⟩ : ByteArray)).map Value.string).toArray := by
    have := Lib.cellsOf_full (Lib.splitB ⟨#[32]⟩ 0 (Lib.countB (⟨s.toArray⟩ : ByteArray) ⟨#[32]⟩) (⟨s.toArray⟩ : ByteArray))
    rw [hlen] at this
    exact this
  rw [e2] at c
  have c2 : Calls Tryd.prog 57 #[.string ⟨s.toArray⟩, .string ⟨#[32]⟩, .int .i64 0, .int .i64 (-1)] w _ := c
  have C2 := Lib.hid c2
  clear c c2 e2 hlen hle hsz
  go_enter Tryd.func48, Tryd.ntmps48
  go_wp2_with fail
  refine C2.out.mono ?_
  rintro e w' ⟨rfl, hw⟩
  rw [hw]
  go_wp2_with fail
  go_ret
  exact ⟨rfl, rfl⟩
/-- The small line, and its words. -/
def smallL : List UInt8 := [112, 117, 115, 104, 32, 48, 32, 45, 49, 32, 50, 32, 117, 112]
def smallW : List (List UInt8) := [[112, 117, 115, 104], num 0, num (-1), num 2, [117, 112]]
theorem num0 : num 0 = [48] := by simp [num, dig_small, ch]
theorem num1 : num (-1) = [45, 49] := by simp [num, dig_small, ch]
theorem num2 : num 2 = [50] := by simp [num, dig_small, ch]
theorem small_join : DigP.join smallW = smallL := by simp [smallW, num0, num1, num2, DigP.join, smallL]
theorem split_small (w : World) : Calls Tryd.prog 48 #[.string ⟨smallL.toArray⟩, .string ⟨#[32]⟩] w fun e w' => e = .returned (.slice (some ⟨w.heap.size, 0, none⟩) 5 5) ∧ Txt w' w.heap.size smallW ∧ Below w.heap.size w w' :=
  (split_c smallL (by decide) w).mono fun e w' ⟨he, hw⟩ => by
    have h1 : Lib.countB ⟨smallL.toArray⟩ ⟨#[32]⟩ = 4 := by kernel_rfl
    rw [h1] at he hw
    have h2 : (Lib.splitB ⟨#[32]⟩ 0 4 ⟨smallL.toArray⟩).map Value.string = [.string ⟨([112, 117, 115, 104]).toArray⟩, .string ⟨([48]).toArray⟩, .string ⟨([45, 49]).toArray⟩, .string ⟨([50]).toArray⟩, .string ⟨([117, 112]).toArray⟩] := by kernel_rfl
    rw [h2] at hw
    subst hw
    refine ⟨he, Txt.blk (Blk.newA' rfl rfl) ?_, (Below.refl _ _).alloc (Nat.le_refl _) _⟩
    simp only [smallW, num0, num1, num2]
    rfl
set_option maxRecDepth 100000 in
set_option maxHeartbeats 8000000 in
theorem index_c {w : World} {b n c : Nat} {ws : List (List UInt8)} {x : List UInt8} {r : Int} (h : Txt w b ws) (hn : ws.length = n) (hl : n ≤ 1000) (hr : Lib.idxOfS (ws.map fun l => (⟨l.toArray⟩ : ByteArray)) ⟨x.toArray⟩ = r) :
    Calls Tryd.prog 49 #[.slice (some ⟨b, 0, none⟩) n c, .string ⟨x.toArray⟩] w fun e w' => e = .returned (.int .i64 r) ∧ Below w.heap.size w w' := by
  subst hn
  have := slices_Index_string b 0 ws.length c (ws.map fun l => (⟨l.toArray⟩ : ByteArray)) ⟨x.toArray⟩ w (by rw [List.length_map]; exact Nat.le_refl _) (by omega) (fun j hj => by
    rw [List.length_map] at hj
    rw [Nat.zero_add, h.2 j ws[j] (List.getElem?_eq_getElem hj), List.getD_eq_getElem?_getD, List.getElem?_map, List.getElem?_eq_getElem hj]
    rfl)
  rw [List.take_of_length_le (by rw [List.length_map]; exact Nat.le_refl _), hr] at this
  exact this.mono fun e w' ⟨he, hw⟩ => ⟨he, hw ▸ Below.refl _ _⟩
set_option maxRecDepth 100000 in
set_option maxHeartbeats 8000000 in
theorem whole_c {n : Int} (h0 : -9223372036854775808 ≤ n) (h1 : n < 9223372036854775808) {w : World} (hE : Env w) :
    Calls Tryd.prog 108 #[.string ⟨(num n).toArray⟩] w fun e w' => e = .returned (.int .i64 n) ∧ Below w.heap.size w w' := by
  have HE := Lib.hid hE
  have hself : (num n == num n) = true := by simp
  go_enter Tryd.func108, Tryd.ntmps108
  go_wp2_with fail
  refine (atoi_c h0 h1 _).mono ?_
  rintro e w1 ⟨rfl, hb1⟩
  have HB1 := Lib.hid hb1
  clear hb1
  go_wp2_with fail
  refine (digits_int h0 h1 (HE.out.below HB1.out)).mono ?_
  rintro e w2 ⟨rfl, hb2⟩
  have HB2 := Lib.hid (below_t HB1.out hb2)
  clear hb2
  go_wp2_with fail
  refine must_yes.mono ?_
  rintro e w3 ⟨rfl, rfl⟩
  go_wp2_with fail
  go_ret
  exact ⟨rfl, HB2.out⟩
set_option maxRecDepth 100000 in
set_option maxHeartbeats 8000000 in
theorem numtake_c {n : Int} (h0 : -9223372036854775808 ≤ n) (h1 : n < 9223372036854775808) {w : World} (hE : Env w) {b o : Nat} {T : TypeId} {vs : List Value} {u : Int} (hk : Blk w b T vs) (ho : vs[o]? = some (.int .i64 u)) :
    Calls Tryd.prog 106 #[.pointer (some ⟨b, o, none⟩), .string ⟨(num n).toArray⟩] w fun e w' => e = .returned (.tuple #[]) ∧ Blk w' b T (vs.set o (.int .i64 n)) ∧ Fr (fun k => k = b) w w' := by
  go_enter Tryd.func106, Tryd.ntmps106
  go_wp2_with fail
  refine (whole_c h0 h1 hE).mono ?_
  rintro e w1 ⟨rfl, hb1⟩
  have hk1 := hk.below hb1
  have c0 := hk1.cell ho
  have f0 := hk1.frozen o
  have HK1 := Lib.hid hk1
  have HB1 := Lib.hid hb1
  clear hk1 hb1 hk
  go_wp2_with fail
  go_end0
  exact ⟨rfl, HK1.out.set o _, (Fr.below (fun k => k = b) HB1.out).trans (Fr.set (fun k => k = b) _ _ _ rfl) (fun i hi => .inl hi)⟩
set_option maxRecDepth 100000 in
set_option maxHeartbeats 8000000 in
theorem dirtake_c {n : Int} {x : List UInt8} {w : World} {b o : Nat} {T : TypeId} {vs : List Value} {u : Int} (hk : Blk w b T vs) (ho : vs[o]? = some (.int .i64 u)) (hx : Lib.idxOfS (dirsL.map fun l => (⟨l.toArray⟩ : ByteArray)) ⟨x.toArray⟩ = n) (hn : 0 ≤ n) :
    Calls Tryd.prog 103 #[.pointer (some ⟨b, o, none⟩), .string ⟨x.toArray⟩] w fun e w' => e = .returned (.tuple #[]) ∧ Blk w' b T (vs.set o (.int .i64 n)) ∧ Fr (fun k => k = b) w w' := by
  have HX := Lib.hid hx
  clear hx
  go_enter Tryd.func103, Tryd.ntmps103
  go_wp2_with fail
  refine dirs_c.mono ?_
  rintro e w1 ⟨⟨d, rfl, hge, ht⟩, hb1⟩
  have HB1 := Lib.hid hb1
  clear hb1
  go_wp2_with fail
  refine (index_c ht rfl (by decide) HX.out).mono ?_
  rintro e w2 ⟨rfl, hb2⟩
  have HB2 := Lib.hid (below_t HB1.out hb2)
  have hk1 := hk.below HB2.out
  have c0 := hk1.cell ho
  have f0 := hk1.frozen o
  have HK1 := Lib.hid hk1
  clear hk1 hb2 hk ht
  go_wp2_with fail
  refine must_yes.mono ?_
  rintro e w3 ⟨rfl, rfl⟩
  go_wp2_with fail
  go_end0
  exact ⟨rfl, HK1.out.set o _, (Fr.below (fun k => k = b) HB2.out).trans (Fr.set (fun k => k = b) _ _ _ rfl) (fun i hi => .inl hi)⟩
set_option maxRecDepth 100000 in
set_option maxHeartbeats 8000000 in
theorem numtell_c {n : Int} (h0 : -9223372036854775808 ≤ n) (h1 : n < 9223372036854775808) {w : World} (hE : Env w) {b o : Nat} {T : TypeId} {vs : List Value} (hk : Blk w b T vs) (ho : vs[o]? = some (.int .i64 n)) :
    Calls Tryd.prog 107 #[.pointer (some ⟨b, o, none⟩)] w fun e w' => e = .returned (.string ⟨(num n).toArray⟩) ∧ Below w.heap.size w w' := by
  have c0 := hk.cell ho
  have l0 := hk.lt
  clear hk
  go_enter Tryd.func107, Tryd.ntmps107
  go_wp2_with fail
  refine (digits_number h0 h1 hE).mono ?_
  rintro e w1 ⟨rfl, hb1⟩
  go_wp2_with fail
  go_ret
  exact ⟨rfl, hb1⟩
set_option maxRecDepth 100000 in
set_option maxHeartbeats 8000000 in
theorem dirtell_c {n : Int} {x : List UInt8} (hx : txt dirsL n = x) {w : World} {b o : Nat} {T : TypeId} {vs : List Value} (hk : Blk w b T vs) (ho : vs[o]? = some (.int .i64 n)) :
    Calls Tryd.prog 104 #[.pointer (some ⟨b, o, none⟩)] w fun e w' => e = .returned (.string ⟨(x).toArray⟩) ∧ Below w.heap.size w w' := by
  have HX := Lib.hid hx
  clear hx
  have c0 := hk.cell ho
  have l0 := hk.lt
  clear hk
  go_enter Tryd.func104, Tryd.ntmps104
  go_wp2_with fail
  refine wp_region_noPanic ?_
  refine wp_region_held_drew (S := fun W => Below w.heap.size w W) (by kernel_rfl) ((Below.refl _ w).drew) (fun hHeld => ?_)
  refine wpAnyH_take (i := 1) (oi := ⟨some 4, _, _, _, _, _⟩) (v := .pointer (some ⟨b, o, none⟩)) rfl (by kernel_rfl) (by kernel_rfl) (by kernel_rfl) (fun _ _ _ h => h) (Or.inl ⟨by rfl, fun W hSW => by go_simp⟩) hHeld ?_
  simp only [Act.put, List.setIfInBounds_toArray, List.set_cons_zero, List.set_cons_succ]
  refine wpAnyH_take (i := 2) (oi := ⟨some 5, _, _, _, _, _⟩) (v := .pointer (some ⟨b, o, none⟩)) rfl (by kernel_rfl) (by kernel_rfl) (by kernel_rfl) (fun _ _ _ h => h) (Or.inl ⟨by rfl, fun W hSW => by go_simp⟩) hHeld ?_
  simp only [Act.put, List.setIfInBounds_toArray, List.set_cons_zero, List.set_cons_succ]
  refine wpAnyH_take (i := 3) (oi := ⟨some 6, _, _, _, _, _⟩) (v := .int .i64 n) rfl (by kernel_rfl) (by kernel_rfl) (by kernel_rfl) (fun _ _ _ h => h) (Or.inl ⟨by rfl, fun W hSW => by have a0 := (hSW.cell (p := ⟨b, o, none⟩) l0).trans c0; go_simp⟩) hHeld ?_
  simp only [Act.put, List.setIfInBounds_toArray, List.set_cons_zero, List.set_cons_succ]
  refine wpAnyH_ready (rs := [0]) (by kernel_rfl) (by simp) ?_
  refine AllReadyH.cons (o := ⟨some 3, _, _, _, _, _⟩) rfl (fun K hK => ?_) AllReadyH.nil
  go_simp
  refine (dirs_c).mono ?_
  rintro e w0 ⟨⟨d, rfl, hge, ht⟩, hb0⟩
  have HT := Lib.hid ht
  clear ht hge
  refine hK.out _ _ (below_t hHeld hb0) (fun hHeld => ?_)
  clear hK K hb0
  refine wpAnyH_ready (rs := [4]) (by kernel_rfl) (by simp) ?_
  refine AllReadyH.cons (o := ⟨some 7, _, _, _, _, _⟩) rfl (fun K hK => ?_) AllReadyH.nil
  go_simp
  refine (textAt_c (x := x) HT.out rfl (by decide) HX.out).mono ?_
  rintro e w4 ⟨rfl, hb4⟩
  refine hK.out _ _ (below_t hHeld hb4) (fun hHeld => ?_)
  clear hK K hb4
  refine wpAnyH_take (i := 5) (oi := ⟨some 2, _, _, _, _, _⟩) (v := .string ⟨(x).toArray⟩) rfl (by kernel_rfl) (by kernel_rfl) (by kernel_rfl) (fun _ _ _ h => h) (Or.inl ⟨by rfl, fun W hSW => by go_simp⟩) hHeld ?_
  simp only [Act.put, List.setIfInBounds_toArray, List.set_cons_zero, List.set_cons_succ]
  refine wpAnyH_done (by kernel_rfl) ?_ _
  refine NoPanic.normal ?_
  have HF := Lib.hid hHeld
  clear hHeld c0 l0
  go_wp2_with fail
  go_ret
  exact ⟨rfl, HF.out⟩
abbrev TW : TypeId := 56
abbrev TN : TypeId := 79
abbrev TD : TypeId := 77
/-- A word of a row: its sort's type, its place. -/
abbrev Wc := TypeId × Nat × Nat
def encW : Enc Wc := ⟨fun x => [.iface x.1 (.pointer (some ⟨x.2.1, x.2.2, none⟩))], 1, fun _ => rfl, fun x v h => by
  simp only [List.mem_cons, List.not_mem_nil, or_false] at h
  subst h
  rfl⟩
theorem own_lit {α : Type} {e : Enc α} {E : TypeId} {w : World} {g B n : Nat} {l : List α} (h : Blk w g E (flat e l)) (hB : B ≤ g) (hn : l.length = n) (hm : n ≤ 1000000) : RowG.Own e E w B (.slice (some ⟨g, 0, none⟩) n n) l := by
  subst hn
  have hm2 : maxLen = 9223372036854775807 := rfl
  unfold RowG.Own
  exact ⟨flat_len l, .inr ⟨g, l.length, (flat e l).toArray, rfl, hB, h, Nat.le_refl _, by omega, by simp [flat_len], List.take_of_length_le (by simp [flat_len])⟩⟩
theorem underW : Tryd.prog.underlying 52 = some (.slice TW) := Tryd.underlying52
theorem infoW : (Tryd.prog.info? TW).map (fun i => (i.zero, i.size, i.bytes)) = some (some .nilIface, 1, 16) := by kernel_rfl
theorem step_pushW {W : World} {ops : Array Oper} {o : Oper} {a : Act} {Q : Exit → Act → World → Prop} {K : Act → World → Prop} {E : Prop} (hgd : o.guard = none) (s x : Operand) (ho : o.op = .call { callee := .builtin .append, args := #[s, x], argTypes := #[52, 52] }) {B : Nat} {v : Value} {l : List Wc} {y : Wc} {n : Nat}
    (hs : a.eval s = v) (hown : RowG.Own encW TW W B v l) {g0 : Nat} (hx : a.eval x = .slice (some ⟨g0, 0, none⟩) 1 1) (hc : W.cell? ⟨g0, 0, none⟩ = some (.iface y.1 (.pointer (some ⟨y.2.1, y.2.2, none⟩)))) (hn : l.length = n) (hl : n ≤ 1000000) (hB : B ≤ W.heap.size)
    (h : ∀ g c w', RowG.Own encW TW w' B (.slice (some ⟨g, 0, none⟩) (n + 1) c) (l ++ [y]) → W.grownBy w' v.ownBlock → K (a.put o.dst (.slice (some ⟨g, 0, none⟩) (n + 1) c)) w') : if Region.wanted o (yielded ops a.tmps) = true then Oper.wp Tryd.prog o a W K Q else E := by
  subst hn
  have hw : Region.wanted o (yielded ops a.tmps) = true := by simp [Region.wanted, hgd]
  rw [if_pos hw]
  have hm : maxLen = 9223372036854775807 := rfl
  obtain ⟨i, hi, hz0, hs1, hb0⟩ := info_parts infoW
  obtain ⟨v', w', hr, h2, h3, _, h5⟩ := run_append_own_at (P := Tryd.prog) W B 52 o.type TW i .nilIface 1 16 underW hi hz0 hs1 hb0 rfl (by omega) v l.length (flat encW l) hown ⟨g0, 0, none⟩ 1 1 (encW.f y) rfl (fun j u hu => by
    match j, hu with
    | 0, hu =>
      have : (⟨g0, 0, none⟩ : Addr).add 0 = ⟨g0, 0, none⟩ := by simp [Addr.add]
      rw [this, hc, ← hu]
      rfl) (encW.one y) (by omega) (by omega) hB
  have ho' : RowG.Own encW TW w' B v' (l ++ [y]) := by
    unfold RowG.Own
    rw [flat_app, List.length_append]
    have : flat encW [y] = encW.f y := by simp [flat]
    rw [this]
    exact h2
  obtain ⟨A, cp, rfl, hc1, hc2, hA⟩ := ho'.form (n := l.length + 1) (by simp)
  obtain ⟨g, rfl, hg1, hg2⟩ := hA (by omega)
  unfold Oper.wp execOp
  simp only [ho, resolve, invoke, builtin, Sem.run_bind, Sem.run_pure, Result.andThen_ok, List.map_toArray, List.map_cons, List.map_nil, hs, hx, hr]
  exact h g cp w' ho' h3
set_option maxRecDepth 100000 in
set_option maxHeartbeats 8000000 in
theorem place_c {w : World} {b o : Nat} :
    Calls Tryd.prog 40 #[.pointer (some ⟨b, o, none⟩)] w fun e w' => (∃ g, e = .returned (.slice (some ⟨g, 0, none⟩) 3 3) ∧ RowG.Own encW TW w' w.heap.size (.slice (some ⟨g, 0, none⟩) 3 3) [(TN, b, o), (TN, b, o + 1), (TN, b, o + 2)]) ∧ Below w.heap.size w w' := by
  go_enter Tryd.func40, Tryd.ntmps40
  go_wp2_with fail
  go_region
  go_wp2_with fail
  go_ret
  exact ⟨⟨_, rfl, own_lit (by (repeat' (first | (with_reducible refine BlkP.Blk.drew ?_) | (with_reducible refine BlkP.Blk.drewN ?_ _) | (with_reducible refine BlkP.Blk.setAt (us := ?_) (by first | omega | (simp; done) | (simp; omega)) rfl ?_ ?_) | (with_reducible refine BlkP.Blk.otherAt ?_ (by first | omega | (simp; done) | (simp; omega))) | (with_reducible refine BlkP.Blk.newA' (by first | omega | (simp; done) | (simp; omega)) rfl) | (with_reducible refine BlkP.Blk.alloc ?_ _) | (exact rfl)))) (by simp) rfl (by omega)⟩, by (repeat' (first | (with_reducible exact Below.refl _ _) | (with_reducible refine Below.setCell ?_ (by (first | omega | (simp; done) | (simp; omega))) _) | (with_reducible refine Below.alloc ?_ (by (first | omega | (simp; done) | (simp; omega))) _) | (with_reducible refine Below.drew ?_) | (with_reducible refine below_drewN ?_ _)))⟩
set_option maxRecDepth 100000 in
set_option maxHeartbeats 8000000 in
theorem behind_c {w : World} {b : Nat} {T : TypeId} {vs : List Value} (hk : Blk w b T vs) (h0 : vs[0]? = some (.int .i64 3)) :
    Calls Tryd.prog 22 #[.pointer (some ⟨b, 0, none⟩)] w fun e w' => (∃ g c, e = .returned (.slice (some ⟨g, 0, none⟩) 4 c) ∧ RowG.Own encW TW w' w.heap.size (.slice (some ⟨g, 0, none⟩) 4 c) [(TN, b, 1), (TN, b, 2), (TN, b, 3), (TD, b, 9)]) ∧ Below w.heap.size w w' := by
  have c0 := hk.cell h0
  have l0 := hk.lt
  clear hk
  go_enter Tryd.func22, Tryd.ntmps22
  go_wp2_with fail
  refine HeldP.wp_named (S := fun W => Below w.heap.size w W) (by (repeat' (first | (with_reducible exact Below.refl _ _) | (with_reducible refine Below.setCell ?_ (by (first | omega | (simp; done) | (simp; omega))) _) | (with_reducible refine Below.alloc ?_ (by (first | omega | (simp; done) | (simp; omega))) _) | (with_reducible refine Below.drew ?_) | (with_reducible refine below_drewN ?_ _)))) ?_
  intro wn hbn
  have HB := Lib.hid hbn
  clear hbn c0 l0
  refine wp_region_noPanic ?_
  refine wp_region_held_drew (S := fun W => Below wn.heap.size wn W) (by kernel_rfl) ((Below.refl _ wn).drew) (fun hHeld => ?_)
  refine wpAnyH_take (i := 0) (oi := ⟨some 37, _, _, _, _, _⟩) (v := .pointer (some ⟨b, 0, none⟩)) rfl (by kernel_rfl) (by kernel_rfl) (by kernel_rfl) (fun _ _ _ h => h) (Or.inl ⟨by rfl, fun W hSW => by go_simp⟩) hHeld ?_
  simp only [Act.put, List.setIfInBounds_toArray, List.set_cons_zero, List.set_cons_succ]
  refine wpAnyH_take (i := 1) (oi := ⟨some 38, _, _, _, _, _⟩) (v := .pointer (some ⟨b, 0, none⟩)) rfl (by kernel_rfl) (by kernel_rfl) (by kernel_rfl) (fun _ _ _ h => h) (Or.inl ⟨by rfl, fun W hSW => by go_simp⟩) hHeld ?_
  simp only [Act.put, List.setIfInBounds_toArray, List.set_cons_zero, List.set_cons_succ]
  refine wpAnyH_take (i := 2) (oi := ⟨some 39, _, _, _, _, _⟩) (v := .pointer (some ⟨b, 1, none⟩)) rfl (by kernel_rfl) (by kernel_rfl) (by kernel_rfl) (fun _ _ _ h => h) (Or.inl ⟨by rfl, fun W hSW => by go_simp⟩) hHeld ?_
  simp only [Act.put, List.setIfInBounds_toArray, List.set_cons_zero, List.set_cons_succ]
  refine wpAnyH_take (i := 4) (oi := ⟨some 41, _, _, _, _, _⟩) (v := .pointer (some ⟨b, 0, none⟩)) rfl (by kernel_rfl) (by kernel_rfl) (by kernel_rfl) (fun _ _ _ h => h) (Or.inl ⟨by rfl, fun W hSW => by go_simp⟩) hHeld ?_
  simp only [Act.put, List.setIfInBounds_toArray, List.set_cons_zero, List.set_cons_succ]
  refine wpAnyH_take (i := 5) (oi := ⟨some 42, _, _, _, _, _⟩) (v := .pointer (some ⟨b, 0, none⟩)) rfl (by kernel_rfl) (by kernel_rfl) (by kernel_rfl) (fun _ _ _ h => h) (Or.inl ⟨by rfl, fun W hSW => by go_simp⟩) hHeld ?_
  simp only [Act.put, List.setIfInBounds_toArray, List.set_cons_zero, List.set_cons_succ]
  refine wpAnyH_take (i := 6) (oi := ⟨some 43, _, _, _, _, _⟩) (v := .pointer (some ⟨b, 9, none⟩)) rfl (by kernel_rfl) (by kernel_rfl) (by kernel_rfl) (fun _ _ _ h => h) (Or.inl ⟨by rfl, fun W hSW => by go_simp⟩) hHeld ?_
  simp only [Act.put, List.setIfInBounds_toArray, List.set_cons_zero, List.set_cons_succ]
  refine wpAnyH_take (i := 7) (oi := ⟨some 44, _, _, _, _, _⟩) (v := .iface TD (.pointer (some ⟨b, 9, none⟩))) rfl (by kernel_rfl) (by kernel_rfl) (by kernel_rfl) (fun _ _ _ h => h) (Or.inl ⟨by rfl, fun W hSW => by go_simp⟩) hHeld ?_
  simp only [Act.put, List.setIfInBounds_toArray, List.set_cons_zero, List.set_cons_succ]
  refine wpAnyH_ready (rs := [3, 8]) (by kernel_rfl) (by simp) ?_
  refine AllReadyH.cons (o := ⟨some 40, _, _, _, _, _⟩) rfl (fun K hK => ?_) ?_
  · go_simp
    refine (place_c (b := b) (o := 1)).mono ?_
    rintro e w2 ⟨⟨g, rfl, ho2⟩, hb2⟩
    have HO2 := Lib.hid (ho2.mono hHeld.size)
    refine hK.out _ _ (below_t hHeld hb2) (fun hHeld => ?_)
    clear hK K hb2 ho2
    refine wpAnyH_ready (rs := [8]) (by kernel_rfl) (by simp) ?_
    refine AllReadyH.cons (o := ⟨some 45, _, _, _, _, _⟩) rfl (fun K hK => ?_) AllReadyH.nil
    go_simp
    refine hK.out _ _ (hHeld.alloc hHeld.size _) (fun hHeld => ?_)
    clear hK K
    refine wpAnyH_ready (rs := [9]) (by kernel_rfl) (by simp) ?_
    refine AllReadyH.cons (o := ⟨some 46, _, _, _, _, _⟩) rfl (fun K hK => ?_) AllReadyH.nil
    refine step_pushW rfl (.tmp 40) (.tmp 45) rfl (B := wn.heap.size) (v := .slice (some ⟨g, 0, none⟩) 3 3) (l := [(TN, b, 1), (TN, b, 2), (TN, b, 3)]) (y := (TD, b, 9)) (n := 3) rfl (HO2.out.alloc _) rfl (by (repeat' (first | (with_reducible assumption) | (with_reducible refine HeldP.c_drew ?_) | (with_reducible refine HeldP.c_drewN ?_) | (with_reducible refine HeldP.c_same (by omega) ?_) | (with_reducible refine HeldP.c_other ?_ ?_) | (with_reducible refine HeldP.c_new (by first | omega | (simp; done) | (simp; omega)) ?_) | (with_reducible refine HeldP.c_alloc ?_ ?_) | (with_reducible refine HeldP.e_drew ?_) | (with_reducible refine HeldP.e_drewN ?_) | (with_reducible refine HeldP.e_set ?_) | (with_reducible refine HeldP.e_new (by first | omega | (simp; done) | (simp; omega)) ⟨_, rfl⟩) | (with_reducible refine HeldP.e_alloc ?_ ?_) | (with_reducible refine HeldP.f_drew ?_) | (with_reducible refine HeldP.f_drewN ?_) | (with_reducible refine HeldP.f_set ?_) | (with_reducible refine HeldP.f_new (by first | omega | (simp; done) | (simp; omega))) | (with_reducible refine HeldP.f_alloc ?_ ?_) | (with_reducible refine HeldP.s_drew ?_) | (with_reducible refine HeldP.s_drewN ?_) | (with_reducible refine HeldP.s_set ?_) | (with_reducible refine HeldP.s_new (by first | omega | (simp; done) | (simp; omega))) | (with_reducible refine HeldP.s_alloc ?_) | (with_reducible exact ⟨_, by assumption⟩) | omega | (intro e; simp at e; done) | (intro e; simp at e; omega) | (exact rfl) | (simp; done) | (simp; omega)))) rfl (by omega) hHeld.size ?_
    intro g4 c4 w4 ho4 hg4
    have HO4 := Lib.hid ho4
    have HB4 := Lib.hid ((show Below wn.heap.size wn _ from hHeld).trans ((RowG.Own.grownB (HO2.out.alloc _) hg4 hHeld.size)))
    clear ho4 hg4
    refine hK.out _ _ HB4.out (fun hHeld => ?_)
    clear hK K hHeld
    refine wpAnyH_take (i := 10) (oi := ⟨some 2, _, _, _, _, _⟩) (v := .slice (some ⟨g4, 0, none⟩) 4 c4) rfl (by kernel_rfl) (by kernel_rfl) (by kernel_rfl) (fun _ _ _ h => h) (Or.inl ⟨by rfl, fun W hSW => by go_simp⟩) HB4.out ?_
    simp only [Act.put, List.setIfInBounds_toArray, List.set_cons_zero, List.set_cons_succ]
    refine wpAnyH_done (by kernel_rfl) ?_ _
    refine NoPanic.normal ?_
    go_wp2_with fail
    refine bodyPost_ret (v := .slice (some ⟨g4, 0, none⟩) 4 c4) (by simp [results, Tryd.results22, go_sem]) rfl ?_
    exact ⟨⟨g4, c4, rfl, HO4.out.mono HB.out.size⟩, below_t HB.out HB4.out⟩
  refine AllReadyH.cons (o := ⟨some 45, _, _, _, _, _⟩) rfl (fun K hK => ?_) AllReadyH.nil
  go_simp
  refine hK.out _ _ (hHeld.alloc hHeld.size _) (fun hHeld => ?_)
  clear hK K
  refine any_named (S := fun W => Below wn.heap.size wn W ∧ wn.heap.size < W.heap.size ∧ W.cell? ⟨wn.heap.size, 0, none⟩ = some (.iface TD (.pointer (some ⟨b, 9, none⟩)))) ⟨hHeld, by simp, by (repeat' (first | (with_reducible assumption) | (with_reducible refine HeldP.c_drew ?_) | (with_reducible refine HeldP.c_drewN ?_) | (with_reducible refine HeldP.c_same (by omega) ?_) | (with_reducible refine HeldP.c_other ?_ ?_) | (with_reducible refine HeldP.c_new (by first | omega | (simp; done) | (simp; omega)) ?_) | (with_reducible refine HeldP.c_alloc ?_ ?_) | (with_reducible refine HeldP.e_drew ?_) | (with_reducible refine HeldP.e_drewN ?_) | (with_reducible refine HeldP.e_set ?_) | (with_reducible refine HeldP.e_new (by first | omega | (simp; done) | (simp; omega)) ⟨_, rfl⟩) | (with_reducible refine HeldP.e_alloc ?_ ?_) | (with_reducible refine HeldP.f_drew ?_) | (with_reducible refine HeldP.f_drewN ?_) | (with_reducible refine HeldP.f_set ?_) | (with_reducible refine HeldP.f_new (by first | omega | (simp; done) | (simp; omega))) | (with_reducible refine HeldP.f_alloc ?_ ?_) | (with_reducible refine HeldP.s_drew ?_) | (with_reducible refine HeldP.s_drewN ?_) | (with_reducible refine HeldP.s_set ?_) | (with_reducible refine HeldP.s_new (by first | omega | (simp; done) | (simp; omega))) | (with_reducible refine HeldP.s_alloc ?_) | (with_reducible exact ⟨_, by assumption⟩) | omega | (intro e; simp at e; done) | (intro e; simp at e; omega) | (exact rfl) | (simp; done) | (simp; omega)))⟩ ?_
  clear hHeld
  rintro v1 ⟨hHeld, hz1, hc1⟩
  refine wpAnyH_ready (rs := [3]) (by kernel_rfl) (by simp) ?_
  refine AllReadyH.cons (o := ⟨some 40, _, _, _, _, _⟩) rfl (fun K hK => ?_) AllReadyH.nil
  go_simp
  refine (place_c (b := b) (o := 1)).mono ?_
  rintro e w2 ⟨⟨g, rfl, ho2⟩, hb2⟩
  have HO2 := Lib.hid (ho2.mono hHeld.size)
  have hc2 := (hb2.cell (p := ⟨wn.heap.size, 0, none⟩) hz1).trans hc1
  refine hK.out _ _ (below_t hHeld hb2) (fun hHeld => ?_)
  clear hK K hb2 ho2 hc1
  refine wpAnyH_ready (rs := [9]) (by kernel_rfl) (by simp) ?_
  refine AllReadyH.cons (o := ⟨some 46, _, _, _, _, _⟩) rfl (fun K hK => ?_) AllReadyH.nil
  refine step_pushW rfl (.tmp 40) (.tmp 45) rfl (B := wn.heap.size) (v := .slice (some ⟨g, 0, none⟩) 3 3) (l := [(TN, b, 1), (TN, b, 2), (TN, b, 3)]) (y := (TD, b, 9)) (n := 3) rfl HO2.out rfl hc2 rfl (by omega) hHeld.size ?_
  intro g4 c4 w4 ho4 hg4
  have HO4 := Lib.hid ho4
  have HB4 := Lib.hid ((show Below wn.heap.size wn _ from hHeld).trans ((RowG.Own.grownB HO2.out hg4 hHeld.size)))
  clear ho4 hg4
  refine hK.out _ _ HB4.out (fun hHeld => ?_)
  clear hK K hHeld
  refine wpAnyH_take (i := 10) (oi := ⟨some 2, _, _, _, _, _⟩) (v := .slice (some ⟨g4, 0, none⟩) 4 c4) rfl (by kernel_rfl) (by kernel_rfl) (by kernel_rfl) (fun _ _ _ h => h) (Or.inl ⟨by rfl, fun W hSW => by go_simp⟩) HB4.out ?_
  simp only [Act.put, List.setIfInBounds_toArray, List.set_cons_zero, List.set_cons_succ]
  refine wpAnyH_done (by kernel_rfl) ?_ _
  refine NoPanic.normal ?_
  go_wp2_with fail
  refine bodyPost_ret (v := .slice (some ⟨g4, 0, none⟩) 4 c4) (by simp [results, Tryd.results22, go_sem]) rfl ?_
  exact ⟨⟨g4, c4, rfl, HO4.out.mono HB.out.size⟩, below_t HB.out HB4.out⟩
end LineW
end Go.Proofs.YtcfkdddflbdfaaaDoor
