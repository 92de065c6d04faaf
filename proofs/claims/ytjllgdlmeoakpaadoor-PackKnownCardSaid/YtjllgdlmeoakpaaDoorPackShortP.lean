/-
  PackShort: a chunk of one cell and one light has ten bytes; another cell and light at one place make few more.
-/
import Derived.Test.YtjllgdlmeoakpaaDoorPackRefP
import Derived.Test.YtjllgdlmeoakpaaDoorHeldP
namespace Go.Proofs.YtjllgdlmeoakpaaDoor
open Go.RowKit
open Go.Lib (uvarint uvarint_small uvarint_big uvarint_length64 uvarint_pos)
set_option linter.unusedVariables false
set_option linter.unusedSimpArgs false
namespace PackW
open BytesW RunsW

theorem lay_all {C : List Cell} (hC : C.length = 4096) (c : Cell) : lay C 0 4096 c = List.replicate 4096 c := by
  rw [lay, List.take_zero, List.nil_append, List.drop_of_length_le (by omega), List.append_nil]
theorem made_one (c l : Cell) : madeP 300 [⟨0, 4096, c, l⟩] = (List.replicate 4096 c, List.replicate 4096 l) := by
  have h0 : atOf ⟨0, 4096, c, l⟩ = 0 := by simp [atOf]
  have h1 : lenOf ⟨0, 4096, c, l⟩ = 4096 := by simp [lenOf, h0]
  rw [madeP, List.take_of_length_le (by simp)]
  simp only [List.foldl_cons, List.foldl_nil, layP, h0, h1]
  rw [lay_all zeros_len, lay_all zeros_len]
theorem made_two {at_ : Int} {c l d m : Cell} {a : Nat} (ha : a = atOf ⟨at_, 1, d, m⟩) : madeP 300 [⟨0, 4096, c, l⟩, ⟨at_, 1, d, m⟩] = ((List.replicate 4096 c).set a d, (List.replicate 4096 l).set a m) := by
  have h0 : atOf ⟨0, 4096, c, l⟩ = 0 := by simp [atOf]
  have h1 : lenOf ⟨0, 4096, c, l⟩ = 4096 := by simp [lenOf, h0]
  have h2 := atOf_lt ⟨at_, 1, d, m⟩
  have h3 : lenOf ⟨at_, 1, d, m⟩ = 1 := by
    unfold lenOf
    simp only
    omega
  have h4 : ∀ (x y : Cell), lay (List.replicate 4096 x) a 1 y = (List.replicate 4096 x).set a y := fun x y => by
    have := lay_set (C := List.replicate 4096 x) (a := a) (m := 0) (c := y) (by rw [List.length_replicate]; omega)
    rw [lay_zero] at this
    exact this.symm
  rw [madeP, List.take_of_length_le (by simp)]
  simp only [List.foldl_cons, List.foldl_nil, layP, h0, h1, h3, ← ha]
  rw [lay_all zeros_len, lay_all zeros_len, h4, h4]
theorem set_rep {α : Type} (a : Nat) (x y : α) (ha : a < 4096) : (List.replicate 4096 x).set a y = List.replicate a x ++ y :: List.replicate (4095 - a) x := by
  have h : List.replicate 4096 x = List.replicate a x ++ x :: List.replicate (4095 - a) x := by
    rw [← List.replicate_succ, List.replicate_append_replicate]
    congr 1
    omega
  rw [h, List.set_append_right _ _ (by simp), List.length_replicate, Nat.sub_self, List.set_cons_zero]
theorem row_len {a : Nat} (ha : a < 4096) (x y : UInt8) : 3 ≤ (putR (List.replicate a x ++ y :: List.replicate (4095 - a) x)).length ∧ (putR (List.replicate a x ++ y :: List.replicate (4095 - a) x)).length ≤ 8 := by
  have up : ∀ n, n < 16384 → 1 ≤ (uvarint n).length ∧ (uvarint n).length ≤ 2 := fun n hn => ⟨uvarint_pos n, uv_le2 hn⟩
  by_cases hxy : y = x
  · subst hxy
    rw [← List.replicate_succ, List.replicate_append_replicate, show a + (4095 - a + 1) = 4096 by omega, putR_one (by omega), uv4096]
    simp
  · have tail : (putR (List.replicate (4095 - a) x)).length ≤ 3 ∧ (a < 4095 → 2 ≤ (putR (List.replicate (4095 - a) x)).length) := by
      by_cases h : a = 4095
      · subst h
        simp [putR_nil]
      · rw [putR_one (by omega)]
        have := up (4095 - a) (by omega)
        simp only [List.length_append, List.length_singleton]
        omega
    have mid : putR (y :: List.replicate (4095 - a) x) = uvarint 1 ++ y :: putR (List.replicate (4095 - a) x) := by
      have := putR_rep (x := y) (r := List.replicate (4095 - a) x) (n := 1) (by omega) (by
        rw [List.head?_replicate]
        split
        · simp
        · simpa using fun e => hxy e.symm)
      exact this
    have one : (uvarint 1).length = 1 := by rw [uvarint_small (by omega)]; rfl
    have mid2 : (putR (y :: List.replicate (4095 - a) x)).length = 2 + (putR (List.replicate (4095 - a) x)).length := by
      rw [mid, List.length_append, one, List.length_cons]
      omega
    by_cases h0 : a = 0
    · subst h0
      rw [List.replicate_zero, List.nil_append, mid2]
      omega
    · rw [putR_rep (by omega) (by simpa using hxy), List.length_append, List.length_cons, mid2]
      have := up a (by omega)
      omega
theorem put_two {c l d m : Cell} {a : Nat} (ha : a < 4096) :
    10 ≤ (putC ⟨(List.replicate 4096 c).set a d, (List.replicate 4096 l).set a m, []⟩).length ∧ (putC ⟨(List.replicate 4096 c).set a d, (List.replicate 4096 l).set a m, []⟩).length ≤ 22 := by
  have hp1 : 1 ≤ (pal [] ((List.replicate 4096 c).set a d)).length := pal_pos (fun e => by have := congrArg List.length e; rw [List.length_set, List.length_replicate, List.length_nil] at this; omega)
  have hp2 : (pal [] ((List.replicate 4096 c).set a d)).length ≤ 2 := by
    refine nodup_len (m := [c, d]) (pal_nodup _ _ (by simp)) fun x hx => ?_
    rcases (pal_mem _ _ x).1 hx with h | h
    · simp at h
    · rcases List.mem_or_eq_of_mem_set h with h1 | rfl
      · rw [(List.mem_replicate.1 h1).2]
        simp
      · simp
  have h1 : ∃ x y, places ((List.replicate 4096 c).set a d) = List.replicate a x ++ y :: List.replicate (4095 - a) x := by
    obtain ⟨f, hf⟩ : ∃ f : Cell → UInt8, f = fun x => ((pal [] ((List.replicate 4096 c).set a d)).idxOf x).toUInt8 := ⟨_, rfl⟩
    refine ⟨f c, f d, ?_⟩
    rw [places, ← hf, set_rep a c d ha, List.map_append, List.map_cons, List.map_replicate, List.map_replicate]
  obtain ⟨x, y, h1⟩ := h1
  have r1 := row_len ha x y
  have h2 : ((List.replicate 4096 l).set a m).map lnum = List.replicate a (lnum l) ++ lnum m :: List.replicate (4095 - a) (lnum l) := by
    rw [set_rep a l m ha, List.map_append, List.map_cons, List.map_replicate, List.map_replicate]
  have r2 := row_len ha (lnum l) (lnum m)
  have h3 : (tksB []).length = 1 := by
    rw [tksB, List.length_nil, uvarint_small (by omega)]
    rfl
  simp only [putC, h1, h2, List.length_append, palB_len, h3]
  omega
theorem can_twoC {c l d m : Cell} {a : Nat} (ha : a < 4096) (hc : mayC c = true) (hd : mayC d = true) (hl : mayL l = true) (hm : mayL m = true) :
    can ⟨(List.replicate 4096 c).set a d, (List.replicate 4096 l).set a m, []⟩ = true := by
  have h1 : ((List.replicate 4096 c).set a d).all mayC = mayC d := all_set (List.all_eq_true.2 fun x hx => by rw [(List.mem_replicate.1 hx).2]; exact hc) (by rw [List.length_replicate]; omega)
  have h2 : ((List.replicate 4096 l).set a m).all mayL = mayL m := all_set (List.all_eq_true.2 fun x hx => by rw [(List.mem_replicate.1 hx).2]; exact hl) (by rw [List.length_replicate]; omega)
  simp only [can, mayT, h1, h2, hd, hm, Bool.and_true]
theorem calls_named {P : Program} {f : Nat} {args : Array Value} {Q : Ending → World → Prop} {W : World} (S : World → Prop) (h : S W) (k : ∀ W', S W' → Calls P f args W' Q) : Calls P f args W Q := k W h
/-- Six cells of a part. -/
def PtAt (W : World) (b o : Nat) (q : Pt) : Prop := W.cell? ⟨b, o, none⟩ = some (.int .i64 q.at_) ∧ W.cell? ⟨b, o + 1, none⟩ = some (.int .i64 q.many) ∧ W.cell? ⟨b, o + 2, none⟩ = some (bv q.cell.1) ∧ W.cell? ⟨b, o + 3, none⟩ = some (bv q.cell.2) ∧ W.cell? ⟨b, o + 4, none⟩ = some (bv q.light.1) ∧ W.cell? ⟨b, o + 5, none⟩ = some (bv q.light.2)
theorem part_one {W : World} {b : Nat} {q : Pt} (hb : b < W.heap.size) (h : PtAt W b 0 q) : PartC W (some ⟨b, 0, none⟩) [q] := fun _ => ⟨b, 0, rfl, hb, fun i x hx => by
  match i, hx with
  | 0, hx =>
    obtain rfl : q = x := by simpa using hx
    exact h⟩
theorem part_two {W : World} {b : Nat} {q r : Pt} (hb : b < W.heap.size) (h : PtAt W b 0 q) (h2 : PtAt W b 6 r) : PartC W (some ⟨b, 0, none⟩) [q, r] := fun _ => ⟨b, 0, rfl, hb, fun i x hx => by
  match i, hx with
  | 0, hx =>
    obtain rfl : q = x := by simpa using hx
    exact h
  | 1, hx =>
    obtain rfl : r = x := by simpa using hx
    exact h2⟩
end PackW
end Go.Proofs.YtjllgdlmeoakpaaDoor
