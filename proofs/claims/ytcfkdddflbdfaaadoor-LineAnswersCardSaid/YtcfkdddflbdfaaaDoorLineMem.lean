/-
  Texts in memory: what a call of package line reads of the program's tables; the library's contracts in these words; rows of texts.
-/
import Derived.Test.YtcfkdddflbdfaaaDoorLineShelf
import Derived.Test.YtcfkdddflbdfaaaDoorLineWords
import Derived.Test.YtcfkdddflbdfaaaDoorKindWalks
import Derived.Test.YtcfkdddflbdfaaaDoorRowG
import Derived.Test.YtcfkdddflbdfaaaDoorBytesMem
import Derived.Lib.AppendIntMem
import Derived.Lib.SmallJoins
import Derived.Lib.AtoiErrMem
import Derived.Lib.AtoiAllMem
import Derived.Lib.SlicesS
import Derived.Laws.Concat
namespace Go.Proofs.YtcfkdddflbdfaaaDoor
open Go.RowKit
set_option linter.unusedVariables false
set_option linter.unusedSimpArgs false
namespace LineW
open DigP LineP BlkP RowG
theorem itoa_num (n : Int) : Lib.itoa n = num n := by
  have key : ∀ u : Nat, Lib.decDigits u = dig u := by
    intro u
    induction u using Nat.strongRecOn with
    | ind u ih =>
      by_cases h : u < 10
      · rw [Lib.decDigits, dif_pos h, dig_small h]
        rfl
      · rw [Lib.decDigits, dif_neg h, dig_big (by omega), ih (u / 10) (by omega)]
        rfl
  unfold Lib.itoa num
  split
  · rw [key]
  · rw [key, show n.toNat = n.natAbs by omega]
theorem join_tail : ∀ (v : List UInt8) (r : List (List UInt8)), Lib.joinTail [32] (v :: r) = 32 :: DigP.join (v :: r)
  | v, [] => by simp [Lib.joinTail, DigP.join]
  | v, u :: r => by
    have ih := join_tail u r
    have : Lib.joinTail [32] (v :: u :: r) = [32] ++ v ++ Lib.joinTail [32] (u :: r) := by simp [Lib.joinTail]
    rw [this, ih]
    rfl
theorem join_lib : ∀ ws : List (List UInt8), Lib.join ws [32] = DigP.join ws
  | [] => rfl
  | [w] => Lib.join_one w [32]
  | w :: v :: r => by
    rw [Lib.join_cons, join_tail]
    rfl
/-- What the calls read. -/
structure Env (w : World) : Prop where
  tab : KindW.Tab w
  pow : Lib.TabIs Tryd.prog w powName .u64 Lib.pow10Tab
theorem gPow : Tryd.prog.globalNamed powName = some 1 := by kernel_rfl
theorem Env.below {w w' : World} (h : Env w) (hb : Below w.heap.size w w') : Env w' := ⟨h.tab.below hb, Go.Joins.tab_stays gPow h.pow hb (Nat.le_refl _)⟩
theorem size_mk (l : List UInt8) : (⟨l.toArray⟩ : ByteArray).size = l.length := by simp [ByteArray.size]
/-- strconv.FormatInt(n, 10). -/
theorem fmt_c {n : Int} (h0 : -9223372036854775808 ≤ n) (h1 : n < 9223372036854775808) {w : World} (hE : Env w) :
    Calls Tryd.prog 51 #[.int .i64 n, .int .i64 10] w fun e w' => e = .returned (.string ⟨(num n).toArray⟩) ∧ Below w.heap.size w w' :=
  (strconv_FormatInt_10 n h0 (by omega) w hE.pow).mono fun e w' ⟨he, k, os, hw⟩ => ⟨by rw [he, itoa_num], hw ▸ Lib.below_grow _ _ (Nat.le_refl _) _ _⟩
/-- strconv.Atoi of a number's digits. -/
theorem atoi_c {n : Int} (h0 : -9223372036854775808 ≤ n) (h1 : n < 9223372036854775808) (w : World) :
    Calls Tryd.prog 110 #[.string ⟨(num n).toArray⟩] w fun e w' => e = .returned (.tuple #[.int .i64 n, .nilIface]) ∧ Below w.heap.size w w' :=
  (strconv_Atoi_ok ⟨(num n).toArray⟩ (by have := num_len h0 (show n ≤ 9223372036854775807 by omega); rw [size_mk]; omega) n (by simpa using atoi_num h0 h1) w).mono fun e w' ⟨he, hw⟩ => ⟨he, by
    rcases hw with rfl | ⟨t, rfl⟩
    · exact Below.refl _ _
    · exact Lib.bytesWorld_below _ _ _⟩
/-- A text's value. -/
def sv (l : List UInt8) : Value := .string ⟨l.toArray⟩
/-- A row of texts lies in a block. -/
def Txt (w : World) (b : Nat) (ws : List (List UInt8)) : Prop := b < w.heap.size ∧ ∀ (j : Nat) x, ws[j]? = some x → w.cell? ⟨b, j, none⟩ = some (.string ⟨x.toArray⟩)
theorem Txt.below {w w' : World} {b : Nat} {ws : List (List UInt8)} (h : Txt w b ws) (hb : Below w.heap.size w w') : Txt w' b ws :=
  ⟨Nat.lt_of_lt_of_le h.1 hb.size, fun j x hx => (hb.cell (p := ⟨b, j, none⟩) h.1).trans (h.2 j x hx)⟩
theorem Txt.blk {w : World} {b : Nat} {T : TypeId} {ws : List (List UInt8)} {vs : List Value} (h : Blk w b T vs) (e : vs = ws.map sv) : Txt w b ws := ⟨h.lt, fun j x hx => h.cell (by rw [e, List.getElem?_map, hx]; rfl)⟩
/-- strings.Join of a row, blanks between. -/
theorem join_c {w : World} {b n c : Nat} {ws : List (List UInt8)} (h : Txt w b ws) (hn : ws.length = n) (hc : n ≤ c) (hl : n ≤ 1000) (hj : (DigP.join ws).length ≤ 100000000) :
    Calls Tryd.prog 42 #[.slice (some ⟨b, 0, none⟩) n c, .string ⟨#[32]⟩] w fun e w' => e = .returned (.string ⟨(DigP.join ws).toArray⟩) ∧ Below w.heap.size w w' := by
  subst hn
  have hm : (ws.map fun l => (⟨l.toArray⟩ : ByteArray)).map (·.data.toList) = ws := by
    rw [List.map_map]
    have : ((fun x : ByteArray => x.data.toList) ∘ fun l : List UInt8 => (⟨l.toArray⟩ : ByteArray)) = id := by
      funext l
      simp
    rw [this, List.map_id]
  have := strings_Join b 0 c (ws.map fun l => (⟨l.toArray⟩ : ByteArray)) ⟨#[32]⟩ w (fun j x hx => by
    rw [List.getElem?_map] at hx
    obtain ⟨y, hy, rfl⟩ := Option.map_eq_some_iff.1 hx
    rw [Nat.zero_add]
    exact h.2 j y hy) h.1 (by rw [List.length_map]; omega) (by rw [List.length_map]; omega) (by rw [hm]; show (Lib.join ws [32]).length ≤ _; rw [join_lib]; omega)
  rw [List.length_map, hm] at this
  refine this.mono fun e w' ⟨he, hb⟩ => ⟨?_, hb⟩
  rw [he]
  show Ending.returned (.string ⟨(Lib.join ws [32]).toArray⟩) = _
  rw [join_lib]
/-- The text at a place of a row; the empty one, if there is no such place. -/
def txt (ws : List (List UInt8)) (i : Int) : List UInt8 := if 0 ≤ i ∧ i < ws.length then ws.getD i.toNat [] else []
theorem txt_at {ws : List (List UInt8)} {i : Nat} {x : List UInt8} (h : ws[i]? = some x) : txt ws (i : Int) = x := by
  have hi := (List.getElem?_eq_some_iff.1 h).1
  rw [txt, if_pos (by omega), Int.toNat_natCast, List.getD_eq_getElem?_getD, h]
  rfl
theorem txt_out {ws : List (List UInt8)} {i : Int} (h : ¬ (0 ≤ i ∧ i < ws.length)) : txt ws i = [] := if_neg h
/-- Two texts laid one behind the other. -/
theorem run_cat (w : World) {x y z : List UInt8} (hx : x.length ≤ 8388608) (hy : y.length ≤ 8388608) (hz : x ++ y = z) : (binOp .add 9 (.string ⟨x.toArray⟩) (.string ⟨y.toArray⟩)).run Tryd.prog w = .ok (.string ⟨z.toArray⟩) w := by
  subst hz
  have h := run_string_add_lists (P := Tryd.prog) w x y (by omega) (by omega)
  simp [binOp, h]
end LineW
end Go.Proofs.YtcfkdddflbdfaaaDoor
