/-
  slices.Clone, NewReader; whether a reader is sound, whether it has ended, what is left.
-/
import Derived.Test.YtjmdjdkpcmekmaaBytesPuts2
namespace Go.Proofs.Ytjmdjdkpcmekmaa
open Go.RowKit
open Go.Lib (uvarint uvarint_small uvarint_big uvarint_length64 uvarint_pos zigzag)
set_option linter.unusedVariables false
set_option linter.unusedSimpArgs false
namespace BytesW

theorem clone_C {w : World} {A : Option Addr} {l : List UInt8} {c : Nat} (hA : AtC w A l) (hl : l.length ≤ 1000000) :
    Calls Try.prog 31 #[.slice A l.length c] w (Gives w l) := by
  have q26 : ∀ (w : World) (a : Option Addr) (n c n' c' : Nat), (binOp .eql 22 (.slice a n c) (.slice none n' c')).run Try.prog w = .ok (.bool a.isNone) w := fun w a n c n' c' => Lib.run_eql_slice_nil w _ _ a n c n' c' under26
  rcases A with _ | ad
  · have h0 : l = [] := by
      rcases l with _ | ⟨y, l2⟩
      · rfl
      · obtain ⟨b, o, hA, _⟩ := hA (by simp)
        cases hA
    subst h0
    go_enter Try.func31, Try.ntmps31
    go_wp2_with fail
    go_ret
    exact ⟨_, rfl, Own.nil _ _, Below.refl _ _⟩
  · have hown : ∀ cs, cs = #[] → Own (w.alloc (.cells cs 5)) w.heap.size (.slice (some ⟨w.heap.size, 0, none⟩) 0 0) [] := fun cs h => by
      subst h
      exact World.ownsRow_made w #[] 0 (Nat.le_refl _) (by simp [maxLen]) rfl
    have HO := Lib.hid hown
    clear hown
    go_enter Try.func31, Try.ntmps31
    go_wp2_with (at_builtin; refine wp_appendC rfl (.tmp 5) (.tmp 6) rfl (l := []) (l2 := l) rfl (HO.out _ rfl) rfl (hA.below ((Below.refl _ w).alloc (Nat.le_refl _) _)) (by simp; omega) (by simp) ?_; intro v2 w2 hown2 hb2)
    go_ret
    exact ⟨v2, rfl, hown2, ((Below.refl _ w).alloc (Nat.le_refl _) _).trans hb2⟩

theorem clone_c {w : World} {A : Option Addr} {l : List UInt8} {c : Nat} (hA : At w A l) (hl : l.length ≤ 1000000) :
    Calls Try.prog 31 #[.slice A l.length c] w (Gives w l) := clone_C hA.c hl

/-- A new reader: its block is new, and so are its bytes. -/
def Made (w : World) (l : List UInt8) (e : Ending) (w' : World) : Prop := ∃ p, e = .returned (.pointer (some ⟨p, 0, none⟩)) ∧ RS w' p (l, false) ∧ w.heap.size ≤ p ∧ p < w'.heap.size ∧ Below w.heap.size w w'
theorem newReader_C {w : World} {A : Option Addr} {l : List UInt8} {c : Nat} (hA : AtC w A l) (hl : l.length ≤ 1000000) :
    Calls Try.prog 20 #[.slice A l.length c] w (Made w l) := by
  go_enter Try.func20, Try.ntmps20
  go_wp2_with fail
  go_at_call 31
  refine (clone_C hA hl).mono ?_
  rintro e w1 ⟨v1, rfl, hown1, hb1⟩
  obtain ⟨A1, c1, rfl, hA1, hc1, hc2⟩ := hown1.sl
  have hz := hb1.size
  go_wp2_with fail
  go_ret
  exact ⟨w1.heap.size, rfl, ⟨A1, c1, heap_alloc_new w1 _, hA1.below ((Below.refl _ w1).alloc (Nat.le_refl _) _), hc1, hc2, hl⟩, hz, by simp, hb1.trans ((Below.refl _ w1).alloc (Nat.le_refl _) _ |>.mono hz)⟩

theorem newReader_c {w : World} {A : Option Addr} {l : List UInt8} {c : Nat} (hA : At w A l) (hl : l.length ≤ 1000000) :
    Calls Try.prog 20 #[.slice A l.length c] w (Made w l) := newReader_C hA.c hl

theorem Rdr.cell {w : World} {p c : Nat} {A : Option Addr} {l : List UInt8} {b : Bool} (h : Rdr w p A l c b) : w.cell? ⟨p, 0, none⟩ = some (.slice A l.length c) ∧ w.cell? ⟨p, 1, none⟩ = some (.int .u8 (stv b)) ∧ w.frozen? ⟨p, 0, none⟩ = false ∧ w.frozen? ⟨p, 1, none⟩ = false := by
  have hb := h.1
  refine ⟨cell_of_row w p 0 _ _ _ hb, cell_of_row w p 1 _ _ _ hb, ?_, ?_⟩ <;> simp [World.frozen?, hb]
theorem isSound_c {w : World} {p c : Nat} {A : Option Addr} {l : List UInt8} {b r : Bool} (h : Rdr w p A l c b) (hr : (!b) = r) :
    Calls Try.prog 32 #[.pointer (some ⟨p, 0, none⟩)] w fun e w' => e = .returned (.bool r) ∧ w = w' := by
  subst hr
  obtain ⟨_, c1, _, _⟩ := h.cell
  clear h
  cases b
  · have c1 : w.cell? ⟨p, 1, none⟩ = some (.int .u8 1) := c1
    go_enter Try.func32, Try.ntmps32
    go_wp2_with fail
    go_ret
    exact ⟨rfl, rfl⟩
  · have c1 : w.cell? ⟨p, 1, none⟩ = some (.int .u8 2) := c1
    go_enter Try.func32, Try.ntmps32
    go_wp2_with fail
    go_ret
    exact ⟨rfl, rfl⟩
theorem left_c {w : World} {p : Nat} {s : St} (h : RS w p s) :
    Calls Try.prog 26 #[.pointer (some ⟨p, 0, none⟩)] w fun e w' => e = .returned (.int .i64 s.1.length) ∧ w = w' := by
  obtain ⟨A, c, h⟩ := h
  obtain ⟨c0, _, _, _⟩ := h.cell
  clear h
  go_enter Try.func26, Try.ntmps26
  go_wp2_with fail
  go_ret
  exact ⟨rfl, rfl⟩
theorem err_c {w : World} {p : Nat} {s : St} {r : Int} (h : RS w p s) (hr : rErr s = r) :
    Calls Try.prog 23 #[.pointer (some ⟨p, 0, none⟩)] w fun e w' => e = .returned (.int .i64 r) ∧ w = w' := by
  subst hr
  obtain ⟨l, b⟩ := s
  obtain ⟨A, c, h⟩ := h
  obtain ⟨_, c1, _, _⟩ := h.cell
  clear h
  cases b
  · have c1 : w.cell? ⟨p, 1, none⟩ = some (.int .u8 1) := c1
    go_enter Try.func23, Try.ntmps23
    go_wp2_with fail
    go_ret
    exact ⟨rfl, rfl⟩
  · have c1 : w.cell? ⟨p, 1, none⟩ = some (.int .u8 2) := c1
    go_enter Try.func23, Try.ntmps23
    go_wp2_with fail
    go_ret
    exact ⟨rfl, rfl⟩
end BytesW
end Go.Proofs.Ytjmdjdkpcmekmaa
