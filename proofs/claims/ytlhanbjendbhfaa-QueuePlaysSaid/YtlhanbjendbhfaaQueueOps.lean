/-
  A queue's memory; Len, First, Due, Drop, Take, Put.
-/
import Derived.Test.YtlhanbjendbhfaaQueueHeap2
namespace Go.Proofs.Ytlhanbjendbhfaa
open Go.RowKit
set_option linter.unusedVariables false
set_option linter.unusedSimpArgs false
namespace QueW
open BlkP RowG FrS PushG HeapP ChunkW

/-- A queue of just these ticks, whose blocks are those of S. -/
def Que (w : World) (B qb : Nat) (L : List Tick) (S : Nat → Prop) : Prop := ∃ pb v, Blk w qb TQ [.pointer (some ⟨pb, 0, none⟩)] ∧ Hp w B pb v L ∧ B ≤ qb ∧ B ≤ pb ∧ ¬ Sp pb v qb ∧ ∀ k, S k ↔ (k = qb ∨ Sp pb v k)
/-- A queue that has turned: the ticks that it has then. -/
def Turned (w : World) (B qb : Nat) (S : Nat → Prop) (L' : List Tick) (w' : World) : Prop := ∃ S', Que w' B qb L' S' ∧ Fr S w w' ∧ ∀ k, S' k → S k ∨ w.heap.size ≤ k
section
variable {w w' w'' : World} {B qb pb : Nat} {L L' L'' : List Tick} {S T : Nat → Prop} {v : Value}
theorem Hp.fr (h : Hp w B pb v L) (hf : Fr T w w') (h1 : ¬ T pb) (h2 : ∀ g, v.ownBlock = some g → ¬ T g) : Hp w' B pb v L := by
  obtain ⟨l, W, a, b, c⟩ := h
  exact ⟨l, W, a.fr hf h1 h2, b, c⟩
theorem Hp.good (h : Hp w B pb v L) : Good L := by
  obtain ⟨l, W, a, b, c⟩ := h
  exact b.good
theorem Hp.lt (h : Hp w B pb v L) : pb < w.heap.size := by
  obtain ⟨l, W, a, b, c⟩ := h
  exact a.lt
theorem Que.good (h : Que w B qb L S) : Good L := by
  obtain ⟨pb, v, h1, h2, _⟩ := h
  exact h2.good
theorem Que.fr (h : Que w B qb L S) (hf : Fr T w w') (hd : ∀ k, S k → ¬ T k) : Que w' B qb L S := by
  obtain ⟨pb, v, h1, h2, h3, h4, h5, h6⟩ := h
  exact ⟨pb, v, hf.blk h1 (hd _ ((h6 _).2 (.inl rfl))), h2.fr hf (hd _ ((h6 _).2 (.inr (.inl rfl)))) (fun g hg => hd _ ((h6 _).2 (.inr (.inr hg)))), h3, h4, h5, h6⟩
theorem Que.below (h : Que w B qb L S) (hb : Below w.heap.size w w') : Que w' B qb L S := h.fr (Fr.below (fun _ => False) hb) (fun _ _ q => q)
theorem Que.ge (h : Que w B qb L S) {k : Nat} (hk : S k) : B ≤ k ∧ k < w.heap.size := by
  obtain ⟨pb, v, h1, ⟨l, W, h2, _⟩, h3, h4, h5, h6⟩ := h
  rcases (h6 k).1 hk with rfl | rfl | q
  · exact ⟨h3, h1.lt⟩
  · exact ⟨h4, h2.lt⟩
  · exact h2.row.ge k q
theorem Que.lt (h : Que w B qb L S) : qb < w.heap.size := by
  obtain ⟨pb, v, h1, _⟩ := h
  exact h1.lt
theorem Que.toBelow (h : Que w B qb L S) (hf : Fr S w w') : Below B w w' := by
  have := h.lt
  have hq : S qb := by
    obtain ⟨pb, v, h1, h2, h3, h4, h5, h6⟩ := h
    exact (h6 _).2 (.inl rfl)
  exact hf.toBelow (by have := h.ge hq; omega) (fun k hk => (h.ge hk).1)
theorem Turned.same (h : Que w B qb L S) (hb : Below w.heap.size w w') : Turned w B qb S L w' := ⟨S, h.below hb, Fr.below _ hb, fun _ hk => .inl hk⟩
end
section
variable {w : World} {B qb pb : Nat} {L : List Tick} {S : Nat → Prop}
theorem isMade_c (h : Blk w qb TQ [.pointer (some ⟨pb, 0, none⟩)]) :
    Calls Try.prog 36 #[.pointer (some ⟨qb, 0, none⟩)] w fun e w' => e = .returned (.bool true) ∧ w' = w := by
  have c0 := h.cell (i := 0) rfl
  have l0 := h.lt
  clear h
  go_enter Try.func36, Try.ntmps36
  go_wp2_with fail
  go_ret
  exact ⟨rfl, rfl⟩
theorem isMade_no {p : Option Addr} (h : p = none ∨ ∃ b, p = some ⟨b, 0, none⟩ ∧ Blk w b TQ [.pointer none]) :
    Calls Try.prog 36 #[.pointer p] w fun e w' => e = .returned (.bool false) ∧ w' = w := by
  rcases h with rfl | ⟨b, rfl, h⟩
  · go_enter Try.func36, Try.ntmps36
    go_wp2_with fail
    go_ret
    exact ⟨rfl, rfl⟩
  · have c0 := h.cell (i := 0) rfl
    have l0 := h.lt
    clear h
    go_enter Try.func36, Try.ntmps36
    go_wp2_with fail
    go_ret
    exact ⟨rfl, rfl⟩
set_option maxRecDepth 100000 in
set_option maxHeartbeats 16000000 in
theorem qfind_no {v : Value} {l : List Tick} {W : Nat → Nat} {a : Int} (hq : Blk w qb TQ [.pointer (some ⟨pb, 0, none⟩)]) (h : Pd w B pb v l W) (hw : Ws l W L) (hd : dueL a L = 0) :
    Calls Try.prog 39 #[.pointer (some ⟨qb, 0, none⟩), .int .i64 a] w fun e w' => e = .returned (.int .i64 (-1)) ∧ w' = w := by
  have HQ := Lib.hid hq
  have c0 := hq.cell (i := 0) rfl
  have l0 := hq.lt
  cases hx : isIx a with
  | false =>
    have HX := Lib.hid hx
    clear hq h hw hd hx
    go_enter Try.func39, Try.ntmps39
    go_wp2_with fail
    refine (isMade_c HQ.out).mono ?_
    rintro e w1 ⟨rfl, rfl⟩
    go_wp2_with fail
    refine (isIndex_c HX.out).mono ?_
    rintro e w1 ⟨rfl, rfl⟩
    go_wp2_with fail
    go_ret
    exact ⟨rfl, rfl⟩
  | true =>
    have HX := Lib.hid hx
    simp only [isIx, Bool.and_eq_true, decide_eq_true_eq] at hx
    obtain ⟨a, rfl⟩ : ∃ b : Nat, a = (b : Int) := ⟨a.toNat, by omega⟩
    have hW := (hw.where_ hx.1 hx.2).1 hd
    rw [Int.toNat_natCast] at hW
    have HW := Lib.hid hW
    have HB := Lib.hid h.blk
    have ha : a < 4096 := by omega
    clear hq h hw hd hx hW
    go_enter Try.func39, Try.ntmps39
    go_wp2_with fail
    refine (isMade_c HQ.out).mono ?_
    rintro e w1 ⟨rfl, rfl⟩
    go_wp2_with fail
    refine (isIndex_c HX.out).mono ?_
    rintro e w1 ⟨rfl, rfl⟩
    go_wp2_with fail
    refine (find_c HB.out ha HW.out (by omega)).mono ?_
    rintro e w1 ⟨rfl, rfl⟩
    go_wp2_with fail
    go_ret
    exact ⟨rfl, rfl⟩
set_option maxRecDepth 100000 in
set_option maxHeartbeats 16000000 in
theorem qfind_at {v : Value} {l : List Tick} {W : Nat → Nat} {a i : Nat} (hq : Blk w qb TQ [.pointer (some ⟨pb, 0, none⟩)]) (h : Pd w B pb v l W) (ha : a < 4096) (hi : W a = i + 1) (hi2 : i < 4096) :
    Calls Try.prog 39 #[.pointer (some ⟨qb, 0, none⟩), .int .i64 (a : Int)] w fun e w' => e = .returned (.int .i64 (i : Int)) ∧ w' = w := by
  have HQ := Lib.hid hq
  have c0 := hq.cell (i := 0) rfl
  have l0 := hq.lt
  have HX := Lib.hid (show isIx (a : Int) = true by simp [isIx]; omega)
  have HW := Lib.hid hi
  have HB := Lib.hid h.blk
  have hiI : ((i + 1 : Nat) : Int) - 1 = (i : Int) := by omega
  clear hq h hi
  go_enter Try.func39, Try.ntmps39
  go_wp2_with fail
  refine (isMade_c HQ.out).mono ?_
  rintro e w1 ⟨rfl, rfl⟩
  go_wp2_with fail
  refine (isIndex_c HX.out).mono ?_
  rintro e w1 ⟨rfl, rfl⟩
  go_wp2_with fail
  refine (find_c HB.out ha HW.out (by omega)).mono ?_
  rw [hiI]
  rintro e w1 ⟨rfl, rfl⟩
  go_wp2_with fail
  go_ret
  exact ⟨rfl, rfl⟩
set_option maxRecDepth 100000 in
set_option maxHeartbeats 16000000 in
theorem qLen_c (h : Que w B qb L S) :
    Calls Try.prog 24 #[.pointer (some ⟨qb, 0, none⟩)] w fun e w' => e = .returned (.int .i64 (L.length : Int)) ∧ w' = w := by
  obtain ⟨pb, v, hq, ⟨l, W, hp, hw, hh⟩, hb1, hb2, hns, hS⟩ := h
  have HQ := Lib.hid hq
  have HP := Lib.hid hp
  have HW := Lib.hid hw
  have HH := Lib.hid hh
  have HS := Lib.hid hS
  have HNS := Lib.hid hns
  have c0 := hq.cell (i := 0) rfl
  have l0 := hq.lt
  have p0 := hp.cell0
  have pl := hp.lt
  obtain ⟨A, c, rfl, _, _, _⟩ := own_len hp.row rfl
  have hl : (l.length : Int) = (L.length : Int) := by rw [hw.len]
  have HL := Lib.hid hl
  clear hq hp hw hh hS hns hl
  go_enter Try.func24, Try.ntmps24
  go_wp2_with fail
  refine (isMade_c HQ.out).mono ?_
  rintro e w1 ⟨rfl, rfl⟩
  go_wp2_with fail
  refine (len_c).mono ?_
  rintro e w1 ⟨rfl, rfl⟩
  go_wp2_with fail
  go_ret
  exact ⟨by show Ending.returned _ = _; rw [← HL.out]; rfl, rfl⟩
set_option maxRecDepth 100000 in
set_option maxHeartbeats 16000000 in
theorem First_c {a d : Int} {b : Bool} (h : Que w B qb L S) (hf : firstL L = (a, d)) (hb : decide (L ≠ []) = b) :
    Calls Try.prog 25 #[.pointer (some ⟨qb, 0, none⟩)] w fun e w' => e = .returned (.tuple #[.agg #[.int .i64 a, .int .i64 d], .bool b]) ∧ Below w.heap.size w w' := by
  have HL := Lib.hid h
  obtain ⟨pb, v, hq, ⟨l, W, hp, hw, hh⟩, hb1, hb2, hns, hS⟩ := h
  have HQ := Lib.hid hq
  have HP := Lib.hid hp
  have HW := Lib.hid hw
  have HH := Lib.hid hh
  have HS := Lib.hid hS
  have HNS := Lib.hid hns
  have c0 := hq.cell (i := 0) rfl
  have l0 := hq.lt
  have p0 := hp.cell0
  have pl := hp.lt
  have hb0 : Below w.heap.size w w := Below.refl _ _
  by_cases h0 : L = []
  · subst h0
    obtain ⟨rfl, rfl⟩ : 0 = a ∧ 0 = d := by
      have : ((0 : Int), (0 : Int)) = (a, d) := hf
      simpa using this
    obtain rfl : false = b := by rw [← hb]; simp
    clear hq hp hw hh hS hns hf hb hb0
    go_enter Try.func25, Try.ntmps25
    go_wp2_with fail
    refine (qLen_c (HL.out.below (by (repeat' (first | (with_reducible exact Below.refl _ _) | (with_reducible refine Below.setCell ?_ (by (first | omega | (simp; done) | (simp; omega))) _) | (with_reducible refine Below.alloc ?_ (by (first | omega | (simp; done) | (simp; omega))) _) | (with_reducible refine Below.drew ?_) | (with_reducible refine below_drewN ?_ _)))))).mono ?_
    rintro e w1 ⟨rfl, rfl⟩
    go_wp2_with fail
    refine bodyPost_ret (v := .tuple #[.agg #[.int .i64 0, .int .i64 0], .bool false]) (by simp [results, Try.results25, go_sem]) rfl ?_
    exact ⟨rfl, by (repeat' (first | (with_reducible exact Below.refl _ _) | (with_reducible refine Below.setCell ?_ (by (first | omega | (simp; done) | (simp; omega))) _) | (with_reducible refine Below.alloc ?_ (by (first | omega | (simp; done) | (simp; omega))) _) | (with_reducible refine Below.drew ?_) | (with_reducible refine below_drewN ?_ _)))⟩
  · obtain rfl : true = b := by rw [← hb]; simp [h0]
    have hlen := hw.len
    have hpos : 0 < L.length := List.length_pos_iff.2 h0
    obtain ⟨g, c, rfl⟩ := own_some hp.row (by omega)
    have hx := (hw.first hh (by omega)).2
    rw [hf] at hx
    have x0 := hp.row.cell (j := 0) hx rfl
    have x1 := hp.row.cell (j := 1) hx rfl
    simp only [show encT.k = 2 from rfl, Nat.add_zero, Nat.zero_mul, Nat.zero_add] at x0 x1
    have hg := (hp.row.ge g rfl).2
    have hneI : ((L.length : Int) == 0) = false := by simp; omega
    have hll : 0 < l.length := by omega
    clear hq hp hw hh hS hns hf hb hx hlen hb0
    go_enter Try.func25, Try.ntmps25
    go_wp2_with fail
    refine (qLen_c (HL.out.below (by (repeat' (first | (with_reducible exact Below.refl _ _) | (with_reducible refine Below.setCell ?_ (by (first | omega | (simp; done) | (simp; omega))) _) | (with_reducible refine Below.alloc ?_ (by (first | omega | (simp; done) | (simp; omega))) _) | (with_reducible refine Below.drew ?_) | (with_reducible refine below_drewN ?_ _)))))).mono ?_
    rintro e w1 ⟨rfl, rfl⟩
    go_wp2_with fail
    refine bodyPost_ret (v := .tuple #[.agg #[.int .i64 a, .int .i64 d], .bool true]) (by simp [results, Try.results25, go_sem]) rfl ?_
    exact ⟨rfl, by (repeat' (first | (with_reducible exact Below.refl _ _) | (with_reducible refine Below.setCell ?_ (by (first | omega | (simp; done) | (simp; omega))) _) | (with_reducible refine Below.alloc ?_ (by (first | omega | (simp; done) | (simp; omega))) _) | (with_reducible refine Below.drew ?_) | (with_reducible refine below_drewN ?_ _)))⟩
set_option maxRecDepth 100000 in
set_option maxHeartbeats 16000000 in
theorem Due_c {a x : Int} {b : Bool} (h : Que w B qb L S) (hx : dueL a L = x) (hb : decide (x ≠ 0) = b) :
    Calls Try.prog 20 #[.pointer (some ⟨qb, 0, none⟩), .int .i64 a] w fun e w' => e = .returned (.tuple #[.int .i64 x, .bool b]) ∧ w' = w := by
  obtain ⟨pb, v, hq, ⟨l, W, hp, hw, hh⟩, hb1, hb2, hns, hS⟩ := h
  have HQ := Lib.hid hq
  have HP := Lib.hid hp
  have HW := Lib.hid hw
  have HH := Lib.hid hh
  have HS := Lib.hid hS
  have HNS := Lib.hid hns
  have c0 := hq.cell (i := 0) rfl
  have l0 := hq.lt
  have p0 := hp.cell0
  have pl := hp.lt
  by_cases h0 : x = 0
  · subst h0
    obtain rfl : false = b := by rw [← hb]; simp
    have HX := Lib.hid hx
    clear hq hp hw hh hS hns hb hx
    go_enter Try.func20, Try.ntmps20
    go_wp2_with fail
    refine (qfind_no HQ.out HP.out HW.out HX.out).mono ?_
    rintro e w1 ⟨rfl, rfl⟩
    go_wp2_with fail
    refine bodyPost_ret (v := .tuple #[.int .i64 0, .bool false]) (by simp [results, Try.results20, go_sem]) rfl ?_
    exact ⟨rfl, rfl⟩
  · obtain rfl : true = b := by rw [← hb]; simp [h0]
    have hm := hw.good.mem ((due_mem hw.good.1).2 ⟨hx, h0⟩)
    obtain ⟨m1, m2, _, _⟩ := mayB_iff.1 hm
    simp only at m1 m2
    obtain ⟨i, hi1, hi2, hi3⟩ := (hw.where_ m1 m2).2 (by rw [hx]; exact h0)
    obtain ⟨a, rfl⟩ : ∃ b : Nat, a = (b : Int) := ⟨a.toNat, by omega⟩
    rw [Int.toNat_natCast] at hi1
    rw [hx] at hi3
    obtain ⟨g, c, rfl⟩ := own_some hp.row (by omega)
    have x1 := hp.row.cell (j := 1) hi3 rfl
    simp only [show encT.k = 2 from rfl, Nat.add_zero] at x1
    have hg := (hp.row.ge g rfl).2
    have hf5 := hw.few
    have hiI : (i : Int) < (l.length : Int) := by omega
    have hlI : (l.length : Int) ≤ 4096 := by omega
    have HI := Lib.hid hi1
    have ha : a < 4096 := by omega
    clear hq hp hw hh hS hns hb hx hm hi1 hi3
    go_enter Try.func20, Try.ntmps20
    go_wp2_with fail
    refine (qfind_at HQ.out HP.out ha HI.out (by omega)).mono ?_
    rintro e w1 ⟨rfl, rfl⟩
    go_wp2_with fail
    refine bodyPost_ret (v := .tuple #[.int .i64 x, .bool true]) (by simp [results, Try.results20, go_sem]) rfl ?_
    exact ⟨rfl, rfl⟩
end
end QueW
end Go.Proofs.Ytlhanbjendbhfaa
