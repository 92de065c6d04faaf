/-
  BytesLay: what is laid is what the document says.
-/
import Derived.Test.YtblfahnjogaacaaBytesRefs2
import Derived.Test.YtblfahnjogaacaaBytesAsk
namespace Go.Proofs.Ytblfahnjogaacaa
open Go.RowKit
open Go.Lib (uvarint uvarint_small uvarint_big uvarint_length64 uvarint_pos zigzag)
set_option linter.unusedVariables false
set_option linter.unusedSimpArgs false
namespace BytesW

/-- Four rows, the bytes behind which they were laid, and what was handed in: kept by whatever turns nothing that was there. -/
def LayS (w v W : World) (A1 A2 A3 A4 A0 : Option Addr) (l1 l2 l3 l4 l0 : List UInt8) (b : Nat) (n i k : Int) : Prop :=
  At W A1 l1 ∧ At W A2 l2 ∧ At W A3 l3 ∧ At W A4 l4 ∧ At W A0 l0 ∧ (W.cell? ⟨b, 0, none⟩ = some (.int .u64 n) ∧ W.cell? ⟨b, 1, none⟩ = some (.int .i64 i) ∧ W.cell? ⟨b, 3, none⟩ = some (.int .i64 k)) ∧ b < W.heap.size ∧ Below w.heap.size w W ∧ Below v.heap.size v W
theorem LayS.keep {w v W W' : World} {A1 A2 A3 A4 A0 : Option Addr} {l1 l2 l3 l4 l0 : List UInt8} {b : Nat} {n i k : Int} (hb : Below W.heap.size W W') (h : LayS w v W A1 A2 A3 A4 A0 l1 l2 l3 l4 l0 b n i k) : LayS w v W' A1 A2 A3 A4 A0 l1 l2 l3 l4 l0 b n i k := by
  obtain ⟨h1, h2, h3, h4, h0, ⟨c0, c1, c3⟩, hlt, hw, hv⟩ := h
  exact ⟨h1.below hb, h2.below hb, h3.below hb, h4.below hb, h0.below hb, ⟨(hb.cell (p := ⟨b, 0, none⟩) hlt).trans c0, (hb.cell (p := ⟨b, 1, none⟩) hlt).trans c1, (hb.cell (p := ⟨b, 3, none⟩) hlt).trans c3⟩, Nat.lt_of_lt_of_le hlt hb.size, below_more hw hb, below_more hv hb⟩
def LayT (w v W : World) (A1 A2 A3 A4 A0 : Option Addr) (l1 l2 l3 l4 l0 : List UInt8) (b : Nat) (n i k : Int) (d1 d2 d3 d4 : Nat) : Prop :=
  (convert 26 9 (.slice A1 l1.length d1)).run Try.prog W = .ok (.string ⟨l1.toArray⟩) W ∧ (convert 26 9 (.slice A2 l2.length d2)).run Try.prog W = .ok (.string ⟨l2.toArray⟩) W ∧
  (convert 26 9 (.slice A3 l3.length d3)).run Try.prog W = .ok (.string ⟨l3.toArray⟩) W ∧ (convert 26 9 (.slice A4 l4.length d4)).run Try.prog W = .ok (.string ⟨l4.toArray⟩) W ∧
  W.cell? ⟨b, 0, none⟩ = some (.int .u64 n) ∧ W.cell? ⟨b, 1, none⟩ = some (.int .i64 i) ∧ W.cell? ⟨b, 3, none⟩ = some (.int .i64 k) ∧ LayS w v W A1 A2 A3 A4 A0 l1 l2 l3 l4 l0 b n i k
theorem LayT.of {w v W : World} {A1 A2 A3 A4 A0 : Option Addr} {l1 l2 l3 l4 l0 : List UInt8} {b : Nat} {n i k : Int} (d1 d2 d3 d4 : Nat) (h : LayS w v W A1 A2 A3 A4 A0 l1 l2 l3 l4 l0 b n i k) : LayT w v W A1 A2 A3 A4 A0 l1 l2 l3 l4 l0 b n i k d1 d2 d3 d4 :=
  ⟨run_str W d1 h.1, run_str W d2 h.2.1, run_str W d3 h.2.2.1, run_str W d4 h.2.2.2.1, h.2.2.2.2.2.1.1, h.2.2.2.2.2.1.2.1, h.2.2.2.2.2.1.2.2, h⟩
theorem LayT.keep {w v W W' : World} {A1 A2 A3 A4 A0 : Option Addr} {l1 l2 l3 l4 l0 : List UInt8} {b : Nat} {n i k : Int} {d1 d2 d3 d4 : Nat} (hb : Below W.heap.size W W') (h : LayT w v W A1 A2 A3 A4 A0 l1 l2 l3 l4 l0 b n i k d1 d2 d3 d4) : LayT w v W' A1 A2 A3 A4 A0 l1 l2 l3 l4 l0 b n i k d1 d2 d3 d4 :=
  LayT.of d1 d2 d3 d4 (LayS.keep hb h.2.2.2.2.2.2.2)
theorem append_bytes (a b : List UInt8) : (⟨a.toArray⟩ : ByteArray) ++ ⟨b.toArray⟩ = ⟨(a ++ b).toArray⟩ := by
  apply ByteArray.ext
  simp
theorem str_add {a b c : List UInt8} (h : (⟨a.toArray⟩ : ByteArray) ++ ⟨b.toArray⟩ = ⟨c.toArray⟩) (ha : a.length ≤ 100000) (hb : b.length ≤ 100000) (w : World) : (binOp .add 9 (.string ⟨a.toArray⟩) (.string ⟨b.toArray⟩)).run Try.prog w = .ok (.string ⟨c.toArray⟩) w := by
  have e1 : (⟨a.toArray⟩ : ByteArray).size = a.length := by simp [ByteArray.size]
  have e2 : (⟨b.toArray⟩ : ByteArray).size = b.length := by simp [ByteArray.size]
  rw [← h]
  have hr := run_string_add_sum (P := Try.prog) (w := w) ⟨a.toArray⟩ ⟨b.toArray⟩ (by rw [e1, e2]; omega)
  simpa [binOp, run_underlying under9] using hr
theorem boxed (w : World) (a b c d : Value) (T : TypeId) : (w.alloc (.cells #[a, b, c, d] T)).cell? ⟨w.heap.size, 0, none⟩ = some a ∧ (w.alloc (.cells #[a, b, c, d] T)).cell? ⟨w.heap.size, 1, none⟩ = some b ∧ (w.alloc (.cells #[a, b, c, d] T)).cell? ⟨w.heap.size, 3, none⟩ = some d :=
  ⟨World.cell?_alloc_new _ _ _ _, World.cell?_alloc_new _ _ _ _, World.cell?_alloc_new _ _ _ _⟩
theorem At.far {w w' : World} {l : List UInt8} {g b : Nat} (h : At w (some ⟨b, 0, none⟩) l) (hne : b ≠ g) (hg : w.grownBy w' (some g)) : At w' (some ⟨b, 0, none⟩) l := fun hl => by
  obtain ⟨b', o, cs, fr, hA, hb, hc⟩ := h hl
  injection hA with hA
  injection hA with h1 h2 _
  subst h1 h2
  exact ⟨b, 0, cs, fr, rfl, (hg.block b (lt_of_heap hb) (fun e => hne (by injection e))).trans hb, hc⟩
def Row77 (w5 : World) (B g n c : Nat) (wr : World) : Prop := w5.grownBy wr (some g) ∧ ∃ xs, wr.ownsRow B 5 1 (.slice (some ⟨g, 0, none⟩) n c) n xs
theorem Row77.at_ {w5 wr : World} {B g n c j : Nat} (h : Row77 w5 B g n c wr) (hj : j < n) : (∃ x, wr.cell? ⟨g, j, none⟩ = some x) ∧ wr.frozen? ⟨g, j, none⟩ = false ∧ ∀ u, Row77 w5 B g n c (wr.setCell ⟨g, j, none⟩ u) := by
  obtain ⟨hg, xs, hx⟩ := h
  have hl : xs.length = n * 1 := hx.1
  refine ⟨⟨xs[j]'(by omega), ?_⟩, hx.frozenAt j, fun u => ?_⟩
  · rw [hx.cellAt j (by omega)]
    exact List.getElem?_eq_getElem _
  · obtain ⟨h1, h2⟩ := hx.stored j u
    exact ⟨hg.trans h2, _, h1⟩
def Rel77 (w5 : World) (B g n c : Nat) (i : Value) (wr : World) : Prop := ∃ j : Nat, i = .int .i64 j ∧ j ≤ n ∧ Row77 w5 B g n c wr
set_option maxRecDepth 100000 in
set_option maxHeartbeats 800000 in
theorem law_lay {s0 s2 : List UInt8} {n i k : Int} (hs0 : s0.length ≤ 9223372036854775807) (hs2 : s2.length ≤ 9223372036854775807) (hn0 : 0 ≤ n) (hn1 : n ≤ 18446744073709551615) (hi0 : -9223372036854775808 ≤ i) (hi1 : i ≤ 9223372036854775807) (hk0 : -9223372036854775808 ≤ k) (hk1 : k ≤ 9223372036854775807) (w : World) :
    Calls Try.prog 3 #[.string ⟨s0.toArray⟩, .agg #[.int .u64 n, .int .i64 i, .string ⟨s2.toArray⟩, .int .i64 k]] w fun e w' => e = .returned (.bool true) ∧ Below w.heap.size w w' := by
  obtain ⟨m, hm⟩ := Int.eq_ofNat_of_zero_le hn0
  have hm64 : m < 18446744073709551616 := by omega
  have HM := Lib.hid hm
  have HM64 := Lib.hid hm64
  obtain ⟨l, hl⟩ : ∃ l, l = s0.take 1000 := ⟨_, rfl⟩
  obtain ⟨t, ht⟩ : ∃ t, t = s2.take 1000 := ⟨_, rfl⟩
  have hll : l.length ≤ 1000 := by rw [hl]; simp; omega
  have htl : t.length ≤ 1000 := by rw [ht]; simp; omega
  have HL := Lib.hid hl
  have HT := Lib.hid ht
  obtain ⟨u1, hu1⟩ : ∃ u, u = uvarint m := ⟨_, rfl⟩
  obtain ⟨u2, hu2⟩ : ∃ u, u = uvarint (zigzag i) := ⟨_, rfl⟩
  obtain ⟨u3, hu3⟩ : ∃ u, u = uvarint t.length ++ t := ⟨_, rfl⟩
  obtain ⟨u4, hu4⟩ : ∃ u, u = fxI m k := ⟨_, rfl⟩
  have HU1 := Lib.hid hu1
  have HU2 := Lib.hid hu2
  have HU3 := Lib.hid hu3
  have HU4 := Lib.hid hu4
  have b1 : u1.length ≤ 10 := by rw [hu1]; exact uvarint_length64 hm64
  have p1 : 1 ≤ u1.length := by rw [hu1]; exact uvarint_pos m
  have b2 : u2.length ≤ 10 := by rw [hu2]; exact uvarint_length64 (Lib.zigzag_lt hi0 hi1)
  have b3 : u3.length ≤ 1010 := by rw [hu3]; have := uvarint_length64 (x := t.length) (by omega); simp; omega
  have b4 : u4.length ≤ 8 := by
    rw [hu4]
    unfold fxI
    split
    · rw [fx_length]
      omega
    · simp
  obtain ⟨l1, hl1⟩ : ∃ x, x = l ++ u1 := ⟨_, rfl⟩
  obtain ⟨l2, hl2⟩ : ∃ x, x = l ++ u2 := ⟨_, rfl⟩
  obtain ⟨l3, hl3⟩ : ∃ x, x = l ++ u3 := ⟨_, rfl⟩
  obtain ⟨l4, hl4⟩ : ∃ x, x = l ++ u4 := ⟨_, rfl⟩
  have H1 : Hid (l ++ uvarint m = l1) := Lib.hid (by rw [hl1, hu1])
  have H2 : Hid (l ++ uvarint (zigzag i) = l2) := Lib.hid (by rw [hl2, hu2])
  have H3 : Hid (l ++ uvarint t.length ++ t = l3) := Lib.hid (by rw [hl3, hu3, List.append_assoc])
  have H4 : Hid (l ++ fxI m k = l4) := Lib.hid (by rw [hl4, hu4])
  have HE1 : Hid ((⟨l.toArray⟩ : ByteArray) ++ ⟨u1.toArray⟩ = ⟨l1.toArray⟩) := Lib.hid (by rw [append_bytes, hl1])
  have HE2 : Hid ((⟨l.toArray⟩ : ByteArray) ++ ⟨u2.toArray⟩ = ⟨l2.toArray⟩) := Lib.hid (by rw [append_bytes, hl2])
  have HE3 : Hid ((⟨l.toArray⟩ : ByteArray) ++ ⟨u3.toArray⟩ = ⟨l3.toArray⟩) := Lib.hid (by rw [append_bytes, hl3])
  have HE4 : Hid ((⟨l.toArray⟩ : ByteArray) ++ ⟨u4.toArray⟩ = ⟨l4.toArray⟩) := Lib.hid (by rw [append_bytes, hl4])
  have p11 : 1 ≤ l1.length := by rw [hl1]; simp; omega
  have p12 : l1.length ≤ 1010 := by rw [hl1]; simp; omega
  have HP1 : Hid (0 < (l ++ uvarint m).length) := Lib.hid (by rw [H1.out]; omega)
  clear hl ht hm hm64 hu1 hu2 hu3 hu4 hl1 hl2 hl3 hl4
  go_enter Try.func3, Try.ntmps3
  go_wp2_with fail
  go_at_call 10
  refine (cut_c (n := 1000) hs0 (by omega) _).mono ?_
  rintro e w' ⟨rfl, rfl⟩
  rw [← HL.out]
  go_wp2_with fail
  go_at_call 10
  refine (cut_c (n := 1000) hs2 (by omega) _).mono ?_
  rintro e w' ⟨rfl, rfl⟩
  rw [← HT.out]
  obtain ⟨g00, g01, g03⟩ := boxed w (.int .u64 n) (.int .i64 i) (.string ⟨s2.toArray⟩) (.int .i64 k) 24
  go_wp2_with ((with_reducible refine at_slot 18 ?_); refine wp_bytes rfl (.tmp 17) rfl (l := l) rfl ?_ (by simp only [maxLen]; omega); intro c1 w1 cs1 hcs1 k1 k2 k3 k4 hb1 hz1; have g10 := (hb1.cell (p := ⟨w.heap.size, 0, none⟩) (by simp)).trans g00; have g11 := (hb1.cell (p := ⟨w.heap.size, 1, none⟩) (by simp)).trans g01; have g13 := (hb1.cell (p := ⟨w.heap.size, 3, none⟩) (by simp)).trans g03; have hcs2 : w1.heap[w.heap.size + 1]? = some (Obj.cells cs1 5 (cs1.size, cs1.size + 1)) := (by simpa using hcs1); have hA0 := at_bytes hcs2 k4; clear hcs2; have HB1 := Lib.hid (((Below.refl _ w).alloc (Nat.le_refl _) _).trans (hb1.mono (by simp))); have hz11 := HB1.out.size; have hlt1 : w.heap.size + 1 < w1.heap.size := (by simpa using hz1); clear hb1 k4 hcs1)
  go_wp2_with fail
  go_at_call 11
  refine (put_x (n := m) hA0 (by omega) HM64.out HM.out).mono ?_
  rintro e w2 ⟨v2, rfl, hown2, hb2⟩
  obtain ⟨gb, cap, hv2, hgb, hgl⟩ := World.ownsRow.form hown2 HP1.out
  rw [H1.out] at hv2 hown2
  subst hv2
  have hS2 := hown2.sl
  obtain ⟨A2, d2, he2, hA2, hd2, hdd2⟩ := hS2
  injection he2 with he2 _ he3
  subst he2 he3
  have g20 := (hb2.cell (p := ⟨w.heap.size, 0, none⟩) (show w.heap.size < w1.heap.size by omega)).trans g10; have g21 := (hb2.cell (p := ⟨w.heap.size, 1, none⟩) (show w.heap.size < w1.heap.size by omega)).trans g11; have g23 := (hb2.cell (p := ⟨w.heap.size, 3, none⟩) (show w.heap.size < w1.heap.size by omega)).trans g13
  have hA0b2 := hA0.below hb2
  have HB2 := Lib.hid (below_more HB1.out hb2)
  have hz2 := HB2.out.size
  have hlt2 : w.heap.size + 1 < w2.heap.size := by have := hb2.size; omega
  clear hb2
  go_wp2_with fail
  go_at_call 12
  refine (putInt_c hA0b2 (by omega) hi0 hi1).mono ?_
  rintro e w3 ⟨v3, rfl, hown3, hb3⟩
  rw [H2.out] at hown3
  obtain ⟨A3, d3, rfl, hA3, hd3, hdd3⟩ := hown3.sl
  have g30 := (hb3.cell (p := ⟨w.heap.size, 0, none⟩) (show w.heap.size < w2.heap.size by omega)).trans g20; have g31 := (hb3.cell (p := ⟨w.heap.size, 1, none⟩) (show w.heap.size < w2.heap.size by omega)).trans g21; have g33 := (hb3.cell (p := ⟨w.heap.size, 3, none⟩) (show w.heap.size < w2.heap.size by omega)).trans g23
  have hA0b3 := hA0b2.below hb3
  have HB3 := Lib.hid (below_more HB2.out hb3)
  have hz3 := HB3.out.size
  have hA2_3 := hA2.below hb3
  have hown2_3 := hown2.below hb3
  have hlt3 : w.heap.size + 1 < w3.heap.size := by have := hb3.size; omega
  clear hb3
  go_wp2_with fail
  go_at_call 13
  refine (putText_c hA0b3 (by omega) (by omega)).mono ?_
  rintro e w4 ⟨v4, rfl, hown4, hb4⟩
  rw [H3.out] at hown4
  obtain ⟨A4, d4, rfl, hA4, hd4, hdd4⟩ := hown4.sl
  have g40 := (hb4.cell (p := ⟨w.heap.size, 0, none⟩) (show w.heap.size < w3.heap.size by omega)).trans g30; have g41 := (hb4.cell (p := ⟨w.heap.size, 1, none⟩) (show w.heap.size < w3.heap.size by omega)).trans g31; have g43 := (hb4.cell (p := ⟨w.heap.size, 3, none⟩) (show w.heap.size < w3.heap.size by omega)).trans g33
  have hA0b4 := hA0b3.below hb4
  have HB4 := Lib.hid (below_more HB3.out hb4)
  have hz4 := HB4.out.size
  have hA2_4 := hA2_3.below hb4
  have hA3_4 := hA3.below hb4
  have hown2_4 := hown2_3.below hb4
  have hlt4 : w.heap.size + 1 < w4.heap.size := by have := hb4.size; omega
  clear hb4
  go_wp2_with fail
  go_at_call 14
  refine (putFixed_c (n := m) hA0b4 (by omega) HM64.out HM.out).mono ?_
  rintro e w5 ⟨v5, rfl, hown5, hb5⟩
  rw [H4.out] at hown5
  obtain ⟨A5, d5, rfl, hA5, hd5, hdd5⟩ := hown5.sl
  have g50 := (hb5.cell (p := ⟨w.heap.size, 0, none⟩) (show w.heap.size < w4.heap.size by omega)).trans g40; have g51 := (hb5.cell (p := ⟨w.heap.size, 1, none⟩) (show w.heap.size < w4.heap.size by omega)).trans g41; have g53 := (hb5.cell (p := ⟨w.heap.size, 3, none⟩) (show w.heap.size < w4.heap.size by omega)).trans g43
  have hA0b5 := hA0b4.below hb5
  have HB5 := Lib.hid (below_more HB4.out hb5)
  have hz5 := HB5.out.size
  have hA2_5 := hA2_4.below hb5
  have hA3_5 := hA3_4.below hb5
  have hA4_5 := hA4.below hb5
  have hown2_5 := hown2_4.below hb5
  have hlt5 : w.heap.size + 1 < w5.heap.size := by have := hb5.size; omega
  clear hb5
  have hS : LayS w w5 w5 (some ⟨gb, 0, none⟩) A3 A4 A5 (some ⟨w.heap.size + 1, 0, none⟩) l1 l2 l3 l4 l w.heap.size n i k := ⟨hA2_5, hA3_5, hA4_5, hA5, hA0b5, ⟨g50, g51, g53⟩, by omega, HB5.out, Below.refl _ _⟩
  have HS := Lib.hid (LayS.keep (Below.refl _ w5).drew hS)
  have HO := Lib.hid hown2_5
  have hgb5 : gb < w5.heap.size := (World.ownsRow.lt HO.out gb rfl).2
  clear hS hA2_5 hA3_5 hA4_5 hA5 hA0b5 g50 g51 g53 hown2_5 hown2_4 hown2_3 hA2_3 hA2_4 hA3_4 hA2 hA3 hA4 hA0 hA0b2 hA0b3 hA0b4 g00 g01 g03 g10 g11 g13 g20 g21 g23 g30 g31 g33 g40 g41 g43 hown2 hown3 hown4 hown5
  go_wp2_with fail
  have hq1 : (9223372036854775807 < l.length + u1.length) = False := eq_false (by omega)
  have he1 := HE1.out
  have hq2 : (9223372036854775807 < l.length + u2.length) = False := eq_false (by omega)
  have he2 := HE2.out
  have hq3 : (9223372036854775807 < l.length + u3.length) = False := eq_false (by omega)
  have he3 := HE3.out
  have hq4 : (9223372036854775807 < l.length + u4.length) = False := eq_false (by omega)
  have he4 := HE4.out
  refine wp_region_noPanic ?_
  refine wp_region_held_drew (S := fun w' => (convert 26 9 (.slice (some ⟨gb, 0, none⟩) l1.length cap)).run Try.prog w' = .ok (.string ⟨l1.toArray⟩) w' ∧ (convert 26 9 (.slice A3 l2.length d3)).run Try.prog w' = .ok (.string ⟨l2.toArray⟩) w' ∧
      (convert 26 9 (.slice A4 l3.length d4)).run Try.prog w' = .ok (.string ⟨l3.toArray⟩) w' ∧ (convert 26 9 (.slice A5 l4.length d5)).run Try.prog w' = .ok (.string ⟨l4.toArray⟩) w' ∧
      w'.cell? ⟨w.heap.size, 0, none⟩ = some (.int .u64 n) ∧ w'.cell? ⟨w.heap.size, 1, none⟩ = some (.int .i64 i) ∧ w'.cell? ⟨w.heap.size, 3, none⟩ = some (.int .i64 k) ∧ LayS w w5 w' (some ⟨gb, 0, none⟩) A3 A4 A5 (some ⟨w.heap.size + 1, 0, none⟩) l1 l2 l3 l4 l w.heap.size n i k) (by kernel_rfl) (LayT.of _ _ _ _ HS.out) (fun hHeld => ?_)
  refine wpAnyH_take (i := 0) (oi := ⟨some 36, _, _, _, _, _⟩) (v := .slice (some ⟨gb, 0, none⟩) l1.length cap) rfl (by kernel_rfl) (by kernel_rfl) (by kernel_rfl) (fun _ _ _ h => h) (Or.inl ⟨by rfl, fun w hSw => by (try dsimp only at hSw); go_simp⟩) hHeld ?_
  simp only [Act.put, List.setIfInBounds_toArray, List.set_cons_zero, List.set_cons_succ]
  refine wpAnyH_take (i := 1) (oi := ⟨some 37, _, _, _, _, _⟩) (v := .string ⟨l1.toArray⟩) rfl (by kernel_rfl) (by kernel_rfl) (by kernel_rfl) (fun _ _ _ h => h) (Or.inl ⟨by rfl, fun w hSw => by (try dsimp only at hSw); go_simp⟩) hHeld ?_
  simp only [Act.put, List.setIfInBounds_toArray, List.set_cons_zero, List.set_cons_succ]
  refine wpAnyH_take (i := 2) (oi := ⟨some 38, _, _, _, _, _⟩) (v := .string ⟨l.toArray⟩) rfl (by kernel_rfl) (by kernel_rfl) (by kernel_rfl) (fun _ _ _ h => h) (Or.inl ⟨by rfl, fun w hSw => by (try dsimp only at hSw); go_simp⟩) hHeld ?_
  simp only [Act.put, List.setIfInBounds_toArray, List.set_cons_zero, List.set_cons_succ]
  refine wpAnyH_take (i := 3) (oi := ⟨some 39, _, _, _, _, _⟩) (v := .pointer (some ⟨w.heap.size, 0, none⟩)) rfl (by kernel_rfl) (by kernel_rfl) (by kernel_rfl) (fun _ _ _ h => h) (Or.inl ⟨by rfl, fun w hSw => by (try dsimp only at hSw); go_simp⟩) hHeld ?_
  simp only [Act.put, List.setIfInBounds_toArray, List.set_cons_zero, List.set_cons_succ]
  refine wpAnyH_take (i := 4) (oi := ⟨some 40, _, _, _, _, _⟩) (v := .int .u64 n) rfl (by kernel_rfl) (by kernel_rfl) (by kernel_rfl) (fun _ _ _ h => h) (Or.inl ⟨by rfl, fun w hSw => by (try dsimp only at hSw); go_simp⟩) hHeld ?_
  simp only [Act.put, List.setIfInBounds_toArray, List.set_cons_zero, List.set_cons_succ]
  refine wpAnyH_ready (rs := [5]) (by kernel_rfl) (by simp) ?_
  refine AllReadyH.cons (o := ⟨some 41, _, _, _, _, _⟩) rfl (fun K hK => ?_) AllReadyH.nil
  go_simp
  refine (r_num_c (n := m) HM64.out HM.out).mono ?_
  rintro e w6 ⟨v6, rfl, hown6, hb6⟩
  rw [← HU1.out] at hown6
  obtain ⟨A6, d6, rfl, hA6, _, _⟩ := hown6.sl
  have r6 := run_str w6 d6 hA6
  go_wp2_with fail
  refine hK.out _ _ (LayT.keep (d1 := cap) (d2 := d3) (d3 := d4) (d4 := d5) hb6 hHeld) (fun hHeld6 => ?_)
  clear hK K hb6 hHeld hA6 hown6
  refine wpAnyH_ready (rs := [6]) (by kernel_rfl) (by simp) ?_
  refine AllReadyH.cons (o := ⟨some 42, _, _, _, _, _⟩) rfl (fun K hK => ?_) AllReadyH.nil
  go_simp
  refine hK.out _ _ hHeld6 (fun _ => ?_)
  clear hK K r6
  refine wpAnyH_take (i := 7) (oi := ⟨some 43, _, _, _, _, _⟩) (v := .string ⟨l1.toArray⟩) rfl (by kernel_rfl) (by kernel_rfl) (by kernel_rfl) (fun _ _ _ h => h) (Or.inl ⟨by rfl, fun w hSw => by (try dsimp only at hSw); go_simp⟩) hHeld6 ?_
  simp only [Act.put, List.setIfInBounds_toArray, List.set_cons_zero, List.set_cons_succ]
  refine wpAnyH_take (i := 8) (oi := ⟨some 44, _, _, _, _, _⟩) (v := .bool false) rfl (by kernel_rfl) (by kernel_rfl) (by kernel_rfl) (fun _ _ _ h => h) (Or.inl ⟨by rfl, fun w hSw => by (try dsimp only at hSw); go_simp⟩) hHeld6 ?_
  simp only [Act.put, List.setIfInBounds_toArray, List.set_cons_zero, List.set_cons_succ]
  refine wpAnyH_take (i := 9) (oi := ⟨some 45, _, _, _, _, _⟩) (v := .bool false) rfl (by kernel_rfl) (by kernel_rfl) (by kernel_rfl) (fun _ _ _ h => h) (Or.inl ⟨by rfl, fun w hSw => by (try dsimp only at hSw); go_simp⟩) hHeld6 ?_
  simp only [Act.put, List.setIfInBounds_toArray, List.set_cons_zero, List.set_cons_succ]
  refine wpAnyH_take (i := 10) (oi := ⟨some 46, _, _, _, _, _⟩) (v := .slice A3 l2.length d3) rfl (by kernel_rfl) (by kernel_rfl) (by kernel_rfl) (fun _ _ _ h => h) (Or.inl ⟨by rfl, fun w hSw => by (try dsimp only at hSw); go_simp⟩) hHeld6 ?_
  simp only [Act.put, List.setIfInBounds_toArray, List.set_cons_zero, List.set_cons_succ]
  refine wpAnyH_take (i := 11) (oi := ⟨some 47, _, _, _, _, _⟩) (v := .string ⟨l2.toArray⟩) rfl (by kernel_rfl) (by kernel_rfl) (by kernel_rfl) (fun _ _ _ h => h) (Or.inl ⟨by rfl, fun w hSw => by (try dsimp only at hSw); go_simp⟩) hHeld6 ?_
  simp only [Act.put, List.setIfInBounds_toArray, List.set_cons_zero, List.set_cons_succ]
  refine wpAnyH_take (i := 12) (oi := ⟨some 48, _, _, _, _, _⟩) (v := .string ⟨l.toArray⟩) rfl (by kernel_rfl) (by kernel_rfl) (by kernel_rfl) (fun _ _ _ h => h) (Or.inl ⟨by rfl, fun w hSw => by (try dsimp only at hSw); go_simp⟩) hHeld6 ?_
  simp only [Act.put, List.setIfInBounds_toArray, List.set_cons_zero, List.set_cons_succ]
  refine wpAnyH_take (i := 13) (oi := ⟨some 49, _, _, _, _, _⟩) (v := .pointer (some ⟨w.heap.size, 1, none⟩)) rfl (by kernel_rfl) (by kernel_rfl) (by kernel_rfl) (fun _ _ _ h => h) (Or.inl ⟨by rfl, fun w hSw => by (try dsimp only at hSw); go_simp⟩) hHeld6 ?_
  simp only [Act.put, List.setIfInBounds_toArray, List.set_cons_zero, List.set_cons_succ]
  refine wpAnyH_take (i := 14) (oi := ⟨some 50, _, _, _, _, _⟩) (v := .int .i64 i) rfl (by kernel_rfl) (by kernel_rfl) (by kernel_rfl) (fun _ _ _ h => h) (Or.inl ⟨by rfl, fun w hSw => by (try dsimp only at hSw); go_simp⟩) hHeld6 ?_
  simp only [Act.put, List.setIfInBounds_toArray, List.set_cons_zero, List.set_cons_succ]
  refine wpAnyH_ready (rs := [15]) (by kernel_rfl) (by simp) ?_
  refine AllReadyH.cons (o := ⟨some 51, _, _, _, _, _⟩) rfl (fun K hK => ?_) AllReadyH.nil
  go_simp
  refine (r_int_c hi0 hi1).mono ?_
  rintro e w7 ⟨v7, rfl, hown7, hb7⟩
  rw [← HU2.out] at hown7
  obtain ⟨A7, d7, rfl, hA7, _, _⟩ := hown7.sl
  have r7 := run_str w7 d7 hA7
  go_wp2_with fail
  refine hK.out _ _ (LayT.keep (d1 := cap) (d2 := d3) (d3 := d4) (d4 := d5) hb7 hHeld6) (fun hHeld7 => ?_)
  clear hK K hb7 hHeld6 hA7 hown7
  refine wpAnyH_ready (rs := [16]) (by kernel_rfl) (by simp) ?_
  refine AllReadyH.cons (o := ⟨some 52, _, _, _, _, _⟩) rfl (fun K hK => ?_) AllReadyH.nil
  go_simp
  refine hK.out _ _ hHeld7 (fun _ => ?_)
  clear hK K r7
  refine wpAnyH_take (i := 17) (oi := ⟨some 53, _, _, _, _, _⟩) (v := .string ⟨l2.toArray⟩) rfl (by kernel_rfl) (by kernel_rfl) (by kernel_rfl) (fun _ _ _ h => h) (Or.inl ⟨by rfl, fun w hSw => by (try dsimp only at hSw); go_simp⟩) hHeld7 ?_
  simp only [Act.put, List.setIfInBounds_toArray, List.set_cons_zero, List.set_cons_succ]
  refine wpAnyH_take (i := 18) (oi := ⟨some 54, _, _, _, _, _⟩) (v := .bool false) rfl (by kernel_rfl) (by kernel_rfl) (by kernel_rfl) (fun _ _ _ h => h) (Or.inl ⟨by rfl, fun w hSw => by (try dsimp only at hSw); go_simp⟩) hHeld7 ?_
  simp only [Act.put, List.setIfInBounds_toArray, List.set_cons_zero, List.set_cons_succ]
  refine wpAnyH_take (i := 19) (oi := ⟨some 55, _, _, _, _, _⟩) (v := .bool false) rfl (by kernel_rfl) (by kernel_rfl) (by kernel_rfl) (fun _ _ _ h => h) (Or.inl ⟨by rfl, fun w hSw => by (try dsimp only at hSw); go_simp⟩) hHeld7 ?_
  simp only [Act.put, List.setIfInBounds_toArray, List.set_cons_zero, List.set_cons_succ]
  refine wpAnyH_take (i := 20) (oi := ⟨some 56, _, _, _, _, _⟩) (v := .bool false) rfl (by kernel_rfl) (by kernel_rfl) (by kernel_rfl) (fun _ _ _ h => h) (Or.inl ⟨by rfl, fun w hSw => by (try dsimp only at hSw); go_simp⟩) hHeld7 ?_
  simp only [Act.put, List.setIfInBounds_toArray, List.set_cons_zero, List.set_cons_succ]
  refine wpAnyH_take (i := 21) (oi := ⟨some 57, _, _, _, _, _⟩) (v := .slice A4 l3.length d4) rfl (by kernel_rfl) (by kernel_rfl) (by kernel_rfl) (fun _ _ _ h => h) (Or.inl ⟨by rfl, fun w hSw => by (try dsimp only at hSw); go_simp⟩) hHeld7 ?_
  simp only [Act.put, List.setIfInBounds_toArray, List.set_cons_zero, List.set_cons_succ]
  refine wpAnyH_take (i := 22) (oi := ⟨some 58, _, _, _, _, _⟩) (v := .string ⟨l3.toArray⟩) rfl (by kernel_rfl) (by kernel_rfl) (by kernel_rfl) (fun _ _ _ h => h) (Or.inl ⟨by rfl, fun w hSw => by (try dsimp only at hSw); go_simp⟩) hHeld7 ?_
  simp only [Act.put, List.setIfInBounds_toArray, List.set_cons_zero, List.set_cons_succ]
  refine wpAnyH_take (i := 23) (oi := ⟨some 59, _, _, _, _, _⟩) (v := .string ⟨l.toArray⟩) rfl (by kernel_rfl) (by kernel_rfl) (by kernel_rfl) (fun _ _ _ h => h) (Or.inl ⟨by rfl, fun w hSw => by (try dsimp only at hSw); go_simp⟩) hHeld7 ?_
  simp only [Act.put, List.setIfInBounds_toArray, List.set_cons_zero, List.set_cons_succ]
  refine wpAnyH_take (i := 24) (oi := ⟨some 60, _, _, _, _, _⟩) (v := .string ⟨t.toArray⟩) rfl (by kernel_rfl) (by kernel_rfl) (by kernel_rfl) (fun _ _ _ h => h) (Or.inl ⟨by rfl, fun w hSw => by (try dsimp only at hSw); go_simp⟩) hHeld7 ?_
  simp only [Act.put, List.setIfInBounds_toArray, List.set_cons_zero, List.set_cons_succ]
  refine wpAnyH_ready (rs := [25]) (by kernel_rfl) (by simp) ?_
  refine AllReadyH.cons (o := ⟨some 61, _, _, _, _, _⟩) rfl (fun K hK => ?_) AllReadyH.nil
  go_simp
  refine (r_text_c (by omega)).mono ?_
  rintro e w8 ⟨v8, rfl, hown8, hb8⟩
  rw [← HU3.out] at hown8
  obtain ⟨A8, d8, rfl, hA8, _, _⟩ := hown8.sl
  have r8 := run_str w8 d8 hA8
  go_wp2_with fail
  refine hK.out _ _ (LayT.keep (d1 := cap) (d2 := d3) (d3 := d4) (d4 := d5) hb8 hHeld7) (fun hHeld8 => ?_)
  clear hK K hb8 hHeld7 hA8 hown8
  refine wpAnyH_ready (rs := [26]) (by kernel_rfl) (by simp) ?_
  refine AllReadyH.cons (o := ⟨some 62, _, _, _, _, _⟩) rfl (fun K hK => ?_) AllReadyH.nil
  go_simp
  refine hK.out _ _ hHeld8 (fun _ => ?_)
  clear hK K r8
  refine wpAnyH_take (i := 27) (oi := ⟨some 63, _, _, _, _, _⟩) (v := .string ⟨l3.toArray⟩) rfl (by kernel_rfl) (by kernel_rfl) (by kernel_rfl) (fun _ _ _ h => h) (Or.inl ⟨by rfl, fun w hSw => by (try dsimp only at hSw); go_simp⟩) hHeld8 ?_
  simp only [Act.put, List.setIfInBounds_toArray, List.set_cons_zero, List.set_cons_succ]
  refine wpAnyH_take (i := 28) (oi := ⟨some 64, _, _, _, _, _⟩) (v := .bool false) rfl (by kernel_rfl) (by kernel_rfl) (by kernel_rfl) (fun _ _ _ h => h) (Or.inl ⟨by rfl, fun w hSw => by (try dsimp only at hSw); go_simp⟩) hHeld8 ?_
  simp only [Act.put, List.setIfInBounds_toArray, List.set_cons_zero, List.set_cons_succ]
  refine wpAnyH_take (i := 29) (oi := ⟨some 65, _, _, _, _, _⟩) (v := .bool false) rfl (by kernel_rfl) (by kernel_rfl) (by kernel_rfl) (fun _ _ _ h => h) (Or.inl ⟨by rfl, fun w hSw => by (try dsimp only at hSw); go_simp⟩) hHeld8 ?_
  simp only [Act.put, List.setIfInBounds_toArray, List.set_cons_zero, List.set_cons_succ]
  refine wpAnyH_take (i := 30) (oi := ⟨some 66, _, _, _, _, _⟩) (v := .bool false) rfl (by kernel_rfl) (by kernel_rfl) (by kernel_rfl) (fun _ _ _ h => h) (Or.inl ⟨by rfl, fun w hSw => by (try dsimp only at hSw); go_simp⟩) hHeld8 ?_
  simp only [Act.put, List.setIfInBounds_toArray, List.set_cons_zero, List.set_cons_succ]
  refine wpAnyH_take (i := 31) (oi := ⟨some 67, _, _, _, _, _⟩) (v := .slice A5 l4.length d5) rfl (by kernel_rfl) (by kernel_rfl) (by kernel_rfl) (fun _ _ _ h => h) (Or.inl ⟨by rfl, fun w hSw => by (try dsimp only at hSw); go_simp⟩) hHeld8 ?_
  simp only [Act.put, List.setIfInBounds_toArray, List.set_cons_zero, List.set_cons_succ]
  refine wpAnyH_take (i := 32) (oi := ⟨some 68, _, _, _, _, _⟩) (v := .string ⟨l4.toArray⟩) rfl (by kernel_rfl) (by kernel_rfl) (by kernel_rfl) (fun _ _ _ h => h) (Or.inl ⟨by rfl, fun w hSw => by (try dsimp only at hSw); go_simp⟩) hHeld8 ?_
  simp only [Act.put, List.setIfInBounds_toArray, List.set_cons_zero, List.set_cons_succ]
  refine wpAnyH_take (i := 33) (oi := ⟨some 69, _, _, _, _, _⟩) (v := .string ⟨l.toArray⟩) rfl (by kernel_rfl) (by kernel_rfl) (by kernel_rfl) (fun _ _ _ h => h) (Or.inl ⟨by rfl, fun w hSw => by (try dsimp only at hSw); go_simp⟩) hHeld8 ?_
  simp only [Act.put, List.setIfInBounds_toArray, List.set_cons_zero, List.set_cons_succ]
  refine wpAnyH_take (i := 34) (oi := ⟨some 70, _, _, _, _, _⟩) (v := .pointer (some ⟨w.heap.size, 0, none⟩)) rfl (by kernel_rfl) (by kernel_rfl) (by kernel_rfl) (fun _ _ _ h => h) (Or.inl ⟨by rfl, fun w hSw => by (try dsimp only at hSw); go_simp⟩) hHeld8 ?_
  simp only [Act.put, List.setIfInBounds_toArray, List.set_cons_zero, List.set_cons_succ]
  refine wpAnyH_take (i := 35) (oi := ⟨some 71, _, _, _, _, _⟩) (v := .int .u64 n) rfl (by kernel_rfl) (by kernel_rfl) (by kernel_rfl) (fun _ _ _ h => h) (Or.inl ⟨by rfl, fun w hSw => by (try dsimp only at hSw); go_simp⟩) hHeld8 ?_
  simp only [Act.put, List.setIfInBounds_toArray, List.set_cons_zero, List.set_cons_succ]
  refine wpAnyH_take (i := 36) (oi := ⟨some 72, _, _, _, _, _⟩) (v := .pointer (some ⟨w.heap.size, 3, none⟩)) rfl (by kernel_rfl) (by kernel_rfl) (by kernel_rfl) (fun _ _ _ h => h) (Or.inl ⟨by rfl, fun w hSw => by (try dsimp only at hSw); go_simp⟩) hHeld8 ?_
  simp only [Act.put, List.setIfInBounds_toArray, List.set_cons_zero, List.set_cons_succ]
  refine wpAnyH_take (i := 37) (oi := ⟨some 73, _, _, _, _, _⟩) (v := .int .i64 k) rfl (by kernel_rfl) (by kernel_rfl) (by kernel_rfl) (fun _ _ _ h => h) (Or.inl ⟨by rfl, fun w hSw => by (try dsimp only at hSw); go_simp⟩) hHeld8 ?_
  simp only [Act.put, List.setIfInBounds_toArray, List.set_cons_zero, List.set_cons_succ]
  refine wpAnyH_ready (rs := [38]) (by kernel_rfl) (by simp) ?_
  refine AllReadyH.cons (o := ⟨some 74, _, _, _, _, _⟩) rfl (fun K hK => ?_) AllReadyH.nil
  go_simp
  refine (r_fixed_c (n := m) HM64.out HM.out).mono ?_
  rintro e w9 ⟨v9, rfl, hown9, hb9⟩
  rw [← HU4.out] at hown9
  obtain ⟨A9, d9, rfl, hA9, _, _⟩ := hown9.sl
  have r9 := run_str w9 d9 hA9
  go_wp2_with fail
  refine hK.out _ _ (LayT.keep (d1 := cap) (d2 := d3) (d3 := d4) (d4 := d5) hb9 hHeld8) (fun hHeld9 => ?_)
  clear hK K hb9 hHeld8 hA9 hown9
  refine wpAnyH_ready (rs := [39]) (by kernel_rfl) (by simp) ?_
  refine AllReadyH.cons (o := ⟨some 75, _, _, _, _, _⟩) rfl (fun K hK => ?_) AllReadyH.nil
  go_simp
  refine hK.out _ _ hHeld9 (fun _ => ?_)
  clear hK K r9
  refine wpAnyH_take (i := 40) (oi := ⟨some 76, _, _, _, _, _⟩) (v := .string ⟨l4.toArray⟩) rfl (by kernel_rfl) (by kernel_rfl) (by kernel_rfl) (fun _ _ _ h => h) (Or.inl ⟨by rfl, fun w hSw => by (try dsimp only at hSw); go_simp⟩) hHeld9 ?_
  simp only [Act.put, List.setIfInBounds_toArray, List.set_cons_zero, List.set_cons_succ]
  refine wpAnyH_take (i := 41) (oi := ⟨some 77, _, _, _, _, _⟩) (v := .bool false) rfl (by kernel_rfl) (by kernel_rfl) (by kernel_rfl) (fun _ _ _ h => h) (Or.inl ⟨by rfl, fun w hSw => by (try dsimp only at hSw); go_simp⟩) hHeld9 ?_
  simp only [Act.put, List.setIfInBounds_toArray, List.set_cons_zero, List.set_cons_succ]
  refine wpAnyH_take (i := 42) (oi := ⟨some 78, _, _, _, _, _⟩) (v := .bool false) rfl (by kernel_rfl) (by kernel_rfl) (by kernel_rfl) (fun _ _ _ h => h) (Or.inl ⟨by rfl, fun w hSw => by (try dsimp only at hSw); go_simp⟩) hHeld9 ?_
  simp only [Act.put, List.setIfInBounds_toArray, List.set_cons_zero, List.set_cons_succ]
  refine wpAnyH_done (by kernel_rfl) ?_ _
  refine NoPanic.normal ?_
  obtain ⟨_, _, _, _, _, _, _, _, _, _, _, hA09, _, _, hB9, hB59⟩ := hHeld9
  have hO9 := HO.out.below hB59
  have HB9 := Lib.hid hB9
  have hz9 := hB9.size
  have hz59 := hB59.size
  have hne : w.heap.size + 1 ≠ gb := by omega
  have hrow : Row77 w9 w1.heap.size gb l1.length cap w9 := ⟨World.grownBy.refl _ _, _, hO9⟩
  clear hB9 hB59 he1 he2 he3 he4 hq1 hq2 hq3 hq4
  go_wp2_with fail
  go_loopw [11] (Rel77 w9 w1.heap.size gb l1.length cap) (fun i _ => l1.length - (intOf i).toNat)
  case atStart => exact ⟨0, rfl, by omega, hrow⟩
  case round =>
    obtain ⟨j, rfl, hj, hr⟩ := hrel
    by_cases hjl : j < l1.length
    · obtain ⟨⟨x, g1⟩, g2, hset⟩ := hr.at_ hjl
      have HSET := Lib.hid hset
      clear hset
      go_wp2_with fail
      go_roundw
      case rel => exact ⟨j + 1, by go_num, by omega, HSET.out _⟩
      case measure => simp [intOf]; omega
    · have hg := hr.1
      have hA0r := At.far hA09 hne hg
      have HBr := Lib.hid (HB9.out.grown hg hz9 (fun k hk => by injection hk with hk; omega))
      clear hg hr hA09
      go_wp2_with (first
        | ((with_reducible refine at_slot 89 ?_); refine wp_str rfl (.tmp 88) rfl (A := some ⟨w.heap.size + 1, 0, none⟩) (l := l) (c := c1) rfl hA0r ?_)
        | (go_at_call 19; refine (works_c _).mono ?_; rintro e w10 ⟨rfl, hb10⟩))
      go_ret
      exact ⟨rfl, below_more HBr.out hb10⟩
end BytesW
end Go.Proofs.Ytblfahnjogaacaa
