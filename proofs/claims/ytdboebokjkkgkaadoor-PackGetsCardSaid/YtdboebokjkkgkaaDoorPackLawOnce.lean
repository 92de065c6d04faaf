/-
  PackOnce: bytes that are a chunk's are what it is laid as.
-/
import Derived.Test.YtdboebokjkkgkaaDoorPackPut
namespace Go.Proofs.YtdboebokjkkgkaaDoor
open Go.RowKit
set_option linter.unusedVariables false
set_option linter.unusedSimpArgs false
namespace PackW
open BytesW RunsW

theorem run_strTo (w : World) {L : List UInt8} {n : Nat} (hn : n ≤ L.length) : (Instr.sliceAt 9 (.string ⟨L.toArray⟩) none (some (.int .i64 n)) none).run Tryd.prog w = .ok (.string ⟨(L.take n).toArray⟩) w := by
  have hs : (⟨L.toArray⟩ : ByteArray).size = L.length := by simp [ByteArray.size]
  have he : (⟨L.toArray⟩ : ByteArray).extract 0 n = ⟨(L.take n).toArray⟩ := by
    apply ByteArray.ext
    rw [ByteArray.data_extract]
    simp
  have h0 : (n : Int) ≤ L.length := by omega
  simp [Instr.sliceAt, Instr.slice, run_underlying under9, Instr.sliceBounds, run_sliceBound, hs, h0, hn, Result.andThen, he]
theorem wp_strTo {w : World} {ops : Array Oper} {rest : List Oper} {o : Oper} {a : Act} {Q : Exit → Act → World → Prop} (hgd : o.guard = none) (x y : Operand) (ho : o.op = .slice 9 x none (some y) none) {L : List UInt8} {n : Nat} (hx : a.eval x = .string ⟨L.toArray⟩) (hy : a.eval y = .int .i64 n) (hn : n ≤ L.length)
    (h : wpList Tryd.prog ops Q rest (a.put o.dst (.string ⟨(L.take n).toArray⟩)) w) : wpList Tryd.prog ops Q (o :: rest) a w := by
  refine wpList_plain hgd fun K hK => ?_
  have hr := run_strTo w hn
  unfold Oper.wp execOp
  simp only [ho, hx, hy, Option.map_none, Option.map_some, Sem.run_bind, Sem.run_pure, Result.andThen_ok, hr]
  exact hK _ _ h
/-- Bytes laid anew, as a row. -/
theorem at_bytes {w w' : World} {l : List UInt8} {cs : Array Value} {fr : Nat × Nat} (h : w'.heap[w.heap.size]? = some (.cells cs 5 fr)) (k : ∀ (i : Nat) (x : UInt8), l[i]? = some x → cs[i]? = some (bv x)) : At w' (some ⟨w.heap.size, 0, none⟩) l := fun _ => ⟨w.heap.size, 0, cs, fr, rfl, h, fun i x hx => by rw [Nat.zero_add]; exact k i x hx⟩

set_option maxRecDepth 100000 in
set_option maxHeartbeats 4000000 in
theorem law_once {w : World} {L : List UInt8} (hT : KindW.Tab w) (hL : L.length ≤ 9223372036854775807) :
    Calls Tryd.prog 6 #[.string ⟨L.toArray⟩] w fun e w' => e = .returned (.bool true) ∧ Below w.heap.size w w' := by
  have HT := Lib.hid hT
  obtain ⟨n, hn⟩ : ∃ n, n = min L.length 70000 := ⟨_, rfl⟩
  have hn1 : n ≤ L.length := by omega
  have hn2 : n ≤ 70000 := by omega
  have HMIN : Hid ((if (70000 : Int) < (L.length : Int) then (70000 : Int) else (L.length : Int)) = (n : Int)) := Lib.hid (by split <;> omega)
  obtain ⟨t, ht⟩ : ∃ t, t = L.take n := ⟨_, rfl⟩
  have htl : t.length ≤ 70000 := by rw [ht, List.length_take]; omega
  have HTE := Lib.hid ht
  have HS : (⟨L.toArray⟩ : ByteArray).size = L.length := by simp [ByteArray.size]
  have HS2 := Lib.hid HS
  clear hT hn ht HS
  rcases hg : getC t with _ | k
  · have HG := Lib.hid hg
    clear hg
    go_enter Tryd.func6, Tryd.ntmps6
    go_wp2_with (first
      | ((with_reducible refine at_slot 10 ?_); refine wp_min rfl (.tmp 9) (.const (.int .i64 70000)) rfl (X := L.length) (by rw [← HS2.out]; rfl) rfl HMIN.out ?_)
      | ((with_reducible refine at_slot 11 ?_); refine wp_strTo rfl (.tmp 7) (.tmp 10) rfl rfl rfl hn1 ?_; rw [← HTE.out])
      | ((with_reducible refine at_slot 14 ?_); refine wp_bytes rfl (.tmp 13) rfl (l := t) rfl ?_ (by simp only [maxLen]; omega); intro c1 w1 cs1 hcs1 k1 k2 k3 k4 hb1 hz1))
    go_at_call 16
    refine (get6_c (HT.out.below hb1) (at_bytes hcs1 k4).c k1 (by omega) HG.out).mono ?_
    rintro e w2 ⟨hb2, hn, _⟩
    obtain rfl := hn rfl
    have HB2 := Lib.hid (below_m hb1 hb2)
    clear hb1 hb2 hcs1 k4 hn
    go_wp2_with (go_at_call 15; refine (works_c (HT.out.below HB2.out)).mono ?_; rintro e w3 ⟨rfl, hb3⟩)
    go_ret
    exact ⟨rfl, below_m HB2.out hb3⟩
  · have HG := Lib.hid hg
    obtain ⟨g1, _, g3, _⟩ := getC_sound hg
    have HPA : Hid (putA k = (t, 0)) := Lib.hid (by rw [putA, if_pos g1, g3])
    clear hg g1 g3
    go_enter Tryd.func6, Tryd.ntmps6
    go_wp2_with (first
      | ((with_reducible refine at_slot 10 ?_); refine wp_min rfl (.tmp 9) (.const (.int .i64 70000)) rfl (X := L.length) (by rw [← HS2.out]; rfl) rfl HMIN.out ?_)
      | ((with_reducible refine at_slot 11 ?_); refine wp_strTo rfl (.tmp 7) (.tmp 10) rfl rfl rfl hn1 ?_; rw [← HTE.out])
      | ((with_reducible refine at_slot 14 ?_); refine wp_bytes rfl (.tmp 13) rfl (l := t) rfl ?_ (by simp only [maxLen]; omega); intro c1 w1 cs1 hcs1 k1 k2 k3 k4 hb1 hz1))
    go_at_call 16
    refine (get6_c (HT.out.below hb1) (at_bytes hcs1 k4).c k1 (by omega) HG.out).mono ?_
    rintro e w2 ⟨hb2, _, hs⟩
    obtain ⟨p, rfl, hk2, hp2⟩ := hs k rfl
    have HB2 := Lib.hid (below_m hb1 hb2)
    have HK2 := Lib.hid hk2
    clear hb1 hb2 hcs1 k4 hs hk2
    go_wp2_with fail
    go_at_call 12
    refine (put6_c (HT.out.below HB2.out) HK2.out HPA.out).mono ?_
    rintro e w3 ⟨v3, rfl, hown3, hb3⟩
    dsimp only at hown3
    obtain ⟨A3, c3, rfl, hA3, hc3, hm3⟩ := hown3.sl
    have HB3 := Lib.hid (below_m HB2.out hb3)
    have r38 := run_str w3 c3 hA3
    clear hb3 hown3
    go_wp2_with (go_at_call 15; refine (works_c (HT.out.below HB3.out)).mono ?_; rintro e w4 ⟨rfl, hb4⟩)
    go_ret
    exact ⟨rfl, below_m HB3.out hb4⟩
end PackW
end Go.Proofs.YtdboebokjkkgkaaDoor
