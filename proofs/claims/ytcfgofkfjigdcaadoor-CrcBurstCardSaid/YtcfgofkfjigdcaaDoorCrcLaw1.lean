/-
  CrcSums, CrcParts: the sum of any bytes, from any sum on, is the document's; the sum of two rows is that of the second one on from the first one's.
-/
import Derived.Test.YtcfgofkfjigdcaaDoorCrcCalls
namespace Go.Proofs.YtcfgofkfjigdcaaDoor
open Go.RowKit
set_option linter.unusedVariables false
set_option linter.unusedSimpArgs false
namespace CrcW
open BytesW CrcP CrcM
theorem alB (w : World) (o : Obj) : Below w.heap.size w (w.alloc o) := (Below.refl _ w).alloc (Nat.le_refl _) o
theorem own_made (w : World) : Hid (∀ cs, cs = #[] → BytesW.Own (w.alloc (.cells cs 5)) w.heap.size (.slice (some ⟨w.heap.size, 0, none⟩) 0 0) []) := Lib.hid (fun cs h => by
  subst h
  exact World.ownsRow_made w #[] 0 (Nat.le_refl _) (by simp [maxLen]) rfl)
set_option maxRecDepth 100000 in
set_option maxHeartbeats 1000000 in
theorem law_sums {w : World} (hT : Tab w) {A : Option Addr} {L : List UInt8} {c : Nat} (hc : L.length ≤ c ∧ c ≤ 9223372036854775807) (hs : L.length ≤ 140737488355328) (hA : AtC w A L) {s : BitVec 32} {x : Int} (hx : x = nat s) :
    Calls Tryd.prog 3 #[.slice A L.length c, .int .u32 x] w fun e w' => e = .returned (.bool true) ∧ Below w.heap.size w w' := by
  have HO := own_made w
  have HX := Lib.hid hx
  obtain ⟨n, hn⟩ : ∃ n, L.length = n := ⟨_, rfl⟩
  rw [hn] at hs hc ⊢
  have HNL := Lib.hid hn
  clear hx hn
  go_enter Tryd.func3, Tryd.ntmps3
  go_wp2_with ((with_reducible refine at_slot 8 ?_); refine wp_appG rfl (.tmp 6) (.tmp 7) rfl (l := []) (l2 := L) rfl (HO.out _ rfl) (by rw [HNL.out]; rfl) (hA.below (alB _ _)) (by simp; have := HNL.out; omega) (by simp) ?_; intro v1 w1 hown1 hb1)
  rw [List.nil_append] at hown1
  obtain ⟨A1, c1, rfl, hc1, hm1, hA1, _⟩ := own_form hown1 HNL.out
  have hbw : Below w.heap.size w w1 := (alB _ _).trans hb1
  have hT1 := hT.below hbw
  have hA0 := hA.below hbw
  have HB := Lib.hid hbw
  have r25 := run_strC w1 c hA0
  have r32 := run_strC w1 c1 hA1
  rw [HNL.out] at r25 r32
  clear hown1 hb1 hbw hA
  go_wp2_with (first
    | (go_at_call 8; refine (Sum_c hT1 HNL.out ⟨hc1, hm1⟩ hA1).mono ?_; rintro e w' ⟨rfl, rfl⟩)
    | (go_at_call 9; refine (rSum_c HNL.out hc hA0).mono ?_; rintro e w' ⟨rfl, rfl⟩)
    | (go_at_call 10; refine (More_c hT1 HNL.out ⟨hc1, hm1⟩ hA1 HX.out).mono ?_; rintro e w' ⟨rfl, rfl⟩)
    | (go_at_call 11; refine (rMore_c HNL.out hc hA0 HX.out).mono ?_; rintro e w' ⟨rfl, rfl⟩)
    | (go_at_call 12; refine (Text_c hT1 (L := L) (by have := HNL.out; omega)).mono ?_; rintro e w' ⟨rfl, rfl⟩)
    | (go_at_call 13; refine (awake_c hT1).mono ?_; rintro e w' ⟨rfl, rfl⟩))
  go_ret
  exact ⟨rfl, HB.out⟩
set_option maxRecDepth 100000 in
set_option maxHeartbeats 1000000 in
/-- Two rows that are, together, no longer than a machine's memory. -/
theorem law_parts {w : World} (hT : Tab w) {A B : Option Addr} {L M : List UInt8} {c d : Nat} (hc : L.length ≤ c ∧ c ≤ 9223372036854775807) (hd : M.length ≤ d ∧ d ≤ 9223372036854775807) (hs : L.length + M.length ≤ 140737488355328) (hA : AtC w A L) (hB : AtC w B M) :
    Calls Tryd.prog 5 #[.slice A L.length c, .slice B M.length d] w fun e w' => e = .returned (.bool true) ∧ Below w.heap.size w w' := by
  obtain ⟨n, hn⟩ : ∃ n, L.length = n := ⟨_, rfl⟩
  obtain ⟨m, hm⟩ : ∃ m, M.length = m := ⟨_, rfl⟩
  rw [hn, hm] at hs
  rw [hn] at hc ⊢
  rw [hm] at hd ⊢
  have HNL := Lib.hid hn
  have HML := Lib.hid hm
  have HP := Lib.hid (parts L M)
  have HE := Lib.hid (more_nil (CrcP.sum L))
  clear hn hm
  go_enter Tryd.func5, Tryd.ntmps5
  go_wp2_with (first
    | ((with_reducible refine at_slot 8 ?_); refine wp_appG rfl (.tmp 6) (.tmp 7) rfl (B := w.heap.size) (l := []) (l2 := L) rfl (BytesW.Own.nil _ _) (by rw [HNL.out]; rfl) hA (by simp; have := HNL.out; omega) (by simp) ?_; intro v1 w1 hown1 hb1; rw [List.nil_append] at hown1; have hB1 := hB.below hb1; have hz1 := hb1.size; have hT1 := hT.below hb1; have hA1 := hA.below hb1; have HB1 := Lib.hid hb1; clear hb1)
    | ((with_reducible refine at_slot 11 ?_); refine wp_appG rfl (.tmp 9) (.tmp 10) rfl (B := w.heap.size) (l := L) (l2 := M) rfl hown1 (by rw [HML.out]; rfl) hB1 (by have := HNL.out; have := HML.out; omega) hz1 ?_; intro v2 w2 hown2 hb2))
  have hLM : (L ++ M).length = n + m := by rw [List.length_append, HNL.out, HML.out]
  obtain ⟨A2, c2, rfl, hc2, hm2, hA2, _⟩ := own_form hown2 hLM
  have HLM := Lib.hid hLM
  have hb12 : Below w.heap.size w w2 := HB1.out.trans hb2
  have HB := Lib.hid hb12
  have hA3 := hA.below hb12
  have hB3 := hB.below hb12
  have hT3 := hT.below hb12
  clear hb12 hb2 hLM hown1 hown2 hA hB hT hB1 hA1 hT1
  go_at_call 8
  refine (Sum_c hT3 HNL.out hc hA3).mono ?_
  rintro e w' ⟨rfl, rfl⟩
  go_wp2_with fail
  go_at_call 10
  refine (More_c hT3 HML.out hd hB3 rfl).mono ?_
  rintro e w' ⟨rfl, rfl⟩
  rw [HP.out]
  go_wp2_with fail
  go_at_call 8
  refine (Sum_c hT3 HLM.out ⟨hc2, hm2⟩ hA2).mono ?_
  rintro e w' ⟨rfl, rfl⟩
  go_wp2_with fail
  go_at_call 8
  refine (Sum_c hT3 HNL.out hc hA3).mono ?_
  rintro e w' ⟨rfl, rfl⟩
  go_wp2_with fail
  go_at_call 10
  refine (More_c hT3 (L := []) (n := 0) rfl (by omega) AtC.nil rfl).mono ?_
  rintro e w' ⟨rfl, rfl⟩
  rw [HE.out]
  go_wp2_with fail
  go_at_call 8
  refine (Sum_c hT3 HNL.out hc hA3).mono ?_
  rintro e w' ⟨rfl, rfl⟩
  go_wp2_with fail
  go_at_call 13
  refine (awake_c hT3).mono ?_
  rintro e w' ⟨rfl, rfl⟩
  go_wp2_with fail
  go_ret
  exact ⟨rfl, HB.out⟩
end CrcW
end Go.Proofs.YtcfgofkfjigdcaaDoor
