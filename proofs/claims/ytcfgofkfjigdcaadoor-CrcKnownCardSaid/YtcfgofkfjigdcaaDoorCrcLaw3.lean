/-
  CrcKnown: the chapter's examples.
-/
import Derived.Test.YtcfgofkfjigdcaaDoorCrcLaw1
import Derived.Lib.SlBytesConst
namespace Go.Proofs.YtcfgofkfjigdcaaDoor
open Go.RowKit
set_option linter.unusedVariables false
set_option linter.unusedSimpArgs false
namespace CrcW
open BytesW CrcP CrcM
theorem fil_val (f s : UInt8) (i : Nat) : ((f.toNat : Int) + (s.toNat : Int) * ((i : Int) % 256)) % 256 = ((f + s * i.toUInt8).toNat : Int) := by
  have e : i.toUInt8.toNat = i % 256 := rfl
  rw [UInt8.toNat_add, UInt8.toNat_mul, e]
  have h : (s.toNat : Int) * ((i : Int) % 256) = ((s.toNat * (i % 256) : Nat) : Int) := by
    rw [Int.natCast_mul]
    rfl
  rw [h]
  generalize s.toNat * (i % 256) = P
  omega
def FilRel (w : World) (n : Nat) (first step : UInt8) (v7 v8 : Value) (wr : World) : Prop := ∃ i : Nat, v8 = .int .i64 i ∧ i ≤ n ∧ BytesW.Own wr w.heap.size v7 (fil i first step) ∧ Below w.heap.size w wr
set_option maxRecDepth 100000 in
set_option maxHeartbeats 1000000 in
theorem filled_c {w : World} {n : Nat} (hn : n ≤ 1000) {first step : UInt8} {x y : Int} (hx : x = (first.toNat : Int)) (hy : y = (step.toNat : Int)) :
    Calls Tryd.prog 14 #[.int .i64 n, .int .u8 x, .int .u8 y] w fun e w' => ∃ v, e = .returned v ∧ BytesW.Own w' w.heap.size v (fil n first step) ∧ Below w.heap.size w w' := by
  have f8 : first.toNat < 256 := first.toNat_lt
  have s8 : step.toNat < 256 := step.toNat_lt
  have x0 : 0 ≤ x ∧ x < 256 := by omega
  have y0 : 0 ≤ y ∧ y < 256 := by omega
  obtain ⟨x0, x1⟩ := x0
  obtain ⟨y0, y1⟩ := y0
  have HX := Lib.hid hx
  have HY := Lib.hid hy
  clear hx hy f8 s8
  go_enter Tryd.func14, Tryd.ntmps14
  go_wp2_with fail
  go_loopw [7, 8] (FilRel w n first step) (fun _ v _ => n - (intOf v).toNat)
  case atStart => exact ⟨0, rfl, by omega, BytesW.Own.nil _ _, Below.refl _ _⟩
  case round =>
    obtain ⟨i, rfl, hi, hown, hbel⟩ := hrel
    have HB := Lib.hid hbel
    have hz := hbel.size
    by_cases hin : i < n
    · have HV : Hid ((x + y * ((i : Int) % 256)) % 256 = ((first + step * i.toUInt8).toNat : Int)) := Lib.hid (by rw [HX.out, HY.out]; exact fil_val first step i)
      go_wp2_with ((with_reducible refine at_slot 22 ?_); refine wp_pushB rfl (.tmp 14) (.tmp 21) rfl (B := w.heap.size) wr _ rfl rfl hown (first + step * i.toUInt8) HV.out rfl (by rw [fil_len]; omega) hz ?_; intro v2 w2 hown2 hb2; have HB2 := Lib.hid (hbel.trans hb2); have HO2 := Lib.hid hown2; clear hown hbel hown2 hb2)
      go_roundw
      case rel => exact ⟨i + 1, by go_num, by omega, by rw [fil_succ]; exact HO2.out, HB2.out⟩
      case measure => simp [intOf]; omega
    · have : i = n := by omega
      subst this
      have HO := Lib.hid hown
      clear hown hbel
      go_wp2_with fail
      go_ret
      exact ⟨_, rfl, HO.out, HB.out⟩
theorem lit4 (w : World) (fr : Nat × Nat) : AtC (w.alloc (.cells #[.int .u8 54, .int .u8 55, .int .u8 56, .int .u8 57] 5 fr)) (some ⟨w.heap.size, 0, none⟩) [54, 55, 56, 57] :=
  At.c (fun _ => ⟨w.heap.size, 0, _, fr, rfl, heap_alloc_new w _, fun i x hx => by
    match i, hx with
    | 0, hx | 1, hx | 2, hx | 3, hx =>
      simp at hx
      subst hx
      rfl⟩)
theorem k1 : nat (CrcP.sum (fil 32 0 0)) = 2324772522 := by decide +kernel
theorem k2 : nat (CrcP.sum (fil 32 255 0)) = 1655221059 := by decide +kernel
theorem k3 : nat (CrcP.sum (fil 32 0 1)) = 1188919630 := by decide +kernel
theorem k4 : nat (more (CrcP.sum [49, 50, 51, 52, 53]) [54, 55, 56, 57]) = 3808858755 := by decide +kernel
set_option maxRecDepth 100000 in
set_option maxHeartbeats 1000000 in
theorem law_known {w : World} (hT : Tab w) : Calls Tryd.prog 4 #[] w fun e w' => e = .returned (.bool true) ∧ Below w.heap.size w w' := by
  have K1 := Lib.hid k1
  have K2 := Lib.hid k2
  have K3 := Lib.hid k3
  have K4 := Lib.hid k4
  go_enter Tryd.func4, Tryd.ntmps4
  go_wp2_with fail
  go_at_call 13
  refine (awake_c hT).mono ?_
  rintro e w' ⟨rfl, rfl⟩
  go_wp2_with fail
  go_at_call 14
  refine (filled_c (n := 32) (first := 0) (step := 0) (by omega) rfl rfl).mono ?_
  rintro e w1 ⟨v1, rfl, ho1, hb1⟩
  obtain ⟨A1, c1, rfl, hc1, hm1, hA1, _⟩ := own_form ho1 (fil_len 32 0 0)
  have HB1 := Lib.hid hb1
  have hT1 := hT.below hb1
  clear hb1 ho1 hT
  go_wp2_with fail
  go_at_call 8
  refine (Sum_c hT1 (fil_len 32 0 0) ⟨hc1, hm1⟩ hA1).mono ?_
  rintro e w' ⟨rfl, rfl⟩
  rw [K1.out]
  go_wp2_with fail
  go_at_call 14
  refine (filled_c (n := 32) (first := 255) (step := 0) (by omega) rfl rfl).mono ?_
  rintro e w2 ⟨v2, rfl, ho2, hb2⟩
  obtain ⟨A2, c2, rfl, hc2, hm2, hA2, _⟩ := own_form ho2 (fil_len 32 255 0)
  have HB2 := Lib.hid (HB1.out.trans (hb2.mono HB1.out.size))
  have hT2 := hT1.below hb2
  clear hb2 ho2 hT1 hA1
  go_wp2_with fail
  go_at_call 8
  refine (Sum_c hT2 (fil_len 32 255 0) ⟨hc2, hm2⟩ hA2).mono ?_
  rintro e w' ⟨rfl, rfl⟩
  rw [K2.out]
  go_wp2_with fail
  go_at_call 14
  refine (filled_c (n := 32) (first := 0) (step := 1) (by omega) rfl rfl).mono ?_
  rintro e w3 ⟨v3, rfl, ho3, hb3⟩
  obtain ⟨A3, c3, rfl, hc3, hm3, hA3, _⟩ := own_form ho3 (fil_len 32 0 1)
  have HB3 := Lib.hid (HB2.out.trans (hb3.mono HB2.out.size))
  have hT3 := hT2.below hb3
  clear hb3 ho3 hT2 hA2
  go_wp2_with fail
  go_at_call 8
  refine (Sum_c hT3 (fil_len 32 0 1) ⟨hc3, hm3⟩ hA3).mono ?_
  rintro e w' ⟨rfl, rfl⟩
  rw [K3.out]
  go_wp2_with fail
  go_at_call 12
  refine (Text_c hT3 (L := [49, 50, 51, 52, 53]) (by simp)).mono ?_
  rintro e w' ⟨rfl, rfl⟩
  have kc := Lib.run_convert_bytes_const (P := Tryd.prog) w' 22 5 #[.int .u8 54, .int .u8 55, .int .u8 56, .int .u8 57] 4 4 under26 under5
  go_wp2_with fail
  go_at_call 10
  refine (More_c (hT3.below (alB _ _)) (L := [54, 55, 56, 57]) (n := 4) rfl (by omega) (lit4 _ _) rfl).mono ?_
  rintro e w'' ⟨rfl, rfl⟩
  rw [K4.out]
  go_wp2_with fail
  go_ret
  exact ⟨rfl, (HB3.out.trans ((alB _ _).mono HB3.out.size))⟩
end CrcW
end Go.Proofs.YtcfgofkfjigdcaaDoor
