/-
  stableCmpFunc, SortStableFunc at ticks; Ready.
-/
import Derived.Test.YtiochoppiohjnaaDoorChunkSymC
namespace Go.Proofs.YtiochoppiohjnaaDoor
open Go.RowKit
set_option linter.unusedVariables false
set_option linter.unusedSimpArgs false
namespace ChunkW
open BytesW PackW SortW

/-- What a sort of a row, there or not, leaves. -/
def SortV (w : World) (B : Nat) (v : Value) (l : List Tick) (e : Ending) (w' : World) : Prop := e = .returned (.tuple #[]) ∧ OwnP tkv 63 w' B v l ∧ Below B w w'
/-- The blocks so far: of l, the first a are done. -/
def BlRel (w : World) (B g n cap : Nat) (l : List Tick) (av bv : Value) (wr : World) : Prop := ∃ (a : Nat) (P : List Tick), av = .int .i64 a ∧ bv = .int .i64 ((a + 20 : Nat) : Int) ∧ a ≤ n ∧ P.length = a ∧ bl leT 20 l = P ++ bl leT 20 (l.drop a) ∧ Row wr B g n cap (P ++ l.drop a) ∧ Below B w wr
def DbRel (w : World) (B g n cap : Nat) (l : List Tick) (zv : Value) (wr : World) : Prop := ∃ z : Nat, zv = .int .i64 z ∧ 20 ≤ z ∧ z ≤ 2000000 ∧ Row wr B g n cap (bl leT z l) ∧ Below B w wr
def MgRel (w : World) (B g n cap z : Nat) (l : List Tick) (av bv : Value) (wr : World) : Prop := ∃ (a : Nat) (P : List Tick), av = .int .i64 a ∧ bv = .int .i64 ((a + 2 * z : Nat) : Int) ∧ a ≤ n ∧ P.length = a ∧ bl leT (2 * z) l = P ++ bl leT (2 * z) (l.drop a) ∧ Row wr B g n cap (P ++ bl leT z (l.drop a)) ∧ Below B w wr
theorem srt_srtd (l : List Tick) : srtd (srt leT l) := srt_sorted ordT l

set_option maxRecDepth 100000 in
set_option maxHeartbeats 16000000 in
theorem stable_row {w : World} {B g n cap : Nat} {l : List Tick} (hR : Row w B g n cap l) (hn : n ≤ 1000000) :
    Calls Tryd.prog 55 #[.slice (some ⟨g, 0, none⟩) n cap, .int .i64 n, .func (.func 41) #[] #[]] w (SortP w B g n cap (srt leT l)) := by
  have hl := hR.2
  have HL := Lib.hid hl
  have HR := Lib.hid hR
  have hgB := hR.ge
  have HIH : Hid (SymIH B g n cap (n + 1)) := Lib.hid (sym_c (n + 1) hn)
  clear hl hR
  go_enter Tryd.func55, Tryd.ntmps55
  go_wp2_with fail
  go_loopw [7, 8] (BlRel w B g n cap l) (fun u _ _ => n + 20 - (intOf u).toNat)
  case atStart => exact ⟨0, [], rfl, rfl, by omega, rfl, by simp, by simpa using HR.out, Below.refl _ _⟩
  case round =>
    obtain ⟨a, P, rfl, rfl, han, hP, hbl, hrow, hbw⟩ := hrel
    have HROW := Lib.hid hrow
    have HBW := Lib.hid hbw
    have HP := Lib.hid hP
    have HBL := Lib.hid hbl
    obtain ⟨b, hb⟩ : ∃ b, b = a + 20 := ⟨_, rfl⟩
    rw [← hb]
    have HB := Lib.hid hb
    have hab : a ≤ b := by omega
    clear hP hbl hrow hbw hb
    by_cases hlt : b ≤ n
    · have hltI : (b : Int) ≤ n := by omega
      have HINS : Hid (Calls Tryd.prog 61 #[.slice (some ⟨g, 0, none⟩) n cap, .int .i64 a, .int .i64 b, .func (.func 41) #[] #[]] wr (SortP wr B g n cap (P ++ srt leT ((l.drop a).take 20) ++ l.drop b))) := Lib.hid (by
        have h := HROW.out
        rw [← List.take_append_drop 20 (l.drop a), ← List.append_assoc, List.drop_drop, show a + 20 = b from HB.out.symm] at h
        exact insertion_c h hn HP.out (by have := HB.out; have := HL.out; simp; omega))
      have hw1 : IntKind.i64.wrap ((b : Int) + 20) = ((b + 20 : Nat) : Int) := by rw [IntKind.wrap_i64]; omega
      obtain ⟨b2, hb2⟩ : ∃ b2, b2 = b + 20 := ⟨_, rfl⟩
      rw [← hb2] at hw1
      have HB2 := Lib.hid hb2
      clear hb2
      go_wp2_with fail
      go_at_call 61
      refine (HINS.out).mono ?_
      rintro e w2 ⟨rfl, hrow2, hbw2⟩
      have HROW2 := Lib.hid hrow2
      have HBW2 := Lib.hid (HBW.out.trans hbw2)
      clear hrow2 hbw2
      go_wp2_with fail
      go_roundw
      case rel =>
        refine ⟨b, P ++ srt leT ((l.drop a).take 20), rfl, by rw [HB2.out], hlt, ?_, ?_, HROW2.out, HBW2.out⟩
        · rw [List.length_append, srt_len]
          have := HP.out
          have := HB.out
          have := HL.out
          simp
          omega
        · rw [HBL.out, bl_step (by omega), List.drop_drop, show a + 20 = b from HB.out.symm, List.append_assoc]
      case measure => have := HB.out; simp [intOf]; omega
    · have hltI : ¬ (b : Int) ≤ n := by omega
      have hlen20 : (l.drop a).length ≤ 20 := by have := HB.out; have := HL.out; simp; omega
      have HFULL : Hid (P ++ srt leT (l.drop a) = bl leT 20 l) := Lib.hid (by rw [HBL.out, bl_last (by omega) hlen20])
      have HINS : Hid (Calls Tryd.prog 61 #[.slice (some ⟨g, 0, none⟩) n cap, .int .i64 a, .int .i64 n, .func (.func 41) #[] #[]] wr (SortP wr B g n cap (bl leT 20 l))) := Lib.hid (by
        have h := insertion_c (X := P) (S := l.drop a) (Y := []) (a := a) (b := n) (by rw [List.append_nil]; exact HROW.out) hn HP.out (by have := HL.out; simp; omega)
        rw [List.append_nil, HFULL.out] at h
        exact h)
      clear hlen20
      go_wp2_with fail
      go_at_call 61
      refine (HINS.out).mono ?_
      rintro e w2 ⟨rfl, hrow2, hbw2⟩
      have HROW2 := Lib.hid hrow2
      have HBW2 := Lib.hid (HBW.out.trans hbw2)
      clear hrow2 hbw2
      go_wp2_with fail
      go_loopw [6] (DbRel w B g n cap l) (fun v _ => 2000000 - (intOf v).toNat)
      case atStart => exact ⟨20, rfl, by omega, by omega, HROW2.out, HBW2.out⟩
      case round =>
        obtain ⟨z, rfl, hz20, hzm, hrow, hbw⟩ := hrel
        have HROW3 := Lib.hid hrow
        have HBW3 := Lib.hid hbw
        clear hrow hbw
        by_cases hzn : z < n
        · have hznI : (z : Int) < n := by omega
          obtain ⟨z2, hz2⟩ : ∃ z2, z2 = 2 * z := ⟨_, rfl⟩
          have hwz : IntKind.i64.wrap (2 * (z : Int)) = (z2 : Int) := by rw [IntKind.wrap_i64]; omega
          have hwz2 : IntKind.i64.wrap ((z : Int) * 2) = (z2 : Int) := by rw [IntKind.wrap_i64]; omega
          have HZ2 := Lib.hid hz2
          have hz2m : z2 ≤ 2000000 := by omega
          have hzz : z ≤ z2 := by omega
          have hzz1 : z < z2 := by omega
          have HN0 : Hid (MgRel w B g n cap z l (.int .i64 0) (.int .i64 (z2 : Int)) wr) := Lib.hid ⟨0, [], rfl, by rw [hz2]; simp, by omega, rfl, by simp, by simpa using HROW3.out, HBW3.out⟩
          clear hz2
          go_wp2_with fail
          go_loopw [7, 8] (MgRel w B g n cap z l) (fun u _ _ => n + 1 - (intOf u).toNat)
          case atStart => exact HN0.out
          case round =>
            obtain ⟨a, P, rfl, rfl, han, hP, hbl, hrow, hbw⟩ := hrel
            have HROW4 := Lib.hid hrow
            have HBW4 := Lib.hid hbw
            have HP := Lib.hid hP
            have HBL := Lib.hid hbl
            obtain ⟨b, hb⟩ : ∃ b, b = a + 2 * z := ⟨_, rfl⟩
            rw [← hb]
            have HB := Lib.hid hb
            obtain ⟨m, hm⟩ : ∃ m, m = a + z := ⟨_, rfl⟩
            have HM := Lib.hid hm
            have hwm : IntKind.i64.wrap ((a : Int) + (z : Int)) = (m : Int) := by rw [IntKind.wrap_i64]; omega
            have ham : a < m := by omega
            have hmb : m < b := by omega
            clear hP hbl hrow hbw hb hm
            by_cases hlt : b ≤ n
            · have hltI : (b : Int) ≤ n := by omega
              obtain ⟨b2, hb2⟩ : ∃ b2, b2 = b + 2 * z := ⟨_, rfl⟩
              have hwb : IntKind.i64.wrap ((b : Int) + (z2 : Int)) = (b2 : Int) := by rw [IntKind.wrap_i64]; have := HZ2.out; omega
              have HB2 := Lib.hid hb2
              have HSYM : Hid (Calls Tryd.prog 62 #[.slice (some ⟨g, 0, none⟩) n cap, .int .i64 a, .int .i64 m, .int .i64 b, .func (.func 41) #[] #[]] wr (SortP wr B g n cap (P ++ mrg leT (srt leT ((l.drop a).take z)) (srt leT (((l.drop a).drop z).take z)) ++ bl leT z (l.drop b)))) := Lib.hid (by
                have h := HROW4.out
                have h1 := HB.out
                have h2 := HM.out
                have h3 := HL.out
                have hp := HP.out
                rw [bl_step (by omega), bl_step (by omega) ((l.drop a).drop z), show ((l.drop a).drop z).drop z = l.drop b by rw [List.drop_drop, List.drop_drop]; congr 1; omega, ← List.append_assoc, ← List.append_assoc] at h
                exact HIH.out wr P _ _ _ a m b h hp (by rw [srt_len]; simp; omega) (by rw [srt_len]; simp; omega) (srt_srtd _) (srt_srtd _) (by rw [srt_len]; simp; omega) (by rw [srt_len]; simp; omega) (by rw [srt_len, srt_len]; simp; omega))
              clear hb2
              go_wp2_with fail
              go_at_call 62
              refine (HSYM.out).mono ?_
              rintro e w5 ⟨rfl, hrow5, hbw5⟩
              have HROW5 := Lib.hid hrow5
              have HBW5 := Lib.hid (HBW4.out.trans hbw5)
              clear hrow5 hbw5
              go_wp2_with fail
              go_roundw
              case rel =>
                refine ⟨b, P ++ mrg leT (srt leT ((l.drop a).take z)) (srt leT (((l.drop a).drop z).take z)), rfl, by rw [HB2.out], hlt, ?_, ?_, HROW5.out, HBW5.out⟩
                · rw [List.length_append, mrg_len, srt_len, srt_len]
                  have := HP.out
                  have := HB.out
                  have := HL.out
                  simp
                  omega
                · rw [HBL.out, bl_two ordT (by omega), show (l.drop a).drop (2 * z) = l.drop b by rw [List.drop_drop, HB.out], List.append_assoc]
              case measure => have := HB.out; simp [intOf]; omega
            · have hltI : ¬ (b : Int) ≤ n := by omega
              by_cases hmn : m < n
              · have hmnI : (m : Int) < n := by omega
                have HSYM : Hid (Calls Tryd.prog 62 #[.slice (some ⟨g, 0, none⟩) n cap, .int .i64 a, .int .i64 m, .int .i64 n, .func (.func 41) #[] #[]] wr (SortP wr B g n cap (bl leT z2 l))) := Lib.hid (by
                  have h := HROW4.out
                  have h1 := HB.out
                  have h2 := HM.out
                  have h3 := HL.out
                  have hp := HP.out
                  rw [bl_step (by omega), bl_last (l := (l.drop a).drop z) (by omega) (by simp; omega)] at h
                  have h4 := HIH.out wr P (srt leT ((l.drop a).take z)) (srt leT ((l.drop a).drop z)) [] a m n (by rw [List.append_nil, List.append_assoc]; exact h) hp (by rw [srt_len]; simp; omega) (by rw [srt_len]; simp; omega) (srt_srtd _) (srt_srtd _) (by rw [srt_len]; simp; omega) (by rw [srt_len]; simp; omega) (by rw [srt_len, srt_len]; simp; omega)
                  have e : P ++ mrg leT (srt leT ((l.drop a).take z)) (srt leT ((l.drop a).drop z)) ++ [] = bl leT z2 l := by
                    rw [List.append_nil, ← srt_append ordT, List.take_append_drop, HZ2.out, HBL.out, bl_last (by omega) (by simp; omega)]
                  rw [e] at h4
                  exact h4)
                go_wp2_with fail
                go_at_call 62
                refine (HSYM.out).mono ?_
                rintro e w5 ⟨rfl, hrow5, hbw5⟩
                have HROW5 := Lib.hid hrow5
                have HBW5 := Lib.hid (HBW4.out.trans hbw5)
                clear hrow5 hbw5
                go_wp2_with fail
                go_roundw
                case rel => exact ⟨z2, rfl, by omega, hz2m, HROW5.out, HBW5.out⟩
                case measure => simp [intOf]; omega
              · have hmnI : ¬ (m : Int) < n := by omega
                have HROW5 : Hid (Row wr B g n cap (bl leT z2 l)) := Lib.hid (by
                  have h := HROW4.out
                  have h2 := HM.out
                  have h3 := HL.out
                  rw [bl_last (by omega) (by simp; omega)] at h
                  rw [HZ2.out, HBL.out, bl_last (by omega) (by simp; omega)]
                  exact h)
                go_wp2_with fail
                go_roundw
                case rel => exact ⟨z2, rfl, by omega, hz2m, HROW5.out, HBW4.out⟩
                case measure => simp [intOf]; omega
        · have hznI : ¬ (z : Int) < n := by omega
          have HF : Hid (Row wr B g n cap (srt leT l)) := Lib.hid (by
            have h := HROW3.out
            rw [bl_last (by omega) (by have := HL.out; omega)] at h
            exact h)
          go_wp2_with fail
          go_end0
          exact ⟨rfl, HF.out, HBW3.out⟩
end ChunkW
end Go.Proofs.YtiochoppiohjnaaDoor
