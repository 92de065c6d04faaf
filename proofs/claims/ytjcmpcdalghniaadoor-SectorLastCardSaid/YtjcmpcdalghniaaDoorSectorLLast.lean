/-
  SectorLast: a sector has what was written to it last.
-/
import Derived.Test.YtjcmpcdalghniaaDoorSectorWorks
import Derived.Test.YtjcmpcdalghniaaDoorSectorWr
namespace Go.Proofs.YtjcmpcdalghniaaDoor
open Go.RowKit
set_option linter.unusedVariables false
set_option linter.unusedSimpArgs false
set_option maxRecDepth 100000
namespace SecW
open BlkP RowG FrS PushG JournalP SecP
set_option maxHeartbeats 16000000 in
theorem law_last {w : World} {A : Option Addr} {n c : Nat} {L : List (Int × Sec)} {i : Int} (hR : Rd encL w (.slice A n c) L) (hn : L.length = n) :
    Calls Tryd.prog 5 #[.slice A n c, .int .i64 i] w fun e w' => e = .returned (.bool true) ∧ Below w.heap.size w w' := by
  have HR := Lib.hid hR
  have HN := Lib.hid hn
  obtain ⟨dd, hdd⟩ : ∃ dd, writtenTo L (-1) (min n 40) = dd := ⟨_, rfl⟩
  have HDD := Lib.hid hdd
  have hdn : dd.n = 300 := by rw [← hdd]; exact written_n ..
  have hdl : dd.ws.length ≤ 40 := by
    rw [← hdd]
    have := written_len L (-1) (min n 40)
    omega
  have HOK := Lib.hid (show Ok dd by rw [← hdd]; exact written_ok ..)
  have HDN := Lib.hid hdn
  clear hdd
  have B0 := Lib.hid (Below.refl w.heap.size w)
  have B := Lib.hid (Below.refl w.heap.size w)
  have hzB : w.heap.size ≤ w.heap.size := Nat.le_refl _
  clear hR hn
  go_enter Tryd.func5, Tryd.ntmps5
  go_wp2_with fail
  refine (written_i (HR.out.below B.out) HN.out HDD.out).mono ?_
  rintro e w1 ⟨pd, rfl, S1, hq, hb⟩
  have QD := Lib.hid (hq.mono hzB)
  have B' := Lib.hid (below_t B.out hb)
  clear B
  have B := B'
  have hzB := B.out.size
  clear B'
  clear hq hb
  go_wp2_with fail
  by_cases hin : 0 ≤ i ∧ i < 300
  · obtain ⟨hi0, hi1⟩ := hin
    have hind : inD dd i = true := inD_iff.2 ⟨hi0, by omega⟩
    have hE := Lib.hid (show readE dd i = 0 by unfold readE; rw [hind]; rfl)
    obtain ⟨lw, hlw⟩ : ∃ lw, lastW L i (min n 40) = lw := ⟨_, rfl⟩
    have hll : lw.length ≤ 512 := by rw [← hlw]; exact lastW_len ..
    have HS := Lib.hid (show readD dd i = pad lw by
      unfold readD
      rw [hind, if_pos rfl, ← hlw, ← last_now L hi0 hi1, HDD.out])
    have HLW := Lib.hid hlw
    obtain ⟨s, hs⟩ : ∃ s, pad lw = s := ⟨_, rfl⟩
    rw [hs] at HS
    have HSP := Lib.hid hs
    have hsz : (str s).size = 512 := by rw [str_size, ← hs]; exact pad_len hll
    have hi2 : ¬ i < 0 := by omega
    have hi3 : ¬ 300 ≤ i := by omega
    clear hind hlw hs
    refine (Read_i QD.out HS.out hE.out).mono ?_
    rintro e w2 ⟨rfl, hb⟩
    have QD := Lib.hid (QD.out.below hb)
    have B' := Lib.hid (below_t B.out hb)
    clear B
    have B := B'
    have hzB := B.out.size
    clear B'
    clear hb
    go_wp2_with fail
    obtain ⟨m, hm⟩ : ∃ m, min n 40 = m := ⟨_, rfl⟩
    have HM := Lib.hid hm
    rw [hm] at HLW
    have hnb : n ≤ 9223372036854775807 := by have := (RowE.rd_len HR.out); omega
    clear hm
    go_loopw [9, 10] (fun v9 v10 wr => ∃ (k : Nat) (x : Sec), v10 = .int .i64 (k : Int) ∧ k ≤ n ∧ k ≤ 40 ∧ v9 = .string (str x) ∧ x = lastW L i k ∧ wr = w2) (fun _ v _ => 50 - (intOf v).toNat)
    case atStart => exact ⟨0, [], rfl, Nat.zero_le _, by omega, rfl, rfl, rfl⟩
    case round =>
      obtain ⟨k, x, rfl, hkn, hk4, rfl, hx, rfl⟩ := hrel
      by_cases hc : k < n ∧ k < 40
      · obtain ⟨hc1, hc2⟩ := hc
        have hkI : (k : Int) < (n : Int) := by omega
        have hkJ : (k : Int) < 40 := by omega
        obtain ⟨⟨xa, xs⟩, hx⟩ : ∃ x, L[k]? = some x := ⟨_, List.getElem?_eq_getElem (by rw [HN.out]; exact hc1)⟩
        obtain ⟨b, o, hbo, hlt, hcs⟩ := (HR.out.below (B.out)).at hx
        subst hbo
        have x0 := hcs 0 _ rfl
        have x1 := hcs 1 _ rfl
        have hk : encL.k = 2 := rfl
        rw [hk] at x0 x1
        have hol : o + k * 2 + 0 = o + k * 2 := rfl
        rw [hol] at x0
        have HSU := Lib.hid (lastW_succ (i := i) hx)
        have hszx := str_size xs
        clear hcs hk hol hx
        have HX := Lib.hid hx
        clear hx
        by_cases ha : xa = i
        · subst ha
          by_cases hs : xs.length ≤ 512
          · have hsI : (xs.length : Int) ≤ 512 := by omega
            go_wp2_with fail
            go_roundw
            case measure => first | (simp [intOf]; done) | (simp [intOf]; omega)
            case rel => exact ⟨k + 1, xs, by first | rfl | (congr 1; omega), by omega, by omega, rfl, by rw [HSU.out]; rw [if_pos ⟨rfl, hs⟩], by first | rfl | trivial⟩
          · have hsI : ¬ (xs.length : Int) ≤ 512 := by omega
            go_wp2_with fail
            go_roundw
            case measure => first | (simp [intOf]; done) | (simp [intOf]; omega)
            case rel => exact ⟨k + 1, x, by first | rfl | (congr 1; omega), by omega, by omega, rfl, by rw [HSU.out]; rw [if_neg (fun q => hs q.2)]; exact HX.out, by first | rfl | trivial⟩
        · go_wp2_with fail
          go_roundw
          case measure => first | (simp [intOf]; done) | (simp [intOf]; omega)
          case rel => exact ⟨k + 1, x, by first | rfl | (congr 1; omega), by omega, by omega, rfl, by rw [HSU.out]; rw [if_neg (fun q => ha q.1)]; exact HX.out, by first | rfl | trivial⟩
      · have hkm : k = m := by have := HM.out; omega
        subst hkm
        by_cases hc1 : k < n
        · have hkI : (k : Int) < (n : Int) := by omega
          have hkJ : ¬ (k : Int) < 40 := by omega
          have hdl2 : (str x).size = x.length := str_size x
          have hxl : x.length ≤ 512 := by rw [hx]; exact lastW_len ..
          have hxeq : x = lw := hx.trans HLW.out
          subst hxeq
          have HSP2 := Lib.hid (show s.take x.length = x by rw [← HSP.out]; exact pad_take x)
          have qs : ∀ w, (Instr.sliceAt 9 (.string (str s)) none (some (.int .i64 (x.length : Int))) none).run Tryd.prog w = .ok (.string (str x)) w := fun w => by
            have := run_upto (w := w) (s := s) (k := x.length) (by rw [← HSP.out, pad_len hxl]; exact hxl)
            rw [HSP2.out] at this
            exact this
          have HX0 := Lib.hid hx
          clear hx
          go_wp2_with fail
          go_loopw [11] (fun v11 wq => ∃ k : Nat, v11 = .int .i64 (k : Int) ∧ x.length ≤ k ∧ k ≤ 512 ∧ wq = wr) (fun v _ => 600 - (intOf v).toNat)
          case atStart => exact ⟨x.length, rfl, Nat.le_refl _, hxl, rfl⟩
          case round =>
            obtain ⟨q, rfl, hq1, hq2, rfl⟩ := hrel
            by_cases hq : q < 512
            · have hqI : (q : Int) < 512 := by omega
              have hb0 : s[q]? = some 0 := by rw [← HSP.out]; exact pad_behind hq1 hq
              have qi := fun w => run_idx (w := w) (i := (q : Int)) (k := q) (z := 0) rfl hb0 (by decide)
              clear hb0
              go_wp2_with fail
              go_roundw
              case measure => first | (simp [intOf]; done) | (simp [intOf]; omega)
              case rel => exact ⟨q + 1, by first | rfl | (congr 1; omega), by omega, by omega, by first | rfl | trivial⟩
            · have hqI : ¬ (q : Int) < 512 := by omega
              go_wp2_with fail
              refine (works_c).mono ?_
              rintro e wz ⟨rfl, hb⟩
              have B' := Lib.hid (below_t B.out hb)
              clear B
              have B := B'
              have hzB := B.out.size
              clear B'
              clear hb
              go_wp2_with fail
              go_ret
              exact ⟨rfl, B.out⟩
        · have hkI : ¬ (k : Int) < (n : Int) := by omega
          have hdl2 : (str x).size = x.length := str_size x
          have hxl : x.length ≤ 512 := by rw [hx]; exact lastW_len ..
          have hxeq : x = lw := hx.trans HLW.out
          subst hxeq
          have HSP2 := Lib.hid (show s.take x.length = x by rw [← HSP.out]; exact pad_take x)
          have qs : ∀ w, (Instr.sliceAt 9 (.string (str s)) none (some (.int .i64 (x.length : Int))) none).run Tryd.prog w = .ok (.string (str x)) w := fun w => by
            have := run_upto (w := w) (s := s) (k := x.length) (by rw [← HSP.out, pad_len hxl]; exact hxl)
            rw [HSP2.out] at this
            exact this
          have HX0 := Lib.hid hx
          clear hx
          go_wp2_with fail
          go_loopw [11] (fun v11 wq => ∃ k : Nat, v11 = .int .i64 (k : Int) ∧ x.length ≤ k ∧ k ≤ 512 ∧ wq = wr) (fun v _ => 600 - (intOf v).toNat)
          case atStart => exact ⟨x.length, rfl, Nat.le_refl _, hxl, rfl⟩
          case round =>
            obtain ⟨q, rfl, hq1, hq2, rfl⟩ := hrel
            by_cases hq : q < 512
            · have hqI : (q : Int) < 512 := by omega
              have hb0 : s[q]? = some 0 := by rw [← HSP.out]; exact pad_behind hq1 hq
              have qi := fun w => run_idx (w := w) (i := (q : Int)) (k := q) (z := 0) rfl hb0 (by decide)
              clear hb0
              go_wp2_with fail
              go_roundw
              case measure => first | (simp [intOf]; done) | (simp [intOf]; omega)
              case rel => exact ⟨q + 1, by first | rfl | (congr 1; omega), by omega, by omega, by first | rfl | trivial⟩
            · have hqI : ¬ (q : Int) < 512 := by omega
              go_wp2_with fail
              refine (works_c).mono ?_
              rintro e wz ⟨rfl, hb⟩
              have B' := Lib.hid (below_t B.out hb)
              clear B
              have B := B'
              have hzB := B.out.size
              clear B'
              clear hb
              go_wp2_with fail
              go_ret
              exact ⟨rfl, B.out⟩
  · have hind : inD dd i = false := by
      cases hq : inD dd i with
      | false => rfl
      | true => exact absurd ⟨(inD_iff.1 hq).1, by have := (inD_iff.1 hq).2; omega⟩ hin
    have HS := Lib.hid (show readD dd i = [] by unfold readD; rw [hind]; rfl)
    have hE := Lib.hid (show readE dd i = 2 by unfold readE; rw [hind]; rfl)
    have q0 : (str ([] : Sec)).toList.isEmpty = true := by
      rw [str_toList]
      rfl
    clear hind
    by_cases hi0 : i < 0
    · clear hin
      refine (Read_i QD.out HS.out hE.out).mono ?_
      rintro e w2 ⟨rfl, hb⟩
      have QD := Lib.hid (QD.out.below hb)
      have B' := Lib.hid (below_t B.out hb)
      clear B
      have B := B'
      have hzB := B.out.size
      clear B'
      clear hb
      go_wp2_with fail
      refine (works_c).mono ?_
      rintro e wz ⟨rfl, hb⟩
      have B' := Lib.hid (below_t B.out hb)
      clear B
      have B := B'
      have hzB := B.out.size
      clear B'
      clear hb
      go_wp2_with fail
      go_ret
      exact ⟨rfl, B.out⟩
    · have hi1 : 300 ≤ i := by omega
      clear hin
      refine (Read_i QD.out HS.out hE.out).mono ?_
      rintro e w2 ⟨rfl, hb⟩
      have QD := Lib.hid (QD.out.below hb)
      have B' := Lib.hid (below_t B.out hb)
      clear B
      have B := B'
      have hzB := B.out.size
      clear B'
      clear hb
      go_wp2_with fail
      refine (works_c).mono ?_
      rintro e wz ⟨rfl, hb⟩
      have B' := Lib.hid (below_t B.out hb)
      clear B
      have B := B'
      have hzB := B.out.size
      clear B'
      clear hb
      go_wp2_with fail
      go_ret
      exact ⟨rfl, B.out⟩
end SecW
end Go.Proofs.YtjcmpcdalghniaaDoor
