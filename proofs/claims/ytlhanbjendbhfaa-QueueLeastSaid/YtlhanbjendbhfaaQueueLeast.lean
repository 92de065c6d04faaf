/-
  QueueLeast.
-/
import Derived.Test.YtlhanbjendbhfaaQueueWorks
import Derived.Test.YtlhanbjendbhfaaQueueLawP
import Derived.BigQuiet
namespace Go.Proofs.Ytlhanbjendbhfaa
open Go.RowKit
set_option linter.unusedVariables false
set_option linter.unusedSimpArgs false
namespace QueW
open BlkP RowG FrS PushG HeapP ChunkW
section
variable {w : World}
set_option maxRecDepth 100000 in
set_option maxHeartbeats 16000000 in
theorem law_least {A : Option Addr} {n c : Nat} {l : List Tick} {at_ : Int} (hR : Rd encT w (.slice A n c) l) (hn : l.length = n) :
    Calls Try.prog 6 #[.slice A n c, .int .i64 at_] w fun e w' => e = .returned (.bool true) ∧ Below w.heap.size w w' := by
  have HR := Lib.hid hR
  have HN := Lib.hid hn
  obtain ⟨m, hm⟩ : ∃ m, min n 200 = m := ⟨_, rfl⟩
  have hmn : m ≤ n := by omega
  have hmK : m ≤ 200 := by omega
  have hmI : min (n : Int) 200 = (m : Int) := by omega
  have HMI := Lib.hid hmI
  clear hR hn hm hmI
  go_enter Try.func6, Try.ntmps6
  go_wp2_with ((with_reducible refine at_slot 18 ?_); refine Classical.byContradiction (fun hG => ?_))
  refine hG ?_
  clear hG
  refine wp_uptoR rfl (.tmp 14) (.tmp 17) rfl (n := m) rfl ?_ HR.out (by rw [HN.out]; exact hmn) ?_
  · show Value.int .i64 _ = _
    rw [← HMI.out]
  intro hup
  have U0 := Lib.hid hup
  obtain ⟨l0, hl0⟩ : ∃ l0, l.take m = l0 := ⟨_, rfl⟩
  have HL0 := Lib.hid (show l0.length = m by rw [← hl0, List.length_take, HN.out]; omega)
  rw [hl0] at U0
  clear hup hl0
  go_wp2_with fail
  go_loopw [5, 6, 7] (fun v5 v6 v7 wr => ∃ (k : Nat) (bk : List Tick) (vb : Value), v7 = .int .i64 ((k : Nat) - 1) ∧ k ≤ m ∧ v6 = .int .i64 (dueL at_ (putsT bk)) ∧ v5 = vb ∧ RowG.Own encT TT wr w.heap.size vb bk ∧ bk = (l0.drop k).reverse ∧ Below w.heap.size w wr) (fun _ _ v _ => (intOf v + 1).toNat)
  case atStart =>
    refine ⟨m, [], _, rfl, Nat.le_refl _, rfl, rfl, Own.nil _ _ _ _, ?_, Below.refl _ _⟩
    rw [List.drop_eq_nil_of_le (by rw [HL0.out]; exact Nat.le_refl _)]
    rfl
  case round =>
    obtain ⟨k, bk, vb, rfl, hk, rfl, rfl, ho, hbk, hbr⟩ := hrel
    have OB := Lib.hid ho
    have HBK := Lib.hid hbk
    have BR := Lib.hid hbr
    have hbl : bk.length = m - k := by rw [hbk, List.length_reverse, List.length_drop, HL0.out]
    clear ho hbk hbr
    by_cases hk0 : k = 0
    · subst hk0
      have HBL := Lib.hid (show bk.length = m by rw [hbl]; omega)
      clear hbl
      have HD0 := due_pos (i := at_) (good_puts l0).1
      obtain ⟨L0, hL0⟩ : ∃ L0, putsT l0 = L0 := ⟨_, rfl⟩
      have HBK2 : putsT bk = L0 := by rw [HBK.out, List.drop_zero, puts_rev, hL0]
      rw [hL0] at HD0
      have HPL := Lib.hid hL0
      have HPB := Lib.hid HBK2
      obtain ⟨D, hD⟩ : ∃ D, dueL at_ L0 = D := ⟨_, rfl⟩
      rw [hD] at HD0
      have HDD := Lib.hid hD
      obtain ⟨Ab, cb, rfl, _, _, _⟩ := own_len OB.out HBL.out
      clear hL0 HBK2 hD
      simp only [HPB.out, HDD.out]
      go_wp2_with fail
      refine (put_c (U0.out.below BR.out) HL0.out (by omega)).mono ?_
      rw [HPL.out]
      rintro e w2 ⟨qb, S, rfl, hq2, hb2⟩
      have Q2 := Lib.hid hq2
      have B2 := Lib.hid (below_t BR.out hb2)
      have OB2 := Lib.hid (OB.out.below hb2).rd
      clear hq2 hb2
      go_wp2_with fail
      refine (put_c OB2.out HBL.out (by omega)).mono ?_
      rw [HPB.out]
      rintro e w3 ⟨pb, S3, rfl, hp3, hb3⟩
      have P3 := Lib.hid hp3
      have Q3 := Lib.hid (Q2.out.below hb3)
      have B3 := Lib.hid (below_t B2.out hb3)
      clear hp3 hb3
      go_wp2_with fail
      by_cases hz : D = 0
      · subst hz
        refine (Due_c Q3.out HDD.out rfl).mono ?_
        rintro e w4 ⟨rfl, rfl⟩
        go_wp2_with fail
        refine (Due_c P3.out HDD.out rfl).mono ?_
        rintro e w4 ⟨rfl, rfl⟩
        go_wp2_with fail
        refine (qLen_c Q3.out).mono ?_
        rintro e w5 ⟨rfl, rfl⟩
        go_wp2_with fail
        refine (qLen_c P3.out).mono ?_
        rintro e w5 ⟨rfl, rfl⟩
        go_wp2_with fail
        refine (works_c).mono ?_
        rintro e wz ⟨rfl, hbz⟩
        have BZ := Lib.hid (below_t B3.out hbz)
        clear hbz
        go_wp2_with fail
        go_ret
        exact ⟨rfl, BZ.out⟩
      · have hgt : 0 < D := by omega
        refine (Due_c Q3.out HDD.out (show decide (D ≠ 0) = true by simp [hz])).mono ?_
        rintro e w4 ⟨rfl, rfl⟩
        go_wp2_with fail
        refine (Due_c P3.out HDD.out (show decide (D ≠ 0) = true by simp [hz])).mono ?_
        rintro e w4 ⟨rfl, rfl⟩
        go_wp2_with fail
        refine (qLen_c Q3.out).mono ?_
        rintro e w5 ⟨rfl, rfl⟩
        go_wp2_with fail
        refine (qLen_c P3.out).mono ?_
        rintro e w5 ⟨rfl, rfl⟩
        go_wp2_with fail
        refine (works_c).mono ?_
        rintro e wz ⟨rfl, hbz⟩
        have BZ := Lib.hid (below_t B3.out hbz)
        clear hbz
        go_wp2_with fail
        go_ret
        exact ⟨rfl, BZ.out⟩
    obtain ⟨k', rfl⟩ : ∃ k', k = k' + 1 := ⟨k - 1, by omega⟩
    have HBL := Lib.hid hbl
    have hkI : ((k' + 1 : Nat) : Int) - 1 = (k' : Int) := by omega
    have hkb : (k' : Int) < (m : Int) := by omega
    have hmI2 : (m : Int) ≤ 200 := by omega
    obtain ⟨⟨a, d⟩, hx⟩ : ∃ x, l0[k']? = some x := ⟨_, List.getElem?_eq_getElem (by rw [HL0.out]; omega)⟩
    have HX := Lib.hid hx
    obtain ⟨b0, o0, rfl, hl00, hs0⟩ := (U0.out.below BR.out).at hx
    have x0 := hs0 0 _ rfl
    have x1 := hs0 1 _ rfl
    simp only [show encT.k = 2 from rfl, Nat.add_zero] at x0 x1
    have HDN := Lib.hid (show dueL at_ (putsT (bk ++ [(a, d)])) = mn (a, d) at_ (dueL at_ (putsT bk)) by rw [puts_app, due_putT (good_puts bk)])
    obtain ⟨D, hD⟩ : ∃ D, dueL at_ (putsT bk) = D := ⟨_, rfl⟩
    rw [hD] at HDN ⊢
    clear hbl hx hs0 hD hk0
    simp only [hkI]
    cases hmb : mayB (a, d) with
    | false =>
      have HM := Lib.hid hmb
      have hmn2 : mn (a, d) at_ D = D := by unfold mn; rw [hmb]; simp
      have HMN := Lib.hid hmn2
      clear hmn2 hmb
      go_wp2_with ((with_reducible refine at_slot 32 ?_); refine Classical.byContradiction (fun hG => ?_))
      refine hG ?_
      clear hG
      refine RowG.wp_push encT rfl (.tmp 26) (.tmp 31) rfl underS infoT rfl (by decide) wr #[.int .i64 a, .int .i64 d] rfl (a, d) rfl rfl (B := w.heap.size) OB.out rfl (by rw [HBL.out]; have : maxLen = 9223372036854775807 := rfl; omega) (by rw [HBL.out]; omega) BR.out.size ?_
      intro v5 w5 ho5 hg5 hv5
      have O5 := Lib.hid ho5
      have B5 := Lib.hid (show Below w.heap.size w w5 from BR.out.trans (OB.out.grownB hg5 BR.out.size))
      have hr5 : Rd encT w5 (.slice (some ⟨b0, o0, none⟩) m c) l0 := U0.out.below B5.out
      obtain ⟨b3, o3, hA3, hl3, hs3⟩ := hr5.at HX.out
      injection hA3 with hA3
      injection hA3 with e1 e2
      subst e1 e2
      have x0 := hs3 0 _ rfl
      have x1 := hs3 1 _ rfl
      simp only [show encT.k = 2 from rfl, Nat.add_zero] at x0 x1
      clear ho5 hg5 hv5 hr5 hs3
      go_wp2_with fail
      refine (lmay_c HM.out).mono ?_
      rintro e w6 ⟨rfl, hb6⟩
      have B6 := Lib.hid (below_t B5.out hb6)
      have O6 := Lib.hid (O5.out.below hb6)
      have hr6 : Rd encT w6 (.slice (some ⟨b0, o0, none⟩) m c) l0 := U0.out.below B6.out
      obtain ⟨b3, o3, hA3, hl3, hs3⟩ := hr6.at HX.out
      injection hA3 with hA3
      injection hA3 with e1 e2
      subst e1 e2
      have x0 := hs3 0 _ rfl
      have x1 := hs3 1 _ rfl
      simp only [show encT.k = 2 from rfl, Nat.add_zero] at x0 x1
      clear hb6 hr6 hs3
      go_wp2_with fail
      go_roundw
      case measure =>
        simp only [intOf]
        omega
      case rel =>
        refine ⟨k', bk ++ [(a, d)], v5, rfl, by omega, by first | rfl | (rw [HDN.out, HMN.out]), rfl, O6.out, ?_, B6.out⟩
        rw [(make_step (L1 := []) HX.out).1, List.reverse_cons, ← HBK.out]
    | true =>
      have HM := Lib.hid hmb
      by_cases he : a = at_
      · subst he
        by_cases hD0 : D = 0
        · skip
          have hmn2 : mn (a, d) a D = d := by unfold mn; rw [if_pos ⟨hmb, rfl, .inl hD0⟩]
          subst hD0
          have HMN := Lib.hid hmn2
          clear hmn2 hmb
          go_wp2_with ((with_reducible refine at_slot 32 ?_); refine Classical.byContradiction (fun hG => ?_))
          refine hG ?_
          clear hG
          refine RowG.wp_push encT rfl (.tmp 26) (.tmp 31) rfl underS infoT rfl (by decide) wr #[.int .i64 a, .int .i64 d] rfl (a, d) rfl rfl (B := w.heap.size) OB.out rfl (by rw [HBL.out]; have : maxLen = 9223372036854775807 := rfl; omega) (by rw [HBL.out]; omega) BR.out.size ?_
          intro v5 w5 ho5 hg5 hv5
          have O5 := Lib.hid ho5
          have B5 := Lib.hid (show Below w.heap.size w w5 from BR.out.trans (OB.out.grownB hg5 BR.out.size))
          have hr5 : Rd encT w5 (.slice (some ⟨b0, o0, none⟩) m c) l0 := U0.out.below B5.out
          obtain ⟨b3, o3, hA3, hl3, hs3⟩ := hr5.at HX.out
          injection hA3 with hA3
          injection hA3 with e1 e2
          subst e1 e2
          have x0 := hs3 0 _ rfl
          have x1 := hs3 1 _ rfl
          simp only [show encT.k = 2 from rfl, Nat.add_zero] at x0 x1
          clear ho5 hg5 hv5 hr5 hs3
          go_wp2_with fail
          refine (lmay_c HM.out).mono ?_
          rintro e w6 ⟨rfl, hb6⟩
          have B6 := Lib.hid (below_t B5.out hb6)
          have O6 := Lib.hid (O5.out.below hb6)
          have hr6 : Rd encT w6 (.slice (some ⟨b0, o0, none⟩) m c) l0 := U0.out.below B6.out
          obtain ⟨b3, o3, hA3, hl3, hs3⟩ := hr6.at HX.out
          injection hA3 with hA3
          injection hA3 with e1 e2
          subst e1 e2
          have x0 := hs3 0 _ rfl
          have x1 := hs3 1 _ rfl
          simp only [show encT.k = 2 from rfl, Nat.add_zero] at x0 x1
          clear hb6 hr6 hs3
          go_wp2_with fail
          go_roundw
          case measure =>
            simp only [intOf]
            omega
          case rel =>
            refine ⟨k', bk ++ [(a, d)], v5, rfl, by omega, by first | rfl | (rw [HDN.out, HMN.out]), rfl, O6.out, ?_, B6.out⟩
            rw [(make_step (L1 := []) HX.out).1, List.reverse_cons, ← HBK.out]
        · by_cases hlt : d < D
          · skip
            have hDne : (D == 0) = false := by simp [hD0]
            have hmn2 : mn (a, d) a D = d := by unfold mn; rw [if_pos ⟨hmb, rfl, .inr hlt⟩]
            have HMN := Lib.hid hmn2
            clear hmn2 hmb
            go_wp2_with ((with_reducible refine at_slot 32 ?_); refine Classical.byContradiction (fun hG => ?_))
            refine hG ?_
            clear hG
            refine RowG.wp_push encT rfl (.tmp 26) (.tmp 31) rfl underS infoT rfl (by decide) wr #[.int .i64 a, .int .i64 d] rfl (a, d) rfl rfl (B := w.heap.size) OB.out rfl (by rw [HBL.out]; have : maxLen = 9223372036854775807 := rfl; omega) (by rw [HBL.out]; omega) BR.out.size ?_
            intro v5 w5 ho5 hg5 hv5
            have O5 := Lib.hid ho5
            have B5 := Lib.hid (show Below w.heap.size w w5 from BR.out.trans (OB.out.grownB hg5 BR.out.size))
            have hr5 : Rd encT w5 (.slice (some ⟨b0, o0, none⟩) m c) l0 := U0.out.below B5.out
            obtain ⟨b3, o3, hA3, hl3, hs3⟩ := hr5.at HX.out
            injection hA3 with hA3
            injection hA3 with e1 e2
            subst e1 e2
            have x0 := hs3 0 _ rfl
            have x1 := hs3 1 _ rfl
            simp only [show encT.k = 2 from rfl, Nat.add_zero] at x0 x1
            clear ho5 hg5 hv5 hr5 hs3
            go_wp2_with fail
            refine (lmay_c HM.out).mono ?_
            rintro e w6 ⟨rfl, hb6⟩
            have B6 := Lib.hid (below_t B5.out hb6)
            have O6 := Lib.hid (O5.out.below hb6)
            have hr6 : Rd encT w6 (.slice (some ⟨b0, o0, none⟩) m c) l0 := U0.out.below B6.out
            obtain ⟨b3, o3, hA3, hl3, hs3⟩ := hr6.at HX.out
            injection hA3 with hA3
            injection hA3 with e1 e2
            subst e1 e2
            have x0 := hs3 0 _ rfl
            have x1 := hs3 1 _ rfl
            simp only [show encT.k = 2 from rfl, Nat.add_zero] at x0 x1
            clear hb6 hr6 hs3
            go_wp2_with fail
            go_roundw
            case measure =>
              simp only [intOf]
              omega
            case rel =>
              refine ⟨k', bk ++ [(a, d)], v5, rfl, by omega, by first | rfl | (rw [HDN.out, HMN.out]), rfl, O6.out, ?_, B6.out⟩
              rw [(make_step (L1 := []) HX.out).1, List.reverse_cons, ← HBK.out]
          · skip
            have hDne : (D == 0) = false := by simp [hD0]
            have hle : D ≤ d := by omega
            have hmn2 : mn (a, d) a D = D := by unfold mn; rw [if_neg (fun q => by have := q.2.2; omega)]
            have HMN := Lib.hid hmn2
            clear hmn2 hmb
            go_wp2_with ((with_reducible refine at_slot 32 ?_); refine Classical.byContradiction (fun hG => ?_))
            refine hG ?_
            clear hG
            refine RowG.wp_push encT rfl (.tmp 26) (.tmp 31) rfl underS infoT rfl (by decide) wr #[.int .i64 a, .int .i64 d] rfl (a, d) rfl rfl (B := w.heap.size) OB.out rfl (by rw [HBL.out]; have : maxLen = 9223372036854775807 := rfl; omega) (by rw [HBL.out]; omega) BR.out.size ?_
            intro v5 w5 ho5 hg5 hv5
            have O5 := Lib.hid ho5
            have B5 := Lib.hid (show Below w.heap.size w w5 from BR.out.trans (OB.out.grownB hg5 BR.out.size))
            have hr5 : Rd encT w5 (.slice (some ⟨b0, o0, none⟩) m c) l0 := U0.out.below B5.out
            obtain ⟨b3, o3, hA3, hl3, hs3⟩ := hr5.at HX.out
            injection hA3 with hA3
            injection hA3 with e1 e2
            subst e1 e2
            have x0 := hs3 0 _ rfl
            have x1 := hs3 1 _ rfl
            simp only [show encT.k = 2 from rfl, Nat.add_zero] at x0 x1
            clear ho5 hg5 hv5 hr5 hs3
            go_wp2_with fail
            refine (lmay_c HM.out).mono ?_
            rintro e w6 ⟨rfl, hb6⟩
            have B6 := Lib.hid (below_t B5.out hb6)
            have O6 := Lib.hid (O5.out.below hb6)
            have hr6 : Rd encT w6 (.slice (some ⟨b0, o0, none⟩) m c) l0 := U0.out.below B6.out
            obtain ⟨b3, o3, hA3, hl3, hs3⟩ := hr6.at HX.out
            injection hA3 with hA3
            injection hA3 with e1 e2
            subst e1 e2
            have x0 := hs3 0 _ rfl
            have x1 := hs3 1 _ rfl
            simp only [show encT.k = 2 from rfl, Nat.add_zero] at x0 x1
            clear hb6 hr6 hs3
            go_wp2_with fail
            go_roundw
            case measure =>
              simp only [intOf]
              omega
            case rel =>
              refine ⟨k', bk ++ [(a, d)], v5, rfl, by omega, by first | rfl | (rw [HDN.out, HMN.out]), rfl, O6.out, ?_, B6.out⟩
              rw [(make_step (L1 := []) HX.out).1, List.reverse_cons, ← HBK.out]
      · skip
        have hne : (a == at_) = false := by simp [he]
        have hmn2 : mn (a, d) at_ D = D := by unfold mn; rw [if_neg (fun q => he q.2.1.symm)]
        have HMN := Lib.hid hmn2
        clear hmn2 hmb
        go_wp2_with ((with_reducible refine at_slot 32 ?_); refine Classical.byContradiction (fun hG => ?_))
        refine hG ?_
        clear hG
        refine RowG.wp_push encT rfl (.tmp 26) (.tmp 31) rfl underS infoT rfl (by decide) wr #[.int .i64 a, .int .i64 d] rfl (a, d) rfl rfl (B := w.heap.size) OB.out rfl (by rw [HBL.out]; have : maxLen = 9223372036854775807 := rfl; omega) (by rw [HBL.out]; omega) BR.out.size ?_
        intro v5 w5 ho5 hg5 hv5
        have O5 := Lib.hid ho5
        have B5 := Lib.hid (show Below w.heap.size w w5 from BR.out.trans (OB.out.grownB hg5 BR.out.size))
        have hr5 : Rd encT w5 (.slice (some ⟨b0, o0, none⟩) m c) l0 := U0.out.below B5.out
        obtain ⟨b3, o3, hA3, hl3, hs3⟩ := hr5.at HX.out
        injection hA3 with hA3
        injection hA3 with e1 e2
        subst e1 e2
        have x0 := hs3 0 _ rfl
        have x1 := hs3 1 _ rfl
        simp only [show encT.k = 2 from rfl, Nat.add_zero] at x0 x1
        clear ho5 hg5 hv5 hr5 hs3
        go_wp2_with fail
        refine (lmay_c HM.out).mono ?_
        rintro e w6 ⟨rfl, hb6⟩
        have B6 := Lib.hid (below_t B5.out hb6)
        have O6 := Lib.hid (O5.out.below hb6)
        have hr6 : Rd encT w6 (.slice (some ⟨b0, o0, none⟩) m c) l0 := U0.out.below B6.out
        obtain ⟨b3, o3, hA3, hl3, hs3⟩ := hr6.at HX.out
        injection hA3 with hA3
        injection hA3 with e1 e2
        subst e1 e2
        have x0 := hs3 0 _ rfl
        have x1 := hs3 1 _ rfl
        simp only [show encT.k = 2 from rfl, Nat.add_zero] at x0 x1
        clear hb6 hr6 hs3
        go_wp2_with fail
        go_roundw
        case measure =>
          simp only [intOf]
          omega
        case rel =>
          refine ⟨k', bk ++ [(a, d)], v5, rfl, by omega, by first | rfl | (rw [HDN.out, HMN.out]), rfl, O6.out, ?_, B6.out⟩
          rw [(make_step (L1 := []) HX.out).1, List.reverse_cons, ← HBK.out]
end
end QueW
end Go.Proofs.Ytlhanbjendbhfaa
