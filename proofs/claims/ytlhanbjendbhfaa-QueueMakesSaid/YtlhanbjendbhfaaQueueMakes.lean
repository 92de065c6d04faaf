/-
  QueueMakes.
-/
import Derived.Test.YtlhanbjendbhfaaQueueWorks
import Derived.Test.YtlhanbjendbhfaaQueueLawP
import Derived.BigQuiet
namespace Go.Proofs.Ytlhanbjendbhfaa
open Go.RowKit
set_option linter.unusedVariables false
set_option linter.unusedSimpArgs false
namespace QueW
open BlkP RowG FrS PushG HeapP ChunkW
section
variable {w : World}
set_option maxRecDepth 100000 in
set_option maxHeartbeats 16000000 in
theorem law_makes {A : Option Addr} {n c : Nat} {l : List Tick} (hR : Rd encT w (.slice A n c) l) (hn : l.length = n) :
    Calls Try.prog 3 #[.slice A n c] w fun e w' => e = .returned (.bool true) ∧ Below w.heap.size w w' := by
  have HR := Lib.hid hR
  have HN := Lib.hid hn
  obtain ⟨m, hm⟩ : ∃ m, min n 5000 = m := ⟨_, rfl⟩
  have hmn : m ≤ n := by omega
  have hmK : m ≤ 5000 := by omega
  have hmI : min (n : Int) 5000 = (m : Int) := by omega
  have HMI := Lib.hid hmI
  clear hR hn hm hmI
  go_enter Try.func3, Try.ntmps3
  go_wp2_with ((with_reducible refine at_slot 13 ?_); refine Classical.byContradiction (fun hG => ?_))
  refine hG ?_
  clear hG
  refine wp_uptoR rfl (.tmp 9) (.tmp 12) rfl (n := m) rfl ?_ HR.out (by rw [HN.out]; exact hmn) ?_
  · show Value.int .i64 _ = _
    rw [← HMI.out]
  intro hup
  have U0 := Lib.hid hup
  obtain ⟨l0, hl0⟩ : ∃ l0, l.take m = l0 := ⟨_, rfl⟩
  have HL0 := Lib.hid (show l0.length = m by rw [← hl0, List.length_take, HN.out]; omega)
  rw [hl0] at U0
  clear hup hl0
  go_wp2_with ((with_reducible refine at_slot 16 ?_); refine Classical.byContradiction (fun hG => ?_))
  refine hG ?_
  clear hG
  refine wp_appT rfl (.tmp 14) (.tmp 15) rfl (B := w.heap.size) (l0 := []) (v := .slice none 0 0) rfl rfl (Own.nil _ _ _ _) U0.out HL0.out.symm (by simp; omega) (Nat.le_refl _) ?_
  intro v1 w1 ho1 hg1
  rw [List.nil_append] at ho1
  obtain ⟨A1, c1, rfl, _, _, hA1⟩ := own_len ho1 HL0.out
  have O1 := Lib.hid ho1
  have HA1 := Lib.hid hA1
  have B1 := Lib.hid (show Below w.heap.size w w1 from Below.grown (Below.refl _ w) hg1 (Nat.le_refl _) (fun k hk => by cases hk))
  obtain ⟨⟨r1, r2⟩, hRR⟩ : ∃ R, newL l0 = R := ⟨_, rfl⟩
  have HRR := Lib.hid hRR
  clear ho1 hg1 hA1 hRR
  go_wp2_with fail
  refine (New_c O1.out.rd HL0.out (by omega) HRR.out).mono ?_
  rintro e w2 ⟨hb2, h2⟩
  have B2 := Lib.hid (below_t B1.out hb2)
  have O2 := Lib.hid (O1.out.below hb2)
  have HZ := Lib.hid hb2.size
  rcases h2 with ⟨hne, rfl⟩ | ⟨hez, qb, S, rfl, hq2⟩
  · clear hb2
    go_wp2_with fail
    refine (rNew_c (U0.out.below B2.out) HL0.out (by omega) HRR.out).mono ?_
    rintro e w3 ⟨hb3, h3⟩
    have B3 := Lib.hid (below_t B2.out hb3)
    have O3 := Lib.hid (O2.out.below hb3)
    rcases h3 with ⟨_, rfl⟩ | ⟨hez, _⟩
    · clear hb3
      have hne' : r1 ≠ 0 := hne
      have hneb : (r1 != 0) = true := by simp [hne']
      have hself : (r1 != r1) = false := by simp
      clear hne
      go_wp2_with fail
      go_loopw [8] (fun v8 wr => ∃ (i : Nat) (l1 : List Tick), v8 = .int .i64 (i : Nat) ∧ i ≤ m ∧ l1.length = m ∧ (∀ k, i ≤ k → l1[k]? = l0[k]?) ∧ RowG.Own encT TT wr w.heap.size (.slice A1 m c1) l1 ∧ Fr (fun k => (Value.slice A1 m c1).ownBlock = some k) w3 wr) (fun v _ => 6000 - (intOf v).toNat)
      case atStart => exact ⟨0, l0, rfl, Nat.zero_le _, HL0.out, fun _ _ => rfl, O3.out, Fr.refl _ _⟩
      case round =>
        obtain ⟨i, l1, rfl, hi, hl1, hsame, ho, hfr⟩ := hrel
        have HL1 := Lib.hid hl1
        have HSM := Lib.hid hsame
        have O := Lib.hid ho
        have FR := Lib.hid hfr
        have BW := Lib.hid (show Below w.heap.size w wr from B3.out.trans (hfr.toBelow B3.out.size (fun k hk => (O3.out.ge k hk).1)))
        clear hl1 hsame ho hfr
        by_cases him : i < m
        · have hiI : (i : Int) < (m : Int) := by omega
          have hi1 : (i : Int) + 1 ≤ 5000 := by omega
          have hmI2 : (m : Int) ≤ 5000 := by omega
          obtain ⟨g, rfl, hg1, _⟩ := HA1.out (by omega)
          obtain ⟨⟨a, d⟩, hx⟩ : ∃ x, l0[i]? = some x := ⟨_, List.getElem?_eq_getElem (by rw [HL0.out]; exact him)⟩
          have HX := Lib.hid hx
          have hx1 := (HSM.out i (Nat.le_refl _)).trans hx
          have HX1 := Lib.hid hx1
          have x0 := O.out.cell (j := 0) hx1 rfl
          have x1 := O.out.cell (j := 1) hx1 rfl
          have hgl := (O.out.ge g rfl).2
          have f0 := fun o => O.out.frozen o
          obtain ⟨b0, o0, hA, hl00, hs0⟩ := (U0.out.below BW.out).at HX.out
          subst hA
          have y0 := hs0 0 _ rfl
          have y1 := hs0 1 _ rfl
          simp only [show encT.k = 2 from rfl, Nat.add_zero] at x0 x1 y0 y1
          have qn := fun w => run_neT w a d
          clear hx hx1 hs0
          go_wp2_with fail
          go_quiet (fail)
          go_wp2_with fail
          go_roundw
          case measure =>
            simp only [intOf]
            omega
          case rel =>
            refine ⟨i + 1, l1.set i (1, 1), by first | rfl | (congr 1; omega), by omega, by rw [List.length_set]; exact HL1.out, fun k hk => ?_, (show RowG.Own encT TT _ w.heap.size (.slice (some ⟨g, 0, none⟩) m c1) (l1.set i (1, 1)) from own_setT (y := (1, 1)) O.out HX1.out rfl), ?_⟩
            · rw [List.getElem?_set_ne (by omega)]
              exact HSM.out k (by omega)
            · exact (FR.out.drewN _).trans (Fr.mono (S' := fun k => (Value.slice (some ⟨g, 0, none⟩) m c1).ownBlock = some k) (fr_setT (g := g)) (fun k hk => by rw [hk]; rfl)) (fun k hk => .inl hk)
        · have hiI : ¬ (i : Int) < (m : Int) := by omega
          go_wp2_with fail
          refine (works_c).mono ?_
          rintro e wz ⟨rfl, hbz⟩
          have BZ := Lib.hid (BW.out.trans (hbz.mono BW.out.size))
          clear hbz
          go_wp2_with fail
          go_ret
          exact ⟨rfl, BZ.out⟩
    · exact absurd hez hne
  · have Q2 := Lib.hid (show Que w2 w1.heap.size qb r2 S from hq2)
    clear hb2 hq2
    go_wp2_with fail
    refine (rNew_c (U0.out.below B2.out) HL0.out (by omega) HRR.out).mono ?_
    rintro e w3 ⟨hb3, h3⟩
    have B3 := Lib.hid (below_t B2.out hb3)
    have O3 := Lib.hid (O2.out.below hb3)
    have Q3 := Lib.hid (Q2.out.below hb3)
    rcases h3 with ⟨hne, _⟩ | ⟨_, rb, T, rfl, hr3, hT3⟩
    · exact absurd hez hne
    · have R3 := Lib.hid (show RQ w3 rb r2 T from hr3)
      have RT := Lib.hid hT3
      clear hb3 hr3 hT3
      have hez' : r1 = 0 := hez
      subst hez'
      clear hez
      go_wp2_with fail
      go_loopw [8] (fun v8 wr => ∃ (i : Nat) (l1 : List Tick), v8 = .int .i64 (i : Nat) ∧ i ≤ m ∧ l1.length = m ∧ (∀ k, i ≤ k → l1[k]? = l0[k]?) ∧ RowG.Own encT TT wr w.heap.size (.slice A1 m c1) l1 ∧ Fr (fun k => (Value.slice A1 m c1).ownBlock = some k) w3 wr) (fun v _ => 6000 - (intOf v).toNat)
      case atStart => exact ⟨0, l0, rfl, Nat.zero_le _, HL0.out, fun _ _ => rfl, O3.out, Fr.refl _ _⟩
      case round =>
        obtain ⟨i, l1, rfl, hi, hl1, hsame, ho, hfr⟩ := hrel
        have HL1 := Lib.hid hl1
        have HSM := Lib.hid hsame
        have O := Lib.hid ho
        have FR := Lib.hid hfr
        have BW := Lib.hid (show Below w.heap.size w wr from B3.out.trans (hfr.toBelow B3.out.size (fun k hk => (O3.out.ge k hk).1)))
        clear hl1 hsame ho hfr
        by_cases him : i < m
        · have hiI : (i : Int) < (m : Int) := by omega
          have hi1 : (i : Int) + 1 ≤ 5000 := by omega
          have hmI2 : (m : Int) ≤ 5000 := by omega
          obtain ⟨g, rfl, hg1, _⟩ := HA1.out (by omega)
          obtain ⟨⟨a, d⟩, hx⟩ : ∃ x, l0[i]? = some x := ⟨_, List.getElem?_eq_getElem (by rw [HL0.out]; exact him)⟩
          have HX := Lib.hid hx
          have hx1 := (HSM.out i (Nat.le_refl _)).trans hx
          have HX1 := Lib.hid hx1
          have x0 := O.out.cell (j := 0) hx1 rfl
          have x1 := O.out.cell (j := 1) hx1 rfl
          have hgl := (O.out.ge g rfl).2
          have f0 := fun o => O.out.frozen o
          obtain ⟨b0, o0, hA, hl00, hs0⟩ := (U0.out.below BW.out).at HX.out
          subst hA
          have y0 := hs0 0 _ rfl
          have y1 := hs0 1 _ rfl
          simp only [show encT.k = 2 from rfl, Nat.add_zero] at x0 x1 y0 y1
          have qn := fun w => run_neT w a d
          clear hx hx1 hs0
          go_wp2_with fail
          go_quiet (fail)
          go_wp2_with fail
          go_roundw
          case measure =>
            simp only [intOf]
            omega
          case rel =>
            refine ⟨i + 1, l1.set i (1, 1), by first | rfl | (congr 1; omega), by omega, by rw [List.length_set]; exact HL1.out, fun k hk => ?_, (show RowG.Own encT TT _ w.heap.size (.slice (some ⟨g, 0, none⟩) m c1) (l1.set i (1, 1)) from own_setT (y := (1, 1)) O.out HX1.out rfl), ?_⟩
            · rw [List.getElem?_set_ne (by omega)]
              exact HSM.out k (by omega)
            · exact (FR.out.drewN _).trans (Fr.mono (S' := fun k => (Value.slice (some ⟨g, 0, none⟩) m c1).ownBlock = some k) (fr_setT (g := g)) (fun k hk => by rw [hk]; rfl)) (fun k hk => .inl hk)
        · have hiI : ¬ (i : Int) < (m : Int) := by omega
          have Q := Lib.hid (Q3.out.fr FR.out (fun k h1 h2 => by
            have := (Q3.out.ge h1).1
            have := (O1.out.ge k h2).2
            omega))
          have RQ' := Lib.hid (R3.out.fr FR.out (fun k h1 h2 => by
            have := RT.out k h1
            have := (O1.out.ge k h2).2
            have := HZ.out
            omega))
          go_wp2_with fail
          refine (same_c Q.out RQ'.out).mono ?_
          rintro e w4 ⟨rfl, hb4⟩
          have B4 := Lib.hid (BW.out.trans (hb4.mono BW.out.size))
          clear hb4
          go_wp2_with fail
          refine (works_c).mono ?_
          rintro e wz ⟨rfl, hbz⟩
          have BZ := Lib.hid (B4.out.trans (hbz.mono B4.out.size))
          clear hbz
          go_wp2_with fail
          go_ret
          exact ⟨rfl, BZ.out⟩
end
end QueW
end Go.Proofs.Ytlhanbjendbhfaa
