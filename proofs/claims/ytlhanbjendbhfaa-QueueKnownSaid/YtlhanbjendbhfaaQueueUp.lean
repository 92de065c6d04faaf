/-
  heap.up.
-/
import Derived.Test.YtlhanbjendbhfaaQueuePush
namespace Go.Proofs.Ytlhanbjendbhfaa
open Go.RowKit
set_option linter.unusedVariables false
set_option linter.unusedSimpArgs false
namespace QueW
open BlkP RowG FrS PushG HeapP ChunkW

theorem m_rec (pb f : Nat) (w : World) : ((do let r ← receiverAt TLs (.var ⟨pb, 0, none⟩) false none; pure (f, r) : Sem (FuncId × Value))).run Try.prog w = ((loadVar TLs ⟨pb, 0, none⟩).run Try.prog w).andThen (fun v w' => .ok (f, v) w') := by
  have h : (receiverAt TLs (.var ⟨pb, 0, none⟩) false none).run Try.prog w = (loadVar TLs ⟨pb, 0, none⟩).run Try.prog w := by kernel_rfl
  simp only [Sem.run_bind, Sem.run_pure, h]
theorem m_var {pb : Nat} {w : World} {v : Value} (h : w.cell? ⟨pb, 0, none⟩ = some v) : (loadVar TLs ⟨pb, 0, none⟩).run Try.prog w = .ok v w := by
  go_simp
theorem m_less1 (pb : Nat) (w : World) : (method 223 55 (.pointer (some ⟨pb, 0, none⟩)) "Less").run Try.prog w = ((do let r ← receiverAt TLs (.var ⟨pb, 0, none⟩) false none; pure (85, r) : Sem (FuncId × Value))).run Try.prog w := by kernel_rfl
theorem m_less {pb : Nat} {w : World} {v : Value} (h : w.cell? ⟨pb, 0, none⟩ = some v) : (method 223 55 (.pointer (some ⟨pb, 0, none⟩)) "Less").run Try.prog w = .ok (85, v) w := by
  rw [m_less1, m_rec, m_var h]
  rfl
theorem m_len1 (pb : Nat) (w : World) : (method 223 55 (.pointer (some ⟨pb, 0, none⟩)) "Len").run Try.prog w = ((do let r ← receiverAt TLs (.var ⟨pb, 0, none⟩) false none; pure (42, r) : Sem (FuncId × Value))).run Try.prog w := by kernel_rfl
theorem m_len {pb : Nat} {w : World} {v : Value} (h : w.cell? ⟨pb, 0, none⟩ = some v) : (method 223 55 (.pointer (some ⟨pb, 0, none⟩)) "Len").run Try.prog w = .ok (42, v) w := by
  rw [m_len1, m_rec, m_var h]
  rfl
theorem m_swap (pb : Nat) (w : World) : (method 223 55 (.pointer (some ⟨pb, 0, none⟩)) "Swap").run Try.prog w = .ok (88, .pointer (some ⟨pb, 0, none⟩)) w := by kernel_rfl
theorem m_push (pb : Nat) (w : World) : (method 223 55 (.pointer (some ⟨pb, 0, none⟩)) "Push").run Try.prog w = .ok (87, .pointer (some ⟨pb, 0, none⟩)) w := by kernel_rfl
theorem m_pop (pb : Nat) (w : World) : (method 223 55 (.pointer (some ⟨pb, 0, none⟩)) "Pop").run Try.prog w = .ok (86, .pointer (some ⟨pb, 0, none⟩)) w := by kernel_rfl
set_option maxRecDepth 100000 in
set_option maxHeartbeats 16000000 in
theorem up_c {w : World} {pb B g n c j0 m : Nat} {l L : List Tick} {W : Nat → Nat} (h : Pd w B pb (.slice (some ⟨g, 0, none⟩) n c) l W) (hw : Ws l W L) (hn : l.length = n) (hm : m ≤ n) (hj0 : j0 < m) (hu : Up tl (gt l) m j0) :
    Calls Try.prog 49 #[.iface 55 (.pointer (some ⟨pb, 0, none⟩)), .int .i64 (j0 : Int)] w fun e w' => e = .returned (.tuple #[]) ∧ ∃ l' W', Pd w' B pb (.slice (some ⟨g, 0, none⟩) n c) l' W' ∧ Ws l' W' L ∧ l'.length = n ∧ Heap tl (gt l') m ∧ (∀ k, m ≤ k → gt l' k = gt l k) ∧ Fr (Sp pb (.slice (some ⟨g, 0, none⟩) n c)) w w' := by
  have HH := Lib.hid h
  have HW := Lib.hid hw
  have HN := Lib.hid hn
  have HU := Lib.hid hu
  have hn5 : n ≤ 4096 := by rw [← hn]; exact hw.few
  clear h hw hn hu
  go_enter Try.func49, Try.ntmps49
  go_wp2_with fail
  go_loopw [1, 4] (fun v1 _ wr => ∃ (j : Nat) (l1 : List Tick) (W1 : Nat → Nat), v1 = .int .i64 (j : Nat) ∧ j < m ∧ Pd wr B pb (.slice (some ⟨g, 0, none⟩) n c) l1 W1 ∧ Ws l1 W1 L ∧ l1.length = n ∧ Up tl (gt l1) m j ∧ (∀ k, m ≤ k → gt l1 k = gt l k) ∧ Fr (Sp pb (.slice (some ⟨g, 0, none⟩) n c)) w wr) (fun v _ _ => (intOf v).toNat)
  case atStart =>
    exact ⟨j0, l, W, rfl, hj0, HH.out, HW.out, HN.out, HU.out, fun _ _ => rfl, Fr.refl _ w⟩
  case round =>
    obtain ⟨j, l1, W1, rfl, hj, h1, hw1, hn1, hu1, hk1, hf1⟩ := hrel
    have H1 := Lib.hid h1
    have W1' := Lib.hid hw1
    have N1 := Lib.hid hn1
    have U1 := Lib.hid hu1
    have K1 := Lib.hid hk1
    have F1 := Lib.hid hf1
    clear h1 hw1 hn1 hu1 hk1 hf1
    by_cases h0 : j = 0
    · subst h0
      go_wp2_with fail
      go_end0
      exact ⟨rfl, l1, W1, H1.out, W1'.out, N1.out, up_stop U1.out (.inl rfl), K1.out, F1.out⟩
    obtain ⟨p, hp⟩ : ∃ p, par j = p := ⟨_, rfl⟩
    have hpj : p < j := by rw [← hp]; exact par_lt (by omega)
    have hpd : p = (j - 1) / 2 := by rw [← hp]; rfl
    have hq : ((j - 1 : Nat) : Int) / 2 = (p : Int) := by
      rw [hpd]
      omega
    have hq1 : ((j : Int) - 1) / 2 = (p : Int) := by
      rw [hpd]
      omega
    have hqj : ((p : Int) == (j : Int)) = false := by simp; omega
    have hjI : (j : Int) ≤ 4096 := by omega
    have hj0I : 0 < (j : Int) := by omega
    have HQ1 := Lib.hid hq1
    have HP := Lib.hid hp
    clear hq1 hpd hp hq
    have hml := m_less H1.out.cell0
    have hsw := m_swap pb
    have gp := gt_some (l := l1) (k := p) (by rw [N1.out]; omega)
    have gj := gt_some (l := l1) (k := j) (by rw [N1.out]; omega)
    have ip := W1'.out.ix (k := p) (by rw [N1.out]; omega)
    have ij := W1'.out.ix (k := j) (by rw [N1.out]; omega)
    obtain ⟨⟨tp1, tp2⟩, htp⟩ : ∃ t, gt l1 p = t := ⟨_, rfl⟩
    obtain ⟨⟨tj1, tj2⟩, htj⟩ : ∃ t, gt l1 j = t := ⟨_, rfl⟩
    rw [htp] at gp ip
    rw [htj] at gj ij
    obtain ⟨ap, rfl⟩ : ∃ ap : Nat, tp1 = (ap : Int) := ⟨tp1.toNat, by have := ip.1; omega⟩
    obtain ⟨aj, rfl⟩ : ∃ aj : Nat, tj1 = (aj : Int) := ⟨tj1.toNat, by have := ij.1; omega⟩
    have hap : ap < 4096 := by have := ip.2; omega
    have haj : aj < 4096 := by have := ij.2; omega
    have GP := Lib.hid gp
    have GJ := Lib.hid gj
    have TP := Lib.hid htp
    have TJ := Lib.hid htj
    clear gp gj ip ij htp htj
    cases hb : tlB ((aj : Int), tj2) ((ap : Int), tp2) with
    | false =>
      have HB := Lib.hid hb
      clear hb
      go_wp2_with fail
      rw [HQ1.out]
      refine (less_c H1.out.row.rd N1.out (by omega) GJ.out GP.out).mono ?_
      rw [HB.out]
      rintro e w1 ⟨rfl, hb1⟩
      have B1 := Lib.hid hb1
      clear hb1
      go_wp2_with fail
      go_end0
      exact ⟨rfl, l1, W1, H1.out.below B1.out, W1'.out, N1.out, up_stop U1.out (.inr (by rw [HP.out, TJ.out, TP.out]; exact tlB_not.1 HB.out)), K1.out, F1.out.trans (Fr.below _ B1.out) (fun i hi => .inl hi)⟩
    | true =>
      have HB := Lib.hid hb
      clear hb
      go_wp2_with fail
      rw [HQ1.out]
      refine (less_c H1.out.row.rd N1.out (by omega) GJ.out GP.out).mono ?_
      rw [HB.out]
      rintro e w1 ⟨rfl, hb1⟩
      have B1 := Lib.hid hb1
      clear hb1
      go_wp2_with fail
      refine (Swap_c (H1.out.below B1.out) N1.out (by omega) GP.out GJ.out hap haj).mono ?_
      rintro e w2 ⟨rfl, hp2, hf2⟩
      have P2 := Lib.hid hp2
      have F2 := Lib.hid hf2
      clear hp2 hf2
      go_wp2_with fail
      go_roundw
      case measure =>
        simp [intOf]
        omega
      refine ⟨p, swp l1 p j, _, rfl, by omega, P2.out, ?_, by rw [swp_len, N1.out], ?_, fun k hk => ?_, (F1.out.trans (Fr.below _ B1.out) (fun i hi => .inl hi)).trans F2.out (fun i hi => .inl hi)⟩
      · have q := W1'.out.swap (i := p) (j := j) (by rw [N1.out]; omega) (by rw [N1.out]; omega)
        rw [TJ.out, TP.out] at q
        exact q
      · rw [swp_gt (by rw [N1.out]; omega) (by rw [N1.out]; omega)]
        have q := up_step tl_ord U1.out (by omega) hj (by rw [HP.out, TJ.out, TP.out]; exact tlB_iff.1 HB.out)
        rw [HP.out] at q
        exact q
      · rw [swp_gt (by rw [N1.out]; omega) (by rw [N1.out]; omega), sw_o _ (by omega) (by omega)]
        exact K1.out k hk
end QueW
end Go.Proofs.Ytlhanbjendbhfaa
