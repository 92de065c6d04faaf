/-
  RunsBack: there and back, whatever stands behind; what is cut short is refused.
-/
import Derived.Test.YtjmdjdkpcmekmaaRunsEx
namespace Go.Proofs.Ytjmdjdkpcmekmaa
open Go.RowKit
open Go.Lib (uvarint uvarint_small uvarint_big uvarint_length64 uvarint_pos zigzag)
set_option linter.unusedVariables false
set_option linter.unusedSimpArgs false
namespace RunsW
open BytesW

set_option maxRecDepth 100000 in
set_option maxHeartbeats 4000000 in
theorem law_back {w : World} {A B : Option Addr} {L M : List UInt8} {c d : Nat} {cut : Int} (hc : L.length ≤ c ∧ c ≤ 9223372036854775807) (hA : AtC w A L) (hd : M.length ≤ d ∧ d ≤ 9223372036854775807) (hB : AtC w B M) (hn1 : -9223372036854775808 ≤ cut) (hn2 : cut ≤ 9223372036854775807) :
    Calls Try.prog 6 #[.slice A L.length c, .slice B M.length d, .int .i64 cut] w fun e w' => e = .returned (.bool true) ∧ Below w.heap.size w w' := by
  obtain ⟨hc1, hc2⟩ := hc
  obtain ⟨hd1, hd2⟩ := hd
  by_cases hbig : 20000 < L.length
  · have hbig2 : (20000 : Int) < L.length := by omega
    go_enter Try.func6, Try.ntmps6
    go_wp2_with (go_at_call 8; refine (awake_c _).mono ?_; rintro e w1 ⟨rfl, hb1⟩)
    go_ret
    exact ⟨rfl, hb1⟩
  by_cases hbig1 : 20000 < M.length
  · have hsm : ¬ (20000 : Int) < L.length := by omega
    have hbig2 : (20000 : Int) < M.length := by omega
    go_enter Try.func6, Try.ntmps6
    go_wp2_with (go_at_call 8; refine (awake_c _).mono ?_; rintro e w1 ⟨rfl, hb1⟩)
    go_ret
    exact ⟨rfl, hb1⟩
  · have hsm : ¬ (20000 : Int) < L.length := by omega
    have hsm1 : ¬ (20000 : Int) < M.length := by omega
    obtain ⟨p, hp⟩ : ∃ p, p = putR L := ⟨_, rfl⟩
    obtain ⟨q, hq⟩ : ∃ q, q = p ++ M := ⟨_, rfl⟩
    have hpl : p.length ≤ 40000 := by have := putR_len L; rw [hp]; omega
    have hql : q.length ≤ 60000 := by rw [hq, List.length_append]; omega
    have HQ := Lib.hid hq
    have HPUT : Hid (∀ (w : World), AtC w A L → Calls Try.prog 9 #[.slice A L.length c] w (Gives w p)) := Lib.hid (fun w h => by rw [hp]; exact put5_c h hc1 (by omega))
    have HGET : Hid (∀ (w : World) (A : Option Addr) (c : Nat), AtC w A q → q.length ≤ c → Calls Try.prog 13 #[.slice A q.length c, .int .i64 L.length] w (GetP w (L, p.length, 0))) := Lib.hid (fun w A c h hc => get_c h hc (by omega) (by
      have h := get_put (l := L) (more := M) (by omega)
      rw [← hp, ← hq] at h
      simp only [getA]
      rw [if_neg (by omega), Int.toNat_natCast, h]
      rfl))
    have HCUT : Hid (∀ (w : World) (A : Option Addr) (c : Nat) (x : Nat), x < p.length → At w A (p.take x) → (p.take x).length ≤ c → Calls Try.prog 13 #[.slice A (p.take x).length c, .int .i64 L.length] w (GetP w ([], 0, 4))) := Lib.hid (fun w A c x hx h hc => get_c h.c hc (by simp; omega) (no_of (n := L.length) (by omega) (by rw [hp]; exact get_cut (by omega) (by rw [← hp]; exact hx))))
    clear hp hq
    go_enter Try.func6, Try.ntmps6
    go_wp2_with fail
    go_at_call 9
    refine (HPUT.out _ hA).mono ?_
    rintro e w1 ⟨v1, rfl, hown1, hb1⟩
    obtain ⟨A1, c1, rfl, hA1, hdd1, hm1⟩ := hown1.sl
    have HB1 := Lib.hid hb1
    have hz1 := hb1.size
    clear hb1 hown1
    go_wp2_with (first
      | ((with_reducible refine at_slot 28 ?_); refine wp_append rfl (.tmp 26) (.tmp 27) rfl (B := w1.heap.size) (l := []) (l2 := p) rfl (Own.nil _ _) rfl hA1 (by simp; omega) (Nat.le_refl _) ?_; intro v2 w2 hown2 hb2; rw [List.nil_append] at hown2; have HB12 := Lib.hid hb2; have hz2 := hb2.size; clear hb2)
      | ((with_reducible refine at_slot 31 ?_); refine wp_appendC rfl (.tmp 29) (.tmp 30) rfl (B := w1.heap.size) (l := p) (l2 := M) rfl hown2 rfl (hB.below (below_m HB1.out (HB12.out : Below w1.heap.size w1 w2))) (by omega) hz2 ?_; intro v3 w3 hown3 hb3))
    rw [← HQ.out] at hown3
    obtain ⟨A3, c3, rfl, hA3, hdd3, hm3⟩ := hown3.sl
    have HB13 := Lib.hid (HB12.out.trans hb3)
    have HB3 := Lib.hid (below_m HB1.out HB13.out)
    clear hb3 hown2 hown3
    go_wp2_with fail
    go_at_call 13
    refine (HGET.out _ _ _ hA3.c hdd3).mono ?_
    rintro e w4 ⟨v4, rfl, hown4, hb4⟩
    dsimp only at hown4
    obtain ⟨A4, c4, rfl, hA4, hdd4, hm4⟩ := hown4.sl
    have HB14 := Lib.hid (below_m HB13.out hb4)
    have HB4 := Lib.hid (below_m HB3.out hb4)
    have r44 := run_str w4 c4 hA4
    have r46 := run_strC w4 c (hA.below HB4.out)
    have HA14 := Lib.hid (hA1.below HB14.out)
    clear hb4 hown4
    by_cases hcut : 0 ≤ cut ∧ cut < p.length
    · obtain ⟨h0, h1⟩ := hcut
      obtain ⟨x, rfl⟩ := Int.eq_ofNat_of_zero_le h0
      have hx : x < p.length := by omega
      have HTL : Hid ((p.take x).length = x) := Lib.hid (by simp; omega)
      have HXN : Hid ((x : Int).toNat = (p.take x).length) := Lib.hid (by rw [HTL.out]; rfl)
      have hxle : (p.take x).length ≤ c1 := by rw [HTL.out]; omega
      obtain ⟨t, ht⟩ : ∃ t, t = p.take x := ⟨_, rfl⟩
      have HCT : Hid (∀ (w : World) (A : Option Addr), At w A t → Calls Try.prog 13 #[.slice A t.length c1, .int .i64 L.length] w (GetP w ([], 0, 4))) := Lib.hid (fun w A h => by rw [ht] at h ⊢; exact HCUT.out w A c1 x hx h hxle)
      have HAT : Hid (At w4 A1 t) := Lib.hid (by rw [ht]; exact HA14.out.take x)
      rw [← ht] at HXN
      clear ht HTL hxle
      go_wp2_with (first
        | ((with_reducible refine at_slot 66 ?_); refine wp_upto rfl (.tmp 64) (.tmp 65) rfl rfl rfl (by omega) (by omega) hdd1 ?_; rw [HXN.out])
        | (go_at_call 13; refine (HCT.out _ _ HAT.out).mono ?_; rintro e w5 ⟨v5, rfl, hown5, hb5⟩)
        | (go_at_call 8; refine (awake_c _).mono ?_; rintro e w8 ⟨rfl, hb8⟩))
      go_ret
      exact ⟨rfl, below_m (below_m HB4.out hb5) hb8⟩
    · by_cases h0 : 0 ≤ cut
      · have h1 : ¬ cut < p.length := by omega
        clear hcut
        go_wp2_with (go_at_call 8; refine (awake_c _).mono ?_; rintro e w8 ⟨rfl, hb8⟩)
        go_ret
        exact ⟨rfl, below_m HB4.out hb8⟩
      · clear hcut
        go_wp2_with (go_at_call 8; refine (awake_c _).mono ?_; rintro e w8 ⟨rfl, hb8⟩)
        go_ret
        exact ⟨rfl, below_m HB4.out hb8⟩
end RunsW
end Go.Proofs.Ytjmdjdkpcmekmaa
