/-
  The reference's Put, whatever journal, group and disk.
-/
import Derived.Test.YtknckaegpdganaaDoorJouRef
import Derived.Test.YtknckaegpdganaaDoorJouRecover
namespace Go.Proofs.YtknckaegpdganaaDoor
-- mine: whole_c same_c awake_c take_c step_c back_c
open Go.RowKit
set_option linter.unusedVariables false
set_option linter.unusedSimpArgs false
set_option maxRecDepth 100000
namespace JouW
open BlkP RowG FrS PushG JournalP SecP SecW JouP CrcW
theorem open_two {n : Nat} {a m : Int} (h0 : n ≠ 0) (h : openE n a m ≠ 0) : openE n a m = 2 := by
  unfold openE at h ⊢
  rw [if_neg h0] at h ⊢
  split at h
  · rename_i q
    rw [if_pos q]
  · exact absurd rfl h
section
variable {n a m : Nat} {L : List (Int × Sec)}
theorem check_many (h : m < L.length) : checkE n a m L = 3 := if_pos (.inl h)
theorem check_long {i : Nat} {x : Int × Sec} (hx : L[i]? = some x) (h : longB x = true) : checkE n a m L = 3 := if_pos (.inr (any_yesL hx h))
theorem check_short (h1 : L.length ≤ m) (h2 : ∀ k, k < L.length → ∀ x, L[k]? = some x → longB x = false) : ¬ (m < L.length ∨ L.any longB = true) := by
  rintro (q | q)
  · omega
  · rw [any_noL h2] at q
    cases q
theorem check_astray {i : Nat} {x : Int × Sec} (h1 : L.length ≤ m) (h2 : ∀ k, k < L.length → ∀ x, L[k]? = some x → longB x = false) (hx : L[i]? = some x) (h : homeB n a m x.1 = false) : checkE n a m L = 2 := by
  unfold checkE
  rw [if_neg (check_short h1 h2), if_pos (any_yesL (p := fun x => !homeB n a m x.1) hx (by simp [h]))]
theorem check_fine (h1 : L.length ≤ m) (h2 : ∀ k, k < L.length → ∀ x, L[k]? = some x → longB x = false) (h3 : ∀ k, k < L.length → ∀ x, L[k]? = some x → homeB n a m x.1 = true) : checkE n a m L = 0 := by
  unfold checkE
  rw [if_neg (check_short h1 h2), if_neg]
  rw [any_noL (p := fun x => !homeB n a m x.1) (fun k hk x hx => by simp [h3 k hk x hx])]
  simp
end
section
variable {w : World} {B pq mm : Nat} {d : Dk} {S : Nat → Prop}
theorem rturned_mono {w' : World} {m m' : Nat} (h : RTurned w B pq m S d w') (hm : m ≤ m') : RTurned w B pq m' S d w' := by
  obtain ⟨S', h1, h2, h3⟩ := h
  exact ⟨S', h1.mono (Nat.le_refl _) hm, h2, h3⟩
set_option maxHeartbeats 16000000 in
theorem rPut_c {a m : Int} {d5 : Dk} {z : Int} {A0 : Option Addr} {n c : Nat} {L : List (Int × Sec)} (h : Rsk w B pq mm d S) (hmm : mm ≤ 800) (hR : Rd encL w (.slice A0 n c) L) (hn : L.length = n) (hS : 0 < n → ∀ g, (Value.slice A0 n c).ownBlock = some g → ¬ S g) (hz : putE d a m L = z) (hd : putD d a m L = d5) :
    Calls Tryd.prog 10 #[.pointer (some ⟨pq, 0, none⟩), .int .i64 a, .int .i64 m, .slice A0 n c] w fun e w' => e = .returned (.int .i64 z) ∧ RTurned w B pq (mm + 130) S d5 w' := by
  have Q := Lib.hid h
  have HLT := Lib.hid (show ∀ k, S k → k < w.heap.size from fun k hk => (h.ge hk).2)
  have hnn := h.ok.hi
  have HOK := Lib.hid h.ok
  have hn0d : d.n ≠ 0 := by have := h.ok.lo; omega
  have HR := Lib.hid hR
  have HN := Lib.hid hn
  have HS0 := Lib.hid hS
  have hnb : n ≤ 9223372036854775807 := by have := RowE.rd_len hR; omega
  obtain ⟨z1, hz1⟩ : ∃ z1, openE d.n a m = z1 := ⟨_, rfl⟩
  obtain ⟨r1, hr1⟩ : ∃ r1, decide (openE d.n a m = 0) = r1 := ⟨_, rfl⟩
  have HR1 := Lib.hid hr1
  by_cases hz0 : z1 = 0
  · subst hz0
    obtain ⟨h1, h2, h3, h4⟩ := open_fine hz1
    obtain ⟨A, rfl⟩ : ∃ A : Nat, a = (A : Int) := ⟨a.toNat, by omega⟩
    obtain ⟨M, rfl⟩ : ∃ M : Nat, m = (M : Int) := ⟨m.toNat, by omega⟩
    obtain ⟨z2, hz2⟩ : ∃ z2, checkE d.n A M L = z2 := ⟨_, rfl⟩
    obtain ⟨e1, e2⟩ := put_good hz1 hz2
    rw [hz] at e1
    rw [hd] at e2
    subst e1
    have HC := Lib.hid hz2
    have HE2 := Lib.hid e2
    rw [hz1] at hr1
    obtain rfl : true = r1 := by rw [← hr1]; rfl
    clear h hd hz hz1 hz2 hR hS hr1 hn e2
    go_enter Tryd.func10, Tryd.ntmps10
    go_wp2_with fail
    refine (right_c Q.out HR1.out).mono ?_
    rintro e w1 ⟨rfl, hb1⟩
    have B1 := Lib.hid hb1
    have Q1 := Lib.hid (Q.out.below hb1)
    have R1 := Lib.hid (HR.out.below hb1)
    clear hb1
    go_wp2_with fail
    go_loopw [9] (fun v9 wr => ∃ i : Nat, v9 = .int .i64 (i : Int) ∧ i ≤ n ∧ (i = 0 ∨ n ≤ M) ∧ (∀ k, k < i → ∀ x, L[k]? = some x → longB x = false) ∧ wr = w1) (fun v _ => n - (RowKit.intOf v).toNat)
    case atStart => exact ⟨0, rfl, Nat.zero_le _, .inl rfl, fun k hk => absurd hk (by omega), by first | rfl | trivial⟩
    case round =>
      obtain ⟨i, rfl, hi, hor, hall, rfl⟩ := hrel
      have HALL := Lib.hid hall
      have HOR := Lib.hid hor
      clear hall hor
      by_cases hin : i < n
      · have hiI : (i : Int) < (n : Int) := by omega
        by_cases hnM : n ≤ M
        · have hnI : ¬ (M : Int) < (n : Int) := by omega
          obtain ⟨⟨xa, xs⟩, hx⟩ : ∃ x, L[i]? = some x := ⟨_, List.getElem?_eq_getElem (by rw [HN.out]; exact hin)⟩
          obtain ⟨b, o, hbo, hlt, hcs⟩ := R1.out.at hx
          subst hbo
          have x1 := hcs 1 _ rfl
          have hk : encL.k = 2 := rfl
          rw [hk] at x1
          have HX := Lib.hid hx
          have hsz := str_size xs
          clear hcs hx hk
          by_cases hlong : 512 < xs.length
          · have hlI : (512 : Int) < (xs.length : Int) := by omega
            have HCC := Lib.hid (show z = 3 from HC.out.symm.trans (check_long HX.out (show longB (xa, xs) = true from decide_eq_true hlong)))
            have HD0 := Lib.hid (show d5 = d from HE2.out.trans (if_neg (by rw [HCC.out]; decide)))
            go_wp2_with fail
            go_ret
            rw [HCC.out, HD0.out]
            exact ⟨rfl, rturned_mono (RTurned.same Q.out B1.out) (by omega)⟩
          · have hlI : ¬ (512 : Int) < (xs.length : Int) := by omega
            have HLB := Lib.hid (show longB (xa, xs) = false from decide_eq_false hlong)
            go_wp2_with fail
            go_roundw
            case rel =>
              refine ⟨i + 1, by first | rfl | (congr 1; omega), by omega, .inr hnM, fun k hk x hx => ?_, by first | rfl | trivial⟩
              by_cases hki : k < i
              · exact HALL.out k hki x hx
              · obtain rfl : k = i := by omega
                rw [HX.out] at hx
                injection hx with hx
                rw [← hx]
                exact HLB.out
            case measure => first | (simp [RowKit.intOf]; done) | (simp [RowKit.intOf]; omega)
        · have hnI : (M : Int) < (n : Int) := by omega
          have HCC := Lib.hid (show z = 3 from HC.out.symm.trans (check_many (by rw [HN.out]; omega)))
          have HD0 := Lib.hid (show d5 = d from HE2.out.trans (if_neg (by rw [HCC.out]; decide)))
          go_wp2_with fail
          go_ret
          rw [HCC.out, HD0.out]
          exact ⟨rfl, rturned_mono (RTurned.same Q.out B1.out) (by omega)⟩
      · have hie : i = n := by omega
        have hiI : ¬ (i : Int) < (n : Int) := by omega
        have hnM : n ≤ M := by
          rcases HOR.out with q | q
          · omega
          · exact q
        have HSH := Lib.hid (show ∀ k, k < L.length → ∀ x, L[k]? = some x → longB x = false from fun k hk => HALL.out k (by rw [HN.out] at hk; omega))
        have HLM := Lib.hid (show L.length ≤ M by rw [HN.out]; exact hnM)
        clear hin hie
        go_wp2_with fail
        go_loopw [10] (fun v10 wr2 => ∃ j : Nat, v10 = .int .i64 (j : Int) ∧ j ≤ n ∧ (∀ k, k < j → ∀ x, L[k]? = some x → homeB d.n A M x.1 = true) ∧ wr2 = wr) (fun v _ => n - (RowKit.intOf v).toNat)
        case atStart => exact ⟨0, rfl, Nat.zero_le _, fun k hk => absurd hk (by omega), by first | rfl | trivial⟩
        case round =>
          obtain ⟨j, rfl, hj, hallh, rfl⟩ := hrel
          have HALLH := Lib.hid hallh
          clear hallh
          by_cases hjn : j < n
          · have hjI : (j : Int) < (n : Int) := by omega
            obtain ⟨⟨xa, xs⟩, hx⟩ : ∃ x, L[j]? = some x := ⟨_, List.getElem?_eq_getElem (by rw [HN.out]; exact hjn)⟩
            obtain ⟨b, o, hbo, hlt, hcs⟩ := R1.out.at hx
            subst hbo
            have x0 := hcs 0 _ rfl
            have hk : encL.k = 2 := rfl
            rw [hk] at x0
            have hol : o + j * 2 + 0 = o + j * 2 := rfl
            rw [hol] at x0
            have HX := Lib.hid hx
            obtain ⟨q, hq⟩ : ∃ q, homeB d.n A M xa = q := ⟨_, rfl⟩
            have HQ := Lib.hid hq
            clear hcs hx hk hol hq
            go_wp2_with fail
            refine (home_c Q1.out (by omega) HQ.out).mono ?_
            rintro e w5 ⟨rfl, hw⟩
            obtain rfl := hw
            cases q with
            | true =>
              go_wp2_with fail
              go_roundw
              case rel =>
                refine ⟨j + 1, by first | rfl | (congr 1; omega), by omega, fun k hk x hx => ?_, by first | rfl | trivial⟩
                by_cases hki : k < j
                · exact HALLH.out k hki x hx
                · obtain rfl : k = j := by omega
                  rw [HX.out] at hx
                  injection hx with hx
                  rw [← hx]
                  exact HQ.out
              case measure => first | (simp [RowKit.intOf]; done) | (simp [RowKit.intOf]; omega)
            | false =>
              have HCC := Lib.hid (show z = 2 from HC.out.symm.trans (check_astray HLM.out HSH.out HX.out HQ.out))
              have HD0 := Lib.hid (show d5 = d from HE2.out.trans (if_neg (by rw [HCC.out]; decide)))
              go_wp2_with fail
              go_ret
              rw [HCC.out, HD0.out]
              exact ⟨rfl, rturned_mono (RTurned.same Q.out B1.out) (by omega)⟩
          · have hje : j = n := by omega
            have hjI : ¬ (j : Int) < (n : Int) := by omega
            have HCC := Lib.hid (show z = 0 from HC.out.symm.trans (check_fine HLM.out HSH.out (fun k hk => HALLH.out k (by rw [HN.out] at hk; omega))))
            have HD0 := Lib.hid (show d5 = d.adds (putWs A d.now (natG L)) from HE2.out.trans (if_pos HCC.out))
            clear hjn hje
            have hz0' := HCC.out
            subst hz0'
            obtain ⟨hfit, hLN⟩ := check_fits HC.out
            have HNL := Lib.hid (show (natG L).length = n from (List.length_map ..).trans HN.out)
            have h0L : ∀ x ∈ L, 0 ≤ x.1 := fun x hx => by
              rw [hLN] at hx
              obtain ⟨y, hy, rfl⟩ := List.mem_map.1 hx
              exact Int.natCast_nonneg _
            have HRN := Lib.hid (rd_nat HR.out h0L)
            have hn60 : n ≤ 60 := by omega
            have HH2 := Lib.hid hfit.short
            have HH3 := Lib.hid (show ∀ x ∈ natG L, x.1 < d.n from fun x hx => home_lt (hfit.home x hx))
            have HH1 := Lib.hid (show ∀ x ∈ natG L, x.1 < 131072 from fun x hx => Nat.lt_of_lt_of_le (HH3.out x hx) hnn)
            have HCL := Lib.hid (show (commitN (natG L)).length ≤ 512 from Nat.le_trans (commit_len HH1.out (by rw [HNL.out]; exact hn60)) (by omega))
            have HML := Lib.hid (show n ≤ M from hnM)
            clear hfit hLN h0L HCC HE2
            by_cases hn0 : n = 0
            · have hnI : (n : Int) = 0 := by omega
              have hnB : ((n : Int) == 0) = true := by simp [hn0]
              have HE := Lib.hid (show d5 = d by
                have e : natG L = [] := List.eq_nil_of_length_eq_zero (by rw [HNL.out]; exact hn0)
                rw [HD0.out, e]
                exact adds_nil d)
              clear hn0
              go_wp2_with fail
              go_ret
              rw [HE.out]
              exact ⟨rfl, rturned_mono (RTurned.same Q.out B1.out) (by omega)⟩
            · have HSN := Lib.hid (HS0.out (by omega))
              have hnI : ¬ (n : Int) = 0 := by omega
              have hnB : ((n : Int) == 0) = false := by simp [hn0]
              have HGL := Lib.hid (show ∀ g, (Value.slice A0 n c).ownBlock = some g → g < w.heap.size from fun g hg => by
                obtain ⟨x, hx⟩ : ∃ x, L[0]? = some x := ⟨_, List.getElem?_eq_getElem (by rw [HN.out]; omega)⟩
                obtain ⟨b, o, rfl, hlt, _⟩ := HR.out.at hx
                have hg' : b = g := by simpa [Value.ownBlock] using hg
                omega)
              have HNE := Lib.hid (show natG L ≠ [] from fun e => by
                have := HNL.out
                rw [e] at this
                exact hn0 this.symm)
              obtain ⟨y, hy⟩ : ∃ y, d.now A = y := ⟨_, rfl⟩
              have HRD := Lib.hid (show readD d (A : Int) = y by
                unfold readD
                rw [if_pos (inD_iff.2 ⟨by omega, by omega⟩), Int.toNat_natCast]
                exact hy)
              clear hn0
              go_wp2_with fail
              refine (rRead_c Q1.out (by omega)).mono ?_
              rintro e w4 ⟨rfl, hb4⟩
              rw [HRD.out]
              have B4 := Lib.hid (below_t B1.out hb4)
              clear hb4
              go_wp2_with fail
              refine rBlank_c.mono ?_
              rintro e w5 ⟨rfl, hb5⟩
              have B5 := Lib.hid (below_t B4.out hb5)
              have Q5 := Lib.hid (Q.out.below B5.out)
              clear hb5
              by_cases hblank : y = SecP.blank
              · obtain ⟨db, hdb⟩ : ∃ db, d.adds (preJ A d.now) = db := ⟨_, rfl⟩
                have hpre : preJ A d.now = [] := if_pos (hy.trans hblank)
                have HDBE := Lib.hid hdb
                have hdd : d = db := by rw [← hdb, hpre, adds_nil]
                obtain ⟨Sb, hSb⟩ : ∃ Sb, S = Sb := ⟨_, rfl⟩
                have QB := Lib.hid (show Rsk w5 B pq (mm + 1) db Sb by rw [← hdd, ← hSb]; exact Q5.out.mono (Nat.le_refl _) (Nat.le_succ _))
                have FB := Lib.hid (Fr.below S B5.out)
                have NB := Lib.hid (show ∀ k, Sb k → S k ∨ w.heap.size ≤ k from fun k hk => .inl (by rw [hSb]; exact hk))
                subst hblank
                clear hdb hpre hdd hSb hy
                go_wp2_with fail
                have HDN := Lib.hid (show db.n = d.n by rw [← HDBE.out]; rfl)
                go_loopw [13] (fun v13 wr => ∃ (i : Nat) (Si : Nat → Prop), v13 = .int .i64 (i : Int) ∧ i ≤ n ∧ Rsk wr B pq (mm + 1 + i) (db.adds (bods (A + 1) ((natG L).take i))) Si ∧ Fr S w wr ∧ ∀ k, Si k → S k ∨ w.heap.size ≤ k) (fun v _ => n - (RowKit.intOf v).toNat)
                case atStart => exact ⟨0, Sb, rfl, Nat.zero_le _, by simpa [bods, adds_nil] using QB.out, FB.out, NB.out⟩
                case round =>
                  obtain ⟨i, Si, rfl, hi, hq, hf, hnn2⟩ := hrel
                  have QI := Lib.hid hq
                  have FI := Lib.hid hf
                  have NI := Lib.hid hnn2
                  clear hq hf hnn2
                  by_cases hin : i < n
                  · have hiI : (i : Int) < (n : Int) := by omega
                    obtain ⟨⟨xa, xs⟩, hx⟩ : ∃ x, (natG L)[i]? = some x := ⟨_, List.getElem?_eq_getElem (by rw [HNL.out]; exact hin)⟩
                    have HXS := Lib.hid (show xs.length ≤ 512 from HH2.out _ (List.mem_of_getElem? hx))
                    have HP := Lib.hid (bods_take (b := A + 1) hx)
                    obtain ⟨b, o, hbo, hlt, hcs⟩ := (rd_fr HRN.out FI.out HSN.out).at hx
                    subst hbo
                    have x1 := hcs 1 _ rfl
                    have hk : encA.k = 2 := rfl
                    rw [hk] at x1
                    clear hcs hx hk
                    obtain ⟨d7, hd7⟩ : ∃ d7, (db.adds (bods (A + 1) ((natG L).take i))).adds [(A + 1 + i, pad xs)] = d7 := ⟨_, rfl⟩
                    have HD7 := Lib.hid (show d7 = db.adds (bods (A + 1) ((natG L).take (i + 1))) by rw [← hd7, adds_adds, HP.out])
                    have HCI := Lib.hid (show (A : Int) + 1 + (i : Int) = ((A + 1 + i : Nat) : Int) by omega)
                    go_wp2_with fail
                    rw [HCI.out]
                    refine (rWrite_a QI.out (by omega) (by have := HDN.out; have := HML.out; show A + 1 + i < db.n; omega) HXS.out hd7).mono ?_
                    rintro e w8 ⟨rfl, S8, hq8, hf8, hn8⟩
                    have Q8 := Lib.hid hq8
                    have F9 := Lib.hid (FI.out.trans hf8 NI.out)
                    have N9 := Lib.hid (show ∀ k, S8 k → S k ∨ w.heap.size ≤ k from fun k hk => by
                      rcases hn8 k hk with q | q
                      · exact NI.out k q
                      · have := FI.out.size
                        exact .inr (by omega))
                    clear hd7 x1 hq8 hf8 hn8
                    go_wp2_with fail
                    go_roundw
                    case rel => exact ⟨i + 1, S8, by first | rfl | (congr 1; omega), by omega, by rw [← HD7.out]; exact Q8.out, F9.out, N9.out⟩
                    case measure => first | (simp [RowKit.intOf]; done) | (simp [RowKit.intOf]; omega)
                  · have hie : i = n := by omega
                    have hiI : ¬ (i : Int) < (n : Int) := by omega
                    have HTK := Lib.hid (show (natG L).take i = natG L by rw [hie, ← HNL.out, List.take_length])
                    have HIE := Lib.hid hie
                    clear hin hie
                    obtain ⟨d7, hd7⟩ : ∃ d7, (db.adds (bods (A + 1) ((natG L).take i))).adds [(A, pad (commitN (natG L)))] = d7 := ⟨_, rfl⟩
                    have HD7 := Lib.hid (show d7.adds (homes A (natG L)) = d.adds (putWs A d.now (natG L)) by
                      rw [← hd7, HTK.out, ← HDBE.out, adds_adds, adds_adds, adds_adds]
                      unfold putWs
                      rw [if_neg HNE.out]
                      simp)
                    have HD8 := Lib.hid (show d7.n = d.n by
                      rw [← hd7, ← HDBE.out]
                      rfl)
                    have HD9 := Lib.hid hd7
                    clear hd7
                    go_wp2_with fail
                    refine (rCommit_c (G := natG L) (rd_fr HRN.out FI.out HSN.out) HNL.out hn60 HH1.out HH2.out).mono ?_
                    rintro e w7 ⟨rfl, hb7⟩
                    have B7 := Lib.hid hb7
                    clear hb7
                    go_wp2_with fail
                    refine (rWrite_a (QI.out.below B7.out) (by omega) (by have := HDN.out; show A < db.n; omega) HCL.out HD9.out).mono ?_
                    rintro e w8 ⟨rfl, S8, hq8, hf8, hn8⟩
                    have Q8 := Lib.hid hq8
                    have F9 := Lib.hid ((FI.out.trans (Fr.below S B7.out) (fun k hk => .inl hk)).trans hf8 NI.out)
                    have N9 := Lib.hid (show ∀ k, S8 k → S k ∨ w.heap.size ≤ k from fun k hk => by
                      rcases hn8 k hk with q | q
                      · exact NI.out k q
                      · have := FI.out.size
                        have := B7.out.size
                        exact .inr (by omega))
                    have HS9 := Lib.hid (show ∀ g, (Value.slice A0 n c).ownBlock = some g → ¬ S8 g from fun g hg q => by
                      rcases N9.out g q with q2 | q2
                      · exact HSN.out g hg q2
                      · have := HGL.out g hg
                        omega)
                    clear hq8 hf8 hn8
                    go_wp2_with fail
                    refine (rHomes_c (A := A0) (c := c) Q8.out (rd_fr HRN.out F9.out HSN.out) HNL.out HS9.out (by omega) (fun x hx => by rw [HD8.out]; exact ⟨HH3.out x hx, HH2.out x hx⟩) (by rw [HD8.out]; omega)).mono ?_
                    rintro e w9 ⟨rfl, hq9⟩
                    rw [HD7.out] at hq9
                    have T9 := Lib.hid (rturned_mono (RTurned.trans HLT.out F9.out N9.out hq9) (show _ ≤ mm + 130 by omega))
                    clear hq9
                    go_wp2_with fail
                    go_ret
                    rw [HD0.out]
                    exact ⟨rfl, T9.out⟩
              · have hne3 : ((str y).toList == (str SecP.blank).toList) = false := by
                  rw [str_toList, str_toList]
                  exact beq_eq_false_iff_ne.2 hblank
                obtain ⟨db, hdb⟩ : ∃ db, d.adds (preJ A d.now) = db := ⟨_, rfl⟩
                have hpre : preJ A d.now = [(A, SecP.blank)] := if_neg (fun q => hblank (hy.symm.trans q))
                have HDBE := Lib.hid hdb
                rw [hpre] at hdb
                have HW := Lib.hid hdb
                clear hblank hdb hpre hy
                go_wp2_with fail
                refine (rWrite_z Q5.out (by omega) (by omega) HW.out).mono ?_
                rintro e w6 ⟨rfl, Sb, hq6, hf6, hn6⟩
                have QB := Lib.hid hq6
                have FB := Lib.hid ((Fr.below S B5.out).trans hf6 (fun k hk => .inl hk))
                have NB := Lib.hid (show ∀ k, Sb k → S k ∨ w.heap.size ≤ k from fun k hk => (hn6 k hk).imp id (fun q => by have := B5.out.size; omega))
                clear hq6 hf6 hn6
                go_wp2_with fail
                have HDN := Lib.hid (show db.n = d.n by rw [← HDBE.out]; rfl)
                go_loopw [13] (fun v13 wr => ∃ (i : Nat) (Si : Nat → Prop), v13 = .int .i64 (i : Int) ∧ i ≤ n ∧ Rsk wr B pq (mm + 1 + i) (db.adds (bods (A + 1) ((natG L).take i))) Si ∧ Fr S w wr ∧ ∀ k, Si k → S k ∨ w.heap.size ≤ k) (fun v _ => n - (RowKit.intOf v).toNat)
                case atStart => exact ⟨0, Sb, rfl, Nat.zero_le _, by simpa [bods, adds_nil] using QB.out, FB.out, NB.out⟩
                case round =>
                  obtain ⟨i, Si, rfl, hi, hq, hf, hnn2⟩ := hrel
                  have QI := Lib.hid hq
                  have FI := Lib.hid hf
                  have NI := Lib.hid hnn2
                  clear hq hf hnn2
                  by_cases hin : i < n
                  · have hiI : (i : Int) < (n : Int) := by omega
                    obtain ⟨⟨xa, xs⟩, hx⟩ : ∃ x, (natG L)[i]? = some x := ⟨_, List.getElem?_eq_getElem (by rw [HNL.out]; exact hin)⟩
                    have HXS := Lib.hid (show xs.length ≤ 512 from HH2.out _ (List.mem_of_getElem? hx))
                    have HP := Lib.hid (bods_take (b := A + 1) hx)
                    obtain ⟨b, o, hbo, hlt, hcs⟩ := (rd_fr HRN.out FI.out HSN.out).at hx
                    subst hbo
                    have x1 := hcs 1 _ rfl
                    have hk : encA.k = 2 := rfl
                    rw [hk] at x1
                    clear hcs hx hk
                    obtain ⟨d7, hd7⟩ : ∃ d7, (db.adds (bods (A + 1) ((natG L).take i))).adds [(A + 1 + i, pad xs)] = d7 := ⟨_, rfl⟩
                    have HD7 := Lib.hid (show d7 = db.adds (bods (A + 1) ((natG L).take (i + 1))) by rw [← hd7, adds_adds, HP.out])
                    have HCI := Lib.hid (show (A : Int) + 1 + (i : Int) = ((A + 1 + i : Nat) : Int) by omega)
                    go_wp2_with fail
                    rw [HCI.out]
                    refine (rWrite_a QI.out (by omega) (by have := HDN.out; have := HML.out; show A + 1 + i < db.n; omega) HXS.out hd7).mono ?_
                    rintro e w8 ⟨rfl, S8, hq8, hf8, hn8⟩
                    have Q8 := Lib.hid hq8
                    have F9 := Lib.hid (FI.out.trans hf8 NI.out)
                    have N9 := Lib.hid (show ∀ k, S8 k → S k ∨ w.heap.size ≤ k from fun k hk => by
                      rcases hn8 k hk with q | q
                      · exact NI.out k q
                      · have := FI.out.size
                        exact .inr (by omega))
                    clear hd7 x1 hq8 hf8 hn8
                    go_wp2_with fail
                    go_roundw
                    case rel => exact ⟨i + 1, S8, by first | rfl | (congr 1; omega), by omega, by rw [← HD7.out]; exact Q8.out, F9.out, N9.out⟩
                    case measure => first | (simp [RowKit.intOf]; done) | (simp [RowKit.intOf]; omega)
                  · have hie : i = n := by omega
                    have hiI : ¬ (i : Int) < (n : Int) := by omega
                    have HTK := Lib.hid (show (natG L).take i = natG L by rw [hie, ← HNL.out, List.take_length])
                    have HIE := Lib.hid hie
                    clear hin hie
                    obtain ⟨d7, hd7⟩ : ∃ d7, (db.adds (bods (A + 1) ((natG L).take i))).adds [(A, pad (commitN (natG L)))] = d7 := ⟨_, rfl⟩
                    have HD7 := Lib.hid (show d7.adds (homes A (natG L)) = d.adds (putWs A d.now (natG L)) by
                      rw [← hd7, HTK.out, ← HDBE.out, adds_adds, adds_adds, adds_adds]
                      unfold putWs
                      rw [if_neg HNE.out]
                      simp)
                    have HD8 := Lib.hid (show d7.n = d.n by
                      rw [← hd7, ← HDBE.out]
                      rfl)
                    have HD9 := Lib.hid hd7
                    clear hd7
                    go_wp2_with fail
                    refine (rCommit_c (G := natG L) (rd_fr HRN.out FI.out HSN.out) HNL.out hn60 HH1.out HH2.out).mono ?_
                    rintro e w7 ⟨rfl, hb7⟩
                    have B7 := Lib.hid hb7
                    clear hb7
                    go_wp2_with fail
                    refine (rWrite_a (QI.out.below B7.out) (by omega) (by have := HDN.out; show A < db.n; omega) HCL.out HD9.out).mono ?_
                    rintro e w8 ⟨rfl, S8, hq8, hf8, hn8⟩
                    have Q8 := Lib.hid hq8
                    have F9 := Lib.hid ((FI.out.trans (Fr.below S B7.out) (fun k hk => .inl hk)).trans hf8 NI.out)
                    have N9 := Lib.hid (show ∀ k, S8 k → S k ∨ w.heap.size ≤ k from fun k hk => by
                      rcases hn8 k hk with q | q
                      · exact NI.out k q
                      · have := FI.out.size
                        have := B7.out.size
                        exact .inr (by omega))
                    have HS9 := Lib.hid (show ∀ g, (Value.slice A0 n c).ownBlock = some g → ¬ S8 g from fun g hg q => by
                      rcases N9.out g q with q2 | q2
                      · exact HSN.out g hg q2
                      · have := HGL.out g hg
                        omega)
                    clear hq8 hf8 hn8
                    go_wp2_with fail
                    refine (rHomes_c (A := A0) (c := c) Q8.out (rd_fr HRN.out F9.out HSN.out) HNL.out HS9.out (by omega) (fun x hx => by rw [HD8.out]; exact ⟨HH3.out x hx, HH2.out x hx⟩) (by rw [HD8.out]; omega)).mono ?_
                    rintro e w9 ⟨rfl, hq9⟩
                    rw [HD7.out] at hq9
                    have T9 := Lib.hid (rturned_mono (RTurned.trans HLT.out F9.out N9.out hq9) (show _ ≤ mm + 130 by omega))
                    clear hq9
                    go_wp2_with fail
                    go_ret
                    rw [HD0.out]
                    exact ⟨rfl, T9.out⟩
  · obtain ⟨e1, e2⟩ := put_bad (L := L) hz1 hz0
    have h2 := open_two (a := a) (m := m) hn0d (by rw [hz1]; exact hz0)
    rw [hz] at e1
    rw [hd] at e2
    have hz2 : z = 2 := by rw [e1, ← hz1, h2]
    subst e2 hz2
    obtain rfl : false = r1 := by rw [← hr1, h2]; rfl
    clear h hd hz hz1 hR hS hn hr1
    go_enter Tryd.func10, Tryd.ntmps10
    go_wp2_with fail
    refine (right_c Q.out HR1.out).mono ?_
    rintro e w1 ⟨rfl, hb1⟩
    have B1 := Lib.hid hb1
    clear hb1
    go_wp2_with fail
    go_ret
    exact ⟨rfl, rturned_mono (RTurned.same Q.out B1.out) (by omega)⟩
end
end JouW
end Go.Proofs.YtknckaegpdganaaDoor
