/-
  JournalWhole.
-/
import Derived.Test.YtknckaegpdganaaDoorJouRead
import Derived.Test.YtknckaegpdganaaDoorSectorICut
namespace Go.Proofs.YtknckaegpdganaaDoor
-- mine: whole_c same_c awake_c take_c step_c back_c
open Go.RowKit
set_option linter.unusedVariables false
set_option linter.unusedSimpArgs false
set_option maxRecDepth 100000
namespace JouW
open BlkP RowG FrS PushG JournalP SecP SecW JouP CrcW
theorem own_madeS {w : World} : RowG.Own encS TS (w.alloc (.cells #[] TS)) w.heap.size (.slice (some ⟨w.heap.size, 0, none⟩) 0 0) [] := World.ownsRow_made w #[] 0 (Nat.le_refl _) (Nat.zero_le _) rfl
set_option maxHeartbeats 64000000 in
theorem law_whole {w : World} {A1 A2 A3 : Option Addr} {n1 c1 n2 c2 n3 c3 : Nat} {L G : List (Int × Sec)} {C : List Int} {x a m : Int} (hT : Tab w) (hL : Rd encL w (.slice A1 n1 c1) L) (hn1 : L.length = n1) (hG : Rd encL w (.slice A2 n2 c2) G) (hn2 : G.length = n2) (hC : Rd RowG.encI w (.slice A3 n3 c3) C) (hn3 : C.length = n3) :
    Calls Tryd.prog 5 #[.int .i64 x, .slice A1 n1 c1, .int .i64 a, .int .i64 m, .slice A2 n2 c2, .slice A3 n3 c3] w fun e w' => e = .returned (.bool true) ∧ Below w.heap.size w w' := by
  have HT := Lib.hid hT
  have hg := hT.size
  have HL := Lib.hid hL
  have HG := Lib.hid hG
  have HC := Lib.hid hC
  have HN1 := Lib.hid hn1
  have HN2 := Lib.hid hn2
  have HN3 := Lib.hid hn3
  clear hT hL hG hC hn1 hn2 hn3
  go_enter Tryd.func5, Tryd.ntmps5
  go_wp2_with fail
  refine (short_c HL.out HN1.out).mono ?_
  rintro e w1 ⟨⟨r1, rfl, hr1⟩, hw⟩
  obtain rfl := hw
  cases r1 with
  | false =>
    go_wp2_with fail
    refine (awake_c (HT.out.below (Below.refl _ w1))).mono ?_
    rintro e wz ⟨rfl, hbz⟩
    have BZ := Lib.hid (below_t (Below.refl _ w1) hbz)
    clear hbz
    go_wp2_with fail
    go_ret
    exact ⟨rfl, BZ.out⟩
  | true =>
    have h1 := hr1 rfl
    clear hr1
    go_wp2_with fail
    refine (short_c HG.out HN2.out).mono ?_
    rintro e w2 ⟨⟨r2, rfl, hr2⟩, hw⟩
    obtain rfl := hw
    cases r2 with
    | false =>
      go_wp2_with fail
      refine (awake_c (HT.out.below (Below.refl _ w2))).mono ?_
      rintro e wz ⟨rfl, hbz⟩
      have BZ := Lib.hid (below_t (Below.refl _ w2) hbz)
      clear hbz
      go_wp2_with fail
      go_ret
      exact ⟨rfl, BZ.out⟩
    | true =>
      have h2 := hr2 rfl
      clear hr2
      by_cases h6 : 6 < n3
      · have h6I : (6 : Int) < (n3 : Int) := by omega
        go_wp2_with fail
        refine (awake_c (HT.out.below (Below.refl _ w2))).mono ?_
        rintro e wz ⟨rfl, hbz⟩
        have BZ := Lib.hid (below_t (Below.refl _ w2) hbz)
        clear hbz
        go_wp2_with fail
        go_ret
        exact ⟨rfl, BZ.out⟩
      have h6I : ¬ (6 : Int) < (n3 : Int) := by omega
      go_wp2_with fail
      refine (disks_c HL.out HN1.out h1).mono ?_
      rintro e w3 ⟨pd, pq, S, T, rfl, hq, ht, hdj, hb⟩
      have Q3 := Lib.hid hq
      have B3 := Lib.hid hb
      have hz3 := hb.size
      obtain ⟨d0, hd0⟩ : ∃ d0, oldD x L = d0 := ⟨_, rfl⟩
      have hws0 : d0.ws = [] := by rw [← hd0]; rfl
      have hnS := nS_in x
      rw [hd0] at Q3
      obtain ⟨n0, hn0⟩ : ∃ n0, d0.n = n0 := ⟨_, rfl⟩
      have hnb : 256 ≤ n0 ∧ n0 ≤ 383 := by rw [← hn0, ← hd0, oldD_n]; exact hnS
      have HN0 := Lib.hid hn0
      have HWS := Lib.hid hws0
      have hwl : d0.ws.length = 0 := by rw [hws0]; rfl
      clear hq ht hdj hb hd0 hws0 hnS hn0
      go_wp2_with fail
      refine (readall_c Q3.out).mono ?_
      rintro e w4 ⟨v4, rfl, ho4, hb4⟩
      rw [HN0.out] at ho4
      have O4 := Lib.hid ho4
      have B4 := Lib.hid (below_t B3.out hb4)
      have Q4 := Lib.hid (Q3.out.below hb4)
      have HV4 := Lib.hid (show ∀ k, v4.ownBlock = some k → ¬ S k from fun k hk q => by
        have := (ho4.ge k hk).1
        have := (Q3.out.ge q).2
        omega)
      clear ho4 hb4
      obtain ⟨z, hz⟩ : ∃ z, openE d0.n a m = z := ⟨_, rfl⟩
      obtain ⟨bs, hbs⟩ : ∃ bs, recB d0 a m = bs := ⟨_, rfl⟩
      obtain ⟨d5, hd5⟩ : ∃ d5, recD d0 a m = d5 := ⟨_, rfl⟩
      have HZ := Lib.hid hz
      have HBS := Lib.hid hbs
      have HD5 := Lib.hid hd5
      clear hz hbs hd5
      go_wp2_with fail
      refine (Recover_c (HT.out.below B4.out) Q4.out (by omega) HBS.out HD5.out HZ.out).mono ?_
      rintro e w5 ⟨rfl, S5, hq5, hf5, hn5⟩
      have Q5 := Lib.hid hq5
      have B5 := Lib.hid (B4.out.trans (Q4.out.toBelow hf5))
      have O5 := Lib.hid (hf5.own O4.out HV4.out)
      have HV5 := Lib.hid (show ∀ k, v4.ownBlock = some k → ¬ S5 k from fun k hk q => by
        rcases hn5 k q with q2 | q2
        · exact HV4.out k hk q2
        · have := (O4.out.ge k hk).2
          omega)
      clear hq5 hf5 hn5
      by_cases hz0 : z = 0
      · subst hz0
        cases bs with
        | true =>
          go_wp2_with fail
          refine (awake_c (HT.out.below (B5.out))).mono ?_
          rintro e wz ⟨rfl, hbz⟩
          have BZ := Lib.hid (below_t (B5.out) hbz)
          clear hbz
          go_wp2_with fail
          go_ret
          exact ⟨rfl, BZ.out⟩
        | false =>
          obtain ⟨f1, f2, f3, f4⟩ := open_fine HZ.out
          obtain ⟨A, hA⟩ : ∃ A : Nat, a = (A : Int) := ⟨a.toNat, by omega⟩
          obtain ⟨M, hM⟩ : ∃ M : Nat, m = (M : Int) := ⟨m.toNat, by omega⟩
          subst hA hM
          obtain ⟨hs0, hrs⟩ := rec_same HZ.out HBS.out
          have hd50 := HD5.out
          rw [hrs] at hd50
          subst hd50
          have HS0 := Lib.hid hs0
          rw [HN0.out] at f4
          clear hs0 hrs
          obtain ⟨z2, hz2⟩ : ∃ z2, putE d0 A M G = z2 := ⟨_, rfl⟩
          obtain ⟨d6, hd6⟩ : ∃ d6, putD d0 A M G = d6 := ⟨_, rfl⟩
          have HZ2 := Lib.hid hz2
          have HD6 := Lib.hid hd6
          clear hz2 hd6
          go_wp2_with fail
          refine (Put_c (HT.out.below B5.out) hg Q5.out (by omega) (HG.out.below B5.out) HN2.out (fun h0 g hg2 q => by
            obtain ⟨y, hy⟩ : ∃ y, G[0]? = some y := ⟨_, List.getElem?_eq_getElem (by rw [HN2.out]; exact h0)⟩
            obtain ⟨b, o, rfl, hlt, _⟩ := HG.out.at hy
            have hg' : b = g := by simpa [Value.ownBlock] using hg2
            have := (Q5.out.ge q).1
            omega) HZ2.out HD6.out).mono ?_
          rintro e w6 ⟨rfl, S6, hq6, hf6, hn6⟩
          have Q6 := Lib.hid hq6
          have B6 := Lib.hid (B5.out.trans (Q5.out.toBelow hf6))
          have O6 := Lib.hid (hf6.own O5.out HV5.out)
          have HV6 := Lib.hid (show ∀ k, v4.ownBlock = some k → ¬ S6 k from fun k hk q => by
            rcases hn6 k q with q2 | q2
            · exact HV5.out k hk q2
            · have := (O5.out.ge k hk).2
              omega)
          clear hq6 hf6 hn6
          by_cases hz20 : z2 = 0
          · subst hz20
            have hpg := put_good HZ.out rfl (L := G)
            have hce : checkE d0.n A M G = 0 := by rw [← hpg.1]; exact HZ2.out
            obtain ⟨hfit, hLN⟩ := check_fits hce
            have hde : d6 = d0.adds (putWs A d0.now (natG G)) := by rw [← HD6.out, hpg.2, hce]; rfl
            rw [HN0.out] at hfit
            have hn131 : n0 ≤ 131072 := by omega
            have hM60 : M ≤ 60 := by omega
            have HCF := Lib.hid (show CutP (n := n0) (a := A) (m := M) hn131 hM60 d0.now (natG G) 0 true d6 by
              rw [hde]
              exact CutP.first hn131 hM60 HN0.out HWS.out Q5.out.ok hfit (by rw [← HN0.out]; exact HS0.out))
            have HNL := Lib.hid (show (natG G).length = n2 from (List.length_map ..).trans HN2.out)
            have h0L : ∀ x ∈ G, 0 ≤ x.1 := fun x hx => by
              rw [hLN] at hx
              obtain ⟨y, hy, rfl⟩ := List.mem_map.1 hx
              exact Int.natCast_nonneg _
            have HRN := Lib.hid (rd_nat HG.out h0L)
            have HH2 := Lib.hid hfit.short
            have HH3 := Lib.hid (show ∀ x ∈ natG G, x.1 < n0 from fun x hx => home_lt (hfit.home x hx))
            have HOE := Lib.hid (show openE n0 (A : Int) (M : Int) = 0 by rw [← HN0.out]; exact HZ.out)
            obtain ⟨g, hgg⟩ : ∃ g, natG G = g := ⟨_, rfl⟩
            rw [hgg] at HCF HNL HRN HH2 HH3
            obtain ⟨f, hff⟩ : ∃ f, d0.now = f := ⟨_, rfl⟩
            rw [hff] at HCF O6
            clear hpg hce hfit hLN hde h0L hgg hff HZ2 HD6 HS0 HZ HBS HD5 Q5 O5 HV5 Q4 O4 HV4 Q3
            go_wp2_with fail
            go_loopw [18, 19, 20] (CutRel (a := A) n0 M n3 hn131 hM60 f g w2 w3.heap.size v4 (sects n0 f)) (fun _ _ v _ => n3 - (RowKit.intOf v).toNat)
            case atStart => exact ⟨0, pd, true, d6, S6, rfl, rfl, rfl, Nat.zero_le _, HCF.out, Q6.out, HV6.out, O6.out, B6.out⟩
            case round =>
              obtain ⟨i, px, cc, dx, Sx, rfl, rfl, rfl, hi, hcp, hqx, hvx, hox, hbr⟩ := hrel
              have CP := Lib.hid hcp
              have QI := Lib.hid hqx
              have VI := Lib.hid hvx
              have OI := Lib.hid hox
              have BR := Lib.hid hbr
              obtain ⟨lw, hlw⟩ : ∃ lw, dx.ws.length = lw := ⟨_, rfl⟩
              have HLN := Lib.hid hlw
              have hlw2 : lw ≤ 200 := by rw [← hlw]; exact hcp.len
              by_cases hin : i < n3
              · have hiI : (i : Int) < (n3 : Int) := by omega
                obtain ⟨ci, hci⟩ : ∃ ci, C[i]? = some ci := ⟨_, List.getElem?_eq_getElem (by rw [HN3.out]; exact hin)⟩
                obtain ⟨b3, o3, hbo, hlt, hcs⟩ := (HC.out.below hbr).at hci
                subst hbo
                have y0 := hcs 0 _ rfl
                rw [show o3 + i * RowG.encI.k + 0 = o3 + i from by show o3 + i * 1 + 0 = o3 + i; omega] at y0
                have yl := hlt
                obtain ⟨j, hj⟩ : ∃ j : Nat, bits .and .i64 ci 65535 = (j : Int) := ⟨(ci % 65536).toNat, by rw [i64_and65535]; omega⟩
                have HJ := Lib.hid hj
                obtain ⟨k, hk⟩ : ∃ k, j % (lw + 1) = k := ⟨_, rfl⟩
                have hkl : k ≤ lw := by
                  have := Nat.mod_lt j (show 0 < lw + 1 by omega)
                  omega
                have HK := Lib.hid (show Int.tmod (j : Int) ((lw : Int) + 1) = (k : Int) by rw [← hk]; exact (Int.ofNat_tmod j (lw + 1)).symm)
                clear hcp hqx hvx hox hbr hcs hci hlt hj hk hlw
                go_wp2_with fail
                refine wp_region_noPanic ?_
                refine wp_region_held_drew (S := fun W => Below wr.heap.size wr W) (by kernel_rfl) ((Below.refl _ wr).drew) (fun hHeld => ?_)
                refine wpAnyH_take (i := 0) (oi := ⟨some 89, _, _, _, _, _⟩) (v := .slice (some ⟨b3, o3, none⟩) n3 c3) rfl (by kernel_rfl) (by kernel_rfl) (by kernel_rfl) (fun _ _ _ h => h) (Or.inl ⟨by rfl, fun W hSW => by go_simp⟩) hHeld ?_
                simp only [Act.put, List.setIfInBounds_toArray, List.set_cons_zero, List.set_cons_succ]
                refine wpAnyH_take (i := 1) (oi := ⟨some 90, _, _, _, _, _⟩) (v := .int .i64 (i : Int)) rfl (by kernel_rfl) (by kernel_rfl) (by kernel_rfl) (fun _ _ _ h => h) (Or.inl ⟨by rfl, fun W hSW => by go_simp⟩) hHeld ?_
                simp only [Act.put, List.setIfInBounds_toArray, List.set_cons_zero, List.set_cons_succ]
                refine wpAnyH_take (i := 2) (oi := ⟨some 91, _, _, _, _, _⟩) (v := .pointer (some ⟨b3, o3 + i, none⟩)) rfl (by kernel_rfl) (by kernel_rfl) (by kernel_rfl) (fun _ _ _ h => h) (Or.inl ⟨by rfl, fun W hSW => by go_simp⟩) hHeld ?_
                simp only [Act.put, List.setIfInBounds_toArray, List.set_cons_zero, List.set_cons_succ]
                refine wpAnyH_take (i := 3) (oi := ⟨some 92, _, _, _, _, _⟩) (v := .int .i64 ci) rfl (by kernel_rfl) (by kernel_rfl) (by kernel_rfl) (fun _ _ _ h => h) (Or.inl ⟨by rfl, fun W hSW => by have a0 := (hSW.cell (p := ⟨b3, o3 + i, none⟩) yl).trans y0; go_simp⟩) hHeld ?_
                simp only [Act.put, List.setIfInBounds_toArray, List.set_cons_zero, List.set_cons_succ]
                refine wpAnyH_take (i := 4) (oi := ⟨some 93, _, _, _, _, _⟩) (v := .int .i64 (j : Int)) rfl (by kernel_rfl) (by kernel_rfl) (by kernel_rfl) (fun _ _ _ h => h) (Or.inl ⟨by rfl, fun W hSW => by have e0 := HJ.out; go_simp⟩) hHeld ?_
                simp only [Act.put, List.setIfInBounds_toArray, List.set_cons_zero, List.set_cons_succ]
                refine wpAnyH_take (i := 5) (oi := ⟨some 94, _, _, _, _, _⟩) (v := .pointer (some ⟨px, 0, none⟩)) rfl (by kernel_rfl) (by kernel_rfl) (by kernel_rfl) (fun _ _ _ h => h) (Or.inl ⟨by rfl, fun W hSW => by go_simp⟩) hHeld ?_
                simp only [Act.put, List.setIfInBounds_toArray, List.set_cons_zero, List.set_cons_succ]
                refine wpAnyH_ready (rs := [6]) (by kernel_rfl) (by simp) ?_
                refine AllReadyH.cons (o := ⟨some 95, _, _, _, _, _⟩) rfl (fun K hK => ?_) AllReadyH.nil
                go_simp
                refine (Writes_c (QI.out.below hHeld)).mono ?_
                rintro e w5 ⟨rfl, hw⟩
                obtain rfl := hw.symm
                clear hw
                rw [HLN.out]
                go_wp2_with fail
                refine hK.out _ _ hHeld (fun hHeld => ?_)
                clear hK K
                refine wpAnyH_take (i := 7) (oi := ⟨some 96, _, _, _, _, _⟩) (v := .int .i64 ((lw : Int) + 1)) rfl (by kernel_rfl) (by kernel_rfl) (by kernel_rfl) (fun _ _ _ h => h) (Or.inl ⟨by rfl, fun W hSW => by go_simp; first | done | exact wrS (by omega) (by omega)⟩) hHeld ?_
                simp only [Act.put, List.setIfInBounds_toArray, List.set_cons_zero, List.set_cons_succ]
                refine wpAnyH_take (i := 8) (oi := ⟨some 97, _, _, _, _, _⟩) (v := .int .i64 (k : Int)) rfl (by kernel_rfl) (by kernel_rfl) (by kernel_rfl) (fun _ _ _ h => h) (Or.inl ⟨by rfl, fun W hSW => by have e0 := HK.out; have e1 : ¬ (lw : Int) + 1 = 0 := (by omega); go_simp; first | done | rw [if_neg e1, e0]⟩) hHeld ?_
                simp only [Act.put, List.setIfInBounds_toArray, List.set_cons_zero, List.set_cons_succ]
                refine wpAnyH_ready (rs := [9]) (by kernel_rfl) (by simp) ?_
                refine AllReadyH.cons (o := ⟨some 21, _, _, _, _, _⟩) rfl (fun K hK => ?_) AllReadyH.nil
                go_simp
                refine hK.out _ _ hHeld (fun hHeld => ?_)
                clear hK K
                refine wpAnyH_done (by kernel_rfl) ?_ _
                refine NoPanic.normal ?_
                have BR5 := Lib.hid (below_t BR.out hHeld)
                have QI5 := Lib.hid (QI.out.below hHeld)
                have OI5 := Lib.hid (OI.out.below hHeld)
                clear hHeld y0 yl
                go_wp2_with fail
                refine (Cut_i (j := k) rfl QI5.out (by rw [HLN.out]; omega) (by rw [HLN.out]; exact hkl)).mono ?_
                rintro e w7 ⟨py, rfl, Sy, hqy, hby⟩
                have BR7 := Lib.hid (below_t BR5.out hby)
                have QI7 := Lib.hid (QI5.out.below hby)
                have OI7 := Lib.hid (OI5.out.below hby)
                have QY := Lib.hid (hqy.mono BR5.out.size)
                have VY := Lib.hid (show ∀ q, v4.ownBlock = some q → ¬ Sy q from fun q hq1 hq2 => by
                  have := (OI5.out.ge q hq1).2
                  have := (hqy.ge hq2).1
                  omega)
                clear hqy hby
                obtain ⟨c', hc'⟩ : ∃ c', (if i = 0 then comB dx.ws A k else cc) = c' := ⟨_, rfl⟩
                have HNX := Lib.hid (CP.out.next hn131 hM60 QI.out.ok (by rw [HLN.out]; exact hkl) hc')
                have HRD := Lib.hid (rec_next (k := k) CP.out.n HOE.out)
                have HOD := Lib.hid (show openE (dx.cut k).mark.n (A : Int) (M : Int) = 0 by
                  have : (dx.cut k).mark.n = n0 := CP.out.n
                  rw [this]
                  exact HOE.out)
                have HC' := Lib.hid hc'
                clear hc'
                by_cases hi0 : i = 0
                · have hi0I : ((i : Int) == 0) = true := by simp [hi0]
                  have HCB := Lib.hid (show comB dx.ws A k = c' by rw [← HC'.out, if_pos hi0])
                  go_wp2_with fail
                  refine (Log_c QI7.out (by rw [HLN.out]; omega)).mono ?_
                  rintro e w8 ⟨v8, rfl, ho8, hb8⟩
                  have O8 := Lib.hid ho8
                  obtain ⟨A8, c8, hv8, _, _, _⟩ := ho8.form HLN.out
                  subst hv8
                  have BR8 := Lib.hid (below_t BR7.out hb8)
                  have QY8 := Lib.hid (QY.out.below hb8)
                  have OI8 := Lib.hid (OI7.out.below hb8)
                  clear ho8 hb8
                  go_wp2_with fail
                  refine (commits_c O8.out HLN.out HCB.out).mono ?_
                  rintro e w9 ⟨rfl, hb9⟩
                  have BR9 := Lib.hid (below_t BR8.out hb9)
                  have QY9 := Lib.hid (QY8.out.below hb9)
                  have OI9 := Lib.hid (OI8.out.below hb9)
                  clear hb9
                  go_wp2_with fail
                  refine (Mark_c QY9.out).mono ?_
                  rintro e w10 ⟨rfl, Sy2, hq10, hf10, hn10⟩
                  have QY10 := Lib.hid hq10
                  have BR10 := Lib.hid (BR9.out.trans (QY9.out.toBelow hf10))
                  have OI10 := Lib.hid (hf10.own OI9.out VY.out)
                  have VY10 := Lib.hid (show ∀ q, v4.ownBlock = some q → ¬ Sy2 q from fun q hq1 hq2 => by
                    rcases hn10 q hq2 with q2 | q2
                    · exact VY.out q hq1 q2
                    · have := (OI9.out.ge q hq1).2
                      omega)
                  clear hq10 hf10 hn10
                  obtain ⟨br, hbr2⟩ : ∃ br, recB (dx.cut k).mark (A : Int) (M : Int) = br := ⟨_, rfl⟩
                  have HBR := Lib.hid hbr2
                  clear hbr2
                  go_wp2_with fail
                  refine (Recover_c (HT.out.below BR10.out) QY10.out (show 0 ≤ 900 by omega) HBR.out HRD.out HOD.out).mono ?_
                  rintro e w11 ⟨rfl, Sy3, hq11, hf11, hn11⟩
                  have QY11 := Lib.hid hq11
                  have BR11 := Lib.hid (BR10.out.trans (QY10.out.toBelow hf11))
                  have OI11 := Lib.hid (hf11.own OI10.out VY10.out)
                  have VY11 := Lib.hid (show ∀ q, v4.ownBlock = some q → ¬ Sy3 q from fun q hq1 hq2 => by
                    rcases hn11 q hq2 with q2 | q2
                    · exact VY10.out q hq1 q2
                    · have := (OI10.out.ge q hq1).2
                      omega)
                  clear hq11 hf11 hn11
                  go_wp2_with fail
                  go_roundw
                  case rel => exact ⟨i + 1, py, _, _, Sy3, by first | rfl | (congr 1; omega), rfl, rfl, by omega, HNX.out, QY11.out, VY11.out, OI11.out, BR11.out⟩
                  case measure => first | (simp [RowKit.intOf]; done) | (simp [RowKit.intOf]; omega)
                · have hi0I : ((i : Int) == 0) = false := by simp [hi0]
                  have HCB := Lib.hid (show cc = c' by rw [← HC'.out, if_neg hi0])
                  obtain rfl := HCB.out
                  have BR9 := BR7
                  have QY9 := QY
                  have OI9 := OI7
                  obtain ⟨w9, hw9⟩ : ∃ w9, w7 = w9 := ⟨_, rfl⟩
                  subst hw9
                  go_wp2_with fail
                  refine (Mark_c QY9.out).mono ?_
                  rintro e w10 ⟨rfl, Sy2, hq10, hf10, hn10⟩
                  have QY10 := Lib.hid hq10
                  have BR10 := Lib.hid (BR9.out.trans (QY9.out.toBelow hf10))
                  have OI10 := Lib.hid (hf10.own OI9.out VY.out)
                  have VY10 := Lib.hid (show ∀ q, v4.ownBlock = some q → ¬ Sy2 q from fun q hq1 hq2 => by
                    rcases hn10 q hq2 with q2 | q2
                    · exact VY.out q hq1 q2
                    · have := (OI9.out.ge q hq1).2
                      omega)
                  clear hq10 hf10 hn10
                  obtain ⟨br, hbr2⟩ : ∃ br, recB (dx.cut k).mark (A : Int) (M : Int) = br := ⟨_, rfl⟩
                  have HBR := Lib.hid hbr2
                  clear hbr2
                  go_wp2_with fail
                  refine (Recover_c (HT.out.below BR10.out) QY10.out (show 0 ≤ 900 by omega) HBR.out HRD.out HOD.out).mono ?_
                  rintro e w11 ⟨rfl, Sy3, hq11, hf11, hn11⟩
                  have QY11 := Lib.hid hq11
                  have BR11 := Lib.hid (BR10.out.trans (QY10.out.toBelow hf11))
                  have OI11 := Lib.hid (hf11.own OI10.out VY10.out)
                  have VY11 := Lib.hid (show ∀ q, v4.ownBlock = some q → ¬ Sy3 q from fun q hq1 hq2 => by
                    rcases hn11 q hq2 with q2 | q2
                    · exact VY10.out q hq1 q2
                    · have := (OI10.out.ge q hq1).2
                      omega)
                  clear hq11 hf11 hn11
                  go_wp2_with fail
                  go_roundw
                  case rel => exact ⟨i + 1, py, _, _, Sy3, by first | rfl | (congr 1; omega), rfl, rfl, by omega, HNX.out, QY11.out, VY11.out, OI11.out, BR11.out⟩
                  case measure => first | (simp [RowKit.intOf]; done) | (simp [RowKit.intOf]; omega)
              · have hie : i = n3 := by omega
                have hiI : ¬ (i : Int) < (n3 : Int) := by omega
                clear hcp hqx hvx hox hbr hin hie hlw
                obtain ⟨wB, hwB⟩ : ∃ wB, wr = wB := ⟨_, rfl⟩
                subst hwB
                obtain ⟨A4, c4, hv4, _, _, _⟩ := OI.out.form (sects_len n0 f)
                subst hv4
                go_wp2_with ((with_reducible refine at_slot 131 ?_); refine Classical.byContradiction (fun hG => ?_))
                refine hG ?_
                clear hG
                refine RowE.wp_appE tyS rfl (.tmp 129) (.tmp 130) rfl (B := wr.heap.size) (l0 := []) rfl rfl own_madeS (OI.out.rd.below ((Below.refl _ wr).alloc (Nat.le_refl _) _)) (by simp; omega) (by simp; omega) (by simp) ?_
                intro v7 w7 ho7 hg7 _
                rw [List.nil_append] at ho7
                have B7 := Lib.hid (show Below wr.heap.size wr w7 from ((Below.refl _ wr).alloc (Nat.le_refl _) _).grown hg7 (by simp) (fun k hk => by
                  have hk' : (Value.slice (some ⟨wr.heap.size, 0, none⟩) 0 0).ownBlock = some k := hk
                  have : wr.heap.size = k := by simpa [Value.ownBlock] using hk'
                  omega))
                have O7 := Lib.hid ho7
                obtain ⟨wA, hwA⟩ : ∃ wA, wr = wA := ⟨_, rfl⟩
                rw [hwA] at QI BR B7 O7
                have HWA := Lib.hid (show w2.heap.size ≤ wA.heap.size from BR.out.size)
                obtain ⟨Aw, cw, hvw, _, _, hAw⟩ := O7.out.form (sects_len n0 _)
                obtain ⟨gw, rfl, hgw1, _⟩ := hAw (by omega)
                subst hvw
                have HGW := Lib.hid hgw1
                clear ho7 hg7 hwA OI VI hgw1 hAw
                go_wp2_with fail
                go_loopw [27] (WantRel n0 n2 cc f g wA (.slice (some ⟨gw, 0, none⟩) n0 cw)) (fun v _ => n2 - (RowKit.intOf v).toNat)
                case atStart => exact ⟨0, rfl, Nat.zero_le _, fun _ => rfl, O7.out, B7.out⟩
                case round =>
                  clear O7 B7
                  obtain ⟨j, rfl, hj, hcj, how, hbw⟩ := hrel
                  have BA := BR
                  clear BR
                  have OW := Lib.hid how
                  have BR := Lib.hid hbw
                  by_cases hjn : j < n2 ∧ cc = true
                  · obtain ⟨hj2, hcc⟩ := hjn
                    subst hcc
                    have hjI : (j : Int) < (n2 : Int) := by omega
                    obtain ⟨⟨xa, xs⟩, hx⟩ : ∃ x, g[j]? = some x := ⟨_, List.getElem?_eq_getElem (by rw [HNL.out]; exact hj2)⟩
                    have HXS := Lib.hid (show xs.length ≤ 512 from HH2.out _ (List.mem_of_getElem? hx))
                    have HXN := Lib.hid (show xa < n0 from HH3.out _ (List.mem_of_getElem? hx))
                    have HPT := Lib.hid (pads_take hx)
                    have HSZ := Lib.hid (str_size xs)
                    obtain ⟨b2, o2, hbo, hlt, hcs⟩ := (HRN.out.below (BA.out.trans (hbw.mono HWA.out))).at hx
                    have HB2 := Lib.hid (show b2 < w2.heap.size by
                      obtain ⟨b', o', hbo', hlt', _⟩ := HRN.out.at hx
                      rw [hbo] at hbo'
                      injection hbo' with e1
                      injection e1 with e1
                      omega)
                    subst hbo
                    have x0 := hcs 0 _ rfl
                    have x1 := hcs 1 _ rfl
                    have hk : encA.k = 2 := rfl
                    rw [hk] at x0 x1
                    have hol : o2 + j * 2 + 0 = o2 + j * 2 := rfl
                    rw [hol] at x0
                    have xl := hlt
                    have HBW := Lib.hid (show ¬ b2 = gw from fun e => by have := HB2.out; have := HWA.out; have := HGW.out; omega)
                    have hxnI : (xa : Int) < (n0 : Int) := by have := HXN.out; omega
                    clear hcs hx hk hol hlt how hbw hcj
                    go_wp2_with fail
                    refine wp_region_noPanic ?_
                    refine wp_region_held_drew (S := fun W => Fr (fun q => q = gw) wr W) (by kernel_rfl) ((Fr.refl (fun q => q = gw) wr).drew) (fun hHeld => ?_)
                    refine wpAnyH_take (i := 0) (oi := ⟨some 141, _, _, _, _, _⟩) (v := .slice (some ⟨gw, 0, none⟩) n0 cw) rfl (by kernel_rfl) (by kernel_rfl) (by kernel_rfl) (fun _ _ _ h => h) (Or.inl ⟨by rfl, fun W hSW => by go_simp⟩) hHeld ?_
                    simp only [Act.put, List.setIfInBounds_toArray, List.set_cons_zero, List.set_cons_succ]
                    refine wpAnyH_take (i := 1) (oi := ⟨some 142, _, _, _, _, _⟩) (v := .slice (some ⟨b2, o2, none⟩) n2 c2) rfl (by kernel_rfl) (by kernel_rfl) (by kernel_rfl) (fun _ _ _ h => h) (Or.inl ⟨by rfl, fun W hSW => by go_simp⟩) hHeld ?_
                    simp only [Act.put, List.setIfInBounds_toArray, List.set_cons_zero, List.set_cons_succ]
                    refine wpAnyH_take (i := 2) (oi := ⟨some 143, _, _, _, _, _⟩) (v := .int .i64 (j : Int)) rfl (by kernel_rfl) (by kernel_rfl) (by kernel_rfl) (fun _ _ _ h => h) (Or.inl ⟨by rfl, fun W hSW => by go_simp⟩) hHeld ?_
                    simp only [Act.put, List.setIfInBounds_toArray, List.set_cons_zero, List.set_cons_succ]
                    refine wpAnyH_take (i := 3) (oi := ⟨some 144, _, _, _, _, _⟩) (v := .pointer (some ⟨b2, o2 + j * 2, none⟩)) rfl (by kernel_rfl) (by kernel_rfl) (by kernel_rfl) (fun _ _ _ h => h) (Or.inl ⟨by rfl, fun W hSW => by go_simp⟩) hHeld ?_
                    simp only [Act.put, List.setIfInBounds_toArray, List.set_cons_zero, List.set_cons_succ]
                    refine wpAnyH_take (i := 4) (oi := ⟨some 145, _, _, _, _, _⟩) (v := .pointer (some ⟨b2, o2 + j * 2, none⟩)) rfl (by kernel_rfl) (by kernel_rfl) (by kernel_rfl) (fun _ _ _ h => h) (Or.inl ⟨by rfl, fun W hSW => by go_simp⟩) hHeld ?_
                    simp only [Act.put, List.setIfInBounds_toArray, List.set_cons_zero, List.set_cons_succ]
                    refine wpAnyH_take (i := 5) (oi := ⟨some 146, _, _, _, _, _⟩) (v := .int .i64 (xa : Int)) rfl (by kernel_rfl) (by kernel_rfl) (by kernel_rfl) (fun _ _ _ h => h) (Or.inl ⟨by rfl, fun W hSW => by have a0 := (hSW.cell (p := ⟨b2, o2 + j * 2, none⟩) xl HBW.out).trans x0; go_simp⟩) hHeld ?_
                    simp only [Act.put, List.setIfInBounds_toArray, List.set_cons_zero, List.set_cons_succ]
                    refine wpAnyH_take (i := 6) (oi := ⟨some 147, _, _, _, _, _⟩) (v := .slice (some ⟨b2, o2, none⟩) n2 c2) rfl (by kernel_rfl) (by kernel_rfl) (by kernel_rfl) (fun _ _ _ h => h) (Or.inl ⟨by rfl, fun W hSW => by go_simp⟩) hHeld ?_
                    simp only [Act.put, List.setIfInBounds_toArray, List.set_cons_zero, List.set_cons_succ]
                    refine wpAnyH_take (i := 7) (oi := ⟨some 148, _, _, _, _, _⟩) (v := .int .i64 (j : Int)) rfl (by kernel_rfl) (by kernel_rfl) (by kernel_rfl) (fun _ _ _ h => h) (Or.inl ⟨by rfl, fun W hSW => by go_simp⟩) hHeld ?_
                    simp only [Act.put, List.setIfInBounds_toArray, List.set_cons_zero, List.set_cons_succ]
                    refine wpAnyH_take (i := 8) (oi := ⟨some 149, _, _, _, _, _⟩) (v := .pointer (some ⟨b2, o2 + j * 2, none⟩)) rfl (by kernel_rfl) (by kernel_rfl) (by kernel_rfl) (fun _ _ _ h => h) (Or.inl ⟨by rfl, fun W hSW => by go_simp⟩) hHeld ?_
                    simp only [Act.put, List.setIfInBounds_toArray, List.set_cons_zero, List.set_cons_succ]
                    refine wpAnyH_take (i := 9) (oi := ⟨some 150, _, _, _, _, _⟩) (v := .pointer (some ⟨b2, o2 + j * 2 + 1, none⟩)) rfl (by kernel_rfl) (by kernel_rfl) (by kernel_rfl) (fun _ _ _ h => h) (Or.inl ⟨by rfl, fun W hSW => by go_simp⟩) hHeld ?_
                    simp only [Act.put, List.setIfInBounds_toArray, List.set_cons_zero, List.set_cons_succ]
                    refine wpAnyH_take (i := 10) (oi := ⟨some 151, _, _, _, _, _⟩) (v := .string (str xs)) rfl (by kernel_rfl) (by kernel_rfl) (by kernel_rfl) (fun _ _ _ h => h) (Or.inl ⟨by rfl, fun W hSW => by have a0 := (hSW.cell (p := ⟨b2, o2 + j * 2 + 1, none⟩) xl HBW.out).trans x1; go_simp⟩) hHeld ?_
                    simp only [Act.put, List.setIfInBounds_toArray, List.set_cons_zero, List.set_cons_succ]
                    refine wpAnyH_take (i := 11) (oi := ⟨some 152, _, _, _, _, _⟩) (v := .slice (some ⟨b2, o2, none⟩) n2 c2) rfl (by kernel_rfl) (by kernel_rfl) (by kernel_rfl) (fun _ _ _ h => h) (Or.inl ⟨by rfl, fun W hSW => by go_simp⟩) hHeld ?_
                    simp only [Act.put, List.setIfInBounds_toArray, List.set_cons_zero, List.set_cons_succ]
                    refine wpAnyH_take (i := 12) (oi := ⟨some 153, _, _, _, _, _⟩) (v := .int .i64 (j : Int)) rfl (by kernel_rfl) (by kernel_rfl) (by kernel_rfl) (fun _ _ _ h => h) (Or.inl ⟨by rfl, fun W hSW => by go_simp⟩) hHeld ?_
                    simp only [Act.put, List.setIfInBounds_toArray, List.set_cons_zero, List.set_cons_succ]
                    refine wpAnyH_take (i := 13) (oi := ⟨some 154, _, _, _, _, _⟩) (v := .pointer (some ⟨b2, o2 + j * 2, none⟩)) rfl (by kernel_rfl) (by kernel_rfl) (by kernel_rfl) (fun _ _ _ h => h) (Or.inl ⟨by rfl, fun W hSW => by go_simp⟩) hHeld ?_
                    simp only [Act.put, List.setIfInBounds_toArray, List.set_cons_zero, List.set_cons_succ]
                    refine wpAnyH_take (i := 14) (oi := ⟨some 155, _, _, _, _, _⟩) (v := .pointer (some ⟨b2, o2 + j * 2 + 1, none⟩)) rfl (by kernel_rfl) (by kernel_rfl) (by kernel_rfl) (fun _ _ _ h => h) (Or.inl ⟨by rfl, fun W hSW => by go_simp⟩) hHeld ?_
                    simp only [Act.put, List.setIfInBounds_toArray, List.set_cons_zero, List.set_cons_succ]
                    refine wpAnyH_take (i := 15) (oi := ⟨some 156, _, _, _, _, _⟩) (v := .string (str xs)) rfl (by kernel_rfl) (by kernel_rfl) (by kernel_rfl) (fun _ _ _ h => h) (Or.inl ⟨by rfl, fun W hSW => by have a0 := (hSW.cell (p := ⟨b2, o2 + j * 2 + 1, none⟩) xl HBW.out).trans x1; go_simp⟩) hHeld ?_
                    simp only [Act.put, List.setIfInBounds_toArray, List.set_cons_zero, List.set_cons_succ]
                    refine wpAnyH_take (i := 16) (oi := ⟨some 157, _, _, _, _, _⟩) (v := .int .i64 (xs.length : Int)) rfl (by kernel_rfl) (by kernel_rfl) (by kernel_rfl) (fun _ _ _ h => h) (Or.inl ⟨by rfl, fun W hSW => by have e0 := HSZ.out; go_simp⟩) hHeld ?_
                    simp only [Act.put, List.setIfInBounds_toArray, List.set_cons_zero, List.set_cons_succ]
                    refine wpAnyH_take (i := 17) (oi := ⟨some 158, _, _, _, _, _⟩) (v := .int .i64 ((512 - xs.length : Nat) : Int)) rfl (by kernel_rfl) (by kernel_rfl) (by kernel_rfl) (fun _ _ _ h => h) (Or.inl ⟨by rfl, fun W hSW => by have e0 := HXS.out; have e1 : (512 : Int) - (xs.length : Int) = ((512 - xs.length : Nat) : Int) := (by omega); go_simp; first | done | exact wrS (by omega) (by omega)⟩) hHeld ?_
                    simp only [Act.put, List.setIfInBounds_toArray, List.set_cons_zero, List.set_cons_succ]
                    refine wpAnyH_ready (rs := [18]) (by kernel_rfl) (by simp) ?_
                    refine AllReadyH.cons (o := ⟨some 159, _, _, _, _, _⟩) rfl (fun K hK => ?_) AllReadyH.nil
                    go_simp
                    refine (zeros_c (k := 512 - xs.length) rfl (by omega)).mono ?_
                    rintro e w5 ⟨rfl, hb5⟩
                    have B5 := Lib.hid (show Below wr.heap.size wr w5 from ((Below.refl _ wr).drew).trans hb5)
                    go_wp2_with fail
                    refine hK.out _ _ (Fr.below _ B5.out) (fun hHeld => ?_)
                    clear hK K hb5
                    refine wpAnyH_take (i := 19) (oi := ⟨some 160, _, _, _, _, _⟩) (v := .string (str (pad xs))) rfl (by kernel_rfl) (by kernel_rfl) (by kernel_rfl) (fun _ _ _ h => h) (Or.inl ⟨by rfl, fun W hSW => by have e1 := cat_zeros (s := xs); have e0 := HSZ.out; have e2 := str_size (List.replicate (512 - xs.length) (0 : UInt8)); rw [List.length_replicate] at e2; have e4 : ¬ (9223372036854775807 < xs.length + (512 - xs.length)) := (by have := HXS.out; omega); go_simp⟩) hHeld ?_
                    simp only [Act.put, List.setIfInBounds_toArray, List.set_cons_zero, List.set_cons_succ]
                    refine wpAnyH_take (i := 20) (oi := ⟨some 161, _, _, _, _, _⟩) (v := .pointer (some ⟨gw, xa, none⟩)) rfl (by kernel_rfl) (by kernel_rfl) (by kernel_rfl) (fun _ _ _ h => h) (Or.inl ⟨by rfl, fun W hSW => by have e0 := HXN.out; go_simp⟩) hHeld ?_
                    simp only [Act.put, List.setIfInBounds_toArray, List.set_cons_zero, List.set_cons_succ]
                    refine wpAnyH_ready (rs := [21]) (by kernel_rfl) (by simp) ?_
                    refine AllReadyH.cons (o := ⟨none, _, _, _, _, _⟩) rfl (fun K hK => ?_) AllReadyH.nil
                    have O5 := Lib.hid (OW.out.below B5.out)
                    have hst := O5.out.store (i := xa) (j := 0) (u := .string (str (pad xs))) (y := pad xs) (sects_at HXN.out) (by decide) rfl
                    rw [show xa * encS.k + 0 = xa from by show xa * 1 + 0 = xa; omega] at hst
                    have e0 := O5.out.cell (i := xa) (j := 0) (sects_at HXN.out) rfl
                    rw [show xa * encS.k + 0 = xa from by show xa * 1 + 0 = xa; omega] at e0
                    have f0 := O5.out.frozen xa
                    have gl := (O5.out.ge gw rfl).2
                    go_simp
                    have B6 := Lib.hid (show Below wA.heap.size wA (w5.setCell ⟨gw, xa, none⟩ (.string (str (pad xs)))) from (below_t BR.out B5.out).setCell (by have := HGW.out; exact this) _)
                    have O6 := Lib.hid hst.1
                    refine hK.out _ _ ((Fr.below (fun q => q = gw) B5.out).trans (Fr.set (fun q => q = gw) w5 ⟨gw, xa, none⟩ _ rfl) (fun i hi => .inl hi)) (fun hHeldE => ?_)
                    clear hK K f0 e0 gl hst
                    refine wpAnyH_done (by kernel_rfl) ?_ _
                    refine NoPanic.normal ?_
                    clear hHeldE
                    have O9 := Lib.hid (show RowG.Own encS TS _ wA.heap.size _ (sects n0 (app f (pads (g.take (j + 1))))) from by
                      rw [HPT.out, app_app, app_one, ← sects_set HXN.out]
                      exact O6.out)
                    clear x0 x1 xl
                    go_wp2_with fail
                    go_roundw
                    case rel => exact ⟨j + 1, by first | rfl | (congr 1; omega), by omega, (fun q => by cases q), O9.out, B6.out⟩
                    case measure => first | (simp [RowKit.intOf]; done) | (simp [RowKit.intOf]; omega)
                  · have HW := Lib.hid (show sects n0 (app f (pads (g.take j))) = sects n0 (app f (if cc = true then pads g else [])) by
                      cases cc with
                      | false =>
                        rw [hcj rfl]
                        rfl
                      | true =>
                        have : j = n2 := by
                          rcases Nat.lt_or_ge j n2 with q | q
                          · exact absurd ⟨q, rfl⟩ hjn
                          · omega
                        rw [this, ← HNL.out, List.take_length]
                        rfl)
                    have OF := Lib.hid (show RowG.Own encS TS wr wA.heap.size (.slice (some ⟨gw, 0, none⟩) n0 cw) (sects n0 (app f (if cc = true then pads g else []))) by rw [← HW.out]; exact how)
                    have QF := Lib.hid (QI.out.below hbw)
                    have BF := Lib.hid (BA.out.trans (hbw.mono HWA.out))
                    have HDN := Lib.hid CP.out.n
                    clear how hbw hcj OW HW
                    have hex : (decide ((j : Int) < (n2 : Int)) && cc) = false := by
                      cases cc with
                      | false => simp
                      | true =>
                        have : ¬ (j : Int) < (n2 : Int) := fun q => hjn ⟨by omega, rfl⟩
                        simp [this]
                    have HEX := Lib.hid hex
                    clear hex
                    by_cases hj2 : j < n2
                    · have hccf : cc = false := by
                        cases cc with
                        | false => rfl
                        | true => exact absurd ⟨hj2, rfl⟩ hjn
                      have hjI : (j : Int) < (n2 : Int) := by omega
                      have HCC := Lib.hid hccf
                      subst hccf
                      clear hjn
                      go_wp2_with fail
                      refine (readall_c QF.out).mono ?_
                      rintro e w8 ⟨v8, rfl, ho8, hb8⟩
                      rw [HDN.out] at ho8
                      have O8 := Lib.hid ho8
                      have B8 := Lib.hid (below_t BF.out hb8)
                      have Q8 := Lib.hid (QF.out.below hb8)
                      have OF8 := Lib.hid (OF.out.below hb8)
                      obtain ⟨Aq, cq, hvq, _, _, hAq⟩ := ho8.form (sects_len n0 _)
                      obtain ⟨gq, rfl, _, hgq2⟩ := hAq (by omega)
                      subst hvq
                      clear ho8 hb8 hAq
                      go_wp2_with fail
                      go_loopw [29] (fun v29 wr2 => ∃ j : Nat, v29 = .int .i64 (j : Int) ∧ j ≤ n0 ∧ Below w8.heap.size w8 wr2) (fun v _ => n0 - (RowKit.intOf v).toNat)
                      case atStart => exact ⟨0, rfl, Nat.zero_le _, Below.refl _ _⟩
                      case round =>
                        obtain ⟨j, rfl, hj, hbr⟩ := hrel
                        have BL := Lib.hid hbr
                        by_cases hjn : j < n0
                        · have hjI : (j : Int) < (n0 : Int) := by omega
                          by_cases hlow : j < A
                          · have hlI : (j : Int) < (A : Int) := by omega
                            have HHM := Lib.hid (CP.out.home hn131 hM60 (j := j) (by omega))
                            obtain ⟨y, hy⟩ : ∃ y, dx.now j = y := ⟨_, rfl⟩
                            have q0 : wr.cell? ⟨gq, j, none⟩ = some (.string (str y)) := by
                              have h := (O8.out.below hbr).cell (i := j) (j := 0) (sects_at hjn) rfl
                              rw [show j * encS.k + 0 = j from by show j * 1 + 0 = j; omega, hy] at h
                              exact h
                            have p0 : wr.cell? ⟨gw, j, none⟩ = some (.string (str y)) := by
                              have h := (OF8.out.below hbr).cell (i := j) (j := 0) (sects_at hjn) rfl
                              rw [show j * encS.k + 0 = j from by show j * 1 + 0 = j; omega, ← HHM.out, hy] at h
                              exact h
                            have ql : gq < wr.heap.size := ((O8.out.below hbr).ge gq rfl).2
                            have pl : gw < wr.heap.size := ((OF8.out.below hbr).ge gw rfl).2
                            clear hy hbr
                            go_wp2_with fail
                            refine wp_region_noPanic ?_
                            refine wp_region_held_drew (S := fun W => Below wr.heap.size wr W) (by kernel_rfl) ((Below.refl _ wr).drew) (fun hHeld => ?_)
                            refine wpAnyH_take (i := 0) (oi := ⟨some 170, _, _, _, _, _⟩) (v := .int .i64 (j : Int)) rfl (by kernel_rfl) (by kernel_rfl) (by kernel_rfl) (fun _ _ _ h => h) (Or.inl ⟨by rfl, fun W hSW => by go_simp⟩) hHeld ?_
                            simp only [Act.put, List.setIfInBounds_toArray, List.set_cons_zero, List.set_cons_succ]
                            refine wpAnyH_take (i := 1) (oi := ⟨some 171, _, _, _, _, _⟩) (v := .int .i64 (A : Int)) rfl (by kernel_rfl) (by kernel_rfl) (by kernel_rfl) (fun _ _ _ h => h) (Or.inl ⟨by rfl, fun W hSW => by go_simp⟩) hHeld ?_
                            simp only [Act.put, List.setIfInBounds_toArray, List.set_cons_zero, List.set_cons_succ]
                            refine wpAnyH_take (i := 2) (oi := ⟨some 172, _, _, _, _, _⟩) (v := .bool true) rfl (by kernel_rfl) (by kernel_rfl) (by kernel_rfl) (fun _ _ _ h => h) (Or.inl ⟨by rfl, fun W hSW => by go_simp⟩) hHeld ?_
                            simp only [Act.put, List.setIfInBounds_toArray, List.set_cons_zero, List.set_cons_succ]
                            refine wpAnyH_take (i := 3) (oi := ⟨some 173, _, _, _, _, _⟩) (v := .bool true) rfl (by kernel_rfl) (by kernel_rfl) (by kernel_rfl) (fun _ _ _ h => h) (Or.inl ⟨by rfl, fun W hSW => by go_simp⟩) hHeld ?_
                            simp only [Act.put, List.setIfInBounds_toArray, List.set_cons_zero, List.set_cons_succ]
                            refine wpAnyH_take (i := 4) (oi := ⟨some 174, _, _, _, _, _⟩) (v := undef) rfl (by kernel_rfl) (by kernel_rfl) (by kernel_rfl) (fun _ _ _ h => h) (Or.inr ⟨by kernel_rfl, rfl⟩) hHeld ?_
                            simp only [Act.put, List.setIfInBounds_toArray, List.set_cons_zero, List.set_cons_succ]
                            refine wpAnyH_take (i := 5) (oi := ⟨some 175, _, _, _, _, _⟩) (v := undef) rfl (by kernel_rfl) (by kernel_rfl) (by kernel_rfl) (fun _ _ _ h => h) (Or.inr ⟨by kernel_rfl, rfl⟩) hHeld ?_
                            simp only [Act.put, List.setIfInBounds_toArray, List.set_cons_zero, List.set_cons_succ]
                            refine wpAnyH_take (i := 6) (oi := ⟨some 176, _, _, _, _, _⟩) (v := undef) rfl (by kernel_rfl) (by kernel_rfl) (by kernel_rfl) (fun _ _ _ h => h) (Or.inr ⟨by kernel_rfl, rfl⟩) hHeld ?_
                            simp only [Act.put, List.setIfInBounds_toArray, List.set_cons_zero, List.set_cons_succ]
                            refine wpAnyH_take (i := 7) (oi := ⟨some 177, _, _, _, _, _⟩) (v := undef) rfl (by kernel_rfl) (by kernel_rfl) (by kernel_rfl) (fun _ _ _ h => h) (Or.inr ⟨by kernel_rfl, rfl⟩) hHeld ?_
                            simp only [Act.put, List.setIfInBounds_toArray, List.set_cons_zero, List.set_cons_succ]
                            refine wpAnyH_take (i := 8) (oi := ⟨some 178, _, _, _, _, _⟩) (v := undef) rfl (by kernel_rfl) (by kernel_rfl) (by kernel_rfl) (fun _ _ _ h => h) (Or.inr ⟨by kernel_rfl, rfl⟩) hHeld ?_
                            simp only [Act.put, List.setIfInBounds_toArray, List.set_cons_zero, List.set_cons_succ]
                            refine wpAnyH_take (i := 9) (oi := ⟨some 179, _, _, _, _, _⟩) (v := .bool true) rfl (by kernel_rfl) (by kernel_rfl) (by kernel_rfl) (fun _ _ _ h => h) (Or.inl ⟨by rfl, fun W hSW => by go_simp⟩) hHeld ?_
                            simp only [Act.put, List.setIfInBounds_toArray, List.set_cons_zero, List.set_cons_succ]
                            refine wpAnyH_take (i := 10) (oi := ⟨some 180, _, _, _, _, _⟩) (v := .bool true) rfl (by kernel_rfl) (by kernel_rfl) (by kernel_rfl) (fun _ _ _ h => h) (Or.inl ⟨by rfl, fun W hSW => by go_simp⟩) hHeld ?_
                            simp only [Act.put, List.setIfInBounds_toArray, List.set_cons_zero, List.set_cons_succ]
                            refine wpAnyH_take (i := 11) (oi := ⟨some 181, _, _, _, _, _⟩) (v := .slice (some ⟨gq, 0, none⟩) n0 cq) rfl (by kernel_rfl) (by kernel_rfl) (by kernel_rfl) (fun _ _ _ h => h) (Or.inl ⟨by rfl, fun W hSW => by go_simp⟩) hHeld ?_
                            simp only [Act.put, List.setIfInBounds_toArray, List.set_cons_zero, List.set_cons_succ]
                            refine wpAnyH_take (i := 12) (oi := ⟨some 182, _, _, _, _, _⟩) (v := .int .i64 (j : Int)) rfl (by kernel_rfl) (by kernel_rfl) (by kernel_rfl) (fun _ _ _ h => h) (Or.inl ⟨by rfl, fun W hSW => by go_simp⟩) hHeld ?_
                            simp only [Act.put, List.setIfInBounds_toArray, List.set_cons_zero, List.set_cons_succ]
                            refine wpAnyH_take (i := 13) (oi := ⟨some 183, _, _, _, _, _⟩) (v := .pointer (some ⟨gq, j, none⟩)) rfl (by kernel_rfl) (by kernel_rfl) (by kernel_rfl) (fun _ _ _ h => h) (Or.inl ⟨by rfl, fun W hSW => by go_simp⟩) hHeld ?_
                            simp only [Act.put, List.setIfInBounds_toArray, List.set_cons_zero, List.set_cons_succ]
                            refine wpAnyH_take (i := 14) (oi := ⟨some 184, _, _, _, _, _⟩) (v := .string (str y)) rfl (by kernel_rfl) (by kernel_rfl) (by kernel_rfl) (fun _ _ _ h => h) (Or.inl ⟨by rfl, fun W hSW => by have a0 := (hSW.cell (p := ⟨gq, j, none⟩) ql).trans q0; go_simp⟩) hHeld ?_
                            simp only [Act.put, List.setIfInBounds_toArray, List.set_cons_zero, List.set_cons_succ]
                            refine wpAnyH_take (i := 15) (oi := ⟨some 185, _, _, _, _, _⟩) (v := .slice (some ⟨gw, 0, none⟩) n0 cw) rfl (by kernel_rfl) (by kernel_rfl) (by kernel_rfl) (fun _ _ _ h => h) (Or.inl ⟨by rfl, fun W hSW => by go_simp⟩) hHeld ?_
                            simp only [Act.put, List.setIfInBounds_toArray, List.set_cons_zero, List.set_cons_succ]
                            refine wpAnyH_take (i := 16) (oi := ⟨some 186, _, _, _, _, _⟩) (v := .int .i64 (j : Int)) rfl (by kernel_rfl) (by kernel_rfl) (by kernel_rfl) (fun _ _ _ h => h) (Or.inl ⟨by rfl, fun W hSW => by go_simp⟩) hHeld ?_
                            simp only [Act.put, List.setIfInBounds_toArray, List.set_cons_zero, List.set_cons_succ]
                            refine wpAnyH_take (i := 17) (oi := ⟨some 187, _, _, _, _, _⟩) (v := .pointer (some ⟨gw, j, none⟩)) rfl (by kernel_rfl) (by kernel_rfl) (by kernel_rfl) (fun _ _ _ h => h) (Or.inl ⟨by rfl, fun W hSW => by go_simp⟩) hHeld ?_
                            simp only [Act.put, List.setIfInBounds_toArray, List.set_cons_zero, List.set_cons_succ]
                            refine wpAnyH_take (i := 18) (oi := ⟨some 188, _, _, _, _, _⟩) (v := .string (str y)) rfl (by kernel_rfl) (by kernel_rfl) (by kernel_rfl) (fun _ _ _ h => h) (Or.inl ⟨by rfl, fun W hSW => by have a0 := (hSW.cell (p := ⟨gw, j, none⟩) pl).trans p0; go_simp⟩) hHeld ?_
                            simp only [Act.put, List.setIfInBounds_toArray, List.set_cons_zero, List.set_cons_succ]
                            refine wpAnyH_take (i := 19) (oi := ⟨some 189, _, _, _, _, _⟩) (v := .bool false) rfl (by kernel_rfl) (by kernel_rfl) (by kernel_rfl) (fun _ _ _ h => h) (Or.inl ⟨by rfl, fun W hSW => by go_simp⟩) hHeld ?_
                            simp only [Act.put, List.setIfInBounds_toArray, List.set_cons_zero, List.set_cons_succ]
                            refine wpAnyH_take (i := 20) (oi := ⟨some 190, _, _, _, _, _⟩) (v := .bool false) rfl (by kernel_rfl) (by kernel_rfl) (by kernel_rfl) (fun _ _ _ h => h) (Or.inl ⟨by rfl, fun W hSW => by go_simp⟩) hHeld ?_
                            simp only [Act.put, List.setIfInBounds_toArray, List.set_cons_zero, List.set_cons_succ]
                            refine wpAnyH_done (by kernel_rfl) ?_ _
                            refine NoPanic.normal ?_
                            have BL2 := Lib.hid (below_t BL.out hHeld)
                            clear hHeld q0 p0 ql pl
                            go_wp2_with fail
                            go_roundw
                            case rel => exact ⟨j + 1, by first | rfl | (congr 1; omega), by omega, BL2.out⟩
                            case measure => first | (simp [RowKit.intOf]; done) | (simp [RowKit.intOf]; omega)
                          · have hlI : ¬ (j : Int) < (A : Int) := by omega
                            by_cases hhi : A + M < j
                            · have hhI : (A : Int) + (M : Int) < (j : Int) := by omega
                              have HHM := Lib.hid (CP.out.home hn131 hM60 (j := j) (by omega))
                              obtain ⟨y, hy⟩ : ∃ y, dx.now j = y := ⟨_, rfl⟩
                              have q0 : wr.cell? ⟨gq, j, none⟩ = some (.string (str y)) := by
                                have h := (O8.out.below hbr).cell (i := j) (j := 0) (sects_at hjn) rfl
                                rw [show j * encS.k + 0 = j from by show j * 1 + 0 = j; omega, hy] at h
                                exact h
                              have p0 : wr.cell? ⟨gw, j, none⟩ = some (.string (str y)) := by
                                have h := (OF8.out.below hbr).cell (i := j) (j := 0) (sects_at hjn) rfl
                                rw [show j * encS.k + 0 = j from by show j * 1 + 0 = j; omega, ← HHM.out, hy] at h
                                exact h
                              have ql : gq < wr.heap.size := ((O8.out.below hbr).ge gq rfl).2
                              have pl : gw < wr.heap.size := ((OF8.out.below hbr).ge gw rfl).2
                              clear hy hbr
                              go_wp2_with fail
                              refine wp_region_noPanic ?_
                              refine wp_region_held_drew (S := fun W => Below wr.heap.size wr W) (by kernel_rfl) ((Below.refl _ wr).drew) (fun hHeld => ?_)
                              refine wpAnyH_take (i := 0) (oi := ⟨some 170, _, _, _, _, _⟩) (v := .int .i64 (j : Int)) rfl (by kernel_rfl) (by kernel_rfl) (by kernel_rfl) (fun _ _ _ h => h) (Or.inl ⟨by rfl, fun W hSW => by go_simp⟩) hHeld ?_
                              simp only [Act.put, List.setIfInBounds_toArray, List.set_cons_zero, List.set_cons_succ]
                              refine wpAnyH_take (i := 1) (oi := ⟨some 171, _, _, _, _, _⟩) (v := .int .i64 (A : Int)) rfl (by kernel_rfl) (by kernel_rfl) (by kernel_rfl) (fun _ _ _ h => h) (Or.inl ⟨by rfl, fun W hSW => by go_simp⟩) hHeld ?_
                              simp only [Act.put, List.setIfInBounds_toArray, List.set_cons_zero, List.set_cons_succ]
                              refine wpAnyH_take (i := 2) (oi := ⟨some 172, _, _, _, _, _⟩) (v := .bool false) rfl (by kernel_rfl) (by kernel_rfl) (by kernel_rfl) (fun _ _ _ h => h) (Or.inl ⟨by rfl, fun W hSW => by go_simp⟩) hHeld ?_
                              simp only [Act.put, List.setIfInBounds_toArray, List.set_cons_zero, List.set_cons_succ]
                              refine wpAnyH_take (i := 3) (oi := ⟨some 173, _, _, _, _, _⟩) (v := .bool false) rfl (by kernel_rfl) (by kernel_rfl) (by kernel_rfl) (fun _ _ _ h => h) (Or.inl ⟨by rfl, fun W hSW => by go_simp⟩) hHeld ?_
                              simp only [Act.put, List.setIfInBounds_toArray, List.set_cons_zero, List.set_cons_succ]
                              refine wpAnyH_take (i := 4) (oi := ⟨some 174, _, _, _, _, _⟩) (v := .int .i64 (j : Int)) rfl (by kernel_rfl) (by kernel_rfl) (by kernel_rfl) (fun _ _ _ h => h) (Or.inl ⟨by rfl, fun W hSW => by go_simp⟩) hHeld ?_
                              simp only [Act.put, List.setIfInBounds_toArray, List.set_cons_zero, List.set_cons_succ]
                              refine wpAnyH_take (i := 5) (oi := ⟨some 175, _, _, _, _, _⟩) (v := .int .i64 (A : Int)) rfl (by kernel_rfl) (by kernel_rfl) (by kernel_rfl) (fun _ _ _ h => h) (Or.inl ⟨by rfl, fun W hSW => by go_simp⟩) hHeld ?_
                              simp only [Act.put, List.setIfInBounds_toArray, List.set_cons_zero, List.set_cons_succ]
                              refine wpAnyH_take (i := 6) (oi := ⟨some 176, _, _, _, _, _⟩) (v := .int .i64 (M : Int)) rfl (by kernel_rfl) (by kernel_rfl) (by kernel_rfl) (fun _ _ _ h => h) (Or.inl ⟨by rfl, fun W hSW => by go_simp⟩) hHeld ?_
                              simp only [Act.put, List.setIfInBounds_toArray, List.set_cons_zero, List.set_cons_succ]
                              refine wpAnyH_take (i := 7) (oi := ⟨some 177, _, _, _, _, _⟩) (v := .int .i64 ((A : Int) + (M : Int))) rfl (by kernel_rfl) (by kernel_rfl) (by kernel_rfl) (fun _ _ _ h => h) (Or.inl ⟨by rfl, fun W hSW => by go_simp; first | done | exact wrS (by omega) (by omega)⟩) hHeld ?_
                              simp only [Act.put, List.setIfInBounds_toArray, List.set_cons_zero, List.set_cons_succ]
                              refine wpAnyH_take (i := 8) (oi := ⟨some 178, _, _, _, _, _⟩) (v := .bool true) rfl (by kernel_rfl) (by kernel_rfl) (by kernel_rfl) (fun _ _ _ h => h) (Or.inl ⟨by rfl, fun W hSW => by go_simp⟩) hHeld ?_
                              simp only [Act.put, List.setIfInBounds_toArray, List.set_cons_zero, List.set_cons_succ]
                              refine wpAnyH_take (i := 9) (oi := ⟨some 179, _, _, _, _, _⟩) (v := .bool true) rfl (by kernel_rfl) (by kernel_rfl) (by kernel_rfl) (fun _ _ _ h => h) (Or.inl ⟨by rfl, fun W hSW => by go_simp⟩) hHeld ?_
                              simp only [Act.put, List.setIfInBounds_toArray, List.set_cons_zero, List.set_cons_succ]
                              refine wpAnyH_take (i := 10) (oi := ⟨some 180, _, _, _, _, _⟩) (v := .bool true) rfl (by kernel_rfl) (by kernel_rfl) (by kernel_rfl) (fun _ _ _ h => h) (Or.inl ⟨by rfl, fun W hSW => by go_simp⟩) hHeld ?_
                              simp only [Act.put, List.setIfInBounds_toArray, List.set_cons_zero, List.set_cons_succ]
                              refine wpAnyH_take (i := 11) (oi := ⟨some 181, _, _, _, _, _⟩) (v := .slice (some ⟨gq, 0, none⟩) n0 cq) rfl (by kernel_rfl) (by kernel_rfl) (by kernel_rfl) (fun _ _ _ h => h) (Or.inl ⟨by rfl, fun W hSW => by go_simp⟩) hHeld ?_
                              simp only [Act.put, List.setIfInBounds_toArray, List.set_cons_zero, List.set_cons_succ]
                              refine wpAnyH_take (i := 12) (oi := ⟨some 182, _, _, _, _, _⟩) (v := .int .i64 (j : Int)) rfl (by kernel_rfl) (by kernel_rfl) (by kernel_rfl) (fun _ _ _ h => h) (Or.inl ⟨by rfl, fun W hSW => by go_simp⟩) hHeld ?_
                              simp only [Act.put, List.setIfInBounds_toArray, List.set_cons_zero, List.set_cons_succ]
                              refine wpAnyH_take (i := 13) (oi := ⟨some 183, _, _, _, _, _⟩) (v := .pointer (some ⟨gq, j, none⟩)) rfl (by kernel_rfl) (by kernel_rfl) (by kernel_rfl) (fun _ _ _ h => h) (Or.inl ⟨by rfl, fun W hSW => by go_simp⟩) hHeld ?_
                              simp only [Act.put, List.setIfInBounds_toArray, List.set_cons_zero, List.set_cons_succ]
                              refine wpAnyH_take (i := 14) (oi := ⟨some 184, _, _, _, _, _⟩) (v := .string (str y)) rfl (by kernel_rfl) (by kernel_rfl) (by kernel_rfl) (fun _ _ _ h => h) (Or.inl ⟨by rfl, fun W hSW => by have a0 := (hSW.cell (p := ⟨gq, j, none⟩) ql).trans q0; go_simp⟩) hHeld ?_
                              simp only [Act.put, List.setIfInBounds_toArray, List.set_cons_zero, List.set_cons_succ]
                              refine wpAnyH_take (i := 15) (oi := ⟨some 185, _, _, _, _, _⟩) (v := .slice (some ⟨gw, 0, none⟩) n0 cw) rfl (by kernel_rfl) (by kernel_rfl) (by kernel_rfl) (fun _ _ _ h => h) (Or.inl ⟨by rfl, fun W hSW => by go_simp⟩) hHeld ?_
                              simp only [Act.put, List.setIfInBounds_toArray, List.set_cons_zero, List.set_cons_succ]
                              refine wpAnyH_take (i := 16) (oi := ⟨some 186, _, _, _, _, _⟩) (v := .int .i64 (j : Int)) rfl (by kernel_rfl) (by kernel_rfl) (by kernel_rfl) (fun _ _ _ h => h) (Or.inl ⟨by rfl, fun W hSW => by go_simp⟩) hHeld ?_
                              simp only [Act.put, List.setIfInBounds_toArray, List.set_cons_zero, List.set_cons_succ]
                              refine wpAnyH_take (i := 17) (oi := ⟨some 187, _, _, _, _, _⟩) (v := .pointer (some ⟨gw, j, none⟩)) rfl (by kernel_rfl) (by kernel_rfl) (by kernel_rfl) (fun _ _ _ h => h) (Or.inl ⟨by rfl, fun W hSW => by go_simp⟩) hHeld ?_
                              simp only [Act.put, List.setIfInBounds_toArray, List.set_cons_zero, List.set_cons_succ]
                              refine wpAnyH_take (i := 18) (oi := ⟨some 188, _, _, _, _, _⟩) (v := .string (str y)) rfl (by kernel_rfl) (by kernel_rfl) (by kernel_rfl) (fun _ _ _ h => h) (Or.inl ⟨by rfl, fun W hSW => by have a0 := (hSW.cell (p := ⟨gw, j, none⟩) pl).trans p0; go_simp⟩) hHeld ?_
                              simp only [Act.put, List.setIfInBounds_toArray, List.set_cons_zero, List.set_cons_succ]
                              refine wpAnyH_take (i := 19) (oi := ⟨some 189, _, _, _, _, _⟩) (v := .bool false) rfl (by kernel_rfl) (by kernel_rfl) (by kernel_rfl) (fun _ _ _ h => h) (Or.inl ⟨by rfl, fun W hSW => by go_simp⟩) hHeld ?_
                              simp only [Act.put, List.setIfInBounds_toArray, List.set_cons_zero, List.set_cons_succ]
                              refine wpAnyH_take (i := 20) (oi := ⟨some 190, _, _, _, _, _⟩) (v := .bool false) rfl (by kernel_rfl) (by kernel_rfl) (by kernel_rfl) (fun _ _ _ h => h) (Or.inl ⟨by rfl, fun W hSW => by go_simp⟩) hHeld ?_
                              simp only [Act.put, List.setIfInBounds_toArray, List.set_cons_zero, List.set_cons_succ]
                              refine wpAnyH_done (by kernel_rfl) ?_ _
                              refine NoPanic.normal ?_
                              have BL2 := Lib.hid (below_t BL.out hHeld)
                              clear hHeld q0 p0 ql pl
                              go_wp2_with fail
                              go_roundw
                              case rel => exact ⟨j + 1, by first | rfl | (congr 1; omega), by omega, BL2.out⟩
                              case measure => first | (simp [RowKit.intOf]; done) | (simp [RowKit.intOf]; omega)
                            · have hhI : ¬ (A : Int) + (M : Int) < (j : Int) := by omega
                              clear hbr
                              go_wp2_with fail
                              refine wp_region_noPanic ?_
                              refine wp_region_held_drew (S := fun W => Below wr.heap.size wr W) (by kernel_rfl) ((Below.refl _ wr).drew) (fun hHeld => ?_)
                              refine wpAnyH_take (i := 0) (oi := ⟨some 170, _, _, _, _, _⟩) (v := .int .i64 (j : Int)) rfl (by kernel_rfl) (by kernel_rfl) (by kernel_rfl) (fun _ _ _ h => h) (Or.inl ⟨by rfl, fun W hSW => by go_simp⟩) hHeld ?_
                              simp only [Act.put, List.setIfInBounds_toArray, List.set_cons_zero, List.set_cons_succ]
                              refine wpAnyH_take (i := 1) (oi := ⟨some 171, _, _, _, _, _⟩) (v := .int .i64 (A : Int)) rfl (by kernel_rfl) (by kernel_rfl) (by kernel_rfl) (fun _ _ _ h => h) (Or.inl ⟨by rfl, fun W hSW => by go_simp⟩) hHeld ?_
                              simp only [Act.put, List.setIfInBounds_toArray, List.set_cons_zero, List.set_cons_succ]
                              refine wpAnyH_take (i := 2) (oi := ⟨some 172, _, _, _, _, _⟩) (v := .bool false) rfl (by kernel_rfl) (by kernel_rfl) (by kernel_rfl) (fun _ _ _ h => h) (Or.inl ⟨by rfl, fun W hSW => by go_simp⟩) hHeld ?_
                              simp only [Act.put, List.setIfInBounds_toArray, List.set_cons_zero, List.set_cons_succ]
                              refine wpAnyH_take (i := 3) (oi := ⟨some 173, _, _, _, _, _⟩) (v := .bool false) rfl (by kernel_rfl) (by kernel_rfl) (by kernel_rfl) (fun _ _ _ h => h) (Or.inl ⟨by rfl, fun W hSW => by go_simp⟩) hHeld ?_
                              simp only [Act.put, List.setIfInBounds_toArray, List.set_cons_zero, List.set_cons_succ]
                              refine wpAnyH_take (i := 4) (oi := ⟨some 174, _, _, _, _, _⟩) (v := .int .i64 (j : Int)) rfl (by kernel_rfl) (by kernel_rfl) (by kernel_rfl) (fun _ _ _ h => h) (Or.inl ⟨by rfl, fun W hSW => by go_simp⟩) hHeld ?_
                              simp only [Act.put, List.setIfInBounds_toArray, List.set_cons_zero, List.set_cons_succ]
                              refine wpAnyH_take (i := 5) (oi := ⟨some 175, _, _, _, _, _⟩) (v := .int .i64 (A : Int)) rfl (by kernel_rfl) (by kernel_rfl) (by kernel_rfl) (fun _ _ _ h => h) (Or.inl ⟨by rfl, fun W hSW => by go_simp⟩) hHeld ?_
                              simp only [Act.put, List.setIfInBounds_toArray, List.set_cons_zero, List.set_cons_succ]
                              refine wpAnyH_take (i := 6) (oi := ⟨some 176, _, _, _, _, _⟩) (v := .int .i64 (M : Int)) rfl (by kernel_rfl) (by kernel_rfl) (by kernel_rfl) (fun _ _ _ h => h) (Or.inl ⟨by rfl, fun W hSW => by go_simp⟩) hHeld ?_
                              simp only [Act.put, List.setIfInBounds_toArray, List.set_cons_zero, List.set_cons_succ]
                              refine wpAnyH_take (i := 7) (oi := ⟨some 177, _, _, _, _, _⟩) (v := .int .i64 ((A : Int) + (M : Int))) rfl (by kernel_rfl) (by kernel_rfl) (by kernel_rfl) (fun _ _ _ h => h) (Or.inl ⟨by rfl, fun W hSW => by go_simp; first | done | exact wrS (by omega) (by omega)⟩) hHeld ?_
                              simp only [Act.put, List.setIfInBounds_toArray, List.set_cons_zero, List.set_cons_succ]
                              refine wpAnyH_take (i := 8) (oi := ⟨some 178, _, _, _, _, _⟩) (v := .bool false) rfl (by kernel_rfl) (by kernel_rfl) (by kernel_rfl) (fun _ _ _ h => h) (Or.inl ⟨by rfl, fun W hSW => by go_simp⟩) hHeld ?_
                              simp only [Act.put, List.setIfInBounds_toArray, List.set_cons_zero, List.set_cons_succ]
                              refine wpAnyH_take (i := 9) (oi := ⟨some 179, _, _, _, _, _⟩) (v := .bool false) rfl (by kernel_rfl) (by kernel_rfl) (by kernel_rfl) (fun _ _ _ h => h) (Or.inl ⟨by rfl, fun W hSW => by go_simp⟩) hHeld ?_
                              simp only [Act.put, List.setIfInBounds_toArray, List.set_cons_zero, List.set_cons_succ]
                              refine wpAnyH_take (i := 10) (oi := ⟨some 180, _, _, _, _, _⟩) (v := .bool false) rfl (by kernel_rfl) (by kernel_rfl) (by kernel_rfl) (fun _ _ _ h => h) (Or.inl ⟨by rfl, fun W hSW => by go_simp⟩) hHeld ?_
                              simp only [Act.put, List.setIfInBounds_toArray, List.set_cons_zero, List.set_cons_succ]
                              refine wpAnyH_take (i := 11) (oi := ⟨some 181, _, _, _, _, _⟩) (v := undef) rfl (by kernel_rfl) (by kernel_rfl) (by kernel_rfl) (fun _ _ _ h => h) (Or.inr ⟨by kernel_rfl, rfl⟩) hHeld ?_
                              simp only [Act.put, List.setIfInBounds_toArray, List.set_cons_zero, List.set_cons_succ]
                              refine wpAnyH_take (i := 12) (oi := ⟨some 182, _, _, _, _, _⟩) (v := undef) rfl (by kernel_rfl) (by kernel_rfl) (by kernel_rfl) (fun _ _ _ h => h) (Or.inr ⟨by kernel_rfl, rfl⟩) hHeld ?_
                              simp only [Act.put, List.setIfInBounds_toArray, List.set_cons_zero, List.set_cons_succ]
                              refine wpAnyH_take (i := 13) (oi := ⟨some 183, _, _, _, _, _⟩) (v := undef) rfl (by kernel_rfl) (by kernel_rfl) (by kernel_rfl) (fun _ _ _ h => h) (Or.inr ⟨by kernel_rfl, rfl⟩) hHeld ?_
                              simp only [Act.put, List.setIfInBounds_toArray, List.set_cons_zero, List.set_cons_succ]
                              refine wpAnyH_take (i := 14) (oi := ⟨some 184, _, _, _, _, _⟩) (v := undef) rfl (by kernel_rfl) (by kernel_rfl) (by kernel_rfl) (fun _ _ _ h => h) (Or.inr ⟨by kernel_rfl, rfl⟩) hHeld ?_
                              simp only [Act.put, List.setIfInBounds_toArray, List.set_cons_zero, List.set_cons_succ]
                              refine wpAnyH_take (i := 15) (oi := ⟨some 185, _, _, _, _, _⟩) (v := undef) rfl (by kernel_rfl) (by kernel_rfl) (by kernel_rfl) (fun _ _ _ h => h) (Or.inr ⟨by kernel_rfl, rfl⟩) hHeld ?_
                              simp only [Act.put, List.setIfInBounds_toArray, List.set_cons_zero, List.set_cons_succ]
                              refine wpAnyH_take (i := 16) (oi := ⟨some 186, _, _, _, _, _⟩) (v := undef) rfl (by kernel_rfl) (by kernel_rfl) (by kernel_rfl) (fun _ _ _ h => h) (Or.inr ⟨by kernel_rfl, rfl⟩) hHeld ?_
                              simp only [Act.put, List.setIfInBounds_toArray, List.set_cons_zero, List.set_cons_succ]
                              refine wpAnyH_take (i := 17) (oi := ⟨some 187, _, _, _, _, _⟩) (v := undef) rfl (by kernel_rfl) (by kernel_rfl) (by kernel_rfl) (fun _ _ _ h => h) (Or.inr ⟨by kernel_rfl, rfl⟩) hHeld ?_
                              simp only [Act.put, List.setIfInBounds_toArray, List.set_cons_zero, List.set_cons_succ]
                              refine wpAnyH_take (i := 18) (oi := ⟨some 188, _, _, _, _, _⟩) (v := undef) rfl (by kernel_rfl) (by kernel_rfl) (by kernel_rfl) (fun _ _ _ h => h) (Or.inr ⟨by kernel_rfl, rfl⟩) hHeld ?_
                              simp only [Act.put, List.setIfInBounds_toArray, List.set_cons_zero, List.set_cons_succ]
                              refine wpAnyH_take (i := 19) (oi := ⟨some 189, _, _, _, _, _⟩) (v := undef) rfl (by kernel_rfl) (by kernel_rfl) (by kernel_rfl) (fun _ _ _ h => h) (Or.inr ⟨by kernel_rfl, rfl⟩) hHeld ?_
                              simp only [Act.put, List.setIfInBounds_toArray, List.set_cons_zero, List.set_cons_succ]
                              refine wpAnyH_take (i := 20) (oi := ⟨some 190, _, _, _, _, _⟩) (v := .bool false) rfl (by kernel_rfl) (by kernel_rfl) (by kernel_rfl) (fun _ _ _ h => h) (Or.inl ⟨by rfl, fun W hSW => by go_simp⟩) hHeld ?_
                              simp only [Act.put, List.setIfInBounds_toArray, List.set_cons_zero, List.set_cons_succ]
                              refine wpAnyH_done (by kernel_rfl) ?_ _
                              refine NoPanic.normal ?_
                              have BL2 := Lib.hid (below_t BL.out hHeld)
                              clear hHeld
                              go_wp2_with fail
                              go_roundw
                              case rel => exact ⟨j + 1, by first | rfl | (congr 1; omega), by omega, BL2.out⟩
                              case measure => first | (simp [RowKit.intOf]; done) | (simp [RowKit.intOf]; omega)
                        · have hjI : ¬ (j : Int) < (n0 : Int) := by omega
                          have BX := Lib.hid (below_t B8.out hbr)
                          have QX := Lib.hid (Q8.out.below hbr)
                          have HST := Lib.hid (show recB dx (A : Int) (M : Int) = false ∧ recD dx (A : Int) (M : Int) = dx by
                            have hg2 := rec_good (d := dx) (a := A) (m := M) (by rw [CP.out.n]; exact HOE.out)
                            have hnone : standJ dx.n A M dx.now = [] := by rw [CP.out.n]; exact CP.out.none hn131 hM60
                            rw [hnone] at hg2
                            exact ⟨hg2.2, hg2.1.trans (adds_nil _)⟩)
                          have HOX := Lib.hid (show openE dx.n (A : Int) (M : Int) = 0 by rw [CP.out.n]; exact HOE.out)
                          have hlx := CP.out.len
                          clear hbr
                          go_wp2_with fail
                          refine (Recover_c (HT.out.below BX.out) QX.out (by omega) HST.out.1 HST.out.2 HOX.out).mono ?_
                          rintro e w9 ⟨rfl, S9, hq9, hf9, hn9⟩
                          have BY := Lib.hid (BX.out.trans (QX.out.toBelow hf9))
                          clear hq9 hf9 hn9
                          go_wp2_with fail
                          refine (awake_c (HT.out.below (BY.out))).mono ?_
                          rintro e wz ⟨rfl, hbz⟩
                          have BZ := Lib.hid (below_t (BY.out) hbz)
                          clear hbz
                          go_wp2_with fail
                          go_ret
                          exact ⟨rfl, BZ.out⟩
                    · have hjI : ¬ (j : Int) < (n2 : Int) := by omega
                      clear hjn
                      go_wp2_with fail
                      refine (readall_c QF.out).mono ?_
                      rintro e w8 ⟨v8, rfl, ho8, hb8⟩
                      rw [HDN.out] at ho8
                      have O8 := Lib.hid ho8
                      have B8 := Lib.hid (below_t BF.out hb8)
                      have Q8 := Lib.hid (QF.out.below hb8)
                      have OF8 := Lib.hid (OF.out.below hb8)
                      obtain ⟨Aq, cq, hvq, _, _, hAq⟩ := ho8.form (sects_len n0 _)
                      obtain ⟨gq, rfl, _, hgq2⟩ := hAq (by omega)
                      subst hvq
                      clear ho8 hb8 hAq
                      go_wp2_with fail
                      go_loopw [29] (fun v29 wr2 => ∃ j : Nat, v29 = .int .i64 (j : Int) ∧ j ≤ n0 ∧ Below w8.heap.size w8 wr2) (fun v _ => n0 - (RowKit.intOf v).toNat)
                      case atStart => exact ⟨0, rfl, Nat.zero_le _, Below.refl _ _⟩
                      case round =>
                        obtain ⟨j, rfl, hj, hbr⟩ := hrel
                        have BL := Lib.hid hbr
                        by_cases hjn : j < n0
                        · have hjI : (j : Int) < (n0 : Int) := by omega
                          by_cases hlow : j < A
                          · have hlI : (j : Int) < (A : Int) := by omega
                            have HHM := Lib.hid (CP.out.home hn131 hM60 (j := j) (by omega))
                            obtain ⟨y, hy⟩ : ∃ y, dx.now j = y := ⟨_, rfl⟩
                            have q0 : wr.cell? ⟨gq, j, none⟩ = some (.string (str y)) := by
                              have h := (O8.out.below hbr).cell (i := j) (j := 0) (sects_at hjn) rfl
                              rw [show j * encS.k + 0 = j from by show j * 1 + 0 = j; omega, hy] at h
                              exact h
                            have p0 : wr.cell? ⟨gw, j, none⟩ = some (.string (str y)) := by
                              have h := (OF8.out.below hbr).cell (i := j) (j := 0) (sects_at hjn) rfl
                              rw [show j * encS.k + 0 = j from by show j * 1 + 0 = j; omega, ← HHM.out, hy] at h
                              exact h
                            have ql : gq < wr.heap.size := ((O8.out.below hbr).ge gq rfl).2
                            have pl : gw < wr.heap.size := ((OF8.out.below hbr).ge gw rfl).2
                            clear hy hbr
                            go_wp2_with fail
                            refine wp_region_noPanic ?_
                            refine wp_region_held_drew (S := fun W => Below wr.heap.size wr W) (by kernel_rfl) ((Below.refl _ wr).drew) (fun hHeld => ?_)
                            refine wpAnyH_take (i := 0) (oi := ⟨some 170, _, _, _, _, _⟩) (v := .int .i64 (j : Int)) rfl (by kernel_rfl) (by kernel_rfl) (by kernel_rfl) (fun _ _ _ h => h) (Or.inl ⟨by rfl, fun W hSW => by go_simp⟩) hHeld ?_
                            simp only [Act.put, List.setIfInBounds_toArray, List.set_cons_zero, List.set_cons_succ]
                            refine wpAnyH_take (i := 1) (oi := ⟨some 171, _, _, _, _, _⟩) (v := .int .i64 (A : Int)) rfl (by kernel_rfl) (by kernel_rfl) (by kernel_rfl) (fun _ _ _ h => h) (Or.inl ⟨by rfl, fun W hSW => by go_simp⟩) hHeld ?_
                            simp only [Act.put, List.setIfInBounds_toArray, List.set_cons_zero, List.set_cons_succ]
                            refine wpAnyH_take (i := 2) (oi := ⟨some 172, _, _, _, _, _⟩) (v := .bool true) rfl (by kernel_rfl) (by kernel_rfl) (by kernel_rfl) (fun _ _ _ h => h) (Or.inl ⟨by rfl, fun W hSW => by go_simp⟩) hHeld ?_
                            simp only [Act.put, List.setIfInBounds_toArray, List.set_cons_zero, List.set_cons_succ]
                            refine wpAnyH_take (i := 3) (oi := ⟨some 173, _, _, _, _, _⟩) (v := .bool true) rfl (by kernel_rfl) (by kernel_rfl) (by kernel_rfl) (fun _ _ _ h => h) (Or.inl ⟨by rfl, fun W hSW => by go_simp⟩) hHeld ?_
                            simp only [Act.put, List.setIfInBounds_toArray, List.set_cons_zero, List.set_cons_succ]
                            refine wpAnyH_take (i := 4) (oi := ⟨some 174, _, _, _, _, _⟩) (v := undef) rfl (by kernel_rfl) (by kernel_rfl) (by kernel_rfl) (fun _ _ _ h => h) (Or.inr ⟨by kernel_rfl, rfl⟩) hHeld ?_
                            simp only [Act.put, List.setIfInBounds_toArray, List.set_cons_zero, List.set_cons_succ]
                            refine wpAnyH_take (i := 5) (oi := ⟨some 175, _, _, _, _, _⟩) (v := undef) rfl (by kernel_rfl) (by kernel_rfl) (by kernel_rfl) (fun _ _ _ h => h) (Or.inr ⟨by kernel_rfl, rfl⟩) hHeld ?_
                            simp only [Act.put, List.setIfInBounds_toArray, List.set_cons_zero, List.set_cons_succ]
                            refine wpAnyH_take (i := 6) (oi := ⟨some 176, _, _, _, _, _⟩) (v := undef) rfl (by kernel_rfl) (by kernel_rfl) (by kernel_rfl) (fun _ _ _ h => h) (Or.inr ⟨by kernel_rfl, rfl⟩) hHeld ?_
                            simp only [Act.put, List.setIfInBounds_toArray, List.set_cons_zero, List.set_cons_succ]
                            refine wpAnyH_take (i := 7) (oi := ⟨some 177, _, _, _, _, _⟩) (v := undef) rfl (by kernel_rfl) (by kernel_rfl) (by kernel_rfl) (fun _ _ _ h => h) (Or.inr ⟨by kernel_rfl, rfl⟩) hHeld ?_
                            simp only [Act.put, List.setIfInBounds_toArray, List.set_cons_zero, List.set_cons_succ]
                            refine wpAnyH_take (i := 8) (oi := ⟨some 178, _, _, _, _, _⟩) (v := undef) rfl (by kernel_rfl) (by kernel_rfl) (by kernel_rfl) (fun _ _ _ h => h) (Or.inr ⟨by kernel_rfl, rfl⟩) hHeld ?_
                            simp only [Act.put, List.setIfInBounds_toArray, List.set_cons_zero, List.set_cons_succ]
                            refine wpAnyH_take (i := 9) (oi := ⟨some 179, _, _, _, _, _⟩) (v := .bool true) rfl (by kernel_rfl) (by kernel_rfl) (by kernel_rfl) (fun _ _ _ h => h) (Or.inl ⟨by rfl, fun W hSW => by go_simp⟩) hHeld ?_
                            simp only [Act.put, List.setIfInBounds_toArray, List.set_cons_zero, List.set_cons_succ]
                            refine wpAnyH_take (i := 10) (oi := ⟨some 180, _, _, _, _, _⟩) (v := .bool true) rfl (by kernel_rfl) (by kernel_rfl) (by kernel_rfl) (fun _ _ _ h => h) (Or.inl ⟨by rfl, fun W hSW => by go_simp⟩) hHeld ?_
                            simp only [Act.put, List.setIfInBounds_toArray, List.set_cons_zero, List.set_cons_succ]
                            refine wpAnyH_take (i := 11) (oi := ⟨some 181, _, _, _, _, _⟩) (v := .slice (some ⟨gq, 0, none⟩) n0 cq) rfl (by kernel_rfl) (by kernel_rfl) (by kernel_rfl) (fun _ _ _ h => h) (Or.inl ⟨by rfl, fun W hSW => by go_simp⟩) hHeld ?_
                            simp only [Act.put, List.setIfInBounds_toArray, List.set_cons_zero, List.set_cons_succ]
                            refine wpAnyH_take (i := 12) (oi := ⟨some 182, _, _, _, _, _⟩) (v := .int .i64 (j : Int)) rfl (by kernel_rfl) (by kernel_rfl) (by kernel_rfl) (fun _ _ _ h => h) (Or.inl ⟨by rfl, fun W hSW => by go_simp⟩) hHeld ?_
                            simp only [Act.put, List.setIfInBounds_toArray, List.set_cons_zero, List.set_cons_succ]
                            refine wpAnyH_take (i := 13) (oi := ⟨some 183, _, _, _, _, _⟩) (v := .pointer (some ⟨gq, j, none⟩)) rfl (by kernel_rfl) (by kernel_rfl) (by kernel_rfl) (fun _ _ _ h => h) (Or.inl ⟨by rfl, fun W hSW => by go_simp⟩) hHeld ?_
                            simp only [Act.put, List.setIfInBounds_toArray, List.set_cons_zero, List.set_cons_succ]
                            refine wpAnyH_take (i := 14) (oi := ⟨some 184, _, _, _, _, _⟩) (v := .string (str y)) rfl (by kernel_rfl) (by kernel_rfl) (by kernel_rfl) (fun _ _ _ h => h) (Or.inl ⟨by rfl, fun W hSW => by have a0 := (hSW.cell (p := ⟨gq, j, none⟩) ql).trans q0; go_simp⟩) hHeld ?_
                            simp only [Act.put, List.setIfInBounds_toArray, List.set_cons_zero, List.set_cons_succ]
                            refine wpAnyH_take (i := 15) (oi := ⟨some 185, _, _, _, _, _⟩) (v := .slice (some ⟨gw, 0, none⟩) n0 cw) rfl (by kernel_rfl) (by kernel_rfl) (by kernel_rfl) (fun _ _ _ h => h) (Or.inl ⟨by rfl, fun W hSW => by go_simp⟩) hHeld ?_
                            simp only [Act.put, List.setIfInBounds_toArray, List.set_cons_zero, List.set_cons_succ]
                            refine wpAnyH_take (i := 16) (oi := ⟨some 186, _, _, _, _, _⟩) (v := .int .i64 (j : Int)) rfl (by kernel_rfl) (by kernel_rfl) (by kernel_rfl) (fun _ _ _ h => h) (Or.inl ⟨by rfl, fun W hSW => by go_simp⟩) hHeld ?_
                            simp only [Act.put, List.setIfInBounds_toArray, List.set_cons_zero, List.set_cons_succ]
                            refine wpAnyH_take (i := 17) (oi := ⟨some 187, _, _, _, _, _⟩) (v := .pointer (some ⟨gw, j, none⟩)) rfl (by kernel_rfl) (by kernel_rfl) (by kernel_rfl) (fun _ _ _ h => h) (Or.inl ⟨by rfl, fun W hSW => by go_simp⟩) hHeld ?_
                            simp only [Act.put, List.setIfInBounds_toArray, List.set_cons_zero, List.set_cons_succ]
                            refine wpAnyH_take (i := 18) (oi := ⟨some 188, _, _, _, _, _⟩) (v := .string (str y)) rfl (by kernel_rfl) (by kernel_rfl) (by kernel_rfl) (fun _ _ _ h => h) (Or.inl ⟨by rfl, fun W hSW => by have a0 := (hSW.cell (p := ⟨gw, j, none⟩) pl).trans p0; go_simp⟩) hHeld ?_
                            simp only [Act.put, List.setIfInBounds_toArray, List.set_cons_zero, List.set_cons_succ]
                            refine wpAnyH_take (i := 19) (oi := ⟨some 189, _, _, _, _, _⟩) (v := .bool false) rfl (by kernel_rfl) (by kernel_rfl) (by kernel_rfl) (fun _ _ _ h => h) (Or.inl ⟨by rfl, fun W hSW => by go_simp⟩) hHeld ?_
                            simp only [Act.put, List.setIfInBounds_toArray, List.set_cons_zero, List.set_cons_succ]
                            refine wpAnyH_take (i := 20) (oi := ⟨some 190, _, _, _, _, _⟩) (v := .bool false) rfl (by kernel_rfl) (by kernel_rfl) (by kernel_rfl) (fun _ _ _ h => h) (Or.inl ⟨by rfl, fun W hSW => by go_simp⟩) hHeld ?_
                            simp only [Act.put, List.setIfInBounds_toArray, List.set_cons_zero, List.set_cons_succ]
                            refine wpAnyH_done (by kernel_rfl) ?_ _
                            refine NoPanic.normal ?_
                            have BL2 := Lib.hid (below_t BL.out hHeld)
                            clear hHeld q0 p0 ql pl
                            go_wp2_with fail
                            go_roundw
                            case rel => exact ⟨j + 1, by first | rfl | (congr 1; omega), by omega, BL2.out⟩
                            case measure => first | (simp [RowKit.intOf]; done) | (simp [RowKit.intOf]; omega)
                          · have hlI : ¬ (j : Int) < (A : Int) := by omega
                            by_cases hhi : A + M < j
                            · have hhI : (A : Int) + (M : Int) < (j : Int) := by omega
                              have HHM := Lib.hid (CP.out.home hn131 hM60 (j := j) (by omega))
                              obtain ⟨y, hy⟩ : ∃ y, dx.now j = y := ⟨_, rfl⟩
                              have q0 : wr.cell? ⟨gq, j, none⟩ = some (.string (str y)) := by
                                have h := (O8.out.below hbr).cell (i := j) (j := 0) (sects_at hjn) rfl
                                rw [show j * encS.k + 0 = j from by show j * 1 + 0 = j; omega, hy] at h
                                exact h
                              have p0 : wr.cell? ⟨gw, j, none⟩ = some (.string (str y)) := by
                                have h := (OF8.out.below hbr).cell (i := j) (j := 0) (sects_at hjn) rfl
                                rw [show j * encS.k + 0 = j from by show j * 1 + 0 = j; omega, ← HHM.out, hy] at h
                                exact h
                              have ql : gq < wr.heap.size := ((O8.out.below hbr).ge gq rfl).2
                              have pl : gw < wr.heap.size := ((OF8.out.below hbr).ge gw rfl).2
                              clear hy hbr
                              go_wp2_with fail
                              refine wp_region_noPanic ?_
                              refine wp_region_held_drew (S := fun W => Below wr.heap.size wr W) (by kernel_rfl) ((Below.refl _ wr).drew) (fun hHeld => ?_)
                              refine wpAnyH_take (i := 0) (oi := ⟨some 170, _, _, _, _, _⟩) (v := .int .i64 (j : Int)) rfl (by kernel_rfl) (by kernel_rfl) (by kernel_rfl) (fun _ _ _ h => h) (Or.inl ⟨by rfl, fun W hSW => by go_simp⟩) hHeld ?_
                              simp only [Act.put, List.setIfInBounds_toArray, List.set_cons_zero, List.set_cons_succ]
                              refine wpAnyH_take (i := 1) (oi := ⟨some 171, _, _, _, _, _⟩) (v := .int .i64 (A : Int)) rfl (by kernel_rfl) (by kernel_rfl) (by kernel_rfl) (fun _ _ _ h => h) (Or.inl ⟨by rfl, fun W hSW => by go_simp⟩) hHeld ?_
                              simp only [Act.put, List.setIfInBounds_toArray, List.set_cons_zero, List.set_cons_succ]
                              refine wpAnyH_take (i := 2) (oi := ⟨some 172, _, _, _, _, _⟩) (v := .bool false) rfl (by kernel_rfl) (by kernel_rfl) (by kernel_rfl) (fun _ _ _ h => h) (Or.inl ⟨by rfl, fun W hSW => by go_simp⟩) hHeld ?_
                              simp only [Act.put, List.setIfInBounds_toArray, List.set_cons_zero, List.set_cons_succ]
                              refine wpAnyH_take (i := 3) (oi := ⟨some 173, _, _, _, _, _⟩) (v := .bool false) rfl (by kernel_rfl) (by kernel_rfl) (by kernel_rfl) (fun _ _ _ h => h) (Or.inl ⟨by rfl, fun W hSW => by go_simp⟩) hHeld ?_
                              simp only [Act.put, List.setIfInBounds_toArray, List.set_cons_zero, List.set_cons_succ]
                              refine wpAnyH_take (i := 4) (oi := ⟨some 174, _, _, _, _, _⟩) (v := .int .i64 (j : Int)) rfl (by kernel_rfl) (by kernel_rfl) (by kernel_rfl) (fun _ _ _ h => h) (Or.inl ⟨by rfl, fun W hSW => by go_simp⟩) hHeld ?_
                              simp only [Act.put, List.setIfInBounds_toArray, List.set_cons_zero, List.set_cons_succ]
                              refine wpAnyH_take (i := 5) (oi := ⟨some 175, _, _, _, _, _⟩) (v := .int .i64 (A : Int)) rfl (by kernel_rfl) (by kernel_rfl) (by kernel_rfl) (fun _ _ _ h => h) (Or.inl ⟨by rfl, fun W hSW => by go_simp⟩) hHeld ?_
                              simp only [Act.put, List.setIfInBounds_toArray, List.set_cons_zero, List.set_cons_succ]
                              refine wpAnyH_take (i := 6) (oi := ⟨some 176, _, _, _, _, _⟩) (v := .int .i64 (M : Int)) rfl (by kernel_rfl) (by kernel_rfl) (by kernel_rfl) (fun _ _ _ h => h) (Or.inl ⟨by rfl, fun W hSW => by go_simp⟩) hHeld ?_
                              simp only [Act.put, List.setIfInBounds_toArray, List.set_cons_zero, List.set_cons_succ]
                              refine wpAnyH_take (i := 7) (oi := ⟨some 177, _, _, _, _, _⟩) (v := .int .i64 ((A : Int) + (M : Int))) rfl (by kernel_rfl) (by kernel_rfl) (by kernel_rfl) (fun _ _ _ h => h) (Or.inl ⟨by rfl, fun W hSW => by go_simp; first | done | exact wrS (by omega) (by omega)⟩) hHeld ?_
                              simp only [Act.put, List.setIfInBounds_toArray, List.set_cons_zero, List.set_cons_succ]
                              refine wpAnyH_take (i := 8) (oi := ⟨some 178, _, _, _, _, _⟩) (v := .bool true) rfl (by kernel_rfl) (by kernel_rfl) (by kernel_rfl) (fun _ _ _ h => h) (Or.inl ⟨by rfl, fun W hSW => by go_simp⟩) hHeld ?_
                              simp only [Act.put, List.setIfInBounds_toArray, List.set_cons_zero, List.set_cons_succ]
                              refine wpAnyH_take (i := 9) (oi := ⟨some 179, _, _, _, _, _⟩) (v := .bool true) rfl (by kernel_rfl) (by kernel_rfl) (by kernel_rfl) (fun _ _ _ h => h) (Or.inl ⟨by rfl, fun W hSW => by go_simp⟩) hHeld ?_
                              simp only [Act.put, List.setIfInBounds_toArray, List.set_cons_zero, List.set_cons_succ]
                              refine wpAnyH_take (i := 10) (oi := ⟨some 180, _, _, _, _, _⟩) (v := .bool true) rfl (by kernel_rfl) (by kernel_rfl) (by kernel_rfl) (fun _ _ _ h => h) (Or.inl ⟨by rfl, fun W hSW => by go_simp⟩) hHeld ?_
                              simp only [Act.put, List.setIfInBounds_toArray, List.set_cons_zero, List.set_cons_succ]
                              refine wpAnyH_take (i := 11) (oi := ⟨some 181, _, _, _, _, _⟩) (v := .slice (some ⟨gq, 0, none⟩) n0 cq) rfl (by kernel_rfl) (by kernel_rfl) (by kernel_rfl) (fun _ _ _ h => h) (Or.inl ⟨by rfl, fun W hSW => by go_simp⟩) hHeld ?_
                              simp only [Act.put, List.setIfInBounds_toArray, List.set_cons_zero, List.set_cons_succ]
                              refine wpAnyH_take (i := 12) (oi := ⟨some 182, _, _, _, _, _⟩) (v := .int .i64 (j : Int)) rfl (by kernel_rfl) (by kernel_rfl) (by kernel_rfl) (fun _ _ _ h => h) (Or.inl ⟨by rfl, fun W hSW => by go_simp⟩) hHeld ?_
                              simp only [Act.put, List.setIfInBounds_toArray, List.set_cons_zero, List.set_cons_succ]
                              refine wpAnyH_take (i := 13) (oi := ⟨some 183, _, _, _, _, _⟩) (v := .pointer (some ⟨gq, j, none⟩)) rfl (by kernel_rfl) (by kernel_rfl) (by kernel_rfl) (fun _ _ _ h => h) (Or.inl ⟨by rfl, fun W hSW => by go_simp⟩) hHeld ?_
                              simp only [Act.put, List.setIfInBounds_toArray, List.set_cons_zero, List.set_cons_succ]
                              refine wpAnyH_take (i := 14) (oi := ⟨some 184, _, _, _, _, _⟩) (v := .string (str y)) rfl (by kernel_rfl) (by kernel_rfl) (by kernel_rfl) (fun _ _ _ h => h) (Or.inl ⟨by rfl, fun W hSW => by have a0 := (hSW.cell (p := ⟨gq, j, none⟩) ql).trans q0; go_simp⟩) hHeld ?_
                              simp only [Act.put, List.setIfInBounds_toArray, List.set_cons_zero, List.set_cons_succ]
                              refine wpAnyH_take (i := 15) (oi := ⟨some 185, _, _, _, _, _⟩) (v := .slice (some ⟨gw, 0, none⟩) n0 cw) rfl (by kernel_rfl) (by kernel_rfl) (by kernel_rfl) (fun _ _ _ h => h) (Or.inl ⟨by rfl, fun W hSW => by go_simp⟩) hHeld ?_
                              simp only [Act.put, List.setIfInBounds_toArray, List.set_cons_zero, List.set_cons_succ]
                              refine wpAnyH_take (i := 16) (oi := ⟨some 186, _, _, _, _, _⟩) (v := .int .i64 (j : Int)) rfl (by kernel_rfl) (by kernel_rfl) (by kernel_rfl) (fun _ _ _ h => h) (Or.inl ⟨by rfl, fun W hSW => by go_simp⟩) hHeld ?_
                              simp only [Act.put, List.setIfInBounds_toArray, List.set_cons_zero, List.set_cons_succ]
                              refine wpAnyH_take (i := 17) (oi := ⟨some 187, _, _, _, _, _⟩) (v := .pointer (some ⟨gw, j, none⟩)) rfl (by kernel_rfl) (by kernel_rfl) (by kernel_rfl) (fun _ _ _ h => h) (Or.inl ⟨by rfl, fun W hSW => by go_simp⟩) hHeld ?_
                              simp only [Act.put, List.setIfInBounds_toArray, List.set_cons_zero, List.set_cons_succ]
                              refine wpAnyH_take (i := 18) (oi := ⟨some 188, _, _, _, _, _⟩) (v := .string (str y)) rfl (by kernel_rfl) (by kernel_rfl) (by kernel_rfl) (fun _ _ _ h => h) (Or.inl ⟨by rfl, fun W hSW => by have a0 := (hSW.cell (p := ⟨gw, j, none⟩) pl).trans p0; go_simp⟩) hHeld ?_
                              simp only [Act.put, List.setIfInBounds_toArray, List.set_cons_zero, List.set_cons_succ]
                              refine wpAnyH_take (i := 19) (oi := ⟨some 189, _, _, _, _, _⟩) (v := .bool false) rfl (by kernel_rfl) (by kernel_rfl) (by kernel_rfl) (fun _ _ _ h => h) (Or.inl ⟨by rfl, fun W hSW => by go_simp⟩) hHeld ?_
                              simp only [Act.put, List.setIfInBounds_toArray, List.set_cons_zero, List.set_cons_succ]
                              refine wpAnyH_take (i := 20) (oi := ⟨some 190, _, _, _, _, _⟩) (v := .bool false) rfl (by kernel_rfl) (by kernel_rfl) (by kernel_rfl) (fun _ _ _ h => h) (Or.inl ⟨by rfl, fun W hSW => by go_simp⟩) hHeld ?_
                              simp only [Act.put, List.setIfInBounds_toArray, List.set_cons_zero, List.set_cons_succ]
                              refine wpAnyH_done (by kernel_rfl) ?_ _
                              refine NoPanic.normal ?_
                              have BL2 := Lib.hid (below_t BL.out hHeld)
                              clear hHeld q0 p0 ql pl
                              go_wp2_with fail
                              go_roundw
                              case rel => exact ⟨j + 1, by first | rfl | (congr 1; omega), by omega, BL2.out⟩
                              case measure => first | (simp [RowKit.intOf]; done) | (simp [RowKit.intOf]; omega)
                            · have hhI : ¬ (A : Int) + (M : Int) < (j : Int) := by omega
                              clear hbr
                              go_wp2_with fail
                              refine wp_region_noPanic ?_
                              refine wp_region_held_drew (S := fun W => Below wr.heap.size wr W) (by kernel_rfl) ((Below.refl _ wr).drew) (fun hHeld => ?_)
                              refine wpAnyH_take (i := 0) (oi := ⟨some 170, _, _, _, _, _⟩) (v := .int .i64 (j : Int)) rfl (by kernel_rfl) (by kernel_rfl) (by kernel_rfl) (fun _ _ _ h => h) (Or.inl ⟨by rfl, fun W hSW => by go_simp⟩) hHeld ?_
                              simp only [Act.put, List.setIfInBounds_toArray, List.set_cons_zero, List.set_cons_succ]
                              refine wpAnyH_take (i := 1) (oi := ⟨some 171, _, _, _, _, _⟩) (v := .int .i64 (A : Int)) rfl (by kernel_rfl) (by kernel_rfl) (by kernel_rfl) (fun _ _ _ h => h) (Or.inl ⟨by rfl, fun W hSW => by go_simp⟩) hHeld ?_
                              simp only [Act.put, List.setIfInBounds_toArray, List.set_cons_zero, List.set_cons_succ]
                              refine wpAnyH_take (i := 2) (oi := ⟨some 172, _, _, _, _, _⟩) (v := .bool false) rfl (by kernel_rfl) (by kernel_rfl) (by kernel_rfl) (fun _ _ _ h => h) (Or.inl ⟨by rfl, fun W hSW => by go_simp⟩) hHeld ?_
                              simp only [Act.put, List.setIfInBounds_toArray, List.set_cons_zero, List.set_cons_succ]
                              refine wpAnyH_take (i := 3) (oi := ⟨some 173, _, _, _, _, _⟩) (v := .bool false) rfl (by kernel_rfl) (by kernel_rfl) (by kernel_rfl) (fun _ _ _ h => h) (Or.inl ⟨by rfl, fun W hSW => by go_simp⟩) hHeld ?_
                              simp only [Act.put, List.setIfInBounds_toArray, List.set_cons_zero, List.set_cons_succ]
                              refine wpAnyH_take (i := 4) (oi := ⟨some 174, _, _, _, _, _⟩) (v := .int .i64 (j : Int)) rfl (by kernel_rfl) (by kernel_rfl) (by kernel_rfl) (fun _ _ _ h => h) (Or.inl ⟨by rfl, fun W hSW => by go_simp⟩) hHeld ?_
                              simp only [Act.put, List.setIfInBounds_toArray, List.set_cons_zero, List.set_cons_succ]
                              refine wpAnyH_take (i := 5) (oi := ⟨some 175, _, _, _, _, _⟩) (v := .int .i64 (A : Int)) rfl (by kernel_rfl) (by kernel_rfl) (by kernel_rfl) (fun _ _ _ h => h) (Or.inl ⟨by rfl, fun W hSW => by go_simp⟩) hHeld ?_
                              simp only [Act.put, List.setIfInBounds_toArray, List.set_cons_zero, List.set_cons_succ]
                              refine wpAnyH_take (i := 6) (oi := ⟨some 176, _, _, _, _, _⟩) (v := .int .i64 (M : Int)) rfl (by kernel_rfl) (by kernel_rfl) (by kernel_rfl) (fun _ _ _ h => h) (Or.inl ⟨by rfl, fun W hSW => by go_simp⟩) hHeld ?_
                              simp only [Act.put, List.setIfInBounds_toArray, List.set_cons_zero, List.set_cons_succ]
                              refine wpAnyH_take (i := 7) (oi := ⟨some 177, _, _, _, _, _⟩) (v := .int .i64 ((A : Int) + (M : Int))) rfl (by kernel_rfl) (by kernel_rfl) (by kernel_rfl) (fun _ _ _ h => h) (Or.inl ⟨by rfl, fun W hSW => by go_simp; first | done | exact wrS (by omega) (by omega)⟩) hHeld ?_
                              simp only [Act.put, List.setIfInBounds_toArray, List.set_cons_zero, List.set_cons_succ]
                              refine wpAnyH_take (i := 8) (oi := ⟨some 178, _, _, _, _, _⟩) (v := .bool false) rfl (by kernel_rfl) (by kernel_rfl) (by kernel_rfl) (fun _ _ _ h => h) (Or.inl ⟨by rfl, fun W hSW => by go_simp⟩) hHeld ?_
                              simp only [Act.put, List.setIfInBounds_toArray, List.set_cons_zero, List.set_cons_succ]
                              refine wpAnyH_take (i := 9) (oi := ⟨some 179, _, _, _, _, _⟩) (v := .bool false) rfl (by kernel_rfl) (by kernel_rfl) (by kernel_rfl) (fun _ _ _ h => h) (Or.inl ⟨by rfl, fun W hSW => by go_simp⟩) hHeld ?_
                              simp only [Act.put, List.setIfInBounds_toArray, List.set_cons_zero, List.set_cons_succ]
                              refine wpAnyH_take (i := 10) (oi := ⟨some 180, _, _, _, _, _⟩) (v := .bool false) rfl (by kernel_rfl) (by kernel_rfl) (by kernel_rfl) (fun _ _ _ h => h) (Or.inl ⟨by rfl, fun W hSW => by go_simp⟩) hHeld ?_
                              simp only [Act.put, List.setIfInBounds_toArray, List.set_cons_zero, List.set_cons_succ]
                              refine wpAnyH_take (i := 11) (oi := ⟨some 181, _, _, _, _, _⟩) (v := undef) rfl (by kernel_rfl) (by kernel_rfl) (by kernel_rfl) (fun _ _ _ h => h) (Or.inr ⟨by kernel_rfl, rfl⟩) hHeld ?_
                              simp only [Act.put, List.setIfInBounds_toArray, List.set_cons_zero, List.set_cons_succ]
                              refine wpAnyH_take (i := 12) (oi := ⟨some 182, _, _, _, _, _⟩) (v := undef) rfl (by kernel_rfl) (by kernel_rfl) (by kernel_rfl) (fun _ _ _ h => h) (Or.inr ⟨by kernel_rfl, rfl⟩) hHeld ?_
                              simp only [Act.put, List.setIfInBounds_toArray, List.set_cons_zero, List.set_cons_succ]
                              refine wpAnyH_take (i := 13) (oi := ⟨some 183, _, _, _, _, _⟩) (v := undef) rfl (by kernel_rfl) (by kernel_rfl) (by kernel_rfl) (fun _ _ _ h => h) (Or.inr ⟨by kernel_rfl, rfl⟩) hHeld ?_
                              simp only [Act.put, List.setIfInBounds_toArray, List.set_cons_zero, List.set_cons_succ]
                              refine wpAnyH_take (i := 14) (oi := ⟨some 184, _, _, _, _, _⟩) (v := undef) rfl (by kernel_rfl) (by kernel_rfl) (by kernel_rfl) (fun _ _ _ h => h) (Or.inr ⟨by kernel_rfl, rfl⟩) hHeld ?_
                              simp only [Act.put, List.setIfInBounds_toArray, List.set_cons_zero, List.set_cons_succ]
                              refine wpAnyH_take (i := 15) (oi := ⟨some 185, _, _, _, _, _⟩) (v := undef) rfl (by kernel_rfl) (by kernel_rfl) (by kernel_rfl) (fun _ _ _ h => h) (Or.inr ⟨by kernel_rfl, rfl⟩) hHeld ?_
                              simp only [Act.put, List.setIfInBounds_toArray, List.set_cons_zero, List.set_cons_succ]
                              refine wpAnyH_take (i := 16) (oi := ⟨some 186, _, _, _, _, _⟩) (v := undef) rfl (by kernel_rfl) (by kernel_rfl) (by kernel_rfl) (fun _ _ _ h => h) (Or.inr ⟨by kernel_rfl, rfl⟩) hHeld ?_
                              simp only [Act.put, List.setIfInBounds_toArray, List.set_cons_zero, List.set_cons_succ]
                              refine wpAnyH_take (i := 17) (oi := ⟨some 187, _, _, _, _, _⟩) (v := undef) rfl (by kernel_rfl) (by kernel_rfl) (by kernel_rfl) (fun _ _ _ h => h) (Or.inr ⟨by kernel_rfl, rfl⟩) hHeld ?_
                              simp only [Act.put, List.setIfInBounds_toArray, List.set_cons_zero, List.set_cons_succ]
                              refine wpAnyH_take (i := 18) (oi := ⟨some 188, _, _, _, _, _⟩) (v := undef) rfl (by kernel_rfl) (by kernel_rfl) (by kernel_rfl) (fun _ _ _ h => h) (Or.inr ⟨by kernel_rfl, rfl⟩) hHeld ?_
                              simp only [Act.put, List.setIfInBounds_toArray, List.set_cons_zero, List.set_cons_succ]
                              refine wpAnyH_take (i := 19) (oi := ⟨some 189, _, _, _, _, _⟩) (v := undef) rfl (by kernel_rfl) (by kernel_rfl) (by kernel_rfl) (fun _ _ _ h => h) (Or.inr ⟨by kernel_rfl, rfl⟩) hHeld ?_
                              simp only [Act.put, List.setIfInBounds_toArray, List.set_cons_zero, List.set_cons_succ]
                              refine wpAnyH_take (i := 20) (oi := ⟨some 190, _, _, _, _, _⟩) (v := .bool false) rfl (by kernel_rfl) (by kernel_rfl) (by kernel_rfl) (fun _ _ _ h => h) (Or.inl ⟨by rfl, fun W hSW => by go_simp⟩) hHeld ?_
                              simp only [Act.put, List.setIfInBounds_toArray, List.set_cons_zero, List.set_cons_succ]
                              refine wpAnyH_done (by kernel_rfl) ?_ _
                              refine NoPanic.normal ?_
                              have BL2 := Lib.hid (below_t BL.out hHeld)
                              clear hHeld
                              go_wp2_with fail
                              go_roundw
                              case rel => exact ⟨j + 1, by first | rfl | (congr 1; omega), by omega, BL2.out⟩
                              case measure => first | (simp [RowKit.intOf]; done) | (simp [RowKit.intOf]; omega)
                        · have hjI : ¬ (j : Int) < (n0 : Int) := by omega
                          have BX := Lib.hid (below_t B8.out hbr)
                          have QX := Lib.hid (Q8.out.below hbr)
                          have HST := Lib.hid (show recB dx (A : Int) (M : Int) = false ∧ recD dx (A : Int) (M : Int) = dx by
                            have hg2 := rec_good (d := dx) (a := A) (m := M) (by rw [CP.out.n]; exact HOE.out)
                            have hnone : standJ dx.n A M dx.now = [] := by rw [CP.out.n]; exact CP.out.none hn131 hM60
                            rw [hnone] at hg2
                            exact ⟨hg2.2, hg2.1.trans (adds_nil _)⟩)
                          have HOX := Lib.hid (show openE dx.n (A : Int) (M : Int) = 0 by rw [CP.out.n]; exact HOE.out)
                          have hlx := CP.out.len
                          clear hbr
                          go_wp2_with fail
                          refine (Recover_c (HT.out.below BX.out) QX.out (by omega) HST.out.1 HST.out.2 HOX.out).mono ?_
                          rintro e w9 ⟨rfl, S9, hq9, hf9, hn9⟩
                          have BY := Lib.hid (BX.out.trans (QX.out.toBelow hf9))
                          clear hq9 hf9 hn9
                          go_wp2_with fail
                          refine (awake_c (HT.out.below (BY.out))).mono ?_
                          rintro e wz ⟨rfl, hbz⟩
                          have BZ := Lib.hid (below_t (BY.out) hbz)
                          clear hbz
                          go_wp2_with fail
                          go_ret
                          exact ⟨rfl, BZ.out⟩
          · have hzB : (z2 == 0) = false := by simp [hz20]
            have HD60 := Lib.hid (show d6 = d0 from HD6.out.symm.trans (if_neg (by rw [HZ2.out]; exact hz20)))
            rw [HD60.out] at Q6
            go_wp2_with fail
            refine (Writes_c Q6.out).mono ?_
            rintro e w7 ⟨rfl, hw⟩
            obtain rfl := hw.symm
            rw [hwl]
            go_wp2_with fail
            refine (awake_c (HT.out.below (B6.out))).mono ?_
            rintro e wz ⟨rfl, hbz⟩
            have BZ := Lib.hid (below_t (B6.out) hbz)
            clear hbz
            go_wp2_with fail
            go_ret
            exact ⟨rfl, BZ.out⟩
      · have hzB : (z == 0) = false := by simp [hz0]
        go_wp2_with fail
        refine (awake_c (HT.out.below (B5.out))).mono ?_
        rintro e wz ⟨rfl, hbz⟩
        have BZ := Lib.hid (below_t (B5.out) hbz)
        clear hbz
        go_wp2_with fail
        go_ret
        exact ⟨rfl, BZ.out⟩
end JouW
end Go.Proofs.YtknckaegpdganaaDoor
