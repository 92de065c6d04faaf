/-
  JournalPuts.
-/
import Derived.Test.YtknckaegpdganaaDoorJouLaw
import Derived.Test.YtknckaegpdganaaDoorJouRPut
import Derived.Test.YtknckaegpdganaaDoorJouSame
namespace Go.Proofs.YtknckaegpdganaaDoor
-- mine: whole_c same_c awake_c take_c step_c back_c
open Go.RowKit
set_option linter.unusedVariables false
set_option linter.unusedSimpArgs false
set_option maxRecDepth 100000
namespace JouW
open BlkP RowG FrS PushG JournalP SecP SecW JouP CrcW
theorem putWs_len {a : Nat} {f : Nat → Sec} {g : Grp} (h : g.length ≤ 60) : (putWs a f g).length ≤ 123 := by
  unfold putWs
  split
  · simp
  · have h1 : (preJ a f).length ≤ 1 := by
      unfold preJ
      split <;> simp
    have h2 : (pads g).length = g.length := List.length_map ..
    simp only [List.length_append, List.length_cons, List.length_nil, bods_len, homes, h2]
    omega
theorem putD_len {d : Dk} {a m : Int} {L : List (Int × Sec)} : (putD d a m L).ws.length ≤ d.ws.length + 123 := by
  unfold putD
  split
  · rename_i h
    have h1 : openE d.n a m = 0 := by
      unfold putE at h
      split at h
      · assumption
      · rename_i q
        exact absurd h q
    have h2 := open_fine h1
    unfold putE at h
    rw [h1, if_pos rfl] at h
    have h3 := (check_fits h).1.le
    have := putWs_len (a := a.toNat) (f := d.now) (g := natG L) (by omega)
    rw [adds_len]
    omega
  · omega
set_option maxHeartbeats 16000000 in
theorem law_puts {w : World} {A1 A2 : Option Addr} {n1 c1 n2 c2 : Nat} {L G : List (Int × Sec)} {x a m : Int} (hT : Tab w) (hL : Rd encL w (.slice A1 n1 c1) L) (hn1 : L.length = n1) (hG : Rd encL w (.slice A2 n2 c2) G) (hn2 : G.length = n2) :
    Calls Tryd.prog 3 #[.int .i64 x, .slice A1 n1 c1, .int .i64 a, .int .i64 m, .slice A2 n2 c2] w fun e w' => e = .returned (.bool true) ∧ Below w.heap.size w w' := by
  have HT := Lib.hid hT
  have hg := hT.size
  have HL := Lib.hid hL
  have HG := Lib.hid hG
  have HN1 := Lib.hid hn1
  have HN2 := Lib.hid hn2
  clear hT hL hG hn1 hn2
  go_enter Tryd.func3, Tryd.ntmps3
  go_wp2_with fail
  refine (short_c HL.out HN1.out).mono ?_
  rintro e w1 ⟨⟨r1, rfl, hr1⟩, hw⟩
  obtain rfl := hw
  cases r1 with
  | false =>
    go_wp2_with fail
    refine (awake_c HT.out).mono ?_
    rintro e w2 ⟨rfl, hb2⟩
    have B2 := Lib.hid hb2
    clear hb2
    go_wp2_with fail
    go_ret
    exact ⟨rfl, B2.out⟩
  | true =>
    have h1 := hr1 rfl
    clear hr1
    go_wp2_with fail
    refine (short_c HG.out HN2.out).mono ?_
    rintro e w2 ⟨⟨r2, rfl, hr2⟩, hw⟩
    obtain rfl := hw
    cases r2 with
    | false =>
      go_wp2_with fail
      refine (awake_c HT.out).mono ?_
      rintro e w3 ⟨rfl, hb3⟩
      have B3 := Lib.hid hb3
      clear hb3
      go_wp2_with fail
      go_ret
      exact ⟨rfl, B3.out⟩
    | true =>
      have h2 := hr2 rfl
      clear hr2
      go_wp2_with fail
      refine (disks_c HL.out HN1.out h1).mono ?_
      rintro e w3 ⟨pd, pq, S, T, rfl, hq, ht, hdj, hb⟩
      have Q3 := Lib.hid hq
      have T3 := Lib.hid ht
      have D3 := Lib.hid hdj
      have B3 := Lib.hid hb
      have hz3 := hb.size
      obtain ⟨d0, hd0⟩ : ∃ d0, oldD x L = d0 := ⟨_, rfl⟩
      have hws : d0.ws.length = 0 := by rw [← hd0, oldD_ws]; rfl
      rw [hd0] at Q3 T3
      clear hq ht hdj hb hd0
      go_wp2_with ((with_reducible refine at_slot 37 ?_); refine Classical.byContradiction (fun hG => ?_))
      refine hG ?_
      clear hG
      refine RowE.wp_appE tyL rfl (.tmp 35) (.tmp 36) rfl (B := w3.heap.size) (l0 := []) rfl rfl own_madeL (HG.out.below (B3.out.alloc hz3 _)) (by simp; omega) (by simp; omega) (by simp) ?_
      intro v5 w5 ho5 hg5 _
      have B5 := Lib.hid (show Below w3.heap.size w3 w5 from ((Below.refl _ w3).alloc (Nat.le_refl _) _).grown hg5 (by simp) (fun k hk => by
        have hk' : (Value.slice (some ⟨w3.heap.size, 0, none⟩) 0 0).ownBlock = some k := hk
        have : w3.heap.size = k := by simpa [Value.ownBlock] using hk'
        omega))
      rw [List.nil_append] at ho5
      have O5 := Lib.hid ho5
      obtain ⟨A5, c5, hv5, _, _, hA5⟩ := ho5.form HN2.out
      subst hv5
      have HO5 := Lib.hid ho5.ge
      have BW5 := Lib.hid (below_t B3.out B5.out)
      have Q5 := Lib.hid (Q3.out.below B5.out)
      have T5 := Lib.hid (T3.out.below B5.out)
      obtain ⟨z, hz⟩ : ∃ z, putE d0 a m G = z := ⟨_, rfl⟩
      obtain ⟨d5, hd5⟩ : ∃ d5, putD d0 a m G = d5 := ⟨_, rfl⟩
      have HZ := Lib.hid hz
      have HD5 := Lib.hid hd5
      have HLD := Lib.hid (show d5.ws.length ≤ 200 by
        have := putD_len (d := d0) (a := a) (m := m) (L := G)
        rw [← hd5]
        omega)
      clear ho5 hg5 hA5 hz hd5
      go_wp2_with fail
      refine (Put_c (HT.out.below BW5.out) hg Q5.out (by omega) O5.out.rd HN2.out (fun _ g hg2 q => by
        have := (HO5.out g hg2).1
        have := (Q3.out.ge q).2
        omega) HZ.out HD5.out).mono ?_
      rintro e w6 ⟨rfl, S6, hq6, hf6, hn6⟩
      have Q6 := Lib.hid hq6
      have BW6 := Lib.hid (BW5.out.trans (Q5.out.toBelow hf6))
      have T6 := Lib.hid (T5.out.fr hf6 D3.out)
      have D6 := Lib.hid (show ∀ k, T k → ¬ S6 k from apart_turned (w := w5) (fun k hk => (T5.out.ge hk).2) D3.out hn6)
      have O6 := Lib.hid (hf6.own O5.out (fun g hg2 q => by
        have := (HO5.out g hg2).1
        have := (Q3.out.ge q).2
        omega))
      have HO6 := Lib.hid (show ∀ g, (Value.slice A5 n2 c5).ownBlock = some g → ¬ T g from fun g hg2 q => by
        have := (HO5.out g hg2).1
        have := (T3.out.ge q).2
        omega)
      clear hq6 hf6 hn6
      go_wp2_with fail
      refine (rPut_c T6.out (by omega) (HG.out.below BW6.out) HN2.out (fun h0 g hg2 q => by
        obtain ⟨y, hy⟩ : ∃ y, G[0]? = some y := ⟨_, List.getElem?_eq_getElem (by rw [HN2.out]; exact h0)⟩
        obtain ⟨b, o, rfl, hlt, _⟩ := HG.out.at hy
        have hg' : b = g := by simpa [Value.ownBlock] using hg2
        have := (T6.out.ge q).1
        omega) HZ.out HD5.out).mono ?_
      rintro e w7 ⟨rfl, T7, hq7, hf7, hn7⟩
      have TT7 := Lib.hid hq7
      have BW7 := Lib.hid (BW6.out.trans (T6.out.toBelow hf7))
      have Q7 := Lib.hid (Q6.out.fr hf7 (fun k h1 h2 => D6.out k h2 h1))
      have O7 := Lib.hid (hf7.own O6.out HO6.out)
      clear hq7 hf7 hn7
      go_wp2_with fail
      refine (Log_c Q7.out (by have := HLD.out; omega)).mono ?_
      rintro e w8 ⟨v8, rfl, ho8, hb8⟩
      have L8 := Lib.hid ho8
      have BW8 := Lib.hid (below_t BW7.out hb8)
      have T8 := Lib.hid (TT7.out.below hb8)
      have O8 := Lib.hid (O7.out.below hb8)
      clear ho8 hb8
      go_wp2_with fail
      refine (rLog_c T8.out (by omega)).mono ?_
      rintro e w9 ⟨v9, rfl, ho9, hb9⟩
      have M9 := Lib.hid ho9
      have L9 := Lib.hid (L8.out.below hb9)
      have BW9 := Lib.hid (below_t BW8.out hb9)
      have O9 := Lib.hid (O8.out.below hb9)
      clear ho9 hb9
      go_wp2_with fail
      refine (Same_c L9.out M9.out).mono ?_
      rintro e w10 ⟨rfl, hb10⟩
      have BW10 := Lib.hid (below_t BW9.out hb10)
      have O10 := Lib.hid (O9.out.below hb10)
      clear hb10
      go_wp2_with fail
      refine (SameR_c O10.out.rd (HG.out.below BW10.out) HN2.out).mono ?_
      rintro e w11 ⟨rfl, hb11⟩
      have BW11 := Lib.hid (below_t BW10.out hb11)
      clear hb11
      go_wp2_with fail
      refine Size_c.mono ?_
      rintro e w12 ⟨rfl, hw⟩
      obtain rfl := hw.symm
      go_wp2_with fail
      refine rSize_c.mono ?_
      rintro e w13 ⟨rfl, hw⟩
      obtain rfl := hw.symm
      go_wp2_with fail
      refine (awake_c (HT.out.below BW11.out)).mono ?_
      rintro e w14 ⟨rfl, hb14⟩
      have BW14 := Lib.hid (below_t BW11.out hb14)
      clear hb14
      go_wp2_with fail
      go_ret
      exact ⟨rfl, BW14.out⟩
end JouW
end Go.Proofs.YtknckaegpdganaaDoor
