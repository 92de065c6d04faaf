/-
  FreemapBack: a map is what its homes say, and goes its own way.
-/
import Derived.Test.YtbnkaeigabifhaaDoorFreeLaw
import Derived.Test.YtbnkaeigabifhaaDoorFreeEq
-- mine: whole_c same_c awake_c take_c step_c back_c Made number_c next_c fixed_c clone_c int_c end_c put_c
namespace Go.Proofs.YtbnkaeigabifhaaDoor
open Go.RowKit
set_option linter.unusedVariables false
set_option linter.unusedSimpArgs false
set_option maxRecDepth 100000
namespace FreW
open BlkP RowG FrS PushG FreP
open CrcW (Tab)
theorem of_some {w : World} {n : Nat} {l : List (List UInt8)} {L : List Bool} (h : ofM n l = some L) : ∀ e w', OfP w n l e w' → ∃ p, e = .returned (.tuple #[.pointer (some ⟨p, 0, none⟩), .int .i64 0]) ∧ ∃ S, Mp w' w.heap.size p n L S ∧ Below w.heap.size w w' := fun e w' q => by
  rcases q with ⟨L', p, h1, h2, S, h3, h4⟩ | ⟨h1, _⟩
  · rw [h] at h1
    injection h1 with h1
    subst h1
    exact ⟨p, h2, S, h3, h4⟩
  · rw [h] at h1
    cases h1
set_option maxHeartbeats 1000000 in
theorem law_back {w : World} {n : Int} {k : Int} {A : Option Addr} {m c : Nat} {l : List Int} (hZ : TabZ w) (hC : Tab w) (hR : Rd RowG.encI w (.slice A m c) l) (hm : l.length = m) : Calls Tryd.prog 8 #[.int .i64 n, .slice A m c, .int .i64 k] w fun e w' => e = .returned (.bool true) ∧ Below w.heap.size w w' := by
  have HTZ := Lib.hid hZ
  have HTC := Lib.hid hC
  have HRD := Lib.hid hR
  have HL := Lib.hid hm
  have B := Lib.hid (Below.refl w.heap.size w)
  clear hZ hC hR hm
  cases hn : isM n
  · have HN := Lib.hid hn
    clear hn
    go_enter Tryd.func8, Tryd.ntmps8
    go_wp2_with fail
    go_at_call 34
    refine (kept_no HN.out).mono ?_
    rintro e x1 ⟨rfl, hw⟩
    obtain rfl := hw.symm
    go_wp2_with fail
    go_at_call 15
    refine (works_c (HTZ.out.below B.out)).mono ?_
    rintro e x2 ⟨rfl, hb⟩
    have B' := Lib.hid (B.out.trans (hb.mono B.out.size))
    clear hb
    clear B
    have B := B'
    clear B'
    go_wp2_with fail
    go_ret
    exact ⟨rfl, B.out⟩
  · obtain ⟨lo, hi⟩ := isM_iff.1 hn
    clear hn
    obtain ⟨N, rfl⟩ := Int.eq_ofNat_of_zero_le (show 0 ≤ n by omega)
    have hlo : 256 ≤ N := by omega
    have hhi : N ≤ 131072 := by omega
    go_enter Tryd.func8, Tryd.ntmps8
    go_wp2_with fail
    go_at_call 34
    refine (kept_i hlo hhi HRD.out HL.out).mono ?_
    rintro e x1 ⟨p, L, rfl, S, hq, hb⟩
    have M := Lib.hid (hq.mono (B' := w.heap.size) B.out.size)
    clear hq
    have B' := Lib.hid (B.out.trans (hb.mono B.out.size))
    clear hb
    clear B
    have B := B'
    clear B'
    have HLN := Lib.hid M.out.len
    go_wp2_with fail
    go_at_call 29
    refine (Homes_i M.out (HTC.out.below B.out)).mono ?_
    rintro e x2 ⟨_, rfl, ho, hb⟩
    obtain ⟨Au, cu, rfl, hcu, hmu, _⟩ := ho.form (n := FreP.hs N) (by rw [homes_len, HLN.out])
    have DUM := Lib.hid (row_made ho (fun k hk => (M.out.ge hk).2))
    have U := Lib.hid (ho.mono B.out.size)
    clear ho
    have M' := Lib.hid (M.out.below hb)
    have B' := Lib.hid (B.out.trans (hb.mono B.out.size))
    clear hb
    clear M B
    have M := M'
    have B := B'
    clear M' B'
    have HOF : Hid (ofM N (homes L) = some L) := Lib.hid (by have := of_homes L; rwa [HLN.out] at this)
    go_wp2_with fail
    go_at_call 32
    refine ((Of_i hlo hhi (HTC.out.below B.out) U.out.rd (by rw [homes_len, HLN.out])).mono (of_some HOF.out)).mono ?_
    rintro e x3 ⟨p2, rfl, S2, hq, hb⟩
    have DMQ := Lib.hid (show ∀ k, S k → ¬ S2 k from apart_new (w := x2) (fun k hk => (M.out.ge hk).2) (fun k hk => (hq.ge hk).1))
    have DQM := Lib.hid (show ∀ k, S2 k → ¬ S k from fun k h1 h2 => DMQ.out k h2 h1)
    have DUQ := Lib.hid (row_new U.out (fun k hk => (hq.ge hk).1))
    have Q := Lib.hid (hq.mono (B' := w.heap.size) B.out.size)
    clear hq
    have M' := Lib.hid (M.out.below hb)
    have U' := Lib.hid (U.out.below hb)
    have B' := Lib.hid (B.out.trans (hb.mono B.out.size))
    clear hb
    clear M U B
    have M := M'
    have U := U'
    have B := B'
    clear M' U' B'
    obtain ⟨r, hr⟩ : ∃ r, (inL L k && has L k.toNat) = r := ⟨_, rfl⟩
    have HRV := Lib.hid hr
    clear hr
    have HHS : Hid ((FreP.hs L.length : Nat) = FreP.hs N) := Lib.hid (by rw [HLN.out])
    have hKS := hs_le hhi
    have HSZ := Lib.hid (size_i hlo hhi)
    go_wp2_with fail
    go_at_call 25
    refine (Free_i Q.out).mono ?_
    rintro e x4 ⟨rfl, hw⟩
    obtain rfl := hw.symm
    go_wp2_with fail
    go_at_call 25
    refine (Free_i M.out).mono ?_
    rintro e x5 ⟨rfl, hw⟩
    obtain rfl := hw.symm
    go_wp2_with fail
    go_at_call 27
    refine (Has_i Q.out k).mono ?_
    rintro e x6 ⟨rfl, hb⟩
    have M' := Lib.hid (M.out.below hb)
    have Q' := Lib.hid (Q.out.below hb)
    have U' := Lib.hid (U.out.below hb)
    have B' := Lib.hid (B.out.trans (hb.mono B.out.size))
    clear hb
    clear M Q U B
    have M := M'
    have Q := Q'
    have U := U'
    have B := B'
    clear M' Q' U' B'
    rw [HRV.out]
    go_wp2_with fail
    go_at_call 27
    refine (Has_i M.out k).mono ?_
    rintro e x7 ⟨rfl, hb⟩
    have M' := Lib.hid (M.out.below hb)
    have Q' := Lib.hid (Q.out.below hb)
    have U' := Lib.hid (U.out.below hb)
    have B' := Lib.hid (B.out.trans (hb.mono B.out.size))
    clear hb
    clear M Q U B
    have M := M'
    have Q := Q'
    have U := U'
    have B := B'
    clear M' Q' U' B'
    rw [HRV.out]
    go_wp2_with fail
    go_at_call 13
    refine (Size_c (N : Int) _).mono ?_
    rintro e x8 ⟨rfl, hw⟩
    obtain rfl := hw.symm
    rw [HSZ.out]
    cases r
    · go_wp2_with fail
      go_at_call 25
      refine (Free_i Q.out).mono ?_
      rintro e x9 ⟨rfl, hw⟩
      obtain rfl := hw.symm
      go_wp2_with fail
      go_at_call 16
      refine (Take_i Q.out (HTZ.out.below B.out) _).mono ?_
      rintro e x10 ⟨_, rfl, ho, hq, hf⟩
      obtain ⟨Av, cv, rfl, hcv, hmv, _⟩ := ho.form (n := (takeO L (free L : Int)).length) rfl
      have DVM := Lib.hid (row_made ho (fun k hk => (M.out.ge hk).2))
      have DVQ := Lib.hid (row_made ho (fun k hk => (Q.out.ge hk).2))
      have V := Lib.hid (ho.mono B.out.size)
      have M' := Lib.hid (M.out.fr hf DMQ.out)
      have U' := Lib.hid (hf.own U.out DUQ.out)
      have B' := Lib.hid (B.out.trans (Q.out.toBelow hf))
      have Q' := Lib.hid hq
      clear ho hq hf
      clear M U B Q
      have M := M'
      have U := U'
      have B := B'
      have Q := Q'
      clear M' U' B' Q'
      clear V Q DMQ DQM DUQ DVM DVQ
      go_wp2_with fail
      go_at_call 29
      refine (Homes_i M.out (HTC.out.below B.out)).mono ?_
      rintro e x11 ⟨_, rfl, ho, hb⟩
      obtain ⟨Ay, cy, rfl, hcy, hmy, _⟩ := ho.form (homes_len L)
      have DYM := Lib.hid (row_made ho (fun k hk => (M.out.ge hk).2))
      have Y := Lib.hid (ho.mono B.out.size)
      clear ho
      have M' := Lib.hid (M.out.below hb)
      have U' := Lib.hid (U.out.below hb)
      have B' := Lib.hid (B.out.trans (hb.mono B.out.size))
      clear hb
      clear M U B
      have M := M'
      have U := U'
      have B := B'
      clear M' U' B'
      go_wp2_with fail
      go_at_call 35
      refine (alike_c Y.out.rd U.out.rd (homes_len _) (by rw [homes_len, HLN.out]) (decide_eq_true rfl)).mono ?_
      rintro e x12 ⟨rfl, hb⟩
      have M' := Lib.hid (M.out.below hb)
      have U' := Lib.hid (U.out.below hb)
      have Y' := Lib.hid (Y.out.below hb)
      have B' := Lib.hid (B.out.trans (hb.mono B.out.size))
      clear hb
      clear M U Y B
      have M := M'
      have U := U'
      have Y := Y'
      have B := B'
      clear M' U' Y' B'
      go_wp2_with fail
      go_at_call 15
      refine (works_c (HTZ.out.below B.out)).mono ?_
      rintro e x13 ⟨rfl, hb⟩
      have M' := Lib.hid (M.out.below hb)
      have U' := Lib.hid (U.out.below hb)
      have Y' := Lib.hid (Y.out.below hb)
      have B' := Lib.hid (B.out.trans (hb.mono B.out.size))
      clear hb
      clear M U Y B
      have M := M'
      have U := U'
      have Y := Y'
      have B := B'
      clear M' U' Y' B'
      go_wp2_with fail
      go_ret
      exact ⟨rfl, B.out⟩
    · go_wp2_with fail
      go_at_call 25
      refine (Free_i Q.out).mono ?_
      rintro e x9 ⟨rfl, hw⟩
      obtain rfl := hw.symm
      go_wp2_with fail
      go_at_call 16
      refine (Take_i Q.out (HTZ.out.below B.out) _).mono ?_
      rintro e x10 ⟨_, rfl, ho, hq, hf⟩
      obtain ⟨Av, cv, rfl, hcv, hmv, _⟩ := ho.form (n := (takeO L (free L : Int)).length) rfl
      have DVM := Lib.hid (row_made ho (fun k hk => (M.out.ge hk).2))
      have DVQ := Lib.hid (row_made ho (fun k hk => (Q.out.ge hk).2))
      have V := Lib.hid (ho.mono B.out.size)
      have M' := Lib.hid (M.out.fr hf DMQ.out)
      have U' := Lib.hid (hf.own U.out DUQ.out)
      have B' := Lib.hid (B.out.trans (Q.out.toBelow hf))
      have Q' := Lib.hid hq
      clear ho hq hf
      clear M U B Q
      have M := M'
      have U := U'
      have B := B'
      have Q := Q'
      clear M' U' B' Q'
      clear V Q DMQ DQM DUQ DVM DVQ
      go_wp2_with fail
      go_at_call 29
      refine (Homes_i M.out (HTC.out.below B.out)).mono ?_
      rintro e x11 ⟨_, rfl, ho, hb⟩
      obtain ⟨Ay, cy, rfl, hcy, hmy, _⟩ := ho.form (homes_len L)
      have DYM := Lib.hid (row_made ho (fun k hk => (M.out.ge hk).2))
      have Y := Lib.hid (ho.mono B.out.size)
      clear ho
      have M' := Lib.hid (M.out.below hb)
      have U' := Lib.hid (U.out.below hb)
      have B' := Lib.hid (B.out.trans (hb.mono B.out.size))
      clear hb
      clear M U B
      have M := M'
      have U := U'
      have B := B'
      clear M' U' B'
      go_wp2_with fail
      go_at_call 35
      refine (alike_c Y.out.rd U.out.rd (homes_len _) (by rw [homes_len, HLN.out]) (decide_eq_true rfl)).mono ?_
      rintro e x12 ⟨rfl, hb⟩
      have M' := Lib.hid (M.out.below hb)
      have U' := Lib.hid (U.out.below hb)
      have Y' := Lib.hid (Y.out.below hb)
      have B' := Lib.hid (B.out.trans (hb.mono B.out.size))
      clear hb
      clear M U Y B
      have M := M'
      have U := U'
      have Y := Y'
      have B := B'
      clear M' U' Y' B'
      go_wp2_with fail
      go_at_call 15
      refine (works_c (HTZ.out.below B.out)).mono ?_
      rintro e x13 ⟨rfl, hb⟩
      have M' := Lib.hid (M.out.below hb)
      have U' := Lib.hid (U.out.below hb)
      have Y' := Lib.hid (Y.out.below hb)
      have B' := Lib.hid (B.out.trans (hb.mono B.out.size))
      clear hb
      clear M U Y B
      have M := M'
      have U := U'
      have Y := Y'
      have B := B'
      clear M' U' Y' B'
      go_wp2_with fail
      go_ret
      exact ⟨rfl, B.out⟩
end FreW
end Go.Proofs.YtbnkaeigabifhaaDoor
