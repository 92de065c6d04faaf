/-
  FreemapLeads: Give of what Take told leads back, and so does Keep of what Give gave.
-/
import Derived.Test.YtbnkaeigabifhaaDoorFreeLaw
import Derived.Test.YtbnkaeigabifhaaDoorFreeEq
import Derived.Test.YtbnkaeigabifhaaDoorFreeLead
-- mine: whole_c same_c awake_c take_c step_c back_c Made number_c next_c fixed_c clone_c int_c end_c put_c
namespace Go.Proofs.YtbnkaeigabifhaaDoor
open Go.RowKit
set_option linter.unusedVariables false
set_option linter.unusedSimpArgs false
set_option maxRecDepth 100000
namespace FreW
open BlkP RowG FrS PushG FreP
open CrcW (Tab)
set_option maxHeartbeats 1000000 in
theorem law_leads {w : World} {n : Int} {k : Int} {A : Option Addr} {m c : Nat} {l : List Int} (hZ : TabZ w) (hC : Tab w) (hR : Rd RowG.encI w (.slice A m c) l) (hm : l.length = m) : Calls Tryd.prog 7 #[.int .i64 n, .slice A m c, .int .i64 k] w fun e w' => e = .returned (.bool true) ∧ Below w.heap.size w w' := by
  have HTZ := Lib.hid hZ
  have HTC := Lib.hid hC
  have HRD := Lib.hid hR
  have HL := Lib.hid hm
  have B := Lib.hid (Below.refl w.heap.size w)
  clear hZ hC hR hm
  cases hn : isM n
  · have HN := Lib.hid hn
    clear hn
    go_enter Tryd.func7, Tryd.ntmps7
    go_wp2_with fail
    go_at_call 34
    refine (kept_no HN.out).mono ?_
    rintro e x1 ⟨rfl, hw⟩
    obtain rfl := hw.symm
    go_wp2_with fail
    go_at_call 15
    refine (works_c (HTZ.out.below B.out)).mono ?_
    rintro e x2 ⟨rfl, hb⟩
    have B' := Lib.hid (B.out.trans (hb.mono B.out.size))
    clear hb
    clear B
    have B := B'
    clear B'
    go_wp2_with fail
    go_ret
    exact ⟨rfl, B.out⟩
  · obtain ⟨lo, hi⟩ := isM_iff.1 hn
    clear hn
    obtain ⟨N, rfl⟩ := Int.eq_ofNat_of_zero_le (show 0 ≤ n by omega)
    have hlo : 256 ≤ N := by omega
    have hhi : N ≤ 131072 := by omega
    go_enter Tryd.func7, Tryd.ntmps7
    go_wp2_with fail
    go_at_call 34
    refine (kept_i hlo hhi HRD.out HL.out).mono ?_
    rintro e x1 ⟨p, L, rfl, S, hq, hb⟩
    have M := Lib.hid (hq.mono (B' := w.heap.size) B.out.size)
    clear hq
    have B' := Lib.hid (B.out.trans (hb.mono B.out.size))
    clear hb
    clear B
    have B := B'
    clear B'
    have HLN := Lib.hid M.out.len
    go_wp2_with fail
    go_at_call 29
    refine (Homes_i M.out (HTC.out.below B.out)).mono ?_
    rintro e x2 ⟨_, rfl, ho, hb⟩
    obtain ⟨Au, cu, rfl, hcu, hmu, _⟩ := ho.form (homes_len L)
    have DUM := Lib.hid (row_made ho (fun k hk => (M.out.ge hk).2))
    have U := Lib.hid (ho.mono B.out.size)
    clear ho
    have M' := Lib.hid (M.out.below hb)
    have B' := Lib.hid (B.out.trans (hb.mono B.out.size))
    clear hb
    clear M B
    have M := M'
    have B := B'
    clear M' B'
    go_wp2_with fail
    go_at_call 16
    cases hcT : canT L k
    · have HCT := Lib.hid hcT
      clear hcT
      have HTO := Lib.hid (can_no HCT.out)
      refine (Take_i M.out (HTZ.out.below B.out) k).mono ?_
      rintro e x3 ⟨_, rfl, ho, hq, hf⟩
      obtain ⟨Av, cv, rfl, hcv, hmv, _⟩ := ho.form (n := 0) (by rw [HTO.out.1]; rfl)
      have DVM := Lib.hid (row_made ho (fun k hk => (M.out.ge hk).2))
      have V := Lib.hid (ho.mono B.out.size)
      have U' := Lib.hid (hf.own U.out DUM.out)
      have B' := Lib.hid (B.out.trans (M.out.toBelow hf))
      have M' := Lib.hid hq
      clear ho hq hf
      clear U B M
      have U := U'
      have B := B'
      have M := M'
      clear U' B' M'
      rw [HCT.out]
      clear V DVM
      have M' := Lib.hid (show Mp x3 w.heap.size p N L S by have := M.out; rwa [HTO.out.2] at this)
      clear M
      have M := M'
      clear M'
      go_wp2_with fail
      go_at_call 29
      refine (Homes_i M.out (HTC.out.below B.out)).mono ?_
      rintro e x4 ⟨_, rfl, ho, hb⟩
      obtain ⟨Ax, cx, rfl, hcx, hmx, _⟩ := ho.form (homes_len L)
      have DXM := Lib.hid (row_made ho (fun k hk => (M.out.ge hk).2))
      have X := Lib.hid (ho.mono B.out.size)
      clear ho
      have M' := Lib.hid (M.out.below hb)
      have U' := Lib.hid (U.out.below hb)
      have B' := Lib.hid (B.out.trans (hb.mono B.out.size))
      clear hb
      clear M U B
      have M := M'
      have U := U'
      have B := B'
      clear M' U' B'
      go_wp2_with fail
      go_at_call 19
      refine (Give_i M.out (Ints.none _ _)).mono ?_
      rintro e x5 ⟨rfl, hq, hf⟩
      have U' := Lib.hid (hf.own U.out DUM.out)
      have X' := Lib.hid (hf.own X.out DXM.out)
      have B' := Lib.hid (B.out.trans (M.out.toBelow hf))
      have M' := Lib.hid hq
      clear hq hf
      clear U X B M
      have U := U'
      have X := X'
      have B := B'
      have M := M'
      clear U' X' B' M'
      rw [turn_nilE]
      have M' := Lib.hid (show Mp x5 w.heap.size p N L S by have := M.out; rwa [turn_nilL] at this)
      clear M
      have M := M'
      clear M'
      go_wp2_with fail
      go_at_call 29
      refine (Homes_i M.out (HTC.out.below B.out)).mono ?_
      rintro e x6 ⟨_, rfl, ho, hb⟩
      obtain ⟨Ay, cy, rfl, hcy, hmy, _⟩ := ho.form (homes_len L)
      have DYM := Lib.hid (row_made ho (fun k hk => (M.out.ge hk).2))
      have Y := Lib.hid (ho.mono B.out.size)
      clear ho
      have M' := Lib.hid (M.out.below hb)
      have U' := Lib.hid (U.out.below hb)
      have X' := Lib.hid (X.out.below hb)
      have B' := Lib.hid (B.out.trans (hb.mono B.out.size))
      clear hb
      clear M U X B
      have M := M'
      have U := U'
      have X := X'
      have B := B'
      clear M' U' X' B'
      go_wp2_with fail
      go_at_call 35
      refine (alike_c Y.out.rd U.out.rd (homes_len _) (homes_len _) (decide_eq_true rfl)).mono ?_
      rintro e x7 ⟨rfl, hb⟩
      have M' := Lib.hid (M.out.below hb)
      have U' := Lib.hid (U.out.below hb)
      have X' := Lib.hid (X.out.below hb)
      have Y' := Lib.hid (Y.out.below hb)
      have B' := Lib.hid (B.out.trans (hb.mono B.out.size))
      clear hb
      clear M U X Y B
      have M := M'
      have U := U'
      have X := X'
      have Y := Y'
      have B := B'
      clear M' U' X' Y' B'
      clear Y DYM
      go_wp2_with fail
      go_at_call 21
      refine (Keep_i M.out (Ints.none _ _)).mono ?_
      rintro e x8 ⟨rfl, hq, hf⟩
      have U' := Lib.hid (hf.own U.out DUM.out)
      have X' := Lib.hid (hf.own X.out DXM.out)
      have B' := Lib.hid (B.out.trans (M.out.toBelow hf))
      have M' := Lib.hid hq
      clear hq hf
      clear U X B M
      have U := U'
      have X := X'
      have B := B'
      have M := M'
      clear U' X' B' M'
      rw [turn_nilE]
      have M' := Lib.hid (show Mp x8 w.heap.size p N L S by have := M.out; rwa [turn_nilL] at this)
      clear M
      have M := M'
      clear M'
      go_wp2_with fail
      go_at_call 29
      refine (Homes_i M.out (HTC.out.below B.out)).mono ?_
      rintro e x9 ⟨_, rfl, ho, hb⟩
      obtain ⟨Az, cz, rfl, hcz, hmz, _⟩ := ho.form (homes_len L)
      have DYM := Lib.hid (row_made ho (fun k hk => (M.out.ge hk).2))
      have Y := Lib.hid (ho.mono B.out.size)
      clear ho
      have M' := Lib.hid (M.out.below hb)
      have U' := Lib.hid (U.out.below hb)
      have X' := Lib.hid (X.out.below hb)
      have B' := Lib.hid (B.out.trans (hb.mono B.out.size))
      clear hb
      clear M U X B
      have M := M'
      have U := U'
      have X := X'
      have B := B'
      clear M' U' X' B'
      go_wp2_with fail
      go_at_call 35
      refine (alike_c Y.out.rd X.out.rd (homes_len _) (homes_len _) (decide_eq_true rfl)).mono ?_
      rintro e x10 ⟨rfl, hb⟩
      have M' := Lib.hid (M.out.below hb)
      have U' := Lib.hid (U.out.below hb)
      have X' := Lib.hid (X.out.below hb)
      have Y' := Lib.hid (Y.out.below hb)
      have B' := Lib.hid (B.out.trans (hb.mono B.out.size))
      clear hb
      clear M U X Y B
      have M := M'
      have U := U'
      have X := X'
      have Y := Y'
      have B := B'
      clear M' U' X' Y' B'
      go_wp2_with fail
      go_at_call 15
      refine (works_c (HTZ.out.below B.out)).mono ?_
      rintro e x11 ⟨rfl, hb⟩
      have M' := Lib.hid (M.out.below hb)
      have U' := Lib.hid (U.out.below hb)
      have X' := Lib.hid (X.out.below hb)
      have Y' := Lib.hid (Y.out.below hb)
      have B' := Lib.hid (B.out.trans (hb.mono B.out.size))
      clear hb
      clear M U X Y B
      have M := M'
      have U := U'
      have X := X'
      have Y := Y'
      have B := B'
      clear M' U' X' Y' B'
      go_wp2_with fail
      go_ret
      exact ⟨rfl, B.out⟩
    · have HCT := Lib.hid hcT
      clear hcT
      obtain ⟨O, hO⟩ : ∃ O, takeO L k = O := ⟨_, rfl⟩
      have HOO := Lib.hid hO
      clear hO
      refine (Take_i M.out (HTZ.out.below B.out) k).mono ?_
      rintro e x3 ⟨_, rfl, ho, hq, hf⟩
      obtain ⟨Av, cv, rfl, hcv, hmv, _⟩ := ho.form (n := O.length) (by rw [HOO.out])
      have DVM := Lib.hid (row_made ho (fun k hk => (M.out.ge hk).2))
      have V := Lib.hid (ho.mono B.out.size)
      have U' := Lib.hid (hf.own U.out DUM.out)
      have B' := Lib.hid (B.out.trans (M.out.toBelow hf))
      have M' := Lib.hid hq
      clear ho hq hf
      clear U B M
      have U := U'
      have B := B'
      have M := M'
      clear U' B' M'
      rw [HCT.out]
      have V' := Lib.hid (show RowG.Own RowG.encI TI x3 w.heap.size (.slice Av O.length cv) O by have := V.out; rwa [HOO.out] at this)
      clear V
      have V := V'
      clear V'
      obtain ⟨L2, hL2⟩ : ∃ L2, takeL L k = L2 := ⟨_, rfl⟩
      have HL2 := Lib.hid hL2
      clear hL2
      have M' := Lib.hid (show Mp x3 w.heap.size p N L2 S by have := M.out; rwa [HL2.out] at this)
      clear M
      have M := M'
      clear M'
      have HBK := Lib.hid (lead_back L k)
      rw [HOO.out, HL2.out] at HBK
      go_wp2_with fail
      go_at_call 29
      refine (Homes_i M.out (HTC.out.below B.out)).mono ?_
      rintro e x4 ⟨_, rfl, ho, hb⟩
      obtain ⟨Ax, cx, rfl, hcx, hmx, _⟩ := ho.form (homes_len L2)
      have DXM := Lib.hid (row_made ho (fun k hk => (M.out.ge hk).2))
      have X := Lib.hid (ho.mono B.out.size)
      clear ho
      have M' := Lib.hid (M.out.below hb)
      have U' := Lib.hid (U.out.below hb)
      have V' := Lib.hid (V.out.below hb)
      have B' := Lib.hid (B.out.trans (hb.mono B.out.size))
      clear hb
      clear M U V B
      have M := M'
      have U := U'
      have V := V'
      have B := B'
      clear M' U' V' B'
      go_wp2_with fail
      go_at_call 19
      refine (Give_i M.out (Ints.own V.out rfl DVM.out)).mono ?_
      rintro e x5 ⟨rfl, hq, hf⟩
      have U' := Lib.hid (hf.own U.out DUM.out)
      have V' := Lib.hid (hf.own V.out DVM.out)
      have X' := Lib.hid (hf.own X.out DXM.out)
      have B' := Lib.hid (B.out.trans (M.out.toBelow hf))
      have M' := Lib.hid hq
      clear hq hf
      clear U V X B M
      have U := U'
      have V := V'
      have X := X'
      have B := B'
      have M := M'
      clear U' V' X' B' M'
      rw [HBK.out.2.1]
      have M' := Lib.hid (show Mp x5 w.heap.size p N L S by have := M.out; rwa [HBK.out.1] at this)
      clear M
      have M := M'
      clear M'
      go_wp2_with fail
      go_at_call 29
      refine (Homes_i M.out (HTC.out.below B.out)).mono ?_
      rintro e x6 ⟨_, rfl, ho, hb⟩
      obtain ⟨Ay, cy, rfl, hcy, hmy, _⟩ := ho.form (homes_len L)
      have DYM := Lib.hid (row_made ho (fun k hk => (M.out.ge hk).2))
      have Y := Lib.hid (ho.mono B.out.size)
      clear ho
      have M' := Lib.hid (M.out.below hb)
      have U' := Lib.hid (U.out.below hb)
      have V' := Lib.hid (V.out.below hb)
      have X' := Lib.hid (X.out.below hb)
      have B' := Lib.hid (B.out.trans (hb.mono B.out.size))
      clear hb
      clear M U V X B
      have M := M'
      have U := U'
      have V := V'
      have X := X'
      have B := B'
      clear M' U' V' X' B'
      go_wp2_with fail
      go_at_call 35
      refine (alike_c Y.out.rd U.out.rd (homes_len _) (homes_len _) (decide_eq_true rfl)).mono ?_
      rintro e x7 ⟨rfl, hb⟩
      have M' := Lib.hid (M.out.below hb)
      have U' := Lib.hid (U.out.below hb)
      have V' := Lib.hid (V.out.below hb)
      have X' := Lib.hid (X.out.below hb)
      have Y' := Lib.hid (Y.out.below hb)
      have B' := Lib.hid (B.out.trans (hb.mono B.out.size))
      clear hb
      clear M U V X Y B
      have M := M'
      have U := U'
      have V := V'
      have X := X'
      have Y := Y'
      have B := B'
      clear M' U' V' X' Y' B'
      clear Y DYM
      go_wp2_with fail
      go_at_call 21
      refine (Keep_i M.out (Ints.own V.out rfl DVM.out)).mono ?_
      rintro e x8 ⟨rfl, hq, hf⟩
      have U' := Lib.hid (hf.own U.out DUM.out)
      have V' := Lib.hid (hf.own V.out DVM.out)
      have X' := Lib.hid (hf.own X.out DXM.out)
      have B' := Lib.hid (B.out.trans (M.out.toBelow hf))
      have M' := Lib.hid hq
      clear hq hf
      clear U V X B M
      have U := U'
      have V := V'
      have X := X'
      have B := B'
      have M := M'
      clear U' V' X' B' M'
      rw [HBK.out.2.2.2]
      have M' := Lib.hid (show Mp x8 w.heap.size p N L2 S by have := M.out; rwa [HBK.out.2.2.1] at this)
      clear M
      have M := M'
      clear M'
      go_wp2_with fail
      go_at_call 29
      refine (Homes_i M.out (HTC.out.below B.out)).mono ?_
      rintro e x9 ⟨_, rfl, ho, hb⟩
      obtain ⟨Az, cz, rfl, hcz, hmz, _⟩ := ho.form (homes_len L2)
      have DYM := Lib.hid (row_made ho (fun k hk => (M.out.ge hk).2))
      have Y := Lib.hid (ho.mono B.out.size)
      clear ho
      have M' := Lib.hid (M.out.below hb)
      have U' := Lib.hid (U.out.below hb)
      have V' := Lib.hid (V.out.below hb)
      have X' := Lib.hid (X.out.below hb)
      have B' := Lib.hid (B.out.trans (hb.mono B.out.size))
      clear hb
      clear M U V X B
      have M := M'
      have U := U'
      have V := V'
      have X := X'
      have B := B'
      clear M' U' V' X' B'
      go_wp2_with fail
      go_at_call 35
      refine (alike_c Y.out.rd X.out.rd (homes_len _) (homes_len _) (decide_eq_true rfl)).mono ?_
      rintro e x10 ⟨rfl, hb⟩
      have M' := Lib.hid (M.out.below hb)
      have U' := Lib.hid (U.out.below hb)
      have V' := Lib.hid (V.out.below hb)
      have X' := Lib.hid (X.out.below hb)
      have Y' := Lib.hid (Y.out.below hb)
      have B' := Lib.hid (B.out.trans (hb.mono B.out.size))
      clear hb
      clear M U V X Y B
      have M := M'
      have U := U'
      have V := V'
      have X := X'
      have Y := Y'
      have B := B'
      clear M' U' V' X' Y' B'
      go_wp2_with fail
      go_at_call 15
      refine (works_c (HTZ.out.below B.out)).mono ?_
      rintro e x11 ⟨rfl, hb⟩
      have M' := Lib.hid (M.out.below hb)
      have U' := Lib.hid (U.out.below hb)
      have V' := Lib.hid (V.out.below hb)
      have X' := Lib.hid (X.out.below hb)
      have Y' := Lib.hid (Y.out.below hb)
      have B' := Lib.hid (B.out.trans (hb.mono B.out.size))
      clear hb
      clear M U V X Y B
      have M := M'
      have U := U'
      have V := V'
      have X := X'
      have Y := Y'
      have B := B'
      clear M' U' V' X' Y' B'
      go_wp2_with fail
      go_ret
      exact ⟨rfl, B.out⟩
end FreW
end Go.Proofs.YtbnkaeigabifhaaDoor
