/-
  FreemapAdds: how many are free is how many sectors say that they are.
-/
import Derived.Test.YtbnkaeigabifhaaDoorFreeLaw
-- mine: whole_c same_c awake_c take_c step_c back_c Made number_c next_c fixed_c clone_c int_c end_c put_c
namespace Go.Proofs.YtbnkaeigabifhaaDoor
open Go.RowKit
set_option linter.unusedVariables false
set_option linter.unusedSimpArgs false
set_option maxRecDepth 100000
namespace FreW
open BlkP RowG FrS PushG FreP
open CrcW (Tab)
theorem inL_hasP (L : List Bool) (j : Nat) : (inL L (j : Int) && has L (j : Int).toNat) = has L j := by
  rw [show ((j : Nat) : Int).toNat = j from rfl]
  cases h : has L j
  · simp
  · have := has_true h
    rw [inL_iff.2 ⟨by omega, by omega⟩]
    rfl
set_option maxHeartbeats 1000000 in
theorem law_adds {w : World} {n : Int} {k : Int} {A : Option Addr} {m c : Nat} {l : List Int} (hZ : TabZ w) (hR : Rd RowG.encI w (.slice A m c) l) (hm : l.length = m) : Calls Tryd.prog 6 #[.int .i64 n, .slice A m c, .int .i64 k] w fun e w' => e = .returned (.bool true) ∧ Below w.heap.size w w' := by
  have HTZ := Lib.hid hZ
  have hC : True := trivial
  have HRD := Lib.hid hR
  have HL := Lib.hid hm
  have B := Lib.hid (Below.refl w.heap.size w)
  clear hZ hC hR hm
  cases hn : isM n
  · have HN := Lib.hid hn
    clear hn
    go_enter Tryd.func6, Tryd.ntmps6
    go_wp2_with fail
    go_at_call 34
    refine (kept_no HN.out).mono ?_
    rintro e x1 ⟨rfl, hw⟩
    obtain rfl := hw.symm
    go_wp2_with fail
    go_at_call 15
    refine (works_c (HTZ.out.below B.out)).mono ?_
    rintro e x2 ⟨rfl, hb⟩
    have B' := Lib.hid (B.out.trans (hb.mono B.out.size))
    clear hb
    clear B
    have B := B'
    clear B'
    go_wp2_with fail
    go_ret
    exact ⟨rfl, B.out⟩
  · obtain ⟨lo, hi⟩ := isM_iff.1 hn
    clear hn
    obtain ⟨N, rfl⟩ := Int.eq_ofNat_of_zero_le (show 0 ≤ n by omega)
    have hlo : 256 ≤ N := by omega
    have hhi : N ≤ 131072 := by omega
    go_enter Tryd.func6, Tryd.ntmps6
    go_wp2_with fail
    go_at_call 34
    refine (kept_i hlo hhi HRD.out HL.out).mono ?_
    rintro e x1 ⟨p, L, rfl, S, hq, hb⟩
    have M := Lib.hid (hq.mono (B' := w.heap.size) B.out.size)
    clear hq
    have B' := Lib.hid (B.out.trans (hb.mono B.out.size))
    clear hb
    clear B
    have B := B'
    clear B'
    have HLN := Lib.hid M.out.len
    go_wp2_with fail
    go_at_call 16
    obtain ⟨L', hL'⟩ : ∃ L', takeL L k = L' := ⟨_, rfl⟩
    have HLK := Lib.hid hL'
    clear hL'
    refine (Take_i M.out (HTZ.out.below B.out) k).mono ?_
    rintro e x2 ⟨_, rfl, ho, hq, hf⟩
    obtain ⟨A, c, rfl, hc, hm, _⟩ := ho.form (n := (takeO L k).length) rfl
    have DVM := Lib.hid (row_made ho (fun k hk => (M.out.ge hk).2))
    have V := Lib.hid (ho.mono B.out.size)
    have B' := Lib.hid (B.out.trans (M.out.toBelow hf))
    have M' := Lib.hid hq
    clear ho hq hf
    clear B M
    have B := B'
    have M := M'
    clear B' M'
    clear V DVM
    have M' := Lib.hid (show Mp x2 w.heap.size p N L' S by have := M.out; rwa [HLK.out] at this)
    clear M
    have M := M'
    clear M'
    have HLN2 := Lib.hid M.out.len
    go_wp2_with fail
    go_loopw [8, 9] (fun v8 v9 wr => ∃ j : Nat, v9 = .int .i64 ((j : Int) - 1) ∧ j ≤ N + 2 ∧ v8 = .int .i64 ((cnt (has L') 0 (j - 1) : Nat) : Int) ∧ Mp wr w.heap.size p N L' S ∧ Below w.heap.size w wr) (fun v8 v9 _ => N + 2 - (RowKit.intOf v9 + 1).toNat)
    case atStart => exact ⟨0, by first | rfl | decide, by omega, rfl, M.out, B.out⟩
    case round =>
      obtain ⟨j, rfl, hj, rfl, hM, hbr⟩ := hrel
      clear M B
      have M := Lib.hid hM
      have B := Lib.hid hbr
      clear hM hbr
      by_cases hlt : j < N + 2
      · have hcl := cnt_le (has L') (j - 1) 0
        have HST := Lib.hid (show cnt (has L') 0 (j + 1 - 1) = cnt (has L') 0 (j - 1) + (inL L' ((j : Int) - 1) && has L' ((j : Int) - 1).toNat).toNat by
          cases j with
          | zero => rfl
          | succ i =>
            rw [Nat.add_sub_cancel, Nat.add_sub_cancel, cnt_succ, Nat.zero_add, show ((i + 1 : Nat) : Int) - 1 = (i : Int) by omega, inL_hasP])
        obtain ⟨r, hr⟩ : ∃ r, (inL L' ((j : Int) - 1) && has L' ((j : Int) - 1).toNat) = r := ⟨_, rfl⟩
        have HRV := Lib.hid hr
        rw [hr] at HST
        clear hr
        obtain ⟨q, hq⟩ : ∃ q, q = cnt (has L') 0 (j - 1) := ⟨_, rfl⟩
        rw [← hq] at HST hcl ⊢
        clear hq
        have hle : decide ((j : Int) - 1 ≤ (N : Int)) = true := by simp; omega
        have hlec : (j : Int) - 1 ≤ (N : Int) := by omega
        go_wp2_with fail
        go_at_call 24
        refine (Len_i M.out).mono ?_
        rintro e x1 ⟨rfl, hw⟩
        obtain rfl := hw.symm
        go_wp2_with fail
        go_at_call 27
        refine (Has_i M.out ((j : Int) - 1)).mono ?_
        rintro e x2 ⟨rfl, hb⟩
        have M' := Lib.hid (M.out.below hb)
        have B' := Lib.hid (B.out.trans (hb.mono B.out.size))
        clear hb
        clear M B
        have M := M'
        have B := B'
        clear M' B'
        rw [HRV.out]
        cases r
        · go_wp2_with fail
          go_roundw
          case rel => exact ⟨j + 1, by first | rfl | go_num | (congr 1; omega), by omega, by rw [HST.out]; first | rfl | go_num, M.out, B.out⟩
          case measure => simp only [RowKit.intOf]; omega
        · go_wp2_with fail
          go_roundw
          case rel => exact ⟨j + 1, by first | rfl | go_num | (congr 1; omega), by omega, by rw [HST.out]; first | rfl | go_num, M.out, B.out⟩
          case measure => simp only [RowKit.intOf]; omega
      · obtain rfl : j = N + 2 := by omega
        have HFE : Hid (cnt (has L') 0 (N + 2 - 1) = free L') := Lib.hid (free_more L' (by rw [HLN2.out]; omega))
        have hfl := free_le L'
        rw [HFE.out]
        have hle : decide (((N + 2 : Nat) : Int) - 1 ≤ (N : Int)) = false := by simp; omega
        have hlec : ¬ ((N + 2 : Nat) : Int) - 1 ≤ (N : Int) := by omega
        go_wp2_with fail
        go_at_call 24
        refine (Len_i M.out).mono ?_
        rintro e x1 ⟨rfl, hw⟩
        obtain rfl := hw.symm
        go_wp2_with fail
        go_at_call 25
        refine (Free_i M.out).mono ?_
        rintro e x2 ⟨rfl, hw⟩
        obtain rfl := hw.symm
        go_wp2_with fail
        go_at_call 24
        refine (Len_i M.out).mono ?_
        rintro e x3 ⟨rfl, hw⟩
        obtain rfl := hw.symm
        go_wp2_with fail
        go_at_call 15
        refine (works_c (HTZ.out.below B.out)).mono ?_
        rintro e x4 ⟨rfl, hb⟩
        have M' := Lib.hid (M.out.below hb)
        have B' := Lib.hid (B.out.trans (hb.mono B.out.size))
        clear hb
        clear M B
        have M := M'
        have B := B'
        clear M' B'
        go_wp2_with fail
        go_ret
        exact ⟨rfl, B.out⟩
end FreW
end Go.Proofs.YtbnkaeigabifhaaDoor
