/-
  The reference of layer 5: a row that is read.
-/
import Derived.Test.YtdboebokjkkgkaaDoorRunsRefs
import Derived.Test.YtdboebokjkkgkaaDoorBytesRefs
namespace Go.Proofs.YtdboebokjkkgkaaDoor
open Go.RowKit
open Go.Lib (uvarint uvarint_small uvarint_big uvarint_length64 uvarint_pos zigzag)
set_option linter.unusedVariables false
set_option linter.unusedSimpArgs false
namespace RunsW
open BytesW

/-- What Get answers: the row, how many bytes, the error's number. -/
def gOf : Option (List UInt8 × Nat) → List UInt8 × Nat × Int
  | none => ([], 0, 4)
  | some (l, k) => (l, k, 0)
def getA (b : List UInt8) (n : Int) : List UInt8 × Nat × Int := if n < 0 ∨ 65536 < n then ([], 0, 2) else gOf (rowGet b n.toNat)
def GetP (w : World) (R : List UInt8 × Nat × Int) (e : Ending) (w' : World) : Prop :=
  ∃ v, e = .returned (.tuple #[v, .int .i64 R.2.1, .int .i64 R.2.2]) ∧ Own w' w.heap.size v R.1 ∧ Below w.heap.size w w'
theorem GetP.none {w w' : World} {R : List UInt8 × Nat × Int} {E : Int} (hR : ([], 0, E) = R) (hb : Below w.heap.size w w') : GetP w R (.returned (.tuple #[.slice none 0 0, .int .i64 0, .int .i64 E])) w' := by
  subst hR
  exact ⟨_, rfl, Own.nil _ _, hb⟩

def vlen : Value → Nat
  | .slice _ n _ => n
  | _ => 0
def GRel (w : World) (b : List UInt8) (n : Nat) (G : Option (List UInt8 × Nat)) (v a : Value) (wr : World) : Prop :=
  ∃ (l : List UInt8) (c : Nat), a = .int .i64 c ∧ c ≤ b.length ∧ l.length ≤ n ∧ getR n c l (b.drop c) = G ∧ Own wr w.heap.size v l ∧ Below w.heap.size w wr
def GInRel (w : World) (l : List UInt8) (x : UInt8) (m : Nat) (v i : Value) (wr : World) : Prop :=
  ∃ (j : Nat) (J : Int), i = .int .u64 J ∧ J = j ∧ j ≤ m ∧ Own wr w.heap.size v (l ++ List.replicate j x) ∧ Below w.heap.size w wr

set_option maxRecDepth 100000 in
set_option maxHeartbeats 2000000 in
theorem r_get_in {w : World} {A : Option Addr} {b : List UInt8} {cp n : Nat} {R : List UInt8 × Nat × Int} (hA : AtC w A b) (hcp : b.length ≤ cp) (hl : b.length ≤ 1000000) (hn : n ≤ 65536) (hR : gOf (rowGet b n) = R) :
    Calls Tryd.prog 38 #[.slice A b.length cp, .int .i64 n] w (GetP w R) := by
  have HA := Lib.hid hA
  clear hA
  obtain ⟨G, hG⟩ : ∃ G, rowGet b n = G := ⟨_, rfl⟩
  rw [hG] at hR
  have HR := Lib.hid hR
  have HG := Lib.hid hG
  clear hR hG
  go_enter Tryd.func38, Tryd.ntmps38
  go_wp2_with fail
  go_loopw [7, 8] (GRel w b n G) (fun v _ _ => n - vlen v)
  case atStart => exact ⟨[], 0, rfl, by omega, by simp, by simpa [rowGet] using HG.out, Own.nil _ _, Below.refl _ _⟩
  case round =>
    obtain ⟨l, c, rfl, hc, hln, hg, hown, hbw⟩ := hrel
    have hz := hbw.size
    obtain ⟨Al, cl, rfl, hAl, hcl, hcl2⟩ := hown.sl
    have HGC := Lib.hid hg
    clear hg
    by_cases hlt : l.length < n
    · have HAr := Lib.hid (HA.out.below hbw)
      obtain ⟨d, hd⟩ : ∃ d, d = b.drop c := ⟨_, rfl⟩
      have hdl : d.length ≤ 1000000 := by rw [hd]; simp; omega
      have HDL := Lib.hid (show b.length - c = d.length by rw [hd]; simp)
      have hdl2 : (d.length : Int) = b.length - c := by rw [hd]; simp; omega
      rw [← hd] at HGC
      have HD := Lib.hid hd
      have hpd : ∀ A', AtC wr A' (b.drop c) → AtC wr A' d := fun A' h => by rw [HD.out]; exact h
      have HPD := Lib.hid hpd
      clear hd hpd
      obtain ⟨q, hq⟩ : ∃ q, pn d 0 0 = q := ⟨_, rfl⟩
      have HQ := Lib.hid hq
      rcases q with _ | ⟨m, k⟩
      · have hG : G = none := by rw [← HGC.out]; exact getR_none hlt hq
        subst hG
        clear hq
        go_wp2_with (first
          | ((with_reducible refine at_slot 25 ?_); refine wp_fromC rfl (.tmp 23) (.tmp 24) rfl (k := c) rfl rfl HAr.out hc hcp ?_; intro A2 hA2; rw [HDL.out]; have hA2 := HPD.out _ hA2)
          | (go_at_call 49; refine (first_noC hA2 hdl HQ.out).mono ?_; rintro e w2 ⟨rfl, hb2⟩))
        go_ret3
        exact GetP.none HR.out (hbw.trans (hb2.mono hz))
      · obtain ⟨hk1, hk2, hk3⟩ := pn_le hq
        have hm64 := (pn_some hq).1
        obtain ⟨M, hM⟩ : ∃ M : Int, M = (m : Int) := ⟨_, rfl⟩
        have hM0 : 0 ≤ M := by omega
        have hM1 : M < 18446744073709551616 := by omega
        have HM := Lib.hid hM
        have HF : Hid (∀ (w : World) (A : Option Addr) (cc : Nat), AtC w A d → Calls Tryd.prog 49 #[.slice A d.length cc] w fun e w' => e = .returned (.tuple #[.int .u64 M, .int .i64 k]) ∧ Below w.heap.size w w') := Lib.hid (fun w A cc h => by rw [HM.out]; exact first_yesC h hdl HQ.out)
        have hk0 : ((k : Int) == 0) = false := by simp; omega
        rcases hdr : d.drop k with _ | ⟨x, r⟩
        · have hG : G = none := by rw [← HGC.out]; exact getR_end hlt hq hdr
          subst hG
          have hge : (b.length : Int) ≤ c + k := by
            have := congrArg List.length hdr
            simp at this
            omega
          clear hq hdr hM hm64
          go_wp2_with (first
            | ((with_reducible refine at_slot 25 ?_); refine wp_fromC rfl (.tmp 23) (.tmp 24) rfl (k := c) rfl rfl HAr.out hc hcp ?_; intro A2 hA2; rw [HDL.out]; have hA2 := HPD.out _ hA2)
            | (go_at_call 49; refine (HF.out _ _ _ hA2).mono ?_; rintro e w2 ⟨rfl, hb2⟩))
          go_ret3
          exact GetP.none HR.out (hbw.trans (hb2.mono hz))
        · have hlt2 : (c : Int) + k < b.length := by
            have := congrArg List.length hdr
            simp at this
            omega
          by_cases hbig : (n : Int) < M
          · have hG : G = none := by rw [← HGC.out]; exact getR_bad hlt hq hdr (.inr (.inl (by omega)))
            subst hG
            clear hq hdr hM hm64
            go_wp2_with (first
              | ((with_reducible refine at_slot 25 ?_); refine wp_fromC rfl (.tmp 23) (.tmp 24) rfl (k := c) rfl rfl HAr.out hc hcp ?_; intro A2 hA2; rw [HDL.out]; have hA2 := HPD.out _ hA2)
              | (go_at_call 49; refine (HF.out _ _ _ hA2).mono ?_; rintro e w2 ⟨rfl, hb2⟩))
            go_ret3
            exact GetP.none HR.out (hbw.trans (hb2.mono hz))
          · have hmn : m ≤ n := by omega
            have hbnil : b ≠ [] := fun e => by rw [e] at hlt2; simp at hlt2; omega
            have hbx : b[c + k]? = some x := by
              have e1 : (d.drop k)[0]? = some x := by rw [hdr]; rfl
              rw [HD.out, List.drop_drop, List.getElem?_drop] at e1
              simpa using e1
            have hr2 : b.drop (c + k + 1) = r := by
              have e1 : (d.drop k).drop 1 = r := by rw [hdr]; rfl
              rw [HD.out, List.drop_drop, List.drop_drop] at e1
              exact e1
            have HR2 := Lib.hid hr2
            have HBX := Lib.hid hbx
            have HDR := Lib.hid hdr
            have HBN := Lib.hid hbnil
            clear hq hdr hM hm64 hr2 hbx hbnil
            go_wp2_with (first
              | ((with_reducible refine at_slot 25 ?_); refine wp_fromC rfl (.tmp 23) (.tmp 24) rfl (k := c) rfl rfl HAr.out hc hcp ?_; intro A2 hA2; rw [HDL.out]; have hA2 := HPD.out _ hA2)
              | (go_at_call 49; refine (HF.out _ _ _ hA2).mono ?_; rintro e w2 ⟨rfl, hb2⟩))
            have hown2 := hown.below hb2
            have hbw2 := hbw.trans (hb2.mono hz)
            clear hown hbw hb2 hA2
            go_loopw [7, 11] (GInRel w l x m) (fun _ i _ => m - (intOf i).toNat)
            case atStart => exact ⟨0, 0, rfl, rfl, by omega, by simpa using hown2, hbw2⟩
            case round =>
              obtain ⟨j, J, rfl, hJ, hjm, hown3, hbw3⟩ := hrel
              have hz3 := hbw3.size
              have hJ0 : 0 ≤ J := by omega
              have hJ1 : J < 18446744073709551616 := by omega
              have HJ := Lib.hid hJ
              have hll : (l ++ List.replicate j x).length ≤ 200000 := by simp; omega
              by_cases hjl : J < M
              · obtain ⟨bb, oo, rfl, hcs⟩ := at_cell (HA.out.below hbw3) HBN.out
                obtain ⟨x', X, ex, hX, X0, X1, g1⟩ := hcs (c + k) (by omega)
                have hxx : x' = x := by have := HBX.out; rw [ex] at this; injection this
                subst hxx
                have HX := Lib.hid hX
                clear hcs ex hX hJ
                go_wp2_with (at_builtin; refine wp_push rfl (.tmp 50) (.tmp 57) rfl wr _ rfl rfl hown3 x' HX.out rfl (by omega) hz3 ?_; intro v5 w5 hown5 hb5)
                go_roundw
                case rel =>
                  refine ⟨j + 1, _, rfl, ?_, by have := HJ.out; have := HM.out; omega, ?_, hbw3.trans hb5⟩
                  · have := HJ.out
                    (first | omega | (simp only [IntKind.wrap_u64]; omega))
                  · rw [List.replicate_succ', ← List.append_assoc]
                    exact hown5
                case measure => have := HJ.out; have := HM.out; simp [intOf]; omega
              · have hjm2 : j = m := by have := HM.out; omega
                subst hjm2
                have hJM : J = M := by rw [HM.out]; exact hJ
                subst hJM
                obtain ⟨L, hL⟩ : ∃ L, L = l ++ List.replicate j x := ⟨_, rfl⟩
                rw [← hL] at hown3 hll
                have hLl : L.length = l.length + j := by rw [hL]; simp
                have HL := Lib.hid hL
                have HLL := Lib.hid hLl
                have hLl1 : l.length + j ≤ L.length := by omega
                have hLl2 : L.length ≤ l.length + j := by omega
                clear hL hLl
                obtain ⟨A4, c4, rfl, hA4, hc4, hcm4⟩ := hown3.sl
                by_cases h0 : J = 0
                · have hG : G = none := by rw [← HGC.out]; exact getR_bad hlt HQ.out HDR.out (.inl (by omega))
                  subst hG
                  clear hJ hM0
                  subst h0
                  go_wp2_with fail
                  go_quiet (fail)
                  go_wp2_with fail
                  go_ret3
                  exact GetP.none HR.out (hbw3.trans (by repeat' first | exact Below.refl _ _ | refine BaseP.below_drewN ?_ _))
                · have hJ00 : (J == 0) = false := by simpa using h0
                  by_cases hgt : n < L.length
                  · have hG : G = none := by rw [← HGC.out]; exact getR_bad hlt HQ.out HDR.out (.inr (.inl (by omega)))
                    subst hG
                    have hgt2 : (n : Int) < L.length := by omega
                    have d1 : decide ((n : Int) < (L.length : Int)) = true := decide_eq_true hgt2
                    have d2 : decide (n < L.length) = true := decide_eq_true hgt
                    clear hJ
                    go_wp2_with fail
                    go_quiet (fail)
                    go_wp2_with fail
                    go_ret3
                    exact GetP.none HR.out (hbw3.trans (by repeat' first | exact Below.refl _ _ | refine BaseP.below_drewN ?_ _))
                  · have hgt2 : ¬ (n : Int) < L.length := by omega
                    have HCK := Lib.hid (show c + k + 1 ≤ b.length by omega)
                    have HLN := Lib.hid (show L.length ≤ n by omega)
                    have HME := Lib.hid (show n - L.length < n - l.length by omega)
                    have d1 : decide ((n : Int) < (L.length : Int)) = false := decide_eq_false hgt2
                    have d2 : decide (n < L.length) = false := decide_eq_false hgt
                    by_cases hl0 : l.length = 0
                    · have hN : getR n (c + k + 1) L (b.drop (c + k + 1)) = G := by
                        rw [← HGC.out, getR_next hlt HQ.out HDR.out (by
                          have : l = [] := List.eq_nil_of_length_eq_zero hl0
                          subst this
                          simp at hLl1 hLl2 ⊢
                          omega), ← HL.out, HR2.out]
                      have HN := Lib.hid hN
                      have hgt3 : ¬ J < (L.length : Int) := by omega
                      have d3 : decide (J < (L.length : Int)) = false := decide_eq_false hgt3
                      clear hJ hN
                      go_wp2_with fail
                      go_quiet (fail)
                      go_wp2_with fail
                      go_roundw
                      case rel => exact ⟨L, c + k + 1, by go_num, HCK.out, HLN.out, HN.out, hown3.below (by repeat' first | exact Below.refl _ _ | refine BaseP.below_drewN ?_ _), hbw3.trans (by repeat' first | exact Below.refl _ _ | refine BaseP.below_drewN ?_ _)⟩
                      case measure => first | exact HME.out | (simp [vlen]; omega)
                    · have hgt3 : J < (L.length : Int) := by omega
                      have d3 : decide (J < (L.length : Int)) = true := decide_eq_true hgt3
                      have d4 : decide (j < L.length) = true := decide_eq_true (by omega)
                      obtain ⟨b4, o4, rfl, hc4⟩ := at_cell hA4.c (fun e => by rw [e] at hLl1; simp at hLl1; omega)
                      obtain ⟨y, Y, ey, hY, Y0, Y1, g1⟩ := hc4 (l.length - 1) (by omega)
                      obtain ⟨z, Z, ez, hZ, Z0, Z1, g2⟩ := hc4 (L.length - 1) (by omega)
                      have hj1 : 1 ≤ j := by omega
                      have hlast : l.getLast? = some y := by
                        rw [List.getLast?_eq_getElem?, ← ey, HL.out, List.getElem?_append_left (by omega)]
                      have hzx : z = x := by
                        rw [HLL.out, HL.out, List.getElem?_append_right (by omega), List.getElem?_replicate] at ez
                        split at ez
                        · injection ez with ez
                          exact ez.symm
                        · cases ez
                      have e1 : L.length - j - 1 = l.length - 1 := by omega
                      rw [← e1] at g1
                      subst hJ
                      by_cases hYZ : Y = Z
                      · have hG : G = none := by
                          rw [← HGC.out]
                          exact getR_bad hlt HQ.out HDR.out (.inr (.inr (by rw [hlast, (byte_eq hY hZ).1 hYZ, hzx])))
                        subst hG
                        have hnn : (Y == Z) = true := by simp [hYZ]
                        clear hc4 ey ez hY hZ hlast e1
                        go_wp2_with fail
                        go_quiet (fail)
                        go_wp2_with fail
                        go_ret3
                        exact GetP.none HR.out (hbw3.trans (by repeat' first | exact Below.refl _ _ | refine BaseP.below_drewN ?_ _))
                      · have hN : getR n (c + k + 1) L (b.drop (c + k + 1)) = G := by
                          rw [← HGC.out, getR_next hlt HQ.out HDR.out (by
                            intro hh
                            rcases hh with hh | hh | hh
                            · omega
                            · omega
                            · rw [hlast] at hh
                              injection hh with hh
                              exact hYZ ((byte_eq hY hZ).2 (hh.trans hzx.symm))), ← HL.out, HR2.out]
                        have HN := Lib.hid hN
                        have hnn : (Y == Z) = false := by simpa using hYZ
                        clear hc4 ey ez hY hZ hlast e1 hN
                        go_wp2_with fail
                        go_quiet (fail)
                        go_wp2_with fail
                        go_roundw
                        case rel => exact ⟨L, c + k + 1, by go_num, HCK.out, HLN.out, HN.out, hown3.below (by repeat' first | exact Below.refl _ _ | refine BaseP.below_drewN ?_ _), hbw3.trans (by repeat' first | exact Below.refl _ _ | refine BaseP.below_drewN ?_ _)⟩
                        case measure => first | exact HME.out | (simp [vlen]; omega)
    · have hle : n ≤ l.length := by omega
      have hG : G = some (l, c) := by rw [← HGC.out]; exact getR_done hle
      subst hG
      go_wp2_with fail
      go_ret3
      have hr := HR.out
      subst hr
      exact ⟨_, rfl, hown, hbw⟩

theorem r_get_c {w : World} {A : Option Addr} {b : List UInt8} {cp : Nat} {n : Int} {R : List UInt8 × Nat × Int} (hA : AtC w A b) (hcp : b.length ≤ cp) (hl : b.length ≤ 1000000) (hR : getA b n = R) :
    Calls Tryd.prog 38 #[.slice A b.length cp, .int .i64 n] w (GetP w R) := by
  by_cases hn : n < 0 ∨ 65536 < n
  · have hR2 : ([], 0, 2) = R := by rw [← hR, getA, if_pos hn]
    have HR := Lib.hid hR2
    clear hR hR2
    by_cases h0 : n < 0
    · clear hn
      go_enter Tryd.func38, Tryd.ntmps38
      go_wp2_with fail
      go_ret3
      exact GetP.none HR.out (Below.refl _ _)
    · have h1 : 65536 < n := by omega
      clear hn
      go_enter Tryd.func38, Tryd.ntmps38
      go_wp2_with fail
      go_ret3
      exact GetP.none HR.out (Below.refl _ _)
  · obtain ⟨k, rfl⟩ := Int.eq_ofNat_of_zero_le (show 0 ≤ n by omega)
    rw [getA, if_neg hn] at hR
    exact r_get_in hA hcp hl (by omega) hR
end RunsW
end Go.Proofs.YtdboebokjkkgkaaDoor
