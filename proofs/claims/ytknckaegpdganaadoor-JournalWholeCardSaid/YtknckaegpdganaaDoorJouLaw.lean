/-
  What the laws call: short, disks, writes, has, two, awake.
-/
import Derived.Laws.Bits128
import Derived.Test.YtknckaegpdganaaDoorJouLay
import Derived.Test.YtknckaegpdganaaDoorJouRef
import Derived.Test.YtknckaegpdganaaDoorJouRecover
import Derived.Test.YtknckaegpdganaaDoorSectorRef2
namespace Go.Proofs.YtknckaegpdganaaDoor
-- mine: whole_c same_c awake_c take_c step_c back_c
open Go.RowKit
set_option linter.unusedVariables false
set_option linter.unusedSimpArgs false
set_option maxRecDepth 100000
namespace JouW
open BlkP RowG FrS PushG JournalP SecP SecW JouP CrcW
/-- Few, if it says so. -/
def ShortP (n : Nat) (e : Ending) : Prop := ∃ r, e = .returned (.bool r) ∧ (r = true → n ≤ 100)
set_option maxHeartbeats 4000000 in
theorem short_c {w : World} {A : Option Addr} {n c : Nat} {L : List (Int × Sec)} (hR : Rd encL w (.slice A n c) L) (hn : L.length = n) :
    Calls Tryd.prog 6 #[.slice A n c] w fun e w' => ShortP n e ∧ w' = w := by
  have HR := Lib.hid hR
  have HN := Lib.hid hn
  have hnb : n ≤ 9223372036854775807 := by have := (RowE.rd_len hR); omega
  clear hR hn
  go_enter Tryd.func6, Tryd.ntmps6
  go_wp2_with fail
  go_loopw [3, 4] (fun v3 v4 wr => ∃ (i : Nat) (x : Int), v4 = .int .i64 (i : Int) ∧ v3 = .int .i64 x ∧ i ≤ n ∧ wr = w) (fun _ v _ => n - (RowKit.intOf v).toNat)
  case atStart => exact ⟨0, 0, rfl, rfl, Nat.zero_le _, by first | rfl | trivial⟩
  case round =>
    obtain ⟨i, x, rfl, rfl, hi, rfl⟩ := hrel
    by_cases hin : i < n
    · have hiI : (i : Int) < (n : Int) := by omega
      obtain ⟨⟨xa, xs⟩, hx⟩ : ∃ x, L[i]? = some x := ⟨_, List.getElem?_eq_getElem (by rw [HN.out]; exact hin)⟩
      obtain ⟨b, o, hbo, hlt, hcs⟩ := HR.out.at hx
      subst hbo
      have x1 := hcs 1 _ rfl
      have hk : encL.k = 2 := rfl
      rw [hk] at x1
      clear hcs hx hk
      go_wp2_with fail
      go_roundw
      case rel => exact ⟨i + 1, _, by first | rfl | (congr 1; omega), rfl, by omega, by first | rfl | trivial⟩
      case measure => first | (simp [RowKit.intOf]; done) | (simp [RowKit.intOf]; omega)
    · have hiI : ¬ (i : Int) < (n : Int) := by omega
      by_cases hx : x ≤ 60000
      · by_cases hn1 : n ≤ 100
        · have hnI : (n : Int) ≤ 100 := by omega
          go_wp2_with fail
          go_ret
          exact ⟨⟨_, rfl, fun _ => hn1⟩, by first | rfl | trivial⟩
        · have hnI : ¬ (n : Int) ≤ 100 := by omega
          go_wp2_with fail
          go_ret
          refine ⟨⟨false, by first | rfl | simp, fun q => by cases q⟩, by first | rfl | trivial⟩
      · go_wp2_with fail
        go_ret
        refine ⟨⟨false, by first | rfl | simp, fun q => by cases q⟩, by first | rfl | trivial⟩
def nS (n : Int) : Nat := 256 + (n % 128).toNat
/-- The disk that the laws begin with. -/
def oldD (n : Int) (L : List (Int × Sec)) : Dk := (moreTo (SecP.mk (nS n)) L L.length).mark
theorem nS_in (n : Int) : 256 ≤ nS n ∧ nS n ≤ 383 := by
  unfold nS
  omega
theorem oldD_n (n : Int) (L : List (Int × Sec)) : (oldD n L).n = nS n := by
  unfold oldD
  show (moreTo _ _ _).n = _
  rw [more_n]
  rfl
theorem oldD_ws (n : Int) (L : List (Int × Sec)) : (oldD n L).ws = [] := rfl
/-- Two disks. -/
def DisksP (w : World) (d : Dk) (m : Nat) (e : Ending) (w' : World) : Prop := ∃ pd pq S S2, e = .returned (.tuple #[.pointer (some ⟨pd, 0, none⟩), .pointer (some ⟨pq, 0, none⟩)]) ∧ Dsk w' w.heap.size pd d S ∧ Rsk w' w.heap.size pq m d S2 ∧ (∀ k, S2 k → ¬ S k) ∧ Below w.heap.size w w'
set_option maxHeartbeats 16000000 in
theorem disks_c {w : World} {A : Option Addr} {n c : Nat} {L : List (Int × Sec)} {x : Int} (hR : Rd encL w (.slice A n c) L) (hn : L.length = n) (hl : n ≤ 100) :
    Calls Tryd.prog 8 #[.int .i64 x, .slice A n c] w (DisksP w (oldD x L) n) := by
  have HR := Lib.hid hR
  have HN := Lib.hid hn
  obtain ⟨k, hk⟩ : ∃ k : Nat, nS x = 256 + k := ⟨(x % 128).toNat, rfl⟩
  have hk1 := nS_in x
  have ha : bits .and .i64 x 127 = (k : Int) := by
    rw [i64_and127]
    unfold nS at hk
    omega
  have HKE := Lib.hid hk
  have hk128 : k ≤ 127 := by omega
  have HOD := Lib.hid (show oldD x L = (moreTo (SecP.mk (256 + k)) L L.length).mark by unfold oldD; rw [hk])
  have HC := Lib.hid (show (256 : Int) + (k : Int) = ((256 + k : Nat) : Int) by omega)
  clear hR hn hk hk1
  go_enter Tryd.func8, Tryd.ntmps8
  go_wp2_with fail
  rw [HC.out]
  refine (New_i (k := 256 + k) rfl (by omega) (by omega)).mono ?_
  rintro e w1 ⟨pd, rfl, S1, hq1, hb1⟩
  have Q1 := Lib.hid hq1
  have B1 := Lib.hid hb1
  clear hq1 hb1
  go_wp2_with fail
  rw [HC.out]
  refine (rNew_c (k := 256 + k) (by omega) (by omega)).mono ?_
  rintro e w2 ⟨pq, rfl, S2, hq2, hb2⟩
  have B2 := Lib.hid (below_t B1.out hb2)
  have Q2 := Lib.hid (Q1.out.below hb2)
  have T2 := Lib.hid (hq2.mono B1.out.size (Nat.le_refl _))
  have D2 := Lib.hid (show ∀ k, S2 k → ¬ S1 k from fun k hk hk2 => by
    have := (hq2.ge hk).1
    have := (Q1.out.ge hk2).2
    omega)
  clear hq2 hb2
  go_wp2_with fail
  go_loopw [10] (fun v10 wr => ∃ (i : Nat) (Si Ti : Nat → Prop), v10 = .int .i64 (i : Int) ∧ i ≤ n ∧ Dsk wr w.heap.size pd (moreTo (SecP.mk (256 + k)) L i) Si ∧ Rsk wr w.heap.size pq i (moreTo (SecP.mk (256 + k)) L i) Ti ∧ (∀ k, Ti k → ¬ Si k) ∧ Below w.heap.size w wr) (fun v _ => n - (RowKit.intOf v).toNat)
  case atStart => exact ⟨0, S1, S2, rfl, Nat.zero_le _, Q2.out, T2.out, D2.out, B2.out⟩
  case round =>
    obtain ⟨i, Si, Ti, rfl, hi, hq, ht, hdj, hbr⟩ := hrel
    have QI := Lib.hid hq
    have TI := Lib.hid ht
    have DI := Lib.hid hdj
    have BR := Lib.hid hbr
    have hml := more_len (SecP.mk (256 + k)) L i
    have hml0 : (SecP.mk (256 + k)).ws.length = 0 := rfl
    obtain ⟨dd, hdd⟩ : ∃ dd, moreTo (SecP.mk (256 + k)) L i = dd := ⟨_, rfl⟩
    have HDD := Lib.hid hdd
    rw [hdd] at QI TI hml
    have HLEN := Lib.hid (show dd.ws.length ≤ 1000 by omega)
    clear hq ht hdj hdd hml hml0
    by_cases hin : i < n
    · have hiI : (i : Int) < (n : Int) := by omega
      obtain ⟨⟨xa, xs⟩, hx⟩ : ∃ x, L[i]? = some x := ⟨_, List.getElem?_eq_getElem (by rw [HN.out]; exact hin)⟩
      obtain ⟨b, o, hbo, hlt, hcs⟩ := HR.out.at hx
      subst hbo
      have X0 := Lib.hid (hcs 0 _ rfl)
      have X1 := Lib.hid (hcs 1 _ rfl)
      have hk2 : encL.k = 2 := rfl
      rw [hk2] at X0 X1
      have hol : o + i * 2 + 0 = o + i * 2 := rfl
      rw [hol] at X0
      have HSU := Lib.hid (moreTo_succ (d := SecP.mk (256 + k)) hx)
      have HBS := Lib.hid (show ¬ Si b from fun q => by have := (QI.out.ge q).1; omega)
      have HBT := Lib.hid (show ¬ Ti b from fun q => by have := (TI.out.ge q).1; omega)
      obtain ⟨d5, hd5⟩ : ∃ d5, writeD dd xa xs = d5 := ⟨_, rfl⟩
      obtain ⟨z5, hz5⟩ : ∃ z5, writeE dd xa xs = z5 := ⟨_, rfl⟩
      have HWD := Lib.hid hd5
      have HWE := Lib.hid hz5
      have x0 := (hbr.cell (p := ⟨b, o + i * 2, none⟩) hlt).trans X0.out
      have x1 := (hbr.cell (p := ⟨b, o + i * 2 + 1, none⟩) hlt).trans X1.out
      have xl := Nat.lt_of_lt_of_le hlt hbr.size
      clear hcs hx hk2 hol hd5 hz5 hbr
      go_wp2_with fail
      refine wp_region_noPanic ?_
      refine wp_region_held_drew (S := fun W => Fr Si wr W) (by kernel_rfl) ((Fr.refl Si wr).drew) (fun hHeld => ?_)
      refine wpAnyH_take (i := 0) (oi := ⟨some 41, _, _, _, _, _⟩) (v := .pointer (some ⟨pd, 0, none⟩)) rfl (by kernel_rfl) (by kernel_rfl) (by kernel_rfl) (fun _ _ _ h => h) (Or.inl ⟨by rfl, fun W hSW => by go_simp⟩) hHeld ?_
      simp only [Act.put, List.setIfInBounds_toArray, List.set_cons_zero, List.set_cons_succ]
      refine wpAnyH_take (i := 1) (oi := ⟨some 42, _, _, _, _, _⟩) (v := .slice (some ⟨b, o, none⟩) n c) rfl (by kernel_rfl) (by kernel_rfl) (by kernel_rfl) (fun _ _ _ h => h) (Or.inl ⟨by rfl, fun W hSW => by go_simp⟩) hHeld ?_
      simp only [Act.put, List.setIfInBounds_toArray, List.set_cons_zero, List.set_cons_succ]
      refine wpAnyH_take (i := 2) (oi := ⟨some 43, _, _, _, _, _⟩) (v := .int .i64 (i : Int)) rfl (by kernel_rfl) (by kernel_rfl) (by kernel_rfl) (fun _ _ _ h => h) (Or.inl ⟨by rfl, fun W hSW => by go_simp⟩) hHeld ?_
      simp only [Act.put, List.setIfInBounds_toArray, List.set_cons_zero, List.set_cons_succ]
      refine wpAnyH_take (i := 3) (oi := ⟨some 44, _, _, _, _, _⟩) (v := .pointer (some ⟨b, o + i * 2, none⟩)) rfl (by kernel_rfl) (by kernel_rfl) (by kernel_rfl) (fun _ _ _ h => h) (Or.inl ⟨by rfl, fun W hSW => by go_simp⟩) hHeld ?_
      simp only [Act.put, List.setIfInBounds_toArray, List.set_cons_zero, List.set_cons_succ]
      refine wpAnyH_take (i := 4) (oi := ⟨some 45, _, _, _, _, _⟩) (v := .pointer (some ⟨b, o + i * 2, none⟩)) rfl (by kernel_rfl) (by kernel_rfl) (by kernel_rfl) (fun _ _ _ h => h) (Or.inl ⟨by rfl, fun W hSW => by go_simp⟩) hHeld ?_
      simp only [Act.put, List.setIfInBounds_toArray, List.set_cons_zero, List.set_cons_succ]
      refine wpAnyH_take (i := 5) (oi := ⟨some 46, _, _, _, _, _⟩) (v := .int .i64 xa) rfl (by kernel_rfl) (by kernel_rfl) (by kernel_rfl) (fun _ _ _ h => h) (Or.inl ⟨by rfl, fun W hSW => by have a0 := (hSW.cell (p := ⟨b, o + i * 2, none⟩) xl HBS.out).trans x0; go_simp⟩) hHeld ?_
      simp only [Act.put, List.setIfInBounds_toArray, List.set_cons_zero, List.set_cons_succ]
      refine wpAnyH_take (i := 6) (oi := ⟨some 47, _, _, _, _, _⟩) (v := .slice (some ⟨b, o, none⟩) n c) rfl (by kernel_rfl) (by kernel_rfl) (by kernel_rfl) (fun _ _ _ h => h) (Or.inl ⟨by rfl, fun W hSW => by go_simp⟩) hHeld ?_
      simp only [Act.put, List.setIfInBounds_toArray, List.set_cons_zero, List.set_cons_succ]
      refine wpAnyH_take (i := 7) (oi := ⟨some 48, _, _, _, _, _⟩) (v := .int .i64 (i : Int)) rfl (by kernel_rfl) (by kernel_rfl) (by kernel_rfl) (fun _ _ _ h => h) (Or.inl ⟨by rfl, fun W hSW => by go_simp⟩) hHeld ?_
      simp only [Act.put, List.setIfInBounds_toArray, List.set_cons_zero, List.set_cons_succ]
      refine wpAnyH_take (i := 8) (oi := ⟨some 49, _, _, _, _, _⟩) (v := .pointer (some ⟨b, o + i * 2, none⟩)) rfl (by kernel_rfl) (by kernel_rfl) (by kernel_rfl) (fun _ _ _ h => h) (Or.inl ⟨by rfl, fun W hSW => by go_simp⟩) hHeld ?_
      simp only [Act.put, List.setIfInBounds_toArray, List.set_cons_zero, List.set_cons_succ]
      refine wpAnyH_take (i := 9) (oi := ⟨some 50, _, _, _, _, _⟩) (v := .pointer (some ⟨b, o + i * 2 + 1, none⟩)) rfl (by kernel_rfl) (by kernel_rfl) (by kernel_rfl) (fun _ _ _ h => h) (Or.inl ⟨by rfl, fun W hSW => by go_simp⟩) hHeld ?_
      simp only [Act.put, List.setIfInBounds_toArray, List.set_cons_zero, List.set_cons_succ]
      refine wpAnyH_take (i := 10) (oi := ⟨some 51, _, _, _, _, _⟩) (v := .string (str xs)) rfl (by kernel_rfl) (by kernel_rfl) (by kernel_rfl) (fun _ _ _ h => h) (Or.inl ⟨by rfl, fun W hSW => by have a0 := (hSW.cell (p := ⟨b, o + i * 2 + 1, none⟩) xl HBS.out).trans x1; go_simp⟩) hHeld ?_
      simp only [Act.put, List.setIfInBounds_toArray, List.set_cons_zero, List.set_cons_succ]
      refine wpAnyH_ready (rs := [11]) (by kernel_rfl) (by simp) ?_
      refine AllReadyH.cons (o := ⟨some 52, _, _, _, _, _⟩) rfl (fun K hK => ?_) AllReadyH.nil
      go_simp
      refine (Write_i (QI.out.below ((Below.refl _ wr).drew)) HLEN.out HWD.out HWE.out).mono ?_
      rintro e w8 ⟨rfl, S8, hq8, hf8, hn8⟩
      have Q8 := Lib.hid hq8
      have FR8 := Lib.hid (show Fr Si wr w8 from ((Fr.refl Si wr).drew).trans hf8 (fun k hk => .inl hk))
      have N8 := Lib.hid (show ∀ k, S8 k → Si k ∨ wr.heap.size ≤ k from hn8)
      clear hq8 hf8 hn8
      go_wp2_with fail
      refine hK.out _ _ FR8.out (fun hHeldE => ?_)
      clear hK K
      refine wpAnyH_done (by kernel_rfl) ?_ _
      refine NoPanic.normal ?_
      clear hHeldE
      have B8 := Lib.hid (BR.out.trans (QI.out.toBelow FR8.out))
      have T8 := Lib.hid (TI.out.fr FR8.out DI.out)
      have D8 := Lib.hid (show ∀ k, Ti k → ¬ S8 k from apart_turned (w := wr) (fun k hk => (TI.out.ge hk).2) DI.out N8.out)
      clear x0 x1 xl
      have x0 := (B8.out.cell (p := ⟨b, o + i * 2, none⟩) hlt).trans X0.out
      have x1 := (B8.out.cell (p := ⟨b, o + i * 2 + 1, none⟩) hlt).trans X1.out
      have xl := Nat.lt_of_lt_of_le hlt B8.out.size
      go_wp2_with fail
      refine wp_region_noPanic ?_
      refine wp_region_held_drew (S := fun W => Fr Ti w8 W) (by kernel_rfl) ((Fr.refl Ti w8).drew) (fun hHeld => ?_)
      refine wpAnyH_take (i := 0) (oi := ⟨some 53, _, _, _, _, _⟩) (v := .pointer (some ⟨pq, 0, none⟩)) rfl (by kernel_rfl) (by kernel_rfl) (by kernel_rfl) (fun _ _ _ h => h) (Or.inl ⟨by rfl, fun W hSW => by go_simp⟩) hHeld ?_
      simp only [Act.put, List.setIfInBounds_toArray, List.set_cons_zero, List.set_cons_succ]
      refine wpAnyH_take (i := 1) (oi := ⟨some 54, _, _, _, _, _⟩) (v := .slice (some ⟨b, o, none⟩) n c) rfl (by kernel_rfl) (by kernel_rfl) (by kernel_rfl) (fun _ _ _ h => h) (Or.inl ⟨by rfl, fun W hSW => by go_simp⟩) hHeld ?_
      simp only [Act.put, List.setIfInBounds_toArray, List.set_cons_zero, List.set_cons_succ]
      refine wpAnyH_take (i := 2) (oi := ⟨some 55, _, _, _, _, _⟩) (v := .int .i64 (i : Int)) rfl (by kernel_rfl) (by kernel_rfl) (by kernel_rfl) (fun _ _ _ h => h) (Or.inl ⟨by rfl, fun W hSW => by go_simp⟩) hHeld ?_
      simp only [Act.put, List.setIfInBounds_toArray, List.set_cons_zero, List.set_cons_succ]
      refine wpAnyH_take (i := 3) (oi := ⟨some 56, _, _, _, _, _⟩) (v := .pointer (some ⟨b, o + i * 2, none⟩)) rfl (by kernel_rfl) (by kernel_rfl) (by kernel_rfl) (fun _ _ _ h => h) (Or.inl ⟨by rfl, fun W hSW => by go_simp⟩) hHeld ?_
      simp only [Act.put, List.setIfInBounds_toArray, List.set_cons_zero, List.set_cons_succ]
      refine wpAnyH_take (i := 4) (oi := ⟨some 57, _, _, _, _, _⟩) (v := .pointer (some ⟨b, o + i * 2, none⟩)) rfl (by kernel_rfl) (by kernel_rfl) (by kernel_rfl) (fun _ _ _ h => h) (Or.inl ⟨by rfl, fun W hSW => by go_simp⟩) hHeld ?_
      simp only [Act.put, List.setIfInBounds_toArray, List.set_cons_zero, List.set_cons_succ]
      refine wpAnyH_take (i := 5) (oi := ⟨some 58, _, _, _, _, _⟩) (v := .int .i64 xa) rfl (by kernel_rfl) (by kernel_rfl) (by kernel_rfl) (fun _ _ _ h => h) (Or.inl ⟨by rfl, fun W hSW => by have a0 := (hSW.cell (p := ⟨b, o + i * 2, none⟩) xl HBT.out).trans x0; go_simp⟩) hHeld ?_
      simp only [Act.put, List.setIfInBounds_toArray, List.set_cons_zero, List.set_cons_succ]
      refine wpAnyH_take (i := 6) (oi := ⟨some 59, _, _, _, _, _⟩) (v := .slice (some ⟨b, o, none⟩) n c) rfl (by kernel_rfl) (by kernel_rfl) (by kernel_rfl) (fun _ _ _ h => h) (Or.inl ⟨by rfl, fun W hSW => by go_simp⟩) hHeld ?_
      simp only [Act.put, List.setIfInBounds_toArray, List.set_cons_zero, List.set_cons_succ]
      refine wpAnyH_take (i := 7) (oi := ⟨some 60, _, _, _, _, _⟩) (v := .int .i64 (i : Int)) rfl (by kernel_rfl) (by kernel_rfl) (by kernel_rfl) (fun _ _ _ h => h) (Or.inl ⟨by rfl, fun W hSW => by go_simp⟩) hHeld ?_
      simp only [Act.put, List.setIfInBounds_toArray, List.set_cons_zero, List.set_cons_succ]
      refine wpAnyH_take (i := 8) (oi := ⟨some 61, _, _, _, _, _⟩) (v := .pointer (some ⟨b, o + i * 2, none⟩)) rfl (by kernel_rfl) (by kernel_rfl) (by kernel_rfl) (fun _ _ _ h => h) (Or.inl ⟨by rfl, fun W hSW => by go_simp⟩) hHeld ?_
      simp only [Act.put, List.setIfInBounds_toArray, List.set_cons_zero, List.set_cons_succ]
      refine wpAnyH_take (i := 9) (oi := ⟨some 62, _, _, _, _, _⟩) (v := .pointer (some ⟨b, o + i * 2 + 1, none⟩)) rfl (by kernel_rfl) (by kernel_rfl) (by kernel_rfl) (fun _ _ _ h => h) (Or.inl ⟨by rfl, fun W hSW => by go_simp⟩) hHeld ?_
      simp only [Act.put, List.setIfInBounds_toArray, List.set_cons_zero, List.set_cons_succ]
      refine wpAnyH_take (i := 10) (oi := ⟨some 63, _, _, _, _, _⟩) (v := .string (str xs)) rfl (by kernel_rfl) (by kernel_rfl) (by kernel_rfl) (fun _ _ _ h => h) (Or.inl ⟨by rfl, fun W hSW => by have a0 := (hSW.cell (p := ⟨b, o + i * 2 + 1, none⟩) xl HBT.out).trans x1; go_simp⟩) hHeld ?_
      simp only [Act.put, List.setIfInBounds_toArray, List.set_cons_zero, List.set_cons_succ]
      refine wpAnyH_ready (rs := [11]) (by kernel_rfl) (by simp) ?_
      refine AllReadyH.cons (o := ⟨some 64, _, _, _, _, _⟩) rfl (fun K hK => ?_) AllReadyH.nil
      go_simp
      refine (rWrite_c (rsk_drewJ T8.out) (by omega)).mono ?_
      rintro e w9 ⟨he, S9, hq9, hf9, hn9⟩
      rw [HWE.out] at he
      rw [HWD.out] at hq9
      subst he
      have T9 := Lib.hid hq9
      have FR9 := Lib.hid (show Fr Ti w8 w9 from ((Fr.refl Ti w8).drew).trans hf9 (fun k hk => .inl hk))
      have N9 := Lib.hid (show ∀ k, S9 k → Ti k ∨ w8.heap.size ≤ k from hn9)
      clear hq9 hf9 hn9
      go_wp2_with fail
      refine hK.out _ _ FR9.out (fun hHeldE => ?_)
      clear hK K
      refine wpAnyH_done (by kernel_rfl) ?_ _
      refine NoPanic.normal ?_
      clear hHeldE
      have B9 := Lib.hid (B8.out.trans (T8.out.toBelow FR9.out))
      have HQD := Lib.hid (show ∀ k, S8 k → ¬ Ti k from fun k h1 h2 => D8.out k h2 h1)
      have Q9 := Lib.hid (Q8.out.fr FR9.out HQD.out)
      have D9 := Lib.hid (show ∀ k, S9 k → ¬ S8 k from fun k h1 h2 => by
        rcases N9.out k h1 with q | q
        · exact D8.out k q h2
        · have := (Q8.out.ge h2).2
          omega)
      have HDN := Lib.hid (show d5 = moreTo (SecP.mk (256 + k)) L (i + 1) by rw [HSU.out, HDD.out, HWD.out])
      clear x0 x1 xl
      go_wp2_with fail
      go_roundw
      case rel => exact ⟨i + 1, S8, S9, by first | rfl | (congr 1; omega), by omega, by rw [← HDN.out]; exact Q9.out, by rw [← HDN.out]; exact T9.out, D9.out, B9.out⟩
      case measure => first | (simp [RowKit.intOf]; done) | (simp [RowKit.intOf]; omega)
    · have hie : i = n := by omega
      have hiI : ¬ (i : Int) < (n : Int) := by omega
      have HE := Lib.hid (show dd.mark = oldD x L by rw [HOD.out, HN.out, ← hie, HDD.out])
      have HIE := Lib.hid hie
      clear hin hie hbr
      go_wp2_with fail
      refine (Mark_c QI.out).mono ?_
      rintro e w5 ⟨rfl, S5, hq5, hf5, hn5⟩
      have Q5 := Lib.hid hq5
      have B5 := Lib.hid (BR.out.trans (QI.out.toBelow hf5))
      have T5 := Lib.hid (TI.out.fr hf5 DI.out)
      have D5 := Lib.hid (show ∀ k, Ti k → ¬ S5 k from apart_turned (w := wr) (fun k hk => (TI.out.ge hk).2) DI.out hn5)
      clear hq5 hf5 hn5
      go_wp2_with fail
      refine (rMark_c T5.out (by omega)).mono ?_
      rintro e w6 ⟨rfl, S6, hq6, hf6, hn6⟩
      have T6 := Lib.hid hq6
      have B6 := Lib.hid (B5.out.trans (T5.out.toBelow hf6))
      have Q6 := Lib.hid (Q5.out.fr hf6 (fun k h1 h2 => D5.out k h2 h1))
      have D6 := Lib.hid (show ∀ k, S6 k → ¬ S5 k from fun k h1 h2 => by
        rcases hn6 k h1 with q | q
        · exact D5.out k q h2
        · have := (Q5.out.ge h2).2
          omega)
      clear hq6 hf6 hn6
      go_wp2_with fail
      refine bodyPost_ret (v := .tuple #[.pointer (some ⟨pd, 0, none⟩), .pointer (some ⟨pq, 0, none⟩)]) (by simp [results, Tryd.results8, go_sem]) rfl ?_
      rw [HE.out] at Q6 T6
      rw [HIE.out] at T6
      exact ⟨pd, pq, S5, S6, rfl, Q6.out, T6.out, D6.out, B6.out⟩
theorem str_one : (⟨#[0]⟩ : ByteArray).data.toList = [0] := rfl
theorem repeat_zero : ∀ k, Lib.repeatL [0] k = List.replicate k (0 : UInt8)
  | 0 => rfl
  | k + 1 => by
    show [0] ++ Lib.repeatL [0] k = _
    rw [repeat_zero k]
    rfl
theorem zeros_c {w : World} {k : Nat} {z : Int} (hz : z = (k : Int)) (hk : k ≤ 512) :
    Calls Tryd.prog 25 #[.string ⟨#[0]⟩, .int .i64 z] w fun e w' => e = .returned (.string (str (List.replicate k 0))) ∧ Below w.heap.size w w' := by
  subst hz
  refine (repeat_c ⟨#[0]⟩ k w (by omega) (by rw [show (⟨#[0]⟩ : ByteArray).size = 1 from rfl, Nat.one_mul]; omega)).mono ?_
  rintro e w1 ⟨rfl, hb⟩
  rw [str_one, repeat_zero]
  exact ⟨rfl, hb⟩
theorem cat_zeros {s : Sec} : str s ++ str (List.replicate (512 - s.length) 0) = str (pad s) := by
  unfold str
  rw [ByteArray.mk_append_mk]
  rfl
section
variable {w : World} {B pd : Nat} {d : Dk} {S : Nat → Prop}
set_option maxHeartbeats 16000000 in
theorem has_c {i : Int} {s : Sec} (h : Dsk w B pd d S) (hi0 : 0 ≤ i) (hi : i < d.n) (hs : s.length ≤ 512) (hd : readD d i = pad s) :
    Calls Tryd.prog 21 #[.pointer (some ⟨pd, 0, none⟩), .int .i64 i, .string (str s)] w fun e w' => e = .returned (.bool true) ∧ Below w.heap.size w w' := by
  have Q := Lib.hid h
  have HD := Lib.hid hd
  have HZ := Lib.hid (show readE d i = 0 by
    unfold readE
    rw [if_pos (inD_iff.2 ⟨hi0, hi⟩)])
  have HLS := Lib.hid hs
  have z1 := str_size s
  have hi1 : (512 : Int) - (s.length : Int) = ((512 - s.length : Nat) : Int) := by omega
  have HI := Lib.hid hi1
  clear h hd hi1 hi0 hi
  go_enter Tryd.func21, Tryd.ntmps21
  go_wp2_with fail
  refine (Read_i Q.out HD.out HZ.out).mono ?_
  rintro e w1 ⟨rfl, hb1⟩
  have B1 := Lib.hid hb1
  clear hb1
  go_wp2_with fail
  refine (zeros_c HI.out (by omega)).mono ?_
  rintro e w2 ⟨rfl, hb2⟩
  have B2 := Lib.hid (below_t B1.out hb2)
  have e1 := cat_zeros (s := s)
  have e2 := str_size (List.replicate (512 - s.length) (0 : UInt8))
  rw [List.length_replicate] at e2
  have e4 : ¬ (9223372036854775807 < s.length + (512 - s.length)) := by have := HLS.out; omega
  clear hb2 hs
  go_wp2_with fail
  go_ret
  exact ⟨by first | rfl | simp, B2.out⟩
set_option maxHeartbeats 16000000 in
theorem writes_c {A : Option Addr} {n c2 : Nat} {ls : List Int} (h : Dsk w B pd d S) (hl : d.ws.length ≤ 1000) (hR : Rd RowG.encI w (.slice A n c2) ls) (hn : ls.length = n) (hd : d.ws.map (fun x => (x.1 : Int)) = ls) :
    Calls Tryd.prog 20 #[.pointer (some ⟨pd, 0, none⟩), .slice A n c2] w fun e w' => e = .returned (.bool true) ∧ Below w.heap.size w w' := by
  have Q := Lib.hid h
  have HR := Lib.hid hR
  have HN := Lib.hid hn
  have HWL := Lib.hid (show d.ws.length = n by rw [← hn, ← hd, List.length_map])
  have HD := Lib.hid hd
  have hnb : n ≤ 1000 := by rw [← HWL.out]; exact hl
  clear h hR hn hd
  go_enter Tryd.func20, Tryd.ntmps20
  go_wp2_with fail
  refine (Log_c Q.out hl).mono ?_
  rintro e w1 ⟨v1, rfl, ho1, hb1⟩
  have B1 := Lib.hid hb1
  have O1 := Lib.hid ho1
  obtain ⟨A1, c1, hv1, hc1, _, hA1⟩ := ho1.form HWL.out
  subst hv1
  have HA1 := Lib.hid hA1
  clear ho1 hb1 hA1
  go_wp2_with fail
  go_loopw [6] (fun v6 wr => ∃ i : Nat, v6 = .int .i64 (i : Int) ∧ i ≤ n ∧ Below w1.heap.size w1 wr) (fun v _ => n - (RowKit.intOf v).toNat)
  case atStart => exact ⟨0, rfl, Nat.zero_le _, Below.refl _ _⟩
  case round =>
    obtain ⟨i, rfl, hi, hbr⟩ := hrel
    have BR := Lib.hid hbr
    by_cases hin : i < n
    · have hiI : (i : Int) < (n : Int) := by omega
      obtain ⟨g1, rfl, hg1, hg2⟩ := HA1.out (by omega)
      obtain ⟨⟨xa, xs⟩, hx⟩ : ∃ x, d.ws[i]? = some x := ⟨_, List.getElem?_eq_getElem (by rw [HWL.out]; exact hin)⟩
      have hy : ls[i]? = some (xa : Int) := by rw [← HD.out, List.getElem?_map, hx]; rfl
      have hk : encA.k = 2 := rfl
      have x0 := (hbr.cell (p := ⟨g1, i * 2 + 0, none⟩) hg2).trans (O1.out.cell (j := 0) hx rfl)
      rw [show i * 2 + 0 = i * 2 from rfl] at x0
      have xl := Nat.lt_of_lt_of_le hg2 hbr.size
      obtain ⟨b2, o2, hbo, hlt, hcs⟩ := HR.out.at hy
      subst hbo
      have y0 := (hbr.cell (p := ⟨b2, o2 + i * 1 + 0, none⟩) (Nat.lt_of_lt_of_le hlt B1.out.size)).trans ((B1.out.cell (p := ⟨b2, o2 + i * 1 + 0, none⟩) hlt).trans (hcs 0 _ rfl))
      rw [show o2 + i * 1 + 0 = o2 + i by omega] at y0
      have yl := Nat.lt_of_lt_of_le hlt (Nat.le_trans B1.out.size hbr.size)
      clear hcs hx hk hy hbr
      go_wp2_with fail
      refine wp_region_noPanic ?_
      refine wp_region_held_drew (S := fun W => Below wr.heap.size wr W) (by kernel_rfl) ((Below.refl _ wr).drew) (fun hHeld => ?_)
      refine wpAnyH_take (i := 0) (oi := ⟨some 20, _, _, _, _, _⟩) (v := .slice (some ⟨g1, 0, none⟩) n c1) rfl (by kernel_rfl) (by kernel_rfl) (by kernel_rfl) (fun _ _ _ h => h) (Or.inl ⟨by rfl, fun W hSW => by go_simp⟩) hHeld ?_
      simp only [Act.put, List.setIfInBounds_toArray, List.set_cons_zero, List.set_cons_succ]
      refine wpAnyH_take (i := 1) (oi := ⟨some 21, _, _, _, _, _⟩) (v := .int .i64 (i : Int)) rfl (by kernel_rfl) (by kernel_rfl) (by kernel_rfl) (fun _ _ _ h => h) (Or.inl ⟨by rfl, fun W hSW => by go_simp⟩) hHeld ?_
      simp only [Act.put, List.setIfInBounds_toArray, List.set_cons_zero, List.set_cons_succ]
      refine wpAnyH_take (i := 2) (oi := ⟨some 22, _, _, _, _, _⟩) (v := .pointer (some ⟨g1, i * 2, none⟩)) rfl (by kernel_rfl) (by kernel_rfl) (by kernel_rfl) (fun _ _ _ h => h) (Or.inl ⟨by rfl, fun W hSW => by go_simp⟩) hHeld ?_
      simp only [Act.put, List.setIfInBounds_toArray, List.set_cons_zero, List.set_cons_succ]
      refine wpAnyH_take (i := 3) (oi := ⟨some 23, _, _, _, _, _⟩) (v := .pointer (some ⟨g1, i * 2, none⟩)) rfl (by kernel_rfl) (by kernel_rfl) (by kernel_rfl) (fun _ _ _ h => h) (Or.inl ⟨by rfl, fun W hSW => by go_simp⟩) hHeld ?_
      simp only [Act.put, List.setIfInBounds_toArray, List.set_cons_zero, List.set_cons_succ]
      refine wpAnyH_take (i := 4) (oi := ⟨some 24, _, _, _, _, _⟩) (v := .int .i64 (xa : Int)) rfl (by kernel_rfl) (by kernel_rfl) (by kernel_rfl) (fun _ _ _ h => h) (Or.inl ⟨by rfl, fun W hSW => by have a0 := (hSW.cell (p := ⟨g1, i * 2, none⟩) xl).trans x0; go_simp⟩) hHeld ?_
      simp only [Act.put, List.setIfInBounds_toArray, List.set_cons_zero, List.set_cons_succ]
      refine wpAnyH_take (i := 5) (oi := ⟨some 25, _, _, _, _, _⟩) (v := .slice (some ⟨b2, o2, none⟩) n c2) rfl (by kernel_rfl) (by kernel_rfl) (by kernel_rfl) (fun _ _ _ h => h) (Or.inl ⟨by rfl, fun W hSW => by go_simp⟩) hHeld ?_
      simp only [Act.put, List.setIfInBounds_toArray, List.set_cons_zero, List.set_cons_succ]
      refine wpAnyH_take (i := 6) (oi := ⟨some 26, _, _, _, _, _⟩) (v := .int .i64 (i : Int)) rfl (by kernel_rfl) (by kernel_rfl) (by kernel_rfl) (fun _ _ _ h => h) (Or.inl ⟨by rfl, fun W hSW => by go_simp⟩) hHeld ?_
      simp only [Act.put, List.setIfInBounds_toArray, List.set_cons_zero, List.set_cons_succ]
      refine wpAnyH_take (i := 7) (oi := ⟨some 27, _, _, _, _, _⟩) (v := .pointer (some ⟨b2, o2 + i, none⟩)) rfl (by kernel_rfl) (by kernel_rfl) (by kernel_rfl) (fun _ _ _ h => h) (Or.inl ⟨by rfl, fun W hSW => by go_simp⟩) hHeld ?_
      simp only [Act.put, List.setIfInBounds_toArray, List.set_cons_zero, List.set_cons_succ]
      refine wpAnyH_take (i := 8) (oi := ⟨some 28, _, _, _, _, _⟩) (v := .int .i64 (xa : Int)) rfl (by kernel_rfl) (by kernel_rfl) (by kernel_rfl) (fun _ _ _ h => h) (Or.inl ⟨by rfl, fun W hSW => by have a0 := (hSW.cell (p := ⟨b2, o2 + i, none⟩) yl).trans y0; go_simp⟩) hHeld ?_
      simp only [Act.put, List.setIfInBounds_toArray, List.set_cons_zero, List.set_cons_succ]
      refine wpAnyH_take (i := 9) (oi := ⟨some 29, _, _, _, _, _⟩) (v := .bool false) rfl (by kernel_rfl) (by kernel_rfl) (by kernel_rfl) (fun _ _ _ h => h) (Or.inl ⟨by rfl, fun W hSW => by go_simp⟩) hHeld ?_
      simp only [Act.put, List.setIfInBounds_toArray, List.set_cons_zero, List.set_cons_succ]
      refine wpAnyH_done (by kernel_rfl) ?_ _
      refine NoPanic.normal ?_
      go_wp2_with fail
      go_roundw
      case rel => exact ⟨i + 1, by first | rfl | (congr 1; omega), by omega, below_t BR.out hHeld⟩
      case measure => first | (simp [RowKit.intOf]; done) | (simp [RowKit.intOf]; omega)
    · have hiI : ¬ (i : Int) < (n : Int) := by omega
      clear hbr
      go_wp2_with fail
      go_ret
      exact ⟨rfl, below_t B1.out BR.out⟩
end
end JouW
end Go.Proofs.YtknckaegpdganaaDoor


/-
  A disk with a group of two; what is known to be awake.
-/
namespace Go.Proofs.YtknckaegpdganaaDoor
-- mine: whole_c same_c awake_c take_c step_c back_c
open Go.RowKit
set_option linter.unusedVariables false
set_option linter.unusedSimpArgs false
set_option maxRecDepth 100000
namespace JouW
open BlkP RowG FrS PushG JournalP SecP SecW JouP CrcW
def twoL : List (Int × Sec) := [(9, [97]), (8, [98])]
def twoG : Grp := [(9, [97]), (8, [98])]
def twoD : Dk := (oldD 0 []).adds (putWs 1 (oldD 0 []).now twoG)
theorem two_pre : preJ 1 (oldD 0 []).now = [] := if_pos rfl
theorem two_ws : twoD.ws = bods 2 twoG ++ (1, pad (commitN twoG)) :: homes 1 twoG := by
  unfold twoD putWs
  rw [two_pre]
  rfl
theorem two_n : twoD.n = 256 := rfl
theorem two_putE : putE (oldD 0 []) 1 2 twoL = 0 := by decide +kernel
theorem two_putD : putD (oldD 0 []) 1 2 twoL = twoD := if_pos two_putE
theorem two_now {i : Nat} : twoD.now i = app zero (bods 2 twoG ++ (1, pad (commitN twoG)) :: homes 1 twoG) i := by
  show app (oldD 0 []).base twoD.ws i = _
  rw [two_ws]
  rfl
theorem two_9 : readD twoD 9 = pad [97] := by
  unfold readD
  rw [if_pos (by decide), show (9 : Int).toNat = 9 from rfl, two_now]
  rfl
theorem two_8 : readD twoD 8 = pad [98] := by
  unfold readD
  rw [if_pos (by decide), show (8 : Int).toNat = 8 from rfl, two_now]
  rfl
theorem two_1 : readD twoD 1 = pad [] := by
  unfold readD
  rw [if_pos (by decide), show (1 : Int).toNat = 1 from rfl, two_now]
  rfl
theorem two_map : twoD.ws.map (fun x => (x.1 : Int)) = [2, 3, 1, 9, 8, 1] := by
  rw [two_ws]
  rfl
theorem two_len : twoD.ws.length = 6 := by
  rw [two_ws]
  rfl
/-- A row told cell by cell. -/
theorem rd_lit {α : Type} {e : Enc α} {w : World} {b : Nat} {T : TypeId} {n : Nat} {l : List α} (h : Blk w b T (flat e l)) (hn : l.length = n) (hc : n ≤ 9223372036854775807) : Rd e w (.slice (some ⟨b, 0, none⟩) n n) l := by
  subst hn
  refine ⟨_, _, rfl, Nat.le_refl _, hc, fun _ => ⟨b, 0, rfl, h.lt, fun i x hx j u hu => ?_⟩⟩
  rw [Nat.zero_add]
  refine h.cell ?_
  rw [flat_get hx (by rw [← e.len x]; exact (List.getElem?_eq_some_iff.1 hu).1)]
  exact hu
def TwoP (w : World) (e : Ending) (w' : World) : Prop := ∃ pd S, e = .returned (.tuple #[.pointer (some ⟨pd, 0, none⟩), .int .i64 0]) ∧ Dsk w' w.heap.size pd twoD S ∧ Below w.heap.size w w'
set_option maxHeartbeats 16000000 in
theorem two_c {w : World} (hT : Tab w) :
    Calls Tryd.prog 16 #[] w (TwoP w) := by
  have HT := Lib.hid hT
  have hg := hT.size
  clear hT
  go_enter Tryd.func16, Tryd.ntmps16
  go_wp2_with fail
  refine (disks_c (L := []) (A := none) (n := 0) (c := 0) (x := 0) (Rd.nil _ _) rfl (by omega)).mono ?_
  rintro e w1 ⟨pd, pq, S, S2, rfl, hq, ht, hdj, hb⟩
  have Q := Lib.hid hq
  have B1 := Lib.hid hb
  have hz1 := hb.size
  clear hq ht hdj hb
  go_wp2_with fail
  refine calls_named (S := fun W => Below w1.heap.size w1 W ∧ Blk W w1.heap.size TA (flat encL twoL)) ⟨by (repeat' (first | (with_reducible exact Below.refl _ _) | (with_reducible refine Below.setCell ?_ (by (first | omega | (simp; done) | (simp; omega))) _) | (with_reducible refine Below.alloc ?_ (by (first | omega | (simp; done) | (simp; omega))) _) | (with_reducible refine Below.drew ?_) | (with_reducible refine below_drewN ?_ _))), by show Blk _ _ _ [.int .i64 9, .string (str [97]), .int .i64 8, .string (str [98])]; (repeat' (first | (with_reducible refine BlkP.Blk.drew ?_) | (with_reducible refine BlkP.Blk.drewN ?_ _) | (with_reducible refine BlkP.Blk.setAt (us := ?_) (by first | omega | (simp; done) | (simp; omega)) rfl ?_ ?_) | (with_reducible refine BlkP.Blk.otherAt ?_ (by first | omega | (simp; done) | (simp; omega))) | (with_reducible refine BlkP.Blk.newA' (by first | omega | (simp; done) | (simp; omega)) rfl) | (with_reducible refine BlkP.Blk.alloc ?_ _) | (exact rfl)))⟩ (fun w2 hq2 => ?_)
  obtain ⟨hb2, hk2⟩ := hq2
  have Q2 := Lib.hid (Q.out.below hb2)
  have B2 := Lib.hid (below_t B1.out hb2)
  have R2 := Lib.hid (rd_lit (n := 2) hk2 rfl (by omega))
  have HLT := Lib.hid (show ∀ k, S k → k < w1.heap.size from fun k hk => (Q.out.ge hk).2)
  clear hb2 hk2
  refine (Put_c (a := 1) (m := 2) (L := twoL) (HT.out.below B2.out) hg Q2.out (by rw [oldD_ws]; simp) R2.out rfl (fun _ g hg q => by
    have hg' : w1.heap.size = g := by simpa [Value.ownBlock] using hg
    have := HLT.out g q
    omega) two_putE two_putD).mono ?_
  rintro e w3 ⟨rfl, S3, hq3, hf3, hn3⟩
  have Q3 := Lib.hid hq3
  have B3 := Lib.hid (B2.out.trans (Q2.out.toBelow hf3))
  clear hq3 hf3 hn3
  go_wp2_with fail
  refine bodyPost_ret (v := .tuple #[.pointer (some ⟨pd, 0, none⟩), .int .i64 0]) (by simp [results, Tryd.results16, go_sem]) rfl ?_
  exact ⟨pd, S3, rfl, Q3.out, B3.out⟩
set_option maxHeartbeats 16000000 in
theorem awake_c {w : World} (hT : Tab w) :
    Calls Tryd.prog 7 #[] w fun e w' => e = .returned (.bool true) ∧ Below w.heap.size w w' := by
  have HT := Lib.hid hT
  clear hT
  go_enter Tryd.func7, Tryd.ntmps7
  go_wp2_with fail
  refine (two_c HT.out).mono ?_
  rintro e w1 ⟨pd, S, rfl, hq, hb⟩
  have Q1 := Lib.hid hq
  have B1 := Lib.hid hb
  clear hq hb
  go_wp2_with fail
  refine calls_named (S := fun W => Below w1.heap.size w1 W ∧ Blk W w1.heap.size 3 (flat RowG.encI [2, 3, 1, 9, 8, 1])) ⟨by (repeat' (first | (with_reducible exact Below.refl _ _) | (with_reducible refine Below.setCell ?_ (by (first | omega | (simp; done) | (simp; omega))) _) | (with_reducible refine Below.alloc ?_ (by (first | omega | (simp; done) | (simp; omega))) _) | (with_reducible refine Below.drew ?_) | (with_reducible refine below_drewN ?_ _))), by show Blk _ _ _ [.int .i64 2, .int .i64 3, .int .i64 1, .int .i64 9, .int .i64 8, .int .i64 1]; (repeat' (first | (with_reducible refine BlkP.Blk.drew ?_) | (with_reducible refine BlkP.Blk.drewN ?_ _) | (with_reducible refine BlkP.Blk.setAt (us := ?_) (by first | omega | (simp; done) | (simp; omega)) rfl ?_ ?_) | (with_reducible refine BlkP.Blk.otherAt ?_ (by first | omega | (simp; done) | (simp; omega))) | (with_reducible refine BlkP.Blk.newA' (by first | omega | (simp; done) | (simp; omega)) rfl) | (with_reducible refine BlkP.Blk.alloc ?_ _) | (exact rfl)))⟩ (fun w2 hq2 => ?_)
  obtain ⟨hb2, hk2⟩ := hq2
  have Q2 := Lib.hid (Q1.out.below hb2)
  have B2 := Lib.hid (below_t B1.out hb2)
  have R2 := Lib.hid (rd_lit (n := 6) hk2 rfl (by omega))
  clear hb2 hk2
  refine (writes_c Q2.out (by rw [two_len]; omega) R2.out rfl two_map).mono ?_
  rintro e w3 ⟨rfl, hb3⟩
  have Q3 := Lib.hid (Q2.out.below hb3)
  have B3 := Lib.hid (below_t B2.out hb3)
  clear hb3
  go_wp2_with fail
  refine (has_c (i := 9) (s := [97]) Q3.out (by omega) (by rw [two_n]; omega) (by simp) two_9).mono ?_
  rintro e w4 ⟨rfl, hb4⟩
  have Q4 := Lib.hid (Q3.out.below hb4)
  have B4 := Lib.hid (below_t B3.out hb4)
  clear hb4
  go_wp2_with fail
  refine (has_c (i := 8) (s := [98]) Q4.out (by omega) (by rw [two_n]; omega) (by simp) two_8).mono ?_
  rintro e w5 ⟨rfl, hb5⟩
  have Q5 := Lib.hid (Q4.out.below hb5)
  have B5 := Lib.hid (below_t B4.out hb5)
  clear hb5
  go_wp2_with fail
  refine (has_c (i := 1) (s := []) Q5.out (by omega) (by rw [two_n]; omega) (by simp) two_1).mono ?_
  rintro e w6 ⟨rfl, hb6⟩
  have B6 := Lib.hid (below_t B5.out hb6)
  clear hb6
  go_wp2_with fail
  refine Size_c.mono ?_
  rintro e w7 ⟨rfl, hw⟩
  obtain rfl := hw.symm
  rw [show sizeJ 2 = 3 from rfl]
  go_wp2_with fail
  go_ret
  exact ⟨rfl, B6.out⟩
end JouW
end Go.Proofs.YtknckaegpdganaaDoor
