/-
  Recover and Put, whatever journal, group and disk.
-/
import Derived.Test.YtknckaegpdganaaDoorJouNamed
import Derived.Test.YtknckaegpdganaaDoorJouSmall
import Derived.Test.YtknckaegpdganaaDoorHeldP
namespace Go.Proofs.YtknckaegpdganaaDoor
-- mine: whole_c same_c awake_c take_c step_c back_c
open Go.RowKit
set_option linter.unusedVariables false
set_option linter.unusedSimpArgs false
set_option maxRecDepth 100000
namespace JouW
open BlkP RowG FrS PushG JournalP SecP SecW JouP CrcW
/-! ### Plainly -/
noncomputable def stJ (d : Dk) (a m : Int) : Grp := standJ d.n a.toNat m.toNat d.now
noncomputable def recD (d : Dk) (a m : Int) : Dk := if openE d.n a m = 0 then d.adds (recWs a.toNat (stJ d a m)) else d
noncomputable def recB (d : Dk) (a m : Int) : Bool := decide (openE d.n a m = 0) && !(stJ d a m).isEmpty
def putE (d : Dk) (a m : Int) (L : List (Int × Sec)) : Int := if openE d.n a m = 0 then checkE d.n a.toNat m.toNat L else openE d.n a m
def putD (d : Dk) (a m : Int) (L : List (Int × Sec)) : Dk := if putE d a m L = 0 then d.adds (putWs a.toNat d.now (natG L)) else d
theorem rec_bad {d : Dk} {a m z : Int} (h : openE d.n a m = z) (hz : z ≠ 0) : recD d a m = d ∧ recB d a m = false := by
  unfold recD recB
  rw [h, if_neg hz, decide_eq_false hz]
  exact ⟨rfl, rfl⟩
theorem rec_good {d : Dk} {a m : Nat} (h : openE d.n a m = 0) : recD d a m = d.adds (recWs a (standJ d.n a m d.now)) ∧ recB d a m = !(standJ d.n a m d.now).isEmpty := by
  unfold recD recB
  rw [h, if_pos rfl, decide_eq_true rfl]
  exact ⟨rfl, rfl⟩
theorem put_bad {d : Dk} {a m z : Int} {L : List (Int × Sec)} (h : openE d.n a m = z) (hz : z ≠ 0) : putE d a m L = z ∧ putD d a m L = d := by
  have e : putE d a m L = z := by
    unfold putE
    rw [h, if_neg hz]
  refine ⟨e, ?_⟩
  unfold putD
  rw [e, if_neg hz]
theorem put_good {d : Dk} {a m : Nat} {L : List (Int × Sec)} {z : Int} (h : openE d.n a m = 0) (hz : checkE d.n a m L = z) : putE d a m L = z ∧ putD d a m L = (if z = 0 then d.adds (putWs a d.now (natG L)) else d) := by
  have e : putE d a m L = z := by
    unfold putE
    rw [h, if_pos rfl]
    exact hz
  refine ⟨e, ?_⟩
  unfold putD
  rw [e]
  rfl
section
variable {w : World} {B pd : Nat} {d : Dk} {S : Nat → Prop}
set_option maxHeartbeats 16000000 in
theorem Recover_c {a m : Int} {b : Bool} {d5 : Dk} {z : Int} (hT : Tab w) (h : Dsk w B pd d S) (hl : d.ws.length ≤ 900) (hb : recB d a m = b) (hd : recD d a m = d5) (hz : openE d.n a m = z) :
    Calls Tryd.prog 19 #[.pointer (some ⟨pd, 0, none⟩), .int .i64 a, .int .i64 m] w fun e w' => e = .returned (.tuple #[.bool b, .int .i64 z]) ∧ Turned w B pd S d5 w' := by
  have Q := Lib.hid h
  have HT := Lib.hid hT
  have HLT := Lib.hid (show ∀ k, S k → k < w.heap.size from fun k hk => (h.ge hk).2)
  have hnn := h.ok.hi
  by_cases hz0 : z = 0
  · subst hz0
    obtain ⟨h1, h2, h3, h4⟩ := open_fine hz
    obtain ⟨A, rfl⟩ : ∃ A : Nat, a = (A : Int) := ⟨a.toNat, by omega⟩
    obtain ⟨M, rfl⟩ : ∃ M : Nat, m = (M : Int) := ⟨m.toNat, by omega⟩
    obtain ⟨g, hg⟩ : ∃ g, standJ d.n A M d.now = g := ⟨_, rfl⟩
    have hrg := rec_good hz
    rw [hb, hd, hg] at hrg
    obtain ⟨rfl, rfl⟩ := hrg
    have HZ := Lib.hid hz
    have HG := Lib.hid hg
    have HGF := Lib.hid (show g.length ≤ 60 ∧ ∀ x ∈ g, x.1 < d.n ∧ x.2.length ≤ 512 by
      by_cases hne : g = []
      · subst hne
        exact ⟨Nat.zero_le _, fun x hx => by cases hx⟩
      · have hs := standJ_stands (n := d.n) (a := A) (m := M) (f := d.now) (by rw [hg]; exact hne)
        rw [hg] at hs
        refine ⟨Nat.le_trans hs.le (by omega), fun x hx => ⟨home_lt (hs.home x hx), ?_⟩⟩
        obtain ⟨k, hk⟩ := List.getElem?_of_mem hx
        rw [hs.body k x hk, h.ok.now]
        omega)
    clear h hT hb hd hz hg
    go_enter Tryd.func19, Tryd.ntmps19
    go_wp2_with fail
    refine (open_c Q.out).mono ?_
    rintro e w1 ⟨rfl, hb1⟩
    have B1 := Lib.hid hb1
    have Q1 := Lib.hid (Q.out.below hb1)
    unfold openV jv
    rw [HZ.out]
    clear hb1
    rw [if_pos rfl]
    go_wp2_with fail
    refine calls_named (S := fun W => Below w1.heap.size w1 W ∧ Blk W w1.heap.size TJ [.pointer (some ⟨pd, 0, none⟩), .int .i64 (A : Int), .int .i64 (M : Int)]) ⟨by (repeat' (first | (with_reducible exact Below.refl _ _) | (with_reducible refine Below.setCell ?_ (by (first | omega | (simp; done) | (simp; omega))) _) | (with_reducible refine Below.alloc ?_ (by (first | omega | (simp; done) | (simp; omega))) _) | (with_reducible refine Below.drew ?_) | (with_reducible refine below_drewN ?_ _))), by (repeat' (first | (with_reducible refine BlkP.Blk.drew ?_) | (with_reducible refine BlkP.Blk.drewN ?_ _) | (with_reducible refine BlkP.Blk.setAt (us := ?_) (by first | omega | (simp; done) | (simp; omega)) rfl ?_ ?_) | (with_reducible refine BlkP.Blk.otherAt ?_ (by first | omega | (simp; done) | (simp; omega))) | (with_reducible refine BlkP.Blk.newA' (by first | omega | (simp; done) | (simp; omega)) rfl) | (with_reducible refine BlkP.Blk.alloc ?_ _) | (exact rfl)))⟩ (fun w2 hq2 => ?_)
    obtain ⟨hb2, hk2⟩ := hq2
    have B2 := Lib.hid (below_t B1.out hb2)
    have hz12 := B1.out.size
    have K2 := Lib.hid hk2
    clear hb2 hk2
    refine (standing_c (HT.out.below B2.out) (Q.out.below B2.out) (by omega) (by omega)).mono ?_
    rintro e w3 ⟨v3, rfl, ho3, hb3⟩
    rw [HG.out] at ho3
    have B3 := Lib.hid (below_t B2.out hb3)
    have hk3 := K2.out.below hb3
    have O3 := Lib.hid ho3
    have Q3 := Lib.hid (Q.out.below B3.out)
    have hz2 := B2.out.size
    obtain ⟨n, hn⟩ : ∃ n, g.length = n := ⟨_, rfl⟩
    obtain ⟨A3, c3, hv3, hc3, hc4, _⟩ := ho3.form hn
    subst hv3
    have hn60 : n ≤ 60 := by rw [← hn]; exact HGF.out.1
    have HN := Lib.hid hn
    have k0 := hk3.cell (i := 0) rfl
    have k1 := hk3.cell (i := 1) rfl
    have k2 := hk3.cell (i := 2) rfl
    have kl := hk3.lt
    clear hb3 hk3 ho3 hn
    by_cases hn0 : n = 0
    · subst hn0
      have hg0 : g = [] := List.eq_nil_of_length_eq_zero HN.out
      subst hg0
      go_wp2_with fail
      refine bodyPost_ret (v := .tuple #[.bool false, .int .i64 0]) (by simp [results, Tryd.results19, go_sem]) rfl ?_
      refine ⟨rfl, ?_⟩
      rw [show recWs A [] = [] from rfl, adds_nil]
      exact Turned.same Q.out B3.out
    · have hnI : ¬ (n : Int) = 0 := by omega
      have hnB : ((n : Int) == 0) = false := by simp [hn0]
      have hgne : g ≠ [] := fun e => by
        have := HN.out
        rw [e] at this
        exact hn0 this.symm
      have HE := Lib.hid (show recWs A g = homes A g ∧ (!g.isEmpty) = true by
        unfold recWs
        rw [if_neg hgne]
        refine ⟨rfl, ?_⟩
        cases g with
        | nil => exact absurd rfl hgne
        | cons x r => rfl)
      clear hgne hn0
      go_wp2_with fail
      refine (settle_c (A := A3) (c := c3) Q3.out O3.out.rd HN.out (fun k hk q => by have := (O3.out.ge k hk).1; have := HLT.out k q; omega) (by omega) HGF.out.2 (by omega)).mono ?_
      rintro e w4 ⟨rfl, hq4⟩
      have T4 := Lib.hid (Turned.trans HLT.out (Fr.below S B3.out) (fun k hk => .inl hk) hq4)
      clear hq4
      go_wp2_with fail
      refine bodyPost_ret (v := .tuple #[.bool true, .int .i64 0]) (by simp [results, Tryd.results19, go_sem]) rfl ?_
      rw [HE.out.1, HE.out.2]
      exact ⟨rfl, T4.out⟩
  · obtain ⟨e1, e2⟩ := rec_bad hz hz0
    rw [hb] at e2
    rw [hd] at e1
    subst e1 e2
    have HZ := Lib.hid hz
    have hzB : (z == 0) = false := by simp [hz0]
    clear h hT hb hd hz
    go_enter Tryd.func19, Tryd.ntmps19
    go_wp2_with fail
    refine (open_c Q.out).mono ?_
    rintro e w1 ⟨rfl, hb1⟩
    have B1 := Lib.hid hb1
    have Q1 := Lib.hid (Q.out.below hb1)
    unfold openV jv
    rw [HZ.out]
    clear hb1
    rw [if_neg hz0]
    go_wp2_with fail
    refine bodyPost_ret (v := .tuple #[.bool false, .int .i64 z]) (by simp [results, Tryd.results19, go_sem]) rfl ?_
    exact ⟨rfl, Turned.same Q.out (B1.out.alloc B1.out.size _)⟩
end
end JouW
end Go.Proofs.YtknckaegpdganaaDoor


/-
  Put, whatever journal, group and disk.
-/
namespace Go.Proofs.YtknckaegpdganaaDoor
-- mine: whole_c same_c awake_c take_c step_c back_c
open Go.RowKit
set_option linter.unusedVariables false
set_option linter.unusedSimpArgs false
set_option maxRecDepth 100000
namespace JouW
open BlkP RowG FrS PushG JournalP SecP SecW JouP CrcW
section
variable {w : World} {B pd : Nat} {d : Dk} {S : Nat → Prop}
theorem tab_fr {w' : World} (h : Tab w) (hf : Fr S w w') (hn : ¬ S 1) : Tab w' :=
  ⟨fun k hk => (hf.cell (p := ⟨1, k, none⟩) h.size hn).trans (h.cell k hk), Nat.lt_of_lt_of_le h.size hf.size⟩
set_option maxHeartbeats 16000000 in
theorem Put_c {a m : Int} {d5 : Dk} {z : Int} {A0 : Option Addr} {n c : Nat} {L : List (Int × Sec)} (hT : Tab w) (hTB : 1 < B) (h : Dsk w B pd d S) (hl : d.ws.length ≤ 800) (hR : Rd encL w (.slice A0 n c) L) (hn : L.length = n) (hS : 0 < n → ∀ g, (Value.slice A0 n c).ownBlock = some g → ¬ S g) (hz : putE d a m L = z) (hd : putD d a m L = d5) :
    Calls Tryd.prog 9 #[.pointer (some ⟨pd, 0, none⟩), .int .i64 a, .int .i64 m, .slice A0 n c] w fun e w' => e = .returned (.int .i64 z) ∧ Turned w B pd S d5 w' := by
  have Q := Lib.hid h
  have HT := Lib.hid hT
  have HLT := Lib.hid (show ∀ k, S k → k < w.heap.size from fun k hk => (h.ge hk).2)
  have hnn := h.ok.hi
  have HR := Lib.hid hR
  have HN := Lib.hid hn
  have HS0 := Lib.hid hS
  have HTS := Lib.hid (show ¬ S 1 from fun q => by have := (h.ge q).1; omega)
  obtain ⟨z1, hz1⟩ : ∃ z1, openE d.n a m = z1 := ⟨_, rfl⟩
  have HZ := Lib.hid hz1
  by_cases hz0 : z1 = 0
  · subst hz0
    obtain ⟨h1, h2, h3, h4⟩ := open_fine hz1
    obtain ⟨A, rfl⟩ : ∃ A : Nat, a = (A : Int) := ⟨a.toNat, by omega⟩
    obtain ⟨M, rfl⟩ : ∃ M : Nat, m = (M : Int) := ⟨m.toNat, by omega⟩
    obtain ⟨z2, hz2⟩ : ∃ z2, checkE d.n A M L = z2 := ⟨_, rfl⟩
    obtain ⟨e1, e2⟩ := put_good hz1 hz2
    rw [hz] at e1
    rw [hd] at e2
    subst e1
    have HC := Lib.hid hz2
    have HOK := Lib.hid h.ok
    clear h hT hd hz hz1 hR hS
    go_enter Tryd.func9, Tryd.ntmps9
    go_wp2_with fail
    refine (open_c Q.out).mono ?_
    rintro e w1 ⟨rfl, hb1⟩
    have B1 := Lib.hid hb1
    have Q1 := Lib.hid (Q.out.below hb1)
    unfold openV jv
    rw [HZ.out]
    clear hb1
    rw [if_pos rfl]
    obtain ⟨J, hJ⟩ : ∃ J, w1.heap.size = J := ⟨_, rfl⟩
    have hJw : w.heap.size ≤ J := by rw [← hJ]; exact B1.out.size
    have HJS := Lib.hid (show ¬ S J from fun q => by have := HLT.out J q; omega)
    go_wp2_with fail
    refine calls_named (S := fun W => Below w1.heap.size w1 W ∧ Blk W J TJ [.pointer (some ⟨pd, 0, none⟩), .int .i64 (A : Int), .int .i64 (M : Int)]) ⟨by (repeat' (first | (with_reducible exact Below.refl _ _) | (with_reducible refine Below.setCell ?_ (by (first | omega | (simp; done) | (simp; omega))) _) | (with_reducible refine Below.alloc ?_ (by (first | omega | (simp; done) | (simp; omega))) _) | (with_reducible refine Below.drew ?_) | (with_reducible refine below_drewN ?_ _))), by rw [← hJ]; (repeat' (first | (with_reducible refine BlkP.Blk.drew ?_) | (with_reducible refine BlkP.Blk.drewN ?_ _) | (with_reducible refine BlkP.Blk.setAt (us := ?_) (by first | omega | (simp; done) | (simp; omega)) rfl ?_ ?_) | (with_reducible refine BlkP.Blk.otherAt ?_ (by first | omega | (simp; done) | (simp; omega))) | (with_reducible refine BlkP.Blk.newA' (by first | omega | (simp; done) | (simp; omega)) rfl) | (with_reducible refine BlkP.Blk.alloc ?_ _) | (exact rfl)))⟩ (fun w2 hq2 => ?_)
    obtain ⟨hb2, hk2⟩ := hq2
    try rw [hJ]
    have B2 := Lib.hid (below_t B1.out hb2)
    have K2 := Lib.hid hk2
    clear hb2 hk2 hJ
    refine (check_c (Q.out.below B2.out) (by omega) (HR.out.below B2.out) HN.out HC.out).mono ?_
    rintro e w3 ⟨rfl, hb3⟩
    have B3 := Lib.hid (below_t B2.out hb3)
    have hk3 := K2.out.below hb3
    have K3 := Lib.hid hk3
    have Q3 := Lib.hid (Q.out.below B3.out)
    have k0 := hk3.cell (i := 0) rfl
    have k1 := hk3.cell (i := 1) rfl
    have k2 := hk3.cell (i := 2) rfl
    have kl := hk3.lt
    clear hb3 hk3
    by_cases hz20 : z = 0
    · subst hz20
      rw [if_pos rfl] at e2
      subst e2
      obtain ⟨hfit, hLN⟩ := check_fits HC.out
      have HNL := Lib.hid (show (natG L).length = n from (List.length_map ..).trans hn)
      have h0L : ∀ x ∈ L, 0 ≤ x.1 := fun x hx => by
        rw [hLN] at hx
        obtain ⟨y, hy, rfl⟩ := List.mem_map.1 hx
        exact Int.natCast_nonneg _
      have HRN := Lib.hid (rd_nat HR.out h0L)
      have hn60 : n ≤ 60 := by
        have := hfit.le
        rw [HNL.out] at this
        omega
      have HH2 := Lib.hid hfit.short
      have HH3 := Lib.hid (show ∀ x ∈ natG L, x.1 < d.n from fun x hx => home_lt (hfit.home x hx))
      have HH1 := Lib.hid (show ∀ x ∈ natG L, x.1 < 131072 from fun x hx => Nat.lt_of_lt_of_le (HH3.out x hx) hnn)
      have HCL := Lib.hid (show (commitN (natG L)).length ≤ 512 from Nat.le_trans (commit_len HH1.out (by rw [HNL.out]; exact hn60)) (by omega))
      have HML := Lib.hid (show n ≤ M from by have := hfit.le; rw [HNL.out] at this; exact this)
      have hML := HML.out
      clear hfit hLN h0L hn
      by_cases hn0 : n = 0
      · have hnI : (n : Int) = 0 := by omega
        have hnB : ((n : Int) == 0) = true := by simp [hn0]
        have HE := Lib.hid (show d.adds (putWs A d.now (natG L)) = d by
          have e : natG L = [] := List.eq_nil_of_length_eq_zero (by rw [HNL.out]; exact hn0)
          rw [e]
          exact adds_nil d)
        clear hn0
        go_wp2_with fail
        go_ret
        rw [HE.out]
        exact ⟨rfl, Turned.same Q.out B3.out⟩
      · have HSN := Lib.hid (HS0.out (by omega))
        have hnI : ¬ (n : Int) = 0 := by omega
        have hnB : ((n : Int) == 0) = false := by simp [hn0]
        have HGL := Lib.hid (show ∀ g, (Value.slice A0 n c).ownBlock = some g → g < w.heap.size from fun g hg => by
          obtain ⟨x, hx⟩ : ∃ x, L[0]? = some x := ⟨_, List.getElem?_eq_getElem (by rw [HN.out]; omega)⟩
          obtain ⟨b, o, rfl, hlt, _⟩ := HR.out.at hx
          have hg' : b = g := by simpa [Value.ownBlock] using hg
          omega)
        have HNE := Lib.hid (show natG L ≠ [] from fun e => by
          have := HNL.out
          rw [e] at this
          exact hn0 this.symm)
        obtain ⟨y, hy⟩ : ∃ y, d.now A = y := ⟨_, rfl⟩
        have hyl : y.length = 512 := by rw [← hy]; exact HOK.out.now A
        have HRD := Lib.hid (show readD d (A : Int) = y by
          unfold readD
          rw [if_pos (inD_iff.2 ⟨by omega, by omega⟩), Int.toNat_natCast]
          exact hy)
        have hyb : y.all (· == 0) = decide (y = SecP.blank) := by
          rw [Bool.eq_iff_iff, zeros_all, hyl, decide_eq_true_eq]
          exact Iff.rfl
        clear hn0
        go_wp2_with fail
        refine (read_c Q3.out HRD.out).mono ?_
        rintro e w4 ⟨rfl, hb4⟩
        have B4 := Lib.hid (below_t B3.out hb4)
        have hk4 := K3.out.below hb4
        have K4 := Lib.hid hk4
        have Q4 := Lib.hid (Q.out.below B4.out)
        clear hb4 k0 k1 k2 kl
        have k0 := hk4.cell (i := 0) rfl
        have k1 := hk4.cell (i := 1) rfl
        have k2 := hk4.cell (i := 2) rfl
        have kl := hk4.lt
        clear hk4
        by_cases hblank : y = SecP.blank
        · have HBL := Lib.hid (show y.all (· == 0) = true by rw [hyb, decide_eq_true hblank])
          obtain ⟨db, hdb⟩ : ∃ db, d.adds (preJ A d.now) = db := ⟨_, rfl⟩
          have hpre : preJ A d.now = [] := if_pos (hy.trans hblank)
          have HDBE := Lib.hid hdb
          have hdd : d = db := by rw [← hdb, hpre, adds_nil]
          have HDB := Lib.hid (show db.ws.length ≤ 801 by rw [← hdd]; omega)
          obtain ⟨Sb, hSb⟩ : ∃ Sb, S = Sb := ⟨_, rfl⟩
          have QB := Lib.hid (show Dsk w4 B pd db Sb by rw [← hdd, ← hSb]; exact Q4.out)
          have FB := Lib.hid (Fr.below S B4.out)
          have KB := K4
          have NB := Lib.hid (show ∀ k, Sb k → S k ∨ J < k from fun k hk => .inl (by rw [hSb]; exact hk))
          clear hblank hyb hdb hpre hdd hSb hy hyl
          go_wp2_with fail
          refine (isBlank_c HBL.out).mono ?_
          rintro e w5 ⟨rfl, hw⟩
          obtain rfl := hw.symm
          go_wp2_with fail
          have HDN := Lib.hid (show db.n = d.n by rw [← HDBE.out]; rfl)
          go_loopw [48] (fun v48 wr => ∃ (i : Nat) (Si : Nat → Prop), v48 = .int .i64 (i : Int) ∧ i ≤ n ∧ Dsk wr B pd (db.adds (bods (A + 1) ((natG L).take i))) Si ∧ Fr S w wr ∧ Blk wr J TJ [.pointer (some ⟨pd, 0, none⟩), .int .i64 (A : Int), .int .i64 (M : Int)] ∧ ∀ k, Si k → S k ∨ J < k) (fun v _ => n - (RowKit.intOf v).toNat)
          case atStart => exact ⟨0, Sb, rfl, Nat.zero_le _, by simpa [bods, adds_nil] using QB.out, FB.out, KB.out, NB.out⟩
          case round =>
            obtain ⟨i, Si, rfl, hi, hq, hf, hkr, hnn2⟩ := hrel
            have QI := Lib.hid hq
            have FI := Lib.hid hf
            have KR := Lib.hid hkr
            have NI := Lib.hid hnn2
            have HJN := Lib.hid (show ¬ Si J from fun q => by
              rcases hnn2 J q with q | q
              · exact HJS.out q
              · omega)
            have HLEN := Lib.hid (show (db.adds (bods (A + 1) ((natG L).take i))).ws.length ≤ 1000 by
              have := HDB.out
              rw [adds_len, bods_len, List.length_take]
              omega)
            have HTR := Lib.hid (tab_fr HT.out hf HTS.out)
            have hzr := hf.size
            have k0 := hkr.cell (i := 0) rfl
            have k1 := hkr.cell (i := 1) rfl
            have k2 := hkr.cell (i := 2) rfl
            have kl := hkr.lt
            clear hq hf hkr hnn2
            by_cases hin : i < n
            · have hiI : (i : Int) < (n : Int) := by omega
              obtain ⟨⟨xa, xs⟩, hx⟩ : ∃ x, (natG L)[i]? = some x := ⟨_, List.getElem?_eq_getElem (by rw [HNL.out]; exact hin)⟩
              have HXS := Lib.hid (show xs.length ≤ 512 from HH2.out _ (List.mem_of_getElem? hx))
              have HP := Lib.hid (bods_take (b := A + 1) hx)
              obtain ⟨b, o, hbo, hlt, hcs⟩ := (rd_fr HRN.out FI.out HSN.out).at hx
              subst hbo
              have x0 := hcs 0 _ rfl
              have x1 := hcs 1 _ rfl
              have hk : encA.k = 2 := rfl
              rw [hk] at x0 x1
              have hol : o + i * 2 + 0 = o + i * 2 := rfl
              rw [hol] at x0
              clear hcs hx hk hol
              go_wp2_with fail
              refine HeldP.wp_named (S := fun W => Below wr.heap.size wr W ∧ Blk W wr.heap.size TA [.int .i64 (xa : Int), .string (str xs)]) ⟨by (repeat' (first | (with_reducible exact Below.refl _ _) | (with_reducible refine Below.setCell ?_ (by (first | omega | (simp; done) | (simp; omega))) _) | (with_reducible refine Below.alloc ?_ (by (first | omega | (simp; done) | (simp; omega))) _) | (with_reducible refine Below.drew ?_) | (with_reducible refine below_drewN ?_ _))), by (repeat' (first | (with_reducible refine BlkP.Blk.drew ?_) | (with_reducible refine BlkP.Blk.drewN ?_ _) | (with_reducible refine BlkP.Blk.setAt (us := ?_) (by first | omega | (simp; done) | (simp; omega)) rfl ?_ ?_) | (with_reducible refine BlkP.Blk.otherAt ?_ (by first | omega | (simp; done) | (simp; omega))) | (with_reducible refine BlkP.Blk.newA' (by first | omega | (simp; done) | (simp; omega)) rfl) | (with_reducible refine BlkP.Blk.alloc ?_ _) | (exact rfl)))⟩ (fun w6 hq6 => ?_)
              obtain ⟨hb6, hk6⟩ := hq6
              have B6 := Lib.hid hb6
              have Q6 := Lib.hid (QI.out.below hb6)
              have K6 := Lib.hid (KR.out.below hb6)
              have hkj := KR.out.below hb6
              have HXN := Lib.hid (show ¬ Si wr.heap.size from fun q => by have := (QI.out.ge q).2; omega)
              clear x0 x1 k0 k1 k2 kl hb6
              have x1 := hk6.cell (i := 1) rfl
              have xl := hk6.lt
              have k0 := hkj.cell (i := 0) rfl
              have k1 := hkj.cell (i := 1) rfl
              have k2 := hkj.cell (i := 2) rfl
              have kl := hkj.lt
              clear hk6 hkj
              obtain ⟨d7, hd7⟩ : ∃ d7, (db.adds (bods (A + 1) ((natG L).take i))).adds [(A + 1 + i, pad xs)] = d7 := ⟨_, rfl⟩
              have HD7 := Lib.hid (show d7 = db.adds (bods (A + 1) ((natG L).take (i + 1))) by rw [← hd7, adds_adds, HP.out])
              refine wp_region_noPanic ?_
              refine wp_region_held_drew (S := fun W => Fr Si w6 W) (by kernel_rfl) ((Fr.refl Si w6).drew) (fun hHeld => ?_)
              refine wpAnyH_take (i := 0) (oi := ⟨some 53, _, _, _, _, _⟩) (v := .pointer (some ⟨J, 0, none⟩)) rfl (by kernel_rfl) (by kernel_rfl) (by kernel_rfl) (fun _ _ _ h => h) (Or.inl ⟨by rfl, fun W hSW => by go_simp⟩) hHeld ?_
              simp only [Act.put, List.setIfInBounds_toArray, List.set_cons_zero, List.set_cons_succ]
              refine wpAnyH_take (i := 1) (oi := ⟨some 54, _, _, _, _, _⟩) (v := .pointer (some ⟨pd, 0, none⟩)) rfl (by kernel_rfl) (by kernel_rfl) (by kernel_rfl) (fun _ _ _ h => h) (Or.inl ⟨by rfl, fun W hSW => by have a0 := (hSW.cell (p := ⟨J, 0, none⟩) kl HJN.out).trans k0; go_simp⟩) hHeld ?_
              simp only [Act.put, List.setIfInBounds_toArray, List.set_cons_zero, List.set_cons_succ]
              refine wpAnyH_take (i := 2) (oi := ⟨some 55, _, _, _, _, _⟩) (v := .agg #[.pointer (some ⟨pd, 0, none⟩), .int .i64 (A : Int), .int .i64 (M : Int)]) rfl (by kernel_rfl) (by kernel_rfl) (by kernel_rfl) (fun _ _ _ h => h) (Or.inl ⟨by rfl, fun W hSW => by have a0 := (hSW.cell (p := ⟨J, 0, none⟩) kl HJN.out).trans k0; have a1 := (hSW.cell (p := ⟨J, 1, none⟩) kl HJN.out).trans k1; have a2 := (hSW.cell (p := ⟨J, 2, none⟩) kl HJN.out).trans k2; go_simp⟩) hHeld ?_
              simp only [Act.put, List.setIfInBounds_toArray, List.set_cons_zero, List.set_cons_succ]
              refine wpAnyH_take (i := 3) (oi := ⟨some 56, _, _, _, _, _⟩) (v := .int .i64 (i : Int)) rfl (by kernel_rfl) (by kernel_rfl) (by kernel_rfl) (fun _ _ _ h => h) (Or.inl ⟨by rfl, fun W hSW => by go_simp⟩) hHeld ?_
              simp only [Act.put, List.setIfInBounds_toArray, List.set_cons_zero, List.set_cons_succ]
              refine wpAnyH_take (i := 5) (oi := ⟨some 58, _, _, _, _, _⟩) (v := .pointer (some ⟨wr.heap.size, 1, none⟩)) rfl (by kernel_rfl) (by kernel_rfl) (by kernel_rfl) (fun _ _ _ h => h) (Or.inl ⟨by rfl, fun W hSW => by go_simp⟩) hHeld ?_
              simp only [Act.put, List.setIfInBounds_toArray, List.set_cons_zero, List.set_cons_succ]
              refine wpAnyH_take (i := 6) (oi := ⟨some 59, _, _, _, _, _⟩) (v := .string (str xs)) rfl (by kernel_rfl) (by kernel_rfl) (by kernel_rfl) (fun _ _ _ h => h) (Or.inl ⟨by rfl, fun W hSW => by have b1 := (hSW.cell (p := ⟨wr.heap.size, 1, none⟩) xl HXN.out).trans x1; go_simp⟩) hHeld ?_
              simp only [Act.put, List.setIfInBounds_toArray, List.set_cons_zero, List.set_cons_succ]
              refine wpAnyH_ready (rs := [4]) (by kernel_rfl) (by simp) ?_
              refine AllReadyH.cons (o := ⟨some 57, _, _, _, _, _⟩) rfl (fun K hK => ?_) AllReadyH.nil
              go_simp
              refine (body_c (a := A) (i := i) (m := (M : Int)) (by omega)).mono ?_
              rintro e w7 ⟨rfl, hb7⟩
              have B7 := Lib.hid (show Below w6.heap.size w6 w7 from ((Below.refl _ w6).drew).trans hb7)
              go_wp2_with fail
              refine hK.out _ _ (Fr.below _ B7.out) (fun hHeld => ?_)
              clear hK K hb7
              refine wpAnyH_ready (rs := [7]) (by kernel_rfl) (by simp) ?_
              refine AllReadyH.cons (o := ⟨some 60, _, _, _, _, _⟩) rfl (fun K hK => ?_) AllReadyH.nil
              go_simp
              refine (Write_a (Q6.out.below B7.out) HLEN.out (by have := HDN.out; have := HML.out; show A + 1 + i < db.n; omega) HXS.out hd7).mono ?_
              rintro e w8 ⟨rfl, S8, hq8, hf8, hn8⟩
              have Q8 := Lib.hid hq8
              have FR8 := Lib.hid ((Fr.below Si B7.out).trans hf8 (fun k hk => .inl hk))
              have N8 := Lib.hid (show ∀ k, S8 k → Si k ∨ w6.heap.size ≤ k from fun k hk => by
                rcases hn8 k hk with q | q
                · exact .inl q
                · have := B7.out.size
                  exact .inr (by omega))
              clear hq8 hf8 hn8
              go_wp2_with fail
              refine hK.out _ _ FR8.out (fun hHeldE => ?_)
              clear hK K
              refine wpAnyH_done (by kernel_rfl) ?_ _
              refine NoPanic.normal ?_
              clear hHeldE
              have F9 := Lib.hid ((FI.out.trans (Fr.below S B6.out) (fun k hk => .inl hk)).trans FR8.out (fun k hk => (NI.out k hk).imp id (fun q => by omega)))
              have K9 := Lib.hid (FR8.out.blk K6.out HJN.out)
              have N9 := Lib.hid (show ∀ k, S8 k → S k ∨ J < k from fun k hk => by
                rcases N8.out k hk with q | q
                · exact NI.out k q
                · have := B6.out.size
                  exact .inr (by omega))
              clear hd7 x1 k0 k1 k2 kl
              go_wp2_with fail
              go_roundw
              case rel => exact ⟨i + 1, S8, by first | rfl | (congr 1; omega), by omega, by rw [← HD7.out]; exact Q8.out, F9.out, K9.out, N9.out⟩
              case measure => first | (simp [RowKit.intOf]; done) | (simp [RowKit.intOf]; omega)
            · have hie : i = n := by omega
              have hiI : ¬ (i : Int) < (n : Int) := by omega
              have HTK := Lib.hid (show (natG L).take i = natG L by rw [hie, ← HNL.out, List.take_length])
              clear hin hie
              go_wp2_with fail
              obtain ⟨d7, hd7⟩ : ∃ d7, (db.adds (bods (A + 1) ((natG L).take i))).adds [(A, pad (commitN (natG L)))] = d7 := ⟨_, rfl⟩
              have HD7 := Lib.hid (show d7.adds (homes A (natG L)) = d.adds (putWs A d.now (natG L)) by
                rw [← hd7, HTK.out, ← HDBE.out, adds_adds, adds_adds, adds_adds]
                unfold putWs
                rw [if_neg HNE.out]
                simp)
              have HD8 := Lib.hid (show d7.ws.length + n ≤ 990 ∧ d7.n = d.n by
                have := HDB.out
                rw [← hd7, adds_len, adds_len, bods_len, List.length_take, HNL.out]
                refine ⟨by simp; omega, ?_⟩
                rw [← HDBE.out]
                rfl)
              refine wp_region_noPanic ?_
              refine wp_region_held_drew (S := fun W => Fr Si wr W) (by kernel_rfl) ((Fr.refl Si wr).drew) (fun hHeld => ?_)
              refine wpAnyH_take (i := 0) (oi := ⟨some 62, _, _, _, _, _⟩) (v := .pointer (some ⟨J, 0, none⟩)) rfl (by kernel_rfl) (by kernel_rfl) (by kernel_rfl) (fun _ _ _ h => h) (Or.inl ⟨by rfl, fun W hSW => by go_simp⟩) hHeld ?_
              simp only [Act.put, List.setIfInBounds_toArray, List.set_cons_zero, List.set_cons_succ]
              refine wpAnyH_take (i := 1) (oi := ⟨some 63, _, _, _, _, _⟩) (v := .pointer (some ⟨pd, 0, none⟩)) rfl (by kernel_rfl) (by kernel_rfl) (by kernel_rfl) (fun _ _ _ h => h) (Or.inl ⟨by rfl, fun W hSW => by have a0 := (hSW.cell (p := ⟨J, 0, none⟩) kl HJN.out).trans k0; go_simp⟩) hHeld ?_
              simp only [Act.put, List.setIfInBounds_toArray, List.set_cons_zero, List.set_cons_succ]
              refine wpAnyH_take (i := 2) (oi := ⟨some 64, _, _, _, _, _⟩) (v := .pointer (some ⟨J, 1, none⟩)) rfl (by kernel_rfl) (by kernel_rfl) (by kernel_rfl) (fun _ _ _ h => h) (Or.inl ⟨by rfl, fun W hSW => by go_simp⟩) hHeld ?_
              simp only [Act.put, List.setIfInBounds_toArray, List.set_cons_zero, List.set_cons_succ]
              refine wpAnyH_take (i := 3) (oi := ⟨some 65, _, _, _, _, _⟩) (v := .int .i64 (A : Int)) rfl (by kernel_rfl) (by kernel_rfl) (by kernel_rfl) (fun _ _ _ h => h) (Or.inl ⟨by rfl, fun W hSW => by have a1 := (hSW.cell (p := ⟨J, 1, none⟩) kl HJN.out).trans k1; go_simp⟩) hHeld ?_
              simp only [Act.put, List.setIfInBounds_toArray, List.set_cons_zero, List.set_cons_succ]
              refine wpAnyH_take (i := 4) (oi := ⟨some 66, _, _, _, _, _⟩) (v := .slice A0 n c) rfl (by kernel_rfl) (by kernel_rfl) (by kernel_rfl) (fun _ _ _ h => h) (Or.inl ⟨by rfl, fun W hSW => by go_simp⟩) hHeld ?_
              simp only [Act.put, List.setIfInBounds_toArray, List.set_cons_zero, List.set_cons_succ]
              refine wpAnyH_ready (rs := [5]) (by kernel_rfl) (by simp) ?_
              refine AllReadyH.cons (o := ⟨some 67, _, _, _, _, _⟩) rfl (fun K hK => ?_) AllReadyH.nil
              go_simp
              refine (commit_c (G := natG L) (HTR.out.below ((Below.refl _ wr).drew)) (rd_fr HRN.out (FI.out.drew) HSN.out) HNL.out hn60 HH1.out HH2.out).mono ?_
              rintro e w7 ⟨rfl, hb7⟩
              have B7 := Lib.hid (show Below wr.heap.size wr w7 from ((Below.refl _ wr).drew).trans hb7)
              go_wp2_with fail
              refine hK.out _ _ (Fr.below _ B7.out) (fun hHeld => ?_)
              clear hK K hb7
              refine wpAnyH_ready (rs := [6]) (by kernel_rfl) (by simp) ?_
              refine AllReadyH.cons (o := ⟨some 68, _, _, _, _, _⟩) rfl (fun K hK => ?_) AllReadyH.nil
              go_simp
              refine (Write_a (QI.out.below B7.out) HLEN.out (by have := HDN.out; show A < db.n; omega) HCL.out hd7).mono ?_
              rintro e w8 ⟨rfl, S8, hq8, hf8, hn8⟩
              have Q8 := Lib.hid hq8
              have FR8 := Lib.hid ((Fr.below Si B7.out).trans hf8 (fun k hk => .inl hk))
              have N8 := Lib.hid (show ∀ k, S8 k → Si k ∨ wr.heap.size ≤ k from fun k hk => by
                rcases hn8 k hk with q | q
                · exact .inl q
                · have := B7.out.size
                  exact .inr (by omega))
              clear hq8 hf8 hn8
              go_wp2_with fail
              refine hK.out _ _ FR8.out (fun hHeldE => ?_)
              clear hK K
              refine wpAnyH_done (by kernel_rfl) ?_ _
              refine NoPanic.normal ?_
              clear hHeldE
              have F9 := Lib.hid (FI.out.trans FR8.out (fun k hk => (NI.out k hk).imp id (fun q => by omega)))
              have hk9 := FR8.out.blk KR.out HJN.out
              have N9 := Lib.hid (show ∀ k, S8 k → S k ∨ w.heap.size ≤ k from fun k hk => by
                rcases N8.out k hk with q | q
                · exact (NI.out k q).imp id (fun q => by omega)
                · exact .inr (by omega))
              have HS9 := Lib.hid (show ∀ g, (Value.slice A0 n c).ownBlock = some g → ¬ S8 g from fun g hg q => by
                rcases N9.out g q with q2 | q2
                · exact HSN.out g hg q2
                · have := HGL.out g hg
                  omega)
              clear hd7 k0 k1 k2 kl
              have k0 := hk9.cell (i := 0) rfl
              have k1 := hk9.cell (i := 1) rfl
              have k2 := hk9.cell (i := 2) rfl
              have kl := hk9.lt
              clear hk9
              go_wp2_with fail
              refine (settle_c (A := A0) (c := c) Q8.out (rd_fr HRN.out F9.out HSN.out) HNL.out HS9.out HD8.out.1 (fun x hx => by rw [HD8.out.2]; exact ⟨HH3.out x hx, HH2.out x hx⟩) (by rw [HD8.out.2]; omega)).mono ?_
              rintro e w9 ⟨rfl, hq9⟩
              rw [HD7.out] at hq9
              have T9 := Lib.hid (Turned.trans HLT.out F9.out N9.out hq9)
              clear hq9 k0 k1 k2 kl
              go_wp2_with fail
              go_ret
              exact ⟨rfl, T9.out⟩
        · have HBL := Lib.hid (show y.all (· == 0) = false by rw [hyb, decide_eq_false hblank])
          obtain ⟨db, hdb⟩ : ∃ db, d.adds (preJ A d.now) = db := ⟨_, rfl⟩
          have hpre : preJ A d.now = [(A, SecP.blank)] := if_neg (fun q => hblank (hy.symm.trans q))
          have HDBE := Lib.hid hdb
          have HDB := Lib.hid (show db.ws.length ≤ 801 by rw [← hdb, hpre, adds_len]; simp; omega)
          rw [hpre] at hdb
          have HW := Lib.hid hdb
          clear hblank hyb hdb hpre hy hyl
          go_wp2_with fail
          refine (isBlank_c HBL.out).mono ?_
          rintro e w5 ⟨rfl, hw⟩
          obtain rfl := hw.symm
          go_wp2_with fail
          refine (Write_z Q4.out (by omega) (by omega) HW.out).mono ?_
          rintro e w6 ⟨rfl, Sb, hq6, hf6, hn6⟩
          have QB := Lib.hid hq6
          have FB := Lib.hid ((Fr.below S B4.out).trans hf6 (fun k hk => .inl hk))
          have KB := Lib.hid (hf6.blk K4.out HJS.out)
          have NB := Lib.hid (show ∀ k, Sb k → S k ∨ J < k from fun k hk => (hn6 k hk).imp id (fun q => by omega))
          clear hq6 hf6 hn6 k0 k1 k2 kl
          go_wp2_with fail
          have HDN := Lib.hid (show db.n = d.n by rw [← HDBE.out]; rfl)
          go_loopw [48] (fun v48 wr => ∃ (i : Nat) (Si : Nat → Prop), v48 = .int .i64 (i : Int) ∧ i ≤ n ∧ Dsk wr B pd (db.adds (bods (A + 1) ((natG L).take i))) Si ∧ Fr S w wr ∧ Blk wr J TJ [.pointer (some ⟨pd, 0, none⟩), .int .i64 (A : Int), .int .i64 (M : Int)] ∧ ∀ k, Si k → S k ∨ J < k) (fun v _ => n - (RowKit.intOf v).toNat)
          case atStart => exact ⟨0, Sb, rfl, Nat.zero_le _, by simpa [bods, adds_nil] using QB.out, FB.out, KB.out, NB.out⟩
          case round =>
            obtain ⟨i, Si, rfl, hi, hq, hf, hkr, hnn2⟩ := hrel
            have QI := Lib.hid hq
            have FI := Lib.hid hf
            have KR := Lib.hid hkr
            have NI := Lib.hid hnn2
            have HJN := Lib.hid (show ¬ Si J from fun q => by
              rcases hnn2 J q with q | q
              · exact HJS.out q
              · omega)
            have HLEN := Lib.hid (show (db.adds (bods (A + 1) ((natG L).take i))).ws.length ≤ 1000 by
              have := HDB.out
              rw [adds_len, bods_len, List.length_take]
              omega)
            have HTR := Lib.hid (tab_fr HT.out hf HTS.out)
            have hzr := hf.size
            have k0 := hkr.cell (i := 0) rfl
            have k1 := hkr.cell (i := 1) rfl
            have k2 := hkr.cell (i := 2) rfl
            have kl := hkr.lt
            clear hq hf hkr hnn2
            by_cases hin : i < n
            · have hiI : (i : Int) < (n : Int) := by omega
              obtain ⟨⟨xa, xs⟩, hx⟩ : ∃ x, (natG L)[i]? = some x := ⟨_, List.getElem?_eq_getElem (by rw [HNL.out]; exact hin)⟩
              have HXS := Lib.hid (show xs.length ≤ 512 from HH2.out _ (List.mem_of_getElem? hx))
              have HP := Lib.hid (bods_take (b := A + 1) hx)
              obtain ⟨b, o, hbo, hlt, hcs⟩ := (rd_fr HRN.out FI.out HSN.out).at hx
              subst hbo
              have x0 := hcs 0 _ rfl
              have x1 := hcs 1 _ rfl
              have hk : encA.k = 2 := rfl
              rw [hk] at x0 x1
              have hol : o + i * 2 + 0 = o + i * 2 := rfl
              rw [hol] at x0
              clear hcs hx hk hol
              go_wp2_with fail
              refine HeldP.wp_named (S := fun W => Below wr.heap.size wr W ∧ Blk W wr.heap.size TA [.int .i64 (xa : Int), .string (str xs)]) ⟨by (repeat' (first | (with_reducible exact Below.refl _ _) | (with_reducible refine Below.setCell ?_ (by (first | omega | (simp; done) | (simp; omega))) _) | (with_reducible refine Below.alloc ?_ (by (first | omega | (simp; done) | (simp; omega))) _) | (with_reducible refine Below.drew ?_) | (with_reducible refine below_drewN ?_ _))), by (repeat' (first | (with_reducible refine BlkP.Blk.drew ?_) | (with_reducible refine BlkP.Blk.drewN ?_ _) | (with_reducible refine BlkP.Blk.setAt (us := ?_) (by first | omega | (simp; done) | (simp; omega)) rfl ?_ ?_) | (with_reducible refine BlkP.Blk.otherAt ?_ (by first | omega | (simp; done) | (simp; omega))) | (with_reducible refine BlkP.Blk.newA' (by first | omega | (simp; done) | (simp; omega)) rfl) | (with_reducible refine BlkP.Blk.alloc ?_ _) | (exact rfl)))⟩ (fun w6 hq6 => ?_)
              obtain ⟨hb6, hk6⟩ := hq6
              have B6 := Lib.hid hb6
              have Q6 := Lib.hid (QI.out.below hb6)
              have K6 := Lib.hid (KR.out.below hb6)
              have hkj := KR.out.below hb6
              have HXN := Lib.hid (show ¬ Si wr.heap.size from fun q => by have := (QI.out.ge q).2; omega)
              clear x0 x1 k0 k1 k2 kl hb6
              have x1 := hk6.cell (i := 1) rfl
              have xl := hk6.lt
              have k0 := hkj.cell (i := 0) rfl
              have k1 := hkj.cell (i := 1) rfl
              have k2 := hkj.cell (i := 2) rfl
              have kl := hkj.lt
              clear hk6 hkj
              obtain ⟨d7, hd7⟩ : ∃ d7, (db.adds (bods (A + 1) ((natG L).take i))).adds [(A + 1 + i, pad xs)] = d7 := ⟨_, rfl⟩
              have HD7 := Lib.hid (show d7 = db.adds (bods (A + 1) ((natG L).take (i + 1))) by rw [← hd7, adds_adds, HP.out])
              refine wp_region_noPanic ?_
              refine wp_region_held_drew (S := fun W => Fr Si w6 W) (by kernel_rfl) ((Fr.refl Si w6).drew) (fun hHeld => ?_)
              refine wpAnyH_take (i := 0) (oi := ⟨some 53, _, _, _, _, _⟩) (v := .pointer (some ⟨J, 0, none⟩)) rfl (by kernel_rfl) (by kernel_rfl) (by kernel_rfl) (fun _ _ _ h => h) (Or.inl ⟨by rfl, fun W hSW => by go_simp⟩) hHeld ?_
              simp only [Act.put, List.setIfInBounds_toArray, List.set_cons_zero, List.set_cons_succ]
              refine wpAnyH_take (i := 1) (oi := ⟨some 54, _, _, _, _, _⟩) (v := .pointer (some ⟨pd, 0, none⟩)) rfl (by kernel_rfl) (by kernel_rfl) (by kernel_rfl) (fun _ _ _ h => h) (Or.inl ⟨by rfl, fun W hSW => by have a0 := (hSW.cell (p := ⟨J, 0, none⟩) kl HJN.out).trans k0; go_simp⟩) hHeld ?_
              simp only [Act.put, List.setIfInBounds_toArray, List.set_cons_zero, List.set_cons_succ]
              refine wpAnyH_take (i := 2) (oi := ⟨some 55, _, _, _, _, _⟩) (v := .agg #[.pointer (some ⟨pd, 0, none⟩), .int .i64 (A : Int), .int .i64 (M : Int)]) rfl (by kernel_rfl) (by kernel_rfl) (by kernel_rfl) (fun _ _ _ h => h) (Or.inl ⟨by rfl, fun W hSW => by have a0 := (hSW.cell (p := ⟨J, 0, none⟩) kl HJN.out).trans k0; have a1 := (hSW.cell (p := ⟨J, 1, none⟩) kl HJN.out).trans k1; have a2 := (hSW.cell (p := ⟨J, 2, none⟩) kl HJN.out).trans k2; go_simp⟩) hHeld ?_
              simp only [Act.put, List.setIfInBounds_toArray, List.set_cons_zero, List.set_cons_succ]
              refine wpAnyH_take (i := 3) (oi := ⟨some 56, _, _, _, _, _⟩) (v := .int .i64 (i : Int)) rfl (by kernel_rfl) (by kernel_rfl) (by kernel_rfl) (fun _ _ _ h => h) (Or.inl ⟨by rfl, fun W hSW => by go_simp⟩) hHeld ?_
              simp only [Act.put, List.setIfInBounds_toArray, List.set_cons_zero, List.set_cons_succ]
              refine wpAnyH_take (i := 5) (oi := ⟨some 58, _, _, _, _, _⟩) (v := .pointer (some ⟨wr.heap.size, 1, none⟩)) rfl (by kernel_rfl) (by kernel_rfl) (by kernel_rfl) (fun _ _ _ h => h) (Or.inl ⟨by rfl, fun W hSW => by go_simp⟩) hHeld ?_
              simp only [Act.put, List.setIfInBounds_toArray, List.set_cons_zero, List.set_cons_succ]
              refine wpAnyH_take (i := 6) (oi := ⟨some 59, _, _, _, _, _⟩) (v := .string (str xs)) rfl (by kernel_rfl) (by kernel_rfl) (by kernel_rfl) (fun _ _ _ h => h) (Or.inl ⟨by rfl, fun W hSW => by have b1 := (hSW.cell (p := ⟨wr.heap.size, 1, none⟩) xl HXN.out).trans x1; go_simp⟩) hHeld ?_
              simp only [Act.put, List.setIfInBounds_toArray, List.set_cons_zero, List.set_cons_succ]
              refine wpAnyH_ready (rs := [4]) (by kernel_rfl) (by simp) ?_
              refine AllReadyH.cons (o := ⟨some 57, _, _, _, _, _⟩) rfl (fun K hK => ?_) AllReadyH.nil
              go_simp
              refine (body_c (a := A) (i := i) (m := (M : Int)) (by omega)).mono ?_
              rintro e w7 ⟨rfl, hb7⟩
              have B7 := Lib.hid (show Below w6.heap.size w6 w7 from ((Below.refl _ w6).drew).trans hb7)
              go_wp2_with fail
              refine hK.out _ _ (Fr.below _ B7.out) (fun hHeld => ?_)
              clear hK K hb7
              refine wpAnyH_ready (rs := [7]) (by kernel_rfl) (by simp) ?_
              refine AllReadyH.cons (o := ⟨some 60, _, _, _, _, _⟩) rfl (fun K hK => ?_) AllReadyH.nil
              go_simp
              refine (Write_a (Q6.out.below B7.out) HLEN.out (by have := HDN.out; have := HML.out; show A + 1 + i < db.n; omega) HXS.out hd7).mono ?_
              rintro e w8 ⟨rfl, S8, hq8, hf8, hn8⟩
              have Q8 := Lib.hid hq8
              have FR8 := Lib.hid ((Fr.below Si B7.out).trans hf8 (fun k hk => .inl hk))
              have N8 := Lib.hid (show ∀ k, S8 k → Si k ∨ w6.heap.size ≤ k from fun k hk => by
                rcases hn8 k hk with q | q
                · exact .inl q
                · have := B7.out.size
                  exact .inr (by omega))
              clear hq8 hf8 hn8
              go_wp2_with fail
              refine hK.out _ _ FR8.out (fun hHeldE => ?_)
              clear hK K
              refine wpAnyH_done (by kernel_rfl) ?_ _
              refine NoPanic.normal ?_
              clear hHeldE
              have F9 := Lib.hid ((FI.out.trans (Fr.below S B6.out) (fun k hk => .inl hk)).trans FR8.out (fun k hk => (NI.out k hk).imp id (fun q => by omega)))
              have K9 := Lib.hid (FR8.out.blk K6.out HJN.out)
              have N9 := Lib.hid (show ∀ k, S8 k → S k ∨ J < k from fun k hk => by
                rcases N8.out k hk with q | q
                · exact NI.out k q
                · have := B6.out.size
                  exact .inr (by omega))
              clear hd7 x1 k0 k1 k2 kl
              go_wp2_with fail
              go_roundw
              case rel => exact ⟨i + 1, S8, by first | rfl | (congr 1; omega), by omega, by rw [← HD7.out]; exact Q8.out, F9.out, K9.out, N9.out⟩
              case measure => first | (simp [RowKit.intOf]; done) | (simp [RowKit.intOf]; omega)
            · have hie : i = n := by omega
              have hiI : ¬ (i : Int) < (n : Int) := by omega
              have HTK := Lib.hid (show (natG L).take i = natG L by rw [hie, ← HNL.out, List.take_length])
              clear hin hie
              go_wp2_with fail
              obtain ⟨d7, hd7⟩ : ∃ d7, (db.adds (bods (A + 1) ((natG L).take i))).adds [(A, pad (commitN (natG L)))] = d7 := ⟨_, rfl⟩
              have HD7 := Lib.hid (show d7.adds (homes A (natG L)) = d.adds (putWs A d.now (natG L)) by
                rw [← hd7, HTK.out, ← HDBE.out, adds_adds, adds_adds, adds_adds]
                unfold putWs
                rw [if_neg HNE.out]
                simp)
              have HD8 := Lib.hid (show d7.ws.length + n ≤ 990 ∧ d7.n = d.n by
                have := HDB.out
                rw [← hd7, adds_len, adds_len, bods_len, List.length_take, HNL.out]
                refine ⟨by simp; omega, ?_⟩
                rw [← HDBE.out]
                rfl)
              refine wp_region_noPanic ?_
              refine wp_region_held_drew (S := fun W => Fr Si wr W) (by kernel_rfl) ((Fr.refl Si wr).drew) (fun hHeld => ?_)
              refine wpAnyH_take (i := 0) (oi := ⟨some 62, _, _, _, _, _⟩) (v := .pointer (some ⟨J, 0, none⟩)) rfl (by kernel_rfl) (by kernel_rfl) (by kernel_rfl) (fun _ _ _ h => h) (Or.inl ⟨by rfl, fun W hSW => by go_simp⟩) hHeld ?_
              simp only [Act.put, List.setIfInBounds_toArray, List.set_cons_zero, List.set_cons_succ]
              refine wpAnyH_take (i := 1) (oi := ⟨some 63, _, _, _, _, _⟩) (v := .pointer (some ⟨pd, 0, none⟩)) rfl (by kernel_rfl) (by kernel_rfl) (by kernel_rfl) (fun _ _ _ h => h) (Or.inl ⟨by rfl, fun W hSW => by have a0 := (hSW.cell (p := ⟨J, 0, none⟩) kl HJN.out).trans k0; go_simp⟩) hHeld ?_
              simp only [Act.put, List.setIfInBounds_toArray, List.set_cons_zero, List.set_cons_succ]
              refine wpAnyH_take (i := 2) (oi := ⟨some 64, _, _, _, _, _⟩) (v := .pointer (some ⟨J, 1, none⟩)) rfl (by kernel_rfl) (by kernel_rfl) (by kernel_rfl) (fun _ _ _ h => h) (Or.inl ⟨by rfl, fun W hSW => by go_simp⟩) hHeld ?_
              simp only [Act.put, List.setIfInBounds_toArray, List.set_cons_zero, List.set_cons_succ]
              refine wpAnyH_take (i := 3) (oi := ⟨some 65, _, _, _, _, _⟩) (v := .int .i64 (A : Int)) rfl (by kernel_rfl) (by kernel_rfl) (by kernel_rfl) (fun _ _ _ h => h) (Or.inl ⟨by rfl, fun W hSW => by have a1 := (hSW.cell (p := ⟨J, 1, none⟩) kl HJN.out).trans k1; go_simp⟩) hHeld ?_
              simp only [Act.put, List.setIfInBounds_toArray, List.set_cons_zero, List.set_cons_succ]
              refine wpAnyH_take (i := 4) (oi := ⟨some 66, _, _, _, _, _⟩) (v := .slice A0 n c) rfl (by kernel_rfl) (by kernel_rfl) (by kernel_rfl) (fun _ _ _ h => h) (Or.inl ⟨by rfl, fun W hSW => by go_simp⟩) hHeld ?_
              simp only [Act.put, List.setIfInBounds_toArray, List.set_cons_zero, List.set_cons_succ]
              refine wpAnyH_ready (rs := [5]) (by kernel_rfl) (by simp) ?_
              refine AllReadyH.cons (o := ⟨some 67, _, _, _, _, _⟩) rfl (fun K hK => ?_) AllReadyH.nil
              go_simp
              refine (commit_c (G := natG L) (HTR.out.below ((Below.refl _ wr).drew)) (rd_fr HRN.out (FI.out.drew) HSN.out) HNL.out hn60 HH1.out HH2.out).mono ?_
              rintro e w7 ⟨rfl, hb7⟩
              have B7 := Lib.hid (show Below wr.heap.size wr w7 from ((Below.refl _ wr).drew).trans hb7)
              go_wp2_with fail
              refine hK.out _ _ (Fr.below _ B7.out) (fun hHeld => ?_)
              clear hK K hb7
              refine wpAnyH_ready (rs := [6]) (by kernel_rfl) (by simp) ?_
              refine AllReadyH.cons (o := ⟨some 68, _, _, _, _, _⟩) rfl (fun K hK => ?_) AllReadyH.nil
              go_simp
              refine (Write_a (QI.out.below B7.out) HLEN.out (by have := HDN.out; show A < db.n; omega) HCL.out hd7).mono ?_
              rintro e w8 ⟨rfl, S8, hq8, hf8, hn8⟩
              have Q8 := Lib.hid hq8
              have FR8 := Lib.hid ((Fr.below Si B7.out).trans hf8 (fun k hk => .inl hk))
              have N8 := Lib.hid (show ∀ k, S8 k → Si k ∨ wr.heap.size ≤ k from fun k hk => by
                rcases hn8 k hk with q | q
                · exact .inl q
                · have := B7.out.size
                  exact .inr (by omega))
              clear hq8 hf8 hn8
              go_wp2_with fail
              refine hK.out _ _ FR8.out (fun hHeldE => ?_)
              clear hK K
              refine wpAnyH_done (by kernel_rfl) ?_ _
              refine NoPanic.normal ?_
              clear hHeldE
              have F9 := Lib.hid (FI.out.trans FR8.out (fun k hk => (NI.out k hk).imp id (fun q => by omega)))
              have hk9 := FR8.out.blk KR.out HJN.out
              have N9 := Lib.hid (show ∀ k, S8 k → S k ∨ w.heap.size ≤ k from fun k hk => by
                rcases N8.out k hk with q | q
                · exact (NI.out k q).imp id (fun q => by omega)
                · exact .inr (by omega))
              have HS9 := Lib.hid (show ∀ g, (Value.slice A0 n c).ownBlock = some g → ¬ S8 g from fun g hg q => by
                rcases N9.out g q with q2 | q2
                · exact HSN.out g hg q2
                · have := HGL.out g hg
                  omega)
              clear hd7 k0 k1 k2 kl
              have k0 := hk9.cell (i := 0) rfl
              have k1 := hk9.cell (i := 1) rfl
              have k2 := hk9.cell (i := 2) rfl
              have kl := hk9.lt
              clear hk9
              go_wp2_with fail
              refine (settle_c (A := A0) (c := c) Q8.out (rd_fr HRN.out F9.out HSN.out) HNL.out HS9.out HD8.out.1 (fun x hx => by rw [HD8.out.2]; exact ⟨HH3.out x hx, HH2.out x hx⟩) (by rw [HD8.out.2]; omega)).mono ?_
              rintro e w9 ⟨rfl, hq9⟩
              rw [HD7.out] at hq9
              have T9 := Lib.hid (Turned.trans HLT.out F9.out N9.out hq9)
              clear hq9 k0 k1 k2 kl
              go_wp2_with fail
              go_ret
              exact ⟨rfl, T9.out⟩
    · rw [if_neg hz20] at e2
      subst e2
      have hzB : (z == 0) = false := by simp [hz20]
      go_wp2_with fail
      go_ret
      exact ⟨rfl, Turned.same Q.out B3.out⟩
  · obtain ⟨e1, e2⟩ := put_bad (L := L) hz1 hz0
    rw [hz] at e1
    rw [hd] at e2
    subst e1 e2
    have hzB : (z == 0) = false := by simp [hz0]
    clear h hT hd hz hz1 hR hS hn
    go_enter Tryd.func9, Tryd.ntmps9
    go_wp2_with fail
    refine (open_c Q.out).mono ?_
    rintro e w1 ⟨rfl, hb1⟩
    have B1 := Lib.hid hb1
    have Q1 := Lib.hid (Q.out.below hb1)
    unfold openV jv
    rw [HZ.out]
    clear hb1
    rw [if_neg hz0]
    go_wp2_with fail
    go_ret
    exact ⟨rfl, Turned.same Q.out (B1.out.alloc B1.out.size _)⟩
end
end JouW
end Go.Proofs.YtknckaegpdganaaDoor
