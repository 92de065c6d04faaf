/-
  SectorRefused: what is refused is no write, and changes nothing.
-/
import Derived.Test.YtjcmpcdalghniaaDoorSectorWorks
import Derived.Test.YtjcmpcdalghniaaDoorSectorWr
namespace Go.Proofs.YtjcmpcdalghniaaDoor
open Go.RowKit
set_option linter.unusedVariables false
set_option linter.unusedSimpArgs false
set_option maxRecDepth 100000
namespace SecW
open BlkP RowG FrS PushG JournalP SecP
set_option maxHeartbeats 16000000 in
theorem law_refused {w : World} {A : Option Addr} {n c : Nat} {L : List (Int × Sec)} {xa : Int} {xs : Sec} (hR : Rd encL w (.slice A n c) L) (hn : L.length = n) :
    Calls Tryd.prog 7 #[.slice A n c, .agg #[.int .i64 xa, .string (str xs)]] w fun e w' => e = .returned (.bool true) ∧ Below w.heap.size w w' := by
  have HR := Lib.hid hR
  have HN := Lib.hid hn
  obtain ⟨dd, hdd⟩ : ∃ dd, writtenTo L (-1) (min n 40) = dd := ⟨_, rfl⟩
  have HDD := Lib.hid hdd
  have hdn : dd.n = 300 := by rw [← hdd]; exact written_n ..
  have hdl : dd.ws.length ≤ 40 := by
    rw [← hdd]
    have := written_len L (-1) (min n 40)
    omega
  have HOK := Lib.hid (show Ok dd by rw [← hdd]; exact written_ok ..)
  have HDN := Lib.hid hdn
  clear hdd
  obtain ⟨xb, hxb⟩ : ∃ xb, w.heap.size = xb := ⟨_, rfl⟩
  have hsz := str_size xs
  clear hR hn
  go_enter Tryd.func7, Tryd.ntmps7
  go_wp2_with fail
  refine calls_named (S := fun W => Below w.heap.size w W ∧ Blk W xb TA [.int .i64 xa, .string (str xs)]) ⟨by (repeat' (first | (with_reducible exact Below.refl _ _) | (with_reducible refine Below.setCell ?_ (by (first | omega | (simp; done) | (simp; omega))) _) | (with_reducible refine Below.alloc ?_ (by (first | omega | (simp; done) | (simp; omega))) _) | (with_reducible refine Below.drew ?_) | (with_reducible refine below_drewN ?_ _))), by rw [← hxb]; (repeat' (first | (with_reducible refine BlkP.Blk.drew ?_) | (with_reducible refine BlkP.Blk.drewN ?_ _) | (with_reducible refine BlkP.Blk.setAt (us := ?_) (by first | omega | (simp; done) | (simp; omega)) rfl ?_ ?_) | (with_reducible refine BlkP.Blk.otherAt ?_ (by first | omega | (simp; done) | (simp; omega))) | (with_reducible refine BlkP.Blk.newA' (by first | omega | (simp; done) | (simp; omega)) rfl) | (with_reducible refine BlkP.Blk.alloc ?_ _) | (exact rfl)))⟩ ?_
  rintro w0 ⟨hb0, hk0⟩
  try rw [hxb]
  have HR0 := Lib.hid (HR.out.below hb0)
  have B0 := Lib.hid hb0
  have K := Lib.hid hk0
  have B := Lib.hid (Below.refl w0.heap.size w0)
  have hzB : w0.heap.size ≤ w0.heap.size := Nat.le_refl _
  clear hb0 hk0
  refine (written_i (HR0.out.below B.out) HN.out HDD.out).mono ?_
  rintro e w1 ⟨pd, rfl, S1, hq, hb⟩
  have QD := Lib.hid (hq.mono hzB)
  have B' := Lib.hid (below_t B.out hb)
  clear B
  have B := B'
  have hzB := B.out.size
  clear B'
  clear hq hb
  go_wp2_with fail
  refine (written_i (HR0.out.below B.out) HN.out HDD.out).mono ?_
  rintro e w2 ⟨pp, rfl, S2, hq, hb⟩
  have DP := Lib.hid (show ∀ k, S1 k → ¬ S2 k from apart_new (fun k hk => (QD.out.ge hk).2) (fun k hk => (hq.ge hk).1))
  have QP := Lib.hid (hq.mono hzB)
  have QD := Lib.hid (QD.out.below hb)
  have B' := Lib.hid (below_t B.out hb)
  clear B
  have B := B'
  have hzB := B.out.size
  clear B'
  clear hq hb
  have DQ := Lib.hid (show ∀ k, S2 k → ¬ S1 k from fun k h2 h1 => DP.out k h1 h2)
  clear DP
  have k0 := (K.out.below B.out).cell (i := 0) rfl
  have k1 := (K.out.below B.out).cell (i := 1) rfl
  have kl := (K.out.below B.out).lt
  go_wp2_with fail
  clear k0 k1 kl
  by_cases hin : 0 ≤ xa ∧ xa < 300
  · have hind : inD dd xa = true := inD_iff.2 ⟨hin.1, by omega⟩
    obtain ⟨hi0, hi1⟩ := hin
    by_cases hs : xs.length ≤ 512
    · obtain ⟨d5, hd5⟩ : ∃ d5, writeD dd xa xs = d5 := ⟨_, rfl⟩
      have hl5 : d5.ws.length = dd.ws.length + 1 := by
        rw [← hd5, writeD_ws]
        unfold fineD
        rw [hind]
        simp [hs]
      have HWD := Lib.hid hd5
      have HWE := Lib.hid (show writeE dd xa xs = 0 by unfold writeE; rw [hind]; simp [hs])
      have hsI : ¬ (512 : Int) < (xs.length : Int) := by omega
      have hll : (d5.ws.length : Int) = (dd.ws.length : Int) + 1 := by omega
      clear hind hs hd5 hl5
      refine (Write_i (d' := d5) (z := 0) QD.out (by omega) HWD.out HWE.out).mono ?_
      rintro e w3 ⟨rfl, S3, hq, hf, hn⟩
      have DQ' := Lib.hid (show ∀ k, S2 k → ¬ S3 k from apart_turned (fun k hk => (QP.out.ge hk).2) DQ.out hn)
      have QP' := Lib.hid (QP.out.fr hf DQ.out)
      clear DQ QP
      have DQ := DQ'
      have QP := QP'
      clear DQ' QP'
      have B' := Lib.hid (B.out.trans (QD.out.toBelow hf))
      have QD' := Lib.hid hq
      clear B QD
      have B := B'
      have QD := QD'
      have hzB := B.out.size
      clear B' QD' hq hf hn
      have k0 := (K.out.below B.out).cell (i := 0) rfl
      have k1 := (K.out.below B.out).cell (i := 1) rfl
      have kl := (K.out.below B.out).lt
      go_wp2_with fail
      clear k0 k1 kl
      refine (Writes_c QD.out).mono ?_
      rintro e w4 ⟨rfl, hw⟩
      obtain rfl := hw.symm
      clear hw
      have k0 := (K.out.below B.out).cell (i := 0) rfl
      have k1 := (K.out.below B.out).cell (i := 1) rfl
      have kl := (K.out.below B.out).lt
      go_wp2_with fail
      clear k0 k1 kl
      refine (works_c).mono ?_
      rintro e wz ⟨rfl, hb⟩
      have B' := Lib.hid (below_t B.out hb)
      clear B
      have B := B'
      have hzB := B.out.size
      clear B'
      clear hb
      go_wp2_with fail
      go_ret
      exact ⟨rfl, B0.out.trans (B.out.mono B0.out.size)⟩
    · have HWD := Lib.hid (show writeD dd xa xs = dd by unfold writeD; rw [hind]; simp [hs])
      have HWE := Lib.hid (show writeE dd xa xs = 3 by unfold writeE; rw [hind]; simp [hs])
      have hsI : (512 : Int) < (xs.length : Int) := by omega
      clear hind hs
      refine (Write_i (d' := dd) (z := 3) QD.out (by omega) HWD.out HWE.out).mono ?_
      rintro e w3 ⟨rfl, S3, hq, hf, hn⟩
      have DQ' := Lib.hid (show ∀ k, S2 k → ¬ S3 k from apart_turned (fun k hk => (QP.out.ge hk).2) DQ.out hn)
      have QP' := Lib.hid (QP.out.fr hf DQ.out)
      clear DQ QP
      have DQ := DQ'
      have QP := QP'
      clear DQ' QP'
      have B' := Lib.hid (B.out.trans (QD.out.toBelow hf))
      have QD' := Lib.hid hq
      clear B QD
      have B := B'
      have QD := QD'
      have hzB := B.out.size
      clear B' QD' hq hf hn
      have k0 := (K.out.below B.out).cell (i := 0) rfl
      have k1 := (K.out.below B.out).cell (i := 1) rfl
      have kl := (K.out.below B.out).lt
      go_wp2_with fail
      clear k0 k1 kl
      refine (Writes_c QD.out).mono ?_
      rintro e w4 ⟨rfl, hw⟩
      obtain rfl := hw.symm
      clear hw
      have k0 := (K.out.below B.out).cell (i := 0) rfl
      have k1 := (K.out.below B.out).cell (i := 1) rfl
      have kl := (K.out.below B.out).lt
      go_wp2_with fail
      clear k0 k1 kl
      refine (alike_c QD.out QP.out rfl rfl).mono ?_
      rintro e w5 ⟨rfl, hb⟩
      have B' := Lib.hid (below_t B.out hb)
      clear B
      have B := B'
      have hzB := B.out.size
      clear B'
      clear hb
      go_wp2_with fail
      refine (works_c).mono ?_
      rintro e wz ⟨rfl, hb⟩
      have B' := Lib.hid (below_t B.out hb)
      clear B
      have B := B'
      have hzB := B.out.size
      clear B'
      clear hb
      go_wp2_with fail
      go_ret
      exact ⟨rfl, B0.out.trans (B.out.mono B0.out.size)⟩
  · have hind : inD dd xa = false := by
      cases hq : inD dd xa with
      | false => rfl
      | true => exact absurd ⟨(inD_iff.1 hq).1, by have := (inD_iff.1 hq).2; omega⟩ hin
    have HWD := Lib.hid (show writeD dd xa xs = dd by unfold writeD; rw [hind]; rfl)
    have HWE := Lib.hid (show writeE dd xa xs = 2 by unfold writeE; rw [hind]; rfl)
    clear hind
    by_cases hi0 : 0 ≤ xa
    · have hi1 : decide (xa < 300) = false := decide_eq_false (fun q => hin ⟨hi0, q⟩)
      clear hin
      refine (Write_i (d' := dd) (z := 2) QD.out (by omega) HWD.out HWE.out).mono ?_
      rintro e w3 ⟨rfl, S3, hq, hf, hn⟩
      have DQ' := Lib.hid (show ∀ k, S2 k → ¬ S3 k from apart_turned (fun k hk => (QP.out.ge hk).2) DQ.out hn)
      have QP' := Lib.hid (QP.out.fr hf DQ.out)
      clear DQ QP
      have DQ := DQ'
      have QP := QP'
      clear DQ' QP'
      have B' := Lib.hid (B.out.trans (QD.out.toBelow hf))
      have QD' := Lib.hid hq
      clear B QD
      have B := B'
      have QD := QD'
      have hzB := B.out.size
      clear B' QD' hq hf hn
      have k0 := (K.out.below B.out).cell (i := 0) rfl
      have k1 := (K.out.below B.out).cell (i := 1) rfl
      have kl := (K.out.below B.out).lt
      go_wp2_with fail
      clear k0 k1 kl
      refine (Writes_c QD.out).mono ?_
      rintro e w4 ⟨rfl, hw⟩
      obtain rfl := hw.symm
      clear hw
      have k0 := (K.out.below B.out).cell (i := 0) rfl
      have k1 := (K.out.below B.out).cell (i := 1) rfl
      have kl := (K.out.below B.out).lt
      go_wp2_with fail
      clear k0 k1 kl
      refine (alike_c QD.out QP.out rfl rfl).mono ?_
      rintro e w5 ⟨rfl, hb⟩
      have B' := Lib.hid (below_t B.out hb)
      clear B
      have B := B'
      have hzB := B.out.size
      clear B'
      clear hb
      go_wp2_with fail
      refine (works_c).mono ?_
      rintro e wz ⟨rfl, hb⟩
      have B' := Lib.hid (below_t B.out hb)
      clear B
      have B := B'
      have hzB := B.out.size
      clear B'
      clear hb
      go_wp2_with fail
      go_ret
      exact ⟨rfl, B0.out.trans (B.out.mono B0.out.size)⟩
    · clear hin
      refine (Write_i (d' := dd) (z := 2) QD.out (by omega) HWD.out HWE.out).mono ?_
      rintro e w3 ⟨rfl, S3, hq, hf, hn⟩
      have DQ' := Lib.hid (show ∀ k, S2 k → ¬ S3 k from apart_turned (fun k hk => (QP.out.ge hk).2) DQ.out hn)
      have QP' := Lib.hid (QP.out.fr hf DQ.out)
      clear DQ QP
      have DQ := DQ'
      have QP := QP'
      clear DQ' QP'
      have B' := Lib.hid (B.out.trans (QD.out.toBelow hf))
      have QD' := Lib.hid hq
      clear B QD
      have B := B'
      have QD := QD'
      have hzB := B.out.size
      clear B' QD' hq hf hn
      have k0 := (K.out.below B.out).cell (i := 0) rfl
      have k1 := (K.out.below B.out).cell (i := 1) rfl
      have kl := (K.out.below B.out).lt
      go_wp2_with fail
      clear k0 k1 kl
      refine (Writes_c QD.out).mono ?_
      rintro e w4 ⟨rfl, hw⟩
      obtain rfl := hw.symm
      clear hw
      have k0 := (K.out.below B.out).cell (i := 0) rfl
      have k1 := (K.out.below B.out).cell (i := 1) rfl
      have kl := (K.out.below B.out).lt
      go_wp2_with fail
      clear k0 k1 kl
      refine (alike_c QD.out QP.out rfl rfl).mono ?_
      rintro e w5 ⟨rfl, hb⟩
      have B' := Lib.hid (below_t B.out hb)
      clear B
      have B := B'
      have hzB := B.out.size
      clear B'
      clear hb
      go_wp2_with fail
      refine (works_c).mono ?_
      rintro e wz ⟨rfl, hb⟩
      have B' := Lib.hid (below_t B.out hb)
      clear B
      have B := B'
      have hzB := B.out.size
      clear B'
      clear hb
      go_wp2_with fail
      go_ret
      exact ⟨rfl, B0.out.trans (B.out.mono B0.out.size)⟩
end SecW
end Go.Proofs.YtjcmpcdalghniaaDoor
