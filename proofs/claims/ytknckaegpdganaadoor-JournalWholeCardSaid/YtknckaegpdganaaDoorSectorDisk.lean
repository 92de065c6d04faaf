/-
  The program's disk: New, Len, Writes, Mark, Read; disks that are none.
-/
import Derived.Test.YtknckaegpdganaaDoorSectorSmall
-- mine: whole_c same_c awake_c take_c step_c back_c
namespace Go.Proofs.YtknckaegpdganaaDoor
open Go.RowKit
set_option linter.unusedVariables false
set_option linter.unusedSimpArgs false
set_option maxRecDepth 100000
namespace SecW
open BlkP RowG FrS PushG JournalP SecP
set_option maxHeartbeats 16000000 in
theorem New_no {w : World} {n : Int} (hn : n < 256 ∨ 131072 < n) :
    Calls Tryd.prog 26 #[.int .i64 n] w fun e w' => e = .returned (.tuple #[.pointer none, .int .i64 2]) ∧ w' = w := by
  rcases hn with hn | hn
  · go_enter Tryd.func26, Tryd.ntmps26
    go_wp2_with fail
    refine bodyPost_ret (v := .tuple #[.pointer none, .int .i64 2]) (by simp [results, Tryd.results26, go_sem]) rfl ?_
    exact ⟨rfl, rfl⟩
  · have hn2 : ¬ n < 256 := by omega
    go_enter Tryd.func26, Tryd.ntmps26
    go_wp2_with fail
    refine bodyPost_ret (v := .tuple #[.pointer none, .int .i64 2]) (by simp [results, Tryd.results26, go_sem]) rfl ?_
    exact ⟨rfl, rfl⟩
set_option maxHeartbeats 16000000 in
theorem New_c {w : World} {k : Nat} (g1 : 256 ≤ k) (g2 : k ≤ 131072) :
    Calls Tryd.prog 26 #[.int .i64 (k : Int)] w fun e w' => ∃ pd, e = .returned (.tuple #[.pointer (some ⟨pd, 0, none⟩), .int .i64 0]) ∧ Made w pd (SecP.mk k) w' := by
  have h1 : ¬ (k : Int) < 256 := by omega
  have h2 : ¬ 131072 < (k : Int) := by omega
  have G := Lib.hid (And.intro g1 g2)
  have hmm := @run_makeMap Tryd.prog
  clear g1 g2
  go_enter Tryd.func26, Tryd.ntmps26
  go_wp2_with fail
  refine bodyPost_ret (v := .tuple #[.pointer (some ⟨w.heap.size + 2, 0, none⟩), .int .i64 0]) (by simp [results, Tryd.results26, go_sem]) rfl ?_
  refine ⟨w.heap.size + 2, rfl, _, ⟨w.heap.size + 1, w.heap.size, .slice none 0 0, ⟨by (repeat' (first | (with_reducible refine BlkP.Blk.drew ?_) | (with_reducible refine BlkP.Blk.drewN ?_ _) | (with_reducible refine BlkP.Blk.setAt (us := ?_) (by first | omega | (simp; done) | (simp; omega)) rfl ?_ ?_) | (with_reducible refine BlkP.Blk.otherAt ?_ (by first | omega | (simp; done) | (simp; omega))) | (with_reducible refine BlkP.Blk.newA' (by first | omega | (simp; done) | (simp; omega)) rfl) | (with_reducible refine BlkP.Blk.alloc ?_ _) | (exact rfl))), by (repeat' (first | (with_reducible refine BlkP.Blk.drew ?_) | (with_reducible refine BlkP.Blk.drewN ?_ _) | (with_reducible refine BlkP.Blk.setAt (us := ?_) (by first | omega | (simp; done) | (simp; omega)) rfl ?_ ?_) | (with_reducible refine BlkP.Blk.otherAt ?_ (by first | omega | (simp; done) | (simp; omega))) | (with_reducible refine BlkP.Blk.newA' (by first | omega | (simp; done) | (simp; omega)) rfl) | (with_reducible refine BlkP.Blk.alloc ?_ _) | (exact rfl))), ((MapD.new w G.out.2).alloc _).alloc _, Own.nil _ _ _ _, Ok.new G.out.1 G.out.2, by omega, by omega, Nat.le_refl _⟩, fun k => Iff.rfl⟩, by (repeat' (first | (with_reducible exact Below.refl _ _) | (with_reducible refine Below.setCell ?_ (by (first | omega | (simp; done) | (simp; omega))) _) | (with_reducible refine Below.alloc ?_ (by (first | omega | (simp; done) | (simp; omega))) _) | (with_reducible refine Below.drew ?_) | (with_reducible refine below_drewN ?_ _)))⟩
set_option maxHeartbeats 16000000 in
theorem Len_c {w : World} {B pd : Nat} {d : Dk} {S : Nat → Prop} (h : Dsk w B pd d S) :
    Calls Tryd.prog 50 #[.pointer (some ⟨pd, 0, none⟩)] w fun e w' => e = .returned (.int .i64 (d.n : Int)) ∧ w' = w := by
  obtain ⟨pm, M, v, hp, hS⟩ := h
  have HP := Lib.hid hp
  have HS := Lib.hid hS
  have c0 := hp.bd.cell (i := 0) rfl
  have m0 := hp.bm.cell (i := 0) rfl
  have m1 := hp.bm.cell (i := 1) rfl
  have m2 := hp.bm.cell (i := 2) rfl
  have lpd := hp.bd.lt
  have lpm := hp.bm.lt
  clear hp hS
  go_enter Tryd.func50, Tryd.ntmps50
  go_wp2_with fail
  refine (isMade_c HP.out.bd).mono ?_
  rintro e w1 ⟨rfl, rfl⟩
  go_wp2_with fail
  go_ret
  exact ⟨rfl, rfl⟩
set_option maxHeartbeats 16000000 in
theorem Writes_c {w : World} {B pd : Nat} {d : Dk} {S : Nat → Prop} (h : Dsk w B pd d S) :
    Calls Tryd.prog 17 #[.pointer (some ⟨pd, 0, none⟩)] w fun e w' => e = .returned (.int .i64 (d.ws.length : Int)) ∧ w' = w := by
  obtain ⟨pm, M, v, hp, hS⟩ := h
  have HP := Lib.hid hp
  have HS := Lib.hid hS
  have c0 := hp.bd.cell (i := 0) rfl
  have m0 := hp.bm.cell (i := 0) rfl
  have m1 := hp.bm.cell (i := 1) rfl
  have m2 := hp.bm.cell (i := 2) rfl
  have lpd := hp.bd.lt
  have lpm := hp.bm.lt
  obtain ⟨A, c, rfl, _, _, _⟩ := hp.log.form (logW_len _ _)
  clear hp hS
  go_enter Tryd.func17, Tryd.ntmps17
  go_wp2_with fail
  refine (isMade_c HP.out.bd).mono ?_
  rintro e w1 ⟨rfl, rfl⟩
  go_wp2_with fail
  go_ret
  exact ⟨rfl, rfl⟩
set_option maxHeartbeats 16000000 in
theorem Mark_c {w : World} {B pd : Nat} {d : Dk} {S : Nat → Prop} (h : Dsk w B pd d S) :
    Calls Tryd.prog 24 #[.pointer (some ⟨pd, 0, none⟩)] w fun e w' => e = .returned (.tuple #[]) ∧ Turned w B pd S d.mark w' := by
  obtain ⟨pm, M, v, hp, hS⟩ := h
  have HP := Lib.hid hp
  have HS := Lib.hid hS
  have c0 := hp.bd.cell (i := 0) rfl
  have m0 := hp.bm.cell (i := 0) rfl
  have m1 := hp.bm.cell (i := 1) rfl
  have m2 := hp.bm.cell (i := 2) rfl
  have lpd := hp.bd.lt
  have lpm := hp.bm.lt
  have fm := hp.bm.frozen 2
  clear hp hS
  go_enter Tryd.func24, Tryd.ntmps24
  go_wp2_with fail
  refine (isMade_c HP.out.bd).mono ?_
  rintro e w1 ⟨rfl, rfl⟩
  go_wp2_with fail
  go_end0
  refine ⟨rfl, fun k => Sp pd pm M (.slice none 0 0) k, ⟨pm, M, .slice none 0 0, ⟨HP.out.bd.other HP.out.pdm _, HP.out.bm.set 2 _, HP.out.map.set (fun q => HP.out.pmM q.symm) _, Own.nil _ _ _ _, HP.out.ok.mark, HP.out.ld, HP.out.lm, HP.out.lM⟩, fun k => Iff.rfl⟩, Fr.set S _ ⟨pm, 2, none⟩ _ ((HS.out pm).2 (.inr (.inl rfl))), fun k hk => ?_⟩
  rcases hk with q | q | q | q
  · exact .inl ((HS.out k).2 (.inl q))
  · exact .inl ((HS.out k).2 (.inr (.inl q)))
  · exact .inl ((HS.out k).2 (.inr (.inr (.inl q))))
  · cases q
set_option maxHeartbeats 16000000 in
theorem Read_c {w : World} {B pd : Nat} {d : Dk} {S : Nat → Prop} {i : Int} (h : Dsk w B pd d S) (hi0 : True) :
    Calls Tryd.prog 49 #[.pointer (some ⟨pd, 0, none⟩), .int .i64 i] w fun e w' => e = .returned (.tuple #[.string (str (readD d i)), .int .i64 (readE d i)]) ∧ Below w.heap.size w w' := by
  obtain ⟨pm, M, v, hp, hS⟩ := h
  have HP := Lib.hid hp
  have HS := Lib.hid hS
  have c0 := hp.bd.cell (i := 0) rfl
  have m0 := hp.bm.cell (i := 0) rfl
  have m1 := hp.bm.cell (i := 1) rfl
  have m2 := hp.bm.cell (i := 2) rfl
  have lpd := hp.bd.lt
  have lpm := hp.bm.lt
  have HI := Lib.hid hi0
  by_cases hi : 0 ≤ i ∧ i < d.n
  · obtain ⟨j, rfl⟩ : ∃ j : Nat, i = (j : Int) := ⟨i.toNat, by omega⟩
    have hj : j < d.n := by omega
    have hb : inD d (j : Int) = true := inD_iff.2 hi
    have HR := Lib.hid (show readD d (j : Int) = pad (raw (d.now j)) by
      unfold readD
      rw [if_pos hb, pad_raw (hp.ok.now _)]
      rfl)
    have HE := Lib.hid (show readE d (j : Int) = 0 by unfold readE; rw [if_pos hb])
    have HB := Lib.hid hb
    have HL := Lib.hid (raw_len (hp.ok.now j))
    have hfld := run_fieldC
    clear hp hS hi hb hi0
    rw [HR.out, HE.out]
    go_enter Tryd.func49, Tryd.ntmps49
    go_wp2_with fail
    refine (isMade_c HP.out.bd).mono ?_
    rintro e w1 ⟨rfl, rfl⟩
    go_wp2_with fail
    refine (has_c (d := d) HP.out.bm HB.out).mono ?_
    rintro e w1 ⟨rfl, rfl⟩
    go_wp2_with ((with_reducible refine at_slot 26 ?_); refine Classical.byContradiction (fun hG => ?_))
    refine hG ?_
    clear hG
    refine wp_lookD rfl (.tmp 24) (.tmp 25) rfl rfl rfl HP.out.map hj ?_
    go_wp2_with fail
    refine (whole_c HL.out).mono ?_
    rintro e w2 ⟨rfl, hb2⟩
    go_wp2_with fail
    refine bodyPost_ret (v := .tuple #[.string (str (pad (raw (d.now j)))), .int .i64 0]) (by simp [results, Tryd.results49, go_sem]) rfl ?_
    exact ⟨rfl, hb2⟩
  · have hb : inD d i = false := by
      cases hq : inD d i with
      | false => rfl
      | true => exact absurd (inD_iff.1 hq) hi
    have HR := Lib.hid (show readD d i = [] by unfold readD; rw [hb]; rfl)
    have HE := Lib.hid (show readE d i = 2 by unfold readE; rw [hb]; rfl)
    have HB := Lib.hid hb
    clear hp hS hi hb hi0
    rw [HR.out, HE.out]
    go_enter Tryd.func49, Tryd.ntmps49
    go_wp2_with fail
    refine (isMade_c HP.out.bd).mono ?_
    rintro e w1 ⟨rfl, rfl⟩
    go_wp2_with fail
    refine (has_c (d := d) HP.out.bm HB.out).mono ?_
    rintro e w1 ⟨rfl, rfl⟩
    go_wp2_with fail
    refine bodyPost_ret (v := .tuple #[.string ⟨#[]⟩, .int .i64 2]) (by simp [results, Tryd.results49, go_sem]) rfl ?_
    exact ⟨rfl, Below.refl _ _⟩
set_option maxHeartbeats 16000000 in
theorem Len_no {w : World} {p : Option Addr} (h : p = none ∨ ∃ b, p = some ⟨b, 0, none⟩ ∧ Blk w b TD [.pointer none]) :
    Calls Tryd.prog 50 #[.pointer p] w fun e w' => e = .returned (.int .i64 0) ∧ w' = w := by
  have H := Lib.hid h
  clear h
  go_enter Tryd.func50, Tryd.ntmps50
  go_wp2_with fail
  refine (isMade_no H.out).mono ?_
  rintro e w1 ⟨rfl, rfl⟩
  go_wp2_with fail
  go_ret
  exact ⟨rfl, rfl⟩
set_option maxHeartbeats 16000000 in
theorem Writes_no {w : World} {p : Option Addr} (h : p = none ∨ ∃ b, p = some ⟨b, 0, none⟩ ∧ Blk w b TD [.pointer none]) :
    Calls Tryd.prog 17 #[.pointer p] w fun e w' => e = .returned (.int .i64 0) ∧ w' = w := by
  have H := Lib.hid h
  clear h
  go_enter Tryd.func17, Tryd.ntmps17
  go_wp2_with fail
  refine (isMade_no H.out).mono ?_
  rintro e w1 ⟨rfl, rfl⟩
  go_wp2_with fail
  go_ret
  exact ⟨rfl, rfl⟩
set_option maxHeartbeats 16000000 in
theorem Mark_no {w : World} {p : Option Addr} (h : p = none ∨ ∃ b, p = some ⟨b, 0, none⟩ ∧ Blk w b TD [.pointer none]) :
    Calls Tryd.prog 24 #[.pointer p] w fun e w' => e = .returned (.tuple #[]) ∧ w' = w := by
  have H := Lib.hid h
  clear h
  go_enter Tryd.func24, Tryd.ntmps24
  go_wp2_with fail
  refine (isMade_no H.out).mono ?_
  rintro e w1 ⟨rfl, rfl⟩
  go_wp2_with fail
  go_end0
  exact ⟨rfl, rfl⟩
set_option maxHeartbeats 16000000 in
theorem Read_no {w : World} {p : Option Addr} {i : Int} (h : p = none ∨ ∃ b, p = some ⟨b, 0, none⟩ ∧ Blk w b TD [.pointer none]) :
    Calls Tryd.prog 49 #[.pointer p, .int .i64 i] w fun e w' => e = .returned (.tuple #[.string ⟨#[]⟩, .int .i64 1]) ∧ w' = w := by
  have H := Lib.hid h
  clear h
  go_enter Tryd.func49, Tryd.ntmps49
  go_wp2_with fail
  refine (isMade_no H.out).mono ?_
  rintro e w1 ⟨rfl, rfl⟩
  go_wp2_with fail
  refine bodyPost_ret (v := .tuple #[.string ⟨#[]⟩, .int .i64 1]) (by simp [results, Tryd.results49, go_sem]) rfl ?_
  exact ⟨rfl, rfl⟩
set_option maxHeartbeats 16000000 in
theorem Write_no {w : World} {p : Option Addr} {i : Int} {s : ByteArray} (h : p = none ∨ ∃ b, p = some ⟨b, 0, none⟩ ∧ Blk w b TD [.pointer none]) :
    Calls Tryd.prog 28 #[.pointer p, .int .i64 i, .string s] w fun e w' => e = .returned (.int .i64 1) ∧ w' = w := by
  have H := Lib.hid h
  clear h
  go_enter Tryd.func28, Tryd.ntmps28
  go_wp2_with fail
  refine (isMade_no H.out).mono ?_
  rintro e w1 ⟨rfl, rfl⟩
  go_wp2_with fail
  go_ret
  exact ⟨rfl, rfl⟩
set_option maxHeartbeats 16000000 in
theorem Cut_no {w : World} {p : Option Addr} {i : Int} (h : p = none ∨ ∃ b, p = some ⟨b, 0, none⟩ ∧ Blk w b TD [.pointer none]) :
    Calls Tryd.prog 18 #[.pointer p, .int .i64 i] w fun e w' => e = .returned (.tuple #[.pointer none, .int .i64 1]) ∧ w' = w := by
  have H := Lib.hid h
  clear h
  go_enter Tryd.func18, Tryd.ntmps18
  go_wp2_with fail
  refine (isMade_no H.out).mono ?_
  rintro e w1 ⟨rfl, rfl⟩
  go_wp2_with fail
  refine bodyPost_ret (v := .tuple #[.pointer none, .int .i64 1]) (by simp [results, Tryd.results18, go_sem]) rfl ?_
  exact ⟨rfl, rfl⟩
end SecW
end Go.Proofs.YtknckaegpdganaaDoor
