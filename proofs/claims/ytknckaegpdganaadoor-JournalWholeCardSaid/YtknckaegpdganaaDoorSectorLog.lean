/-
  Log: the writes since the mark, in a row of the call's own.
-/
import Derived.Laws.MakeOwn
import Derived.Test.YtknckaegpdganaaDoorSectorDisk
-- mine: whole_c same_c awake_c take_c step_c back_c
namespace Go.Proofs.YtknckaegpdganaaDoor
open Go.RowKit
set_option linter.unusedVariables false
set_option linter.unusedSimpArgs false
set_option maxRecDepth 100000
namespace SecW
open BlkP RowG FrS PushG JournalP SecP
/-- What a call tells of writes. -/
def Told (w : World) (v : Value) (l : List (Nat × Sec)) (w' : World) : Prop := RowG.Own encA TA w' w.heap.size v l ∧ Below w.heap.size w w'
theorem wp_makeE {α : Type} {e : Enc α} {T E : TypeId} {by_ : Nat} (hT : RowE.Ty e T E by_) (hby : by_ ≤ 100) {w : World} {ops : Array Oper} {rest : List Oper} {o : Oper} {a : Act} {Q : Exit → Act → World → Prop} (hg : o.guard = none) (x y : Operand) (hop : o.op = Op.makeSlice T x y) {n : Nat} (hl : a.eval x = .int .i64 0) (hc : a.eval y = .int .i64 n) (hn : n ≤ 1000000)
    (h : ∀ v w', RowG.Own e E w' w.heap.size v [] → v = .slice (some ⟨w.heap.size, 0, none⟩) 0 n → Below w.heap.size w w' → wpList Tryd.prog ops Q rest (a.put o.dst v) w') : wpList Tryd.prog ops Q (o :: rest) a w := by
  obtain ⟨z, hI, hz0⟩ := hT.info
  obtain ⟨i, hi, hz, hs1, hb⟩ := info_parts hI
  refine wpList_plain hg fun K hK' => ?_
  have hr := run_make (P := Tryd.prog) w T E i _ hT.under hi hz .i64 .i64 0 n (by omega) (by omega) (by
    rw [hb]
    have : by_ * n ≤ 100 * 1000000 := Nat.mul_le_mul hby hn
    omega) (by omega)
  unfold Oper.wp
  simp [execOp, hop, hl, hc, hr, Result.andThen]
  refine hK' _ _ (h _ _ ?_ rfl ((Below.refl _ _).alloc (Nat.le_refl _) _))
  exact World.ownsRow_made w _ n (Nat.le_refl _) (by have : maxLen = 9223372036854775807 := rfl; omega) (by rw [hs1]; simp [madeCells])
section
variable {w : World} {B pd : Nat} {d : Dk} {S : Nat → Prop}
def LogRel (w : World) (l : List (Nat × Sec)) (n : Nat) (v3 v26 : Value) (wr : World) : Prop := ∃ (i : Nat) (vr : Value), v26 = .int .i64 (i : Int) ∧ vr = v3 ∧ i ≤ n ∧ RowG.Own encA TA wr w.heap.size vr (l.take i) ∧ Below w.heap.size w wr
set_option maxHeartbeats 16000000 in
theorem Log_c (h : Dsk w B pd d S) (hl : d.ws.length ≤ 1000) :
    Calls Tryd.prog 11 #[.pointer (some ⟨pd, 0, none⟩)] w fun e w' => ∃ v, e = .returned v ∧ Told w v d.ws w' := by
  obtain ⟨pm, M, v, hp, hS⟩ := h
  have HP := Lib.hid hp
  have c0 := hp.bd.cell (i := 0) rfl
  have m2 := hp.bm.cell (i := 2) rfl
  have lpd := hp.bd.lt
  have lpm := hp.bm.lt
  obtain ⟨n, hn⟩ : ∃ n, d.ws.length = n := ⟨_, rfl⟩
  have HN := Lib.hid hn
  obtain ⟨A, c, rfl, hcn, hcm, hA⟩ := hp.log.form (n := n) (by rw [logW_len]; exact hn)
  have HA := Lib.hid hA
  have HR := Lib.hid hp.log.rd
  rw [hn] at hl
  clear hp hS hn hA
  go_enter Tryd.func11, Tryd.ntmps11
  go_wp2_with fail
  refine (isMade_c HP.out.bd).mono ?_
  rintro e w1 ⟨rfl, hw⟩
  obtain rfl := hw.symm
  clear hw
  go_wp2_with ((with_reducible refine at_slot 17 ?_); refine Classical.byContradiction (fun hG => ?_))
  refine hG ?_
  clear hG
  refine wp_makeE tyA (by decide) rfl _ (.tmp 16) rfl (n := n) rfl rfl (by omega) ?_
  intro v1 w1 ho1 hv1 hb1
  have O1 := Lib.hid ho1
  have B1 := Lib.hid hb1
  have HP1 := Lib.hid (HP.out.fr (Fr.below (fun _ => False) hb1) (fun _ _ q => q))
  have c0 := HP1.out.bd.cell (i := 0) rfl
  have m2 := HP1.out.bm.cell (i := 2) rfl
  have lpd := HP1.out.bd.lt
  have lpm := HP1.out.bm.lt
  clear ho1 hb1 hv1
  go_wp2_with fail
  go_loopw [3, 26] (LogRel w d.ws n) (fun _ v _ => n - (RowKit.intOf v).toNat)
  case atStart => exact ⟨0, _, rfl, rfl, Nat.zero_le _, by simpa using O1.out, B1.out⟩
  case round =>
    obtain ⟨i, vr, rfl, rfl, hi, hown, hbel⟩ := hrel
    have HO := Lib.hid hown
    have HB := Lib.hid hbel
    have hz := hbel.size
    clear hown hbel
    by_cases hin : i < n
    · have hiI : (i : Int) < (n : Int) := by omega
      obtain ⟨⟨at_, dat⟩, hx⟩ : ∃ x, d.ws[i]? = some x := ⟨_, List.getElem?_eq_getElem (by rw [HN.out]; exact hin)⟩
      have hy := logW_get (f := d.base) hx
      obtain ⟨wsv, hws⟩ : ∃ q, raw (app d.base (d.ws.take i) (at_, dat).1) = q := ⟨_, rfl⟩
      rw [hws] at hy
      obtain ⟨b, o, hbo, hlt, hcs⟩ := (HR.out.below HB.out).at hy
      subst hbo
      have x0 := hcs 0 _ rfl
      have x1 := hcs 1 _ rfl
      have x2 := hcs 2 _ rfl
      have hk : encW.k = 3 := rfl
      rw [hk] at x0 x1 x2
      have HX := Lib.hid hx
      clear hy hws hcs hk
      have hol : o + i * 3 + 0 = o + i * 3 := rfl
      rw [hol] at x0
      go_wp2_with ((with_reducible refine at_slot 34 ?_); refine Classical.byContradiction (fun hG => ?_))
      refine hG ?_
      clear hG
      refine RowE.wp_pushE tyA (by decide) rfl (.tmp 30) (.tmp 33) rfl (B := w.heap.size) (v := vr) (l := d.ws.take i) (y := (at_, dat)) rfl rfl rfl (HO.out.alloc _) rfl (by simp) (by rw [List.length_take]; omega) (by simp; omega) ?_
      intro g c2 w5 hpu
      have hlen : (d.ws.take i).length = i := by rw [List.length_take, HN.out]; omega
      rw [hlen] at hpu ⊢
      have hown := hpu.1
      have htk : d.ws.take i ++ [(at_, dat)] = d.ws.take (i + 1) := by rw [List.take_add_one, HX.out]; rfl
      rw [htk] at hown
      have HO5 := Lib.hid hown
      have HB5 := Lib.hid (show Below w.heap.size w w5 from (HB.out.alloc (by omega) _).grown hpu.2.1 (by simp; omega) (fun k hk => (HO.out.ge k hk).1))
      clear hpu hown htk
      go_wp2_with fail
      go_roundw
      case rel => exact ⟨i + 1, _, by go_num, rfl, by omega, HO5.out, HB5.out⟩
      case measure => simp [RowKit.intOf]; omega
    · have : i = n := by omega
      subst this
      have HO5 := Lib.hid (show RowG.Own encA TA wr w.heap.size vr d.ws from by
        have := HO.out
        rw [← HN.out, List.take_length] at this
        exact this)
      have hiI : ¬ (i : Int) < (i : Int) := by omega
      go_wp2_with fail
      go_ret
      exact ⟨_, rfl, HO5.out, HB.out⟩
end
end SecW
end Go.Proofs.YtknckaegpdganaaDoor
