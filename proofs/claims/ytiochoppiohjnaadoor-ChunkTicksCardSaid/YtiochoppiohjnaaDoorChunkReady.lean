/-
  SortStableFunc of ticks (a row of the call's own, or none); Ready.
-/
import Derived.Test.YtiochoppiohjnaaDoorChunkStable
namespace Go.Proofs.YtiochoppiohjnaaDoor
open Go.RowKit
set_option linter.unusedVariables false
set_option linter.unusedSimpArgs false
namespace ChunkW
open BytesW PackW SortW

theorem list_named {P : Program} {ops : Array Oper} {rest : List Oper} {Q : Exit → Act → World → Prop} {a : Act} {W : World} (S : World → Prop) (h : S W) (k : ∀ W', S W' → wpList P ops Q rest a W') : wpList P ops Q rest a W := k W h
def Nothing (w : World) (e : Ending) (w' : World) : Prop := e = .returned (.tuple #[]) ∧ Below w.heap.size w w'
theorem insertion_nil {w : World} : Calls Tryd.prog 61 #[.slice none 0 0, .int .i64 0, .int .i64 0, .func (.func 41) #[] #[]] w (Nothing w) := by
  go_enter Tryd.func61, Tryd.ntmps61
  go_wp2_with fail
  go_loopw [8] (fun v wr => v = .int .i64 1 ∧ Below w.heap.size w wr) (fun v _ => 1)
  case atStart => exact ⟨rfl, Below.refl _ _⟩
  case round =>
    obtain ⟨rfl, hb⟩ := hrel
    have HB := Lib.hid hb
    clear hb
    go_wp2_with fail
    go_end0
    exact ⟨rfl, HB.out⟩
theorem stable_nil {w : World} : Calls Tryd.prog 55 #[.slice none 0 0, .int .i64 0, .func (.func 41) #[] #[]] w (Nothing w) := by
  go_enter Tryd.func55, Tryd.ntmps55
  go_wp2_with fail
  go_loopw [7, 8] (fun u v wr => u = .int .i64 0 ∧ v = .int .i64 20 ∧ Below w.heap.size w wr) (fun _ v _ => 1)
  case atStart => exact ⟨rfl, rfl, Below.refl _ _⟩
  case round =>
    obtain ⟨rfl, rfl, hb⟩ := hrel
    have HB := Lib.hid hb
    clear hb
    go_wp2_with fail
    go_at_call 61
    refine (insertion_nil).mono ?_
    rintro e w2 ⟨rfl, hb2⟩
    have HB2 := Lib.hid (below_t HB.out hb2)
    clear hb2
    go_wp2_with fail
    go_loopw [6] (fun v wr => v = .int .i64 20 ∧ Below w.heap.size w wr) (fun v _ => 1)
    case atStart => exact ⟨rfl, HB2.out⟩
    case round =>
      obtain ⟨rfl, hb⟩ := hrel
      have HB3 := Lib.hid hb
      clear hb
      go_wp2_with fail
      go_end0
      exact ⟨rfl, HB3.out⟩
theorem sort_c {w : World} {B : Nat} {v : Value} {l : List Tick} (hO : OwnP tkv 63 w B v l) (hl : l.length ≤ 1000000) (hB : B ≤ w.heap.size) :
    Calls Tryd.prog 40 #[v, .func (.func 41) #[] #[]] w (SortV w B v (srt leT l)) := by
  have hO2 := hO
  unfold OwnP at hO
  rcases hO.2 with ⟨rfl, hn⟩ | ⟨g, cap, cur, rfl, _⟩
  · have : l = [] := List.eq_nil_of_length_eq_zero hn
    subst this
    clear hO hO2
    go_enter Tryd.func40, Tryd.ntmps40
    go_wp2_with fail
    go_at_call 55
    refine (stable_nil).mono ?_
    rintro e w2 ⟨rfl, hb2⟩
    have HB2 := Lib.hid hb2
    clear hb2
    go_wp2_with fail
    go_end0
    exact ⟨rfl, OwnP.nil _ _ _, HB2.out.mono hB⟩
  · obtain ⟨n, hn⟩ : ∃ n, n = l.length := ⟨_, rfl⟩
    rw [← hn] at hO2 hl ⊢
    have HR : Hid (Row w B g n cap l) := Lib.hid ⟨hO2, hn⟩
    have HN := Lib.hid hn
    clear hO hO2 hn
    go_enter Tryd.func40, Tryd.ntmps40
    go_wp2_with fail
    go_at_call 55
    refine (stable_row HR.out hl).mono ?_
    rintro e w2 ⟨rfl, hr2, hb2⟩
    have HB2 := Lib.hid hb2
    have HR2 := Lib.hid hr2
    clear hb2 hr2
    go_wp2_with fail
    go_end0
    exact ⟨rfl, HR2.out.1, HB2.out⟩

/-- Of the list's first j, those that are due. -/
def ReadyRel (w : World) (now : Int) (ts : List Tick) (v i : Value) (wr : World) : Prop := ∃ j : Nat, i = .int .i64 j ∧ j ≤ ts.length ∧ OwnP tkv 63 wr w.heap.size v ((ts.take j).filter fun t => decide (t.2 ≤ now)) ∧ Below w.heap.size w wr

set_option maxRecDepth 100000 in
set_option maxHeartbeats 4000000 in
theorem ready_c {w : World} {p : Nat} {k : Ck} {now : Int} (hk : ChkK w p k) :
    Calls Tryd.prog 21 #[.pointer (some ⟨p, 0, none⟩), .int .i64 now] w (GivesT w (readyT k.ts now)) := by
  obtain ⟨C, L, ts⟩ := k
  obtain ⟨TA, tc, h1, h2, h3, h4, h5⟩ := hk
  simp only at h1 h2 h3 h5 ⊢
  obtain ⟨n, hn⟩ : ∃ n, n = ts.length := ⟨_, rfl⟩
  rw [← hn] at h1 h5
  have HP := Lib.hid h2
  have HN := Lib.hid hn
  have ht := h1.t
  obtain ⟨R, hR⟩ : ∃ R, readyT ts now = R := ⟨_, rfl⟩
  have HR := Lib.hid hR
  rw [hR]
  clear hR h1 h2 h3 h4 hn
  go_enter Tryd.func21, Tryd.ntmps21
  go_wp2_with fail
  go_loopw [5, 15] (ReadyRel w now ts) (fun _ v _ => n - (intOf v).toNat)
  case atStart => exact ⟨0, rfl, by omega, OwnP.nil _ _ _, Below.refl _ _⟩
  case round =>
    obtain ⟨j, rfl, hj, hown, hbw⟩ := hrel
    have HB := Lib.hid hbw
    have HO := Lib.hid hown
    have hz := hbw.size
    have hjn : j ≤ n := by have := HN.out; omega
    clear hbw hj hown
    by_cases hjl : j < n
    · have hjI : (j : Int) < n := by omega
      have hjI0 : (0 : Int) ≤ j := by omega
      obtain ⟨⟨a, d⟩, hx⟩ : ∃ x, ts[j]? = some x := ⟨_, List.getElem?_eq_getElem (by have := HN.out; omega)⟩
      have HX := Lib.hid hx
      obtain ⟨b, o, rfl, hbl, hcs⟩ := (HP.out.below HB.out).cells (fun e => by rw [e] at hx; simp at hx)
      obtain ⟨c0, c1⟩ := hcs _ _ hx
      simp only [tkv] at c0 c1
      have HBR := Lib.hid (Below.refl wr.heap.size wr)
      have HLEN : Hid (((ts.take j).filter fun t => decide (t.2 ≤ now)).length ≤ 1000000) := Lib.hid (by
        have h1 := List.length_filter_le (fun t : Tick => decide (t.2 ≤ now)) (ts.take j)
        have h2 := HN.out
        rw [List.length_take] at h1
        omega)
      clear hx hcs
      by_cases hd : d ≤ now
      · have HNX : Hid ((ts.take (j + 1)).filter (fun t => decide (t.2 ≤ now)) = (ts.take j).filter (fun t => decide (t.2 ≤ now)) ++ [(a, d)]) := Lib.hid (by
          rw [List.take_add_one, HX.out, Option.toList, List.filter_append]
          simp [hd])
        go_wp2_with ((with_reducible refine at_slot 26 ?_); refine Classical.byContradiction (fun hG => ?_))
        refine hG ?_
        clear hG
        refine list_named (fun W => ∃ w4, W = w4.alloc (.cells #[.int .i64 a, .int .i64 d] 63) ∧ Below wr.heap.size wr w4 ∧ w4.heap.size = wr.heap.size + 1) ⟨_, rfl, by have HBo := HBR.out; (repeat' (first | (with_reducible exact Below.refl _ _) | (with_reducible refine Below.setCell ?_ (by (first | omega | (simp; done) | (simp; omega))) _) | (with_reducible refine Below.alloc ?_ (by (first | omega | (simp; done) | (simp; omega))) _) | (with_reducible refine Below.drew ?_) | (with_reducible refine below_drewN ?_ _) | (with_reducible refine Below.trans ?_ (Below.mono HBo (by (first | omega | (simp; done) | (simp; omega))))))), by simp⟩ ?_
        rintro _ ⟨w4, rfl, hb4, hz4⟩; have HB4 := Lib.hid hb4; have HO4 := Lib.hid (HO.out.below hb4); have hz5 : w.heap.size ≤ w4.heap.size := by omega
        clear hb4; refine wp_pushP rfl (.tmp 23) (.tmp 25) rfl underTicks infoTick rfl (by omega) one_tk w4 _ _ rfl rfl HO4.out (a, d) rfl rfl (by rw [hz4]; rfl) (by have := HLEN.out; omega) hz5 ?_; intro v6 w6 hown6 hb6
        go_wp2
        go_roundw
        case rel => exact ⟨j + 1, by go_num, by have := HN.out; omega, by rw [HNX.out]; exact hown6, by have HBo := HB.out; exact Below.trans (below_t HBo HB4.out) hb6⟩
        case measure => simp [intOf]; omega
      · have HNX : Hid ((ts.take (j + 1)).filter (fun t => decide (t.2 ≤ now)) = (ts.take j).filter (fun t => decide (t.2 ≤ now))) := Lib.hid (by
          rw [List.take_add_one, HX.out, Option.toList, List.filter_append]
          simp [hd])
        go_wp2_with fail
        go_roundw
        case rel => exact ⟨j + 1, by go_num, by have := HN.out; omega, by rw [HNX.out]; exact HO.out.below (by have HBo := HBR.out; (repeat' (first | (with_reducible exact Below.refl _ _) | (with_reducible refine Below.setCell ?_ (by (first | omega | (simp; done) | (simp; omega))) _) | (with_reducible refine Below.alloc ?_ (by (first | omega | (simp; done) | (simp; omega))) _) | (with_reducible refine Below.drew ?_) | (with_reducible refine below_drewN ?_ _) | (with_reducible refine Below.trans ?_ (Below.mono HBo (by (first | omega | (simp; done) | (simp; omega)))))))), by have HBo := HB.out; (repeat' (first | (with_reducible exact Below.refl _ _) | (with_reducible refine Below.setCell ?_ (by (first | omega | (simp; done) | (simp; omega))) _) | (with_reducible refine Below.alloc ?_ (by (first | omega | (simp; done) | (simp; omega))) _) | (with_reducible refine Below.drew ?_) | (with_reducible refine below_drewN ?_ _) | (with_reducible refine Below.trans ?_ (Below.mono HBo (by (first | omega | (simp; done) | (simp; omega)))))))⟩
        case measure => simp [intOf]; omega
    · have hjI : ¬ (j : Int) < n := by omega
      have HF : Hid (srt leT ((ts.take j).filter (fun t => decide (t.2 ≤ now))) = R) := Lib.hid (by
        rw [List.take_of_length_le (by have := HN.out; omega), ← HR.out]
        rfl)
      have HLEN : Hid (((ts.take j).filter fun t => decide (t.2 ≤ now)).length ≤ 1000000) := Lib.hid (by
        have h1 := List.length_filter_le (fun t : Tick => decide (t.2 ≤ now)) (ts.take j)
        have h2 := HN.out
        rw [List.length_take] at h1
        omega)
      go_wp2_with fail
      go_at_call 40
      refine (sort_c HO.out HLEN.out hz).mono ?_
      rintro e w2 ⟨rfl, hown2, hb2⟩
      have HO2 := Lib.hid hown2
      have HB2 := Lib.hid (HB.out.trans hb2)
      clear hown2 hb2
      go_wp2_with fail
      go_ret
      exact ⟨_, rfl, by rw [← HF.out]; exact HO2.out, HB2.out⟩

theorem ready_nil {w : World} {now : Int} : Calls Tryd.prog 21 #[.pointer none, .int .i64 now] w fun e w' => e = .returned (.slice none 0 0) ∧ w' = w := by
  go_enter Tryd.func21, Tryd.ntmps21
  go_wp2_with fail
  go_ret
  exact ⟨rfl, rfl⟩
end ChunkW
end Go.Proofs.YtiochoppiohjnaaDoor
