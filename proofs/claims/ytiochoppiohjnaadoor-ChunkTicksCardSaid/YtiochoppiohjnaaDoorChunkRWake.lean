/-
  The reference's Wake: what may not be; a tick that is there.
-/
import Derived.LaidEql
import Derived.Test.YtiochoppiohjnaaDoorChunkRDrop
namespace Go.Proofs.YtiochoppiohjnaaDoor
open Go.RowKit
set_option linter.unusedVariables false
set_option linter.unusedSimpArgs false
namespace ChunkW
open BytesW PackW

theorem repl_set {l : List Tick} {k : Nat} {t : Tick} (hk : k < l.length) : replT l k (k + 1) [t] = l.set k t := by
  rw [List.set_eq_take_append_cons_drop, if_pos hk]
  simp [replT]
theorem take_next {l : List Tick} {j : Nat} {t : Tick} (h : l[j]? = some t) : l.take (j + 1) = l.take j ++ [t] := by
  rw [List.take_add_one, h, Option.toList]
def RWRel (w : World) (n : Nat) (E : List Tick) (v g i : Value) (wr : World) : Prop := ∃ j : Nat, g = .bool true ∧ i = .int .i64 j ∧ j ≤ n ∧ OwnP tkv 63 wr w.heap.size v (E.take j) ∧ Below w.heap.size w wr
set_option maxRecDepth 100000 in
theorem rwake_lo {w : World} {A : Option Addr} {ts : List Tick} {n c : Nat} {x d : Int} (hA : PairC tkv w A ts) (hn : n = ts.length) (hl : n ≤ 1000000) (h1 : x < 0) :
    Calls Tryd.prog 26 #[.slice A n c, .int .i64 x, .int .i64 d] w (GivesT w ts) := by
  have HP := Lib.hid hA
  have HN := Lib.hid hn
  have e1 : decide (x < 0) = true := by simpa using h1
  clear hA hn
  go_enter Tryd.func26, Tryd.ntmps26
  go_wp2_with ((with_reducible refine at_slot 24 ?_); refine wp_appP rfl (.tmp 22) (.tmp 23) rfl underTicks infoTick rfl (by omega) one_tk (B := w.heap.size) (l := []) (l2 := ts) rfl (OwnP.nil _ _ _) (by rw [← HN.out]; rfl) HP.out (by have := HN.out; simp; omega) (Nat.le_refl _) ?_; intro v3 w3 hown3 hg3 hb3; rw [List.nil_append] at hown3)
  go_ret
  exact ⟨_, rfl, hown3, hb3⟩
set_option maxRecDepth 100000 in
theorem rwake_hi {w : World} {A : Option Addr} {ts : List Tick} {n c : Nat} {x d : Int} (hA : PairC tkv w A ts) (hn : n = ts.length) (hl : n ≤ 1000000) (h1 : 4095 < x) :
    Calls Tryd.prog 26 #[.slice A n c, .int .i64 x, .int .i64 d] w (GivesT w ts) := by
  have HP := Lib.hid hA
  have HN := Lib.hid hn
  have e1 : decide (x < 0) = false := by simp; omega
  have e2 : decide (4095 < x) = true := by simpa using h1
  clear hA hn
  go_enter Tryd.func26, Tryd.ntmps26
  go_wp2_with ((with_reducible refine at_slot 24 ?_); refine wp_appP rfl (.tmp 22) (.tmp 23) rfl underTicks infoTick rfl (by omega) one_tk (B := w.heap.size) (l := []) (l2 := ts) rfl (OwnP.nil _ _ _) (by rw [← HN.out]; rfl) HP.out (by have := HN.out; simp; omega) (Nat.le_refl _) ?_; intro v3 w3 hown3 hg3 hb3; rw [List.nil_append] at hown3)
  go_ret
  exact ⟨_, rfl, hown3, hb3⟩
set_option maxRecDepth 100000 in
theorem rwake_no {w : World} {A : Option Addr} {ts : List Tick} {n c : Nat} {x d : Int} (hA : PairC tkv w A ts) (hn : n = ts.length) (hl : n ≤ 1000000) (h1 : 0 ≤ x) (h2 : x ≤ 4095) (h3 : d < 1) :
    Calls Tryd.prog 26 #[.slice A n c, .int .i64 x, .int .i64 d] w (GivesT w ts) := by
  have HP := Lib.hid hA
  have HN := Lib.hid hn
  have e1 : decide (x < 0) = false := by simp; omega
  have e2 : decide (4095 < x) = false := by simp; omega
  have e3 : decide (d < 1) = true := by simpa using h3
  clear hA hn
  go_enter Tryd.func26, Tryd.ntmps26
  go_wp2_with ((with_reducible refine at_slot 24 ?_); refine wp_appP rfl (.tmp 22) (.tmp 23) rfl underTicks infoTick rfl (by omega) one_tk (B := w.heap.size) (l := []) (l2 := ts) rfl (OwnP.nil _ _ _) (by rw [← HN.out]; rfl) HP.out (by have := HN.out; simp; omega) (Nat.le_refl _) ?_; intro v3 w3 hown3 hg3 hb3; rw [List.nil_append] at hown3)
  go_ret
  exact ⟨_, rfl, hown3, hb3⟩
set_option maxRecDepth 100000 in
set_option maxHeartbeats 8000000 in
theorem rwake_old {w : World} {A : Option Addr} {ts : List Tick} {n c k : Nat} {x d : Int} (hA : PairC tkv w A ts) (hn : n = ts.length) (hl : n ≤ 1000000) (h1 : 0 ≤ x) (h2 : x ≤ 4095) (h3 : ¬ d < 1) (hk : findT ts x = some k) :
    Calls Tryd.prog 26 #[.slice A n c, .int .i64 x, .int .i64 d] w (GivesT w (wakeT ts x d)) := by
  have HC := Lib.hid (rplace_c (c := c) hA hn hl (show findI ts x = (k : Int) by rw [findI, hk]))
  obtain ⟨D, hD⟩ : ∃ D, D = (ts.getD k (0, 0)).2 := ⟨_, rfl⟩
  have hfk := find_at hk
  rw [← hD] at hfk
  have hkn := (find_lt hk).1
  have hix := (find_lt hk).2
  obtain ⟨E, hE⟩ : ∃ E, E = wakeT ts x d := ⟨_, rfl⟩
  have hE2 : E = if d < D then ts.set k (x, d) else ts := by
    rw [hE, wakeT, if_neg (by rw [hix]; simp; omega), hk]
    simp only
    rw [← hD, repl_set hkn]
  have hEl : E.length = n := by
    rw [hE2, hn]
    split <;> simp
  have HE1 : Hid (∀ (j : Nat) t, ts[j]? = some t → j ≠ k → E[j]? = some t) := Lib.hid (fun j t ht hj => by
    rw [hE2]
    split
    · rw [List.getElem?_set_ne (by omega)]
      exact ht
    · exact ht)
  have HE2 : Hid (E[k]? = some (x, if d < D then d else D)) := Lib.hid (by
    rw [hE2]
    split
    · rw [List.getElem?_set_self hkn]
    · exact hfk)
  have HFK := Lib.hid hfk
  have HP := Lib.hid hA
  have HN := Lib.hid hn
  have HEL := Lib.hid hEl
  have e1 : decide (x < 0) = false := by simp; omega
  have e2 : decide (4095 < x) = false := by simp; omega
  have e3 : decide (d < 1) = false := by simp; omega
  have hk0 : (0 : Int) ≤ (k : Int) := by omega
  have hk1 : ¬ (k : Int) < 0 := by omega
  rw [← hE]
  clear hA hn hk hD hfk hix hE hE2 hEl
  go_enter Tryd.func26, Tryd.ntmps26
  go_wp2_with fail
  go_at_call 47
  refine (HC.out).mono ?_
  rintro e w1 ⟨rfl, hb1⟩
  have HB1 := Lib.hid hb1
  clear hb1
  go_wp2_with fail
  clear e1 e2 e3
  go_loopw [7, 9, 10] (RWRel w n E) (fun _ _ v _ => n - (intOf v).toNat)
  case atStart => exact ⟨0, by first | rfl | (simp), rfl, by omega, OwnP.nil _ _ _, HB1.out⟩
  case round =>
    obtain ⟨j, rfl, rfl, hj, hown, hbw⟩ := hrel
    have HB := Lib.hid hbw
    have HO := Lib.hid hown
    have HBR := Lib.hid (Below.refl wr.heap.size wr)
    have hz := hbw.size
    clear hbw hown
    by_cases hjl : j < n
    · have hjI : (j : Int) < n := by omega
      have hjI0 : (0 : Int) ≤ j := by omega
      obtain ⟨⟨a, q⟩, hx⟩ : ∃ x, ts[j]? = some x := ⟨_, List.getElem?_eq_getElem (by have := HN.out; omega)⟩
      have HX := Lib.hid hx
      obtain ⟨b, o, rfl, hbl, hcs⟩ := (HP.out.below HB.out).cells (fun e => by rw [e] at hx; simp at hx)
      obtain ⟨c0, c1⟩ := hcs _ _ hx
      simp only [tkv] at c0 c1
      have HLEN : Hid ((E.take j).length ≤ 1000000) := Lib.hid (by rw [List.length_take]; omega)
      clear hx hcs
      by_cases hd : j = k
      · subst hd
        obtain ⟨ha, hq⟩ : a = x ∧ q = D := by
          have h1 := HX.out
          rw [HFK.out] at h1
          simp only [Option.some.injEq, Prod.mk.injEq] at h1
          exact ⟨h1.1.symm, h1.2.symm⟩
        subst ha hq
        by_cases hdD : d < q
        · have HNX : Hid (E.take (j + 1) = E.take j ++ [(a, d)]) := Lib.hid (take_next (by rw [HE2.out, if_pos hdD]))
          have e5 : decide (d < q) = true := by simpa using hdD
          go_wp2_with ((with_reducible refine at_slot 72 ?_); refine Classical.byContradiction (fun hG => ?_))
          refine hG ?_
          clear hG
          refine list_named (fun W => ∃ w4, W = w4.alloc (.cells #[.int .i64 a, .int .i64 d] 63) ∧ Below wr.heap.size wr w4 ∧ w4.heap.size = wr.heap.size + 1) ⟨_, rfl, by have HBo := HBR.out; (repeat' (first | (with_reducible exact Below.refl _ _) | (with_reducible refine Below.setCell ?_ (by (first | omega | (simp; done) | (simp; omega))) _) | (with_reducible refine Below.alloc ?_ (by (first | omega | (simp; done) | (simp; omega))) _) | (with_reducible refine Below.drew ?_) | (with_reducible refine below_drewN ?_ _) | (with_reducible refine Below.trans ?_ (Below.mono HBo (by (first | omega | (simp; done) | (simp; omega))))))), by simp⟩ ?_
          rintro _ ⟨w4, rfl, hb4, hz4⟩
          have HB4 := Lib.hid hb4
          have HO4 := Lib.hid (HO.out.below hb4)
          have hz5 : w.heap.size ≤ w4.heap.size := by omega
          clear hb4
          refine wp_pushP rfl (.tmp 69) (.tmp 71) rfl underTicks infoTick rfl (by omega) one_tk w4 _ _ rfl rfl HO4.out (a, d) rfl rfl (by rw [hz4]; rfl) (by have := HLEN.out; omega) hz5 ?_
          intro v6 w6 hown6 hb6
          go_wp2
          go_roundw
          case rel => exact ⟨j + 1, rfl, by go_num, by have := HN.out; omega, by rw [HNX.out]; exact hown6, HB.out.trans ((HB4.out.mono hz).trans hb6)⟩
          case measure => simp [intOf]; omega
        · have HNX : Hid (E.take (j + 1) = E.take j ++ [(a, q)]) := Lib.hid (take_next (by rw [HE2.out, if_neg hdD]))
          have e5 : decide (d < q) = false := by simpa using hdD
          go_wp2_with ((with_reducible refine at_slot 72 ?_); refine Classical.byContradiction (fun hG => ?_))
          refine hG ?_
          clear hG
          refine list_named (fun W => ∃ w4, W = w4.alloc (.cells #[.int .i64 a, .int .i64 q] 63) ∧ Below wr.heap.size wr w4 ∧ w4.heap.size = wr.heap.size + 1) ⟨_, rfl, by have HBo := HBR.out; (repeat' (first | (with_reducible exact Below.refl _ _) | (with_reducible refine Below.setCell ?_ (by (first | omega | (simp; done) | (simp; omega))) _) | (with_reducible refine Below.alloc ?_ (by (first | omega | (simp; done) | (simp; omega))) _) | (with_reducible refine Below.drew ?_) | (with_reducible refine below_drewN ?_ _) | (with_reducible refine Below.trans ?_ (Below.mono HBo (by (first | omega | (simp; done) | (simp; omega))))))), by simp⟩ ?_
          rintro _ ⟨w4, rfl, hb4, hz4⟩
          have HB4 := Lib.hid hb4
          have HO4 := Lib.hid (HO.out.below hb4)
          have hz5 : w.heap.size ≤ w4.heap.size := by omega
          clear hb4
          refine wp_pushP rfl (.tmp 69) (.tmp 71) rfl underTicks infoTick rfl (by omega) one_tk w4 _ _ rfl rfl HO4.out (a, q) rfl rfl (by rw [hz4]; rfl) (by have := HLEN.out; omega) hz5 ?_
          intro v6 w6 hown6 hb6
          go_wp2
          go_roundw
          case rel => exact ⟨j + 1, rfl, by go_num, by have := HN.out; omega, by rw [HNX.out]; exact hown6, HB.out.trans ((HB4.out.mono hz).trans hb6)⟩
          case measure => simp [intOf]; omega
      · have he : ¬ (j : Int) = k := by omega
        have e9 : ((j : Int) == k) = false := by simp; omega
        have HNX : Hid (E.take (j + 1) = E.take j ++ [(a, q)]) := Lib.hid (take_next (HE1.out _ _ HX.out hd))
        go_wp2_with ((with_reducible refine at_slot 72 ?_); refine Classical.byContradiction (fun hG => ?_))
        refine hG ?_
        clear hG
        refine list_named (fun W => ∃ w4, W = w4.alloc (.cells #[.int .i64 a, .int .i64 q] 63) ∧ Below wr.heap.size wr w4 ∧ w4.heap.size = wr.heap.size + 1) ⟨_, rfl, by have HBo := HBR.out; (repeat' (first | (with_reducible exact Below.refl _ _) | (with_reducible refine Below.setCell ?_ (by (first | omega | (simp; done) | (simp; omega))) _) | (with_reducible refine Below.alloc ?_ (by (first | omega | (simp; done) | (simp; omega))) _) | (with_reducible refine Below.drew ?_) | (with_reducible refine below_drewN ?_ _) | (with_reducible refine Below.trans ?_ (Below.mono HBo (by (first | omega | (simp; done) | (simp; omega))))))), by simp⟩ ?_
        rintro _ ⟨w4, rfl, hb4, hz4⟩
        have HB4 := Lib.hid hb4
        have HO4 := Lib.hid (HO.out.below hb4)
        have hz5 : w.heap.size ≤ w4.heap.size := by omega
        clear hb4
        refine wp_pushP rfl (.tmp 69) (.tmp 71) rfl underTicks infoTick rfl (by omega) one_tk w4 _ _ rfl rfl HO4.out (a, q) rfl rfl (by rw [hz4]; rfl) (by have := HLEN.out; omega) hz5 ?_
        intro v6 w6 hown6 hb6
        go_wp2
        go_roundw
        case rel => exact ⟨j + 1, rfl, by go_num, by have := HN.out; omega, by rw [HNX.out]; exact hown6, HB.out.trans ((HB4.out.mono hz).trans hb6)⟩
        case measure => simp [intOf]; omega
    · have hjI : ¬ (j : Int) < n := by omega
      have HF : Hid (E.take j = E) := Lib.hid (by rw [List.take_of_length_le (by have := HEL.out; omega)])
      go_wp2_with fail
      go_ret
      exact ⟨_, rfl, by rw [← HF.out]; exact HO.out, HB.out⟩
end ChunkW
end Go.Proofs.YtiochoppiohjnaaDoor
