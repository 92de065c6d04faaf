/-
  PackCut: a chunk's bytes that are cut anywhere, or that have a byte more behind them, are none.
-/
import Derived.Test.YtjllgdlmeoakpaaDoorPackLawBack
import Derived.Test.YtjllgdlmeoakpaaDoorPackLawOnce
namespace Go.Proofs.YtjllgdlmeoakpaaDoor
open Go.RowKit
set_option linter.unusedVariables false
set_option linter.unusedSimpArgs false
namespace PackW
open BytesW RunsW

/-- No chunk's bytes begin with another's. -/
theorem put_free {k k' : Ck} {t : List UInt8} (h1 : can k = true) (f1 : full k) (h2 : can k' = true) (f2 : full k') (h : putC k = putC k' ++ t) : t = [] := by
  have parts : ∀ {k : Ck} {t : List UInt8}, can k = true → full k → cutPal (putC k ++ t) = some (pal [] k.cs, putR (places k.cs) ++ (putR (k.ls.map lnum) ++ (tksB k.ts ++ t))) := fun {k t} hc hf => by
    simp only [can, Bool.and_eq_true] at hc
    have hpl := pal_le hc.1.1
    have := cutPal_full (P := pal [] k.cs) (t := putR (places k.cs) ++ (putR (k.ls.map lnum) ++ (tksB k.ts ++ t))) (pal_nodup _ _ (by simp)) (List.all_eq_true.2 (pal_may hc.1.1)) (by omega)
    rw [putC, List.append_assoc, List.append_assoc, List.append_assoc]
    exact this
  have p1 := parts (t := []) h1 f1
  have p2 := parts (t := t) h2 f2
  rw [List.append_nil, h, p2] at p1
  simp only [Option.some.injEq, Prod.mk.injEq, List.append_nil] at p1
  obtain ⟨_, q⟩ := p1
  have r1 := cutRow_full (r := places k.cs) (t := putR (k.ls.map lnum) ++ tksB k.ts) (by simp [places, f1.1])
  have r2 := cutRow_full (r := places k'.cs) (t := putR (k'.ls.map lnum) ++ (tksB k'.ts ++ t)) (by simp [places, f2.1])
  rw [← q, r2] at r1
  simp only [Option.some.injEq, Prod.mk.injEq] at r1
  obtain ⟨_, q2⟩ := r1
  have s1 := cutRow_full (r := k.ls.map lnum) (t := tksB k.ts) (by simp [f1.2])
  have s2 := cutRow_full (r := k'.ls.map lnum) (t := tksB k'.ts ++ t) (by simp [f2.2])
  rw [← q2, s2] at s1
  simp only [Option.some.injEq, Prod.mk.injEq] at s1
  obtain ⟨_, q3⟩ := s1
  simp only [can, Bool.and_eq_true] at h1 h2
  have l1 := mayT_len k.ts 0 (by omega) h1.2
  have l2 := mayT_len k'.ts 0 (by omega) h2.2
  have n1 : rNum (tksB k.ts, false) = (k.ts.length, (tkB 0 k.ts, false)) := by rw [tksB]; exact rNum_yes (by omega)
  have n2 : rNum (tksB k'.ts ++ t, false) = (k'.ts.length, (tkB 0 k'.ts ++ t, false)) := by rw [tksB, List.append_assoc]; exact rNum_yes (by omega)
  rw [← q3, n2] at n1
  simp only [Prod.mk.injEq, and_true] at n1
  have g1 := getT_full k.ts 0 [] (by omega) h1.2
  have g2 := getT_full k'.ts 0 t (by omega) h2.2
  rw [List.append_nil, ← n1.2, ← n1.1, g2] at g1
  simp only [Option.some.injEq, Prod.mk.injEq, and_true] at g1
  exact g1.2
theorem get_short {k : Ck} {n : Nat} (h : can k = true) (f : full k) (hn : n < (putC k).length) : getC ((putC k).take n) = none := by
  cases hg : getC ((putC k).take n) with
  | none => rfl
  | some k' =>
    obtain ⟨a, b, c, _⟩ := getC_sound hg
    have := put_free (t := (putC k).drop n) h f a b (by rw [c, List.take_append_drop])
    have := congrArg List.length this
    simp at this
    omega
theorem get_more {k : Ck} {x : UInt8} (h : can k = true) (f : full k) : getC (putC k ++ [x]) = none := by
  cases hg : getC (putC k ++ [x]) with
  | none => rfl
  | some k' =>
    obtain ⟨a, b, c, _⟩ := getC_sound hg
    have := put_free (t := [x]) a b h f c
    simp at this

set_option maxRecDepth 100000 in
set_option maxHeartbeats 8000000 in
theorem law_cut {w : World} {A B : Option Addr} {l : List Pt} {ts : List Tick} {c d : Nat} {at_ : Int} {u : UInt8} (hT : KindW.Tab w)
    (hn : l.length ≤ 9223372036854775807 ∧ (ts.length ≤ d ∧ d ≤ 9223372036854775807) ∧ -9223372036854775808 ≤ at_ ∧ at_ ≤ 9223372036854775807)
    (hA : (PartC w A l ∧ ∀ q ∈ l, PtOk q) ∧ PairC tkv w B ts) :
    Calls Tryd.prog 7 #[.agg #[.slice A l.length c, .slice B ts.length d, .int .i64 at_, .int .u8 (u.toNat : Int)]] w fun e w' => e = .returned (.bool true) ∧ Below w.heap.size w w' := by
  obtain ⟨hl, hd, hat1, hat2⟩ := hn
  obtain ⟨hA, hB⟩ := hA
  obtain ⟨k, hk⟩ : ∃ k : Ck, k = ⟨(madeP 300 l).1, (madeP 300 l).2, ts.take 5000⟩ := ⟨_, rfl⟩
  have hful : full k := by
    obtain ⟨h1, h2⟩ := madeP_len 300 l
    rw [hk]
    exact ⟨h1, h2⟩
  obtain ⟨w0, hw0⟩ : ∃ w0, w0 = w.alloc (.cells #[.slice A l.length c, .slice B ts.length d, .int .i64 at_, .int .u8 (u.toNat : Int)] 40) := ⟨_, rfl⟩
  have hb0 : Below w.heap.size w w0 := by rw [hw0]; exact (Below.refl _ _).alloc (Nat.le_refl _) _
  have hz0 : w.heap.size < w0.heap.size := by rw [hw0]; exact lt_of_heap (heap_alloc_new w _)
  have HCELL : Hid (w0.cell? ⟨w.heap.size, 3, none⟩ = some (.int .u8 (u.toNat : Int))) := Lib.hid (by rw [hw0]; exact (cell_of_row _ _ 3 _ _ _ (heap_alloc_new w _)).trans rfl)
  have HT := Lib.hid (hT.below hb0)
  have HFUL := Lib.hid hful
  have HMADE : Hid (Calls Tryd.prog 18 #[.slice A l.length c, .slice B ts.length d] w0 (makeLP w0 k)) := Lib.hid (by rw [hk]; exact makeL_c (hA.1.below hb0) hA.2 hl (hB.below hb0) hd.1 hd.2)
  have HW0 := Lib.hid hw0
  have HB0 := Lib.hid hb0
  clear hT hk hful hA hl hd hB hb0 hw0
  rcases hcan : can k with _ | _
  · have HPA : Hid (putA k = ([], 2)) := Lib.hid (by rw [putA, hcan]; rfl)
    clear hcan
    go_enter Tryd.func7, Tryd.ntmps7
    go_wp2_with fail
    go_at_call 18
    rw [← HW0.out]
    refine (HMADE.out).mono ?_
    rintro e w1 ⟨p, rfl, hk1, hp1, hb1⟩
    have HK1 := Lib.hid hk1
    have HB1 := Lib.hid hb1
    clear hk1 hb1
    go_wp2_with fail
    go_at_call 12
    refine (put6_c (HT.out.below HB1.out) HK1.out HPA.out).mono ?_
    rintro e w2 ⟨v2, rfl, hown2, hb2⟩
    dsimp only at hown2
    obtain ⟨A2, c2, rfl, hA2, hc2, hm2⟩ := hown2.sl
    have HB2 := Lib.hid (below_m HB1.out hb2)
    clear hb2 hown2
    go_wp2_with (go_at_call 15; refine (works_c (HT.out.below HB2.out)).mono ?_; rintro e w3 ⟨rfl, hb3⟩)
    go_ret
    exact ⟨rfl, below_m HB0.out (Below.mono (below_m HB2.out hb3) (by omega))⟩
  · obtain ⟨bs, hbs⟩ : ∃ bs, bs = putC k := ⟨_, rfl⟩
    have HPA : Hid (putA k = (bs, 0)) := Lib.hid (by rw [putA, hcan, hbs]; rfl)
    have hlen : bs.length ≤ 65536 := by rw [hbs]; exact putC_len hcan HFUL.out.1 HFUL.out.2
    have hpos : 1 ≤ bs.length := by
      rw [hbs, putC, palB]
      simp
    have HG : Hid (∀ n, n < bs.length → getC (bs.take n) = none) := Lib.hid (by rw [hbs]; exact fun n hn => get_short hcan HFUL.out hn)
    have HG2 : Hid (getC (bs ++ [u]) = none) := Lib.hid (by rw [hbs]; exact get_more hcan HFUL.out)
    have hlI : (bs.length : Int) ≤ 65536 := by omega
    have hpI : (1 : Int) ≤ (bs.length : Int) := by omega
    clear hcan hbs
    rcases Int.lt_or_le at_ 0 with hneg | hneg
    · have hne2 := hneg
      have hnlt : (bs.length - 1) < bs.length := by omega
      go_enter Tryd.func7, Tryd.ntmps7
      go_wp2_with fail
      go_at_call 18
      rw [← HW0.out]
      refine (HMADE.out).mono ?_
      rintro e w1 ⟨p, rfl, hk1, hp1, hb1⟩
      have HK1 := Lib.hid hk1
      have HB1 := Lib.hid hb1
      clear hk1 hb1
      go_wp2_with fail
      go_at_call 12
      refine (put6_c (HT.out.below HB1.out) HK1.out HPA.out).mono ?_
      rintro e w2 ⟨v2, rfl, hown2, hb2⟩
      dsimp only at hown2
      obtain ⟨A2, c2, rfl, hA2, hc2, hm2⟩ := hown2.sl
      have HB2 := Lib.hid (below_m HB1.out hb2)
      have HA2 := Lib.hid hA2
      have HO2 := Lib.hid hown2
      have hz1 : w0.heap.size ≤ w1.heap.size := HB1.out.size
      have hz12 : w1.heap.size ≤ w2.heap.size := hb2.size
      clear hb2 hown2 hA2
      go_wp2_with ((with_reducible refine at_slot 43 ?_); refine wp_upto rfl (.tmp 41) (.tmp 42) rfl (n := (bs.length : Int) - 1) rfl rfl (by omega) (by omega) hc2 ?_)
      have HTK : Hid (Value.slice A2 (bs.length - 1) c2 = Value.slice A2 (bs.take (bs.length - 1)).length c2) := Lib.hid (by rw [List.length_take, Nat.min_eq_left (by omega)])
      rw [HTK.out]
      go_at_call 16
      refine (get6_c (HT.out.below HB2.out) (HA2.out.take _).c (by rw [List.length_take]; omega) (by rw [List.length_take]; omega) (HG.out _ hnlt)).mono ?_
      rintro e w3 ⟨hb3, hn3, _⟩
      obtain rfl := hn3 rfl
      have HO3 := Lib.hid (HO2.out.below hb3)
      have hz3 : w1.heap.size ≤ w3.heap.size := Nat.le_trans hz12 hb3.size
      have HB3 := Lib.hid (below_m HB2.out hb3)
      have HCELL3 : w3.cell? ⟨w.heap.size, 3, none⟩ = some (.int .u8 (u.toNat : Int)) := by rw [HB3.out.cell hz0]; exact HCELL.out
      clear hb3 hn3
      go_wp2_with ((with_reducible refine at_slot 52 ?_); refine wp_push rfl (.tmp 48) (.tmp 51) rfl w3 _ rfl rfl HO3.out u rfl rfl (by omega) hz3 ?_; intro v4 w4 hown4 hb4)
      obtain ⟨A4, c4, rfl, hA4, hc4, hm4⟩ := hown4.sl
      go_at_call 16
      have HB4 := Lib.hid (Below.trans HB3.out (Below.mono hb4 hz1))
      refine (get6_c (HT.out.below HB4.out) hA4.c hc4 (by rw [List.length_append]; simp; omega) HG2.out).mono ?_
      rintro e w5 ⟨hb5, hn5, _⟩
      obtain rfl := hn5 rfl
      have HB5 := Lib.hid (below_m HB4.out hb5)
      clear hb5 hn5 hb4 hown4 hA4
      go_wp2_with (go_at_call 15; refine (works_c (HT.out.below HB5.out)).mono ?_; rintro e w6 ⟨rfl, hb6⟩)
      go_ret
      exact ⟨rfl, below_m HB0.out (Below.mono (below_m HB5.out hb6) (by omega))⟩
    rcases Int.lt_or_le at_ bs.length with hless | hless
    · obtain ⟨n, rfl⟩ : ∃ n : Nat, at_ = n := ⟨at_.toNat, by omega⟩
      have hnlt : (n) < bs.length := by omega
      go_enter Tryd.func7, Tryd.ntmps7
      go_wp2_with fail
      go_at_call 18
      rw [← HW0.out]
      refine (HMADE.out).mono ?_
      rintro e w1 ⟨p, rfl, hk1, hp1, hb1⟩
      have HK1 := Lib.hid hk1
      have HB1 := Lib.hid hb1
      clear hk1 hb1
      go_wp2_with fail
      go_at_call 12
      refine (put6_c (HT.out.below HB1.out) HK1.out HPA.out).mono ?_
      rintro e w2 ⟨v2, rfl, hown2, hb2⟩
      dsimp only at hown2
      obtain ⟨A2, c2, rfl, hA2, hc2, hm2⟩ := hown2.sl
      have HB2 := Lib.hid (below_m HB1.out hb2)
      have HA2 := Lib.hid hA2
      have HO2 := Lib.hid hown2
      have hz1 : w0.heap.size ≤ w1.heap.size := HB1.out.size
      have hz12 : w1.heap.size ≤ w2.heap.size := hb2.size
      clear hb2 hown2 hA2
      go_wp2_with ((with_reducible refine at_slot 43 ?_); refine wp_upto rfl (.tmp 41) (.tmp 42) rfl (n := (n : Int)) rfl rfl (by omega) (by omega) hc2 ?_)
      have HTK : Hid (Value.slice A2 (n) c2 = Value.slice A2 (bs.take (n)).length c2) := Lib.hid (by rw [List.length_take, Nat.min_eq_left (by omega)])
      rw [HTK.out]
      go_at_call 16
      refine (get6_c (HT.out.below HB2.out) (HA2.out.take _).c (by rw [List.length_take]; omega) (by rw [List.length_take]; omega) (HG.out _ hnlt)).mono ?_
      rintro e w3 ⟨hb3, hn3, _⟩
      obtain rfl := hn3 rfl
      have HO3 := Lib.hid (HO2.out.below hb3)
      have hz3 : w1.heap.size ≤ w3.heap.size := Nat.le_trans hz12 hb3.size
      have HB3 := Lib.hid (below_m HB2.out hb3)
      have HCELL3 : w3.cell? ⟨w.heap.size, 3, none⟩ = some (.int .u8 (u.toNat : Int)) := by rw [HB3.out.cell hz0]; exact HCELL.out
      clear hb3 hn3
      go_wp2_with ((with_reducible refine at_slot 52 ?_); refine wp_push rfl (.tmp 48) (.tmp 51) rfl w3 _ rfl rfl HO3.out u rfl rfl (by omega) hz3 ?_; intro v4 w4 hown4 hb4)
      obtain ⟨A4, c4, rfl, hA4, hc4, hm4⟩ := hown4.sl
      go_at_call 16
      have HB4 := Lib.hid (Below.trans HB3.out (Below.mono hb4 hz1))
      refine (get6_c (HT.out.below HB4.out) hA4.c hc4 (by rw [List.length_append]; simp; omega) HG2.out).mono ?_
      rintro e w5 ⟨hb5, hn5, _⟩
      obtain rfl := hn5 rfl
      have HB5 := Lib.hid (below_m HB4.out hb5)
      clear hb5 hn5 hb4 hown4 hA4
      go_wp2_with (go_at_call 15; refine (works_c (HT.out.below HB5.out)).mono ?_; rintro e w6 ⟨rfl, hb6⟩)
      go_ret
      exact ⟨rfl, below_m HB0.out (Below.mono (below_m HB5.out hb6) (by omega))⟩
    · have hge2 := hless
      have hnlt : (bs.length - 1) < bs.length := by omega
      go_enter Tryd.func7, Tryd.ntmps7
      go_wp2_with fail
      go_at_call 18
      rw [← HW0.out]
      refine (HMADE.out).mono ?_
      rintro e w1 ⟨p, rfl, hk1, hp1, hb1⟩
      have HK1 := Lib.hid hk1
      have HB1 := Lib.hid hb1
      clear hk1 hb1
      go_wp2_with fail
      go_at_call 12
      refine (put6_c (HT.out.below HB1.out) HK1.out HPA.out).mono ?_
      rintro e w2 ⟨v2, rfl, hown2, hb2⟩
      dsimp only at hown2
      obtain ⟨A2, c2, rfl, hA2, hc2, hm2⟩ := hown2.sl
      have HB2 := Lib.hid (below_m HB1.out hb2)
      have HA2 := Lib.hid hA2
      have HO2 := Lib.hid hown2
      have hz1 : w0.heap.size ≤ w1.heap.size := HB1.out.size
      have hz12 : w1.heap.size ≤ w2.heap.size := hb2.size
      clear hb2 hown2 hA2
      go_wp2_with ((with_reducible refine at_slot 43 ?_); refine wp_upto rfl (.tmp 41) (.tmp 42) rfl (n := (bs.length : Int) - 1) rfl rfl (by omega) (by omega) hc2 ?_)
      have HTK : Hid (Value.slice A2 (bs.length - 1) c2 = Value.slice A2 (bs.take (bs.length - 1)).length c2) := Lib.hid (by rw [List.length_take, Nat.min_eq_left (by omega)])
      rw [HTK.out]
      go_at_call 16
      refine (get6_c (HT.out.below HB2.out) (HA2.out.take _).c (by rw [List.length_take]; omega) (by rw [List.length_take]; omega) (HG.out _ hnlt)).mono ?_
      rintro e w3 ⟨hb3, hn3, _⟩
      obtain rfl := hn3 rfl
      have HO3 := Lib.hid (HO2.out.below hb3)
      have hz3 : w1.heap.size ≤ w3.heap.size := Nat.le_trans hz12 hb3.size
      have HB3 := Lib.hid (below_m HB2.out hb3)
      have HCELL3 : w3.cell? ⟨w.heap.size, 3, none⟩ = some (.int .u8 (u.toNat : Int)) := by rw [HB3.out.cell hz0]; exact HCELL.out
      clear hb3 hn3
      go_wp2_with ((with_reducible refine at_slot 52 ?_); refine wp_push rfl (.tmp 48) (.tmp 51) rfl w3 _ rfl rfl HO3.out u rfl rfl (by omega) hz3 ?_; intro v4 w4 hown4 hb4)
      obtain ⟨A4, c4, rfl, hA4, hc4, hm4⟩ := hown4.sl
      go_at_call 16
      have HB4 := Lib.hid (Below.trans HB3.out (Below.mono hb4 hz1))
      refine (get6_c (HT.out.below HB4.out) hA4.c hc4 (by rw [List.length_append]; simp; omega) HG2.out).mono ?_
      rintro e w5 ⟨hb5, hn5, _⟩
      obtain rfl := hn5 rfl
      have HB5 := Lib.hid (below_m HB4.out hb5)
      clear hb5 hn5 hb4 hown4 hA4
      go_wp2_with (go_at_call 15; refine (works_c (HT.out.below HB5.out)).mono ?_; rintro e w6 ⟨rfl, hb6⟩)
      go_ret
      exact ⟨rfl, below_m HB0.out (Below.mono (below_m HB5.out hb6) (by omega))⟩
end PackW
end Go.Proofs.YtjllgdlmeoakpaaDoor
