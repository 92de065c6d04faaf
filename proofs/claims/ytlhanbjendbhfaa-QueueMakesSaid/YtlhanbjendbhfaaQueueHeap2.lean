/-
  heap.Pop, Fix, Remove.
-/
import Derived.Test.YtlhanbjendbhfaaQueueHeap
namespace Go.Proofs.Ytlhanbjendbhfaa
open Go.RowKit
set_option linter.unusedVariables false
set_option linter.unusedSimpArgs false
namespace QueW
open BlkP RowG FrS PushG HeapP ChunkW

theorem heap_swp {l : List Tick} {n m i : Nat} (hn : l.length = n) (hm : n = m + 1) (hi : i < m) (hh : Heap tl (gt l) n) : Both tl (gt (swp l i m)) m i := by
  rw [swp_gt (by omega) (by omega)]
  exact Heap.both tl_ord (heap_less hh (by omega)) hi (fun k hk hne => sw_o _ hne (by omega))
set_option maxRecDepth 100000 in
set_option maxHeartbeats 16000000 in
theorem Fix_c {w : World} {pb B i : Nat} {v : Value} {l L : List Tick} {W : Nat → Nat} (h : Pd w B pb v l W) (hw : Ws l W L) (hi : i < l.length) (hb : Both tl (gt l) l.length i) :
    Calls Try.prog 38 #[.iface 55 (.pointer (some ⟨pb, 0, none⟩)), .int .i64 (i : Int)] w fun e w' => e = .returned (.tuple #[]) ∧ Hp w' B pb v L ∧ Fr (Sp pb v) w w' := by
  obtain ⟨n, hn⟩ : ∃ n, l.length = n := ⟨_, rfl⟩
  have hn5 : n ≤ 4096 := by rw [← hn]; exact hw.few
  obtain ⟨g, c, rfl⟩ := own_some h.row (by omega)
  rw [hn] at h hi hb ⊢
  have hml := m_len h.cell0
  have HH := Lib.hid h
  have HW := Lib.hid hw
  have HN := Lib.hid hn
  have HB := Lib.hid hb
  clear h hw hn hb
  go_enter Try.func38, Try.ntmps38
  go_wp2_with fail
  refine (len_c).mono ?_
  rintro e w1 ⟨rfl, rfl⟩
  clear hml
  go_wp2_with fail
  refine (down_c (i0 := i) (m := n) (JB i n) HH.out HW.out HN.out (Nat.le_refl _) (by omega) (fun _ => hi) (.inl ⟨rfl, HB.out⟩) (jb_steps _ _)).mono ?_
  rintro e w2 ⟨q, l2, W2, rfl, hr, hk⟩
  have R2 := Lib.hid hr
  have K2 := Lib.hid hk
  by_cases hq : i < q
  · have hd : decide (i < q) = true := decide_eq_true hq
    rw [hd]
    clear hr hk
    go_wp2_with fail
    go_end0
    exact ⟨rfl, ⟨l2, W2, R2.out.pd, R2.out.ws, by rw [R2.out.len]; exact jb_more R2.out.j K2.out hq⟩, R2.out.fr⟩
  · have hd : decide (i < q) = false := decide_eq_false hq
    have hqi : q = i := by have := hr.le; omega
    rw [hd]
    clear hr hk
    go_wp2_with fail
    refine (up_c (j0 := i) (m := n) R2.out.pd R2.out.ws R2.out.len (Nat.le_refl _) hi (jb_same R2.out.j K2.out hqi)).mono ?_
    rintro e w3 ⟨rfl, l3, W3, hp3, hw3, hn3, hh3, hk3, hf3⟩
    have P3 := Lib.hid hp3
    have W3' := Lib.hid hw3
    have HH3 := Lib.hid (show Heap tl (gt l3) l3.length by rw [hn3]; exact hh3)
    have F3 := Lib.hid hf3
    clear hp3 hw3 hn3 hh3 hk3 hf3
    go_wp2_with fail
    go_end0
    exact ⟨rfl, ⟨l3, W3, P3.out, W3'.out, HH3.out⟩, R2.out.fr.trans F3.out (fun i hi => .inl hi)⟩
set_option maxRecDepth 100000 in
set_option maxHeartbeats 16000000 in
theorem Remove_c {w : World} {pb B i a : Nat} {d : Int} {v : Value} {l L : List Tick} {W : Nat → Nat} (h : Pd w B pb v l W) (hw : Ws l W L) (hh : Heap tl (gt l) l.length) (hx : l[i]? = some ((a : Int), d)) (ha : a < 4096) :
    Calls Try.prog 40 #[.iface 55 (.pointer (some ⟨pb, 0, none⟩)), .int .i64 (i : Int)] w fun e w' => e = .returned (.iface TT (.agg #[.int .i64 (a : Int), .int .i64 d])) ∧ ∃ v', Hp w' B pb v' (delL (a : Int) L) ∧ Fr (Sp pb v) w w' ∧ v'.ownBlock = v.ownBlock := by
  obtain ⟨n, hn⟩ : ∃ n, l.length = n := ⟨_, rfl⟩
  have hn5 : n ≤ 4096 := by rw [← hn]; exact hw.few
  have hi : i < n := by rw [← hn]; exact (List.getElem?_eq_some_iff.1 hx).1
  obtain ⟨g, c, rfl⟩ := own_some h.row (by omega)
  obtain ⟨m, hm⟩ : ∃ m, n = m + 1 := ⟨n - 1, by omega⟩
  have hmI : (n : Int) - 1 = (m : Int) := by omega
  have hnI : (n : Int) ≤ 4096 := by omega
  have hn0 : 0 < (n : Int) := by omega
  rw [hn] at h hh ⊢
  have hml := m_len h.cell0
  have hsw := m_swap pb
  have hpp := m_pop pb
  have HH := Lib.hid h
  have HW := Lib.hid hw
  have HN := Lib.hid hn
  have HP := Lib.hid hh
  have HX := Lib.hid hx
  clear h hw hn hh hx
  go_enter Try.func40, Try.ntmps40
  go_wp2_with fail
  refine (len_c).mono ?_
  rintro e w1 ⟨rfl, rfl⟩
  clear hml
  by_cases hmi : m = i
  · subst hmi
    go_wp2_with fail
    refine (Pop_c (m := m) HH.out HN.out hm (by omega) HX.out ha).mono ?_
    rintro e z ⟨rfl, hpz, hfz⟩
    have PZ := Lib.hid hpz
    have FZ := Lib.hid hfz
    have HZ := Lib.hid (heap_take (show Heap tl (gt l) m from heap_less HP.out (by omega)) (by rw [HN.out]; omega))
    have WZ := Lib.hid ((HW.out).pop (m := m) (by rw [HN.out]; exact hm))
    clear hpz hfz
    rw [gt_at (HX.out)] at WZ
    go_wp2_with fail
    go_ret
    refine ⟨rfl, _, ⟨_, _, PZ.out, ?_, HZ.out⟩, Fr.trans (Fr.refl _ _) FZ.out (fun i hi => .inl hi), rfl⟩
    simpa only [Int.toNat_natCast] using WZ.out
  have hmi' : i < m := by omega
  have hneI : ((m : Int) != (i : Int)) = true := by simp; omega
  obtain ⟨a2, d2, ht2, hx2, ha2⟩ := ws_at HW.out (k := m) (by rw [HN.out]; omega)
  have HT2 := Lib.hid ht2
  have HX2 := Lib.hid hx2
  clear ht2 hx2
  go_wp2_with fail
  refine (Swap_c HH.out HN.out (by omega) HX.out HX2.out ha ha2).mono ?_
  rintro e w2 ⟨rfl, hp2, hf2⟩
  have P2 := Lib.hid hp2
  have F2 := Lib.hid hf2
  have W2 := Lib.hid (by simpa only [HT2.out, gt_at HX.out, Int.toNat_natCast] using HW.out.swap (i := i) (j := m) (by rw [HN.out]; exact hi) (by rw [HN.out]; omega))
  have N2 := Lib.hid (show (swp l i m).length = n by rw [swp_len, HN.out])
  have X2 := Lib.hid (show gt (swp l i m) m = ((a : Int), d) by
    rw [swp_gt (by rw [HN.out]; exact hi) (by rw [HN.out]; omega), sw_r, gt_at HX.out])
  clear hp2 hf2
  go_wp2_with fail
  refine (down_c (i0 := i) (m := m) (JB i m) P2.out W2.out N2.out (by omega) (by omega) (fun _ => hmi') (.inl ⟨rfl, heap_swp HN.out hm hmi' HP.out⟩) (jb_steps _ _)).mono ?_
  rintro e w3 ⟨q, l3, W3, rfl, hr, hk⟩
  have R3 := Lib.hid hr
  have K3 := Lib.hid hk
  have X3 := Lib.hid (show l3[m]? = some ((a : Int), d) by rw [gt_some (by rw [hr.len]; omega), hr.keep m (Nat.le_refl _), X2.out])
  by_cases hq : i < q
  · have hd : decide (i < q) = true := decide_eq_true hq
    rw [hd]
    clear hr hk
    go_wp2_with fail
    refine (Pop_c (m := m) R3.out.pd R3.out.len hm (by omega) X3.out ha).mono ?_
    rintro e z ⟨rfl, hpz, hfz⟩
    have PZ := Lib.hid hpz
    have FZ := Lib.hid hfz
    have HZ := Lib.hid (heap_take (jb_more R3.out.j K3.out hq) (by rw [R3.out.len]; omega))
    have WZ := Lib.hid ((R3.out.ws).pop (m := m) (by rw [R3.out.len]; exact hm))
    clear hpz hfz
    rw [gt_at (X3.out)] at WZ
    go_wp2_with fail
    go_ret
    refine ⟨rfl, _, ⟨_, _, PZ.out, ?_, HZ.out⟩, Fr.trans (F2.out.trans R3.out.fr (fun i hi => .inl hi)) FZ.out (fun i hi => .inl hi), rfl⟩
    simpa only [Int.toNat_natCast] using WZ.out
  · have hd : decide (i < q) = false := decide_eq_false hq
    have hqi : q = i := by have := hr.le; omega
    rw [hd]
    clear hr hk
    go_wp2_with fail
    refine (up_c (j0 := i) (m := m) R3.out.pd R3.out.ws R3.out.len (by omega) hmi' (jb_same R3.out.j K3.out hqi)).mono ?_
    rintro e w4 ⟨rfl, l4, W4, hp4, hw4, hn4, hh4, hk4, hf4⟩
    have P4 := Lib.hid hp4
    have W4' := Lib.hid hw4
    have N4 := Lib.hid hn4
    have HH4 := Lib.hid hh4
    have F4 := Lib.hid hf4
    have X4 := Lib.hid (show l4[m]? = some ((a : Int), d) by rw [gt_some (by rw [hn4]; omega), hk4 m (Nat.le_refl _), gt_at X3.out])
    clear hp4 hw4 hn4 hh4 hk4 hf4
    go_wp2_with fail
    refine (Pop_c (m := m) P4.out N4.out hm (by omega) X4.out ha).mono ?_
    rintro e z ⟨rfl, hpz, hfz⟩
    have PZ := Lib.hid hpz
    have FZ := Lib.hid hfz
    have HZ := Lib.hid (heap_take (HH4.out) (by rw [N4.out]; omega))
    have WZ := Lib.hid ((W4'.out).pop (m := m) (by rw [N4.out]; exact hm))
    clear hpz hfz
    rw [gt_at (X4.out)] at WZ
    go_wp2_with fail
    go_ret
    refine ⟨rfl, _, ⟨_, _, PZ.out, ?_, HZ.out⟩, Fr.trans ((F2.out.trans R3.out.fr (fun i hi => .inl hi)).trans F4.out (fun i hi => .inl hi)) FZ.out (fun i hi => .inl hi), rfl⟩
    simpa only [Int.toNat_natCast] using WZ.out
set_option maxRecDepth 100000 in
set_option maxHeartbeats 16000000 in
theorem hPop_d {w : World} {pb B i a : Nat} {d : Int} {v : Value} {l L : List Tick} {W : Nat → Nat} (h : Pd w B pb v l W) (hw : Ws l W L) (hh : Heap tl (gt l) l.length) (hi00 : i = 0) (hx : l[i]? = some ((a : Int), d)) (ha : a < 4096) :
    Calls Try.prog 41 #[.iface 55 (.pointer (some ⟨pb, 0, none⟩))] w fun e w' => e = .returned (.iface TT (.agg #[.int .i64 (a : Int), .int .i64 d])) ∧ ∃ v', Hp w' B pb v' (delL (a : Int) L) ∧ Fr (Sp pb v) w w' ∧ v'.ownBlock = v.ownBlock := by
  obtain ⟨n, hn⟩ : ∃ n, l.length = n := ⟨_, rfl⟩
  have hn5 : n ≤ 4096 := by rw [← hn]; exact hw.few
  have hi : i < n := by rw [← hn]; exact (List.getElem?_eq_some_iff.1 hx).1
  obtain ⟨g, c, rfl⟩ := own_some h.row (by omega)
  obtain ⟨m, hm⟩ : ∃ m, n = m + 1 := ⟨n - 1, by omega⟩
  have hmI : (n : Int) - 1 = (m : Int) := by omega
  have hnI : (n : Int) ≤ 4096 := by omega
  have hn0 : 0 < (n : Int) := by omega
  rw [hn] at h hh ⊢
  have hml := m_len h.cell0
  have hsw := m_swap pb
  have hpp := m_pop pb
  have HH := Lib.hid h
  have HW := Lib.hid hw
  have HN := Lib.hid hn
  have HP := Lib.hid hh
  have HX := Lib.hid hx
  clear h hw hn hh hx
  go_enter Try.func41, Try.ntmps41
  go_wp2_with fail
  refine (len_c).mono ?_
  rintro e w1 ⟨rfl, rfl⟩
  clear hml
  obtain ⟨a2, d2, ht2, hx2, ha2⟩ := ws_at HW.out (k := m) (by rw [HN.out]; omega)
  have HT2 := Lib.hid ht2
  have HX2 := Lib.hid hx2
  clear ht2 hx2
  go_wp2_with fail
  have hz : (0 : Int) = (i : Int) := by omega
  rw [hz]
  refine (Swap_c (i := i) HH.out HN.out (by omega) HX.out HX2.out ha ha2).mono ?_
  rintro e w2 ⟨rfl, hp2, hf2⟩
  have P2 := Lib.hid hp2
  have F2 := Lib.hid hf2
  have W2 := Lib.hid (by simpa only [HT2.out, gt_at HX.out, Int.toNat_natCast] using HW.out.swap (i := i) (j := m) (by rw [HN.out]; exact hi) (by rw [HN.out]; omega))
  have N2 := Lib.hid (show (swp l i m).length = n by rw [swp_len, HN.out])
  have X2 := Lib.hid (show gt (swp l i m) m = ((a : Int), d) by
    rw [swp_gt (by rw [HN.out]; exact hi) (by rw [HN.out]; omega), sw_r, gt_at HX.out])
  clear hp2 hf2
  clear hz
  go_wp2_with fail
  have hz : (0 : Int) = (i : Int) := by omega
  rw [hz]
  refine (down_c (i0 := i) (m := m) (JB i m) P2.out W2.out N2.out (by omega) (by omega) (fun h => by omega) (.inl ⟨rfl, ?_⟩) (jb_steps _ _)).mono ?_
  · by_cases hm0 : m = 0
    · subst hm0
      exact ⟨fun k h0 hk => by omega, fun k h0 hk => by omega⟩
    · exact heap_swp HN.out hm (by omega) HP.out
  rintro e w3 ⟨q, l3, W3, rfl, hr, hk⟩
  have R3 := Lib.hid hr
  have X3 := Lib.hid (show l3[m]? = some ((a : Int), d) by rw [gt_some (by rw [hr.len]; omega), hr.keep m (Nat.le_refl _), X2.out])
  have H3 := Lib.hid (show Heap tl (gt l3) m by
    by_cases hq : i < q
    · exact jb_more hr.j hk hq
    · exact up_stop (jb_same hr.j hk (by have := hr.le; omega)) (.inl hi00))
  clear hr hk hz
  go_wp2_with fail
  refine (Pop_c (m := m) R3.out.pd R3.out.len hm (by omega) X3.out ha).mono ?_
  rintro e z ⟨rfl, hpz, hfz⟩
  have PZ := Lib.hid hpz
  have FZ := Lib.hid hfz
  have HZ := Lib.hid (heap_take (H3.out) (by rw [R3.out.len]; omega))
  have WZ := Lib.hid ((R3.out.ws).pop (m := m) (by rw [R3.out.len]; exact hm))
  clear hpz hfz
  rw [gt_at (X3.out)] at WZ
  go_wp2_with fail
  go_ret
  refine ⟨rfl, _, ⟨_, _, PZ.out, ?_, HZ.out⟩, Fr.trans (F2.out.trans R3.out.fr (fun i hi => .inl hi)) FZ.out (fun i hi => .inl hi), rfl⟩
  simpa only [Int.toNat_natCast] using WZ.out
end QueW
end Go.Proofs.Ytlhanbjendbhfaa
