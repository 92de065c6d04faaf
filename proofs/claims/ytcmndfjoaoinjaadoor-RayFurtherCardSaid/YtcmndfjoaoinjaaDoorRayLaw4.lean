/-
  RayFurther: a longer way begins with a shorter one; a direction three times as long has the same.
-/
import Derived.Test.YtcmndfjoaoinjaaDoorRayLaw3
namespace Go.Proofs.YtcmndfjoaoinjaaDoor
open Go.RowKit
set_option linter.unusedVariables false
set_option linter.unusedSimpArgs false
namespace RayP
open PlaceW BlkP
theorem tri_len {d : T3} (hd : dirB d.x d.y d.z = true) : (-3000 ≤ 3 * d.x ∧ 3 * d.x ≤ 3000) ∧ (-3000 ≤ 3 * d.y ∧ 3 * d.y ≤ 3000) ∧ (-3000 ≤ 3 * d.z ∧ 3 * d.z ≤ 3000) := by
  obtain ⟨hx, hy, hz⟩ := dir_inD hd
  have a := inD_true hx
  have b := inD_true hy
  have c := inD_true hz
  omega
theorem sub_get {p d : T3} {n N i : Nat} (h : n ≤ N) {q : T3} (hq : (wayA p d n)[i]? = some q) : (wayA p d N)[i]? = some q := by
  unfold wayA at hq ⊢
  rw [way_take _ h, List.getElem?_take] at hq
  split at hq
  · exact hq
  · cases hq
theorem sub_len {p d : T3} {n N : Nat} (h : n ≤ N) : (wayA p d n).length ≤ (wayA p d N).length := by
  unfold wayA
  rw [way_take (n := n) (N := N) _ h, List.length_take]
  omega
theorem sub_end {p d : T3} {n N : Nat} (h : n ≤ N) (hl : (wayA p d n).length < n) : (wayA p d N).length = (wayA p d n).length := by
  unfold wayA at hl ⊢
  rw [way_end _ h hl]
theorem RowT.get {w : World} {A : Option Addr} {n c : Nat} {l : List T3} (h : RowT w (.slice A n c) l) {i : Nat} {q : T3} (hq : l[i]? = some q) : ∃ g, A = some ⟨g, 0, none⟩ ∧ g < w.heap.size ∧ w.cell? ⟨g, i * 3, none⟩ = some (.int .i64 q.x) ∧ w.cell? ⟨g, i * 3 + 1, none⟩ = some (.int .i64 q.y) ∧ w.cell? ⟨g, i * 3 + 2, none⟩ = some (.int .i64 q.z) := by
  obtain ⟨A', c', e, _, _, hne⟩ := h
  injection e with e1 e2 e3
  subst e1
  obtain ⟨g, hA, hg, hcs⟩ := hne (fun e => by
    rw [e] at hq
    simp at hq)
  exact ⟨g, hA, hg, (hcs i q hq).1, (hcs i q hq).2.1, (hcs i q hq).2.2⟩
theorem RowT.form {w : World} {v : Value} {l : List T3} (h : RowT w v l) : ∃ A c, v = .slice A l.length c ∧ l.length ≤ c ∧ c ≤ 9223372036854775807 := by
  obtain ⟨A, c, rfl, h1, h2, _⟩ := h
  exact ⟨A, c, rfl, h1, h2⟩
set_option maxRecDepth 100000 in
set_option maxHeartbeats 16000000 in
theorem law_further {p d : T3} {n m : Int} {w : World} (hT : ATab w) : Calls Tryd.prog 6 #[.agg #[.int .i64 p.x, .int .i64 p.y, .int .i64 p.z], .agg #[.int .i64 d.x, .int .i64 d.y, .int .i64 d.z], .int .i64 n, .int .i64 m] w fun e w' => e = .returned (.bool true) ∧ Below w.heap.size w w' := by
  have HT := Lib.hid hT
  obtain ⟨er1, her1⟩ : ∃ er, errA p d n = er := ⟨_, rfl⟩
  obtain ⟨l1, hl1⟩ : ∃ l, ansA p d n = l := ⟨_, rfl⟩
  obtain ⟨er2, her2⟩ : ∃ er, errA p d m = er := ⟨_, rfl⟩
  obtain ⟨l2, hl2⟩ : ∃ l, ansA p d m = l := ⟨_, rfl⟩
  have HE1 := Lib.hid her1
  have HL1 := Lib.hid hl1
  have HE2 := Lib.hid her2
  have HL2 := Lib.hid hl2
  have HC1 := Lib.hid (err_cases p d n)
  have HC2 := Lib.hid (err_cases p d m)
  clear hT her1 hl1 her2 hl2
  go_enter Tryd.func6, Tryd.ntmps6
  go_wp2_with fail
  go_at_call 7
  refine (way_any (HT.out.below (by (repeat' (first | (with_reducible exact Below.refl _ _) | (with_reducible refine Below.setCell ?_ (by (first | omega | (simp; done) | (simp; omega))) _) | (with_reducible refine Below.alloc ?_ (by (first | omega | (simp; done) | (simp; omega))) _) | (with_reducible refine Below.drew ?_) | (with_reducible refine below_drewN ?_ _))))) HE1.out HL1.out).mono ?_
  rintro e w1 ⟨va, rfl, hOa, hb1⟩
  have hP1 : Blk w1 w.heap.size 23 (cellsT p) := BlkP.Blk.below (by (repeat' (first | (with_reducible refine BlkP.Blk.drew ?_) | (with_reducible refine BlkP.Blk.drewN ?_ _) | (with_reducible refine BlkP.Blk.setAt (us := ?_) (by first | omega | (simp; done) | (simp; omega)) rfl ?_ ?_) | (with_reducible refine BlkP.Blk.otherAt ?_ (by first | omega | (simp; done) | (simp; omega))) | (with_reducible refine BlkP.Blk.newA' (by first | omega | (simp; done) | (simp; omega)) rfl) | (with_reducible refine BlkP.Blk.alloc ?_ _) | (exact rfl)))) hb1
  have hD1 : Blk w1 (w.heap.size + 1) 24 [.int .i64 d.x, .int .i64 d.y, .int .i64 d.z] := BlkP.Blk.below (by (repeat' (first | (with_reducible refine BlkP.Blk.drew ?_) | (with_reducible refine BlkP.Blk.drewN ?_ _) | (with_reducible refine BlkP.Blk.setAt (us := ?_) (by first | omega | (simp; done) | (simp; omega)) rfl ?_ ?_) | (with_reducible refine BlkP.Blk.otherAt ?_ (by first | omega | (simp; done) | (simp; omega))) | (with_reducible refine BlkP.Blk.newA' (by first | omega | (simp; done) | (simp; omega)) rfl) | (with_reducible refine BlkP.Blk.alloc ?_ _) | (exact rfl)))) hb1
  have HB1 : Hid (Below w.heap.size w w1) := Lib.hid (by (repeat' (first | (with_reducible exact Below.refl _ _) | (with_reducible refine Below.setCell ?_ (by (first | omega | (simp; done) | (simp; omega))) _) | (with_reducible refine Below.alloc ?_ (by (first | omega | (simp; done) | (simp; omega))) _) | (with_reducible refine Below.drew ?_) | (with_reducible refine below_drewN ?_ _) | (with_reducible refine Below.trans ?_ (Below.mono hb1 (by (first | omega | (simp; done) | (simp; omega))))))))
  have HP1 := Lib.hid hP1
  have HD1 := Lib.hid hD1
  have c0 := hP1.cell (i := 0) (v := .int .i64 p.x) rfl
  have c1 := hP1.cell (i := 1) (v := .int .i64 p.y) rfl
  have c2 := hP1.cell (i := 2) (v := .int .i64 p.z) rfl
  have c3 := hD1.cell (i := 0) (v := .int .i64 d.x) rfl
  have c4 := hD1.cell (i := 1) (v := .int .i64 d.y) rfl
  have c5 := hD1.cell (i := 2) (v := .int .i64 d.z) rfl
  have hl := hD1.lt
  have hl0 := hP1.lt
  clear hP1 hD1
  have HRa := Lib.hid hOa.rowT
  clear hb1 hOa
  go_wp2_with fail
  go_at_call 7
  refine (way_any (HT.out.below HB1.out) HE2.out HL2.out).mono ?_
  rintro e w2 ⟨vb, rfl, hOb, hb2⟩
  clear c0 c1 c2 c3 c4 c5 hl hl0
  have hP2 : Blk w2 w.heap.size 23 (cellsT p) := BlkP.Blk.below (by exact HP1.out) hb2
  have hD2 : Blk w2 (w.heap.size + 1) 24 [.int .i64 d.x, .int .i64 d.y, .int .i64 d.z] := BlkP.Blk.below (by exact HD1.out) hb2
  have HB2 : Hid (Below w.heap.size w w2) := Lib.hid (by exact HB1.out.trans (hb2.mono HB1.out.size))
  have HP2 := Lib.hid hP2
  have HD2 := Lib.hid hD2
  have c0 := hP2.cell (i := 0) (v := .int .i64 p.x) rfl
  have c1 := hP2.cell (i := 1) (v := .int .i64 p.y) rfl
  have c2 := hP2.cell (i := 2) (v := .int .i64 p.z) rfl
  have c3 := hD2.cell (i := 0) (v := .int .i64 d.x) rfl
  have c4 := hD2.cell (i := 1) (v := .int .i64 d.y) rfl
  have c5 := hD2.cell (i := 2) (v := .int .i64 d.z) rfl
  have hl := hD2.lt
  have hl0 := hP2.lt
  clear hP2 hD2
  have HRa2 := Lib.hid (HRa.out.below hb2)
  have HRb2 := Lib.hid hOb.rowT
  clear hb2 hOb c0 c1 c2 c3 c4 c5 hl hl0
  rcases HC1.out with ⟨he1, hp, hd, k1, hk1, hk1m, ha1⟩ | ⟨he1, _⟩
  · have h1 : er1 = 0 := HE1.out.symm.trans he1
    subst h1
    rcases HC2.out with ⟨he2, _, _, k2, hk2, hk2m, ha2⟩ | ⟨he2, _⟩
    · have h2 : er2 = 0 := HE2.out.symm.trans he2
      subst h2
      have HDD := Lib.hid hd
      obtain ⟨A1, ca1, hva, hc1, hm1⟩ := HRa2.out.form
      obtain ⟨A2, ca2, hvb, hc2, hm2⟩ := HRb2.out.form
      obtain ⟨n1, hn1⟩ : ∃ x, l1.length = x := ⟨_, rfl⟩
      obtain ⟨n2, hn2⟩ : ∃ x, l2.length = x := ⟨_, rfl⟩
      have hw1 : l1 = wayA p d k1 := HL1.out.symm.trans ha1
      have hw2 : l2 = wayA p d k2 := HL2.out.symm.trans ha2
      have HLN1 : Hid ((wayA p d k1).length = n1) := Lib.hid (by rw [← hw1]; exact hn1)
      have HLN2 : Hid ((wayA p d k2).length = n2) := Lib.hid (by rw [← hw2]; exact hn2)
      rw [hn1] at hva hc1
      rw [hn2] at hvb hc2
      subst hva hvb hk1 hk2
      have HR1 : Hid (RowT w2 (.slice A1 n1 ca1) (wayA p d k1)) := Lib.hid (by rw [← hw1]; exact HRa2.out)
      have HR2 : Hid (RowT w2 (.slice A2 n2 ca2) (wayA p d k2)) := Lib.hid (by rw [← hw2]; exact HRb2.out)
      clear he1 he2 ha1 ha2 hw1 hw2 hn1 hn2 hp hd HRa HRa2 HRb2 HC1 HC2
      by_cases hsw : k2 < k1
      · have hswI : (k2 : Int) < (k1 : Int) := by omega
        have hle : k2 ≤ k1 := by omega
        have hls : (wayA p d k2).length ≤ (wayA p d k1).length := sub_len hle
        have hse : (wayA p d k2).length < k2 → (wayA p d k1).length = (wayA p d k2).length := sub_end hle
        rw [HLN2.out, HLN1.out] at hls hse
        have g1 : ¬ (n1 : Int) < (n2 : Int) := by omega
        have hcond : (n2 < k2 ∧ n1 = n2) ∨ ¬ n2 < k2 := by
          by_cases q : n2 < k2
          · exact .inl ⟨q, hse q⟩
          · exact .inr q
        have HLE := Lib.hid hle
        clear hls hse hle
        rcases hcond with ⟨hq1, hq2⟩ | hq1
        · replace hq2 := hq2.symm
          subst hq2
          have g2 : (n2 : Int) < (k2 : Int) := by omega
          clear hq1
          go_wp2_with fail
          go_loopw [13] (fun v wr => ∃ i : Nat, i ≤ n2 ∧ v = .int .i64 (i : Int) ∧ Below w2.heap.size w2 wr) (fun v _ => (n2 - intOf v).toNat)
          case atStart => exact ⟨0, by omega, rfl, Below.refl _ _⟩
          case round =>
            obtain ⟨i, hi, rfl, hby⟩ := hrel
            by_cases hlt : i < n2
            · obtain ⟨q, hq⟩ : ∃ q, (wayA p d k2)[i]? = some q := lst_get (by rw [HLN2.out]; exact hlt)
              obtain ⟨g1, rfl, hg1, a0, a1, a2⟩ := HR2.out.get hq
              obtain ⟨g2, rfl, hg2, b0, b1, b2⟩ := HR1.out.get (sub_get HLE.out hq)
              have c0 := (hby.cell (p := ⟨g1, _, none⟩) hg1).trans a0
              have c1 := (hby.cell (p := ⟨g1, _, none⟩) hg1).trans a1
              have c2 := (hby.cell (p := ⟨g1, _, none⟩) hg1).trans a2
              have d0 := (hby.cell (p := ⟨g2, _, none⟩) hg2).trans b0
              have d1 := (hby.cell (p := ⟨g2, _, none⟩) hg2).trans b1
              have d2 := (hby.cell (p := ⟨g2, _, none⟩) hg2).trans b2
              have hI : (i : Int) < (n2 : Int) := by omega
              have h0 : (0 : Int) ≤ (i : Int) := by omega
              have hI2 : (i : Int) < (n2 : Int) := by omega
              have HBY := Lib.hid hby
              clear a0 a1 a2 b0 b1 b2 hby hq
              go_wp2_with fail
              go_quiet (fail)
              go_wp2_with fail
              go_roundw
              case rel => exact ⟨i + 1, by omega, by go_num, by have := HBY.out; (repeat' (first | (with_reducible exact Below.refl _ _) | (with_reducible refine Below.setCell ?_ (by (first | omega | (simp; done) | (simp; omega))) _) | (with_reducible refine Below.alloc ?_ (by (first | omega | (simp; done) | (simp; omega))) _) | (with_reducible refine Below.drew ?_) | (with_reducible refine below_drewN ?_ _) | (with_reducible refine Below.trans ?_ (Below.mono this (by (first | omega | (simp; done) | (simp; omega)))))))⟩
              case measure => (simp only [intOf]; omega)
            · have hin : n2 = i := by omega
              subst hin
              have hI : ¬ (n2 : Int) < (n2 : Int) := by omega
              have HKA := Lib.hid hby
              have HLA := Lib.hid (HB2.out.trans (hby.mono HB2.out.size))
              clear hby
              have hPw : Blk wr w.heap.size 23 (cellsT p) := HP2.out.below HKA.out
              have hDw : Blk wr (w.heap.size + 1) 24 [.int .i64 d.x, .int .i64 d.y, .int .i64 d.z] := HD2.out.below HKA.out
              have c0 := hPw.cell (i := 0) (v := .int .i64 p.x) rfl
              have c1 := hPw.cell (i := 1) (v := .int .i64 p.y) rfl
              have c2 := hPw.cell (i := 2) (v := .int .i64 p.z) rfl
              have c3 := hDw.cell (i := 0) (v := .int .i64 d.x) rfl
              have c4 := hDw.cell (i := 1) (v := .int .i64 d.y) rfl
              have c5 := hDw.cell (i := 2) (v := .int .i64 d.z) rfl
              have hl := hDw.lt
              have hl0 := hPw.lt
              obtain ⟨⟨t1, t2⟩, ⟨t3, t4⟩, ⟨t5, t6⟩⟩ := tri_len HDD.out
              clear hPw hDw
              obtain ⟨er3, her3⟩ : ∃ er, errA p (tri d) (k1 : Int) = er := ⟨_, rfl⟩
              obtain ⟨l3, hl3⟩ : ∃ l, ansA p (tri d) (k1 : Int) = l := ⟨_, rfl⟩
              have HE3 := Lib.hid her3
              have HL3 := Lib.hid hl3
              have HC3 := Lib.hid (err_cases p (tri d) (k1 : Int))
              clear her3 hl3
              go_wp2_with fail
              go_at_call 7
              refine (way_any (d := tri d) (HT.out.below HLA.out) HE3.out HL3.out).mono ?_
              rintro e w3 ⟨vc, rfl, hOc, hb3⟩
              have HR3 := Lib.hid hOc.rowT
              have HB3 := Lib.hid (HLA.out.trans (hb3.mono HLA.out.size))
              have HRL := Lib.hid ((HR1.out.below HKA.out).below hb3)
              clear hb3 hOc c0 c1 c2 c3 c4 c5 t1 t2 t3 t4 t5 t6 hl hl0
              rcases HC3.out with ⟨he0, _, _, k3, hk3, _, hans⟩ | ⟨he0, hans⟩
              · have hk3' : k1 = k3 := by omega
                subst hk3'
                have h30 : er3 = 0 := HE3.out.symm.trans he0
                have HA3 : Hid (l3 = wayA p d k1) := Lib.hid (by
                  rw [← HL3.out, hans]
                  exact way3 p d k1 ⟨0, 0, 0⟩)
                subst h30
                obtain ⟨A3, ca3, rfl, hc3, hm3⟩ := HR3.out.form
                have hln : l3.length = n2 := by rw [HA3.out, HLN1.out]
                rw [hln] at hc3 ⊢
                have HR3' : Hid (RowT w3 (.slice A3 n2 ca3) (wayA p d k1)) := Lib.hid (by
                  have h := HR3.out
                  rw [hln, HA3.out] at h
                  exact h)
                clear he0 hans hk3 hln HR3
                go_wp2_with fail
                go_loopw [16] (fun v wr => ∃ i : Nat, i ≤ n2 ∧ v = .int .i64 (i : Int) ∧ Below w3.heap.size w3 wr) (fun v _ => (n2 - intOf v).toNat)
                case atStart => exact ⟨0, by omega, rfl, Below.refl _ _⟩
                case round =>
                  obtain ⟨i, hi, rfl, hby⟩ := hrel
                  by_cases hlt : i < n2
                  · obtain ⟨q, hq⟩ : ∃ q, (wayA p d k1)[i]? = some q := lst_get (by rw [HLN1.out]; exact hlt)
                    obtain ⟨g1, rfl, hg1, a0, a1, a2⟩ := HR3'.out.get hq
                    obtain ⟨g2, rfl, hg2, b0, b1, b2⟩ := HRL.out.get (hq)
                    have c0 := (hby.cell (p := ⟨g1, _, none⟩) hg1).trans a0
                    have c1 := (hby.cell (p := ⟨g1, _, none⟩) hg1).trans a1
                    have c2 := (hby.cell (p := ⟨g1, _, none⟩) hg1).trans a2
                    have d0 := (hby.cell (p := ⟨g2, _, none⟩) hg2).trans b0
                    have d1 := (hby.cell (p := ⟨g2, _, none⟩) hg2).trans b1
                    have d2 := (hby.cell (p := ⟨g2, _, none⟩) hg2).trans b2
                    have hI : (i : Int) < (n2 : Int) := by omega
                    have h0 : (0 : Int) ≤ (i : Int) := by omega
                    have HBY := Lib.hid hby
                    clear a0 a1 a2 b0 b1 b2 hby hq
                    go_wp2_with fail
                    go_quiet (fail)
                    go_wp2_with fail
                    go_roundw
                    case rel => exact ⟨i + 1, by omega, by go_num, by have := HBY.out; (repeat' (first | (with_reducible exact Below.refl _ _) | (with_reducible refine Below.setCell ?_ (by (first | omega | (simp; done) | (simp; omega))) _) | (with_reducible refine Below.alloc ?_ (by (first | omega | (simp; done) | (simp; omega))) _) | (with_reducible refine Below.drew ?_) | (with_reducible refine below_drewN ?_ _) | (with_reducible refine Below.trans ?_ (Below.mono this (by (first | omega | (simp; done) | (simp; omega)))))))⟩
                    case measure => (simp only [intOf]; omega)
                  · have hin : n2 = i := by omega
                    subst hin
                    have hI : ¬ (n2 : Int) < (n2 : Int) := by omega
                    have HKB := Lib.hid hby
                    have HLB := Lib.hid (HB3.out.trans (hby.mono HB3.out.size))
                    clear hby
                    go_wp2_with fail
                    go_at_call 10
                    refine (awake_c (HT.out.below HLB.out)).mono ?_
                    rintro e w5 ⟨rfl, hb5⟩
                    have HB5 := Lib.hid (HLB.out.trans (hb5.mono HLB.out.size))
                    clear hb5
                    go_wp2_with fail
                    go_ret
                    exact ⟨rfl, HB5.out⟩
              · have h30 : er3 ≠ 0 := fun e => he0 (HE3.out.trans e)
                have e1 : (er3 == 0) = false := beq_eq_false_iff_ne.2 h30
                have e2 : (er3 != 0) = true := by rw [bne, e1]; rfl
                clear he0 hans h30
                go_wp2_with fail
                go_at_call 10
                refine (awake_c (HT.out.below HB3.out)).mono ?_
                rintro e w4 ⟨rfl, hb4⟩
                have HB4 := Lib.hid (HB3.out.trans (hb4.mono HB3.out.size))
                clear hb4
                go_wp2_with fail
                go_ret
                exact ⟨rfl, HB4.out⟩
        · have g2 : ¬ (n2 : Int) < (k2 : Int) := by omega
          clear hq1
          go_wp2_with fail
          go_loopw [13] (fun v wr => ∃ i : Nat, i ≤ n2 ∧ v = .int .i64 (i : Int) ∧ Below w2.heap.size w2 wr) (fun v _ => (n2 - intOf v).toNat)
          case atStart => exact ⟨0, by omega, rfl, Below.refl _ _⟩
          case round =>
            obtain ⟨i, hi, rfl, hby⟩ := hrel
            by_cases hlt : i < n2
            · obtain ⟨q, hq⟩ : ∃ q, (wayA p d k2)[i]? = some q := lst_get (by rw [HLN2.out]; exact hlt)
              obtain ⟨g1, rfl, hg1, a0, a1, a2⟩ := HR2.out.get hq
              obtain ⟨g2, rfl, hg2, b0, b1, b2⟩ := HR1.out.get (sub_get HLE.out hq)
              have c0 := (hby.cell (p := ⟨g1, _, none⟩) hg1).trans a0
              have c1 := (hby.cell (p := ⟨g1, _, none⟩) hg1).trans a1
              have c2 := (hby.cell (p := ⟨g1, _, none⟩) hg1).trans a2
              have d0 := (hby.cell (p := ⟨g2, _, none⟩) hg2).trans b0
              have d1 := (hby.cell (p := ⟨g2, _, none⟩) hg2).trans b1
              have d2 := (hby.cell (p := ⟨g2, _, none⟩) hg2).trans b2
              have hI : (i : Int) < (n2 : Int) := by omega
              have h0 : (0 : Int) ≤ (i : Int) := by omega
              have hI2 : (i : Int) < (n1 : Int) := by omega
              have HBY := Lib.hid hby
              clear a0 a1 a2 b0 b1 b2 hby hq
              go_wp2_with fail
              go_quiet (fail)
              go_wp2_with fail
              go_roundw
              case rel => exact ⟨i + 1, by omega, by go_num, by have := HBY.out; (repeat' (first | (with_reducible exact Below.refl _ _) | (with_reducible refine Below.setCell ?_ (by (first | omega | (simp; done) | (simp; omega))) _) | (with_reducible refine Below.alloc ?_ (by (first | omega | (simp; done) | (simp; omega))) _) | (with_reducible refine Below.drew ?_) | (with_reducible refine below_drewN ?_ _) | (with_reducible refine Below.trans ?_ (Below.mono this (by (first | omega | (simp; done) | (simp; omega)))))))⟩
              case measure => (simp only [intOf]; omega)
            · have hin : n2 = i := by omega
              subst hin
              have hI : ¬ (n2 : Int) < (n2 : Int) := by omega
              have HKA := Lib.hid hby
              have HLA := Lib.hid (HB2.out.trans (hby.mono HB2.out.size))
              clear hby
              have hPw : Blk wr w.heap.size 23 (cellsT p) := HP2.out.below HKA.out
              have hDw : Blk wr (w.heap.size + 1) 24 [.int .i64 d.x, .int .i64 d.y, .int .i64 d.z] := HD2.out.below HKA.out
              have c0 := hPw.cell (i := 0) (v := .int .i64 p.x) rfl
              have c1 := hPw.cell (i := 1) (v := .int .i64 p.y) rfl
              have c2 := hPw.cell (i := 2) (v := .int .i64 p.z) rfl
              have c3 := hDw.cell (i := 0) (v := .int .i64 d.x) rfl
              have c4 := hDw.cell (i := 1) (v := .int .i64 d.y) rfl
              have c5 := hDw.cell (i := 2) (v := .int .i64 d.z) rfl
              have hl := hDw.lt
              have hl0 := hPw.lt
              obtain ⟨⟨t1, t2⟩, ⟨t3, t4⟩, ⟨t5, t6⟩⟩ := tri_len HDD.out
              clear hPw hDw
              obtain ⟨er3, her3⟩ : ∃ er, errA p (tri d) (k1 : Int) = er := ⟨_, rfl⟩
              obtain ⟨l3, hl3⟩ : ∃ l, ansA p (tri d) (k1 : Int) = l := ⟨_, rfl⟩
              have HE3 := Lib.hid her3
              have HL3 := Lib.hid hl3
              have HC3 := Lib.hid (err_cases p (tri d) (k1 : Int))
              clear her3 hl3
              go_wp2_with fail
              go_at_call 7
              refine (way_any (d := tri d) (HT.out.below HLA.out) HE3.out HL3.out).mono ?_
              rintro e w3 ⟨vc, rfl, hOc, hb3⟩
              have HR3 := Lib.hid hOc.rowT
              have HB3 := Lib.hid (HLA.out.trans (hb3.mono HLA.out.size))
              have HRL := Lib.hid ((HR1.out.below HKA.out).below hb3)
              clear hb3 hOc c0 c1 c2 c3 c4 c5 t1 t2 t3 t4 t5 t6 hl hl0
              rcases HC3.out with ⟨he0, _, _, k3, hk3, _, hans⟩ | ⟨he0, hans⟩
              · have hk3' : k1 = k3 := by omega
                subst hk3'
                have h30 : er3 = 0 := HE3.out.symm.trans he0
                have HA3 : Hid (l3 = wayA p d k1) := Lib.hid (by
                  rw [← HL3.out, hans]
                  exact way3 p d k1 ⟨0, 0, 0⟩)
                subst h30
                obtain ⟨A3, ca3, rfl, hc3, hm3⟩ := HR3.out.form
                have hln : l3.length = n1 := by rw [HA3.out, HLN1.out]
                rw [hln] at hc3 ⊢
                have HR3' : Hid (RowT w3 (.slice A3 n1 ca3) (wayA p d k1)) := Lib.hid (by
                  have h := HR3.out
                  rw [hln, HA3.out] at h
                  exact h)
                clear he0 hans hk3 hln HR3
                go_wp2_with fail
                go_loopw [16] (fun v wr => ∃ i : Nat, i ≤ n1 ∧ v = .int .i64 (i : Int) ∧ Below w3.heap.size w3 wr) (fun v _ => (n1 - intOf v).toNat)
                case atStart => exact ⟨0, by omega, rfl, Below.refl _ _⟩
                case round =>
                  obtain ⟨i, hi, rfl, hby⟩ := hrel
                  by_cases hlt : i < n1
                  · obtain ⟨q, hq⟩ : ∃ q, (wayA p d k1)[i]? = some q := lst_get (by rw [HLN1.out]; exact hlt)
                    obtain ⟨g1, rfl, hg1, a0, a1, a2⟩ := HR3'.out.get hq
                    obtain ⟨g2, rfl, hg2, b0, b1, b2⟩ := HRL.out.get (hq)
                    have c0 := (hby.cell (p := ⟨g1, _, none⟩) hg1).trans a0
                    have c1 := (hby.cell (p := ⟨g1, _, none⟩) hg1).trans a1
                    have c2 := (hby.cell (p := ⟨g1, _, none⟩) hg1).trans a2
                    have d0 := (hby.cell (p := ⟨g2, _, none⟩) hg2).trans b0
                    have d1 := (hby.cell (p := ⟨g2, _, none⟩) hg2).trans b1
                    have d2 := (hby.cell (p := ⟨g2, _, none⟩) hg2).trans b2
                    have hI : (i : Int) < (n1 : Int) := by omega
                    have h0 : (0 : Int) ≤ (i : Int) := by omega
                    have HBY := Lib.hid hby
                    clear a0 a1 a2 b0 b1 b2 hby hq
                    go_wp2_with fail
                    go_quiet (fail)
                    go_wp2_with fail
                    go_roundw
                    case rel => exact ⟨i + 1, by omega, by go_num, by have := HBY.out; (repeat' (first | (with_reducible exact Below.refl _ _) | (with_reducible refine Below.setCell ?_ (by (first | omega | (simp; done) | (simp; omega))) _) | (with_reducible refine Below.alloc ?_ (by (first | omega | (simp; done) | (simp; omega))) _) | (with_reducible refine Below.drew ?_) | (with_reducible refine below_drewN ?_ _) | (with_reducible refine Below.trans ?_ (Below.mono this (by (first | omega | (simp; done) | (simp; omega)))))))⟩
                    case measure => (simp only [intOf]; omega)
                  · have hin : n1 = i := by omega
                    subst hin
                    have hI : ¬ (n1 : Int) < (n1 : Int) := by omega
                    have HKB := Lib.hid hby
                    have HLB := Lib.hid (HB3.out.trans (hby.mono HB3.out.size))
                    clear hby
                    go_wp2_with fail
                    go_at_call 10
                    refine (awake_c (HT.out.below HLB.out)).mono ?_
                    rintro e w5 ⟨rfl, hb5⟩
                    have HB5 := Lib.hid (HLB.out.trans (hb5.mono HLB.out.size))
                    clear hb5
                    go_wp2_with fail
                    go_ret
                    exact ⟨rfl, HB5.out⟩
              · have h30 : er3 ≠ 0 := fun e => he0 (HE3.out.trans e)
                have e1 : (er3 == 0) = false := beq_eq_false_iff_ne.2 h30
                have e2 : (er3 != 0) = true := by rw [bne, e1]; rfl
                clear he0 hans h30
                go_wp2_with fail
                go_at_call 10
                refine (awake_c (HT.out.below HB3.out)).mono ?_
                rintro e w4 ⟨rfl, hb4⟩
                have HB4 := Lib.hid (HB3.out.trans (hb4.mono HB3.out.size))
                clear hb4
                go_wp2_with fail
                go_ret
                exact ⟨rfl, HB4.out⟩
      · have hswI : ¬ (k2 : Int) < (k1 : Int) := by omega
        have hle : k1 ≤ k2 := by omega
        have hls : (wayA p d k1).length ≤ (wayA p d k2).length := sub_len hle
        have hse : (wayA p d k1).length < k1 → (wayA p d k2).length = (wayA p d k1).length := sub_end hle
        rw [HLN1.out, HLN2.out] at hls hse
        have g1 : ¬ (n2 : Int) < (n1 : Int) := by omega
        have hcond : (n1 < k1 ∧ n2 = n1) ∨ ¬ n1 < k1 := by
          by_cases q : n1 < k1
          · exact .inl ⟨q, hse q⟩
          · exact .inr q
        have HLE := Lib.hid hle
        clear hls hse hle
        rcases hcond with ⟨hq1, hq2⟩ | hq1
        · replace hq2 := hq2.symm
          subst hq2
          have g2 : (n1 : Int) < (k1 : Int) := by omega
          clear hq1
          go_wp2_with fail
          go_loopw [13] (fun v wr => ∃ i : Nat, i ≤ n1 ∧ v = .int .i64 (i : Int) ∧ Below w2.heap.size w2 wr) (fun v _ => (n1 - intOf v).toNat)
          case atStart => exact ⟨0, by omega, rfl, Below.refl _ _⟩
          case round =>
            obtain ⟨i, hi, rfl, hby⟩ := hrel
            by_cases hlt : i < n1
            · obtain ⟨q, hq⟩ : ∃ q, (wayA p d k1)[i]? = some q := lst_get (by rw [HLN1.out]; exact hlt)
              obtain ⟨g1, rfl, hg1, a0, a1, a2⟩ := HR1.out.get hq
              obtain ⟨g2, rfl, hg2, b0, b1, b2⟩ := HR2.out.get (sub_get HLE.out hq)
              have c0 := (hby.cell (p := ⟨g1, _, none⟩) hg1).trans a0
              have c1 := (hby.cell (p := ⟨g1, _, none⟩) hg1).trans a1
              have c2 := (hby.cell (p := ⟨g1, _, none⟩) hg1).trans a2
              have d0 := (hby.cell (p := ⟨g2, _, none⟩) hg2).trans b0
              have d1 := (hby.cell (p := ⟨g2, _, none⟩) hg2).trans b1
              have d2 := (hby.cell (p := ⟨g2, _, none⟩) hg2).trans b2
              have hI : (i : Int) < (n1 : Int) := by omega
              have h0 : (0 : Int) ≤ (i : Int) := by omega
              have hI2 : (i : Int) < (n1 : Int) := by omega
              have HBY := Lib.hid hby
              clear a0 a1 a2 b0 b1 b2 hby hq
              go_wp2_with fail
              go_quiet (fail)
              go_wp2_with fail
              go_roundw
              case rel => exact ⟨i + 1, by omega, by go_num, by have := HBY.out; (repeat' (first | (with_reducible exact Below.refl _ _) | (with_reducible refine Below.setCell ?_ (by (first | omega | (simp; done) | (simp; omega))) _) | (with_reducible refine Below.alloc ?_ (by (first | omega | (simp; done) | (simp; omega))) _) | (with_reducible refine Below.drew ?_) | (with_reducible refine below_drewN ?_ _) | (with_reducible refine Below.trans ?_ (Below.mono this (by (first | omega | (simp; done) | (simp; omega)))))))⟩
              case measure => (simp only [intOf]; omega)
            · have hin : n1 = i := by omega
              subst hin
              have hI : ¬ (n1 : Int) < (n1 : Int) := by omega
              have HKA := Lib.hid hby
              have HLA := Lib.hid (HB2.out.trans (hby.mono HB2.out.size))
              clear hby
              have hPw : Blk wr w.heap.size 23 (cellsT p) := HP2.out.below HKA.out
              have hDw : Blk wr (w.heap.size + 1) 24 [.int .i64 d.x, .int .i64 d.y, .int .i64 d.z] := HD2.out.below HKA.out
              have c0 := hPw.cell (i := 0) (v := .int .i64 p.x) rfl
              have c1 := hPw.cell (i := 1) (v := .int .i64 p.y) rfl
              have c2 := hPw.cell (i := 2) (v := .int .i64 p.z) rfl
              have c3 := hDw.cell (i := 0) (v := .int .i64 d.x) rfl
              have c4 := hDw.cell (i := 1) (v := .int .i64 d.y) rfl
              have c5 := hDw.cell (i := 2) (v := .int .i64 d.z) rfl
              have hl := hDw.lt
              have hl0 := hPw.lt
              obtain ⟨⟨t1, t2⟩, ⟨t3, t4⟩, ⟨t5, t6⟩⟩ := tri_len HDD.out
              clear hPw hDw
              obtain ⟨er3, her3⟩ : ∃ er, errA p (tri d) (k2 : Int) = er := ⟨_, rfl⟩
              obtain ⟨l3, hl3⟩ : ∃ l, ansA p (tri d) (k2 : Int) = l := ⟨_, rfl⟩
              have HE3 := Lib.hid her3
              have HL3 := Lib.hid hl3
              have HC3 := Lib.hid (err_cases p (tri d) (k2 : Int))
              clear her3 hl3
              go_wp2_with fail
              go_at_call 7
              refine (way_any (d := tri d) (HT.out.below HLA.out) HE3.out HL3.out).mono ?_
              rintro e w3 ⟨vc, rfl, hOc, hb3⟩
              have HR3 := Lib.hid hOc.rowT
              have HB3 := Lib.hid (HLA.out.trans (hb3.mono HLA.out.size))
              have HRL := Lib.hid ((HR2.out.below HKA.out).below hb3)
              clear hb3 hOc c0 c1 c2 c3 c4 c5 t1 t2 t3 t4 t5 t6 hl hl0
              rcases HC3.out with ⟨he0, _, _, k3, hk3, _, hans⟩ | ⟨he0, hans⟩
              · have hk3' : k2 = k3 := by omega
                subst hk3'
                have h30 : er3 = 0 := HE3.out.symm.trans he0
                have HA3 : Hid (l3 = wayA p d k2) := Lib.hid (by
                  rw [← HL3.out, hans]
                  exact way3 p d k2 ⟨0, 0, 0⟩)
                subst h30
                obtain ⟨A3, ca3, rfl, hc3, hm3⟩ := HR3.out.form
                have hln : l3.length = n1 := by rw [HA3.out, HLN2.out]
                rw [hln] at hc3 ⊢
                have HR3' : Hid (RowT w3 (.slice A3 n1 ca3) (wayA p d k2)) := Lib.hid (by
                  have h := HR3.out
                  rw [hln, HA3.out] at h
                  exact h)
                clear he0 hans hk3 hln HR3
                go_wp2_with fail
                go_loopw [16] (fun v wr => ∃ i : Nat, i ≤ n1 ∧ v = .int .i64 (i : Int) ∧ Below w3.heap.size w3 wr) (fun v _ => (n1 - intOf v).toNat)
                case atStart => exact ⟨0, by omega, rfl, Below.refl _ _⟩
                case round =>
                  obtain ⟨i, hi, rfl, hby⟩ := hrel
                  by_cases hlt : i < n1
                  · obtain ⟨q, hq⟩ : ∃ q, (wayA p d k2)[i]? = some q := lst_get (by rw [HLN2.out]; exact hlt)
                    obtain ⟨g1, rfl, hg1, a0, a1, a2⟩ := HR3'.out.get hq
                    obtain ⟨g2, rfl, hg2, b0, b1, b2⟩ := HRL.out.get (hq)
                    have c0 := (hby.cell (p := ⟨g1, _, none⟩) hg1).trans a0
                    have c1 := (hby.cell (p := ⟨g1, _, none⟩) hg1).trans a1
                    have c2 := (hby.cell (p := ⟨g1, _, none⟩) hg1).trans a2
                    have d0 := (hby.cell (p := ⟨g2, _, none⟩) hg2).trans b0
                    have d1 := (hby.cell (p := ⟨g2, _, none⟩) hg2).trans b1
                    have d2 := (hby.cell (p := ⟨g2, _, none⟩) hg2).trans b2
                    have hI : (i : Int) < (n1 : Int) := by omega
                    have h0 : (0 : Int) ≤ (i : Int) := by omega
                    have HBY := Lib.hid hby
                    clear a0 a1 a2 b0 b1 b2 hby hq
                    go_wp2_with fail
                    go_quiet (fail)
                    go_wp2_with fail
                    go_roundw
                    case rel => exact ⟨i + 1, by omega, by go_num, by have := HBY.out; (repeat' (first | (with_reducible exact Below.refl _ _) | (with_reducible refine Below.setCell ?_ (by (first | omega | (simp; done) | (simp; omega))) _) | (with_reducible refine Below.alloc ?_ (by (first | omega | (simp; done) | (simp; omega))) _) | (with_reducible refine Below.drew ?_) | (with_reducible refine below_drewN ?_ _) | (with_reducible refine Below.trans ?_ (Below.mono this (by (first | omega | (simp; done) | (simp; omega)))))))⟩
                    case measure => (simp only [intOf]; omega)
                  · have hin : n1 = i := by omega
                    subst hin
                    have hI : ¬ (n1 : Int) < (n1 : Int) := by omega
                    have HKB := Lib.hid hby
                    have HLB := Lib.hid (HB3.out.trans (hby.mono HB3.out.size))
                    clear hby
                    go_wp2_with fail
                    go_at_call 10
                    refine (awake_c (HT.out.below HLB.out)).mono ?_
                    rintro e w5 ⟨rfl, hb5⟩
                    have HB5 := Lib.hid (HLB.out.trans (hb5.mono HLB.out.size))
                    clear hb5
                    go_wp2_with fail
                    go_ret
                    exact ⟨rfl, HB5.out⟩
              · have h30 : er3 ≠ 0 := fun e => he0 (HE3.out.trans e)
                have e1 : (er3 == 0) = false := beq_eq_false_iff_ne.2 h30
                have e2 : (er3 != 0) = true := by rw [bne, e1]; rfl
                clear he0 hans h30
                go_wp2_with fail
                go_at_call 10
                refine (awake_c (HT.out.below HB3.out)).mono ?_
                rintro e w4 ⟨rfl, hb4⟩
                have HB4 := Lib.hid (HB3.out.trans (hb4.mono HB3.out.size))
                clear hb4
                go_wp2_with fail
                go_ret
                exact ⟨rfl, HB4.out⟩
        · have g2 : ¬ (n1 : Int) < (k1 : Int) := by omega
          clear hq1
          go_wp2_with fail
          go_loopw [13] (fun v wr => ∃ i : Nat, i ≤ n1 ∧ v = .int .i64 (i : Int) ∧ Below w2.heap.size w2 wr) (fun v _ => (n1 - intOf v).toNat)
          case atStart => exact ⟨0, by omega, rfl, Below.refl _ _⟩
          case round =>
            obtain ⟨i, hi, rfl, hby⟩ := hrel
            by_cases hlt : i < n1
            · obtain ⟨q, hq⟩ : ∃ q, (wayA p d k1)[i]? = some q := lst_get (by rw [HLN1.out]; exact hlt)
              obtain ⟨g1, rfl, hg1, a0, a1, a2⟩ := HR1.out.get hq
              obtain ⟨g2, rfl, hg2, b0, b1, b2⟩ := HR2.out.get (sub_get HLE.out hq)
              have c0 := (hby.cell (p := ⟨g1, _, none⟩) hg1).trans a0
              have c1 := (hby.cell (p := ⟨g1, _, none⟩) hg1).trans a1
              have c2 := (hby.cell (p := ⟨g1, _, none⟩) hg1).trans a2
              have d0 := (hby.cell (p := ⟨g2, _, none⟩) hg2).trans b0
              have d1 := (hby.cell (p := ⟨g2, _, none⟩) hg2).trans b1
              have d2 := (hby.cell (p := ⟨g2, _, none⟩) hg2).trans b2
              have hI : (i : Int) < (n1 : Int) := by omega
              have h0 : (0 : Int) ≤ (i : Int) := by omega
              have hI2 : (i : Int) < (n2 : Int) := by omega
              have HBY := Lib.hid hby
              clear a0 a1 a2 b0 b1 b2 hby hq
              go_wp2_with fail
              go_quiet (fail)
              go_wp2_with fail
              go_roundw
              case rel => exact ⟨i + 1, by omega, by go_num, by have := HBY.out; (repeat' (first | (with_reducible exact Below.refl _ _) | (with_reducible refine Below.setCell ?_ (by (first | omega | (simp; done) | (simp; omega))) _) | (with_reducible refine Below.alloc ?_ (by (first | omega | (simp; done) | (simp; omega))) _) | (with_reducible refine Below.drew ?_) | (with_reducible refine below_drewN ?_ _) | (with_reducible refine Below.trans ?_ (Below.mono this (by (first | omega | (simp; done) | (simp; omega)))))))⟩
              case measure => (simp only [intOf]; omega)
            · have hin : n1 = i := by omega
              subst hin
              have hI : ¬ (n1 : Int) < (n1 : Int) := by omega
              have HKA := Lib.hid hby
              have HLA := Lib.hid (HB2.out.trans (hby.mono HB2.out.size))
              clear hby
              have hPw : Blk wr w.heap.size 23 (cellsT p) := HP2.out.below HKA.out
              have hDw : Blk wr (w.heap.size + 1) 24 [.int .i64 d.x, .int .i64 d.y, .int .i64 d.z] := HD2.out.below HKA.out
              have c0 := hPw.cell (i := 0) (v := .int .i64 p.x) rfl
              have c1 := hPw.cell (i := 1) (v := .int .i64 p.y) rfl
              have c2 := hPw.cell (i := 2) (v := .int .i64 p.z) rfl
              have c3 := hDw.cell (i := 0) (v := .int .i64 d.x) rfl
              have c4 := hDw.cell (i := 1) (v := .int .i64 d.y) rfl
              have c5 := hDw.cell (i := 2) (v := .int .i64 d.z) rfl
              have hl := hDw.lt
              have hl0 := hPw.lt
              obtain ⟨⟨t1, t2⟩, ⟨t3, t4⟩, ⟨t5, t6⟩⟩ := tri_len HDD.out
              clear hPw hDw
              obtain ⟨er3, her3⟩ : ∃ er, errA p (tri d) (k2 : Int) = er := ⟨_, rfl⟩
              obtain ⟨l3, hl3⟩ : ∃ l, ansA p (tri d) (k2 : Int) = l := ⟨_, rfl⟩
              have HE3 := Lib.hid her3
              have HL3 := Lib.hid hl3
              have HC3 := Lib.hid (err_cases p (tri d) (k2 : Int))
              clear her3 hl3
              go_wp2_with fail
              go_at_call 7
              refine (way_any (d := tri d) (HT.out.below HLA.out) HE3.out HL3.out).mono ?_
              rintro e w3 ⟨vc, rfl, hOc, hb3⟩
              have HR3 := Lib.hid hOc.rowT
              have HB3 := Lib.hid (HLA.out.trans (hb3.mono HLA.out.size))
              have HRL := Lib.hid ((HR2.out.below HKA.out).below hb3)
              clear hb3 hOc c0 c1 c2 c3 c4 c5 t1 t2 t3 t4 t5 t6 hl hl0
              rcases HC3.out with ⟨he0, _, _, k3, hk3, _, hans⟩ | ⟨he0, hans⟩
              · have hk3' : k2 = k3 := by omega
                subst hk3'
                have h30 : er3 = 0 := HE3.out.symm.trans he0
                have HA3 : Hid (l3 = wayA p d k2) := Lib.hid (by
                  rw [← HL3.out, hans]
                  exact way3 p d k2 ⟨0, 0, 0⟩)
                subst h30
                obtain ⟨A3, ca3, rfl, hc3, hm3⟩ := HR3.out.form
                have hln : l3.length = n2 := by rw [HA3.out, HLN2.out]
                rw [hln] at hc3 ⊢
                have HR3' : Hid (RowT w3 (.slice A3 n2 ca3) (wayA p d k2)) := Lib.hid (by
                  have h := HR3.out
                  rw [hln, HA3.out] at h
                  exact h)
                clear he0 hans hk3 hln HR3
                go_wp2_with fail
                go_loopw [16] (fun v wr => ∃ i : Nat, i ≤ n2 ∧ v = .int .i64 (i : Int) ∧ Below w3.heap.size w3 wr) (fun v _ => (n2 - intOf v).toNat)
                case atStart => exact ⟨0, by omega, rfl, Below.refl _ _⟩
                case round =>
                  obtain ⟨i, hi, rfl, hby⟩ := hrel
                  by_cases hlt : i < n2
                  · obtain ⟨q, hq⟩ : ∃ q, (wayA p d k2)[i]? = some q := lst_get (by rw [HLN2.out]; exact hlt)
                    obtain ⟨g1, rfl, hg1, a0, a1, a2⟩ := HR3'.out.get hq
                    obtain ⟨g2, rfl, hg2, b0, b1, b2⟩ := HRL.out.get (hq)
                    have c0 := (hby.cell (p := ⟨g1, _, none⟩) hg1).trans a0
                    have c1 := (hby.cell (p := ⟨g1, _, none⟩) hg1).trans a1
                    have c2 := (hby.cell (p := ⟨g1, _, none⟩) hg1).trans a2
                    have d0 := (hby.cell (p := ⟨g2, _, none⟩) hg2).trans b0
                    have d1 := (hby.cell (p := ⟨g2, _, none⟩) hg2).trans b1
                    have d2 := (hby.cell (p := ⟨g2, _, none⟩) hg2).trans b2
                    have hI : (i : Int) < (n2 : Int) := by omega
                    have h0 : (0 : Int) ≤ (i : Int) := by omega
                    have HBY := Lib.hid hby
                    clear a0 a1 a2 b0 b1 b2 hby hq
                    go_wp2_with fail
                    go_quiet (fail)
                    go_wp2_with fail
                    go_roundw
                    case rel => exact ⟨i + 1, by omega, by go_num, by have := HBY.out; (repeat' (first | (with_reducible exact Below.refl _ _) | (with_reducible refine Below.setCell ?_ (by (first | omega | (simp; done) | (simp; omega))) _) | (with_reducible refine Below.alloc ?_ (by (first | omega | (simp; done) | (simp; omega))) _) | (with_reducible refine Below.drew ?_) | (with_reducible refine below_drewN ?_ _) | (with_reducible refine Below.trans ?_ (Below.mono this (by (first | omega | (simp; done) | (simp; omega)))))))⟩
                    case measure => (simp only [intOf]; omega)
                  · have hin : n2 = i := by omega
                    subst hin
                    have hI : ¬ (n2 : Int) < (n2 : Int) := by omega
                    have HKB := Lib.hid hby
                    have HLB := Lib.hid (HB3.out.trans (hby.mono HB3.out.size))
                    clear hby
                    go_wp2_with fail
                    go_at_call 10
                    refine (awake_c (HT.out.below HLB.out)).mono ?_
                    rintro e w5 ⟨rfl, hb5⟩
                    have HB5 := Lib.hid (HLB.out.trans (hb5.mono HLB.out.size))
                    clear hb5
                    go_wp2_with fail
                    go_ret
                    exact ⟨rfl, HB5.out⟩
              · have h30 : er3 ≠ 0 := fun e => he0 (HE3.out.trans e)
                have e1 : (er3 == 0) = false := beq_eq_false_iff_ne.2 h30
                have e2 : (er3 != 0) = true := by rw [bne, e1]; rfl
                clear he0 hans h30
                go_wp2_with fail
                go_at_call 10
                refine (awake_c (HT.out.below HB3.out)).mono ?_
                rintro e w4 ⟨rfl, hb4⟩
                have HB4 := Lib.hid (HB3.out.trans (hb4.mono HB3.out.size))
                clear hb4
                go_wp2_with fail
                go_ret
                exact ⟨rfl, HB4.out⟩
    · have h2 : er2 ≠ 0 := fun e => he2 (HE2.out.trans e)
      have e1 : (er2 == 0) = false := beq_eq_false_iff_ne.2 h2
      have e2 : (er2 != 0) = true := by rw [bne, e1]; rfl
      clear he1 he2 h2 hp hd hk1 ha1 HC1 HC2
      go_wp2_with fail
      go_at_call 10
      refine (awake_c (HT.out.below HB2.out)).mono ?_
      rintro e w3 ⟨rfl, hb3⟩
      have HB3 := Lib.hid (HB2.out.trans (hb3.mono HB2.out.size))
      clear hb3
      go_wp2_with fail
      go_ret
      exact ⟨rfl, HB3.out⟩
  · have h1 : er1 ≠ 0 := fun e => he1 (HE1.out.trans e)
    have e1 : (er1 == 0) = false := beq_eq_false_iff_ne.2 h1
    have e2 : (er1 != 0) = true := by rw [bne, e1]; rfl
    clear he1 h1 HC1 HC2
    go_wp2_with fail
    go_at_call 10
    refine (awake_c (HT.out.below HB2.out)).mono ?_
    rintro e w3 ⟨rfl, hb3⟩
    have HB3 := Lib.hid (HB2.out.trans (hb3.mono HB2.out.size))
    clear hb3
    go_wp2_with fail
    go_ret
    exact ⟨rfl, HB3.out⟩
end RayP
end Go.Proofs.YtcmndfjoaoinjaaDoor
