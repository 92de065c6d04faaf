/-
  The reference's Of, Ticks, Same; slices.Equal.
-/
import Derived.Test.YtiochoppiohjnaaDoorChunkAwake
import Derived.Test.YtiochoppiohjnaaDoorBitsP
namespace Go.Proofs.YtiochoppiohjnaaDoor
open Go.RowKit
set_option linter.unusedVariables false
set_option linter.unusedSimpArgs false
namespace ChunkW
open BytesW PackW

/-- An edit: cell and light at an index. -/
structure Ed where
  at_ : Int
  cell : Cell
  light : Cell
def atE (q : Ed) : Nat := (q.at_ % 4096).toNat
theorem atE_lt (q : Ed) : atE q < 4096 := by
  unfold atE
  omega
def EdOk (q : Ed) : Prop := -9223372036854775808 ≤ q.at_ ∧ q.at_ ≤ 9223372036854775807
theorem and4095E (q : Ed) : bits .and .i64 q.at_ 4095 = (atE q : Int) := by
  have h := BitsP.and_mask q.at_ 12 (by omega)
  have e : ((2 ^ 12 - 1 : Nat) : Int) = 4095 := by decide
  rw [e] at h
  rw [h]
  unfold atE
  have : ((2 ^ 12 : Nat) : Int) = 4096 := by decide
  rw [this]
  omega

def edit (k : List Cell × List Cell) (q : Ed) : List Cell × List Cell := (k.1.set (atE q) q.cell, k.2.set (atE q) q.light)
def ofP (l : List Ed) : List Cell × List Cell := l.foldl edit (zeros, zeros)
theorem of_next {l : List Ed} {j : Nat} {q : Ed} (h : l[j]? = some q) : ofP (l.take (j + 1)) = edit (ofP (l.take j)) q := by
  rw [List.take_add_one, h, ofP, List.foldl_append]
  rfl
/-- Edits in memory. -/
def EditC (w : World) (A : Option Addr) (l : List Ed) : Prop :=
  l ≠ [] → ∃ b o, A = some ⟨b, o, none⟩ ∧ b < w.heap.size ∧ ∀ (i : Nat) (q : Ed), l[i]? = some q → w.cell? ⟨b, o + i * 5, none⟩ = some (.int .i64 q.at_) ∧ w.cell? ⟨b, o + i * 5 + 1, none⟩ = some (bv q.cell.1) ∧ w.cell? ⟨b, o + i * 5 + 2, none⟩ = some (bv q.cell.2) ∧ w.cell? ⟨b, o + i * 5 + 3, none⟩ = some (bv q.light.1) ∧ w.cell? ⟨b, o + i * 5 + 4, none⟩ = some (bv q.light.2)
theorem EditC.below {w w' : World} {A : Option Addr} {l : List Ed} (h : EditC w A l) (hb : Below w.heap.size w w') : EditC w' A l := fun hl => by
  obtain ⟨b, o, hA, hlt, hc⟩ := h hl
  refine ⟨b, o, hA, Nat.lt_of_lt_of_le hlt hb.size, fun i q hq => ?_⟩
  obtain ⟨h0, h1, h2, h3, h4⟩ := hc i q hq
  exact ⟨(hb.cell hlt).trans h0, (hb.cell hlt).trans h1, (hb.cell hlt).trans h2, (hb.cell hlt).trans h3, (hb.cell hlt).trans h4⟩
def ckOf (l : List Ed) (ts : List Tick) : Ck := ⟨(ofP l).1, (ofP l).2, ts⟩
/-- What Of answers. -/
def OfP (w : World) (k : Ck) (e : Ending) (w' : World) : Prop := ∃ p, e = .returned (.pointer (some ⟨p, 0, none⟩)) ∧ ChkK w' p k ∧ w.heap.size ≤ p ∧ Below w.heap.size w w'
def OfRel (w : World) (p : Nat) (l : List Ed) (i : Value) (wr : World) : Prop := ∃ j : Nat, i = .int .i64 j ∧ j ≤ l.length ∧ Chk wr p (ofP (l.take j)).1 (ofP (l.take j)).2 (.slice none 0 0) ∧ Below w.heap.size w wr

set_option maxRecDepth 100000 in
set_option maxHeartbeats 8000000 in
theorem of_c {w : World} {A B : Option Addr} {l : List Ed} {ts : List Tick} {c d : Nat} (hA : EditC w A l) (hok : ∀ q ∈ l, EdOk q) (hl : l.length ≤ 1000000) (hB : PairC tkv w B ts) (hts : ts.length ≤ 1000000) :
    Calls Tryd.prog 10 #[.slice A l.length c, .slice B ts.length d] w (OfP w (ckOf l ts)) := by
  obtain ⟨n, hn⟩ : ∃ n, n = l.length := ⟨_, rfl⟩
  obtain ⟨tn, htn⟩ : ∃ tn, tn = ts.length := ⟨_, rfl⟩
  rw [← hn] at hl ⊢
  rw [← htn] at hts ⊢
  have HN := Lib.hid hn
  have HTN := Lib.hid htn
  have HA := Lib.hid hA
  have HOK := Lib.hid hok
  have HB := Lib.hid hB
  obtain ⟨p, hp⟩ : ∃ p, p = w.heap.size := ⟨_, rfl⟩
  have HP := Lib.hid hp
  clear hn htn hA hok hB
  go_enter Tryd.func10, Tryd.ntmps10
  go_wp2_with (first
    | ((with_reducible refine at_slot 8 ?_); refine wp_build rfl rfl ?_)
    | ((with_reducible refine at_slot 9 ?_); refine wp_box rfl (.tmp 8) rfl rfl ?_; intro w1 hk1 hb1 hz1; rw [← hp] at hk1; simp only [← HP.out]; clear hp))
  go_loopw [6] (OfRel w p l) (fun v _ => n - (intOf v).toNat)
  case atStart => exact ⟨0, rfl, by omega, hk1, hb1⟩
  case round =>
    obtain ⟨j, rfl, hj, hck, hbw⟩ := hrel
    have HCK := Lib.hid hck
    have HBW := Lib.hid hbw
    have hz := hbw.size
    have hjn : j ≤ n := by have := HN.out; omega
    clear hck hbw hj hk1 hb1 hz1
    by_cases hlt : j < n
    · have hI1 : (j : Int) < n := by omega
      have hI0 : (0 : Int) ≤ j := by omega
      obtain ⟨q, hq⟩ : ∃ q, l[j]? = some q := ⟨_, List.getElem?_eq_getElem (by have := HN.out; omega)⟩
      obtain ⟨b, o, rfl, hbl, hcs⟩ := HA.out (fun e => by rw [e] at hq; simp at hq)
      have hc := hcs j q hq
      have HQ := Lib.hid hq
      have hb0 := (HBW.out.cell (p := ⟨b, o + j * 5, none⟩) hbl).trans hc.1
      have b1 := (HBW.out.cell (p := ⟨b, o + j * 5 + 1, none⟩) hbl).trans hc.2.1
      have b2 := (HBW.out.cell (p := ⟨b, o + j * 5 + 2, none⟩) hbl).trans hc.2.2.1
      have b3 := (HBW.out.cell (p := ⟨b, o + j * 5 + 3, none⟩) hbl).trans hc.2.2.2.1
      have b4 := (HBW.out.cell (p := ⟨b, o + j * 5 + 4, none⟩) hbl).trans hc.2.2.2.2
      obtain ⟨X1, hX1⟩ : ∃ X : Int, X = (q.cell.1.toNat : Int) := ⟨_, rfl⟩
      obtain ⟨X2, hX2⟩ : ∃ X : Int, X = (q.cell.2.toNat : Int) := ⟨_, rfl⟩
      obtain ⟨X3, hX3⟩ : ∃ X : Int, X = (q.light.1.toNat : Int) := ⟨_, rfl⟩
      obtain ⟨X4, hX4⟩ : ∃ X : Int, X = (q.light.2.toNat : Int) := ⟨_, rfl⟩
      rw [bv, ← hX1] at b1
      rw [bv, ← hX2] at b2
      rw [bv, ← hX3] at b3
      rw [bv, ← hX4] at b4
      have HX1 := Lib.hid hX1
      have HX2 := Lib.hid hX2
      have HX3 := Lib.hid hX3
      have HX4 := Lib.hid hX4
      have ha1 := atE_lt q
      obtain ⟨a, hae⟩ : ∃ a, a = atE q := ⟨_, rfl⟩
      have HAE := Lib.hid hae
      have hand : bits .and .i64 q.at_ 4095 = (a : Int) := by rw [hae]; exact and4095E q
      rw [← hae] at ha1
      obtain ⟨mo1, mo2⟩ := HOK.out q (List.mem_of_getElem? hq)
      have hC4 := HCK.out.2.1
      have hL4 := HCK.out.2.2
      obtain ⟨y, hy⟩ : ∃ y, (ofP (l.take j)).1[a]? = some y := ⟨_, List.getElem?_eq_getElem (by omega)⟩
      obtain ⟨z, hz2⟩ : ∃ z, (ofP (l.take j)).2[a]? = some z := ⟨_, List.getElem?_eq_getElem (by omega)⟩
      have g0 := (HCK.out.cell (a * 2)).trans (ckV_c hC4 hy).1
      have g1 := (HCK.out.cell (a * 2 + 1)).trans (ckV_c hC4 hy).2
      have g2 := (HCK.out.cell (8192 + a * 2)).trans (ckV_l hC4 hz2).1
      have g3 := (HCK.out.cell (8192 + a * 2 + 1)).trans (ckV_l hC4 hz2).2
      have f0 := HCK.out.frozen (a * 2)
      have f1 := HCK.out.frozen (a * 2 + 1)
      have f2 := HCK.out.frozen (8192 + a * 2)
      have f3 := HCK.out.frozen (8192 + a * 2 + 1)
      have haI : (a : Int) < 4096 := by omega
      have haI0 : (0 : Int) ≤ (a : Int) := by omega
      have hbp : b ≠ p := by have := HP.out; omega
      have HFIN : Hid (ofP (l.take (j + 1)) = edit (ofP (l.take j)) q) := Lib.hid (of_next hq)
      clear hq hcs hc hX1 hX2 hX3 hX4 hae hy hz2 hC4 hL4
      go_wp2_with fail
      go_region
      go_wp2_with fail
      go_region
      go_wp2_with fail
      go_roundw
      case rel =>
        have h2 := (HCK.out.setC ha1 q.cell).setL ha1 q.light
        have e2 : bv q.cell.1 = .int .u8 X1 := by rw [HX1.out]; rfl
        have e3 : bv q.cell.2 = .int .u8 X2 := by rw [HX2.out]; rfl
        have e4 : bv q.light.1 = .int .u8 X3 := by rw [HX3.out]; rfl
        have e5 : bv q.light.2 = .int .u8 X4 := by rw [HX4.out]; rfl
        rw [e2, e3, e4, e5] at h2
        have hpw : w.heap.size ≤ p := by have := HP.out; omega
        refine ⟨j + 1, by go_num, by have := HN.out; omega, ?_, ?_⟩
        · rw [HFIN.out, edit, ← HAE.out]
          first | exact h2.drew.drew | exact h2.drew | exact h2
        · have hbel := (((HBW.out.setCell (p := ⟨p, a * 2, none⟩) hpw (.int .u8 X1)).setCell (p := ⟨p, a * 2 + 1, none⟩) hpw (.int .u8 X2)).setCell (p := ⟨p, 8192 + a * 2, none⟩) hpw (.int .u8 X3)).setCell (p := ⟨p, 8192 + a * 2 + 1, none⟩) hpw (.int .u8 X4)
          first | exact hbel.drew.drew | exact hbel.drew | exact hbel
      case measure => simp [intOf]; omega
    · have hI1 : ¬ (j : Int) < n := by omega
      have HFIN : Hid (Chk wr p (ofP l).1 (ofP l).2 (.slice none 0 0)) := Lib.hid (by
        have h := HCK.out
        rw [List.take_of_length_le (by have := HN.out; omega)] at h
        exact h)
      have q0 := HFIN.out.t
      obtain ⟨wo, rfl⟩ : ∃ wo : World, wo = wr := ⟨_, rfl⟩
      go_wp2_with ((with_reducible refine at_slot 48 ?_); refine wp_appP rfl (.tmp 46) (.tmp 47) rfl underTicks infoTick rfl (by omega) one_tk (B := wo.heap.size) (l := []) (l2 := ts) rfl (OwnP.nil _ _ _) (by rw [← HTN.out]; rfl) (HB.out.below HBW.out) (by have := HTN.out; simp; omega) (Nat.le_refl _) ?_; intro v3 w3 hown3 hg3 hb3; rw [List.nil_append] at hown3; obtain ⟨TA, tc, rfl⟩ := own_sl hown3; have HK3 := Lib.hid (HFIN.out.below hb3); have HO3 := Lib.hid hown3; have HB3 := Lib.hid (below_t HBW.out hb3); have q2 := HK3.out.t; have q1 := HK3.out.frozen 16384; clear hown3 hg3 hb3)
      go_ret
      exact ⟨p, rfl, chk_set HK3.out HO3.out (by have := HTN.out; omega), by have := HP.out; omega, HB3.out.setCell (by have := HP.out; simp; omega) _⟩

def EqRel (w : World) (l m : List Tick) (i : Value) (wr : World) : Prop := ∃ j : Nat, i = .int .i64 j ∧ j ≤ l.length ∧ (∀ i, i < j → l[i]? = m[i]?) ∧ Below w.heap.size w wr

set_option maxRecDepth 100000 in
set_option maxHeartbeats 4000000 in
theorem rtks_c {w : World} {A B : Option Addr} {l m : List Tick} {c d : Nat} {r : Bool} (hA : PairC tkv w A l) (hB : PairC tkv w B m) (hl : l.length ≤ 1000000) (hm : m.length ≤ 1000000) (hr : decide (l = m) = r) :
    Calls Tryd.prog 18 #[.slice A l.length c, .slice B m.length d] w fun e w' => e = .returned (.bool r) ∧ Below w.heap.size w w' := by
  obtain ⟨n, hn⟩ : ∃ n, n = l.length := ⟨_, rfl⟩
  obtain ⟨k, hk⟩ : ∃ k, k = m.length := ⟨_, rfl⟩
  rw [← hn] at hl ⊢
  rw [← hk] at hm ⊢
  have HN := Lib.hid hn
  have HK := Lib.hid hk
  have HA := Lib.hid hA
  have HB0 := Lib.hid hB
  have HR := Lib.hid hr
  clear hn hk hA hB hr
  by_cases hnk : n = k
  · subst hnk
    go_enter Tryd.func18, Tryd.ntmps18
    go_wp2_with fail
    go_loopw [5] (EqRel w l m) (fun v _ => n - (intOf v).toNat)
    case atStart => exact ⟨0, rfl, by omega, fun i hi => absurd hi (by omega), Below.refl _ _⟩
    case round =>
      obtain ⟨j, rfl, hj, hall, hbw⟩ := hrel
      have HB := Lib.hid hbw
      have HAL := Lib.hid hall
      have hjn : j ≤ n := by have := HN.out; omega
      clear hbw hall hj
      by_cases hjl : j < n
      · have hjI : (j : Int) < n := by omega
        have hjI0 : (0 : Int) ≤ j := by omega
        obtain ⟨⟨a, e⟩, hx⟩ : ∃ x, l[j]? = some x := ⟨_, List.getElem?_eq_getElem (by have := HN.out; omega)⟩
        obtain ⟨⟨a2, e2⟩, hy⟩ : ∃ x, m[j]? = some x := ⟨_, List.getElem?_eq_getElem (by have := HK.out; omega)⟩
        obtain ⟨b, o, rfl, hbl, hcs⟩ := (HA.out.below HB.out).cells (fun e => by rw [e] at hx; simp at hx)
        obtain ⟨b2, o2, rfl, hbl2, hcs2⟩ := (HB0.out.below HB.out).cells (fun e => by rw [e] at hy; simp at hy)
        obtain ⟨p0, p1⟩ := hcs _ _ hx
        obtain ⟨p2, p3⟩ := hcs2 _ _ hy
        simp only [tkv] at p0 p1 p2 p3
        have HX := Lib.hid hx
        have HY := Lib.hid hy
        have HNE : Hid ((a, e) ≠ (a2, e2) → r = false) := Lib.hid (fun h => by
          rw [← HR.out, decide_eq_false_iff_not]
          intro e3
          rw [e3, hy] at hx
          injection hx with hx
          exact h hx.symm)
        clear hcs hcs2 hx hy
        by_cases c1 : a = a2
        · subst c1
          by_cases c2 : e = e2
          · subst c2
            go_wp2_with fail
            go_quiet (fail)
            go_wp2_with fail
            go_roundw
            case rel => exact ⟨j + 1, by go_num, by have := HN.out; omega, fun i hi => by
              rcases Nat.lt_or_ge i j with h | h
              · exact HAL.out i h
              · obtain rfl : i = j := by omega
                rw [HX.out, HY.out], BaseP.below_drewN HB.out _⟩
            case measure => simp [intOf]; omega
          · have ec2 : (e == e2) = false := by simpa using c2
            have HF : Hid (r = false) := Lib.hid (HNE.out (fun h => c2 (congrArg Prod.snd h)))
            clear c2
            go_wp2_with fail
            go_quiet (fail)
            go_wp2_with fail
            go_ret
            exact ⟨by rw [HF.out]; rfl, BaseP.below_drewN HB.out _⟩
        · have ec1 : (a == a2) = false := by simpa using c1
          have HF : Hid (r = false) := Lib.hid (HNE.out (fun h => c1 (congrArg Prod.fst h)))
          clear c1
          go_wp2_with fail
          go_quiet (fail)
          go_wp2_with fail
          go_ret
          exact ⟨by rw [HF.out]; rfl, BaseP.below_drewN HB.out _⟩
      · have hjI : ¬ (j : Int) < n := by omega
        have HF : Hid (r = true) := Lib.hid (by
          rw [← HR.out, decide_eq_true_eq]
          apply List.ext_getElem?
          intro i
          by_cases hi : i < j
          · exact HAL.out i hi
          · rw [List.getElem?_eq_none (by have := HN.out; omega), List.getElem?_eq_none (by have := HK.out; omega)])
        go_wp2_with fail
        go_ret
        exact ⟨by rw [HF.out]; rfl, HB.out⟩
  · have HF : Hid (r = false) := Lib.hid (by
      rw [← HR.out, decide_eq_false_iff_not]
      intro e
      exact hnk (by rw [HN.out, HK.out, e]))
    have hnI : ((n : Int) == (k : Int)) = false := by simp; omega
    clear hnk
    go_enter Tryd.func18, Tryd.ntmps18
    go_wp2_with fail
    go_ret
    exact ⟨by rw [HF.out]; rfl, Below.refl _ _⟩

set_option maxRecDepth 100000 in
set_option maxHeartbeats 4000000 in
theorem equal_c {w : World} {A B : Option Addr} {l m : List Tick} {c d : Nat} {r : Bool} (hA : PairC tkv w A l) (hB : PairC tkv w B m) (hl : l.length ≤ 1000000) (hm : m.length ≤ 1000000) (hr : decide (l = m) = r) :
    Calls Tryd.prog 39 #[.slice A l.length c, .slice B m.length d] w fun e w' => e = .returned (.bool r) ∧ Below w.heap.size w w' := by
  obtain ⟨n, hn⟩ : ∃ n, n = l.length := ⟨_, rfl⟩
  obtain ⟨k, hk⟩ : ∃ k, k = m.length := ⟨_, rfl⟩
  rw [← hn] at hl ⊢
  rw [← hk] at hm ⊢
  have HN := Lib.hid hn
  have HK := Lib.hid hk
  have HA := Lib.hid hA
  have HB0 := Lib.hid hB
  have HR := Lib.hid hr
  clear hn hk hA hB hr
  by_cases hnk : n = k
  · subst hnk
    go_enter Tryd.func39, Tryd.ntmps39
    go_wp2_with fail
    go_loopw [13] (EqRel w l m) (fun v _ => n - (intOf v).toNat)
    case atStart => exact ⟨0, rfl, by omega, fun i hi => absurd hi (by omega), Below.refl _ _⟩
    case round =>
      obtain ⟨j, rfl, hj, hall, hbw⟩ := hrel
      have HB := Lib.hid hbw
      have HAL := Lib.hid hall
      have hjn : j ≤ n := by have := HN.out; omega
      clear hbw hall hj
      by_cases hjl : j < n
      · have hjI : (j : Int) < n := by omega
        have hjI0 : (0 : Int) ≤ j := by omega
        obtain ⟨⟨a, e⟩, hx⟩ : ∃ x, l[j]? = some x := ⟨_, List.getElem?_eq_getElem (by have := HN.out; omega)⟩
        obtain ⟨⟨a2, e2⟩, hy⟩ : ∃ x, m[j]? = some x := ⟨_, List.getElem?_eq_getElem (by have := HK.out; omega)⟩
        obtain ⟨b, o, rfl, hbl, hcs⟩ := (HA.out.below HB.out).cells (fun e => by rw [e] at hx; simp at hx)
        obtain ⟨b2, o2, rfl, hbl2, hcs2⟩ := (HB0.out.below HB.out).cells (fun e => by rw [e] at hy; simp at hy)
        obtain ⟨p0, p1⟩ := hcs _ _ hx
        obtain ⟨p2, p3⟩ := hcs2 _ _ hy
        simp only [tkv] at p0 p1 p2 p3
        have HX := Lib.hid hx
        have HY := Lib.hid hy
        have HNE : Hid ((a, e) ≠ (a2, e2) → r = false) := Lib.hid (fun h => by
          rw [← HR.out, decide_eq_false_iff_not]
          intro e3
          rw [e3, hy] at hx
          injection hx with hx
          exact h hx.symm)
        clear hcs hcs2 hx hy
        by_cases c1 : a = a2
        · subst c1
          by_cases c2 : e = e2
          · subst c2
            go_wp2_with fail
            go_quiet (fail)
            go_wp2_with fail
            go_roundw
            case rel => exact ⟨j + 1, by go_num, by have := HN.out; omega, fun i hi => by
              rcases Nat.lt_or_ge i j with h | h
              · exact HAL.out i h
              · obtain rfl : i = j := by omega
                rw [HX.out, HY.out], BaseP.below_drewN HB.out _⟩
            case measure => simp [intOf]; omega
          · have ec2 : (e == e2) = false := by simpa using c2
            have HF : Hid (r = false) := Lib.hid (HNE.out (fun h => c2 (congrArg Prod.snd h)))
            clear c2
            go_wp2_with fail
            go_quiet (fail)
            go_wp2_with fail
            go_ret
            exact ⟨by rw [HF.out]; rfl, BaseP.below_drewN HB.out _⟩
        · have ec1 : (a == a2) = false := by simpa using c1
          have HF : Hid (r = false) := Lib.hid (HNE.out (fun h => c1 (congrArg Prod.fst h)))
          clear c1
          go_wp2_with fail
          go_quiet (fail)
          go_wp2_with fail
          go_ret
          exact ⟨by rw [HF.out]; rfl, BaseP.below_drewN HB.out _⟩
      · have hjI : ¬ (j : Int) < n := by omega
        have HF : Hid (r = true) := Lib.hid (by
          rw [← HR.out, decide_eq_true_eq]
          apply List.ext_getElem?
          intro i
          by_cases hi : i < j
          · exact HAL.out i hi
          · rw [List.getElem?_eq_none (by have := HN.out; omega), List.getElem?_eq_none (by have := HK.out; omega)])
        go_wp2_with fail
        go_ret
        exact ⟨by rw [HF.out]; rfl, HB.out⟩
  · have HF : Hid (r = false) := Lib.hid (by
      rw [← HR.out, decide_eq_false_iff_not]
      intro e
      exact hnk (by rw [HN.out, HK.out, e]))
    have hnI : ((n : Int) == (k : Int)) = false := by simp; omega
    clear hnk
    go_enter Tryd.func39, Tryd.ntmps39
    go_wp2_with fail
    go_ret
    exact ⟨by rw [HF.out]; rfl, Below.refl _ _⟩

def sameK (k m : Ck) : Bool := decide (k.cs = m.cs) && decide (k.ls = m.ls) && decide (k.ts = m.ts)
theorem sameK_self (k : Ck) : sameK k k = true := by simp [sameK]
def SRel (w : World) (C C2 L L2 : List Cell) (i : Value) (wr : World) : Prop := ∃ j : Nat, i = .int .i64 j ∧ j ≤ 4096 ∧ (∀ i, i < j → C[i]? = C2[i]? ∧ L[i]? = L2[i]?) ∧ Below w.heap.size w wr
theorem list4 {C D : List Cell} (hC : C.length = 4096) (hD : D.length = 4096) (h : ∀ i, i < 4096 → C[i]? = D[i]?) : C = D := by
  apply List.ext_getElem?
  intro i
  by_cases hi : i < 4096
  · exact h i hi
  · rw [List.getElem?_eq_none (by omega), List.getElem?_eq_none (by omega)]

set_option maxRecDepth 100000 in
set_option maxHeartbeats 8000000 in
theorem rsame7_c {w : World} {p q : Nat} {k m : Ck} {r : Bool} (hp : ChkK w p k) (hq : ChkK w q m) (hr : sameK k m = r) :
    Calls Tryd.prog 15 #[.pointer (some ⟨p, 0, none⟩), .pointer (some ⟨q, 0, none⟩)] w fun e w' => e = .returned (.bool r) ∧ Below w.heap.size w w' := by
  obtain ⟨C, L, ts⟩ := k
  obtain ⟨C2, L2, ts2⟩ := m
  obtain ⟨TA, tc, h1, h2, h3, h4, h5⟩ := hp
  obtain ⟨TB, td, g1, g2, g3, g4, g5⟩ := hq
  simp only at h1 h2 h3 h5 g1 g2 g3 g5
  have HR := Lib.hid hr
  obtain ⟨n, hn⟩ : ∃ n, n = ts.length := ⟨_, rfl⟩
  obtain ⟨n2, hn2⟩ : ∃ n, n = ts2.length := ⟨_, rfl⟩
  obtain ⟨rt, hrt⟩ : ∃ rt, decide (ts = ts2) = rt := ⟨_, rfl⟩
  have HRT := Lib.hid hrt
  have HTK : Hid (∀ W : World, Below w.heap.size w W → Calls Tryd.prog 18 #[.slice TA n tc, .slice TB n2 td] W fun e w' => e = .returned (.bool rt) ∧ Below W.heap.size W w') := Lib.hid (fun W hW => by rw [hn, hn2]; exact rtks_c (h2.below hW) (g2.below hW) h5 g5 hrt)
  rw [← hn] at h1
  rw [← hn2] at g1
  have HP := Lib.hid h1
  have HQ := Lib.hid g1
  have hpl := h1.lt
  have hql := g1.lt
  have HT0 := Lib.hid h1.t
  have HT1 := Lib.hid g1.t
  clear hr hn hn2 hrt h1 h2 h3 h4 h5 g1 g2 g3 g4 g5
  go_enter Tryd.func15, Tryd.ntmps15
  go_wp2_with fail
  go_loopw [5] (SRel w C C2 L L2) (fun v _ => 4096 - (intOf v).toNat)
  case atStart => exact ⟨0, rfl, by omega, fun i hi => absurd hi (by omega), Below.refl _ _⟩
  case round =>
    obtain ⟨j, rfl, hj, hall, hbw⟩ := hrel
    have HB := Lib.hid hbw
    have HAL := Lib.hid hall
    have hz := hbw.size
    clear hbw hall
    by_cases hj4 : j < 4096
    · have hjI : (j : Int) < 4096 := by omega
      obtain ⟨x, hx⟩ : ∃ x, C[j]? = some x := ⟨_, List.getElem?_eq_getElem (by have := HP.out.2.1; omega)⟩
      obtain ⟨y, hy⟩ : ∃ y, L[j]? = some y := ⟨_, List.getElem?_eq_getElem (by have := HP.out.2.2; omega)⟩
      obtain ⟨x2, hx2⟩ : ∃ x, C2[j]? = some x := ⟨_, List.getElem?_eq_getElem (by have := HQ.out.2.1; omega)⟩
      obtain ⟨y2, hy2⟩ : ∃ y, L2[j]? = some y := ⟨_, List.getElem?_eq_getElem (by have := HQ.out.2.2; omega)⟩
      have hkp := HP.out.below HB.out
      have hkq := HQ.out.below HB.out
      obtain ⟨X, hX⟩ : ∃ X : Int, X = (x.1.toNat : Int) := ⟨_, rfl⟩
      obtain ⟨Y, hY⟩ : ∃ Y : Int, Y = (x.2.toNat : Int) := ⟨_, rfl⟩
      obtain ⟨U, hU⟩ : ∃ U : Int, U = (y.1.toNat : Int) := ⟨_, rfl⟩
      obtain ⟨V, hV⟩ : ∃ V : Int, V = (y.2.toNat : Int) := ⟨_, rfl⟩
      obtain ⟨X2, hX2⟩ : ∃ X : Int, X = (x2.1.toNat : Int) := ⟨_, rfl⟩
      obtain ⟨Y2, hY2⟩ : ∃ Y : Int, Y = (x2.2.toNat : Int) := ⟨_, rfl⟩
      obtain ⟨U2, hU2⟩ : ∃ U : Int, U = (y2.1.toNat : Int) := ⟨_, rfl⟩
      obtain ⟨V2, hV2⟩ : ∃ V : Int, V = (y2.2.toNat : Int) := ⟨_, rfl⟩
      have a0 := (hkp.cell (j * 2)).trans (ckV_c hkp.2.1 hx).1
      have a1 := (hkp.cell (j * 2 + 1)).trans (ckV_c hkp.2.1 hx).2
      have a2 := (hkp.cell (8192 + j * 2)).trans (ckV_l hkp.2.1 hy).1
      have a3 := (hkp.cell (8192 + j * 2 + 1)).trans (ckV_l hkp.2.1 hy).2
      have b0 := (hkq.cell (j * 2)).trans (ckV_c hkq.2.1 hx2).1
      have b1 := (hkq.cell (j * 2 + 1)).trans (ckV_c hkq.2.1 hx2).2
      have b2 := (hkq.cell (8192 + j * 2)).trans (ckV_l hkq.2.1 hy2).1
      have b3 := (hkq.cell (8192 + j * 2 + 1)).trans (ckV_l hkq.2.1 hy2).2
      simp only [bv, ← hX, ← hY, ← hU, ← hV] at a0 a1 a2 a3
      simp only [bv, ← hX2, ← hY2, ← hU2, ← hV2] at b0 b1 b2 b3
      have HNC : Hid (x ≠ x2 → r = false) := Lib.hid (fun h => by
        rw [← HR.out, sameK, decide_eq_false (show ¬ C = C2 from fun e => h (by rw [e, hx2] at hx; injection hx with hx; exact hx.symm))]
        rfl)
      have HNL : Hid (y ≠ y2 → r = false) := Lib.hid (fun h => by
        rw [← HR.out, sameK, decide_eq_false (show ¬ L = L2 from fun e => h (by rw [e, hy2] at hy; injection hy with hy; exact hy.symm))]
        simp)
      have HEQ : Hid (X = X2 → Y = Y2 → U = U2 → V = V2 → C[j]? = C2[j]? ∧ L[j]? = L2[j]?) := Lib.hid (fun e1 e2 e3 e4 => by
        have i1 : x = x2 := Prod.ext (UInt8.toNat_inj.1 (by omega)) (UInt8.toNat_inj.1 (by omega))
        have i2 : y = y2 := Prod.ext (UInt8.toNat_inj.1 (by omega)) (UInt8.toNat_inj.1 (by omega))
        rw [hx, hx2, hy, hy2, i1, i2]
        exact ⟨rfl, rfl⟩)
      have HXX : Hid ((X ≠ X2 → x ≠ x2) ∧ (Y ≠ Y2 → x ≠ x2) ∧ (U ≠ U2 → y ≠ y2) ∧ (V ≠ V2 → y ≠ y2)) := Lib.hid (by
        refine ⟨fun h e => h ?_, fun h e => h ?_, fun h e => h ?_, fun h e => h ?_⟩ <;> subst e <;> omega)
      clear hx hy hx2 hy2 hkp hkq hX hY hU hV hX2 hY2 hU2 hV2
      by_cases c1 : X = X2
      · subst c1
        by_cases c2 : Y = Y2
        · subst c2
          by_cases c3 : U = U2
          · subst c3
            by_cases c4 : V = V2
            · subst c4
              go_wp2_with fail
              go_quiet (fail)
              go_wp2_with fail
              go_roundw
              case rel => exact ⟨j + 1, by go_num, by omega, fun i hi => by
                rcases Nat.lt_or_ge i j with h | h
                · exact HAL.out i h
                · obtain rfl : i = j := by omega
                  exact HEQ.out (by simp) (by simp) (by simp) (by simp), BaseP.below_drewN HB.out _⟩
              case measure => simp [intOf]; omega
            · have ec4 : (V == V2) = false := by simpa using c4
              have HF : Hid (r = false) := Lib.hid (HNL.out (HXX.out.2.2.2 c4))
              clear c4
              go_wp2_with fail
              go_quiet (fail)
              go_wp2_with fail
              go_ret
              exact ⟨by rw [HF.out]; rfl, BaseP.below_drewN HB.out _⟩
          · have ec3 : (U == U2) = false := by simpa using c3
            have HF : Hid (r = false) := Lib.hid (HNL.out (HXX.out.2.2.1 c3))
            clear c3
            go_wp2_with fail
            go_quiet (fail)
            go_wp2_with fail
            go_ret
            exact ⟨by rw [HF.out]; rfl, BaseP.below_drewN HB.out _⟩
        · have ec2 : (Y == Y2) = false := by simpa using c2
          have HF : Hid (r = false) := Lib.hid (HNC.out (HXX.out.2.1 c2))
          clear c2
          go_wp2_with fail
          go_quiet (fail)
          go_wp2_with fail
          go_ret
          exact ⟨by rw [HF.out]; rfl, BaseP.below_drewN HB.out _⟩
      · have ec1 : (X == X2) = false := by simpa using c1
        have HF : Hid (r = false) := Lib.hid (HNC.out (HXX.out.1 c1))
        clear c1
        go_wp2_with fail
        go_quiet (fail)
        go_wp2_with fail
        go_ret
        exact ⟨by rw [HF.out]; rfl, BaseP.below_drewN HB.out _⟩
    · have hjI : ¬ (j : Int) < 4096 := by omega
      have HC : Hid (C = C2) := Lib.hid (list4 HP.out.2.1 HQ.out.2.1 (fun i hi => (HAL.out i (by omega)).1))
      have HL : Hid (L = L2) := Lib.hid (list4 HP.out.2.2 HQ.out.2.2 (fun i hi => (HAL.out i (by omega)).2))
      have HF : Hid (r = rt) := Lib.hid (by rw [← HR.out, ← HRT.out, sameK]; simp only; rw [decide_eq_true HC.out, decide_eq_true HL.out]; rfl)
      have t0 := (HB.out.cell (p := ⟨p, 16384, none⟩) hpl).trans HT0.out
      have t1 := (HB.out.cell (p := ⟨q, 16384, none⟩) hql).trans HT1.out
      obtain ⟨wo, rfl⟩ : ∃ wo : World, wo = wr := ⟨_, rfl⟩
      go_wp2_with fail
      refine wp_region_noPanic ?_
      refine wp_region_held_drew (S := fun W => Below w.heap.size w W) (by kernel_rfl) HB.out.drew (fun hHeld => ?_)
      refine wpAnyH_take (i := 0) (oi := ⟨some 38, _, _, _, _, _⟩) (v := .pointer (some ⟨p, 0, none⟩)) rfl (by kernel_rfl) (by kernel_rfl) (by kernel_rfl) (fun _ _ _ h => h) (Or.inl ⟨by rfl, fun W hSW => by go_simp⟩) hHeld ?_
      simp only [Act.put, List.setIfInBounds_toArray, List.set_cons_zero, List.set_cons_succ]
      refine wpAnyH_take (i := 1) (oi := ⟨some 39, _, _, _, _, _⟩) (v := .pointer (some ⟨p, 0, none⟩)) rfl (by kernel_rfl) (by kernel_rfl) (by kernel_rfl) (fun _ _ _ h => h) (Or.inl ⟨by rfl, fun W hSW => by go_simp⟩) hHeld ?_
      simp only [Act.put, List.setIfInBounds_toArray, List.set_cons_zero, List.set_cons_succ]
      refine wpAnyH_take (i := 2) (oi := ⟨some 40, _, _, _, _, _⟩) (v := .pointer (some ⟨p, 16384, none⟩)) rfl (by kernel_rfl) (by kernel_rfl) (by kernel_rfl) (fun _ _ _ h => h) (Or.inl ⟨by rfl, fun W hSW => by go_simp⟩) hHeld ?_
      simp only [Act.put, List.setIfInBounds_toArray, List.set_cons_zero, List.set_cons_succ]
      refine wpAnyH_take (i := 3) (oi := ⟨some 41, _, _, _, _, _⟩) (v := .slice TA n tc) rfl (by kernel_rfl) (by kernel_rfl) (by kernel_rfl) (fun _ _ _ h => h) (Or.inl ⟨by rfl, fun W hSW => by have c := (hSW.cell (p := ⟨p, 16384, none⟩) hpl).trans HT0.out; go_simp⟩) hHeld ?_
      simp only [Act.put, List.setIfInBounds_toArray, List.set_cons_zero, List.set_cons_succ]
      refine wpAnyH_take (i := 4) (oi := ⟨some 42, _, _, _, _, _⟩) (v := .pointer (some ⟨q, 0, none⟩)) rfl (by kernel_rfl) (by kernel_rfl) (by kernel_rfl) (fun _ _ _ h => h) (Or.inl ⟨by rfl, fun W hSW => by go_simp⟩) hHeld ?_
      simp only [Act.put, List.setIfInBounds_toArray, List.set_cons_zero, List.set_cons_succ]
      refine wpAnyH_take (i := 5) (oi := ⟨some 43, _, _, _, _, _⟩) (v := .pointer (some ⟨q, 0, none⟩)) rfl (by kernel_rfl) (by kernel_rfl) (by kernel_rfl) (fun _ _ _ h => h) (Or.inl ⟨by rfl, fun W hSW => by go_simp⟩) hHeld ?_
      simp only [Act.put, List.setIfInBounds_toArray, List.set_cons_zero, List.set_cons_succ]
      refine wpAnyH_take (i := 6) (oi := ⟨some 44, _, _, _, _, _⟩) (v := .pointer (some ⟨q, 16384, none⟩)) rfl (by kernel_rfl) (by kernel_rfl) (by kernel_rfl) (fun _ _ _ h => h) (Or.inl ⟨by rfl, fun W hSW => by go_simp⟩) hHeld ?_
      simp only [Act.put, List.setIfInBounds_toArray, List.set_cons_zero, List.set_cons_succ]
      refine wpAnyH_take (i := 7) (oi := ⟨some 45, _, _, _, _, _⟩) (v := .slice TB n2 td) rfl (by kernel_rfl) (by kernel_rfl) (by kernel_rfl) (fun _ _ _ h => h) (Or.inl ⟨by rfl, fun W hSW => by have c := (hSW.cell (p := ⟨q, 16384, none⟩) hql).trans HT1.out; go_simp⟩) hHeld ?_
      simp only [Act.put, List.setIfInBounds_toArray, List.set_cons_zero, List.set_cons_succ]
      refine wpAnyH_ready (rs := [8]) (by kernel_rfl) (by simp) ?_
      refine AllReadyH.cons (o := ⟨some 46, _, _, _, _, _⟩) rfl (fun K hK => ?_) AllReadyH.nil
      go_simp
      refine (HTK.out _ hHeld).mono ?_
      rintro e w2 ⟨rfl, hb2⟩
      go_wp2_with fail
      refine hK.out _ _ (below_t hHeld hb2) (fun hHeld2 => ?_)
      clear hK K
      refine wpAnyH_ready (rs := [9]) (by kernel_rfl) (by simp) ?_
      refine AllReadyH.cons (o := ⟨some 4, _, _, _, _, _⟩) rfl (fun K hK => ?_) AllReadyH.nil
      go_simp
      refine hK.out _ _ hHeld2 (fun _ => ?_)
      clear hK K
      refine wpAnyH_done (by kernel_rfl) ?_ _
      refine NoPanic.normal ?_
      go_wp2_with fail
      go_ret
      exact ⟨by rw [HF.out]; rfl, hHeld2⟩
end ChunkW
end Go.Proofs.YtiochoppiohjnaaDoor
