/-
  All sectors of a disk, as a row of texts; is one of the first writes a commit?
-/
import Derived.Test.YtknckaegpdganaaDoorJouLaw
import Derived.Test.YtknckaegpdganaaDoorJournalHeart
import Derived.Test.YtknckaegpdganaaDoorSectorArg
namespace Go.Proofs.YtknckaegpdganaaDoor
-- mine: whole_c same_c awake_c take_c step_c back_c
open Go.RowKit
set_option linter.unusedVariables false
set_option linter.unusedSimpArgs false
set_option maxRecDepth 100000
namespace JouW
open BlkP RowG FrS PushG JournalP SecP SecW JouP CrcW
def encS : Enc Sec := ⟨fun s => [.string (str s)], 1, fun _ => rfl, fun x v h => by
  simp only [List.mem_cons, List.not_mem_nil, or_false] at h
  rcases h with rfl
  rfl⟩
abbrev TS : TypeId := 9
abbrev TSs : TypeId := 50
theorem infoS : (Tryd.prog.info? TS).map (fun i => (i.zero, i.size, i.bytes)) = some (some (.string ⟨#[]⟩), 1, 16) := by kernel_rfl
theorem underSs : Tryd.prog.underlying TSs = some (.slice TS) := Tryd.underlying50
theorem tyS : RowE.Ty encS TSs TS 16 := ⟨underSs, ⟨_, infoS, rfl⟩, by decide⟩
def sects (n : Nat) (f : Nat → Sec) : List Sec := (List.range n).map f
theorem sects_len (n : Nat) (f : Nat → Sec) : (sects n f).length = n := by simp [sects]
theorem sects_succ (n : Nat) (f : Nat → Sec) : sects (n + 1) f = sects n f ++ [f n] := by simp [sects, List.range_succ]
theorem sects_at {n i : Nat} {f : Nat → Sec} (h : i < n) : (sects n f)[i]? = some (f i) := by simp [sects, h]
theorem sects_set {n i : Nat} {f : Nat → Sec} {x : Sec} (h : i < n) : (sects n f).set i x = sects n (upd f i x) := by
  apply List.ext_getElem?
  intro k
  by_cases hk : k < n
  · rw [sects_at hk, List.getElem?_set, sects_len]
    unfold upd
    by_cases e : i = k
    · subst e
      rw [if_pos rfl, if_pos h, if_pos rfl]
    · rw [if_neg e, sects_at hk, if_neg (fun q => e q.symm)]
  · rw [List.getElem?_eq_none (by rw [List.length_set, sects_len]; omega), List.getElem?_eq_none (by rw [sects_len]; omega)]
section
variable {w : World} {B pd : Nat} {d : Dk} {S : Nat → Prop}
def ReadRel (w : World) (d : Dk) (v3 v4 : Value) (wr : World) : Prop := ∃ (i : Nat) (vr : Value), v4 = .int .i64 (i : Int) ∧ vr = v3 ∧ i ≤ d.n ∧ RowG.Own encS TS wr w.heap.size vr (sects i d.now) ∧ Below w.heap.size w wr
set_option maxHeartbeats 16000000 in
theorem readall_c (h : Dsk w B pd d S) :
    Calls Tryd.prog 22 #[.pointer (some ⟨pd, 0, none⟩)] w fun e w' => ∃ v, e = .returned v ∧ RowG.Own encS TS w' w.heap.size v (sects d.n d.now) ∧ Below w.heap.size w w' := by
  have Q := Lib.hid h
  have hnn := h.ok.hi
  clear h
  go_enter Tryd.func22, Tryd.ntmps22
  go_wp2_with fail
  go_loopw [3, 4] (ReadRel w d) (fun _ v _ => d.n - (RowKit.intOf v).toNat)
  case atStart => exact ⟨0, _, rfl, rfl, Nat.zero_le _, Own.nil _ _ _ _, Below.refl _ _⟩
  case round =>
    obtain ⟨i, vr, rfl, rfl, hi, ho, hbr⟩ := hrel
    have OW := Lib.hid ho
    have BR := Lib.hid hbr
    have QR := Lib.hid (Q.out.below hbr)
    clear ho hbr
    go_wp2_with fail
    refine (Len_c QR.out).mono ?_
    rintro e w1 ⟨rfl, hw⟩
    obtain rfl := hw.symm
    by_cases hin : i < d.n
    · have hiI : (i : Int) < (d.n : Int) := by omega
      obtain ⟨y, hy⟩ : ∃ y, d.now i = y := ⟨_, rfl⟩
      have HY := Lib.hid (show readD d (i : Int) = y by
        unfold readD
        rw [if_pos (inD_iff.2 ⟨by omega, by omega⟩), Int.toNat_natCast]
        exact hy)
      have HZ := Lib.hid (show readE d (i : Int) = 0 by
        unfold readE
        rw [if_pos (inD_iff.2 ⟨by omega, by omega⟩)])
      have HS := Lib.hid (show sects (i + 1) d.now = sects i d.now ++ [y] by rw [sects_succ, hy])
      clear hy
      go_wp2_with fail
      refine (Read_i QR.out HY.out HZ.out).mono ?_
      rintro e w2 ⟨rfl, hb2⟩
      have B2 := Lib.hid (below_t BR.out hb2)
      have O2 := Lib.hid (OW.out.below hb2)
      have hz2 := B2.out.size
      clear hb2
      go_wp2_with ((with_reducible refine at_slot 22 ?_); refine Classical.byContradiction (fun hG => ?_))
      refine hG ?_
      clear hG
      refine RowE.wp_pushE tyS (by decide) rfl (.tmp 19) (.tmp 21) rfl (w0 := w2) (B := w.heap.size) (v := vr) (l := sects i d.now) (y := y) rfl rfl rfl O2.out rfl (by first | rfl | (simp; done)) (by rw [sects_len]; omega) hz2 ?_
      intro gn cn w3 hpu
      have O3 := Lib.hid (show RowG.Own encS TS w3 w.heap.size _ (sects (i + 1) d.now) from HS.out ▸ hpu.1)
      have B3 := Lib.hid (show Below w.heap.size w w3 from B2.out.grown hpu.2.1 hz2 (fun k hk => (O2.out.ge k hk).1))
      clear hpu
      go_wp2_with fail
      go_roundw
      case rel => exact ⟨i + 1, _, by first | rfl | (congr 1; omega), rfl, by omega, O3.out, B3.out⟩
      case measure => first | (simp [RowKit.intOf]; done) | (simp [RowKit.intOf]; omega)
    · have hie : i = d.n := by omega
      have hiI : ¬ (i : Int) < (d.n : Int) := by omega
      have HE := Lib.hid hie
      clear hin hie
      go_wp2_with fail
      go_ret
      exact ⟨_, rfl, by rw [← HE.out]; exact OW.out, BR.out⟩
end
section
variable {w : World}
theorem com_yes {l : List (Nat × Sec)} {a k i : Nat} {x : Nat × Sec} (hx : l[i]? = some x) (hik : i < k) (h1 : x.1 = a) (h2 : x.2 ≠ SecP.blank) : comB l a k = true := by
  unfold comB
  rw [List.any_eq_true]
  refine ⟨x, ?_, by simp [h1, h2]⟩
  exact List.mem_of_getElem? (by rw [List.getElem?_take, if_pos hik]; exact hx)
theorem com_no {l : List (Nat × Sec)} {a k : Nat} (h : ∀ i, i < k → ∀ x, l[i]? = some x → (x.1 == a && x.2 != SecP.blank) = false) : comB l a k = false := by
  unfold comB
  rw [List.any_eq_false]
  intro x hx
  obtain ⟨i, hi⟩ := List.getElem?_of_mem hx
  have hik : i < k := by
    have := (List.getElem?_eq_some_iff.1 hi).1
    rw [List.length_take] at this
    omega
  rw [List.getElem?_take, if_pos hik] at hi
  rw [h i hik x hi]
  simp
set_option maxHeartbeats 16000000 in
theorem commits_c {B n c a k : Nat} {A : Option Addr} {l : List (Nat × Sec)} {r : Bool} (ho : RowG.Own encA TA w B (.slice A n c) l) (hn : l.length = n) (hr : comB l a k = r) :
    Calls Tryd.prog 23 #[.slice A n c, .int .i64 (a : Int), .int .i64 (k : Int)] w fun e w' => e = .returned (.bool r) ∧ Below w.heap.size w w' := by
  have HR := Lib.hid ho.rd
  have HN := Lib.hid hn
  have HRR := Lib.hid hr
  have hnb : n ≤ 9223372036854775807 := by have := RowE.rd_len ho.rd; omega
  clear ho hn hr
  go_enter Tryd.func23, Tryd.ntmps23
  go_wp2_with fail
  go_loopw [7] (fun v7 wr => ∃ i : Nat, v7 = .int .i64 (i : Int) ∧ i ≤ n ∧ (∀ j, j < i → ∀ x, l[j]? = some x → (x.1 == a && x.2 != SecP.blank) = false) ∧ Below w.heap.size w wr) (fun v _ => n - (RowKit.intOf v).toNat)
  case atStart => exact ⟨0, rfl, Nat.zero_le _, fun j hj => absurd hj (by omega), Below.refl _ _⟩
  case round =>
    obtain ⟨i, rfl, hi, hall, hbr⟩ := hrel
    have HALL := Lib.hid hall
    have BR := Lib.hid hbr
    by_cases hik : i < k
    · have hkI : (i : Int) < (k : Int) := by omega
      by_cases hin : i < n
      · have hiI : (i : Int) < (n : Int) := by omega
        obtain ⟨⟨xa, xs⟩, hx⟩ : ∃ x, l[i]? = some x := ⟨_, List.getElem?_eq_getElem (by rw [HN.out]; exact hin)⟩
        have HX := Lib.hid hx
        obtain ⟨b, o, hbo, hlt, hcs⟩ := (HR.out.below hbr).at hx
        subst hbo
        have x0 : wr.cell? ⟨b, o + i * 2, none⟩ = some (.int .i64 (xa : Int)) := hcs 0 _ rfl
        have x1 : wr.cell? ⟨b, o + i * 2 + 1, none⟩ = some (.string (str xs)) := hcs 1 _ rfl
        clear hall hbr hcs hx
        by_cases hxa : xa = a
        · subst hxa
          obtain ⟨q, hq⟩ : ∃ q, (xs != SecP.blank) = q := ⟨_, rfl⟩
          have HQ := Lib.hid hq
          have HNE := Lib.hid (show (!(str xs).toList == (str SecP.blank).toList) = q by rw [str_toList, str_toList, ← hq]; rfl)
          clear hq
          go_wp2_with fail
          refine wp_region_noPanic ?_
          refine wp_region_held_drew (S := fun W => Below wr.heap.size wr W) (by kernel_rfl) ((Below.refl _ wr).drew) (fun hHeld => ?_)
          refine wpAnyH_take (i := 0) (oi := ⟨some 19, _, _, _, _, _⟩) (v := .slice (some ⟨b, o, none⟩) n c) rfl (by kernel_rfl) (by kernel_rfl) (by kernel_rfl) (fun _ _ _ h => h) (Or.inl ⟨by rfl, fun W hSW => by go_simp⟩) hHeld ?_
          simp only [Act.put, List.setIfInBounds_toArray, List.set_cons_zero, List.set_cons_succ]
          refine wpAnyH_take (i := 1) (oi := ⟨some 20, _, _, _, _, _⟩) (v := .int .i64 (i : Int)) rfl (by kernel_rfl) (by kernel_rfl) (by kernel_rfl) (fun _ _ _ h => h) (Or.inl ⟨by rfl, fun W hSW => by go_simp⟩) hHeld ?_
          simp only [Act.put, List.setIfInBounds_toArray, List.set_cons_zero, List.set_cons_succ]
          refine wpAnyH_take (i := 2) (oi := ⟨some 21, _, _, _, _, _⟩) (v := .pointer (some ⟨b, o + i * 2, none⟩)) rfl (by kernel_rfl) (by kernel_rfl) (by kernel_rfl) (fun _ _ _ h => h) (Or.inl ⟨by rfl, fun W hSW => by go_simp⟩) hHeld ?_
          simp only [Act.put, List.setIfInBounds_toArray, List.set_cons_zero, List.set_cons_succ]
          refine wpAnyH_take (i := 3) (oi := ⟨some 22, _, _, _, _, _⟩) (v := .pointer (some ⟨b, o + i * 2, none⟩)) rfl (by kernel_rfl) (by kernel_rfl) (by kernel_rfl) (fun _ _ _ h => h) (Or.inl ⟨by rfl, fun W hSW => by go_simp⟩) hHeld ?_
          simp only [Act.put, List.setIfInBounds_toArray, List.set_cons_zero, List.set_cons_succ]
          refine wpAnyH_take (i := 4) (oi := ⟨some 23, _, _, _, _, _⟩) (v := .int .i64 (xa : Int)) rfl (by kernel_rfl) (by kernel_rfl) (by kernel_rfl) (fun _ _ _ h => h) (Or.inl ⟨by rfl, fun W hSW => by have a0 := (hSW.cell (p := ⟨b, o + i * 2, none⟩) hlt).trans x0; go_simp⟩) hHeld ?_
          simp only [Act.put, List.setIfInBounds_toArray, List.set_cons_zero, List.set_cons_succ]
          refine wpAnyH_take (i := 5) (oi := ⟨some 24, _, _, _, _, _⟩) (v := .int .i64 (xa : Int)) rfl (by kernel_rfl) (by kernel_rfl) (by kernel_rfl) (fun _ _ _ h => h) (Or.inl ⟨by rfl, fun W hSW => by go_simp⟩) hHeld ?_
          simp only [Act.put, List.setIfInBounds_toArray, List.set_cons_zero, List.set_cons_succ]
          refine wpAnyH_take (i := 6) (oi := ⟨some 25, _, _, _, _, _⟩) (v := .bool true) rfl (by kernel_rfl) (by kernel_rfl) (by kernel_rfl) (fun _ _ _ h => h) (Or.inl ⟨by rfl, fun W hSW => by go_simp⟩) hHeld ?_
          simp only [Act.put, List.setIfInBounds_toArray, List.set_cons_zero, List.set_cons_succ]
          refine wpAnyH_take (i := 7) (oi := ⟨some 26, _, _, _, _, _⟩) (v := .bool true) rfl (by kernel_rfl) (by kernel_rfl) (by kernel_rfl) (fun _ _ _ h => h) (Or.inl ⟨by rfl, fun W hSW => by go_simp⟩) hHeld ?_
          simp only [Act.put, List.setIfInBounds_toArray, List.set_cons_zero, List.set_cons_succ]
          refine wpAnyH_take (i := 8) (oi := ⟨some 27, _, _, _, _, _⟩) (v := .slice (some ⟨b, o, none⟩) n c) rfl (by kernel_rfl) (by kernel_rfl) (by kernel_rfl) (fun _ _ _ h => h) (Or.inl ⟨by rfl, fun W hSW => by go_simp⟩) hHeld ?_
          simp only [Act.put, List.setIfInBounds_toArray, List.set_cons_zero, List.set_cons_succ]
          refine wpAnyH_take (i := 9) (oi := ⟨some 28, _, _, _, _, _⟩) (v := .int .i64 (i : Int)) rfl (by kernel_rfl) (by kernel_rfl) (by kernel_rfl) (fun _ _ _ h => h) (Or.inl ⟨by rfl, fun W hSW => by go_simp⟩) hHeld ?_
          simp only [Act.put, List.setIfInBounds_toArray, List.set_cons_zero, List.set_cons_succ]
          refine wpAnyH_take (i := 10) (oi := ⟨some 29, _, _, _, _, _⟩) (v := .pointer (some ⟨b, o + i * 2, none⟩)) rfl (by kernel_rfl) (by kernel_rfl) (by kernel_rfl) (fun _ _ _ h => h) (Or.inl ⟨by rfl, fun W hSW => by go_simp⟩) hHeld ?_
          simp only [Act.put, List.setIfInBounds_toArray, List.set_cons_zero, List.set_cons_succ]
          refine wpAnyH_take (i := 11) (oi := ⟨some 30, _, _, _, _, _⟩) (v := .pointer (some ⟨b, o + i * 2 + 1, none⟩)) rfl (by kernel_rfl) (by kernel_rfl) (by kernel_rfl) (fun _ _ _ h => h) (Or.inl ⟨by rfl, fun W hSW => by go_simp⟩) hHeld ?_
          simp only [Act.put, List.setIfInBounds_toArray, List.set_cons_zero, List.set_cons_succ]
          refine wpAnyH_take (i := 12) (oi := ⟨some 31, _, _, _, _, _⟩) (v := .string (str xs)) rfl (by kernel_rfl) (by kernel_rfl) (by kernel_rfl) (fun _ _ _ h => h) (Or.inl ⟨by rfl, fun W hSW => by have a0 := (hSW.cell (p := ⟨b, o + i * 2 + 1, none⟩) hlt).trans x1; go_simp⟩) hHeld ?_
          simp only [Act.put, List.setIfInBounds_toArray, List.set_cons_zero, List.set_cons_succ]
          refine wpAnyH_ready (rs := [13]) (by kernel_rfl) (by simp) ?_
          refine AllReadyH.cons (o := ⟨some 32, _, _, _, _, _⟩) rfl (fun K hK => ?_) AllReadyH.nil
          go_simp
          refine (zeros_c (k := 512) rfl (by omega)).mono ?_
          rintro e w5 ⟨rfl, hb5⟩
          rw [show List.replicate 512 (0 : UInt8) = SecP.blank from rfl]
          have B5 := Lib.hid (show Below wr.heap.size wr w5 from ((Below.refl _ wr).drew).trans hb5)
          go_wp2_with fail
          refine hK.out _ _ B5.out (fun hHeld => ?_)
          clear hK K hb5
          refine wpAnyH_take (i := 14) (oi := ⟨some 33, _, _, _, _, _⟩) (v := .bool q) rfl (by kernel_rfl) (by kernel_rfl) (by kernel_rfl) (fun _ _ _ h => h) (Or.inl ⟨by rfl, fun W hSW => by have e0 := HNE.out; go_simp⟩) hHeld ?_
          simp only [Act.put, List.setIfInBounds_toArray, List.set_cons_zero, List.set_cons_succ]
          refine wpAnyH_take (i := 15) (oi := ⟨some 34, _, _, _, _, _⟩) (v := .bool q) rfl (by kernel_rfl) (by kernel_rfl) (by kernel_rfl) (fun _ _ _ h => h) (Or.inl ⟨by rfl, fun W hSW => by go_simp⟩) hHeld ?_
          simp only [Act.put, List.setIfInBounds_toArray, List.set_cons_zero, List.set_cons_succ]
          refine wpAnyH_done (by kernel_rfl) ?_ _
          refine NoPanic.normal ?_
          have B9 := Lib.hid (below_t BR.out hHeld)
          clear hHeld
          cases q with
          | true =>
            have HC := Lib.hid (com_yes HX.out hik rfl (by simpa using HQ.out))
            go_wp2_with fail
            go_ret
            exact ⟨by rw [← HRR.out, HC.out]; rfl, B9.out⟩
          | false =>
            go_wp2_with fail
            go_roundw
            case rel =>
              refine ⟨i + 1, by first | rfl | (congr 1; omega), by omega, fun j hj x hx => ?_, B9.out⟩
              by_cases hji : j < i
              · exact HALL.out j hji x hx
              · obtain rfl : j = i := by omega
                rw [HX.out] at hx
                injection hx with hx
                rw [← hx]
                simp [HQ.out]
            case measure => first | (simp [RowKit.intOf]; done) | (simp [RowKit.intOf]; omega)
        · have hxI : ¬ (xa : Int) = (a : Int) := by omega
          have HXA := Lib.hid hxa
          clear hxa
          go_wp2_with fail
          refine wp_region_noPanic ?_
          refine wp_region_held_drew (S := fun W => Below wr.heap.size wr W) (by kernel_rfl) ((Below.refl _ wr).drew) (fun hHeld => ?_)
          refine wpAnyH_take (i := 0) (oi := ⟨some 19, _, _, _, _, _⟩) (v := .slice (some ⟨b, o, none⟩) n c) rfl (by kernel_rfl) (by kernel_rfl) (by kernel_rfl) (fun _ _ _ h => h) (Or.inl ⟨by rfl, fun W hSW => by go_simp⟩) hHeld ?_
          simp only [Act.put, List.setIfInBounds_toArray, List.set_cons_zero, List.set_cons_succ]
          refine wpAnyH_take (i := 1) (oi := ⟨some 20, _, _, _, _, _⟩) (v := .int .i64 (i : Int)) rfl (by kernel_rfl) (by kernel_rfl) (by kernel_rfl) (fun _ _ _ h => h) (Or.inl ⟨by rfl, fun W hSW => by go_simp⟩) hHeld ?_
          simp only [Act.put, List.setIfInBounds_toArray, List.set_cons_zero, List.set_cons_succ]
          refine wpAnyH_take (i := 2) (oi := ⟨some 21, _, _, _, _, _⟩) (v := .pointer (some ⟨b, o + i * 2, none⟩)) rfl (by kernel_rfl) (by kernel_rfl) (by kernel_rfl) (fun _ _ _ h => h) (Or.inl ⟨by rfl, fun W hSW => by go_simp⟩) hHeld ?_
          simp only [Act.put, List.setIfInBounds_toArray, List.set_cons_zero, List.set_cons_succ]
          refine wpAnyH_take (i := 3) (oi := ⟨some 22, _, _, _, _, _⟩) (v := .pointer (some ⟨b, o + i * 2, none⟩)) rfl (by kernel_rfl) (by kernel_rfl) (by kernel_rfl) (fun _ _ _ h => h) (Or.inl ⟨by rfl, fun W hSW => by go_simp⟩) hHeld ?_
          simp only [Act.put, List.setIfInBounds_toArray, List.set_cons_zero, List.set_cons_succ]
          refine wpAnyH_take (i := 4) (oi := ⟨some 23, _, _, _, _, _⟩) (v := .int .i64 (xa : Int)) rfl (by kernel_rfl) (by kernel_rfl) (by kernel_rfl) (fun _ _ _ h => h) (Or.inl ⟨by rfl, fun W hSW => by have a0 := (hSW.cell (p := ⟨b, o + i * 2, none⟩) hlt).trans x0; go_simp⟩) hHeld ?_
          simp only [Act.put, List.setIfInBounds_toArray, List.set_cons_zero, List.set_cons_succ]
          refine wpAnyH_take (i := 5) (oi := ⟨some 24, _, _, _, _, _⟩) (v := .int .i64 (a : Int)) rfl (by kernel_rfl) (by kernel_rfl) (by kernel_rfl) (fun _ _ _ h => h) (Or.inl ⟨by rfl, fun W hSW => by go_simp⟩) hHeld ?_
          simp only [Act.put, List.setIfInBounds_toArray, List.set_cons_zero, List.set_cons_succ]
          refine wpAnyH_take (i := 6) (oi := ⟨some 25, _, _, _, _, _⟩) (v := .bool false) rfl (by kernel_rfl) (by kernel_rfl) (by kernel_rfl) (fun _ _ _ h => h) (Or.inl ⟨by rfl, fun W hSW => by go_simp⟩) hHeld ?_
          simp only [Act.put, List.setIfInBounds_toArray, List.set_cons_zero, List.set_cons_succ]
          refine wpAnyH_take (i := 7) (oi := ⟨some 26, _, _, _, _, _⟩) (v := .bool false) rfl (by kernel_rfl) (by kernel_rfl) (by kernel_rfl) (fun _ _ _ h => h) (Or.inl ⟨by rfl, fun W hSW => by go_simp⟩) hHeld ?_
          simp only [Act.put, List.setIfInBounds_toArray, List.set_cons_zero, List.set_cons_succ]
          refine wpAnyH_take (i := 8) (oi := ⟨some 27, _, _, _, _, _⟩) (v := undef) rfl (by kernel_rfl) (by kernel_rfl) (by kernel_rfl) (fun _ _ _ h => h) (Or.inr ⟨by kernel_rfl, rfl⟩) hHeld ?_
          simp only [Act.put, List.setIfInBounds_toArray, List.set_cons_zero, List.set_cons_succ]
          refine wpAnyH_take (i := 9) (oi := ⟨some 28, _, _, _, _, _⟩) (v := undef) rfl (by kernel_rfl) (by kernel_rfl) (by kernel_rfl) (fun _ _ _ h => h) (Or.inr ⟨by kernel_rfl, rfl⟩) hHeld ?_
          simp only [Act.put, List.setIfInBounds_toArray, List.set_cons_zero, List.set_cons_succ]
          refine wpAnyH_take (i := 10) (oi := ⟨some 29, _, _, _, _, _⟩) (v := undef) rfl (by kernel_rfl) (by kernel_rfl) (by kernel_rfl) (fun _ _ _ h => h) (Or.inr ⟨by kernel_rfl, rfl⟩) hHeld ?_
          simp only [Act.put, List.setIfInBounds_toArray, List.set_cons_zero, List.set_cons_succ]
          refine wpAnyH_take (i := 11) (oi := ⟨some 30, _, _, _, _, _⟩) (v := undef) rfl (by kernel_rfl) (by kernel_rfl) (by kernel_rfl) (fun _ _ _ h => h) (Or.inr ⟨by kernel_rfl, rfl⟩) hHeld ?_
          simp only [Act.put, List.setIfInBounds_toArray, List.set_cons_zero, List.set_cons_succ]
          refine wpAnyH_take (i := 12) (oi := ⟨some 31, _, _, _, _, _⟩) (v := undef) rfl (by kernel_rfl) (by kernel_rfl) (by kernel_rfl) (fun _ _ _ h => h) (Or.inr ⟨by kernel_rfl, rfl⟩) hHeld ?_
          simp only [Act.put, List.setIfInBounds_toArray, List.set_cons_zero, List.set_cons_succ]
          refine wpAnyH_take (i := 13) (oi := ⟨some 32, _, _, _, _, _⟩) (v := undef) rfl (by kernel_rfl) (by kernel_rfl) (by kernel_rfl) (fun _ _ _ h => h) (Or.inr ⟨by kernel_rfl, rfl⟩) hHeld ?_
          simp only [Act.put, List.setIfInBounds_toArray, List.set_cons_zero, List.set_cons_succ]
          refine wpAnyH_take (i := 14) (oi := ⟨some 33, _, _, _, _, _⟩) (v := undef) rfl (by kernel_rfl) (by kernel_rfl) (by kernel_rfl) (fun _ _ _ h => h) (Or.inr ⟨by kernel_rfl, rfl⟩) hHeld ?_
          simp only [Act.put, List.setIfInBounds_toArray, List.set_cons_zero, List.set_cons_succ]
          refine wpAnyH_take (i := 15) (oi := ⟨some 34, _, _, _, _, _⟩) (v := .bool false) rfl (by kernel_rfl) (by kernel_rfl) (by kernel_rfl) (fun _ _ _ h => h) (Or.inl ⟨by rfl, fun W hSW => by go_simp⟩) hHeld ?_
          simp only [Act.put, List.setIfInBounds_toArray, List.set_cons_zero, List.set_cons_succ]
          refine wpAnyH_done (by kernel_rfl) ?_ _
          refine NoPanic.normal ?_
          have B9 := Lib.hid (below_t BR.out hHeld)
          clear hHeld
          go_wp2_with fail
          go_roundw
          case rel =>
            refine ⟨i + 1, by first | rfl | (congr 1; omega), by omega, fun j hj x hx => ?_, B9.out⟩
            by_cases hji : j < i
            · exact HALL.out j hji x hx
            · obtain rfl : j = i := by omega
              rw [HX.out] at hx
              injection hx with hx
              rw [← hx]
              simp [HXA.out]
          case measure => first | (simp [RowKit.intOf]; done) | (simp [RowKit.intOf]; omega)
      · have hiI : ¬ (i : Int) < (n : Int) := by omega
        have HC := Lib.hid (com_no (l := l) (a := a) (k := k) (fun j hj x hx => HALL.out j (by have := (List.getElem?_eq_some_iff.1 hx).1; rw [HN.out] at this; omega) x hx))
        clear hall hbr
        go_wp2_with fail
        go_ret
        exact ⟨by rw [← HRR.out, HC.out]; rfl, BR.out⟩
    · have hkI : ¬ (i : Int) < (k : Int) := by omega
      have HC := Lib.hid (com_no (l := l) (a := a) (k := k) (fun j hj x hx => HALL.out j (by omega) x hx))
      clear hall hbr
      go_wp2_with fail
      go_ret
      exact ⟨by rw [← HRR.out, HC.out]; rfl, BR.out⟩
end
end JouW
end Go.Proofs.YtknckaegpdganaaDoor


/-
  Whole or not at all, over many cuts: what a disk is ahead of each cut, and behind the last recovery.
-/
namespace Go.Proofs.YtknckaegpdganaaDoor
-- mine: whole_c same_c awake_c take_c step_c back_c
open Go.RowKit
set_option linter.unusedVariables false
set_option linter.unusedSimpArgs false
set_option maxRecDepth 100000
namespace JouW
open BlkP RowG FrS PushG JournalP SecP SecW JouP CrcW
theorem i64_and65535 (n : Int) : bits .and .i64 n 65535 = n % 65536 := by
  have h1 : (BitVec.ofInt 64 65535).toNat = 2 ^ 16 - 1 := by decide
  have key : (BitVec.ofInt 64 n &&& BitVec.ofInt 64 65535).toNat = (n % ((2 ^ 64 : Nat) : Int)).toNat % 2 ^ 16 := by
    rw [BitVec.toNat_and, BitVec.toNat_ofInt, h1, Nat.and_two_pow_sub_one_eq_mod]
  show IntKind.i64.wrap ((BitVec.ofInt 64 n &&& BitVec.ofInt 64 65535).toNat : Nat) = n % 65536
  rw [key, IntKind.wrap_i64]
  omega
section
variable {n m a : Nat} (hn : n ≤ 131072) (hm : m ≤ 60)
/-- What is known of a disk ahead of cut i. -/
structure CutP (f : Nat → Sec) (g : Grp) (i : Nat) (c : Bool) (dx : Dk) : Prop where
  n : dx.n = n
  len : dx.ws.length ≤ 200
  done : Done (a := a) hn hm c f (pads g) dx.now
  cut : ∀ k, k ≤ dx.ws.length → Inv (a := a) hn hm (if i = 0 then comB dx.ws a k else c) f (pads g) (app dx.base (dx.ws.take k))
/-- A disk that was cut, marked, recovered. -/
noncomputable def nextD (n a m : Nat) (dx : Dk) (k : Nat) : Dk := (dx.cut k).mark.adds (recWs a (standJ n a m (dx.cut k).mark.now))
theorem mark_now (dx : Dk) (k : Nat) : (dx.cut k).mark.now = app dx.base (dx.ws.take k) := rfl
theorem recWs_len {f : Nat → Sec} : (recWs a (standJ n a m f)).length ≤ m + 1 := by
  unfold recWs
  split
  · simp
  · rename_i hne
    have hs := (standJ_stands hne).le
    have h4 : (pads (standJ n a m f)).length = (standJ n a m f).length := List.length_map ..
    simp only [homes, List.length_append, h4, List.length_cons, List.length_nil]
    omega
theorem CutP.next {f : Nat → Sec} {g : Grp} {i k : Nat} {c c' : Bool} {dx : Dk} (h : CutP (a := a) hn hm f g i c dx) (hok : Ok dx) (hk : k ≤ dx.ws.length) (hc : (if i = 0 then comB dx.ws a k else c) = c') : CutP (a := a) hn hm f g (i + 1) c' (nextD n a m dx k) := by
  have hi := h.cut k hk
  rw [hc, ← mark_now] at hi
  have hf : ∀ i, ((dx.cut k).mark.now i).length = 512 := (hok.cut k).mark.now
  refine ⟨h.n, ?_, ?_, fun k2 hk2 => ?_⟩
  · unfold nextD
    rw [adds_len]
    have := recWs_len (n := n) (a := a) (m := m) (f := (dx.cut k).mark.now)
    have : (dx.cut k).mark.ws.length = 0 := rfl
    omega
  · unfold nextD
    rw [adds_now]
    exact inv_done hn hm hf hi
  · rw [if_neg (by omega)]
    have e : app (nextD n a m dx k).base ((nextD n a m dx k).ws.take k2) = app (dx.cut k).mark.now ((recWs a (standJ n a m (dx.cut k).mark.now)).take k2) := rfl
    rw [e]
    exact inv_cut hn hm hf hi k2
theorem old_new {f : Nat → Sec} (h : standJ n a m f = []) : Done (a := a) hn hm true f (pads []) f := ⟨h, fun i _ => rfl⟩
theorem CutP.first {d : Dk} {g : Grp} (hd : d.n = n) (hws : d.ws = []) (hok : Ok d) (hF : Fits n a m g) (h0 : standJ n a m d.now = []) : CutP (a := a) hn hm d.now g 0 true (d.adds (putWs a d.now g)) := by
  have hb : d.base = d.now := by
    unfold Dk.now
    rw [hws]
    rfl
  have hw : (d.adds (putWs a d.now g)).ws = putWs a d.now g := by
    show d.ws ++ _ = _
    rw [hws, List.nil_append]
  have hl : (putWs a d.now g).length ≤ 200 := by
    unfold putWs
    split
    · simp
    · have h1 : (preJ a d.now).length ≤ 1 := by
        unfold preJ
        split <;> simp
      have h2 : (pads g).length = g.length := List.length_map ..
      have h3 := hF.le
      simp only [List.length_append, List.length_cons, List.length_nil, bods_len, homes, h2]
      omega
  by_cases hg : g = []
  · subst hg
    refine ⟨hd, by rw [hw]; exact hl, ?_, fun k hk => ?_⟩
    · rw [adds_now]
      exact old_new hn hm h0
    · rw [if_pos rfl, hw]
      show Inv hn hm (comB [] a k) _ _ (app d.base ([].take k))
      rw [List.take_nil, hb]
      have : comB [] a k = false := by simp [comB]
      rw [this]
      exact ⟨h0, fun i _ => rfl⟩
  · refine ⟨hd, by rw [hw]; exact hl, ?_, fun k hk => ?_⟩
    · rw [adds_now]
      exact put_done hn hm hg hF h0
    · rw [if_pos rfl, hw]
      show Inv hn hm _ _ _ (app d.base ((putWs a d.now g).take k))
      rw [hb]
      exact put_inv hn hm hg hF h0 k
theorem CutP.none {f : Nat → Sec} {g : Grp} {i : Nat} {c : Bool} {dx : Dk} (h : CutP (a := a) hn hm f g i c dx) : standJ n a m dx.now = [] := done_none hn hm h.done
theorem CutP.home {f : Nat → Sec} {g : Grp} {i : Nat} {c : Bool} {dx : Dk} (h : CutP (a := a) hn hm f g i c dx) {j : Nat} (hj : ¬ (a ≤ j ∧ j ≤ a + m)) : dx.now j = app f (if c then pads g else []) j := done_home hn hm h.done hj
end
theorem rec_same {d : Dk} {a m : Nat} (h : openE d.n a m = 0) (hb : recB d a m = false) : standJ d.n a m d.now = [] ∧ recD d a m = d := by
  have hg := rec_good h
  have hs : standJ d.n a m d.now = [] := by
    rw [hg.2] at hb
    cases hq : standJ d.n a m d.now with
    | nil => rfl
    | cons x r =>
      rw [hq] at hb
      cases hb
  refine ⟨hs, ?_⟩
  rw [hg.1, hs]
  exact adds_nil d
theorem rec_next {dx : Dk} {n a m k : Nat} (hd : dx.n = n) (h : openE n a m = 0) : recD (dx.cut k).mark a m = nextD n a m dx k := by
  have : (dx.cut k).mark.n = n := hd
  rw [(rec_good (by rw [this]; exact h)).1, this]
  rfl
/-- The law's first loop. -/
def CutRel (n m a N : Nat) (hn : n ≤ 131072) (hm : m ≤ 60) (f : Nat → Sec) (g : Grp) (w : World) (W3 : Nat) (vw : Value) (ls : List Sec) (v18 v19 v20 : Value) (wr : World) : Prop :=
  ∃ (i px : Nat) (c : Bool) (dx : Dk) (Sx : Nat → Prop), v20 = .int .i64 (i : Int) ∧ v18 = .pointer (some ⟨px, 0, none⟩) ∧ v19 = .bool c ∧ i ≤ N ∧ CutP (a := a) hn hm f g i c dx ∧ Dsk wr w.heap.size px dx Sx ∧ (∀ k, vw.ownBlock = some k → ¬ Sx k) ∧ RowG.Own encS TS wr W3 vw ls ∧ Below w.heap.size w wr
/-- The second. -/
def WantRel (n N : Nat) (c : Bool) (f : Nat → Sec) (g : Grp) (wA : World) (vr : Value) (v27 : Value) (wr : World) : Prop :=
  ∃ j : Nat, v27 = .int .i64 (j : Int) ∧ j ≤ N ∧ (c = false → j = 0) ∧ RowG.Own encS TS wr wA.heap.size vr (sects n (app f (pads (g.take j)))) ∧ Below wA.heap.size wA wr
end JouW
end Go.Proofs.YtknckaegpdganaaDoor


/-
  Slices of numbers that came in.
-/
-- mine: whole_c same_c awake_c take_c step_c back_c
namespace Go.Proofs.YtknckaegpdganaaDoor
open Go.ChangeShapes Go.WideShapes Go.ChangeAt Go.RowKit Go.Deep
set_option linter.unusedVariables false
set_option linter.unusedSimpArgs false
namespace JouW
open BlkP RowG SecP SecW
section
variable {H : Type} {encH : TypeId × Value → H} {W : World}
/-- A{j}, x{j} (the list), c{j} (its capacity). -/
theorem open_ints {v : Value} {d : DataW H} {p : List MemPlace} (hone : v.cells.toList = [v]) (h : DataW.Trod encH Tryd.prog W 0 (fun _ => true) true 49 v d p) :
    ∃ (A : Option Addr) (xs : List Int) (c : Nat), v = .slice A xs.length c ∧ xs.length ≤ c ∧ Rd RowG.encI W (.slice A xs.length c) xs := by
  obtain ⟨A, n, c, rfl, hnc, hcm, hnil, hel⟩ := OpenQ.slice_at (C := 1) Tryd.underlying49 (by kernel_rfl) hone h
  have hm : maxLen = 9223372036854775807 := rfl
  rcases A with _ | a
  · have := hnil rfl
    subst this
    exact ⟨none, [], c, rfl, by simp, ⟨none, c, rfl, by simp, by omega, fun h => absurd rfl h⟩⟩
  · have each : ∀ i, i < n → ∃ x : Int, W.cell? (a.add (i * 1)) = some (.int .i64 x) := fun i hi => by
      obtain ⟨cs, k, y, hl, hc, ht⟩ := hel a rfl i hi
      match cs, hl with
      | [c0], _ =>
        obtain ⟨x, rfl⟩ := int_elem Tryd.underlying3 ht
        exact ⟨x, hc 0 (by omega)⟩
    obtain ⟨xs, hl, hxs⟩ := OpenQ.listed n each
    subst hl
    refine ⟨some a, xs, c, rfl, hnc, ⟨some a, c, rfl, hnc, by omega, fun hne => ?_⟩⟩
    have h0 : 0 < xs.length := List.length_pos_iff.2 hne
    obtain ⟨b, o, rfl, hb⟩ := OpenQ.plain (by simpa using (hxs 0 _ (List.getElem?_eq_getElem h0)))
    have hadd : ∀ k, (⟨b, o, none⟩ : Addr).add k = ⟨b, o + k, none⟩ := fun k => by unfold Addr.add; split <;> simp_all
    refine ⟨b, o, rfl, hb, fun i x hi j u hu => ?_⟩
    have g0 := hxs i _ hi
    rw [hadd] at g0
    match j, hu with
    | 0, hu =>
      have : .int .i64 x = u := by simpa [RowG.encI] using hu
      subst this
      exact g0
end
end JouW
end Go.Proofs.YtknckaegpdganaaDoor
