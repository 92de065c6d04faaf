/-
  leading: how many stand at a row's beginning of which a function holds: of yields, of movable.
-/
import Derived.Test.YtlcnhommlcdilaaDoorFallMem
namespace Go.Proofs.YtlcnhommlcdilaaDoor
open Go.RowKit
set_option linter.unusedVariables false
set_option linter.unusedSimpArgs false
namespace FallW
open BlkP RowG FrS PushG CellsW NearW
open FallP hiding Cl
set_option maxRecDepth 100000 in
set_option maxHeartbeats 8000000 in
theorem lead_yields_c {w : World} {A : Option Addr} {n c m : Nat} {l : List Cl} (hT : KindW.Tab w) (hR : Rd encK w (.slice A n c) l) (hn : l.length = n) (hb : n ≤ 140737488355328) (hm : lead yields l = m) :
    Calls Tryd.prog 29 #[.slice A n c, .func (.func 27) #[] #[]] w fun e w' => e = .returned (.int .i64 (m : Int)) ∧ Below w.heap.size w w' := by
  have HT := Lib.hid hT
  have HR := Lib.hid hR
  have HN := Lib.hid hn
  have HM := Lib.hid hm
  clear hT hR hn hm
  have hbI : (n : Int) ≤ 140737488355328 := by omega
  go_enter Tryd.func29, Tryd.ntmps29
  go_wp2_with fail
  go_loopw [4, 5, 6, 9] (fun v4 _ _ v9 wr => ∃ j : Nat, v9 = .int .i64 (j : Nat) ∧ j ≤ n ∧ (∀ i x, i < j → l[i]? = some x → yields x = true) ∧ Below w.heap.size w wr) (fun _ _ _ v _ => n - (intOf v).toNat)
  case atStart => exact ⟨0, rfl, by omega, fun i x hi _ => by omega, Below.refl _ _⟩
  case round =>
    obtain ⟨j, rfl, hj, hall, hbr⟩ := hrel
    have HALL := Lib.hid hall
    have HBR := Lib.hid hbr
    have hzr := hbr.size
    by_cases hjl : j < n
    · have hjI : (j : Int) < (n : Int) := by omega
      have HWR := Lib.hid (show wrap64 ((j : Int) + 1) = ((j + 1 : Nat) : Int) by rw [wr64 (by omega) (by omega)]; omega)
      obtain ⟨⟨k, v⟩, hx⟩ : ∃ x, l[j]? = some x := ⟨_, List.getElem?_eq_getElem (by rw [HN.out]; exact hjl)⟩
      have HX := Lib.hid hx
      obtain ⟨b, o, hA, hlt, hc⟩ := (HR.out.below hbr).at hx
      subst hA
      have x0 : wr.cell? ⟨b, o + j * 2, none⟩ = some (.int .u8 (k : Int)) := hc 0 _ rfl
      have x1 : wr.cell? ⟨b, o + j * 2 + 1, none⟩ = some (.int .u8 (v : Int)) := hc 1 _ rfl
      obtain ⟨q, hq⟩ : ∃ q, yields (k, v) = q := ⟨_, rfl⟩
      have HQ := Lib.hid hq
      clear hc hx hall hbr hq
      go_wp2_with fail
      refine (yields_c (HT.out.below (by (repeat' (first | (with_reducible exact Below.refl _ _) | (with_reducible refine Below.setCell ?_ (by (first | omega | (simp; done) | (simp; omega))) _) | (with_reducible refine Below.alloc ?_ (by (first | omega | (simp; done) | (simp; omega))) _) | (with_reducible refine Below.drew ?_) | (with_reducible refine below_drewN ?_ _) | (with_reducible refine Below.trans ?_ (Below.mono HBR.out (by (first | omega | (simp; done) | (simp; omega))))))))) HQ.out).mono ?_
      rintro e w5 ⟨rfl, hb5⟩
      have HB5 := Lib.hid (show Below w.heap.size w w5 by (repeat' (first | (with_reducible exact Below.refl _ _) | (with_reducible refine Below.setCell ?_ (by (first | omega | (simp; done) | (simp; omega))) _) | (with_reducible refine Below.alloc ?_ (by (first | omega | (simp; done) | (simp; omega))) _) | (with_reducible refine Below.drew ?_) | (with_reducible refine below_drewN ?_ _) | (with_reducible refine Below.trans ?_ (Below.mono HBR.out (by (first | omega | (simp; done) | (simp; omega))))) | (with_reducible refine Below.trans ?_ (Below.mono hb5 (by (first | omega | (simp; done) | (simp; omega))))))))
      clear hb5 x0 x1
      cases q with
      | true =>
        go_wp2_with fail
        go_roundw
        case rel =>
          refine ⟨j + 1, by first | rfl | rw [HWR.out] | (congr 1; omega), by omega, fun i x hi hx => ?_, HB5.out⟩
          by_cases hij : i < j
          · exact HALL.out i x hij hx
          · obtain rfl : i = j := by omega
            obtain rfl : (k, v) = x := Option.some.inj (HX.out.symm.trans hx)
            exact HQ.out
        case measure =>
          simp only [intOf]
          omega
      | false =>
        have HJ := Lib.hid (show (m : Int) = (j : Int) from by
          rw [← HM.out, lead_is (p := yields) (n := j) (by rw [HN.out]; omega) HALL.out (fun x hx => by
            obtain rfl : (k, v) = x := Option.some.inj (HX.out.symm.trans hx)
            exact HQ.out)])
        go_wp2_with fail
        go_ret
        exact ⟨congrArg (fun x => Ending.returned (.int .i64 x)) HJ.out.symm, HB5.out⟩
    · have hje : j = n := by omega
      have hjI : ¬ (j : Int) < (n : Int) := by omega
      have HJ := Lib.hid (show (m : Int) = (n : Int) from by
        rw [← HM.out, lead_is (p := yields) (n := n) (by rw [HN.out]; omega) (by rw [← hje]; exact hall) (fun x hx => by
          have := (List.getElem?_eq_some_iff.1 hx).1
          have := HN.out
          omega)])
      clear hall hbr hje
      go_wp2_with fail
      go_ret
      exact ⟨congrArg (fun x => Ending.returned (.int .i64 x)) HJ.out.symm, HBR.out⟩
set_option maxRecDepth 100000 in
set_option maxHeartbeats 8000000 in
theorem lead_movable_c {w : World} {A : Option Addr} {n c m : Nat} {l : List Cl} (hT : KindW.Tab w) (hR : Rd encK w (.slice A n c) l) (hn : l.length = n) (hb : n ≤ 140737488355328) (hm : lead movable l = m) :
    Calls Tryd.prog 29 #[.slice A n c, .func (.func 30) #[] #[]] w fun e w' => e = .returned (.int .i64 (m : Int)) ∧ Below w.heap.size w w' := by
  have HT := Lib.hid hT
  have HR := Lib.hid hR
  have HN := Lib.hid hn
  have HM := Lib.hid hm
  clear hT hR hn hm
  have hbI : (n : Int) ≤ 140737488355328 := by omega
  go_enter Tryd.func29, Tryd.ntmps29
  go_wp2_with fail
  go_loopw [4, 5, 6, 9] (fun v4 _ _ v9 wr => ∃ j : Nat, v9 = .int .i64 (j : Nat) ∧ j ≤ n ∧ (∀ i x, i < j → l[i]? = some x → movable x = true) ∧ Below w.heap.size w wr) (fun _ _ _ v _ => n - (intOf v).toNat)
  case atStart => exact ⟨0, rfl, by omega, fun i x hi _ => by omega, Below.refl _ _⟩
  case round =>
    obtain ⟨j, rfl, hj, hall, hbr⟩ := hrel
    have HALL := Lib.hid hall
    have HBR := Lib.hid hbr
    have hzr := hbr.size
    by_cases hjl : j < n
    · have hjI : (j : Int) < (n : Int) := by omega
      have HWR := Lib.hid (show wrap64 ((j : Int) + 1) = ((j + 1 : Nat) : Int) by rw [wr64 (by omega) (by omega)]; omega)
      obtain ⟨⟨k, v⟩, hx⟩ : ∃ x, l[j]? = some x := ⟨_, List.getElem?_eq_getElem (by rw [HN.out]; exact hjl)⟩
      have HX := Lib.hid hx
      obtain ⟨b, o, hA, hlt, hc⟩ := (HR.out.below hbr).at hx
      subst hA
      have x0 : wr.cell? ⟨b, o + j * 2, none⟩ = some (.int .u8 (k : Int)) := hc 0 _ rfl
      have x1 : wr.cell? ⟨b, o + j * 2 + 1, none⟩ = some (.int .u8 (v : Int)) := hc 1 _ rfl
      obtain ⟨q, hq⟩ : ∃ q, movable (k, v) = q := ⟨_, rfl⟩
      have HQ := Lib.hid hq
      clear hc hx hall hbr hq
      go_wp2_with fail
      refine (movable_c (HT.out.below (by (repeat' (first | (with_reducible exact Below.refl _ _) | (with_reducible refine Below.setCell ?_ (by (first | omega | (simp; done) | (simp; omega))) _) | (with_reducible refine Below.alloc ?_ (by (first | omega | (simp; done) | (simp; omega))) _) | (with_reducible refine Below.drew ?_) | (with_reducible refine below_drewN ?_ _) | (with_reducible refine Below.trans ?_ (Below.mono HBR.out (by (first | omega | (simp; done) | (simp; omega))))))))) HQ.out).mono ?_
      rintro e w5 ⟨rfl, hb5⟩
      have HB5 := Lib.hid (show Below w.heap.size w w5 by (repeat' (first | (with_reducible exact Below.refl _ _) | (with_reducible refine Below.setCell ?_ (by (first | omega | (simp; done) | (simp; omega))) _) | (with_reducible refine Below.alloc ?_ (by (first | omega | (simp; done) | (simp; omega))) _) | (with_reducible refine Below.drew ?_) | (with_reducible refine below_drewN ?_ _) | (with_reducible refine Below.trans ?_ (Below.mono HBR.out (by (first | omega | (simp; done) | (simp; omega))))) | (with_reducible refine Below.trans ?_ (Below.mono hb5 (by (first | omega | (simp; done) | (simp; omega))))))))
      clear hb5 x0 x1
      cases q with
      | true =>
        go_wp2_with fail
        go_roundw
        case rel =>
          refine ⟨j + 1, by first | rfl | rw [HWR.out] | (congr 1; omega), by omega, fun i x hi hx => ?_, HB5.out⟩
          by_cases hij : i < j
          · exact HALL.out i x hij hx
          · obtain rfl : i = j := by omega
            obtain rfl : (k, v) = x := Option.some.inj (HX.out.symm.trans hx)
            exact HQ.out
        case measure =>
          simp only [intOf]
          omega
      | false =>
        have HJ := Lib.hid (show (m : Int) = (j : Int) from by
          rw [← HM.out, lead_is (p := movable) (n := j) (by rw [HN.out]; omega) HALL.out (fun x hx => by
            obtain rfl : (k, v) = x := Option.some.inj (HX.out.symm.trans hx)
            exact HQ.out)])
        go_wp2_with fail
        go_ret
        exact ⟨congrArg (fun x => Ending.returned (.int .i64 x)) HJ.out.symm, HB5.out⟩
    · have hje : j = n := by omega
      have hjI : ¬ (j : Int) < (n : Int) := by omega
      have HJ := Lib.hid (show (m : Int) = (n : Int) from by
        rw [← HM.out, lead_is (p := movable) (n := n) (by rw [HN.out]; omega) (by rw [← hje]; exact hall) (fun x hx => by
          have := (List.getElem?_eq_some_iff.1 hx).1
          have := HN.out
          omega)])
      clear hall hbr hje
      go_wp2_with fail
      go_ret
      exact ⟨congrArg (fun x => Ending.returned (.int .i64 x)) HJ.out.symm, HBR.out⟩
end FallW
end Go.Proofs.YtlcnhommlcdilaaDoor
