/-
  The reference's Drop.
-/
import Derived.Test.YtiochoppiohjnaaDoorChunkRPlace
import Derived.Test.YtiochoppiohjnaaDoorChunkReady
namespace Go.Proofs.YtiochoppiohjnaaDoor
open Go.RowKit
set_option linter.unusedVariables false
set_option linter.unusedSimpArgs false
namespace ChunkW
open BytesW PackW SortW

theorem erase_next {ts : List Tick} {j m : Nat} {t : Tick} (h : ts[j]? = some t) : (ts.take (j + 1)).eraseIdx m = (ts.take j).eraseIdx m ++ (if j = m then [] else [t]) := by
  have hj := (List.getElem?_eq_some_iff.1 h).1
  have hl : (ts.take j).length = j := by simp; omega
  rw [List.take_add_one, h, Option.toList]
  by_cases hm : m < j
  · rw [List.eraseIdx_append_of_lt_length (by omega), if_neg (by omega)]
  · rw [List.eraseIdx_append_of_length_le (by omega), hl, List.eraseIdx_of_length_le (l := ts.take j) (by omega)]
    by_cases he : j = m
    · subst he
      simp
    · rw [if_neg he, List.eraseIdx_of_length_le (by simp; omega)]
def RDRel (w : World) (ts : List Tick) (m : Nat) (v i : Value) (wr : World) : Prop := ∃ j : Nat, i = .int .i64 j ∧ j ≤ ts.length ∧ OwnP tkv 63 wr w.heap.size v ((ts.take j).eraseIdx m) ∧ Below w.heap.size w wr
set_option maxRecDepth 100000 in
set_option maxHeartbeats 4000000 in
theorem rdrop_c {w : World} {A : Option Addr} {ts : List Tick} {n c : Nat} {x : Int} (hA : PairC tkv w A ts) (hn : n = ts.length) (hl : n ≤ 1000000) :
    Calls Tryd.prog 24 #[.slice A n c, .int .i64 x] w (GivesT w (dropT ts x)) := by
  obtain ⟨AT, hAT⟩ : ∃ AT, findI ts x = AT := ⟨_, rfl⟩
  obtain ⟨m, hm1, hm2⟩ : ∃ m : Nat, dropT ts x = ts.eraseIdx m ∧ ∀ j : Nat, j < n → ((j : Int) = AT ↔ j = m) := by
    rcases hq : findT ts x with _ | k
    · refine ⟨n, by rw [dropT, hq, List.eraseIdx_of_length_le (by omega)], fun j hj => ?_⟩
      rw [← hAT, findI, hq]
      simp only
      omega
    · refine ⟨k, by rw [dropT, hq, List.eraseIdx_eq_take_drop_succ]; simp [replT], fun j hj => ?_⟩
      rw [← hAT, findI, hq]
      simp only
      omega
  have HC := Lib.hid (rplace_c (c := c) hA hn hl hAT)
  have HP := Lib.hid hA
  have HN := Lib.hid hn
  have HM := Lib.hid hm2
  rw [hm1]
  clear hA hn hAT hm1 hm2
  go_enter Tryd.func24, Tryd.ntmps24
  go_wp2_with fail
  go_at_call 47
  refine (HC.out).mono ?_
  rintro e w1 ⟨rfl, hb1⟩
  have HB1 := Lib.hid hb1
  clear hb1
  go_wp2_with fail
  go_loopw [6, 7] (RDRel w ts m) (fun _ v _ => n - (intOf v).toNat)
  case atStart => exact ⟨0, rfl, by omega, OwnP.nil _ _ _, HB1.out⟩
  case round =>
    obtain ⟨j, rfl, hj, hown, hbw⟩ := hrel
    have HB := Lib.hid hbw
    have HO := Lib.hid hown
    have hz := hbw.size
    have hjn : j ≤ n := by have := HN.out; omega
    clear hbw hj hown
    by_cases hjl : j < n
    · have hjI : (j : Int) < n := by omega
      have hjI0 : (0 : Int) ≤ j := by omega
      obtain ⟨⟨a, d⟩, hx⟩ : ∃ x, ts[j]? = some x := ⟨_, List.getElem?_eq_getElem (by have := HN.out; omega)⟩
      have HX := Lib.hid hx
      obtain ⟨b, o, rfl, hbl, hcs⟩ := (HP.out.below HB.out).cells (fun e => by rw [e] at hx; simp at hx)
      obtain ⟨c0, c1⟩ := hcs _ _ hx
      simp only [tkv] at c0 c1
      have HLEN : Hid (((ts.take j).eraseIdx m).length ≤ 1000000) := Lib.hid (by
        have h1 := List.length_eraseIdx_le (ts.take j) m
        rw [List.length_take] at h1
        omega)
      have HNX := Lib.hid (erase_next (m := m) hx)
      clear hx hcs
      by_cases hd : j = m
      · have he : (j : Int) = AT := (HM.out j hjl).2 hd
        have HNX2 : Hid ((ts.take (j + 1)).eraseIdx m = (ts.take j).eraseIdx m) := Lib.hid (by rw [HNX.out, if_pos hd, List.append_nil])
        clear HM HC
        clear hd
        subst he
        go_wp2_with fail
        go_roundw
        case rel => exact ⟨j + 1, by go_num, by have := HN.out; omega, by rw [HNX2.out]; exact HO.out, by have HBo := HB.out; (repeat' (first | (with_reducible exact Below.refl _ _) | (with_reducible refine Below.setCell ?_ (by (first | omega | (simp; done) | (simp; omega))) _) | (with_reducible refine Below.alloc ?_ (by (first | omega | (simp; done) | (simp; omega))) _) | (with_reducible refine Below.drew ?_) | (with_reducible refine below_drewN ?_ _) | (with_reducible refine Below.trans ?_ (Below.mono HBo (by (first | omega | (simp; done) | (simp; omega)))))))⟩
        case measure => simp [intOf]; omega
      · have he : ¬ (j : Int) = AT := fun h => hd ((HM.out j hjl).1 h)
        have HNX2 : Hid ((ts.take (j + 1)).eraseIdx m = (ts.take j).eraseIdx m ++ [(a, d)]) := Lib.hid (by rw [HNX.out, if_neg hd])
        have e9 : ((j : Int) == AT) = false := by simpa using he
        have e8 : ((j : Int) != AT) = true := by simpa using he
        clear hd
        go_wp2_with ((with_reducible refine at_slot 26 ?_); refine wp_pushP rfl (.tmp 20) (.tmp 25) rfl underTicks infoTick rfl (by omega) one_tk wr _ _ rfl rfl HO.out (a, d) rfl rfl rfl (by have := HLEN.out; omega) hz ?_; intro v6 w6 hown6 hb6)
        go_roundw
        case rel => exact ⟨j + 1, by go_num, by have := HN.out; omega, by rw [HNX2.out]; exact hown6, HB.out.trans hb6⟩
        case measure => simp [intOf]; omega
    · have hjI : ¬ (j : Int) < n := by omega
      have HF : Hid ((ts.take j).eraseIdx m = ts.eraseIdx m) := Lib.hid (by rw [List.take_of_length_le (by have := HN.out; omega)])
      go_wp2_with fail
      go_ret
      exact ⟨_, rfl, by rw [← HF.out]; exact HO.out, HB.out⟩
end ChunkW
end Go.Proofs.YtiochoppiohjnaaDoor
