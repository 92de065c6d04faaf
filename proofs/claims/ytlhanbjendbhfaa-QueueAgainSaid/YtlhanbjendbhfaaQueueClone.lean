/-
  slices.Clone of ticks; List.
-/
import Derived.Test.YtlhanbjendbhfaaQueueSort
import Derived.Maps.AppendAt
namespace Go.Proofs.Ytlhanbjendbhfaa
open Go.RowKit
set_option linter.unusedVariables false
set_option linter.unusedSimpArgs false
namespace QueW
open BlkP RowG FrS PushG HeapP ChunkW

abbrev TSl : TypeId := 22
theorem underS : Try.prog.underlying TSl = some (.slice TT) := Try.underlying22
theorem flat_at : ∀ {l : List Tick} {j : Nat} {u : Value}, (flat encT l)[j]? = some u → ∃ i x k, l[i]? = some x ∧ (encT.f x)[k]? = some u ∧ j = i * 2 + k
  | [], j, u, h => by simp [flat] at h
  | x :: r, j, u, h => by
    have h2 : flat encT (x :: r) = encT.f x ++ flat encT r := rfl
    rw [h2] at h
    by_cases hj : j < 2
    · rw [List.getElem?_append_left (by rw [encT.len]; exact hj)] at h
      exact ⟨0, x, j, rfl, h, by omega⟩
    · rw [List.getElem?_append_right (by rw [encT.len]; show 2 ≤ j; omega), encT.len] at h
      obtain ⟨i, y, k, h3, h4, h5⟩ := flat_at (l := r) h
      exact ⟨i + 1, y, k, by simpa using h3, h4, by have : encT.k = 2 := rfl; omega⟩
theorem own_made {w : World} : RowG.Own encT TT (w.alloc (.cells #[] TT)) w.heap.size (.slice (some ⟨w.heap.size, 0, none⟩) 0 0) [] := World.ownsRow_made w #[] 0 (Nat.le_refl _) (Nat.zero_le _) rfl
theorem at_slot (t : Tmp) {P : Program} {w : World} {ops : Array Oper} {rest : List Oper} {a : Act} {Q : Exit → Act → World → Prop} {op : Op} {ty : TypeId} {pos : String} {af : _} {g : _} (h : wpList P ops Q ((⟨some t, op, ty, pos, af, g⟩ : Oper) :: rest) a w) : wpList P ops Q ((⟨some t, op, ty, pos, af, g⟩ : Oper) :: rest) a w := h
theorem list_named {P : Program} {ops : Array Oper} {rest : List Oper} {Q : Exit → Act → World → Prop} {a : Act} {W : World} (S : World → Prop) (h : S W) (k : ∀ W', S W' → wpList P ops Q rest a W') : wpList P ops Q rest a W := k W h
section
variable {w : World}
set_option maxRecDepth 100000 in
set_option maxHeartbeats 16000000 in
theorem cloneL_c {A : Option Addr} {n c : Nat} {l : List Tick} (hR : Rd encT w (.slice A n c) l) (hn : l.length = n) (hl : n ≤ 1000000) :
    Calls Try.prog 43 #[.slice A n c] w fun e w' => ∃ v', e = .returned v' ∧ RowG.Own encT TT w' w.heap.size v' l ∧ Below w.heap.size w w' := by
  have q26 : ∀ (w : World) (a : Option Addr) (n c n' c' : Nat), (binOp .eql TLs (.slice a n c) (.slice none n' c')).run Try.prog w = .ok (.bool a.isNone) w := fun w a n c n' c' => Lib.run_eql_slice_nil w _ _ a n c n' c' underT
  cases A with
  | none =>
    have hl0 : l = [] := by
      obtain ⟨A, c', e, _, _, hne⟩ := hR
      apply Classical.byContradiction
      intro q
      obtain ⟨b, o, hA, _⟩ := hne q
      injection e with e1
      rw [hA] at e1
      cases e1
    subst hl0
    obtain rfl : 0 = n := hn
    clear hR
    go_enter Try.func43, Try.ntmps43
    go_wp2_with fail
    go_ret
    exact ⟨_, rfl, Own.nil _ _ _ _, Below.refl _ _⟩
  | some a =>
    by_cases h0 : n = 0
    · subst h0
      have hl0 : l = [] := List.eq_nil_of_length_eq_zero hn
      subst hl0
      have q27 : ∀ (w' : World), (loadCellsFrom a 0 0 #[]).run Try.prog w' = .ok #[] w' := fun _ => rfl
      have q28 : ∀ (w' : World) (b : Addr), (storeCells b []).run Try.prog w' = .ok () w' := fun _ _ => rfl
      clear hR
      go_enter Try.func43, Try.ntmps43
      go_wp2_with fail
      go_ret
      exact ⟨_, rfl, own_made, by (repeat' (first | (with_reducible exact Below.refl _ _) | (with_reducible refine Below.setCell ?_ (by (first | omega | (simp; done) | (simp; omega))) _) | (with_reducible refine Below.alloc ?_ (by (first | omega | (simp; done) | (simp; omega))) _) | (with_reducible refine Below.drew ?_) | (with_reducible refine below_drewN ?_ _)))⟩
    have h0n : 0 < n := by omega
    obtain ⟨x, hx⟩ : ∃ x, l[0]? = some x := ⟨_, List.getElem?_eq_getElem (by omega)⟩
    obtain ⟨b, o, hbo, hlt, _⟩ := hR.at hx
    injection hbo with hbo
    subst hbo
    clear hx h0
    have HR := Lib.hid hR
    have HN := Lib.hid hn
    clear hR hn
    have hown : ∀ cs, cs = #[] → (w.alloc (.cells cs TT)).ownsRow w.heap.size TT 2 (.slice (some ⟨w.heap.size, 0, none⟩) 0 0) 0 [] := fun cs h => by
      subst h
      exact World.ownsRow_made w #[] 0 (Nat.le_refl _) (Nat.zero_le _) rfl
    have HO := Lib.hid hown
    obtain ⟨i, hi, hz, hs1, hby⟩ := info_parts infoT
    have HI := Lib.hid hi
    have HZ := Lib.hid hz
    have HS := Lib.hid hs1
    have HY := Lib.hid hby
    have HC : Hid (∀ j u, (flat encT l)[j]? = some u → (w.alloc (.cells #[] TT)).cell? ((⟨b, o, none⟩ : Addr).add j) = some u) := Lib.hid (fun j u hu => by
      obtain ⟨k, y, m, h1, h2, rfl⟩ := flat_at hu
      obtain ⟨b', o', e, hb', hcs⟩ := HR.out.at h1
      injection e with e
      injection e with e1 e2
      subst e1 e2
      have hadd : (⟨b, o, none⟩ : Addr).add (k * 2 + m) = ⟨b, o + k * 2 + m, none⟩ := by unfold Addr.add; split <;> simp_all <;> omega
      rw [hadd, World.cell?_alloc_lt _ _ _ hlt]
      exact hcs m u h2)
    have HF := Lib.hid (show (flat encT l).length = n * 2 by rw [flat_len, HN.out]; rfl)
    have HH := Lib.hid (Rd.form (e := encT) HR.out HN.out)
    have hcap : n ≤ c := by
      obtain ⟨A, c2, e, h1, h2⟩ := HH.out
      injection e with _ _ e3
      omega
    clear hown hi hz hs1 hby
    go_enter Try.func43, Try.ntmps43
    go_wp2_with ((with_reducible refine at_slot 7 ?_); refine Classical.byContradiction (fun hG => ?_))
    refine hG ?_
    clear hG
    refine wpList_append_own_at _ rfl (.tmp 5) (.tmp 6) TLs rfl w.heap.size TT i _ 2 16 underT HI.out HZ.out HS.out HY.out rfl (by omega) _ 0 [] rfl (HO.out _ rfl) ⟨b, o, none⟩ n c (flat encT l) rfl HF.out HC.out (fun u hu => ?_) (by have : maxLen = 9223372036854775807 := rfl; omega) (by omega) (by simp) ?_
    · obtain ⟨j, hj⟩ := List.getElem?_of_mem hu
      obtain ⟨k, y, m, _, h2, _⟩ := flat_at hj
      exact encT.one y u (List.mem_of_getElem? h2)
    intro v' w' hown' hg _ hb
    have HOW := Lib.hid (show RowG.Own encT TT w' w.heap.size v' l by
      unfold RowG.Own
      rw [HN.out]
      have q := hown'
      rw [Nat.zero_add, List.nil_append] at q
      exact q)
    have HB := Lib.hid (show Below w.heap.size w w' from ((Below.refl _ w).alloc (Nat.le_refl _) _).grown hg (by simp) (fun k hk => by
      have hk' : (Value.slice (some ⟨w.heap.size, 0, none⟩) 0 0).ownBlock = some k := hk
      have : w.heap.size = k := by simpa [Value.ownBlock] using hk'
      omega))
    clear hown' hg hb
    go_wp2_with fail
    go_ret
    exact ⟨v', rfl, HOW.out, HB.out⟩
set_option maxRecDepth 100000 in
set_option maxHeartbeats 16000000 in
theorem cloneS_c {A : Option Addr} {n c : Nat} {l : List Tick} (hR : Rd encT w (.slice A n c) l) (hn : l.length = n) (hl : n ≤ 1000000) :
    Calls Try.prog 27 #[.slice A n c] w fun e w' => ∃ v', e = .returned v' ∧ RowG.Own encT TT w' w.heap.size v' l ∧ Below w.heap.size w w' := by
  have q26 : ∀ (w : World) (a : Option Addr) (n c n' c' : Nat), (binOp .eql TSl (.slice a n c) (.slice none n' c')).run Try.prog w = .ok (.bool a.isNone) w := fun w a n c n' c' => Lib.run_eql_slice_nil w _ _ a n c n' c' underS
  cases A with
  | none =>
    have hl0 : l = [] := by
      obtain ⟨A, c', e, _, _, hne⟩ := hR
      apply Classical.byContradiction
      intro q
      obtain ⟨b, o, hA, _⟩ := hne q
      injection e with e1
      rw [hA] at e1
      cases e1
    subst hl0
    obtain rfl : 0 = n := hn
    clear hR
    go_enter Try.func27, Try.ntmps27
    go_wp2_with fail
    go_ret
    exact ⟨_, rfl, Own.nil _ _ _ _, Below.refl _ _⟩
  | some a =>
    by_cases h0 : n = 0
    · subst h0
      have hl0 : l = [] := List.eq_nil_of_length_eq_zero hn
      subst hl0
      have q27 : ∀ (w' : World), (loadCellsFrom a 0 0 #[]).run Try.prog w' = .ok #[] w' := fun _ => rfl
      have q28 : ∀ (w' : World) (b : Addr), (storeCells b []).run Try.prog w' = .ok () w' := fun _ _ => rfl
      clear hR
      go_enter Try.func27, Try.ntmps27
      go_wp2_with fail
      go_ret
      exact ⟨_, rfl, own_made, by (repeat' (first | (with_reducible exact Below.refl _ _) | (with_reducible refine Below.setCell ?_ (by (first | omega | (simp; done) | (simp; omega))) _) | (with_reducible refine Below.alloc ?_ (by (first | omega | (simp; done) | (simp; omega))) _) | (with_reducible refine Below.drew ?_) | (with_reducible refine below_drewN ?_ _)))⟩
    have h0n : 0 < n := by omega
    obtain ⟨x, hx⟩ : ∃ x, l[0]? = some x := ⟨_, List.getElem?_eq_getElem (by omega)⟩
    obtain ⟨b, o, hbo, hlt, _⟩ := hR.at hx
    injection hbo with hbo
    subst hbo
    clear hx h0
    have HR := Lib.hid hR
    have HN := Lib.hid hn
    clear hR hn
    have hown : ∀ cs, cs = #[] → (w.alloc (.cells cs TT)).ownsRow w.heap.size TT 2 (.slice (some ⟨w.heap.size, 0, none⟩) 0 0) 0 [] := fun cs h => by
      subst h
      exact World.ownsRow_made w #[] 0 (Nat.le_refl _) (Nat.zero_le _) rfl
    have HO := Lib.hid hown
    obtain ⟨i, hi, hz, hs1, hby⟩ := info_parts infoT
    have HI := Lib.hid hi
    have HZ := Lib.hid hz
    have HS := Lib.hid hs1
    have HY := Lib.hid hby
    have HC : Hid (∀ j u, (flat encT l)[j]? = some u → (w.alloc (.cells #[] TT)).cell? ((⟨b, o, none⟩ : Addr).add j) = some u) := Lib.hid (fun j u hu => by
      obtain ⟨k, y, m, h1, h2, rfl⟩ := flat_at hu
      obtain ⟨b', o', e, hb', hcs⟩ := HR.out.at h1
      injection e with e
      injection e with e1 e2
      subst e1 e2
      have hadd : (⟨b, o, none⟩ : Addr).add (k * 2 + m) = ⟨b, o + k * 2 + m, none⟩ := by unfold Addr.add; split <;> simp_all <;> omega
      rw [hadd, World.cell?_alloc_lt _ _ _ hlt]
      exact hcs m u h2)
    have HF := Lib.hid (show (flat encT l).length = n * 2 by rw [flat_len, HN.out]; rfl)
    have HH := Lib.hid (Rd.form (e := encT) HR.out HN.out)
    have hcap : n ≤ c := by
      obtain ⟨A, c2, e, h1, h2⟩ := HH.out
      injection e with _ _ e3
      omega
    clear hown hi hz hs1 hby
    go_enter Try.func27, Try.ntmps27
    go_wp2_with ((with_reducible refine at_slot 7 ?_); refine Classical.byContradiction (fun hG => ?_))
    refine hG ?_
    clear hG
    refine wpList_append_own_at _ rfl (.tmp 5) (.tmp 6) TSl rfl w.heap.size TT i _ 2 16 underS HI.out HZ.out HS.out HY.out rfl (by omega) _ 0 [] rfl (HO.out _ rfl) ⟨b, o, none⟩ n c (flat encT l) rfl HF.out HC.out (fun u hu => ?_) (by have : maxLen = 9223372036854775807 := rfl; omega) (by omega) (by simp) ?_
    · obtain ⟨j, hj⟩ := List.getElem?_of_mem hu
      obtain ⟨k, y, m, _, h2, _⟩ := flat_at hj
      exact encT.one y u (List.mem_of_getElem? h2)
    intro v' w' hown' hg _ hb
    have HOW := Lib.hid (show RowG.Own encT TT w' w.heap.size v' l by
      unfold RowG.Own
      rw [HN.out]
      have q := hown'
      rw [Nat.zero_add, List.nil_append] at q
      exact q)
    have HB := Lib.hid (show Below w.heap.size w w' from ((Below.refl _ w).alloc (Nat.le_refl _) _).grown hg (by simp) (fun k hk => by
      have hk' : (Value.slice (some ⟨w.heap.size, 0, none⟩) 0 0).ownBlock = some k := hk
      have : w.heap.size = k := by simpa [Value.ownBlock] using hk'
      omega))
    clear hown' hg hb
    go_wp2_with fail
    go_ret
    exact ⟨v', rfl, HOW.out, HB.out⟩
theorem sort_none {A : Option Addr} {c : Nat} :
    Calls Try.prog 44 #[.slice A 0 c, .func (.func 45) #[] #[]] w fun e w' => e = .returned (.tuple #[]) ∧ w' = w := by
  have hp := fun lim W => Go.Proofs.AnyF.pdqsortCmpFunc_none (P := Try.prog) (ρ := sortT_ren) { sortT with } A c lim (.func (.func 45) #[] #[]) W
  have hl : ∀ W, Calls Try.prog 51 #[.int .u64 0] W fun e w' => e = .returned (.int .i64 (Go.Lib.bitLen 0 : Nat)) ∧ w' = W := fun W => Go.Proofs.Any.bits_Len (Go.Proofs.SlLaysF0.n15.bits (P := Try.prog) (ρ := sortT_ren) { sortT with }) 0 W (by omega) (by omega)
  have HP := Lib.hid hp
  have HLN := Lib.hid hl
  clear hp hl
  go_enter Try.func44, Try.ntmps44
  go_wp2_with fail
  refine (HLN.out _).mono ?_
  rintro e w1 ⟨rfl, rfl⟩
  go_wp2_with fail
  refine (HP.out _ _).mono ?_
  rintro e w2 ⟨rfl, rfl⟩
  go_wp2_with fail
  go_end0
  exact ⟨rfl, rfl⟩
set_option maxRecDepth 100000 in
set_option maxHeartbeats 16000000 in
theorem List_c {B qb : Nat} {L : List Tick} {S : Nat → Prop} (h : Que w B qb L S) :
    Calls Try.prog 26 #[.pointer (some ⟨qb, 0, none⟩)] w fun e w' => ∃ v', e = .returned v' ∧ RowG.Own encT TT w' w.heap.size v' L ∧ Below w.heap.size w w' := by
  have HL := Lib.hid h
  obtain ⟨pb, v, hq, ⟨l, W, hp, hw, hh⟩, hb1, hb2, hns, hS⟩ := h
  have HQ := Lib.hid hq
  have HP := Lib.hid hp
  have HW := Lib.hid hw
  have HH := Lib.hid hh
  have HS := Lib.hid hS
  have HNS := Lib.hid hns
  have c0 := hq.cell (i := 0) rfl
  have l0 := hq.lt
  have p0 := hp.cell0
  have pl := hp.lt
  obtain ⟨A, c, rfl, _, _, _⟩ := own_len hp.row rfl
  have hf5 := hw.few
  have hlen := hw.len
  have HLEN := Lib.hid hlen
  clear hq hp hw hh hS hns hlen
  go_enter Try.func26, Try.ntmps26
  go_wp2_with fail
  refine (isMade_c HQ.out).mono ?_
  rintro e w1 ⟨rfl, rfl⟩
  go_wp2_with fail
  refine (cloneL_c HP.out.row.rd rfl (by omega)).mono ?_
  rintro e w2 ⟨v', rfl, ho2, hb2⟩
  have B2 := Lib.hid hb2
  by_cases h0 : l.length = 0
  · obtain ⟨A', c', rfl, _, _, _⟩ := own_len ho2 h0
    have hL0 : L = [] := List.eq_nil_of_length_eq_zero (by rw [← HLEN.out, h0])
    have hl0 : l = [] := List.eq_nil_of_length_eq_zero h0
    have O2 := Lib.hid (show RowG.Own encT TT w2 w1.heap.size (.slice A' 0 c') L by rw [hL0, ← hl0]; exact ho2)
    clear ho2 hb2 hL0 hl0
    go_wp2_with fail
    refine (sort_none).mono ?_
    rintro e w3 ⟨rfl, rfl⟩
    go_wp2_with fail
    go_ret
    exact ⟨_, rfl, O2.out, B2.out⟩
  · obtain ⟨g, c', rfl⟩ := own_some ho2 (by omega)
    have O2 := Lib.hid ho2
    clear ho2 hb2
    go_wp2_with fail
    refine (sort_c O2.out rfl (by omega) HW.out.mem HW.out.nodup HW.out.good (fun s t hs ht e => by
      obtain ⟨i, hi⟩ := List.mem_iff_getElem?.1 hs
      obtain ⟨j, hj⟩ := List.mem_iff_getElem?.1 ht
      have hij := HW.out.one hi hj e
      subst hij
      exact Option.some.inj (hi.symm.trans hj))).mono ?_
    rintro e w3 ⟨rfl, hg3, ho3⟩
    have B3 := Lib.hid (show Below w1.heap.size w1 w3 from B2.out.grown hg3 B2.out.size (fun k hk => by
      injection hk with hk
      have := (O2.out.ge g rfl).1
      omega))
    have O3 := Lib.hid ho3
    clear hg3 ho3
    go_wp2_with fail
    go_ret
    exact ⟨_, rfl, O3.out, B3.out⟩
end
end QueW
end Go.Proofs.Ytlhanbjendbhfaa
