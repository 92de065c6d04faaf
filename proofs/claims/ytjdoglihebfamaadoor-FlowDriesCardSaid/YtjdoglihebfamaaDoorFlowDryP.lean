/-
  The row that dries, plainly: what is near each of its cells; what becomes of it. Appends of cells.
-/
import Derived.Test.YtjdoglihebfamaaDoorFlowWorks
import Derived.Test.YtjdoglihebfamaaDoorFlowEq
import Derived.Test.YtjdoglihebfamaaDoorFlowLaw6
namespace Go.Proofs.YtjdoglihebfamaaDoor
open Go.RowKit
set_option linter.unusedVariables false
set_option linter.unusedSimpArgs false
namespace FlowW
open BlkP RowG FrS PushG FlowP
/-- A cell of a level: 0 is Air. -/
def lc (c : Nat) : Cl := if c = 0 then (0, 0) else (13, c)
/-- What is near a cell of the row: west a, itself c, east b. -/
def dn (a c b : Nat) : Nr := ⟨lc c, fun d => if d = 0 then lc b else if d = 1 then lc a else if d = 5 then (2, 0) else (0, 0), fun _ => (2, 0), 0, 0⟩
theorem lc_sure {c : Nat} (h : c ≤ 7) : sure (lc c) = lc c := by
  unfold lc
  split
  · decide
  · exact stays_sure (by omega)
theorem dn_snd {a c b : Nat} (ha : a ≤ 7) (hc : c ≤ 7) (hb : b ≤ 7) : snd (dn a c b) = dn a c b := by
  unfold snd dn
  simp only [Nr.mk.injEq, lc_sure hc, true_and, and_true]
  refine ⟨?_, ?_⟩
  · funext d
    by_cases h0 : d = 0
    · simp [h0, lc_sure hb]
    · by_cases h1 : d = 1
      · simp [h1, lc_sure ha]
      · by_cases h5 : d = 5
        · simp [h5, show sure (2, 0) = (2, 0) by decide]
        · simp [h0, h1, h5, show sure (0, 0) = (0, 0) by decide]
  · funext d
    decide
theorem lc_wet (c : Nat) : wet (lc c) = decide (c ≠ 0) := by
  unfold lc
  by_cases h : c = 0
  · simp [h, wet]
  · simp [h, wet]
theorem lc_lev {c : Nat} (h : c ≠ 0) : lc c = (13, c) := by simp [lc, h]
theorem dn_lv0 {a c b : Nat} (hb : b ≤ 7) : lv (dn a c b) 0 = if b = 0 then 7 else b := by
  unfold lv gives holds
  show (if (wet (lc b) && (!soak (2, 0) && !wet (2, 0)) && decide ((lc b).2 < 7)) = true then (lc b).2 else 7) = _
  rw [lc_wet, show soak (2, 0) = false by decide, show wet (2, 0) = false by decide]
  by_cases h : b = 0
  · simp [h]
  · rw [lc_lev h]
    simp [h]
    intro h7
    omega
theorem dn_lv1 {a c b : Nat} (ha : a ≤ 7) : lv (dn a c b) 1 = if a = 0 then 7 else a := by
  unfold lv gives holds
  show (if (wet (lc a) && (!soak (2, 0) && !wet (2, 0)) && decide ((lc a).2 < 7)) = true then (lc a).2 else 7) = _
  rw [lc_wet, show soak (2, 0) = false by decide, show wet (2, 0) = false by decide]
  by_cases h : a = 0
  · simp [h]
  · rw [lc_lev h]
    simp [h]
    intro h7
    omega
theorem dn_lv2 (a c b : Nat) : lv (dn a c b) 2 = 7 := rfl
theorem dn_lv3 (a c b : Nat) : lv (dn a c b) 3 = 7 := rfl
theorem dn_least {a c b : Nat} (ha : a ≤ 7) (hb : b ≤ 7) : least (dn a c b) 4 = min (if a = 0 then 7 else a) (if b = 0 then 7 else b) := by
  simp only [least, dn_lv0 hb, dn_lv1 ha, dn_lv2, dn_lv3]
  have h1 : (if a = 0 then 7 else a) ≤ 7 := by split <;> omega
  have h2 : (if b = 0 then 7 else b) ≤ 7 := by split <;> omega
  omega
/-- What becomes of it. -/
theorem dry_facts {a c b : Nat} (ha : a ≤ 7) (hc : c ≤ 7) (hb : b ≤ 7) : (deed (dn a c b) = [] ∧ lc (dl a c b) = lc c) ∨ (∃ x r, deed (dn a c b) = x :: r ∧ 1 ≤ x.1 ∧ lc (dl a c b) = lc c) ∨ (∃ q, deed (dn a c b) = [(0, q)] ∧ lc (dl a c b) = q) := by
  have e0 : deed (dn a c b) = deedS (dn a c b) := by rw [deed, dn_snd ha hc hb]
  rw [e0]
  have el := dn_least (c := c) ha hb
  have m7 : min (if a = 0 then 7 else a) (if b = 0 then 7 else b) ≤ 7 := by
    rw [← el]
    exact least_le _ 4
  have hw4 : ¬ wet ((dn a c b).sd 4) = true := by
    show ¬ wet (0, 0) = true
    decide
  unfold dl
  generalize min (if a = 0 then 7 else a) (if b = 0 then 7 else b) = m at el m7 ⊢
  by_cases h0 : c = 0
  · left
    refine ⟨?_, by simp [h0]⟩
    have e : ¬ wet (dn a c b).s = true := by
      show ¬ wet (lc c) = true
      rw [lc_wet, h0]
      simp
    rw [deedS, if_neg e]
  · have hws : wet (dn a c b).s = true := by
      show wet (lc c) = true
      rw [lc_wet]
      simpa using h0
    have hs2 : (dn a c b).s.2 = c := by
      show (lc c).2 = c
      rw [lc_lev h0]
    rw [if_neg h0]
    by_cases h7 : 7 ≤ m
    · have hwt : wantS (dn a c b) = (0, false) := by rw [wantS, if_neg hw4, if_pos (by omega)]
      refine .inr (.inr ⟨(0, 0), ?_, by simp [h7, lc]⟩)
      rw [deedS, if_pos hws, if_pos ⟨by rw [hs2]; omega, by rw [hwt]⟩]
    · have hwt : wantS (dn a c b) = (m + 1, true) := by rw [wantS, if_neg hw4, if_neg (by omega), el]
      by_cases hcm : c = m + 1
      · have hd : deedS (dn a c b) = spreadS (dn a c b) := by rw [deedS, if_pos hws, if_neg (by rw [hwt]; simp), if_neg (by rw [hwt, hs2]; simp [hcm])]
        have hl : lc (if 7 ≤ m then 0 else m + 1) = lc c := by rw [if_neg h7, hcm]
        simp only [hd]
        cases hsp : spreadS (dn a c b) with
        | nil => exact .inl ⟨rfl, hl⟩
        | cons x r => exact .inr (.inl ⟨x, r, rfl, (spread_pos hsp).1, hl⟩)
      · refine .inr (.inr ⟨(13, m + 1), ?_, by rw [if_neg h7, lc_lev (by omega)]⟩)
        rw [deedS, if_pos hws, if_neg (by rw [hwt]; simp), if_pos ⟨by rw [hs2]; omega, by rw [hwt, hs2]; exact hcm⟩, hwt]
/-- A byte's level. -/
def lvO (x : UInt8) : Nat := if 1 ≤ x.toNat ∧ x.toNat ≤ 7 then x.toNat else 0
theorem lvO_le (x : UInt8) : lvO x ≤ 7 := by
  unfold lvO
  split <;> omega
theorem infoC2 : (Tryd.prog.info? TC).map (fun i => (i.zero, i.size, i.bytes)) = some (some (.agg #[.int .u8 0, .int .u8 0]), 2, 2) := by kernel_rfl
theorem underCS : Tryd.prog.underlying TCS = some (.slice TC) := by kernel_rfl
section
variable {w0 : World} {ops : Array Oper} {rest : List Oper} {o : Oper} {a : Act} {Q : Exit → Act → World → Prop} {W : World}
theorem wp_pushC (hgd : o.guard = none) (s x : Operand) (ho : o.op = .call { callee := .builtin .append, args := #[s, x], argTypes := #[TCS, TCS] }) {B : Nat} {v : Value} {l : List Cl} {y : Cl} {n : Nat}
    (hW : W = w0.alloc (.cells #[.int .u8 (y.1 : Int), .int .u8 (y.2 : Int)] TC)) (hs : a.eval s = v) (hown : RowG.Own encC TC w0 B v l) {g0 : Nat} (hx : a.eval x = .slice (some ⟨g0, 0, none⟩) 1 1) (hg0 : g0 = w0.heap.size) (hn : l.length = n) (hl : n ≤ 1000000) (hB : B ≤ w0.heap.size)
    (h : ∀ g c w', Pushed encC TC w0 B v l y (n + 1) g c w' → wpList Tryd.prog ops Q rest (a.put o.dst (.slice (some ⟨g, 0, none⟩) (n + 1) c)) w') : wpList Tryd.prog ops Q (o :: rest) a W := by
  subst hW hn hg0
  refine wpList_plain hgd fun K hK => ?_
  obtain ⟨g, cp, w', hr, h2, h3, h4⟩ := run_pushG encC underCS infoC2 rfl (by decide) (by decide) (y := y) (c := #[.int .u8 (y.1 : Int), .int .u8 (y.2 : Int)]) rfl hown hl hB o.type
  unfold Oper.wp execOp
  simp only [ho, resolve, invoke, builtin, Sem.run_bind, Sem.run_pure, Result.andThen_ok, List.map_toArray, List.map_cons, List.map_nil, hs, hx, hr]
  refine hK _ _ (h g cp w' ⟨h2, h3, ?_⟩)
  rcases h4 with q | ⟨g', q, hg⟩
  · exact .inl q.symm
  · have : g = g' := by simpa [Value.ownBlock] using q
    subst this
    exact .inr hg
end
end FlowW
end Go.Proofs.YtjdoglihebfamaaDoor
