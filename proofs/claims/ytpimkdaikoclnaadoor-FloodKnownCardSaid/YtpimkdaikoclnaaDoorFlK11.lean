import Derived.Test.YtpimkdaikoclnaaDoorFlK10
import Derived.Test.YtpimkdaikoclnaaDoorFlK1
import Derived.Deep.RegionHeld3
import Derived.Test.YtpimkdaikoclnaaDoorFlK4
import Derived.Maps.RangeRun
import Derived.Test.YtpimkdaikoclnaaDoorFlK6
import Derived.Shelf.SlLaysF0
import Derived.Test.YtpimkdaikoclnaaDoorChecked
import Derived.Shelf.SlSortCmp.NoneTotal
import Derived.Test.YtpimkdaikoclnaaDoorFlK3
import Derived.Test.YtpimkdaikoclnaaDoorFlK7
namespace Go.Proofs.YtpimkdaikoclnaaDoor
open Go.RowKit
set_option linter.unusedVariables false
set_option linter.unusedSimpArgs false
namespace FloodW
open BlkP RowG GlowW FloodP
section
variable {side : V → List V} {cl cl' : V → Bool} {own own' L M : V → Nat} {K : Nat}
theorem cmpV (hK : ∀ i, M i ≤ K) (hM : SolV side cl' own' M) (hL : SolV side cl own L) (hc : ∀ i, cl' i = true → cl i = true) (ho : ∀ i, cl' i = true → own' i ≤ own i) : ∀ i, M i ≤ L i := by
 have key : ∀ n i, K - M i ≤ n → M i ≤ L i := by
  intro n
  induction n with
  | zero =>
   intro i hi
   have h0 := hK i
   have h1 := hM i
   split at h1
   ·rename_i hci
    have h2 := hL i
    rw [if_pos (hc i hci)] at h2
    have h3 := ho i hci
    by_cases hv : M i ≤ own' i
    ·omega
    ·by_cases hz : M i = 0
     ·omega
     ·obtain ⟨s, hs, hs2⟩ := inV_some (side := side) (L := M) (i := i) (v := M i) (by omega) (by omega)
      have := hK s
      omega
   ·omega
  | succ n ih =>
   intro i hi
   have h0 := hK i
   have h1 := hM i
   split at h1
   ·rename_i hci
    have h2 := hL i
    rw [if_pos (hc i hci)] at h2
    have h3 := ho i hci
    by_cases hv : M i ≤ own' i
    ·omega
    ·by_cases hz : M i = 0
     ·omega
     ·obtain ⟨s, hs, hs2⟩ := inV_some (side := side) (L := M) (i := i) (v := M i) (by omega) (by omega)
      have h4 := ih s (by have := hK s; omega)
      have h5 := inV_ge (L := L) hs
      omega
   ·omega
 exact fun i => key _ i (Nat.le_refl _)
theorem uniqV (hK : ∀ i, M i ≤ K) (hK' : ∀ i, L i ≤ K) (hM : SolV side cl own M) (hL : SolV side cl own L) : M = L := by
 funext i
 exact Nat.le_antisymm (cmpV hK hM hL (fun _ h => h) (fun _ _ => Nat.le_refl _) i) (cmpV hK' hL hM (fun _ h => h) (fun _ _ => Nat.le_refl _) i)
end
def atV (f : Fld) (l : Nat → Nat) (q : V) : Nat := if inB f q = true then l (numB f q) else 0
section
variable {f : Fld} {l own : Nat → Nat} {cl : Nat → Bool}
theorem sides_num {q s : V} (hq : inB f q = true) (hs : inB f s = true) (h : adj q s) : numB f s ∈ GlowP.sides f.X f.Y f.Z (numB f q) := by
 have h1 := inB_iff.1 hq
 have h2 := inB_iff.1 hs
 rw [numB_at q, numB_at s]
 refine (GlowP.mem_sides (by omega) (by omega) (by omega)).2 ?_
 unfold adj at h
 rcases h with ⟨a | a, b, c⟩ | ⟨a, b | b, c⟩ | ⟨a, b, c | c⟩
 ·refine .inr (.inl ⟨by omega, ?_⟩)
  rw [b, c, show (s.1 - f.lo.1).toNat = (q.1 - f.lo.1).toNat + 1 by omega]
 ·refine .inl ⟨by omega, ?_⟩
  rw [b, c, show (s.1 - f.lo.1).toNat = (q.1 - f.lo.1).toNat - 1 by omega]
 ·refine .inr (.inr (.inr (.inr (.inr ⟨by omega, ?_⟩))))
  rw [a, c, show (s.2.1 - f.lo.2.1).toNat = (q.2.1 - f.lo.2.1).toNat + 1 by omega]
 ·refine .inr (.inr (.inr (.inr (.inl ⟨by omega, ?_⟩))))
  rw [a, c, show (s.2.1 - f.lo.2.1).toNat = (q.2.1 - f.lo.2.1).toNat - 1 by omega]
 ·refine .inr (.inr (.inr (.inl ⟨by omega, ?_⟩)))
  rw [a, b, show (s.2.2 - f.lo.2.2).toNat = (q.2.2 - f.lo.2.2).toNat + 1 by omega]
 ·refine .inr (.inr (.inl ⟨by omega, ?_⟩))
  rw [a, b, show (s.2.2 - f.lo.2.2).toNat = (q.2.2 - f.lo.2.2).toNat - 1 by omega]
theorem sides_plc (hW : FldW f) {q : V} (hq : inB f q = true) {i : Nat} (h : i ∈ GlowP.sides f.X f.Y f.Z (numB f q)) : ∃ s, s ∈ sidesV q ∧ inB f s = true ∧ numB f s = i := by
 have h1 := inB_iff.1 hq
 rw [numB_at q] at h
 have key : ∀ s : V, inB f s = true → adj q s → numB f s = i → ∃ s, s ∈ sidesV q ∧ inB f s = true ∧ numB f s = i := fun s hs ha he => ⟨s, mem_sidesV.2 ⟨in_may hW hq, in_may hW hs, ha⟩, hs, he⟩
 rcases (GlowP.mem_sides (by omega) (by omega) (by omega)).1 h with ⟨a, e⟩ | ⟨a, e⟩ | ⟨a, e⟩ | ⟨a, e⟩ | ⟨a, e⟩ | ⟨a, e⟩
 ·refine key (q.1 - 1, q.2.1, q.2.2) (inB_iff.2 (by simp only; omega)) (.inl ⟨.inr rfl, rfl, rfl⟩) ?_
  rw [e, numB_at]
  simp only
  rw [show (q.1 - 1 - f.lo.1).toNat = (q.1 - f.lo.1).toNat - 1 by omega]
 ·refine key (q.1 + 1, q.2.1, q.2.2) (inB_iff.2 (by simp only; omega)) (.inl ⟨.inl rfl, rfl, rfl⟩) ?_
  rw [e, numB_at]
  simp only
  rw [show (q.1 + 1 - f.lo.1).toNat = (q.1 - f.lo.1).toNat + 1 by omega]
 ·refine key (q.1, q.2.1, q.2.2 - 1) (inB_iff.2 (by simp only; omega)) (.inr (.inr ⟨rfl, rfl, .inr rfl⟩)) ?_
  rw [e, numB_at]
  simp only
  rw [show (q.2.2 - 1 - f.lo.2.2).toNat = (q.2.2 - f.lo.2.2).toNat - 1 by omega]
 ·refine key (q.1, q.2.1, q.2.2 + 1) (inB_iff.2 (by simp only; omega)) (.inr (.inr ⟨rfl, rfl, .inl rfl⟩)) ?_
  rw [e, numB_at]
  simp only
  rw [show (q.2.2 + 1 - f.lo.2.2).toNat = (q.2.2 - f.lo.2.2).toNat + 1 by omega]
 ·refine key (q.1, q.2.1 - 1, q.2.2) (inB_iff.2 (by simp only; omega)) (.inr (.inl ⟨rfl, .inr rfl, rfl⟩)) ?_
  rw [e, numB_at]
  simp only
  rw [show (q.2.1 - 1 - f.lo.2.1).toNat = (q.2.1 - f.lo.2.1).toNat - 1 by omega]
 ·refine key (q.1, q.2.1 + 1, q.2.2) (inB_iff.2 (by simp only; omega)) (.inr (.inl ⟨rfl, .inl rfl, rfl⟩)) ?_
  rw [e, numB_at]
  simp only
  rw [show (q.2.1 + 1 - f.lo.2.1).toNat = (q.2.1 - f.lo.2.1).toNat + 1 by omega]
theorem in_num (hW : FldW f) {q : V} (hq : inB f q = true) : inV sidesV (atV f l) q = GlowP.inL (GlowP.sideX f.X f.Y f.Z) l (numB f q) := by
 have hN := numB_lt hW hq
 refine Nat.le_antisymm (inV_le.2 fun s hs => ?_) (GlowP.in_le.2 fun i hi => ?_)
 ·by_cases hb : inB f s = true
  ·unfold atV
   rw [if_pos hb]
   refine GlowP.in_ge ?_
   unfold GlowP.sideX
   rw [if_pos hN]
   exact sides_num hq hb (mem_sidesV.1 hs).2.2
  ·unfold atV
   rw [if_neg hb]
   exact Nat.zero_le _
 ·unfold GlowP.sideX at hi
  rw [if_pos hN] at hi
  obtain ⟨s, h1, h2, h3⟩ := sides_plc hW hq hi
  have := inV_ge (L := atV f l) h1
  unfold atV at this ⊢
  rw [if_pos h2, h3] at this
  exact this
theorem sol_at (hW : FldW f) {clv : V → Bool} {ownv : V → Nat} (h : GlowP.Sol (GlowP.sideX f.X f.Y f.Z) cl own l) (hc : ∀ q, inB f q = true → cl (numB f q) = clv q) (ho : ∀ q, inB f q = true → clv q = true → own (numB f q) = ownv q) (hout : ∀ q, clv q = true → inB f q = true) :
  SolV sidesV clv ownv (atV f l) := fun q => by
 by_cases hq : inB f q = true
 ·have e : atV f l q = l (numB f q) := if_pos hq
  rw [e, h (numB f q), hc q hq, in_num hW hq]
  by_cases hcl : clv q = true
  ·rw [if_pos hcl, if_pos hcl, ho q hq hcl]
  ·rw [if_neg hcl, if_neg hcl]
 ·have e : atV f l q = 0 := if_neg hq
  rw [e, if_neg (fun hc => hq (hout q hc))]
end
def rightL (f : Fld) : List (Nat × Nat) := (lightA f.X f.Y f.Z f.cs).map fun a => (if f.lo.2.1 + f.Y < 64 then 0 else a.1, a.2)
theorem rightL_len (f : Fld) : (rightL f).length = f.X * f.Y * f.Z := by
 unfold rightL
 rw [List.length_map, lightA_len]
theorem lightA_getD {X Y Z i : Nat} {cs : List (Nat × Nat)} (h : i < X * Y * Z) : (lightA X Y Z cs)[i]? = some (litA X Y Z (cs.map openA) (skyL X Y Z (cs.map openA)) i, litA X Y Z (cs.map openA) (cs.map lampA) i) := by
 unfold lightA
 rw [List.getElem?_map, List.getElem?_range h]
 rfl
theorem rightL_get {f : Fld} {i : Nat} (h : i < f.X * f.Y * f.Z) : (rightL f)[i]? = some (if f.lo.2.1 + f.Y < 64 then 0 else litA f.X f.Y f.Z (f.cs.map openA) (skyL f.X f.Y f.Z (f.cs.map openA)) i, litA f.X f.Y f.Z (f.cs.map openA) (f.cs.map lampA) i) := by
 unfold rightL
 rw [List.getElem?_map, lightA_getD h]
 rfl
theorem skyL_at {X Y Z : Nat} {O : List Bool} {i : Nat} (h : i < X * Y * Z) : (skyL X Y Z O).getD i 0 = GlowP.skyO (X * Z) (X * Y * Z) (GlowP.clO O) i := by
 unfold skyL
 rw [List.getD_eq_getElem?_getD, List.getElem?_map, List.getElem?_range h]
 rfl
section
variable {f : Fld}
theorem cs_at (hW : FldW f) {q : V} (hq : inB f q = true) : f.cs[numB f q]? = some (cellAt f q) := by
 have hN := numB_lt hW hq
 rw [← hW.cs] at hN
 unfold cellAt
 rw [if_pos hq, List.getElem?_eq_getElem hN]
 simp [List.getD, hN]
theorem cl_at (hW : FldW f) {q : V} (hq : inB f q = true) : GlowP.clO (f.cs.map openA) (numB f q) = clr f q := by
 rw [openL, cs_at hW hq]
 rfl
theorem lamp_at (hW : FldW f) {q : V} (hq : inB f q = true) : (f.cs.map lampA).getD (numB f q) 0 = lmN f q := by
 rw [lampLD, cs_at hW hq]
 rfl
theorem sky_at (hW : FldW f) (ht : ¬ f.lo.2.1 + f.Y < 64) {q : V} (hq : inB f q = true) : GlowP.skyO (f.X * f.Z) (f.X * f.Y * f.Z) (GlowP.clO (f.cs.map openA)) (numB f q) = skyS (clr f) q := by
 have h1 := inB_iff.1 hq
 have h2 := hW.ly
 have hx := hW.x
 have hz := hW.z
 have hXZ : 0 < f.X * f.Z := Nat.mul_pos (by omega) (by omega)
 have hup : ∀ k : Nat, numB f q + k * (f.X * f.Z) = numB f (upV q k) := fun k => by
  rw [numB_at q, GlowP.at_up, numB_at (upV q k)]
  have e : ((upV q k).2.1 - f.lo.2.1).toNat = (q.2.1 - f.lo.2.1).toNat + k := by
   simp only [upV]
   omega
  rw [e]
  rfl
 have hlt : ∀ k : Nat, numB f q + k * (f.X * f.Z) < f.X * f.Y * f.Z ↔ q.2.1 + (k : Int) ≤ 63 := fun k => by
  rw [numB_at q, GlowP.at_up, GlowP.at_up_lt (by omega) (by omega)]
  omega
 have hin : ∀ k : Nat, q.2.1 + (k : Int) ≤ 63 → inB f (upV q k) = true := fun k hk => by
  refine inB_iff.2 ?_
  simp only [upV]
  omega
 have hiff : (GlowP.clO (f.cs.map openA) (numB f q) = true ∧ ∀ k, numB f q + k * (f.X * f.Z) < f.X * f.Y * f.Z → GlowP.clO (f.cs.map openA) (numB f q + k * (f.X * f.Z)) = true) ↔ (clr f q = true ∧ ∀ k : Nat, q.2.1 + (k : Int) ≤ 63 → clr f (upV q k) = true) := by
  rw [cl_at hW hq]
  constructor
  ·rintro ⟨a, b⟩
   refine ⟨a, fun k hk => ?_⟩
   have := b k ((hlt k).2 hk)
   rw [hup, cl_at hW (hin k hk)] at this
   exact this
  ·rintro ⟨a, b⟩
   refine ⟨a, fun k hk => ?_⟩
   have hk' := (hlt k).1 hk
   rw [hup, cl_at hW (hin k hk')]
   exact b k hk'
 have hs := GlowP.sky_iff (S := f.X * f.Z) (N := f.X * f.Y * f.Z) (cl := GlowP.clO (f.cs.map openA)) (i := numB f q) hXZ
 rcases skyS_or (clr f) q with e | e
 ·rw [e]
  unfold GlowP.skyO
  rw [if_pos (hs.2 (hiff.2 ((skyS_iff (by omega)).1 e)))]
 ·rw [e]
  unfold GlowP.skyO
  rw [if_neg (fun c => by
   have := (skyS_iff (by omega)).2 (hiff.1 (hs.1 c))
   omega)]
theorem sky_no (hW : FldW f) (ht : f.lo.2.1 + f.Y < 64) (q : V) : skyS (clr f) q = 0 := by
 cases hc : clr f q with
 | false => exact skyS_dark hc
 | true =>
  have h1 := inB_iff.1 (clr_in hc)
  have h2 := hW.ly
  refine skyS_zero (k := (f.lo.2.1 + f.Y - q.2.1).toNat) (by omega) (by omega) ?_
  cases e : clr f (upV q (f.lo.2.1 + f.Y - q.2.1).toNat) with
  | false => rfl
  | true =>
   have h3 := inB_iff.1 (clr_in e)
   simp only [upV] at h3
   omega
def litV (f : Fld) (ls : List (Nat × Nat)) (b : Bool) (q : V) : Nat := atV f (fun i => cond b (ls.getD i (0, 0)).2 (ls.getD i (0, 0)).1) q
theorem litV_was (f : Fld) (b : Bool) (q : V) : litV f f.ls b q = wasB f b q := by
 unfold litV atV wasB litAt
 by_cases h : inB f q = true
 ·rw [if_pos h, if_pos h]
  cases b <;> rfl
 ·rw [if_neg h, if_neg h]
  cases b <;> rfl
theorem right_sol (hW : FldW f) (b : Bool) : SolV sidesV (clr f) (nowS f b) (litV f (rightL f) b) ∧ ∀ q, litV f (rightL f) b q ≤ 15 := by
 obtain ⟨s1, b1⟩ := lit_sol (X := f.X) (Y := f.Y) (Z := f.Z) (sky_src f.X f.Y f.Z (f.cs.map openA)).1 (sky_src f.X f.Y f.Z (f.cs.map openA)).2
 obtain ⟨s2, b2⟩ := lit_sol (X := f.X) (Y := f.Y) (Z := f.Z) (lamp_src f.cs).1 (lamp_src f.cs).2
 have get : ∀ q, inB f q = true → (rightL f).getD (numB f q) (0, 0) = (if f.lo.2.1 + f.Y < 64 then 0 else litA f.X f.Y f.Z (f.cs.map openA) (skyL f.X f.Y f.Z (f.cs.map openA)) (numB f q), litA f.X f.Y f.Z (f.cs.map openA) (f.cs.map lampA) (numB f q)) := fun q hq => by
  rw [List.getD_eq_getElem?_getD, rightL_get (numB_lt hW hq)]
  rfl
 have ext : ∀ {l : Nat → Nat}, (∀ q, inB f q = true → (cond b ((rightL f).getD (numB f q) (0, 0)).2 ((rightL f).getD (numB f q) (0, 0)).1) = l (numB f q)) → litV f (rightL f) b = atV f l := fun h => by
  funext q
  unfold litV atV
  split
  ·rename_i hq
   exact h q hq
  ·rfl
 have le : ∀ {l : Nat → Nat}, (∀ i, l i ≤ 15) → ∀ q, atV f l q ≤ 15 := fun h q => by
  unfold atV
  split
  ·exact h _
  ·exact Nat.zero_le _
 cases b with
 | true =>
  rw [ext (l := litA f.X f.Y f.Z (f.cs.map openA) (f.cs.map lampA)) (fun q hq => by rw [get q hq]; rfl)]
  exact ⟨sol_at hW s2 (fun q hq => cl_at hW hq) (fun q hq _ => lamp_at hW hq) (fun q => clr_in), le b2⟩
 | false =>
  by_cases ht : f.lo.2.1 + f.Y < 64
  ·rw [ext (l := fun _ => 0) (fun q hq => by rw [get q hq, if_pos ht]; rfl)]
   refine ⟨fun q => ?_, le (fun _ => by omega)⟩
   have e : ∀ q, atV f (fun _ => 0) q = 0 := fun q => by unfold atV; split <;> rfl
   have h1 : inV sidesV (atV f fun _ => 0) q ≤ 0 := inV_le.2 fun s _ => by rw [e]; omega
   have h2 : nowS f false q = 0 := sky_no hW ht q
   rw [e, h2]
   split <;> omega
  ·rw [ext (l := litA f.X f.Y f.Z (f.cs.map openA) (skyL f.X f.Y f.Z (f.cs.map openA))) (fun q hq => by rw [get q hq, if_neg ht]; rfl)]
   exact ⟨sol_at hW s1 (fun q hq => cl_at hW hq) (fun q hq _ => by rw [skyL_at (numB_lt hW hq), sky_at hW ht hq]; rfl) (fun q => clr_in), le b1⟩
theorem right_uniq (hW : FldW f) {b : Bool} {L : V → Nat} (h15 : ∀ q, L q ≤ 15) (h : SolV sidesV (clr f) (nowS f b) L) : L = litV f (rightL f) b :=
 uniqV h15 (right_sol hW b).2 h (right_sol hW b).1
end
end FloodW
end Go.Proofs.YtpimkdaikoclnaaDoor
namespace Go.Proofs.YtpimkdaikoclnaaDoor
open Go.RowKit
set_option linter.unusedVariables false
set_option linter.unusedSimpArgs false
namespace FloodW
open BlkP RowG GlowW FloodP
def Fld.told (f : Fld) (q : V) (g n c : Nat) : Fld := { f with vT := .slice (some ⟨g, 0, none⟩) n c, ts := f.ts ++ [q] }
def Fld.lit (f : Fld) (i : Nat) (a : Nat × Nat) : Fld := { f with ls := f.ls.set i a }
def SL (f : Fld) (k : Nat) : Prop := k = f.F ∨ f.vT.ownBlock = some k ∨ f.vL.ownBlock = some k
def LitP (w : World) (f : Fld) (q : V) (a : Nat × Nat) (w' : World) : Prop := ∃ g c, FldM w' ((f.told q g (f.ts.length + 1) c).lit (numB f q) a) ∧ Fr (SL f) w w' ∧ (f.vT.ownBlock = some g ∨ w.heap.size ≤ g)
theorem FldM.notedT {f : Fld} {w0 w6 : World} {q : V} {n g c : Nat} (h : FldM w0 f) (hp : Pushed encP TP w0 0 f.vT f.ts q n g c w6) :
  FldM (w6.setCell ⟨f.F, 9, none⟩ (.slice (some ⟨g, 0, none⟩) n c)) (f.told q g n c) ∧ Fr (SL f) w0 (w6.setCell ⟨f.F, 9, none⟩ (.slice (some ⟨g, 0, none⟩) n c)) := by
 obtain ⟨h1, h2, h3⟩ := hp
 have f1 : Fr (fun k => f.vT.ownBlock = some k) w0 w6 := Fr.grown h2 (fun i e => e)
 have nF : f.vT.ownBlock ≠ some f.F := fun e => by
  obtain ⟨us, hu⟩ := own_cells h.ts e
  exact Blk.ne hu h.blk (by decide) rfl
 have nC : ∀ k, f.vC.ownBlock = some k → f.vT.ownBlock ≠ some k := fun k e e2 => by
  obtain ⟨us, hu⟩ := own_cells h.ts e2
  obtain ⟨us2, hu2⟩ := own_cells h.cs e
  exact Blk.ne hu hu2 (by decide) rfl
 have nL : ∀ k, f.vL.ownBlock = some k → f.vT.ownBlock ≠ some k := fun k e e2 => by
  obtain ⟨us, hu⟩ := own_cells h.ts e2
  obtain ⟨us2, hu2⟩ := own_cells h.ls e
  exact Blk.ne hu hu2 (by decide) rfl
 have nA : ∀ k, f.vA.ownBlock = some k → f.vT.ownBlock ≠ some k := fun k e e2 => h.dj k e e2
 have f2 : Fr (fun k => k = f.F) w6 (w6.setCell ⟨f.F, 9, none⟩ (.slice (some ⟨g, 0, none⟩) n c)) := Fr.set _ _ _ _ rfl
 have key : ∀ {α : Type} {e : Enc α} {E : TypeId} {v : Value} {l : List α}, RowG.Own e E w6 0 v l → E ≠ TW → RowG.Own e E (w6.setCell ⟨f.F, 9, none⟩ (.slice (some ⟨g, 0, none⟩) n c)) 0 v l := fun ho hE => f2.own ho (fun k e e2 => by
  obtain ⟨us, hu⟩ := own_cells ho e
  rw [e2] at hu
  exact Blk.ne hu (f1.blk h.blk nF) hE rfl)
 refine ⟨⟨?_, key (f1.own h.cs nC) (by decide), key (f1.own h.ls nL) (by decide), key (f1.own h.ak nA) (by decide), key h1 (by decide), fun k e e2 => ?_⟩, (f1.mono (fun i e => .inr (.inl e))).trans f2 (fun i e => .inl (.inl e))⟩
 ·exact (f1.blk h.blk nF).set 9 _
 ·have e3 : g = k := by simpa [Fld.told, Value.ownBlock] using e2
  subst e3
  rcases h3 with h3 | h3
  ·exact h.dj g e h3
  ·have := (h.ak.ge g e).2
   omega
theorem told_w {f : Fld} {q : V} {g n c : Nat} (h : FldW f) : FldW (f.told q g n c) := ⟨h.x, h.y, h.z, h.lx, h.ly, h.lz, h.cs, h.ls, h.c8, h.l15⟩
theorem own2_store {w : World} {B g n c : Nat} {E : TypeId} {l : List (Nat × Nat)} (h : RowG.Own enc2 E w B (.slice (some ⟨g, 0, none⟩) n c) l) {i : Nat} {x : Nat × Nat} (hx : l[i]? = some x) (a b : Nat) :
  RowG.Own enc2 E ((w.setCell ⟨g, i * 2, none⟩ (.int .u8 a)).setCell ⟨g, i * 2 + 1, none⟩ (.int .u8 b)) B (.slice (some ⟨g, 0, none⟩) n c) (l.set i (a, b)) ∧ Fr (fun k => k = g) w ((w.setCell ⟨g, i * 2, none⟩ (.int .u8 a)).setCell ⟨g, i * 2 + 1, none⟩ (.int .u8 b)) := by
 have hi := (List.getElem?_eq_some_iff.1 hx).1
 have h1 := (h.store (i := i) (j := 0) (x := x) (y := (a, x.2)) (u := .int .u8 a) hx (by decide) rfl).1
 have h2 := (h1.store (i := i) (j := 1) (x := (a, x.2)) (y := (a, b)) (u := .int .u8 b) (by simp [hi]) (by decide) rfl).1
 rw [List.set_set] at h2
 exact ⟨h2, (Fr.set (fun k => k = g) w ⟨g, i * 2, none⟩ _ rfl).trans (Fr.set (fun k => k = g) _ ⟨g, i * 2 + 1, none⟩ _ rfl) (fun i hi => .inl hi)⟩
theorem FldM.litM {f : Fld} {w : World} {gl n c : Nat} (h : FldM w f) (hv : f.vL = .slice (some ⟨gl, 0, none⟩) n c) {i : Nat} {x : Nat × Nat} (hx : f.ls[i]? = some x) (a b : Nat) :
  FldM ((w.setCell ⟨gl, i * 2, none⟩ (.int .u8 a)).setCell ⟨gl, i * 2 + 1, none⟩ (.int .u8 b)) (f.lit i (a, b)) ∧ Fr (fun k => k = gl) w ((w.setCell ⟨gl, i * 2, none⟩ (.int .u8 a)).setCell ⟨gl, i * 2 + 1, none⟩ (.int .u8 b)) := by
 obtain ⟨h1, h2⟩ := own2_store (hv ▸ h.ls) hx a b
 obtain ⟨us, hu⟩ := own_cells h.ls (g := gl) (by rw [hv]; rfl)
 have key : ∀ {α : Type} {e : Enc α} {E : TypeId} {v : Value} {l : List α}, RowG.Own e E w 0 v l → E ≠ TL → ∀ k, v.ownBlock = some k → ¬ k = gl := fun ho hE k e e2 => by
  obtain ⟨us2, hu2⟩ := own_cells ho e
  rw [e2] at hu2
  exact Blk.ne hu2 hu hE rfl
 refine ⟨⟨h2.blk h.blk (fun e => Blk.ne h.blk hu (by decide) e), h2.own h.cs (key h.cs (by decide)), ?_, h2.own h.ak (key h.ak (by decide)), h2.own h.ts (key h.ts (by decide)), h.dj⟩, h2⟩
 show RowG.Own enc2 TL _ 0 f.vL (f.ls.set i (a, b))
 rw [hv]
 exact h1
set_option maxRecDepth 100000 in
set_option maxHeartbeats 8000000 in
theorem lit_c {w : World} {f : Fld} {q : V} {a b : Nat} (h : FldM w f) (hW : FldW f) (hq : inB f q = true) (hn : f.ts.length ≤ 900000) :
  Calls Tryd.prog 102 #[.pointer (some ⟨f.F, 0, none⟩), .agg #[.int .i64 q.1, .int .i64 q.2.1, .int .i64 q.2.2], .agg #[.int .u8 a, .int .u8 b]] w fun e w' => e = .returned (.tuple #[]) ∧ LitP w f q (a, b) w' := by
 obtain ⟨A, cA, hvA, _, _, _⟩ := h.ts.form rfl
 have HVA := Lib.hid hvA
 have hqb := inB_iff.1 hq
 have HMQ := Lib.hid (show mayP q from by
  have h1 := hW.lx
  have h2 := hW.ly
  have h3 := hW.lz
  unfold mayP
  omega)
 clear hqb
 obtain ⟨x, y, z⟩ := q
 simp only
 have HIB := Lib.hid hq
 have HFM0 := Lib.hid h
 have HW := Lib.hid hW
 have hFl := h.blk.lt
 have HNF := Lib.hid (show ¬ f.vT.ownBlock = some f.F from fun e => by
  obtain ⟨us, hu⟩ := own_cells HFM0.out.ts e
  exact Blk.ne hu HFM0.out.blk (by decide) rfl)
 have HNP := Lib.hid (show ¬ f.vT.ownBlock = some w.heap.size from fun e => by
  have := (HFM0.out.ts.ge _ e).2
  omega)
 have HNR := Lib.hid (show ¬ f.vT.ownBlock = some (w.heap.size + 1) from fun e => by
  have := (HFM0.out.ts.ge _ e).2
  omega)
 obtain ⟨n, hnn⟩ : ∃ n, f.ts.length = n := ⟨_, rfl⟩
 rw [hnn] at HVA hn
 have HLN := Lib.hid hnn
 clear h hW hq hvA hnn
 go_enter Tryd.func102, Tryd.ntmps102
 go_wp2_with fail
 refine HeldP.wp_named (S := fun W => Blk W w.heap.size TP [.int .i64 x, .int .i64 y, .int .i64 z] ∧ Blk W (w.heap.size + 1) TL [.int .u8 a, .int .u8 b] ∧ FldM W f ∧ Below w.heap.size w W ∧ w.heap.size + 2 ≤ W.heap.size) ⟨by (repeat' (first | (with_reducible refine BlkP.Blk.drew ?_) | (with_reducible refine BlkP.Blk.drewN ?_ _) | (with_reducible refine BlkP.Blk.setAt (us := ?_) (by first | omega | (simp; done) | (simp; omega)) rfl ?_ ?_) | (with_reducible refine BlkP.Blk.otherAt ?_ (by first | omega | (simp; done) | (simp; omega))) | (with_reducible refine BlkP.Blk.newA' (by first | omega | (simp; done) | (simp; omega)) rfl) | (with_reducible refine BlkP.Blk.alloc ?_ _) | (exact rfl))), by (repeat' (first | (with_reducible refine BlkP.Blk.drew ?_) | (with_reducible refine BlkP.Blk.drewN ?_ _) | (with_reducible refine BlkP.Blk.setAt (us := ?_) (by first | omega | (simp; done) | (simp; omega)) rfl ?_ ?_) | (with_reducible refine BlkP.Blk.otherAt ?_ (by first | omega | (simp; done) | (simp; omega))) | (with_reducible refine BlkP.Blk.newA' (by first | omega | (simp; done) | (simp; omega)) rfl) | (with_reducible refine BlkP.Blk.alloc ?_ _) | (exact rfl))), HFM0.out.below (by (repeat' (first | (with_reducible exact Below.refl _ _) | (with_reducible refine Below.setCell ?_ (by (first | omega | (simp; done) | (simp; omega))) _) | (with_reducible refine Below.alloc ?_ (by (first | omega | (simp; done) | (simp; omega))) _) | (with_reducible refine Below.drew ?_) | (with_reducible refine below_drewN ?_ _)))), by (repeat' (first | (with_reducible exact Below.refl _ _) | (with_reducible refine Below.setCell ?_ (by (first | omega | (simp; done) | (simp; omega))) _) | (with_reducible refine Below.alloc ?_ (by (first | omega | (simp; done) | (simp; omega))) _) | (with_reducible refine Below.drew ?_) | (with_reducible refine below_drewN ?_ _))), by simp⟩ ?_
 rintro W ⟨hp, hr, hfm, hb, hz⟩
 have HP := Lib.hid hp
 have HR := Lib.hid hr
 have HFM := Lib.hid hfm
 have HBW := Lib.hid hb
 have HAK := Lib.hid (show RowG.Own encP TP W.drew 0 (.slice A n cA) f.ts from HVA.out ▸ hfm.ts)
 have HC8 := Lib.hid (show W.cell? ⟨f.F, 9, none⟩ = some (.slice A n cA) from HVA.out ▸ hfm.blk.cell (i := 9) rfl)
 have HFL := Lib.hid hfm.blk.lt
 clear hp hr hfm hb
 refine wp_region_noPanic ?_
 refine wp_region_held_drew (S := fun Xw => Blk Xw w.heap.size TP [.int .i64 x, .int .i64 y, .int .i64 z]) (by kernel_rfl) (HP.out) (fun hHeld => ?_)
 refine wpAnyH_take (i := 0) (oi := ⟨some 8, _, _, _, _, _⟩) (v := .pointer (some ⟨f.F, 0, none⟩)) rfl (by kernel_rfl) (by kernel_rfl) (by kernel_rfl) (fun _ _ _ h => h) (Or.inl ⟨by rfl, fun Xw hSW => by go_simp⟩) hHeld ?_
 simp only [Act.put, List.setIfInBounds_toArray, List.set_cons_zero, List.set_cons_succ]
 refine wpAnyH_take (i := 1) (oi := ⟨some 9, _, _, _, _, _⟩) (v := .pointer (some ⟨f.F, 0, none⟩)) rfl (by kernel_rfl) (by kernel_rfl) (by kernel_rfl) (fun _ _ _ h => h) (Or.inl ⟨by rfl, fun Xw hSW => by go_simp⟩) hHeld ?_
 simp only [Act.put, List.setIfInBounds_toArray, List.set_cons_zero, List.set_cons_succ]
 refine wpAnyH_take (i := 2) (oi := ⟨some 10, _, _, _, _, _⟩) (v := .pointer (some ⟨f.F, 0, none⟩)) rfl (by kernel_rfl) (by kernel_rfl) (by kernel_rfl) (fun _ _ _ h => h) (Or.inl ⟨by rfl, fun Xw hSW => by go_simp⟩) hHeld ?_
 simp only [Act.put, List.setIfInBounds_toArray, List.set_cons_zero, List.set_cons_succ]
 refine wpAnyH_take (i := 3) (oi := ⟨some 11, _, _, _, _, _⟩) (v := .pointer (some ⟨f.F, 9, none⟩)) rfl (by kernel_rfl) (by kernel_rfl) (by kernel_rfl) (fun _ _ _ h => h) (Or.inl ⟨by rfl, fun Xw hSW => by go_simp⟩) hHeld ?_
 simp only [Act.put, List.setIfInBounds_toArray, List.set_cons_zero, List.set_cons_succ]
 refine wpAnyH_take (i := 5) (oi := ⟨some 13, _, _, _, _, _⟩) (v := .agg #[.int .i64 x, .int .i64 y, .int .i64 z]) rfl (by kernel_rfl) (by kernel_rfl) (by kernel_rfl) (fun _ _ _ h => h) (Or.inl ⟨by rfl, fun Xw hSW => by have b0 := hSW.cell (i := 0) rfl; have b1 := hSW.cell (i := 1) rfl; have b2 := hSW.cell (i := 2) rfl; go_simp⟩) hHeld ?_
 simp only [Act.put, List.setIfInBounds_toArray, List.set_cons_zero, List.set_cons_succ]
 have c8 : W.cell? ⟨f.F, 9, none⟩ = some (.slice A n cA) := HC8.out
 refine wpAnyH_ready (rs := [4, 6]) (by kernel_rfl) (by simp) ?_
 refine AllReadyH.cons (o := ⟨some 12, _, _, _, _, _⟩) rfl (fun K hK => ?_) (AllReadyH.cons (o := ⟨some 14, _, _, _, _, _⟩) rfl (fun K hK => ?_) AllReadyH.nil)
 ·go_simp
  refine hK.out _ _ (hHeld) (fun hHeld => ?_)
  clear hK K
  refine wpAnyH_ready (rs := [6]) (by kernel_rfl) (by simp) ?_
  refine AllReadyH.cons (o := ⟨some 14, _, _, _, _, _⟩) rfl (fun K hK => ?_) AllReadyH.nil
  go_simp
  refine hK.out _ _ (by have q := HP.out; (repeat' (first | (with_reducible exact q) | (with_reducible refine BlkP.Blk.drew ?_) | (with_reducible refine BlkP.Blk.drewN ?_ _) | (with_reducible refine BlkP.Blk.setAt (us := ?_) (by first | omega | (simp; done) | (simp; omega)) rfl ?_ ?_) | (with_reducible refine BlkP.Blk.otherAt ?_ (by first | omega | (simp; done) | (simp; omega))) | (with_reducible refine BlkP.Blk.newA' (by first | omega | (simp; done) | (simp; omega)) rfl) | (with_reducible refine BlkP.Blk.alloc ?_ _) | (exact rfl)))) (fun hHeld => ?_)
  clear hK K
  refine wpAnyH_ready (rs := [7]) (by kernel_rfl) (by simp) ?_
  refine AllReadyH.cons (o := ⟨some 15, _, _, _, _, _⟩) rfl (fun K hK => ?_) AllReadyH.nil
  refine step_pushP (w0 := W.drew) (y := (x, y, z)) (v := .slice A n cA) (l := f.ts) rfl (.tmp 12) (.tmp 14) rfl rfl rfl rfl HAK.out rfl HLN.out (by omega) (Nat.zero_le _) ?_
  intro g c w6 hp
  have HPU := Lib.hid hp
  have f1 : Fr (fun k => (Value.slice A n cA).ownBlock = some k) W.drew w6 := Fr.grown hp.2.1 (fun i e => e)
  have hb6 : Blk w6 f.F TW (fcells f) := f1.blk HFM.out.blk (by rw [← HVA.out]; exact HNF.out)
  have HB6 := Lib.hid (show Blk w6 w.heap.size TP [.int .i64 x, .int .i64 y, .int .i64 z] from f1.blk HP.out (by rw [← HVA.out]; exact HNP.out))
  have c8 : w6.cell? ⟨f.F, 9, none⟩ = some f.vT := hb6.cell (i := 9) rfl
  have z8 := hb6.frozen 9
  have HBB := Lib.hid hb6
  clear hp f1 hb6
  refine hK.out _ _ (HB6.out) (fun hHeld => ?_)
  clear hK K
  refine wpAnyH_take (i := 8) (oi := ⟨some 16, _, _, _, _, _⟩) (v := .pointer (some ⟨f.F, 0, none⟩)) rfl (by kernel_rfl) (by kernel_rfl) (by kernel_rfl) (fun _ _ _ h => h) (Or.inl ⟨by rfl, fun Xw hSW => by go_simp⟩) hHeld ?_
  simp only [Act.put, List.setIfInBounds_toArray, List.set_cons_zero, List.set_cons_succ]
  refine wpAnyH_take (i := 9) (oi := ⟨some 17, _, _, _, _, _⟩) (v := .pointer (some ⟨f.F, 9, none⟩)) rfl (by kernel_rfl) (by kernel_rfl) (by kernel_rfl) (fun _ _ _ h => h) (Or.inl ⟨by rfl, fun Xw hSW => by go_simp⟩) hHeld ?_
  simp only [Act.put, List.setIfInBounds_toArray, List.set_cons_zero, List.set_cons_succ]
  refine wpAnyH_ready (rs := [10]) (by kernel_rfl) (by simp) ?_
  refine AllReadyH.cons (o := ⟨none, _, _, _, _, _⟩) rfl (fun K hK => ?_) AllReadyH.nil
  go_simp
  refine hK.out _ _ (by have q := HB6.out; (repeat' (first | (with_reducible exact q) | (with_reducible refine BlkP.Blk.drew ?_) | (with_reducible refine BlkP.Blk.drewN ?_ _) | (with_reducible refine BlkP.Blk.setAt (us := ?_) (by first | omega | (simp; done) | (simp; omega)) rfl ?_ ?_) | (with_reducible refine BlkP.Blk.otherAt ?_ (by first | omega | (simp; done) | (simp; omega))) | (with_reducible refine BlkP.Blk.newA' (by first | omega | (simp; done) | (simp; omega)) rfl) | (with_reducible refine BlkP.Blk.alloc ?_ _) | (exact rfl)))) (fun hHeld => ?_)
  clear hK K
  refine wpAnyH_done (by kernel_rfl) ?_ _
  refine NoPanic.normal ?_
  have HFN := Lib.hid (show FldM (w6.setCell ⟨f.F, 9, none⟩ (.slice (some ⟨g, 0, none⟩) (n + 1) c)) (f.told (x, y, z) g (n + 1) c) ∧ Fr (SL f) W (w6.setCell ⟨f.F, 9, none⟩ (.slice (some ⟨g, 0, none⟩) (n + 1) c)) from FldM.notedT (w0 := W) HFM.out ⟨(by have q := HPU.out.1; exact q), (by have q := HPU.out.2.1; rw [HVA.out]; exact ⟨q.os, q.tape, q.output, q.size, q.block⟩), by have q := HPU.out.2.2; rw [HVA.out]; exact q⟩)
  refine HeldP.then_named (S := fun W' => Blk W' w.heap.size TP [.int .i64 x, .int .i64 y, .int .i64 z] ∧ Blk W' (w.heap.size + 1) TL [.int .u8 a, .int .u8 b] ∧ FldM W' (f.told (x, y, z) g (n + 1) c) ∧ Fr (SL f) w W' ∧ w.heap.size + 2 ≤ W'.heap.size) ⟨by have q := HB6.out; have e := HFL.out; (repeat' (first | (with_reducible exact q) | (with_reducible refine BlkP.Blk.drew ?_) | (with_reducible refine BlkP.Blk.drewN ?_ _) | (with_reducible refine BlkP.Blk.setAt (us := ?_) (by first | omega | (simp; done) | (simp; omega)) rfl ?_ ?_) | (with_reducible refine BlkP.Blk.otherAt ?_ (by first | omega | (simp; done) | (simp; omega))) | (with_reducible refine BlkP.Blk.newA' (by first | omega | (simp; done) | (simp; omega)) rfl) | (with_reducible refine BlkP.Blk.alloc ?_ _) | (exact rfl))), HFN.out.2.blk HR.out (by
    rintro (e | e | e)
    ·omega
    ·exact HNR.out e
    ·have := (HFM0.out.ls.ge _ e).2
     omega), HFN.out.1, (Fr.below (SL f) HBW.out).trans HFN.out.2 (fun i hi => .inl hi), by
    have := HFN.out.2.size
    omega⟩ ?_
  rintro W2 ⟨hp2, hr2, hfm2, hfr2, hz2⟩
  have HGF := Lib.hid (show f.vT.ownBlock = some g ∨ w.heap.size ≤ g from by
   rcases HPU.out.2.2 with q | q
   ·rw [HVA.out]; exact .inl q
   ·refine .inr ?_
    have q2 : W.heap.size ≤ g := q
    omega)
  have HR2 := Lib.hid hr2
  have HFM2 := Lib.hid hfm2
  have HFR2 := Lib.hid hfr2
  have p0 : W2.cell? ⟨w.heap.size, 0, none⟩ = some (.int .i64 x) := hp2.cell (i := 0) rfl
  have p1 : W2.cell? ⟨w.heap.size, 1, none⟩ = some (.int .i64 y) := hp2.cell (i := 1) rfl
  have p2 : W2.cell? ⟨w.heap.size, 2, none⟩ = some (.int .i64 z) := hp2.cell (i := 2) rfl
  clear hp2 hr2 hfm2 hfr2 c8 z8 HB6 HBB HFN HPU HC8 HFL HAK HP HR HFM HBW hz
  try clear c8'
  have HIX := Lib.hid (show idxV (f.told (x, y, z) g (n + 1) c) (x, y, z) = .tuple #[.int .i64 (numB f (x, y, z)), .bool true] by unfold idxV; rw [show inB (f.told (x, y, z) g (n + 1) c) (x, y, z) = true from HIB.out]; rfl)
  have hnb := numB_lt HW.out HIB.out
  rw [← HW.out.ls] at hnb
  obtain ⟨cc, hcc⟩ : ∃ cc, f.ls[numB f (x, y, z)]? = some cc := ⟨_, List.getElem?_eq_getElem hnb⟩
  obtain ⟨nb, hnbe⟩ : ∃ nb, numB f (x, y, z) = nb := ⟨_, rfl⟩
  have HNBE := Lib.hid hnbe
  rw [hnbe] at HIX hnb hcc
  have HCC := Lib.hid hcc
  obtain ⟨ln, hln⟩ : ∃ ln, f.ls.length = ln := ⟨_, rfl⟩
  rw [hln] at hnb
  obtain ⟨Ac, c2, hvc, hc2, _, hgc⟩ := HFM2.out.ls.form (n := ln) hln
  obtain ⟨gc, rfl, _, hgl⟩ := hgc (by omega)
  have HVC := Lib.hid hvc
  have HGW := Lib.hid (show gc < w.heap.size from (HFM0.out.ls.ge gc (by rw [show f.vL = _ from hvc]; rfl)).2)
  have HFG := Lib.hid (show f.F ≠ gc from fun e => by
   obtain ⟨us, hu⟩ := own_cells HFM0.out.ls (g := gc) (by rw [show f.vL = _ from hvc]; rfl)
   exact Blk.ne HFM0.out.blk hu (by decide) e)
  have hnbI : (nb : Int) < ln := by omega
  clear hcc hln hvc hgc hnbe
  go_wp2_with fail
  go_at_call 16
  refine (fidx_c HFM2.out (told_w HW.out) HMQ.out).mono ?_
  rintro e W3 ⟨rfl, hb3⟩
  rw [HIX.out]
  have HB3 := Lib.hid hb3
  have hfm3 := HFM2.out.below hb3
  have HFM3 := Lib.hid hfm3
  have cF : W3.cell? ⟨f.F, 7, none⟩ = some (.slice (some ⟨gc, 0, none⟩) ln c2) := (hfm3.blk.cell (i := 7) rfl).trans (congrArg some HVC.out)
  have HO3 := Lib.hid (show RowG.Own enc2 TL W3 0 (.slice (some ⟨gc, 0, none⟩) ln c2) f.ls from HVC.out ▸ hfm3.ls)
  have HL3 := Lib.hid (HR2.out.below hb3)
  have k0 : W3.cell? ⟨gc, nb * 2, none⟩ = some (.int .u8 (cc.1 : Int)) := HO3.out.cell (j := 0) HCC.out rfl
  have k1 : W3.cell? ⟨gc, nb * 2 + 1, none⟩ = some (.int .u8 (cc.2 : Int)) := HO3.out.cell (j := 1) HCC.out rfl
  have z0 := HO3.out.frozen (nb * 2)
  have z1 := HO3.out.frozen (nb * 2 + 1)
  have hgw := HGW.out
  have hfg := HFG.out
  have hgf : gc ≠ f.F := fun e => hfg e.symm
  have hg1 : w.heap.size + 1 ≠ gc := by omega
  have hg2 : gc ≠ w.heap.size + 1 := by omega
  clear hb3 p0 p1 p2 hfm3
  go_wp2_with fail
  refine wp_region_noPanic ?_
  refine wp_region_held_drew (S := fun Xw => Xw.cell? ⟨f.F, 7, none⟩ = some (.slice (some ⟨gc, 0, none⟩) ln c2) ∧ Blk Xw (w.heap.size + 1) TL [.int .u8 a, .int .u8 b]) (by kernel_rfl) (⟨cF, HL3.out⟩) (fun hHeld => ?_)
  refine wpAnyH_take (i := 0) (oi := ⟨some 25, _, _, _, _, _⟩) (v := .pointer (some ⟨f.F, 0, none⟩)) rfl (by kernel_rfl) (by kernel_rfl) (by kernel_rfl) (fun _ _ _ h => h) (Or.inl ⟨by rfl, fun Xw hSW => by go_simp⟩) hHeld ?_
  simp only [Act.put, List.setIfInBounds_toArray, List.set_cons_zero, List.set_cons_succ]
  refine wpAnyH_take (i := 1) (oi := ⟨some 26, _, _, _, _, _⟩) (v := .pointer (some ⟨f.F, 0, none⟩)) rfl (by kernel_rfl) (by kernel_rfl) (by kernel_rfl) (fun _ _ _ h => h) (Or.inl ⟨by rfl, fun Xw hSW => by go_simp⟩) hHeld ?_
  simp only [Act.put, List.setIfInBounds_toArray, List.set_cons_zero, List.set_cons_succ]
  refine wpAnyH_take (i := 2) (oi := ⟨some 27, _, _, _, _, _⟩) (v := .pointer (some ⟨f.F, 7, none⟩)) rfl (by kernel_rfl) (by kernel_rfl) (by kernel_rfl) (fun _ _ _ h => h) (Or.inl ⟨by rfl, fun Xw hSW => by go_simp⟩) hHeld ?_
  simp only [Act.put, List.setIfInBounds_toArray, List.set_cons_zero, List.set_cons_succ]
  refine wpAnyH_take (i := 3) (oi := ⟨some 28, _, _, _, _, _⟩) (v := .slice (some ⟨gc, 0, none⟩) ln c2) rfl (by kernel_rfl) (by kernel_rfl) (by kernel_rfl) (fun _ _ _ h => h) (Or.inl ⟨by rfl, fun Xw hSW => by have q := hSW.1; go_simp⟩) hHeld ?_
  simp only [Act.put, List.setIfInBounds_toArray, List.set_cons_zero, List.set_cons_succ]
  refine wpAnyH_take (i := 4) (oi := ⟨some 29, _, _, _, _, _⟩) (v := .int .i64 nb) rfl (by kernel_rfl) (by kernel_rfl) (by kernel_rfl) (fun _ _ _ h => h) (Or.inl ⟨by rfl, fun Xw hSW => by go_simp⟩) hHeld ?_
  simp only [Act.put, List.setIfInBounds_toArray, List.set_cons_zero, List.set_cons_succ]
  refine wpAnyH_take (i := 5) (oi := ⟨some 30, _, _, _, _, _⟩) (v := .agg #[.int .u8 a, .int .u8 b]) rfl (by kernel_rfl) (by kernel_rfl) (by kernel_rfl) (fun _ _ _ h => h) (Or.inl ⟨by rfl, fun Xw hSW => by have a0 := hSW.2.cell (i := 0) rfl; have a1 := hSW.2.cell (i := 1) rfl; go_simp⟩) hHeld ?_
  simp only [Act.put, List.setIfInBounds_toArray, List.set_cons_zero, List.set_cons_succ]
  refine wpAnyH_take (i := 6) (oi := ⟨some 31, _, _, _, _, _⟩) (v := .pointer (some ⟨gc, nb * 2, none⟩)) rfl (by kernel_rfl) (by kernel_rfl) (by kernel_rfl) (fun _ _ _ h => h) (Or.inl ⟨by rfl, fun Xw hSW => by go_simp⟩) hHeld ?_
  simp only [Act.put, List.setIfInBounds_toArray, List.set_cons_zero, List.set_cons_succ]
  refine wpAnyH_ready (rs := [7]) (by kernel_rfl) (by simp) ?_
  refine AllReadyH.cons (o := ⟨none, _, _, _, _, _⟩) rfl (fun K hK => ?_) AllReadyH.nil
  go_simp
  refine hK.out _ _ (⟨by have q := cF; (repeat' (first | (with_reducible assumption) | (with_reducible refine HeldP.c_drew ?_) | (with_reducible refine HeldP.c_drewN ?_) | (with_reducible refine HeldP.c_same (by omega) ?_) | (with_reducible refine HeldP.c_other ?_ ?_) | (with_reducible refine HeldP.c_new (by first | omega | (simp; done) | (simp; omega)) ?_) | (with_reducible refine HeldP.c_alloc ?_ ?_) | (with_reducible refine HeldP.e_drew ?_) | (with_reducible refine HeldP.e_drewN ?_) | (with_reducible refine HeldP.e_set ?_) | (with_reducible refine HeldP.e_new (by first | omega | (simp; done) | (simp; omega)) ⟨_, rfl⟩) | (with_reducible refine HeldP.e_alloc ?_ ?_) | (with_reducible refine HeldP.f_drew ?_) | (with_reducible refine HeldP.f_drewN ?_) | (with_reducible refine HeldP.f_set ?_) | (with_reducible refine HeldP.f_new (by first | omega | (simp; done) | (simp; omega))) | (with_reducible refine HeldP.f_alloc ?_ ?_) | (with_reducible refine HeldP.s_drew ?_) | (with_reducible refine HeldP.s_drewN ?_) | (with_reducible refine HeldP.s_set ?_) | (with_reducible refine HeldP.s_new (by first | omega | (simp; done) | (simp; omega))) | (with_reducible refine HeldP.s_alloc ?_) | (with_reducible exact ⟨_, by assumption⟩) | omega | (intro e; simp at e; done) | (intro e; simp at e; omega) | (exact rfl) | (simp; done) | (simp; omega))), by have q := HL3.out; (repeat' (first | (with_reducible exact q) | (with_reducible refine BlkP.Blk.drew ?_) | (with_reducible refine BlkP.Blk.drewN ?_ _) | (with_reducible refine BlkP.Blk.setAt (us := ?_) (by first | omega | (simp; done) | (simp; omega)) rfl ?_ ?_) | (with_reducible refine BlkP.Blk.otherAt ?_ (by first | omega | (simp; done) | (simp; omega))) | (with_reducible refine BlkP.Blk.newA' (by first | omega | (simp; done) | (simp; omega)) rfl) | (with_reducible refine BlkP.Blk.alloc ?_ _) | (exact rfl)))⟩) (fun hHeld => ?_)
  clear hK K
  refine wpAnyH_done (by kernel_rfl) ?_ _
  refine NoPanic.normal ?_
  go_wp2_with fail
  go_end0
  have hlm := FldM.litM (w := W3.drew) (f := f.told (x, y, z) g (n + 1) c) (HFM3.out.below (Below.refl _ _).drew) HVC.out HCC.out a b
  refine ⟨rfl, g, c, by rw [HLN.out, HNBE.out]; exact hlm.1, ?_, HGF.out⟩
  exact (HFR2.out.trans (Fr.below (SL f) (HB3.out.trans (Below.refl _ _).drew)) (fun i hi => .inl hi)).trans hlm.2 (fun i hi => .inl (.inr (.inr (by have e : i = gc := hi; rw [e, show f.vL = _ from HVC.out]; rfl))))
 ·go_simp
  refine hK.out _ _ (by have q := HP.out; (repeat' (first | (with_reducible exact q) | (with_reducible refine BlkP.Blk.drew ?_) | (with_reducible refine BlkP.Blk.drewN ?_ _) | (with_reducible refine BlkP.Blk.setAt (us := ?_) (by first | omega | (simp; done) | (simp; omega)) rfl ?_ ?_) | (with_reducible refine BlkP.Blk.otherAt ?_ (by first | omega | (simp; done) | (simp; omega))) | (with_reducible refine BlkP.Blk.newA' (by first | omega | (simp; done) | (simp; omega)) rfl) | (with_reducible refine BlkP.Blk.alloc ?_ _) | (exact rfl)))) (fun hHeld => ?_)
  clear hK K
  have c8' : (W.alloc (.cells #[.int .i64 x, .int .i64 y, .int .i64 z] TP)).cell? ⟨f.F, 9, none⟩ = some (.slice A n cA) := by have q := HC8.out; have hl := HFL.out; (repeat' (first | (with_reducible assumption) | (with_reducible refine HeldP.c_drew ?_) | (with_reducible refine HeldP.c_drewN ?_) | (with_reducible refine HeldP.c_same (by omega) ?_) | (with_reducible refine HeldP.c_other ?_ ?_) | (with_reducible refine HeldP.c_new (by first | omega | (simp; done) | (simp; omega)) ?_) | (with_reducible refine HeldP.c_alloc ?_ ?_) | (with_reducible refine HeldP.e_drew ?_) | (with_reducible refine HeldP.e_drewN ?_) | (with_reducible refine HeldP.e_set ?_) | (with_reducible refine HeldP.e_new (by first | omega | (simp; done) | (simp; omega)) ⟨_, rfl⟩) | (with_reducible refine HeldP.e_alloc ?_ ?_) | (with_reducible refine HeldP.f_drew ?_) | (with_reducible refine HeldP.f_drewN ?_) | (with_reducible refine HeldP.f_set ?_) | (with_reducible refine HeldP.f_new (by first | omega | (simp; done) | (simp; omega))) | (with_reducible refine HeldP.f_alloc ?_ ?_) | (with_reducible refine HeldP.s_drew ?_) | (with_reducible refine HeldP.s_drewN ?_) | (with_reducible refine HeldP.s_set ?_) | (with_reducible refine HeldP.s_new (by first | omega | (simp; done) | (simp; omega))) | (with_reducible refine HeldP.s_alloc ?_) | (with_reducible exact ⟨_, by assumption⟩) | omega | (intro e; simp at e; done) | (intro e; simp at e; omega) | (exact rfl) | (simp; done) | (simp; omega)))
  refine wpAnyH_ready (rs := [4]) (by kernel_rfl) (by simp) ?_
  refine AllReadyH.cons (o := ⟨some 12, _, _, _, _, _⟩) rfl (fun K hK => ?_) AllReadyH.nil
  go_simp
  refine hK.out _ _ (hHeld) (fun hHeld => ?_)
  clear hK K
  refine wpAnyH_ready (rs := [7]) (by kernel_rfl) (by simp) ?_
  refine AllReadyH.cons (o := ⟨some 15, _, _, _, _, _⟩) rfl (fun K hK => ?_) AllReadyH.nil
  refine step_pushP (w0 := W.drew) (y := (x, y, z)) (v := .slice A n cA) (l := f.ts) rfl (.tmp 12) (.tmp 14) rfl rfl rfl rfl HAK.out rfl HLN.out (by omega) (Nat.zero_le _) ?_
  intro g c w6 hp
  have HPU := Lib.hid hp
  have f1 : Fr (fun k => (Value.slice A n cA).ownBlock = some k) W.drew w6 := Fr.grown hp.2.1 (fun i e => e)
  have hb6 : Blk w6 f.F TW (fcells f) := f1.blk HFM.out.blk (by rw [← HVA.out]; exact HNF.out)
  have HB6 := Lib.hid (show Blk w6 w.heap.size TP [.int .i64 x, .int .i64 y, .int .i64 z] from f1.blk HP.out (by rw [← HVA.out]; exact HNP.out))
  have c8 : w6.cell? ⟨f.F, 9, none⟩ = some f.vT := hb6.cell (i := 9) rfl
  have z8 := hb6.frozen 9
  have HBB := Lib.hid hb6
  clear hp f1 hb6
  refine hK.out _ _ (HB6.out) (fun hHeld => ?_)
  clear hK K
  refine wpAnyH_take (i := 8) (oi := ⟨some 16, _, _, _, _, _⟩) (v := .pointer (some ⟨f.F, 0, none⟩)) rfl (by kernel_rfl) (by kernel_rfl) (by kernel_rfl) (fun _ _ _ h => h) (Or.inl ⟨by rfl, fun Xw hSW => by go_simp⟩) hHeld ?_
  simp only [Act.put, List.setIfInBounds_toArray, List.set_cons_zero, List.set_cons_succ]
  refine wpAnyH_take (i := 9) (oi := ⟨some 17, _, _, _, _, _⟩) (v := .pointer (some ⟨f.F, 9, none⟩)) rfl (by kernel_rfl) (by kernel_rfl) (by kernel_rfl) (fun _ _ _ h => h) (Or.inl ⟨by rfl, fun Xw hSW => by go_simp⟩) hHeld ?_
  simp only [Act.put, List.setIfInBounds_toArray, List.set_cons_zero, List.set_cons_succ]
  refine wpAnyH_ready (rs := [10]) (by kernel_rfl) (by simp) ?_
  refine AllReadyH.cons (o := ⟨none, _, _, _, _, _⟩) rfl (fun K hK => ?_) AllReadyH.nil
  go_simp
  refine hK.out _ _ (by have q := HB6.out; (repeat' (first | (with_reducible exact q) | (with_reducible refine BlkP.Blk.drew ?_) | (with_reducible refine BlkP.Blk.drewN ?_ _) | (with_reducible refine BlkP.Blk.setAt (us := ?_) (by first | omega | (simp; done) | (simp; omega)) rfl ?_ ?_) | (with_reducible refine BlkP.Blk.otherAt ?_ (by first | omega | (simp; done) | (simp; omega))) | (with_reducible refine BlkP.Blk.newA' (by first | omega | (simp; done) | (simp; omega)) rfl) | (with_reducible refine BlkP.Blk.alloc ?_ _) | (exact rfl)))) (fun hHeld => ?_)
  clear hK K
  refine wpAnyH_done (by kernel_rfl) ?_ _
  refine NoPanic.normal ?_
  have HFN := Lib.hid (show FldM (w6.setCell ⟨f.F, 9, none⟩ (.slice (some ⟨g, 0, none⟩) (n + 1) c)) (f.told (x, y, z) g (n + 1) c) ∧ Fr (SL f) W (w6.setCell ⟨f.F, 9, none⟩ (.slice (some ⟨g, 0, none⟩) (n + 1) c)) from FldM.notedT (w0 := W) HFM.out ⟨(by have q := HPU.out.1; exact q), (by have q := HPU.out.2.1; rw [HVA.out]; exact ⟨q.os, q.tape, q.output, q.size, q.block⟩), by have q := HPU.out.2.2; rw [HVA.out]; exact q⟩)
  refine HeldP.then_named (S := fun W' => Blk W' w.heap.size TP [.int .i64 x, .int .i64 y, .int .i64 z] ∧ Blk W' (w.heap.size + 1) TL [.int .u8 a, .int .u8 b] ∧ FldM W' (f.told (x, y, z) g (n + 1) c) ∧ Fr (SL f) w W' ∧ w.heap.size + 2 ≤ W'.heap.size) ⟨by have q := HB6.out; have e := HFL.out; (repeat' (first | (with_reducible exact q) | (with_reducible refine BlkP.Blk.drew ?_) | (with_reducible refine BlkP.Blk.drewN ?_ _) | (with_reducible refine BlkP.Blk.setAt (us := ?_) (by first | omega | (simp; done) | (simp; omega)) rfl ?_ ?_) | (with_reducible refine BlkP.Blk.otherAt ?_ (by first | omega | (simp; done) | (simp; omega))) | (with_reducible refine BlkP.Blk.newA' (by first | omega | (simp; done) | (simp; omega)) rfl) | (with_reducible refine BlkP.Blk.alloc ?_ _) | (exact rfl))), HFN.out.2.blk HR.out (by
    rintro (e | e | e)
    ·omega
    ·exact HNR.out e
    ·have := (HFM0.out.ls.ge _ e).2
     omega), HFN.out.1, (Fr.below (SL f) HBW.out).trans HFN.out.2 (fun i hi => .inl hi), by
    have := HFN.out.2.size
    omega⟩ ?_
  rintro W2 ⟨hp2, hr2, hfm2, hfr2, hz2⟩
  have HGF := Lib.hid (show f.vT.ownBlock = some g ∨ w.heap.size ≤ g from by
   rcases HPU.out.2.2 with q | q
   ·rw [HVA.out]; exact .inl q
   ·refine .inr ?_
    have q2 : W.heap.size ≤ g := q
    omega)
  have HR2 := Lib.hid hr2
  have HFM2 := Lib.hid hfm2
  have HFR2 := Lib.hid hfr2
  have p0 : W2.cell? ⟨w.heap.size, 0, none⟩ = some (.int .i64 x) := hp2.cell (i := 0) rfl
  have p1 : W2.cell? ⟨w.heap.size, 1, none⟩ = some (.int .i64 y) := hp2.cell (i := 1) rfl
  have p2 : W2.cell? ⟨w.heap.size, 2, none⟩ = some (.int .i64 z) := hp2.cell (i := 2) rfl
  clear hp2 hr2 hfm2 hfr2 c8 z8 HB6 HBB HFN HPU HC8 HFL HAK HP HR HFM HBW hz
  try clear c8'
  have HIX := Lib.hid (show idxV (f.told (x, y, z) g (n + 1) c) (x, y, z) = .tuple #[.int .i64 (numB f (x, y, z)), .bool true] by unfold idxV; rw [show inB (f.told (x, y, z) g (n + 1) c) (x, y, z) = true from HIB.out]; rfl)
  have hnb := numB_lt HW.out HIB.out
  rw [← HW.out.ls] at hnb
  obtain ⟨cc, hcc⟩ : ∃ cc, f.ls[numB f (x, y, z)]? = some cc := ⟨_, List.getElem?_eq_getElem hnb⟩
  obtain ⟨nb, hnbe⟩ : ∃ nb, numB f (x, y, z) = nb := ⟨_, rfl⟩
  have HNBE := Lib.hid hnbe
  rw [hnbe] at HIX hnb hcc
  have HCC := Lib.hid hcc
  obtain ⟨ln, hln⟩ : ∃ ln, f.ls.length = ln := ⟨_, rfl⟩
  rw [hln] at hnb
  obtain ⟨Ac, c2, hvc, hc2, _, hgc⟩ := HFM2.out.ls.form (n := ln) hln
  obtain ⟨gc, rfl, _, hgl⟩ := hgc (by omega)
  have HVC := Lib.hid hvc
  have HGW := Lib.hid (show gc < w.heap.size from (HFM0.out.ls.ge gc (by rw [show f.vL = _ from hvc]; rfl)).2)
  have HFG := Lib.hid (show f.F ≠ gc from fun e => by
   obtain ⟨us, hu⟩ := own_cells HFM0.out.ls (g := gc) (by rw [show f.vL = _ from hvc]; rfl)
   exact Blk.ne HFM0.out.blk hu (by decide) e)
  have hnbI : (nb : Int) < ln := by omega
  clear hcc hln hvc hgc hnbe
  go_wp2_with fail
  go_at_call 16
  refine (fidx_c HFM2.out (told_w HW.out) HMQ.out).mono ?_
  rintro e W3 ⟨rfl, hb3⟩
  rw [HIX.out]
  have HB3 := Lib.hid hb3
  have hfm3 := HFM2.out.below hb3
  have HFM3 := Lib.hid hfm3
  have cF : W3.cell? ⟨f.F, 7, none⟩ = some (.slice (some ⟨gc, 0, none⟩) ln c2) := (hfm3.blk.cell (i := 7) rfl).trans (congrArg some HVC.out)
  have HO3 := Lib.hid (show RowG.Own enc2 TL W3 0 (.slice (some ⟨gc, 0, none⟩) ln c2) f.ls from HVC.out ▸ hfm3.ls)
  have HL3 := Lib.hid (HR2.out.below hb3)
  have k0 : W3.cell? ⟨gc, nb * 2, none⟩ = some (.int .u8 (cc.1 : Int)) := HO3.out.cell (j := 0) HCC.out rfl
  have k1 : W3.cell? ⟨gc, nb * 2 + 1, none⟩ = some (.int .u8 (cc.2 : Int)) := HO3.out.cell (j := 1) HCC.out rfl
  have z0 := HO3.out.frozen (nb * 2)
  have z1 := HO3.out.frozen (nb * 2 + 1)
  have hgw := HGW.out
  have hfg := HFG.out
  have hgf : gc ≠ f.F := fun e => hfg e.symm
  have hg1 : w.heap.size + 1 ≠ gc := by omega
  have hg2 : gc ≠ w.heap.size + 1 := by omega
  clear hb3 p0 p1 p2 hfm3
  go_wp2_with fail
  refine wp_region_noPanic ?_
  refine wp_region_held_drew (S := fun Xw => Xw.cell? ⟨f.F, 7, none⟩ = some (.slice (some ⟨gc, 0, none⟩) ln c2) ∧ Blk Xw (w.heap.size + 1) TL [.int .u8 a, .int .u8 b]) (by kernel_rfl) (⟨cF, HL3.out⟩) (fun hHeld => ?_)
  refine wpAnyH_take (i := 0) (oi := ⟨some 25, _, _, _, _, _⟩) (v := .pointer (some ⟨f.F, 0, none⟩)) rfl (by kernel_rfl) (by kernel_rfl) (by kernel_rfl) (fun _ _ _ h => h) (Or.inl ⟨by rfl, fun Xw hSW => by go_simp⟩) hHeld ?_
  simp only [Act.put, List.setIfInBounds_toArray, List.set_cons_zero, List.set_cons_succ]
  refine wpAnyH_take (i := 1) (oi := ⟨some 26, _, _, _, _, _⟩) (v := .pointer (some ⟨f.F, 0, none⟩)) rfl (by kernel_rfl) (by kernel_rfl) (by kernel_rfl) (fun _ _ _ h => h) (Or.inl ⟨by rfl, fun Xw hSW => by go_simp⟩) hHeld ?_
  simp only [Act.put, List.setIfInBounds_toArray, List.set_cons_zero, List.set_cons_succ]
  refine wpAnyH_take (i := 2) (oi := ⟨some 27, _, _, _, _, _⟩) (v := .pointer (some ⟨f.F, 7, none⟩)) rfl (by kernel_rfl) (by kernel_rfl) (by kernel_rfl) (fun _ _ _ h => h) (Or.inl ⟨by rfl, fun Xw hSW => by go_simp⟩) hHeld ?_
  simp only [Act.put, List.setIfInBounds_toArray, List.set_cons_zero, List.set_cons_succ]
  refine wpAnyH_take (i := 3) (oi := ⟨some 28, _, _, _, _, _⟩) (v := .slice (some ⟨gc, 0, none⟩) ln c2) rfl (by kernel_rfl) (by kernel_rfl) (by kernel_rfl) (fun _ _ _ h => h) (Or.inl ⟨by rfl, fun Xw hSW => by have q := hSW.1; go_simp⟩) hHeld ?_
  simp only [Act.put, List.setIfInBounds_toArray, List.set_cons_zero, List.set_cons_succ]
  refine wpAnyH_take (i := 4) (oi := ⟨some 29, _, _, _, _, _⟩) (v := .int .i64 nb) rfl (by kernel_rfl) (by kernel_rfl) (by kernel_rfl) (fun _ _ _ h => h) (Or.inl ⟨by rfl, fun Xw hSW => by go_simp⟩) hHeld ?_
  simp only [Act.put, List.setIfInBounds_toArray, List.set_cons_zero, List.set_cons_succ]
  refine wpAnyH_take (i := 5) (oi := ⟨some 30, _, _, _, _, _⟩) (v := .agg #[.int .u8 a, .int .u8 b]) rfl (by kernel_rfl) (by kernel_rfl) (by kernel_rfl) (fun _ _ _ h => h) (Or.inl ⟨by rfl, fun Xw hSW => by have a0 := hSW.2.cell (i := 0) rfl; have a1 := hSW.2.cell (i := 1) rfl; go_simp⟩) hHeld ?_
  simp only [Act.put, List.setIfInBounds_toArray, List.set_cons_zero, List.set_cons_succ]
  refine wpAnyH_take (i := 6) (oi := ⟨some 31, _, _, _, _, _⟩) (v := .pointer (some ⟨gc, nb * 2, none⟩)) rfl (by kernel_rfl) (by kernel_rfl) (by kernel_rfl) (fun _ _ _ h => h) (Or.inl ⟨by rfl, fun Xw hSW => by go_simp⟩) hHeld ?_
  simp only [Act.put, List.setIfInBounds_toArray, List.set_cons_zero, List.set_cons_succ]
  refine wpAnyH_ready (rs := [7]) (by kernel_rfl) (by simp) ?_
  refine AllReadyH.cons (o := ⟨none, _, _, _, _, _⟩) rfl (fun K hK => ?_) AllReadyH.nil
  go_simp
  refine hK.out _ _ (⟨by have q := cF; (repeat' (first | (with_reducible assumption) | (with_reducible refine HeldP.c_drew ?_) | (with_reducible refine HeldP.c_drewN ?_) | (with_reducible refine HeldP.c_same (by omega) ?_) | (with_reducible refine HeldP.c_other ?_ ?_) | (with_reducible refine HeldP.c_new (by first | omega | (simp; done) | (simp; omega)) ?_) | (with_reducible refine HeldP.c_alloc ?_ ?_) | (with_reducible refine HeldP.e_drew ?_) | (with_reducible refine HeldP.e_drewN ?_) | (with_reducible refine HeldP.e_set ?_) | (with_reducible refine HeldP.e_new (by first | omega | (simp; done) | (simp; omega)) ⟨_, rfl⟩) | (with_reducible refine HeldP.e_alloc ?_ ?_) | (with_reducible refine HeldP.f_drew ?_) | (with_reducible refine HeldP.f_drewN ?_) | (with_reducible refine HeldP.f_set ?_) | (with_reducible refine HeldP.f_new (by first | omega | (simp; done) | (simp; omega))) | (with_reducible refine HeldP.f_alloc ?_ ?_) | (with_reducible refine HeldP.s_drew ?_) | (with_reducible refine HeldP.s_drewN ?_) | (with_reducible refine HeldP.s_set ?_) | (with_reducible refine HeldP.s_new (by first | omega | (simp; done) | (simp; omega))) | (with_reducible refine HeldP.s_alloc ?_) | (with_reducible exact ⟨_, by assumption⟩) | omega | (intro e; simp at e; done) | (intro e; simp at e; omega) | (exact rfl) | (simp; done) | (simp; omega))), by have q := HL3.out; (repeat' (first | (with_reducible exact q) | (with_reducible refine BlkP.Blk.drew ?_) | (with_reducible refine BlkP.Blk.drewN ?_ _) | (with_reducible refine BlkP.Blk.setAt (us := ?_) (by first | omega | (simp; done) | (simp; omega)) rfl ?_ ?_) | (with_reducible refine BlkP.Blk.otherAt ?_ (by first | omega | (simp; done) | (simp; omega))) | (with_reducible refine BlkP.Blk.newA' (by first | omega | (simp; done) | (simp; omega)) rfl) | (with_reducible refine BlkP.Blk.alloc ?_ _) | (exact rfl)))⟩) (fun hHeld => ?_)
  clear hK K
  refine wpAnyH_done (by kernel_rfl) ?_ _
  refine NoPanic.normal ?_
  go_wp2_with fail
  go_end0
  have hlm := FldM.litM (w := W3.drew) (f := f.told (x, y, z) g (n + 1) c) (HFM3.out.below (Below.refl _ _).drew) HVC.out HCC.out a b
  refine ⟨rfl, g, c, by rw [HLN.out, HNBE.out]; exact hlm.1, ?_, HGF.out⟩
  exact (HFR2.out.trans (Fr.below (SL f) (HB3.out.trans (Below.refl _ _).drew)) (fun i hi => .inl hi)).trans hlm.2 (fun i hi => .inl (.inr (.inr (by have e : i = gc := hi; rw [e, show f.vL = _ from HVC.out]; rfl))))
end FloodW
end Go.Proofs.YtpimkdaikoclnaaDoor
namespace Go.Proofs.YtpimkdaikoclnaaDoor
open Go.RowKit
set_option linter.unusedVariables false
set_option linter.unusedSimpArgs false
namespace FloodW
open BlkP RowG GlowW FloodP
def entK (i : Nat) (c : V × Nat) : MapEntry := { key := .agg #[.int .i64 c.1.1, .int .i64 c.1.2.1, .int .i64 c.1.2.2], val := .pointer (some ⟨c.2, 0, none⟩), born := i }
theorem ents_mem : ∀ {l : List (V × Nat)} {s : Nat} {e : MapEntry}, e ∈ ents s l ↔ ∃ i c, l[i]? = some c ∧ e = entK (s + i) c
 | [], s, e => by simp [ents]
 | c :: r, s, e => by
  show e ∈ entK s c :: ents (s + 1) r ↔ _
  rw [List.mem_cons, ents_mem (l := r)]
  constructor
  ·rintro (h | ⟨i, d, h1, h2⟩)
   ·exact ⟨0, c, rfl, h⟩
   ·exact ⟨i + 1, d, by simpa using h1, by rw [h2]; congr 1; omega⟩
  ·rintro ⟨i, d, h1, h2⟩
   cases i with
   | zero =>
    have e1 : c = d := by simpa using h1
    subst e1
    exact .inl h2
   | succ i => exact .inr ⟨i, d, by simpa using h1, by rw [h2]; congr 1; omega⟩
theorem ents_born : ∀ (l : List (V × Nat)) (s : Nat), (ents s l).map (·.born) = List.range' s l.length
 | [], s => rfl
 | c :: r, s => by
  show s :: (ents (s + 1) r).map (·.born) = _
  rw [ents_born r (s + 1)]
  rfl
theorem ents_nodup (l : List (V × Nat)) (s : Nat) : ((ents s l).map (·.born)).Nodup := by
 rw [ents_born]
 exact List.nodup_range' (step := 1)
theorem ents_lt {l : List (V × Nat)} {e : MapEntry} (h : e ∈ (ents 0 l).toArray.toList) : e.born < l.length := by
 obtain ⟨i, c, h1, h2⟩ := ents_mem.1 (by simpa using h)
 rw [h2]
 show 0 + i < _
 have := (List.getElem?_eq_some_iff.1 h1).1
 omega
theorem left_mem {l : List (V × Nat)} {seen : Array Nat} {e : MapEntry} (h : e ∈ (leftOf (ents 0 l).toArray seen).toList) : ∃ i c, l[i]? = some c ∧ e = entK i c ∧ i ∉ seen.toList := by
 unfold leftOf at h
 simp only [Array.toList_filter, List.mem_filter, Bool.not_eq_true'] at h
 obtain ⟨i, c, h1, h2⟩ := ents_mem.1 h.1
 refine ⟨i, c, h1, by rw [h2]; congr 1; omega, fun hi => ?_⟩
 have h3 := h.2
 rw [h2] at h3
 have h4 : (entK (0 + i) c).born = i := by show 0 + i = i; omega
 rw [h4] at h3
 have := Array.contains_iff_mem.2 (Array.mem_toList_iff.1 hi)
 rw [this] at h3
 cases h3
theorem left_none {l : List (V × Nat)} {seen : Array Nat} (h : (leftOf (ents 0 l).toArray seen).size = 0) {i : Nat} (hi : i < l.length) : i ∈ seen.toList := by
 apply Classical.byContradiction
 intro hn
 have hm : entK i l[i] ∈ (leftOf (ents 0 l).toArray seen).toList := by
  unfold leftOf
  simp only [Array.toList_filter, List.mem_filter, Bool.not_eq_true']
  refine ⟨ents_mem.2 ⟨i, l[i], by simp [hi], by congr 1; omega⟩, ?_⟩
  have h4 : (entK i l[i]).born = i := rfl
  rw [h4, ← Bool.not_eq_true]
  intro hc
  exact hn (Array.mem_toList_iff.2 (Array.contains_iff_mem.1 hc))
 rw [Array.eq_empty_of_size_eq_zero h] at hm
 cases hm
def outL (l : List (V × Nat)) (ch : V → Bool) (seen : List Nat) : List V := (seen.filterMap (fun i => (l[i]?).map (·.1))).filter ch
theorem outL_push {l : List (V × Nat)} {ch : V → Bool} {seen : List Nat} {i : Nat} {c : V × Nat} (h : l[i]? = some c) : outL l ch (seen ++ [i]) = outL l ch seen ++ (if ch c.1 = true then [c.1] else []) := by
 unfold outL
 rw [List.filterMap_append, List.filter_append]
 congr 1
 simp only [List.filterMap_cons, h, Option.map_some, List.filterMap_nil]
 cases hc : ch c.1 <;> simp [hc]
theorem outL_mem {l : List (V × Nat)} {ch : V → Bool} {seen : List Nat} (hall : ∀ i, i < l.length → i ∈ seen) (q : V) : q ∈ outL l ch seen ↔ q ∈ l.map (·.1) ∧ ch q = true := by
 unfold outL
 rw [List.mem_filter]
 constructor
 ·rintro ⟨h1, h2⟩
  obtain ⟨i, _, h3⟩ := List.mem_filterMap.1 h1
  cases e : l[i]? with
  | none => rw [e] at h3; cases h3
  | some c =>
   rw [e] at h3
   have : c.1 = q := by simpa using h3
   subst this
   exact ⟨List.mem_map.2 ⟨c, List.mem_of_getElem? e, rfl⟩, h2⟩
 ·rintro ⟨h1, h2⟩
  obtain ⟨c, hc, rfl⟩ := List.mem_map.1 h1
  obtain ⟨i, hi⟩ := List.getElem?_of_mem hc
  exact ⟨List.mem_filterMap.2 ⟨i, hall i (List.getElem?_eq_some_iff.1 hi).1, by rw [hi]; rfl⟩, h2⟩
theorem outL_nodup {l : List (V × Nat)} {ch : V → Bool} {seen : List Nat} (hl : (l.map (·.1)).Nodup) (hs : seen.Nodup) : (outL l ch seen).Nodup := by
 unfold outL
 refine List.Pairwise.filter _ ?_
 show List.Nodup _
 induction seen with
 | nil => exact List.nodup_nil
 | cons i r ih =>
  have hr := List.nodup_cons.1 hs
  rw [List.filterMap_cons]
  cases e : l[i]? with
  | none => exact ih hr.2
  | some c =>
   refine List.nodup_cons.2 ⟨fun hc => ?_, ih hr.2⟩
   obtain ⟨j, hj, hj2⟩ := List.mem_filterMap.1 hc
   cases e2 : l[j]? with
   | none => rw [e2] at hj2; cases hj2
   | some d =>
    rw [e2] at hj2
    have hd : d.1 = c.1 := by simpa using hj2
    have h1 : (l.map (·.1))[i]? = some c.1 := by rw [List.getElem?_map, e]; rfl
    have h2 : (l.map (·.1))[j]? = some c.1 := by rw [List.getElem?_map, e2]; simp [hd]
    have : i = j := nodup_inj hl h1 h2
    subst this
    exact hr.1 hj
end FloodW
end Go.Proofs.YtpimkdaikoclnaaDoor
namespace Go.Proofs.YtpimkdaikoclnaaDoor
open Go.Shelf
set_option linter.unusedVariables false
namespace FloodW
def sortL_ren : Go.Shelf.Ren := ⟨fun | 6 => 43 | 15 => 56 | 14 => 55 | 28 => 73 | 29 => 74 | 20 => 65 | 21 => 66 | 22 => 67 | 23 => 68 | 24 => 69 | 25 => 70 | 26 => 71 | 27 => 72 | 46 => 78 | 47 => 79 | 48 => 80 | 49 => 81 | 50 => 82 | 57 => 84 | n => n, fun | 22 => 46 | 24 => 23 | 25 => 59 | 3 => 3 | 39 => 103 | 0 => 0 | 53 => 120 | 55 => 122 | 4 => 4 | 46 => 114 | 45 => 113 | 50 => 53 | 5 => 5 | 9 => 9 | 66 => 126 | 70 => 130 | 76 => 133 | 77 => 134 | n => n, fun | n => n⟩
theorem sortL : Go.Proofs.SlLaysF0.n6 Tryd.prog sortL_ren := {
 mixed := by kernel_rfl
 f6 := ⟨Tryd.f43.name, by decide, Tryd.func43.trans (congrArg some (by kernel_rfl))⟩
 f14 := ⟨Tryd.f55.name, by decide, Tryd.func55.trans (congrArg some (by kernel_rfl))⟩
 f15 := Tryd.func56.trans (congrArg some (by kernel_rfl))
 f20 := ⟨Tryd.f65.name, by decide, Tryd.func65.trans (congrArg some (by kernel_rfl))⟩
 f21 := ⟨Tryd.f66.name, by decide, Tryd.func66.trans (congrArg some (by kernel_rfl))⟩
 f22 := ⟨Tryd.f67.name, by decide, Tryd.func67.trans (congrArg some (by kernel_rfl))⟩
 f23 := ⟨Tryd.f68.name, by decide, Tryd.func68.trans (congrArg some (by kernel_rfl))⟩
 f24 := ⟨Tryd.f69.name, by decide, Tryd.func69.trans (congrArg some (by kernel_rfl))⟩
 f25 := ⟨Tryd.f70.name, by decide, Tryd.func70.trans (congrArg some (by kernel_rfl))⟩
 f26 := ⟨Tryd.f71.name, by decide, Tryd.func71.trans (congrArg some (by kernel_rfl))⟩
 f27 := ⟨Tryd.f72.name, by decide, Tryd.func72.trans (congrArg some (by kernel_rfl))⟩
 f28 := Tryd.func73.trans (congrArg some (by kernel_rfl))
 f29 := Tryd.func74.trans (congrArg some (by kernel_rfl))
 f46 := ⟨Tryd.f78.name, by decide, Tryd.func78.trans (congrArg some (by kernel_rfl))⟩
 f47 := Tryd.func79.trans (congrArg some (by kernel_rfl))
 f48 := Tryd.func80.trans (congrArg some (by kernel_rfl))
 f49 := ⟨Tryd.f81.name, by decide, Tryd.func81.trans (congrArg some (by kernel_rfl))⟩
 f50 := ⟨Tryd.f82.name, by decide, Tryd.func82.trans (congrArg some (by kernel_rfl))⟩
 f57 := ⟨Tryd.f84.name, by decide, Tryd.func84.trans (congrArg some (by kernel_rfl))⟩
 t0 := Tryd.underlying0
 a0 := Tryd.isAgg0
 z0 := Tryd.sizeOf0
 v0 := Tryd.zeroValue0
 t3 := Tryd.underlying3
 a3 := Tryd.isAgg3
 z3 := Tryd.sizeOf3
 v3 := Tryd.zeroValue3
 t4 := Tryd.underlying4
 a4 := Tryd.isAgg4
 z4 := Tryd.sizeOf4
 v4 := Tryd.zeroValue4
 t5 := Tryd.underlying5
 a5 := Tryd.isAgg5
 z5 := Tryd.sizeOf5
 v5 := Tryd.zeroValue5
 t9 := Tryd.underlying9
 a9 := Tryd.isAgg9
 z9 := Tryd.sizeOf9
 v9 := Tryd.zeroValue9
 t22 := Tryd.underlying46
 a22 := Tryd.isAgg46
 z22 := Tryd.sizeOf46
 v22 := Tryd.zeroValue46
 t25 := Tryd.underlying59
 a25 := Tryd.isAgg59
 z25 := Tryd.sizeOf59
 v25 := Tryd.zeroValue59
 t39 := Tryd.underlying103
 a39 := Tryd.isAgg103
 z39 := Tryd.sizeOf103
 v39 := Tryd.zeroValue103
 t45 := Tryd.underlying113
 a45 := Tryd.isAgg113
 z45 := Tryd.sizeOf113
 v45 := Tryd.zeroValue113
 t46 := Tryd.underlying114
 a46 := Tryd.isAgg114
 z46 := Tryd.sizeOf114
 v46 := Tryd.zeroValue114
 t50 := Tryd.underlying53
 a50 := Tryd.isAgg53
 z50 := Tryd.sizeOf53
 v50 := Tryd.zeroValue53
 t53 := Tryd.underlying120
 a53 := Tryd.isAgg120
 z53 := Tryd.sizeOf120
 v53 := Tryd.zeroValue120
 t55 := Tryd.underlying122
 a55 := Tryd.isAgg122
 z55 := Tryd.sizeOf122
 v55 := Tryd.zeroValue122
 t66 := Tryd.underlying126
 a66 := Tryd.isAgg126
 z66 := Tryd.sizeOf126
 v66 := Tryd.zeroValue126
 t70 := Tryd.underlying130
 a70 := Tryd.isAgg130
 z70 := Tryd.sizeOf130
 v70 := Tryd.zeroValue130
 t76 := Tryd.underlying133
 a76 := Tryd.isAgg133
 z76 := Tryd.sizeOf133
 v76 := Tryd.zeroValue133
 t77 := Tryd.underlying134
 a77 := Tryd.isAgg134
 z77 := Tryd.sizeOf134
 v77 := Tryd.zeroValue134 }
end FloodW
end Go.Proofs.YtpimkdaikoclnaaDoor
namespace Go.Proofs.YtpimkdaikoclnaaDoor
open Go.RowKit
set_option linter.unusedVariables false
set_option linter.unusedSimpArgs false
namespace FloodW
open BlkP RowG GlowW FloodP Go.Sort
def Grw (w w' : World) : Prop := ∃ q os, w' = grow (w.drewN q) os
theorem Grw.refl (w : World) : Grw w w := ⟨0, #[], by rw [grow_empty]; rfl⟩
theorem Grw.alloc {w W : World} (h : Grw w W) (o : Obj) : Grw w (W.alloc o) := by
 obtain ⟨q, os, rfl⟩ := h
 exact ⟨q, os ++ #[o], by rw [alloc_eq_grow, grow_grow]⟩
theorem Grw.drew {w W : World} (h : Grw w W) : Grw w W.drew := by
 obtain ⟨q, os, rfl⟩ := h
 exact ⟨q + 1, os, rfl⟩
theorem Grw.drewN {w W : World} (h : Grw w W) (n : Nat) : Grw w (W.drewN n) := by
 obtain ⟨q, os, rfl⟩ := h
 exact ⟨q + n, os, by simp [World.drewN, grow, Nat.add_assoc]⟩
theorem keepG {x y z u v t : Int} {w W : World} (o : Obj) (h : (W.cell? ⟨w.heap.size, 0, none⟩ = some (.int .i64 x) ∧ W.cell? ⟨w.heap.size, 1, none⟩ = some (.int .i64 y) ∧ W.cell? ⟨w.heap.size, 2, none⟩ = some (.int .i64 z) ∧ W.cell? ⟨w.heap.size + 1, 0, none⟩ = some (.int .i64 u) ∧ W.cell? ⟨w.heap.size + 1, 1, none⟩ = some (.int .i64 v) ∧ W.cell? ⟨w.heap.size + 1, 2, none⟩ = some (.int .i64 t) ∧ w.heap.size + 1 < W.heap.size ∧ Below w.heap.size w W) ∧ Grw w W) :
  ((W.alloc o).cell? ⟨w.heap.size, 0, none⟩ = some (.int .i64 x) ∧ (W.alloc o).cell? ⟨w.heap.size, 1, none⟩ = some (.int .i64 y) ∧ (W.alloc o).cell? ⟨w.heap.size, 2, none⟩ = some (.int .i64 z) ∧ (W.alloc o).cell? ⟨w.heap.size + 1, 0, none⟩ = some (.int .i64 u) ∧ (W.alloc o).cell? ⟨w.heap.size + 1, 1, none⟩ = some (.int .i64 v) ∧ (W.alloc o).cell? ⟨w.heap.size + 1, 2, none⟩ = some (.int .i64 t) ∧ w.heap.size + 1 < (W.alloc o).heap.size ∧ Below w.heap.size w (W.alloc o)) ∧ Grw w (W.alloc o) :=
 ⟨PlaceW.keep2 ((Below.refl _ _).alloc (Nat.le_refl _) _) h.1, h.2.alloc o⟩
set_option maxHeartbeats 1000000 in
theorem cmpG_c {x y z u v t n : Int} (h : PlaceW.cmpOf x y z u v t = n) (w : World) :
  Calls Tryd.prog 44 #[.agg #[.int .i64 x, .int .i64 y, .int .i64 z], .agg #[.int .i64 u, .int .i64 v, .int .i64 t]] w fun e w' => e = .returned (.int .i64 n) ∧ Grw w w' := by
 obtain ⟨a, ha⟩ : ∃ a, PlaceW.cmpI x u = a := ⟨_, rfl⟩
 obtain ⟨b, hb⟩ : ∃ b, PlaceW.cmpI z t = b := ⟨_, rfl⟩
 obtain ⟨c, hc⟩ : ∃ c, PlaceW.cmpI y v = c := ⟨_, rfl⟩
 have H : Hid (PlaceW.firstNZ [a, b, c] = n) := Lib.hid (by rw [← h, PlaceW.cmpOf, ha, hb, hc])
 have HA := Lib.hid ha
 have HB := Lib.hid hb
 have HC := Lib.hid hc
 clear h ha hb hc
 go_enter Tryd.func44, Tryd.ntmps44
 go_wp2_with fail
 go_region_held3 (fun w' => (w'.cell? ⟨w.heap.size, 0, none⟩ = some (.int .i64 x) ∧ w'.cell? ⟨w.heap.size, 1, none⟩ = some (.int .i64 y) ∧ w'.cell? ⟨w.heap.size, 2, none⟩ = some (.int .i64 z) ∧ w'.cell? ⟨w.heap.size + 1, 0, none⟩ = some (.int .i64 u) ∧ w'.cell? ⟨w.heap.size + 1, 1, none⟩ = some (.int .i64 v) ∧ w'.cell? ⟨w.heap.size + 1, 2, none⟩ = some (.int .i64 t) ∧ w.heap.size + 1 < w'.heap.size ∧ Below w.heap.size w w') ∧ Grw w w')
  (first | assumption | (exact ⟨⟨by simp, by simp, by simp, by simp, by simp, by simp, by simp, (((Below.refl _ _).alloc (Nat.le_refl _) _).alloc (by simp) _).drew⟩, (((Grw.refl _).alloc _).alloc _).drew⟩) | (exact keepG _ (by assumption)))
  (first | (go_at_call 58; (first | (with_reducible refine (PlaceW.compare_c HA.out _).mono ?_) | (with_reducible refine (PlaceW.compare_c HB.out _).mono ?_) | (with_reducible refine (PlaceW.compare_c HC.out _).mono ?_)); rintro e w' ⟨rfl, rfl⟩) | (go_at_call 57; refine (PlaceW.or_c (l := [a, b, c]) _ rfl (by simp) (PlaceW.cells3_new _ _ (by simp)) H.out).mono ?_; rintro e w' ⟨rfl, rfl⟩))
 go_wp2
 go_ret
 refine ⟨rfl, ?_⟩
 repeat' (first | (with_reducible exact Grw.refl _) | (with_reducible refine Grw.alloc ?_ _) | (with_reducible refine Grw.drew ?_) | (with_reducible refine Grw.drewN ?_ _))
def cfP (a b : V) : Int := PlaceW.cmpOf a.1 a.2.1 a.2.2 b.1 b.2.1 b.2.2
def ltP (a b : V) : Prop := a.1 < b.1 ∨ (a.1 = b.1 ∧ (a.2.2 < b.2.2 ∨ (a.2.2 = b.2.2 ∧ a.2.1 < b.2.1)))
theorem cf_lt (a b : V) : cfP a b < 0 ↔ ltP a b := by
 unfold cfP ltP PlaceW.cmpOf PlaceW.cmpI
 by_cases h1 : a.1 < b.1
 ·simp [h1, PlaceW.firstNZ]
 ·by_cases h2 : b.1 < a.1
  ·have : ¬ a.1 = b.1 := by omega
   simp [h1, h2, this, PlaceW.firstNZ]
  ·have e1 : a.1 = b.1 := by omega
   by_cases h3 : a.2.2 < b.2.2
   ·simp [h1, h2, e1, h3, PlaceW.firstNZ]
   ·by_cases h4 : b.2.2 < a.2.2
    ·have : ¬ a.2.2 = b.2.2 := by omega
     simp [h1, h2, e1, h3, h4, this, PlaceW.firstNZ]
    ·have e2 : a.2.2 = b.2.2 := by omega
     by_cases h5 : a.2.1 < b.2.1
     ·simp [h1, h2, e1, h3, h4, e2, h5, PlaceW.firstNZ]
     ·by_cases h6 : b.2.1 < a.2.1
      ·simp [h1, h2, e1, h3, h4, e2, h5, h6, PlaceW.firstNZ]
      ·simp [h1, h2, e1, h3, h4, e2, h5, h6, PlaceW.firstNZ]
theorem lt_true {a b : V} : ltOf cfP a b = true ↔ ltP a b := by
 unfold ltOf
 rw [decide_eq_true_eq]
 exact cf_lt a b
theorem lt_false {a b : V} : ltOf cfP a b = false ↔ ¬ ltP a b := by
 rw [← Bool.not_eq_true, lt_true]
theorem swoP : SWO (ltOf cfP) where
 irrefl x := by
  rw [lt_false]
  unfold ltP
  omega
 trans x y z h1 h2 := by
  rw [lt_true] at *
  unfold ltP at *
  omega
 ntrans x y z h1 h2 := by
  rw [lt_false] at *
  unfold ltP at *
  omega
theorem totP (x y : V) (h1 : ltOf cfP x y = false) (h2 : ltOf cfP y x = false) : x = y := by
 rw [lt_false] at h1 h2
 unfold ltP at h1 h2
 exact Prod.ext (by omega) (Prod.ext (by omega) (by omega))
def sortP (l : List V) : List V := l.mergeSort fun x y => !(ltOf cfP y x)
theorem sortP_mem {l : List V} {q : V} : q ∈ sortP l ↔ q ∈ l := List.mem_mergeSort
theorem sortP_len (l : List V) : (sortP l).length = l.length := List.length_mergeSort l
theorem sortP_dup {l : List V} (h : l.Nodup) : (sortP l).Nodup := ((List.mergeSort_perm l _).nodup_iff).2 h
theorem sortP_rises {l : List V} (h : l.Nodup) : (sortP l).Pairwise ltP := by
 have h1 : (sortP l).Pairwise (fun x y => (!(ltOf cfP y x)) = true) := List.pairwise_mergeSort (fun a b c h1 h2 => by
  rw [Bool.not_eq_true'] at *
  exact swoP.ntrans _ _ _ h2 h1) (fun a b => by
  rw [Bool.or_eq_true, Bool.not_eq_true', Bool.not_eq_true', lt_false, lt_false]
  unfold ltP
  omega) l
 have h2 := sortP_dup h
 refine List.Pairwise.imp₂ (fun a b hab hne => ?_) h1 h2
 rw [Bool.not_eq_true', lt_false] at hab
 apply Classical.byContradiction
 intro hn
 exact hne (totP a b (lt_false.2 hn) (lt_false.2 hab))
theorem flatK_list (l : List V) : (flatK encP.f 3 l.toArray).toList = flat encP l := by
 apply List.ext_getElem?
 intro j
 have hs : (flatK encP.f 3 l.toArray).size = l.length * 3 := by simp
 have hf : (flat encP l).length = l.length * 3 := flat_len l
 by_cases hj : j < l.length * 3
 ·have hi : j / 3 < l.length := Nat.div_lt_of_lt_mul (by omega)
  have h1 := flat_get (e := encP) (l := l) (i := j / 3) (j := j % 3) (List.getElem?_eq_getElem hi) (Nat.mod_lt _ (by decide))
  have e : j / 3 * encP.k + j % 3 = j := by
   show j / 3 * 3 + j % 3 = j
   omega
  rw [e] at h1
  rw [h1, Array.getElem?_toList, Array.getElem?_eq_getElem (by omega)]
  have h2 := get_flatK encP.f 3 l.toArray j (by simpa using hj)
  rw [getElem!_pos _ j (by omega)] at h2
  rw [h2]
  have h3 : (l.toArray)[j / 3]! = l[j / 3] := by
   rw [getElem!_pos _ _ (by simpa using hi)]
   simp
  rw [h3]
  have h4 : j % 3 < (encP.f l[j / 3]).length := by
   rw [encP.len]
   exact Nat.mod_lt _ (by decide)
  rw [getElem!_pos (encP.f l[j / 3]) (j % 3) h4, List.getElem?_eq_getElem h4]
 ·rw [List.getElem?_eq_none (l := (flatK encP.f 3 l.toArray).toList) (by rw [Array.length_toList, hs]; omega), List.getElem?_eq_none (l := flat encP l) (by rw [hf]; omega)]
section
variable {w : World} {B g n c : Nat} {l : List V}
theorem own_holds (h : RowG.Own encP TP w B (.slice (some ⟨g, 0, none⟩) n c) l) : HoldsK encP.f 3 w g 0 l.toArray := by
 intro j hj
 have hj' : j < l.length * 3 := by simpa using hj
 have hi : j / 3 < l.length := Nat.div_lt_of_lt_mul (by omega)
 refine ⟨?_, h.frozen _⟩
 have h4 : j % 3 < (encP.f l[j / 3]).length := by
  rw [encP.len]
  exact Nat.mod_lt _ (by decide)
 have h1 := h.cell (i := j / 3) (j := j % 3) (List.getElem?_eq_getElem hi) (List.getElem?_eq_getElem h4)
 have e : j / 3 * encP.k + j % 3 = j := by
  show j / 3 * 3 + j % 3 = j
  omega
 rw [e] at h1
 rw [Nat.zero_add, h1, get_flatK encP.f 3 l.toArray j (by simpa using hj')]
 have h3 : (l.toArray)[j / 3]! = l[j / 3] := by
  rw [getElem!_pos _ _ (by simpa using hi)]
  simp
 rw [h3, getElem!_pos (encP.f l[j / 3]) (j % 3) h4]
 rfl
theorem heap_sortedK {os : Array Obj} {cur : Array Value} {e : TypeId} {fr : Nat × Nat} {m : Nat} (d : Array V) (hb : w.heap[g]? = some (.cells cur e fr)) :
  (sortWorldK encP.f 3 w g 0 m d os).heap[g]? = some (.cells (putCells id 0 (flatK encP.f 3 d) cur) e fr) := by
 have hg : g < w.heap.size := (Array.getElem?_eq_some_iff.1 hb).1
 unfold sortWorldK putRowK
 rw [heap_grow_old _ _ (by simpa [putRow, mapBlock] using hg)]
 simp [putRow, mapBlock, Sort.ahead, Array.getElem?_modify, hb, onCells]
theorem grownBy_sortedK {os : Array Obj} {m : Nat} (d : Array V) : w.grownBy (sortWorldK encP.f 3 w g 0 m d os) (some g) := by
 refine ⟨rfl, rfl, rfl, by simp [sortWorldK, putRowK, grow, putRow, mapBlock], fun k hk hne => ?_⟩
 unfold sortWorldK putRowK
 rw [heap_grow_old _ _ (by simpa [putRow, mapBlock] using hk)]
 have : g ≠ k := fun e => hne (by rw [e])
 simp [putRow, mapBlock, Sort.ahead, Array.getElem?_modify, this]
theorem take_putK (cur : Array Value) (l : List V) (h : l.length * 3 ≤ cur.size) : (putCells id 0 (flatK encP.f 3 l.toArray) cur).toList.take (l.length * 3) = flat encP l := by
 have hf : (flat encP l).length = l.length * 3 := flat_len l
 apply List.ext_getElem?
 intro j
 by_cases hj : j < l.length * 3
 ·rw [List.getElem?_take_of_lt hj, Array.getElem?_toList, ← flatK_list, Array.getElem?_toList]
  simp [putCells, hj, show j < cur.size by omega]
 ·rw [List.getElem?_take_eq_none (by omega), List.getElem?_eq_none (by omega)]
theorem own_sortedK {os : Array Obj} {m : Nat} {l' : List V} (h : RowG.Own encP TP w B (.slice (some ⟨g, 0, none⟩) n c) l) (hl : l'.length = l.length) : RowG.Own encP TP (sortWorldK encP.f 3 w g 0 m l'.toArray os) B (.slice (some ⟨g, 0, none⟩) n c) l' := by
 unfold RowG.Own at h ⊢
 refine ⟨flat_len l', ?_⟩
 rcases h.2 with ⟨h0, _⟩ | ⟨g', cap, cur, h0, hB, hg, hn, hc, hs, ht⟩
 ·cases h0
 ·injection h0 with h0 h1 h2
  injection h0 with h0
  injection h0 with h0
  subst h0 h2
  refine .inr ⟨g, c, _, by rw [hl, ← h1], hB, heap_sortedK _ hg, by rw [hl]; exact hn, hc, by simpa [putCells] using hs, ?_⟩
  have hs' : cur.size = c * 3 := hs
  rw [hl, ← hl]
  exact take_putK cur l' (by rw [hl, hs']; exact Nat.mul_le_mul_right _ hn)
end
theorem cmpLaysP (blk off size : Nat) (w : World) : CmpLays Tryd.prog 44 #[] encP.f 3 cfP blk off size w := fun m os dk _ x y => (cmpG_c (x := x.1) (y := x.2.1) (z := x.2.2) (u := y.1) (v := y.2.1) (t := y.2.2) rfl _).mono (by
 rintro e w' ⟨rfl, h⟩
 exact ⟨rfl, h⟩)
theorem isAggP (w : World) : (isAgg TP).run Tryd.prog w = .ok true w := by kernel_rfl
theorem sizeP (w : World) : (Go.sizeOf TP).run Tryd.prog w = .ok 3 w := by kernel_rfl
theorem sortF_c {w : World} {B g n c : Nat} {l : List V} (h : RowG.Own encP TP w B (.slice (some ⟨g, 0, none⟩) n c) l) (hl : l.length = n) (hn : n ≤ 1000000) :
  Calls Tryd.prog 43 #[.slice (some ⟨g, 0, none⟩) n c, .func (.func 44) #[] #[]] w fun e w' => e = .returned (.tuple #[]) ∧ w.grownBy w' (some g) ∧ RowG.Own encP TP w' B (.slice (some ⟨g, 0, none⟩) n c) (sortP l) := by
 have hglt : g < w.heap.size := (h.ge g rfl).2
 have hH := own_holds h
 have eg : ∀ args w, (callFunc 44 args).run Tryd.prog w = .ok (.enter 44 args) w := enters_of Tryd.func44 (by kernel_rfl) rfl
 have hcon := AnyQ.slices_SortFunc_total (P := Tryd.prog) sortL 3 isAggP sizeP encP.f encP.len encP.one cfP swoP 44 #[] g 0 c l.toArray w eg (cmpLaysP g 0 _ w) hH hglt (by simp; omega) totP
 rw [show l.toArray.size = n by simpa using hl] at hcon
 refine hcon.mono ?_
 rintro e w' ⟨rfl, m, os, rfl⟩
 exact ⟨rfl, grownBy_sortedK _, own_sortedK h (sortP_len l)⟩
theorem sortF_none {w : World} {A : Option Addr} {c : Nat} :
  Calls Tryd.prog 43 #[.slice A 0 c, .func (.func 44) #[] #[]] w fun e w' => e = .returned (.tuple #[]) ∧ w' = w :=
 AnyF.slices_SortFunc_none (P := Tryd.prog) (ρ := sortL_ren) { sortL with } A c (.func (.func 44) #[] #[]) w
end FloodW
end Go.Proofs.YtpimkdaikoclnaaDoor
namespace Go.Proofs.YtpimkdaikoclnaaDoor
open Go.RowKit
set_option linter.unusedVariables false
set_option linter.unusedSimpArgs false
namespace FloodW
open BlkP RowG GlowW FloodP
def chg (g : Gh) (q : V) : Bool := decide (g.nw false q ≠ wasB g.f false q ∨ g.nw true q ≠ wasB g.f true q)
def seenAt (W : World) (r : Nat) : Nat := match W.heap[r]? with
 | some (.mapIter _ _ s _) => s.size
 | _ => 0
structure Oth (w : World) (g : Gh) (r : Nat) (seen : Array Nat) (v : Value) (W : World) : Prop where
 it : ∃ c0, W.heap[r]? = some (.mapIter (some g.M) g.kn.length seen c0) ∧ g.kn.length ≤ c0
 dup : seen.toList.Nodup
 lt : ∀ i ∈ seen.toList, i < g.kn.length
 sx : Sx W g
 go : Go g w g W
 row : LocR W g v (outL g.kn (chg g) seen.toList)
 new : ∀ k, v.ownBlock = some k → r < k
def OthR (w : World) (g : Gh) (v : Value) (W : World) : Prop := ∃ seen, Oth w g w.heap.size seen v W
structure Came (w : World) (g : Gh) (r : Nat) (seen : Array Nat) (i : Nat) (v : Value) (W : World) : Prop where
 it : W.heap[r]? = some (.mapIter (some g.M) g.kn.length (seen.push i) g.kn.length)
 dup : (seen.push i).toList.Nodup
 lt : ∀ j ∈ (seen.push i).toList, j < g.kn.length
 sx : Sx W g
 go : Go g w g W
 row : LocR W g v (outL g.kn (chg g) seen.toList)
 new : ∀ k, v.ownBlock = some k → r < k
 few : (outL g.kn (chg g) seen.toList).length ≤ 1800
theorem Oth.came {w : World} {g : Gh} {seen : Array Nat} {v : Value} {W w1 : World} {i : Nat} {c : V × Nat} (h0 : Sx w g) (h : Oth w g w.heap.size seen v W) (hw : w1 = W ∨ w1 = W.drew) (hi : g.kn[i]? = some c) (hni : i ∉ seen.toList) :
  Came w g w.heap.size seen i v (ChangeMaps.setBlock w1 w.heap.size (.mapIter (some g.M) g.kn.length (seen.push i) g.kn.length)) := by
 obtain ⟨c0, hit, _⟩ := h.it
 have hb : Below W.heap.size W w1 := by
  rcases hw with e | e
  ·rw [e]; exact Below.refl _ _
  ·rw [e]; exact (Below.refl _ _).drew
 have hit1 : w1.heap[w.heap.size]? = some (.mapIter (some g.M) g.kn.length seen c0) := by
  rcases hw with e | e <;> rw [e] <;> exact hit
 have hn : ¬ Ss g w.heap.size := h0.st.new (Nat.le_refl _)
 have hput : ChangeMaps.setBlock w1 w.heap.size (.mapIter (some g.M) g.kn.length (seen.push i) g.kn.length) = w1.putObj w.heap.size (.mapIter (some g.M) g.kn.length (seen.push i) g.kn.length) := rfl
 rw [hput]
 have hrow := h.row.below hb
 refine ⟨World.putObj_heap_same (Array.getElem?_eq_some_iff.1 hit1).1, ?_, fun j hj => ?_, (h.sx.below hb).put hit1 rfl hn h0.tab.size _, (h.go.trans (Go.below g hb)).grown (grownBy_putObj' w1 w.heap.size _) (fun k e => by injection e with e; omega), ⟨(put_fr w1 w.heap.size _).own hrow.1 (fun k e e2 => ?_), hrow.2⟩, h.new, ?_⟩
 ·rw [Array.toList_push]
  refine List.nodup_append.2 ⟨h.dup, by simp, fun a ha b hb2 e => ?_⟩
  rw [List.mem_singleton] at hb2
  exact hni (by rw [← hb2, ← e]; exact ha)
 ·rw [Array.toList_push] at hj
  rcases List.mem_append.1 hj with hj | hj
  ·exact h.lt j hj
  ·rw [List.mem_singleton] at hj
   rw [hj]
   exact (List.getElem?_eq_some_iff.1 hi).1
 ·subst e2
  obtain ⟨us, hu⟩ := own_cells hrow.1 e
  exact not_at hit1 rfl hu rfl
 ·have h1 := nodup_len (outL_nodup (ch := chg g) h0.st.dup h.dup) (m := g.kn.map (·.1)) (fun q hq => by
   unfold outL at hq
   obtain ⟨hq, _⟩ := List.mem_filter.1 hq
   obtain ⟨j, _, hj⟩ := List.mem_filterMap.1 hq
   cases e : g.kn[j]? with
   | none => rw [e] at hj; cases hj
   | some d =>
    rw [e] at hj
    have : d.1 = q := by simpa using hj
    exact List.mem_map.2 ⟨d, List.mem_of_getElem? e, this⟩)
  have h2 := h0.st.kn_le
  rw [List.length_map] at h1
  omega
theorem seenAt_of {W : World} {r : Nat} {a : Option Nat} {b c : Nat} {s : Array Nat} (h : W.heap[r]? = some (.mapIter a b s c)) : seenAt W r = s.size := by
 unfold seenAt
 rw [h]
theorem nodup_lenN : ∀ {l m : List Nat}, l.Nodup → (∀ q, q ∈ l → q ∈ m) → l.length ≤ m.length
 | [], m, _, _ => by simp
 | x :: r, m, h, hs => by
  have hx := hs x (by simp)
  have hr := List.nodup_cons.1 h
  have := nodup_lenN (l := r) (m := m.erase x) hr.2 (fun q hq => by
   have hne : q ≠ x := fun e => hr.1 (e ▸ hq)
   exact (List.mem_erase_of_ne hne).2 (hs q (by simp [hq])))
  rw [List.length_erase_of_mem hx] at this
  have hpos := List.length_pos_of_mem hx
  simp only [List.length_cons]
  omega
theorem Came.room {w W : World} {g : Gh} {r i : Nat} {seen : Array Nat} {v : Value} (h : Came w g r seen i v W) : seen.size + 1 ≤ g.kn.length := by
 have := nodup_lenN h.dup (m := List.range g.kn.length) (fun q hq => List.mem_range.2 (h.lt q hq))
 simpa using this
theorem Oth.less {w W W0 : World} {g : Gh} {r i : Nat} {seen : Array Nat} {v : Value} (h : Oth w g r (seen.push i) v W) (h0 : seenAt W0 r = seen.size) (hr : seen.size + 1 ≤ g.kn.length) : g.kn.length - seenAt W r < g.kn.length - seenAt W0 r := by
 obtain ⟨c9, h9, _⟩ := h.it
 rw [seenAt_of h9, h0, Array.size_push]
 omega
section
variable {w W W' W5 W7 : World} {g : Gh} {r i : Nat} {seen : Array Nat} {v : Value} {c : V × Nat}
theorem Came.below (h : Came w g r seen i v W) (hb : Below W.heap.size W W') : Came w g r seen i v W' :=
 ⟨(hb.block r (Array.getElem?_eq_some_iff.1 h.it).1).trans h.it, h.dup, h.lt, h.sx.below hb, h.go.trans (Go.below g hb), h.row.below hb, h.new, h.few⟩
theorem Came.no (h : Came w g r seen i v W) (hi : g.kn[i]? = some c) (hc : chg g c.1 = false) : Oth w g r (seen.push i) v W :=
 ⟨⟨_, h.it, Nat.le_refl _⟩, h.dup, h.lt, h.sx, h.go, by rw [Array.toList_push, outL_push hi, hc, if_neg (by simp), List.append_nil]; exact h.row, h.new⟩
theorem Came.yes {n gr cp : Nat} (h0 : Sx w g) (hr : w.heap.size ≤ r) (h : Came w g r seen i v W) (hi : g.kn[i]? = some c) (hc : chg g c.1 = true) (hp : Pushed encP TP W 0 v (outL g.kn (chg g) seen.toList) c.1 n gr cp W5) : Oth w g r (seen.push i) (.slice (some ⟨gr, 0, none⟩) n cp) W5 := by
 obtain ⟨ho, hg, hfr⟩ := hp
 have hrl := (Array.getElem?_eq_some_iff.1 h.it).1
 have gn : r < gr ∧ ¬ Ss g gr := by
  rcases hfr with q | q
  ·exact ⟨h.new gr q, h.row.2 gr q⟩
  ·exact ⟨by omega, h.sx.st.new q⟩
 have hf : Fr (fun j => v.ownBlock = some j) W W5 := Fr.grown hg (fun i e => e)
 refine ⟨⟨_, (hf.block r hrl (fun e => by have := h.new r e; omega)).trans h.it, Nat.le_refl _⟩, h.dup, h.lt, h0.grownC (More.refl g).toC h.sx hg (fun k hk => ⟨by have := h.new k hk; omega, h.row.2 k hk⟩), h.go.grown hg (fun k hk => by have := h.new k hk; omega), ⟨by rw [Array.toList_push, outL_push hi, hc, if_pos rfl]; exact ho, fun k hk => ?_⟩, fun k hk => ?_⟩ <;>
 ·have e : gr = k := by simpa [Value.ownBlock] using hk
  rw [← e]
  first | exact gn.2 | exact gn.1
end
def OthersP (w : World) (g : Gh) (e : Ending) (w' : World) : Prop := ∃ T A n c, e = .returned (.slice A n c) ∧ T.length = n ∧ T.Nodup ∧ (∀ q, q ∈ T ↔ q ∈ g.kn.map (·.1) ∧ chg g q = true) ∧ T.Pairwise ltP ∧ Sx w' g ∧ Go g w g w' ∧ LocR w' g (.slice A n c) T ∧ ∀ k, (Value.slice A n c).ownBlock = some k → w.heap.size ≤ k
theorem Oth.few {w W : World} {g : Gh} {r : Nat} {seen : Array Nat} {v : Value} (h : Oth w g r seen v W) (h0 : Sx w g) : (outL g.kn (chg g) seen.toList).length ≤ 1800 := by
 have h1 := nodup_len (outL_nodup (ch := chg g) h0.st.dup h.dup) (m := g.kn.map (·.1)) (fun q hq => by
  unfold outL at hq
  obtain ⟨hq, _⟩ := List.mem_filter.1 hq
  obtain ⟨j, _, hj⟩ := List.mem_filterMap.1 hq
  cases e : g.kn[j]? with
  | none => rw [e] at hj; cases hj
  | some d =>
   rw [e] at hj
   have : d.1 = q := by simpa using hj
   exact List.mem_map.2 ⟨d, List.mem_of_getElem? e, this⟩)
 have h2 := h0.st.kn_le
 rw [List.length_map] at h1
 omega
set_option maxRecDepth 100000 in
set_option maxHeartbeats 16000000 in
theorem others_c {w : World} {g : Gh} (h : Sx w g) :
  Calls Tryd.prog 27 #[.pointer (some ⟨g.wk, 0, none⟩)] w (OthersP w g) := by
 have HS := Lib.hid h
 have k5 : w.cell? ⟨g.wk, 5, none⟩ = some (.map (some g.M)) := h.st.work.cell (i := 5) rfl
 have hr := run_range_map (P := Tryd.prog) w TM TP 75 g.M _ _ underM h.st.map
 clear h
 go_enter Tryd.func27, Tryd.ntmps27
 go_wp2_with fail
 clear k5 hr
 go_loopw [3] (fun v wr => OthR w g v wr) (fun _ W => g.kn.length - seenAt W w.heap.size)
 case atStart =>
  refine ⟨#[], ⟨_, heap_alloc_new w _, Nat.le_refl _⟩, List.nodup_nil, fun i hi => by simp at hi, HS.out.below (by (repeat' (first | (with_reducible exact Below.refl _ _) | (with_reducible refine Below.setCell ?_ (by (first | omega | (simp; done) | (simp; omega))) _) | (with_reducible refine Below.alloc ?_ (by (first | omega | (simp; done) | (simp; omega))) _) | (with_reducible refine Below.drew ?_) | (with_reducible refine below_drewN ?_ _)))), Go.below g (by (repeat' (first | (with_reducible exact Below.refl _ _) | (with_reducible refine Below.setCell ?_ (by (first | omega | (simp; done) | (simp; omega))) _) | (with_reducible refine Below.alloc ?_ (by (first | omega | (simp; done) | (simp; omega))) _) | (with_reducible refine Below.drew ?_) | (with_reducible refine below_drewN ?_ _)))), ⟨Own.nil _ _ _ _, fun k hk => by cases hk⟩, fun k hk => by cases hk⟩
 case round =>
  obtain ⟨seen, ho⟩ := hrel
  obtain ⟨c0, hit, hc0⟩ := ho.it
  have HO := Lib.hid ho
  rcases run_next_at (P := Tryd.prog) wr 0 w.heap.size g.M g.kn.length c0 seen _ _ hit ho.sx.st.map (fun x hx => ents_lt hx) hc0 with ⟨hz, hnx⟩ | ⟨e, he, w1, hw1, hnx⟩
  ·have HALL := Lib.hid (show ∀ i, i < g.kn.length → i ∈ seen.toList from fun i hi => left_none hz hi)
   have HLT := Lib.hid ho.row.1
   obtain ⟨ln, hln⟩ : ∃ ln, (outL g.kn (chg g) seen.toList).length = ln := ⟨_, rfl⟩
   obtain ⟨A3, c3, hv, _, _, hA3⟩ := ho.row.1.form hln
   subst hv
   have HLN := Lib.hid hln
   have HFEW := Lib.hid (show ln ≤ 1800 from by rw [← hln]; exact ho.few HS.out)
   have HDUP := Lib.hid (outL_nodup (ch := chg g) HS.out.st.dup ho.dup)
   clear hz ho hit hln HLT
   by_cases h0 : ln = 0
   ·subst h0
    have HNIL := Lib.hid (List.length_eq_zero_iff.1 HLN.out)
    go_wp2_with fail
    go_at_call 43
    refine calls_named (S := fun W => Below wr.heap.size wr W) (by (repeat' (first | (with_reducible exact Below.refl _ _) | (with_reducible refine Below.setCell ?_ (by (first | omega | (simp; done) | (simp; omega))) _) | (with_reducible refine Below.alloc ?_ (by (first | omega | (simp; done) | (simp; omega))) _) | (with_reducible refine Below.drew ?_) | (with_reducible refine below_drewN ?_ _)))) ?_
    rintro W5 hb5
    refine sortF_none.mono ?_
    rintro e W6 ⟨rfl, rfl⟩
    have HB5 := Lib.hid hb5
    clear hb5
    go_wp2_with fail
    go_ret
    refine ⟨outL g.kn (chg g) seen.toList, _, _, _, rfl, HLN.out, HDUP.out, fun q => outL_mem HALL.out q, by rw [HNIL.out]; exact List.Pairwise.nil, HO.out.sx.below (HB5.out.trans (by (repeat' (first | (with_reducible exact Below.refl _ _) | (with_reducible refine Below.setCell ?_ (by (first | omega | (simp; done) | (simp; omega))) _) | (with_reducible refine Below.alloc ?_ (by (first | omega | (simp; done) | (simp; omega))) _) | (with_reducible refine Below.drew ?_) | (with_reducible refine below_drewN ?_ _))))), HO.out.go.trans (Go.below g (HB5.out.trans (by (repeat' (first | (with_reducible exact Below.refl _ _) | (with_reducible refine Below.setCell ?_ (by (first | omega | (simp; done) | (simp; omega))) _) | (with_reducible refine Below.alloc ?_ (by (first | omega | (simp; done) | (simp; omega))) _) | (with_reducible refine Below.drew ?_) | (with_reducible refine below_drewN ?_ _)))))), HO.out.row.below (HB5.out.trans (by (repeat' (first | (with_reducible exact Below.refl _ _) | (with_reducible refine Below.setCell ?_ (by (first | omega | (simp; done) | (simp; omega))) _) | (with_reducible refine Below.alloc ?_ (by (first | omega | (simp; done) | (simp; omega))) _) | (with_reducible refine Below.drew ?_) | (with_reducible refine below_drewN ?_ _))))), fun k hk => Nat.le_of_lt (HO.out.new k hk)⟩
   ·obtain ⟨g3, rfl, _, _⟩ := hA3 (by omega)
    clear h0
    go_wp2_with fail
    go_at_call 43
    refine calls_named (S := fun W => Below wr.heap.size wr W) (by (repeat' (first | (with_reducible exact Below.refl _ _) | (with_reducible refine Below.setCell ?_ (by (first | omega | (simp; done) | (simp; omega))) _) | (with_reducible refine Below.alloc ?_ (by (first | omega | (simp; done) | (simp; omega))) _) | (with_reducible refine Below.drew ?_) | (with_reducible refine below_drewN ?_ _)))) ?_
    rintro W5 hb5
    refine (sortF_c (HO.out.row.1.below hb5) HLN.out (by have := HFEW.out; omega)).mono ?_
    rintro e W6 ⟨rfl, hg6, ho6⟩
    have HB5 := Lib.hid hb5
    have HG6 := Lib.hid hg6
    have HO6 := Lib.hid ho6
    clear hb5 hg6 ho6
    go_wp2_with fail
    go_ret
    have hnew : ∀ k, some g3 = some k → w.heap.size ≤ k ∧ ¬ Ss g k := fun k hk => ⟨Nat.le_of_lt (HO.out.new k (by rw [← hk]; rfl)), HO.out.row.2 k (by rw [← hk]; rfl)⟩
    have hb6 : Below W6.heap.size W6 W6 := Below.refl _ _
    have hs6 := HS.out.grownC (More.refl g).toC (HO.out.sx.below HB5.out) HG6.out hnew
    have hgo6 := (HO.out.go.trans (Go.below g HB5.out)).grown HG6.out (fun k hk => (hnew k hk).1)
    refine ⟨sortP (outL g.kn (chg g) seen.toList), _, _, _, rfl, by rw [sortP_len]; exact HLN.out, sortP_dup HDUP.out, fun q => sortP_mem.trans (outL_mem HALL.out q), sortP_rises HDUP.out, hs6.below (by (repeat' (first | (with_reducible exact Below.refl _ _) | (with_reducible refine Below.setCell ?_ (by (first | omega | (simp; done) | (simp; omega))) _) | (with_reducible refine Below.alloc ?_ (by (first | omega | (simp; done) | (simp; omega))) _) | (with_reducible refine Below.drew ?_) | (with_reducible refine below_drewN ?_ _)))), hgo6.trans (Go.below g (by (repeat' (first | (with_reducible exact Below.refl _ _) | (with_reducible refine Below.setCell ?_ (by (first | omega | (simp; done) | (simp; omega))) _) | (with_reducible refine Below.alloc ?_ (by (first | omega | (simp; done) | (simp; omega))) _) | (with_reducible refine Below.drew ?_) | (with_reducible refine below_drewN ?_ _))))), LocR.below (w := W6) ⟨HO6.out, HO.out.row.2⟩ (by (repeat' (first | (with_reducible exact Below.refl _ _) | (with_reducible refine Below.setCell ?_ (by (first | omega | (simp; done) | (simp; omega))) _) | (with_reducible refine Below.alloc ?_ (by (first | omega | (simp; done) | (simp; omega))) _) | (with_reducible refine Below.drew ?_) | (with_reducible refine below_drewN ?_ _)))), fun k hk => Nat.le_of_lt (HO.out.new k hk)⟩
  ·obtain ⟨i, c, hi, rfl, hni⟩ := left_mem he
   obtain ⟨ln, hln⟩ : ∃ ln, (outL g.kn (chg g) seen.toList).length = ln := ⟨_, rfl⟩
   obtain ⟨A3, c3, hv, _, _, _⟩ := ho.row.1.form hln
   subst hv
   have HLN := Lib.hid hln
   clear hln
   have hcm := Oth.came HS.out ho hw1 hi hni
   have hen := run_entry_at (P := Tryd.prog) _ w.heap.size g.M g.kn.length seen _ _ (entK i c) hcm.it hcm.sx.st.map (by simpa using ents_mem.2 ⟨i, c, hi, by congr 1; omega⟩) (by simpa using ents_nodup g.kn 0)
   simp only [entK] at hnx hen
   obtain ⟨W1, hW1⟩ : ∃ W1, ChangeMaps.setBlock w1 w.heap.size (.mapIter (some g.M) g.kn.length (seen.push i) g.kn.length) = W1 := ⟨_, rfl⟩
   rw [hW1] at hnx hen hcm
   have HCM := Lib.hid hcm
   have HI := Lib.hid hi
   obtain ⟨⟨qx, qy, qz⟩, kb⟩ := c
   have HKB := Lib.hid (hcm.sx.st.known _ _ (List.mem_of_getElem? hi))
   have HSA := Lib.hid (seenAt_of hit)
   clear ho hit hcm hw1 he hni hi hW1 HO
   go_wp2_with fail
   refine HeldP.wp_named (S := fun W => Below W1.heap.size W1 W ∧ Blk W W1.heap.size TP [.int .i64 qx, .int .i64 qy, .int .i64 qz]) ⟨by (repeat' (first | (with_reducible exact Below.refl _ _) | (with_reducible refine Below.setCell ?_ (by (first | omega | (simp; done) | (simp; omega))) _) | (with_reducible refine Below.alloc ?_ (by (first | omega | (simp; done) | (simp; omega))) _) | (with_reducible refine Below.drew ?_) | (with_reducible refine below_drewN ?_ _))), by (repeat' (first | (with_reducible refine BlkP.Blk.drew ?_) | (with_reducible refine BlkP.Blk.drewN ?_ _) | (with_reducible refine BlkP.Blk.setAt (us := ?_) (by first | omega | (simp; done) | (simp; omega)) rfl ?_ ?_) | (with_reducible refine BlkP.Blk.otherAt ?_ (by first | omega | (simp; done) | (simp; omega))) | (with_reducible refine BlkP.Blk.newA' (by first | omega | (simp; done) | (simp; omega)) rfl) | (with_reducible refine BlkP.Blk.alloc ?_ _) | (exact rfl)))⟩ ?_
   rintro W2 ⟨hb2, hq2⟩
   have HCM2 := Lib.hid (HCM.out.below hb2)
   have HKB2 := Lib.hid (HKB.out.below hb2)
   have q0 := hq2.cell (i := 0) rfl
   have q1 := hq2.cell (i := 1) rfl
   have q2 := hq2.cell (i := 2) rfl
   clear hb2 hq2 hnx hen
   cases hch : chg g (qx, qy, qz) with
   | false =>
    have hchd : decide (g.nw false (qx, qy, qz) ≠ wasB g.f false (qx, qy, qz) ∨ g.nw true (qx, qy, qz) ≠ wasB g.f true (qx, qy, qz)) = false := hch
    have HCH := Lib.hid hch
    have hno : ¬ (g.nw false (qx, qy, qz) ≠ wasB g.f false (qx, qy, qz) ∨ g.nw true (qx, qy, qz) ≠ wasB g.f true (qx, qy, qz)) := of_decide_eq_false hchd
    have HI1 := Lib.hid (show (g.nw false (qx, qy, qz) : Int) = (wasB g.f false (qx, qy, qz) : Int) by rw [Classical.not_not.1 (fun e => hno (.inl e))])
    have HI2 := Lib.hid (show (g.nw true (qx, qy, qz) : Int) = (wasB g.f true (qx, qy, qz) : Int) by rw [Classical.not_not.1 (fun e => hno (.inr e))])
    clear hch hchd hno
    refine wp_region_noPanic ?_
    refine wp_region_held_drew (S := fun Xw => Blk Xw kb TK (kcells g (qx, qy, qz))) (by kernel_rfl) (HKB2.out) (fun hHeld => ?_)
    refine wpAnyH_take (i := 0) (oi := ⟨some 16, _, _, _, _, _⟩) (v := .pointer (some ⟨kb, 0, none⟩)) rfl (by kernel_rfl) (by kernel_rfl) (by kernel_rfl) (fun _ _ _ h => h) (Or.inl ⟨by rfl, fun Xw hSW => by go_simp⟩) hHeld ?_
    simp only [Act.put, List.setIfInBounds_toArray, List.set_cons_zero, List.set_cons_succ]
    refine wpAnyH_take (i := 1) (oi := ⟨some 17, _, _, _, _, _⟩) (v := .pointer (some ⟨kb, 0, none⟩)) rfl (by kernel_rfl) (by kernel_rfl) (by kernel_rfl) (fun _ _ _ h => h) (Or.inl ⟨by rfl, fun Xw hSW => by go_simp⟩) hHeld ?_
    simp only [Act.put, List.setIfInBounds_toArray, List.set_cons_zero, List.set_cons_succ]
    refine wpAnyH_take (i := 2) (oi := ⟨some 18, _, _, _, _, _⟩) (v := .pointer (some ⟨kb, 5, none⟩)) rfl (by kernel_rfl) (by kernel_rfl) (by kernel_rfl) (fun _ _ _ h => h) (Or.inl ⟨by rfl, fun Xw hSW => by go_simp⟩) hHeld ?_
    simp only [Act.put, List.setIfInBounds_toArray, List.set_cons_zero, List.set_cons_succ]
    refine wpAnyH_take (i := 3) (oi := ⟨some 19, _, _, _, _, _⟩) (v := .agg #[.int .u8 (g.nw false (qx, qy, qz) : Int), .int .u8 (g.nw true (qx, qy, qz) : Int)]) rfl (by kernel_rfl) (by kernel_rfl) (by kernel_rfl) (fun _ _ _ h => h) (Or.inl ⟨by rfl, fun Xw hSW => by have a0 : Xw.cell? ⟨kb, 5, none⟩ = some (.int .u8 (g.nw false (qx, qy, qz) : Int)) := hSW.cell (i := 5) rfl; have a1 : Xw.cell? ⟨kb, 6, none⟩ = some (.int .u8 (g.nw true (qx, qy, qz) : Int)) := hSW.cell (i := 6) rfl; go_simp⟩) hHeld ?_
    simp only [Act.put, List.setIfInBounds_toArray, List.set_cons_zero, List.set_cons_succ]
    refine wpAnyH_take (i := 4) (oi := ⟨some 20, _, _, _, _, _⟩) (v := .pointer (some ⟨kb, 0, none⟩)) rfl (by kernel_rfl) (by kernel_rfl) (by kernel_rfl) (fun _ _ _ h => h) (Or.inl ⟨by rfl, fun Xw hSW => by go_simp⟩) hHeld ?_
    simp only [Act.put, List.setIfInBounds_toArray, List.set_cons_zero, List.set_cons_succ]
    refine wpAnyH_take (i := 5) (oi := ⟨some 21, _, _, _, _, _⟩) (v := .pointer (some ⟨kb, 0, none⟩)) rfl (by kernel_rfl) (by kernel_rfl) (by kernel_rfl) (fun _ _ _ h => h) (Or.inl ⟨by rfl, fun Xw hSW => by go_simp⟩) hHeld ?_
    simp only [Act.put, List.setIfInBounds_toArray, List.set_cons_zero, List.set_cons_succ]
    refine wpAnyH_take (i := 6) (oi := ⟨some 22, _, _, _, _, _⟩) (v := .pointer (some ⟨kb, 3, none⟩)) rfl (by kernel_rfl) (by kernel_rfl) (by kernel_rfl) (fun _ _ _ h => h) (Or.inl ⟨by rfl, fun Xw hSW => by go_simp⟩) hHeld ?_
    simp only [Act.put, List.setIfInBounds_toArray, List.set_cons_zero, List.set_cons_succ]
    refine wpAnyH_take (i := 7) (oi := ⟨some 23, _, _, _, _, _⟩) (v := .agg #[.int .u8 (wasB g.f false (qx, qy, qz) : Int), .int .u8 (wasB g.f true (qx, qy, qz) : Int)]) rfl (by kernel_rfl) (by kernel_rfl) (by kernel_rfl) (fun _ _ _ h => h) (Or.inl ⟨by rfl, fun Xw hSW => by have a0 : Xw.cell? ⟨kb, 3, none⟩ = some (.int .u8 (wasB g.f false (qx, qy, qz) : Int)) := hSW.cell (i := 3) rfl; have a1 : Xw.cell? ⟨kb, 4, none⟩ = some (.int .u8 (wasB g.f true (qx, qy, qz) : Int)) := hSW.cell (i := 4) rfl; go_simp⟩) hHeld ?_
    simp only [Act.put, List.setIfInBounds_toArray, List.set_cons_zero, List.set_cons_succ]
    refine wpAnyH_take (i := 8) (oi := ⟨some 24, _, _, _, _, _⟩) (v := .bool false) rfl (by kernel_rfl) (by kernel_rfl) (by kernel_rfl) (fun _ _ _ h => h) (Or.inl ⟨by rfl, fun Xw hSW => by have i1 := HI1.out; have i2 := HI2.out; go_simp⟩) hHeld ?_
    simp only [Act.put, List.setIfInBounds_toArray, List.set_cons_zero, List.set_cons_succ]
    refine wpAnyH_done (by kernel_rfl) ?_ _
    refine NoPanic.normal ?_
    go_wp2_with fail
    go_roundw
    case rel => exact ⟨_, (HCM2.out.below (Below.refl _ _).drew).no HI.out HCH.out⟩
    case measure => exact Oth.less ((HCM2.out.below (Below.refl _ _).drew).no HI.out HCH.out) HSA.out HCM2.out.room
   | true =>
    have hchd : decide (g.nw false (qx, qy, qz) ≠ wasB g.f false (qx, qy, qz) ∨ g.nw true (qx, qy, qz) ≠ wasB g.f true (qx, qy, qz)) = true := hch
    have HCH := Lib.hid hch
    have hyes := of_decide_eq_true hchd
    have HDJ := Lib.hid (show (¬ (g.nw false (qx, qy, qz) : Int) = (wasB g.f false (qx, qy, qz) : Int)) ∨ ((g.nw false (qx, qy, qz) : Int) = (wasB g.f false (qx, qy, qz) : Int) ∧ ¬ (g.nw true (qx, qy, qz) : Int) = (wasB g.f true (qx, qy, qz) : Int)) by omega)
    clear hch hchd hyes
    refine wp_region_noPanic ?_
    refine wp_region_held_drew (S := fun Xw => Blk Xw kb TK (kcells g (qx, qy, qz))) (by kernel_rfl) (HKB2.out) (fun hHeld => ?_)
    refine wpAnyH_take (i := 0) (oi := ⟨some 16, _, _, _, _, _⟩) (v := .pointer (some ⟨kb, 0, none⟩)) rfl (by kernel_rfl) (by kernel_rfl) (by kernel_rfl) (fun _ _ _ h => h) (Or.inl ⟨by rfl, fun Xw hSW => by go_simp⟩) hHeld ?_
    simp only [Act.put, List.setIfInBounds_toArray, List.set_cons_zero, List.set_cons_succ]
    refine wpAnyH_take (i := 1) (oi := ⟨some 17, _, _, _, _, _⟩) (v := .pointer (some ⟨kb, 0, none⟩)) rfl (by kernel_rfl) (by kernel_rfl) (by kernel_rfl) (fun _ _ _ h => h) (Or.inl ⟨by rfl, fun Xw hSW => by go_simp⟩) hHeld ?_
    simp only [Act.put, List.setIfInBounds_toArray, List.set_cons_zero, List.set_cons_succ]
    refine wpAnyH_take (i := 2) (oi := ⟨some 18, _, _, _, _, _⟩) (v := .pointer (some ⟨kb, 5, none⟩)) rfl (by kernel_rfl) (by kernel_rfl) (by kernel_rfl) (fun _ _ _ h => h) (Or.inl ⟨by rfl, fun Xw hSW => by go_simp⟩) hHeld ?_
    simp only [Act.put, List.setIfInBounds_toArray, List.set_cons_zero, List.set_cons_succ]
    refine wpAnyH_take (i := 3) (oi := ⟨some 19, _, _, _, _, _⟩) (v := .agg #[.int .u8 (g.nw false (qx, qy, qz) : Int), .int .u8 (g.nw true (qx, qy, qz) : Int)]) rfl (by kernel_rfl) (by kernel_rfl) (by kernel_rfl) (fun _ _ _ h => h) (Or.inl ⟨by rfl, fun Xw hSW => by have a0 : Xw.cell? ⟨kb, 5, none⟩ = some (.int .u8 (g.nw false (qx, qy, qz) : Int)) := hSW.cell (i := 5) rfl; have a1 : Xw.cell? ⟨kb, 6, none⟩ = some (.int .u8 (g.nw true (qx, qy, qz) : Int)) := hSW.cell (i := 6) rfl; go_simp⟩) hHeld ?_
    simp only [Act.put, List.setIfInBounds_toArray, List.set_cons_zero, List.set_cons_succ]
    refine wpAnyH_take (i := 4) (oi := ⟨some 20, _, _, _, _, _⟩) (v := .pointer (some ⟨kb, 0, none⟩)) rfl (by kernel_rfl) (by kernel_rfl) (by kernel_rfl) (fun _ _ _ h => h) (Or.inl ⟨by rfl, fun Xw hSW => by go_simp⟩) hHeld ?_
    simp only [Act.put, List.setIfInBounds_toArray, List.set_cons_zero, List.set_cons_succ]
    refine wpAnyH_take (i := 5) (oi := ⟨some 21, _, _, _, _, _⟩) (v := .pointer (some ⟨kb, 0, none⟩)) rfl (by kernel_rfl) (by kernel_rfl) (by kernel_rfl) (fun _ _ _ h => h) (Or.inl ⟨by rfl, fun Xw hSW => by go_simp⟩) hHeld ?_
    simp only [Act.put, List.setIfInBounds_toArray, List.set_cons_zero, List.set_cons_succ]
    refine wpAnyH_take (i := 6) (oi := ⟨some 22, _, _, _, _, _⟩) (v := .pointer (some ⟨kb, 3, none⟩)) rfl (by kernel_rfl) (by kernel_rfl) (by kernel_rfl) (fun _ _ _ h => h) (Or.inl ⟨by rfl, fun Xw hSW => by go_simp⟩) hHeld ?_
    simp only [Act.put, List.setIfInBounds_toArray, List.set_cons_zero, List.set_cons_succ]
    refine wpAnyH_take (i := 7) (oi := ⟨some 23, _, _, _, _, _⟩) (v := .agg #[.int .u8 (wasB g.f false (qx, qy, qz) : Int), .int .u8 (wasB g.f true (qx, qy, qz) : Int)]) rfl (by kernel_rfl) (by kernel_rfl) (by kernel_rfl) (fun _ _ _ h => h) (Or.inl ⟨by rfl, fun Xw hSW => by have a0 : Xw.cell? ⟨kb, 3, none⟩ = some (.int .u8 (wasB g.f false (qx, qy, qz) : Int)) := hSW.cell (i := 3) rfl; have a1 : Xw.cell? ⟨kb, 4, none⟩ = some (.int .u8 (wasB g.f true (qx, qy, qz) : Int)) := hSW.cell (i := 4) rfl; go_simp⟩) hHeld ?_
    simp only [Act.put, List.setIfInBounds_toArray, List.set_cons_zero, List.set_cons_succ]
    refine wpAnyH_take (i := 8) (oi := ⟨some 24, _, _, _, _, _⟩) (v := .bool true) rfl (by kernel_rfl) (by kernel_rfl) (by kernel_rfl) (fun _ _ _ h => h) (Or.inl ⟨by rfl, fun Xw hSW => by (rcases HDJ.out with d1 | ⟨i1, d2⟩ <;> go_simp)⟩) hHeld ?_
    simp only [Act.put, List.setIfInBounds_toArray, List.set_cons_zero, List.set_cons_succ]
    refine wpAnyH_done (by kernel_rfl) ?_ _
    refine NoPanic.normal ?_
    go_wp2_with ((with_reducible refine at_slot 28 ?_); refine Classical.byContradiction (fun hG => ?_))
    refine hG ?_
    clear hG
    refine wp_pushP (w0 := W2.drew) (y := (qx, qy, qz)) (v := .slice A3 ln c3) (l := outL g.kn (chg g) seen.toList) rfl (.tmp 25) (.tmp 27) rfl rfl rfl rfl (HCM2.out.below (Below.refl _ _).drew).row.1 rfl HLN.out (by have := HCM2.out.few; have := HLN.out; omega) (Nat.zero_le _) ?_
    intro gr5 c5 W5 hpu
    have HPU := Lib.hid hpu
    clear hpu
    go_wp2_with fail
    go_roundw
    case rel => exact ⟨_, Came.yes HS.out (Nat.le_refl _) (HCM2.out.below (Below.refl _ _).drew) HI.out HCH.out HPU.out⟩
    case measure => exact Oth.less (Came.yes HS.out (Nat.le_refl _) (HCM2.out.below (Below.refl _ _).drew) HI.out HCH.out HPU.out) HSA.out HCM2.out.room
end FloodW
end Go.Proofs.YtpimkdaikoclnaaDoor
