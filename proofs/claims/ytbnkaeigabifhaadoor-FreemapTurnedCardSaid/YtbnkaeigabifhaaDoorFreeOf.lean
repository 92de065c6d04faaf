/-
  The map that homes say: Of.
-/
import Derived.Test.YtbnkaeigabifhaaDoorFreeHomesW
import Derived.Test.YtbnkaeigabifhaaDoorFreeEq
-- mine: whole_c same_c awake_c take_c step_c back_c Made number_c next_c fixed_c clone_c int_c end_c put_c
namespace Go.Proofs.YtbnkaeigabifhaaDoor
open Go.RowKit
set_option linter.unusedVariables false
set_option linter.unusedSimpArgs false
set_option maxRecDepth 100000
namespace FreW
open BlkP RowG FrS PushG FreP
open CrcW (Tab)
theorem and1_u8 {y : Nat} (h : y < 256) : bits .and .u8 (y : Int) 1 = ((y % 2 : Nat) : Int) := by
  have h1 : (BitVec.ofInt 8 (y : Int)).toNat = y := by
    rw [BitVec.ofInt_natCast, BitVec.toNat_ofNat]; exact Nat.mod_eq_of_lt (by omega)
  have h2 : (BitVec.ofInt 8 (1 : Int)).toNat = 1 := by decide
  show IntKind.u8.wrap ((BitVec.ofInt 8 (y : Int) &&& BitVec.ofInt 8 (1 : Int)).toNat : Int) = _
  rw [BitVec.toNat_and, h1, h2, Nat.and_one_is_mod, IntKind.wrap_u8]
  omega
theorem bit_is (Y t : Nat) : (((Y / 2 ^ t % 2 : Nat) : Int) == 1) = Y.testBit t := by
  rw [Nat.testBit_eq_decide_div_mod_eq]
  by_cases h : Y / 2 ^ t % 2 = 1
  · simp [h]
  · have : ((Y / 2 ^ t % 2 : Nat) : Int) ≠ 1 := by omega
    simp only [h, decide_false]
    simpa using this
theorem rd_str {w : World} {A : Option Addr} {m c i : Nat} {l : List (List UInt8)} {x : List UInt8} (h : Rd encS w (.slice A m c) l) (hx : l[i]? = some x) : ∃ b o, A = some ⟨b, o, none⟩ ∧ b < w.heap.size ∧ w.cell? ⟨b, o + i, none⟩ = some (.string ⟨x.toArray⟩) := by
  obtain ⟨b, o, hA, hb, hc⟩ := h.at hx
  have := hc 0 _ rfl
  exact ⟨b, o, hA, hb, by rwa [show o + i * encS.k + 0 = o + i from by have : encS.k = 1 := rfl; rw [this]; omega] at this⟩
theorem calls_named {P : Program} {f : Nat} {args : Array Value} {R : Ending → World → Prop} {W : World} (S : World → Prop) (h : S W) (k : ∀ W', S W' → Calls P f args W' R) : Calls P f args W R := k W h
set_option maxHeartbeats 1000000 in
theorem isFreeIn_c {w : World} {A : Option Addr} {m c i : Nat} {l : List (List UInt8)} (h : Rd encS w (.slice A m c) l) (hm : l.length = m) (hi : i ≤ 1000000) (hi2 : i / 4000 < m) (hs : ∀ s ∈ l, s.length = 512) :
    Calls Tryd.prog 56 #[.slice A m c, .int .i64 (i : Int)] w fun e w' => e = .returned (.bool (bitH l i)) ∧ w' = w := by
  obtain ⟨a, ha⟩ : ∃ a, a = i / 4000 := ⟨_, rfl⟩
  obtain ⟨b, hb⟩ : ∃ b, b = i % 4000 := ⟨_, rfl⟩
  obtain ⟨d, hd⟩ : ∃ d, d = b / 8 := ⟨_, rfl⟩
  obtain ⟨t, ht⟩ : ∃ t, t = b % 8 := ⟨_, rfl⟩
  rw [← ha] at hi2
  obtain ⟨x, hx⟩ : ∃ x, l[a]? = some x := ⟨_, List.getElem?_eq_getElem (by rw [hm]; exact hi2)⟩
  have hx5 : x.length = 512 := hs x (List.mem_of_getElem? hx)
  have hb4 : b < 4000 := by omega
  have hd5 : d < 512 := by omega
  have ht8 : t < 8 := by omega
  obtain ⟨y, hy⟩ : ∃ y, x[d]? = some y := ⟨_, List.getElem?_eq_getElem (by omega)⟩
  have hB : bitH l i = y.toNat.testBit t := by
    unfold bitH
    rw [← ha, ← hb, ← hd, ← ht]
    simp only [List.getD_eq_getElem?_getD, hx, hy, Option.getD_some]
  obtain ⟨bb, o, rfl, hbl, hc⟩ := rd_str h hx
  obtain ⟨X, hX⟩ : ∃ X : ByteArray, X = ⟨x.toArray⟩ := ⟨_, rfl⟩
  have hXs : X.size = 512 := by rw [hX]; simpa [ByteArray.size] using hx5
  have hXb : ∀ h, X[d]'h = y := fun h => by
    subst hX
    obtain ⟨h1, h2⟩ := List.getElem?_eq_some_iff.1 hy
    exact h2
  rw [← hX] at hc
  have hw1 : IntKind.i64.wrap ((i : Int) / 4000) = (a : Int) := by rw [IntKind.wrap_i64]; omega
  have hr1 : (i : Int) % 4000 = (b : Int) := by omega
  have hw2 : IntKind.i64.wrap ((b : Int) / 8) = (d : Int) := by rw [IntKind.wrap_i64]; omega
  have hr2 : (b : Int) % 8 = (t : Int) := by omega
  obtain ⟨Y, hY⟩ : ∃ Y : Nat, Y = y.toNat := ⟨_, rfl⟩
  have hY8 : Y < 256 := by rw [hY]; exact y.toNat_lt
  have hq : Y / 2 ^ t < 256 := Nat.lt_of_le_of_lt (Nat.div_le_self _ _) hY8
  have HQ : Hid ((bits .and .u8 ((Y : Int) / 2 ^ t) 1 == 1) = bitH l i) := Lib.hid (by
    have e : (Y : Int) / 2 ^ t = ((Y / 2 ^ t : Nat) : Int) := by simp [Int.natCast_ediv, Int.natCast_pow]
    rw [e, and1_u8 hq, bit_is, hB, hY])
  have HXB : Hid (∀ h, ((X[d]'h).toNat : Int) = (Y : Int)) := Lib.hid (fun h => by rw [hXb h, hY])
  obtain ⟨r, hr⟩ : ∃ r, r = bitH l i := ⟨_, rfl⟩
  rw [← hr] at HQ ⊢
  clear hX hXb hY hB hx hy hs h hm ha hb hd ht hr hx5
  go_enter Tryd.func56, Tryd.ntmps56
  go_wp2_with fail
  go_ret
  exact ⟨by rw [HXB.out, HQ.out]; rfl, rfl⟩
theorem of2_c {w : World} {A : Option Addr} {m c i ph : Nat} {l : List (List UInt8)} (hp : Blk w ph TSs [.slice A m c]) (h : Rd encS w (.slice A m c) l) (hm : l.length = m) (hi : i ≤ 1000000) (hi2 : i / 4000 < m) (hs : ∀ s ∈ l, s.length = 512) :
    Calls Tryd.prog 55 #[.int .i64 (i : Int), .pointer (some ⟨ph, 0, none⟩)] w fun e w' => e = .returned (.bool (bitH l i)) ∧ w' = w := by
  have c0 := hp.cell (i := 0) (v := .slice A m c) rfl
  have HC := Lib.hid (isFreeIn_c h hm hi hi2 hs)
  clear hp h hm hi hi2 hs
  go_enter Tryd.func55, Tryd.ntmps55
  go_wp2_with fail
  go_at_call 56
  refine HC.out.mono ?_
  rintro e w1 ⟨rfl, hw⟩
  obtain rfl := hw.symm
  go_wp2_with fail
  go_ret
  exact ⟨rfl, rfl⟩
theorem of1_c (x : List UInt8) {r : Bool} (hr : decide (x.length ≠ 512) = r) (w : World) : Calls Tryd.prog 53 #[.string ⟨x.toArray⟩] w fun e w' => e = .returned (.bool r) ∧ w' = w := by
  have es : (⟨x.toArray⟩ : ByteArray).size = x.length := by simp [ByteArray.size]
  obtain ⟨X, hX⟩ : ∃ X : ByteArray, X = ⟨x.toArray⟩ := ⟨_, rfl⟩
  rw [← hX] at es ⊢
  obtain ⟨n, hn⟩ : ∃ n, n = x.length := ⟨_, rfl⟩
  rw [← hn] at es hr
  clear hX hn
  by_cases h : n = 512
  · have : r = false := by rw [← hr]; simp [h]
    subst this
    clear hr
    go_enter Tryd.func53, Tryd.ntmps53
    go_wp2_with fail
    go_ret
    exact ⟨rfl, rfl⟩
  · have : r = true := by rw [← hr]; simp [h]
    subst this
    have hne : ((n : Int) != 512) = true := by simp; omega
    clear hr
    go_enter Tryd.func53, Tryd.ntmps53
    go_wp2_with fail
    go_ret
    exact ⟨rfl, rfl⟩
/-- Is one of the first k cut? -/
def cutH (l : List (List UInt8)) : Bool := l.any fun s => decide (s.length ≠ 512)
set_option maxHeartbeats 1000000 in
theorem index_c {w : World} {A : Option Addr} {m c : Nat} {l : List (List UInt8)} (h : Rd encS w (.slice A m c) l) (hm : l.length = m) :
    Calls Tryd.prog 64 #[.slice A m c, .func (.func 53) #[] #[]] w fun e w' => ∃ r : Int, e = .returned (.int .i64 r) ∧ decide (0 ≤ r) = cutH l ∧ w' = w := by
  have H := Lib.hid h
  have HM := Lib.hid hm
  have hmb : m ≤ 9223372036854775807 := by
    obtain ⟨A, c, e, q1, q2⟩ := h.form hm
    omega
  clear h hm
  go_enter Tryd.func64, Tryd.ntmps64
  go_wp2_with fail
  go_loopw [5, 8] (fun v5 v8 wr => ∃ i : Nat, v8 = .int .i64 (i : Int) ∧ i ≤ m ∧ cutH (l.take i) = false ∧ wr = w) (fun v5 v8 _ => m - (RowKit.intOf v8).toNat)
  case atStart => exact ⟨0, rfl, Nat.zero_le _, rfl, rfl⟩
  case round =>
    obtain ⟨i, rfl, hi, hc, hwr⟩ := hrel
    obtain rfl := hwr
    have HC := Lib.hid hc
    clear hc
    by_cases hlt : i < m
    · obtain ⟨x, hx⟩ : ∃ x, l[i]? = some x := ⟨_, List.getElem?_eq_getElem (by rw [HM.out]; exact hlt)⟩
      obtain ⟨b, o, rfl, hb, hcl⟩ := rd_str H.out hx
      obtain ⟨r, hr⟩ : ∃ r, decide (x.length ≠ 512) = r := ⟨_, rfl⟩
      have HF := Lib.hid (of1_c x hr)
      have HN := Lib.hid (show cutH (l.take (i + 1)) = (cutH (l.take i) || r) by
        rw [List.take_add_one, hx]
        unfold cutH
        rw [List.any_append, ← hr]
        simp only [Option.toList_some, List.any_cons, List.any_nil, Bool.or_false])
      have HI := Lib.hid (show r = true → cutH l = true from fun q => by
        unfold cutH
        rw [List.any_eq_true]
        exact ⟨x, List.mem_of_getElem? hx, by rw [hr, q]⟩)
      obtain ⟨X, hX⟩ : ∃ X : ByteArray, X = ⟨x.toArray⟩ := ⟨_, rfl⟩
      rw [← hX] at hcl HF
      clear hx hr hX
      cases r with
      | true =>
        go_wp2_with fail
        go_at_call 53
        refine (HF.out _).mono ?_
        rintro e w1 ⟨rfl, hw⟩
        obtain rfl := hw.symm
        go_wp2_with fail
        go_ret
        exact ⟨_, rfl, by rw [HI.out (by first | rfl | trivial)]; simp, rfl⟩
      | false =>
        go_wp2_with fail
        go_at_call 53
        refine (HF.out _).mono ?_
        rintro e w1 ⟨rfl, hw⟩
        obtain rfl := hw.symm
        go_wp2_with fail
        go_roundw
        case rel => exact ⟨i + 1, by go_num, by omega, by rw [HN.out, HC.out]; rfl, by first | rfl | trivial⟩
        case measure => simp [RowKit.intOf]; omega
    · have HE := Lib.hid (show cutH l = false by
        have e := HC.out
        rwa [List.take_of_length_le (by rw [HM.out]; omega)] at e)
      go_wp2_with fail
      go_ret
      exact ⟨-1, rfl, by rw [HE.out]; decide, rfl⟩
theorem contains_c {w : World} {A : Option Addr} {m c : Nat} {l : List (List UInt8)} (h : Rd encS w (.slice A m c) l) (hm : l.length = m) :
    Calls Tryd.prog 54 #[.slice A m c, .func (.func 53) #[] #[]] w fun e w' => e = .returned (.bool (cutH l)) ∧ w' = w := by
  have HI := Lib.hid (index_c h hm)
  clear h hm
  go_enter Tryd.func54, Tryd.ntmps54
  go_wp2_with fail
  go_at_call 64
  refine HI.out.mono ?_
  rintro e w1 ⟨r, rfl, hr, hw⟩
  obtain rfl := hw.symm
  have HR := Lib.hid hr
  clear hr
  go_wp2_with fail
  go_ret
  exact ⟨by rw [← HR.out]; rfl, rfl⟩
theorem lens_cut {n : Nat} {l : List (List UInt8)} (h : l.length = hs n) : lensH n l = !cutH l := by
  unfold lensH cutH
  rw [h]
  simp only [decide_true, Bool.true_and]
  induction l with
  | nil => rfl
  | cons x r ih => 
    have : ∀ r : List (List UInt8), (r.all fun s => decide (s.length = 512)) = !(r.any fun s => decide (s.length ≠ 512)) := fun r => by
      induction r with
      | nil => rfl
      | cons x r ih =>
        rw [List.all_cons, List.any_cons, ih, Bool.not_or]
        congr 1
        by_cases hx : x.length = 512 <;> simp [hx]
    exact this _
theorem Of_no {n : Int} (h : isM n = false) {w : World} {A : Option Addr} {m c : Nat} :
    Calls Tryd.prog 32 #[.int .i64 n, .slice A m c] w fun e w' => e = .returned (.tuple #[.pointer none, .int .i64 2]) ∧ Below w.heap.size w w' := by
  go_enter Tryd.func32, Tryd.ntmps32
  go_wp2_with fail
  go_at_call 36
  refine (isMap_c h _).mono ?_
  rintro e w1 ⟨rfl, hw⟩
  obtain rfl := hw.symm
  go_wp2_with fail
  refine bodyPost_ret (v := .tuple #[.pointer none, .int .i64 2]) (by simp [results, Tryd.results32, go_sem]) rfl ?_
  exact ⟨rfl, by (repeat' (first | (with_reducible exact Below.refl _ _) | (with_reducible refine Below.setCell ?_ (by (first | omega | (simp; done) | (simp; omega))) _) | (with_reducible refine Below.alloc ?_ (by (first | omega | (simp; done) | (simp; omega))) _) | (with_reducible refine Below.drew ?_) | (with_reducible refine below_drewN ?_ _)))⟩
/-- What Of answers. -/
def OfP (w : World) (n : Nat) (l : List (List UInt8)) (e : Ending) (w' : World) : Prop :=
  (∃ L p, ofM n l = some L ∧ e = .returned (.tuple #[.pointer (some ⟨p, 0, none⟩), .int .i64 0]) ∧ Made w p n L w') ∨ (ofM n l = none ∧ e = .returned (.tuple #[.pointer none, .int .i64 4]) ∧ Below w.heap.size w w')
theorem ofM_lens {n : Nat} {l : List (List UInt8)} (h : lensH n l = false) : ofM n l = none := by
  unfold ofM
  rw [h]
  simp
theorem made_below {w w2 w3 : World} {p n : Nat} {L : List Bool} (hb : Below w.heap.size w w2) (hm : Made w2 p n L w3) : Made w p n L w3 := by
  obtain ⟨S, h1, h2⟩ := hm
  exact ⟨S, h1.mono hb.size, hb.trans (h2.mono hb.size)⟩
set_option maxHeartbeats 4000000 in
theorem Of_i {n : Nat} (lo : 256 ≤ n) (hi : n ≤ 131072) {w : World} {A : Option Addr} {m c : Nat} {l : List (List UInt8)} (hT : Tab w) (h : Rd encS w (.slice A m c) l) (hm : l.length = m) :
    Calls Tryd.prog 32 #[.int .i64 (n : Int), .slice A m c] w (OfP w n l) := by
  have HM := Lib.hid (isM_iff.2 (show (256 : Int) ≤ n ∧ (n : Int) ≤ 131072 by omega))
  have H := Lib.hid h
  have HT := Lib.hid hT
  have HL := Lib.hid hm
  have hmb : m ≤ 9223372036854775807 := by
    obtain ⟨A, c, e, q1, q2⟩ := h.form hm
    omega
  obtain ⟨K, hK⟩ : ∃ K, K = FreP.hs n := ⟨_, rfl⟩
  have hK33 : K ≤ 33 := by rw [hK]; exact hs_le hi
  have HK := Lib.hid hK
  have HSZ : Hid (∀ w, Calls Tryd.prog 13 #[.int .i64 (n : Int)] w fun e w' => e = .returned (.int .i64 (K : Int)) ∧ w' = w) := Lib.hid (fun w => by
    have := Size_c (n : Int) w
    rw [size_i lo hi, ← hK] at this
    exact this)
  have HCF : Hid (∀ q, Calls Tryd.prog 54 #[.slice A m c, .func (.func 53) #[] #[]] ((w.alloc (.cells #[.slice A m c] TSs)).drewN q) fun e w' => e = .returned (.bool (cutH l)) ∧ w' = (w.alloc (.cells #[.slice A m c] TSs)).drewN q) := Lib.hid (fun q => contains_c (h.below (by (repeat' (first | (with_reducible exact Below.refl _ _) | (with_reducible refine Below.setCell ?_ (by (first | omega | (simp; done) | (simp; omega))) _) | (with_reducible refine Below.alloc ?_ (by (first | omega | (simp; done) | (simp; omega))) _) | (with_reducible refine Below.drew ?_) | (with_reducible refine below_drewN ?_ _))))) hm)
  clear h hT hm hK
  by_cases hmK : m = K
  · subst hmK
    have HLC := Lib.hid (lens_cut (n := n) (l := l) (by rw [HL.out]; exact HK.out))
    cases hc : cutH l with
    | true =>
      rw [hc] at HCF HLC
      have HN := Lib.hid (ofM_lens HLC.out)
      clear hc HLC
      go_enter Tryd.func32, Tryd.ntmps32
      go_wp2_with fail
      go_at_call 36
      refine (isMap_c HM.out _).mono ?_
      rintro e w1 ⟨rfl, hw⟩
      obtain rfl := hw.symm
      go_wp2_with fail
      go_quiet ((first | (go_at_call 13; exact Calls.quiet_of_same (HSZ.out _)) | (go_at_call 54; exact Calls.quiet_of_same (HCF.out _))))
      go_wp2_with fail
      refine bodyPost_ret (v := .tuple #[.pointer none, .int .i64 4]) (by simp [results, Tryd.results32, go_sem]) rfl ?_
      exact .inr ⟨HN.out, rfl, by (repeat' (first | (with_reducible exact Below.refl _ _) | (with_reducible refine Below.setCell ?_ (by (first | omega | (simp; done) | (simp; omega))) _) | (with_reducible refine Below.alloc ?_ (by (first | omega | (simp; done) | (simp; omega))) _) | (with_reducible refine Below.drew ?_) | (with_reducible refine below_drewN ?_ _)))⟩
    | false =>
      rw [hc] at HCF HLC
      have HLY := Lib.hid (show lensH n l = true from HLC.out)
      have HS5 : Hid (∀ s ∈ l, s.length = 512) := Lib.hid (fun s hs => by
        have := HLY.out
        unfold lensH at this
        simp only [Bool.and_eq_true, List.all_eq_true, decide_eq_true_eq] at this
        exact this.2 s hs)
      clear hc HLC
      go_enter Tryd.func32, Tryd.ntmps32
      go_wp2_with fail
      go_at_call 36
      refine (isMap_c HM.out _).mono ?_
      rintro e w1 ⟨rfl, hw⟩
      obtain rfl := hw.symm
      go_wp2_with fail
      go_quiet ((first | (go_at_call 13; exact Calls.quiet_of_same (HSZ.out _)) | (go_at_call 54; exact Calls.quiet_of_same (HCF.out _))))
      go_wp2_with fail
      go_at_call 37
      refine calls_named (S := fun W => Blk W w.heap.size TSs [.slice A m c] ∧ Below w.heap.size w W) ⟨by (repeat' (first | (with_reducible refine BlkP.Blk.drew ?_) | (with_reducible refine BlkP.Blk.drewN ?_ _) | (with_reducible refine BlkP.Blk.setAt (us := ?_) (by first | omega | (simp; done) | (simp; omega)) rfl ?_ ?_) | (with_reducible refine BlkP.Blk.otherAt ?_ (by first | omega | (simp; done) | (simp; omega))) | (with_reducible refine BlkP.Blk.newA' (by first | omega | (simp; done) | (simp; omega)) rfl) | (with_reducible refine BlkP.Blk.alloc ?_ _) | (exact rfl))), by (repeat' (first | (with_reducible exact Below.refl _ _) | (with_reducible refine Below.setCell ?_ (by (first | omega | (simp; done) | (simp; omega))) _) | (with_reducible refine Below.alloc ?_ (by (first | omega | (simp; done) | (simp; omega))) _) | (with_reducible refine Below.drew ?_) | (with_reducible refine below_drewN ?_ _)))⟩ fun w3 h3 => ?_
      have K3 := Lib.hid h3.1
      have B3 := Lib.hid h3.2
      have hz3 := h3.2.size
      clear h3
      refine (madeH_c (f := bitH l) lo hi (fun i hi' W hW => of2_c (K3.out.below hW) (H.out.below (B3.out.trans (hW.mono hz3))) HL.out (by omega) (by rw [HK.out]; exact hs_at hi') HS5.out)).mono ?_
      rintro e w4 ⟨p, rfl, S, hM, hb4⟩
      have M4 := Lib.hid hM
      have B4 := Lib.hid (B3.out.trans (hb4.mono hz3))
      have K4 := Lib.hid (K3.out.below hb4)
      have T4 := Lib.hid (HT.out.below B4.out)
      have k4 := K4.out.cell (i := 0) (v := .slice A m c) rfl
      have hl4 := K4.out.lt
      have H4 := Lib.hid (H.out.below B4.out)
      have HMD : Hid (Made w3 p n (bitsL (bitH l) n) w4) := Lib.hid ⟨S, hM, hb4⟩
      clear hM hb4
      by_cases he : homes (bitsL (bitH l) n) = l
      · have HE : Hid (ofM n l = some (bitsL (bitH l) n)) := Lib.hid (by unfold ofM; rw [if_pos ⟨HLY.out, he⟩])
        have HD := Lib.hid (decide_eq_true he)
        clear he
        go_wp2_with fail
        refine wp_region_noPanic ?_
        refine wp_region_held_drew (S := fun Xw => Below w4.heap.size w4 Xw) (by kernel_rfl) ((Below.refl _ w4).drew) (fun hHeld => ?_)
        refine wpAnyH_take (i := 0) (oi := ⟨some 26, _, _, _, _, _⟩) (v := .pointer (some ⟨p, 0, none⟩)) rfl (by kernel_rfl) (by kernel_rfl) (by kernel_rfl) (fun _ _ _ h => h) (Or.inl ⟨by rfl, fun Xw hSW => by go_simp⟩) hHeld ?_
        simp only [Act.put, List.setIfInBounds_toArray, List.set_cons_zero, List.set_cons_succ]
        refine wpAnyH_take (i := 2) (oi := ⟨some 28, _, _, _, _, _⟩) (v := .slice A m c) rfl (by kernel_rfl) (by kernel_rfl) (by kernel_rfl) (fun _ _ _ h => h) (Or.inl ⟨by rfl, fun Xw hSW => by have a := (hSW.cell (p := ⟨w.heap.size, 0, none⟩) hl4).trans k4; go_simp⟩) hHeld ?_
        simp only [Act.put, List.setIfInBounds_toArray, List.set_cons_zero, List.set_cons_succ]
        refine wpAnyH_ready (rs := [1]) (by kernel_rfl) (by simp) ?_
        refine AllReadyH.cons (o := ⟨some 27, _, _, _, _, _⟩) rfl (fun K hK => ?_) AllReadyH.nil
        go_simp
        refine (Homes_i (M4.out.below (Below.refl _ w4).drew) (T4.out.below (Below.refl _ w4).drew)).mono ?_
        rintro e w5 ⟨v5, rfl, ho5, hb5⟩
        obtain ⟨A5, c5, rfl, hc5, _, _⟩ := ho5.form (homes_len _)
        have B5 := Lib.hid ((Below.refl _ w4).drew.trans (hb5.mono (Nat.le_refl _)))
        have O5 := Lib.hid ho5.rd
        have H5 := Lib.hid (H4.out.below B5.out)
        clear ho5 hb5
        go_wp2_with fail
        refine hK.out _ _ (B5.out) (fun hHeld => ?_)
        clear hK K
        refine wpAnyH_ready (rs := [3]) (by kernel_rfl) (by simp) ?_
        refine AllReadyH.cons (o := ⟨some 29, _, _, _, _, _⟩) rfl (fun K hK => ?_) AllReadyH.nil
        go_simp
        refine (Equal_c O5.out H5.out (homes_len _) HL.out HD.out).mono ?_
        rintro e w6 ⟨rfl, hb6⟩
        have B6 := Lib.hid (B5.out.trans (hb6.mono B5.out.size))
        clear hb6
        go_wp2_with fail
        refine hK.out _ _ (B6.out) (fun hHeld => ?_)
        clear hK K
        refine wpAnyH_take (i := 4) (oi := ⟨some 30, _, _, _, _, _⟩) (v := .bool false) rfl (by kernel_rfl) (by kernel_rfl) (by kernel_rfl) (fun _ _ _ h => h) (Or.inl ⟨by rfl, fun Xw hSW => by go_simp⟩) hHeld ?_
        simp only [Act.put, List.setIfInBounds_toArray, List.set_cons_zero, List.set_cons_succ]
        refine wpAnyH_done (by kernel_rfl) ?_ _
        refine NoPanic.normal ?_
        go_wp2_with fail
        refine bodyPost_ret (v := .tuple #[.pointer (some ⟨p, 0, none⟩), .int .i64 0]) (by simp [results, Tryd.results32, go_sem]) rfl ?_
        refine .inl ⟨_, p, HE.out, rfl, made_below B3.out ?_⟩
        obtain ⟨S, h1, h2⟩ := HMD.out
        exact ⟨S, h1.below hHeld, h2.trans (hHeld.mono h2.size)⟩
      · have HE : Hid (ofM n l = none) := Lib.hid (by unfold ofM; rw [if_neg (fun q => he q.2)])
        have HD := Lib.hid (decide_eq_false he)
        clear he
        go_wp2_with fail
        refine wp_region_noPanic ?_
        refine wp_region_held_drew (S := fun Xw => Below w4.heap.size w4 Xw) (by kernel_rfl) ((Below.refl _ w4).drew) (fun hHeld => ?_)
        refine wpAnyH_take (i := 0) (oi := ⟨some 26, _, _, _, _, _⟩) (v := .pointer (some ⟨p, 0, none⟩)) rfl (by kernel_rfl) (by kernel_rfl) (by kernel_rfl) (fun _ _ _ h => h) (Or.inl ⟨by rfl, fun Xw hSW => by go_simp⟩) hHeld ?_
        simp only [Act.put, List.setIfInBounds_toArray, List.set_cons_zero, List.set_cons_succ]
        refine wpAnyH_take (i := 2) (oi := ⟨some 28, _, _, _, _, _⟩) (v := .slice A m c) rfl (by kernel_rfl) (by kernel_rfl) (by kernel_rfl) (fun _ _ _ h => h) (Or.inl ⟨by rfl, fun Xw hSW => by have a := (hSW.cell (p := ⟨w.heap.size, 0, none⟩) hl4).trans k4; go_simp⟩) hHeld ?_
        simp only [Act.put, List.setIfInBounds_toArray, List.set_cons_zero, List.set_cons_succ]
        refine wpAnyH_ready (rs := [1]) (by kernel_rfl) (by simp) ?_
        refine AllReadyH.cons (o := ⟨some 27, _, _, _, _, _⟩) rfl (fun K hK => ?_) AllReadyH.nil
        go_simp
        refine (Homes_i (M4.out.below (Below.refl _ w4).drew) (T4.out.below (Below.refl _ w4).drew)).mono ?_
        rintro e w5 ⟨v5, rfl, ho5, hb5⟩
        obtain ⟨A5, c5, rfl, hc5, _, _⟩ := ho5.form (homes_len _)
        have B5 := Lib.hid ((Below.refl _ w4).drew.trans (hb5.mono (Nat.le_refl _)))
        have O5 := Lib.hid ho5.rd
        have H5 := Lib.hid (H4.out.below B5.out)
        clear ho5 hb5
        go_wp2_with fail
        refine hK.out _ _ (B5.out) (fun hHeld => ?_)
        clear hK K
        refine wpAnyH_ready (rs := [3]) (by kernel_rfl) (by simp) ?_
        refine AllReadyH.cons (o := ⟨some 29, _, _, _, _, _⟩) rfl (fun K hK => ?_) AllReadyH.nil
        go_simp
        refine (Equal_c O5.out H5.out (homes_len _) HL.out HD.out).mono ?_
        rintro e w6 ⟨rfl, hb6⟩
        have B6 := Lib.hid (B5.out.trans (hb6.mono B5.out.size))
        clear hb6
        go_wp2_with fail
        refine hK.out _ _ (B6.out) (fun hHeld => ?_)
        clear hK K
        refine wpAnyH_take (i := 4) (oi := ⟨some 30, _, _, _, _, _⟩) (v := .bool true) rfl (by kernel_rfl) (by kernel_rfl) (by kernel_rfl) (fun _ _ _ h => h) (Or.inl ⟨by rfl, fun Xw hSW => by go_simp⟩) hHeld ?_
        simp only [Act.put, List.setIfInBounds_toArray, List.set_cons_zero, List.set_cons_succ]
        refine wpAnyH_done (by kernel_rfl) ?_ _
        refine NoPanic.normal ?_
        go_wp2_with fail
        refine bodyPost_ret (v := .tuple #[.pointer none, .int .i64 4]) (by simp [results, Tryd.results32, go_sem]) rfl ?_
        exact .inr ⟨HE.out, rfl, B4.out.trans (hHeld.mono B4.out.size)⟩
  · have HN : Hid (ofM n l = none) := Lib.hid (ofM_lens (by
      unfold lensH
      rw [HL.out, ← HK.out]
      simp [hmK]))
    have hne : ((m : Int) != (K : Int)) = true := by simp; omega
    go_enter Tryd.func32, Tryd.ntmps32
    go_wp2_with fail
    go_at_call 36
    refine (isMap_c HM.out _).mono ?_
    rintro e w1 ⟨rfl, hw⟩
    obtain rfl := hw.symm
    go_wp2_with fail
    go_quiet ((first | (go_at_call 13; exact Calls.quiet_of_same (HSZ.out _)) | (go_at_call 54; exact Calls.quiet_of_same (HCF.out _))))
    go_wp2_with fail
    refine bodyPost_ret (v := .tuple #[.pointer none, .int .i64 4]) (by simp [results, Tryd.results32, go_sem]) rfl ?_
    exact .inr ⟨HN.out, rfl, by (repeat' (first | (with_reducible exact Below.refl _ _) | (with_reducible refine Below.setCell ?_ (by (first | omega | (simp; done) | (simp; omega))) _) | (with_reducible refine Below.alloc ?_ (by (first | omega | (simp; done) | (simp; omega))) _) | (with_reducible refine Below.drew ?_) | (with_reducible refine below_drewN ?_ _)))⟩
end FreW
end Go.Proofs.YtbnkaeigabifhaaDoor
