/-
  The reference's Used: what is used, laid one by one at its place.
-/
import Derived.Test.YtjcmpcdalghniaaDoorSectorRef
namespace Go.Proofs.YtjcmpcdalghniaaDoor
open Go.RowKit
set_option linter.unusedVariables false
set_option linter.unusedSimpArgs false
set_option maxRecDepth 100000
namespace SecW
open BlkP RowG FrS PushG JournalP SecP
theorem infoI : (Tryd.prog.info? 3).map (fun i => (i.zero, i.size, i.bytes)) = some (some (.int .i64 0), 1, 8) := by kernel_rfl
theorem underIs : Tryd.prog.underlying 52 = some (.slice 3) := Tryd.underlying52
theorem tyI : RowE.Ty RowG.encI 52 3 8 := ⟨underIs, ⟨_, infoI, rfl⟩, by decide⟩
set_option maxHeartbeats 16000000 in
theorem rUsed_c {w : World} {B pq m : Nat} {d : Dk} {S : Nat → Prop} (h : Rsk w B pq m d S) (hm : m ≤ 1000) :
    Calls Tryd.prog 38 #[.pointer (some ⟨pq, 0, none⟩)] w fun e w' => ∃ v, e = .returned v ∧ ToldI w v (used d.n d.now) w' := by
  obtain ⟨v, A, kept, hr, hS⟩ := h
  have HP := Lib.hid hr
  have HS := Lib.hid hS
  have c0 := hr.bq.cell (i := 0) rfl
  have c1 := hr.bq.cell (i := 1) rfl
  have c2 := hr.bq.cell (i := 2) rfl
  have lq := hr.bq.lt
  obtain ⟨n, hn⟩ : ∃ n, A.length = n := ⟨_, rfl⟩
  have HN := Lib.hid hn
  have hnm : n ≤ m := by have := hr.len; omega
  obtain ⟨Av, cA, rfl, hcn, hcm, hAv⟩ := hr.row.form hn
  have HAV := Lib.hid hAv
  clear hAv hn
  clear hr hS
  have HM := Lib.hid hm
  go_enter Tryd.func38, Tryd.ntmps38
  go_wp2_with fail
  go_loopw [3, 4] (fun v3 v4 wr => ∃ (i : Nat) (vr : Value), v4 = .int .i64 (i : Int) ∧ vr = v3 ∧ i ≤ n ∧ RowG.Own RowG.encI 3 wr w.heap.size vr ((usedTo d.n A d.now i).map fun q : Nat => (q : Int)) ∧ Below w.heap.size w wr) (fun _ v _ => n - (intOf v).toNat)
  case atStart => exact ⟨0, _, rfl, rfl, Nat.zero_le _, by rw [usedTo_zero]; exact Own.nil _ _ _ _, Below.refl _ _⟩
  case round =>
    obtain ⟨i, vr, rfl, rfl, hin, hou, hbr⟩ := hrel
    obtain ⟨ul, hul⟩ : ∃ ul, (usedTo d.n A d.now i).map (fun q : Nat => (q : Int)) = ul := ⟨_, rfl⟩
    rw [hul] at hou
    have HUL := Lib.hid hul
    obtain ⟨nu, hnu⟩ : ∃ nu, ul.length = nu := ⟨_, rfl⟩
    have HUN := Lib.hid hnu
    have hnub : nu ≤ 131072 := by
      rw [← hnu, ← hul, List.length_map]
      have h1 : (usedTo d.n A d.now i).length ≤ d.n := by
        have := List.length_filter_le (fun q => d.now q != SecP.blank && (A.take i).any (fun y => y.1 == q)) (List.range d.n)
        rw [List.length_range] at this
        exact this
      have := HP.out.ok.hi
      omega
    obtain ⟨Au, cu, rfl, hcu, _, hAu⟩ := hou.form hnu
    have HAU := Lib.hid hAu
    have OU := Lib.hid hou
    have B1 := Lib.hid hbr
    have HP1 := Lib.hid (HP.out.fr (Fr.below (fun _ => False) hbr) (fun _ _ q => q))
    have c1 := HP1.out.bq.cell (i := 1) rfl
    have lq := HP1.out.bq.lt
    have hz1 := hbr.size
    clear hul hnu hAu hou hbr
    by_cases hi : i < n
    · have hiI : (i : Int) < (n : Int) := by omega
      obtain ⟨⟨xa, xs⟩, hx⟩ : ∃ x, A[i]? = some x := ⟨_, List.getElem?_eq_getElem (by have := HN.out; omega)⟩
      obtain ⟨g, rfl, _, _⟩ := HAV.out (by omega)
      have x0 : wr.cell? ⟨g, i * 2, none⟩ = some (.int .i64 (xa : Int)) := HP1.out.row.cell (j := 0) hx rfl
      have gl := (HP1.out.row.ge g rfl).2
      have hxn := (HP.out.all _ (List.mem_of_getElem? hx)).1
      simp only at hxn
      have HX := Lib.hid hx
      have hind : inD d (xa : Int) = true := inD_iff.2 ⟨by omega, by omega⟩
      have HRD := Lib.hid (show readD d (xa : Int) = d.now xa by unfold readD; rw [hind]; rfl)
      have HRE := Lib.hid (show readE d (xa : Int) = 0 by unfold readE; rw [hind]; rfl)
      clear hx hind
      go_wp2_with fail
      refine (rRead_c (⟨_, A, kept, HP1.out, HS.out⟩ : Rsk wr B pq m d S) HM.out).mono ?_
      rintro e w2 ⟨he, hb2⟩
      rw [HRD.out, HRE.out] at he
      subst he
      obtain ⟨s, hs⟩ : ∃ s, d.now xa = s := ⟨_, rfl⟩
      rw [hs]
      have HSV := Lib.hid hs
      have B2 := Lib.hid (below_t B1.out hb2)
      have OU2 := Lib.hid (OU.out.below hb2)
      clear hb2 x0 gl c1 lq hs
      go_wp2_with fail
      go_loopw [8] (fun v8 wq => ∃ k : Nat, v8 = .int .i64 (k : Int) ∧ k ≤ nu ∧ (∀ (t : Nat) (z : Int), t < k → ul[t]? = some z → z < (xa : Int)) ∧ wq = w2) (fun v _ => nu - (intOf v).toNat)
      case atStart => exact ⟨0, rfl, Nat.zero_le _, fun t z ht => by omega, rfl⟩
      case round =>
        obtain ⟨k, rfl, hk, hlt, rfl⟩ := hrel
        have HLT := Lib.hid hlt
        clear hlt
        have hcase : (k < nu ∧ ∃ z, ul[k]? = some z ∧ z < (xa : Int)) ∨ (k < nu ∧ ∃ z, ul[k]? = some z ∧ ¬ z < (xa : Int)) ∨ k = nu := by
          by_cases h : k < nu
          · have hz : ul[k]? = some (ul[k]'(by rw [HUN.out]; exact h)) := List.getElem?_eq_getElem _
            by_cases h2 : ul[k]'(by rw [HUN.out]; exact h) < (xa : Int)
            · exact .inl ⟨h, _, hz, h2⟩
            · exact .inr (.inl ⟨h, _, hz, h2⟩)
          · exact .inr (.inr (by omega))
        rcases hcase with ⟨hkn, z, hz, hzl⟩ | ⟨hkn, z, hz, hzl⟩ | hkn
        · have hkI : (k : Int) < (nu : Int) := by omega
          obtain ⟨gu, rfl, _, _⟩ := HAU.out (by omega)
          have y0 := int_at OU2.out hz
          have gul := (OU2.out.ge gu rfl).2
          have HZ := Lib.hid hz
          clear hz
          go_wp2_with fail
          go_roundw
          case measure => first | (simp [intOf]; done) | (simp [intOf]; omega)
          case rel =>
            refine ⟨k + 1, by first | rfl | (congr 1; omega), by omega, fun t z' ht hz' => ?_, by first | rfl | trivial⟩
            rcases Nat.lt_or_ge t k with e | e
            · exact HLT.out t z' e hz'
            · have : t = k := by omega
              subst this
              rw [HZ.out] at hz'
              injection hz' with hz'
              omega
        · have hkI : (k : Int) < (nu : Int) := by omega
          obtain ⟨gu, rfl, _, _⟩ := HAU.out (by omega)
          have y0 := int_at OU2.out hz
          have gul := (OU2.out.ge gu rfl).2
          have HZ := Lib.hid hz
          clear hz
          by_cases hsb : s = SecP.blank
          · have qe : ((str s).toList == (str SecP.blank).toList) = true := by rw [hsb]; simp
            go_wp2_with fail
            refine rBlank_c.mono ?_
            rintro e w3 ⟨rfl, hb3⟩
            have B3 := Lib.hid (below_t B2.out hb3)
            have OB := Lib.hid (OU2.out.below hb3)
            clear hb3
            have y0 := int_at OB.out HZ.out
            have gul := (OB.out.ge gu rfl).2
            go_wp2_with fail
            go_roundw
            case measure => first | (simp [intOf]; done) | (simp [intOf]; omega)
            case rel => exact ⟨i + 1, _, by first | rfl | (congr 1; omega), rfl, by omega, by rw [usedTo_same HX.out (.inl (HSV.out.trans hsb)), HUL.out]; exact OB.out, B3.out⟩
          · have qe : ((str s).toList == (str SecP.blank).toList) = false := by
              rw [str_toList, str_toList]
              simpa using hsb
            by_cases hza : z = (xa : Int)
            · have hmem : xa ∈ usedTo d.n A d.now i := by
                have h1 := List.mem_of_getElem? HZ.out
                rw [← HUL.out, List.mem_map] at h1
                obtain ⟨q, h2, h3⟩ := h1
                have : q = xa := by omega
                rw [← this]
                exact h2
              have HME := Lib.hid hmem
              clear hmem
              go_wp2_with fail
              refine rBlank_c.mono ?_
              rintro e w3 ⟨rfl, hb3⟩
              have B3 := Lib.hid (below_t B2.out hb3)
              have OB := Lib.hid (OU2.out.below hb3)
              clear hb3
              have y0 := int_at OB.out HZ.out
              have gul := (OB.out.ge gu rfl).2
              go_wp2_with fail
              go_roundw
              case measure => first | (simp [intOf]; done) | (simp [intOf]; omega)
              case rel => exact ⟨i + 1, _, by first | rfl | (congr 1; omega), rfl, by omega, by rw [usedTo_same HX.out (.inr HME.out), HUL.out]; exact OB.out, B3.out⟩
            · have HBE := Lib.hid (show ∀ z', ul[k]? = some z' → (xa : Int) < z' from fun z' hz' => by
                rw [HZ.out] at hz'
                injection hz' with hz'
                omega)
              have HBS := Lib.hid (show (Value.slice (some ⟨gu, 0, none⟩) nu cu).ownBlock ≠ none from fun q => by cases q)
              go_wp2_with fail
              refine rBlank_c.mono ?_
              rintro e w3 ⟨rfl, hb3⟩
              have B3 := Lib.hid (below_t B2.out hb3)
              have OB := Lib.hid (OU2.out.below hb3)
              clear hb3
              have y0 := int_at OB.out HZ.out
              have gul := (OB.out.ge gu rfl).2
              go_wp2_with ((with_reducible refine at_slot 67 ?_); refine Classical.byContradiction (fun hG => ?_))
              refine hG ?_
              clear hG
              clear y0 gul
              refine RowE.wp_uptoE tyI rfl (.tmp 65) (.tmp 66) rfl (k := k) rfl rfl OB.out.rd (by rw [HUN.out]; exact hk) ?_
              intro hup
              have HUP := Lib.hid hup
              clear hup
              go_wp2_with ((with_reducible refine at_slot 68 ?_); refine Classical.byContradiction (fun hG => ?_))
              refine hG ?_
              clear hG
              refine RowE.wp_appE tyI rfl (.tmp 64) (.tmp 67) rfl (B := w.heap.size) (l0 := []) rfl rfl (Own.nil _ _ _ _) HUP.out (by simp; omega) (by simp; omega) B3.out.size ?_
              intro vl w5 ho5 hg5 hv5
              have hlt5 : (ul.take k).length = k := by rw [List.length_take, HUN.out]; omega
              have hg5' : w3.grownBy w5 none := hg5
              have OL := Lib.hid (show RowG.Own RowG.encI 3 w5 w.heap.size vl (ul.take k) by simpa using ho5)
              have OB5 := Lib.hid (OB.out.grown hg5' (by cases (Value.slice (some ⟨gu, 0, none⟩) nu cu).ownBlock <;> simp))
              have B5 := Lib.hid (B3.out.grown hg5' B3.out.size (fun q hq => by cases hq))
              have HNE := Lib.hid (show ∀ q, vl.ownBlock = some q → (Value.slice (some ⟨gu, 0, none⟩) nu cu).ownBlock ≠ some q from fun q hq e => by
                rcases hv5 with h | h
                · rw [hq] at h
                  cases h
                · rw [hq] at h
                  injection h with h
                  have := (OB.out.ge q e).2
                  omega)
              obtain ⟨Al, cl, rfl, hcl, _, _⟩ := OL.out.form hlt5
              clear ho5 hg5 hg5' hv5
              go_wp2_with ((with_reducible refine at_slot 72 ?_); refine Classical.byContradiction (fun hG => ?_))
              refine hG ?_
              clear hG
              refine RowE.wp_pushE tyI (by decide) rfl (.tmp 69) (.tmp 71) rfl (w0 := w5) (B := w.heap.size) (v := .slice Al k cl) (l := ul.take k) (y := (xa : Int)) rfl rfl rfl OL.out rfl (by first | rfl | (simp; done)) (by omega) B5.out.size ?_
              intro g6 c6 w6 hpu
              rw [hlt5] at hpu ⊢
              have O6 := Lib.hid hpu.1
              have OB6 := Lib.hid (OB5.out.grown hpu.2.1 (.inr (fun e => by
                cases ho : (Value.slice Al k cl).ownBlock with
                | none =>
                  rw [ho] at e
                  exact absurd (HBS.out) (by rw [e]; simp)
                | some q => exact HNE.out q ho (e.trans ho))))
              have HGN := Lib.hid (show (Value.slice (some ⟨gu, 0, none⟩) nu cu).ownBlock ≠ some g6 from fun e => by
                rcases hpu.2.2 with h | h
                · exact HNE.out g6 h e
                · have := (OB5.out.ge g6 e).2
                  omega)
              have B6 := Lib.hid (B5.out.grown hpu.2.1 B5.out.size (fun q hq => (OL.out.ge q hq).1))
              clear hpu
              go_wp2_with ((with_reducible refine at_slot 76 ?_); refine Classical.byContradiction (fun hG => ?_))
              refine hG ?_
              clear hG
              refine RowE.wp_fromE tyI rfl (.tmp 74) (.tmp 75) rfl (k := k) rfl rfl OB6.out.rd (by rw [HUN.out]; exact hk) ?_
              intro A7 hdn
              have HDN := Lib.hid hdn
              clear hdn
              go_wp2_with ((with_reducible refine at_slot 77 ?_); refine Classical.byContradiction (fun hG => ?_))
              refine hG ?_
              clear hG
              refine RowE.wp_appE tyI rfl (.tmp 73) (.tmp 76) rfl (B := w.heap.size) (l0 := ul.take k ++ [(xa : Int)]) rfl rfl O6.out HDN.out (by rw [List.length_append, hlt5]; simp; omega) (by rw [List.length_append, hlt5]; simp; omega) B6.out.size ?_
              intro v8 w8 ho8 hg8 hv8
              have O8 := Lib.hid ho8
              have B8 := Lib.hid (B6.out.grown hg8 B6.out.size (fun q hq => (O6.out.ge q hq).1))
              clear ho8 hg8 hv8
              have HMORE := Lib.hid (show (usedTo d.n A d.now (i + 1)).map (fun q : Nat => (q : Int)) = ul.take k ++ [(xa : Int)] ++ ul.drop k by
                have e := usedTo_more (n := d.n) (A := A) (s := d.now) (m := i) (k := k) HX.out hxn (by rw [HSV.out]; exact hsb) (fun t z ht hz => by
                  have h1 : ul[t]? = some (z : Int) := by rw [← HUL.out, List.getElem?_map, hz]; rfl
                  have := HLT.out t _ ht h1
                  omega) (fun z hz => by
                  have h1 : ul[k]? = some (z : Int) := by rw [← HUL.out, List.getElem?_map, hz]; rfl
                  have := HBE.out _ h1
                  omega)
                rw [e, ← HUL.out]
                simp)
              go_wp2_with fail
              go_roundw
              case measure => first | (simp [intOf]; done) | (simp [intOf]; omega)
              case rel => exact ⟨i + 1, _, by first | rfl | (congr 1; omega), rfl, by omega, by rw [HMORE.out]; exact O8.out, B8.out⟩
        · have hkI : ¬ (k : Int) < (nu : Int) := by omega
          have HKN := Lib.hid hkn
          clear hkn
          by_cases hsb : s = SecP.blank
          · have qe : ((str s).toList == (str SecP.blank).toList) = true := by rw [hsb]; simp
            go_wp2_with fail
            refine rBlank_c.mono ?_
            rintro e w3 ⟨rfl, hb3⟩
            have B3 := Lib.hid (below_t B2.out hb3)
            have OB := Lib.hid (OU2.out.below hb3)
            clear hb3
            go_wp2_with fail
            go_roundw
            case measure => first | (simp [intOf]; done) | (simp [intOf]; omega)
            case rel => exact ⟨i + 1, _, by first | rfl | (congr 1; omega), rfl, by omega, by rw [usedTo_same HX.out (.inl (HSV.out.trans hsb)), HUL.out]; exact OB.out, B3.out⟩
          · have qe : ((str s).toList == (str SecP.blank).toList) = false := by
              rw [str_toList, str_toList]
              simpa using hsb
            have HBE := Lib.hid (show ∀ z', ul[k]? = some z' → (xa : Int) < z' from fun z' hz' => absurd (List.getElem?_eq_some_iff.1 hz').1 (by have := HUN.out; have := HKN.out; omega))
            cases hbo : (Value.slice Au nu cu).ownBlock with
            | none =>
              have HBO := Lib.hid hbo
              clear hbo
              go_wp2_with fail
              refine rBlank_c.mono ?_
              rintro e w3 ⟨rfl, hb3⟩
              have B3 := Lib.hid (below_t B2.out hb3)
              have OB := Lib.hid (OU2.out.below hb3)
              clear hb3
              go_wp2_with ((with_reducible refine at_slot 67 ?_); refine Classical.byContradiction (fun hG => ?_))
              refine hG ?_
              clear hG
              refine RowE.wp_uptoE tyI rfl (.tmp 65) (.tmp 66) rfl (k := k) rfl rfl OB.out.rd (by rw [HUN.out]; exact hk) ?_
              intro hup
              have HUP := Lib.hid hup
              clear hup
              go_wp2_with ((with_reducible refine at_slot 68 ?_); refine Classical.byContradiction (fun hG => ?_))
              refine hG ?_
              clear hG
              refine RowE.wp_appE tyI rfl (.tmp 64) (.tmp 67) rfl (B := w.heap.size) (l0 := []) rfl rfl (Own.nil _ _ _ _) HUP.out (by simp; omega) (by simp; omega) B3.out.size ?_
              intro vl w5 ho5 hg5 hv5
              have hlt5 : (ul.take k).length = k := by rw [List.length_take, HUN.out]; omega
              have hg5' : w3.grownBy w5 none := hg5
              have OL := Lib.hid (show RowG.Own RowG.encI 3 w5 w.heap.size vl (ul.take k) by simpa using ho5)
              have OB5 := Lib.hid (OB.out.grown hg5' (by cases (Value.slice Au nu cu).ownBlock <;> simp))
              have B5 := Lib.hid (B3.out.grown hg5' B3.out.size (fun q hq => by cases hq))
              have HNE := Lib.hid (show ∀ q, vl.ownBlock = some q → (Value.slice Au nu cu).ownBlock ≠ some q from fun q hq e => by
                rcases hv5 with h | h
                · rw [hq] at h
                  cases h
                · rw [hq] at h
                  injection h with h
                  have := (OB.out.ge q e).2
                  omega)
              obtain ⟨Al, cl, rfl, hcl, _, _⟩ := OL.out.form hlt5
              clear ho5 hg5 hg5' hv5
              go_wp2_with ((with_reducible refine at_slot 72 ?_); refine Classical.byContradiction (fun hG => ?_))
              refine hG ?_
              clear hG
              refine RowE.wp_pushE tyI (by decide) rfl (.tmp 69) (.tmp 71) rfl (w0 := w5) (B := w.heap.size) (v := .slice Al k cl) (l := ul.take k) (y := (xa : Int)) rfl rfl rfl OL.out rfl (by first | rfl | (simp; done)) (by omega) B5.out.size ?_
              intro g6 c6 w6 hpu
              rw [hlt5] at hpu ⊢
              have O6 := Lib.hid hpu.1
              have OB6 := Lib.hid (OB5.out.grown hpu.2.1 (.inl HBO.out))
              have HGN := Lib.hid (show (Value.slice Au nu cu).ownBlock ≠ some g6 from fun e => by
                rcases hpu.2.2 with h | h
                · exact HNE.out g6 h e
                · have := (OB5.out.ge g6 e).2
                  omega)
              have B6 := Lib.hid (B5.out.grown hpu.2.1 B5.out.size (fun q hq => (OL.out.ge q hq).1))
              clear hpu
              go_wp2_with ((with_reducible refine at_slot 76 ?_); refine Classical.byContradiction (fun hG => ?_))
              refine hG ?_
              clear hG
              refine RowE.wp_fromE tyI rfl (.tmp 74) (.tmp 75) rfl (k := k) rfl rfl OB6.out.rd (by rw [HUN.out]; exact hk) ?_
              intro A7 hdn
              have HDN := Lib.hid hdn
              clear hdn
              go_wp2_with ((with_reducible refine at_slot 77 ?_); refine Classical.byContradiction (fun hG => ?_))
              refine hG ?_
              clear hG
              refine RowE.wp_appE tyI rfl (.tmp 73) (.tmp 76) rfl (B := w.heap.size) (l0 := ul.take k ++ [(xa : Int)]) rfl rfl O6.out HDN.out (by rw [List.length_append, hlt5]; simp; omega) (by rw [List.length_append, hlt5]; simp; omega) B6.out.size ?_
              intro v8 w8 ho8 hg8 hv8
              have O8 := Lib.hid ho8
              have B8 := Lib.hid (B6.out.grown hg8 B6.out.size (fun q hq => (O6.out.ge q hq).1))
              clear ho8 hg8 hv8
              have HMORE := Lib.hid (show (usedTo d.n A d.now (i + 1)).map (fun q : Nat => (q : Int)) = ul.take k ++ [(xa : Int)] ++ ul.drop k by
                have e := usedTo_more (n := d.n) (A := A) (s := d.now) (m := i) (k := k) HX.out hxn (by rw [HSV.out]; exact hsb) (fun t z ht hz => by
                  have h1 : ul[t]? = some (z : Int) := by rw [← HUL.out, List.getElem?_map, hz]; rfl
                  have := HLT.out t _ ht h1
                  omega) (fun z hz => by
                  have h1 : ul[k]? = some (z : Int) := by rw [← HUL.out, List.getElem?_map, hz]; rfl
                  have := HBE.out _ h1
                  omega)
                rw [e, ← HUL.out]
                simp)
              go_wp2_with fail
              go_roundw
              case measure => first | (simp [intOf]; done) | (simp [intOf]; omega)
              case rel => exact ⟨i + 1, _, by first | rfl | (congr 1; omega), rfl, by omega, by rw [HMORE.out]; exact O8.out, B8.out⟩
            | some bo =>
              have HBS := Lib.hid (show (Value.slice Au nu cu).ownBlock ≠ none by rw [hbo]; simp)
              clear hbo
              go_wp2_with fail
              refine rBlank_c.mono ?_
              rintro e w3 ⟨rfl, hb3⟩
              have B3 := Lib.hid (below_t B2.out hb3)
              have OB := Lib.hid (OU2.out.below hb3)
              clear hb3
              go_wp2_with ((with_reducible refine at_slot 67 ?_); refine Classical.byContradiction (fun hG => ?_))
              refine hG ?_
              clear hG
              refine RowE.wp_uptoE tyI rfl (.tmp 65) (.tmp 66) rfl (k := k) rfl rfl OB.out.rd (by rw [HUN.out]; exact hk) ?_
              intro hup
              have HUP := Lib.hid hup
              clear hup
              go_wp2_with ((with_reducible refine at_slot 68 ?_); refine Classical.byContradiction (fun hG => ?_))
              refine hG ?_
              clear hG
              refine RowE.wp_appE tyI rfl (.tmp 64) (.tmp 67) rfl (B := w.heap.size) (l0 := []) rfl rfl (Own.nil _ _ _ _) HUP.out (by simp; omega) (by simp; omega) B3.out.size ?_
              intro vl w5 ho5 hg5 hv5
              have hlt5 : (ul.take k).length = k := by rw [List.length_take, HUN.out]; omega
              have hg5' : w3.grownBy w5 none := hg5
              have OL := Lib.hid (show RowG.Own RowG.encI 3 w5 w.heap.size vl (ul.take k) by simpa using ho5)
              have OB5 := Lib.hid (OB.out.grown hg5' (by cases (Value.slice Au nu cu).ownBlock <;> simp))
              have B5 := Lib.hid (B3.out.grown hg5' B3.out.size (fun q hq => by cases hq))
              have HNE := Lib.hid (show ∀ q, vl.ownBlock = some q → (Value.slice Au nu cu).ownBlock ≠ some q from fun q hq e => by
                rcases hv5 with h | h
                · rw [hq] at h
                  cases h
                · rw [hq] at h
                  injection h with h
                  have := (OB.out.ge q e).2
                  omega)
              obtain ⟨Al, cl, rfl, hcl, _, _⟩ := OL.out.form hlt5
              clear ho5 hg5 hg5' hv5
              go_wp2_with ((with_reducible refine at_slot 72 ?_); refine Classical.byContradiction (fun hG => ?_))
              refine hG ?_
              clear hG
              refine RowE.wp_pushE tyI (by decide) rfl (.tmp 69) (.tmp 71) rfl (w0 := w5) (B := w.heap.size) (v := .slice Al k cl) (l := ul.take k) (y := (xa : Int)) rfl rfl rfl OL.out rfl (by first | rfl | (simp; done)) (by omega) B5.out.size ?_
              intro g6 c6 w6 hpu
              rw [hlt5] at hpu ⊢
              have O6 := Lib.hid hpu.1
              have OB6 := Lib.hid (OB5.out.grown hpu.2.1 (.inr (fun e => by
                cases ho : (Value.slice Al k cl).ownBlock with
                | none =>
                  rw [ho] at e
                  exact absurd (HBS.out) (by rw [e]; simp)
                | some q => exact HNE.out q ho (e.trans ho))))
              have HGN := Lib.hid (show (Value.slice Au nu cu).ownBlock ≠ some g6 from fun e => by
                rcases hpu.2.2 with h | h
                · exact HNE.out g6 h e
                · have := (OB5.out.ge g6 e).2
                  omega)
              have B6 := Lib.hid (B5.out.grown hpu.2.1 B5.out.size (fun q hq => (OL.out.ge q hq).1))
              clear hpu
              go_wp2_with ((with_reducible refine at_slot 76 ?_); refine Classical.byContradiction (fun hG => ?_))
              refine hG ?_
              clear hG
              refine RowE.wp_fromE tyI rfl (.tmp 74) (.tmp 75) rfl (k := k) rfl rfl OB6.out.rd (by rw [HUN.out]; exact hk) ?_
              intro A7 hdn
              have HDN := Lib.hid hdn
              clear hdn
              go_wp2_with ((with_reducible refine at_slot 77 ?_); refine Classical.byContradiction (fun hG => ?_))
              refine hG ?_
              clear hG
              refine RowE.wp_appE tyI rfl (.tmp 73) (.tmp 76) rfl (B := w.heap.size) (l0 := ul.take k ++ [(xa : Int)]) rfl rfl O6.out HDN.out (by rw [List.length_append, hlt5]; simp; omega) (by rw [List.length_append, hlt5]; simp; omega) B6.out.size ?_
              intro v8 w8 ho8 hg8 hv8
              have O8 := Lib.hid ho8
              have B8 := Lib.hid (B6.out.grown hg8 B6.out.size (fun q hq => (O6.out.ge q hq).1))
              clear ho8 hg8 hv8
              have HMORE := Lib.hid (show (usedTo d.n A d.now (i + 1)).map (fun q : Nat => (q : Int)) = ul.take k ++ [(xa : Int)] ++ ul.drop k by
                have e := usedTo_more (n := d.n) (A := A) (s := d.now) (m := i) (k := k) HX.out hxn (by rw [HSV.out]; exact hsb) (fun t z ht hz => by
                  have h1 : ul[t]? = some (z : Int) := by rw [← HUL.out, List.getElem?_map, hz]; rfl
                  have := HLT.out t _ ht h1
                  omega) (fun z hz => by
                  have h1 : ul[k]? = some (z : Int) := by rw [← HUL.out, List.getElem?_map, hz]; rfl
                  have := HBE.out _ h1
                  omega)
                rw [e, ← HUL.out]
                simp)
              go_wp2_with fail
              go_roundw
              case measure => first | (simp [intOf]; done) | (simp [intOf]; omega)
              case rel => exact ⟨i + 1, _, by first | rfl | (congr 1; omega), rfl, by omega, by rw [HMORE.out]; exact O8.out, B8.out⟩
    · have hin2 : i = n := by omega
      have hiI : ¬ (i : Int) < (n : Int) := by omega
      have HU2 := Lib.hid (show ul = (used d.n d.now).map (fun q : Nat => (q : Int)) by
        rw [← HUL.out, hin2, ← HN.out]
        have h1 := HP.out.now
        rw [h1, usedTo_all])
      clear hin2
      go_wp2_with fail
      go_ret
      exact ⟨_, rfl, by rw [← HU2.out]; exact OU.out, B1.out⟩
end SecW
end Go.Proofs.YtjcmpcdalghniaaDoor
