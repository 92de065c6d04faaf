/-
  Is a disk made, has it a sector, whole, put: what is kept of a sector.
-/
import Derived.Lib.BufferWrite
import Derived.Shelf.Strings.Trim
import Derived.Test.YtknckaegpdganaaDoorBytesMem
import Derived.Test.YtknckaegpdganaaDoorSectorMem
import Derived.Test.YtknckaegpdganaaDoorSectorLay
-- mine: whole_c same_c awake_c take_c step_c back_c
namespace Go.Proofs.YtknckaegpdganaaDoor
open Go.RowKit
set_option linter.unusedVariables false
set_option linter.unusedSimpArgs false
set_option maxRecDepth 100000
namespace SecW
open BlkP RowG FrS PushG JournalP SecP
theorem at_slot (t : Tmp) {P : Program} {w : World} {ops : Array Oper} {rest : List Oper} {a : Act} {Q : Exit → Act → World → Prop} {op : Op} {ty : TypeId} {pos : String} {af : _} {g : _} (h : wpList P ops Q ((⟨some t, op, ty, pos, af, g⟩ : Oper) :: rest) a w) : wpList P ops Q ((⟨some t, op, ty, pos, af, g⟩ : Oper) :: rest) a w := h
theorem at_update {P : Program} {w : World} {ops : Array Oper} {rest : List Oper} {a : Act} {Q : Exit → Act → World → Prop} {T : TypeId} {m x v : Operand} {d : _} {ty : TypeId} {pos : String} {af : _} {g : _} (h : wpList P ops Q ((⟨d, .mapUpdate T m x v, ty, pos, af, g⟩ : Oper) :: rest) a w) : wpList P ops Q ((⟨d, .mapUpdate T m x v, ty, pos, af, g⟩ : Oper) :: rest) a w := h
theorem at_del {P : Program} {w : World} {ops : Array Oper} {rest : List Oper} {a : Act} {Q : Exit → Act → World → Prop} {m x : Operand} {ts : Array TypeId} {d : _} {ty : TypeId} {pos : String} {af : _} {g : _} (h : wpList P ops Q ((⟨d, .call { callee := .builtin .delete, args := #[m, x], argTypes := ts }, ty, pos, af, g⟩ : Oper) :: rest) a w) : wpList P ops Q ((⟨d, .call { callee := .builtin .delete, args := #[m, x], argTypes := ts }, ty, pos, af, g⟩ : Oper) :: rest) a w := h
theorem list_named {P : Program} {ops : Array Oper} {rest : List Oper} {Q : Exit → Act → World → Prop} {a : Act} {W : World} (S : World → Prop) (h : S W) (k : ∀ W', S W' → wpList P ops Q rest a W') : wpList P ops Q rest a W := k W h
theorem calls_named {P : Program} {f : Nat} {args : Array Value} {R : Ending → World → Prop} {W : World} (S : World → Prop) (h : S W) (k : ∀ W', S W' → Calls P f args W' R) : Calls P f args W R := k W h
theorem grown_row (w : World) (g : Nat) (cells : Array Value) : w.grownBy (w.setRow g cells) (some g) := ⟨rfl, rfl, rfl, by simp [World.setRow], fun k hk hne => by
  simp only [World.setRow, Array.getElem?_modify]
  rw [if_neg (fun e => hne (by rw [e]))]⟩
theorem str_toList (x : Sec) : (str x).toList = x := by
  unfold str
  simp
theorem str_size (x : Sec) : (str x).size = x.length := by
  unfold str
  simp [ByteArray.size]
theorem str_nil : (⟨#[]⟩ : ByteArray) = str [] := rfl
section
variable {w : World} {B pd pm M : Nat} {v : Value} {d : Dk}
theorem isMade_c {p : Nat} (h : Blk w pd TD [.pointer (some ⟨p, 0, none⟩)]) :
    Calls Tryd.prog 44 #[.pointer (some ⟨pd, 0, none⟩)] w fun e w' => e = .returned (.bool true) ∧ w' = w := by
  have c0 := h.cell (i := 0) rfl
  have l0 := h.lt
  clear h
  go_enter Tryd.func44, Tryd.ntmps44
  go_wp2_with fail
  go_ret
  exact ⟨rfl, rfl⟩
theorem isMade_no {p : Option Addr} (h : p = none ∨ ∃ b, p = some ⟨b, 0, none⟩ ∧ Blk w b TD [.pointer none]) :
    Calls Tryd.prog 44 #[.pointer p] w fun e w' => e = .returned (.bool false) ∧ w' = w := by
  rcases h with rfl | ⟨b, rfl, h⟩
  · go_enter Tryd.func44, Tryd.ntmps44
    go_wp2_with fail
    go_ret
    exact ⟨rfl, rfl⟩
  · have c0 := h.cell (i := 0) rfl
    have l0 := h.lt
    clear h
    go_enter Tryd.func44, Tryd.ntmps44
    go_wp2_with fail
    go_ret
    exact ⟨rfl, rfl⟩
theorem has_c {i : Int} {b : Bool} {u1 u2 : Value} (h : Blk w pm TMd [.int .i64 (d.n : Int), u1, u2]) (hb : inD d i = b) :
    Calls Tryd.prog 57 #[.pointer (some ⟨pm, 0, none⟩), .int .i64 i] w fun e w' => e = .returned (.bool b) ∧ w' = w := by
  have c0 := h.cell (i := 0) rfl
  have l0 := h.lt
  clear h
  by_cases h0 : 0 ≤ i
  · have hb2 : decide (i < d.n) = b := by rw [← hb]; simp [inD, h0]
    subst hb2
    clear hb
    go_enter Tryd.func57, Tryd.ntmps57
    go_wp2_with fail
    go_ret
    exact ⟨rfl, rfl⟩
  · obtain rfl : false = b := by rw [← hb]; simp [inD, h0]
    clear hb
    go_enter Tryd.func57, Tryd.ntmps57
    go_wp2_with fail
    go_ret
    exact ⟨rfl, rfl⟩
theorem run_fieldC (w : World) (x : ByteArray) : (Instr.field TC (.agg #[.string x]) 0).run Tryd.prog w = .ok (.string x) w := by kernel_rfl
abbrev TB : TypeId := 129
def zeros : List Value := List.replicate 512 (.int .u8 0)
theorem zeros_len : zeros.length = 512 := List.length_replicate
theorem infoB : (Tryd.prog.info? TB).map (fun i => (i.zero, i.size)) = some (some (.agg zeros.toArray), 512) := by kernel_rfl
theorem underB : Tryd.prog.underlying TB = some (.array 512 5) := by kernel_rfl
section
variable {ops : Array Oper} {rest : List Oper} {o : Oper} {a : Act} {Q : Exit → Act → World → Prop}
theorem wp_allocB (hgd : o.guard = none) (ho : o.op = .alloc TB)
    (h : ∀ w', Blk w' w.heap.size TB zeros → Below w.heap.size w w' → w'.heap.size = w.heap.size + 1 → wpList Tryd.prog ops Q rest (a.put o.dst (.pointer (some ⟨w.heap.size, 0, none⟩))) w') : wpList Tryd.prog ops Q (o :: rest) a w := by
  refine wpList_plain hgd fun K hK => ?_
  obtain ⟨i, hi, hz⟩ : ∃ i, Tryd.prog.info? TB = some i ∧ i.zero = some (.agg zeros.toArray) := by
    have := infoB
    cases hq : Tryd.prog.info? TB with
    | none => rw [hq] at this; cases this
    | some i =>
      rw [hq] at this
      simp only [Option.map_some, Option.some.injEq, Prod.mk.injEq] at this
      exact ⟨i, rfl, this.1⟩
  have hzr : (zeroValue TB).run Tryd.prog w = .ok (.agg zeros.toArray) w := by simp [zeroValue, typeInfo, hi, hz]
  have hr : (Instr.alloc TB true (.tuple #[])).run Tryd.prog w = .ok (.pointer (some ⟨w.heap.size, 0, none⟩)) (w.alloc (.cells zeros.toArray TB)) := by
    unfold Instr.alloc
    simp only [Sem.run_bind, hzr, Result.andThen_ok]
    rfl
  unfold Oper.wp execOp
  simp only [ho, Sem.run_bind, hr, Result.andThen_ok, Sem.run_pure]
  exact hK _ _ (h _ (Blk.new w TB zeros) ((Below.refl _ w).alloc (Nat.le_refl _) _) (by simp))
/-- copy(b[:], s). -/
theorem wp_copyB (hgd : o.guard = none) (x y : Operand) (ho : o.op = .call { callee := .builtin .copy, args := #[x, y], argTypes := #[94, 9] }) {g : Nat} {s : Sec} {us : List Value} (hs : s.length ≤ 512) (hx : a.eval x = .slice (some ⟨g, 0, none⟩) 512 512) (hy : a.eval y = .string (str s)) (hb : Blk w g TB us) (hu : us.length = 512)
    (h : ∀ w', Blk w' g TB (s.map BytesW.bv ++ us.drop s.length) → w.grownBy w' (some g) → w'.heap.size = w.heap.size → wpList Tryd.prog ops Q rest (a.put o.dst (.int .i64 (s.length : Int))) w') : wpList Tryd.prog ops Q (o :: rest) a w := by
  refine wpList_plain hgd fun K hK => ?_
  have hr := Lib.run_copy_row_string (P := Tryd.prog) w 94 9 o.type 5 g 0 512 512 (str s) us.toArray TB BytesW.under26 (by kernel_rfl) hb (by rw [str_size]; exact hs) (by rw [str_size]; simp [hu]; exact hs)
  unfold Oper.wp execOp
  simp only [ho, resolve, invoke, builtin, Sem.run_bind, Sem.run_pure, Result.andThen_ok, List.map_toArray, List.map_cons, List.map_nil, hx, hy, hr]
  have e1 : goInt ((str s).size : Int) = .int .i64 (s.length : Int) := by rw [str_size]; rfl
  rw [e1]
  have e2 : (us.toArray.toList.take 0 ++ Lib.byteCells (str s).data.toList ++ us.toArray.toList.drop (0 + (str s).size)).toArray = (s.map BytesW.bv ++ us.drop s.length).toArray := by
    rw [str_size, Nat.zero_add]
    rfl
  rw [e2]
  refine hK _ _ (h _ (setRow_heap w g us.toArray _ _ _ hb) (grown_row w g _) ?_)
  simp [World.setRow]
theorem run_sliceB (w : World) (g : Nat) : (Instr.sliceAt TB (.pointer (some ⟨g, 0, none⟩)) none none none).run Tryd.prog w = .ok (.slice (some ⟨g, 0, none⟩) 512 512) w := by kernel_rfl
end
set_option maxHeartbeats 16000000 in
theorem whole_c {s : Sec} (hs : s.length ≤ 512) :
    Calls Tryd.prog 58 #[.string (str s)] w fun e w' => e = .returned (.string (str (pad s))) ∧ Below w.heap.size w w' := by
  have HS := Lib.hid hs
  have HP := Lib.hid (pad_len hs)
  have hsl := run_sliceB
  clear hs
  go_enter Tryd.func58, Tryd.ntmps58
  go_wp2_with ((with_reducible refine at_slot 3 ?_); refine Classical.byContradiction (fun hG => ?_))
  refine hG ?_
  clear hG
  refine wp_allocB rfl rfl ?_
  intro w1 hk1 hb1 hz1
  have K1 := Lib.hid hk1
  have B1 := Lib.hid hb1
  clear hk1 hb1
  go_wp2_with ((with_reducible refine at_slot 6 ?_); refine Classical.byContradiction (fun hG => ?_))
  refine hG ?_
  clear hG
  refine wp_copyB rfl (.tmp 4) (.tmp 5) rfl HS.out rfl rfl K1.out zeros_len ?_
  intro w2 hk2 hg2 hz2
  have hpad : s.map BytesW.bv ++ zeros.drop s.length = (pad s).map BytesW.bv := by
    unfold pad zeros
    rw [List.map_append, List.map_replicate, List.drop_replicate]
    rfl
  rw [hpad] at hk2
  have HA := Lib.hid (show BytesW.AtC w2 (some ⟨w.heap.size, 0, none⟩) (pad s) from fun _ => ⟨w.heap.size, 0, rfl, hk2.lt, fun i x hx => by
    rw [Nat.zero_add]
    exact hk2.cell (by rw [List.getElem?_map, hx]; rfl)⟩)
  have B2 := Lib.hid (show Below w.heap.size w w2 from B1.out.grown hg2 (by omega) (fun k hk => by injection hk with hk; omega))
  clear hk2 hg2 hpad
  go_wp2_with ((with_reducible refine at_slot 8 ?_); refine Classical.byContradiction (fun hG => ?_))
  refine hG ?_
  clear hG
  refine BytesW.wp_strC rfl (.tmp 7) rfl (c := 512) (l := pad s) ?_ HA.out ?_
  · rw [HP.out]
    rfl
  go_wp2_with fail
  go_ret
  exact ⟨rfl, B2.out⟩
/-- strings.TrimLeft of bytes 0. -/
theorem trim_c (x : Sec) (w : World) : Calls Tryd.prog 63 #[.string (str x), .string ⟨#[0]⟩] w fun e w' => e = .returned (.string (str (x.dropWhile (· == 0)))) ∧ w' = w :=
  Any.strings_TrimLeft_one trimL (str x) 0 (by decide) w
set_option maxHeartbeats 16000000 in
theorem put_c {n i : Nat} {f : Nat → Sec} {y : Sec} (h : MapD w M n f) (hi : i < n) (hy : y.length = 512) :
    Calls Tryd.prog 47 #[.map (some M), .int .i64 (i : Int), .agg #[.string (str (raw y))]] w fun e w' => e = .returned (.tuple #[]) ∧ MapD w' M n (upd f i y) ∧ Fr (fun k => k = M) w w' := by
  have HM := Lib.hid h
  have hl := h.lt
  have HT := Lib.hid (trim_raw hy)
  clear h
  by_cases hb : y = SecP.blank
  · have e0 : (raw y).dropWhile (· == 0) = [] := HT.out.2 hb
    have HE := Lib.hid e0
    have q0 : (str ([] : Sec)).toList.isEmpty = true := by
      rw [str_toList]
      rfl
    subst hb
    clear hy e0
    go_enter Tryd.func47, Tryd.ntmps47
    go_wp2_with fail
    refine (trim_c _ _).mono ?_
    rintro e w1 ⟨rfl, rfl⟩
    rw [HE.out]
    go_wp2_with ((with_reducible refine at_del ?_); refine Classical.byContradiction (fun hG => ?_))
    refine hG ?_
    clear hG
    refine wp_delD rfl (.tmp 10) (.tmp 11) rfl rfl rfl (HM.out.alloc _) hi ?_
    intro w2 hm2 hg2
    have HF := Lib.hid (show Fr (fun k => k = M) w w2 from (Fr.alloc _ w _).trans (Fr.grown (S := fun k => k = M) hg2 (fun k hk => by injection hk with hk; exact hk.symm)) (fun k hk => .inl hk))
    have H2 := Lib.hid hm2
    clear hm2 hg2
    go_wp2_with fail
    go_end0
    exact ⟨rfl, H2.out, HF.out⟩
  · have e1 : raw y = y := raw_of hb
    have hne : (raw y).dropWhile (· == 0) ≠ [] := fun q => hb (HT.out.1 q)
    rw [e1] at hne ⊢
    have q0 : (str (y.dropWhile (· == 0))).toList.isEmpty = false := by
      rw [str_toList]
      cases hq : y.dropWhile (· == 0) with
      | nil => exact absurd hq hne
      | cons a r => rfl
    clear hne e1
    obtain ⟨t, ht⟩ : ∃ t, y.dropWhile (· == 0) = t := ⟨_, rfl⟩
    have HT2 := Lib.hid ht
    rw [ht] at q0
    clear ht
    go_enter Tryd.func47, Tryd.ntmps47
    go_wp2_with fail
    refine (trim_c _ _).mono ?_
    rintro e w1 ⟨rfl, rfl⟩
    rw [HT2.out]
    go_wp2_with ((with_reducible refine at_update ?_); refine Classical.byContradiction (fun hG => ?_))
    refine hG ?_
    clear hG
    refine wp_putD rfl (.tmp 12) (.tmp 13) (.tmp 14) rfl rfl rfl rfl (HM.out.alloc _) hi hb ?_
    intro w2 hm2 hg2
    have HF := Lib.hid (show Fr (fun k => k = M) w w2 from (Fr.alloc _ w _).trans (Fr.grown (S := fun k => k = M) hg2 (fun k hk => by injection hk with hk; exact hk.symm)) (fun k hk => .inl hk))
    have H2 := Lib.hid hm2
    clear hm2 hg2
    go_wp2_with fail
    go_end0
    exact ⟨rfl, H2.out, HF.out⟩
set_option maxHeartbeats 16000000 in
/-- A blank sector is deleted, also where its bytes are told. -/
theorem put_blank {n i : Nat} {f : Nat → Sec} (h : MapD w M n f) (hi : i < n) :
    Calls Tryd.prog 47 #[.map (some M), .int .i64 (i : Int), .agg #[.string (str SecP.blank)]] w fun e w' => e = .returned (.tuple #[]) ∧ MapD w' M n (upd f i SecP.blank) ∧ Fr (fun k => k = M) w w' := by
  have HM := Lib.hid h
  have hl := h.lt
  have HE := Lib.hid ((trim_blank (x := SecP.blank) blank_len).2 rfl)
  have q0 : (str ([] : Sec)).toList.isEmpty = true := by
    rw [str_toList]
    rfl
  obtain ⟨y, hy⟩ : ∃ y, SecP.blank = y := ⟨_, rfl⟩
  rw [hy] at HE ⊢
  have HY := Lib.hid hy
  clear h hy
  go_enter Tryd.func47, Tryd.ntmps47
  go_wp2_with fail
  refine (trim_c _ _).mono ?_
  rintro e w1 ⟨rfl, rfl⟩
  rw [HE.out]
  go_wp2_with ((with_reducible refine at_del ?_); refine Classical.byContradiction (fun hG => ?_))
  refine hG ?_
  clear hG
  refine wp_delD rfl (.tmp 10) (.tmp 11) rfl rfl rfl (HM.out.alloc _) hi ?_
  intro w2 hm2 hg2
  have HF := Lib.hid (show Fr (fun k => k = M) w w2 from (Fr.alloc _ w _).trans (Fr.grown (S := fun k => k = M) hg2 (fun k hk => by injection hk with hk; exact hk.symm)) (fun k hk => .inl hk))
  rw [HY.out] at hm2
  have H2 := Lib.hid hm2
  clear hm2 hg2
  go_wp2_with fail
  go_end0
  exact ⟨rfl, H2.out, HF.out⟩
end
end SecW
end Go.Proofs.YtknckaegpdganaaDoor
