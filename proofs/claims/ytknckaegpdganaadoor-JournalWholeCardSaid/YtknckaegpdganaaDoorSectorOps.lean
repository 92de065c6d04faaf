/-
  What a disk's calls answer, plainly: of any number and any bytes; what laws do with disks.
-/
import Derived.Test.YtknckaegpdganaaDoorSectorPlain
-- mine: whole_c same_c awake_c take_c step_c back_c
namespace Go.Proofs.YtknckaegpdganaaDoor
set_option linter.unusedVariables false
set_option linter.unusedSimpArgs false
namespace SecP
open JournalP
/-- What is kept of a sector: of a blank one nothing. -/
def raw (x : Sec) : Sec := if x = blank then [] else x
theorem raw_blank : raw blank = [] := if_pos rfl
theorem raw_of {x : Sec} (h : x ≠ blank) : raw x = x := if_neg h
theorem pad_raw {x : Sec} (h : x.length = 512) : pad (raw x) = x := by
  unfold raw
  split
  · rename_i e
    rw [e, pad_nil]
  · exact pad_full h
theorem raw_len {x : Sec} (h : x.length = 512) : (raw x).length ≤ 512 := by
  unfold raw
  split
  · simp
  · omega
theorem dropWhile_zero : ∀ {x : Sec}, x.dropWhile (· == 0) = [] ↔ x = List.replicate x.length 0
  | [] => by simp
  | a :: r => by
    rw [List.dropWhile_cons, List.length_cons, List.replicate_succ]
    by_cases h : a = 0
    · subst h
      rw [if_pos (by decide), dropWhile_zero]
      simp
    · rw [if_neg (by simpa using h)]
      simp [h]
/-- A sector that is kept, or nothing: it is blank just where no byte is left. -/
theorem trim_blank {x : Sec} (h : x.length = 512) : x.dropWhile (· == 0) = [] ↔ x = blank := by
  rw [dropWhile_zero, h]
  rfl
theorem trim_raw {x : Sec} (h : x.length = 512) : (raw x).dropWhile (· == 0) = [] ↔ x = blank := by
  unfold raw
  split
  · rename_i e
    simp [e]
  · exact trim_blank h
/-! ### Calls -/
def inD (d : Dk) (i : Int) : Bool := decide (0 ≤ i) && decide (i < d.n)
theorem inD_iff {d : Dk} {i : Int} : inD d i = true ↔ 0 ≤ i ∧ i < d.n := by simp [inD]
def readD (d : Dk) (i : Int) : Sec := if inD d i then d.now i.toNat else []
def readE (d : Dk) (i : Int) : Int := if inD d i then 0 else 2
def writeD (d : Dk) (i : Int) (s : Sec) : Dk := if inD d i && decide (s.length ≤ 512) then d.write i.toNat s else d
def writeE (d : Dk) (i : Int) (s : Sec) : Int := if inD d i then (if s.length ≤ 512 then 0 else 3) else 2
def fineD (d : Dk) (i : Int) (s : Sec) : Bool := inD d i && decide (s.length ≤ 512)
theorem writeE_fine {d : Dk} {i : Int} {s : Sec} : writeE d i s = 0 ↔ fineD d i s = true := by
  unfold writeE fineD
  cases inD d i
  · simp
  · by_cases h : s.length ≤ 512 <;> simp [h]
theorem writeD_n (d : Dk) (i : Int) (s : Sec) : (writeD d i s).n = d.n := by
  unfold writeD
  split <;> rfl
theorem writeD_now (d : Dk) (i : Int) (s : Sec) : (writeD d i s).now = if fineD d i s then upd d.now i.toNat (pad s) else d.now := by
  unfold writeD fineD
  split
  · exact now_write ..
  · rfl
theorem writeD_ws (d : Dk) (i : Int) (s : Sec) : (writeD d i s).ws.length = d.ws.length + if fineD d i s then 1 else 0 := by
  unfold writeD fineD
  split <;> simp [Dk.write]
structure Ok (d : Dk) : Prop where
  lo : 256 ≤ d.n
  hi : d.n ≤ 131072
  base : ∀ i, (d.base i).length = 512
  ws : ∀ x ∈ d.ws, x.1 < d.n ∧ x.2.length = 512
theorem upd_len {f : Nat → Sec} {i : Nat} {x : Sec} (hf : ∀ i, (f i).length = 512) (hx : x.length = 512) : ∀ j, (upd f i x j).length = 512 := fun j => by
  unfold upd
  split
  · exact hx
  · exact hf j
theorem app_len : ∀ {l : List (Nat × Sec)} {f : Nat → Sec}, (∀ i, (f i).length = 512) → (∀ x ∈ l, x.2.length = 512) → ∀ j, (app f l j).length = 512
  | [], f, hf, _, j => hf j
  | x :: r, f, hf, hl, j => app_len (l := r) (upd_len hf (hl x (by simp))) (fun y hy => hl y (by simp [hy])) j
theorem Ok.now {d : Dk} (h : Ok d) : ∀ i, (d.now i).length = 512 := app_len h.base (fun x hx => (h.ws x hx).2)
theorem Ok.new {n : Nat} (h1 : 256 ≤ n) (h2 : n ≤ 131072) : Ok (SecP.mk n) := ⟨h1, h2, fun _ => blank_len, fun x hx => by cases hx⟩
theorem Ok.mark {d : Dk} (h : Ok d) : Ok d.mark := ⟨h.lo, h.hi, h.now, fun x hx => by cases hx⟩
theorem Ok.cut {d : Dk} (h : Ok d) (k : Nat) : Ok (d.cut k) := ⟨h.lo, h.hi, app_len h.base (fun x hx => (h.ws x (List.mem_of_mem_take hx)).2), fun x hx => by cases hx⟩
theorem Ok.writeN {d : Dk} (h : Ok d) {i : Nat} {s : Sec} (hi : i < d.n) (hs : s.length ≤ 512) : Ok (d.write i s) := ⟨h.lo, h.hi, h.base, fun x hx => by
  rcases List.mem_append.1 hx with hx | hx
  · exact h.ws x hx
  · obtain rfl := List.mem_singleton.1 hx
    exact ⟨hi, pad_len hs⟩⟩
theorem Ok.write {d : Dk} (h : Ok d) (i : Int) (s : Sec) : Ok (writeD d i s) := by
  unfold writeD
  split
  · rename_i q
    simp only [Bool.and_eq_true, inD_iff, decide_eq_true_eq] at q
    exact h.writeN (by omega) q.2
  · exact h
/-! ### The log, each write with what was there ahead of it -/
def logW : (Nat → Sec) → List (Nat × Sec) → List (Nat × Sec × Sec)
  | _, [] => []
  | f, x :: r => (x.1, x.2, raw (f x.1)) :: logW (upd f x.1 x.2) r
theorem logW_len : ∀ (f : Nat → Sec) (l : List (Nat × Sec)), (logW f l).length = l.length
  | _, [] => rfl
  | f, x :: r => by simp [logW, logW_len]
theorem logW_app : ∀ (f : Nat → Sec) (l : List (Nat × Sec)) (x : Nat × Sec), logW f (l ++ [x]) = logW f l ++ [(x.1, x.2, raw (app f l x.1))]
  | f, [], x => rfl
  | f, y :: r, x => by
    show _ :: logW _ (r ++ [x]) = _
    rw [logW_app]
    rfl
theorem logW_get : ∀ {f : Nat → Sec} {l : List (Nat × Sec)} {k : Nat} {x : Nat × Sec}, l[k]? = some x → (logW f l)[k]? = some (x.1, x.2, raw (app f (l.take k) x.1))
  | f, y :: r, 0, x, h => by
    have : y = x := by simpa using h
    subst this
    rfl
  | f, y :: r, k + 1, x, h => by
    have := logW_get (f := upd f y.1 y.2) (l := r) (k := k) (x := x) (by simpa using h)
    rw [logW, List.getElem?_cons_succ, this, List.take_succ_cons]
    rfl
theorem logW_map : ∀ (f : Nat → Sec) (l : List (Nat × Sec)), (logW f l).map (fun y => (y.1, y.2.1)) = l
  | _, [] => rfl
  | f, x :: r => by simp [logW, logW_map]
/-- Taken back, one by one. -/
def undoL (f : Nat → Sec) (l : List (Nat × Sec × Sec)) : Nat → Sec := l.foldl (fun g x => upd g x.1 (pad x.2.2)) f
theorem undo_app (f : Nat → Sec) (a b : List (Nat × Sec × Sec)) : undoL f (a ++ b) = undoL (undoL f a) b := List.foldl_append ..
/-- The log taken back down to k, the last one first. -/
theorem undo_log {d : Dk} (h : Ok d) : ∀ (i : Nat) {k : Nat}, k + i = d.ws.length → undoL d.now ((logW d.base d.ws).drop k).reverse = app d.base (d.ws.take k)
  | 0, k, hk => by
    have e : (logW d.base d.ws).drop k = [] := List.drop_eq_nil_of_le (by rw [logW_len]; omega)
    rw [e, List.take_of_length_le (by omega)]
    rfl
  | i + 1, k, hk => by
    have ih := undo_log h i (k := k + 1) (by omega)
    obtain ⟨x, hx⟩ : ∃ x, d.ws[k]? = some x := ⟨_, List.getElem?_eq_getElem (by omega)⟩
    have hy := logW_get (f := d.base) hx
    have hdrop : (logW d.base d.ws).drop k = (x.1, x.2, raw (app d.base (d.ws.take k) x.1)) :: (logW d.base d.ws).drop (k + 1) :=
      (List.getElem_cons_drop (by rw [logW_len]; omega)).symm.trans (by rw [(List.getElem?_eq_some_iff.1 hy).2])
    rw [hdrop, List.reverse_cons, undo_app, ih]
    show upd _ x.1 (pad (raw (app d.base (d.ws.take k) x.1))) = _
    rw [pad_raw (app_len h.base (fun y hy => (h.ws y (List.mem_of_mem_take hy)).2) _)]
    exact take_back d.base d.ws hx
theorem log_can {d : Dk} (h : Ok d) {k : Nat} {x : Nat × Sec × Sec} (hx : x ∈ (logW d.base d.ws).drop k) : x.1 < d.n ∧ ∃ y : Sec, y.length = 512 ∧ raw y = x.2.2 := by
  obtain ⟨i, hi⟩ := List.getElem?_of_mem (List.mem_of_mem_drop hx)
  have hl := (List.getElem?_eq_some_iff.1 hi).1
  rw [logW_len] at hl
  have hy := logW_get (f := d.base) (List.getElem?_eq_getElem hl)
  rw [hi] at hy
  injection hy with hy
  subst hy
  exact ⟨(h.ws _ (List.getElem_mem hl)).1, _, app_len h.base (fun y hy => (h.ws y (List.mem_of_mem_take hy)).2) _, rfl⟩
/-! ### What laws do -/
/-- A disk of 300 sectors on which writes were done, the mark ahead of the write of that number. -/
def writtenTo (l : List (Int × Sec)) (mark : Int) : Nat → Dk
  | 0 => mk 300
  | k + 1 => match l[k]? with
    | some x => writeD (if (k : Int) = mark then (writtenTo l mark k).mark else writtenTo l mark k) x.1 x.2
    | none => writtenTo l mark k
theorem writtenTo_succ {l : List (Int × Sec)} {mark : Int} {k : Nat} {x : Int × Sec} (h : l[k]? = some x) : writtenTo l mark (k + 1) = writeD (if (k : Int) = mark then (writtenTo l mark k).mark else writtenTo l mark k) x.1 x.2 := by
  rw [writtenTo, h]
theorem written_ok (l : List (Int × Sec)) (mark : Int) : ∀ k, Ok (writtenTo l mark k)
  | 0 => Ok.new (n := 300) (by omega) (by omega)
  | k + 1 => by
    unfold writtenTo
    split
    · refine Ok.write ?_ _ _
      split
      · exact (written_ok l mark k).mark
      · exact written_ok l mark k
    · exact written_ok l mark k
theorem written_n (l : List (Int × Sec)) (mark : Int) : ∀ k, (writtenTo l mark k).n = 300
  | 0 => rfl
  | k + 1 => by
    unfold writtenTo
    split
    · rw [writeD_n]
      split
      · exact written_n l mark k
      · exact written_n l mark k
    · exact written_n l mark k
theorem written_len (l : List (Int × Sec)) (mark : Int) : ∀ k, (writtenTo l mark k).ws.length ≤ k
  | 0 => Nat.le_refl _
  | k + 1 => by
    have ih := written_len l mark k
    unfold writtenTo
    split
    · rw [writeD_ws]
      split
      · show 0 + _ ≤ _
        split <;> omega
      · split <;> omega
    · omega
/-- What was written last, of what may be. -/
def lastW (l : List (Int × Sec)) (i : Int) : Nat → Sec
  | 0 => []
  | k + 1 => match l[k]? with
    | some x => if x.1 = i ∧ x.2.length ≤ 512 then x.2 else lastW l i k
    | none => lastW l i k
theorem lastW_len (l : List (Int × Sec)) (i : Int) : ∀ k, (lastW l i k).length ≤ 512
  | 0 => by simp [lastW]
  | k + 1 => by
    unfold lastW
    split
    · split
      · rename_i q
        exact q.2
      · exact lastW_len l i k
    · exact lastW_len l i k
theorem lastW_succ {l : List (Int × Sec)} {i : Int} {k : Nat} {x : Int × Sec} (h : l[k]? = some x) : lastW l i (k + 1) = if x.1 = i ∧ x.2.length ≤ 512 then x.2 else lastW l i k := by
  rw [lastW, h]
theorem last_now (l : List (Int × Sec)) {i : Int} (h0 : 0 ≤ i) (h1 : i < 300) : ∀ k, (writtenTo l (-1) k).now i.toNat = pad (lastW l i k)
  | 0 => rfl
  | k + 1 => by
    have ih := last_now l h0 h1 k
    unfold writtenTo lastW
    split
    · rename_i x hx
      rw [if_neg (by omega), writeD_now]
      by_cases hf : fineD (writtenTo l (-1) k) x.1 x.2 = true
      · rw [if_pos hf]
        simp only [fineD, Bool.and_eq_true, inD_iff, decide_eq_true_eq] at hf
        unfold upd
        by_cases hi : x.1 = i
        · rw [if_pos (by rw [hi]), if_pos ⟨hi, hf.2⟩]
        · rw [if_neg (by omega), if_neg (fun q => hi q.1), ih]
      · rw [if_neg hf]
        rw [if_neg (fun q => hf ?_), ih]
        simp only [fineD, Bool.and_eq_true, inD_iff, decide_eq_true_eq]
        rw [written_n]
        exact ⟨⟨by omega, by omega⟩, q.2⟩
    · exact ih
/-- More writes. -/
def moreTo (d : Dk) (l : List (Int × Sec)) : Nat → Dk
  | 0 => d
  | k + 1 => match l[k]? with
    | some x => writeD (moreTo d l k) x.1 x.2
    | none => moreTo d l k
theorem moreTo_succ {d : Dk} {l : List (Int × Sec)} {k : Nat} {x : Int × Sec} (h : l[k]? = some x) : moreTo d l (k + 1) = writeD (moreTo d l k) x.1 x.2 := by
  rw [moreTo, h]
theorem more_n (d : Dk) (l : List (Int × Sec)) : ∀ k, (moreTo d l k).n = d.n
  | 0 => rfl
  | k + 1 => by
    unfold moreTo
    split
    · rw [writeD_n, more_n]
    · exact more_n d l k
theorem more_ok {d : Dk} (h : Ok d) (l : List (Int × Sec)) : ∀ k, Ok (moreTo d l k)
  | 0 => h
  | k + 1 => by
    unfold moreTo
    split
    · exact (more_ok h l k).write _ _
    · exact more_ok h l k
theorem more_len (d : Dk) (l : List (Int × Sec)) : ∀ k, (moreTo d l k).ws.length ≤ d.ws.length + k
  | 0 => Nat.le_refl _
  | k + 1 => by
    have ih := more_len d l k
    unfold moreTo
    split
    · rw [writeD_ws]
      split <;> omega
    · omega
theorem more_now {d d' : Dk} (hn : d.n = d'.n) (hw : d.now = d'.now) (l : List (Int × Sec)) : ∀ k, (moreTo d l k).now = (moreTo d' l k).now
  | 0 => hw
  | k + 1 => by
    have ih := more_now hn hw l k
    unfold moreTo
    split
    · rename_i x hx
      rw [writeD_now, writeD_now, ih]
      have : fineD (moreTo d l k) x.1 x.2 = fineD (moreTo d' l k) x.1 x.2 := by
        unfold fineD inD
        rw [more_n, more_n, hn]
      rw [this]
    · exact ih
/-- The reference's: all writes that there ever were, and how many stand ahead of the mark. -/
def ofAll (n : Nat) (A : List (Nat × Sec)) (kept : Nat) : Dk := ⟨n, app zero (A.take kept), A.drop kept⟩
theorem all_now (n : Nat) (A : List (Nat × Sec)) (kept : Nat) : (ofAll n A kept).now = app zero A := by
  show app (app zero (A.take kept)) (A.drop kept) = _
  rw [← app_app, List.take_append_drop]
theorem all_new (n : Nat) : ofAll n [] 0 = mk n := rfl
theorem all_write {n : Nat} {A : List (Nat × Sec)} {kept : Nat} (h : kept ≤ A.length) (i : Nat) (s : Sec) : (ofAll n A kept).write i s = ofAll n (A ++ [(i, pad s)]) kept := by
  unfold ofAll Dk.write
  rw [List.take_append_of_le_length h, List.drop_append_of_le_length h]
theorem all_mark (n : Nat) (A : List (Nat × Sec)) (kept : Nat) : (ofAll n A kept).mark = ofAll n A A.length := by
  have h := all_now n A kept
  unfold Dk.mark
  rw [h]
  unfold ofAll
  rw [List.take_length, List.drop_length]
theorem all_cut {n : Nat} {A : List (Nat × Sec)} {kept k : Nat} (h : kept + k ≤ A.length) : (ofAll n A kept).cut k = ofAll n (A.take (kept + k)) (kept + k) := by
  unfold ofAll Dk.cut
  have e : ((A.take (kept + k)).take (kept + k)) = A.take kept ++ (A.drop kept).take k := by
    rw [List.take_take, Nat.min_self, List.take_add]
  rw [e, app_app]
  have e2 : (A.take (kept + k)).drop (kept + k) = [] := List.drop_eq_nil_of_le (by rw [List.length_take]; omega)
  rw [e2]
end SecP
end Go.Proofs.YtknckaegpdganaaDoor
