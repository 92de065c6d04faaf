import Derived.Test.YtpimkdaikoclnaaDoorRows
import Derived.WalkKit
import Derived.WalkSpells
import Derived.WalkLawsBesides
import Derived.Deep.QuietTactic
import Derived.BigQuiet
import Derived.Lib.Hide
import Derived.Sort.BigQuietIn
import Derived.TacticsIn
import Derived.NoCompiler
import Derived.Deep.RegionHeld3
import Derived.RangeFuncCalls
import Derived.Below
import Derived.Deep.Draws
import Derived.Laws.Rows
import Derived.Maps.AppendAt
import Derived.OwnWalk
import Derived.Deep.OwnRows
import Derived.Laws.BitsAllLaws
import Derived.Laws.BitsLemmas
import Derived.Outline
import Derived.LoopTactic
import Derived.RangeFuncNested
import Derived.RangeFuncBound
import Derived.RangeFuncLeaves
import Derived.Shelf.Abstract
import Derived.Shelf.RegionOpen
import Derived.OwnWalkIn
import Derived.TacticsInMore
import Derived.LoopNIn
import Derived.LoopIn
namespace Go.Proofs.YtpimkdaikoclnaaDoor
namespace KindP
def names:List (List UInt8):=[[97,105,114],[98,101,100,114,111,99,107],[115,116,111,110,101],[115,111,105,108],[115,97,110,100],[103,114,97,118,101,108],[119,111,111,100],
 [108,101,97,118,101,115],[97,115,104],[103,108,97,115,115],[109,111,118,101,114],[116,111,114,99,104],[112,108,97,110,116],[119,97,116,101,114],[102,105,114,101]]
def leasts:List Nat:=[0,0,0,0,0,0,0,0,0,0,0,1,0,0,0]
def mosts:List Nat:=[0,0,0,0,0,0,0,0,0,0,0,15,3,7,1]
def traits:List Nat:=[13,0,2,2,18,18,34,34,18,3,0,13,45,5,13]
def nm (k:Nat):List UInt8:=names.getD k []
def least (k:Nat):Nat:=leasts.getD k 0
def most (k:Nat):Nat:=mosts.getD k 0
def trait (k:Nat):Nat:=traits.getD k 0
def inL (l:List Nat) (k:Nat):Bool:=l.contains k
def clear (k:Nat):Bool:=inL [0,9,11,12,13,14] k
def yields (k:Nat):Bool:=inL [0,11,12,13,14] k
def may (k l:Nat):Bool:=decide (k < 15) && decide (least k≤l) && decide (l≤most k)
def lamp (k l:Nat):Nat:=if may k l then (if k = 11 then l else if k = 14 then 10 else 0) else 0
def find (s:List UInt8):Nat:=((List.range 15).find? fun k=>nm k == s).getD 15
end KindP
end Go.Proofs.YtpimkdaikoclnaaDoor
namespace Go.Proofs.YtpimkdaikoclnaaDoor
open Go.RowKit
namespace KindW
open KindP
structure Tab (w:World):Prop where
 name:∀ k,k < 15→w.cell? ⟨0,k * 4,none⟩ = some (.string ⟨(nm k).toArray⟩)
 least:∀ k,k < 15→w.cell? ⟨0,k * 4 + 1,none⟩ = some (.int .u8 (least k))
 most:∀ k,k < 15→w.cell? ⟨0,k * 4 + 2,none⟩ = some (.int .u8 (most k))
 trait:∀ k,k < 15→w.cell? ⟨0,k * 4 + 3,none⟩ = some (.int .u8 (trait k))
 size:0 < w.heap.size
theorem Tab.below {w w':World} (h:Tab w) (b:Below w.heap.size w w'):Tab w' :=
 ⟨fun k hk=>(b.cell (p:=⟨0,_,none⟩) h.size).trans (h.name k hk),fun k hk=>(b.cell (p:=⟨0,_,none⟩) h.size).trans (h.least k hk),
  fun k hk=>(b.cell (p:=⟨0,_,none⟩) h.size).trans (h.most k hk),fun k hk=>(b.cell (p:=⟨0,_,none⟩) h.size).trans (h.trait k hk),Nat.lt_of_lt_of_le h.size b.size⟩
def bit (k:Nat) (t:Int):Bool:=bits BinOp.and IntKind.u8 (KindP.trait k) t != 0
def hasB (k:Nat) (t:Int):Bool:=decide (k < 15) && bit k t
set_option maxHeartbeats 400000 in
theorem has_any (k:Nat) (t:Int) (w:World) (hT:Tab w) :
  Calls Tryd.prog 61 #[.int .u8 k,.int .u8 t] w fun e w'=>e = .returned (.bool (hasB k t))∧w = w':=by
 by_cases h:k < 15
 ·have hc:=hT.trait k h
  have e:Hid (hasB k t = bit k t):=Lib.hid (by simp [hasB,h])
  clear hT
  go_enter Tryd.func61,Tryd.ntmps61
  go_wp2
  go_ret
  exact ⟨by rw [e.out]; rfl,rfl⟩
 ·have e:Hid (hasB k t = false):=Lib.hid (by simp [hasB,h])
  clear hT
  go_enter Tryd.func61,Tryd.ntmps61
  go_wp2
  go_ret
  exact ⟨by rw [e.out]; rfl,rfl⟩
theorem inL_out {l:List Nat} {k:Nat} (h:15≤k) (hl:∀ x ∈ l,x < 15):inL l k = false:=by
 unfold inL
 rw [List.contains_eq_any_beq,List.any_eq_false]
 intro x hx
 have:=hl x hx
 simp
 omega
theorem hasB_of {f:Nat→Bool} {t:Int} (h:∀ k,k < 15→bit k t = f k) (ho:∀ k,15≤k→f k = false) (k:Nat):hasB k t = f k:=by
 by_cases hk:k < 15
 ·simp [hasB,hk,h k hk]
 ·simp [hasB,hk,ho k (by omega)]
theorem b_clear (k:Nat):hasB k 1 = clear k:=hasB_of (by decide) (fun _ h=>inL_out h (by decide)) k
set_option maxHeartbeats 400000 in
theorem k_clear (k:Nat) (w:World) (hT:Tab w) :
  Calls Tryd.prog 50 #[.int .u8 k] w fun e w'=>e = .returned (.bool (clear k))∧w = w':=by
 rw [← b_clear]
 go_enter Tryd.func50,Tryd.ntmps50
 go_wp2_with (go_at_call 61; refine (has_any k _ w hT).mono ?_; rintro e w' ⟨rfl,rfl⟩)
 go_ret
 exact ⟨rfl,rfl⟩
def Row (w:World) (b:Nat) (l:List Nat):Prop:=∀ i,i < l.length→w.cell? ⟨b,i,none⟩ = some (.int .u8 (l.getD i 0))
set_option maxHeartbeats 400000 in
theorem r_in (k b n c:Nat) (l:List Nat) (w:World) (hn:n = l.length) (hl:l.length < 1000) (hc:Row w b l) :
  Calls Tryd.prog 76 #[.int .u8 k,.slice (some ⟨b,0,none⟩) n c] w fun e w'=>e = .returned (.bool (inL l k))∧w = w':=by
 subst hn
 go_enter Tryd.func76,Tryd.ntmps76
 go_wp2
 go_loop [5] (fun i=>∃ j:Nat,j≤l.length∧i = .int .i64 j∧∀ x ∈ l.take j,x ≠ k) (fun i=>l.length - (intOf i).toNat)
 case atStart=>exact ⟨0,by omega,rfl,by simp⟩
 case round =>
  obtain ⟨j,hj,rfl,hne⟩:=hrel
  by_cases hlt:j < l.length
  ·have h1:=hc j hlt
   obtain ⟨y,hy⟩:∃ y,l.getD j 0 = y:=⟨_,rfl⟩
   have hm:l[j] = y:=by
    rw [List.getD_eq_getElem?_getD,List.getElem?_eq_getElem hlt] at hy
    exact hy
   rw [hy] at h1
   by_cases he:y = k
   ·have hin:Hid (inL l k = true):=Lib.hid (by
     unfold inL
     rw [List.contains_iff_mem,← he,← hm]
     exact List.getElem_mem hlt)
    subst he
    clear hy hm hc hne
    go_wp2
    go_ret
    exact ⟨by rw [hin.out]; rfl,rfl⟩
   ·have hx2:((y:Int) == (k:Int)) = false:=by simp; omega
    have hne2:Hid (∀ x ∈ l.take (j + 1),x ≠ k):=Lib.hid (by
     intro x hx
     rw [List.take_succ_eq_append_getElem hlt,List.mem_append] at hx
     rcases hx with hx | hx
     ·exact hne x hx
     ·simp at hx
      rw [hx,hm]
      exact he)
    clear he hy hm hc hne
    go_wp2
    go_round
    case rel=>exact ⟨j + 1,by omega,by go_num,hne2.out⟩
    case measure=>simp [intOf]; omega
  ·have hin:Hid (inL l k = false):=Lib.hid (by
    unfold inL
    rw [Bool.eq_false_iff]
    intro hk
    rw [List.contains_iff_mem] at hk
    rw [List.take_of_length_le (by omega)] at hne
    exact hne k hk rfl)
   clear hc hne
   go_wp2
   go_ret
   exact ⟨by rw [hin.out]; rfl,rfl⟩
end KindW
end Go.Proofs.YtpimkdaikoclnaaDoor
namespace Go.Proofs.YtpimkdaikoclnaaDoor
open Go.RowKit
namespace KindW
open KindP
theorem row_new (w:World) (l:List Nat) (t:TypeId):Row (w.alloc (.cells (l.map fun (n:Nat)=>Value.int .u8 (n:Int)).toArray t)) w.heap.size l:=by
 intro i hi
 rw [World.cell?_alloc_new]
 simp [hi]
set_option maxHeartbeats 400000 in
theorem r_clear (k:Nat) (w:World) :
  Calls Tryd.prog 59 #[.int .u8 k] w fun e w'=>e = .returned (.bool (clear k))∧Below w.heap.size w w':=by
 have hr:=row_new w [0,9,11,12,13,14] 5
 go_enter Tryd.func59,Tryd.ntmps59
 go_wp2_with (go_at_call 76; refine (r_in k _ _ _ [0,9,11,12,13,14] _ rfl (by decide) ?hr).mono ?_; exact hr; rintro e w' ⟨rfl,rfl⟩)
 go_ret
 exact ⟨rfl,(Below.refl _ _).alloc (Nat.le_refl _) _⟩
set_option maxHeartbeats 400000 in
theorem r_levels (k:Nat) (w:World) :
  Calls Tryd.prog 33 #[.int .u8 k] w fun e w'=>e = .returned (.int .u8 (KindP.most k))∧w = w':=by
 by_cases h11:k = 11
 ·subst h11
  go_enter Tryd.func33,Tryd.ntmps33
  go_wp2
  go_ret
  exact ⟨rfl,rfl⟩
 by_cases h12:k = 12
 ·subst h12
  go_enter Tryd.func33,Tryd.ntmps33
  go_wp2
  go_ret
  exact ⟨rfl,rfl⟩
 by_cases h13:k = 13
 ·subst h13
  go_enter Tryd.func33,Tryd.ntmps33
  go_wp2
  go_ret
  exact ⟨rfl,rfl⟩
 by_cases h14:k = 14
 ·subst h14
  go_enter Tryd.func33,Tryd.ntmps33
  go_wp2
  go_ret
  exact ⟨rfl,rfl⟩
 have e:Hid (KindP.most k = 0):=Lib.hid (by
  by_cases h:k < 15
  ·revert h11 h12 h13 h14
   revert k
   decide
  ·simp [KindP.most,mosts,List.getD,h])
 have e11:((k:Int) == 11) = false:=by simp; omega
 have e12:((k:Int) == 12) = false:=by simp; omega
 have e13:((k:Int) == 13) = false:=by simp; omega
 have e14:((k:Int) == 14) = false:=by simp; omega
 clear h11 h12 h13 h14
 go_enter Tryd.func33,Tryd.ntmps33
 go_wp2
 go_ret
 exact ⟨by rw [e.out]; rfl,rfl⟩
end KindW
end Go.Proofs.YtpimkdaikoclnaaDoor
namespace Go.Proofs.YtpimkdaikoclnaaDoor
open Go.RowKit
namespace KindW
open KindP
theorem dec_lt {a b:Nat} {v:Bool} (h:decide (a < b) = v):decide ((a:Int) < (b:Int)) = v:=by
 rw [← h]; simp
theorem dec_le {a b:Nat} {v:Bool} (h:decide (a≤b) = v):decide ((a:Int)≤(b:Int)) = v:=by
 rw [← h]; simp
set_option maxHeartbeats 400000 in
theorem k_may (k l:Nat) (w:World) (hT:Tab w) :
  Calls Tryd.prog 49 #[.agg #[.int .u8 k,.int .u8 l]] w fun e w'=>e = .returned (.bool (may k l))∧Below w.heap.size w w':=by
 by_cases h:k < 15
 ·have hl:=hT.least k h
  have hm:=hT.most k h
  have hz:=hT.size
  obtain ⟨a,ha⟩:∃ a,KindP.least k = a:=⟨_,rfl⟩
  obtain ⟨b,hb⟩:∃ b,KindP.most k = b:=⟨_,rfl⟩
  rw [ha] at hl
  rw [hb] at hm
  have hd:decide ((k:Int) < 15) = true:=by simp; omega
  by_cases h1:a≤l
  ·have hd1:decide (a≤l) = true:=by simpa using h1
   have hd1':=dec_le hd1
   by_cases h2:l≤b
   ·have hd2:decide (l≤b) = true:=by simpa using h2
    have hd2':=dec_le hd2
    have e:Hid (may k l = true):=Lib.hid (by simp [may,h,ha,hb,h1,h2])
    clear hT ha hb
    go_enter Tryd.func49,Tryd.ntmps49
    go_wp2_with fail
    go_quiet (fail)
    go_wp2
    go_ret
    exact ⟨by rw [e.out]; rfl,below_drewN ((Below.refl _ _).alloc (Nat.le_refl _) _) _⟩
   ·have hd2:decide (l≤b) = false:=by simpa using h2
    have hd2':=dec_le hd2
    have e:Hid (may k l = false):=Lib.hid (by simp [may,hb,h2])
    clear hT ha hb
    go_enter Tryd.func49,Tryd.ntmps49
    go_wp2_with fail
    go_quiet (fail)
    go_wp2
    go_ret
    exact ⟨by rw [e.out]; rfl,below_drewN ((Below.refl _ _).alloc (Nat.le_refl _) _) _⟩
  ·have hd1:decide (a≤l) = false:=by simpa using h1
   have hd1':=dec_le hd1
   have e:Hid (may k l = false):=Lib.hid (by simp [may,ha,h1])
   clear hT ha hb
   go_enter Tryd.func49,Tryd.ntmps49
   go_wp2_with fail
   go_quiet (fail)
   go_wp2
   go_ret
   exact ⟨by rw [e.out]; rfl,below_drewN ((Below.refl _ _).alloc (Nat.le_refl _) _) _⟩
 ·have hd:decide ((k:Int) < 15) = false:=by simp; omega
  have e:Hid (may k l = false):=Lib.hid (by simp [may,h])
  clear hT
  go_enter Tryd.func49,Tryd.ntmps49
  go_wp2_with fail
  go_quiet (fail)
  go_wp2
  go_ret
  exact ⟨by rw [e.out]; rfl,below_drewN ((Below.refl _ _).alloc (Nat.le_refl _) _) _⟩
theorem may_levels (k l:Nat):may k l = (decide (k < 15) && !decide (KindP.most k < l) && (!(k == 11) || decide (0 < l))):=by
 by_cases h11:k = 11
 ·subst h11
  rw [Bool.eq_iff_iff]
  simp [may,show KindP.least 11 = 1 from rfl,show KindP.most 11 = 15 from rfl]
  omega
 ·by_cases h:k < 15
  ·have h0:KindP.least k = 0:=by
    revert h11
    revert h
    revert k
    decide
   rw [Bool.eq_iff_iff]
   simp [may,h0,h11]
  ·simp [may,h]
set_option maxHeartbeats 400000 in
theorem r_may (k l:Nat) (w:World) :
  Calls Tryd.prog 23 #[.agg #[.int .u8 k,.int .u8 l]] w fun e w'=>e = .returned (.bool (may k l))∧Below w.heap.size w w':=by
 have hm:=may_levels k l
 by_cases h:k < 15
 ·have hd:decide (15≤(k:Int)) = false:=by simp; omega
  obtain ⟨b,hb⟩:∃ b,KindP.most k = b:=⟨_,rfl⟩
  by_cases h1:b < l
  ·have hd1:decide (b < l) = true:=by simpa using h1
   have hd1':=dec_lt hd1
   have e:Hid (may k l = false):=Lib.hid (by simp [hm,hb,h1])
   have hL:=fun w=>r_levels k w
   rw [hb] at hL
   have HL:=Lib.hid hL
   clear hm hL hb h1
   go_enter Tryd.func23,Tryd.ntmps23
   go_wp2_with fail
   go_quiet ((go_at_call 33; exact Calls.quiet_of_same ((HL.out _).mono fun _ _ h=>⟨h.1,h.2.symm⟩)))
   go_wp2
   go_ret
   exact ⟨by rw [e.out]; rfl,below_drewN ((Below.refl _ _).alloc (Nat.le_refl _) _) _⟩
  ·have hd1:decide (b < l) = false:=by simpa using h1
   have hd1':=dec_lt hd1
   have hL:=fun w=>r_levels k w
   rw [hb] at hL
   have HL:=Lib.hid hL
   by_cases h11:k = 11
   ·subst h11
    by_cases h3:0 < l
    ·have hd3:decide (0 < l) = true:=by simpa using h3
     have hd3':=dec_lt hd3
     have e:Hid (may 11 l = true):=Lib.hid (by simp [hm,hb,h1,h3])
     clear hm hL hb h1
     go_enter Tryd.func23,Tryd.ntmps23
     go_wp2_with fail
     go_quiet ((go_at_call 33; exact Calls.quiet_of_same ((HL.out _).mono fun _ _ h=>⟨h.1,h.2.symm⟩)))
     go_wp2
     go_ret
     exact ⟨by rw [e.out]; rfl,below_drewN ((Below.refl _ _).alloc (Nat.le_refl _) _) _⟩
    ·have hd3:decide (0 < l) = false:=by simpa using h3
     have hd3':=dec_lt hd3
     have e:Hid (may 11 l = false):=Lib.hid (by simp [hm,h3])
     clear hm hL hb h1
     go_enter Tryd.func23,Tryd.ntmps23
     go_wp2_with fail
     go_quiet ((go_at_call 33; exact Calls.quiet_of_same ((HL.out _).mono fun _ _ h=>⟨h.1,h.2.symm⟩)))
     go_wp2
     go_ret
     exact ⟨by rw [e.out]; rfl,below_drewN ((Below.refl _ _).alloc (Nat.le_refl _) _) _⟩
   ·have e11:((k:Int) != 11) = true:=by simp; omega
    have e:Hid (may k l = true):=Lib.hid (by simp [hm,hb,h1,h,h11])
    clear hm hL hb h1
    go_enter Tryd.func23,Tryd.ntmps23
    go_wp2_with fail
    go_quiet ((go_at_call 33; exact Calls.quiet_of_same ((HL.out _).mono fun _ _ h=>⟨h.1,h.2.symm⟩)))
    go_wp2
    go_ret
    exact ⟨by rw [e.out]; rfl,below_drewN ((Below.refl _ _).alloc (Nat.le_refl _) _) _⟩
 ·have hd:decide (15≤(k:Int)) = true:=by simp; omega
  have e:Hid (may k l = false):=Lib.hid (by simp [hm,h])
  clear hm
  go_enter Tryd.func23,Tryd.ntmps23
  go_wp2_with fail
  go_quiet (fail)
  go_wp2
  go_ret
  exact ⟨by rw [e.out]; rfl,below_drewN ((Below.refl _ _).alloc (Nat.le_refl _) _) _⟩
end KindW
end Go.Proofs.YtpimkdaikoclnaaDoor
namespace Go.Proofs.YtpimkdaikoclnaaDoor
open Go
namespace QuietR
section
variable {F:Fence} {n:Nat} {P:Program} {ops:Array Oper} {C:World→Prop}
theorem semAt_plain (r:Option Nat) (ρ:Operand→Value) (o:Oper) (h:∀ c,o.op ≠ .defer c):Oper.semAt r ρ o = execOp ρ o:=by
 cases r with
 | none=>exact Oper.semAt_none _ _
 | some l=>exact Oper.semAt_some l ρ o h
theorem opIn {o:Oper} {a:Act} {K:Act→Prop} {K':Act→World→Prop} {Q':Exit→Act→World→Prop} {w:World} (hnd:∀ c,o.op ≠ .defer c) (hw:C w) (h:∀ a w',C w'→K a→K' a w')
  (ha:o.askedIn F P a C) (hh:o.quietIn F n P a C K):o.wpIn F n P a w K' Q':=by
 obtain ⟨v,h1,h2⟩:=hh
 have h3:=h1 w hw
 unfold Oper.quietAtIn at h3
 unfold Oper.wpIn
 refine ⟨ha w hw,?_⟩
 rw [semAt_plain _ _ _ hnd]
 generalize (execOp a.eval o).run P w = r at *
 cases r with
 | ok x w' =>
  cases x <;> simp only [Oper.quietUponIn] at h3 <;> simp only [Oper.uponIn]
  case value u =>
   obtain ⟨e1,e2⟩:=h3
   rw [e1,e2]
   exact h _ _ hw h2
  case skip =>
   obtain ⟨e1,e2⟩:=h3
   rw [e1,← e2]
   exact h _ _ hw h2
  case enter f args =>
   obtain ⟨e1,hd,hc⟩:=h3
   rw [e1]
   exact ⟨hd,hc.mono fun e w'' ⟨he,hw''⟩=>by subst he; exact h _ _ hw'' h2⟩
 | halt x w'=>simp only [Oper.quietUponIn] at h3
theorem atIn {i:Nat} {a:Act} {K:Act→Prop} {K':Act→World→Prop} {Q':Exit→Act→World→Prop} {w:World} (hnd:∀ (i:Nat) (o:Oper) c,ops[i]? = some o→o.op ≠ .defer c) (hC:C w) (h:∀ a w',C w'→K a→K' a w')
  (hh:qOpIn F n P ops C i K a):wpOpIn F n P ops Q' i K' a w:=by
 unfold qOpIn at hh
 unfold wpOpIn
 split
 ·rename_i ho; simp only [ho] at hh; exact h _ _ hC hh
 ·rename_i o ho
  simp only [ho] at hh
  obtain ⟨ha,hh⟩:=hh
  split
  ·rename_i hw; simp only [hw,if_true] at hh; exact opIn (fun c=>hnd i o c ho) hC h ha hh
  ·rename_i hw; simp only [hw] at hh; exact ⟨ha w hC,h _ _ hC hh⟩
theorem anyIn {md:Region.Mode} {Q:Act→Prop} {Q':Exit→Act→World→Prop} (hnd:∀ (i:Nat) (o:Oper) c,ops[i]? = some o→o.op ≠ .defer c) (hQ:∀ a w,C w→Q a→Q' .normal a w):∀ (fuel:Nat) (listed:Array Bool) (a:Act) (w:World),C w →
  wpAnyQIn F n P md ops C Q fuel listed a→wpAnyIn F n P md ops Q' fuel listed a w
 | 0,_,_,_,hw,h=>⟨h.1,hQ _ _ hw h.2⟩
 | fuel + 1,_,_,_,hw,h=>⟨fun h0=>hQ _ _ hw (h.1 h0),fun i hi=>atIn hnd hw (fun a' w' hw'=>anyIn hnd hQ fuel _ a' w' hw') (h.2 i hi)⟩
def noDefer (l:List Oper):Bool:=l.all fun o=>match o.op with | .defer _=>false | _=>true
theorem noDefer_spec {l:List Oper} (h:noDefer l = true) (i:Nat) (o:Oper) (c:Call) (ho:l.toArray[i]? = some o):o.op ≠ .defer c:=by
 intro e
 have hm:o ∈ l:=by
  have:=List.mem_of_getElem? (l:=l) (i:=i) (a:=o) (by simpa using ho)
  exact this
 have:=List.all_eq_true.1 h o hm
 rw [e] at this
 cases this
theorem region {id:Nat} {Q:Exit→Act→World→Prop} {a:Act} {w:World} {l:List Oper} (hnd:noDefer l = true) (hm:P.follows .mixedOrders = true) (hB:Region.lexB .any l.toArray = true)
  (h:wpQuietIn F n P l.toArray (fun w'=>∃ n,w' = w.drewN n) (fun a'=>∀ w',(∃ n,w' = w.drewN n)→Q .normal a' w') l a):(Code.region id l.toArray true).wpIn F n P Q a w:=by
 simp only [Region.lexB,Bool.and_eq_true] at hB
 refine wpIn_region_any hm (anyIn (C:=fun w'=>∃ n,w' = w.drewN n) (Q:=fun a'=>∀ w',(∃ n,w' = w.drewN n)→Q .normal a' w') (noDefer_spec hnd) (fun _ w' hw' h=>h w' hw') _ _ _ _ ⟨1,rfl⟩ ?_)
 have:=wpAnyQIn_lex (F:=F) (n:=n) (C:=fun w'=>∃ n,w' = w.drewN n) (md:=.any) hB.1 l 0 (Array.replicate l.toArray.size false) a (by simp) (by simpa using hB.2) h
 simpa using this
end
end QuietR
end Go.Proofs.YtpimkdaikoclnaaDoor
namespace Go.Proofs.YtpimkdaikoclnaaDoor
open Go
namespace RoundR
def Calm (Q:Exit→Act→World→Prop):Exit→Act→World→Prop
 | .normal,a,w=>Q .normal a w
 | _,_,_=>False
theorem Calm.normal {Q:Exit→Act→World→Prop} {a:Act} {w:World} (h:Q .normal a w):Calm Q .normal a w:=h
theorem Calm.imp {Q:Exit→Act→World→Prop}:∀ (e:Exit) (a:Act) (w:World),Calm Q e a w→Q e a w:=fun e a w h=>by
 cases e <;> first | exact h | exact (h:False).elim
theorem not_letsOut {Q:Exit→Act→World→Prop}:¬ LetsOut (Calm Q):=fun ⟨_,_,h⟩=>h
variable {P:Program} {ops:Array Oper} {Q:Exit→Act→World→Prop} {md:Region.Mode} {l n:Nat}
theorem rows_in {row:String} {args:Array Value} {w:World} {R:Value→World→Prop} (h:Rows P row args w R):RowsIn (Fence.wide.inRound l) n P row args w R:=fun c cs _=>by
 obtain ⟨v,w',hr,hs⟩:=h c cs
 exact ⟨v,w',hr,stepsIn_wide.2 hs⟩
theorem oper_in {o:Oper} {a:Act} {w:World} {K:Act→World→Prop} (hnd:∀ c,o.op ≠ .defer c) (h:o.wp P a w K Q):o.wpIn (Fence.wide.inRound l) n P a w K Q:=by
 unfold Oper.wp at h
 unfold Oper.wpIn
 refine ⟨fun _ _=>trivial,?_⟩
 rw [QuietR.semAt_plain _ _ _ hnd]
 generalize (execOp a.eval o).run P w = r at *
 cases r with
 | ok x w' =>
  cases x <;> simp only [Oper.upon] at h <;> simp only [Oper.uponIn]
  case value=>exact h
  case skip=>exact h
  case defer=>exact h
  case enter f args=>exact ⟨(fun h0=>by cases h0),CallsIn.inRound l (callsIn_wide.2 h)⟩
  case row row args=>exact ⟨(fun h0=>by cases h0),rows_in h⟩
 | halt x w'=>cases x <;> simp only [Oper.upon] at h <;> simp only [Oper.uponIn] <;> exact h
theorem op_in {i:Nat} {a:Act} {w:World} {K:Act→World→Prop} (hnd:∀ (i:Nat) (o:Oper) c,ops[i]? = some o→o.op ≠ .defer c) (h:wpOp P ops (Calm Q) i K a w):wpOpIn (Fence.wide.inRound l) n P ops (Calm Q) i K a w:=by
 unfold wpOp at h
 unfold wpOpIn
 split
 ·rename_i ho; simp only [ho] at h; exact h
 ·rename_i o ho
  simp only [ho] at h
  split
  ·rename_i hw
   simp only [hw,if_true] at h
   rcases h with h | h
   ·exact oper_in (fun c=>hnd i o c ho) h
   ·exact absurd h.2 not_letsOut
  ·rename_i hw
   simp only [hw] at h
   exact ⟨fun _ _=>trivial,h⟩
theorem any_in (hnd:∀ (i:Nat) (o:Oper) c,ops[i]? = some o→o.op ≠ .defer c):∀ (fuel:Nat) (listed:Array Bool) (a:Act) (w:World),wpAny P md ops (Calm Q) fuel listed a w→wpAnyIn (Fence.wide.inRound l) n P md ops (Calm Q) fuel listed a w
 | 0,_,_,_,h=>h
 | fuel + 1,_,_,_,h=>⟨h.1,fun i hi=>wpOpIn_mono (fun _ _ h'=>any_in hnd fuel _ _ _ h') (op_in hnd (h.2 i hi))⟩
theorem region {S:World→Prop} {id:Nat} {a:Act} {w:World} {L:List Oper} (hnd:QuietR.noDefer L = true) (hm:P.follows .mixedOrders = true) (hS:S w.drew)
  (h:S w.drew→wpAnyH P .any L.toArray (Calm Q) S L.toArray.size (Array.replicate L.toArray.size false) a w.drew):(Code.region id L.toArray true).wpIn (Fence.wide.inRound l) n P Q a w :=
 wpIn_mono (wpIn_region_any hm (any_in (QuietR.noDefer_spec hnd) _ _ _ _ (wpAny_of_held _ _ _ _ (h hS)))) Calm.imp
end RoundR
end Go.Proofs.YtpimkdaikoclnaaDoor
namespace Go.Proofs.YtpimkdaikoclnaaDoor
open Go.RowKit
set_option linter.unusedVariables false
set_option linter.unusedSimpArgs false
namespace BlkP
def Blk (w:World) (b:Nat) (T:TypeId) (vs:List Value):Prop:=w.heap[b]? = some (.cells vs.toArray T (0,0))
section
variable {w w':World} {b:Nat} {T:TypeId} {vs:List Value} {B:Nat}
theorem Blk.lt (h:Blk w b T vs):b < w.heap.size:=(Array.getElem?_eq_some_iff.1 h).1
theorem Blk.cell (h:Blk w b T vs) {i:Nat} {v:Value} (hv:vs[i]? = some v):w.cell? ⟨b,i,none⟩ = some v:=(cell_of_row w b i _ _ _ h).trans (by simpa using hv)
theorem Blk.frozen (h:Blk w b T vs) (i:Nat):w.frozen? ⟨b,i,none⟩ = false:=frozen_of_row w b i _ _ h
theorem Blk.below (h:Blk w b T vs) (hb:Below w.heap.size w w'):Blk w' b T vs:=(hb.block b h.lt).trans h
theorem Blk.belowAt (h:Blk w b T vs) (hb:Below B w w') (hl:b < B):Blk w' b T vs:=(hb.block b hl).trans h
theorem Blk.grown (h:Blk w b T vs) {r:Option Nat} (hg:w.grownBy w' r) (hne:some b ≠ r):Blk w' b T vs:=(hg.block b h.lt hne).trans h
theorem Blk.set (h:Blk w b T vs) (i:Nat) (v:Value):Blk (w.setCell ⟨b,i,none⟩ v) b T (vs.set i v):=by
 have:=heap_setCell_same w b i _ T v h
 unfold Blk
 rw [this]
 simp
theorem Blk.other (h:Blk w b T vs) {a:Addr} (hne:b ≠ a.block) (v:Value):Blk (w.setCell a v) b T vs:=(heap_setCell_other w a b v hne).trans h
theorem Blk.alloc (h:Blk w b T vs) (o:Obj):Blk (w.alloc o) b T vs:=(heap_alloc_old w o h.lt).trans h
theorem Blk.drew (h:Blk w b T vs):Blk w.drew b T vs:=h
theorem Blk.drewN (h:Blk w b T vs) (n:Nat):Blk (w.drewN n) b T vs:=h
theorem Blk.new (w:World) (T:TypeId) (vs:List Value):Blk (w.alloc (.cells vs.toArray T)) w.heap.size T vs:=heap_alloc_new w _
theorem Blk.newA (w:World) (T:TypeId) (vs:Array Value) {b:Nat} (hb:b = w.heap.size):Blk (w.alloc (.cells vs T)) b T vs.toList:=by
 subst hb
 exact heap_alloc_new w _
theorem Blk.newA' {c:Array Value} (hb:b = w.heap.size) (hc:c.toList = vs):Blk (w.alloc (.cells c T)) b T vs:=hc ▸ Blk.newA w T c hb
theorem Blk.setTo {us:List Value} {i:Nat} {v:Value} (h:Blk w b T us) (e:us.set i v = vs):Blk (w.setCell ⟨b,i,none⟩ v) b T vs:=e ▸ h.set i v
theorem Blk.setAt {us:List Value} {a:Addr} {v:Value} (hb:b = a.block) (hs:a.spot = none) (h:Blk w b T us) (e:us.set a.off v = vs):Blk (w.setCell a v) b T vs:=by
 obtain ⟨ab,ao,sp⟩:=a
 subst hb
 subst hs
 exact e ▸ h.set ao v
theorem Blk.otherAt {a:Addr} {v:Value} (h:Blk w b T vs) (hne:b ≠ a.block):Blk (w.setCell a v) b T vs:=h.other hne v
end
theorem any_named {P:Program} {md:Region.Mode} {ops:Array Oper} {Q:Exit→Act→World→Prop} {S0:World→Prop} {fuel:Nat} {listed:Array Bool} {a:Act} {W:World} (S:World→Prop) (h:S W) (k:∀ W',S W'→wpAnyH P md ops Q S0 fuel listed a W'):wpAnyH P md ops Q S0 fuel listed a W:=k W h
end BlkP
end Go.Proofs.YtpimkdaikoclnaaDoor
namespace Go.Proofs.YtpimkdaikoclnaaDoor
open Go.RowKit
set_option linter.unusedVariables false
set_option linter.unusedSimpArgs false
namespace RowG
open BlkP
structure Enc (α:Type) where
 f:α→List Value
 k:Nat
 len:∀ x,(f x).length = k
 one:∀ x,∀ v ∈ f x,v.oneCell' = true
section
variable {α:Type} {e:Enc α} {E:TypeId} {w w':World} {B:Nat} {v:Value} {l:List α}
def flat (e:Enc α) (l:List α):List Value:=l.flatMap e.f
theorem flat_app (p q:List α):flat e (p ++ q) = flat e p ++ flat e q:=by simp [flat]
theorem flat_len:∀ l:List α,(flat e l).length = l.length * e.k
 | []=>by simp [flat]
 | x :: r=>by
  have h:flat e (x :: r) = e.f x ++ flat e r:=rfl
  rw [h,List.length_append,flat_len r,e.len,List.length_cons,Nat.succ_mul]
  omega
theorem flat_get:∀ {l:List α} {i j:Nat} {x:α},l[i]? = some x→j < e.k→(flat e l)[i * e.k + j]? = (e.f x)[j]?
 | y :: r,0,j,x,h,hj=>by
  have:y = x:=by simpa using h
  subst this
  have h2:flat e (y :: r) = e.f y ++ flat e r:=rfl
  rw [h2,Nat.zero_mul,Nat.zero_add,List.getElem?_append_left (by rw [e.len]; exact hj)]
 | y :: r,i + 1,j,x,h,hj=>by
  have ih:=flat_get (l:=r) (i:=i) (j:=j) (x:=x) (by simpa using h) hj
  have h2:flat e (y :: r) = e.f y ++ flat e r:=rfl
  rw [h2,Nat.succ_mul,List.getElem?_append_right (by rw [e.len]; omega),e.len,show i * e.k + e.k + j - e.k = i * e.k + j by omega]
  exact ih
theorem flat_set:∀ {l:List α} {i j:Nat} {x y:α} {u:Value},l[i]? = some x→j < e.k→e.f y = (e.f x).set j u→(flat e l).set (i * e.k + j) u = flat e (l.set i y)
 | z :: r,0,j,x,y,u,h,hj,hy=>by
  have:z = x:=by simpa using h
  subst this
  have h2:flat e (z :: r) = e.f z ++ flat e r:=rfl
  have h3:flat e ((z :: r).set 0 y) = e.f y ++ flat e r:=rfl
  rw [h2,h3,Nat.zero_mul,Nat.zero_add,List.set_append_left _ _ (by rw [e.len]; exact hj),hy]
 | z :: r,i + 1,j,x,y,u,h,hj,hy=>by
  have ih:=flat_set (l:=r) (i:=i) (j:=j) (x:=x) (y:=y) (u:=u) (by simpa using h) hj hy
  have h2:flat e (z :: r) = e.f z ++ flat e r:=rfl
  have h3:flat e ((z :: r).set (i + 1) y) = e.f z ++ flat e (r.set i y):=rfl
  rw [h2,h3,← ih,Nat.succ_mul,List.set_append_right _ _ (by rw [e.len]; omega),e.len,show i * e.k + e.k + j - e.k = i * e.k + j by omega]
def Own (e:Enc α) (E:TypeId) (w:World) (B:Nat) (v:Value) (l:List α):Prop:=w.ownsRow B E e.k v l.length (flat e l)
theorem Own.nil (e:Enc α) (E:TypeId) (w:World) (B:Nat):Own e E w B (.slice none 0 0) []:=World.ownsRow_nil w B _ _
theorem Own.below (h:Own e E w B v l) (hb:Below w.heap.size w w'):Own e E w' B v l:=by
 unfold Own at h ⊢
 exact h.kept (row:=none) ⟨hb.os,hb.tape,hb.output,hb.size,fun k hk _=>hb.block k hk⟩ (by cases h':v.ownBlock <;> simp)
theorem Own.grown (h:Own e E w B v l) {r:Option Nat} (hg:w.grownBy w' r) (hne:v.ownBlock = none ∨ v.ownBlock ≠ r):Own e E w' B v l:=by
 unfold Own at h ⊢
 exact h.kept hg hne
theorem Own.alloc (h:Own e E w B v l) (o:Obj):Own e E (w.alloc o) B v l:=World.ownsRow.alloc h o
theorem Own.drew (h:Own e E w B v l):Own e E w.drew B v l:=h
theorem Own.drewN (h:Own e E w B v l) (n:Nat):Own e E (w.drewN n) B v l:=h
theorem Own.other (h:Own e E w B v l) {a:Addr} {x:Value} (hlt:a.block < B):Own e E (w.setCell a x) B v l:=by
 unfold Own at h ⊢
 refine ⟨h.1,?_⟩
 rcases h.2 with h1 | ⟨g,cap,cur,h2,h3,h4,h5⟩
 ·exact .inl h1
 ·exact .inr ⟨g,cap,cur,h2,h3,(heap_setCell_other w a g x (by omega)).trans h4,h5⟩
theorem Own.mono {B':Nat} (h:Own e E w B v l) (hB:B'≤B):Own e E w B' v l:=by
 unfold Own at h ⊢
 refine ⟨h.1,?_⟩
 rcases h.2 with h1 | ⟨g,cap,cur,h2,h3,h4⟩
 ·exact .inl h1
 ·exact .inr ⟨g,cap,cur,h2,Nat.le_trans hB h3,h4⟩
theorem Own.ge (h:Own e E w B v l):∀ g,v.ownBlock = some g→B≤g∧g < w.heap.size:=fun g hg=>World.ownsRow.lt h g hg
theorem Own.old (h:Own e E w B v l):v.ownBlock ≠ some w.heap.size:=fun q=>by
 have:=(h.ge _ q).2
 omega
theorem Own.form (h:Own e E w B v l) {n:Nat} (hn:l.length = n):∃ A c,v = .slice A n c∧n≤c∧c≤9223372036854775807∧(0 < n→∃ g,A = some ⟨g,0,none⟩∧B≤g∧g < w.heap.size):=by
 subst hn
 have hlt:=h.ge
 unfold Own at h
 rcases h.2 with ⟨rfl,hn⟩ | ⟨g,cap,cur,rfl,hB,hg,hn,hc,hs,ht⟩
 ·exact ⟨none,0,by rw [hn],by omega,by omega,fun q=>by omega⟩
 ·exact ⟨_,cap,rfl,hn,hc,fun _=>⟨g,rfl,hB,(hlt g rfl).2⟩⟩
theorem Own.cell {g n c:Nat} (h:Own e E w B (.slice (some ⟨g,0,none⟩) n c) l) {i j:Nat} {x:α} {u:Value} (hx:l[i]? = some x) (hu:(e.f x)[j]? = some u):w.cell? ⟨g,i * e.k + j,none⟩ = some u:=by
 have hj:j < e.k:=by
  rw [← e.len x]
  exact (List.getElem?_eq_some_iff.1 hu).1
 have hi:=(List.getElem?_eq_some_iff.1 hx).1
 unfold Own at h
 have hnl:n = l.length:=by
  rcases h.2 with ⟨h0,_⟩ | ⟨g',cap,cur,h0,_⟩
  ·cases h0
  ·injection h0
 rw [← hnl] at h
 rw [h.cellAt (i * e.k + j) (by
  rw [hnl]
  have:(i + 1) * e.k≤l.length * e.k:=Nat.mul_le_mul_right _ hi
  rw [Nat.succ_mul] at this
  omega),flat_get hx hj]
 exact hu
theorem Own.frozen {g n c:Nat} (h:Own e E w B (.slice (some ⟨g,0,none⟩) n c) l) (o:Nat):w.frozen? ⟨g,o,none⟩ = false:=by
 unfold Own at h
 rcases h.2 with ⟨h0,_⟩ | ⟨g',cap,cur,h0,_,hg,_⟩
 ·cases h0
 ·injection h0 with h0
  injection h0 with h0
  injection h0 with h0
  subst h0
  exact frozen_of_row w g o _ _ hg
theorem Own.store {g n c:Nat} (h:Own e E w B (.slice (some ⟨g,0,none⟩) n c) l) {i j:Nat} {x y:α} {u:Value} (hx:l[i]? = some x) (hj:j < e.k) (hy:e.f y = (e.f x).set j u) :
  Own e E (w.setCell ⟨g,i * e.k + j,none⟩ u) B (.slice (some ⟨g,0,none⟩) n c) (l.set i y)∧w.grownBy (w.setCell ⟨g,i * e.k + j,none⟩ u) (some g):=by
 unfold Own at h ⊢
 have hnl:n = l.length:=by
  rcases h.2 with ⟨h0,_⟩ | ⟨g',cap,cur,h0,_⟩
  ·cases h0
  ·injection h0
 rw [← hnl] at h
 obtain ⟨h1,h2⟩:=h.stored (i * e.k + j) u
 rw [flat_set hx hj hy] at h1
 rw [List.length_set,← hnl]
 exact ⟨h1,h2⟩
theorem Own.grownB (h:Own e E w B v l) (hg:w.grownBy w' v.ownBlock) (hB:B≤w.heap.size):Below B w w' :=
 (Below.refl B w).grown hg hB (fun k hk=>(h.ge k hk).1)
def Rd (e:Enc α) (w:World) (v:Value) (l:List α):Prop:=∃ A c,v = .slice A l.length c∧l.length≤c∧c≤9223372036854775807∧(l ≠ []→∃ b o,A = some ⟨b,o,none⟩∧b < w.heap.size∧∀ i x,l[i]? = some x→∀ j u,(e.f x)[j]? = some u→w.cell? ⟨b,o + i * e.k + j,none⟩ = some u)
theorem Own.rd (h:Own e E w B v l):Rd e w v l:=by
 obtain ⟨A,c,rfl,hc,hm,hg⟩:=h.form rfl
 refine ⟨A,c,rfl,hc,hm,fun hne=>?_⟩
 obtain ⟨g,rfl,_,hlt⟩:=hg (List.length_pos_iff.2 hne)
 exact ⟨g,0,rfl,hlt,fun i x hx j u hu=>by rw [Nat.zero_add]; exact h.cell hx hu⟩
theorem Rd.below (h:Rd e w v l) (hb:Below w.heap.size w w'):Rd e w' v l:=by
 obtain ⟨A,c,rfl,hc,hm,hne⟩:=h
 refine ⟨A,c,rfl,hc,hm,fun h0=>?_⟩
 obtain ⟨b,o,hA,hlt,hcs⟩:=hne h0
 exact ⟨b,o,hA,Nat.lt_of_lt_of_le hlt hb.size,fun i x hx j u hu=>(hb.cell (p:=⟨b,_,none⟩) hlt).trans (hcs i x hx j u hu)⟩
theorem Rd.nil (e:Enc α) (w:World):Rd e w (.slice none 0 0) []:=⟨none,0,rfl,Nat.le_refl _,by omega,fun h=>absurd rfl h⟩
theorem Rd.form (h:Rd e w v l) {n:Nat} (hn:l.length = n):∃ A c,v = .slice A n c∧n≤c∧c≤9223372036854775807:=by
 subst hn
 obtain ⟨A,c,rfl,h1,h2,_⟩:=h
 exact ⟨A,c,rfl,h1,h2⟩
theorem Rd.at {A:Option Addr} {n c:Nat} (h:Rd e w (.slice A n c) l) {i:Nat} {x:α} (hx:l[i]? = some x):∃ b o,A = some ⟨b,o,none⟩∧b < w.heap.size∧∀ j u,(e.f x)[j]? = some u→w.cell? ⟨b,o + i * e.k + j,none⟩ = some u:=by
 obtain ⟨A',c',he,_,_,hne⟩:=h
 injection he with h1 h2 h3
 subst h1
 obtain ⟨b,o,hA,hlt,hcs⟩:=hne (fun q=>by
  rw [q] at hx
  simp at hx)
 exact ⟨b,o,hA,hlt,hcs i x hx⟩
end
end RowG
end Go.Proofs.YtpimkdaikoclnaaDoor
namespace Go.Proofs.YtpimkdaikoclnaaDoor
open Go.RowKit
set_option linter.unusedVariables false
set_option linter.unusedSimpArgs false
namespace HeldP
def CellsB (w W:World):List (Nat × Nat × Value)→Prop
 | []=>w.heap.size≤W.heap.size∧Below w.heap.size w W
 | (b,i,v) :: r=>(W.cell? ⟨b,i,none⟩ = some v∧b < W.heap.size)∧CellsB w W r
theorem CellsB.keep {w W W':World} (hb:Below W.heap.size W W'):∀ {l:List (Nat × Nat × Value)},CellsB w W l→CellsB w W' l
 | [],⟨hs,h⟩=>⟨Nat.le_trans hs hb.size,h.trans (hb.mono hs)⟩
 | (b,i,v) :: r,⟨⟨hc,hl⟩,h⟩=>⟨⟨(hb.cell (p:=⟨b,i,none⟩) hl).trans hc,Nat.lt_of_lt_of_le hl hb.size⟩,CellsB.keep hb h⟩
theorem CellsB.below {w W:World}:∀ {l:List (Nat × Nat × Value)},CellsB w W l→Below w.heap.size w W
 | [],h=>h.2
 | _ :: _,h=>CellsB.below h.2
theorem CellsB.alloc {w W:World} {l:List (Nat × Nat × Value)} (o:Obj) (h:CellsB w W l):CellsB w (W.alloc o) l:=h.keep ((Below.refl _ _).alloc (Nat.le_refl _) o)
theorem CellsB.drew {w W:World} {l:List (Nat × Nat × Value)} (h:CellsB w W l):CellsB w W.drew l:=h.keep (Below.refl _ _).drew
theorem CellsB.new {w W:World} {l:List (Nat × Nat × Value)} (vs:Array Value) (T:TypeId) (i:Nat) (v:Value) (hv:vs[i]? = some v) (h:CellsB w (W.alloc (.cells vs T)) l) :
  CellsB w (W.alloc (.cells vs T)) ((W.heap.size,i,v) :: l) :=
 ⟨⟨(World.cell?_alloc_new _ _ _ _).trans hv,by simp⟩,h⟩
theorem CellsB.one {w W:World} {l:List (Nat × Nat × Value)} {b i:Nat} {v:Value} (hc:W.cell? ⟨b,i,none⟩ = some v) (hl:b < W.heap.size) (h:CellsB w W l):CellsB w W ((b,i,v) :: l):=⟨⟨hc,hl⟩,h⟩
theorem CellsB.nil {w W:World} (hs:w.heap.size≤W.heap.size) (h:Below w.heap.size w W):CellsB w W []:=⟨hs,h⟩
section
variable {W:World} {a b:Addr} {u v:Value} {r:Option Value} {m:Option Bool} {k n:Nat}
theorem c_drew (h:W.cell? a = r):W.drew.cell? a = r:=h
theorem c_drewN (h:W.cell? a = r):(W.drewN n).cell? a = r:=h
theorem c_other (hne:a ≠ b) (h:W.cell? b = r):(W.setCell a v).cell? b = r:=(World.cell?_setCell_other _ _ _ _ hne).trans h
theorem c_same {k' i:Nat} (hk:k' = k) (h:∃ u,W.cell? ⟨k,i,none⟩ = some u):(W.setCell ⟨k',i,none⟩ v).cell? ⟨k,i,none⟩ = some v:=by
 subst hk
 obtain ⟨u,h⟩:=h
 exact World.cell?_setCell_same _ _ _ h
theorem e_drew (h:∃ u,W.cell? a = some u):∃ u,W.drew.cell? a = some u:=h
theorem e_drewN (h:∃ u,W.cell? a = some u):∃ u,(W.drewN n).cell? a = some u:=h
theorem e_set (h:∃ u,W.cell? b = some u):∃ u,(W.setCell a v).cell? b = some u:=by
 obtain ⟨u,h⟩:=h
 by_cases e:a = b
 ·subst e
  exact ⟨_,World.cell?_setCell_same _ _ _ h⟩
 ·exact ⟨u,(World.cell?_setCell_other _ _ _ _ e).trans h⟩
theorem e_alloc {o:Obj} (hl:a.block < W.heap.size) (h:∃ u,W.cell? a = some u):∃ u,(W.alloc o).cell? a = some u:=by
 obtain ⟨u,h⟩:=h
 exact ⟨u,(World.cell?_alloc_lt _ _ _ hl).trans h⟩
theorem e_new {c:Array Value} {t:TypeId} {i:Nat} (hb:k = W.heap.size) (h:∃ u,c[i]? = some u):∃ u,(W.alloc (.cells c t)).cell? ⟨k,i,none⟩ = some u:=by
 subst hb
 obtain ⟨u,h⟩:=h
 exact ⟨u,(World.cell?_alloc_new _ c t i).trans h⟩
theorem c_alloc {o:Obj} (hl:a.block < W.heap.size) (h:W.cell? a = r):(W.alloc o).cell? a = r:=(World.cell?_alloc_lt _ _ _ hl).trans h
theorem c_new {c:Array Value} {t:TypeId} {i:Nat} (hb:k = W.heap.size) (h:c[i]? = r):(W.alloc (.cells c t)).cell? ⟨k,i,none⟩ = r:=by
 subst hb
 exact (World.cell?_alloc_new _ c t i).trans h
theorem c_below {B:Nat} {W':World} (hb:Below B W W') (hl:a.block < B) (h:W.cell? a = r):W'.cell? a = r:=(hb.cell hl).trans h
theorem f_below {x:Bool} {B:Nat} {W':World} (hb:Below B W W') (hl:a.block < B) (h:W.frozen? a = x):W'.frozen? a = x:=(hb.frozen hl).trans h
theorem f_drew {x:Bool} (h:W.frozen? a = x):W.drew.frozen? a = x:=h
theorem f_drewN {x:Bool} (h:W.frozen? a = x):(W.drewN n).frozen? a = x:=h
theorem f_set {x:Bool} (h:W.frozen? b = x):(W.setCell a v).frozen? b = x:=(World.frozen?_setCell _ _ _ _).trans h
theorem f_alloc {x:Bool} {o:Obj} (hl:a.block < W.heap.size) (h:W.frozen? a = x):(W.alloc o).frozen? a = x:=(World.frozen?_alloc_old _ _ _ (Nat.ne_of_lt hl)).trans h
theorem f_new {c:Array Value} {t:TypeId} {i:Nat} (hb:k = W.heap.size):(W.alloc (.cells c t)).frozen? ⟨k,i,none⟩ = false:=by
 subst hb
 exact World.frozen?_alloc_new _ c t i
theorem s_drew (h:k < W.heap.size):k < W.drew.heap.size:=h
theorem s_drewN (h:k < W.heap.size):k < (W.drewN n).heap.size:=h
theorem s_set (h:k < W.heap.size):k < (W.setCell a v).heap.size:=by simpa [World.setCell] using h
theorem s_alloc {o:Obj} (h:k < W.heap.size):k < (W.alloc o).heap.size:=by simp; omega
theorem s_new {o:Obj} (h:k = W.heap.size):k < (W.alloc o).heap.size:=by simp; omega
end
theorem wp_named {P:Program} {c:Code} {Q:Exit→Act→World→Prop} {a:Act} {W:World} (S:World→Prop) (h:S W) (k:∀ W',S W'→c.wp P Q a W'):c.wp P Q a W:=k W h
end HeldP
end Go.Proofs.YtpimkdaikoclnaaDoor
namespace Go.Proofs.YtpimkdaikoclnaaDoor
open Go.RowKit
namespace BaseP
theorem bcell {W w1:World} (hb:Below W.heap.size W w1):(∀ b o,b < W.heap.size→w1.cell? ⟨b,o,none⟩ = W.cell? ⟨b,o,none⟩)∧(∀ b o,b < W.heap.size→w1.frozen? ⟨b,o,none⟩ = W.frozen? ⟨b,o,none⟩) :=
 ⟨fun b o h=>hb.cell (p:=⟨b,o,none⟩) h,fun b o h=>hb.frozen (p:=⟨b,o,none⟩) h⟩
theorem below_drewN {B:Nat} {a w:World} (h:Below B a w) (n:Nat):Below B a (w.drewN n):=⟨h.os,h.tape,h.output,h.size,h.block⟩
theorem p2 {α β:Type} {a a':α} {b b':β} (h:(a,b) = (a',b')):a = a'∧b = b':=by simpa using h
theorem p3 {α β γ:Type} {a a':α} {b b':β} {c c':γ} (h:(a,b,c) = (a',b',c')):a = a'∧b = b'∧c = c':=by simpa using h
theorem p4 {α β γ δ:Type} {a a':α} {b b':β} {c c':γ} {d d':δ} (h:(a,b,c,d) = (a',b',c',d')):a = a'∧b = b'∧c = c'∧d = d':=by simpa using h
end BaseP
end Go.Proofs.YtpimkdaikoclnaaDoor
namespace Go.Proofs.YtpimkdaikoclnaaDoor
open Go.RowKit
namespace HeldP
theorem then_named {K:Act→World→Prop} {Q:Exit→Act→World→Prop} {a:Act} {W:World} (S:World→Prop) (h:S W) (k:∀ W',S W'→Exit.then K Q .normal a W'):Exit.then K Q .normal a W:=k W h
end HeldP
end Go.Proofs.YtpimkdaikoclnaaDoor
namespace Go.Proofs.YtpimkdaikoclnaaDoor
set_option linter.unusedVariables false
set_option linter.unusedSimpArgs false
namespace GlowP
def inL (side:Nat→List Nat) (L:Nat→Nat) (i:Nat):Nat:=(side i).foldl (fun a s=>max a (L s - 1)) 0
theorem fold_le {L:Nat→Nat}:∀ (l:List Nat) (a v:Nat),l.foldl (fun a s=>max a (L s - 1)) a≤v↔a≤v∧∀ s ∈ l,L s - 1≤v
 | [],a,v=>by simp
 | x :: r,a,v=>by
  rw [List.foldl_cons,fold_le r]
  constructor
  ·rintro ⟨h1,h2⟩
   refine ⟨by omega,fun s hs=>?_⟩
   rcases List.mem_cons.1 hs with rfl | hs
   ·omega
   ·exact h2 s hs
  ·rintro ⟨h1,h2⟩
   have:=h2 x (by simp)
   exact ⟨by omega,fun s hs=>h2 s (by simp [hs])⟩
theorem in_le {side:Nat→List Nat} {L:Nat→Nat} {i v:Nat}:inL side L i≤v↔∀ s ∈ side i,L s - 1≤v:=by
 rw [inL,fold_le]
 simp
theorem in_ge {side:Nat→List Nat} {L:Nat→Nat} {i s:Nat} (h:s ∈ side i):L s - 1≤inL side L i:=in_le.1 (Nat.le_refl _) s h
theorem in_some {side:Nat→List Nat} {L:Nat→Nat} {i v:Nat} (hv:0 < v) (h:v≤inL side L i):∃ s ∈ side i,v + 1≤L s:=by
 apply Classical.byContradiction
 intro hn
 have:inL side L i≤v - 1:=in_le.2 fun s hs=>by
  have:¬ v + 1≤L s:=fun q=>hn ⟨s,hs,q⟩
  omega
 omega
section
variable {side:Nat→List Nat} {cl cl':Nat→Bool} {own own' L M:Nat→Nat} {K:Nat}
def Sub (side:Nat→List Nat) (cl:Nat→Bool) (own M:Nat→Nat):Prop:=∀ i,M i≤if cl i = true then max (own i) (inL side M i) else 0
def Super (side:Nat→List Nat) (cl:Nat→Bool) (own L:Nat→Nat):Prop:=∀ i,cl i = true→max (own i) (inL side L i)≤L i
def Sol (side:Nat→List Nat) (cl:Nat→Bool) (own L:Nat→Nat):Prop:=∀ i,L i = if cl i = true then max (own i) (inL side L i) else 0
theorem Sol.sub (h:Sol side cl own L):Sub side cl own L:=fun i=>Nat.le_of_eq (h i)
theorem Sol.super (h:Sol side cl own L):Super side cl own L:=fun i hi=>by
 have:=h i
 rw [if_pos hi] at this
 omega
theorem near (hL:Sol side cl own L) {i s:Nat} (hi:cl i = true) (hs:s ∈ side i):L s≤L i + 1:=by
 have h1:=hL.super i hi
 have h2:=in_ge (L:=L) hs
 omega
def round (side:Nat→List Nat) (cl:Nat→Bool) (own l:Nat→Nat):Nat→Nat:=fun i=>if cl i = true then max (own i) (inL side l i) else 0
def rounds (side:Nat→List Nat) (cl:Nat→Bool) (own:Nat→Nat):Nat→Nat→Nat
 | 0=>own
 | k + 1=>round side cl own (rounds side cl own k)
theorem in_mono (h:∀ i,L i≤M i) (i:Nat):inL side L i≤inL side M i:=in_le.2 fun s hs=>by
 have h1:=h s
 have h2:=in_ge (L:=M) hs
 omega
theorem rounds_up (h0:∀ i,cl i = false→own i = 0):∀ k i,rounds side cl own k i≤rounds side cl own (k + 1) i
 | 0,i=>by
  show own i≤round side cl own own i
  unfold round
  cases hc:cl i with
  | true=>simp only [if_true]; omega
  | false=>simp [h0 i hc]
 | k + 1,i=>by
  show round side cl own (rounds side cl own k) i≤round side cl own (rounds side cl own (k + 1)) i
  unfold round
  have:=in_mono (side:=side) (rounds_up h0 k) i
  split <;> omega
theorem rounds_dark (hB:∀ i,own i≤K):∀ k i,rounds side cl own (k + 1) i ≠ rounds side cl own k i→(∀ i,cl i = false→own i = 0)→rounds side cl own (k + 1) i + (k + 1)≤K
 | 0,i,h,h0=>by
  have hup:=rounds_up (side:=side) h0 0 i
  have hne:own i < rounds side cl own 1 i:=Nat.lt_of_le_of_ne hup (fun e=>h e.symm)
  have e:rounds side cl own 1 i = if cl i = true then max (own i) (inL side own i) else 0:=rfl
  rw [e] at hne ⊢
  split at hne
  ·rename_i hc
   rw [if_pos hc]
   obtain ⟨s,hs,hs2⟩:=in_some (side:=side) (L:=own) (i:=i) (v:=inL side own i) (by omega) (Nat.le_refl _)
   have:=hB s
   omega
  ·omega
 | k + 1,i,h,h0=>by
  have hup:=rounds_up (side:=side) h0 (k + 1) i
  have hne:rounds side cl own (k + 1) i < rounds side cl own (k + 1 + 1) i:=Nat.lt_of_le_of_ne hup (fun e=>h e.symm)
  have e2:rounds side cl own (k + 1 + 1) i = if cl i = true then max (own i) (inL side (rounds side cl own (k + 1)) i) else 0:=rfl
  have e1:rounds side cl own (k + 1) i = if cl i = true then max (own i) (inL side (rounds side cl own k) i) else 0:=rfl
  rw [e2] at hne ⊢
  rw [e1] at hne
  split at hne
  ·rename_i hc
   rw [if_pos hc]
   obtain ⟨s,hs,hs2⟩:=in_some (side:=side) (L:=rounds side cl own (k + 1)) (i:=i) (v:=inL side (rounds side cl own (k + 1)) i) (by omega) (Nat.le_refl _)
   have hse:rounds side cl own (k + 1) s ≠ rounds side cl own k s:=fun e=>by
    have:=in_ge (L:=rounds side cl own k) hs
    omega
   have:=rounds_dark hB k s hse h0
   omega
  ·omega
theorem rounds_sol (hB:∀ i,own i≤K) (h0:∀ i,cl i = false→own i = 0):Sol side cl own (rounds side cl own K):=by
 intro i
 have e:rounds side cl own (K + 1) i = rounds side cl own K i:=by
  apply Classical.byContradiction
  intro h
  have:=rounds_dark hB K i h h0
  omega
 exact e.symm
theorem rounds_le (hB:∀ i,own i≤K):∀ k i,rounds side cl own k i≤K
 | 0,i=>hB i
 | k + 1,i=>by
  show round side cl own (rounds side cl own k) i≤K
  unfold round
  have h1:=hB i
  have h2:inL side (rounds side cl own k) i≤K:=in_le.2 fun s _=>by have:=rounds_le hB k s; omega
  split <;> omega
end
def at_ (X Z x z y:Nat):Nat:=(y * Z + z) * X + x
theorem at_lt {X Y Z x z y:Nat} (hx:x < X) (hz:z < Z) (hy:y < Y):at_ X Z x z y < X * Y * Z:=by
 have h1:y * Z + z < Y * Z:=by
  have:y * Z + Z≤Y * Z:=by rw [← Nat.succ_mul]; exact Nat.mul_le_mul_right _ hy
  omega
 have h2:(y * Z + z) * X + X≤(Y * Z) * X:=by rw [← Nat.succ_mul]; exact Nat.mul_le_mul_right _ h1
 have e:X * Y * Z = (Y * Z) * X:=by ac_rfl
 unfold at_
 omega
theorem at_x {X Z x z y:Nat} (hx:x < X):at_ X Z x z y % X = x:=by
 unfold at_
 rw [Nat.mul_comm,Nat.mul_add_mod,Nat.mod_eq_of_lt hx]
theorem at_q {X Z x z y:Nat} (hx:x < X):at_ X Z x z y / X = y * Z + z:=by
 unfold at_
 rw [Nat.mul_comm,Nat.mul_add_div (by omega),Nat.div_eq_of_lt hx,Nat.add_zero]
theorem at_z {X Z x z y:Nat} (hx:x < X) (hz:z < Z):at_ X Z x z y / X % Z = z:=by rw [at_q hx,Nat.mul_comm,Nat.mul_add_mod,Nat.mod_eq_of_lt hz]
theorem at_y {X Z x z y:Nat} (hx:x < X) (hz:z < Z):at_ X Z x z y / X / Z = y:=by rw [at_q hx,Nat.mul_comm,Nat.mul_add_div (by omega),Nat.div_eq_of_lt hz,Nat.add_zero]
theorem at_self {X Z i:Nat}:at_ X Z (i % X) (i / X % Z) (i / X / Z) = i:=by
 unfold at_
 rw [Nat.mul_comm (i / X / Z) Z,Nat.div_add_mod,Nat.mul_comm,Nat.div_add_mod]
theorem at_box {X Y Z i:Nat} (h:i < X * Y * Z):i % X < X∧i / X % Z < Z∧i / X / Z < Y:=by
 have hX:0 < X:=Nat.pos_of_ne_zero fun e=>by subst e; simp at h
 have hZ:0 < Z:=Nat.pos_of_ne_zero fun e=>by subst e; simp at h
 refine ⟨Nat.mod_lt _ hX,Nat.mod_lt _ hZ,?_⟩
 rw [Nat.div_div_eq_div_mul]
 refine Nat.div_lt_of_lt_mul ?_
 rw [show X * Z * Y = X * Y * Z by ac_rfl]
 exact h
def sides (X Y Z i:Nat):List Nat :=
 (if 0 < i % X then [i - 1] else []) ++ ((if i % X + 1 < X then [i + 1] else []) ++ ((if 0 < i / X % Z then [i - X] else []) ++ ((if i / X % Z + 1 < Z then [i + X] else []) ++ ((if 0 < i / X / Z then [i - X * Z] else []) ++ (if i / X / Z + 1 < Y then [i + X * Z] else [])))))
theorem sides_at {X Y Z x z y:Nat} (hx:x < X) (hz:z < Z) (hy:y < Y):sides X Y Z (at_ X Z x z y) =
  (if 0 < x then [at_ X Z (x - 1) z y] else []) ++ ((if x + 1 < X then [at_ X Z (x + 1) z y] else []) ++ ((if 0 < z then [at_ X Z x (z - 1) y] else []) ++ ((if z + 1 < Z then [at_ X Z x (z + 1) y] else []) ++ ((if 0 < y then [at_ X Z x z (y - 1)] else []) ++ (if y + 1 < Y then [at_ X Z x z (y + 1)] else []))))):=by
 unfold sides
 rw [at_x hx,at_z hx hz,at_y hx hz]
 have e1:0 < x→at_ X Z x z y - 1 = at_ X Z (x - 1) z y:=fun h=>by unfold at_; omega
 have e2:at_ X Z x z y + 1 = at_ X Z (x + 1) z y:=by unfold at_; omega
 have e3:0 < z→at_ X Z x z y - X = at_ X Z x (z - 1) y:=fun h=>by
  unfold at_
  obtain ⟨u,rfl⟩:∃ u,z = u + 1:=⟨z - 1,by omega⟩
  rw [show u + 1 - 1 = u from rfl,show y * Z + (u + 1) = (y * Z + u) + 1 by omega,Nat.succ_mul]
  omega
 have e4:at_ X Z x z y + X = at_ X Z x (z + 1) y:=by
  unfold at_
  rw [show y * Z + (z + 1) = (y * Z + z) + 1 by omega,Nat.succ_mul]
  omega
 have e5:0 < y→at_ X Z x z y - X * Z = at_ X Z x z (y - 1):=fun h=>by
  unfold at_
  obtain ⟨u,rfl⟩:∃ u,y = u + 1:=⟨y - 1,by omega⟩
  rw [show u + 1 - 1 = u from rfl,show (u + 1) * Z + z = (u * Z + z) + Z by rw [Nat.succ_mul]; omega,Nat.add_mul,Nat.mul_comm X Z]
  omega
 have e6:at_ X Z x z y + X * Z = at_ X Z x z (y + 1):=by
  unfold at_
  rw [show (y + 1) * Z + z = (y * Z + z) + Z by rw [Nat.succ_mul]; omega,Nat.add_mul (y * Z + z) Z X,Nat.mul_comm X Z]
  omega
 rw [e2,e4,e6]
 by_cases hx0:0 < x <;> by_cases hz0:0 < z <;> by_cases hy0:0 < y <;> simp only [hx0,hz0,hy0,if_true,if_false,e1,e3,e5]
theorem sides_lt {X Y Z i s:Nat} (h:i < X * Y * Z) (hs:s ∈ sides X Y Z i):s < X * Y * Z:=by
 obtain ⟨hx,hz,hy⟩:=at_box h
 rw [← at_self (X:=X) (Z:=Z) (i:=i),sides_at hx hz hy] at hs
 simp only [List.mem_append] at hs
 rcases hs with hs | hs | hs | hs | hs | hs <;> split at hs <;> simp only [List.mem_cons,List.not_mem_nil,or_false] at hs <;> subst hs <;> exact at_lt (by omega) (by omega) (by omega)
end GlowP
end Go.Proofs.YtpimkdaikoclnaaDoor
namespace Go.Proofs.YtpimkdaikoclnaaDoor
set_option linter.unusedVariables false
set_option linter.unusedSimpArgs false
namespace GlowP
def skyO (S N:Nat) (cl:Nat→Bool) (i:Nat):Nat:=if (cl i && (List.range N).all fun k=>decide (N≤i + k * S) || cl (i + k * S)) = true then 15 else 0
theorem sky_iff {S N:Nat} {cl:Nat→Bool} {i:Nat} (hS:0 < S):(cl i && (List.range N).all fun k=>decide (N≤i + k * S) || cl (i + k * S)) = true↔cl i = true∧∀ k,i + k * S < N→cl (i + k * S) = true:=by
 rw [Bool.and_eq_true,List.all_eq_true]
 refine and_congr_right fun _=>⟨fun h k hk=>?_,fun h k hk=>?_⟩
 ·have hkN:k < N:=by
   have:k * 1≤k * S:=Nat.mul_le_mul_left k hS
   omega
  have:=h k (List.mem_range.2 hkN)
  simp only [Bool.or_eq_true,decide_eq_true_eq] at this
  rcases this with h' | h'
  ·omega
  ·exact h'
 ·simp only [Bool.or_eq_true,decide_eq_true_eq]
  by_cases hlt:N≤i + k * S
  ·exact .inl hlt
  ·exact .inr (h k (by omega))
theorem sky_le (S N:Nat) (cl:Nat→Bool) (i:Nat):skyO S N cl i≤15:=by
 unfold skyO
 split <;> omega
theorem sky_clear {S N:Nat} {cl:Nat→Bool} {i:Nat} (h:cl i = false):skyO S N cl i = 0:=by
 unfold skyO
 rw [h]
 rfl
def gap (a b:Nat):Nat:=max a b - min a b
def far (X Z k i:Nat):Nat:=gap (i % X) (k % X) + (gap (i / X % Z) (k / X % Z) + gap (i / X / Z) (k / X / Z))
end GlowP
end Go.Proofs.YtpimkdaikoclnaaDoor
namespace Go.Proofs.YtpimkdaikoclnaaDoor
set_option linter.unusedVariables false
set_option linter.unusedSimpArgs false
namespace GlowP
theorem mem_sides {X Y Z x z y s:Nat} (hx:x < X) (hz:z < Z) (hy:y < Y):s ∈ sides X Y Z (at_ X Z x z y) ↔
  (0 < x∧s = at_ X Z (x - 1) z y) ∨ (x + 1 < X∧s = at_ X Z (x + 1) z y) ∨ (0 < z∧s = at_ X Z x (z - 1) y) ∨ (z + 1 < Z∧s = at_ X Z x (z + 1) y) ∨ (0 < y∧s = at_ X Z x z (y - 1)) ∨ (y + 1 < Y∧s = at_ X Z x z (y + 1)):=by
 rw [sides_at hx hz hy]
 simp only [List.mem_append]
 have one:∀ (p:Prop) [Decidable p] (v:Nat),s ∈ (if p then [v] else [])↔p∧s = v:=fun p _ v=>by
  by_cases h:p
  ·simp [h]
  ·simp [h]
 rw [one,one,one,one,one,one]
theorem at_up {X Z x z y k:Nat}:at_ X Z x z y + k * (X * Z) = at_ X Z x z (y + k):=by
 unfold at_
 rw [Nat.add_mul y k Z,show y * Z + k * Z + z = (y * Z + z) + k * Z by omega,Nat.add_mul (y * Z + z) (k * Z) X,Nat.mul_assoc k Z X,Nat.mul_comm Z X]
 omega
theorem at_up_lt {X Y Z x z y:Nat} (hx:x < X) (hz:z < Z):at_ X Z x z y < X * Y * Z↔y < Y:=by
 constructor
 ·intro h
  have:=(at_box h).2.2
  rwa [at_y hx hz] at this
 ·exact at_lt hx hz
end GlowP
end Go.Proofs.YtpimkdaikoclnaaDoor
namespace Go.Proofs.YtpimkdaikoclnaaDoor
open Go.RowKit
set_option linter.unusedVariables false
set_option linter.unusedSimpArgs false
namespace GlowW
open BlkP RowG
def u8v (n:Nat):Value:=.int .u8 (n:Int)
def i64v (n:Nat):Value:=.int .i64 (n:Int)
def enc2:Enc (Nat × Nat):=⟨fun c=>[u8v c.1,u8v c.2],2,fun _=>rfl,fun x v h=>by
 simp only [List.mem_cons,List.not_mem_nil,or_false] at h
 rcases h with rfl | rfl <;> rfl⟩
theorem Blk.ne {w:World} {b c:Nat} {T U:TypeId} {vs us:List Value} (h:Blk w b T vs) (k:Blk w c U us) (hTU:T ≠ U):b ≠ c:=fun e=>by
 subst e
 unfold Blk at h k
 rw [h] at k
 injection k with k
 injection k with _ k
 exact hTU k
theorem Blk.inj {w:World} {b:Nat} {T U:TypeId} {vs us:List Value} (h:Blk w b T vs) (k:Blk w b U us):vs = us:=by
 unfold Blk at h k
 rw [h] at k
 injection k with k
 injection k with k _
 simpa using k
theorem at_slot (t:Tmp) {P:Program} {w:World} {ops:Array Oper} {rest:List Oper} {a:Act} {Q:Exit→Act→World→Prop} {op:Op} {ty:TypeId} {pos:String} {af:_} {g:_} (h:wpList P ops Q ((⟨some t,op,ty,pos,af,g⟩:Oper) :: rest) a w):wpList P ops Q ((⟨some t,op,ty,pos,af,g⟩:Oper) :: rest) a w:=h
theorem list_named {P:Program} {ops:Array Oper} {rest:List Oper} {Q:Exit→Act→World→Prop} {a:Act} {W:World} (S:World→Prop) (h:S W) (k:∀ W',S W'→wpList P ops Q rest a W'):wpList P ops Q rest a W:=k W h
def fillV (f:List Value) (z:Value) (j:Nat):List Value:=f.take j ++ List.replicate (f.length - j) z
theorem fillV_zero (f:List Value) (z:Value):fillV f z 0 = List.replicate f.length z:=by simp [fillV]
theorem fillV_all {f:List Value} {z:Value} {j:Nat} (h:f.length≤j):fillV f z j = f:=by
 unfold fillV
 rw [List.take_of_length_le h,show f.length - j = 0 by omega]
 simp
theorem fillV_len {f:List Value} {z:Value} {j:Nat} (h:j≤f.length):(fillV f z j).length = f.length:=by simp [fillV]; omega
theorem fillV_get {f:List Value} {z:Value} {j:Nat} (h:j < f.length):(fillV f z j)[j]? = some z:=by
 unfold fillV
 rw [List.getElem?_append_right (by simp; omega),List.getElem?_replicate,if_pos (by simp; omega)]
theorem fillV_set {f:List Value} {z v:Value} {j:Nat} (h:f[j]? = some v):(fillV f z j).set j v = fillV f z (j + 1):=by
 have hj:=(List.getElem?_eq_some_iff.1 h).1
 unfold fillV
 rw [List.take_add_one,h,List.set_append_right _ _ (by simp; omega),List.length_take,Nat.min_eq_left (by omega),Nat.sub_self,show f.length - j = (f.length - (j + 1)) + 1 by omega,List.replicate_succ,List.set_cons_zero]
 simp
theorem madeB (z:Value) (n:Nat):madeCells #[z] n = (List.replicate n z).toArray:=by
 apply Array.ext'
 rw [toList_madeCells_one]
section
variable {w w':World} {B kb:Nat} {vs:List Value} {kn:Nat→List Nat}
end
end GlowW
end Go.Proofs.YtpimkdaikoclnaaDoor
namespace Go.Proofs.YtpimkdaikoclnaaDoor
open Go.RowKit
namespace KindW
open KindP
theorem k_may_b {k l:Nat} {b:Bool} (h:may k l = b) (w:World) (hT:Tab w) :
  Calls Tryd.prog 49 #[.agg #[.int .u8 k,.int .u8 l]] w fun e w'=>e = .returned (.bool b)∧Below w.heap.size w w':=by
 have:=k_may k l w hT
 rw [h] at this
 exact this
theorem r_may_b {k l:Nat} {b:Bool} (h:may k l = b) (w:World) :
  Calls Tryd.prog 23 #[.agg #[.int .u8 k,.int .u8 l]] w fun e w'=>e = .returned (.bool b)∧Below w.heap.size w w':=by
 have:=r_may k l w
 rw [h] at this
 exact this
set_option maxHeartbeats 400000 in
theorem k_lamp (k l:Nat) (w:World) (hT:Tab w) :
  Calls Tryd.prog 42 #[.agg #[.int .u8 k,.int .u8 l]] w fun e w'=>e = .returned (.int .u8 (KindP.lamp k l))∧Below w.heap.size w w':=by
 have hT1:=hT.below ((Below.refl _ w).alloc (Nat.le_refl _) (.cells #[.int .u8 k,.int .u8 l] 33))
 have HT1:=Lib.hid hT1
 clear hT hT1
 by_cases hm:may k l = true
 ·by_cases h11:k = 11
  ·subst h11
   have e:Hid (KindP.lamp 11 l = l):=Lib.hid (by simp [KindP.lamp,hm])
   have HM:Hid (may 11 l = true):=Lib.hid hm
   clear hm
   go_enter Tryd.func42,Tryd.ntmps42
   go_wp2_with fail
   refine (k_may_b HM.out _ HT1.out).mono ?_
   rintro e1 w1 ⟨rfl,hb⟩
   have hc:w1.cell? ⟨w.heap.size,0,none⟩ = some (.int .u8 11):=by rw [hb.cell (by simp)]; simp
   have hc1:w1.cell? ⟨w.heap.size,1,none⟩ = some (.int .u8 l):=by rw [hb.cell (by simp)]; simp
   have HB:=Lib.hid hb
   clear hb
   go_wp2
   go_ret
   exact ⟨by rw [e.out]; rfl,((Below.refl _ _).alloc (Nat.le_refl _) _).trans (HB.out.mono (by simp))⟩
  by_cases h14:k = 14
  ·subst h14
   have e:Hid (KindP.lamp 14 l = 10):=Lib.hid (by simp [KindP.lamp,hm])
   have HM:Hid (may 14 l = true):=Lib.hid hm
   clear hm
   go_enter Tryd.func42,Tryd.ntmps42
   go_wp2_with fail
   refine (k_may_b HM.out _ HT1.out).mono ?_
   rintro e1 w1 ⟨rfl,hb⟩
   have hc:w1.cell? ⟨w.heap.size,0,none⟩ = some (.int .u8 14):=by rw [hb.cell (by simp)]; simp
   have hc1:w1.cell? ⟨w.heap.size,1,none⟩ = some (.int .u8 l):=by rw [hb.cell (by simp)]; simp
   have HB:=Lib.hid hb
   clear hb
   go_wp2
   go_ret
   exact ⟨by rw [e.out]; rfl,((Below.refl _ _).alloc (Nat.le_refl _) _).trans (HB.out.mono (by simp))⟩
  have e11:((k:Int) == 11) = false:=by simp; omega
  have e14:((k:Int) == 14) = false:=by simp; omega
  have e:Hid (KindP.lamp k l = 0):=Lib.hid (by simp [KindP.lamp,hm,h11,h14])
  have HM:Hid (may k l = true):=Lib.hid hm
  clear hm
  go_enter Tryd.func42,Tryd.ntmps42
  go_wp2_with fail
  refine (k_may_b HM.out _ HT1.out).mono ?_
  rintro e1 w1 ⟨rfl,hb⟩
  have hc:w1.cell? ⟨w.heap.size,0,none⟩ = some (.int .u8 k):=by rw [hb.cell (by simp)]; simp
  have hc1:w1.cell? ⟨w.heap.size,1,none⟩ = some (.int .u8 l):=by rw [hb.cell (by simp)]; simp
  have HB:=Lib.hid hb
  clear hb
  go_wp2
  go_ret
  exact ⟨by rw [e.out]; rfl,((Below.refl _ _).alloc (Nat.le_refl _) _).trans (HB.out.mono (by simp))⟩
 ·have hm:may k l = false:=by simpa using hm
  have e:Hid (KindP.lamp k l = 0):=Lib.hid (by simp [KindP.lamp,hm])
  have HM:Hid (may k l = false):=Lib.hid hm
  clear hm
  go_enter Tryd.func42,Tryd.ntmps42
  go_wp2_with fail
  refine (k_may_b HM.out _ HT1.out).mono ?_
  rintro e1 w1 ⟨rfl,hb⟩
  have hc:w1.cell? ⟨w.heap.size,0,none⟩ = some (.int .u8 k):=by rw [hb.cell (by simp)]; simp
  have hc1:w1.cell? ⟨w.heap.size,1,none⟩ = some (.int .u8 l):=by rw [hb.cell (by simp)]; simp
  have HB:=Lib.hid hb
  clear hb
  go_wp2
  go_ret
  exact ⟨by rw [e.out]; rfl,((Below.refl _ _).alloc (Nat.le_refl _) _).trans (HB.out.mono (by simp))⟩
set_option maxHeartbeats 400000 in
theorem r_lamp (k l:Nat) (w:World) :
  Calls Tryd.prog 47 #[.agg #[.int .u8 k,.int .u8 l]] w fun e w'=>e = .returned (.int .u8 (KindP.lamp k l))∧Below w.heap.size w w':=by
 by_cases hm:may k l = true
 ·by_cases h11:k = 11
  ·subst h11
   have e:Hid (KindP.lamp 11 l = l):=Lib.hid (by simp [KindP.lamp,hm])
   have HM:Hid (may 11 l = true):=Lib.hid hm
   clear hm
   go_enter Tryd.func47,Tryd.ntmps47
   go_wp2_with fail
   refine (r_may_b HM.out _).mono ?_
   rintro e1 w1 ⟨rfl,hb⟩
   have hc:w1.cell? ⟨w.heap.size,0,none⟩ = some (.int .u8 11):=by rw [hb.cell (by simp)]; simp
   have hc1:w1.cell? ⟨w.heap.size,1,none⟩ = some (.int .u8 l):=by rw [hb.cell (by simp)]; simp
   have hs:w.heap.size < w1.heap.size:=by have:=hb.size; simp at this; omega
   have HB:=Lib.hid hb
   clear hb
   go_wp2
   go_ret
   exact ⟨by rw [e.out]; rfl,((Below.refl _ _).alloc (Nat.le_refl _) _).trans (HB.out.mono (by simp))⟩
  by_cases h14:k = 14
  ·subst h14
   have e:Hid (KindP.lamp 14 l = 10):=Lib.hid (by simp [KindP.lamp,hm])
   have HM:Hid (may 14 l = true):=Lib.hid hm
   clear hm
   go_enter Tryd.func47,Tryd.ntmps47
   go_wp2_with fail
   refine (r_may_b HM.out _).mono ?_
   rintro e1 w1 ⟨rfl,hb⟩
   have hc:w1.cell? ⟨w.heap.size,0,none⟩ = some (.int .u8 14):=by rw [hb.cell (by simp)]; simp
   have hc1:w1.cell? ⟨w.heap.size,1,none⟩ = some (.int .u8 l):=by rw [hb.cell (by simp)]; simp
   have hs:w.heap.size < w1.heap.size:=by have:=hb.size; simp at this; omega
   have HB:=Lib.hid hb
   clear hb
   go_wp2_with fail
   refine (r_may_b HM.out _).mono ?_
   rintro e2 w2 ⟨rfl,hb2⟩
   have hd:w2.cell? ⟨w.heap.size,0,none⟩ = some (.int .u8 14):=by rw [hb2.cell hs]; exact hc
   have HB2:=Lib.hid (HB.out.trans (hb2.mono HB.out.size))
   clear hb2
   go_wp2
   go_ret
   exact ⟨by rw [e.out]; rfl,((Below.refl _ _).alloc (Nat.le_refl _) _).trans (HB2.out.mono (by simp))⟩
  have e11:((k:Int) == 11) = false:=by simp; omega
  have e14:((k:Int) == 14) = false:=by simp; omega
  have e:Hid (KindP.lamp k l = 0):=Lib.hid (by simp [KindP.lamp,hm,h11,h14])
  have HM:Hid (may k l = true):=Lib.hid hm
  clear hm
  go_enter Tryd.func47,Tryd.ntmps47
  go_wp2_with fail
  refine (r_may_b HM.out _).mono ?_
  rintro e1 w1 ⟨rfl,hb⟩
  have hc:w1.cell? ⟨w.heap.size,0,none⟩ = some (.int .u8 k):=by rw [hb.cell (by simp)]; simp
  have hc1:w1.cell? ⟨w.heap.size,1,none⟩ = some (.int .u8 l):=by rw [hb.cell (by simp)]; simp
  have hs:w.heap.size < w1.heap.size:=by have:=hb.size; simp at this; omega
  have HB:=Lib.hid hb
  clear hb
  go_wp2_with fail
  refine (r_may_b HM.out _).mono ?_
  rintro e2 w2 ⟨rfl,hb2⟩
  have hd:w2.cell? ⟨w.heap.size,0,none⟩ = some (.int .u8 k):=by rw [hb2.cell hs]; exact hc
  have HB2:=Lib.hid (HB.out.trans (hb2.mono HB.out.size))
  clear hb2
  go_wp2
  go_ret
  exact ⟨by rw [e.out]; rfl,((Below.refl _ _).alloc (Nat.le_refl _) _).trans (HB2.out.mono (by simp))⟩
 ·have hm:may k l = false:=by simpa using hm
  have e:Hid (KindP.lamp k l = 0):=Lib.hid (by simp [KindP.lamp,hm])
  have HM:Hid (may k l = false):=Lib.hid hm
  clear hm
  go_enter Tryd.func47,Tryd.ntmps47
  go_wp2_with fail
  refine (r_may_b HM.out _).mono ?_
  rintro e1 w1 ⟨rfl,hb⟩
  have hc:w1.cell? ⟨w.heap.size,0,none⟩ = some (.int .u8 k):=by rw [hb.cell (by simp)]; simp
  have hc1:w1.cell? ⟨w.heap.size,1,none⟩ = some (.int .u8 l):=by rw [hb.cell (by simp)]; simp
  have hs:w.heap.size < w1.heap.size:=by have:=hb.size; simp at this; omega
  have HB:=Lib.hid hb
  clear hb
  go_wp2_with fail
  refine (r_may_b HM.out _).mono ?_
  rintro e2 w2 ⟨rfl,hb2⟩
  have hd:w2.cell? ⟨w.heap.size,0,none⟩ = some (.int .u8 k):=by rw [hb2.cell hs]; exact hc
  have HB2:=Lib.hid (HB.out.trans (hb2.mono HB.out.size))
  clear hb2
  go_wp2
  go_ret
  exact ⟨by rw [e.out]; rfl,((Below.refl _ _).alloc (Nat.le_refl _) _).trans (HB2.out.mono (by simp))⟩
end KindW
end Go.Proofs.YtpimkdaikoclnaaDoor
namespace Go.Proofs.YtpimkdaikoclnaaDoor
open Go.RowKit
namespace BitsP
theorem ofInt_toNat (n:Int):((BitVec.ofInt 64 n).toNat:Int) = n % 18446744073709551616:=by
 rw [BitVec.toNat_ofInt]
 omega
theorem ofInt_nat (n:Nat) (h:n < 18446744073709551616):(BitVec.ofInt 64 (n:Int)).toNat = n:=by
 rw [BitVec.ofInt_natCast,BitVec.toNat_ofNat]
 exact Nat.mod_eq_of_lt (by omega)
theorem wrapI_small {n:Int} (h:-9223372036854775808≤n) (h':n≤9223372036854775807):IntKind.i64.wrap n = n:=by
 rw [IntKind.wrap_i64]
 omega
theorem and_mask (n:Int) (k:Nat) (hk:k < 63):bits .and .i64 n (((2 ^ k - 1:Nat)):Int) = n % ((2 ^ k:Nat):Int):=by
 have hp:2 ^ k≤2 ^ 62:=Nat.pow_le_pow_right (by omega) (by omega)
 have hp1:0 < 2 ^ k:=Nat.two_pow_pos k
 show IntKind.i64.wrap ((BitVec.ofInt 64 n &&& BitVec.ofInt 64 (((2 ^ k - 1:Nat)):Int)).toNat:Int) = _
 rw [BitVec.toNat_and,ofInt_nat _ (by omega),Nat.and_two_pow_sub_one_eq_mod,Int.natCast_emod,ofInt_toNat]
 have hd:((2 ^ k:Nat):Int) ∣ 18446744073709551616:=⟨((2 ^ (64 - k):Nat):Int),by
  rw [← Int.natCast_mul,← Nat.pow_add,show k + (64 - k) = 64 by omega]
  rfl⟩
 rw [Int.emod_emod_of_dvd n hd]
 have h0:=Int.emod_nonneg n (b:=((2 ^ k:Nat):Int)) (by omega)
 have h1:=Int.emod_lt_of_pos n (b:=((2 ^ k:Nat):Int)) (by omega)
 exact wrapI_small (by omega) (by omega)
end BitsP
end Go.Proofs.YtpimkdaikoclnaaDoor
namespace Go.Proofs.YtpimkdaikoclnaaDoor
open Go.RowKit
set_option linter.unusedVariables false
set_option linter.unusedSimpArgs false
namespace GlowW
open BlkP RowG
end GlowW
end Go.Proofs.YtpimkdaikoclnaaDoor
namespace Go.Proofs.YtpimkdaikoclnaaDoor
open Go.RowKit
set_option linter.unusedVariables false
set_option linter.unusedSimpArgs false
namespace GlowW
open BlkP RowG KindP KindW
def openA (c:Nat × Nat):Bool:=may c.1 c.2 && clear c.1
def lampA (c:Nat × Nat):Nat:=lamp c.1 c.2
theorem rd2 {w:World} {A:Option Addr} {n c:Nat} {l:List (Nat × Nat)} (h:Rd enc2 w (.slice A n c) l) {i:Nat} {x y:Nat} (hx:l[i]? = some (x,y)):∃ b o,A = some ⟨b,o,none⟩∧b < w.heap.size∧w.cell? ⟨b,o + i * 2,none⟩ = some (.int .u8 x)∧w.cell? ⟨b,o + i * 2 + 1,none⟩ = some (.int .u8 y):=by
 obtain ⟨b,o,hA,hl,hc⟩:=h.at hx
 exact ⟨b,o,hA,hl,hc 0 _ rfl,hc 1 _ rfl⟩
end GlowW
end Go.Proofs.YtpimkdaikoclnaaDoor
namespace Go.Proofs.YtpimkdaikoclnaaDoor
open Go.RowKit
namespace PlaceW
def inB (n a b:Int):Bool:=decide (a≤n) && decide (n < b)
theorem inB_mk {n a b:Int} (h:a≤n) (h':n < b):inB n a b = true:=by simp [inB,h,h']
def mayB (x y z:Int):Bool:=inB x (-1048576) 1048576 && (inB y 0 64 && inB z (-1048576) 1048576)
theorem mayB_true {x y z:Int} (h:mayB x y z = true):-1048576≤x∧x < 1048576∧0≤y∧y < 64∧-1048576≤z∧z < 1048576:=by
 simp [mayB,inB] at h
 omega
theorem within_b {n a b:Int} {r:Bool} (h:inB n a b = r) (w:World) :
  Calls Tryd.prog 34 #[.int .i64 n,.int .i64 a,.int .i64 b] w fun e w'=>e = .returned (.bool r)∧w = w':=by
 subst h
 by_cases h1:a≤n
 ·by_cases h2:n < b
  ·have e:Hid (inB n a b = true):=Lib.hid (inB_mk h1 h2)
   go_enter Tryd.func34,Tryd.ntmps34
   go_wp2
   go_ret
   exact ⟨by rw [e.out]; rfl,rfl⟩
  ·have e:Hid (inB n a b = false):=Lib.hid (by simp [inB]; omega)
   go_enter Tryd.func34,Tryd.ntmps34
   go_wp2
   go_ret
   exact ⟨by rw [e.out]; rfl,rfl⟩
 ·have e:Hid (inB n a b = false):=Lib.hid (by simp [inB]; omega)
  go_enter Tryd.func34,Tryd.ntmps34
  go_wp2
  go_ret
  exact ⟨by rw [e.out]; rfl,rfl⟩
theorem may_b {x y z:Int} {r:Bool} (h:mayB x y z = r) (w:World) :
  Calls Tryd.prog 24 #[.agg #[.int .i64 x,.int .i64 y,.int .i64 z]] w fun e w'=>e = .returned (.bool r)∧Below w.heap.size w w':=by
 subst h
 unfold mayB
 cases hx:inB x (-1048576) 1048576 with
 | false =>
  have HX:=Lib.hid hx
  clear hx
  go_enter Tryd.func24,Tryd.ntmps24
  go_wp2_with (go_at_call 34; (with_reducible refine (within_b HX.out _).mono ?_); rintro e w' ⟨rfl,rfl⟩)
  go_ret
  exact ⟨rfl,(Below.refl _ _).alloc (Nat.le_refl _) _⟩
 | true =>
  have HX:=Lib.hid hx
  clear hx
  cases hy:inB y 0 64 with
  | false =>
   have HY:=Lib.hid hy
   clear hy
   go_enter Tryd.func24,Tryd.ntmps24
   go_wp2_with (go_at_call 34; (first | (with_reducible refine (within_b HX.out _).mono ?_) | (with_reducible refine (within_b HY.out _).mono ?_)); rintro e w' ⟨rfl,rfl⟩)
   go_ret
   exact ⟨rfl,(Below.refl _ _).alloc (Nat.le_refl _) _⟩
  | true =>
   have HY:=Lib.hid hy
   clear hy
   cases hz:inB z (-1048576) 1048576 <;>
   ·have HZ:=Lib.hid hz
    clear hz
    go_enter Tryd.func24,Tryd.ntmps24
    go_wp2_with (go_at_call 34; (first | (with_reducible refine (within_b HX.out _).mono ?_) | (with_reducible refine (within_b HY.out _).mono ?_) | (with_reducible refine (within_b HZ.out _).mono ?_)); rintro e w' ⟨rfl,rfl⟩)
    go_ret
    exact ⟨rfl,(Below.refl _ _).alloc (Nat.le_refl _) _⟩
end PlaceW
end Go.Proofs.YtpimkdaikoclnaaDoor
namespace Go.Proofs.YtpimkdaikoclnaaDoor
open Go.RowKit
set_option linter.unusedSimpArgs false
set_option linter.unusedVariables false
namespace PlaceW
open BitsP
theorem bcell {W w1:World} (hb:Below W.heap.size W w1):(∀ b o,b < W.heap.size→w1.cell? ⟨b,o,none⟩ = W.cell? ⟨b,o,none⟩)∧(∀ b o,b < W.heap.size→w1.frozen? ⟨b,o,none⟩ = W.frozen? ⟨b,o,none⟩) :=
 ⟨fun b o h=>hb.cell (p:=⟨b,o,none⟩) h,fun b o h=>hb.frozen (p:=⟨b,o,none⟩) h⟩
theorem below_drewN {B:Nat} {a w:World} (h:Below B a w) (n:Nat):Below B a (w.drewN n):=⟨h.os,h.tape,h.output,h.size,h.block⟩
theorem p4 {a b c a' b' c':Int} {r r':Bool} (h:(a,b,c,r) = (a',b',c',r')):a = a'∧b = b'∧c = c'∧r = r':=by simpa using h
theorem p2 {α β:Type} {a a':α} {b b':β} (h:(a,b) = (a',b')):a = a'∧b = b':=by simpa using h
theorem r_within_b {n a b:Int} {r:Bool} (h:inB n a b = r) (w:World) :
  Calls Tryd.prog 45 #[.int .i64 n,.int .i64 a,.int .i64 b] w fun e w'=>e = .returned (.bool r)∧w = w':=by
 subst h
 by_cases h1:a≤n
 ·by_cases h2:n < b
  ·have e:Hid (inB n a b = true):=Lib.hid (inB_mk h1 h2)
   go_enter Tryd.func45,Tryd.ntmps45
   go_wp2
   go_ret
   exact ⟨by rw [e.out]; rfl,rfl⟩
  ·have e:Hid (inB n a b = false):=Lib.hid (by simp [inB]; omega)
   go_enter Tryd.func45,Tryd.ntmps45
   go_wp2
   go_ret
   exact ⟨by rw [e.out]; rfl,rfl⟩
 ·have e:Hid (inB n a b = false):=Lib.hid (by simp [inB]; omega)
  go_enter Tryd.func45,Tryd.ntmps45
  go_wp2
  go_ret
  exact ⟨by rw [e.out]; rfl,rfl⟩
theorem r_may_b {x y z:Int} {r:Bool} (h:mayB x y z = r) (w:World) :
  Calls Tryd.prog 28 #[.agg #[.int .i64 x,.int .i64 y,.int .i64 z]] w fun e w'=>e = .returned (.bool r)∧Below w.heap.size w w':=by
 subst h
 cases hx:inB x (-1048576) 1048576 with
 | false =>
  have HX:=Lib.hid hx
  clear hx
  go_enter Tryd.func28,Tryd.ntmps28
  go_wp2_with (go_at_call 45; (first | (with_reducible refine (r_within_b HX.out _).mono ?_)); rintro e w' ⟨rfl,rfl⟩)
  go_ret
  exact ⟨by simp [mayB,HX.out],(Below.refl _ _).alloc (Nat.le_refl _) _⟩
 | true =>
  have HX:=Lib.hid hx
  clear hx
  cases hz:inB z (-1048576) 1048576 with
  | false =>
   have HZ:=Lib.hid hz
   clear hz
   go_enter Tryd.func28,Tryd.ntmps28
   go_wp2_with (go_at_call 45; (first | (with_reducible refine (r_within_b HX.out _).mono ?_) | (with_reducible refine (r_within_b HZ.out _).mono ?_)); rintro e w' ⟨rfl,rfl⟩)
   go_ret
   exact ⟨by simp [mayB,HX.out,HZ.out],(Below.refl _ _).alloc (Nat.le_refl _) _⟩
  | true =>
   have HZ:=Lib.hid hz
   clear hz
   cases hy:inB y 0 64 <;>
   ·have HY:=Lib.hid hy
    clear hy
    go_enter Tryd.func28,Tryd.ntmps28
    go_wp2_with (go_at_call 45; (first | (with_reducible refine (r_within_b HX.out _).mono ?_) | (with_reducible refine (r_within_b HZ.out _).mono ?_) | (with_reducible refine (r_within_b HY.out _).mono ?_)); rintro e w' ⟨rfl,rfl⟩)
    go_ret
    exact ⟨by simp [mayB,HX.out,HZ.out,HY.out],(Below.refl _ _).alloc (Nat.le_refl _) _⟩
end PlaceW
end Go.Proofs.YtpimkdaikoclnaaDoor
namespace Go.Proofs.YtpimkdaikoclnaaDoor
open Go.RowKit
set_option linter.unusedSimpArgs false
set_option linter.unusedVariables false
namespace PlaceW
open BitsP
end PlaceW
end Go.Proofs.YtpimkdaikoclnaaDoor
namespace Go.Proofs.YtpimkdaikoclnaaDoor
open Go.RowKit
set_option linter.unusedSimpArgs false
set_option linter.unusedVariables false
namespace PlaceW
open BitsP
def mv (d x y z:Int):Int × Int × Int × Bool :=
 if d = 0 then (wrap64 (x + 1),y,z,true) else if d = 1 then (wrap64 (x - 1),y,z,true) else if d = 2 then (x,y,wrap64 (z + 1),true) else if d = 3 then (x,y,wrap64 (z - 1),true)
 else if d = 4 then (x,wrap64 (y + 1),z,true) else if d = 5 then (x,wrap64 (y - 1),z,true) else (x,y,z,false)
theorem moved_c {d x y z X Y Z:Int} {r:Bool} (h:mv d x y z = (X,Y,Z,r)) (w:World) :
  Calls Tryd.prog 62 #[.agg #[.int .i64 x,.int .i64 y,.int .i64 z],.int .i64 d] w fun e w'=>e = .returned (.tuple #[.agg #[.int .i64 X,.int .i64 Y,.int .i64 Z],.bool r])∧Below w.heap.size w w':=by
 unfold mv at h
 by_cases h0:d = 0
 ·subst h0
  rw [if_pos rfl] at h
  obtain ⟨rfl,rfl,rfl,rfl⟩:=p4 h
  clear h
  go_enter Tryd.func62,Tryd.ntmps62
  go_wp2
  refine bodyPost_ret (v:=.tuple #[.agg #[.int .i64 (wrap64 (x + 1)),.int .i64 y,.int .i64 z],.bool true]) (by simp [results,Tryd.results62,go_sem]) rfl ?_
  refine ⟨rfl,?_⟩
  (repeat' (first | (with_reducible exact Below.refl _ _) | (with_reducible refine Below.setCell ?_ (by (first | omega | (simp; done) | (simp; omega))) _) | (with_reducible refine Below.alloc ?_ (by (first | omega | (simp; done) | (simp; omega))) _) | (with_reducible refine Below.drew ?_) | (with_reducible refine below_drewN ?_ _)))
 rw [if_neg h0] at h
 by_cases h1:d = 1
 ·subst h1
  rw [if_pos rfl] at h
  obtain ⟨rfl,rfl,rfl,rfl⟩:=p4 h
  clear h h0
  go_enter Tryd.func62,Tryd.ntmps62
  go_wp2
  refine bodyPost_ret (v:=.tuple #[.agg #[.int .i64 (wrap64 (x - 1)),.int .i64 y,.int .i64 z],.bool true]) (by simp [results,Tryd.results62,go_sem]) rfl ?_
  refine ⟨rfl,?_⟩
  (repeat' (first | (with_reducible exact Below.refl _ _) | (with_reducible refine Below.setCell ?_ (by (first | omega | (simp; done) | (simp; omega))) _) | (with_reducible refine Below.alloc ?_ (by (first | omega | (simp; done) | (simp; omega))) _) | (with_reducible refine Below.drew ?_) | (with_reducible refine below_drewN ?_ _)))
 rw [if_neg h1] at h
 by_cases h2:d = 2
 ·subst h2
  rw [if_pos rfl] at h
  obtain ⟨rfl,rfl,rfl,rfl⟩:=p4 h
  clear h h0 h1
  go_enter Tryd.func62,Tryd.ntmps62
  go_wp2
  refine bodyPost_ret (v:=.tuple #[.agg #[.int .i64 x,.int .i64 y,.int .i64 (wrap64 (z + 1))],.bool true]) (by simp [results,Tryd.results62,go_sem]) rfl ?_
  refine ⟨rfl,?_⟩
  (repeat' (first | (with_reducible exact Below.refl _ _) | (with_reducible refine Below.setCell ?_ (by (first | omega | (simp; done) | (simp; omega))) _) | (with_reducible refine Below.alloc ?_ (by (first | omega | (simp; done) | (simp; omega))) _) | (with_reducible refine Below.drew ?_) | (with_reducible refine below_drewN ?_ _)))
 rw [if_neg h2] at h
 by_cases h3:d = 3
 ·subst h3
  rw [if_pos rfl] at h
  obtain ⟨rfl,rfl,rfl,rfl⟩:=p4 h
  clear h h0 h1 h2
  go_enter Tryd.func62,Tryd.ntmps62
  go_wp2
  refine bodyPost_ret (v:=.tuple #[.agg #[.int .i64 x,.int .i64 y,.int .i64 (wrap64 (z - 1))],.bool true]) (by simp [results,Tryd.results62,go_sem]) rfl ?_
  refine ⟨rfl,?_⟩
  (repeat' (first | (with_reducible exact Below.refl _ _) | (with_reducible refine Below.setCell ?_ (by (first | omega | (simp; done) | (simp; omega))) _) | (with_reducible refine Below.alloc ?_ (by (first | omega | (simp; done) | (simp; omega))) _) | (with_reducible refine Below.drew ?_) | (with_reducible refine below_drewN ?_ _)))
 rw [if_neg h3] at h
 by_cases h4:d = 4
 ·subst h4
  rw [if_pos rfl] at h
  obtain ⟨rfl,rfl,rfl,rfl⟩:=p4 h
  clear h h0 h1 h2 h3
  go_enter Tryd.func62,Tryd.ntmps62
  go_wp2
  refine bodyPost_ret (v:=.tuple #[.agg #[.int .i64 x,.int .i64 (wrap64 (y + 1)),.int .i64 z],.bool true]) (by simp [results,Tryd.results62,go_sem]) rfl ?_
  refine ⟨rfl,?_⟩
  (repeat' (first | (with_reducible exact Below.refl _ _) | (with_reducible refine Below.setCell ?_ (by (first | omega | (simp; done) | (simp; omega))) _) | (with_reducible refine Below.alloc ?_ (by (first | omega | (simp; done) | (simp; omega))) _) | (with_reducible refine Below.drew ?_) | (with_reducible refine below_drewN ?_ _)))
 rw [if_neg h4] at h
 by_cases h5:d = 5
 ·subst h5
  rw [if_pos rfl] at h
  obtain ⟨rfl,rfl,rfl,rfl⟩:=p4 h
  clear h h0 h1 h2 h3 h4
  go_enter Tryd.func62,Tryd.ntmps62
  go_wp2
  refine bodyPost_ret (v:=.tuple #[.agg #[.int .i64 x,.int .i64 (wrap64 (y - 1)),.int .i64 z],.bool true]) (by simp [results,Tryd.results62,go_sem]) rfl ?_
  refine ⟨rfl,?_⟩
  (repeat' (first | (with_reducible exact Below.refl _ _) | (with_reducible refine Below.setCell ?_ (by (first | omega | (simp; done) | (simp; omega))) _) | (with_reducible refine Below.alloc ?_ (by (first | omega | (simp; done) | (simp; omega))) _) | (with_reducible refine Below.drew ?_) | (with_reducible refine below_drewN ?_ _)))
 rw [if_neg h5] at h
 obtain ⟨rfl,rfl,rfl,rfl⟩:=p4 h
 have e0:(d == 0) = false:=by simpa using h0
 have e1:(d == 1) = false:=by simpa using h1
 have e2:(d == 2) = false:=by simpa using h2
 have e3:(d == 3) = false:=by simpa using h3
 have e4:(d == 4) = false:=by simpa using h4
 have e5:(d == 5) = false:=by simpa using h5
 clear h h0 h1 h2 h3 h4 h5
 go_enter Tryd.func62,Tryd.ntmps62
 go_wp2
 refine bodyPost_ret (v:=.tuple #[.agg #[.int .i64 x,.int .i64 y,.int .i64 z],.bool false]) (by simp [results,Tryd.results62,go_sem]) rfl ?_
 refine ⟨rfl,?_⟩
 (repeat' (first | (with_reducible exact Below.refl _ _) | (with_reducible refine Below.setCell ?_ (by (first | omega | (simp; done) | (simp; omega))) _) | (with_reducible refine Below.alloc ?_ (by (first | omega | (simp; done) | (simp; omega))) _) | (with_reducible refine Below.drew ?_) | (with_reducible refine below_drewN ?_ _)))
def gapI (a b:Int):Int:=if a < b then b - a else a - b
theorem apart_c {a b:Int} (h1:-2305843009213693952≤a) (h2:a≤2305843009213693952) (h3:-2305843009213693952≤b) (h4:b≤2305843009213693952) (w:World) :
  Calls Tryd.prog 83 #[.int .i64 a,.int .i64 b] w fun e w'=>e = .returned (.int .i64 (gapI a b))∧w' = w:=by
 unfold gapI
 by_cases h:a < b
 ·rw [if_pos h]
  go_enter Tryd.func83,Tryd.ntmps83
  go_wp2
  go_ret
  exact ⟨rfl,rfl⟩
 ·rw [if_neg h]
  by_cases he:a = b
  ·subst he
   go_enter Tryd.func83,Tryd.ntmps83
   go_wp2
   go_ret
   exact ⟨by simp,rfl⟩
  ·have h':b < a:=by omega
   clear he
   go_enter Tryd.func83,Tryd.ntmps83
   go_wp2
   go_ret
   exact ⟨rfl,rfl⟩
def farOf (x y z u v t:Int):Int × Bool:=if (mayB x y z && mayB u v t) = true then (gapI x u + gapI y v + gapI z t,true) else (0,false)
theorem gapI_le {a b c:Int} (h1:-c≤a) (h2:a≤c) (h3:-c≤b) (h4:b≤c):0≤gapI a b∧gapI a b≤2 * c:=by
 unfold gapI
 split <;> omega
set_option maxHeartbeats 400000 in
theorem far_c {x y z u v t n:Int} {r:Bool} (h:farOf x y z u v t = (n,r)) (w:World) :
  Calls Tryd.prog 77 #[.agg #[.int .i64 x,.int .i64 y,.int .i64 z],.agg #[.int .i64 u,.int .i64 v,.int .i64 t]] w fun e w'=>e = .returned (.tuple #[.int .i64 n,.bool r])∧Below w.heap.size w w':=by
 unfold farOf at h
 cases hm:mayB x y z with
 | false =>
  rw [hm] at h
  obtain ⟨rfl,rfl⟩:=p2 h
  have H:=Lib.hid hm
  clear hm h
  go_enter Tryd.func77,Tryd.ntmps77
  go_wp2_with (go_at_call 24; refine (may_b H.out _).mono ?_; rintro e w1 ⟨rfl,hb⟩; obtain ⟨hc,hf⟩:=bcell hb; have hz:w.heap.size + 1 < w1.heap.size:=(by have:=hb.size; (try simp at this); omega); have hl_0:w.heap.size < w1.heap.size:=(by omega); have hn_0:w.heap.size ≠ w1.heap.size:=(by omega); have hn_1:w.heap.size + 1 ≠ w1.heap.size:=(by omega))
  refine bodyPost_ret (v:=.tuple #[.int .i64 0,.bool false]) (by simp [results,Tryd.results77,go_sem]) rfl ?_
  refine ⟨rfl,?_⟩
  (repeat' (first | (with_reducible exact Below.refl _ _) | (with_reducible refine Below.setCell ?_ (by (first | omega | (simp; done) | (simp; omega))) _) | (with_reducible refine Below.alloc ?_ (by (first | omega | (simp; done) | (simp; omega))) _) | (with_reducible refine Below.drew ?_) | (with_reducible refine below_drewN ?_ _) | (with_reducible refine Below.trans ?_ (Below.mono hb (by (first | omega | (simp; done) | (simp; omega)))))))
 | true =>
  cases hm2:mayB u v t with
  | false =>
   rw [hm,hm2] at h
   obtain ⟨rfl,rfl⟩:=p2 h
   have H:=Lib.hid hm
   have H2:=Lib.hid hm2
   clear hm hm2 h
   go_enter Tryd.func77,Tryd.ntmps77
   go_wp2_with fail
   go_at_call 24
   refine (may_b H.out _).mono ?_
   rintro e w1 ⟨rfl,hb⟩
   obtain ⟨hc1,hf1⟩:=bcell hb; have hz1:w.heap.size + 1 < w1.heap.size:=(by have:=hb.size; (try simp at this); omega); have hl1_0:w.heap.size < w1.heap.size:=(by omega); have hn1_0:w.heap.size ≠ w1.heap.size:=(by omega); have hn1_1:w.heap.size + 1 ≠ w1.heap.size:=(by omega)
   go_wp2_with fail
   go_at_call 24
   refine (may_b H2.out _).mono ?_
   rintro e w2 ⟨rfl,hb2⟩
   obtain ⟨hc2,hf2⟩:=bcell hb2; have hz2:w.heap.size + 1 < w2.heap.size:=(by have:=hb2.size; (try simp at this); omega); have hl2_0:w.heap.size < w2.heap.size:=(by omega); have hn2_0:w.heap.size ≠ w2.heap.size:=(by omega); have hn2_1:w.heap.size + 1 ≠ w2.heap.size:=(by omega)
   go_wp2_with fail
   refine bodyPost_ret (v:=.tuple #[.int .i64 0,.bool false]) (by simp [results,Tryd.results77,go_sem]) rfl ?_
   refine ⟨rfl,?_⟩
   (repeat' (first | (with_reducible exact Below.refl _ _) | (with_reducible refine Below.setCell ?_ (by (first | omega | (simp; done) | (simp; omega))) _) | (with_reducible refine Below.alloc ?_ (by (first | omega | (simp; done) | (simp; omega))) _) | (with_reducible refine Below.drew ?_) | (with_reducible refine below_drewN ?_ _) | (with_reducible refine Below.trans ?_ (Below.mono hb (by (first | omega | (simp; done) | (simp; omega))))) | (with_reducible refine Below.trans ?_ (Below.mono hb2 (by (first | omega | (simp; done) | (simp; omega)))))))
  | true =>
   rw [hm,hm2] at h
   obtain ⟨rfl,rfl⟩:=p2 h
   obtain ⟨h1,h2,h3,h4,h5,h6⟩:=mayB_true hm
   obtain ⟨g1,g2,g3,g4,g5,g6⟩:=mayB_true hm2
   have H:=Lib.hid hm
   have H2:=Lib.hid hm2
   have hx:=gapI_le (a:=x) (b:=u) (c:=1048576) (by omega) (by omega) (by omega) (by omega)
   have hy:=gapI_le (a:=y) (b:=v) (c:=1048576) (by omega) (by omega) (by omega) (by omega)
   have hz:=gapI_le (a:=z) (b:=t) (c:=1048576) (by omega) (by omega) (by omega) (by omega)
   have q1:IntKind.i64.wrap (gapI x u + gapI y v) = gapI x u + gapI y v:=wrapI_small (by omega) (by omega)
   have q2:IntKind.i64.wrap (gapI x u + gapI y v + gapI z t) = gapI x u + gapI y v + gapI z t:=wrapI_small (by omega) (by omega)
   have HX:=Lib.hid (apart_c (a:=x) (b:=u) (by omega) (by omega) (by omega) (by omega))
   have HY:=Lib.hid (apart_c (a:=y) (b:=v) (by omega) (by omega) (by omega) (by omega))
   have HZ:=Lib.hid (apart_c (a:=z) (b:=t) (by omega) (by omega) (by omega) (by omega))
   clear hm hm2 h
   go_enter Tryd.func77,Tryd.ntmps77
   go_wp2_with fail
   go_at_call 24
   refine (may_b H.out _).mono ?_
   rintro e w1 ⟨rfl,hb⟩
   obtain ⟨hc1,hf1⟩:=bcell hb; have hz1:w.heap.size + 1 < w1.heap.size:=(by have:=hb.size; (try simp at this); omega); have hl1_0:w.heap.size < w1.heap.size:=(by omega); have hn1_0:w.heap.size ≠ w1.heap.size:=(by omega); have hn1_1:w.heap.size + 1 ≠ w1.heap.size:=(by omega)
   go_wp2_with fail
   go_at_call 24
   refine (may_b H2.out _).mono ?_
   rintro e w2 ⟨rfl,hb2⟩
   obtain ⟨hc2,hf2⟩:=bcell hb2; have hz2:w.heap.size + 1 < w2.heap.size:=(by have:=hb2.size; (try simp at this); omega); have hl2_0:w.heap.size < w2.heap.size:=(by omega); have hn2_0:w.heap.size ≠ w2.heap.size:=(by omega); have hn2_1:w.heap.size + 1 ≠ w2.heap.size:=(by omega)
   go_wp2_with fail
   have ca0:w2.cell? ⟨w.heap.size,0,none⟩ = some (.int .i64 x):=(by rw [hb2.cell (p:=⟨w.heap.size,0,none⟩) (by (first | omega | (simp; done) | (simp; omega))),hb.cell (p:=⟨w.heap.size,0,none⟩) (by (first | omega | (simp; done) | (simp; omega)))] <;> simp); have ca1:w2.cell? ⟨w.heap.size,1,none⟩ = some (.int .i64 y):=(by rw [hb2.cell (p:=⟨w.heap.size,1,none⟩) (by (first | omega | (simp; done) | (simp; omega))),hb.cell (p:=⟨w.heap.size,1,none⟩) (by (first | omega | (simp; done) | (simp; omega)))] <;> simp); have ca2:w2.cell? ⟨w.heap.size,2,none⟩ = some (.int .i64 z):=(by rw [hb2.cell (p:=⟨w.heap.size,2,none⟩) (by (first | omega | (simp; done) | (simp; omega))),hb.cell (p:=⟨w.heap.size,2,none⟩) (by (first | omega | (simp; done) | (simp; omega)))] <;> simp)
   have cb0:w2.cell? ⟨w.heap.size + 1,0,none⟩ = some (.int .i64 u):=(by rw [hb2.cell (p:=⟨w.heap.size + 1,0,none⟩) (by (first | omega | (simp; done) | (simp; omega))),hb.cell (p:=⟨w.heap.size + 1,0,none⟩) (by (first | omega | (simp; done) | (simp; omega)))] <;> simp); have cb1:w2.cell? ⟨w.heap.size + 1,1,none⟩ = some (.int .i64 v):=(by rw [hb2.cell (p:=⟨w.heap.size + 1,1,none⟩) (by (first | omega | (simp; done) | (simp; omega))),hb.cell (p:=⟨w.heap.size + 1,1,none⟩) (by (first | omega | (simp; done) | (simp; omega)))] <;> simp); have cb2:w2.cell? ⟨w.heap.size + 1,2,none⟩ = some (.int .i64 t):=(by rw [hb2.cell (p:=⟨w.heap.size + 1,2,none⟩) (by (first | omega | (simp; done) | (simp; omega))),hb.cell (p:=⟨w.heap.size + 1,2,none⟩) (by (first | omega | (simp; done) | (simp; omega)))] <;> simp)
   clear hc1 hf1 hc2 hf2
   go_quiet ((go_at_call 83; (first | (with_reducible refine Calls.quiet_of_same (HX.out _)) | (with_reducible refine Calls.quiet_of_same (HY.out _)) | (with_reducible refine Calls.quiet_of_same (HZ.out _)))))
   go_wp2_with fail
   refine bodyPost_ret (v:=.tuple #[.int .i64 (gapI x u + gapI y v + gapI z t),.bool true]) (by simp [results,Tryd.results77,go_sem]) rfl ?_
   refine ⟨rfl,?_⟩
   (repeat' (first | (with_reducible exact Below.refl _ _) | (with_reducible refine Below.setCell ?_ (by (first | omega | (simp; done) | (simp; omega))) _) | (with_reducible refine Below.alloc ?_ (by (first | omega | (simp; done) | (simp; omega))) _) | (with_reducible refine Below.drew ?_) | (with_reducible refine below_drewN ?_ _) | (with_reducible refine Below.trans ?_ (Below.mono hb (by (first | omega | (simp; done) | (simp; omega))))) | (with_reducible refine Below.trans ?_ (Below.mono hb2 (by (first | omega | (simp; done) | (simp; omega)))))))
end PlaceW
end Go.Proofs.YtpimkdaikoclnaaDoor
namespace Go.Proofs.YtpimkdaikoclnaaDoor
open Go.RowKit
set_option linter.unusedSimpArgs false
set_option linter.unusedVariables false
namespace PlaceW
open BitsP
def cmpI (a b:Int):Int:=if a < b then -1 else if b < a then 1 else 0
def firstNZ (l:List Int):Int:=(l.find? fun x=>x != 0).getD 0
def cmpOf (x y z u v t:Int):Int:=firstNZ [cmpI x u,cmpI z t,cmpI y v]
theorem isNaN_c {a:Int} (w:World) :
  Calls Tryd.prog 75 #[.int .i64 a] w fun e w'=>e = .returned (.bool false)∧w = w':=by
 go_enter Tryd.func75,Tryd.ntmps75
 go_wp2
 go_ret
 exact ⟨by simp,rfl⟩
theorem compare_c {a b c:Int} (h:cmpI a b = c) (w:World) :
  Calls Tryd.prog 58 #[.int .i64 a,.int .i64 b] w fun e w'=>e = .returned (.int .i64 c)∧w = w':=by
 subst h
 unfold cmpI
 by_cases h1:a < b
 ·rw [if_pos h1]
  go_enter Tryd.func58,Tryd.ntmps58
  go_wp2_with (go_at_call 75; refine (isNaN_c _).mono ?_; rintro e w' ⟨rfl,rfl⟩)
  go_ret
  exact ⟨rfl,rfl⟩
 ·rw [if_neg h1]
  by_cases h2:b < a
  ·rw [if_pos h2]
   go_enter Tryd.func58,Tryd.ntmps58
   go_wp2_with (go_at_call 75; refine (isNaN_c _).mono ?_; rintro e w' ⟨rfl,rfl⟩)
   go_ret
   exact ⟨rfl,rfl⟩
  ·rw [if_neg h2]
   go_enter Tryd.func58,Tryd.ntmps58
   go_wp2_with (go_at_call 75; refine (isNaN_c _).mono ?_; rintro e w' ⟨rfl,rfl⟩)
   go_ret
   exact ⟨rfl,rfl⟩
theorem firstNZ_at {l:List Int} {j:Nat} (hj:j < l.length) (hb:∀ x ∈ l.take j,x = 0) (h:l[j] ≠ 0):firstNZ l = l[j]:=by
 have e:l.find? (fun x=>x != 0) = some l[j]:=by
  rw [List.find?_eq_some_iff_getElem]
  refine ⟨by simpa using h,j,hj,rfl,fun i hi=>?_⟩
  have:=hb l[i] (by rw [List.mem_take_iff_getElem]; exact ⟨i,by omega,rfl⟩)
  simp [this]
 simp [firstNZ,e]
theorem firstNZ_none {l:List Int} (hb:∀ x ∈ l,x = 0):firstNZ l = 0:=by
 have e:l.find? (fun x=>x != 0) = none:=by
  rw [List.find?_eq_none]
  intro x hx
  simp [hb x hx]
 simp [firstNZ,e]
set_option maxHeartbeats 400000 in
theorem or_c {b n c:Nat} {l:List Int} {r:Int} (w:World) (hn:n = l.length) (hl:l.length < 1000) (hc:∀ i (hi:i < l.length),w.cell? ⟨b,i,none⟩ = some (.int .i64 l[i])) (hr:firstNZ l = r) :
  Calls Tryd.prog 57 #[.slice (some ⟨b,0,none⟩) n c] w fun e w'=>e = .returned (.int .i64 r)∧w = w':=by
 subst hn
 have HR:=Lib.hid hr
 clear hr
 go_enter Tryd.func57,Tryd.ntmps57
 go_wp2
 go_loop [8] (fun i=>∃ j:Nat,j≤l.length∧i = .int .i64 j∧∀ x ∈ l.take j,x = 0) (fun i=>l.length - (intOf i).toNat)
 case atStart=>exact ⟨0,by omega,rfl,by simp⟩
 case round =>
  obtain ⟨j,hj,rfl,hne⟩:=hrel
  by_cases hlt:j < l.length
  ·have h1:=hc j hlt
   by_cases he:l[j] = 0
   ·rw [he] at h1
    have hne2:Hid (∀ x ∈ l.take (j + 1),x = 0):=Lib.hid (by
     intro x hx
     rw [List.take_succ_eq_append_getElem hlt,List.mem_append] at hx
     rcases hx with hx | hx
     ·exact hne x hx
     ·simp at hx
      rw [hx,he])
    clear he hc hne
    go_wp2
    go_round
    case rel=>exact ⟨j + 1,by omega,by go_num,hne2.out⟩
    case measure=>simp [intOf]; omega
   ·have hin:Hid (r = l[j]):=Lib.hid (by rw [← HR.out]; exact firstNZ_at hlt hne he)
    obtain ⟨y,hy⟩:∃ y,l[j] = y:=⟨_,rfl⟩
    have hx2:(y != 0) = true:=by simpa [← hy] using he
    rw [hy] at h1
    have HY:=Lib.hid hy
    clear he hc hne hy
    go_wp2
    go_ret
    exact ⟨by rw [hin.out,HY.out]; rfl,rfl⟩
  ·have hin:Hid (r = 0):=Lib.hid (by
    rw [← HR.out]
    rw [List.take_of_length_le (by omega)] at hne
    exact firstNZ_none hne)
   clear hc hne
   go_wp2
   go_ret
   exact ⟨by rw [hin.out]; rfl,rfl⟩
theorem cells3 {a b c:Int} {B:Nat} {w:World} (h0:w.cell? ⟨B,0,none⟩ = some (.int .i64 a)) (h1:w.cell? ⟨B,1,none⟩ = some (.int .i64 b)) (h2:w.cell? ⟨B,2,none⟩ = some (.int .i64 c)) :
  ∀ i (hi:i < [a,b,c].length),w.cell? ⟨B,i,none⟩ = some (.int .i64 [a,b,c][i]):=by
 intro i hi
 match i,hi with
 | 0,_=>exact h0
 | 1,_=>exact h1
 | 2,_=>exact h2
theorem cells3_new {a b c:Int} {B:Nat} (W:World) (T:TypeId) (hB:B = W.heap.size) :
  ∀ i (hi:i < [a,b,c].length),(W.alloc (.cells #[.int .i64 a,.int .i64 b,.int .i64 c] T)).drew.cell? ⟨B,i,none⟩ = some (.int .i64 [a,b,c][i]):=by
 subst hB
 have h:∀ i,(W.alloc (.cells #[.int .i64 a,.int .i64 b,.int .i64 c] T)).drew.cell? ⟨W.heap.size,i,none⟩ = #[.int .i64 a,.int .i64 b,.int .i64 c][i]?:=fun i=>World.cell?_alloc_new _ _ _ _
 exact cells3 (h 0) (h 1) (h 2)
theorem keep2 {x y z u v t:Int} {w W W':World} (b:Below W.heap.size W W')
  (h:(W.cell? ⟨w.heap.size,0,none⟩ = some (.int .i64 x)∧W.cell? ⟨w.heap.size,1,none⟩ = some (.int .i64 y)∧W.cell? ⟨w.heap.size,2,none⟩ = some (.int .i64 z)∧W.cell? ⟨w.heap.size + 1,0,none⟩ = some (.int .i64 u)∧W.cell? ⟨w.heap.size + 1,1,none⟩ = some (.int .i64 v)∧W.cell? ⟨w.heap.size + 1,2,none⟩ = some (.int .i64 t)∧w.heap.size + 1 < W.heap.size∧Below w.heap.size w W)) :
  (W'.cell? ⟨w.heap.size,0,none⟩ = some (.int .i64 x)∧W'.cell? ⟨w.heap.size,1,none⟩ = some (.int .i64 y)∧W'.cell? ⟨w.heap.size,2,none⟩ = some (.int .i64 z)∧W'.cell? ⟨w.heap.size + 1,0,none⟩ = some (.int .i64 u)∧W'.cell? ⟨w.heap.size + 1,1,none⟩ = some (.int .i64 v)∧W'.cell? ⟨w.heap.size + 1,2,none⟩ = some (.int .i64 t)∧w.heap.size + 1 < W'.heap.size∧Below w.heap.size w W'):=by
 obtain ⟨h0,h1,h2,h3,h4,h5,hs,hb⟩:=h
 exact ⟨(b.cell (p:=⟨w.heap.size,0,none⟩) (by (show w.heap.size < _); omega)).trans h0,(b.cell (p:=⟨w.heap.size,1,none⟩) (by (show w.heap.size < _); omega)).trans h1,(b.cell (p:=⟨w.heap.size,2,none⟩) (by (show w.heap.size < _); omega)).trans h2,(b.cell hs).trans h3,(b.cell hs).trans h4,(b.cell hs).trans h5,Nat.lt_of_lt_of_le hs b.size,hb.trans (b.mono hb.size)⟩
end PlaceW
end Go.Proofs.YtpimkdaikoclnaaDoor
namespace Go.Proofs.YtpimkdaikoclnaaDoor
open Go.RowKit
set_option linter.unusedSimpArgs false
set_option linter.unusedVariables false
namespace PlaceW
open BitsP
def stepOf (x y z d:Int):Int × Int × Int × Bool :=
 if mayB x y z = true then (if (mv d x y z).2.2.2 = true∧mayB (mv d x y z).1 (mv d x y z).2.1 (mv d x y z).2.2.1 = true then mv d x y z else (0,0,0,false)) else (0,0,0,false)
set_option maxHeartbeats 400000 in
theorem step_c {x y z d X Y Z:Int} {r:Bool} (h:stepOf x y z d = (X,Y,Z,r)) (w:World) :
  Calls Tryd.prog 52 #[.agg #[.int .i64 x,.int .i64 y,.int .i64 z],.int .i64 d] w fun e w'=>e = .returned (.tuple #[.agg #[.int .i64 X,.int .i64 Y,.int .i64 Z],.bool r])∧Below w.heap.size w w':=by
 obtain ⟨X',Y',Z',r',hv⟩:∃ X' Y' Z' r',mv d x y z = (X',Y',Z',r'):=⟨_,_,_,_,rfl⟩
 unfold stepOf at h
 rw [hv] at h
 simp only at h
 have HV:=Lib.hid hv
 clear hv
 cases r' with
 | false =>
  rw [if_neg (c:=_∧_) (by simp),ite_self] at h
  obtain ⟨rfl,rfl,rfl,rfl⟩:=p4 h
  clear h
  go_enter Tryd.func52,Tryd.ntmps52
  go_wp2_with (go_at_call 62; refine (moved_c HV.out _).mono ?_; rintro e w1 ⟨rfl,hb⟩; obtain ⟨hc1,hf1⟩:=bcell hb; have hz1:w.heap.size + 1 < w1.heap.size:=(by have:=hb.size; (try simp at this); omega); have hl1_0:w.heap.size < w1.heap.size:=(by omega); have hn1_0:w.heap.size ≠ w1.heap.size:=(by omega); have hn1_1:w.heap.size + 1 ≠ w1.heap.size:=(by omega))
  refine bodyPost_ret (v:=.tuple #[.agg #[.int .i64 0,.int .i64 0,.int .i64 0],.bool false]) (by simp [results,Tryd.results52,go_sem,hc1,hf1,hz1,hl1_0,hn1_0,hn1_1]) rfl ?_
  refine ⟨rfl,?_⟩
  (repeat' (first | (with_reducible exact Below.refl _ _) | (with_reducible refine Below.setCell ?_ (by (first | omega | (simp; done) | (simp; omega))) _) | (with_reducible refine Below.alloc ?_ (by (first | omega | (simp; done) | (simp; omega))) _) | (with_reducible refine Below.drew ?_) | (with_reducible refine below_drewN ?_ _) | (with_reducible refine Below.trans ?_ (Below.mono hb (by (first | omega | (simp; done) | (simp; omega)))))))
 | true =>
  cases hm:mayB x y z with
  | false =>
   rw [hm,if_neg (by simp)] at h
   obtain ⟨rfl,rfl,rfl,rfl⟩:=p4 h
   have H:=Lib.hid hm
   clear h hm
   go_enter Tryd.func52,Tryd.ntmps52
   go_wp2_with fail
   go_at_call 62
   refine (moved_c HV.out _).mono ?_
   rintro e w1 ⟨rfl,hb⟩
   obtain ⟨hc1,hf1⟩:=bcell hb; have hz1:w.heap.size + 1 < w1.heap.size:=(by have:=hb.size; (try simp at this); omega); have hl1_0:w.heap.size < w1.heap.size:=(by omega); have hn1_0:w.heap.size ≠ w1.heap.size:=(by omega); have hn1_1:w.heap.size + 1 ≠ w1.heap.size:=(by omega)
   go_wp2_with fail
   go_at_call 24
   refine (may_b H.out _).mono ?_
   rintro e w2 ⟨rfl,hb2⟩
   obtain ⟨hc2,hf2⟩:=bcell hb2; have hz2:w1.heap.size < w2.heap.size:=(by have:=hb2.size; (try simp at this); omega); have hn2_0:w1.heap.size ≠ w2.heap.size:=(by omega); have hk2_0:w.heap.size < w2.heap.size:=(by omega); have hm2_0:w.heap.size ≠ w2.heap.size:=(by omega); have hk2_1:w.heap.size + 1 < w2.heap.size:=(by omega); have hm2_1:w.heap.size + 1 ≠ w2.heap.size:=(by omega)
   go_wp2_with fail
   refine bodyPost_ret (v:=.tuple #[.agg #[.int .i64 0,.int .i64 0,.int .i64 0],.bool false]) (by simp [results,Tryd.results52,go_sem,hc1,hf1,hz1,hl1_0,hn1_0,hn1_1,hc2,hf2,hz2,hn2_0,hk2_0,hk2_1]) rfl ?_
   refine ⟨rfl,?_⟩
   (repeat' (first | (with_reducible exact Below.refl _ _) | (with_reducible refine Below.setCell ?_ (by (first | omega | (simp; done) | (simp; omega))) _) | (with_reducible refine Below.alloc ?_ (by (first | omega | (simp; done) | (simp; omega))) _) | (with_reducible refine Below.drew ?_) | (with_reducible refine below_drewN ?_ _) | (with_reducible refine Below.trans ?_ (Below.mono hb (by (first | omega | (simp; done) | (simp; omega))))) | (with_reducible refine Below.trans ?_ (Below.mono hb2 (by (first | omega | (simp; done) | (simp; omega)))))))
  | true =>
   have H:=Lib.hid hm
   cases hm2:mayB X' Y' Z' with
   | false =>
    rw [hm,hm2,if_pos rfl,if_neg (by simp)] at h
    obtain ⟨rfl,rfl,rfl,rfl⟩:=p4 h
    have H2:=Lib.hid hm2
    clear h hm hm2
    go_enter Tryd.func52,Tryd.ntmps52
    go_wp2_with fail
    go_at_call 62
    refine (moved_c HV.out _).mono ?_
    rintro e w1 ⟨rfl,hb⟩
    obtain ⟨hc1,hf1⟩:=bcell hb; have hz1:w.heap.size + 1 < w1.heap.size:=(by have:=hb.size; (try simp at this); omega); have hl1_0:w.heap.size < w1.heap.size:=(by omega); have hn1_0:w.heap.size ≠ w1.heap.size:=(by omega); have hn1_1:w.heap.size + 1 ≠ w1.heap.size:=(by omega)
    go_wp2_with fail
    go_at_call 24
    refine (may_b H.out _).mono ?_
    rintro e w2 ⟨rfl,hb2⟩
    obtain ⟨hc2,hf2⟩:=bcell hb2; have hz2:w1.heap.size < w2.heap.size:=(by have:=hb2.size; (try simp at this); omega); have hn2_0:w1.heap.size ≠ w2.heap.size:=(by omega); have hk2_0:w.heap.size < w2.heap.size:=(by omega); have hm2_0:w.heap.size ≠ w2.heap.size:=(by omega); have hk2_1:w.heap.size + 1 < w2.heap.size:=(by omega); have hm2_1:w.heap.size + 1 ≠ w2.heap.size:=(by omega)
    go_wp2_with fail
    go_at_call 24
    refine (may_b H2.out _).mono ?_
    rintro e w3 ⟨rfl,hb3⟩
    obtain ⟨hc3,hf3⟩:=bcell hb3; have hz3:w1.heap.size < w3.heap.size:=(by have:=hb3.size; (try simp at this); omega); have hn3_0:w1.heap.size ≠ w3.heap.size:=(by omega); have hk3_0:w.heap.size < w3.heap.size:=(by omega); have hm3_0:w.heap.size ≠ w3.heap.size:=(by omega); have hk3_1:w.heap.size + 1 < w3.heap.size:=(by omega); have hm3_1:w.heap.size + 1 ≠ w3.heap.size:=(by omega)
    go_wp2_with fail
    refine bodyPost_ret (v:=.tuple #[.agg #[.int .i64 0,.int .i64 0,.int .i64 0],.bool false]) (by simp [results,Tryd.results52,go_sem,hc1,hf1,hz1,hl1_0,hn1_0,hn1_1,hc2,hf2,hz2,hn2_0,hk2_0,hk2_1,hc3,hf3,hz3,hn3_0,hk3_0,hk3_1]) rfl ?_
    refine ⟨rfl,?_⟩
    (repeat' (first | (with_reducible exact Below.refl _ _) | (with_reducible refine Below.setCell ?_ (by (first | omega | (simp; done) | (simp; omega))) _) | (with_reducible refine Below.alloc ?_ (by (first | omega | (simp; done) | (simp; omega))) _) | (with_reducible refine Below.drew ?_) | (with_reducible refine below_drewN ?_ _) | (with_reducible refine Below.trans ?_ (Below.mono hb (by (first | omega | (simp; done) | (simp; omega))))) | (with_reducible refine Below.trans ?_ (Below.mono hb2 (by (first | omega | (simp; done) | (simp; omega))))) | (with_reducible refine Below.trans ?_ (Below.mono hb3 (by (first | omega | (simp; done) | (simp; omega)))))))
   | true =>
    rw [hm,hm2,if_pos rfl,if_pos ⟨rfl,rfl⟩] at h
    obtain ⟨rfl,rfl,rfl,rfl⟩:=p4 h
    have H2:=Lib.hid hm2
    clear h hm hm2
    go_enter Tryd.func52,Tryd.ntmps52
    go_wp2_with fail
    go_at_call 62
    refine (moved_c HV.out _).mono ?_
    rintro e w1 ⟨rfl,hb⟩
    obtain ⟨hc1,hf1⟩:=bcell hb; have hz1:w.heap.size + 1 < w1.heap.size:=(by have:=hb.size; (try simp at this); omega); have hl1_0:w.heap.size < w1.heap.size:=(by omega); have hn1_0:w.heap.size ≠ w1.heap.size:=(by omega); have hn1_1:w.heap.size + 1 ≠ w1.heap.size:=(by omega)
    go_wp2_with fail
    go_at_call 24
    refine (may_b H.out _).mono ?_
    rintro e w2 ⟨rfl,hb2⟩
    obtain ⟨hc2,hf2⟩:=bcell hb2; have hz2:w1.heap.size < w2.heap.size:=(by have:=hb2.size; (try simp at this); omega); have hn2_0:w1.heap.size ≠ w2.heap.size:=(by omega); have hk2_0:w.heap.size < w2.heap.size:=(by omega); have hm2_0:w.heap.size ≠ w2.heap.size:=(by omega); have hk2_1:w.heap.size + 1 < w2.heap.size:=(by omega); have hm2_1:w.heap.size + 1 ≠ w2.heap.size:=(by omega)
    go_wp2_with fail
    go_at_call 24
    refine (may_b H2.out _).mono ?_
    rintro e w3 ⟨rfl,hb3⟩
    obtain ⟨hc3,hf3⟩:=bcell hb3; have hz3:w1.heap.size < w3.heap.size:=(by have:=hb3.size; (try simp at this); omega); have hn3_0:w1.heap.size ≠ w3.heap.size:=(by omega); have hk3_0:w.heap.size < w3.heap.size:=(by omega); have hm3_0:w.heap.size ≠ w3.heap.size:=(by omega); have hk3_1:w.heap.size + 1 < w3.heap.size:=(by omega); have hm3_1:w.heap.size + 1 ≠ w3.heap.size:=(by omega)
    go_wp2_with fail
    trace_state
    refine bodyPost_ret (v:=.tuple #[.agg #[.int .i64 X',.int .i64 Y',.int .i64 Z'],.bool true]) (by simp [results,Tryd.results52,go_sem,hc1,hf1,hz1,hl1_0,hn1_0,hn1_1,hc2,hf2,hz2,hn2_0,hk2_0,hk2_1,hc3,hf3,hz3,hn3_0,hk3_0,hk3_1]) rfl ?_
    refine ⟨rfl,?_⟩
    (repeat' (first | (with_reducible exact Below.refl _ _) | (with_reducible refine Below.setCell ?_ (by (first | omega | (simp; done) | (simp; omega))) _) | (with_reducible refine Below.alloc ?_ (by (first | omega | (simp; done) | (simp; omega))) _) | (with_reducible refine Below.drew ?_) | (with_reducible refine below_drewN ?_ _) | (with_reducible refine Below.trans ?_ (Below.mono hb (by (first | omega | (simp; done) | (simp; omega))))) | (with_reducible refine Below.trans ?_ (Below.mono hb2 (by (first | omega | (simp; done) | (simp; omega))))) | (with_reducible refine Below.trans ?_ (Below.mono hb3 (by (first | omega | (simp; done) | (simp; omega)))))))
end PlaceW
end Go.Proofs.YtpimkdaikoclnaaDoor
namespace Go.Proofs.YtpimkdaikoclnaaDoor
open Go.RowKit Go.Shelf
set_option linter.unusedVariables false
set_option linter.unusedSimpArgs false
attribute [local go_sem] Oper.semAt_some
namespace GlowW
open BlkP RowG
end GlowW
end Go.Proofs.YtpimkdaikoclnaaDoor
namespace Go.Proofs.YtpimkdaikoclnaaDoor
set_option linter.unusedVariables false
set_option linter.unusedSimpArgs false
namespace GlowP
abbrev St:=List Nat × (Nat→List Nat)
def push (kn:Nat→List Nat) (k y:Nat):Nat→List Nat:=fun j=>if j = k then kn k ++ [y] else kn j
def stepS (O:List Bool) (less:Nat) (st:St) (s:Nat):St:=if O.getD s false = true∧st.1.getD s 0 < less then (st.1.set s less,push st.2 less s) else st
def cellS (O:List Bool) (side:Nat→List Nat) (less:Nat) (st:St) (c:Nat):St:=(side c).foldl (stepS O less) st
def turnS (O:List Bool) (side:Nat→List Nat) (b:Nat) (st:St):St:=(st.2 b).foldl (cellS O side (b - 1)) st
def knS (L:List Nat):Nat→Nat→List Nat
 | 0=>fun _=>[]
 | j + 1=>if 0 < L.getD j 0 then push (knS L j) (L.getD j 0) j else knS L j
theorem getD_set {l:List Nat} {i j v:Nat} (h:i < l.length):(l.set i v).getD j 0 = if j = i then v else l.getD j 0:=by
 by_cases e:j = i
 ·subst e
  simp [List.getD,h]
 ·rw [if_neg e]
  simp only [List.getD,List.getElem?_set_ne (fun q=>e q.symm)]
theorem knS_mem {L:List Nat}:∀ {j k s:Nat},s ∈ knS L j k↔s < j∧L.getD s 0 = k∧0 < k
 | 0,k,s=>by simp [knS]
 | j + 1,k,s=>by
  have ih:=knS_mem (L:=L) (j:=j) (k:=k) (s:=s)
  unfold knS
  by_cases h:0 < L.getD j 0
  ·rw [if_pos h]
   unfold push
   by_cases e:k = L.getD j 0
   ·rw [if_pos e,← e,List.mem_append,ih,List.mem_singleton]
    constructor
    ·rintro (⟨h1,h2,h3⟩ | rfl)
     ·exact ⟨by omega,h2,h3⟩
     ·exact ⟨by omega,e.symm,by omega⟩
    ·rintro ⟨h1,h2,h3⟩
     by_cases es:s = j
     ·exact .inr es
     ·exact .inl ⟨by omega,h2,h3⟩
   ·rw [if_neg e,ih]
    constructor
    ·rintro ⟨h1,h2,h3⟩
     exact ⟨by omega,h2,h3⟩
    ·rintro ⟨h1,h2,h3⟩
     refine ⟨?_,h2,h3⟩
     by_cases es:s = j
     ·subst es
      exact absurd h2.symm e
     ·omega
  ·rw [if_neg h,ih]
   constructor
   ·rintro ⟨h1,h2,h3⟩
    exact ⟨by omega,h2,h3⟩
   ·rintro ⟨h1,h2,h3⟩
    refine ⟨?_,h2,h3⟩
    by_cases es:s = j
    ·subst es
     omega
    ·omega
def atLeast (L:List Nat) (k:Nat):Nat:=L.countP (fun x=>decide (k≤x))
structure Good (n:Nat) (st:St):Prop where
 len:st.1.length = n
 few:∀ k,(st.2 k).length≤atLeast st.1 k
 mem:∀ k s,s ∈ st.2 k→s < n
theorem Good.le {n:Nat} {st:St} (h:Good n st) (k:Nat):(st.2 k).length≤n:=Nat.le_trans (h.few k) (by rw [← h.len]; exact List.countP_le_length)
theorem atLeast_set {L:List Nat} {s v k:Nat} (h:s < L.length) (hv:L.getD s 0 < v):atLeast L k + (if L.getD s 0 < k∧k≤v then 1 else 0) = atLeast (L.set s v) k:=by
 unfold atLeast
 have hg:L.getD s 0 = L[s]:=by simp [List.getD,h]
 rw [hg] at hv ⊢
 rw [List.countP_set h]
 have hpos:k≤L[s]→0 < L.countP (fun x=>decide (k≤x)):=fun q=>List.countP_pos_iff.2 ⟨L[s],List.getElem_mem h,by simpa using q⟩
 by_cases h1:k≤L[s]
 ·have:=hpos h1
  simp only [decide_eq_true_eq,if_pos h1,if_pos (show k≤v by omega),if_neg (show ¬ (L[s] < k∧k≤v) by omega)]
  omega
 ·by_cases h2:k≤v
  ·simp only [decide_eq_true_eq,if_neg h1,if_pos h2,if_pos (show L[s] < k∧k≤v by omega)]
   omega
  ·simp only [decide_eq_true_eq,if_neg h1,if_neg h2,if_neg (show ¬ (L[s] < k∧k≤v) by omega)]
   omega
theorem Good.step {n:Nat} {O:List Bool} {less:Nat} {st:St} (h:Good n st) {s:Nat} (hs:s < n):Good n (stepS O less st s):=by
 unfold stepS
 split
 ·rename_i hc
  have hsl:s < st.1.length:=by rw [h.len]; exact hs
  refine ⟨by simp [h.len],fun k=>?_,fun k x hx=>?_⟩
  rotate_left
  ·have hx':x ∈ push st.2 less s k:=hx
   unfold push at hx'
   split at hx'
   ·rcases List.mem_append.1 hx' with q | q
    ·exact h.mem _ _ q
    ·have:x = s:=by simpa using q
     subst this
     exact hs
   ·exact h.mem _ _ hx'
  have e:=atLeast_set (k:=k) hsl hc.2
  have hf:=h.few k
  show (push st.2 less s k).length≤atLeast (st.1.set s less) k
  unfold push
  by_cases ek:k = less
  ·subst ek
   rw [if_pos rfl,List.length_append]
   rw [if_pos ⟨hc.2,Nat.le_refl _⟩] at e
   simp only [List.length_cons,List.length_nil]
   omega
  ·rw [if_neg ek]
   omega
 ·exact h
theorem stepS_other {O:List Bool} {less k:Nat} {st:St} {s:Nat} (hk:k ≠ less):(stepS O less st s).2 k = st.2 k:=by
 unfold stepS
 split
 ·show push st.2 less s k = st.2 k
  unfold push
  rw [if_neg hk]
 ·rfl
theorem fold_other {O:List Bool} {less k:Nat} (hk:k ≠ less):∀ (l:List Nat) (st:St),(l.foldl (stepS O less) st).2 k = st.2 k
 | [],st=>rfl
 | s :: r,st=>by rw [List.foldl_cons,fold_other hk r,stepS_other hk]
theorem Good.fold {n:Nat} {O:List Bool} {less:Nat}:∀ {l:List Nat} {st:St},Good n st→(∀ s ∈ l,s < n)→Good n (l.foldl (stepS O less) st)
 | [],st,h,_=>h
 | s :: r,st,h,hl=>Good.fold (l:=r) (h.step (hl s (by simp))) (fun x hx=>hl x (by simp [hx]))
theorem Good.cells {n:Nat} {O:List Bool} {side:Nat→List Nat} {less:Nat} (hside:∀ c,c < n→∀ s ∈ side c,s < n):∀ {l:List Nat} {st:St},Good n st→(∀ c ∈ l,c < n)→Good n (l.foldl (cellS O side less) st)
 | [],st,h,_=>h
 | c :: r,st,h,hl=>Good.cells hside (l:=r) (h.fold (hside c (hl c (by simp)))) (fun x hx=>hl x (by simp [hx]))
theorem Good.first {L:List Nat}:∀ j,j≤L.length→∀ k,0 < k→(knS L j k).length≤(L.take j).countP (fun x=>decide (k≤x))
 | 0,_,k,_=>by simp [knS]
 | j + 1,h,k,hk=>by
  have ih:=Good.first (L:=L) j (by omega) k hk
  have hg:L.getD j 0 = L[j]:=by simp [List.getD,show j < L.length by omega]
  rw [List.take_succ_eq_append_getElem (by omega),List.countP_append]
  unfold knS
  by_cases h0:0 < L.getD j 0
  ·rw [if_pos h0]
   unfold push
   by_cases e:k = L.getD j 0
   ·rw [if_pos e,← e,List.length_append]
    have:[L[j]'(by omega)].countP (fun x=>decide (k≤x)) = 1:=by rw [List.countP_cons,List.countP_nil,if_pos (by have e2:=e.trans hg; simp only [decide_eq_true_eq]; omega)]
    rw [this]
    simp only [List.length_cons,List.length_nil]
    omega
   ·rw [if_neg e]
    omega
  ·rw [if_neg h0]
   omega
theorem knS_zero {L:List Nat}:∀ j,knS L j 0 = []
 | 0=>rfl
 | j + 1=>by
  unfold knS
  split
  ·unfold push
   rw [if_neg (by omega)]
   exact knS_zero j
  ·exact knS_zero j
theorem Good.start {L:List Nat} {n:Nat} (h:L.length = n):Good n (L,knS L n):=⟨h,fun k=>by
 by_cases hk:k = 0
 ·subst hk
  show (knS L n 0).length≤_
  rw [knS_zero]
  simp
 ·have:=Good.first (L:=L) n (by omega) k (by omega)
  rw [List.take_of_length_le (by omega)] at this
  exact this,fun k s hs=>(knS_mem.1 hs).1⟩
section
variable {n:Nat} {O:List Bool} {side:Nat→List Nat} {own:Nat→Nat}
def lt (st:St) (i:Nat):Nat:=st.1.getD i 0
def clO (O:List Bool) (i:Nat):Bool:=O.getD i false
structure Base (n:Nat) (O:List Bool) (side:Nat→List Nat) (own:Nat→Nat) (b:Nat) (st:St):Prop where
 len:st.1.length = n
 own_le:∀ i,own i≤lt st i
 top:∀ i,lt st i≤15
 dark:∀ i,clO O i = false→lt st i = 0
 just:∀ i,lt st i≤max (own i) (inL side (lt st) i)
 mem:∀ k s,s ∈ st.2 k→s < n∧k≤lt st s
 all:∀ i,0 < lt st i→i ∈ st.2 (lt st i)
 done:∀ i,b < lt st i→∀ s ∈ side i,clO O s = true→lt st i≤lt st s + 1
theorem Base.step {b:Nat} {st:St} (h:Base n O side own b st) (hb:2≤b) (hb15:b≤15) {c s:Nat} (hc:b≤lt st c) (hs:s < n) (hcs:c ∈ side s) :
  Base n O side own b (stepS O (b - 1) st s)∧(∀ i,lt st i≤lt (stepS O (b - 1) st s) i)∧(clO O s = true→b - 1≤lt (stepS O (b - 1) st s) s):=by
 unfold stepS
 by_cases hq:O.getD s false = true∧st.1.getD s 0 < b - 1
 ·rw [if_pos hq]
  have hsl:s < st.1.length:=by rw [h.len]; exact hs
  have hl:∀ i,lt (st.1.set s (b - 1),push st.2 (b - 1) s) i = if i = s then b - 1 else lt st i:=fun i=>getD_set hsl
  have hlt:lt st s < b - 1:=hq.2
  have up:∀ i,lt st i≤lt (st.1.set s (b - 1),push st.2 (b - 1) s) i:=fun i=>by
   rw [hl]
   split
   ·rename_i e
    subst e
    omega
   ·exact Nat.le_refl _
  have pm:∀ k x,x ∈ st.2 k→x ∈ push st.2 (b - 1) s k:=fun k x hx=>by
   unfold push
   split
   ·rename_i e
    subst e
    exact List.mem_append_left _ hx
   ·exact hx
  refine ⟨⟨by simp [h.len],fun i=>Nat.le_trans (h.own_le i) (up i),fun i=>?_,fun i hi=>?_,fun i=>?_,fun k x hx=>?_,fun i hi=>?_,fun i hi x hx hcx=>?_⟩,up,fun _=>by rw [hl,if_pos rfl]; exact Nat.le_refl _⟩
  ·rw [hl]
   have:=h.top i
   split <;> omega
  ·rw [hl]
   split
   ·rename_i e
    subst e
    have:clO O i = true:=hq.1
    rw [hi] at this
    cases this
   ·exact h.dark i hi
  ·have hm:=in_mono (side:=side) up i
   rw [hl]
   split
   ·rename_i e
    subst e
    have h1:=in_ge (side:=side) (L:=lt (st.1.set i (b - 1),push st.2 (b - 1) i)) hcs
    have h2:=up c
    omega
   ·have:=h.just i
    omega
  ·have hx':x ∈ push st.2 (b - 1) s k:=hx
   unfold push at hx'
   split at hx'
   ·rename_i e
    subst e
    rcases List.mem_append.1 hx' with q | q
    ·have:=h.mem _ _ q
     exact ⟨this.1,Nat.le_trans this.2 (up x)⟩
    ·have:x = s:=by simpa using q
     subst this
     exact ⟨hs,by rw [hl,if_pos rfl]; exact Nat.le_refl _⟩
   ·have:=h.mem _ _ hx'
    exact ⟨this.1,Nat.le_trans this.2 (up x)⟩
  ·rw [hl] at hi ⊢
   show i ∈ push st.2 (b - 1) s _
   by_cases e:i = s
   ·rw [if_pos e]
    unfold push
    rw [if_pos rfl,e]
    simp
   ·rw [if_neg e] at hi ⊢
    exact pm _ _ (h.all i hi)
  ·rw [hl] at hi
   by_cases e:i = s
   ·rw [if_pos e] at hi
    omega
   ·rw [if_neg e] at hi
    have h1:=h.done i hi x hx hcx
    have h2:=up x
    rw [hl i,if_neg e]
    omega
 ·rw [if_neg hq]
  refine ⟨h,fun _=>Nat.le_refl _,fun hcl=>?_⟩
  apply Classical.byContradiction
  intro hn
  exact hq ⟨hcl,by unfold lt at hn; omega⟩
theorem Base.fold {b:Nat} (hb:2≤b) (hb15:b≤15) {c:Nat}:∀ (l:List Nat) {st:St},Base n O side own b st→b≤lt st c→(∀ s ∈ l,s < n∧c ∈ side s) →
  Base n O side own b (l.foldl (stepS O (b - 1)) st)∧(∀ i,lt st i≤lt (l.foldl (stepS O (b - 1)) st) i)∧∀ s ∈ l,clO O s = true→b - 1≤lt (l.foldl (stepS O (b - 1)) st) s
 | [],st,h,_,_=>⟨h,fun _=>Nat.le_refl _,fun s hs=>by cases hs⟩
 | x :: r,st,h,hc,hl=>by
  obtain ⟨h1,u1,p1⟩:=h.step hb hb15 hc (hl x (by simp)).1 (hl x (by simp)).2
  obtain ⟨h2,u2,p2⟩:=Base.fold hb hb15 (c:=c) r h1 (Nat.le_trans hc (u1 c)) (fun s hs=>hl s (by simp [hs]))
  refine ⟨h2,fun i=>Nat.le_trans (u1 i) (u2 i),fun s hs hcl=>?_⟩
  rcases List.mem_cons.1 hs with rfl | hs
  ·exact Nat.le_trans (p1 hcl) (u2 s)
  ·exact p2 s hs hcl
theorem Base.cells {b:Nat} (hb:2≤b) (hb15:b≤15) (hsym:∀ c s,c < n→s ∈ side c→s < n∧c ∈ side s):∀ (l:List Nat) {st:St},Base n O side own b st→(∀ c ∈ l,c < n∧b≤lt st c) →
  Base n O side own b (l.foldl (cellS O side (b - 1)) st)∧(∀ i,lt st i≤lt (l.foldl (cellS O side (b - 1)) st) i)∧∀ c ∈ l,∀ s ∈ side c,clO O s = true→b - 1≤lt (l.foldl (cellS O side (b - 1)) st) s
 | [],st,h,_=>⟨h,fun _=>Nat.le_refl _,fun s hs=>by cases hs⟩
 | x :: r,st,h,hl=>by
  obtain ⟨h1,u1,p1⟩:=h.fold hb hb15 (c:=x) (side x) (hl x (by simp)).2 (fun s hs=>hsym x s (hl x (by simp)).1 hs)
  obtain ⟨h2,u2,p2⟩:=Base.cells hb hb15 hsym r h1 (fun c hc=>⟨(hl c (by simp [hc])).1,Nat.le_trans (hl c (by simp [hc])).2 (u1 c)⟩)
  refine ⟨h2,fun i=>Nat.le_trans (u1 i) (u2 i),fun c hc s hs hcl=>?_⟩
  rcases List.mem_cons.1 hc with rfl | hc
  ·exact Nat.le_trans (p1 s hs hcl) (u2 s)
  ·exact p2 c hc s hs hcl
theorem cells_other {side:Nat→List Nat} {less k:Nat} (hk:k ≠ less):∀ (l:List Nat) (st:St),(l.foldl (cellS O side less) st).2 k = st.2 k
 | [],st=>rfl
 | c :: r,st=>by rw [List.foldl_cons,cells_other hk r,cellS,fold_other hk]
theorem Base.turn {b:Nat} {st:St} (h:Base n O side own b st) (hb:2≤b) (hb15:b≤15) (hsym:∀ c s,c < n→s ∈ side c→s < n∧c ∈ side s):Base n O side own (b - 1) (turnS O side b st):=by
 obtain ⟨h1,u1,p1⟩:=h.cells hb hb15 hsym (st.2 b) (fun c hc=>h.mem b c hc)
 refine ⟨h1.len,h1.own_le,h1.top,h1.dark,h1.just,h1.mem,h1.all,fun i hi s hs hcl=>?_⟩
 by_cases e:b < lt (turnS O side b st) i
 ·exact h1.done i e s hs hcl
 ·have eb:lt (turnS O side b st) i = b:=by omega
  have hm:=h1.all i (by show 0 < lt (turnS O side b st) i; omega)
  rw [show lt (List.foldl (cellS O side (b - 1)) st (st.2 b)) i = b from eb,cells_other (by omega)] at hm
  have hp:b - 1≤lt (turnS O side b st) s:=p1 i hm s hs hcl
  omega
theorem Base.sol {st:St} (h:Base n O side own 1 st) (hsym:∀ c s,s ∈ side c→c ∈ side s) (h0:∀ i,clO O i = false→own i = 0):Sol side (clO O) own (lt st):=fun i=>by
 cases hc:clO O i with
 | false =>
  rw [if_neg (by simp)]
  exact h.dark i hc
 | true =>
  rw [if_pos rfl]
  refine Nat.le_antisymm (h.just i) ?_
  have:inL side (lt st) i≤lt st i:=in_le.2 fun t ht=>by
   by_cases h1:1 < lt st t
   ·have:=h.done t h1 i (hsym _ _ ht) hc
    omega
   ·omega
  have:=h.own_le i
  omega
theorem Base.start {L:List Nat} (hn:L.length = n) (h15:∀ i,L.getD i 0≤15) (h0:∀ i,clO O i = false→L.getD i 0 = 0):Base n O side (fun i=>L.getD i 0) 15 (L,knS L n) :=
 ⟨hn,fun _=>Nat.le_refl _,h15,h0,fun i=>by show L.getD i 0≤_; omega,fun k s hs=>by
  have:=knS_mem.1 hs
  exact ⟨this.1,Nat.le_of_eq this.2.1.symm⟩,fun i hi=>knS_mem.2 ⟨by
   apply Classical.byContradiction
   intro hn'
   have:L.getD i 0 = 0:=by simp [List.getD,show L.length≤i by omega]
   have hi':0 < L.getD i 0:=hi
   omega,rfl,hi⟩,fun i hi=>by
  have:=h15 i
  have hi':15 < L.getD i 0:=hi
  omega⟩
end
def sideX (X Y Z i:Nat):List Nat:=if i < X * Y * Z then sides X Y Z i else []
theorem sideX_lt {X Y Z i s:Nat} (hs:s ∈ sideX X Y Z i):i < X * Y * Z∧s < X * Y * Z:=by
 unfold sideX at hs
 split at hs
 ·rename_i h
  exact ⟨h,sides_lt h hs⟩
 ·cases hs
end GlowP
end Go.Proofs.YtpimkdaikoclnaaDoor
