import Derived.Deep.RegionHeld3
import Derived.Test.YtpimkdaikoclnaaDoorFlB4
import Derived.Maps.RangeRun
import Derived.Test.YtpimkdaikoclnaaDoorFlB6
import Derived.Shelf.SlLaysF0
import Derived.Test.YtpimkdaikoclnaaDoorChecked
import Derived.Shelf.SlSortCmp.NoneTotal
import Derived.Test.YtpimkdaikoclnaaDoorFlB1
import Derived.Test.YtpimkdaikoclnaaDoorFlB3
import Derived.Test.YtpimkdaikoclnaaDoorFlB7
import Derived.Test.YtpimkdaikoclnaaDoorFlB10
import Derived.Test.YtpimkdaikoclnaaDoorFlB5
namespace Go.Proofs.YtpimkdaikoclnaaDoor
open Go.RowKit
set_option linter.unusedVariables false
set_option linter.unusedSimpArgs false
namespace FloodW
open BlkP RowG GlowW FloodP
def Fld.told (f:Fld) (q:V) (g n c:Nat):Fld:={ f with vT:=.slice (some ⟨g,0,none⟩) n c,ts:=f.ts ++ [q] }
def Fld.lit (f:Fld) (i:Nat) (a:Nat × Nat):Fld:={ f with ls:=f.ls.set i a }
def SL (f:Fld) (k:Nat):Prop:=k = f.F ∨ f.vT.ownBlock = some k ∨ f.vL.ownBlock = some k
def LitP (w:World) (f:Fld) (q:V) (a:Nat × Nat) (w':World):Prop:=∃ g c,FldM w' ((f.told q g (f.ts.length + 1) c).lit (numB f q) a)∧Fr (SL f) w w'∧(f.vT.ownBlock = some g ∨ w.heap.size≤g)
theorem FldM.notedT {f:Fld} {w0 w6:World} {q:V} {n g c:Nat} (h:FldM w0 f) (hp:Pushed encP TP w0 0 f.vT f.ts q n g c w6) :
  FldM (w6.setCell ⟨f.F,9,none⟩ (.slice (some ⟨g,0,none⟩) n c)) (f.told q g n c)∧Fr (SL f) w0 (w6.setCell ⟨f.F,9,none⟩ (.slice (some ⟨g,0,none⟩) n c)):=by
 obtain ⟨h1,h2,h3⟩:=hp
 have f1:Fr (fun k=>f.vT.ownBlock = some k) w0 w6:=Fr.grown h2 (fun i e=>e)
 have nF:f.vT.ownBlock ≠ some f.F:=fun e=>by
  obtain ⟨us,hu⟩:=own_cells h.ts e
  exact Blk.ne hu h.blk (by decide) rfl
 have nC:∀ k,f.vC.ownBlock = some k→f.vT.ownBlock ≠ some k:=fun k e e2=>by
  obtain ⟨us,hu⟩:=own_cells h.ts e2
  obtain ⟨us2,hu2⟩:=own_cells h.cs e
  exact Blk.ne hu hu2 (by decide) rfl
 have nL:∀ k,f.vL.ownBlock = some k→f.vT.ownBlock ≠ some k:=fun k e e2=>by
  obtain ⟨us,hu⟩:=own_cells h.ts e2
  obtain ⟨us2,hu2⟩:=own_cells h.ls e
  exact Blk.ne hu hu2 (by decide) rfl
 have nA:∀ k,f.vA.ownBlock = some k→f.vT.ownBlock ≠ some k:=fun k e e2=>h.dj k e e2
 have f2:Fr (fun k=>k = f.F) w6 (w6.setCell ⟨f.F,9,none⟩ (.slice (some ⟨g,0,none⟩) n c)):=Fr.set _ _ _ _ rfl
 have key:∀ {α:Type} {e:Enc α} {E:TypeId} {v:Value} {l:List α},RowG.Own e E w6 0 v l→E ≠ TW→RowG.Own e E (w6.setCell ⟨f.F,9,none⟩ (.slice (some ⟨g,0,none⟩) n c)) 0 v l:=fun ho hE=>f2.own ho (fun k e e2=>by
  obtain ⟨us,hu⟩:=own_cells ho e
  rw [e2] at hu
  exact Blk.ne hu (f1.blk h.blk nF) hE rfl)
 refine ⟨⟨?_,key (f1.own h.cs nC) (by decide),key (f1.own h.ls nL) (by decide),key (f1.own h.ak nA) (by decide),key h1 (by decide),fun k e e2=>?_⟩,(f1.mono (fun i e=>.inr (.inl e))).trans f2 (fun i e=>.inl (.inl e))⟩
 ·exact (f1.blk h.blk nF).set 9 _
 ·have e3:g = k:=by simpa [Fld.told,Value.ownBlock] using e2
  subst e3
  rcases h3 with h3 | h3
  ·exact h.dj g e h3
  ·have:=(h.ak.ge g e).2
   omega
theorem told_w {f:Fld} {q:V} {g n c:Nat} (h:FldW f):FldW (f.told q g n c):=⟨h.x,h.y,h.z,h.lx,h.ly,h.lz,h.cs,h.ls,h.c8,h.l15⟩
theorem own2_store {w:World} {B g n c:Nat} {E:TypeId} {l:List (Nat × Nat)} (h:RowG.Own enc2 E w B (.slice (some ⟨g,0,none⟩) n c) l) {i:Nat} {x:Nat × Nat} (hx:l[i]? = some x) (a b:Nat) :
  RowG.Own enc2 E ((w.setCell ⟨g,i * 2,none⟩ (.int .u8 a)).setCell ⟨g,i * 2 + 1,none⟩ (.int .u8 b)) B (.slice (some ⟨g,0,none⟩) n c) (l.set i (a,b))∧Fr (fun k=>k = g) w ((w.setCell ⟨g,i * 2,none⟩ (.int .u8 a)).setCell ⟨g,i * 2 + 1,none⟩ (.int .u8 b)):=by
 have hi:=(List.getElem?_eq_some_iff.1 hx).1
 have h1:=(h.store (i:=i) (j:=0) (x:=x) (y:=(a,x.2)) (u:=.int .u8 a) hx (by decide) rfl).1
 have h2:=(h1.store (i:=i) (j:=1) (x:=(a,x.2)) (y:=(a,b)) (u:=.int .u8 b) (by simp [hi]) (by decide) rfl).1
 rw [List.set_set] at h2
 exact ⟨h2,(Fr.set (fun k=>k = g) w ⟨g,i * 2,none⟩ _ rfl).trans (Fr.set (fun k=>k = g) _ ⟨g,i * 2 + 1,none⟩ _ rfl) (fun i hi=>.inl hi)⟩
theorem FldM.litM {f:Fld} {w:World} {gl n c:Nat} (h:FldM w f) (hv:f.vL = .slice (some ⟨gl,0,none⟩) n c) {i:Nat} {x:Nat × Nat} (hx:f.ls[i]? = some x) (a b:Nat) :
  FldM ((w.setCell ⟨gl,i * 2,none⟩ (.int .u8 a)).setCell ⟨gl,i * 2 + 1,none⟩ (.int .u8 b)) (f.lit i (a,b))∧Fr (fun k=>k = gl) w ((w.setCell ⟨gl,i * 2,none⟩ (.int .u8 a)).setCell ⟨gl,i * 2 + 1,none⟩ (.int .u8 b)):=by
 obtain ⟨h1,h2⟩:=own2_store (hv ▸ h.ls) hx a b
 obtain ⟨us,hu⟩:=own_cells h.ls (g:=gl) (by rw [hv]; rfl)
 have key:∀ {α:Type} {e:Enc α} {E:TypeId} {v:Value} {l:List α},RowG.Own e E w 0 v l→E ≠ TL→∀ k,v.ownBlock = some k→¬ k = gl:=fun ho hE k e e2=>by
  obtain ⟨us2,hu2⟩:=own_cells ho e
  rw [e2] at hu2
  exact Blk.ne hu2 hu hE rfl
 refine ⟨⟨h2.blk h.blk (fun e=>Blk.ne h.blk hu (by decide) e),h2.own h.cs (key h.cs (by decide)),?_,h2.own h.ak (key h.ak (by decide)),h2.own h.ts (key h.ts (by decide)),h.dj⟩,h2⟩
 show RowG.Own enc2 TL _ 0 f.vL (f.ls.set i (a,b))
 rw [hv]
 exact h1
set_option maxRecDepth 100000 in
set_option maxHeartbeats 8000000 in
theorem lit_c {w:World} {f:Fld} {q:V} {a b:Nat} (h:FldM w f) (hW:FldW f) (hq:inB f q = true) (hn:f.ts.length≤900000) :
  Calls Tryd.prog 102 #[.pointer (some ⟨f.F,0,none⟩),.agg #[.int .i64 q.1,.int .i64 q.2.1,.int .i64 q.2.2],.agg #[.int .u8 a,.int .u8 b]] w fun e w'=>e = .returned (.tuple #[])∧LitP w f q (a,b) w':=by
 obtain ⟨A,cA,hvA,_,_,_⟩:=h.ts.form rfl
 have HVA:=Lib.hid hvA
 have hqb:=inB_iff.1 hq
 have HMQ:=Lib.hid (show mayP q from by
  have h1:=hW.lx
  have h2:=hW.ly
  have h3:=hW.lz
  unfold mayP
  omega)
 clear hqb
 obtain ⟨x,y,z⟩:=q
 simp only
 have HIB:=Lib.hid hq
 have HFM0:=Lib.hid h
 have HW:=Lib.hid hW
 have hFl:=h.blk.lt
 have HNF:=Lib.hid (show ¬ f.vT.ownBlock = some f.F from fun e=>by
  obtain ⟨us,hu⟩:=own_cells HFM0.out.ts e
  exact Blk.ne hu HFM0.out.blk (by decide) rfl)
 have HNP:=Lib.hid (show ¬ f.vT.ownBlock = some w.heap.size from fun e=>by
  have:=(HFM0.out.ts.ge _ e).2
  omega)
 have HNR:=Lib.hid (show ¬ f.vT.ownBlock = some (w.heap.size + 1) from fun e=>by
  have:=(HFM0.out.ts.ge _ e).2
  omega)
 obtain ⟨n,hnn⟩:∃ n,f.ts.length = n:=⟨_,rfl⟩
 rw [hnn] at HVA hn
 have HLN:=Lib.hid hnn
 clear h hW hq hvA hnn
 go_enter Tryd.func102,Tryd.ntmps102
 go_wp2_with fail
 refine HeldP.wp_named (S:=fun W=>Blk W w.heap.size TP [.int .i64 x,.int .i64 y,.int .i64 z]∧Blk W (w.heap.size + 1) TL [.int .u8 a,.int .u8 b]∧FldM W f∧Below w.heap.size w W∧w.heap.size + 2≤W.heap.size) ⟨by (repeat' (first | (with_reducible refine BlkP.Blk.drew ?_) | (with_reducible refine BlkP.Blk.drewN ?_ _) | (with_reducible refine BlkP.Blk.setAt (us:=?_) (by first | omega | (simp; done) | (simp; omega)) rfl ?_ ?_) | (with_reducible refine BlkP.Blk.otherAt ?_ (by first | omega | (simp; done) | (simp; omega))) | (with_reducible refine BlkP.Blk.newA' (by first | omega | (simp; done) | (simp; omega)) rfl) | (with_reducible refine BlkP.Blk.alloc ?_ _) | (exact rfl))),by (repeat' (first | (with_reducible refine BlkP.Blk.drew ?_) | (with_reducible refine BlkP.Blk.drewN ?_ _) | (with_reducible refine BlkP.Blk.setAt (us:=?_) (by first | omega | (simp; done) | (simp; omega)) rfl ?_ ?_) | (with_reducible refine BlkP.Blk.otherAt ?_ (by first | omega | (simp; done) | (simp; omega))) | (with_reducible refine BlkP.Blk.newA' (by first | omega | (simp; done) | (simp; omega)) rfl) | (with_reducible refine BlkP.Blk.alloc ?_ _) | (exact rfl))),HFM0.out.below (by (repeat' (first | (with_reducible exact Below.refl _ _) | (with_reducible refine Below.setCell ?_ (by (first | omega | (simp; done) | (simp; omega))) _) | (with_reducible refine Below.alloc ?_ (by (first | omega | (simp; done) | (simp; omega))) _) | (with_reducible refine Below.drew ?_) | (with_reducible refine below_drewN ?_ _)))),by (repeat' (first | (with_reducible exact Below.refl _ _) | (with_reducible refine Below.setCell ?_ (by (first | omega | (simp; done) | (simp; omega))) _) | (with_reducible refine Below.alloc ?_ (by (first | omega | (simp; done) | (simp; omega))) _) | (with_reducible refine Below.drew ?_) | (with_reducible refine below_drewN ?_ _))),by simp⟩ ?_
 rintro W ⟨hp,hr,hfm,hb,hz⟩
 have HP:=Lib.hid hp
 have HR:=Lib.hid hr
 have HFM:=Lib.hid hfm
 have HBW:=Lib.hid hb
 have HAK:=Lib.hid (show RowG.Own encP TP W.drew 0 (.slice A n cA) f.ts from HVA.out ▸ hfm.ts)
 have HC8:=Lib.hid (show W.cell? ⟨f.F,9,none⟩ = some (.slice A n cA) from HVA.out ▸ hfm.blk.cell (i:=9) rfl)
 have HFL:=Lib.hid hfm.blk.lt
 clear hp hr hfm hb
 refine wp_region_noPanic ?_
 refine wp_region_held_drew (S:=fun Xw=>Blk Xw w.heap.size TP [.int .i64 x,.int .i64 y,.int .i64 z]) (by kernel_rfl) (HP.out) (fun hHeld=>?_)
 refine wpAnyH_take (i:=0) (oi:=⟨some 8,_,_,_,_,_⟩) (v:=.pointer (some ⟨f.F,0,none⟩)) rfl (by kernel_rfl) (by kernel_rfl) (by kernel_rfl) (fun _ _ _ h=>h) (Or.inl ⟨by rfl,fun Xw hSW=>by go_simp⟩) hHeld ?_
 simp only [Act.put,List.setIfInBounds_toArray,List.set_cons_zero,List.set_cons_succ]
 refine wpAnyH_take (i:=1) (oi:=⟨some 9,_,_,_,_,_⟩) (v:=.pointer (some ⟨f.F,0,none⟩)) rfl (by kernel_rfl) (by kernel_rfl) (by kernel_rfl) (fun _ _ _ h=>h) (Or.inl ⟨by rfl,fun Xw hSW=>by go_simp⟩) hHeld ?_
 simp only [Act.put,List.setIfInBounds_toArray,List.set_cons_zero,List.set_cons_succ]
 refine wpAnyH_take (i:=2) (oi:=⟨some 10,_,_,_,_,_⟩) (v:=.pointer (some ⟨f.F,0,none⟩)) rfl (by kernel_rfl) (by kernel_rfl) (by kernel_rfl) (fun _ _ _ h=>h) (Or.inl ⟨by rfl,fun Xw hSW=>by go_simp⟩) hHeld ?_
 simp only [Act.put,List.setIfInBounds_toArray,List.set_cons_zero,List.set_cons_succ]
 refine wpAnyH_take (i:=3) (oi:=⟨some 11,_,_,_,_,_⟩) (v:=.pointer (some ⟨f.F,9,none⟩)) rfl (by kernel_rfl) (by kernel_rfl) (by kernel_rfl) (fun _ _ _ h=>h) (Or.inl ⟨by rfl,fun Xw hSW=>by go_simp⟩) hHeld ?_
 simp only [Act.put,List.setIfInBounds_toArray,List.set_cons_zero,List.set_cons_succ]
 refine wpAnyH_take (i:=5) (oi:=⟨some 13,_,_,_,_,_⟩) (v:=.agg #[.int .i64 x,.int .i64 y,.int .i64 z]) rfl (by kernel_rfl) (by kernel_rfl) (by kernel_rfl) (fun _ _ _ h=>h) (Or.inl ⟨by rfl,fun Xw hSW=>by have b0:=hSW.cell (i:=0) rfl; have b1:=hSW.cell (i:=1) rfl; have b2:=hSW.cell (i:=2) rfl; go_simp⟩) hHeld ?_
 simp only [Act.put,List.setIfInBounds_toArray,List.set_cons_zero,List.set_cons_succ]
 have c8:W.cell? ⟨f.F,9,none⟩ = some (.slice A n cA):=HC8.out
 refine wpAnyH_ready (rs:=[4,6]) (by kernel_rfl) (by simp) ?_
 refine AllReadyH.cons (o:=⟨some 12,_,_,_,_,_⟩) rfl (fun K hK=>?_) (AllReadyH.cons (o:=⟨some 14,_,_,_,_,_⟩) rfl (fun K hK=>?_) AllReadyH.nil)
 ·go_simp
  refine hK.out _ _ (hHeld) (fun hHeld=>?_)
  clear hK K
  refine wpAnyH_ready (rs:=[6]) (by kernel_rfl) (by simp) ?_
  refine AllReadyH.cons (o:=⟨some 14,_,_,_,_,_⟩) rfl (fun K hK=>?_) AllReadyH.nil
  go_simp
  refine hK.out _ _ (by have q:=HP.out; (repeat' (first | (with_reducible exact q) | (with_reducible refine BlkP.Blk.drew ?_) | (with_reducible refine BlkP.Blk.drewN ?_ _) | (with_reducible refine BlkP.Blk.setAt (us:=?_) (by first | omega | (simp; done) | (simp; omega)) rfl ?_ ?_) | (with_reducible refine BlkP.Blk.otherAt ?_ (by first | omega | (simp; done) | (simp; omega))) | (with_reducible refine BlkP.Blk.newA' (by first | omega | (simp; done) | (simp; omega)) rfl) | (with_reducible refine BlkP.Blk.alloc ?_ _) | (exact rfl)))) (fun hHeld=>?_)
  clear hK K
  refine wpAnyH_ready (rs:=[7]) (by kernel_rfl) (by simp) ?_
  refine AllReadyH.cons (o:=⟨some 15,_,_,_,_,_⟩) rfl (fun K hK=>?_) AllReadyH.nil
  refine step_pushP (w0:=W.drew) (y:=(x,y,z)) (v:=.slice A n cA) (l:=f.ts) rfl (.tmp 12) (.tmp 14) rfl rfl rfl rfl HAK.out rfl HLN.out (by omega) (Nat.zero_le _) ?_
  intro g c w6 hp
  have HPU:=Lib.hid hp
  have f1:Fr (fun k=>(Value.slice A n cA).ownBlock = some k) W.drew w6:=Fr.grown hp.2.1 (fun i e=>e)
  have hb6:Blk w6 f.F TW (fcells f):=f1.blk HFM.out.blk (by rw [← HVA.out]; exact HNF.out)
  have HB6:=Lib.hid (show Blk w6 w.heap.size TP [.int .i64 x,.int .i64 y,.int .i64 z] from f1.blk HP.out (by rw [← HVA.out]; exact HNP.out))
  have c8:w6.cell? ⟨f.F,9,none⟩ = some f.vT:=hb6.cell (i:=9) rfl
  have z8:=hb6.frozen 9
  have HBB:=Lib.hid hb6
  clear hp f1 hb6
  refine hK.out _ _ (HB6.out) (fun hHeld=>?_)
  clear hK K
  refine wpAnyH_take (i:=8) (oi:=⟨some 16,_,_,_,_,_⟩) (v:=.pointer (some ⟨f.F,0,none⟩)) rfl (by kernel_rfl) (by kernel_rfl) (by kernel_rfl) (fun _ _ _ h=>h) (Or.inl ⟨by rfl,fun Xw hSW=>by go_simp⟩) hHeld ?_
  simp only [Act.put,List.setIfInBounds_toArray,List.set_cons_zero,List.set_cons_succ]
  refine wpAnyH_take (i:=9) (oi:=⟨some 17,_,_,_,_,_⟩) (v:=.pointer (some ⟨f.F,9,none⟩)) rfl (by kernel_rfl) (by kernel_rfl) (by kernel_rfl) (fun _ _ _ h=>h) (Or.inl ⟨by rfl,fun Xw hSW=>by go_simp⟩) hHeld ?_
  simp only [Act.put,List.setIfInBounds_toArray,List.set_cons_zero,List.set_cons_succ]
  refine wpAnyH_ready (rs:=[10]) (by kernel_rfl) (by simp) ?_
  refine AllReadyH.cons (o:=⟨none,_,_,_,_,_⟩) rfl (fun K hK=>?_) AllReadyH.nil
  go_simp
  refine hK.out _ _ (by have q:=HB6.out; (repeat' (first | (with_reducible exact q) | (with_reducible refine BlkP.Blk.drew ?_) | (with_reducible refine BlkP.Blk.drewN ?_ _) | (with_reducible refine BlkP.Blk.setAt (us:=?_) (by first | omega | (simp; done) | (simp; omega)) rfl ?_ ?_) | (with_reducible refine BlkP.Blk.otherAt ?_ (by first | omega | (simp; done) | (simp; omega))) | (with_reducible refine BlkP.Blk.newA' (by first | omega | (simp; done) | (simp; omega)) rfl) | (with_reducible refine BlkP.Blk.alloc ?_ _) | (exact rfl)))) (fun hHeld=>?_)
  clear hK K
  refine wpAnyH_done (by kernel_rfl) ?_ _
  refine NoPanic.normal ?_
  have HFN:=Lib.hid (show FldM (w6.setCell ⟨f.F,9,none⟩ (.slice (some ⟨g,0,none⟩) (n + 1) c)) (f.told (x,y,z) g (n + 1) c)∧Fr (SL f) W (w6.setCell ⟨f.F,9,none⟩ (.slice (some ⟨g,0,none⟩) (n + 1) c)) from FldM.notedT (w0:=W) HFM.out ⟨(by have q:=HPU.out.1; exact q),(by have q:=HPU.out.2.1; rw [HVA.out]; exact ⟨q.os,q.tape,q.output,q.size,q.block⟩),by have q:=HPU.out.2.2; rw [HVA.out]; exact q⟩)
  refine HeldP.then_named (S:=fun W'=>Blk W' w.heap.size TP [.int .i64 x,.int .i64 y,.int .i64 z]∧Blk W' (w.heap.size + 1) TL [.int .u8 a,.int .u8 b]∧FldM W' (f.told (x,y,z) g (n + 1) c)∧Fr (SL f) w W'∧w.heap.size + 2≤W'.heap.size) ⟨by have q:=HB6.out; have e:=HFL.out; (repeat' (first | (with_reducible exact q) | (with_reducible refine BlkP.Blk.drew ?_) | (with_reducible refine BlkP.Blk.drewN ?_ _) | (with_reducible refine BlkP.Blk.setAt (us:=?_) (by first | omega | (simp; done) | (simp; omega)) rfl ?_ ?_) | (with_reducible refine BlkP.Blk.otherAt ?_ (by first | omega | (simp; done) | (simp; omega))) | (with_reducible refine BlkP.Blk.newA' (by first | omega | (simp; done) | (simp; omega)) rfl) | (with_reducible refine BlkP.Blk.alloc ?_ _) | (exact rfl))),HFN.out.2.blk HR.out (by
    rintro (e | e | e)
    ·omega
    ·exact HNR.out e
    ·have:=(HFM0.out.ls.ge _ e).2
     omega),HFN.out.1,(Fr.below (SL f) HBW.out).trans HFN.out.2 (fun i hi=>.inl hi),by
    have:=HFN.out.2.size
    omega⟩ ?_
  rintro W2 ⟨hp2,hr2,hfm2,hfr2,hz2⟩
  have HGF:=Lib.hid (show f.vT.ownBlock = some g ∨ w.heap.size≤g from by
   rcases HPU.out.2.2 with q | q
   ·rw [HVA.out]; exact .inl q
   ·refine .inr ?_
    have q2:W.heap.size≤g:=q
    omega)
  have HR2:=Lib.hid hr2
  have HFM2:=Lib.hid hfm2
  have HFR2:=Lib.hid hfr2
  have p0:W2.cell? ⟨w.heap.size,0,none⟩ = some (.int .i64 x):=hp2.cell (i:=0) rfl
  have p1:W2.cell? ⟨w.heap.size,1,none⟩ = some (.int .i64 y):=hp2.cell (i:=1) rfl
  have p2:W2.cell? ⟨w.heap.size,2,none⟩ = some (.int .i64 z):=hp2.cell (i:=2) rfl
  clear hp2 hr2 hfm2 hfr2 c8 z8 HB6 HBB HFN HPU HC8 HFL HAK HP HR HFM HBW hz
  try clear c8'
  have HIX:=Lib.hid (show idxV (f.told (x,y,z) g (n + 1) c) (x,y,z) = .tuple #[.int .i64 (numB f (x,y,z)),.bool true] by unfold idxV; rw [show inB (f.told (x,y,z) g (n + 1) c) (x,y,z) = true from HIB.out]; rfl)
  have hnb:=numB_lt HW.out HIB.out
  rw [← HW.out.ls] at hnb
  obtain ⟨cc,hcc⟩:∃ cc,f.ls[numB f (x,y,z)]? = some cc:=⟨_,List.getElem?_eq_getElem hnb⟩
  obtain ⟨nb,hnbe⟩:∃ nb,numB f (x,y,z) = nb:=⟨_,rfl⟩
  have HNBE:=Lib.hid hnbe
  rw [hnbe] at HIX hnb hcc
  have HCC:=Lib.hid hcc
  obtain ⟨ln,hln⟩:∃ ln,f.ls.length = ln:=⟨_,rfl⟩
  rw [hln] at hnb
  obtain ⟨Ac,c2,hvc,hc2,_,hgc⟩:=HFM2.out.ls.form (n:=ln) hln
  obtain ⟨gc,rfl,_,hgl⟩:=hgc (by omega)
  have HVC:=Lib.hid hvc
  have HGW:=Lib.hid (show gc < w.heap.size from (HFM0.out.ls.ge gc (by rw [show f.vL = _ from hvc]; rfl)).2)
  have HFG:=Lib.hid (show f.F ≠ gc from fun e=>by
   obtain ⟨us,hu⟩:=own_cells HFM0.out.ls (g:=gc) (by rw [show f.vL = _ from hvc]; rfl)
   exact Blk.ne HFM0.out.blk hu (by decide) e)
  have hnbI:(nb:Int) < ln:=by omega
  clear hcc hln hvc hgc hnbe
  go_wp2_with fail
  go_at_call 16
  refine (fidx_c HFM2.out (told_w HW.out) HMQ.out).mono ?_
  rintro e W3 ⟨rfl,hb3⟩
  rw [HIX.out]
  have HB3:=Lib.hid hb3
  have hfm3:=HFM2.out.below hb3
  have HFM3:=Lib.hid hfm3
  have cF:W3.cell? ⟨f.F,7,none⟩ = some (.slice (some ⟨gc,0,none⟩) ln c2):=(hfm3.blk.cell (i:=7) rfl).trans (congrArg some HVC.out)
  have HO3:=Lib.hid (show RowG.Own enc2 TL W3 0 (.slice (some ⟨gc,0,none⟩) ln c2) f.ls from HVC.out ▸ hfm3.ls)
  have HL3:=Lib.hid (HR2.out.below hb3)
  have k0:W3.cell? ⟨gc,nb * 2,none⟩ = some (.int .u8 (cc.1:Int)):=HO3.out.cell (j:=0) HCC.out rfl
  have k1:W3.cell? ⟨gc,nb * 2 + 1,none⟩ = some (.int .u8 (cc.2:Int)):=HO3.out.cell (j:=1) HCC.out rfl
  have z0:=HO3.out.frozen (nb * 2)
  have z1:=HO3.out.frozen (nb * 2 + 1)
  have hgw:=HGW.out
  have hfg:=HFG.out
  have hgf:gc ≠ f.F:=fun e=>hfg e.symm
  have hg1:w.heap.size + 1 ≠ gc:=by omega
  have hg2:gc ≠ w.heap.size + 1:=by omega
  clear hb3 p0 p1 p2 hfm3
  go_wp2_with fail
  refine wp_region_noPanic ?_
  refine wp_region_held_drew (S:=fun Xw=>Xw.cell? ⟨f.F,7,none⟩ = some (.slice (some ⟨gc,0,none⟩) ln c2)∧Blk Xw (w.heap.size + 1) TL [.int .u8 a,.int .u8 b]) (by kernel_rfl) (⟨cF,HL3.out⟩) (fun hHeld=>?_)
  refine wpAnyH_take (i:=0) (oi:=⟨some 25,_,_,_,_,_⟩) (v:=.pointer (some ⟨f.F,0,none⟩)) rfl (by kernel_rfl) (by kernel_rfl) (by kernel_rfl) (fun _ _ _ h=>h) (Or.inl ⟨by rfl,fun Xw hSW=>by go_simp⟩) hHeld ?_
  simp only [Act.put,List.setIfInBounds_toArray,List.set_cons_zero,List.set_cons_succ]
  refine wpAnyH_take (i:=1) (oi:=⟨some 26,_,_,_,_,_⟩) (v:=.pointer (some ⟨f.F,0,none⟩)) rfl (by kernel_rfl) (by kernel_rfl) (by kernel_rfl) (fun _ _ _ h=>h) (Or.inl ⟨by rfl,fun Xw hSW=>by go_simp⟩) hHeld ?_
  simp only [Act.put,List.setIfInBounds_toArray,List.set_cons_zero,List.set_cons_succ]
  refine wpAnyH_take (i:=2) (oi:=⟨some 27,_,_,_,_,_⟩) (v:=.pointer (some ⟨f.F,7,none⟩)) rfl (by kernel_rfl) (by kernel_rfl) (by kernel_rfl) (fun _ _ _ h=>h) (Or.inl ⟨by rfl,fun Xw hSW=>by go_simp⟩) hHeld ?_
  simp only [Act.put,List.setIfInBounds_toArray,List.set_cons_zero,List.set_cons_succ]
  refine wpAnyH_take (i:=3) (oi:=⟨some 28,_,_,_,_,_⟩) (v:=.slice (some ⟨gc,0,none⟩) ln c2) rfl (by kernel_rfl) (by kernel_rfl) (by kernel_rfl) (fun _ _ _ h=>h) (Or.inl ⟨by rfl,fun Xw hSW=>by have q:=hSW.1; go_simp⟩) hHeld ?_
  simp only [Act.put,List.setIfInBounds_toArray,List.set_cons_zero,List.set_cons_succ]
  refine wpAnyH_take (i:=4) (oi:=⟨some 29,_,_,_,_,_⟩) (v:=.int .i64 nb) rfl (by kernel_rfl) (by kernel_rfl) (by kernel_rfl) (fun _ _ _ h=>h) (Or.inl ⟨by rfl,fun Xw hSW=>by go_simp⟩) hHeld ?_
  simp only [Act.put,List.setIfInBounds_toArray,List.set_cons_zero,List.set_cons_succ]
  refine wpAnyH_take (i:=5) (oi:=⟨some 30,_,_,_,_,_⟩) (v:=.agg #[.int .u8 a,.int .u8 b]) rfl (by kernel_rfl) (by kernel_rfl) (by kernel_rfl) (fun _ _ _ h=>h) (Or.inl ⟨by rfl,fun Xw hSW=>by have a0:=hSW.2.cell (i:=0) rfl; have a1:=hSW.2.cell (i:=1) rfl; go_simp⟩) hHeld ?_
  simp only [Act.put,List.setIfInBounds_toArray,List.set_cons_zero,List.set_cons_succ]
  refine wpAnyH_take (i:=6) (oi:=⟨some 31,_,_,_,_,_⟩) (v:=.pointer (some ⟨gc,nb * 2,none⟩)) rfl (by kernel_rfl) (by kernel_rfl) (by kernel_rfl) (fun _ _ _ h=>h) (Or.inl ⟨by rfl,fun Xw hSW=>by go_simp⟩) hHeld ?_
  simp only [Act.put,List.setIfInBounds_toArray,List.set_cons_zero,List.set_cons_succ]
  refine wpAnyH_ready (rs:=[7]) (by kernel_rfl) (by simp) ?_
  refine AllReadyH.cons (o:=⟨none,_,_,_,_,_⟩) rfl (fun K hK=>?_) AllReadyH.nil
  go_simp
  refine hK.out _ _ (⟨by have q:=cF; (repeat' (first | (with_reducible assumption) | (with_reducible refine HeldP.c_drew ?_) | (with_reducible refine HeldP.c_drewN ?_) | (with_reducible refine HeldP.c_same (by omega) ?_) | (with_reducible refine HeldP.c_other ?_ ?_) | (with_reducible refine HeldP.c_new (by first | omega | (simp; done) | (simp; omega)) ?_) | (with_reducible refine HeldP.c_alloc ?_ ?_) | (with_reducible refine HeldP.e_drew ?_) | (with_reducible refine HeldP.e_drewN ?_) | (with_reducible refine HeldP.e_set ?_) | (with_reducible refine HeldP.e_new (by first | omega | (simp; done) | (simp; omega)) ⟨_,rfl⟩) | (with_reducible refine HeldP.e_alloc ?_ ?_) | (with_reducible refine HeldP.f_drew ?_) | (with_reducible refine HeldP.f_drewN ?_) | (with_reducible refine HeldP.f_set ?_) | (with_reducible refine HeldP.f_new (by first | omega | (simp; done) | (simp; omega))) | (with_reducible refine HeldP.f_alloc ?_ ?_) | (with_reducible refine HeldP.s_drew ?_) | (with_reducible refine HeldP.s_drewN ?_) | (with_reducible refine HeldP.s_set ?_) | (with_reducible refine HeldP.s_new (by first | omega | (simp; done) | (simp; omega))) | (with_reducible refine HeldP.s_alloc ?_) | (with_reducible exact ⟨_,by assumption⟩) | omega | (intro e; simp at e; done) | (intro e; simp at e; omega) | (exact rfl) | (simp; done) | (simp; omega))),by have q:=HL3.out; (repeat' (first | (with_reducible exact q) | (with_reducible refine BlkP.Blk.drew ?_) | (with_reducible refine BlkP.Blk.drewN ?_ _) | (with_reducible refine BlkP.Blk.setAt (us:=?_) (by first | omega | (simp; done) | (simp; omega)) rfl ?_ ?_) | (with_reducible refine BlkP.Blk.otherAt ?_ (by first | omega | (simp; done) | (simp; omega))) | (with_reducible refine BlkP.Blk.newA' (by first | omega | (simp; done) | (simp; omega)) rfl) | (with_reducible refine BlkP.Blk.alloc ?_ _) | (exact rfl)))⟩) (fun hHeld=>?_)
  clear hK K
  refine wpAnyH_done (by kernel_rfl) ?_ _
  refine NoPanic.normal ?_
  go_wp2_with fail
  go_end0
  have hlm:=FldM.litM (w:=W3.drew) (f:=f.told (x,y,z) g (n + 1) c) (HFM3.out.below (Below.refl _ _).drew) HVC.out HCC.out a b
  refine ⟨rfl,g,c,by rw [HLN.out,HNBE.out]; exact hlm.1,?_,HGF.out⟩
  exact (HFR2.out.trans (Fr.below (SL f) (HB3.out.trans (Below.refl _ _).drew)) (fun i hi=>.inl hi)).trans hlm.2 (fun i hi=>.inl (.inr (.inr (by have e:i = gc:=hi; rw [e,show f.vL = _ from HVC.out]; rfl))))
 ·go_simp
  refine hK.out _ _ (by have q:=HP.out; (repeat' (first | (with_reducible exact q) | (with_reducible refine BlkP.Blk.drew ?_) | (with_reducible refine BlkP.Blk.drewN ?_ _) | (with_reducible refine BlkP.Blk.setAt (us:=?_) (by first | omega | (simp; done) | (simp; omega)) rfl ?_ ?_) | (with_reducible refine BlkP.Blk.otherAt ?_ (by first | omega | (simp; done) | (simp; omega))) | (with_reducible refine BlkP.Blk.newA' (by first | omega | (simp; done) | (simp; omega)) rfl) | (with_reducible refine BlkP.Blk.alloc ?_ _) | (exact rfl)))) (fun hHeld=>?_)
  clear hK K
  have c8':(W.alloc (.cells #[.int .i64 x,.int .i64 y,.int .i64 z] TP)).cell? ⟨f.F,9,none⟩ = some (.slice A n cA):=by have q:=HC8.out; have hl:=HFL.out; (repeat' (first | (with_reducible assumption) | (with_reducible refine HeldP.c_drew ?_) | (with_reducible refine HeldP.c_drewN ?_) | (with_reducible refine HeldP.c_same (by omega) ?_) | (with_reducible refine HeldP.c_other ?_ ?_) | (with_reducible refine HeldP.c_new (by first | omega | (simp; done) | (simp; omega)) ?_) | (with_reducible refine HeldP.c_alloc ?_ ?_) | (with_reducible refine HeldP.e_drew ?_) | (with_reducible refine HeldP.e_drewN ?_) | (with_reducible refine HeldP.e_set ?_) | (with_reducible refine HeldP.e_new (by first | omega | (simp; done) | (simp; omega)) ⟨_,rfl⟩) | (with_reducible refine HeldP.e_alloc ?_ ?_) | (with_reducible refine HeldP.f_drew ?_) | (with_reducible refine HeldP.f_drewN ?_) | (with_reducible refine HeldP.f_set ?_) | (with_reducible refine HeldP.f_new (by first | omega | (simp; done) | (simp; omega))) | (with_reducible refine HeldP.f_alloc ?_ ?_) | (with_reducible refine HeldP.s_drew ?_) | (with_reducible refine HeldP.s_drewN ?_) | (with_reducible refine HeldP.s_set ?_) | (with_reducible refine HeldP.s_new (by first | omega | (simp; done) | (simp; omega))) | (with_reducible refine HeldP.s_alloc ?_) | (with_reducible exact ⟨_,by assumption⟩) | omega | (intro e; simp at e; done) | (intro e; simp at e; omega) | (exact rfl) | (simp; done) | (simp; omega)))
  refine wpAnyH_ready (rs:=[4]) (by kernel_rfl) (by simp) ?_
  refine AllReadyH.cons (o:=⟨some 12,_,_,_,_,_⟩) rfl (fun K hK=>?_) AllReadyH.nil
  go_simp
  refine hK.out _ _ (hHeld) (fun hHeld=>?_)
  clear hK K
  refine wpAnyH_ready (rs:=[7]) (by kernel_rfl) (by simp) ?_
  refine AllReadyH.cons (o:=⟨some 15,_,_,_,_,_⟩) rfl (fun K hK=>?_) AllReadyH.nil
  refine step_pushP (w0:=W.drew) (y:=(x,y,z)) (v:=.slice A n cA) (l:=f.ts) rfl (.tmp 12) (.tmp 14) rfl rfl rfl rfl HAK.out rfl HLN.out (by omega) (Nat.zero_le _) ?_
  intro g c w6 hp
  have HPU:=Lib.hid hp
  have f1:Fr (fun k=>(Value.slice A n cA).ownBlock = some k) W.drew w6:=Fr.grown hp.2.1 (fun i e=>e)
  have hb6:Blk w6 f.F TW (fcells f):=f1.blk HFM.out.blk (by rw [← HVA.out]; exact HNF.out)
  have HB6:=Lib.hid (show Blk w6 w.heap.size TP [.int .i64 x,.int .i64 y,.int .i64 z] from f1.blk HP.out (by rw [← HVA.out]; exact HNP.out))
  have c8:w6.cell? ⟨f.F,9,none⟩ = some f.vT:=hb6.cell (i:=9) rfl
  have z8:=hb6.frozen 9
  have HBB:=Lib.hid hb6
  clear hp f1 hb6
  refine hK.out _ _ (HB6.out) (fun hHeld=>?_)
  clear hK K
  refine wpAnyH_take (i:=8) (oi:=⟨some 16,_,_,_,_,_⟩) (v:=.pointer (some ⟨f.F,0,none⟩)) rfl (by kernel_rfl) (by kernel_rfl) (by kernel_rfl) (fun _ _ _ h=>h) (Or.inl ⟨by rfl,fun Xw hSW=>by go_simp⟩) hHeld ?_
  simp only [Act.put,List.setIfInBounds_toArray,List.set_cons_zero,List.set_cons_succ]
  refine wpAnyH_take (i:=9) (oi:=⟨some 17,_,_,_,_,_⟩) (v:=.pointer (some ⟨f.F,9,none⟩)) rfl (by kernel_rfl) (by kernel_rfl) (by kernel_rfl) (fun _ _ _ h=>h) (Or.inl ⟨by rfl,fun Xw hSW=>by go_simp⟩) hHeld ?_
  simp only [Act.put,List.setIfInBounds_toArray,List.set_cons_zero,List.set_cons_succ]
  refine wpAnyH_ready (rs:=[10]) (by kernel_rfl) (by simp) ?_
  refine AllReadyH.cons (o:=⟨none,_,_,_,_,_⟩) rfl (fun K hK=>?_) AllReadyH.nil
  go_simp
  refine hK.out _ _ (by have q:=HB6.out; (repeat' (first | (with_reducible exact q) | (with_reducible refine BlkP.Blk.drew ?_) | (with_reducible refine BlkP.Blk.drewN ?_ _) | (with_reducible refine BlkP.Blk.setAt (us:=?_) (by first | omega | (simp; done) | (simp; omega)) rfl ?_ ?_) | (with_reducible refine BlkP.Blk.otherAt ?_ (by first | omega | (simp; done) | (simp; omega))) | (with_reducible refine BlkP.Blk.newA' (by first | omega | (simp; done) | (simp; omega)) rfl) | (with_reducible refine BlkP.Blk.alloc ?_ _) | (exact rfl)))) (fun hHeld=>?_)
  clear hK K
  refine wpAnyH_done (by kernel_rfl) ?_ _
  refine NoPanic.normal ?_
  have HFN:=Lib.hid (show FldM (w6.setCell ⟨f.F,9,none⟩ (.slice (some ⟨g,0,none⟩) (n + 1) c)) (f.told (x,y,z) g (n + 1) c)∧Fr (SL f) W (w6.setCell ⟨f.F,9,none⟩ (.slice (some ⟨g,0,none⟩) (n + 1) c)) from FldM.notedT (w0:=W) HFM.out ⟨(by have q:=HPU.out.1; exact q),(by have q:=HPU.out.2.1; rw [HVA.out]; exact ⟨q.os,q.tape,q.output,q.size,q.block⟩),by have q:=HPU.out.2.2; rw [HVA.out]; exact q⟩)
  refine HeldP.then_named (S:=fun W'=>Blk W' w.heap.size TP [.int .i64 x,.int .i64 y,.int .i64 z]∧Blk W' (w.heap.size + 1) TL [.int .u8 a,.int .u8 b]∧FldM W' (f.told (x,y,z) g (n + 1) c)∧Fr (SL f) w W'∧w.heap.size + 2≤W'.heap.size) ⟨by have q:=HB6.out; have e:=HFL.out; (repeat' (first | (with_reducible exact q) | (with_reducible refine BlkP.Blk.drew ?_) | (with_reducible refine BlkP.Blk.drewN ?_ _) | (with_reducible refine BlkP.Blk.setAt (us:=?_) (by first | omega | (simp; done) | (simp; omega)) rfl ?_ ?_) | (with_reducible refine BlkP.Blk.otherAt ?_ (by first | omega | (simp; done) | (simp; omega))) | (with_reducible refine BlkP.Blk.newA' (by first | omega | (simp; done) | (simp; omega)) rfl) | (with_reducible refine BlkP.Blk.alloc ?_ _) | (exact rfl))),HFN.out.2.blk HR.out (by
    rintro (e | e | e)
    ·omega
    ·exact HNR.out e
    ·have:=(HFM0.out.ls.ge _ e).2
     omega),HFN.out.1,(Fr.below (SL f) HBW.out).trans HFN.out.2 (fun i hi=>.inl hi),by
    have:=HFN.out.2.size
    omega⟩ ?_
  rintro W2 ⟨hp2,hr2,hfm2,hfr2,hz2⟩
  have HGF:=Lib.hid (show f.vT.ownBlock = some g ∨ w.heap.size≤g from by
   rcases HPU.out.2.2 with q | q
   ·rw [HVA.out]; exact .inl q
   ·refine .inr ?_
    have q2:W.heap.size≤g:=q
    omega)
  have HR2:=Lib.hid hr2
  have HFM2:=Lib.hid hfm2
  have HFR2:=Lib.hid hfr2
  have p0:W2.cell? ⟨w.heap.size,0,none⟩ = some (.int .i64 x):=hp2.cell (i:=0) rfl
  have p1:W2.cell? ⟨w.heap.size,1,none⟩ = some (.int .i64 y):=hp2.cell (i:=1) rfl
  have p2:W2.cell? ⟨w.heap.size,2,none⟩ = some (.int .i64 z):=hp2.cell (i:=2) rfl
  clear hp2 hr2 hfm2 hfr2 c8 z8 HB6 HBB HFN HPU HC8 HFL HAK HP HR HFM HBW hz
  try clear c8'
  have HIX:=Lib.hid (show idxV (f.told (x,y,z) g (n + 1) c) (x,y,z) = .tuple #[.int .i64 (numB f (x,y,z)),.bool true] by unfold idxV; rw [show inB (f.told (x,y,z) g (n + 1) c) (x,y,z) = true from HIB.out]; rfl)
  have hnb:=numB_lt HW.out HIB.out
  rw [← HW.out.ls] at hnb
  obtain ⟨cc,hcc⟩:∃ cc,f.ls[numB f (x,y,z)]? = some cc:=⟨_,List.getElem?_eq_getElem hnb⟩
  obtain ⟨nb,hnbe⟩:∃ nb,numB f (x,y,z) = nb:=⟨_,rfl⟩
  have HNBE:=Lib.hid hnbe
  rw [hnbe] at HIX hnb hcc
  have HCC:=Lib.hid hcc
  obtain ⟨ln,hln⟩:∃ ln,f.ls.length = ln:=⟨_,rfl⟩
  rw [hln] at hnb
  obtain ⟨Ac,c2,hvc,hc2,_,hgc⟩:=HFM2.out.ls.form (n:=ln) hln
  obtain ⟨gc,rfl,_,hgl⟩:=hgc (by omega)
  have HVC:=Lib.hid hvc
  have HGW:=Lib.hid (show gc < w.heap.size from (HFM0.out.ls.ge gc (by rw [show f.vL = _ from hvc]; rfl)).2)
  have HFG:=Lib.hid (show f.F ≠ gc from fun e=>by
   obtain ⟨us,hu⟩:=own_cells HFM0.out.ls (g:=gc) (by rw [show f.vL = _ from hvc]; rfl)
   exact Blk.ne HFM0.out.blk hu (by decide) e)
  have hnbI:(nb:Int) < ln:=by omega
  clear hcc hln hvc hgc hnbe
  go_wp2_with fail
  go_at_call 16
  refine (fidx_c HFM2.out (told_w HW.out) HMQ.out).mono ?_
  rintro e W3 ⟨rfl,hb3⟩
  rw [HIX.out]
  have HB3:=Lib.hid hb3
  have hfm3:=HFM2.out.below hb3
  have HFM3:=Lib.hid hfm3
  have cF:W3.cell? ⟨f.F,7,none⟩ = some (.slice (some ⟨gc,0,none⟩) ln c2):=(hfm3.blk.cell (i:=7) rfl).trans (congrArg some HVC.out)
  have HO3:=Lib.hid (show RowG.Own enc2 TL W3 0 (.slice (some ⟨gc,0,none⟩) ln c2) f.ls from HVC.out ▸ hfm3.ls)
  have HL3:=Lib.hid (HR2.out.below hb3)
  have k0:W3.cell? ⟨gc,nb * 2,none⟩ = some (.int .u8 (cc.1:Int)):=HO3.out.cell (j:=0) HCC.out rfl
  have k1:W3.cell? ⟨gc,nb * 2 + 1,none⟩ = some (.int .u8 (cc.2:Int)):=HO3.out.cell (j:=1) HCC.out rfl
  have z0:=HO3.out.frozen (nb * 2)
  have z1:=HO3.out.frozen (nb * 2 + 1)
  have hgw:=HGW.out
  have hfg:=HFG.out
  have hgf:gc ≠ f.F:=fun e=>hfg e.symm
  have hg1:w.heap.size + 1 ≠ gc:=by omega
  have hg2:gc ≠ w.heap.size + 1:=by omega
  clear hb3 p0 p1 p2 hfm3
  go_wp2_with fail
  refine wp_region_noPanic ?_
  refine wp_region_held_drew (S:=fun Xw=>Xw.cell? ⟨f.F,7,none⟩ = some (.slice (some ⟨gc,0,none⟩) ln c2)∧Blk Xw (w.heap.size + 1) TL [.int .u8 a,.int .u8 b]) (by kernel_rfl) (⟨cF,HL3.out⟩) (fun hHeld=>?_)
  refine wpAnyH_take (i:=0) (oi:=⟨some 25,_,_,_,_,_⟩) (v:=.pointer (some ⟨f.F,0,none⟩)) rfl (by kernel_rfl) (by kernel_rfl) (by kernel_rfl) (fun _ _ _ h=>h) (Or.inl ⟨by rfl,fun Xw hSW=>by go_simp⟩) hHeld ?_
  simp only [Act.put,List.setIfInBounds_toArray,List.set_cons_zero,List.set_cons_succ]
  refine wpAnyH_take (i:=1) (oi:=⟨some 26,_,_,_,_,_⟩) (v:=.pointer (some ⟨f.F,0,none⟩)) rfl (by kernel_rfl) (by kernel_rfl) (by kernel_rfl) (fun _ _ _ h=>h) (Or.inl ⟨by rfl,fun Xw hSW=>by go_simp⟩) hHeld ?_
  simp only [Act.put,List.setIfInBounds_toArray,List.set_cons_zero,List.set_cons_succ]
  refine wpAnyH_take (i:=2) (oi:=⟨some 27,_,_,_,_,_⟩) (v:=.pointer (some ⟨f.F,7,none⟩)) rfl (by kernel_rfl) (by kernel_rfl) (by kernel_rfl) (fun _ _ _ h=>h) (Or.inl ⟨by rfl,fun Xw hSW=>by go_simp⟩) hHeld ?_
  simp only [Act.put,List.setIfInBounds_toArray,List.set_cons_zero,List.set_cons_succ]
  refine wpAnyH_take (i:=3) (oi:=⟨some 28,_,_,_,_,_⟩) (v:=.slice (some ⟨gc,0,none⟩) ln c2) rfl (by kernel_rfl) (by kernel_rfl) (by kernel_rfl) (fun _ _ _ h=>h) (Or.inl ⟨by rfl,fun Xw hSW=>by have q:=hSW.1; go_simp⟩) hHeld ?_
  simp only [Act.put,List.setIfInBounds_toArray,List.set_cons_zero,List.set_cons_succ]
  refine wpAnyH_take (i:=4) (oi:=⟨some 29,_,_,_,_,_⟩) (v:=.int .i64 nb) rfl (by kernel_rfl) (by kernel_rfl) (by kernel_rfl) (fun _ _ _ h=>h) (Or.inl ⟨by rfl,fun Xw hSW=>by go_simp⟩) hHeld ?_
  simp only [Act.put,List.setIfInBounds_toArray,List.set_cons_zero,List.set_cons_succ]
  refine wpAnyH_take (i:=5) (oi:=⟨some 30,_,_,_,_,_⟩) (v:=.agg #[.int .u8 a,.int .u8 b]) rfl (by kernel_rfl) (by kernel_rfl) (by kernel_rfl) (fun _ _ _ h=>h) (Or.inl ⟨by rfl,fun Xw hSW=>by have a0:=hSW.2.cell (i:=0) rfl; have a1:=hSW.2.cell (i:=1) rfl; go_simp⟩) hHeld ?_
  simp only [Act.put,List.setIfInBounds_toArray,List.set_cons_zero,List.set_cons_succ]
  refine wpAnyH_take (i:=6) (oi:=⟨some 31,_,_,_,_,_⟩) (v:=.pointer (some ⟨gc,nb * 2,none⟩)) rfl (by kernel_rfl) (by kernel_rfl) (by kernel_rfl) (fun _ _ _ h=>h) (Or.inl ⟨by rfl,fun Xw hSW=>by go_simp⟩) hHeld ?_
  simp only [Act.put,List.setIfInBounds_toArray,List.set_cons_zero,List.set_cons_succ]
  refine wpAnyH_ready (rs:=[7]) (by kernel_rfl) (by simp) ?_
  refine AllReadyH.cons (o:=⟨none,_,_,_,_,_⟩) rfl (fun K hK=>?_) AllReadyH.nil
  go_simp
  refine hK.out _ _ (⟨by have q:=cF; (repeat' (first | (with_reducible assumption) | (with_reducible refine HeldP.c_drew ?_) | (with_reducible refine HeldP.c_drewN ?_) | (with_reducible refine HeldP.c_same (by omega) ?_) | (with_reducible refine HeldP.c_other ?_ ?_) | (with_reducible refine HeldP.c_new (by first | omega | (simp; done) | (simp; omega)) ?_) | (with_reducible refine HeldP.c_alloc ?_ ?_) | (with_reducible refine HeldP.e_drew ?_) | (with_reducible refine HeldP.e_drewN ?_) | (with_reducible refine HeldP.e_set ?_) | (with_reducible refine HeldP.e_new (by first | omega | (simp; done) | (simp; omega)) ⟨_,rfl⟩) | (with_reducible refine HeldP.e_alloc ?_ ?_) | (with_reducible refine HeldP.f_drew ?_) | (with_reducible refine HeldP.f_drewN ?_) | (with_reducible refine HeldP.f_set ?_) | (with_reducible refine HeldP.f_new (by first | omega | (simp; done) | (simp; omega))) | (with_reducible refine HeldP.f_alloc ?_ ?_) | (with_reducible refine HeldP.s_drew ?_) | (with_reducible refine HeldP.s_drewN ?_) | (with_reducible refine HeldP.s_set ?_) | (with_reducible refine HeldP.s_new (by first | omega | (simp; done) | (simp; omega))) | (with_reducible refine HeldP.s_alloc ?_) | (with_reducible exact ⟨_,by assumption⟩) | omega | (intro e; simp at e; done) | (intro e; simp at e; omega) | (exact rfl) | (simp; done) | (simp; omega))),by have q:=HL3.out; (repeat' (first | (with_reducible exact q) | (with_reducible refine BlkP.Blk.drew ?_) | (with_reducible refine BlkP.Blk.drewN ?_ _) | (with_reducible refine BlkP.Blk.setAt (us:=?_) (by first | omega | (simp; done) | (simp; omega)) rfl ?_ ?_) | (with_reducible refine BlkP.Blk.otherAt ?_ (by first | omega | (simp; done) | (simp; omega))) | (with_reducible refine BlkP.Blk.newA' (by first | omega | (simp; done) | (simp; omega)) rfl) | (with_reducible refine BlkP.Blk.alloc ?_ _) | (exact rfl)))⟩) (fun hHeld=>?_)
  clear hK K
  refine wpAnyH_done (by kernel_rfl) ?_ _
  refine NoPanic.normal ?_
  go_wp2_with fail
  go_end0
  have hlm:=FldM.litM (w:=W3.drew) (f:=f.told (x,y,z) g (n + 1) c) (HFM3.out.below (Below.refl _ _).drew) HVC.out HCC.out a b
  refine ⟨rfl,g,c,by rw [HLN.out,HNBE.out]; exact hlm.1,?_,HGF.out⟩
  exact (HFR2.out.trans (Fr.below (SL f) (HB3.out.trans (Below.refl _ _).drew)) (fun i hi=>.inl hi)).trans hlm.2 (fun i hi=>.inl (.inr (.inr (by have e:i = gc:=hi; rw [e,show f.vL = _ from HVC.out]; rfl))))
end FloodW
end Go.Proofs.YtpimkdaikoclnaaDoor
namespace Go.Proofs.YtpimkdaikoclnaaDoor
open Go.RowKit
set_option linter.unusedVariables false
set_option linter.unusedSimpArgs false
namespace FloodW
open BlkP RowG GlowW FloodP
def entK (i:Nat) (c:V × Nat):MapEntry:={ key:=.agg #[.int .i64 c.1.1,.int .i64 c.1.2.1,.int .i64 c.1.2.2],val:=.pointer (some ⟨c.2,0,none⟩),born:=i }
theorem ents_mem:∀ {l:List (V × Nat)} {s:Nat} {e:MapEntry},e ∈ ents s l↔∃ i c,l[i]? = some c∧e = entK (s + i) c
 | [],s,e=>by simp [ents]
 | c :: r,s,e=>by
  show e ∈ entK s c :: ents (s + 1) r↔_
  rw [List.mem_cons,ents_mem (l:=r)]
  constructor
  ·rintro (h | ⟨i,d,h1,h2⟩)
   ·exact ⟨0,c,rfl,h⟩
   ·exact ⟨i + 1,d,by simpa using h1,by rw [h2]; congr 1; omega⟩
  ·rintro ⟨i,d,h1,h2⟩
   cases i with
   | zero =>
    have e1:c = d:=by simpa using h1
    subst e1
    exact .inl h2
   | succ i=>exact .inr ⟨i,d,by simpa using h1,by rw [h2]; congr 1; omega⟩
theorem ents_born:∀ (l:List (V × Nat)) (s:Nat),(ents s l).map (·.born) = List.range' s l.length
 | [],s=>rfl
 | c :: r,s=>by
  show s :: (ents (s + 1) r).map (·.born) = _
  rw [ents_born r (s + 1)]
  rfl
theorem ents_nodup (l:List (V × Nat)) (s:Nat):((ents s l).map (·.born)).Nodup:=by
 rw [ents_born]
 exact List.nodup_range' (step:=1)
theorem ents_lt {l:List (V × Nat)} {e:MapEntry} (h:e ∈ (ents 0 l).toArray.toList):e.born < l.length:=by
 obtain ⟨i,c,h1,h2⟩:=ents_mem.1 (by simpa using h)
 rw [h2]
 show 0 + i < _
 have:=(List.getElem?_eq_some_iff.1 h1).1
 omega
theorem left_mem {l:List (V × Nat)} {seen:Array Nat} {e:MapEntry} (h:e ∈ (leftOf (ents 0 l).toArray seen).toList):∃ i c,l[i]? = some c∧e = entK i c∧i ∉ seen.toList:=by
 unfold leftOf at h
 simp only [Array.toList_filter,List.mem_filter,Bool.not_eq_true'] at h
 obtain ⟨i,c,h1,h2⟩:=ents_mem.1 h.1
 refine ⟨i,c,h1,by rw [h2]; congr 1; omega,fun hi=>?_⟩
 have h3:=h.2
 rw [h2] at h3
 have h4:(entK (0 + i) c).born = i:=by show 0 + i = i; omega
 rw [h4] at h3
 have:=Array.contains_iff_mem.2 (Array.mem_toList_iff.1 hi)
 rw [this] at h3
 cases h3
theorem left_none {l:List (V × Nat)} {seen:Array Nat} (h:(leftOf (ents 0 l).toArray seen).size = 0) {i:Nat} (hi:i < l.length):i ∈ seen.toList:=by
 apply Classical.byContradiction
 intro hn
 have hm:entK i l[i] ∈ (leftOf (ents 0 l).toArray seen).toList:=by
  unfold leftOf
  simp only [Array.toList_filter,List.mem_filter,Bool.not_eq_true']
  refine ⟨ents_mem.2 ⟨i,l[i],by simp [hi],by congr 1; omega⟩,?_⟩
  have h4:(entK i l[i]).born = i:=rfl
  rw [h4,← Bool.not_eq_true]
  intro hc
  exact hn (Array.mem_toList_iff.2 (Array.contains_iff_mem.1 hc))
 rw [Array.eq_empty_of_size_eq_zero h] at hm
 cases hm
def outL (l:List (V × Nat)) (ch:V→Bool) (seen:List Nat):List V:=(seen.filterMap (fun i=>(l[i]?).map (·.1))).filter ch
theorem outL_push {l:List (V × Nat)} {ch:V→Bool} {seen:List Nat} {i:Nat} {c:V × Nat} (h:l[i]? = some c):outL l ch (seen ++ [i]) = outL l ch seen ++ (if ch c.1 = true then [c.1] else []):=by
 unfold outL
 rw [List.filterMap_append,List.filter_append]
 congr 1
 simp only [List.filterMap_cons,h,Option.map_some,List.filterMap_nil]
 cases hc:ch c.1 <;> simp [hc]
theorem outL_mem {l:List (V × Nat)} {ch:V→Bool} {seen:List Nat} (hall:∀ i,i < l.length→i ∈ seen) (q:V):q ∈ outL l ch seen↔q ∈ l.map (·.1)∧ch q = true:=by
 unfold outL
 rw [List.mem_filter]
 constructor
 ·rintro ⟨h1,h2⟩
  obtain ⟨i,_,h3⟩:=List.mem_filterMap.1 h1
  cases e:l[i]? with
  | none=>rw [e] at h3; cases h3
  | some c =>
   rw [e] at h3
   have:c.1 = q:=by simpa using h3
   subst this
   exact ⟨List.mem_map.2 ⟨c,List.mem_of_getElem? e,rfl⟩,h2⟩
 ·rintro ⟨h1,h2⟩
  obtain ⟨c,hc,rfl⟩:=List.mem_map.1 h1
  obtain ⟨i,hi⟩:=List.getElem?_of_mem hc
  exact ⟨List.mem_filterMap.2 ⟨i,hall i (List.getElem?_eq_some_iff.1 hi).1,by rw [hi]; rfl⟩,h2⟩
theorem outL_nodup {l:List (V × Nat)} {ch:V→Bool} {seen:List Nat} (hl:(l.map (·.1)).Nodup) (hs:seen.Nodup):(outL l ch seen).Nodup:=by
 unfold outL
 refine List.Pairwise.filter _ ?_
 show List.Nodup _
 induction seen with
 | nil=>exact List.nodup_nil
 | cons i r ih =>
  have hr:=List.nodup_cons.1 hs
  rw [List.filterMap_cons]
  cases e:l[i]? with
  | none=>exact ih hr.2
  | some c =>
   refine List.nodup_cons.2 ⟨fun hc=>?_,ih hr.2⟩
   obtain ⟨j,hj,hj2⟩:=List.mem_filterMap.1 hc
   cases e2:l[j]? with
   | none=>rw [e2] at hj2; cases hj2
   | some d =>
    rw [e2] at hj2
    have hd:d.1 = c.1:=by simpa using hj2
    have h1:(l.map (·.1))[i]? = some c.1:=by rw [List.getElem?_map,e]; rfl
    have h2:(l.map (·.1))[j]? = some c.1:=by rw [List.getElem?_map,e2]; simp [hd]
    have:i = j:=nodup_inj hl h1 h2
    subst this
    exact hr.1 hj
end FloodW
end Go.Proofs.YtpimkdaikoclnaaDoor
namespace Go.Proofs.YtpimkdaikoclnaaDoor
open Go.Shelf
set_option linter.unusedVariables false
namespace FloodW
def sortL_ren:Go.Shelf.Ren:=⟨fun | 6=>43 | 15=>56 | 14=>55 | 28=>73 | 29=>74 | 20=>65 | 21=>66 | 22=>67 | 23=>68 | 24=>69 | 25=>70 | 26=>71 | 27=>72 | 46=>78 | 47=>79 | 48=>80 | 49=>81 | 50=>82 | 57=>84 | n=>n,fun | 22=>46 | 24=>23 | 25=>59 | 3=>3 | 39=>103 | 0=>0 | 53=>120 | 55=>122 | 4=>4 | 46=>114 | 45=>113 | 50=>53 | 5=>5 | 9=>9 | 66=>126 | 70=>130 | 76=>133 | 77=>134 | n=>n,fun | n=>n⟩
theorem sortL:Go.Proofs.SlLaysF0.n6 Tryd.prog sortL_ren:={
 mixed:=by kernel_rfl
 f6:=⟨Tryd.f43.name,by decide,Tryd.func43.trans (congrArg some (by kernel_rfl))⟩
 f14:=⟨Tryd.f55.name,by decide,Tryd.func55.trans (congrArg some (by kernel_rfl))⟩
 f15:=Tryd.func56.trans (congrArg some (by kernel_rfl))
 f20:=⟨Tryd.f65.name,by decide,Tryd.func65.trans (congrArg some (by kernel_rfl))⟩
 f21:=⟨Tryd.f66.name,by decide,Tryd.func66.trans (congrArg some (by kernel_rfl))⟩
 f22:=⟨Tryd.f67.name,by decide,Tryd.func67.trans (congrArg some (by kernel_rfl))⟩
 f23:=⟨Tryd.f68.name,by decide,Tryd.func68.trans (congrArg some (by kernel_rfl))⟩
 f24:=⟨Tryd.f69.name,by decide,Tryd.func69.trans (congrArg some (by kernel_rfl))⟩
 f25:=⟨Tryd.f70.name,by decide,Tryd.func70.trans (congrArg some (by kernel_rfl))⟩
 f26:=⟨Tryd.f71.name,by decide,Tryd.func71.trans (congrArg some (by kernel_rfl))⟩
 f27:=⟨Tryd.f72.name,by decide,Tryd.func72.trans (congrArg some (by kernel_rfl))⟩
 f28:=Tryd.func73.trans (congrArg some (by kernel_rfl))
 f29:=Tryd.func74.trans (congrArg some (by kernel_rfl))
 f46:=⟨Tryd.f78.name,by decide,Tryd.func78.trans (congrArg some (by kernel_rfl))⟩
 f47:=Tryd.func79.trans (congrArg some (by kernel_rfl))
 f48:=Tryd.func80.trans (congrArg some (by kernel_rfl))
 f49:=⟨Tryd.f81.name,by decide,Tryd.func81.trans (congrArg some (by kernel_rfl))⟩
 f50:=⟨Tryd.f82.name,by decide,Tryd.func82.trans (congrArg some (by kernel_rfl))⟩
 f57:=⟨Tryd.f84.name,by decide,Tryd.func84.trans (congrArg some (by kernel_rfl))⟩
 t0:=Tryd.underlying0
 a0:=Tryd.isAgg0
 z0:=Tryd.sizeOf0
 v0:=Tryd.zeroValue0
 t3:=Tryd.underlying3
 a3:=Tryd.isAgg3
 z3:=Tryd.sizeOf3
 v3:=Tryd.zeroValue3
 t4:=Tryd.underlying4
 a4:=Tryd.isAgg4
 z4:=Tryd.sizeOf4
 v4:=Tryd.zeroValue4
 t5:=Tryd.underlying5
 a5:=Tryd.isAgg5
 z5:=Tryd.sizeOf5
 v5:=Tryd.zeroValue5
 t9:=Tryd.underlying9
 a9:=Tryd.isAgg9
 z9:=Tryd.sizeOf9
 v9:=Tryd.zeroValue9
 t22:=Tryd.underlying46
 a22:=Tryd.isAgg46
 z22:=Tryd.sizeOf46
 v22:=Tryd.zeroValue46
 t25:=Tryd.underlying59
 a25:=Tryd.isAgg59
 z25:=Tryd.sizeOf59
 v25:=Tryd.zeroValue59
 t39:=Tryd.underlying103
 a39:=Tryd.isAgg103
 z39:=Tryd.sizeOf103
 v39:=Tryd.zeroValue103
 t45:=Tryd.underlying113
 a45:=Tryd.isAgg113
 z45:=Tryd.sizeOf113
 v45:=Tryd.zeroValue113
 t46:=Tryd.underlying114
 a46:=Tryd.isAgg114
 z46:=Tryd.sizeOf114
 v46:=Tryd.zeroValue114
 t50:=Tryd.underlying53
 a50:=Tryd.isAgg53
 z50:=Tryd.sizeOf53
 v50:=Tryd.zeroValue53
 t53:=Tryd.underlying120
 a53:=Tryd.isAgg120
 z53:=Tryd.sizeOf120
 v53:=Tryd.zeroValue120
 t55:=Tryd.underlying122
 a55:=Tryd.isAgg122
 z55:=Tryd.sizeOf122
 v55:=Tryd.zeroValue122
 t66:=Tryd.underlying126
 a66:=Tryd.isAgg126
 z66:=Tryd.sizeOf126
 v66:=Tryd.zeroValue126
 t70:=Tryd.underlying130
 a70:=Tryd.isAgg130
 z70:=Tryd.sizeOf130
 v70:=Tryd.zeroValue130
 t76:=Tryd.underlying133
 a76:=Tryd.isAgg133
 z76:=Tryd.sizeOf133
 v76:=Tryd.zeroValue133
 t77:=Tryd.underlying134
 a77:=Tryd.isAgg134
 z77:=Tryd.sizeOf134
 v77:=Tryd.zeroValue134 }
end FloodW
end Go.Proofs.YtpimkdaikoclnaaDoor
namespace Go.Proofs.YtpimkdaikoclnaaDoor
open Go.RowKit
set_option linter.unusedVariables false
set_option linter.unusedSimpArgs false
namespace FloodW
open BlkP RowG GlowW FloodP Go.Sort
def Grw (w w':World):Prop:=∃ q os,w' = grow (w.drewN q) os
theorem Grw.refl (w:World):Grw w w:=⟨0,#[],by rw [grow_empty]; rfl⟩
theorem Grw.alloc {w W:World} (h:Grw w W) (o:Obj):Grw w (W.alloc o):=by
 obtain ⟨q,os,rfl⟩:=h
 exact ⟨q,os ++ #[o],by rw [alloc_eq_grow,grow_grow]⟩
theorem Grw.drew {w W:World} (h:Grw w W):Grw w W.drew:=by
 obtain ⟨q,os,rfl⟩:=h
 exact ⟨q + 1,os,rfl⟩
theorem Grw.drewN {w W:World} (h:Grw w W) (n:Nat):Grw w (W.drewN n):=by
 obtain ⟨q,os,rfl⟩:=h
 exact ⟨q + n,os,by simp [World.drewN,grow,Nat.add_assoc]⟩
theorem keepG {x y z u v t:Int} {w W:World} (o:Obj) (h:(W.cell? ⟨w.heap.size,0,none⟩ = some (.int .i64 x)∧W.cell? ⟨w.heap.size,1,none⟩ = some (.int .i64 y)∧W.cell? ⟨w.heap.size,2,none⟩ = some (.int .i64 z)∧W.cell? ⟨w.heap.size + 1,0,none⟩ = some (.int .i64 u)∧W.cell? ⟨w.heap.size + 1,1,none⟩ = some (.int .i64 v)∧W.cell? ⟨w.heap.size + 1,2,none⟩ = some (.int .i64 t)∧w.heap.size + 1 < W.heap.size∧Below w.heap.size w W)∧Grw w W) :
  ((W.alloc o).cell? ⟨w.heap.size,0,none⟩ = some (.int .i64 x)∧(W.alloc o).cell? ⟨w.heap.size,1,none⟩ = some (.int .i64 y)∧(W.alloc o).cell? ⟨w.heap.size,2,none⟩ = some (.int .i64 z)∧(W.alloc o).cell? ⟨w.heap.size + 1,0,none⟩ = some (.int .i64 u)∧(W.alloc o).cell? ⟨w.heap.size + 1,1,none⟩ = some (.int .i64 v)∧(W.alloc o).cell? ⟨w.heap.size + 1,2,none⟩ = some (.int .i64 t)∧w.heap.size + 1 < (W.alloc o).heap.size∧Below w.heap.size w (W.alloc o))∧Grw w (W.alloc o) :=
 ⟨PlaceW.keep2 ((Below.refl _ _).alloc (Nat.le_refl _) _) h.1,h.2.alloc o⟩
set_option maxHeartbeats 1000000 in
theorem cmpG_c {x y z u v t n:Int} (h:PlaceW.cmpOf x y z u v t = n) (w:World) :
  Calls Tryd.prog 44 #[.agg #[.int .i64 x,.int .i64 y,.int .i64 z],.agg #[.int .i64 u,.int .i64 v,.int .i64 t]] w fun e w'=>e = .returned (.int .i64 n)∧Grw w w':=by
 obtain ⟨a,ha⟩:∃ a,PlaceW.cmpI x u = a:=⟨_,rfl⟩
 obtain ⟨b,hb⟩:∃ b,PlaceW.cmpI z t = b:=⟨_,rfl⟩
 obtain ⟨c,hc⟩:∃ c,PlaceW.cmpI y v = c:=⟨_,rfl⟩
 have H:Hid (PlaceW.firstNZ [a,b,c] = n):=Lib.hid (by rw [← h,PlaceW.cmpOf,ha,hb,hc])
 have HA:=Lib.hid ha
 have HB:=Lib.hid hb
 have HC:=Lib.hid hc
 clear h ha hb hc
 go_enter Tryd.func44,Tryd.ntmps44
 go_wp2_with fail
 go_region_held3 (fun w'=>(w'.cell? ⟨w.heap.size,0,none⟩ = some (.int .i64 x)∧w'.cell? ⟨w.heap.size,1,none⟩ = some (.int .i64 y)∧w'.cell? ⟨w.heap.size,2,none⟩ = some (.int .i64 z)∧w'.cell? ⟨w.heap.size + 1,0,none⟩ = some (.int .i64 u)∧w'.cell? ⟨w.heap.size + 1,1,none⟩ = some (.int .i64 v)∧w'.cell? ⟨w.heap.size + 1,2,none⟩ = some (.int .i64 t)∧w.heap.size + 1 < w'.heap.size∧Below w.heap.size w w')∧Grw w w')
  (first | assumption | (exact ⟨⟨by simp,by simp,by simp,by simp,by simp,by simp,by simp,(((Below.refl _ _).alloc (Nat.le_refl _) _).alloc (by simp) _).drew⟩,(((Grw.refl _).alloc _).alloc _).drew⟩) | (exact keepG _ (by assumption)))
  (first | (go_at_call 58; (first | (with_reducible refine (PlaceW.compare_c HA.out _).mono ?_) | (with_reducible refine (PlaceW.compare_c HB.out _).mono ?_) | (with_reducible refine (PlaceW.compare_c HC.out _).mono ?_)); rintro e w' ⟨rfl,rfl⟩) | (go_at_call 57; refine (PlaceW.or_c (l:=[a,b,c]) _ rfl (by simp) (PlaceW.cells3_new _ _ (by simp)) H.out).mono ?_; rintro e w' ⟨rfl,rfl⟩))
 go_wp2
 go_ret
 refine ⟨rfl,?_⟩
 repeat' (first | (with_reducible exact Grw.refl _) | (with_reducible refine Grw.alloc ?_ _) | (with_reducible refine Grw.drew ?_) | (with_reducible refine Grw.drewN ?_ _))
def cfP (a b:V):Int:=PlaceW.cmpOf a.1 a.2.1 a.2.2 b.1 b.2.1 b.2.2
def ltP (a b:V):Prop:=a.1 < b.1 ∨ (a.1 = b.1∧(a.2.2 < b.2.2 ∨ (a.2.2 = b.2.2∧a.2.1 < b.2.1)))
theorem cf_lt (a b:V):cfP a b < 0↔ltP a b:=by
 unfold cfP ltP PlaceW.cmpOf PlaceW.cmpI
 by_cases h1:a.1 < b.1
 ·simp [h1,PlaceW.firstNZ]
 ·by_cases h2:b.1 < a.1
  ·have:¬ a.1 = b.1:=by omega
   simp [h1,h2,this,PlaceW.firstNZ]
  ·have e1:a.1 = b.1:=by omega
   by_cases h3:a.2.2 < b.2.2
   ·simp [h1,h2,e1,h3,PlaceW.firstNZ]
   ·by_cases h4:b.2.2 < a.2.2
    ·have:¬ a.2.2 = b.2.2:=by omega
     simp [h1,h2,e1,h3,h4,this,PlaceW.firstNZ]
    ·have e2:a.2.2 = b.2.2:=by omega
     by_cases h5:a.2.1 < b.2.1
     ·simp [h1,h2,e1,h3,h4,e2,h5,PlaceW.firstNZ]
     ·by_cases h6:b.2.1 < a.2.1
      ·simp [h1,h2,e1,h3,h4,e2,h5,h6,PlaceW.firstNZ]
      ·simp [h1,h2,e1,h3,h4,e2,h5,h6,PlaceW.firstNZ]
theorem lt_true {a b:V}:ltOf cfP a b = true↔ltP a b:=by
 unfold ltOf
 rw [decide_eq_true_eq]
 exact cf_lt a b
theorem lt_false {a b:V}:ltOf cfP a b = false↔¬ ltP a b:=by
 rw [← Bool.not_eq_true,lt_true]
theorem swoP:SWO (ltOf cfP) where
 irrefl x:=by
  rw [lt_false]
  unfold ltP
  omega
 trans x y z h1 h2:=by
  rw [lt_true] at *
  unfold ltP at *
  omega
 ntrans x y z h1 h2:=by
  rw [lt_false] at *
  unfold ltP at *
  omega
theorem totP (x y:V) (h1:ltOf cfP x y = false) (h2:ltOf cfP y x = false):x = y:=by
 rw [lt_false] at h1 h2
 unfold ltP at h1 h2
 exact Prod.ext (by omega) (Prod.ext (by omega) (by omega))
def sortP (l:List V):List V:=l.mergeSort fun x y=>!(ltOf cfP y x)
theorem sortP_mem {l:List V} {q:V}:q ∈ sortP l↔q ∈ l:=List.mem_mergeSort
theorem sortP_len (l:List V):(sortP l).length = l.length:=List.length_mergeSort l
theorem sortP_dup {l:List V} (h:l.Nodup):(sortP l).Nodup:=((List.mergeSort_perm l _).nodup_iff).2 h
theorem sortP_rises {l:List V} (h:l.Nodup):(sortP l).Pairwise ltP:=by
 have h1:(sortP l).Pairwise (fun x y=>(!(ltOf cfP y x)) = true):=List.pairwise_mergeSort (fun a b c h1 h2=>by
  rw [Bool.not_eq_true'] at *
  exact swoP.ntrans _ _ _ h2 h1) (fun a b=>by
  rw [Bool.or_eq_true,Bool.not_eq_true',Bool.not_eq_true',lt_false,lt_false]
  unfold ltP
  omega) l
 have h2:=sortP_dup h
 refine List.Pairwise.imp₂ (fun a b hab hne=>?_) h1 h2
 rw [Bool.not_eq_true',lt_false] at hab
 apply Classical.byContradiction
 intro hn
 exact hne (totP a b (lt_false.2 hn) (lt_false.2 hab))
theorem flatK_list (l:List V):(flatK encP.f 3 l.toArray).toList = flat encP l:=by
 apply List.ext_getElem?
 intro j
 have hs:(flatK encP.f 3 l.toArray).size = l.length * 3:=by simp
 have hf:(flat encP l).length = l.length * 3:=flat_len l
 by_cases hj:j < l.length * 3
 ·have hi:j / 3 < l.length:=Nat.div_lt_of_lt_mul (by omega)
  have h1:=flat_get (e:=encP) (l:=l) (i:=j / 3) (j:=j % 3) (List.getElem?_eq_getElem hi) (Nat.mod_lt _ (by decide))
  have e:j / 3 * encP.k + j % 3 = j:=by
   show j / 3 * 3 + j % 3 = j
   omega
  rw [e] at h1
  rw [h1,Array.getElem?_toList,Array.getElem?_eq_getElem (by omega)]
  have h2:=get_flatK encP.f 3 l.toArray j (by simpa using hj)
  rw [getElem!_pos _ j (by omega)] at h2
  rw [h2]
  have h3:(l.toArray)[j / 3]! = l[j / 3]:=by
   rw [getElem!_pos _ _ (by simpa using hi)]
   simp
  rw [h3]
  have h4:j % 3 < (encP.f l[j / 3]).length:=by
   rw [encP.len]
   exact Nat.mod_lt _ (by decide)
  rw [getElem!_pos (encP.f l[j / 3]) (j % 3) h4,List.getElem?_eq_getElem h4]
 ·rw [List.getElem?_eq_none (l:=(flatK encP.f 3 l.toArray).toList) (by rw [Array.length_toList,hs]; omega),List.getElem?_eq_none (l:=flat encP l) (by rw [hf]; omega)]
section
variable {w:World} {B g n c:Nat} {l:List V}
theorem own_holds (h:RowG.Own encP TP w B (.slice (some ⟨g,0,none⟩) n c) l):HoldsK encP.f 3 w g 0 l.toArray:=by
 intro j hj
 have hj':j < l.length * 3:=by simpa using hj
 have hi:j / 3 < l.length:=Nat.div_lt_of_lt_mul (by omega)
 refine ⟨?_,h.frozen _⟩
 have h4:j % 3 < (encP.f l[j / 3]).length:=by
  rw [encP.len]
  exact Nat.mod_lt _ (by decide)
 have h1:=h.cell (i:=j / 3) (j:=j % 3) (List.getElem?_eq_getElem hi) (List.getElem?_eq_getElem h4)
 have e:j / 3 * encP.k + j % 3 = j:=by
  show j / 3 * 3 + j % 3 = j
  omega
 rw [e] at h1
 rw [Nat.zero_add,h1,get_flatK encP.f 3 l.toArray j (by simpa using hj')]
 have h3:(l.toArray)[j / 3]! = l[j / 3]:=by
  rw [getElem!_pos _ _ (by simpa using hi)]
  simp
 rw [h3,getElem!_pos (encP.f l[j / 3]) (j % 3) h4]
 rfl
theorem heap_sortedK {os:Array Obj} {cur:Array Value} {e:TypeId} {fr:Nat × Nat} {m:Nat} (d:Array V) (hb:w.heap[g]? = some (.cells cur e fr)) :
  (sortWorldK encP.f 3 w g 0 m d os).heap[g]? = some (.cells (putCells id 0 (flatK encP.f 3 d) cur) e fr):=by
 have hg:g < w.heap.size:=(Array.getElem?_eq_some_iff.1 hb).1
 unfold sortWorldK putRowK
 rw [heap_grow_old _ _ (by simpa [putRow,mapBlock] using hg)]
 simp [putRow,mapBlock,Sort.ahead,Array.getElem?_modify,hb,onCells]
theorem grownBy_sortedK {os:Array Obj} {m:Nat} (d:Array V):w.grownBy (sortWorldK encP.f 3 w g 0 m d os) (some g):=by
 refine ⟨rfl,rfl,rfl,by simp [sortWorldK,putRowK,grow,putRow,mapBlock],fun k hk hne=>?_⟩
 unfold sortWorldK putRowK
 rw [heap_grow_old _ _ (by simpa [putRow,mapBlock] using hk)]
 have:g ≠ k:=fun e=>hne (by rw [e])
 simp [putRow,mapBlock,Sort.ahead,Array.getElem?_modify,this]
theorem take_putK (cur:Array Value) (l:List V) (h:l.length * 3≤cur.size):(putCells id 0 (flatK encP.f 3 l.toArray) cur).toList.take (l.length * 3) = flat encP l:=by
 have hf:(flat encP l).length = l.length * 3:=flat_len l
 apply List.ext_getElem?
 intro j
 by_cases hj:j < l.length * 3
 ·rw [List.getElem?_take_of_lt hj,Array.getElem?_toList,← flatK_list,Array.getElem?_toList]
  simp [putCells,hj,show j < cur.size by omega]
 ·rw [List.getElem?_take_eq_none (by omega),List.getElem?_eq_none (by omega)]
theorem own_sortedK {os:Array Obj} {m:Nat} {l':List V} (h:RowG.Own encP TP w B (.slice (some ⟨g,0,none⟩) n c) l) (hl:l'.length = l.length):RowG.Own encP TP (sortWorldK encP.f 3 w g 0 m l'.toArray os) B (.slice (some ⟨g,0,none⟩) n c) l':=by
 unfold RowG.Own at h ⊢
 refine ⟨flat_len l',?_⟩
 rcases h.2 with ⟨h0,_⟩ | ⟨g',cap,cur,h0,hB,hg,hn,hc,hs,ht⟩
 ·cases h0
 ·injection h0 with h0 h1 h2
  injection h0 with h0
  injection h0 with h0
  subst h0 h2
  refine .inr ⟨g,c,_,by rw [hl,← h1],hB,heap_sortedK _ hg,by rw [hl]; exact hn,hc,by simpa [putCells] using hs,?_⟩
  have hs':cur.size = c * 3:=hs
  rw [hl,← hl]
  exact take_putK cur l' (by rw [hl,hs']; exact Nat.mul_le_mul_right _ hn)
end
theorem cmpLaysP (blk off size:Nat) (w:World):CmpLays Tryd.prog 44 #[] encP.f 3 cfP blk off size w:=fun m os dk _ x y=>(cmpG_c (x:=x.1) (y:=x.2.1) (z:=x.2.2) (u:=y.1) (v:=y.2.1) (t:=y.2.2) rfl _).mono (by
 rintro e w' ⟨rfl,h⟩
 exact ⟨rfl,h⟩)
theorem isAggP (w:World):(isAgg TP).run Tryd.prog w = .ok true w:=by kernel_rfl
theorem sizeP (w:World):(Go.sizeOf TP).run Tryd.prog w = .ok 3 w:=by kernel_rfl
theorem sortF_c {w:World} {B g n c:Nat} {l:List V} (h:RowG.Own encP TP w B (.slice (some ⟨g,0,none⟩) n c) l) (hl:l.length = n) (hn:n≤1000000) :
  Calls Tryd.prog 43 #[.slice (some ⟨g,0,none⟩) n c,.func (.func 44) #[] #[]] w fun e w'=>e = .returned (.tuple #[])∧w.grownBy w' (some g)∧RowG.Own encP TP w' B (.slice (some ⟨g,0,none⟩) n c) (sortP l):=by
 have hglt:g < w.heap.size:=(h.ge g rfl).2
 have hH:=own_holds h
 have eg:∀ args w,(callFunc 44 args).run Tryd.prog w = .ok (.enter 44 args) w:=enters_of Tryd.func44 (by kernel_rfl) rfl
 have hcon:=AnyQ.slices_SortFunc_total (P:=Tryd.prog) sortL 3 isAggP sizeP encP.f encP.len encP.one cfP swoP 44 #[] g 0 c l.toArray w eg (cmpLaysP g 0 _ w) hH hglt (by simp; omega) totP
 rw [show l.toArray.size = n by simpa using hl] at hcon
 refine hcon.mono ?_
 rintro e w' ⟨rfl,m,os,rfl⟩
 exact ⟨rfl,grownBy_sortedK _,own_sortedK h (sortP_len l)⟩
theorem sortF_none {w:World} {A:Option Addr} {c:Nat} :
  Calls Tryd.prog 43 #[.slice A 0 c,.func (.func 44) #[] #[]] w fun e w'=>e = .returned (.tuple #[])∧w' = w :=
 AnyF.slices_SortFunc_none (P:=Tryd.prog) (ρ:=sortL_ren) { sortL with } A c (.func (.func 44) #[] #[]) w
end FloodW
end Go.Proofs.YtpimkdaikoclnaaDoor
namespace Go.Proofs.YtpimkdaikoclnaaDoor
open Go.RowKit
set_option linter.unusedVariables false
set_option linter.unusedSimpArgs false
namespace FloodW
open BlkP RowG GlowW FloodP
def chg (g:Gh) (q:V):Bool:=decide (g.nw false q ≠ wasB g.f false q ∨ g.nw true q ≠ wasB g.f true q)
def seenAt (W:World) (r:Nat):Nat:=match W.heap[r]? with
 | some (.mapIter _ _ s _)=>s.size
 | _=>0
structure Oth (w:World) (g:Gh) (r:Nat) (seen:Array Nat) (v:Value) (W:World):Prop where
 it:∃ c0,W.heap[r]? = some (.mapIter (some g.M) g.kn.length seen c0)∧g.kn.length≤c0
 dup:seen.toList.Nodup
 lt:∀ i ∈ seen.toList,i < g.kn.length
 sx:Sx W g
 go:Go g w g W
 row:LocR W g v (outL g.kn (chg g) seen.toList)
 new:∀ k,v.ownBlock = some k→r < k
def OthR (w:World) (g:Gh) (v:Value) (W:World):Prop:=∃ seen,Oth w g w.heap.size seen v W
structure Came (w:World) (g:Gh) (r:Nat) (seen:Array Nat) (i:Nat) (v:Value) (W:World):Prop where
 it:W.heap[r]? = some (.mapIter (some g.M) g.kn.length (seen.push i) g.kn.length)
 dup:(seen.push i).toList.Nodup
 lt:∀ j ∈ (seen.push i).toList,j < g.kn.length
 sx:Sx W g
 go:Go g w g W
 row:LocR W g v (outL g.kn (chg g) seen.toList)
 new:∀ k,v.ownBlock = some k→r < k
 few:(outL g.kn (chg g) seen.toList).length≤1800
theorem Oth.came {w:World} {g:Gh} {seen:Array Nat} {v:Value} {W w1:World} {i:Nat} {c:V × Nat} (h0:Sx w g) (h:Oth w g w.heap.size seen v W) (hw:w1 = W ∨ w1 = W.drew) (hi:g.kn[i]? = some c) (hni:i ∉ seen.toList) :
  Came w g w.heap.size seen i v (ChangeMaps.setBlock w1 w.heap.size (.mapIter (some g.M) g.kn.length (seen.push i) g.kn.length)):=by
 obtain ⟨c0,hit,_⟩:=h.it
 have hb:Below W.heap.size W w1:=by
  rcases hw with e | e
  ·rw [e]; exact Below.refl _ _
  ·rw [e]; exact (Below.refl _ _).drew
 have hit1:w1.heap[w.heap.size]? = some (.mapIter (some g.M) g.kn.length seen c0):=by
  rcases hw with e | e <;> rw [e] <;> exact hit
 have hn:¬ Ss g w.heap.size:=h0.st.new (Nat.le_refl _)
 have hput:ChangeMaps.setBlock w1 w.heap.size (.mapIter (some g.M) g.kn.length (seen.push i) g.kn.length) = w1.putObj w.heap.size (.mapIter (some g.M) g.kn.length (seen.push i) g.kn.length):=rfl
 rw [hput]
 have hrow:=h.row.below hb
 refine ⟨World.putObj_heap_same (Array.getElem?_eq_some_iff.1 hit1).1,?_,fun j hj=>?_,(h.sx.below hb).put hit1 rfl hn h0.tab.size _,(h.go.trans (Go.below g hb)).grown (grownBy_putObj' w1 w.heap.size _) (fun k e=>by injection e with e; omega),⟨(put_fr w1 w.heap.size _).own hrow.1 (fun k e e2=>?_),hrow.2⟩,h.new,?_⟩
 ·rw [Array.toList_push]
  refine List.nodup_append.2 ⟨h.dup,by simp,fun a ha b hb2 e=>?_⟩
  rw [List.mem_singleton] at hb2
  exact hni (by rw [← hb2,← e]; exact ha)
 ·rw [Array.toList_push] at hj
  rcases List.mem_append.1 hj with hj | hj
  ·exact h.lt j hj
  ·rw [List.mem_singleton] at hj
   rw [hj]
   exact (List.getElem?_eq_some_iff.1 hi).1
 ·subst e2
  obtain ⟨us,hu⟩:=own_cells hrow.1 e
  exact not_at hit1 rfl hu rfl
 ·have h1:=nodup_len (outL_nodup (ch:=chg g) h0.st.dup h.dup) (m:=g.kn.map (·.1)) (fun q hq=>by
   unfold outL at hq
   obtain ⟨hq,_⟩:=List.mem_filter.1 hq
   obtain ⟨j,_,hj⟩:=List.mem_filterMap.1 hq
   cases e:g.kn[j]? with
   | none=>rw [e] at hj; cases hj
   | some d =>
    rw [e] at hj
    have:d.1 = q:=by simpa using hj
    exact List.mem_map.2 ⟨d,List.mem_of_getElem? e,this⟩)
  have h2:=h0.st.kn_le
  rw [List.length_map] at h1
  omega
theorem seenAt_of {W:World} {r:Nat} {a:Option Nat} {b c:Nat} {s:Array Nat} (h:W.heap[r]? = some (.mapIter a b s c)):seenAt W r = s.size:=by
 unfold seenAt
 rw [h]
theorem nodup_lenN:∀ {l m:List Nat},l.Nodup→(∀ q,q ∈ l→q ∈ m)→l.length≤m.length
 | [],m,_,_=>by simp
 | x :: r,m,h,hs=>by
  have hx:=hs x (by simp)
  have hr:=List.nodup_cons.1 h
  have:=nodup_lenN (l:=r) (m:=m.erase x) hr.2 (fun q hq=>by
   have hne:q ≠ x:=fun e=>hr.1 (e ▸ hq)
   exact (List.mem_erase_of_ne hne).2 (hs q (by simp [hq])))
  rw [List.length_erase_of_mem hx] at this
  have hpos:=List.length_pos_of_mem hx
  simp only [List.length_cons]
  omega
theorem Came.room {w W:World} {g:Gh} {r i:Nat} {seen:Array Nat} {v:Value} (h:Came w g r seen i v W):seen.size + 1≤g.kn.length:=by
 have:=nodup_lenN h.dup (m:=List.range g.kn.length) (fun q hq=>List.mem_range.2 (h.lt q hq))
 simpa using this
theorem Oth.less {w W W0:World} {g:Gh} {r i:Nat} {seen:Array Nat} {v:Value} (h:Oth w g r (seen.push i) v W) (h0:seenAt W0 r = seen.size) (hr:seen.size + 1≤g.kn.length):g.kn.length - seenAt W r < g.kn.length - seenAt W0 r:=by
 obtain ⟨c9,h9,_⟩:=h.it
 rw [seenAt_of h9,h0,Array.size_push]
 omega
section
variable {w W W' W5 W7:World} {g:Gh} {r i:Nat} {seen:Array Nat} {v:Value} {c:V × Nat}
theorem Came.below (h:Came w g r seen i v W) (hb:Below W.heap.size W W'):Came w g r seen i v W' :=
 ⟨(hb.block r (Array.getElem?_eq_some_iff.1 h.it).1).trans h.it,h.dup,h.lt,h.sx.below hb,h.go.trans (Go.below g hb),h.row.below hb,h.new,h.few⟩
theorem Came.no (h:Came w g r seen i v W) (hi:g.kn[i]? = some c) (hc:chg g c.1 = false):Oth w g r (seen.push i) v W :=
 ⟨⟨_,h.it,Nat.le_refl _⟩,h.dup,h.lt,h.sx,h.go,by rw [Array.toList_push,outL_push hi,hc,if_neg (by simp),List.append_nil]; exact h.row,h.new⟩
theorem Came.yes {n gr cp:Nat} (h0:Sx w g) (hr:w.heap.size≤r) (h:Came w g r seen i v W) (hi:g.kn[i]? = some c) (hc:chg g c.1 = true) (hp:Pushed encP TP W 0 v (outL g.kn (chg g) seen.toList) c.1 n gr cp W5):Oth w g r (seen.push i) (.slice (some ⟨gr,0,none⟩) n cp) W5:=by
 obtain ⟨ho,hg,hfr⟩:=hp
 have hrl:=(Array.getElem?_eq_some_iff.1 h.it).1
 have gn:r < gr∧¬ Ss g gr:=by
  rcases hfr with q | q
  ·exact ⟨h.new gr q,h.row.2 gr q⟩
  ·exact ⟨by omega,h.sx.st.new q⟩
 have hf:Fr (fun j=>v.ownBlock = some j) W W5:=Fr.grown hg (fun i e=>e)
 refine ⟨⟨_,(hf.block r hrl (fun e=>by have:=h.new r e; omega)).trans h.it,Nat.le_refl _⟩,h.dup,h.lt,h0.grownC (More.refl g).toC h.sx hg (fun k hk=>⟨by have:=h.new k hk; omega,h.row.2 k hk⟩),h.go.grown hg (fun k hk=>by have:=h.new k hk; omega),⟨by rw [Array.toList_push,outL_push hi,hc,if_pos rfl]; exact ho,fun k hk=>?_⟩,fun k hk=>?_⟩ <;>
 ·have e:gr = k:=by simpa [Value.ownBlock] using hk
  rw [← e]
  first | exact gn.2 | exact gn.1
end
def OthersP (w:World) (g:Gh) (e:Ending) (w':World):Prop:=∃ T A n c,e = .returned (.slice A n c)∧T.length = n∧T.Nodup∧(∀ q,q ∈ T↔q ∈ g.kn.map (·.1)∧chg g q = true)∧T.Pairwise ltP∧Sx w' g∧Go g w g w'∧LocR w' g (.slice A n c) T∧∀ k,(Value.slice A n c).ownBlock = some k→w.heap.size≤k
theorem Oth.few {w W:World} {g:Gh} {r:Nat} {seen:Array Nat} {v:Value} (h:Oth w g r seen v W) (h0:Sx w g):(outL g.kn (chg g) seen.toList).length≤1800:=by
 have h1:=nodup_len (outL_nodup (ch:=chg g) h0.st.dup h.dup) (m:=g.kn.map (·.1)) (fun q hq=>by
  unfold outL at hq
  obtain ⟨hq,_⟩:=List.mem_filter.1 hq
  obtain ⟨j,_,hj⟩:=List.mem_filterMap.1 hq
  cases e:g.kn[j]? with
  | none=>rw [e] at hj; cases hj
  | some d =>
   rw [e] at hj
   have:d.1 = q:=by simpa using hj
   exact List.mem_map.2 ⟨d,List.mem_of_getElem? e,this⟩)
 have h2:=h0.st.kn_le
 rw [List.length_map] at h1
 omega
set_option maxRecDepth 100000 in
set_option maxHeartbeats 16000000 in
theorem others_c {w:World} {g:Gh} (h:Sx w g) :
  Calls Tryd.prog 27 #[.pointer (some ⟨g.wk,0,none⟩)] w (OthersP w g):=by
 have HS:=Lib.hid h
 have k5:w.cell? ⟨g.wk,5,none⟩ = some (.map (some g.M)):=h.st.work.cell (i:=5) rfl
 have hr:=run_range_map (P:=Tryd.prog) w TM TP 75 g.M _ _ underM h.st.map
 clear h
 go_enter Tryd.func27,Tryd.ntmps27
 go_wp2_with fail
 clear k5 hr
 go_loopw [3] (fun v wr=>OthR w g v wr) (fun _ W=>g.kn.length - seenAt W w.heap.size)
 case atStart =>
  refine ⟨#[],⟨_,heap_alloc_new w _,Nat.le_refl _⟩,List.nodup_nil,fun i hi=>by simp at hi,HS.out.below (by (repeat' (first | (with_reducible exact Below.refl _ _) | (with_reducible refine Below.setCell ?_ (by (first | omega | (simp; done) | (simp; omega))) _) | (with_reducible refine Below.alloc ?_ (by (first | omega | (simp; done) | (simp; omega))) _) | (with_reducible refine Below.drew ?_) | (with_reducible refine below_drewN ?_ _)))),Go.below g (by (repeat' (first | (with_reducible exact Below.refl _ _) | (with_reducible refine Below.setCell ?_ (by (first | omega | (simp; done) | (simp; omega))) _) | (with_reducible refine Below.alloc ?_ (by (first | omega | (simp; done) | (simp; omega))) _) | (with_reducible refine Below.drew ?_) | (with_reducible refine below_drewN ?_ _)))),⟨Own.nil _ _ _ _,fun k hk=>by cases hk⟩,fun k hk=>by cases hk⟩
 case round =>
  obtain ⟨seen,ho⟩:=hrel
  obtain ⟨c0,hit,hc0⟩:=ho.it
  have HO:=Lib.hid ho
  rcases run_next_at (P:=Tryd.prog) wr 0 w.heap.size g.M g.kn.length c0 seen _ _ hit ho.sx.st.map (fun x hx=>ents_lt hx) hc0 with ⟨hz,hnx⟩ | ⟨e,he,w1,hw1,hnx⟩
  ·have HALL:=Lib.hid (show ∀ i,i < g.kn.length→i ∈ seen.toList from fun i hi=>left_none hz hi)
   have HLT:=Lib.hid ho.row.1
   obtain ⟨ln,hln⟩:∃ ln,(outL g.kn (chg g) seen.toList).length = ln:=⟨_,rfl⟩
   obtain ⟨A3,c3,hv,_,_,hA3⟩:=ho.row.1.form hln
   subst hv
   have HLN:=Lib.hid hln
   have HFEW:=Lib.hid (show ln≤1800 from by rw [← hln]; exact ho.few HS.out)
   have HDUP:=Lib.hid (outL_nodup (ch:=chg g) HS.out.st.dup ho.dup)
   clear hz ho hit hln HLT
   by_cases h0:ln = 0
   ·subst h0
    have HNIL:=Lib.hid (List.length_eq_zero_iff.1 HLN.out)
    go_wp2_with fail
    go_at_call 43
    refine calls_named (S:=fun W=>Below wr.heap.size wr W) (by (repeat' (first | (with_reducible exact Below.refl _ _) | (with_reducible refine Below.setCell ?_ (by (first | omega | (simp; done) | (simp; omega))) _) | (with_reducible refine Below.alloc ?_ (by (first | omega | (simp; done) | (simp; omega))) _) | (with_reducible refine Below.drew ?_) | (with_reducible refine below_drewN ?_ _)))) ?_
    rintro W5 hb5
    refine sortF_none.mono ?_
    rintro e W6 ⟨rfl,rfl⟩
    have HB5:=Lib.hid hb5
    clear hb5
    go_wp2_with fail
    go_ret
    refine ⟨outL g.kn (chg g) seen.toList,_,_,_,rfl,HLN.out,HDUP.out,fun q=>outL_mem HALL.out q,by rw [HNIL.out]; exact List.Pairwise.nil,HO.out.sx.below (HB5.out.trans (by (repeat' (first | (with_reducible exact Below.refl _ _) | (with_reducible refine Below.setCell ?_ (by (first | omega | (simp; done) | (simp; omega))) _) | (with_reducible refine Below.alloc ?_ (by (first | omega | (simp; done) | (simp; omega))) _) | (with_reducible refine Below.drew ?_) | (with_reducible refine below_drewN ?_ _))))),HO.out.go.trans (Go.below g (HB5.out.trans (by (repeat' (first | (with_reducible exact Below.refl _ _) | (with_reducible refine Below.setCell ?_ (by (first | omega | (simp; done) | (simp; omega))) _) | (with_reducible refine Below.alloc ?_ (by (first | omega | (simp; done) | (simp; omega))) _) | (with_reducible refine Below.drew ?_) | (with_reducible refine below_drewN ?_ _)))))),HO.out.row.below (HB5.out.trans (by (repeat' (first | (with_reducible exact Below.refl _ _) | (with_reducible refine Below.setCell ?_ (by (first | omega | (simp; done) | (simp; omega))) _) | (with_reducible refine Below.alloc ?_ (by (first | omega | (simp; done) | (simp; omega))) _) | (with_reducible refine Below.drew ?_) | (with_reducible refine below_drewN ?_ _))))),fun k hk=>Nat.le_of_lt (HO.out.new k hk)⟩
   ·obtain ⟨g3,rfl,_,_⟩:=hA3 (by omega)
    clear h0
    go_wp2_with fail
    go_at_call 43
    refine calls_named (S:=fun W=>Below wr.heap.size wr W) (by (repeat' (first | (with_reducible exact Below.refl _ _) | (with_reducible refine Below.setCell ?_ (by (first | omega | (simp; done) | (simp; omega))) _) | (with_reducible refine Below.alloc ?_ (by (first | omega | (simp; done) | (simp; omega))) _) | (with_reducible refine Below.drew ?_) | (with_reducible refine below_drewN ?_ _)))) ?_
    rintro W5 hb5
    refine (sortF_c (HO.out.row.1.below hb5) HLN.out (by have:=HFEW.out; omega)).mono ?_
    rintro e W6 ⟨rfl,hg6,ho6⟩
    have HB5:=Lib.hid hb5
    have HG6:=Lib.hid hg6
    have HO6:=Lib.hid ho6
    clear hb5 hg6 ho6
    go_wp2_with fail
    go_ret
    have hnew:∀ k,some g3 = some k→w.heap.size≤k∧¬ Ss g k:=fun k hk=>⟨Nat.le_of_lt (HO.out.new k (by rw [← hk]; rfl)),HO.out.row.2 k (by rw [← hk]; rfl)⟩
    have hb6:Below W6.heap.size W6 W6:=Below.refl _ _
    have hs6:=HS.out.grownC (More.refl g).toC (HO.out.sx.below HB5.out) HG6.out hnew
    have hgo6:=(HO.out.go.trans (Go.below g HB5.out)).grown HG6.out (fun k hk=>(hnew k hk).1)
    refine ⟨sortP (outL g.kn (chg g) seen.toList),_,_,_,rfl,by rw [sortP_len]; exact HLN.out,sortP_dup HDUP.out,fun q=>sortP_mem.trans (outL_mem HALL.out q),sortP_rises HDUP.out,hs6.below (by (repeat' (first | (with_reducible exact Below.refl _ _) | (with_reducible refine Below.setCell ?_ (by (first | omega | (simp; done) | (simp; omega))) _) | (with_reducible refine Below.alloc ?_ (by (first | omega | (simp; done) | (simp; omega))) _) | (with_reducible refine Below.drew ?_) | (with_reducible refine below_drewN ?_ _)))),hgo6.trans (Go.below g (by (repeat' (first | (with_reducible exact Below.refl _ _) | (with_reducible refine Below.setCell ?_ (by (first | omega | (simp; done) | (simp; omega))) _) | (with_reducible refine Below.alloc ?_ (by (first | omega | (simp; done) | (simp; omega))) _) | (with_reducible refine Below.drew ?_) | (with_reducible refine below_drewN ?_ _))))),LocR.below (w:=W6) ⟨HO6.out,HO.out.row.2⟩ (by (repeat' (first | (with_reducible exact Below.refl _ _) | (with_reducible refine Below.setCell ?_ (by (first | omega | (simp; done) | (simp; omega))) _) | (with_reducible refine Below.alloc ?_ (by (first | omega | (simp; done) | (simp; omega))) _) | (with_reducible refine Below.drew ?_) | (with_reducible refine below_drewN ?_ _)))),fun k hk=>Nat.le_of_lt (HO.out.new k hk)⟩
  ·obtain ⟨i,c,hi,rfl,hni⟩:=left_mem he
   obtain ⟨ln,hln⟩:∃ ln,(outL g.kn (chg g) seen.toList).length = ln:=⟨_,rfl⟩
   obtain ⟨A3,c3,hv,_,_,_⟩:=ho.row.1.form hln
   subst hv
   have HLN:=Lib.hid hln
   clear hln
   have hcm:=Oth.came HS.out ho hw1 hi hni
   have hen:=run_entry_at (P:=Tryd.prog) _ w.heap.size g.M g.kn.length seen _ _ (entK i c) hcm.it hcm.sx.st.map (by simpa using ents_mem.2 ⟨i,c,hi,by congr 1; omega⟩) (by simpa using ents_nodup g.kn 0)
   simp only [entK] at hnx hen
   obtain ⟨W1,hW1⟩:∃ W1,ChangeMaps.setBlock w1 w.heap.size (.mapIter (some g.M) g.kn.length (seen.push i) g.kn.length) = W1:=⟨_,rfl⟩
   rw [hW1] at hnx hen hcm
   have HCM:=Lib.hid hcm
   have HI:=Lib.hid hi
   obtain ⟨⟨qx,qy,qz⟩,kb⟩:=c
   have HKB:=Lib.hid (hcm.sx.st.known _ _ (List.mem_of_getElem? hi))
   have HSA:=Lib.hid (seenAt_of hit)
   clear ho hit hcm hw1 he hni hi hW1 HO
   go_wp2_with fail
   refine HeldP.wp_named (S:=fun W=>Below W1.heap.size W1 W∧Blk W W1.heap.size TP [.int .i64 qx,.int .i64 qy,.int .i64 qz]) ⟨by (repeat' (first | (with_reducible exact Below.refl _ _) | (with_reducible refine Below.setCell ?_ (by (first | omega | (simp; done) | (simp; omega))) _) | (with_reducible refine Below.alloc ?_ (by (first | omega | (simp; done) | (simp; omega))) _) | (with_reducible refine Below.drew ?_) | (with_reducible refine below_drewN ?_ _))),by (repeat' (first | (with_reducible refine BlkP.Blk.drew ?_) | (with_reducible refine BlkP.Blk.drewN ?_ _) | (with_reducible refine BlkP.Blk.setAt (us:=?_) (by first | omega | (simp; done) | (simp; omega)) rfl ?_ ?_) | (with_reducible refine BlkP.Blk.otherAt ?_ (by first | omega | (simp; done) | (simp; omega))) | (with_reducible refine BlkP.Blk.newA' (by first | omega | (simp; done) | (simp; omega)) rfl) | (with_reducible refine BlkP.Blk.alloc ?_ _) | (exact rfl)))⟩ ?_
   rintro W2 ⟨hb2,hq2⟩
   have HCM2:=Lib.hid (HCM.out.below hb2)
   have HKB2:=Lib.hid (HKB.out.below hb2)
   have q0:=hq2.cell (i:=0) rfl
   have q1:=hq2.cell (i:=1) rfl
   have q2:=hq2.cell (i:=2) rfl
   clear hb2 hq2 hnx hen
   cases hch:chg g (qx,qy,qz) with
   | false =>
    have hchd:decide (g.nw false (qx,qy,qz) ≠ wasB g.f false (qx,qy,qz) ∨ g.nw true (qx,qy,qz) ≠ wasB g.f true (qx,qy,qz)) = false:=hch
    have HCH:=Lib.hid hch
    have hno:¬ (g.nw false (qx,qy,qz) ≠ wasB g.f false (qx,qy,qz) ∨ g.nw true (qx,qy,qz) ≠ wasB g.f true (qx,qy,qz)):=of_decide_eq_false hchd
    have HI1:=Lib.hid (show (g.nw false (qx,qy,qz):Int) = (wasB g.f false (qx,qy,qz):Int) by rw [Classical.not_not.1 (fun e=>hno (.inl e))])
    have HI2:=Lib.hid (show (g.nw true (qx,qy,qz):Int) = (wasB g.f true (qx,qy,qz):Int) by rw [Classical.not_not.1 (fun e=>hno (.inr e))])
    clear hch hchd hno
    refine wp_region_noPanic ?_
    refine wp_region_held_drew (S:=fun Xw=>Blk Xw kb TK (kcells g (qx,qy,qz))) (by kernel_rfl) (HKB2.out) (fun hHeld=>?_)
    refine wpAnyH_take (i:=0) (oi:=⟨some 16,_,_,_,_,_⟩) (v:=.pointer (some ⟨kb,0,none⟩)) rfl (by kernel_rfl) (by kernel_rfl) (by kernel_rfl) (fun _ _ _ h=>h) (Or.inl ⟨by rfl,fun Xw hSW=>by go_simp⟩) hHeld ?_
    simp only [Act.put,List.setIfInBounds_toArray,List.set_cons_zero,List.set_cons_succ]
    refine wpAnyH_take (i:=1) (oi:=⟨some 17,_,_,_,_,_⟩) (v:=.pointer (some ⟨kb,0,none⟩)) rfl (by kernel_rfl) (by kernel_rfl) (by kernel_rfl) (fun _ _ _ h=>h) (Or.inl ⟨by rfl,fun Xw hSW=>by go_simp⟩) hHeld ?_
    simp only [Act.put,List.setIfInBounds_toArray,List.set_cons_zero,List.set_cons_succ]
    refine wpAnyH_take (i:=2) (oi:=⟨some 18,_,_,_,_,_⟩) (v:=.pointer (some ⟨kb,5,none⟩)) rfl (by kernel_rfl) (by kernel_rfl) (by kernel_rfl) (fun _ _ _ h=>h) (Or.inl ⟨by rfl,fun Xw hSW=>by go_simp⟩) hHeld ?_
    simp only [Act.put,List.setIfInBounds_toArray,List.set_cons_zero,List.set_cons_succ]
    refine wpAnyH_take (i:=3) (oi:=⟨some 19,_,_,_,_,_⟩) (v:=.agg #[.int .u8 (g.nw false (qx,qy,qz):Int),.int .u8 (g.nw true (qx,qy,qz):Int)]) rfl (by kernel_rfl) (by kernel_rfl) (by kernel_rfl) (fun _ _ _ h=>h) (Or.inl ⟨by rfl,fun Xw hSW=>by have a0:Xw.cell? ⟨kb,5,none⟩ = some (.int .u8 (g.nw false (qx,qy,qz):Int)):=hSW.cell (i:=5) rfl; have a1:Xw.cell? ⟨kb,6,none⟩ = some (.int .u8 (g.nw true (qx,qy,qz):Int)):=hSW.cell (i:=6) rfl; go_simp⟩) hHeld ?_
    simp only [Act.put,List.setIfInBounds_toArray,List.set_cons_zero,List.set_cons_succ]
    refine wpAnyH_take (i:=4) (oi:=⟨some 20,_,_,_,_,_⟩) (v:=.pointer (some ⟨kb,0,none⟩)) rfl (by kernel_rfl) (by kernel_rfl) (by kernel_rfl) (fun _ _ _ h=>h) (Or.inl ⟨by rfl,fun Xw hSW=>by go_simp⟩) hHeld ?_
    simp only [Act.put,List.setIfInBounds_toArray,List.set_cons_zero,List.set_cons_succ]
    refine wpAnyH_take (i:=5) (oi:=⟨some 21,_,_,_,_,_⟩) (v:=.pointer (some ⟨kb,0,none⟩)) rfl (by kernel_rfl) (by kernel_rfl) (by kernel_rfl) (fun _ _ _ h=>h) (Or.inl ⟨by rfl,fun Xw hSW=>by go_simp⟩) hHeld ?_
    simp only [Act.put,List.setIfInBounds_toArray,List.set_cons_zero,List.set_cons_succ]
    refine wpAnyH_take (i:=6) (oi:=⟨some 22,_,_,_,_,_⟩) (v:=.pointer (some ⟨kb,3,none⟩)) rfl (by kernel_rfl) (by kernel_rfl) (by kernel_rfl) (fun _ _ _ h=>h) (Or.inl ⟨by rfl,fun Xw hSW=>by go_simp⟩) hHeld ?_
    simp only [Act.put,List.setIfInBounds_toArray,List.set_cons_zero,List.set_cons_succ]
    refine wpAnyH_take (i:=7) (oi:=⟨some 23,_,_,_,_,_⟩) (v:=.agg #[.int .u8 (wasB g.f false (qx,qy,qz):Int),.int .u8 (wasB g.f true (qx,qy,qz):Int)]) rfl (by kernel_rfl) (by kernel_rfl) (by kernel_rfl) (fun _ _ _ h=>h) (Or.inl ⟨by rfl,fun Xw hSW=>by have a0:Xw.cell? ⟨kb,3,none⟩ = some (.int .u8 (wasB g.f false (qx,qy,qz):Int)):=hSW.cell (i:=3) rfl; have a1:Xw.cell? ⟨kb,4,none⟩ = some (.int .u8 (wasB g.f true (qx,qy,qz):Int)):=hSW.cell (i:=4) rfl; go_simp⟩) hHeld ?_
    simp only [Act.put,List.setIfInBounds_toArray,List.set_cons_zero,List.set_cons_succ]
    refine wpAnyH_take (i:=8) (oi:=⟨some 24,_,_,_,_,_⟩) (v:=.bool false) rfl (by kernel_rfl) (by kernel_rfl) (by kernel_rfl) (fun _ _ _ h=>h) (Or.inl ⟨by rfl,fun Xw hSW=>by have i1:=HI1.out; have i2:=HI2.out; go_simp⟩) hHeld ?_
    simp only [Act.put,List.setIfInBounds_toArray,List.set_cons_zero,List.set_cons_succ]
    refine wpAnyH_done (by kernel_rfl) ?_ _
    refine NoPanic.normal ?_
    go_wp2_with fail
    go_roundw
    case rel=>exact ⟨_,(HCM2.out.below (Below.refl _ _).drew).no HI.out HCH.out⟩
    case measure=>exact Oth.less ((HCM2.out.below (Below.refl _ _).drew).no HI.out HCH.out) HSA.out HCM2.out.room
   | true =>
    have hchd:decide (g.nw false (qx,qy,qz) ≠ wasB g.f false (qx,qy,qz) ∨ g.nw true (qx,qy,qz) ≠ wasB g.f true (qx,qy,qz)) = true:=hch
    have HCH:=Lib.hid hch
    have hyes:=of_decide_eq_true hchd
    have HDJ:=Lib.hid (show (¬ (g.nw false (qx,qy,qz):Int) = (wasB g.f false (qx,qy,qz):Int)) ∨ ((g.nw false (qx,qy,qz):Int) = (wasB g.f false (qx,qy,qz):Int)∧¬ (g.nw true (qx,qy,qz):Int) = (wasB g.f true (qx,qy,qz):Int)) by omega)
    clear hch hchd hyes
    refine wp_region_noPanic ?_
    refine wp_region_held_drew (S:=fun Xw=>Blk Xw kb TK (kcells g (qx,qy,qz))) (by kernel_rfl) (HKB2.out) (fun hHeld=>?_)
    refine wpAnyH_take (i:=0) (oi:=⟨some 16,_,_,_,_,_⟩) (v:=.pointer (some ⟨kb,0,none⟩)) rfl (by kernel_rfl) (by kernel_rfl) (by kernel_rfl) (fun _ _ _ h=>h) (Or.inl ⟨by rfl,fun Xw hSW=>by go_simp⟩) hHeld ?_
    simp only [Act.put,List.setIfInBounds_toArray,List.set_cons_zero,List.set_cons_succ]
    refine wpAnyH_take (i:=1) (oi:=⟨some 17,_,_,_,_,_⟩) (v:=.pointer (some ⟨kb,0,none⟩)) rfl (by kernel_rfl) (by kernel_rfl) (by kernel_rfl) (fun _ _ _ h=>h) (Or.inl ⟨by rfl,fun Xw hSW=>by go_simp⟩) hHeld ?_
    simp only [Act.put,List.setIfInBounds_toArray,List.set_cons_zero,List.set_cons_succ]
    refine wpAnyH_take (i:=2) (oi:=⟨some 18,_,_,_,_,_⟩) (v:=.pointer (some ⟨kb,5,none⟩)) rfl (by kernel_rfl) (by kernel_rfl) (by kernel_rfl) (fun _ _ _ h=>h) (Or.inl ⟨by rfl,fun Xw hSW=>by go_simp⟩) hHeld ?_
    simp only [Act.put,List.setIfInBounds_toArray,List.set_cons_zero,List.set_cons_succ]
    refine wpAnyH_take (i:=3) (oi:=⟨some 19,_,_,_,_,_⟩) (v:=.agg #[.int .u8 (g.nw false (qx,qy,qz):Int),.int .u8 (g.nw true (qx,qy,qz):Int)]) rfl (by kernel_rfl) (by kernel_rfl) (by kernel_rfl) (fun _ _ _ h=>h) (Or.inl ⟨by rfl,fun Xw hSW=>by have a0:Xw.cell? ⟨kb,5,none⟩ = some (.int .u8 (g.nw false (qx,qy,qz):Int)):=hSW.cell (i:=5) rfl; have a1:Xw.cell? ⟨kb,6,none⟩ = some (.int .u8 (g.nw true (qx,qy,qz):Int)):=hSW.cell (i:=6) rfl; go_simp⟩) hHeld ?_
    simp only [Act.put,List.setIfInBounds_toArray,List.set_cons_zero,List.set_cons_succ]
    refine wpAnyH_take (i:=4) (oi:=⟨some 20,_,_,_,_,_⟩) (v:=.pointer (some ⟨kb,0,none⟩)) rfl (by kernel_rfl) (by kernel_rfl) (by kernel_rfl) (fun _ _ _ h=>h) (Or.inl ⟨by rfl,fun Xw hSW=>by go_simp⟩) hHeld ?_
    simp only [Act.put,List.setIfInBounds_toArray,List.set_cons_zero,List.set_cons_succ]
    refine wpAnyH_take (i:=5) (oi:=⟨some 21,_,_,_,_,_⟩) (v:=.pointer (some ⟨kb,0,none⟩)) rfl (by kernel_rfl) (by kernel_rfl) (by kernel_rfl) (fun _ _ _ h=>h) (Or.inl ⟨by rfl,fun Xw hSW=>by go_simp⟩) hHeld ?_
    simp only [Act.put,List.setIfInBounds_toArray,List.set_cons_zero,List.set_cons_succ]
    refine wpAnyH_take (i:=6) (oi:=⟨some 22,_,_,_,_,_⟩) (v:=.pointer (some ⟨kb,3,none⟩)) rfl (by kernel_rfl) (by kernel_rfl) (by kernel_rfl) (fun _ _ _ h=>h) (Or.inl ⟨by rfl,fun Xw hSW=>by go_simp⟩) hHeld ?_
    simp only [Act.put,List.setIfInBounds_toArray,List.set_cons_zero,List.set_cons_succ]
    refine wpAnyH_take (i:=7) (oi:=⟨some 23,_,_,_,_,_⟩) (v:=.agg #[.int .u8 (wasB g.f false (qx,qy,qz):Int),.int .u8 (wasB g.f true (qx,qy,qz):Int)]) rfl (by kernel_rfl) (by kernel_rfl) (by kernel_rfl) (fun _ _ _ h=>h) (Or.inl ⟨by rfl,fun Xw hSW=>by have a0:Xw.cell? ⟨kb,3,none⟩ = some (.int .u8 (wasB g.f false (qx,qy,qz):Int)):=hSW.cell (i:=3) rfl; have a1:Xw.cell? ⟨kb,4,none⟩ = some (.int .u8 (wasB g.f true (qx,qy,qz):Int)):=hSW.cell (i:=4) rfl; go_simp⟩) hHeld ?_
    simp only [Act.put,List.setIfInBounds_toArray,List.set_cons_zero,List.set_cons_succ]
    refine wpAnyH_take (i:=8) (oi:=⟨some 24,_,_,_,_,_⟩) (v:=.bool true) rfl (by kernel_rfl) (by kernel_rfl) (by kernel_rfl) (fun _ _ _ h=>h) (Or.inl ⟨by rfl,fun Xw hSW=>by (rcases HDJ.out with d1 | ⟨i1,d2⟩ <;> go_simp)⟩) hHeld ?_
    simp only [Act.put,List.setIfInBounds_toArray,List.set_cons_zero,List.set_cons_succ]
    refine wpAnyH_done (by kernel_rfl) ?_ _
    refine NoPanic.normal ?_
    go_wp2_with ((with_reducible refine at_slot 28 ?_); refine Classical.byContradiction (fun hG=>?_))
    refine hG ?_
    clear hG
    refine wp_pushP (w0:=W2.drew) (y:=(qx,qy,qz)) (v:=.slice A3 ln c3) (l:=outL g.kn (chg g) seen.toList) rfl (.tmp 25) (.tmp 27) rfl rfl rfl rfl (HCM2.out.below (Below.refl _ _).drew).row.1 rfl HLN.out (by have:=HCM2.out.few; have:=HLN.out; omega) (Nat.zero_le _) ?_
    intro gr5 c5 W5 hpu
    have HPU:=Lib.hid hpu
    clear hpu
    go_wp2_with fail
    go_roundw
    case rel=>exact ⟨_,Came.yes HS.out (Nat.le_refl _) (HCM2.out.below (Below.refl _ _).drew) HI.out HCH.out HPU.out⟩
    case measure=>exact Oth.less (Came.yes HS.out (Nat.le_refl _) (HCM2.out.below (Below.refl _ _).drew) HI.out HCH.out HPU.out) HSA.out HCM2.out.room
end FloodW
end Go.Proofs.YtpimkdaikoclnaaDoor
namespace Go.Proofs.YtpimkdaikoclnaaDoor
open Go.RowKit
set_option linter.unusedVariables false
set_option linter.unusedSimpArgs false
namespace FloodW
open BlkP RowG GlowW FloodP
def newL (f:Fld) (q:V):Prop:=inB f q = true∧(litV f (rightL f) false q ≠ wasB f false q ∨ litV f (rightL f) true q ≠ wasB f true q)
theorem atV_out {f:Fld} {l:Nat→Nat} {q:V} (h:¬ inB f q = true):atV f l q = 0:=if_neg h
theorem was_out {f:Fld} {b:Bool} {q:V} (h:¬ inB f q = true):wasB f b q = 0:=by
 rw [← litV_was]
 exact atV_out h
theorem chg_iff {w:World} {g g2:Gh} {o:Nat × Nat} (hb:Begin g o) (hm:MoreS g g2) (hs:St w g2) (hk:∃ b,(g.at_,b) ∈ g2.kn) (hsol:∀ b,SolV sidesV (clr g.f) (nowS g.f b) (g2.nw b)) :
  (∀ b,g2.nw b = litV g.f (rightL g.f) b)∧∀ q,(q ∈ g2.kn.map (·.1)∧chg g2 q = true)↔newL g.f q:=by
 have hW:=hb.old.fw
 have hnw:∀ b,g2.nw b = litV g.f (rightL g.f) b:=fun b=>right_uniq hW (fun q=>(hs.le b q).2) (hsol b)
 refine ⟨hnw,fun q=>?_⟩
 have hch:chg g2 q = true↔(litV g.f (rightL g.f) false q ≠ wasB g.f false q ∨ litV g.f (rightL g.f) true q ≠ wasB g.f true q):=by
  unfold chg
  rw [decide_eq_true_eq,hnw,hnw,hm.was,hm.was]
 rw [hch]
 constructor
 ·rintro ⟨_,h2⟩
  refine ⟨?_,h2⟩
  apply Classical.byContradiction
  intro hn
  have e1:∀ b,litV g.f (rightL g.f) b q = wasB g.f b q:=fun b=>by
   rw [was_out hn]
   exact atV_out hn
  rcases h2 with h2 | h2 <;> exact h2 (e1 _)
 ·rintro ⟨h1,h2⟩
  refine ⟨?_,h2⟩
  apply Classical.byContradiction
  intro hn
  have hne:q ≠ g.at_:=fun e=>by
   obtain ⟨b,hb'⟩:=hk
   exact hn (by rw [e]; exact List.mem_map.2 ⟨_,hb',rfl⟩)
  obtain ⟨_,_,h3⟩:=hs.dflt q hn
  have key:∀ b,litV g.f (rightL g.f) b q = wasB g.f b q:=fun b=>by
   have h4:=h3 b
   rw [hnw,hm.clr,hm.was] at h4
   rw [h4]
   cases hc:clr g.f q with
   | true=>rw [if_pos rfl]
   | false =>
    rw [if_neg (by simp)]
    have hcO:clO g.f g.at_ o q = false:=by rw [clO_ne hne]; exact hc
    cases b with
    | false =>
     have:=hb.old.sky q
     rw [hcO] at this
     simpa using this.symm
    | true =>
     have:=hb.old.lamp q
     rw [hcO] at this
     simpa using this.symm
  rcases h2 with h2 | h2 <;> exact h2 (key _)
def setL (f:Fld) (a:V→Nat × Nat) (T:List V) (l:List (Nat × Nat)):List (Nat × Nat):=T.foldl (fun l q=>l.set (numB f q) (a q)) l
theorem setL_len (f:Fld) (a:V→Nat × Nat):∀ (T:List V) (l:List (Nat × Nat)),(setL f a T l).length = l.length
 | [],l=>rfl
 | q :: r,l=>by
  show (setL f a r (l.set (numB f q) (a q))).length = _
  rw [setL_len f a r,List.length_set]
theorem setL_app (f:Fld) (a:V→Nat × Nat) (T:List V) (q:V) (l:List (Nat × Nat)):setL f a (T ++ [q]) l = (setL f a T l).set (numB f q) (a q):=by
 unfold setL
 rw [List.foldl_append]
 rfl
theorem setL_get {f:Fld} {a:V→Nat × Nat} {i:Nat} (hi:i < f.X * f.Y * f.Z):∀ (T:List V) (l:List (Nat × Nat)),(∀ q ∈ T,inB f q = true)→i < l.length→(setL f a T l)[i]? = if plc f i ∈ T then some (a (plc f i)) else l[i]?
 | [],l,_,_=>by simp [setL]
 | q :: r,l,hq,hl=>by
  show (setL f a r (l.set (numB f q) (a q)))[i]? = _
  rw [setL_get hi r _ (fun x hx=>hq x (by simp [hx])) (by rw [List.length_set]; exact hl)]
  by_cases h1:plc f i ∈ r
  ·rw [if_pos h1,if_pos (by simp [h1])]
  ·rw [if_neg h1]
   by_cases h2:numB f q = i
   ·have e:plc f i = q:=by rw [← h2]; exact plc_num (hq q (by simp))
    rw [if_pos (by simp [e]),e,h2,List.getElem?_set_self hl]
   ·have hne:¬ plc f i ∈ q :: r:=fun hm=>by
     rcases List.mem_cons.1 hm with e | hm
     ·exact h2 (by rw [← e]; exact num_plc hi)
     ·exact h1 hm
    rw [if_neg hne,List.getElem?_set_ne h2]
theorem setL_right {f:Fld} (hW:FldW f) {T:List V} (hT:∀ q,q ∈ T↔newL f q):setL f (fun q=>(litV f (rightL f) false q,litV f (rightL f) true q)) T f.ls = rightL f:=by
 apply List.ext_getElem?
 intro i
 by_cases hi:i < f.X * f.Y * f.Z
 ·have hl:i < f.ls.length:=by rw [hW.ls]; exact hi
  rw [setL_get hi T f.ls (fun q hq=>((hT q).1 hq).1) hl]
  have hin:=plc_in hi
  have hr:i < (rightL f).length:=by rw [rightL_len]; exact hi
  have hv:∀ (ls:List (Nat × Nat)) b,litV f ls b (plc f i) = cond b (ls.getD i (0,0)).2 (ls.getD i (0,0)).1:=fun ls b=>by
   unfold litV atV
   rw [if_pos hin,num_plc hi]
  have e1:(rightL f)[i]? = some (litV f (rightL f) false (plc f i),litV f (rightL f) true (plc f i)):=by
   rw [hv,hv,List.getElem?_eq_getElem hr]
   simp [List.getD,hr]
  have e2:f.ls[i]? = some (wasB f false (plc f i),wasB f true (plc f i)):=by
   rw [← litV_was,← litV_was,hv,hv,List.getElem?_eq_getElem hl]
   simp [List.getD,hl]
  by_cases hm:plc f i ∈ T
  ·rw [if_pos hm,e1]
  ·rw [if_neg hm,e1,e2]
   have hn:¬ newL f (plc f i):=fun h=>hm ((hT _).2 h)
   have h1:litV f (rightL f) false (plc f i) = wasB f false (plc f i):=Classical.not_not.1 (fun e=>hn ⟨hin,.inl e⟩)
   have h2:litV f (rightL f) true (plc f i) = wasB f true (plc f i):=Classical.not_not.1 (fun e=>hn ⟨hin,.inr e⟩)
   rw [h1,h2]
 ·rw [List.getElem?_eq_none (by rw [setL_len,hW.ls]; omega),List.getElem?_eq_none (by rw [rightL_len]; omega)]
def SC (f:Fld) (k:Nat):Prop:=k = f.F ∨ f.vA.ownBlock = some k ∨ f.vT.ownBlock = some k ∨ f.vL.ownBlock = some k
structure Chd (w:World) (f:Fld) (p:V) (o:Nat × Nat) (T:List V) (f':Fld) (w':World):Prop where
 fld:FldM w' f'
 f_:∃ vA vT l,f' = { f with vA:=vA,vT:=vT,ak:=f.ak ++ l,ts:=f.ts ++ T,ls:=rightL f }∧l.length≤3600∧∀ q ∈ l,nearK f p o q
 fr:Fr (SC f) w w'
 new:∀ k,SC f' k→SC f k ∨ w.heap.size≤k
 dup:T.Nodup
 up:T.Pairwise ltP
 mem:∀ q,q ∈ T↔newL f q
def ChangeP (w:World) (f:Fld) (p:V) (o:Nat × Nat) (e:Ending) (w':World):Prop:=∃ T f',e = .returned (.int .i64 (T.length:Nat))∧Chd w f p o T f' w'
def ghB (f:Fld) (p:V) (o:Nat × Nat) (wk M:Nat):Gh:={ f:=f,wk:=wk,M:=M,at_:=p,low:=p.2.1,kn:=[],ow:=fun b q=>cond b (lmN f q) 0,nw:=fun b q=>if clr f q = true then wasB f b q else 0,ak0:=f.ak,kd:=nearK f p o }
theorem begin_gh {f:Fld} {p:V} {o:Nat × Nat} {wk M:Nat} (h:Old f p o):Begin (ghB f p o wk M) o:=⟨h,fun _=>rfl,fun _=>rfl,fun _ _=>rfl,rfl,fun _ h=>h⟩
theorem sx_begin {W:World} {f:Fld} {p:V} {o:Nat × Nat} {wk M:Nat} (h:FldM W f) (hA:Old f p o) (hT:KindW.Tab W) (hak:f.ak.length≤10000) (hwk:Blk W wk TWk (wcells (ghB f p o wk M))) (hM:MapK W M []) (hg:¬ SC f 0) (h1:0 < wk) (h2:0 < M):Sx W (ghB f p o wk M):=by
 have hp:=in_may hA.fw hA.inb
 have hp':=hp
 unfold mayP at hp'
 refine ⟨⟨h,hA.fw,hwk,hM,List.nodup_nil,List.nodup_nil,fun q b hq=>(by cases hq),fun q _=>⟨rfl,rfl,fun _=>rfl⟩,fun b q=>⟨?_,?_⟩,fun q hq=>(by cases hq),⟨hak,[],by simp [ghB],by simp,fun q hq=>(by cases hq)⟩,hp,by show 0≤p.2.1∧p.2.1≤63; omega⟩,hT,fun hs=>?_⟩
 ·cases b with
  | false=>exact Nat.zero_le _
  | true=>exact lamp15 _
 ·show (if clr f q = true then wasB f b q else 0)≤15
  split
  ·exact was15 hA.fw b q
  ·exact Nat.zero_le _
 ·rcases hs with e | e | e | e | e
  ·exact hg (.inl e)
  ·exact hg (.inr (.inl e))
  ·have e':0 = wk:=e
   omega
  ·have e':0 = M:=e
   omega
  ·cases e
def SLg (g:Gh) (k:Nat):Prop:=k = g.f.F ∨ g.f.vT.ownBlock = some k ∨ g.f.vL.ownBlock = some k
structure Lp (w1:World) (g:Gh) (a:V→Nat × Nat) (T:List V) (gT:Nat) (t:Nat) (f:Fld) (W:World):Prop where
 fld:FldM W f
 f_:∃ vT,f = { g.f with vT:=vT,ts:=g.f.ts ++ T.take t,ls:=setL g.f a (T.take t) g.f.ls }
 fr:Fr (SLg g) w1 W
 new:∀ k,f.vT.ownBlock = some k→k ≠ gT∧(SLg g k ∨ w1.heap.size≤k)
section
variable {w1 W W':World} {g:Gh} {a:V→Nat × Nat} {T:List V} {gT t:Nat} {f:Fld} {q:V}
theorem Lp.below (h:Lp w1 g a T gT t f W) (hb:Below W.heap.size W W'):Lp w1 g a T gT t f W':=⟨h.fld.below hb,h.f_,h.fr.trans (Fr.below (SLg g) hb) (fun i hi=>.inl hi),h.new⟩
theorem Lp.same (h:Lp w1 g a T gT t f W):f.F = g.f.F∧f.vL = g.f.vL∧f.vC = g.f.vC∧f.X = g.f.X∧f.Y = g.f.Y∧f.Z = g.f.Z∧f.lo = g.f.lo∧f.cs = g.f.cs:=by
 obtain ⟨vT,e⟩:=h.f_
 rw [e]
 exact ⟨rfl,rfl,rfl,rfl,rfl,rfl,rfl,rfl⟩
theorem Lp.inB (h:Lp w1 g a T gT t f W) (q:V):inB f q = inB g.f q:=by
 obtain ⟨vT,e⟩:=h.f_
 rw [e]; rfl
theorem Lp.num (h:Lp w1 g a T gT t f W) (q:V):numB f q = numB g.f q:=by
 obtain ⟨vT,e⟩:=h.f_
 rw [e]; rfl
theorem Lp.fw (h:Lp w1 g a T gT t f W) (hW:FldW g.f) (ha:∀ q,(a q).1≤15∧(a q).2≤15):FldW f:=by
 obtain ⟨vT,e⟩:=h.f_
 rw [e]
 refine ⟨hW.x,hW.y,hW.z,hW.lx,hW.ly,hW.lz,hW.cs,by show (setL g.f a (T.take t) g.f.ls).length = _; rw [setL_len]; exact hW.ls,hW.c8,?_⟩
 show ∀ c ∈ setL g.f a (T.take t) g.f.ls,c.1≤15∧c.2≤15
 have key:∀ (L:List V) (l:List (Nat × Nat)),(∀ c ∈ l,c.1≤15∧c.2≤15)→∀ c ∈ setL g.f a L l,c.1≤15∧c.2≤15:=by
  intro L
  induction L with
  | nil=>intro l hl; exact hl
  | cons x r ih =>
   intro l hl
   refine ih (l.set (numB g.f x) (a x)) (fun c hc=>?_)
   rcases List.mem_or_eq_of_mem_set hc with h1 | h1
   ·exact hl c h1
   ·rw [h1]; exact ha x
 exact key _ _ hW.l15
theorem Lp.start (h:FldM w1 g.f) (hT:∀ k,g.f.vT.ownBlock = some k→k ≠ gT):Lp w1 g a T gT 0 g.f w1:=⟨h,⟨g.f.vT,by simp [setL]⟩,Fr.refl _ _,fun k hk=>⟨hT k hk,.inl (.inr (.inl hk))⟩⟩
theorem Lp.next (h:Lp w1 g a T gT t f W) (hq:T[t]? = some q) (hg:gT < w1.heap.size) (hp:LitP W f q (a q) W'):∃ f2,Lp w1 g a T gT (t + 1) f2 W':=by
 obtain ⟨gr,c,h1,h2,h3⟩:=hp
 obtain ⟨vT,e⟩:=h.f_
 have hnum:=h.num q
 refine ⟨_,h1,⟨.slice (some ⟨gr,0,none⟩) (f.ts.length + 1) c,?_⟩,h.fr.trans h2 (fun i hi=>?_),fun k hk=>?_⟩
 ·rw [hnum,List.take_add_one,hq,Option.toList_some,setL_app,e]
  simp [Fld.lit,Fld.told]
 ·rcases hi with hi | hi | hi
  ·exact .inl (.inl (hi.trans h.same.1))
  ·rcases (h.new i hi).2 with q1 | q1
   ·exact .inl q1
   ·exact .inr q1
  ·exact .inl (.inr (.inr (by rw [← h.same.2.1]; exact hi)))
 ·have hk':gr = k:=by simpa [Fld.lit,Fld.told,Value.ownBlock] using hk
  subst hk'
  rcases h3 with h3 | h3
  ·exact h.new gr h3
  ·have:=h.fr.size
   exact ⟨by omega,.inr (by omega)⟩
theorem Lp.work (h:Lp w1 g a T gT t f W) (hs:St w1 g):Blk W g.wk TWk (wcells g)∧MapK W g.M g.kn∧∀ q b,(q,b) ∈ g.kn→Blk W b TK (kcells g q):=by
 have hn:∀ {b:Nat} {T:TypeId} {vs:List Value},Blk w1 b T vs→T ≠ TW→T ≠ TP→T ≠ TL→¬ SLg g b:=fun hb h1 h2 h3 hk=>by
  rcases hk with e | e | e
  ·exact Blk.ne hb hs.fld.blk h1 e
  ·obtain ⟨us,hu⟩:=own_cells hs.fld.ts e
   exact Blk.ne hb hu h2 rfl
  ·obtain ⟨us,hu⟩:=own_cells hs.fld.ls e
   exact Blk.ne hb hu h3 rfl
 refine ⟨h.fr.blk hs.work (hn hs.work (by decide) (by decide) (by decide)),?_,fun q b hq=>h.fr.blk (hs.known q b hq) (hn (hs.known q b hq) (by decide) (by decide) (by decide))⟩
 refine (h.fr.block _ hs.map.lt (fun hk=>?_)).trans hs.map
 rcases hk with e | e | e
 ·exact Blk.notMap hs.map hs.fld.blk e.symm
 ·obtain ⟨us,hu⟩:=own_cells hs.fld.ts e
  exact Blk.notMap hs.map hu rfl
 ·obtain ⟨us,hu⟩:=own_cells hs.fld.ls e
  exact Blk.notMap hs.map hu rfl
theorem Lp.row (h:Lp w1 g a T gT t f W) (hs:St w1 g) {n c:Nat} (hr:LocR w1 g (.slice (some ⟨gT,0,none⟩) n c) T) (hT:∀ k,g.f.vT.ownBlock = some k→k ≠ gT):RowG.Own encP TP W 0 (.slice (some ⟨gT,0,none⟩) n c) T:=h.fr.own hr.1 (fun k hk hs2=>by
 have hk':gT = k:=by simpa [Value.ownBlock] using hk
 subst hk'
 rcases hs2 with e | e | e
 ·exact hr.2 gT rfl (.inl e)
 ·exact hT gT e rfl
 ·obtain ⟨us,hu⟩:=own_cells hs.fld.ls e
  obtain ⟨us2,hu2⟩:=own_cells hr.1 (g:=gT) rfl
  exact Blk.ne hu2 hu (by decide) rfl)
end
end FloodW
end Go.Proofs.YtpimkdaikoclnaaDoor
namespace Go.Proofs.YtpimkdaikoclnaaDoor
open Go.RowKit
set_option linter.unusedVariables false
set_option linter.unusedSimpArgs false
namespace FloodW
open BlkP RowG GlowW FloodP
theorem wrF {a c:Int} (h:a = c) (h1:-9223372036854775808≤c) (h2:c < 9223372036854775808):wrap64 a = c:=by rw [h,wr64 h1 h2]
theorem wrI {a c:Int} (h:a = c) (h1:-9223372036854775808≤c) (h2:c≤9223372036854775807):IntKind.i64.wrap a = c:=by rw [h,BitsP.wrapI_small h1 h2]
theorem remF {s m r:Nat} (h:s % m = r):(s:Int).tmod m = (r:Int):=by rw [Int.tmod_eq_emod_of_nonneg (Int.natCast_nonneg _),← h]; rfl
theorem quoF {s m r:Nat} (h:s / m = r):(s:Int) / (m:Int) = (r:Int):=by rw [← h]; rfl
def fitI (n a b:Int):Int:=if n < a then a else if b < n then b else n
theorem fit_c {n a b r:Int} (h:fitI n a b = r) (w:World):Calls Tryd.prog 22 #[.int .i64 n,.int .i64 a,.int .i64 b] w fun e w'=>e = .returned (.int .i64 r)∧w = w':=by
 subst h
 unfold fitI
 by_cases h1:n < a
 ·go_enter Tryd.func22,Tryd.ntmps22
  go_wp2
  go_ret
  exact ⟨by simp [h1],rfl⟩
 ·by_cases h2:b < n
  ·go_enter Tryd.func22,Tryd.ntmps22
   go_wp2
   go_ret
   exact ⟨by simp [h1,h2],rfl⟩
  ·go_enter Tryd.func22,Tryd.ntmps22
   go_wp2
   go_ret
   exact ⟨by simp [h1,h2],rfl⟩
theorem fit_in {n a b:Int} (h:a≤b):a≤fitI n a b∧fitI n a b≤b:=by
 unfold fitI
 split
 ·omega
 ·split <;> omega
def farI (a b:V):Nat:=gapZ a.1 b.1 + (gapZ a.2.1 b.2.1 + gapZ a.2.2 b.2.2)
def dif (k j:Nat) (d:Int):Int:=if j < k then (d.natAbs:Int) else d
def sumD (k:Nat) (d0 d1 d2:Int):Nat:=(if 0 < k then d0.natAbs else 0) + ((if 1 < k then d1.natAbs else 0) + (if 2 < k then d2.natAbs else 0))
def FarRel (w:World) (b:Nat) (d0 d1 d2:Int) (v5 v7:Value) (W:World):Prop:=∃ k:Nat,k≤3∧v7 = .int .i64 (k:Nat)∧v5 = .int .i64 (sumD k d0 d1 d2:Nat)∧Blk W b 3 [.int .i64 (dif k 0 d0),.int .i64 (dif k 1 d1),.int .i64 (dif k 2 d2)]∧Below w.heap.size w W
theorem dif_ge {k j:Nat} {d:Int} (h:¬ j < k):dif k j d = d:=if_neg h
set_option maxRecDepth 100000 in
set_option maxHeartbeats 8000000 in
theorem far_c {w:World} {a b:V} (ha:mayP a) (hb:mayP b):Calls Tryd.prog 32 #[.agg #[.int .i64 a.1,.int .i64 a.2.1,.int .i64 a.2.2],.agg #[.int .i64 b.1,.int .i64 b.2.1,.int .i64 b.2.2]] w fun e w'=>e = .returned (.int .i64 (farI a b:Nat))∧Below w.heap.size w w':=by
 unfold mayP at ha hb
 obtain ⟨d0,hd0⟩:∃ d,a.1 - b.1 = d:=⟨_,rfl⟩
 obtain ⟨d1,hd1⟩:∃ d,a.2.1 - b.2.1 = d:=⟨_,rfl⟩
 obtain ⟨d2,hd2⟩:∃ d,a.2.2 - b.2.2 = d:=⟨_,rfl⟩
 have HE:=Lib.hid (show farI a b = sumD 3 d0 d1 d2 by
  unfold farI gapZ sumD
  rw [hd0,hd1,hd2]
  rfl)
 have B0:-2097152≤d0∧d0≤2097152:=by omega
 have B1:-2097152≤d1∧d1≤2097152:=by omega
 have B2:-2097152≤d2∧d2≤2097152:=by omega
 have S0:=Lib.hid (wrF hd0 (by omega) (by omega))
 have S1:=Lib.hid (wrF hd1 (by omega) (by omega))
 have S2:=Lib.hid (wrF hd2 (by omega) (by omega))
 clear hd0 hd1 hd2 ha hb
 go_enter Tryd.func32,Tryd.ntmps32
 go_wp2_with fail
 go_loopw [5,7] (fun v5 v7 wr=>FarRel w (w.heap.size + 2) d0 d1 d2 v5 v7 wr) (fun _ v _=>3 - (intOf v).toNat)
 case atStart=>exact ⟨0,by omega,rfl,rfl,by rw [dif_ge (by omega),dif_ge (by omega),dif_ge (by omega),← S0.out,← S1.out,← S2.out]; (repeat' (first | (with_reducible refine BlkP.Blk.drew ?_) | (with_reducible refine BlkP.Blk.drewN ?_ _) | (with_reducible refine BlkP.Blk.setAt (us:=?_) (by first | omega | (simp; done) | (simp; omega)) rfl ?_ ?_) | (with_reducible refine BlkP.Blk.otherAt ?_ (by first | omega | (simp; done) | (simp; omega))) | (with_reducible refine BlkP.Blk.newA' (by first | omega | (simp; done) | (simp; omega)) rfl) | (with_reducible refine BlkP.Blk.alloc ?_ _) | (exact rfl))),by (repeat' (first | (with_reducible exact Below.refl _ _) | (with_reducible refine Below.setCell ?_ (by (first | omega | (simp; done) | (simp; omega))) _) | (with_reducible refine Below.alloc ?_ (by (first | omega | (simp; done) | (simp; omega))) _) | (with_reducible refine Below.drew ?_) | (with_reducible refine below_drewN ?_ _)))⟩
 case round =>
  obtain ⟨k,hk,rfl,rfl,hd,hbl⟩:=hrel
  have HD:=Lib.hid hd
  have HB:=Lib.hid hbl
  clear hd hbl
  by_cases h3:k = 3
  ·subst h3
   go_wp2
   go_ret
   exact ⟨by rw [HE.out]; rfl,HB.out.trans (by (repeat' (first | (with_reducible exact Below.refl _ _) | (with_reducible refine Below.setCell ?_ (by (first | omega | (simp; done) | (simp; omega))) _) | (with_reducible refine Below.alloc ?_ (by (first | omega | (simp; done) | (simp; omega))) _) | (with_reducible refine Below.drew ?_) | (with_reducible refine below_drewN ?_ _))))⟩
  ·have hk3:k = 0 ∨ k = 1 ∨ k = 2:=by omega
   clear hk h3
   rcases hk3 with rfl | rfl | rfl
   ·have c0:=HD.out.cell (i:=0) (v:=.int .i64 (dif 0 0 d0)) rfl
    have c1:=HD.out.cell (i:=1) (v:=.int .i64 (dif 0 1 d1)) rfl
    have c2:=HD.out.cell (i:=2) (v:=.int .i64 (dif 0 2 d2)) rfl
    have z0:=HD.out.frozen 0
    have hbz:=HD.out.lt
    obtain ⟨n,hn⟩:∃ n:Nat,d0.natAbs = n:=⟨_,rfl⟩
    obtain ⟨s,hs⟩:∃ s:Nat,sumD 0 d0 d1 d2 = s:=⟨_,rfl⟩
    have hsb:s≤6291456:=by rw [← hs]; unfold sumD; split <;> split <;> split <;> omega
    have hnx:sumD 1 d0 d1 d2 = s + n:=by rw [← hs,← hn]; unfold sumD; simp; try omega
    have HNX:=Lib.hid hnx
    have AS:=Lib.hid (wrF (a:=(s:Int) + (n:Int)) (c:=((s + n:Nat):Int)) (by omega) (by omega) (by omega))
    rw [hs]
    clear hnx hs
    rw [dif_ge (k:=0) (j:=0) (by omega)] at c0
    by_cases hneg:d0 < 0
    ·have hng:-d0 = (n:Int):=by omega
     have NR:=Lib.hid (wrF hng (by omega) (by omega))
     have HND:=Lib.hid hng
     clear hng
     clear hn
     go_wp2
     go_roundw
     case rel=>exact ⟨1,by omega,rfl,by
      have e1:=HND.out
      rw [HNX.out]
      congr 1
      omega,by
      have q:=(HD.out.set 0 (.int .i64 (-d0)))
      have e:([.int .i64 (dif 0 0 d0),.int .i64 (dif 0 1 d1),.int .i64 (dif 0 2 d2)]:List Value).set 0 (.int .i64 (-d0)) = [.int .i64 (dif 1 0 d0),.int .i64 (dif 1 1 d1),.int .i64 (dif 1 2 d2)]:=by
       have e0:(d0.natAbs:Int) = -d0:=by omega
       simp [dif,e0]
      rw [e] at q
      exact q,HB.out.trans (by (repeat' (first | (with_reducible exact Below.refl _ _) | (with_reducible refine Below.setCell ?_ (by (first | omega | (simp; done) | (simp; omega))) _) | (with_reducible refine Below.alloc ?_ (by (first | omega | (simp; done) | (simp; omega))) _) | (with_reducible refine Below.drew ?_) | (with_reducible refine below_drewN ?_ _))))⟩
     case measure=>simp [intOf]
    ·have HND:=Lib.hid (show (n:Int) = d0 by omega)
     have hdn:d0 = (n:Int):=by omega
     rw [hdn] at c0
     have hneg2:¬ (n:Int) < 0:=by omega
     clear hn hneg hdn
     go_wp2
     go_roundw
     case rel=>exact ⟨1,by omega,rfl,by rw [HNX.out,← AS.out],by
      have q:=HD.out
      have e:([.int .i64 (dif 0 0 d0),.int .i64 (dif 0 1 d1),.int .i64 (dif 0 2 d2)]:List Value) = [.int .i64 (dif 1 0 d0),.int .i64 (dif 1 1 d1),.int .i64 (dif 1 2 d2)]:=by
       have e0:(d0.natAbs:Int) = d0:=by have:=HND.out; omega
       simp [dif,e0]
      rw [e] at q
      exact q,HB.out⟩
     case measure=>simp [intOf]
   ·have c0:=HD.out.cell (i:=0) (v:=.int .i64 (dif 1 0 d0)) rfl
    have c1:=HD.out.cell (i:=1) (v:=.int .i64 (dif 1 1 d1)) rfl
    have c2:=HD.out.cell (i:=2) (v:=.int .i64 (dif 1 2 d2)) rfl
    have z0:=HD.out.frozen 1
    have hbz:=HD.out.lt
    obtain ⟨n,hn⟩:∃ n:Nat,d1.natAbs = n:=⟨_,rfl⟩
    obtain ⟨s,hs⟩:∃ s:Nat,sumD 1 d0 d1 d2 = s:=⟨_,rfl⟩
    have hsb:s≤6291456:=by rw [← hs]; unfold sumD; split <;> split <;> split <;> omega
    have hnx:sumD 2 d0 d1 d2 = s + n:=by rw [← hs,← hn]; unfold sumD; simp; try omega
    have HNX:=Lib.hid hnx
    have AS:=Lib.hid (wrF (a:=(s:Int) + (n:Int)) (c:=((s + n:Nat):Int)) (by omega) (by omega) (by omega))
    rw [hs]
    clear hnx hs
    rw [dif_ge (k:=1) (j:=1) (by omega)] at c1
    by_cases hneg:d1 < 0
    ·have hng:-d1 = (n:Int):=by omega
     have NR:=Lib.hid (wrF hng (by omega) (by omega))
     have HND:=Lib.hid hng
     clear hng
     clear hn
     go_wp2
     go_roundw
     case rel=>exact ⟨2,by omega,rfl,by
      have e1:=HND.out
      rw [HNX.out]
      congr 1
      omega,by
      have q:=(HD.out.set 1 (.int .i64 (-d1)))
      have e:([.int .i64 (dif 1 0 d0),.int .i64 (dif 1 1 d1),.int .i64 (dif 1 2 d2)]:List Value).set 1 (.int .i64 (-d1)) = [.int .i64 (dif 2 0 d0),.int .i64 (dif 2 1 d1),.int .i64 (dif 2 2 d2)]:=by
       have e0:(d1.natAbs:Int) = -d1:=by omega
       simp [dif,e0]
      rw [e] at q
      exact q,HB.out.trans (by (repeat' (first | (with_reducible exact Below.refl _ _) | (with_reducible refine Below.setCell ?_ (by (first | omega | (simp; done) | (simp; omega))) _) | (with_reducible refine Below.alloc ?_ (by (first | omega | (simp; done) | (simp; omega))) _) | (with_reducible refine Below.drew ?_) | (with_reducible refine below_drewN ?_ _))))⟩
     case measure=>simp [intOf]
    ·have HND:=Lib.hid (show (n:Int) = d1 by omega)
     have hdn:d1 = (n:Int):=by omega
     rw [hdn] at c1
     have hneg2:¬ (n:Int) < 0:=by omega
     clear hn hneg hdn
     go_wp2
     go_roundw
     case rel=>exact ⟨2,by omega,rfl,by rw [HNX.out,← AS.out],by
      have q:=HD.out
      have e:([.int .i64 (dif 1 0 d0),.int .i64 (dif 1 1 d1),.int .i64 (dif 1 2 d2)]:List Value) = [.int .i64 (dif 2 0 d0),.int .i64 (dif 2 1 d1),.int .i64 (dif 2 2 d2)]:=by
       have e0:(d1.natAbs:Int) = d1:=by have:=HND.out; omega
       simp [dif,e0]
      rw [e] at q
      exact q,HB.out⟩
     case measure=>simp [intOf]
   ·have c0:=HD.out.cell (i:=0) (v:=.int .i64 (dif 2 0 d0)) rfl
    have c1:=HD.out.cell (i:=1) (v:=.int .i64 (dif 2 1 d1)) rfl
    have c2:=HD.out.cell (i:=2) (v:=.int .i64 (dif 2 2 d2)) rfl
    have z0:=HD.out.frozen 2
    have hbz:=HD.out.lt
    obtain ⟨n,hn⟩:∃ n:Nat,d2.natAbs = n:=⟨_,rfl⟩
    obtain ⟨s,hs⟩:∃ s:Nat,sumD 2 d0 d1 d2 = s:=⟨_,rfl⟩
    have hsb:s≤6291456:=by rw [← hs]; unfold sumD; split <;> split <;> split <;> omega
    have hnx:sumD 3 d0 d1 d2 = s + n:=by rw [← hs,← hn]; unfold sumD; simp; try omega
    have HNX:=Lib.hid hnx
    have AS:=Lib.hid (wrF (a:=(s:Int) + (n:Int)) (c:=((s + n:Nat):Int)) (by omega) (by omega) (by omega))
    rw [hs]
    clear hnx hs
    rw [dif_ge (k:=2) (j:=2) (by omega)] at c2
    by_cases hneg:d2 < 0
    ·have hng:-d2 = (n:Int):=by omega
     have NR:=Lib.hid (wrF hng (by omega) (by omega))
     have HND:=Lib.hid hng
     clear hng
     clear hn
     go_wp2
     go_roundw
     case rel=>exact ⟨3,by omega,rfl,by
      have e1:=HND.out
      rw [HNX.out]
      congr 1
      omega,by
      have q:=(HD.out.set 2 (.int .i64 (-d2)))
      have e:([.int .i64 (dif 2 0 d0),.int .i64 (dif 2 1 d1),.int .i64 (dif 2 2 d2)]:List Value).set 2 (.int .i64 (-d2)) = [.int .i64 (dif 3 0 d0),.int .i64 (dif 3 1 d1),.int .i64 (dif 3 2 d2)]:=by
       have e0:(d2.natAbs:Int) = -d2:=by omega
       simp [dif,e0]
      rw [e] at q
      exact q,HB.out.trans (by (repeat' (first | (with_reducible exact Below.refl _ _) | (with_reducible refine Below.setCell ?_ (by (first | omega | (simp; done) | (simp; omega))) _) | (with_reducible refine Below.alloc ?_ (by (first | omega | (simp; done) | (simp; omega))) _) | (with_reducible refine Below.drew ?_) | (with_reducible refine below_drewN ?_ _))))⟩
     case measure=>simp [intOf]
    ·have HND:=Lib.hid (show (n:Int) = d2 by omega)
     have hdn:d2 = (n:Int):=by omega
     rw [hdn] at c2
     have hneg2:¬ (n:Int) < 0:=by omega
     clear hn hneg hdn
     go_wp2
     go_roundw
     case rel=>exact ⟨3,by omega,rfl,by rw [HNX.out,← AS.out],by
      have q:=HD.out
      have e:([.int .i64 (dif 2 0 d0),.int .i64 (dif 2 1 d1),.int .i64 (dif 2 2 d2)]:List Value) = [.int .i64 (dif 3 0 d0),.int .i64 (dif 3 1 d1),.int .i64 (dif 3 2 d2)]:=by
       have e0:(d2.natAbs:Int) = d2:=by have:=HND.out; omega
       simp [dif,e0]
      rw [e] at q
      exact q,HB.out⟩
     case measure=>simp [intOf]
end FloodW
end Go.Proofs.YtpimkdaikoclnaaDoor
