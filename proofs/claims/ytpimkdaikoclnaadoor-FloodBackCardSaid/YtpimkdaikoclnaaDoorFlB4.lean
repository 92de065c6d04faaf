import Derived.Deep.RegionHeld3
import Derived.Test.YtpimkdaikoclnaaDoorFlB3
import Derived.Test.YtpimkdaikoclnaaDoorFlB1
namespace Go.Proofs.YtpimkdaikoclnaaDoor
open Go.RowKit
set_option linter.unusedVariables false
set_option linter.unusedSimpArgs false
namespace FloodW
open BlkP RowG GlowW FloodP
theorem may_yes {x y z:Int} (h:mayP (x,y,z)):PlaceW.mayB x y z = true:=by
 obtain ⟨a,b,c,d,e,f⟩:=h
 simp only at a b c d e f
 simp [PlaceW.mayB,PlaceW.inB,a,b,c,d,e,f]
def Fld.asked (f:Fld) (q:V) (g n c:Nat):Fld:={ f with vA:=.slice (some ⟨g,0,none⟩) n c,ak:=f.ak ++ [q] }
def AskP (w:World) (f:Fld) (q:V) (w':World):Prop:=∃ g c,FldM w' (f.asked q g (f.ak.length + 1) c)∧Fr (SF f) w w'∧(f.vA.ownBlock = some g ∨ w.heap.size≤g)
theorem FldM.noted {f:Fld} {w0 w6:World} {q:V} {n g c:Nat} (h:FldM w0 f) (hp:Pushed encP TP w0 0 f.vA f.ak q n g c w6) :
  FldM (w6.setCell ⟨f.F,8,none⟩ (.slice (some ⟨g,0,none⟩) n c)) (f.asked q g n c)∧Fr (SF f) w0 (w6.setCell ⟨f.F,8,none⟩ (.slice (some ⟨g,0,none⟩) n c)):=by
 obtain ⟨h1,h2,h3⟩:=hp
 have f1:Fr (fun k=>f.vA.ownBlock = some k) w0 w6:=Fr.grown h2 (fun i e=>e)
 have nF:f.vA.ownBlock ≠ some f.F:=fun e=>by
  obtain ⟨us,hu⟩:=own_cells h.ak e
  exact Blk.ne hu h.blk (by decide) rfl
 have nC:∀ k,f.vC.ownBlock = some k→f.vA.ownBlock ≠ some k:=fun k e e2=>by
  obtain ⟨us,hu⟩:=own_cells h.ak e2
  obtain ⟨us2,hu2⟩:=own_cells h.cs e
  exact Blk.ne hu hu2 (by decide) rfl
 have nL:∀ k,f.vL.ownBlock = some k→f.vA.ownBlock ≠ some k:=fun k e e2=>by
  obtain ⟨us,hu⟩:=own_cells h.ak e2
  obtain ⟨us2,hu2⟩:=own_cells h.ls e
  exact Blk.ne hu hu2 (by decide) rfl
 have nT:∀ k,f.vT.ownBlock = some k→f.vA.ownBlock ≠ some k:=fun k e e2=>h.dj k e2 e
 have f2:Fr (fun k=>k = f.F) w6 (w6.setCell ⟨f.F,8,none⟩ (.slice (some ⟨g,0,none⟩) n c)):=Fr.set _ _ _ _ rfl
 have key:∀ {α:Type} {e:Enc α} {E:TypeId} {v:Value} {l:List α},RowG.Own e E w6 0 v l→E ≠ TW→RowG.Own e E (w6.setCell ⟨f.F,8,none⟩ (.slice (some ⟨g,0,none⟩) n c)) 0 v l:=fun ho hE=>f2.own ho (fun k e e2=>by
  obtain ⟨us,hu⟩:=own_cells ho e
  rw [e2] at hu
  exact Blk.ne hu (f1.blk h.blk nF) hE rfl)
 refine ⟨⟨?_,key (f1.own h.cs nC) (by decide),key (f1.own h.ls nL) (by decide),key h1 (by decide),key (f1.own h.ts nT) (by decide),fun k e e2=>?_⟩,(f1.mono (fun i e=>.inr e)).trans f2 (fun i e=>.inl (.inl e))⟩
 ·exact (f1.blk h.blk nF).set 8 _
 ·have e:g = k:=by simpa [Fld.asked,Value.ownBlock] using e
  subst e
  rcases h3 with h3 | h3
  ·exact h.dj g h3 e2
  ·have:=(h.ts.ge g e2).2
   omega
theorem asked_w {f:Fld} {q:V} {g n c:Nat} (h:FldW f):FldW (f.asked q g n c):=⟨h.x,h.y,h.z,h.lx,h.ly,h.lz,h.cs,h.ls,h.c8,h.l15⟩
theorem FldM.res {f:Fld} {w W2 W3:World} {q:V} {g n c:Nat} {T:TypeId} {vs:List Value} (h0:FldM w f) (h:FldM W2 (f.asked q g n c)) (hr:Blk W2 (w.heap.size + 1) T vs) (hT:T ≠ TP) (hb:Below W2.heap.size W2 W3) (a b:Value) :
  FldM ((W3.setCell ⟨w.heap.size + 1,0,none⟩ a).setCell ⟨w.heap.size + 1,1,none⟩ b) (f.asked q g n c)∧Fr (fun k=>k = w.heap.size + 1) W2 ((W3.setCell ⟨w.heap.size + 1,0,none⟩ a).setCell ⟨w.heap.size + 1,1,none⟩ b):=by
 have hf:Fr (fun k=>k = w.heap.size + 1) W2 ((W3.setCell ⟨w.heap.size + 1,0,none⟩ a).setCell ⟨w.heap.size + 1,1,none⟩ b) :=
  ((Fr.below _ hb).trans (Fr.set (fun k=>k = w.heap.size + 1) W3 ⟨w.heap.size + 1,0,none⟩ a rfl) (fun i hi=>.inl hi)).trans (Fr.set (fun k=>k = w.heap.size + 1) _ ⟨w.heap.size + 1,1,none⟩ b rfl) (fun i hi=>.inl hi)
 refine ⟨h.fr hf ?_ ?_ ?_ ?_ ?_,hf⟩
 ·intro e
  have:=h0.blk.lt
  have e2:f.F = w.heap.size + 1:=e
  omega
 ·intro k e e2
  have:=(h0.cs.ge k e).2
  omega
 ·intro k e e2
  have:=(h0.ls.ge k e).2
  omega
 ·intro k e e2
  obtain ⟨us,hu⟩:=own_cells h.ak e
  rw [e2] at hu
  exact Blk.ne hr hu hT rfl
 ·intro k e e2
  have:=(h0.ts.ge k e).2
  omega
set_option maxRecDepth 100000 in
set_option maxHeartbeats 8000000 in
theorem askcell_c {w:World} {f:Fld} {q:V} (h:FldM w f) (hW:FldW f) (hq:mayP q) (hn:f.ak.length≤900000) :
  Calls Tryd.prog 13 #[.pointer (some ⟨f.F,0,none⟩),.agg #[.int .i64 q.1,.int .i64 q.2.1,.int .i64 q.2.2]] w fun e w'=>e = .returned (.agg #[.int .u8 ((cellAt f q).1:Int),.int .u8 ((cellAt f q).2:Int)])∧AskP w f q w':=by
 obtain ⟨A,cA,hvA,_,_,_⟩:=h.ak.form rfl
 have HVA:=Lib.hid hvA
 obtain ⟨x,y,z⟩:=q
 have HMQ:=Lib.hid hq
 have HMAY:=Lib.hid (show PlaceW.mayB x y z = true from may_yes hq)
 simp only
 have HFM0:=Lib.hid h
 have HW:=Lib.hid hW
 have hFl:=h.blk.lt
 have HNF:=Lib.hid (show ¬ f.vA.ownBlock = some f.F from fun e=>by
  obtain ⟨us,hu⟩:=own_cells HFM0.out.ak e
  exact Blk.ne hu HFM0.out.blk (by decide) rfl)
 have HNP:=Lib.hid (show ¬ f.vA.ownBlock = some w.heap.size from fun e=>by
  have:=(HFM0.out.ak.ge _ e).2
  omega)
 have HNR:=Lib.hid (show ¬ f.vA.ownBlock = some (w.heap.size + 1) from fun e=>by
  have:=(HFM0.out.ak.ge _ e).2
  omega)
 obtain ⟨n,hnn⟩:∃ n,f.ak.length = n:=⟨_,rfl⟩
 rw [hnn] at HVA hn
 have HLN:=Lib.hid hnn
 clear h hW hq hvA hnn
 go_enter Tryd.func13,Tryd.ntmps13
 go_wp2_with fail
 refine HeldP.wp_named (S:=fun W=>Blk W w.heap.size TP [.int .i64 x,.int .i64 y,.int .i64 z]∧Blk W (w.heap.size + 1) TC [u8v 0,u8v 0]∧FldM W f∧Below w.heap.size w W∧w.heap.size + 2≤W.heap.size) ⟨by (repeat' (first | (with_reducible refine BlkP.Blk.drew ?_) | (with_reducible refine BlkP.Blk.drewN ?_ _) | (with_reducible refine BlkP.Blk.setAt (us:=?_) (by first | omega | (simp; done) | (simp; omega)) rfl ?_ ?_) | (with_reducible refine BlkP.Blk.otherAt ?_ (by first | omega | (simp; done) | (simp; omega))) | (with_reducible refine BlkP.Blk.newA' (by first | omega | (simp; done) | (simp; omega)) rfl) | (with_reducible refine BlkP.Blk.alloc ?_ _) | (exact rfl))),by (repeat' (first | (with_reducible refine BlkP.Blk.drew ?_) | (with_reducible refine BlkP.Blk.drewN ?_ _) | (with_reducible refine BlkP.Blk.setAt (us:=?_) (by first | omega | (simp; done) | (simp; omega)) rfl ?_ ?_) | (with_reducible refine BlkP.Blk.otherAt ?_ (by first | omega | (simp; done) | (simp; omega))) | (with_reducible refine BlkP.Blk.newA' (by first | omega | (simp; done) | (simp; omega)) rfl) | (with_reducible refine BlkP.Blk.alloc ?_ _) | (exact rfl))),HFM0.out.below (by (repeat' (first | (with_reducible exact Below.refl _ _) | (with_reducible refine Below.setCell ?_ (by (first | omega | (simp; done) | (simp; omega))) _) | (with_reducible refine Below.alloc ?_ (by (first | omega | (simp; done) | (simp; omega))) _) | (with_reducible refine Below.drew ?_) | (with_reducible refine below_drewN ?_ _)))),by (repeat' (first | (with_reducible exact Below.refl _ _) | (with_reducible refine Below.setCell ?_ (by (first | omega | (simp; done) | (simp; omega))) _) | (with_reducible refine Below.alloc ?_ (by (first | omega | (simp; done) | (simp; omega))) _) | (with_reducible refine Below.drew ?_) | (with_reducible refine below_drewN ?_ _))),by simp⟩ ?_
 rintro W ⟨hp,hr,hfm,hb,hz⟩
 have HP:=Lib.hid hp
 have HR:=Lib.hid hr
 have HFM:=Lib.hid hfm
 have HBW:=Lib.hid hb
 have HAK:=Lib.hid (show RowG.Own encP TP W.drew 0 (.slice A n cA) f.ak from HVA.out ▸ hfm.ak)
 have HC8:=Lib.hid (show W.cell? ⟨f.F,8,none⟩ = some (.slice A n cA) from HVA.out ▸ hfm.blk.cell (i:=8) rfl)
 have HFL:=Lib.hid hfm.blk.lt
 clear hp hr hfm hb
 refine wp_region_noPanic ?_
 refine wp_region_held_drew (S:=fun Xw=>Blk Xw w.heap.size TP [.int .i64 x,.int .i64 y,.int .i64 z]) (by kernel_rfl) (HP.out) (fun hHeld=>?_)
 refine wpAnyH_take (i:=0) (oi:=⟨some 7,_,_,_,_,_⟩) (v:=.pointer (some ⟨f.F,0,none⟩)) rfl (by kernel_rfl) (by kernel_rfl) (by kernel_rfl) (fun _ _ _ h=>h) (Or.inl ⟨by rfl,fun Xw hSW=>by go_simp⟩) hHeld ?_
 simp only [Act.put,List.setIfInBounds_toArray,List.set_cons_zero,List.set_cons_succ]
 refine wpAnyH_take (i:=1) (oi:=⟨some 8,_,_,_,_,_⟩) (v:=.pointer (some ⟨f.F,0,none⟩)) rfl (by kernel_rfl) (by kernel_rfl) (by kernel_rfl) (fun _ _ _ h=>h) (Or.inl ⟨by rfl,fun Xw hSW=>by go_simp⟩) hHeld ?_
 simp only [Act.put,List.setIfInBounds_toArray,List.set_cons_zero,List.set_cons_succ]
 refine wpAnyH_take (i:=2) (oi:=⟨some 9,_,_,_,_,_⟩) (v:=.pointer (some ⟨f.F,0,none⟩)) rfl (by kernel_rfl) (by kernel_rfl) (by kernel_rfl) (fun _ _ _ h=>h) (Or.inl ⟨by rfl,fun Xw hSW=>by go_simp⟩) hHeld ?_
 simp only [Act.put,List.setIfInBounds_toArray,List.set_cons_zero,List.set_cons_succ]
 refine wpAnyH_take (i:=3) (oi:=⟨some 10,_,_,_,_,_⟩) (v:=.pointer (some ⟨f.F,8,none⟩)) rfl (by kernel_rfl) (by kernel_rfl) (by kernel_rfl) (fun _ _ _ h=>h) (Or.inl ⟨by rfl,fun Xw hSW=>by go_simp⟩) hHeld ?_
 simp only [Act.put,List.setIfInBounds_toArray,List.set_cons_zero,List.set_cons_succ]
 refine wpAnyH_take (i:=5) (oi:=⟨some 12,_,_,_,_,_⟩) (v:=.agg #[.int .i64 x,.int .i64 y,.int .i64 z]) rfl (by kernel_rfl) (by kernel_rfl) (by kernel_rfl) (fun _ _ _ h=>h) (Or.inl ⟨by rfl,fun Xw hSW=>by have b0:=hSW.cell (i:=0) rfl; have b1:=hSW.cell (i:=1) rfl; have b2:=hSW.cell (i:=2) rfl; go_simp⟩) hHeld ?_
 simp only [Act.put,List.setIfInBounds_toArray,List.set_cons_zero,List.set_cons_succ]
 have c8:W.cell? ⟨f.F,8,none⟩ = some (.slice A n cA):=HC8.out
 refine wpAnyH_ready (rs:=[4,6]) (by kernel_rfl) (by simp) ?_
 refine AllReadyH.cons (o:=⟨some 11,_,_,_,_,_⟩) rfl (fun K hK=>?_) (AllReadyH.cons (o:=⟨some 13,_,_,_,_,_⟩) rfl (fun K hK=>?_) AllReadyH.nil)
 ·go_simp
  refine hK.out _ _ (hHeld) (fun hHeld=>?_)
  clear hK K
  refine wpAnyH_ready (rs:=[6]) (by kernel_rfl) (by simp) ?_
  refine AllReadyH.cons (o:=⟨some 13,_,_,_,_,_⟩) rfl (fun K hK=>?_) AllReadyH.nil
  go_simp
  refine hK.out _ _ (by have q:=HP.out; (repeat' (first | (with_reducible exact q) | (with_reducible refine BlkP.Blk.drew ?_) | (with_reducible refine BlkP.Blk.drewN ?_ _) | (with_reducible refine BlkP.Blk.setAt (us:=?_) (by first | omega | (simp; done) | (simp; omega)) rfl ?_ ?_) | (with_reducible refine BlkP.Blk.otherAt ?_ (by first | omega | (simp; done) | (simp; omega))) | (with_reducible refine BlkP.Blk.newA' (by first | omega | (simp; done) | (simp; omega)) rfl) | (with_reducible refine BlkP.Blk.alloc ?_ _) | (exact rfl)))) (fun hHeld=>?_)
  clear hK K
  refine wpAnyH_ready (rs:=[7]) (by kernel_rfl) (by simp) ?_
  refine AllReadyH.cons (o:=⟨some 14,_,_,_,_,_⟩) rfl (fun K hK=>?_) AllReadyH.nil
  refine step_pushP (w0:=W.drew) (y:=(x,y,z)) (v:=.slice A n cA) (l:=f.ak) rfl (.tmp 11) (.tmp 13) rfl rfl rfl rfl HAK.out rfl HLN.out (by omega) (Nat.zero_le _) ?_
  intro g c w6 hp
  have HPU:=Lib.hid hp
  have f1:Fr (fun k=>(Value.slice A n cA).ownBlock = some k) W.drew w6:=Fr.grown hp.2.1 (fun i e=>e)
  have hb6:Blk w6 f.F TW (fcells f):=f1.blk HFM.out.blk (by rw [← HVA.out]; exact HNF.out)
  have HB6:=Lib.hid (show Blk w6 w.heap.size TP [.int .i64 x,.int .i64 y,.int .i64 z] from f1.blk HP.out (by rw [← HVA.out]; exact HNP.out))
  have c8:w6.cell? ⟨f.F,8,none⟩ = some f.vA:=hb6.cell (i:=8) rfl
  have z8:=hb6.frozen 8
  have HBB:=Lib.hid hb6
  clear hp f1 hb6
  refine hK.out _ _ (HB6.out) (fun hHeld=>?_)
  clear hK K
  refine wpAnyH_take (i:=8) (oi:=⟨some 15,_,_,_,_,_⟩) (v:=.pointer (some ⟨f.F,0,none⟩)) rfl (by kernel_rfl) (by kernel_rfl) (by kernel_rfl) (fun _ _ _ h=>h) (Or.inl ⟨by rfl,fun Xw hSW=>by go_simp⟩) hHeld ?_
  simp only [Act.put,List.setIfInBounds_toArray,List.set_cons_zero,List.set_cons_succ]
  refine wpAnyH_take (i:=9) (oi:=⟨some 16,_,_,_,_,_⟩) (v:=.pointer (some ⟨f.F,8,none⟩)) rfl (by kernel_rfl) (by kernel_rfl) (by kernel_rfl) (fun _ _ _ h=>h) (Or.inl ⟨by rfl,fun Xw hSW=>by go_simp⟩) hHeld ?_
  simp only [Act.put,List.setIfInBounds_toArray,List.set_cons_zero,List.set_cons_succ]
  refine wpAnyH_ready (rs:=[10]) (by kernel_rfl) (by simp) ?_
  refine AllReadyH.cons (o:=⟨none,_,_,_,_,_⟩) rfl (fun K hK=>?_) AllReadyH.nil
  go_simp
  refine hK.out _ _ (by have q:=HB6.out; (repeat' (first | (with_reducible exact q) | (with_reducible refine BlkP.Blk.drew ?_) | (with_reducible refine BlkP.Blk.drewN ?_ _) | (with_reducible refine BlkP.Blk.setAt (us:=?_) (by first | omega | (simp; done) | (simp; omega)) rfl ?_ ?_) | (with_reducible refine BlkP.Blk.otherAt ?_ (by first | omega | (simp; done) | (simp; omega))) | (with_reducible refine BlkP.Blk.newA' (by first | omega | (simp; done) | (simp; omega)) rfl) | (with_reducible refine BlkP.Blk.alloc ?_ _) | (exact rfl)))) (fun hHeld=>?_)
  clear hK K
  refine wpAnyH_done (by kernel_rfl) ?_ _
  refine NoPanic.normal ?_
  have HFN:=Lib.hid (show FldM (w6.setCell ⟨f.F,8,none⟩ (.slice (some ⟨g,0,none⟩) (n + 1) c)) (f.asked (x,y,z) g (n + 1) c)∧Fr (SF f) W (w6.setCell ⟨f.F,8,none⟩ (.slice (some ⟨g,0,none⟩) (n + 1) c)) from FldM.noted (w0:=W) HFM.out ⟨(by have q:=HPU.out.1; exact q),(by have q:=HPU.out.2.1; rw [HVA.out]; exact ⟨q.os,q.tape,q.output,q.size,q.block⟩),by have q:=HPU.out.2.2; rw [HVA.out]; exact q⟩)
  refine HeldP.then_named (S:=fun W'=>Blk W' w.heap.size TP [.int .i64 x,.int .i64 y,.int .i64 z]∧Blk W' (w.heap.size + 1) TC [u8v 0,u8v 0]∧FldM W' (f.asked (x,y,z) g (n + 1) c)∧Fr (SF f) w W'∧w.heap.size + 2≤W'.heap.size) ⟨by have q:=HB6.out; have e:=HFL.out; (repeat' (first | (with_reducible exact q) | (with_reducible refine BlkP.Blk.drew ?_) | (with_reducible refine BlkP.Blk.drewN ?_ _) | (with_reducible refine BlkP.Blk.setAt (us:=?_) (by first | omega | (simp; done) | (simp; omega)) rfl ?_ ?_) | (with_reducible refine BlkP.Blk.otherAt ?_ (by first | omega | (simp; done) | (simp; omega))) | (with_reducible refine BlkP.Blk.newA' (by first | omega | (simp; done) | (simp; omega)) rfl) | (with_reducible refine BlkP.Blk.alloc ?_ _) | (exact rfl))),HFN.out.2.blk HR.out (by
    rintro (e | e)
    ·omega
    ·exact HNR.out e),HFN.out.1,(Fr.below (SF f) HBW.out).trans HFN.out.2 (fun i hi=>.inl hi),by
    have:=HFN.out.2.size
    omega⟩ ?_
  rintro W2 ⟨hp2,hr2,hfm2,hfr2,hz2⟩
  have HGF:=Lib.hid (show f.vA.ownBlock = some g ∨ w.heap.size≤g from by
   rcases HPU.out.2.2 with q | q
   ·rw [HVA.out]; exact .inl q
   ·refine .inr ?_
    have q2:W.heap.size≤g:=q
    omega)
  have HR2:=Lib.hid hr2
  have HFM2:=Lib.hid hfm2
  have HFR2:=Lib.hid hfr2
  have p0:W2.cell? ⟨w.heap.size,0,none⟩ = some (.int .i64 x):=hp2.cell (i:=0) rfl
  have p1:W2.cell? ⟨w.heap.size,1,none⟩ = some (.int .i64 y):=hp2.cell (i:=1) rfl
  have p2:W2.cell? ⟨w.heap.size,2,none⟩ = some (.int .i64 z):=hp2.cell (i:=2) rfl
  have hl0:=hp2.lt
  clear hp2 hr2 hfm2 hfr2 c8 z8 HB6 HBB HFN HPU HC8 HFL HAK HP HR HFM HBW hz
  try clear c8'
  cases hib:inB f (x,y,z) with
  | false =>
   have HIB:=Lib.hid hib
   have HIX:=Lib.hid (show idxV (f.asked (x,y,z) g (n + 1) c) (x,y,z) = .tuple #[.int .i64 0,.bool false] by unfold idxV; rw [show inB (f.asked (x,y,z) g (n + 1) c) (x,y,z) = false from hib]; rfl)
   clear hib
   go_wp2_with fail
   go_at_call 16
   refine (fidx_c HFM2.out (asked_w HW.out) HMQ.out).mono ?_
   rintro e W3 ⟨rfl,hb3⟩
   rw [HIX.out]
   have HB3:=Lib.hid hb3
   have r0:W3.cell? ⟨w.heap.size + 1,0,none⟩ = some (.int .u8 0):=(HR2.out.below hb3).cell (i:=0) rfl
   have r1:W3.cell? ⟨w.heap.size + 1,1,none⟩ = some (.int .u8 0):=(HR2.out.below hb3).cell (i:=1) rfl
   have g0:=(HR2.out.below hb3).frozen 0
   have g1:=(HR2.out.below hb3).frozen 1
   have q0:W3.cell? ⟨w.heap.size,0,none⟩ = some (.int .i64 x):=(hb3.cell (p:=⟨w.heap.size,0,none⟩) hl0).trans p0
   have q1:W3.cell? ⟨w.heap.size,1,none⟩ = some (.int .i64 y):=(hb3.cell (p:=⟨w.heap.size,1,none⟩) hl0).trans p1
   have q2:W3.cell? ⟨w.heap.size,2,none⟩ = some (.int .i64 z):=(hb3.cell (p:=⟨w.heap.size,2,none⟩) hl0).trans p2
   clear hb3 p0 p1 p2
   go_wp2_with fail
   go_at_call 28
   refine (PlaceW.r_may_b HMAY.out _).mono ?_
   rintro e W4 ⟨rfl,hb4⟩
   have HB4:=Lib.hid (HB3.out.trans (hb4.mono HB3.out.size))
   have s0:W4.cell? ⟨w.heap.size + 1,0,none⟩ = some (.int .u8 0):=(HR2.out.below HB4.out).cell (i:=0) rfl
   have s1:W4.cell? ⟨w.heap.size + 1,1,none⟩ = some (.int .u8 0):=(HR2.out.below HB4.out).cell (i:=1) rfl
   have g4:=(HR2.out.below HB4.out).frozen 0
   have g5:=(HR2.out.below HB4.out).frozen 1
   clear r0 r1 g0 g1 q0 q1 q2 hb4
   go_wp2_with fail
   refine bodyPost_ret (v:=.agg #[.int .u8 1,.int .u8 0]) (by simp [results,Tryd.results13,go_sem,s0,s1]) rfl ?_
   have hres:=FldM.res HFM0.out HFM2.out HR2.out (by decide) HB4.out (.int .u8 1) (.int .u8 0)
   refine ⟨by unfold cellAt; rw [HIB.out]; rfl,g,c,by rw [HLN.out]; exact hres.1,HFR2.out.trans hres.2 (fun i hi=>.inr (by omega)),HGF.out⟩
  | true =>
   have HIB:=Lib.hid hib
   have HIX:=Lib.hid (show idxV (f.asked (x,y,z) g (n + 1) c) (x,y,z) = .tuple #[.int .i64 (numB f (x,y,z)),.bool true] by unfold idxV; rw [show inB (f.asked (x,y,z) g (n + 1) c) (x,y,z) = true from hib]; rfl)
   have hnb:=numB_lt HW.out hib
   rw [← HW.out.cs] at hnb
   obtain ⟨cc,hcc⟩:∃ cc,f.cs[numB f (x,y,z)]? = some cc:=⟨_,List.getElem?_eq_getElem hnb⟩
   obtain ⟨nb,hnbe⟩:∃ nb,numB f (x,y,z) = nb:=⟨_,rfl⟩
   rw [hnbe] at HIX hnb hcc
   have HRES:=Lib.hid (show cellAt f (x,y,z) = cc by
    unfold cellAt
    rw [if_pos hib,hnbe]
    simp [List.getD,hcc])
   have HCC:=Lib.hid hcc
   obtain ⟨ln,hln⟩:∃ ln,f.cs.length = ln:=⟨_,rfl⟩
   have HLL:=Lib.hid hln
   rw [hln] at hnb
   obtain ⟨Ac,c2,hvc,hc2,_,hgc⟩:=HFM2.out.cs.form (n:=ln) hln
   obtain ⟨gc,rfl,_,hgl⟩:=hgc (by omega)
   have HVC:=Lib.hid hvc
   have hnbI:(nb:Int) < ln:=by omega
   clear hib hcc hln hvc hgc hnbe
   go_wp2_with fail
   go_at_call 16
   refine (fidx_c HFM2.out (asked_w HW.out) HMQ.out).mono ?_
   rintro e W3 ⟨rfl,hb3⟩
   rw [HIX.out]
   have HB3:=Lib.hid hb3
   have hfm3:=HFM2.out.below hb3
   have cF:W3.cell? ⟨f.F,6,none⟩ = some (.slice (some ⟨gc,0,none⟩) ln c2):=(hfm3.blk.cell (i:=6) rfl).trans (congrArg some HVC.out)
   have HO3:=Lib.hid (show RowG.Own enc2 TC W3 0 (.slice (some ⟨gc,0,none⟩) ln c2) f.cs from HVC.out ▸ hfm3.cs)
   have k0:W3.cell? ⟨gc,nb * 2,none⟩ = some (.int .u8 (cc.1:Int)):=HO3.out.cell (j:=0) HCC.out rfl
   have k1:W3.cell? ⟨gc,nb * 2 + 1,none⟩ = some (.int .u8 (cc.2:Int)):=HO3.out.cell (j:=1) HCC.out rfl
   have r0:W3.cell? ⟨w.heap.size + 1,0,none⟩ = some (.int .u8 0):=(HR2.out.below hb3).cell (i:=0) rfl
   have r1:W3.cell? ⟨w.heap.size + 1,1,none⟩ = some (.int .u8 0):=(HR2.out.below hb3).cell (i:=1) rfl
   have g0:=(HR2.out.below hb3).frozen 0
   have g1:=(HR2.out.below hb3).frozen 1
   clear hb3 p0 p1 p2 hfm3
   go_wp2_with fail
   refine bodyPost_ret (v:=.agg #[.int .u8 (cc.1:Int),.int .u8 (cc.2:Int)]) (by simp [results,Tryd.results13,go_sem,r0,r1]) rfl ?_
   have hres:=FldM.res HFM0.out HFM2.out HR2.out (by decide) HB3.out (.int .u8 (cc.1:Int)) (.int .u8 (cc.2:Int))
   refine ⟨by rw [HRES.out],g,c,by rw [HLN.out]; exact hres.1,HFR2.out.trans hres.2 (fun i hi=>.inr (by omega)),HGF.out⟩
 ·go_simp
  refine hK.out _ _ (by have q:=HP.out; (repeat' (first | (with_reducible exact q) | (with_reducible refine BlkP.Blk.drew ?_) | (with_reducible refine BlkP.Blk.drewN ?_ _) | (with_reducible refine BlkP.Blk.setAt (us:=?_) (by first | omega | (simp; done) | (simp; omega)) rfl ?_ ?_) | (with_reducible refine BlkP.Blk.otherAt ?_ (by first | omega | (simp; done) | (simp; omega))) | (with_reducible refine BlkP.Blk.newA' (by first | omega | (simp; done) | (simp; omega)) rfl) | (with_reducible refine BlkP.Blk.alloc ?_ _) | (exact rfl)))) (fun hHeld=>?_)
  clear hK K
  have c8':(W.alloc (.cells #[.int .i64 x,.int .i64 y,.int .i64 z] TP)).cell? ⟨f.F,8,none⟩ = some (.slice A n cA):=by have q:=HC8.out; have hl:=HFL.out; (repeat' (first | (with_reducible assumption) | (with_reducible refine HeldP.c_drew ?_) | (with_reducible refine HeldP.c_drewN ?_) | (with_reducible refine HeldP.c_same (by omega) ?_) | (with_reducible refine HeldP.c_other ?_ ?_) | (with_reducible refine HeldP.c_new (by first | omega | (simp; done) | (simp; omega)) ?_) | (with_reducible refine HeldP.c_alloc ?_ ?_) | (with_reducible refine HeldP.e_drew ?_) | (with_reducible refine HeldP.e_drewN ?_) | (with_reducible refine HeldP.e_set ?_) | (with_reducible refine HeldP.e_new (by first | omega | (simp; done) | (simp; omega)) ⟨_,rfl⟩) | (with_reducible refine HeldP.e_alloc ?_ ?_) | (with_reducible refine HeldP.f_drew ?_) | (with_reducible refine HeldP.f_drewN ?_) | (with_reducible refine HeldP.f_set ?_) | (with_reducible refine HeldP.f_new (by first | omega | (simp; done) | (simp; omega))) | (with_reducible refine HeldP.f_alloc ?_ ?_) | (with_reducible refine HeldP.s_drew ?_) | (with_reducible refine HeldP.s_drewN ?_) | (with_reducible refine HeldP.s_set ?_) | (with_reducible refine HeldP.s_new (by first | omega | (simp; done) | (simp; omega))) | (with_reducible refine HeldP.s_alloc ?_) | (with_reducible exact ⟨_,by assumption⟩) | omega | (intro e; simp at e; done) | (intro e; simp at e; omega) | (exact rfl) | (simp; done) | (simp; omega)))
  refine wpAnyH_ready (rs:=[4]) (by kernel_rfl) (by simp) ?_
  refine AllReadyH.cons (o:=⟨some 11,_,_,_,_,_⟩) rfl (fun K hK=>?_) AllReadyH.nil
  go_simp
  refine hK.out _ _ (hHeld) (fun hHeld=>?_)
  clear hK K
  refine wpAnyH_ready (rs:=[7]) (by kernel_rfl) (by simp) ?_
  refine AllReadyH.cons (o:=⟨some 14,_,_,_,_,_⟩) rfl (fun K hK=>?_) AllReadyH.nil
  refine step_pushP (w0:=W.drew) (y:=(x,y,z)) (v:=.slice A n cA) (l:=f.ak) rfl (.tmp 11) (.tmp 13) rfl rfl rfl rfl HAK.out rfl HLN.out (by omega) (Nat.zero_le _) ?_
  intro g c w6 hp
  have HPU:=Lib.hid hp
  have f1:Fr (fun k=>(Value.slice A n cA).ownBlock = some k) W.drew w6:=Fr.grown hp.2.1 (fun i e=>e)
  have hb6:Blk w6 f.F TW (fcells f):=f1.blk HFM.out.blk (by rw [← HVA.out]; exact HNF.out)
  have HB6:=Lib.hid (show Blk w6 w.heap.size TP [.int .i64 x,.int .i64 y,.int .i64 z] from f1.blk HP.out (by rw [← HVA.out]; exact HNP.out))
  have c8:w6.cell? ⟨f.F,8,none⟩ = some f.vA:=hb6.cell (i:=8) rfl
  have z8:=hb6.frozen 8
  have HBB:=Lib.hid hb6
  clear hp f1 hb6
  refine hK.out _ _ (HB6.out) (fun hHeld=>?_)
  clear hK K
  refine wpAnyH_take (i:=8) (oi:=⟨some 15,_,_,_,_,_⟩) (v:=.pointer (some ⟨f.F,0,none⟩)) rfl (by kernel_rfl) (by kernel_rfl) (by kernel_rfl) (fun _ _ _ h=>h) (Or.inl ⟨by rfl,fun Xw hSW=>by go_simp⟩) hHeld ?_
  simp only [Act.put,List.setIfInBounds_toArray,List.set_cons_zero,List.set_cons_succ]
  refine wpAnyH_take (i:=9) (oi:=⟨some 16,_,_,_,_,_⟩) (v:=.pointer (some ⟨f.F,8,none⟩)) rfl (by kernel_rfl) (by kernel_rfl) (by kernel_rfl) (fun _ _ _ h=>h) (Or.inl ⟨by rfl,fun Xw hSW=>by go_simp⟩) hHeld ?_
  simp only [Act.put,List.setIfInBounds_toArray,List.set_cons_zero,List.set_cons_succ]
  refine wpAnyH_ready (rs:=[10]) (by kernel_rfl) (by simp) ?_
  refine AllReadyH.cons (o:=⟨none,_,_,_,_,_⟩) rfl (fun K hK=>?_) AllReadyH.nil
  go_simp
  refine hK.out _ _ (by have q:=HB6.out; (repeat' (first | (with_reducible exact q) | (with_reducible refine BlkP.Blk.drew ?_) | (with_reducible refine BlkP.Blk.drewN ?_ _) | (with_reducible refine BlkP.Blk.setAt (us:=?_) (by first | omega | (simp; done) | (simp; omega)) rfl ?_ ?_) | (with_reducible refine BlkP.Blk.otherAt ?_ (by first | omega | (simp; done) | (simp; omega))) | (with_reducible refine BlkP.Blk.newA' (by first | omega | (simp; done) | (simp; omega)) rfl) | (with_reducible refine BlkP.Blk.alloc ?_ _) | (exact rfl)))) (fun hHeld=>?_)
  clear hK K
  refine wpAnyH_done (by kernel_rfl) ?_ _
  refine NoPanic.normal ?_
  have HFN:=Lib.hid (show FldM (w6.setCell ⟨f.F,8,none⟩ (.slice (some ⟨g,0,none⟩) (n + 1) c)) (f.asked (x,y,z) g (n + 1) c)∧Fr (SF f) W (w6.setCell ⟨f.F,8,none⟩ (.slice (some ⟨g,0,none⟩) (n + 1) c)) from FldM.noted (w0:=W) HFM.out ⟨(by have q:=HPU.out.1; exact q),(by have q:=HPU.out.2.1; rw [HVA.out]; exact ⟨q.os,q.tape,q.output,q.size,q.block⟩),by have q:=HPU.out.2.2; rw [HVA.out]; exact q⟩)
  refine HeldP.then_named (S:=fun W'=>Blk W' w.heap.size TP [.int .i64 x,.int .i64 y,.int .i64 z]∧Blk W' (w.heap.size + 1) TC [u8v 0,u8v 0]∧FldM W' (f.asked (x,y,z) g (n + 1) c)∧Fr (SF f) w W'∧w.heap.size + 2≤W'.heap.size) ⟨by have q:=HB6.out; have e:=HFL.out; (repeat' (first | (with_reducible exact q) | (with_reducible refine BlkP.Blk.drew ?_) | (with_reducible refine BlkP.Blk.drewN ?_ _) | (with_reducible refine BlkP.Blk.setAt (us:=?_) (by first | omega | (simp; done) | (simp; omega)) rfl ?_ ?_) | (with_reducible refine BlkP.Blk.otherAt ?_ (by first | omega | (simp; done) | (simp; omega))) | (with_reducible refine BlkP.Blk.newA' (by first | omega | (simp; done) | (simp; omega)) rfl) | (with_reducible refine BlkP.Blk.alloc ?_ _) | (exact rfl))),HFN.out.2.blk HR.out (by
    rintro (e | e)
    ·omega
    ·exact HNR.out e),HFN.out.1,(Fr.below (SF f) HBW.out).trans HFN.out.2 (fun i hi=>.inl hi),by
    have:=HFN.out.2.size
    omega⟩ ?_
  rintro W2 ⟨hp2,hr2,hfm2,hfr2,hz2⟩
  have HGF:=Lib.hid (show f.vA.ownBlock = some g ∨ w.heap.size≤g from by
   rcases HPU.out.2.2 with q | q
   ·rw [HVA.out]; exact .inl q
   ·refine .inr ?_
    have q2:W.heap.size≤g:=q
    omega)
  have HR2:=Lib.hid hr2
  have HFM2:=Lib.hid hfm2
  have HFR2:=Lib.hid hfr2
  have p0:W2.cell? ⟨w.heap.size,0,none⟩ = some (.int .i64 x):=hp2.cell (i:=0) rfl
  have p1:W2.cell? ⟨w.heap.size,1,none⟩ = some (.int .i64 y):=hp2.cell (i:=1) rfl
  have p2:W2.cell? ⟨w.heap.size,2,none⟩ = some (.int .i64 z):=hp2.cell (i:=2) rfl
  have hl0:=hp2.lt
  clear hp2 hr2 hfm2 hfr2 c8 z8 HB6 HBB HFN HPU HC8 HFL HAK HP HR HFM HBW hz
  try clear c8'
  cases hib:inB f (x,y,z) with
  | false =>
   have HIB:=Lib.hid hib
   have HIX:=Lib.hid (show idxV (f.asked (x,y,z) g (n + 1) c) (x,y,z) = .tuple #[.int .i64 0,.bool false] by unfold idxV; rw [show inB (f.asked (x,y,z) g (n + 1) c) (x,y,z) = false from hib]; rfl)
   clear hib
   go_wp2_with fail
   go_at_call 16
   refine (fidx_c HFM2.out (asked_w HW.out) HMQ.out).mono ?_
   rintro e W3 ⟨rfl,hb3⟩
   rw [HIX.out]
   have HB3:=Lib.hid hb3
   have r0:W3.cell? ⟨w.heap.size + 1,0,none⟩ = some (.int .u8 0):=(HR2.out.below hb3).cell (i:=0) rfl
   have r1:W3.cell? ⟨w.heap.size + 1,1,none⟩ = some (.int .u8 0):=(HR2.out.below hb3).cell (i:=1) rfl
   have g0:=(HR2.out.below hb3).frozen 0
   have g1:=(HR2.out.below hb3).frozen 1
   have q0:W3.cell? ⟨w.heap.size,0,none⟩ = some (.int .i64 x):=(hb3.cell (p:=⟨w.heap.size,0,none⟩) hl0).trans p0
   have q1:W3.cell? ⟨w.heap.size,1,none⟩ = some (.int .i64 y):=(hb3.cell (p:=⟨w.heap.size,1,none⟩) hl0).trans p1
   have q2:W3.cell? ⟨w.heap.size,2,none⟩ = some (.int .i64 z):=(hb3.cell (p:=⟨w.heap.size,2,none⟩) hl0).trans p2
   clear hb3 p0 p1 p2
   go_wp2_with fail
   go_at_call 28
   refine (PlaceW.r_may_b HMAY.out _).mono ?_
   rintro e W4 ⟨rfl,hb4⟩
   have HB4:=Lib.hid (HB3.out.trans (hb4.mono HB3.out.size))
   have s0:W4.cell? ⟨w.heap.size + 1,0,none⟩ = some (.int .u8 0):=(HR2.out.below HB4.out).cell (i:=0) rfl
   have s1:W4.cell? ⟨w.heap.size + 1,1,none⟩ = some (.int .u8 0):=(HR2.out.below HB4.out).cell (i:=1) rfl
   have g4:=(HR2.out.below HB4.out).frozen 0
   have g5:=(HR2.out.below HB4.out).frozen 1
   clear r0 r1 g0 g1 q0 q1 q2 hb4
   go_wp2_with fail
   refine bodyPost_ret (v:=.agg #[.int .u8 1,.int .u8 0]) (by simp [results,Tryd.results13,go_sem,s0,s1]) rfl ?_
   have hres:=FldM.res HFM0.out HFM2.out HR2.out (by decide) HB4.out (.int .u8 1) (.int .u8 0)
   refine ⟨by unfold cellAt; rw [HIB.out]; rfl,g,c,by rw [HLN.out]; exact hres.1,HFR2.out.trans hres.2 (fun i hi=>.inr (by omega)),HGF.out⟩
  | true =>
   have HIB:=Lib.hid hib
   have HIX:=Lib.hid (show idxV (f.asked (x,y,z) g (n + 1) c) (x,y,z) = .tuple #[.int .i64 (numB f (x,y,z)),.bool true] by unfold idxV; rw [show inB (f.asked (x,y,z) g (n + 1) c) (x,y,z) = true from hib]; rfl)
   have hnb:=numB_lt HW.out hib
   rw [← HW.out.cs] at hnb
   obtain ⟨cc,hcc⟩:∃ cc,f.cs[numB f (x,y,z)]? = some cc:=⟨_,List.getElem?_eq_getElem hnb⟩
   obtain ⟨nb,hnbe⟩:∃ nb,numB f (x,y,z) = nb:=⟨_,rfl⟩
   rw [hnbe] at HIX hnb hcc
   have HRES:=Lib.hid (show cellAt f (x,y,z) = cc by
    unfold cellAt
    rw [if_pos hib,hnbe]
    simp [List.getD,hcc])
   have HCC:=Lib.hid hcc
   obtain ⟨ln,hln⟩:∃ ln,f.cs.length = ln:=⟨_,rfl⟩
   have HLL:=Lib.hid hln
   rw [hln] at hnb
   obtain ⟨Ac,c2,hvc,hc2,_,hgc⟩:=HFM2.out.cs.form (n:=ln) hln
   obtain ⟨gc,rfl,_,hgl⟩:=hgc (by omega)
   have HVC:=Lib.hid hvc
   have hnbI:(nb:Int) < ln:=by omega
   clear hib hcc hln hvc hgc hnbe
   go_wp2_with fail
   go_at_call 16
   refine (fidx_c HFM2.out (asked_w HW.out) HMQ.out).mono ?_
   rintro e W3 ⟨rfl,hb3⟩
   rw [HIX.out]
   have HB3:=Lib.hid hb3
   have hfm3:=HFM2.out.below hb3
   have cF:W3.cell? ⟨f.F,6,none⟩ = some (.slice (some ⟨gc,0,none⟩) ln c2):=(hfm3.blk.cell (i:=6) rfl).trans (congrArg some HVC.out)
   have HO3:=Lib.hid (show RowG.Own enc2 TC W3 0 (.slice (some ⟨gc,0,none⟩) ln c2) f.cs from HVC.out ▸ hfm3.cs)
   have k0:W3.cell? ⟨gc,nb * 2,none⟩ = some (.int .u8 (cc.1:Int)):=HO3.out.cell (j:=0) HCC.out rfl
   have k1:W3.cell? ⟨gc,nb * 2 + 1,none⟩ = some (.int .u8 (cc.2:Int)):=HO3.out.cell (j:=1) HCC.out rfl
   have r0:W3.cell? ⟨w.heap.size + 1,0,none⟩ = some (.int .u8 0):=(HR2.out.below hb3).cell (i:=0) rfl
   have r1:W3.cell? ⟨w.heap.size + 1,1,none⟩ = some (.int .u8 0):=(HR2.out.below hb3).cell (i:=1) rfl
   have g0:=(HR2.out.below hb3).frozen 0
   have g1:=(HR2.out.below hb3).frozen 1
   clear hb3 p0 p1 p2 hfm3
   go_wp2_with fail
   refine bodyPost_ret (v:=.agg #[.int .u8 (cc.1:Int),.int .u8 (cc.2:Int)]) (by simp [results,Tryd.results13,go_sem,r0,r1]) rfl ?_
   have hres:=FldM.res HFM0.out HFM2.out HR2.out (by decide) HB3.out (.int .u8 (cc.1:Int)) (.int .u8 (cc.2:Int))
   refine ⟨by rw [HRES.out],g,c,by rw [HLN.out]; exact hres.1,HFR2.out.trans hres.2 (fun i hi=>.inr (by omega)),HGF.out⟩
set_option maxRecDepth 100000 in
set_option maxHeartbeats 8000000 in
theorem asklit_c {w:World} {f:Fld} {q:V} (h:FldM w f) (hW:FldW f) (hq:mayP q) (hn:f.ak.length≤900000) :
  Calls Tryd.prog 101 #[.pointer (some ⟨f.F,0,none⟩),.agg #[.int .i64 q.1,.int .i64 q.2.1,.int .i64 q.2.2]] w fun e w'=>e = .returned (.agg #[.int .u8 ((litAt f q).1:Int),.int .u8 ((litAt f q).2:Int)])∧AskP w f q w':=by
 obtain ⟨A,cA,hvA,_,_,_⟩:=h.ak.form rfl
 have HVA:=Lib.hid hvA
 obtain ⟨x,y,z⟩:=q
 have HMQ:=Lib.hid hq
 have HMAY:=Lib.hid (show PlaceW.mayB x y z = true from may_yes hq)
 simp only
 have HFM0:=Lib.hid h
 have HW:=Lib.hid hW
 have hFl:=h.blk.lt
 have HNF:=Lib.hid (show ¬ f.vA.ownBlock = some f.F from fun e=>by
  obtain ⟨us,hu⟩:=own_cells HFM0.out.ak e
  exact Blk.ne hu HFM0.out.blk (by decide) rfl)
 have HNP:=Lib.hid (show ¬ f.vA.ownBlock = some w.heap.size from fun e=>by
  have:=(HFM0.out.ak.ge _ e).2
  omega)
 have HNR:=Lib.hid (show ¬ f.vA.ownBlock = some (w.heap.size + 1) from fun e=>by
  have:=(HFM0.out.ak.ge _ e).2
  omega)
 obtain ⟨n,hnn⟩:∃ n,f.ak.length = n:=⟨_,rfl⟩
 rw [hnn] at HVA hn
 have HLN:=Lib.hid hnn
 clear h hW hq hvA hnn
 go_enter Tryd.func101,Tryd.ntmps101
 go_wp2_with fail
 refine HeldP.wp_named (S:=fun W=>Blk W w.heap.size TP [.int .i64 x,.int .i64 y,.int .i64 z]∧Blk W (w.heap.size + 1) TL [u8v 0,u8v 0]∧FldM W f∧Below w.heap.size w W∧w.heap.size + 2≤W.heap.size) ⟨by (repeat' (first | (with_reducible refine BlkP.Blk.drew ?_) | (with_reducible refine BlkP.Blk.drewN ?_ _) | (with_reducible refine BlkP.Blk.setAt (us:=?_) (by first | omega | (simp; done) | (simp; omega)) rfl ?_ ?_) | (with_reducible refine BlkP.Blk.otherAt ?_ (by first | omega | (simp; done) | (simp; omega))) | (with_reducible refine BlkP.Blk.newA' (by first | omega | (simp; done) | (simp; omega)) rfl) | (with_reducible refine BlkP.Blk.alloc ?_ _) | (exact rfl))),by (repeat' (first | (with_reducible refine BlkP.Blk.drew ?_) | (with_reducible refine BlkP.Blk.drewN ?_ _) | (with_reducible refine BlkP.Blk.setAt (us:=?_) (by first | omega | (simp; done) | (simp; omega)) rfl ?_ ?_) | (with_reducible refine BlkP.Blk.otherAt ?_ (by first | omega | (simp; done) | (simp; omega))) | (with_reducible refine BlkP.Blk.newA' (by first | omega | (simp; done) | (simp; omega)) rfl) | (with_reducible refine BlkP.Blk.alloc ?_ _) | (exact rfl))),HFM0.out.below (by (repeat' (first | (with_reducible exact Below.refl _ _) | (with_reducible refine Below.setCell ?_ (by (first | omega | (simp; done) | (simp; omega))) _) | (with_reducible refine Below.alloc ?_ (by (first | omega | (simp; done) | (simp; omega))) _) | (with_reducible refine Below.drew ?_) | (with_reducible refine below_drewN ?_ _)))),by (repeat' (first | (with_reducible exact Below.refl _ _) | (with_reducible refine Below.setCell ?_ (by (first | omega | (simp; done) | (simp; omega))) _) | (with_reducible refine Below.alloc ?_ (by (first | omega | (simp; done) | (simp; omega))) _) | (with_reducible refine Below.drew ?_) | (with_reducible refine below_drewN ?_ _))),by simp⟩ ?_
 rintro W ⟨hp,hr,hfm,hb,hz⟩
 have HP:=Lib.hid hp
 have HR:=Lib.hid hr
 have HFM:=Lib.hid hfm
 have HBW:=Lib.hid hb
 have HAK:=Lib.hid (show RowG.Own encP TP W.drew 0 (.slice A n cA) f.ak from HVA.out ▸ hfm.ak)
 have HC8:=Lib.hid (show W.cell? ⟨f.F,8,none⟩ = some (.slice A n cA) from HVA.out ▸ hfm.blk.cell (i:=8) rfl)
 have HFL:=Lib.hid hfm.blk.lt
 clear hp hr hfm hb
 refine wp_region_noPanic ?_
 refine wp_region_held_drew (S:=fun Xw=>Blk Xw w.heap.size TP [.int .i64 x,.int .i64 y,.int .i64 z]) (by kernel_rfl) (HP.out) (fun hHeld=>?_)
 refine wpAnyH_take (i:=0) (oi:=⟨some 7,_,_,_,_,_⟩) (v:=.pointer (some ⟨f.F,0,none⟩)) rfl (by kernel_rfl) (by kernel_rfl) (by kernel_rfl) (fun _ _ _ h=>h) (Or.inl ⟨by rfl,fun Xw hSW=>by go_simp⟩) hHeld ?_
 simp only [Act.put,List.setIfInBounds_toArray,List.set_cons_zero,List.set_cons_succ]
 refine wpAnyH_take (i:=1) (oi:=⟨some 8,_,_,_,_,_⟩) (v:=.pointer (some ⟨f.F,0,none⟩)) rfl (by kernel_rfl) (by kernel_rfl) (by kernel_rfl) (fun _ _ _ h=>h) (Or.inl ⟨by rfl,fun Xw hSW=>by go_simp⟩) hHeld ?_
 simp only [Act.put,List.setIfInBounds_toArray,List.set_cons_zero,List.set_cons_succ]
 refine wpAnyH_take (i:=2) (oi:=⟨some 9,_,_,_,_,_⟩) (v:=.pointer (some ⟨f.F,0,none⟩)) rfl (by kernel_rfl) (by kernel_rfl) (by kernel_rfl) (fun _ _ _ h=>h) (Or.inl ⟨by rfl,fun Xw hSW=>by go_simp⟩) hHeld ?_
 simp only [Act.put,List.setIfInBounds_toArray,List.set_cons_zero,List.set_cons_succ]
 refine wpAnyH_take (i:=3) (oi:=⟨some 10,_,_,_,_,_⟩) (v:=.pointer (some ⟨f.F,8,none⟩)) rfl (by kernel_rfl) (by kernel_rfl) (by kernel_rfl) (fun _ _ _ h=>h) (Or.inl ⟨by rfl,fun Xw hSW=>by go_simp⟩) hHeld ?_
 simp only [Act.put,List.setIfInBounds_toArray,List.set_cons_zero,List.set_cons_succ]
 refine wpAnyH_take (i:=5) (oi:=⟨some 12,_,_,_,_,_⟩) (v:=.agg #[.int .i64 x,.int .i64 y,.int .i64 z]) rfl (by kernel_rfl) (by kernel_rfl) (by kernel_rfl) (fun _ _ _ h=>h) (Or.inl ⟨by rfl,fun Xw hSW=>by have b0:=hSW.cell (i:=0) rfl; have b1:=hSW.cell (i:=1) rfl; have b2:=hSW.cell (i:=2) rfl; go_simp⟩) hHeld ?_
 simp only [Act.put,List.setIfInBounds_toArray,List.set_cons_zero,List.set_cons_succ]
 have c8:W.cell? ⟨f.F,8,none⟩ = some (.slice A n cA):=HC8.out
 refine wpAnyH_ready (rs:=[4,6]) (by kernel_rfl) (by simp) ?_
 refine AllReadyH.cons (o:=⟨some 11,_,_,_,_,_⟩) rfl (fun K hK=>?_) (AllReadyH.cons (o:=⟨some 13,_,_,_,_,_⟩) rfl (fun K hK=>?_) AllReadyH.nil)
 ·go_simp
  refine hK.out _ _ (hHeld) (fun hHeld=>?_)
  clear hK K
  refine wpAnyH_ready (rs:=[6]) (by kernel_rfl) (by simp) ?_
  refine AllReadyH.cons (o:=⟨some 13,_,_,_,_,_⟩) rfl (fun K hK=>?_) AllReadyH.nil
  go_simp
  refine hK.out _ _ (by have q:=HP.out; (repeat' (first | (with_reducible exact q) | (with_reducible refine BlkP.Blk.drew ?_) | (with_reducible refine BlkP.Blk.drewN ?_ _) | (with_reducible refine BlkP.Blk.setAt (us:=?_) (by first | omega | (simp; done) | (simp; omega)) rfl ?_ ?_) | (with_reducible refine BlkP.Blk.otherAt ?_ (by first | omega | (simp; done) | (simp; omega))) | (with_reducible refine BlkP.Blk.newA' (by first | omega | (simp; done) | (simp; omega)) rfl) | (with_reducible refine BlkP.Blk.alloc ?_ _) | (exact rfl)))) (fun hHeld=>?_)
  clear hK K
  refine wpAnyH_ready (rs:=[7]) (by kernel_rfl) (by simp) ?_
  refine AllReadyH.cons (o:=⟨some 14,_,_,_,_,_⟩) rfl (fun K hK=>?_) AllReadyH.nil
  refine step_pushP (w0:=W.drew) (y:=(x,y,z)) (v:=.slice A n cA) (l:=f.ak) rfl (.tmp 11) (.tmp 13) rfl rfl rfl rfl HAK.out rfl HLN.out (by omega) (Nat.zero_le _) ?_
  intro g c w6 hp
  have HPU:=Lib.hid hp
  have f1:Fr (fun k=>(Value.slice A n cA).ownBlock = some k) W.drew w6:=Fr.grown hp.2.1 (fun i e=>e)
  have hb6:Blk w6 f.F TW (fcells f):=f1.blk HFM.out.blk (by rw [← HVA.out]; exact HNF.out)
  have HB6:=Lib.hid (show Blk w6 w.heap.size TP [.int .i64 x,.int .i64 y,.int .i64 z] from f1.blk HP.out (by rw [← HVA.out]; exact HNP.out))
  have c8:w6.cell? ⟨f.F,8,none⟩ = some f.vA:=hb6.cell (i:=8) rfl
  have z8:=hb6.frozen 8
  have HBB:=Lib.hid hb6
  clear hp f1 hb6
  refine hK.out _ _ (HB6.out) (fun hHeld=>?_)
  clear hK K
  refine wpAnyH_take (i:=8) (oi:=⟨some 15,_,_,_,_,_⟩) (v:=.pointer (some ⟨f.F,0,none⟩)) rfl (by kernel_rfl) (by kernel_rfl) (by kernel_rfl) (fun _ _ _ h=>h) (Or.inl ⟨by rfl,fun Xw hSW=>by go_simp⟩) hHeld ?_
  simp only [Act.put,List.setIfInBounds_toArray,List.set_cons_zero,List.set_cons_succ]
  refine wpAnyH_take (i:=9) (oi:=⟨some 16,_,_,_,_,_⟩) (v:=.pointer (some ⟨f.F,8,none⟩)) rfl (by kernel_rfl) (by kernel_rfl) (by kernel_rfl) (fun _ _ _ h=>h) (Or.inl ⟨by rfl,fun Xw hSW=>by go_simp⟩) hHeld ?_
  simp only [Act.put,List.setIfInBounds_toArray,List.set_cons_zero,List.set_cons_succ]
  refine wpAnyH_ready (rs:=[10]) (by kernel_rfl) (by simp) ?_
  refine AllReadyH.cons (o:=⟨none,_,_,_,_,_⟩) rfl (fun K hK=>?_) AllReadyH.nil
  go_simp
  refine hK.out _ _ (by have q:=HB6.out; (repeat' (first | (with_reducible exact q) | (with_reducible refine BlkP.Blk.drew ?_) | (with_reducible refine BlkP.Blk.drewN ?_ _) | (with_reducible refine BlkP.Blk.setAt (us:=?_) (by first | omega | (simp; done) | (simp; omega)) rfl ?_ ?_) | (with_reducible refine BlkP.Blk.otherAt ?_ (by first | omega | (simp; done) | (simp; omega))) | (with_reducible refine BlkP.Blk.newA' (by first | omega | (simp; done) | (simp; omega)) rfl) | (with_reducible refine BlkP.Blk.alloc ?_ _) | (exact rfl)))) (fun hHeld=>?_)
  clear hK K
  refine wpAnyH_done (by kernel_rfl) ?_ _
  refine NoPanic.normal ?_
  have HFN:=Lib.hid (show FldM (w6.setCell ⟨f.F,8,none⟩ (.slice (some ⟨g,0,none⟩) (n + 1) c)) (f.asked (x,y,z) g (n + 1) c)∧Fr (SF f) W (w6.setCell ⟨f.F,8,none⟩ (.slice (some ⟨g,0,none⟩) (n + 1) c)) from FldM.noted (w0:=W) HFM.out ⟨(by have q:=HPU.out.1; exact q),(by have q:=HPU.out.2.1; rw [HVA.out]; exact ⟨q.os,q.tape,q.output,q.size,q.block⟩),by have q:=HPU.out.2.2; rw [HVA.out]; exact q⟩)
  refine HeldP.then_named (S:=fun W'=>Blk W' w.heap.size TP [.int .i64 x,.int .i64 y,.int .i64 z]∧Blk W' (w.heap.size + 1) TL [u8v 0,u8v 0]∧FldM W' (f.asked (x,y,z) g (n + 1) c)∧Fr (SF f) w W'∧w.heap.size + 2≤W'.heap.size) ⟨by have q:=HB6.out; have e:=HFL.out; (repeat' (first | (with_reducible exact q) | (with_reducible refine BlkP.Blk.drew ?_) | (with_reducible refine BlkP.Blk.drewN ?_ _) | (with_reducible refine BlkP.Blk.setAt (us:=?_) (by first | omega | (simp; done) | (simp; omega)) rfl ?_ ?_) | (with_reducible refine BlkP.Blk.otherAt ?_ (by first | omega | (simp; done) | (simp; omega))) | (with_reducible refine BlkP.Blk.newA' (by first | omega | (simp; done) | (simp; omega)) rfl) | (with_reducible refine BlkP.Blk.alloc ?_ _) | (exact rfl))),HFN.out.2.blk HR.out (by
    rintro (e | e)
    ·omega
    ·exact HNR.out e),HFN.out.1,(Fr.below (SF f) HBW.out).trans HFN.out.2 (fun i hi=>.inl hi),by
    have:=HFN.out.2.size
    omega⟩ ?_
  rintro W2 ⟨hp2,hr2,hfm2,hfr2,hz2⟩
  have HGF:=Lib.hid (show f.vA.ownBlock = some g ∨ w.heap.size≤g from by
   rcases HPU.out.2.2 with q | q
   ·rw [HVA.out]; exact .inl q
   ·refine .inr ?_
    have q2:W.heap.size≤g:=q
    omega)
  have HR2:=Lib.hid hr2
  have HFM2:=Lib.hid hfm2
  have HFR2:=Lib.hid hfr2
  have p0:W2.cell? ⟨w.heap.size,0,none⟩ = some (.int .i64 x):=hp2.cell (i:=0) rfl
  have p1:W2.cell? ⟨w.heap.size,1,none⟩ = some (.int .i64 y):=hp2.cell (i:=1) rfl
  have p2:W2.cell? ⟨w.heap.size,2,none⟩ = some (.int .i64 z):=hp2.cell (i:=2) rfl
  have hl0:=hp2.lt
  clear hp2 hr2 hfm2 hfr2 c8 z8 HB6 HBB HFN HPU HC8 HFL HAK HP HR HFM HBW hz
  try clear c8'
  cases hib:inB f (x,y,z) with
  | false =>
   have HIB:=Lib.hid hib
   have HIX:=Lib.hid (show idxV (f.asked (x,y,z) g (n + 1) c) (x,y,z) = .tuple #[.int .i64 0,.bool false] by unfold idxV; rw [show inB (f.asked (x,y,z) g (n + 1) c) (x,y,z) = false from hib]; rfl)
   clear hib
   go_wp2_with fail
   go_at_call 16
   refine (fidx_c HFM2.out (asked_w HW.out) HMQ.out).mono ?_
   rintro e W3 ⟨rfl,hb3⟩
   rw [HIX.out]
   have HB3:=Lib.hid hb3
   have r0:W3.cell? ⟨w.heap.size + 1,0,none⟩ = some (.int .u8 0):=(HR2.out.below hb3).cell (i:=0) rfl
   have r1:W3.cell? ⟨w.heap.size + 1,1,none⟩ = some (.int .u8 0):=(HR2.out.below hb3).cell (i:=1) rfl
   have g0:=(HR2.out.below hb3).frozen 0
   have g1:=(HR2.out.below hb3).frozen 1
   have q0:W3.cell? ⟨w.heap.size,0,none⟩ = some (.int .i64 x):=(hb3.cell (p:=⟨w.heap.size,0,none⟩) hl0).trans p0
   have q1:W3.cell? ⟨w.heap.size,1,none⟩ = some (.int .i64 y):=(hb3.cell (p:=⟨w.heap.size,1,none⟩) hl0).trans p1
   have q2:W3.cell? ⟨w.heap.size,2,none⟩ = some (.int .i64 z):=(hb3.cell (p:=⟨w.heap.size,2,none⟩) hl0).trans p2
   clear hb3 p0 p1 p2
   go_wp2_with fail
   refine bodyPost_ret (v:=.agg #[.int .u8 0,.int .u8 0]) (by simp [results,Tryd.results101,go_sem,r0,r1]) rfl ?_
   have hres:=FldM.res HFM0.out HFM2.out HR2.out (by decide) HB3.out (.int .u8 0) (.int .u8 0)
   refine ⟨by unfold litAt; rw [HIB.out]; rfl,g,c,by rw [HLN.out]; exact hres.1,HFR2.out.trans hres.2 (fun i hi=>.inr (by omega)),HGF.out⟩
  | true =>
   have HIB:=Lib.hid hib
   have HIX:=Lib.hid (show idxV (f.asked (x,y,z) g (n + 1) c) (x,y,z) = .tuple #[.int .i64 (numB f (x,y,z)),.bool true] by unfold idxV; rw [show inB (f.asked (x,y,z) g (n + 1) c) (x,y,z) = true from hib]; rfl)
   have hnb:=numB_lt HW.out hib
   rw [← HW.out.ls] at hnb
   obtain ⟨cc,hcc⟩:∃ cc,f.ls[numB f (x,y,z)]? = some cc:=⟨_,List.getElem?_eq_getElem hnb⟩
   obtain ⟨nb,hnbe⟩:∃ nb,numB f (x,y,z) = nb:=⟨_,rfl⟩
   rw [hnbe] at HIX hnb hcc
   have HRES:=Lib.hid (show litAt f (x,y,z) = cc by
    unfold litAt
    rw [if_pos hib,hnbe]
    simp [List.getD,hcc])
   have HCC:=Lib.hid hcc
   obtain ⟨ln,hln⟩:∃ ln,f.ls.length = ln:=⟨_,rfl⟩
   have HLL:=Lib.hid hln
   rw [hln] at hnb
   obtain ⟨Ac,c2,hvc,hc2,_,hgc⟩:=HFM2.out.ls.form (n:=ln) hln
   obtain ⟨gc,rfl,_,hgl⟩:=hgc (by omega)
   have HVC:=Lib.hid hvc
   have hnbI:(nb:Int) < ln:=by omega
   clear hib hcc hln hvc hgc hnbe
   go_wp2_with fail
   go_at_call 16
   refine (fidx_c HFM2.out (asked_w HW.out) HMQ.out).mono ?_
   rintro e W3 ⟨rfl,hb3⟩
   rw [HIX.out]
   have HB3:=Lib.hid hb3
   have hfm3:=HFM2.out.below hb3
   have cF:W3.cell? ⟨f.F,7,none⟩ = some (.slice (some ⟨gc,0,none⟩) ln c2):=(hfm3.blk.cell (i:=7) rfl).trans (congrArg some HVC.out)
   have HO3:=Lib.hid (show RowG.Own enc2 TL W3 0 (.slice (some ⟨gc,0,none⟩) ln c2) f.ls from HVC.out ▸ hfm3.ls)
   have k0:W3.cell? ⟨gc,nb * 2,none⟩ = some (.int .u8 (cc.1:Int)):=HO3.out.cell (j:=0) HCC.out rfl
   have k1:W3.cell? ⟨gc,nb * 2 + 1,none⟩ = some (.int .u8 (cc.2:Int)):=HO3.out.cell (j:=1) HCC.out rfl
   have r0:W3.cell? ⟨w.heap.size + 1,0,none⟩ = some (.int .u8 0):=(HR2.out.below hb3).cell (i:=0) rfl
   have r1:W3.cell? ⟨w.heap.size + 1,1,none⟩ = some (.int .u8 0):=(HR2.out.below hb3).cell (i:=1) rfl
   have g0:=(HR2.out.below hb3).frozen 0
   have g1:=(HR2.out.below hb3).frozen 1
   clear hb3 p0 p1 p2 hfm3
   go_wp2_with fail
   refine bodyPost_ret (v:=.agg #[.int .u8 (cc.1:Int),.int .u8 (cc.2:Int)]) (by simp [results,Tryd.results101,go_sem,r0,r1]) rfl ?_
   have hres:=FldM.res HFM0.out HFM2.out HR2.out (by decide) HB3.out (.int .u8 (cc.1:Int)) (.int .u8 (cc.2:Int))
   refine ⟨by rw [HRES.out],g,c,by rw [HLN.out]; exact hres.1,HFR2.out.trans hres.2 (fun i hi=>.inr (by omega)),HGF.out⟩
 ·go_simp
  refine hK.out _ _ (by have q:=HP.out; (repeat' (first | (with_reducible exact q) | (with_reducible refine BlkP.Blk.drew ?_) | (with_reducible refine BlkP.Blk.drewN ?_ _) | (with_reducible refine BlkP.Blk.setAt (us:=?_) (by first | omega | (simp; done) | (simp; omega)) rfl ?_ ?_) | (with_reducible refine BlkP.Blk.otherAt ?_ (by first | omega | (simp; done) | (simp; omega))) | (with_reducible refine BlkP.Blk.newA' (by first | omega | (simp; done) | (simp; omega)) rfl) | (with_reducible refine BlkP.Blk.alloc ?_ _) | (exact rfl)))) (fun hHeld=>?_)
  clear hK K
  have c8':(W.alloc (.cells #[.int .i64 x,.int .i64 y,.int .i64 z] TP)).cell? ⟨f.F,8,none⟩ = some (.slice A n cA):=by have q:=HC8.out; have hl:=HFL.out; (repeat' (first | (with_reducible assumption) | (with_reducible refine HeldP.c_drew ?_) | (with_reducible refine HeldP.c_drewN ?_) | (with_reducible refine HeldP.c_same (by omega) ?_) | (with_reducible refine HeldP.c_other ?_ ?_) | (with_reducible refine HeldP.c_new (by first | omega | (simp; done) | (simp; omega)) ?_) | (with_reducible refine HeldP.c_alloc ?_ ?_) | (with_reducible refine HeldP.e_drew ?_) | (with_reducible refine HeldP.e_drewN ?_) | (with_reducible refine HeldP.e_set ?_) | (with_reducible refine HeldP.e_new (by first | omega | (simp; done) | (simp; omega)) ⟨_,rfl⟩) | (with_reducible refine HeldP.e_alloc ?_ ?_) | (with_reducible refine HeldP.f_drew ?_) | (with_reducible refine HeldP.f_drewN ?_) | (with_reducible refine HeldP.f_set ?_) | (with_reducible refine HeldP.f_new (by first | omega | (simp; done) | (simp; omega))) | (with_reducible refine HeldP.f_alloc ?_ ?_) | (with_reducible refine HeldP.s_drew ?_) | (with_reducible refine HeldP.s_drewN ?_) | (with_reducible refine HeldP.s_set ?_) | (with_reducible refine HeldP.s_new (by first | omega | (simp; done) | (simp; omega))) | (with_reducible refine HeldP.s_alloc ?_) | (with_reducible exact ⟨_,by assumption⟩) | omega | (intro e; simp at e; done) | (intro e; simp at e; omega) | (exact rfl) | (simp; done) | (simp; omega)))
  refine wpAnyH_ready (rs:=[4]) (by kernel_rfl) (by simp) ?_
  refine AllReadyH.cons (o:=⟨some 11,_,_,_,_,_⟩) rfl (fun K hK=>?_) AllReadyH.nil
  go_simp
  refine hK.out _ _ (hHeld) (fun hHeld=>?_)
  clear hK K
  refine wpAnyH_ready (rs:=[7]) (by kernel_rfl) (by simp) ?_
  refine AllReadyH.cons (o:=⟨some 14,_,_,_,_,_⟩) rfl (fun K hK=>?_) AllReadyH.nil
  refine step_pushP (w0:=W.drew) (y:=(x,y,z)) (v:=.slice A n cA) (l:=f.ak) rfl (.tmp 11) (.tmp 13) rfl rfl rfl rfl HAK.out rfl HLN.out (by omega) (Nat.zero_le _) ?_
  intro g c w6 hp
  have HPU:=Lib.hid hp
  have f1:Fr (fun k=>(Value.slice A n cA).ownBlock = some k) W.drew w6:=Fr.grown hp.2.1 (fun i e=>e)
  have hb6:Blk w6 f.F TW (fcells f):=f1.blk HFM.out.blk (by rw [← HVA.out]; exact HNF.out)
  have HB6:=Lib.hid (show Blk w6 w.heap.size TP [.int .i64 x,.int .i64 y,.int .i64 z] from f1.blk HP.out (by rw [← HVA.out]; exact HNP.out))
  have c8:w6.cell? ⟨f.F,8,none⟩ = some f.vA:=hb6.cell (i:=8) rfl
  have z8:=hb6.frozen 8
  have HBB:=Lib.hid hb6
  clear hp f1 hb6
  refine hK.out _ _ (HB6.out) (fun hHeld=>?_)
  clear hK K
  refine wpAnyH_take (i:=8) (oi:=⟨some 15,_,_,_,_,_⟩) (v:=.pointer (some ⟨f.F,0,none⟩)) rfl (by kernel_rfl) (by kernel_rfl) (by kernel_rfl) (fun _ _ _ h=>h) (Or.inl ⟨by rfl,fun Xw hSW=>by go_simp⟩) hHeld ?_
  simp only [Act.put,List.setIfInBounds_toArray,List.set_cons_zero,List.set_cons_succ]
  refine wpAnyH_take (i:=9) (oi:=⟨some 16,_,_,_,_,_⟩) (v:=.pointer (some ⟨f.F,8,none⟩)) rfl (by kernel_rfl) (by kernel_rfl) (by kernel_rfl) (fun _ _ _ h=>h) (Or.inl ⟨by rfl,fun Xw hSW=>by go_simp⟩) hHeld ?_
  simp only [Act.put,List.setIfInBounds_toArray,List.set_cons_zero,List.set_cons_succ]
  refine wpAnyH_ready (rs:=[10]) (by kernel_rfl) (by simp) ?_
  refine AllReadyH.cons (o:=⟨none,_,_,_,_,_⟩) rfl (fun K hK=>?_) AllReadyH.nil
  go_simp
  refine hK.out _ _ (by have q:=HB6.out; (repeat' (first | (with_reducible exact q) | (with_reducible refine BlkP.Blk.drew ?_) | (with_reducible refine BlkP.Blk.drewN ?_ _) | (with_reducible refine BlkP.Blk.setAt (us:=?_) (by first | omega | (simp; done) | (simp; omega)) rfl ?_ ?_) | (with_reducible refine BlkP.Blk.otherAt ?_ (by first | omega | (simp; done) | (simp; omega))) | (with_reducible refine BlkP.Blk.newA' (by first | omega | (simp; done) | (simp; omega)) rfl) | (with_reducible refine BlkP.Blk.alloc ?_ _) | (exact rfl)))) (fun hHeld=>?_)
  clear hK K
  refine wpAnyH_done (by kernel_rfl) ?_ _
  refine NoPanic.normal ?_
  have HFN:=Lib.hid (show FldM (w6.setCell ⟨f.F,8,none⟩ (.slice (some ⟨g,0,none⟩) (n + 1) c)) (f.asked (x,y,z) g (n + 1) c)∧Fr (SF f) W (w6.setCell ⟨f.F,8,none⟩ (.slice (some ⟨g,0,none⟩) (n + 1) c)) from FldM.noted (w0:=W) HFM.out ⟨(by have q:=HPU.out.1; exact q),(by have q:=HPU.out.2.1; rw [HVA.out]; exact ⟨q.os,q.tape,q.output,q.size,q.block⟩),by have q:=HPU.out.2.2; rw [HVA.out]; exact q⟩)
  refine HeldP.then_named (S:=fun W'=>Blk W' w.heap.size TP [.int .i64 x,.int .i64 y,.int .i64 z]∧Blk W' (w.heap.size + 1) TL [u8v 0,u8v 0]∧FldM W' (f.asked (x,y,z) g (n + 1) c)∧Fr (SF f) w W'∧w.heap.size + 2≤W'.heap.size) ⟨by have q:=HB6.out; have e:=HFL.out; (repeat' (first | (with_reducible exact q) | (with_reducible refine BlkP.Blk.drew ?_) | (with_reducible refine BlkP.Blk.drewN ?_ _) | (with_reducible refine BlkP.Blk.setAt (us:=?_) (by first | omega | (simp; done) | (simp; omega)) rfl ?_ ?_) | (with_reducible refine BlkP.Blk.otherAt ?_ (by first | omega | (simp; done) | (simp; omega))) | (with_reducible refine BlkP.Blk.newA' (by first | omega | (simp; done) | (simp; omega)) rfl) | (with_reducible refine BlkP.Blk.alloc ?_ _) | (exact rfl))),HFN.out.2.blk HR.out (by
    rintro (e | e)
    ·omega
    ·exact HNR.out e),HFN.out.1,(Fr.below (SF f) HBW.out).trans HFN.out.2 (fun i hi=>.inl hi),by
    have:=HFN.out.2.size
    omega⟩ ?_
  rintro W2 ⟨hp2,hr2,hfm2,hfr2,hz2⟩
  have HGF:=Lib.hid (show f.vA.ownBlock = some g ∨ w.heap.size≤g from by
   rcases HPU.out.2.2 with q | q
   ·rw [HVA.out]; exact .inl q
   ·refine .inr ?_
    have q2:W.heap.size≤g:=q
    omega)
  have HR2:=Lib.hid hr2
  have HFM2:=Lib.hid hfm2
  have HFR2:=Lib.hid hfr2
  have p0:W2.cell? ⟨w.heap.size,0,none⟩ = some (.int .i64 x):=hp2.cell (i:=0) rfl
  have p1:W2.cell? ⟨w.heap.size,1,none⟩ = some (.int .i64 y):=hp2.cell (i:=1) rfl
  have p2:W2.cell? ⟨w.heap.size,2,none⟩ = some (.int .i64 z):=hp2.cell (i:=2) rfl
  have hl0:=hp2.lt
  clear hp2 hr2 hfm2 hfr2 c8 z8 HB6 HBB HFN HPU HC8 HFL HAK HP HR HFM HBW hz
  try clear c8'
  cases hib:inB f (x,y,z) with
  | false =>
   have HIB:=Lib.hid hib
   have HIX:=Lib.hid (show idxV (f.asked (x,y,z) g (n + 1) c) (x,y,z) = .tuple #[.int .i64 0,.bool false] by unfold idxV; rw [show inB (f.asked (x,y,z) g (n + 1) c) (x,y,z) = false from hib]; rfl)
   clear hib
   go_wp2_with fail
   go_at_call 16
   refine (fidx_c HFM2.out (asked_w HW.out) HMQ.out).mono ?_
   rintro e W3 ⟨rfl,hb3⟩
   rw [HIX.out]
   have HB3:=Lib.hid hb3
   have r0:W3.cell? ⟨w.heap.size + 1,0,none⟩ = some (.int .u8 0):=(HR2.out.below hb3).cell (i:=0) rfl
   have r1:W3.cell? ⟨w.heap.size + 1,1,none⟩ = some (.int .u8 0):=(HR2.out.below hb3).cell (i:=1) rfl
   have g0:=(HR2.out.below hb3).frozen 0
   have g1:=(HR2.out.below hb3).frozen 1
   have q0:W3.cell? ⟨w.heap.size,0,none⟩ = some (.int .i64 x):=(hb3.cell (p:=⟨w.heap.size,0,none⟩) hl0).trans p0
   have q1:W3.cell? ⟨w.heap.size,1,none⟩ = some (.int .i64 y):=(hb3.cell (p:=⟨w.heap.size,1,none⟩) hl0).trans p1
   have q2:W3.cell? ⟨w.heap.size,2,none⟩ = some (.int .i64 z):=(hb3.cell (p:=⟨w.heap.size,2,none⟩) hl0).trans p2
   clear hb3 p0 p1 p2
   go_wp2_with fail
   refine bodyPost_ret (v:=.agg #[.int .u8 0,.int .u8 0]) (by simp [results,Tryd.results101,go_sem,r0,r1]) rfl ?_
   have hres:=FldM.res HFM0.out HFM2.out HR2.out (by decide) HB3.out (.int .u8 0) (.int .u8 0)
   refine ⟨by unfold litAt; rw [HIB.out]; rfl,g,c,by rw [HLN.out]; exact hres.1,HFR2.out.trans hres.2 (fun i hi=>.inr (by omega)),HGF.out⟩
  | true =>
   have HIB:=Lib.hid hib
   have HIX:=Lib.hid (show idxV (f.asked (x,y,z) g (n + 1) c) (x,y,z) = .tuple #[.int .i64 (numB f (x,y,z)),.bool true] by unfold idxV; rw [show inB (f.asked (x,y,z) g (n + 1) c) (x,y,z) = true from hib]; rfl)
   have hnb:=numB_lt HW.out hib
   rw [← HW.out.ls] at hnb
   obtain ⟨cc,hcc⟩:∃ cc,f.ls[numB f (x,y,z)]? = some cc:=⟨_,List.getElem?_eq_getElem hnb⟩
   obtain ⟨nb,hnbe⟩:∃ nb,numB f (x,y,z) = nb:=⟨_,rfl⟩
   rw [hnbe] at HIX hnb hcc
   have HRES:=Lib.hid (show litAt f (x,y,z) = cc by
    unfold litAt
    rw [if_pos hib,hnbe]
    simp [List.getD,hcc])
   have HCC:=Lib.hid hcc
   obtain ⟨ln,hln⟩:∃ ln,f.ls.length = ln:=⟨_,rfl⟩
   have HLL:=Lib.hid hln
   rw [hln] at hnb
   obtain ⟨Ac,c2,hvc,hc2,_,hgc⟩:=HFM2.out.ls.form (n:=ln) hln
   obtain ⟨gc,rfl,_,hgl⟩:=hgc (by omega)
   have HVC:=Lib.hid hvc
   have hnbI:(nb:Int) < ln:=by omega
   clear hib hcc hln hvc hgc hnbe
   go_wp2_with fail
   go_at_call 16
   refine (fidx_c HFM2.out (asked_w HW.out) HMQ.out).mono ?_
   rintro e W3 ⟨rfl,hb3⟩
   rw [HIX.out]
   have HB3:=Lib.hid hb3
   have hfm3:=HFM2.out.below hb3
   have cF:W3.cell? ⟨f.F,7,none⟩ = some (.slice (some ⟨gc,0,none⟩) ln c2):=(hfm3.blk.cell (i:=7) rfl).trans (congrArg some HVC.out)
   have HO3:=Lib.hid (show RowG.Own enc2 TL W3 0 (.slice (some ⟨gc,0,none⟩) ln c2) f.ls from HVC.out ▸ hfm3.ls)
   have k0:W3.cell? ⟨gc,nb * 2,none⟩ = some (.int .u8 (cc.1:Int)):=HO3.out.cell (j:=0) HCC.out rfl
   have k1:W3.cell? ⟨gc,nb * 2 + 1,none⟩ = some (.int .u8 (cc.2:Int)):=HO3.out.cell (j:=1) HCC.out rfl
   have r0:W3.cell? ⟨w.heap.size + 1,0,none⟩ = some (.int .u8 0):=(HR2.out.below hb3).cell (i:=0) rfl
   have r1:W3.cell? ⟨w.heap.size + 1,1,none⟩ = some (.int .u8 0):=(HR2.out.below hb3).cell (i:=1) rfl
   have g0:=(HR2.out.below hb3).frozen 0
   have g1:=(HR2.out.below hb3).frozen 1
   clear hb3 p0 p1 p2 hfm3
   go_wp2_with fail
   refine bodyPost_ret (v:=.agg #[.int .u8 (cc.1:Int),.int .u8 (cc.2:Int)]) (by simp [results,Tryd.results101,go_sem,r0,r1]) rfl ?_
   have hres:=FldM.res HFM0.out HFM2.out HR2.out (by decide) HB3.out (.int .u8 (cc.1:Int)) (.int .u8 (cc.2:Int))
   refine ⟨by rw [HRES.out],g,c,by rw [HLN.out]; exact hres.1,HFR2.out.trans hres.2 (fun i hi=>.inr (by omega)),HGF.out⟩
end FloodW
end Go.Proofs.YtpimkdaikoclnaaDoor
namespace Go.Proofs.YtpimkdaikoclnaaDoor
open Go.RowKit
set_option linter.unusedVariables false
set_option linter.unusedSimpArgs false
namespace FloodW
open BlkP RowG GlowW FloodP
theorem opens_b {k l:Nat} (w:World) (hT:KindW.Tab w):Calls Tryd.prog 38 #[.agg #[.int .u8 k,.int .u8 l]] w fun e w'=>e = .returned (.bool (openA (k,l)))∧Below w.heap.size w w':=by
 have hT1:=hT.below ((Below.refl _ w).alloc (Nat.le_refl _) (.cells #[.int .u8 k,.int .u8 l] TC))
 cases hm:KindP.may k l with
 | false =>
  have HM:=Lib.hid hm
  go_enter Tryd.func38,Tryd.ntmps38
  go_wp2_with fail
  go_at_call 49
  refine (KindW.k_may_b HM.out _ hT1).mono ?_
  rintro e w1 ⟨rfl,hb⟩
  go_wp2_with fail
  go_ret
  refine ⟨by simp [openA,HM.out],by (repeat' (first | (with_reducible exact Below.refl _ _) | (with_reducible refine Below.setCell ?_ (by (first | omega | (simp; done) | (simp; omega))) _) | (with_reducible refine Below.alloc ?_ (by (first | omega | (simp; done) | (simp; omega))) _) | (with_reducible refine Below.drew ?_) | (with_reducible refine below_drewN ?_ _) | (with_reducible refine Below.trans ?_ (Below.mono hb (by (first | omega | (simp; done) | (simp; omega)))))))⟩
 | true =>
  have HM:=Lib.hid hm
  have HT1:=Lib.hid hT1
  go_enter Tryd.func38,Tryd.ntmps38
  go_wp2_with fail
  go_at_call 49
  refine (KindW.k_may_b HM.out _ HT1.out).mono ?_
  rintro e w1 ⟨rfl,hb⟩
  have HB:=Lib.hid hb
  have hk0:w1.cell? ⟨w.heap.size,0,none⟩ = some (.int .u8 k):=(hb.cell (p:=⟨w.heap.size,0,none⟩) (by simp)).trans (by simp)
  clear hb
  go_wp2_with (go_at_call 50; refine (KindW.k_clear k _ (HT1.out.below HB.out)).mono ?_; rintro e w2 ⟨rfl,rfl⟩)
  go_ret
  have hb:=HB.out
  refine ⟨by simp [openA,HM.out],by (repeat' (first | (with_reducible exact Below.refl _ _) | (with_reducible refine Below.setCell ?_ (by (first | omega | (simp; done) | (simp; omega))) _) | (with_reducible refine Below.alloc ?_ (by (first | omega | (simp; done) | (simp; omega))) _) | (with_reducible refine Below.drew ?_) | (with_reducible refine below_drewN ?_ _) | (with_reducible refine Below.trans ?_ (Below.mono hb (by (first | omega | (simp; done) | (simp; omega)))))))⟩
structure Sx (w:World) (g:Gh):Prop where
 st:St w g
 tab:KindW.Tab w
 gk:¬ Ss g 0
theorem tab_fr {S:Nat→Prop} {w w':World} (h:KindW.Tab w) (hf:Fr S w w') (hn:¬ S 0):KindW.Tab w' :=
 ⟨fun k hk=>(hf.cell (p:=⟨0,_,none⟩) h.size hn).trans (h.name k hk),fun k hk=>(hf.cell (p:=⟨0,_,none⟩) h.size hn).trans (h.least k hk),
  fun k hk=>(hf.cell (p:=⟨0,_,none⟩) h.size hn).trans (h.most k hk),fun k hk=>(hf.cell (p:=⟨0,_,none⟩) h.size hn).trans (h.trait k hk),Nat.lt_of_lt_of_le h.size hf.size⟩
theorem Sx.go {w w':World} {g g':Gh} (h:Sx w g) (hs:St w' g') (k:Go g w g' w'):Sx w' g':=⟨hs,tab_fr h.tab k.fr h.gk,fun q=>by
 rcases k.new _ q with q | q
 ·exact h.gk q
 ·have:=h.tab.size
  omega⟩
theorem Sx.below {w w':World} {g:Gh} (h:Sx w g) (hb:Below w.heap.size w w'):Sx w' g:=h.go (h.st.below hb) (Go.below g hb)
def Gh.more (g:Gh) (vA:Value) (ak:List V) (kn:List (V × Nat)):Gh:={ g with f:={ g.f with vA:=vA,ak:=ak },kn:=kn }
def KnowP (w:World) (g:Gh) (q:V) (e:Ending) (w':World):Prop :=
 ∃ b vA ak kn,e = .returned (.pointer (some ⟨b,0,none⟩))∧(q,b) ∈ kn∧(∀ p,p ∈ g.kn→p ∈ kn)∧Sx w' (g.more vA ak kn)∧Go g w (g.more vA ak kn) w'
structure KS (w:World) (g:Gh) (W:World) (f:Fld):Prop where
 fld:FldM W f
 f_:∃ vA ak,f = { g.f with vA:=vA,ak:=ak }
 fr:Fr (SF g.f) w W
 new:∀ k,f.vA.ownBlock = some k→g.f.vA.ownBlock = some k ∨ w.heap.size≤k
theorem KS.start {w:World} {g:Gh} (h:St w g):KS w g w g.f:=⟨h.fld,⟨_,_,rfl⟩,Fr.refl _ _,fun k hk=>.inl hk⟩
theorem KS.below {w W W':World} {g:Gh} {f:Fld} (h:KS w g W f) (hb:Below W.heap.size W W'):KS w g W' f:=⟨h.fld.below hb,h.f_,h.fr.trans (Fr.below (SF g.f) hb) (fun i hi=>.inl hi),h.new⟩
theorem KS.ask {w W W':World} {g:Gh} {f:Fld} {q:V} (h:KS w g W f) (ha:AskP W f q W'):∃ gb c,KS w g W' (f.asked q gb (f.ak.length + 1) c)∧(f.vA.ownBlock = some gb ∨ W.heap.size≤gb):=by
 obtain ⟨gb,c,h1,h2,h3⟩:=ha
 obtain ⟨vA,ak,e⟩:=h.f_
 have hF:f.F = g.f.F:=by rw [e]
 refine ⟨gb,c,⟨h1,⟨_,_,by rw [e]; rfl⟩,h.fr.trans h2 (fun i hi=>?_),fun k hk=>?_⟩,h3⟩
 ·rcases hi with hi | hi
  ·exact .inl (.inl (hi.trans hF))
  ·rcases h.new i hi with q | q
   ·exact .inl (.inr q)
   ·exact .inr q
 ·have hk':gb = k:=by simpa [Fld.asked,Value.ownBlock] using hk
  subst hk'
  rcases h3 with q | q
  ·exact h.new gb q
  ·exact .inr (Nat.le_trans h.fr.size q)
theorem KS.blk {w W:World} {g:Gh} {f:Fld} {b:Nat} {T:TypeId} {vs:List Value} (h:KS w g W f) (hs:St w g) (hb:Blk w b T vs) (h1:T ≠ TW) (h2:T ≠ TP):Blk W b T vs:=h.fr.blk hb (fun hk=>by
 rcases hk with e | e
 ·exact Blk.ne hb hs.fld.blk h1 e
 ·obtain ⟨us,hu⟩:=own_cells hs.fld.ak e
  exact Blk.ne hb hu h2 rfl)
theorem KS.map {w W:World} {g:Gh} {f:Fld} (h:KS w g W f) (hs:St w g):MapK W g.M g.kn:=(h.fr.block _ hs.map.lt (fun hk=>by
 rcases hk with e | e
 ·exact Blk.notMap hs.map hs.fld.blk e.symm
 ·obtain ⟨us,hu⟩:=own_cells hs.fld.ak e
  exact Blk.notMap hs.map hu rfl)).trans hs.map
theorem KS.tab {w W:World} {g:Gh} {f:Fld} (h:KS w g W f) (hs:Sx w g):KindW.Tab W:=tab_fr hs.tab h.fr (fun hk=>hs.gk (by
 rcases hk with e | e
 ·exact .inl e
 ·exact .inr (.inl e)))
end FloodW
end Go.Proofs.YtpimkdaikoclnaaDoor
