import Derived.Deep.RegionHeld3
import Derived.Test.YtpimkdaikoclnaaDoorFlE12
import Derived.Test.YtpimkdaikoclnaaDoorFlE1
namespace Go.Proofs.YtpimkdaikoclnaaDoor
open Go.RowKit
set_option linter.unusedVariables false
set_option linter.unusedSimpArgs false
namespace FloodW
open BlkP RowG GlowW FloodP
def fJ (F:Nat) (lo:V) (X Y Z:Nat) (vC:Value) (cs:List (Nat × Nat)):Fld:={ F:=F,lo:=lo,X:=X,Y:=Y,Z:=Z,vC:=vC,vL:=.slice none 0 0,vA:=.slice none 0 0,vT:=.slice none 0 0,cs:=cs,ls:=[],ak:=[],ts:=[],other:=0 }
theorem fJ_mem {w:World} {F:Nat} {lo:V} {X Y Z:Nat} {vC:Value} {cs:List (Nat × Nat)} (hb:Blk w F TW (fcells (fJ F lo X Y Z vC cs))) (hc:RowG.Own enc2 TC w 0 vC cs):FldM w (fJ F lo X Y Z vC cs):=⟨hb,hc,Own.nil _ _ _ _,Own.nil _ _ _ _,Own.nil _ _ _ _,fun g h=>by cases h⟩
theorem FldM.pushC {f:Fld} {w0 w6:World} {y:Nat × Nat} {n g c:Nat} (h:FldM w0 f) (hp:Pushed enc2 TC w0 0 f.vC f.cs y n g c w6) :
  FldM (w6.setCell ⟨f.F,6,none⟩ (.slice (some ⟨g,0,none⟩) n c)) { f with vC:=.slice (some ⟨g,0,none⟩) n c,cs:=f.cs ++ [y] }∧Fr (fun k=>k = f.F ∨ f.vC.ownBlock = some k) w0 (w6.setCell ⟨f.F,6,none⟩ (.slice (some ⟨g,0,none⟩) n c)):=by
 obtain ⟨h1,h2,h3⟩:=hp
 have f1:Fr (fun k=>f.vC.ownBlock = some k) w0 w6:=Fr.grown h2 (fun i e=>e)
 have nF:f.vC.ownBlock ≠ some f.F:=fun e=>by
  obtain ⟨us,hu⟩:=own_cells h.cs e
  exact Blk.ne hu h.blk (by decide) rfl
 have ne:∀ {α:Type} {e:Enc α} {E:TypeId} {v:Value} {l:List α},RowG.Own e E w0 0 v l→E ≠ TC→∀ k,v.ownBlock = some k→f.vC.ownBlock ≠ some k:=fun ho hE k e e2=>by
  obtain ⟨us,hu⟩:=own_cells h.cs e2
  obtain ⟨us2,hu2⟩:=own_cells ho e
  exact Blk.ne hu2 hu hE rfl
 have f2:Fr (fun k=>k = f.F) w6 (w6.setCell ⟨f.F,6,none⟩ (.slice (some ⟨g,0,none⟩) n c)):=Fr.set _ _ _ _ rfl
 have key:∀ {α:Type} {e:Enc α} {E:TypeId} {v:Value} {l:List α},RowG.Own e E w6 0 v l→E ≠ TW→RowG.Own e E (w6.setCell ⟨f.F,6,none⟩ (.slice (some ⟨g,0,none⟩) n c)) 0 v l:=fun ho hE=>f2.own ho (fun k e e2=>by
  obtain ⟨us,hu⟩:=own_cells ho e
  rw [e2] at hu
  exact Blk.ne hu (f1.blk h.blk nF) hE rfl)
 refine ⟨⟨?_,key h1 (by decide),key (f1.own h.ls (ne h.ls (by decide))) (by decide),key (f1.own h.ak (ne h.ak (by decide))) (by decide),key (f1.own h.ts (ne h.ts (by decide))) (by decide),h.dj⟩,(f1.mono (fun i e=>.inr e)).trans f2 (fun i e=>.inl (.inl e))⟩
 exact (f1.blk h.blk nF).set 6 _
theorem FldM.setLs {f:Fld} {w:World} {B:Nat} {v:Value} {L:List (Nat × Nat)} (h:FldM w f) (hv:RowG.Own enc2 TL w B v L):FldM (w.setCell ⟨f.F,7,none⟩ v) { f with vL:=v,ls:=L }:=by
 have f2:Fr (fun k=>k = f.F) w (w.setCell ⟨f.F,7,none⟩ v):=Fr.set _ _ _ _ rfl
 have key:∀ {α:Type} {e:Enc α} {E:TypeId} {u:Value} {l:List α} {B:Nat},RowG.Own e E w B u l→E ≠ TW→RowG.Own e E (w.setCell ⟨f.F,7,none⟩ v) 0 u l:=fun ho hE=>(f2.own ho (fun k e e2=>by
  obtain ⟨us,hu⟩:=own_cells ho e
  rw [e2] at hu
  exact Blk.ne hu h.blk hE rfl)).mono (Nat.zero_le _)
 exact ⟨h.blk.set 7 _,key h.cs (by decide),key hv (by decide),key h.ak (by decide),key h.ts (by decide),h.dj⟩
def pickC (cl:List (Nat × Nat)) (i:Nat):Nat × Nat:=if KindP.may (cl.getD (i % cl.length) (0,0)).1 (cl.getD (i % cl.length) (0,0)).2 = true then cl.getD (i % cl.length) (0,0) else (0,0)
def madeC (cl:List (Nat × Nat)) (n:Nat):List (Nat × Nat):=(List.range n).map (pickC cl)
theorem madeC_next (cl:List (Nat × Nat)) (n:Nat):madeC cl (n + 1) = madeC cl n ++ [pickC cl n]:=by simp [madeC,List.range_succ]
theorem madeC_len (cl:List (Nat × Nat)) (n:Nat):(madeC cl n).length = n:=by simp [madeC]
theorem pickC_8 {cl:List (Nat × Nat)} (h:∀ c ∈ cl,c.1 < 256∧c.2 < 256) (i:Nat):(pickC cl i).1 < 256∧(pickC cl i).2 < 256:=by
 unfold pickC
 split
 ·by_cases hi:i % cl.length < cl.length
  ·rw [show cl.getD (i % cl.length) (0,0) = cl[i % cl.length] by simp [List.getD,hi]]
   exact h _ (List.getElem_mem hi)
  ·rw [show cl.getD (i % cl.length) (0,0) = (0,0) by simp [List.getD,List.getElem?_eq_none (Nat.le_of_not_lt hi)]]
   exact ⟨by decide,by decide⟩
 ·exact ⟨by decide,by decide⟩
theorem pickC_nil (i:Nat):pickC [] i = (0,0):=by
 unfold pickC
 split <;> rfl
theorem pickC_at {cl:List (Nat × Nat)} {i:Nat} {x:Nat × Nat} (h:cl[i % cl.length]? = some x):pickC cl i = if KindP.may x.1 x.2 = true then x else (0,0):=by
 have e:cl.getD (i % cl.length) (0,0) = x:=by simp [List.getD,h]
 unfold pickC
 rw [e]
structure Mk (w:World) (x y z:Int) (p:V) (cl:List (Nat × Nat)) (f:Fld) (w':World):Prop where
 fld:FldM w' f
 fc:FldC f
 x:(f.X:Int) = 1 + x % 8
 y:(f.Y:Int) = 1 + y % 16
 z:(f.Z:Int) = 1 + z % 8
 lo:f.lo = (fitI p.1 (-1048576) (1048576 - f.X),fitI p.2.1 0 (64 - f.Y),fitI p.2.2 (-1048576) (1048576 - f.Z))
 cs:f.cs = madeC cl (f.X * f.Y * f.Z)
 ls:f.ls = rightL f
 ak:f.ak = []
 ts:f.ts = []
 other:f.other = 0
 new:∀ k,k = f.F ∨ f.vC.ownBlock = some k ∨ f.vL.ownBlock = some k→w.heap.size≤k
 nil:f.vA = .slice none 0 0∧f.vT = .slice none 0 0
 bel:Below w.heap.size w w'
def MadeP (w:World) (x y z:Int) (p:V) (cl:List (Nat × Nat)) (e:Ending) (w':World):Prop:=∃ f,e = .returned (.pointer (some ⟨f.F,0,none⟩))∧Mk w x y z p cl f w'
set_option maxRecDepth 100000 in
set_option maxHeartbeats 16000000 in
theorem made_c {w:World} {p:V} {x y z:Int} {A:Option Addr} {m c:Nat} {cl:List (Nat × Nat)} (hR:Rd enc2 w (.slice A m c) cl) (hm:cl.length = m) (hc8:∀ c ∈ cl,c.1 < 256∧c.2 < 256) :
  Calls Tryd.prog 10 #[.agg #[.int .i64 p.1,.int .i64 p.2.1,.int .i64 p.2.2],.int .i64 x,.int .i64 y,.int .i64 z,.slice A m c] w (MadeP w x y z p cl):=by
 have HR:=Lib.hid hR
 have HM:=Lib.hid hm
 have HC8:=Lib.hid hc8
 obtain ⟨a,ha,ha8⟩:∃ a:Nat,x % 8 = a∧a < 8:=⟨(x % 8).toNat,by omega,by omega⟩
 obtain ⟨b,hb,hb8⟩:∃ b:Nat,y % 16 = b∧b < 16:=⟨(y % 16).toNat,by omega,by omega⟩
 obtain ⟨d,hd,hd8⟩:∃ d:Nat,z % 8 = d∧d < 8:=⟨(z % 8).toNat,by omega,by omega⟩
 have e7:bits .and .i64 x 7 = (a:Int):=(BitsP.and_mask x 3 (by omega)).trans ha
 have e15:bits .and .i64 y 15 = (b:Int):=(BitsP.and_mask y 4 (by omega)).trans hb
 have f7:bits .and .i64 z 7 = (d:Int):=(BitsP.and_mask z 3 (by omega)).trans hd
 have HXA:=Lib.hid ha
 have HYB:=Lib.hid hb
 have HZD:=Lib.hid hd
 clear hR hm hc8 ha hb hd
 go_enter Tryd.func10,Tryd.ntmps10
 go_wp2_with fail
 obtain ⟨F,hF⟩:∃ F,w.heap.size + 1 = F:=⟨_,rfl⟩
 refine HeldP.wp_named (S:=fun W=>Below w.heap.size w W∧Blk W w.heap.size TP [.int .i64 p.1,.int .i64 p.2.1,.int .i64 p.2.2]∧Blk W (w.heap.size + 1) TW [.int .i64 0,.int .i64 0,.int .i64 0,.int .i64 (1 + (a:Int)),.int .i64 (1 + (b:Int)),.int .i64 (1 + (d:Int)),.slice none 0 0,.slice none 0 0,.slice none 0 0,.slice none 0 0,.int .i64 0]) ⟨by (repeat' (first | (with_reducible exact Below.refl _ _) | (with_reducible refine Below.setCell ?_ (by (first | omega | (simp; done) | (simp; omega))) _) | (with_reducible refine Below.alloc ?_ (by (first | omega | (simp; done) | (simp; omega))) _) | (with_reducible refine Below.drew ?_) | (with_reducible refine below_drewN ?_ _))),by (repeat' (first | (with_reducible refine BlkP.Blk.drew ?_) | (with_reducible refine BlkP.Blk.drewN ?_ _) | (with_reducible refine BlkP.Blk.setAt (us:=?_) (by first | omega | (simp; done) | (simp; omega)) rfl ?_ ?_) | (with_reducible refine BlkP.Blk.otherAt ?_ (by first | omega | (simp; done) | (simp; omega))) | (with_reducible refine BlkP.Blk.newA' (by first | omega | (simp; done) | (simp; omega)) rfl) | (with_reducible refine BlkP.Blk.alloc ?_ _) | (exact rfl))),by (repeat' (first | (with_reducible refine BlkP.Blk.drew ?_) | (with_reducible refine BlkP.Blk.drewN ?_ _) | (with_reducible refine BlkP.Blk.setAt (us:=?_) (by first | omega | (simp; done) | (simp; omega)) rfl ?_ ?_) | (with_reducible refine BlkP.Blk.otherAt ?_ (by first | omega | (simp; done) | (simp; omega))) | (with_reducible refine BlkP.Blk.newA' (by first | omega | (simp; done) | (simp; omega)) rfl) | (with_reducible refine BlkP.Blk.alloc ?_ _) | (exact rfl)))⟩ ?_
 rintro W1 ⟨hb1,hp1,hw1⟩
 rw [hF] at hw1 ⊢
 obtain ⟨X,hX⟩:∃ X:Nat,1 + a = X:=⟨_,rfl⟩
 obtain ⟨Y,hY⟩:∃ Y:Nat,1 + b = Y:=⟨_,rfl⟩
 obtain ⟨Z,hZ⟩:∃ Z:Nat,1 + d = Z:=⟨_,rfl⟩
 rw [show (1:Int) + (a:Int) = (X:Int) by omega,show (1:Int) + (b:Int) = (Y:Int) by omega,show (1:Int) + (d:Int) = (Z:Int) by omega] at hw1
 have HX:=Lib.hid (show (X:Int) = 1 + x % 8 by rw [HXA.out]; omega)
 have HY:=Lib.hid (show (Y:Int) = 1 + y % 16 by rw [HYB.out]; omega)
 have HZ:=Lib.hid (show (Z:Int) = 1 + z % 8 by rw [HZD.out]; omega)
 have hXb:1≤X∧X≤8:=by omega
 have hYb:1≤Y∧Y≤16:=by omega
 have hZb:1≤Z∧Z≤8:=by omega
 obtain ⟨lx,hlx⟩:∃ l,fitI p.1 (-1048576) (1048576 - (X:Int)) = l:=⟨_,rfl⟩
 obtain ⟨ly,hly⟩:∃ l,fitI p.2.1 0 (64 - (Y:Int)) = l:=⟨_,rfl⟩
 obtain ⟨lz,hlz⟩:∃ l,fitI p.2.2 (-1048576) (1048576 - (Z:Int)) = l:=⟨_,rfl⟩
 have HLX:=Lib.hid hlx
 have HLY:=Lib.hid hly
 have HLZ:=Lib.hid hlz
 have HBX:=Lib.hid (hlx ▸ fit_in (n:=p.1) (a:=-1048576) (b:=1048576 - (X:Int)) (by omega))
 have HBY:=Lib.hid (hly ▸ fit_in (n:=p.2.1) (a:=0) (b:=64 - (Y:Int)) (by omega))
 have HBZ:=Lib.hid (hlz ▸ fit_in (n:=p.2.2) (a:=-1048576) (b:=1048576 - (Z:Int)) (by omega))
 have HB1:=Lib.hid hb1
 have HP1:=Lib.hid hp1
 have HW1:=Lib.hid hw1
 have HFE:=Lib.hid hF
 have HPF:=Lib.hid (show w.heap.size ≠ F by omega)
 have WX:=Lib.hid (wrI (a:=1048576 - (X:Int)) (c:=1048576 - (X:Int)) rfl (by omega) (by omega))
 have WY:=Lib.hid (wrI (a:=64 - (Y:Int)) (c:=64 - (Y:Int)) rfl (by omega) (by omega))
 have WZ:=Lib.hid (wrI (a:=1048576 - (Z:Int)) (c:=1048576 - (Z:Int)) rfl (by omega) (by omega))
 clear hX hY hZ hlx hly hlz e7 e15 f7 ha8 hb8 hd8 hb1 hp1 hw1 hF
 refine wp_region_noPanic ?_
 refine wp_region_held_drew (S:=fun Xw=>Blk Xw w.heap.size TP [.int .i64 p.1,.int .i64 p.2.1,.int .i64 p.2.2]∧Xw.cell? ⟨F,3,none⟩ = some (.int .i64 (X:Int))∧Xw.cell? ⟨F,4,none⟩ = some (.int .i64 (Y:Int))∧Xw.cell? ⟨F,5,none⟩ = some (.int .i64 (Z:Int))) (by kernel_rfl) (⟨HP1.out,HW1.out.cell (i:=3) rfl,HW1.out.cell (i:=4) rfl,HW1.out.cell (i:=5) rfl⟩) (fun hHeld=>?_)
 refine wpAnyH_take (i:=0) (oi:=⟨some 26,_,_,_,_,_⟩) (v:=.pointer (some ⟨F,0,none⟩)) rfl (by kernel_rfl) (by kernel_rfl) (by kernel_rfl) (fun _ _ _ h=>h) (Or.inl ⟨by rfl,fun Xw hSW=>by go_simp⟩) hHeld ?_
 simp only [Act.put,List.setIfInBounds_toArray,List.set_cons_zero,List.set_cons_succ]
 refine wpAnyH_take (i:=1) (oi:=⟨some 27,_,_,_,_,_⟩) (v:=.pointer (some ⟨w.heap.size,0,none⟩)) rfl (by kernel_rfl) (by kernel_rfl) (by kernel_rfl) (fun _ _ _ h=>h) (Or.inl ⟨by rfl,fun Xw hSW=>by go_simp⟩) hHeld ?_
 simp only [Act.put,List.setIfInBounds_toArray,List.set_cons_zero,List.set_cons_succ]
 refine wpAnyH_take (i:=2) (oi:=⟨some 28,_,_,_,_,_⟩) (v:=.int .i64 p.1) rfl (by kernel_rfl) (by kernel_rfl) (by kernel_rfl) (fun _ _ _ h=>h) (Or.inl ⟨by rfl,fun Xw hSW=>by have b0:=hSW.1.cell (i:=0) rfl; go_simp⟩) hHeld ?_
 simp only [Act.put,List.setIfInBounds_toArray,List.set_cons_zero,List.set_cons_succ]
 refine wpAnyH_take (i:=3) (oi:=⟨some 29,_,_,_,_,_⟩) (v:=.pointer (some ⟨F,0,none⟩)) rfl (by kernel_rfl) (by kernel_rfl) (by kernel_rfl) (fun _ _ _ h=>h) (Or.inl ⟨by rfl,fun Xw hSW=>by go_simp⟩) hHeld ?_
 simp only [Act.put,List.setIfInBounds_toArray,List.set_cons_zero,List.set_cons_succ]
 refine wpAnyH_take (i:=4) (oi:=⟨some 30,_,_,_,_,_⟩) (v:=.pointer (some ⟨F,0,none⟩)) rfl (by kernel_rfl) (by kernel_rfl) (by kernel_rfl) (fun _ _ _ h=>h) (Or.inl ⟨by rfl,fun Xw hSW=>by go_simp⟩) hHeld ?_
 simp only [Act.put,List.setIfInBounds_toArray,List.set_cons_zero,List.set_cons_succ]
 refine wpAnyH_take (i:=5) (oi:=⟨some 31,_,_,_,_,_⟩) (v:=.pointer (some ⟨F,3,none⟩)) rfl (by kernel_rfl) (by kernel_rfl) (by kernel_rfl) (fun _ _ _ h=>h) (Or.inl ⟨by rfl,fun Xw hSW=>by go_simp⟩) hHeld ?_
 simp only [Act.put,List.setIfInBounds_toArray,List.set_cons_zero,List.set_cons_succ]
 refine wpAnyH_take (i:=6) (oi:=⟨some 32,_,_,_,_,_⟩) (v:=.pointer (some ⟨F,3,none⟩)) rfl (by kernel_rfl) (by kernel_rfl) (by kernel_rfl) (fun _ _ _ h=>h) (Or.inl ⟨by rfl,fun Xw hSW=>by go_simp⟩) hHeld ?_
 simp only [Act.put,List.setIfInBounds_toArray,List.set_cons_zero,List.set_cons_succ]
 refine wpAnyH_take (i:=7) (oi:=⟨some 33,_,_,_,_,_⟩) (v:=.int .i64 (X:Int)) rfl (by kernel_rfl) (by kernel_rfl) (by kernel_rfl) (fun _ _ _ h=>h) (Or.inl ⟨by rfl,fun Xw hSW=>by have c0:=hSW.2.1; go_simp⟩) hHeld ?_
 simp only [Act.put,List.setIfInBounds_toArray,List.set_cons_zero,List.set_cons_succ]
 refine wpAnyH_take (i:=8) (oi:=⟨some 34,_,_,_,_,_⟩) (v:=.int .i64 (1048576 - (X:Int))) rfl (by kernel_rfl) (by kernel_rfl) (by kernel_rfl) (fun _ _ _ h=>h) (Or.inl ⟨by rfl,fun Xw hSW=>by go_simp; exact WX.out⟩) hHeld ?_
 simp only [Act.put,List.setIfInBounds_toArray,List.set_cons_zero,List.set_cons_succ]
 refine wpAnyH_take (i:=10) (oi:=⟨some 36,_,_,_,_,_⟩) (v:=.pointer (some ⟨w.heap.size,1,none⟩)) rfl (by kernel_rfl) (by kernel_rfl) (by kernel_rfl) (fun _ _ _ h=>h) (Or.inl ⟨by rfl,fun Xw hSW=>by go_simp⟩) hHeld ?_
 simp only [Act.put,List.setIfInBounds_toArray,List.set_cons_zero,List.set_cons_succ]
 refine wpAnyH_take (i:=11) (oi:=⟨some 37,_,_,_,_,_⟩) (v:=.int .i64 p.2.1) rfl (by kernel_rfl) (by kernel_rfl) (by kernel_rfl) (fun _ _ _ h=>h) (Or.inl ⟨by rfl,fun Xw hSW=>by have b1:=hSW.1.cell (i:=1) rfl; go_simp⟩) hHeld ?_
 simp only [Act.put,List.setIfInBounds_toArray,List.set_cons_zero,List.set_cons_succ]
 refine wpAnyH_take (i:=12) (oi:=⟨some 38,_,_,_,_,_⟩) (v:=.pointer (some ⟨F,0,none⟩)) rfl (by kernel_rfl) (by kernel_rfl) (by kernel_rfl) (fun _ _ _ h=>h) (Or.inl ⟨by rfl,fun Xw hSW=>by go_simp⟩) hHeld ?_
 simp only [Act.put,List.setIfInBounds_toArray,List.set_cons_zero,List.set_cons_succ]
 refine wpAnyH_take (i:=13) (oi:=⟨some 39,_,_,_,_,_⟩) (v:=.pointer (some ⟨F,0,none⟩)) rfl (by kernel_rfl) (by kernel_rfl) (by kernel_rfl) (fun _ _ _ h=>h) (Or.inl ⟨by rfl,fun Xw hSW=>by go_simp⟩) hHeld ?_
 simp only [Act.put,List.setIfInBounds_toArray,List.set_cons_zero,List.set_cons_succ]
 refine wpAnyH_take (i:=14) (oi:=⟨some 40,_,_,_,_,_⟩) (v:=.pointer (some ⟨F,3,none⟩)) rfl (by kernel_rfl) (by kernel_rfl) (by kernel_rfl) (fun _ _ _ h=>h) (Or.inl ⟨by rfl,fun Xw hSW=>by go_simp⟩) hHeld ?_
 simp only [Act.put,List.setIfInBounds_toArray,List.set_cons_zero,List.set_cons_succ]
 refine wpAnyH_take (i:=15) (oi:=⟨some 41,_,_,_,_,_⟩) (v:=.pointer (some ⟨F,4,none⟩)) rfl (by kernel_rfl) (by kernel_rfl) (by kernel_rfl) (fun _ _ _ h=>h) (Or.inl ⟨by rfl,fun Xw hSW=>by go_simp⟩) hHeld ?_
 simp only [Act.put,List.setIfInBounds_toArray,List.set_cons_zero,List.set_cons_succ]
 refine wpAnyH_take (i:=16) (oi:=⟨some 42,_,_,_,_,_⟩) (v:=.int .i64 (Y:Int)) rfl (by kernel_rfl) (by kernel_rfl) (by kernel_rfl) (fun _ _ _ h=>h) (Or.inl ⟨by rfl,fun Xw hSW=>by have c1:=hSW.2.2.1; go_simp⟩) hHeld ?_
 simp only [Act.put,List.setIfInBounds_toArray,List.set_cons_zero,List.set_cons_succ]
 refine wpAnyH_take (i:=17) (oi:=⟨some 43,_,_,_,_,_⟩) (v:=.int .i64 (64 - (Y:Int))) rfl (by kernel_rfl) (by kernel_rfl) (by kernel_rfl) (fun _ _ _ h=>h) (Or.inl ⟨by rfl,fun Xw hSW=>by go_simp; exact WY.out⟩) hHeld ?_
 simp only [Act.put,List.setIfInBounds_toArray,List.set_cons_zero,List.set_cons_succ]
 refine wpAnyH_take (i:=19) (oi:=⟨some 45,_,_,_,_,_⟩) (v:=.pointer (some ⟨w.heap.size,2,none⟩)) rfl (by kernel_rfl) (by kernel_rfl) (by kernel_rfl) (fun _ _ _ h=>h) (Or.inl ⟨by rfl,fun Xw hSW=>by go_simp⟩) hHeld ?_
 simp only [Act.put,List.setIfInBounds_toArray,List.set_cons_zero,List.set_cons_succ]
 refine wpAnyH_take (i:=20) (oi:=⟨some 46,_,_,_,_,_⟩) (v:=.int .i64 p.2.2) rfl (by kernel_rfl) (by kernel_rfl) (by kernel_rfl) (fun _ _ _ h=>h) (Or.inl ⟨by rfl,fun Xw hSW=>by have b2:=hSW.1.cell (i:=2) rfl; go_simp⟩) hHeld ?_
 simp only [Act.put,List.setIfInBounds_toArray,List.set_cons_zero,List.set_cons_succ]
 refine wpAnyH_take (i:=21) (oi:=⟨some 47,_,_,_,_,_⟩) (v:=.pointer (some ⟨F,0,none⟩)) rfl (by kernel_rfl) (by kernel_rfl) (by kernel_rfl) (fun _ _ _ h=>h) (Or.inl ⟨by rfl,fun Xw hSW=>by go_simp⟩) hHeld ?_
 simp only [Act.put,List.setIfInBounds_toArray,List.set_cons_zero,List.set_cons_succ]
 refine wpAnyH_take (i:=22) (oi:=⟨some 48,_,_,_,_,_⟩) (v:=.pointer (some ⟨F,0,none⟩)) rfl (by kernel_rfl) (by kernel_rfl) (by kernel_rfl) (fun _ _ _ h=>h) (Or.inl ⟨by rfl,fun Xw hSW=>by go_simp⟩) hHeld ?_
 simp only [Act.put,List.setIfInBounds_toArray,List.set_cons_zero,List.set_cons_succ]
 refine wpAnyH_take (i:=23) (oi:=⟨some 49,_,_,_,_,_⟩) (v:=.pointer (some ⟨F,3,none⟩)) rfl (by kernel_rfl) (by kernel_rfl) (by kernel_rfl) (fun _ _ _ h=>h) (Or.inl ⟨by rfl,fun Xw hSW=>by go_simp⟩) hHeld ?_
 simp only [Act.put,List.setIfInBounds_toArray,List.set_cons_zero,List.set_cons_succ]
 refine wpAnyH_take (i:=24) (oi:=⟨some 50,_,_,_,_,_⟩) (v:=.pointer (some ⟨F,5,none⟩)) rfl (by kernel_rfl) (by kernel_rfl) (by kernel_rfl) (fun _ _ _ h=>h) (Or.inl ⟨by rfl,fun Xw hSW=>by go_simp⟩) hHeld ?_
 simp only [Act.put,List.setIfInBounds_toArray,List.set_cons_zero,List.set_cons_succ]
 refine wpAnyH_take (i:=25) (oi:=⟨some 51,_,_,_,_,_⟩) (v:=.int .i64 (Z:Int)) rfl (by kernel_rfl) (by kernel_rfl) (by kernel_rfl) (fun _ _ _ h=>h) (Or.inl ⟨by rfl,fun Xw hSW=>by have c2:=hSW.2.2.2; go_simp⟩) hHeld ?_
 simp only [Act.put,List.setIfInBounds_toArray,List.set_cons_zero,List.set_cons_succ]
 refine wpAnyH_take (i:=26) (oi:=⟨some 52,_,_,_,_,_⟩) (v:=.int .i64 (1048576 - (Z:Int))) rfl (by kernel_rfl) (by kernel_rfl) (by kernel_rfl) (fun _ _ _ h=>h) (Or.inl ⟨by rfl,fun Xw hSW=>by go_simp; exact WZ.out⟩) hHeld ?_
 simp only [Act.put,List.setIfInBounds_toArray,List.set_cons_zero,List.set_cons_succ]
 refine wpAnyH_ready (rs:=[9]) (by kernel_rfl) (by simp) ?_
 refine AllReadyH.cons (o:=⟨some 35,_,_,_,_,_⟩) rfl (fun K hK=>?_) AllReadyH.nil
 go_simp
 refine (fit_c HLX.out _).mono ?_
 rintro e Wx ⟨rfl,rfl⟩
 try go_wp2_with fail
 refine hK.out _ _ (hHeld) (fun hHeld=>?_)
 clear hK K
 refine wpAnyH_ready (rs:=[18]) (by kernel_rfl) (by simp) ?_
 refine AllReadyH.cons (o:=⟨some 44,_,_,_,_,_⟩) rfl (fun K hK=>?_) AllReadyH.nil
 go_simp
 refine (fit_c HLY.out _).mono ?_
 rintro e Wx ⟨rfl,rfl⟩
 try go_wp2_with fail
 refine hK.out _ _ (hHeld) (fun hHeld=>?_)
 clear hK K
 refine wpAnyH_ready (rs:=[27]) (by kernel_rfl) (by simp) ?_
 refine AllReadyH.cons (o:=⟨some 53,_,_,_,_,_⟩) rfl (fun K hK=>?_) AllReadyH.nil
 go_simp
 refine (fit_c HLZ.out _).mono ?_
 rintro e Wx ⟨rfl,rfl⟩
 try go_wp2_with fail
 refine hK.out _ _ (hHeld) (fun hHeld=>?_)
 clear hK K
 refine wpAnyH_take (i:=28) (oi:=⟨some 54,_,_,_,_,_⟩) (v:=.agg #[.int .i64 lx,.int .i64 ly,.int .i64 lz]) rfl (by kernel_rfl) (by kernel_rfl) (by kernel_rfl) (fun _ _ _ h=>h) (Or.inl ⟨by rfl,fun Xw hSW=>by go_simp⟩) hHeld ?_
 simp only [Act.put,List.setIfInBounds_toArray,List.set_cons_zero,List.set_cons_succ]
 refine wpAnyH_take (i:=29) (oi:=⟨some 55,_,_,_,_,_⟩) (v:=.pointer (some ⟨F,0,none⟩)) rfl (by kernel_rfl) (by kernel_rfl) (by kernel_rfl) (fun _ _ _ h=>h) (Or.inl ⟨by rfl,fun Xw hSW=>by go_simp⟩) hHeld ?_
 simp only [Act.put,List.setIfInBounds_toArray,List.set_cons_zero,List.set_cons_succ]
 refine wpAnyH_take (i:=30) (oi:=⟨some 56,_,_,_,_,_⟩) (v:=.pointer (some ⟨F,0,none⟩)) rfl (by kernel_rfl) (by kernel_rfl) (by kernel_rfl) (fun _ _ _ h=>h) (Or.inl ⟨by rfl,fun Xw hSW=>by go_simp⟩) hHeld ?_
 simp only [Act.put,List.setIfInBounds_toArray,List.set_cons_zero,List.set_cons_succ]
 refine wpAnyH_ready (rs:=[31]) (by kernel_rfl) (by simp) ?_
 refine AllReadyH.cons (o:=⟨none,_,_,_,_,_⟩) rfl (fun K hK=>?_) AllReadyH.nil
 have k0:W1.cell? ⟨F,0,none⟩ = some (.int .i64 0):=HW1.out.cell (i:=0) rfl
 have k1:W1.cell? ⟨F,1,none⟩ = some (.int .i64 0):=HW1.out.cell (i:=1) rfl
 have k2:W1.cell? ⟨F,2,none⟩ = some (.int .i64 0):=HW1.out.cell (i:=2) rfl
 have z0:=HW1.out.frozen 0
 have z1:=HW1.out.frozen 1
 have z2:=HW1.out.frozen 2
 go_simp
 refine hK.out _ _ ⟨by have q:=HP1.out; have e:=HPF.out; (repeat' (first | (with_reducible exact q) | (with_reducible refine BlkP.Blk.drew ?_) | (with_reducible refine BlkP.Blk.drewN ?_ _) | (with_reducible refine BlkP.Blk.setAt (us:=?_) (by first | omega | (simp; done) | (simp; omega)) rfl ?_ ?_) | (with_reducible refine BlkP.Blk.otherAt ?_ (by first | omega | (simp; done) | (simp; omega))) | (with_reducible refine BlkP.Blk.newA' (by first | omega | (simp; done) | (simp; omega)) rfl) | (with_reducible refine BlkP.Blk.alloc ?_ _) | (exact rfl))),by have q:=HW1.out.cell (i:=3) (v:=.int .i64 (X:Int)) rfl; (repeat' (first | (with_reducible assumption) | (with_reducible refine HeldP.c_drew ?_) | (with_reducible refine HeldP.c_drewN ?_) | (with_reducible refine HeldP.c_same (by omega) ?_) | (with_reducible refine HeldP.c_other ?_ ?_) | (with_reducible refine HeldP.c_new (by first | omega | (simp; done) | (simp; omega)) ?_) | (with_reducible refine HeldP.c_alloc ?_ ?_) | (with_reducible refine HeldP.e_drew ?_) | (with_reducible refine HeldP.e_drewN ?_) | (with_reducible refine HeldP.e_set ?_) | (with_reducible refine HeldP.e_new (by first | omega | (simp; done) | (simp; omega)) ⟨_,rfl⟩) | (with_reducible refine HeldP.e_alloc ?_ ?_) | (with_reducible refine HeldP.f_drew ?_) | (with_reducible refine HeldP.f_drewN ?_) | (with_reducible refine HeldP.f_set ?_) | (with_reducible refine HeldP.f_new (by first | omega | (simp; done) | (simp; omega))) | (with_reducible refine HeldP.f_alloc ?_ ?_) | (with_reducible refine HeldP.s_drew ?_) | (with_reducible refine HeldP.s_drewN ?_) | (with_reducible refine HeldP.s_set ?_) | (with_reducible refine HeldP.s_new (by first | omega | (simp; done) | (simp; omega))) | (with_reducible refine HeldP.s_alloc ?_) | (with_reducible exact ⟨_,by assumption⟩) | omega | (intro e; simp at e; done) | (intro e; simp at e; omega) | (exact rfl) | (simp; done) | (simp; omega))),by have q:=HW1.out.cell (i:=4) (v:=.int .i64 (Y:Int)) rfl; (repeat' (first | (with_reducible assumption) | (with_reducible refine HeldP.c_drew ?_) | (with_reducible refine HeldP.c_drewN ?_) | (with_reducible refine HeldP.c_same (by omega) ?_) | (with_reducible refine HeldP.c_other ?_ ?_) | (with_reducible refine HeldP.c_new (by first | omega | (simp; done) | (simp; omega)) ?_) | (with_reducible refine HeldP.c_alloc ?_ ?_) | (with_reducible refine HeldP.e_drew ?_) | (with_reducible refine HeldP.e_drewN ?_) | (with_reducible refine HeldP.e_set ?_) | (with_reducible refine HeldP.e_new (by first | omega | (simp; done) | (simp; omega)) ⟨_,rfl⟩) | (with_reducible refine HeldP.e_alloc ?_ ?_) | (with_reducible refine HeldP.f_drew ?_) | (with_reducible refine HeldP.f_drewN ?_) | (with_reducible refine HeldP.f_set ?_) | (with_reducible refine HeldP.f_new (by first | omega | (simp; done) | (simp; omega))) | (with_reducible refine HeldP.f_alloc ?_ ?_) | (with_reducible refine HeldP.s_drew ?_) | (with_reducible refine HeldP.s_drewN ?_) | (with_reducible refine HeldP.s_set ?_) | (with_reducible refine HeldP.s_new (by first | omega | (simp; done) | (simp; omega))) | (with_reducible refine HeldP.s_alloc ?_) | (with_reducible exact ⟨_,by assumption⟩) | omega | (intro e; simp at e; done) | (intro e; simp at e; omega) | (exact rfl) | (simp; done) | (simp; omega))),by have q:=HW1.out.cell (i:=5) (v:=.int .i64 (Z:Int)) rfl; (repeat' (first | (with_reducible assumption) | (with_reducible refine HeldP.c_drew ?_) | (with_reducible refine HeldP.c_drewN ?_) | (with_reducible refine HeldP.c_same (by omega) ?_) | (with_reducible refine HeldP.c_other ?_ ?_) | (with_reducible refine HeldP.c_new (by first | omega | (simp; done) | (simp; omega)) ?_) | (with_reducible refine HeldP.c_alloc ?_ ?_) | (with_reducible refine HeldP.e_drew ?_) | (with_reducible refine HeldP.e_drewN ?_) | (with_reducible refine HeldP.e_set ?_) | (with_reducible refine HeldP.e_new (by first | omega | (simp; done) | (simp; omega)) ⟨_,rfl⟩) | (with_reducible refine HeldP.e_alloc ?_ ?_) | (with_reducible refine HeldP.f_drew ?_) | (with_reducible refine HeldP.f_drewN ?_) | (with_reducible refine HeldP.f_set ?_) | (with_reducible refine HeldP.f_new (by first | omega | (simp; done) | (simp; omega))) | (with_reducible refine HeldP.f_alloc ?_ ?_) | (with_reducible refine HeldP.s_drew ?_) | (with_reducible refine HeldP.s_drewN ?_) | (with_reducible refine HeldP.s_set ?_) | (with_reducible refine HeldP.s_new (by first | omega | (simp; done) | (simp; omega))) | (with_reducible refine HeldP.s_alloc ?_) | (with_reducible exact ⟨_,by assumption⟩) | omega | (intro e; simp at e; done) | (intro e; simp at e; omega) | (exact rfl) | (simp; done) | (simp; omega)))⟩ (fun hHeld=>?_)
 clear hK K
 refine wpAnyH_done (by kernel_rfl) ?_ _
 refine NoPanic.normal ?_
 clear hHeld
 refine HeldP.then_named (S:=fun W=>Below w.heap.size w W∧Blk W F TW (fcells (fJ F (lx,ly,lz) X Y Z (.slice none 0 0) []))) ⟨HB1.out.trans ?_,?_⟩ ?_
 ·have:=HFE.out
  have hz1:=HW1.out.lt
  (repeat' (first | (with_reducible exact Below.refl _ _) | (with_reducible refine Below.setCell ?_ (by (first | omega | (simp; done) | (simp; omega))) _) | (with_reducible refine Below.alloc ?_ (by (first | omega | (simp; done) | (simp; omega))) _) | (with_reducible refine Below.drew ?_) | (with_reducible refine below_drewN ?_ _)))
 ·have q:=HW1.out
  (repeat' (first | (with_reducible exact q) | (with_reducible refine BlkP.Blk.drew ?_) | (with_reducible refine BlkP.Blk.drewN ?_ _) | (with_reducible refine BlkP.Blk.setAt (us:=?_) (by first | omega | (simp; done) | (simp; omega)) rfl ?_ ?_) | (with_reducible refine BlkP.Blk.otherAt ?_ (by first | omega | (simp; done) | (simp; omega))) | (with_reducible refine BlkP.Blk.newA' (by first | omega | (simp; done) | (simp; omega)) rfl) | (with_reducible refine BlkP.Blk.alloc ?_ _) | (exact rfl)))
 rintro W2 ⟨hb2,hw2⟩
 have hcut:=True.intro
 obtain ⟨n,hn⟩:∃ n,X * Y * Z = n:=⟨_,rfl⟩
 have hnb:1≤n∧n≤1024:=by
  have m1:X * Y≤8 * 16:=Nat.mul_le_mul (by omega) (by omega)
  have m2:X * Y * Z≤8 * 16 * 8:=Nat.mul_le_mul m1 (by omega)
  have p1:0 < X * Y:=Nat.mul_pos (by omega) (by omega)
  have p2:0 < X * Y * Z:=Nat.mul_pos p1 (by omega)
  omega
 obtain ⟨xy,hxy⟩:∃ xy,X * Y = xy:=⟨_,rfl⟩
 have hxyb:xy≤128:=by rw [← hxy]; exact Nat.mul_le_mul hXb.2 hYb.2
 have HXY:=Lib.hid (wrI (a:=(X:Int) * (Y:Int)) (c:=(xy:Int)) (by rw [← hxy]; simp) (by omega) (by omega))
 have HXZ:=Lib.hid (wrI (a:=(xy:Int) * (Z:Int)) (c:=(n:Int)) (by rw [← hn,← hxy]; simp) (by omega) (by omega))
 have HN:=Lib.hid hn
 have HB2:=Lib.hid hb2
 have HM2:=Lib.hid (fJ_mem hw2 (Own.nil _ _ _ 0))
 clear hcut hn hxy hxyb hb2 hw2
 go_wp2_with fail
 go_loopw [12] (fun v wr=>∃ j vC,v = .int .i64 (j:Nat)∧j≤n∧FldM wr (fJ F (lx,ly,lz) X Y Z vC (madeC cl j))∧(∀ k,vC.ownBlock = some k→w.heap.size≤k)∧Below w.heap.size w wr) (fun v _=>n - (intOf v).toNat)
 case atStart=>exact ⟨0,_,rfl,by omega,HM2.out,fun k hk=>(by cases hk),HB2.out⟩
 case round =>
  obtain ⟨j,vC,rfl,hj,hfm,hnew,hbr⟩:=hrel
  have HFM:=Lib.hid hfm
  have HNEW:=Lib.hid hnew
  have HBR:=Lib.hid hbr
  have HLEN:=Lib.hid (madeC_len cl j)
  obtain ⟨A1,cA,hvA,_,_,_⟩:=hfm.cs.form HLEN.out
  have hvA2:vC = .slice A1 j cA:=hvA
  subst hvA2
  have HFB:=Lib.hid (show Blk wr F TW (fcells (fJ F (lx,ly,lz) X Y Z (.slice A1 j cA) (madeC cl j))) from hfm.blk)
  clear hfm hnew hbr hvA
  by_cases hjn:j < n
  ·have hjI:(j:Int) < n:=by omega
   have HWR:=Lib.hid (show wrap64 ((j:Int) + 1) = ((j + 1:Nat):Int) by rw [wr64 (by omega) (by omega)]; omega)
   go_wp2_with fail
   refine wp_region_noPanic ?_
   refine wp_region_held_drew (S:=fun Xw=>Blk Xw F TW (fcells (fJ F (lx,ly,lz) X Y Z (.slice A1 j cA) (madeC cl j)))) (by kernel_rfl) (HFB.out) (fun hHeld=>?_)
   refine wpAnyH_take (i:=0) (oi:=⟨some 57,_,_,_,_,_⟩) (v:=.int .i64 (j:Int)) rfl (by kernel_rfl) (by kernel_rfl) (by kernel_rfl) (fun _ _ _ h=>h) (Or.inl ⟨by rfl,fun Xw hSW=>by go_simp⟩) hHeld ?_
   simp only [Act.put,List.setIfInBounds_toArray,List.set_cons_zero,List.set_cons_succ]
   refine wpAnyH_take (i:=1) (oi:=⟨some 58,_,_,_,_,_⟩) (v:=.pointer (some ⟨F,0,none⟩)) rfl (by kernel_rfl) (by kernel_rfl) (by kernel_rfl) (fun _ _ _ h=>h) (Or.inl ⟨by rfl,fun Xw hSW=>by go_simp⟩) hHeld ?_
   simp only [Act.put,List.setIfInBounds_toArray,List.set_cons_zero,List.set_cons_succ]
   refine wpAnyH_take (i:=2) (oi:=⟨some 59,_,_,_,_,_⟩) (v:=.pointer (some ⟨F,0,none⟩)) rfl (by kernel_rfl) (by kernel_rfl) (by kernel_rfl) (fun _ _ _ h=>h) (Or.inl ⟨by rfl,fun Xw hSW=>by go_simp⟩) hHeld ?_
   simp only [Act.put,List.setIfInBounds_toArray,List.set_cons_zero,List.set_cons_succ]
   refine wpAnyH_take (i:=3) (oi:=⟨some 60,_,_,_,_,_⟩) (v:=.pointer (some ⟨F,3,none⟩)) rfl (by kernel_rfl) (by kernel_rfl) (by kernel_rfl) (fun _ _ _ h=>h) (Or.inl ⟨by rfl,fun Xw hSW=>by go_simp⟩) hHeld ?_
   simp only [Act.put,List.setIfInBounds_toArray,List.set_cons_zero,List.set_cons_succ]
   refine wpAnyH_take (i:=4) (oi:=⟨some 61,_,_,_,_,_⟩) (v:=.pointer (some ⟨F,3,none⟩)) rfl (by kernel_rfl) (by kernel_rfl) (by kernel_rfl) (fun _ _ _ h=>h) (Or.inl ⟨by rfl,fun Xw hSW=>by go_simp⟩) hHeld ?_
   simp only [Act.put,List.setIfInBounds_toArray,List.set_cons_zero,List.set_cons_succ]
   refine wpAnyH_take (i:=5) (oi:=⟨some 62,_,_,_,_,_⟩) (v:=.int .i64 (X:Int)) rfl (by kernel_rfl) (by kernel_rfl) (by kernel_rfl) (fun _ _ _ h=>h) (Or.inl ⟨by rfl,fun Xw hSW=>by have c0:Xw.cell? ⟨F,3,none⟩ = some (.int .i64 (X:Int)):=hSW.cell (i:=3) rfl; go_simp⟩) hHeld ?_
   simp only [Act.put,List.setIfInBounds_toArray,List.set_cons_zero,List.set_cons_succ]
   refine wpAnyH_take (i:=6) (oi:=⟨some 63,_,_,_,_,_⟩) (v:=.pointer (some ⟨F,0,none⟩)) rfl (by kernel_rfl) (by kernel_rfl) (by kernel_rfl) (fun _ _ _ h=>h) (Or.inl ⟨by rfl,fun Xw hSW=>by go_simp⟩) hHeld ?_
   simp only [Act.put,List.setIfInBounds_toArray,List.set_cons_zero,List.set_cons_succ]
   refine wpAnyH_take (i:=7) (oi:=⟨some 64,_,_,_,_,_⟩) (v:=.pointer (some ⟨F,0,none⟩)) rfl (by kernel_rfl) (by kernel_rfl) (by kernel_rfl) (fun _ _ _ h=>h) (Or.inl ⟨by rfl,fun Xw hSW=>by go_simp⟩) hHeld ?_
   simp only [Act.put,List.setIfInBounds_toArray,List.set_cons_zero,List.set_cons_succ]
   refine wpAnyH_take (i:=8) (oi:=⟨some 65,_,_,_,_,_⟩) (v:=.pointer (some ⟨F,3,none⟩)) rfl (by kernel_rfl) (by kernel_rfl) (by kernel_rfl) (fun _ _ _ h=>h) (Or.inl ⟨by rfl,fun Xw hSW=>by go_simp⟩) hHeld ?_
   simp only [Act.put,List.setIfInBounds_toArray,List.set_cons_zero,List.set_cons_succ]
   refine wpAnyH_take (i:=9) (oi:=⟨some 66,_,_,_,_,_⟩) (v:=.pointer (some ⟨F,4,none⟩)) rfl (by kernel_rfl) (by kernel_rfl) (by kernel_rfl) (fun _ _ _ h=>h) (Or.inl ⟨by rfl,fun Xw hSW=>by go_simp⟩) hHeld ?_
   simp only [Act.put,List.setIfInBounds_toArray,List.set_cons_zero,List.set_cons_succ]
   refine wpAnyH_take (i:=10) (oi:=⟨some 67,_,_,_,_,_⟩) (v:=.int .i64 (Y:Int)) rfl (by kernel_rfl) (by kernel_rfl) (by kernel_rfl) (fun _ _ _ h=>h) (Or.inl ⟨by rfl,fun Xw hSW=>by have c1:Xw.cell? ⟨F,4,none⟩ = some (.int .i64 (Y:Int)):=hSW.cell (i:=4) rfl; go_simp⟩) hHeld ?_
   simp only [Act.put,List.setIfInBounds_toArray,List.set_cons_zero,List.set_cons_succ]
   refine wpAnyH_take (i:=11) (oi:=⟨some 68,_,_,_,_,_⟩) (v:=.int .i64 (xy:Int)) rfl (by kernel_rfl) (by kernel_rfl) (by kernel_rfl) (fun _ _ _ h=>h) (Or.inl ⟨by rfl,fun Xw hSW=>by go_simp; exact HXY.out⟩) hHeld ?_
   simp only [Act.put,List.setIfInBounds_toArray,List.set_cons_zero,List.set_cons_succ]
   refine wpAnyH_take (i:=12) (oi:=⟨some 69,_,_,_,_,_⟩) (v:=.pointer (some ⟨F,0,none⟩)) rfl (by kernel_rfl) (by kernel_rfl) (by kernel_rfl) (fun _ _ _ h=>h) (Or.inl ⟨by rfl,fun Xw hSW=>by go_simp⟩) hHeld ?_
   simp only [Act.put,List.setIfInBounds_toArray,List.set_cons_zero,List.set_cons_succ]
   refine wpAnyH_take (i:=13) (oi:=⟨some 70,_,_,_,_,_⟩) (v:=.pointer (some ⟨F,0,none⟩)) rfl (by kernel_rfl) (by kernel_rfl) (by kernel_rfl) (fun _ _ _ h=>h) (Or.inl ⟨by rfl,fun Xw hSW=>by go_simp⟩) hHeld ?_
   simp only [Act.put,List.setIfInBounds_toArray,List.set_cons_zero,List.set_cons_succ]
   refine wpAnyH_take (i:=14) (oi:=⟨some 71,_,_,_,_,_⟩) (v:=.pointer (some ⟨F,3,none⟩)) rfl (by kernel_rfl) (by kernel_rfl) (by kernel_rfl) (fun _ _ _ h=>h) (Or.inl ⟨by rfl,fun Xw hSW=>by go_simp⟩) hHeld ?_
   simp only [Act.put,List.setIfInBounds_toArray,List.set_cons_zero,List.set_cons_succ]
   refine wpAnyH_take (i:=15) (oi:=⟨some 72,_,_,_,_,_⟩) (v:=.pointer (some ⟨F,5,none⟩)) rfl (by kernel_rfl) (by kernel_rfl) (by kernel_rfl) (fun _ _ _ h=>h) (Or.inl ⟨by rfl,fun Xw hSW=>by go_simp⟩) hHeld ?_
   simp only [Act.put,List.setIfInBounds_toArray,List.set_cons_zero,List.set_cons_succ]
   refine wpAnyH_take (i:=16) (oi:=⟨some 73,_,_,_,_,_⟩) (v:=.int .i64 (Z:Int)) rfl (by kernel_rfl) (by kernel_rfl) (by kernel_rfl) (fun _ _ _ h=>h) (Or.inl ⟨by rfl,fun Xw hSW=>by have c2:Xw.cell? ⟨F,5,none⟩ = some (.int .i64 (Z:Int)):=hSW.cell (i:=5) rfl; go_simp⟩) hHeld ?_
   simp only [Act.put,List.setIfInBounds_toArray,List.set_cons_zero,List.set_cons_succ]
   refine wpAnyH_take (i:=17) (oi:=⟨some 74,_,_,_,_,_⟩) (v:=.int .i64 (n:Int)) rfl (by kernel_rfl) (by kernel_rfl) (by kernel_rfl) (fun _ _ _ h=>h) (Or.inl ⟨by rfl,fun Xw hSW=>by go_simp; exact HXZ.out⟩) hHeld ?_
   simp only [Act.put,List.setIfInBounds_toArray,List.set_cons_zero,List.set_cons_succ]
   refine wpAnyH_take (i:=18) (oi:=⟨some 75,_,_,_,_,_⟩) (v:=.bool true) rfl (by kernel_rfl) (by kernel_rfl) (by kernel_rfl) (fun _ _ _ h=>h) (Or.inl ⟨by rfl,fun Xw hSW=>by go_simp⟩) hHeld ?_
   simp only [Act.put,List.setIfInBounds_toArray,List.set_cons_zero,List.set_cons_succ]
   refine wpAnyH_done (by kernel_rfl) ?_ _
   refine NoPanic.normal ?_
   clear hHeld
   by_cases hm0:m = 0
   ·have HPK:=Lib.hid (show pickC cl j = ((0:Nat),(0:Nat)) by rw [List.length_eq_zero_iff.1 (HM.out.trans hm0)]; exact pickC_nil j)
    subst hm0
    go_wp2_with fail
    refine HeldP.wp_named (S:=fun W=>Blk W wr.heap.size TC [.int .u8 0,.int .u8 0]∧FldM W (fJ F (lx,ly,lz) X Y Z (.slice A1 j cA) (madeC cl j))∧Below w.heap.size w W) ⟨by (repeat' (first | (with_reducible refine BlkP.Blk.drew ?_) | (with_reducible refine BlkP.Blk.drewN ?_ _) | (with_reducible refine BlkP.Blk.setAt (us:=?_) (by first | omega | (simp; done) | (simp; omega)) rfl ?_ ?_) | (with_reducible refine BlkP.Blk.otherAt ?_ (by first | omega | (simp; done) | (simp; omega))) | (with_reducible refine BlkP.Blk.newA' (by first | omega | (simp; done) | (simp; omega)) rfl) | (with_reducible refine BlkP.Blk.alloc ?_ _) | (exact rfl))),HFM.out.below (by (repeat' (first | (with_reducible exact Below.refl _ _) | (with_reducible refine Below.setCell ?_ (by (first | omega | (simp; done) | (simp; omega))) _) | (with_reducible refine Below.alloc ?_ (by (first | omega | (simp; done) | (simp; omega))) _) | (with_reducible refine Below.drew ?_) | (with_reducible refine below_drewN ?_ _)))),HBR.out.trans ((show Below wr.heap.size wr _ by (repeat' (first | (with_reducible exact Below.refl _ _) | (with_reducible refine Below.setCell ?_ (by (first | omega | (simp; done) | (simp; omega))) _) | (with_reducible refine Below.alloc ?_ (by (first | omega | (simp; done) | (simp; omega))) _) | (with_reducible refine Below.drew ?_) | (with_reducible refine below_drewN ?_ _)))).mono HBR.out.size)⟩ ?_
    rintro W ⟨hc,hfm,hbw⟩
    have HC:=Lib.hid hc
    have HFM2:=Lib.hid hfm
    have HBW:=Lib.hid hbw
    have HAK:=Lib.hid (show RowG.Own enc2 TC W.drew 0 (.slice A1 j cA) (madeC cl j) from hfm.cs)
    have HC8F:=Lib.hid (show W.cell? ⟨F,6,none⟩ = some (.slice A1 j cA) from hfm.blk.cell (i:=6) rfl)
    have HFL:=Lib.hid (show F < W.heap.size from hfm.blk.lt)
    have HNF:=Lib.hid (show ¬ (Value.slice A1 j cA).ownBlock = some F from fun e=>by
     obtain ⟨us,hu⟩:=own_cells hfm.cs e
     exact Blk.ne hu hfm.blk (by decide) rfl)
    have HNC:=Lib.hid (show ¬ (Value.slice A1 j cA).ownBlock = some wr.heap.size from fun e=>by
     have:=(HFM.out.cs.ge _ e).2
     omega)
    clear hc hfm hbw
    refine wp_region_noPanic ?_
    refine wp_region_held_drew (S:=fun Xw=>Blk Xw wr.heap.size TC [.int .u8 0,.int .u8 0]) (by kernel_rfl) (HC.out) (fun hHeld=>?_)
    refine wpAnyH_take (i:=0) (oi:=⟨some 99,_,_,_,_,_⟩) (v:=.pointer (some ⟨F,0,none⟩)) rfl (by kernel_rfl) (by kernel_rfl) (by kernel_rfl) (fun _ _ _ h=>h) (Or.inl ⟨by rfl,fun Xw hSW=>by go_simp⟩) hHeld ?_
    simp only [Act.put,List.setIfInBounds_toArray,List.set_cons_zero,List.set_cons_succ]
    refine wpAnyH_take (i:=1) (oi:=⟨some 100,_,_,_,_,_⟩) (v:=.pointer (some ⟨F,0,none⟩)) rfl (by kernel_rfl) (by kernel_rfl) (by kernel_rfl) (fun _ _ _ h=>h) (Or.inl ⟨by rfl,fun Xw hSW=>by go_simp⟩) hHeld ?_
    simp only [Act.put,List.setIfInBounds_toArray,List.set_cons_zero,List.set_cons_succ]
    refine wpAnyH_take (i:=2) (oi:=⟨some 101,_,_,_,_,_⟩) (v:=.pointer (some ⟨F,0,none⟩)) rfl (by kernel_rfl) (by kernel_rfl) (by kernel_rfl) (fun _ _ _ h=>h) (Or.inl ⟨by rfl,fun Xw hSW=>by go_simp⟩) hHeld ?_
    simp only [Act.put,List.setIfInBounds_toArray,List.set_cons_zero,List.set_cons_succ]
    refine wpAnyH_take (i:=3) (oi:=⟨some 102,_,_,_,_,_⟩) (v:=.pointer (some ⟨F,3,none⟩)) rfl (by kernel_rfl) (by kernel_rfl) (by kernel_rfl) (fun _ _ _ h=>h) (Or.inl ⟨by rfl,fun Xw hSW=>by go_simp⟩) hHeld ?_
    simp only [Act.put,List.setIfInBounds_toArray,List.set_cons_zero,List.set_cons_succ]
    refine wpAnyH_take (i:=4) (oi:=⟨some 103,_,_,_,_,_⟩) (v:=.pointer (some ⟨F,6,none⟩)) rfl (by kernel_rfl) (by kernel_rfl) (by kernel_rfl) (fun _ _ _ h=>h) (Or.inl ⟨by rfl,fun Xw hSW=>by go_simp⟩) hHeld ?_
    simp only [Act.put,List.setIfInBounds_toArray,List.set_cons_zero,List.set_cons_succ]
    refine wpAnyH_take (i:=6) (oi:=⟨some 105,_,_,_,_,_⟩) (v:=.agg #[.int .u8 0,.int .u8 0]) rfl (by kernel_rfl) (by kernel_rfl) (by kernel_rfl) (fun _ _ _ h=>h) (Or.inl ⟨by rfl,fun Xw hSW=>by have b0:=hSW.cell (i:=0) rfl; have b1:=hSW.cell (i:=1) rfl; go_simp⟩) hHeld ?_
    simp only [Act.put,List.setIfInBounds_toArray,List.set_cons_zero,List.set_cons_succ]
    have c8:W.cell? ⟨F,6,none⟩ = some (.slice A1 j cA):=HC8F.out
    have HNCF:=Lib.hid (show F ≠ wr.heap.size from fun e=>by have:=HFM.out.blk.lt; have e2:F < wr.heap.size:=this; omega)
    refine wpAnyH_ready (rs:=[5,7]) (by kernel_rfl) (by simp) ?_
    refine AllReadyH.cons (o:=⟨some 104,_,_,_,_,_⟩) rfl (fun K hK=>?_) (AllReadyH.cons (o:=⟨some 106,_,_,_,_,_⟩) rfl (fun K hK=>?_) AllReadyH.nil)
    ·go_simp
     refine hK.out _ _ (hHeld) (fun hHeld=>?_)
     clear hK K
     refine wpAnyH_ready (rs:=[7]) (by kernel_rfl) (by simp) ?_
     refine AllReadyH.cons (o:=⟨some 106,_,_,_,_,_⟩) rfl (fun K hK=>?_) AllReadyH.nil
     go_simp
     refine hK.out _ _ (by have q:=HC.out; (repeat' (first | (with_reducible exact q) | (with_reducible refine BlkP.Blk.drew ?_) | (with_reducible refine BlkP.Blk.drewN ?_ _) | (with_reducible refine BlkP.Blk.setAt (us:=?_) (by first | omega | (simp; done) | (simp; omega)) rfl ?_ ?_) | (with_reducible refine BlkP.Blk.otherAt ?_ (by first | omega | (simp; done) | (simp; omega))) | (with_reducible refine BlkP.Blk.newA' (by first | omega | (simp; done) | (simp; omega)) rfl) | (with_reducible refine BlkP.Blk.alloc ?_ _) | (exact rfl)))) (fun hHeld=>?_)
     clear hK K
     refine wpAnyH_ready (rs:=[8]) (by kernel_rfl) (by simp) ?_
     refine AllReadyH.cons (o:=⟨some 107,_,_,_,_,_⟩) rfl (fun K hK=>?_) AllReadyH.nil
     refine step_pushC (w0:=W.drew) (y:=(0,0)) (v:=.slice A1 j cA) (l:=madeC cl j) rfl (.tmp 104) (.tmp 106) rfl rfl rfl rfl HAK.out rfl HLEN.out (by omega) (Nat.zero_le _) ?_
     intro g c6 w6 hp
     have HPU:=Lib.hid hp
     have f1:Fr (fun k=>(Value.slice A1 j cA).ownBlock = some k) W.drew w6:=Fr.grown hp.2.1 (fun i e=>e)
     have hb6:Blk w6 F TW (fcells (fJ F (lx,ly,lz) X Y Z (.slice A1 j cA) (madeC cl j))):=f1.blk HFM2.out.blk HNF.out
     have HB6:=Lib.hid (show Blk w6 wr.heap.size TC [.int .u8 0,.int .u8 0] from f1.blk HC.out HNC.out)
     have c6':w6.cell? ⟨F,6,none⟩ = some (.slice A1 j cA):=hb6.cell (i:=6) rfl
     have z6:=hb6.frozen 6
     clear hp f1 hb6
     refine hK.out _ _ (HB6.out) (fun hHeld=>?_)
     clear hK K
     refine wpAnyH_take (i:=9) (oi:=⟨some 108,_,_,_,_,_⟩) (v:=.pointer (some ⟨F,0,none⟩)) rfl (by kernel_rfl) (by kernel_rfl) (by kernel_rfl) (fun _ _ _ h=>h) (Or.inl ⟨by rfl,fun Xw hSW=>by go_simp⟩) hHeld ?_
     simp only [Act.put,List.setIfInBounds_toArray,List.set_cons_zero,List.set_cons_succ]
     refine wpAnyH_take (i:=10) (oi:=⟨some 109,_,_,_,_,_⟩) (v:=.pointer (some ⟨F,3,none⟩)) rfl (by kernel_rfl) (by kernel_rfl) (by kernel_rfl) (fun _ _ _ h=>h) (Or.inl ⟨by rfl,fun Xw hSW=>by go_simp⟩) hHeld ?_
     simp only [Act.put,List.setIfInBounds_toArray,List.set_cons_zero,List.set_cons_succ]
     refine wpAnyH_take (i:=11) (oi:=⟨some 110,_,_,_,_,_⟩) (v:=.pointer (some ⟨F,6,none⟩)) rfl (by kernel_rfl) (by kernel_rfl) (by kernel_rfl) (fun _ _ _ h=>h) (Or.inl ⟨by rfl,fun Xw hSW=>by go_simp⟩) hHeld ?_
     simp only [Act.put,List.setIfInBounds_toArray,List.set_cons_zero,List.set_cons_succ]
     refine wpAnyH_ready (rs:=[12]) (by kernel_rfl) (by simp) ?_
     refine AllReadyH.cons (o:=⟨none,_,_,_,_,_⟩) rfl (fun K hK=>?_) AllReadyH.nil
     go_simp
     refine hK.out _ _ (by have q:=HB6.out; have e:=HFL.out; have e2:=HNCF.out; (repeat' (first | (with_reducible exact q) | (with_reducible refine BlkP.Blk.drew ?_) | (with_reducible refine BlkP.Blk.drewN ?_ _) | (with_reducible refine BlkP.Blk.setAt (us:=?_) (by first | omega | (simp; done) | (simp; omega)) rfl ?_ ?_) | (with_reducible refine BlkP.Blk.otherAt ?_ (by first | omega | (simp; done) | (simp; omega))) | (with_reducible refine BlkP.Blk.newA' (by first | omega | (simp; done) | (simp; omega)) rfl) | (with_reducible refine BlkP.Blk.alloc ?_ _) | (exact rfl)))) (fun hHeld=>?_)
     clear hK K
     refine wpAnyH_done (by kernel_rfl) ?_ _
     refine NoPanic.normal ?_
     clear hHeld c6' z6
     have hpc:=FldM.pushC (w0:=W) HFM2.out (y:=(0,0)) ⟨HPU.out.1,⟨HPU.out.2.1.os,HPU.out.2.1.tape,HPU.out.2.1.output,HPU.out.2.1.size,HPU.out.2.1.block⟩,HPU.out.2.2⟩
     have HPC:=Lib.hid hpc
     clear hpc
     go_wp2_with fail
     go_roundw
     case rel =>
      refine ⟨j + 1,.slice (some ⟨g,0,none⟩) (j + 1) c6,by first | rfl | rw [HWR.out] | (congr 1; omega),by omega,?_,fun k hk=>?_,HBW.out.trans ?_⟩
      ·rw [madeC_next,HPK.out]
       exact HPC.out.1
      ·have hk':g = k:=by simpa [Value.ownBlock] using hk
       subst hk'
       rcases HPU.out.2.2 with q | q
       ·exact HNEW.out g q
       ·have q2:W.heap.size≤g:=q
        have:=HBW.out.size
        omega
      ·refine (HPC.out.2.toBelow (B:=w.heap.size) HBW.out.size (fun i hi=>?_))
       rcases hi with e | e
       ·have e':i = F:=e
        have:=HFE.out
        omega
       ·exact HNEW.out i e
     case measure =>
      simp only [intOf]
      omega
    ·go_simp
     refine hK.out _ _ (by have q:=HC.out; (repeat' (first | (with_reducible exact q) | (with_reducible refine BlkP.Blk.drew ?_) | (with_reducible refine BlkP.Blk.drewN ?_ _) | (with_reducible refine BlkP.Blk.setAt (us:=?_) (by first | omega | (simp; done) | (simp; omega)) rfl ?_ ?_) | (with_reducible refine BlkP.Blk.otherAt ?_ (by first | omega | (simp; done) | (simp; omega))) | (with_reducible refine BlkP.Blk.newA' (by first | omega | (simp; done) | (simp; omega)) rfl) | (with_reducible refine BlkP.Blk.alloc ?_ _) | (exact rfl)))) (fun hHeld=>?_)
     clear hK K
     have c8':(W.alloc (.cells #[.int .u8 0,.int .u8 0] TC)).cell? ⟨F,6,none⟩ = some (.slice A1 j cA):=by have q:=HC8F.out; have hl:=HFL.out; (repeat' (first | (with_reducible assumption) | (with_reducible refine HeldP.c_drew ?_) | (with_reducible refine HeldP.c_drewN ?_) | (with_reducible refine HeldP.c_same (by omega) ?_) | (with_reducible refine HeldP.c_other ?_ ?_) | (with_reducible refine HeldP.c_new (by first | omega | (simp; done) | (simp; omega)) ?_) | (with_reducible refine HeldP.c_alloc ?_ ?_) | (with_reducible refine HeldP.e_drew ?_) | (with_reducible refine HeldP.e_drewN ?_) | (with_reducible refine HeldP.e_set ?_) | (with_reducible refine HeldP.e_new (by first | omega | (simp; done) | (simp; omega)) ⟨_,rfl⟩) | (with_reducible refine HeldP.e_alloc ?_ ?_) | (with_reducible refine HeldP.f_drew ?_) | (with_reducible refine HeldP.f_drewN ?_) | (with_reducible refine HeldP.f_set ?_) | (with_reducible refine HeldP.f_new (by first | omega | (simp; done) | (simp; omega))) | (with_reducible refine HeldP.f_alloc ?_ ?_) | (with_reducible refine HeldP.s_drew ?_) | (with_reducible refine HeldP.s_drewN ?_) | (with_reducible refine HeldP.s_set ?_) | (with_reducible refine HeldP.s_new (by first | omega | (simp; done) | (simp; omega))) | (with_reducible refine HeldP.s_alloc ?_) | (with_reducible exact ⟨_,by assumption⟩) | omega | (intro e; simp at e; done) | (intro e; simp at e; omega) | (exact rfl) | (simp; done) | (simp; omega)))
     refine wpAnyH_ready (rs:=[5]) (by kernel_rfl) (by simp) ?_
     refine AllReadyH.cons (o:=⟨some 104,_,_,_,_,_⟩) rfl (fun K hK=>?_) AllReadyH.nil
     go_simp
     refine hK.out _ _ (hHeld) (fun hHeld=>?_)
     clear hK K
     refine wpAnyH_ready (rs:=[8]) (by kernel_rfl) (by simp) ?_
     refine AllReadyH.cons (o:=⟨some 107,_,_,_,_,_⟩) rfl (fun K hK=>?_) AllReadyH.nil
     refine step_pushC (w0:=W.drew) (y:=(0,0)) (v:=.slice A1 j cA) (l:=madeC cl j) rfl (.tmp 104) (.tmp 106) rfl rfl rfl rfl HAK.out rfl HLEN.out (by omega) (Nat.zero_le _) ?_
     intro g c6 w6 hp
     have HPU:=Lib.hid hp
     have f1:Fr (fun k=>(Value.slice A1 j cA).ownBlock = some k) W.drew w6:=Fr.grown hp.2.1 (fun i e=>e)
     have hb6:Blk w6 F TW (fcells (fJ F (lx,ly,lz) X Y Z (.slice A1 j cA) (madeC cl j))):=f1.blk HFM2.out.blk HNF.out
     have HB6:=Lib.hid (show Blk w6 wr.heap.size TC [.int .u8 0,.int .u8 0] from f1.blk HC.out HNC.out)
     have c6':w6.cell? ⟨F,6,none⟩ = some (.slice A1 j cA):=hb6.cell (i:=6) rfl
     have z6:=hb6.frozen 6
     clear hp f1 hb6
     refine hK.out _ _ (HB6.out) (fun hHeld=>?_)
     clear hK K
     refine wpAnyH_take (i:=9) (oi:=⟨some 108,_,_,_,_,_⟩) (v:=.pointer (some ⟨F,0,none⟩)) rfl (by kernel_rfl) (by kernel_rfl) (by kernel_rfl) (fun _ _ _ h=>h) (Or.inl ⟨by rfl,fun Xw hSW=>by go_simp⟩) hHeld ?_
     simp only [Act.put,List.setIfInBounds_toArray,List.set_cons_zero,List.set_cons_succ]
     refine wpAnyH_take (i:=10) (oi:=⟨some 109,_,_,_,_,_⟩) (v:=.pointer (some ⟨F,3,none⟩)) rfl (by kernel_rfl) (by kernel_rfl) (by kernel_rfl) (fun _ _ _ h=>h) (Or.inl ⟨by rfl,fun Xw hSW=>by go_simp⟩) hHeld ?_
     simp only [Act.put,List.setIfInBounds_toArray,List.set_cons_zero,List.set_cons_succ]
     refine wpAnyH_take (i:=11) (oi:=⟨some 110,_,_,_,_,_⟩) (v:=.pointer (some ⟨F,6,none⟩)) rfl (by kernel_rfl) (by kernel_rfl) (by kernel_rfl) (fun _ _ _ h=>h) (Or.inl ⟨by rfl,fun Xw hSW=>by go_simp⟩) hHeld ?_
     simp only [Act.put,List.setIfInBounds_toArray,List.set_cons_zero,List.set_cons_succ]
     refine wpAnyH_ready (rs:=[12]) (by kernel_rfl) (by simp) ?_
     refine AllReadyH.cons (o:=⟨none,_,_,_,_,_⟩) rfl (fun K hK=>?_) AllReadyH.nil
     go_simp
     refine hK.out _ _ (by have q:=HB6.out; have e:=HFL.out; have e2:=HNCF.out; (repeat' (first | (with_reducible exact q) | (with_reducible refine BlkP.Blk.drew ?_) | (with_reducible refine BlkP.Blk.drewN ?_ _) | (with_reducible refine BlkP.Blk.setAt (us:=?_) (by first | omega | (simp; done) | (simp; omega)) rfl ?_ ?_) | (with_reducible refine BlkP.Blk.otherAt ?_ (by first | omega | (simp; done) | (simp; omega))) | (with_reducible refine BlkP.Blk.newA' (by first | omega | (simp; done) | (simp; omega)) rfl) | (with_reducible refine BlkP.Blk.alloc ?_ _) | (exact rfl)))) (fun hHeld=>?_)
     clear hK K
     refine wpAnyH_done (by kernel_rfl) ?_ _
     refine NoPanic.normal ?_
     clear hHeld c6' z6
     have hpc:=FldM.pushC (w0:=W) HFM2.out (y:=(0,0)) ⟨HPU.out.1,⟨HPU.out.2.1.os,HPU.out.2.1.tape,HPU.out.2.1.output,HPU.out.2.1.size,HPU.out.2.1.block⟩,HPU.out.2.2⟩
     have HPC:=Lib.hid hpc
     clear hpc
     go_wp2_with fail
     go_roundw
     case rel =>
      refine ⟨j + 1,.slice (some ⟨g,0,none⟩) (j + 1) c6,by first | rfl | rw [HWR.out] | (congr 1; omega),by omega,?_,fun k hk=>?_,HBW.out.trans ?_⟩
      ·rw [madeC_next,HPK.out]
       exact HPC.out.1
      ·have hk':g = k:=by simpa [Value.ownBlock] using hk
       subst hk'
       rcases HPU.out.2.2 with q | q
       ·exact HNEW.out g q
       ·have q2:W.heap.size≤g:=q
        have:=HBW.out.size
        omega
      ·refine (HPC.out.2.toBelow (B:=w.heap.size) HBW.out.size (fun i hi=>?_))
       rcases hi with e | e
       ·have e':i = F:=e
        have:=HFE.out
        omega
       ·exact HNEW.out i e
     case measure =>
      simp only [intOf]
      omega
   ·obtain ⟨t,ht⟩:∃ t,j % m = t:=⟨_,rfl⟩
    have htm:t < m:=by rw [← ht]; exact Nat.mod_lt _ (by omega)
    have n1:(j:Int).tmod m = (t:Int):=remF ht
    obtain ⟨⟨k,l⟩,hkl⟩:∃ x,cl[t]? = some x:=⟨_,List.getElem?_eq_getElem (by rw [HM.out]; exact htm)⟩
    obtain ⟨rb,ro,hA,hrl,hcell⟩:=HR.out.at hkl
    subst hA
    have hrw:wr.cell? ⟨rb,ro + t * 2,none⟩ = some (.int .u8 (k:Int)):=(HBR.out.cell (p:=⟨rb,ro + t * 2,none⟩) hrl).trans (hcell 0 _ rfl)
    have hrw1:wr.cell? ⟨rb,ro + t * 2 + 1,none⟩ = some (.int .u8 (l:Int)):=(HBR.out.cell (p:=⟨rb,ro + t * 2 + 1,none⟩) hrl).trans (hcell 1 _ rfl)
    have HPA:=Lib.hid (pickC_at (cl:=cl) (i:=j) (x:=(k,l)) (by rw [HM.out,ht]; exact hkl))
    have hmI:(0:Int) < m:=by omega
    have hmN:0 < m:=by omega
    have htI:(t:Int) < m:=by omega
    have hmz:¬ (m:Int) = 0:=by omega
    have hrb:rb < wr.heap.size:=Nat.lt_of_lt_of_le hrl HBR.out.size
    clear ht hkl hcell
    obtain ⟨mb,hmb⟩:∃ mb,KindP.may k l = mb:=⟨_,rfl⟩
    have HMB:=Lib.hid hmb
    go_wp2_with fail
    go_at_call 23
    refine calls_named (S:=fun W=>Below wr.heap.size wr W∧Blk W wr.heap.size TC [.int .u8 0,.int .u8 0]) ⟨by (repeat' (first | (with_reducible exact Below.refl _ _) | (with_reducible refine Below.setCell ?_ (by (first | omega | (simp; done) | (simp; omega))) _) | (with_reducible refine Below.alloc ?_ (by (first | omega | (simp; done) | (simp; omega))) _) | (with_reducible refine Below.drew ?_) | (with_reducible refine below_drewN ?_ _))),by (repeat' (first | (with_reducible refine BlkP.Blk.drew ?_) | (with_reducible refine BlkP.Blk.drewN ?_ _) | (with_reducible refine BlkP.Blk.setAt (us:=?_) (by first | omega | (simp; done) | (simp; omega)) rfl ?_ ?_) | (with_reducible refine BlkP.Blk.otherAt ?_ (by first | omega | (simp; done) | (simp; omega))) | (with_reducible refine BlkP.Blk.newA' (by first | omega | (simp; done) | (simp; omega)) rfl) | (with_reducible refine BlkP.Blk.alloc ?_ _) | (exact rfl)))⟩ ?_
    rintro W3 ⟨hb3,hc3⟩
    refine (KindW.r_may_b hmb W3).mono ?_
    rintro e W4 ⟨rfl,hb4⟩
    have HB4:=Lib.hid (hb3.trans (hb4.mono hb3.size))
    have HC4:=Lib.hid (hc3.below hb4)
    have g0:=HC4.out.cell (i:=0) rfl
    have g1:=HC4.out.cell (i:=1) rfl
    have z0:=HC4.out.frozen 0
    have z1:=HC4.out.frozen 1
    have r0:W4.cell? ⟨rb,ro + t * 2,none⟩ = some (.int .u8 (k:Int)):=(HB4.out.cell (p:=⟨rb,ro + t * 2,none⟩) hrb).trans hrw
    have r1:W4.cell? ⟨rb,ro + t * 2 + 1,none⟩ = some (.int .u8 (l:Int)):=(HB4.out.cell (p:=⟨rb,ro + t * 2 + 1,none⟩) hrb).trans hrw1
    have hwl:=HC4.out.lt
    clear hmb hb3 hc3 hb4 hrw hrw1
    cases mb with
    | true =>
     have HPK:=Lib.hid (show pickC cl j = (k,l) by rw [HPA.out,if_pos HMB.out])
     go_wp2_with fail
     clear g0 g1 z0 z1 r0 r1
     refine HeldP.wp_named (S:=fun W=>Blk W wr.heap.size TC [.int .u8 (k:Int),.int .u8 (l:Int)]∧FldM W (fJ F (lx,ly,lz) X Y Z (.slice A1 j cA) (madeC cl j))∧Below w.heap.size w W) ⟨by have q:=HC4.out; (repeat' (first | (with_reducible exact q) | (with_reducible refine BlkP.Blk.drew ?_) | (with_reducible refine BlkP.Blk.drewN ?_ _) | (with_reducible refine BlkP.Blk.setAt (us:=?_) (by first | omega | (simp; done) | (simp; omega)) rfl ?_ ?_) | (with_reducible refine BlkP.Blk.otherAt ?_ (by first | omega | (simp; done) | (simp; omega))) | (with_reducible refine BlkP.Blk.newA' (by first | omega | (simp; done) | (simp; omega)) rfl) | (with_reducible refine BlkP.Blk.alloc ?_ _) | (exact rfl))),HFM.out.below (HB4.out.trans (by (repeat' (first | (with_reducible exact Below.refl _ _) | (with_reducible refine Below.setCell ?_ (by (first | omega | (simp; done) | (simp; omega))) _) | (with_reducible refine Below.alloc ?_ (by (first | omega | (simp; done) | (simp; omega))) _) | (with_reducible refine Below.drew ?_) | (with_reducible refine below_drewN ?_ _))))),HBR.out.trans ((HB4.out.trans (show Below wr.heap.size W4 _ by (repeat' (first | (with_reducible exact Below.refl _ _) | (with_reducible refine Below.setCell ?_ (by (first | omega | (simp; done) | (simp; omega))) _) | (with_reducible refine Below.alloc ?_ (by (first | omega | (simp; done) | (simp; omega))) _) | (with_reducible refine Below.drew ?_) | (with_reducible refine below_drewN ?_ _))))).mono HBR.out.size)⟩ ?_
     rintro W ⟨hc,hfm,hbw⟩
     have HC:=Lib.hid hc
     have HFM2:=Lib.hid hfm
     have HBW:=Lib.hid hbw
     have HAK:=Lib.hid (show RowG.Own enc2 TC W.drew 0 (.slice A1 j cA) (madeC cl j) from hfm.cs)
     have HC8F:=Lib.hid (show W.cell? ⟨F,6,none⟩ = some (.slice A1 j cA) from hfm.blk.cell (i:=6) rfl)
     have HFL:=Lib.hid (show F < W.heap.size from hfm.blk.lt)
     have HNF:=Lib.hid (show ¬ (Value.slice A1 j cA).ownBlock = some F from fun e=>by
      obtain ⟨us,hu⟩:=own_cells hfm.cs e
      exact Blk.ne hu hfm.blk (by decide) rfl)
     have HNC:=Lib.hid (show ¬ (Value.slice A1 j cA).ownBlock = some wr.heap.size from fun e=>by
      have:=(HFM.out.cs.ge _ e).2
      omega)
     clear hc hfm hbw
     refine wp_region_noPanic ?_
     refine wp_region_held_drew (S:=fun Xw=>Blk Xw wr.heap.size TC [.int .u8 (k:Int),.int .u8 (l:Int)]) (by kernel_rfl) (HC.out) (fun hHeld=>?_)
     refine wpAnyH_take (i:=0) (oi:=⟨some 99,_,_,_,_,_⟩) (v:=.pointer (some ⟨F,0,none⟩)) rfl (by kernel_rfl) (by kernel_rfl) (by kernel_rfl) (fun _ _ _ h=>h) (Or.inl ⟨by rfl,fun Xw hSW=>by go_simp⟩) hHeld ?_
     simp only [Act.put,List.setIfInBounds_toArray,List.set_cons_zero,List.set_cons_succ]
     refine wpAnyH_take (i:=1) (oi:=⟨some 100,_,_,_,_,_⟩) (v:=.pointer (some ⟨F,0,none⟩)) rfl (by kernel_rfl) (by kernel_rfl) (by kernel_rfl) (fun _ _ _ h=>h) (Or.inl ⟨by rfl,fun Xw hSW=>by go_simp⟩) hHeld ?_
     simp only [Act.put,List.setIfInBounds_toArray,List.set_cons_zero,List.set_cons_succ]
     refine wpAnyH_take (i:=2) (oi:=⟨some 101,_,_,_,_,_⟩) (v:=.pointer (some ⟨F,0,none⟩)) rfl (by kernel_rfl) (by kernel_rfl) (by kernel_rfl) (fun _ _ _ h=>h) (Or.inl ⟨by rfl,fun Xw hSW=>by go_simp⟩) hHeld ?_
     simp only [Act.put,List.setIfInBounds_toArray,List.set_cons_zero,List.set_cons_succ]
     refine wpAnyH_take (i:=3) (oi:=⟨some 102,_,_,_,_,_⟩) (v:=.pointer (some ⟨F,3,none⟩)) rfl (by kernel_rfl) (by kernel_rfl) (by kernel_rfl) (fun _ _ _ h=>h) (Or.inl ⟨by rfl,fun Xw hSW=>by go_simp⟩) hHeld ?_
     simp only [Act.put,List.setIfInBounds_toArray,List.set_cons_zero,List.set_cons_succ]
     refine wpAnyH_take (i:=4) (oi:=⟨some 103,_,_,_,_,_⟩) (v:=.pointer (some ⟨F,6,none⟩)) rfl (by kernel_rfl) (by kernel_rfl) (by kernel_rfl) (fun _ _ _ h=>h) (Or.inl ⟨by rfl,fun Xw hSW=>by go_simp⟩) hHeld ?_
     simp only [Act.put,List.setIfInBounds_toArray,List.set_cons_zero,List.set_cons_succ]
     refine wpAnyH_take (i:=6) (oi:=⟨some 105,_,_,_,_,_⟩) (v:=.agg #[.int .u8 (k:Int),.int .u8 (l:Int)]) rfl (by kernel_rfl) (by kernel_rfl) (by kernel_rfl) (fun _ _ _ h=>h) (Or.inl ⟨by rfl,fun Xw hSW=>by have b0:=hSW.cell (i:=0) rfl; have b1:=hSW.cell (i:=1) rfl; go_simp⟩) hHeld ?_
     simp only [Act.put,List.setIfInBounds_toArray,List.set_cons_zero,List.set_cons_succ]
     have c8:W.cell? ⟨F,6,none⟩ = some (.slice A1 j cA):=HC8F.out
     have HNCF:=Lib.hid (show F ≠ wr.heap.size from fun e=>by have:=HFM.out.blk.lt; have e2:F < wr.heap.size:=this; omega)
     refine wpAnyH_ready (rs:=[5,7]) (by kernel_rfl) (by simp) ?_
     refine AllReadyH.cons (o:=⟨some 104,_,_,_,_,_⟩) rfl (fun K hK=>?_) (AllReadyH.cons (o:=⟨some 106,_,_,_,_,_⟩) rfl (fun K hK=>?_) AllReadyH.nil)
     ·go_simp
      refine hK.out _ _ (hHeld) (fun hHeld=>?_)
      clear hK K
      refine wpAnyH_ready (rs:=[7]) (by kernel_rfl) (by simp) ?_
      refine AllReadyH.cons (o:=⟨some 106,_,_,_,_,_⟩) rfl (fun K hK=>?_) AllReadyH.nil
      go_simp
      refine hK.out _ _ (by have q:=HC.out; (repeat' (first | (with_reducible exact q) | (with_reducible refine BlkP.Blk.drew ?_) | (with_reducible refine BlkP.Blk.drewN ?_ _) | (with_reducible refine BlkP.Blk.setAt (us:=?_) (by first | omega | (simp; done) | (simp; omega)) rfl ?_ ?_) | (with_reducible refine BlkP.Blk.otherAt ?_ (by first | omega | (simp; done) | (simp; omega))) | (with_reducible refine BlkP.Blk.newA' (by first | omega | (simp; done) | (simp; omega)) rfl) | (with_reducible refine BlkP.Blk.alloc ?_ _) | (exact rfl)))) (fun hHeld=>?_)
      clear hK K
      refine wpAnyH_ready (rs:=[8]) (by kernel_rfl) (by simp) ?_
      refine AllReadyH.cons (o:=⟨some 107,_,_,_,_,_⟩) rfl (fun K hK=>?_) AllReadyH.nil
      refine step_pushC (w0:=W.drew) (y:=(k,l)) (v:=.slice A1 j cA) (l:=madeC cl j) rfl (.tmp 104) (.tmp 106) rfl rfl rfl rfl HAK.out rfl HLEN.out (by omega) (Nat.zero_le _) ?_
      intro g c6 w6 hp
      have HPU:=Lib.hid hp
      have f1:Fr (fun k=>(Value.slice A1 j cA).ownBlock = some k) W.drew w6:=Fr.grown hp.2.1 (fun i e=>e)
      have hb6:Blk w6 F TW (fcells (fJ F (lx,ly,lz) X Y Z (.slice A1 j cA) (madeC cl j))):=f1.blk HFM2.out.blk HNF.out
      have HB6:=Lib.hid (show Blk w6 wr.heap.size TC [.int .u8 (k:Int),.int .u8 (l:Int)] from f1.blk HC.out HNC.out)
      have c6':w6.cell? ⟨F,6,none⟩ = some (.slice A1 j cA):=hb6.cell (i:=6) rfl
      have z6:=hb6.frozen 6
      clear hp f1 hb6
      refine hK.out _ _ (HB6.out) (fun hHeld=>?_)
      clear hK K
      refine wpAnyH_take (i:=9) (oi:=⟨some 108,_,_,_,_,_⟩) (v:=.pointer (some ⟨F,0,none⟩)) rfl (by kernel_rfl) (by kernel_rfl) (by kernel_rfl) (fun _ _ _ h=>h) (Or.inl ⟨by rfl,fun Xw hSW=>by go_simp⟩) hHeld ?_
      simp only [Act.put,List.setIfInBounds_toArray,List.set_cons_zero,List.set_cons_succ]
      refine wpAnyH_take (i:=10) (oi:=⟨some 109,_,_,_,_,_⟩) (v:=.pointer (some ⟨F,3,none⟩)) rfl (by kernel_rfl) (by kernel_rfl) (by kernel_rfl) (fun _ _ _ h=>h) (Or.inl ⟨by rfl,fun Xw hSW=>by go_simp⟩) hHeld ?_
      simp only [Act.put,List.setIfInBounds_toArray,List.set_cons_zero,List.set_cons_succ]
      refine wpAnyH_take (i:=11) (oi:=⟨some 110,_,_,_,_,_⟩) (v:=.pointer (some ⟨F,6,none⟩)) rfl (by kernel_rfl) (by kernel_rfl) (by kernel_rfl) (fun _ _ _ h=>h) (Or.inl ⟨by rfl,fun Xw hSW=>by go_simp⟩) hHeld ?_
      simp only [Act.put,List.setIfInBounds_toArray,List.set_cons_zero,List.set_cons_succ]
      refine wpAnyH_ready (rs:=[12]) (by kernel_rfl) (by simp) ?_
      refine AllReadyH.cons (o:=⟨none,_,_,_,_,_⟩) rfl (fun K hK=>?_) AllReadyH.nil
      go_simp
      refine hK.out _ _ (by have q:=HB6.out; have e:=HFL.out; have e2:=HNCF.out; (repeat' (first | (with_reducible exact q) | (with_reducible refine BlkP.Blk.drew ?_) | (with_reducible refine BlkP.Blk.drewN ?_ _) | (with_reducible refine BlkP.Blk.setAt (us:=?_) (by first | omega | (simp; done) | (simp; omega)) rfl ?_ ?_) | (with_reducible refine BlkP.Blk.otherAt ?_ (by first | omega | (simp; done) | (simp; omega))) | (with_reducible refine BlkP.Blk.newA' (by first | omega | (simp; done) | (simp; omega)) rfl) | (with_reducible refine BlkP.Blk.alloc ?_ _) | (exact rfl)))) (fun hHeld=>?_)
      clear hK K
      refine wpAnyH_done (by kernel_rfl) ?_ _
      refine NoPanic.normal ?_
      clear hHeld c6' z6
      have hpc:=FldM.pushC (w0:=W) HFM2.out (y:=(k,l)) ⟨HPU.out.1,⟨HPU.out.2.1.os,HPU.out.2.1.tape,HPU.out.2.1.output,HPU.out.2.1.size,HPU.out.2.1.block⟩,HPU.out.2.2⟩
      have HPC:=Lib.hid hpc
      clear hpc
      go_wp2_with fail
      go_roundw
      case rel =>
       refine ⟨j + 1,.slice (some ⟨g,0,none⟩) (j + 1) c6,by first | rfl | rw [HWR.out] | (congr 1; omega),by omega,?_,fun k hk=>?_,HBW.out.trans ?_⟩
       ·rw [madeC_next,HPK.out]
        exact HPC.out.1
       ·have hk':g = k:=by simpa [Value.ownBlock] using hk
        subst hk'
        rcases HPU.out.2.2 with q | q
        ·exact HNEW.out g q
        ·have q2:W.heap.size≤g:=q
         have:=HBW.out.size
         omega
       ·refine (HPC.out.2.toBelow (B:=w.heap.size) HBW.out.size (fun i hi=>?_))
        rcases hi with e | e
        ·have e':i = F:=e
         have:=HFE.out
         omega
        ·exact HNEW.out i e
      case measure =>
       simp only [intOf]
       omega
     ·go_simp
      refine hK.out _ _ (by have q:=HC.out; (repeat' (first | (with_reducible exact q) | (with_reducible refine BlkP.Blk.drew ?_) | (with_reducible refine BlkP.Blk.drewN ?_ _) | (with_reducible refine BlkP.Blk.setAt (us:=?_) (by first | omega | (simp; done) | (simp; omega)) rfl ?_ ?_) | (with_reducible refine BlkP.Blk.otherAt ?_ (by first | omega | (simp; done) | (simp; omega))) | (with_reducible refine BlkP.Blk.newA' (by first | omega | (simp; done) | (simp; omega)) rfl) | (with_reducible refine BlkP.Blk.alloc ?_ _) | (exact rfl)))) (fun hHeld=>?_)
      clear hK K
      have c8':(W.alloc (.cells #[.int .u8 (k:Int),.int .u8 (l:Int)] TC)).cell? ⟨F,6,none⟩ = some (.slice A1 j cA):=by have q:=HC8F.out; have hl:=HFL.out; (repeat' (first | (with_reducible assumption) | (with_reducible refine HeldP.c_drew ?_) | (with_reducible refine HeldP.c_drewN ?_) | (with_reducible refine HeldP.c_same (by omega) ?_) | (with_reducible refine HeldP.c_other ?_ ?_) | (with_reducible refine HeldP.c_new (by first | omega | (simp; done) | (simp; omega)) ?_) | (with_reducible refine HeldP.c_alloc ?_ ?_) | (with_reducible refine HeldP.e_drew ?_) | (with_reducible refine HeldP.e_drewN ?_) | (with_reducible refine HeldP.e_set ?_) | (with_reducible refine HeldP.e_new (by first | omega | (simp; done) | (simp; omega)) ⟨_,rfl⟩) | (with_reducible refine HeldP.e_alloc ?_ ?_) | (with_reducible refine HeldP.f_drew ?_) | (with_reducible refine HeldP.f_drewN ?_) | (with_reducible refine HeldP.f_set ?_) | (with_reducible refine HeldP.f_new (by first | omega | (simp; done) | (simp; omega))) | (with_reducible refine HeldP.f_alloc ?_ ?_) | (with_reducible refine HeldP.s_drew ?_) | (with_reducible refine HeldP.s_drewN ?_) | (with_reducible refine HeldP.s_set ?_) | (with_reducible refine HeldP.s_new (by first | omega | (simp; done) | (simp; omega))) | (with_reducible refine HeldP.s_alloc ?_) | (with_reducible exact ⟨_,by assumption⟩) | omega | (intro e; simp at e; done) | (intro e; simp at e; omega) | (exact rfl) | (simp; done) | (simp; omega)))
      refine wpAnyH_ready (rs:=[5]) (by kernel_rfl) (by simp) ?_
      refine AllReadyH.cons (o:=⟨some 104,_,_,_,_,_⟩) rfl (fun K hK=>?_) AllReadyH.nil
      go_simp
      refine hK.out _ _ (hHeld) (fun hHeld=>?_)
      clear hK K
      refine wpAnyH_ready (rs:=[8]) (by kernel_rfl) (by simp) ?_
      refine AllReadyH.cons (o:=⟨some 107,_,_,_,_,_⟩) rfl (fun K hK=>?_) AllReadyH.nil
      refine step_pushC (w0:=W.drew) (y:=(k,l)) (v:=.slice A1 j cA) (l:=madeC cl j) rfl (.tmp 104) (.tmp 106) rfl rfl rfl rfl HAK.out rfl HLEN.out (by omega) (Nat.zero_le _) ?_
      intro g c6 w6 hp
      have HPU:=Lib.hid hp
      have f1:Fr (fun k=>(Value.slice A1 j cA).ownBlock = some k) W.drew w6:=Fr.grown hp.2.1 (fun i e=>e)
      have hb6:Blk w6 F TW (fcells (fJ F (lx,ly,lz) X Y Z (.slice A1 j cA) (madeC cl j))):=f1.blk HFM2.out.blk HNF.out
      have HB6:=Lib.hid (show Blk w6 wr.heap.size TC [.int .u8 (k:Int),.int .u8 (l:Int)] from f1.blk HC.out HNC.out)
      have c6':w6.cell? ⟨F,6,none⟩ = some (.slice A1 j cA):=hb6.cell (i:=6) rfl
      have z6:=hb6.frozen 6
      clear hp f1 hb6
      refine hK.out _ _ (HB6.out) (fun hHeld=>?_)
      clear hK K
      refine wpAnyH_take (i:=9) (oi:=⟨some 108,_,_,_,_,_⟩) (v:=.pointer (some ⟨F,0,none⟩)) rfl (by kernel_rfl) (by kernel_rfl) (by kernel_rfl) (fun _ _ _ h=>h) (Or.inl ⟨by rfl,fun Xw hSW=>by go_simp⟩) hHeld ?_
      simp only [Act.put,List.setIfInBounds_toArray,List.set_cons_zero,List.set_cons_succ]
      refine wpAnyH_take (i:=10) (oi:=⟨some 109,_,_,_,_,_⟩) (v:=.pointer (some ⟨F,3,none⟩)) rfl (by kernel_rfl) (by kernel_rfl) (by kernel_rfl) (fun _ _ _ h=>h) (Or.inl ⟨by rfl,fun Xw hSW=>by go_simp⟩) hHeld ?_
      simp only [Act.put,List.setIfInBounds_toArray,List.set_cons_zero,List.set_cons_succ]
      refine wpAnyH_take (i:=11) (oi:=⟨some 110,_,_,_,_,_⟩) (v:=.pointer (some ⟨F,6,none⟩)) rfl (by kernel_rfl) (by kernel_rfl) (by kernel_rfl) (fun _ _ _ h=>h) (Or.inl ⟨by rfl,fun Xw hSW=>by go_simp⟩) hHeld ?_
      simp only [Act.put,List.setIfInBounds_toArray,List.set_cons_zero,List.set_cons_succ]
      refine wpAnyH_ready (rs:=[12]) (by kernel_rfl) (by simp) ?_
      refine AllReadyH.cons (o:=⟨none,_,_,_,_,_⟩) rfl (fun K hK=>?_) AllReadyH.nil
      go_simp
      refine hK.out _ _ (by have q:=HB6.out; have e:=HFL.out; have e2:=HNCF.out; (repeat' (first | (with_reducible exact q) | (with_reducible refine BlkP.Blk.drew ?_) | (with_reducible refine BlkP.Blk.drewN ?_ _) | (with_reducible refine BlkP.Blk.setAt (us:=?_) (by first | omega | (simp; done) | (simp; omega)) rfl ?_ ?_) | (with_reducible refine BlkP.Blk.otherAt ?_ (by first | omega | (simp; done) | (simp; omega))) | (with_reducible refine BlkP.Blk.newA' (by first | omega | (simp; done) | (simp; omega)) rfl) | (with_reducible refine BlkP.Blk.alloc ?_ _) | (exact rfl)))) (fun hHeld=>?_)
      clear hK K
      refine wpAnyH_done (by kernel_rfl) ?_ _
      refine NoPanic.normal ?_
      clear hHeld c6' z6
      have hpc:=FldM.pushC (w0:=W) HFM2.out (y:=(k,l)) ⟨HPU.out.1,⟨HPU.out.2.1.os,HPU.out.2.1.tape,HPU.out.2.1.output,HPU.out.2.1.size,HPU.out.2.1.block⟩,HPU.out.2.2⟩
      have HPC:=Lib.hid hpc
      clear hpc
      go_wp2_with fail
      go_roundw
      case rel =>
       refine ⟨j + 1,.slice (some ⟨g,0,none⟩) (j + 1) c6,by first | rfl | rw [HWR.out] | (congr 1; omega),by omega,?_,fun k hk=>?_,HBW.out.trans ?_⟩
       ·rw [madeC_next,HPK.out]
        exact HPC.out.1
       ·have hk':g = k:=by simpa [Value.ownBlock] using hk
        subst hk'
        rcases HPU.out.2.2 with q | q
        ·exact HNEW.out g q
        ·have q2:W.heap.size≤g:=q
         have:=HBW.out.size
         omega
       ·refine (HPC.out.2.toBelow (B:=w.heap.size) HBW.out.size (fun i hi=>?_))
        rcases hi with e | e
        ·have e':i = F:=e
         have:=HFE.out
         omega
        ·exact HNEW.out i e
      case measure =>
       simp only [intOf]
       omega
    | false =>
     have HPK:=Lib.hid (show pickC cl j = ((0:Nat),(0:Nat)) by rw [HPA.out,if_neg (by rw [HMB.out]; simp)])
     go_wp2_with fail
     clear g0 g1 z0 z1 r0 r1
     refine HeldP.wp_named (S:=fun W=>Blk W wr.heap.size TC [.int .u8 0,.int .u8 0]∧FldM W (fJ F (lx,ly,lz) X Y Z (.slice A1 j cA) (madeC cl j))∧Below w.heap.size w W) ⟨HC4.out,HFM.out.below HB4.out,HBR.out.trans (HB4.out.mono HBR.out.size)⟩ ?_
     rintro W ⟨hc,hfm,hbw⟩
     have HC:=Lib.hid hc
     have HFM2:=Lib.hid hfm
     have HBW:=Lib.hid hbw
     have HAK:=Lib.hid (show RowG.Own enc2 TC W.drew 0 (.slice A1 j cA) (madeC cl j) from hfm.cs)
     have HC8F:=Lib.hid (show W.cell? ⟨F,6,none⟩ = some (.slice A1 j cA) from hfm.blk.cell (i:=6) rfl)
     have HFL:=Lib.hid (show F < W.heap.size from hfm.blk.lt)
     have HNF:=Lib.hid (show ¬ (Value.slice A1 j cA).ownBlock = some F from fun e=>by
      obtain ⟨us,hu⟩:=own_cells hfm.cs e
      exact Blk.ne hu hfm.blk (by decide) rfl)
     have HNC:=Lib.hid (show ¬ (Value.slice A1 j cA).ownBlock = some wr.heap.size from fun e=>by
      have:=(HFM.out.cs.ge _ e).2
      omega)
     clear hc hfm hbw
     refine wp_region_noPanic ?_
     refine wp_region_held_drew (S:=fun Xw=>Blk Xw wr.heap.size TC [.int .u8 0,.int .u8 0]) (by kernel_rfl) (HC.out) (fun hHeld=>?_)
     refine wpAnyH_take (i:=0) (oi:=⟨some 99,_,_,_,_,_⟩) (v:=.pointer (some ⟨F,0,none⟩)) rfl (by kernel_rfl) (by kernel_rfl) (by kernel_rfl) (fun _ _ _ h=>h) (Or.inl ⟨by rfl,fun Xw hSW=>by go_simp⟩) hHeld ?_
     simp only [Act.put,List.setIfInBounds_toArray,List.set_cons_zero,List.set_cons_succ]
     refine wpAnyH_take (i:=1) (oi:=⟨some 100,_,_,_,_,_⟩) (v:=.pointer (some ⟨F,0,none⟩)) rfl (by kernel_rfl) (by kernel_rfl) (by kernel_rfl) (fun _ _ _ h=>h) (Or.inl ⟨by rfl,fun Xw hSW=>by go_simp⟩) hHeld ?_
     simp only [Act.put,List.setIfInBounds_toArray,List.set_cons_zero,List.set_cons_succ]
     refine wpAnyH_take (i:=2) (oi:=⟨some 101,_,_,_,_,_⟩) (v:=.pointer (some ⟨F,0,none⟩)) rfl (by kernel_rfl) (by kernel_rfl) (by kernel_rfl) (fun _ _ _ h=>h) (Or.inl ⟨by rfl,fun Xw hSW=>by go_simp⟩) hHeld ?_
     simp only [Act.put,List.setIfInBounds_toArray,List.set_cons_zero,List.set_cons_succ]
     refine wpAnyH_take (i:=3) (oi:=⟨some 102,_,_,_,_,_⟩) (v:=.pointer (some ⟨F,3,none⟩)) rfl (by kernel_rfl) (by kernel_rfl) (by kernel_rfl) (fun _ _ _ h=>h) (Or.inl ⟨by rfl,fun Xw hSW=>by go_simp⟩) hHeld ?_
     simp only [Act.put,List.setIfInBounds_toArray,List.set_cons_zero,List.set_cons_succ]
     refine wpAnyH_take (i:=4) (oi:=⟨some 103,_,_,_,_,_⟩) (v:=.pointer (some ⟨F,6,none⟩)) rfl (by kernel_rfl) (by kernel_rfl) (by kernel_rfl) (fun _ _ _ h=>h) (Or.inl ⟨by rfl,fun Xw hSW=>by go_simp⟩) hHeld ?_
     simp only [Act.put,List.setIfInBounds_toArray,List.set_cons_zero,List.set_cons_succ]
     refine wpAnyH_take (i:=6) (oi:=⟨some 105,_,_,_,_,_⟩) (v:=.agg #[.int .u8 0,.int .u8 0]) rfl (by kernel_rfl) (by kernel_rfl) (by kernel_rfl) (fun _ _ _ h=>h) (Or.inl ⟨by rfl,fun Xw hSW=>by have b0:=hSW.cell (i:=0) rfl; have b1:=hSW.cell (i:=1) rfl; go_simp⟩) hHeld ?_
     simp only [Act.put,List.setIfInBounds_toArray,List.set_cons_zero,List.set_cons_succ]
     have c8:W.cell? ⟨F,6,none⟩ = some (.slice A1 j cA):=HC8F.out
     have HNCF:=Lib.hid (show F ≠ wr.heap.size from fun e=>by have:=HFM.out.blk.lt; have e2:F < wr.heap.size:=this; omega)
     refine wpAnyH_ready (rs:=[5,7]) (by kernel_rfl) (by simp) ?_
     refine AllReadyH.cons (o:=⟨some 104,_,_,_,_,_⟩) rfl (fun K hK=>?_) (AllReadyH.cons (o:=⟨some 106,_,_,_,_,_⟩) rfl (fun K hK=>?_) AllReadyH.nil)
     ·go_simp
      refine hK.out _ _ (hHeld) (fun hHeld=>?_)
      clear hK K
      refine wpAnyH_ready (rs:=[7]) (by kernel_rfl) (by simp) ?_
      refine AllReadyH.cons (o:=⟨some 106,_,_,_,_,_⟩) rfl (fun K hK=>?_) AllReadyH.nil
      go_simp
      refine hK.out _ _ (by have q:=HC.out; (repeat' (first | (with_reducible exact q) | (with_reducible refine BlkP.Blk.drew ?_) | (with_reducible refine BlkP.Blk.drewN ?_ _) | (with_reducible refine BlkP.Blk.setAt (us:=?_) (by first | omega | (simp; done) | (simp; omega)) rfl ?_ ?_) | (with_reducible refine BlkP.Blk.otherAt ?_ (by first | omega | (simp; done) | (simp; omega))) | (with_reducible refine BlkP.Blk.newA' (by first | omega | (simp; done) | (simp; omega)) rfl) | (with_reducible refine BlkP.Blk.alloc ?_ _) | (exact rfl)))) (fun hHeld=>?_)
      clear hK K
      refine wpAnyH_ready (rs:=[8]) (by kernel_rfl) (by simp) ?_
      refine AllReadyH.cons (o:=⟨some 107,_,_,_,_,_⟩) rfl (fun K hK=>?_) AllReadyH.nil
      refine step_pushC (w0:=W.drew) (y:=(0,0)) (v:=.slice A1 j cA) (l:=madeC cl j) rfl (.tmp 104) (.tmp 106) rfl rfl rfl rfl HAK.out rfl HLEN.out (by omega) (Nat.zero_le _) ?_
      intro g c6 w6 hp
      have HPU:=Lib.hid hp
      have f1:Fr (fun k=>(Value.slice A1 j cA).ownBlock = some k) W.drew w6:=Fr.grown hp.2.1 (fun i e=>e)
      have hb6:Blk w6 F TW (fcells (fJ F (lx,ly,lz) X Y Z (.slice A1 j cA) (madeC cl j))):=f1.blk HFM2.out.blk HNF.out
      have HB6:=Lib.hid (show Blk w6 wr.heap.size TC [.int .u8 0,.int .u8 0] from f1.blk HC.out HNC.out)
      have c6':w6.cell? ⟨F,6,none⟩ = some (.slice A1 j cA):=hb6.cell (i:=6) rfl
      have z6:=hb6.frozen 6
      clear hp f1 hb6
      refine hK.out _ _ (HB6.out) (fun hHeld=>?_)
      clear hK K
      refine wpAnyH_take (i:=9) (oi:=⟨some 108,_,_,_,_,_⟩) (v:=.pointer (some ⟨F,0,none⟩)) rfl (by kernel_rfl) (by kernel_rfl) (by kernel_rfl) (fun _ _ _ h=>h) (Or.inl ⟨by rfl,fun Xw hSW=>by go_simp⟩) hHeld ?_
      simp only [Act.put,List.setIfInBounds_toArray,List.set_cons_zero,List.set_cons_succ]
      refine wpAnyH_take (i:=10) (oi:=⟨some 109,_,_,_,_,_⟩) (v:=.pointer (some ⟨F,3,none⟩)) rfl (by kernel_rfl) (by kernel_rfl) (by kernel_rfl) (fun _ _ _ h=>h) (Or.inl ⟨by rfl,fun Xw hSW=>by go_simp⟩) hHeld ?_
      simp only [Act.put,List.setIfInBounds_toArray,List.set_cons_zero,List.set_cons_succ]
      refine wpAnyH_take (i:=11) (oi:=⟨some 110,_,_,_,_,_⟩) (v:=.pointer (some ⟨F,6,none⟩)) rfl (by kernel_rfl) (by kernel_rfl) (by kernel_rfl) (fun _ _ _ h=>h) (Or.inl ⟨by rfl,fun Xw hSW=>by go_simp⟩) hHeld ?_
      simp only [Act.put,List.setIfInBounds_toArray,List.set_cons_zero,List.set_cons_succ]
      refine wpAnyH_ready (rs:=[12]) (by kernel_rfl) (by simp) ?_
      refine AllReadyH.cons (o:=⟨none,_,_,_,_,_⟩) rfl (fun K hK=>?_) AllReadyH.nil
      go_simp
      refine hK.out _ _ (by have q:=HB6.out; have e:=HFL.out; have e2:=HNCF.out; (repeat' (first | (with_reducible exact q) | (with_reducible refine BlkP.Blk.drew ?_) | (with_reducible refine BlkP.Blk.drewN ?_ _) | (with_reducible refine BlkP.Blk.setAt (us:=?_) (by first | omega | (simp; done) | (simp; omega)) rfl ?_ ?_) | (with_reducible refine BlkP.Blk.otherAt ?_ (by first | omega | (simp; done) | (simp; omega))) | (with_reducible refine BlkP.Blk.newA' (by first | omega | (simp; done) | (simp; omega)) rfl) | (with_reducible refine BlkP.Blk.alloc ?_ _) | (exact rfl)))) (fun hHeld=>?_)
      clear hK K
      refine wpAnyH_done (by kernel_rfl) ?_ _
      refine NoPanic.normal ?_
      clear hHeld c6' z6
      have hpc:=FldM.pushC (w0:=W) HFM2.out (y:=(0,0)) ⟨HPU.out.1,⟨HPU.out.2.1.os,HPU.out.2.1.tape,HPU.out.2.1.output,HPU.out.2.1.size,HPU.out.2.1.block⟩,HPU.out.2.2⟩
      have HPC:=Lib.hid hpc
      clear hpc
      go_wp2_with fail
      go_roundw
      case rel =>
       refine ⟨j + 1,.slice (some ⟨g,0,none⟩) (j + 1) c6,by first | rfl | rw [HWR.out] | (congr 1; omega),by omega,?_,fun k hk=>?_,HBW.out.trans ?_⟩
       ·rw [madeC_next,HPK.out]
        exact HPC.out.1
       ·have hk':g = k:=by simpa [Value.ownBlock] using hk
        subst hk'
        rcases HPU.out.2.2 with q | q
        ·exact HNEW.out g q
        ·have q2:W.heap.size≤g:=q
         have:=HBW.out.size
         omega
       ·refine (HPC.out.2.toBelow (B:=w.heap.size) HBW.out.size (fun i hi=>?_))
        rcases hi with e | e
        ·have e':i = F:=e
         have:=HFE.out
         omega
        ·exact HNEW.out i e
      case measure =>
       simp only [intOf]
       omega
     ·go_simp
      refine hK.out _ _ (by have q:=HC.out; (repeat' (first | (with_reducible exact q) | (with_reducible refine BlkP.Blk.drew ?_) | (with_reducible refine BlkP.Blk.drewN ?_ _) | (with_reducible refine BlkP.Blk.setAt (us:=?_) (by first | omega | (simp; done) | (simp; omega)) rfl ?_ ?_) | (with_reducible refine BlkP.Blk.otherAt ?_ (by first | omega | (simp; done) | (simp; omega))) | (with_reducible refine BlkP.Blk.newA' (by first | omega | (simp; done) | (simp; omega)) rfl) | (with_reducible refine BlkP.Blk.alloc ?_ _) | (exact rfl)))) (fun hHeld=>?_)
      clear hK K
      have c8':(W.alloc (.cells #[.int .u8 0,.int .u8 0] TC)).cell? ⟨F,6,none⟩ = some (.slice A1 j cA):=by have q:=HC8F.out; have hl:=HFL.out; (repeat' (first | (with_reducible assumption) | (with_reducible refine HeldP.c_drew ?_) | (with_reducible refine HeldP.c_drewN ?_) | (with_reducible refine HeldP.c_same (by omega) ?_) | (with_reducible refine HeldP.c_other ?_ ?_) | (with_reducible refine HeldP.c_new (by first | omega | (simp; done) | (simp; omega)) ?_) | (with_reducible refine HeldP.c_alloc ?_ ?_) | (with_reducible refine HeldP.e_drew ?_) | (with_reducible refine HeldP.e_drewN ?_) | (with_reducible refine HeldP.e_set ?_) | (with_reducible refine HeldP.e_new (by first | omega | (simp; done) | (simp; omega)) ⟨_,rfl⟩) | (with_reducible refine HeldP.e_alloc ?_ ?_) | (with_reducible refine HeldP.f_drew ?_) | (with_reducible refine HeldP.f_drewN ?_) | (with_reducible refine HeldP.f_set ?_) | (with_reducible refine HeldP.f_new (by first | omega | (simp; done) | (simp; omega))) | (with_reducible refine HeldP.f_alloc ?_ ?_) | (with_reducible refine HeldP.s_drew ?_) | (with_reducible refine HeldP.s_drewN ?_) | (with_reducible refine HeldP.s_set ?_) | (with_reducible refine HeldP.s_new (by first | omega | (simp; done) | (simp; omega))) | (with_reducible refine HeldP.s_alloc ?_) | (with_reducible exact ⟨_,by assumption⟩) | omega | (intro e; simp at e; done) | (intro e; simp at e; omega) | (exact rfl) | (simp; done) | (simp; omega)))
      refine wpAnyH_ready (rs:=[5]) (by kernel_rfl) (by simp) ?_
      refine AllReadyH.cons (o:=⟨some 104,_,_,_,_,_⟩) rfl (fun K hK=>?_) AllReadyH.nil
      go_simp
      refine hK.out _ _ (hHeld) (fun hHeld=>?_)
      clear hK K
      refine wpAnyH_ready (rs:=[8]) (by kernel_rfl) (by simp) ?_
      refine AllReadyH.cons (o:=⟨some 107,_,_,_,_,_⟩) rfl (fun K hK=>?_) AllReadyH.nil
      refine step_pushC (w0:=W.drew) (y:=(0,0)) (v:=.slice A1 j cA) (l:=madeC cl j) rfl (.tmp 104) (.tmp 106) rfl rfl rfl rfl HAK.out rfl HLEN.out (by omega) (Nat.zero_le _) ?_
      intro g c6 w6 hp
      have HPU:=Lib.hid hp
      have f1:Fr (fun k=>(Value.slice A1 j cA).ownBlock = some k) W.drew w6:=Fr.grown hp.2.1 (fun i e=>e)
      have hb6:Blk w6 F TW (fcells (fJ F (lx,ly,lz) X Y Z (.slice A1 j cA) (madeC cl j))):=f1.blk HFM2.out.blk HNF.out
      have HB6:=Lib.hid (show Blk w6 wr.heap.size TC [.int .u8 0,.int .u8 0] from f1.blk HC.out HNC.out)
      have c6':w6.cell? ⟨F,6,none⟩ = some (.slice A1 j cA):=hb6.cell (i:=6) rfl
      have z6:=hb6.frozen 6
      clear hp f1 hb6
      refine hK.out _ _ (HB6.out) (fun hHeld=>?_)
      clear hK K
      refine wpAnyH_take (i:=9) (oi:=⟨some 108,_,_,_,_,_⟩) (v:=.pointer (some ⟨F,0,none⟩)) rfl (by kernel_rfl) (by kernel_rfl) (by kernel_rfl) (fun _ _ _ h=>h) (Or.inl ⟨by rfl,fun Xw hSW=>by go_simp⟩) hHeld ?_
      simp only [Act.put,List.setIfInBounds_toArray,List.set_cons_zero,List.set_cons_succ]
      refine wpAnyH_take (i:=10) (oi:=⟨some 109,_,_,_,_,_⟩) (v:=.pointer (some ⟨F,3,none⟩)) rfl (by kernel_rfl) (by kernel_rfl) (by kernel_rfl) (fun _ _ _ h=>h) (Or.inl ⟨by rfl,fun Xw hSW=>by go_simp⟩) hHeld ?_
      simp only [Act.put,List.setIfInBounds_toArray,List.set_cons_zero,List.set_cons_succ]
      refine wpAnyH_take (i:=11) (oi:=⟨some 110,_,_,_,_,_⟩) (v:=.pointer (some ⟨F,6,none⟩)) rfl (by kernel_rfl) (by kernel_rfl) (by kernel_rfl) (fun _ _ _ h=>h) (Or.inl ⟨by rfl,fun Xw hSW=>by go_simp⟩) hHeld ?_
      simp only [Act.put,List.setIfInBounds_toArray,List.set_cons_zero,List.set_cons_succ]
      refine wpAnyH_ready (rs:=[12]) (by kernel_rfl) (by simp) ?_
      refine AllReadyH.cons (o:=⟨none,_,_,_,_,_⟩) rfl (fun K hK=>?_) AllReadyH.nil
      go_simp
      refine hK.out _ _ (by have q:=HB6.out; have e:=HFL.out; have e2:=HNCF.out; (repeat' (first | (with_reducible exact q) | (with_reducible refine BlkP.Blk.drew ?_) | (with_reducible refine BlkP.Blk.drewN ?_ _) | (with_reducible refine BlkP.Blk.setAt (us:=?_) (by first | omega | (simp; done) | (simp; omega)) rfl ?_ ?_) | (with_reducible refine BlkP.Blk.otherAt ?_ (by first | omega | (simp; done) | (simp; omega))) | (with_reducible refine BlkP.Blk.newA' (by first | omega | (simp; done) | (simp; omega)) rfl) | (with_reducible refine BlkP.Blk.alloc ?_ _) | (exact rfl)))) (fun hHeld=>?_)
      clear hK K
      refine wpAnyH_done (by kernel_rfl) ?_ _
      refine NoPanic.normal ?_
      clear hHeld c6' z6
      have hpc:=FldM.pushC (w0:=W) HFM2.out (y:=(0,0)) ⟨HPU.out.1,⟨HPU.out.2.1.os,HPU.out.2.1.tape,HPU.out.2.1.output,HPU.out.2.1.size,HPU.out.2.1.block⟩,HPU.out.2.2⟩
      have HPC:=Lib.hid hpc
      clear hpc
      go_wp2_with fail
      go_roundw
      case rel =>
       refine ⟨j + 1,.slice (some ⟨g,0,none⟩) (j + 1) c6,by first | rfl | rw [HWR.out] | (congr 1; omega),by omega,?_,fun k hk=>?_,HBW.out.trans ?_⟩
       ·rw [madeC_next,HPK.out]
        exact HPC.out.1
       ·have hk':g = k:=by simpa [Value.ownBlock] using hk
        subst hk'
        rcases HPU.out.2.2 with q | q
        ·exact HNEW.out g q
        ·have q2:W.heap.size≤g:=q
         have:=HBW.out.size
         omega
       ·refine (HPC.out.2.toBelow (B:=w.heap.size) HBW.out.size (fun i hi=>?_))
        rcases hi with e | e
        ·have e':i = F:=e
         have:=HFE.out
         omega
        ·exact HNEW.out i e
      case measure =>
       simp only [intOf]
       omega
  ·have hje:j = n:=by omega
   have hjI:¬ (j:Int) < n:=by omega
   have HJE:=Lib.hid hje
   clear hje
   go_wp2_with fail
   refine wp_region_noPanic ?_
   refine wp_region_held_drew (S:=fun Xw=>Blk Xw F TW (fcells (fJ F (lx,ly,lz) X Y Z (.slice A1 j cA) (madeC cl j)))) (by kernel_rfl) (HFB.out) (fun hHeld=>?_)
   refine wpAnyH_take (i:=0) (oi:=⟨some 57,_,_,_,_,_⟩) (v:=.int .i64 (j:Int)) rfl (by kernel_rfl) (by kernel_rfl) (by kernel_rfl) (fun _ _ _ h=>h) (Or.inl ⟨by rfl,fun Xw hSW=>by go_simp⟩) hHeld ?_
   simp only [Act.put,List.setIfInBounds_toArray,List.set_cons_zero,List.set_cons_succ]
   refine wpAnyH_take (i:=1) (oi:=⟨some 58,_,_,_,_,_⟩) (v:=.pointer (some ⟨F,0,none⟩)) rfl (by kernel_rfl) (by kernel_rfl) (by kernel_rfl) (fun _ _ _ h=>h) (Or.inl ⟨by rfl,fun Xw hSW=>by go_simp⟩) hHeld ?_
   simp only [Act.put,List.setIfInBounds_toArray,List.set_cons_zero,List.set_cons_succ]
   refine wpAnyH_take (i:=2) (oi:=⟨some 59,_,_,_,_,_⟩) (v:=.pointer (some ⟨F,0,none⟩)) rfl (by kernel_rfl) (by kernel_rfl) (by kernel_rfl) (fun _ _ _ h=>h) (Or.inl ⟨by rfl,fun Xw hSW=>by go_simp⟩) hHeld ?_
   simp only [Act.put,List.setIfInBounds_toArray,List.set_cons_zero,List.set_cons_succ]
   refine wpAnyH_take (i:=3) (oi:=⟨some 60,_,_,_,_,_⟩) (v:=.pointer (some ⟨F,3,none⟩)) rfl (by kernel_rfl) (by kernel_rfl) (by kernel_rfl) (fun _ _ _ h=>h) (Or.inl ⟨by rfl,fun Xw hSW=>by go_simp⟩) hHeld ?_
   simp only [Act.put,List.setIfInBounds_toArray,List.set_cons_zero,List.set_cons_succ]
   refine wpAnyH_take (i:=4) (oi:=⟨some 61,_,_,_,_,_⟩) (v:=.pointer (some ⟨F,3,none⟩)) rfl (by kernel_rfl) (by kernel_rfl) (by kernel_rfl) (fun _ _ _ h=>h) (Or.inl ⟨by rfl,fun Xw hSW=>by go_simp⟩) hHeld ?_
   simp only [Act.put,List.setIfInBounds_toArray,List.set_cons_zero,List.set_cons_succ]
   refine wpAnyH_take (i:=5) (oi:=⟨some 62,_,_,_,_,_⟩) (v:=.int .i64 (X:Int)) rfl (by kernel_rfl) (by kernel_rfl) (by kernel_rfl) (fun _ _ _ h=>h) (Or.inl ⟨by rfl,fun Xw hSW=>by have c0:Xw.cell? ⟨F,3,none⟩ = some (.int .i64 (X:Int)):=hSW.cell (i:=3) rfl; go_simp⟩) hHeld ?_
   simp only [Act.put,List.setIfInBounds_toArray,List.set_cons_zero,List.set_cons_succ]
   refine wpAnyH_take (i:=6) (oi:=⟨some 63,_,_,_,_,_⟩) (v:=.pointer (some ⟨F,0,none⟩)) rfl (by kernel_rfl) (by kernel_rfl) (by kernel_rfl) (fun _ _ _ h=>h) (Or.inl ⟨by rfl,fun Xw hSW=>by go_simp⟩) hHeld ?_
   simp only [Act.put,List.setIfInBounds_toArray,List.set_cons_zero,List.set_cons_succ]
   refine wpAnyH_take (i:=7) (oi:=⟨some 64,_,_,_,_,_⟩) (v:=.pointer (some ⟨F,0,none⟩)) rfl (by kernel_rfl) (by kernel_rfl) (by kernel_rfl) (fun _ _ _ h=>h) (Or.inl ⟨by rfl,fun Xw hSW=>by go_simp⟩) hHeld ?_
   simp only [Act.put,List.setIfInBounds_toArray,List.set_cons_zero,List.set_cons_succ]
   refine wpAnyH_take (i:=8) (oi:=⟨some 65,_,_,_,_,_⟩) (v:=.pointer (some ⟨F,3,none⟩)) rfl (by kernel_rfl) (by kernel_rfl) (by kernel_rfl) (fun _ _ _ h=>h) (Or.inl ⟨by rfl,fun Xw hSW=>by go_simp⟩) hHeld ?_
   simp only [Act.put,List.setIfInBounds_toArray,List.set_cons_zero,List.set_cons_succ]
   refine wpAnyH_take (i:=9) (oi:=⟨some 66,_,_,_,_,_⟩) (v:=.pointer (some ⟨F,4,none⟩)) rfl (by kernel_rfl) (by kernel_rfl) (by kernel_rfl) (fun _ _ _ h=>h) (Or.inl ⟨by rfl,fun Xw hSW=>by go_simp⟩) hHeld ?_
   simp only [Act.put,List.setIfInBounds_toArray,List.set_cons_zero,List.set_cons_succ]
   refine wpAnyH_take (i:=10) (oi:=⟨some 67,_,_,_,_,_⟩) (v:=.int .i64 (Y:Int)) rfl (by kernel_rfl) (by kernel_rfl) (by kernel_rfl) (fun _ _ _ h=>h) (Or.inl ⟨by rfl,fun Xw hSW=>by have c1:Xw.cell? ⟨F,4,none⟩ = some (.int .i64 (Y:Int)):=hSW.cell (i:=4) rfl; go_simp⟩) hHeld ?_
   simp only [Act.put,List.setIfInBounds_toArray,List.set_cons_zero,List.set_cons_succ]
   refine wpAnyH_take (i:=11) (oi:=⟨some 68,_,_,_,_,_⟩) (v:=.int .i64 (xy:Int)) rfl (by kernel_rfl) (by kernel_rfl) (by kernel_rfl) (fun _ _ _ h=>h) (Or.inl ⟨by rfl,fun Xw hSW=>by go_simp; exact HXY.out⟩) hHeld ?_
   simp only [Act.put,List.setIfInBounds_toArray,List.set_cons_zero,List.set_cons_succ]
   refine wpAnyH_take (i:=12) (oi:=⟨some 69,_,_,_,_,_⟩) (v:=.pointer (some ⟨F,0,none⟩)) rfl (by kernel_rfl) (by kernel_rfl) (by kernel_rfl) (fun _ _ _ h=>h) (Or.inl ⟨by rfl,fun Xw hSW=>by go_simp⟩) hHeld ?_
   simp only [Act.put,List.setIfInBounds_toArray,List.set_cons_zero,List.set_cons_succ]
   refine wpAnyH_take (i:=13) (oi:=⟨some 70,_,_,_,_,_⟩) (v:=.pointer (some ⟨F,0,none⟩)) rfl (by kernel_rfl) (by kernel_rfl) (by kernel_rfl) (fun _ _ _ h=>h) (Or.inl ⟨by rfl,fun Xw hSW=>by go_simp⟩) hHeld ?_
   simp only [Act.put,List.setIfInBounds_toArray,List.set_cons_zero,List.set_cons_succ]
   refine wpAnyH_take (i:=14) (oi:=⟨some 71,_,_,_,_,_⟩) (v:=.pointer (some ⟨F,3,none⟩)) rfl (by kernel_rfl) (by kernel_rfl) (by kernel_rfl) (fun _ _ _ h=>h) (Or.inl ⟨by rfl,fun Xw hSW=>by go_simp⟩) hHeld ?_
   simp only [Act.put,List.setIfInBounds_toArray,List.set_cons_zero,List.set_cons_succ]
   refine wpAnyH_take (i:=15) (oi:=⟨some 72,_,_,_,_,_⟩) (v:=.pointer (some ⟨F,5,none⟩)) rfl (by kernel_rfl) (by kernel_rfl) (by kernel_rfl) (fun _ _ _ h=>h) (Or.inl ⟨by rfl,fun Xw hSW=>by go_simp⟩) hHeld ?_
   simp only [Act.put,List.setIfInBounds_toArray,List.set_cons_zero,List.set_cons_succ]
   refine wpAnyH_take (i:=16) (oi:=⟨some 73,_,_,_,_,_⟩) (v:=.int .i64 (Z:Int)) rfl (by kernel_rfl) (by kernel_rfl) (by kernel_rfl) (fun _ _ _ h=>h) (Or.inl ⟨by rfl,fun Xw hSW=>by have c2:Xw.cell? ⟨F,5,none⟩ = some (.int .i64 (Z:Int)):=hSW.cell (i:=5) rfl; go_simp⟩) hHeld ?_
   simp only [Act.put,List.setIfInBounds_toArray,List.set_cons_zero,List.set_cons_succ]
   refine wpAnyH_take (i:=17) (oi:=⟨some 74,_,_,_,_,_⟩) (v:=.int .i64 (n:Int)) rfl (by kernel_rfl) (by kernel_rfl) (by kernel_rfl) (fun _ _ _ h=>h) (Or.inl ⟨by rfl,fun Xw hSW=>by go_simp; exact HXZ.out⟩) hHeld ?_
   simp only [Act.put,List.setIfInBounds_toArray,List.set_cons_zero,List.set_cons_succ]
   refine wpAnyH_take (i:=18) (oi:=⟨some 75,_,_,_,_,_⟩) (v:=.bool false) rfl (by kernel_rfl) (by kernel_rfl) (by kernel_rfl) (fun _ _ _ h=>h) (Or.inl ⟨by rfl,fun Xw hSW=>by go_simp⟩) hHeld ?_
   simp only [Act.put,List.setIfInBounds_toArray,List.set_cons_zero,List.set_cons_succ]
   refine wpAnyH_done (by kernel_rfl) ?_ _
   refine NoPanic.normal ?_
   clear hHeld
   have hfc:FldC (fJ F (lx,ly,lz) X Y Z (.slice A1 j cA) (madeC cl j)):=⟨hXb,hYb,hZb,by have:=HBX.out; show -1048576≤lx∧lx + (X:Int)≤1048576; omega,by have:=HBY.out; show 0≤ly∧ly + (Y:Int)≤64; omega,by have:=HBZ.out; show -1048576≤lz∧lz + (Z:Int)≤1048576; omega,by show (madeC cl j).length = X * Y * Z; rw [madeC_len,HN.out,HJE.out],fun c hc=>by
    obtain ⟨i,_,rfl⟩:=List.mem_map.1 hc
    exact pickC_8 HC8.out i⟩
   have hrt:=right_c (HFM.out.below (Below.refl _ _).drew) hfc
   have HFC:=Lib.hid hfc
   have HRT:=Lib.hid (show Calls Tryd.prog 18 #[.pointer (some ⟨F,0,none⟩)] wr.drew (OwnL wr.drew (rightL (fJ F (lx,ly,lz) X Y Z (.slice A1 j cA) (madeC cl j)))) from hrt)
   clear hfc hrt
   go_wp2_with fail
   go_at_call 18
   refine HRT.out.mono ?_
   rintro e W5 ⟨v,rfl,ho,hb5⟩
   obtain ⟨A5,c5,rfl,_,_,_⟩:=ho.form rfl
   have HO5:=Lib.hid ho
   have HF5:=Lib.hid ((HFM.out.below (Below.refl _ _).drew).below hb5)
   have HB5:=Lib.hid hb5
   have b7:W5.cell? ⟨F,7,none⟩ = some (.slice none 0 0):=HF5.out.blk.cell (i:=7) rfl
   have z7:W5.frozen? ⟨F,7,none⟩ = false:=HF5.out.blk.frozen 7
   clear ho hb5
   go_wp2_with fail
   go_ret
   have hfin:=HF5.out.setLs HO5.out
   have hbz:Below w.heap.size w W5:=HBR.out.trans (((Below.refl wr.heap.size wr).drew.trans HB5.out).mono HBR.out.size)
   refine ⟨{ fJ F (lx,ly,lz) X Y Z (.slice A1 j cA) (madeC cl j) with vL:=.slice A5 (rightL (fJ F (lx,ly,lz) X Y Z (.slice A1 j cA) (madeC cl j))).length c5,ls:=rightL (fJ F (lx,ly,lz) X Y Z (.slice A1 j cA) (madeC cl j)) },rfl,hfin,⟨HFC.out.x,HFC.out.y,HFC.out.z,HFC.out.lx,HFC.out.ly,HFC.out.lz,HFC.out.cs,HFC.out.c8⟩,HX.out,HY.out,HZ.out,?_,?_,rfl,rfl,rfl,rfl,fun k hk=>?_,⟨rfl,rfl⟩,?_⟩
   ·show (lx,ly,lz) = _
    rw [← HLX.out,← HLY.out,← HLZ.out]
    rfl
   ·show madeC cl j = madeC cl (X * Y * Z)
    rw [HN.out,HJE.out]
   ·have:=HFE.out
    rcases hk with e | e | e
    ·have e':k = F:=e
     omega
    ·exact HNEW.out k e
    ·have h1:=(HO5.out.ge k e).1
     have h2:=HBR.out.size
     have h3:wr.drew.heap.size = wr.heap.size:=rfl
     omega
   ·have:=HFE.out
    refine Below.setCell hbz ?_ _
    show w.heap.size≤F
    omega
end FloodW
end Go.Proofs.YtpimkdaikoclnaaDoor
