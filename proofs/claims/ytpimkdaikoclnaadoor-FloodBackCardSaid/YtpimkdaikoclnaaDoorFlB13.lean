import Derived.Deep.RegionHeld3
import Derived.Test.YtpimkdaikoclnaaDoorFlB12
import Derived.Test.YtpimkdaikoclnaaDoorFlB1
import Derived.Test.YtpimkdaikoclnaaDoorFlB11
namespace Go.Proofs.YtpimkdaikoclnaaDoor
open Go.RowKit
set_option linter.unusedVariables false
set_option linter.unusedSimpArgs false
namespace FloodW
open BlkP RowG GlowW FloodP
def fJ (F:Nat) (lo:V) (X Y Z:Nat) (vC:Value) (cs:List (Nat × Nat)):Fld:={ F:=F,lo:=lo,X:=X,Y:=Y,Z:=Z,vC:=vC,vL:=.slice none 0 0,vA:=.slice none 0 0,vT:=.slice none 0 0,cs:=cs,ls:=[],ak:=[],ts:=[],other:=0 }
theorem fJ_mem {w:World} {F:Nat} {lo:V} {X Y Z:Nat} {vC:Value} {cs:List (Nat × Nat)} (hb:Blk w F TW (fcells (fJ F lo X Y Z vC cs))) (hc:RowG.Own enc2 TC w 0 vC cs):FldM w (fJ F lo X Y Z vC cs):=⟨hb,hc,Own.nil _ _ _ _,Own.nil _ _ _ _,Own.nil _ _ _ _,fun g h=>by cases h⟩
theorem FldM.pushC {f:Fld} {w0 w6:World} {y:Nat × Nat} {n g c:Nat} (h:FldM w0 f) (hp:Pushed enc2 TC w0 0 f.vC f.cs y n g c w6) :
  FldM (w6.setCell ⟨f.F,6,none⟩ (.slice (some ⟨g,0,none⟩) n c)) { f with vC:=.slice (some ⟨g,0,none⟩) n c,cs:=f.cs ++ [y] }∧Fr (fun k=>k = f.F ∨ f.vC.ownBlock = some k) w0 (w6.setCell ⟨f.F,6,none⟩ (.slice (some ⟨g,0,none⟩) n c)):=by
 obtain ⟨h1,h2,h3⟩:=hp
 have f1:Fr (fun k=>f.vC.ownBlock = some k) w0 w6:=Fr.grown h2 (fun i e=>e)
 have nF:f.vC.ownBlock ≠ some f.F:=fun e=>by
  obtain ⟨us,hu⟩:=own_cells h.cs e
  exact Blk.ne hu h.blk (by decide) rfl
 have ne:∀ {α:Type} {e:Enc α} {E:TypeId} {v:Value} {l:List α},RowG.Own e E w0 0 v l→E ≠ TC→∀ k,v.ownBlock = some k→f.vC.ownBlock ≠ some k:=fun ho hE k e e2=>by
  obtain ⟨us,hu⟩:=own_cells h.cs e2
  obtain ⟨us2,hu2⟩:=own_cells ho e
  exact Blk.ne hu2 hu hE rfl
 have f2:Fr (fun k=>k = f.F) w6 (w6.setCell ⟨f.F,6,none⟩ (.slice (some ⟨g,0,none⟩) n c)):=Fr.set _ _ _ _ rfl
 have key:∀ {α:Type} {e:Enc α} {E:TypeId} {v:Value} {l:List α},RowG.Own e E w6 0 v l→E ≠ TW→RowG.Own e E (w6.setCell ⟨f.F,6,none⟩ (.slice (some ⟨g,0,none⟩) n c)) 0 v l:=fun ho hE=>f2.own ho (fun k e e2=>by
  obtain ⟨us,hu⟩:=own_cells ho e
  rw [e2] at hu
  exact Blk.ne hu (f1.blk h.blk nF) hE rfl)
 refine ⟨⟨?_,key h1 (by decide),key (f1.own h.ls (ne h.ls (by decide))) (by decide),key (f1.own h.ak (ne h.ak (by decide))) (by decide),key (f1.own h.ts (ne h.ts (by decide))) (by decide),h.dj⟩,(f1.mono (fun i e=>.inr e)).trans f2 (fun i e=>.inl (.inl e))⟩
 exact (f1.blk h.blk nF).set 6 _
theorem FldM.setLs {f:Fld} {w:World} {B:Nat} {v:Value} {L:List (Nat × Nat)} (h:FldM w f) (hv:RowG.Own enc2 TL w B v L):FldM (w.setCell ⟨f.F,7,none⟩ v) { f with vL:=v,ls:=L }:=by
 have f2:Fr (fun k=>k = f.F) w (w.setCell ⟨f.F,7,none⟩ v):=Fr.set _ _ _ _ rfl
 have key:∀ {α:Type} {e:Enc α} {E:TypeId} {u:Value} {l:List α} {B:Nat},RowG.Own e E w B u l→E ≠ TW→RowG.Own e E (w.setCell ⟨f.F,7,none⟩ v) 0 u l:=fun ho hE=>(f2.own ho (fun k e e2=>by
  obtain ⟨us,hu⟩:=own_cells ho e
  rw [e2] at hu
  exact Blk.ne hu h.blk hE rfl)).mono (Nat.zero_le _)
 exact ⟨h.blk.set 7 _,key h.cs (by decide),key hv (by decide),key h.ak (by decide),key h.ts (by decide),h.dj⟩
def pickC (cl:List (Nat × Nat)) (i:Nat):Nat × Nat:=if KindP.may (cl.getD (i % cl.length) (0,0)).1 (cl.getD (i % cl.length) (0,0)).2 = true then cl.getD (i % cl.length) (0,0) else (0,0)
def madeC (cl:List (Nat × Nat)) (n:Nat):List (Nat × Nat):=(List.range n).map (pickC cl)
theorem madeC_next (cl:List (Nat × Nat)) (n:Nat):madeC cl (n + 1) = madeC cl n ++ [pickC cl n]:=by simp [madeC,List.range_succ]
theorem madeC_len (cl:List (Nat × Nat)) (n:Nat):(madeC cl n).length = n:=by simp [madeC]
theorem pickC_8 {cl:List (Nat × Nat)} (h:∀ c ∈ cl,c.1 < 256∧c.2 < 256) (i:Nat):(pickC cl i).1 < 256∧(pickC cl i).2 < 256:=by
 unfold pickC
 split
 ·by_cases hi:i % cl.length < cl.length
  ·rw [show cl.getD (i % cl.length) (0,0) = cl[i % cl.length] by simp [List.getD,hi]]
   exact h _ (List.getElem_mem hi)
  ·rw [show cl.getD (i % cl.length) (0,0) = (0,0) by simp [List.getD,List.getElem?_eq_none (Nat.le_of_not_lt hi)]]
   exact ⟨by decide,by decide⟩
 ·exact ⟨by decide,by decide⟩
theorem pickC_nil (i:Nat):pickC [] i = (0,0):=by
 unfold pickC
 split <;> rfl
theorem pickC_at {cl:List (Nat × Nat)} {i:Nat} {x:Nat × Nat} (h:cl[i % cl.length]? = some x):pickC cl i = if KindP.may x.1 x.2 = true then x else (0,0):=by
 have e:cl.getD (i % cl.length) (0,0) = x:=by simp [List.getD,h]
 unfold pickC
 rw [e]
structure Mk (w:World) (x y z:Int) (p:V) (cl:List (Nat × Nat)) (f:Fld) (w':World):Prop where
 fld:FldM w' f
 fc:FldC f
 x:(f.X:Int) = 1 + x % 8
 y:(f.Y:Int) = 1 + y % 16
 z:(f.Z:Int) = 1 + z % 8
 lo:f.lo = (fitI p.1 (-1048576) (1048576 - f.X),fitI p.2.1 0 (64 - f.Y),fitI p.2.2 (-1048576) (1048576 - f.Z))
 cs:f.cs = madeC cl (f.X * f.Y * f.Z)
 ls:f.ls = rightL f
 ak:f.ak = []
 ts:f.ts = []
 other:f.other = 0
 new:∀ k,k = f.F ∨ f.vC.ownBlock = some k ∨ f.vL.ownBlock = some k→w.heap.size≤k
 nil:f.vA = .slice none 0 0∧f.vT = .slice none 0 0
 bel:Below w.heap.size w w'
def MadeP (w:World) (x y z:Int) (p:V) (cl:List (Nat × Nat)) (e:Ending) (w':World):Prop:=∃ f,e = .returned (.pointer (some ⟨f.F,0,none⟩))∧Mk w x y z p cl f w'
set_option maxRecDepth 100000 in
set_option maxHeartbeats 16000000 in
theorem made_c {w:World} {p:V} {x y z:Int} {A:Option Addr} {m c:Nat} {cl:List (Nat × Nat)} (hR:Rd enc2 w (.slice A m c) cl) (hm:cl.length = m) (hc8:∀ c ∈ cl,c.1 < 256∧c.2 < 256) :
  Calls Tryd.prog 10 #[.agg #[.int .i64 p.1,.int .i64 p.2.1,.int .i64 p.2.2],.int .i64 x,.int .i64 y,.int .i64 z,.slice A m c] w (MadeP w x y z p cl):=by
 have HR:=Lib.hid hR
 have HM:=Lib.hid hm
 have HC8:=Lib.hid hc8
 obtain ⟨a,ha,ha8⟩:∃ a:Nat,x % 8 = a∧a < 8:=⟨(x % 8).toNat,by omega,by omega⟩
 obtain ⟨b,hb,hb8⟩:∃ b:Nat,y % 16 = b∧b < 16:=⟨(y % 16).toNat,by omega,by omega⟩
 obtain ⟨d,hd,hd8⟩:∃ d:Nat,z % 8 = d∧d < 8:=⟨(z % 8).toNat,by omega,by omega⟩
 have e7:bits .and .i64 x 7 = (a:Int):=(BitsP.and_mask x 3 (by omega)).trans ha
 have e15:bits .and .i64 y 15 = (b:Int):=(BitsP.and_mask y 4 (by omega)).trans hb
 have f7:bits .and .i64 z 7 = (d:Int):=(BitsP.and_mask z 3 (by omega)).trans hd
 have HXA:=Lib.hid ha
 have HYB:=Lib.hid hb
 have HZD:=Lib.hid hd
 clear hR hm hc8 ha hb hd
 go_enter Tryd.func10,Tryd.ntmps10
 go_wp2_with fail
 obtain ⟨F,hF⟩:∃ F,w.heap.size + 1 = F:=⟨_,rfl⟩
 refine HeldP.wp_named (S:=fun W=>Below w.heap.size w W∧Blk W w.heap.size TP [.int .i64 p.1,.int .i64 p.2.1,.int .i64 p.2.2]∧Blk W (w.heap.size + 1) TW [.int .i64 0,.int .i64 0,.int .i64 0,.int .i64 (1 + (a:Int)),.int .i64 (1 + (b:Int)),.int .i64 (1 + (d:Int)),.slice none 0 0,.slice none 0 0,.slice none 0 0,.slice none 0 0,.int .i64 0]) ⟨by (repeat' (first | (with_reducible exact Below.refl _ _) | (with_reducible refine Below.setCell ?_ (by (first | omega | (simp; done) | (simp; omega))) _) | (with_reducible refine Below.alloc ?_ (by (first | omega | (simp; done) | (simp; omega))) _) | (with_reducible refine Below.drew ?_) | (with_reducible refine below_drewN ?_ _))),by (repeat' (first | (with_reducible refine BlkP.Blk.drew ?_) | (with_reducible refine BlkP.Blk.drewN ?_ _) | (with_reducible refine BlkP.Blk.setAt (us:=?_) (by first | omega | (simp; done) | (simp; omega)) rfl ?_ ?_) | (with_reducible refine BlkP.Blk.otherAt ?_ (by first | omega | (simp; done) | (simp; omega))) | (with_reducible refine BlkP.Blk.newA' (by first | omega | (simp; done) | (simp; omega)) rfl) | (with_reducible refine BlkP.Blk.alloc ?_ _) | (exact rfl))),by (repeat' (first | (with_reducible refine BlkP.Blk.drew ?_) | (with_reducible refine BlkP.Blk.drewN ?_ _) | (with_reducible refine BlkP.Blk.setAt (us:=?_) (by first | omega | (simp; done) | (simp; omega)) rfl ?_ ?_) | (with_reducible refine BlkP.Blk.otherAt ?_ (by first | omega | (simp; done) | (simp; omega))) | (with_reducible refine BlkP.Blk.newA' (by first | omega | (simp; done) | (simp; omega)) rfl) | (with_reducible refine BlkP.Blk.alloc ?_ _) | (exact rfl)))⟩ ?_
 rintro W1 ⟨hb1,hp1,hw1⟩
 rw [hF] at hw1 ⊢
 obtain ⟨X,hX⟩:∃ X:Nat,1 + a = X:=⟨_,rfl⟩
 obtain ⟨Y,hY⟩:∃ Y:Nat,1 + b = Y:=⟨_,rfl⟩
 obtain ⟨Z,hZ⟩:∃ Z:Nat,1 + d = Z:=⟨_,rfl⟩
 rw [show (1:Int) + (a:Int) = (X:Int) by omega,show (1:Int) + (b:Int) = (Y:Int) by omega,show (1:Int) + (d:Int) = (Z:Int) by omega] at hw1
 have HX:=Lib.hid (show (X:Int) = 1 + x % 8 by rw [HXA.out]; omega)
 have HY:=Lib.hid (show (Y:Int) = 1 + y % 16 by rw [HYB.out]; omega)
 have HZ:=Lib.hid (show (Z:Int) = 1 + z % 8 by rw [HZD.out]; omega)
 have hXb:1≤X∧X≤8:=by omega
 have hYb:1≤Y∧Y≤16:=by omega
 have hZb:1≤Z∧Z≤8:=by omega
 obtain ⟨lx,hlx⟩:∃ l,fitI p.1 (-1048576) (1048576 - (X:Int)) = l:=⟨_,rfl⟩
 obtain ⟨ly,hly⟩:∃ l,fitI p.2.1 0 (64 - (Y:Int)) = l:=⟨_,rfl⟩
 obtain ⟨lz,hlz⟩:∃ l,fitI p.2.2 (-1048576) (1048576 - (Z:Int)) = l:=⟨_,rfl⟩
 have HLX:=Lib.hid hlx
 have HLY:=Lib.hid hly
 have HLZ:=Lib.hid hlz
 have HBX:=Lib.hid (hlx ▸ fit_in (n:=p.1) (a:=-1048576) (b:=1048576 - (X:Int)) (by omega))
 have HBY:=Lib.hid (hly ▸ fit_in (n:=p.2.1) (a:=0) (b:=64 - (Y:Int)) (by omega))
 have HBZ:=Lib.hid (hlz ▸ fit_in (n:=p.2.2) (a:=-1048576) (b:=1048576 - (Z:Int)) (by omega))
 have HB1:=Lib.hid hb1
 have HP1:=Lib.hid hp1
 have HW1:=Lib.hid hw1
 have HFE:=Lib.hid hF
 have HPF:=Lib.hid (show w.heap.size ≠ F by omega)
 have WX:=Lib.hid (wrI (a:=1048576 - (X:Int)) (c:=1048576 - (X:Int)) rfl (by omega) (by omega))
 have WY:=Lib.hid (wrI (a:=64 - (Y:Int)) (c:=64 - (Y:Int)) rfl (by omega) (by omega))
 have WZ:=Lib.hid (wrI (a:=1048576 - (Z:Int)) (c:=1048576 - (Z:Int)) rfl (by omega) (by omega))
 clear hX hY hZ hlx hly hlz e7 e15 f7 ha8 hb8 hd8 hb1 hp1 hw1 hF
 refine wp_region_noPanic ?_
 refine wp_region_held_drew (S:=fun Xw=>Blk Xw w.heap.size TP [.int .i64 p.1,.int .i64 p.2.1,.int .i64 p.2.2]∧Xw.cell? ⟨F,3,none⟩ = some (.int .i64 (X:Int))∧Xw.cell? ⟨F,4,none⟩ = some (.int .i64 (Y:Int))∧Xw.cell? ⟨F,5,none⟩ = some (.int .i64 (Z:Int))) (by kernel_rfl) (⟨HP1.out,HW1.out.cell (i:=3) rfl,HW1.out.cell (i:=4) rfl,HW1.out.cell (i:=5) rfl⟩) (fun hHeld=>?_)
 refine wpAnyH_take (i:=0) (oi:=⟨some 26,_,_,_,_,_⟩) (v:=.pointer (some ⟨F,0,none⟩)) rfl (by kernel_rfl) (by kernel_rfl) (by kernel_rfl) (fun _ _ _ h=>h) (Or.inl ⟨by rfl,fun Xw hSW=>by go_simp⟩) hHeld ?_
 simp only [Act.put,List.setIfInBounds_toArray,List.set_cons_zero,List.set_cons_succ]
 refine wpAnyH_take (i:=1) (oi:=⟨some 27,_,_,_,_,_⟩) (v:=.pointer (some ⟨w.heap.size,0,none⟩)) rfl (by kernel_rfl) (by kernel_rfl) (by kernel_rfl) (fun _ _ _ h=>h) (Or.inl ⟨by rfl,fun Xw hSW=>by go_simp⟩) hHeld ?_
 simp only [Act.put,List.setIfInBounds_toArray,List.set_cons_zero,List.set_cons_succ]
 refine wpAnyH_take (i:=2) (oi:=⟨some 28,_,_,_,_,_⟩) (v:=.int .i64 p.1) rfl (by kernel_rfl) (by kernel_rfl) (by kernel_rfl) (fun _ _ _ h=>h) (Or.inl ⟨by rfl,fun Xw hSW=>by have b0:=hSW.1.cell (i:=0) rfl; go_simp⟩) hHeld ?_
 simp only [Act.put,List.setIfInBounds_toArray,List.set_cons_zero,List.set_cons_succ]
 refine wpAnyH_take (i:=3) (oi:=⟨some 29,_,_,_,_,_⟩) (v:=.pointer (some ⟨F,0,none⟩)) rfl (by kernel_rfl) (by kernel_rfl) (by kernel_rfl) (fun _ _ _ h=>h) (Or.inl ⟨by rfl,fun Xw hSW=>by go_simp⟩) hHeld ?_
 simp only [Act.put,List.setIfInBounds_toArray,List.set_cons_zero,List.set_cons_succ]
 refine wpAnyH_take (i:=4) (oi:=⟨some 30,_,_,_,_,_⟩) (v:=.pointer (some ⟨F,0,none⟩)) rfl (by kernel_rfl) (by kernel_rfl) (by kernel_rfl) (fun _ _ _ h=>h) (Or.inl ⟨by rfl,fun Xw hSW=>by go_simp⟩) hHeld ?_
 simp only [Act.put,List.setIfInBounds_toArray,List.set_cons_zero,List.set_cons_succ]
 refine wpAnyH_take (i:=5) (oi:=⟨some 31,_,_,_,_,_⟩) (v:=.pointer (some ⟨F,3,none⟩)) rfl (by kernel_rfl) (by kernel_rfl) (by kernel_rfl) (fun _ _ _ h=>h) (Or.inl ⟨by rfl,fun Xw hSW=>by go_simp⟩) hHeld ?_
 simp only [Act.put,List.setIfInBounds_toArray,List.set_cons_zero,List.set_cons_succ]
 refine wpAnyH_take (i:=6) (oi:=⟨some 32,_,_,_,_,_⟩) (v:=.pointer (some ⟨F,3,none⟩)) rfl (by kernel_rfl) (by kernel_rfl) (by kernel_rfl) (fun _ _ _ h=>h) (Or.inl ⟨by rfl,fun Xw hSW=>by go_simp⟩) hHeld ?_
 simp only [Act.put,List.setIfInBounds_toArray,List.set_cons_zero,List.set_cons_succ]
 refine wpAnyH_take (i:=7) (oi:=⟨some 33,_,_,_,_,_⟩) (v:=.int .i64 (X:Int)) rfl (by kernel_rfl) (by kernel_rfl) (by kernel_rfl) (fun _ _ _ h=>h) (Or.inl ⟨by rfl,fun Xw hSW=>by have c0:=hSW.2.1; go_simp⟩) hHeld ?_
 simp only [Act.put,List.setIfInBounds_toArray,List.set_cons_zero,List.set_cons_succ]
 refine wpAnyH_take (i:=8) (oi:=⟨some 34,_,_,_,_,_⟩) (v:=.int .i64 (1048576 - (X:Int))) rfl (by kernel_rfl) (by kernel_rfl) (by kernel_rfl) (fun _ _ _ h=>h) (Or.inl ⟨by rfl,fun Xw hSW=>by go_simp; exact WX.out⟩) hHeld ?_
 simp only [Act.put,List.setIfInBounds_toArray,List.set_cons_zero,List.set_cons_succ]
 refine wpAnyH_take (i:=10) (oi:=⟨some 36,_,_,_,_,_⟩) (v:=.pointer (some ⟨w.heap.size,1,none⟩)) rfl (by kernel_rfl) (by kernel_rfl) (by kernel_rfl) (fun _ _ _ h=>h) (Or.inl ⟨by rfl,fun Xw hSW=>by go_simp⟩) hHeld ?_
 simp only [Act.put,List.setIfInBounds_toArray,List.set_cons_zero,List.set_cons_succ]
 refine wpAnyH_take (i:=11) (oi:=⟨some 37,_,_,_,_,_⟩) (v:=.int .i64 p.2.1) rfl (by kernel_rfl) (by kernel_rfl) (by kernel_rfl) (fun _ _ _ h=>h) (Or.inl ⟨by rfl,fun Xw hSW=>by have b1:=hSW.1.cell (i:=1) rfl; go_simp⟩) hHeld ?_
 simp only [Act.put,List.setIfInBounds_toArray,List.set_cons_zero,List.set_cons_succ]
 refine wpAnyH_take (i:=12) (oi:=⟨some 38,_,_,_,_,_⟩) (v:=.pointer (some ⟨F,0,none⟩)) rfl (by kernel_rfl) (by kernel_rfl) (by kernel_rfl) (fun _ _ _ h=>h) (Or.inl ⟨by rfl,fun Xw hSW=>by go_simp⟩) hHeld ?_
 simp only [Act.put,List.setIfInBounds_toArray,List.set_cons_zero,List.set_cons_succ]
 refine wpAnyH_take (i:=13) (oi:=⟨some 39,_,_,_,_,_⟩) (v:=.pointer (some ⟨F,0,none⟩)) rfl (by kernel_rfl) (by kernel_rfl) (by kernel_rfl) (fun _ _ _ h=>h) (Or.inl ⟨by rfl,fun Xw hSW=>by go_simp⟩) hHeld ?_
 simp only [Act.put,List.setIfInBounds_toArray,List.set_cons_zero,List.set_cons_succ]
 refine wpAnyH_take (i:=14) (oi:=⟨some 40,_,_,_,_,_⟩) (v:=.pointer (some ⟨F,3,none⟩)) rfl (by kernel_rfl) (by kernel_rfl) (by kernel_rfl) (fun _ _ _ h=>h) (Or.inl ⟨by rfl,fun Xw hSW=>by go_simp⟩) hHeld ?_
 simp only [Act.put,List.setIfInBounds_toArray,List.set_cons_zero,List.set_cons_succ]
 refine wpAnyH_take (i:=15) (oi:=⟨some 41,_,_,_,_,_⟩) (v:=.pointer (some ⟨F,4,none⟩)) rfl (by kernel_rfl) (by kernel_rfl) (by kernel_rfl) (fun _ _ _ h=>h) (Or.inl ⟨by rfl,fun Xw hSW=>by go_simp⟩) hHeld ?_
 simp only [Act.put,List.setIfInBounds_toArray,List.set_cons_zero,List.set_cons_succ]
 refine wpAnyH_take (i:=16) (oi:=⟨some 42,_,_,_,_,_⟩) (v:=.int .i64 (Y:Int)) rfl (by kernel_rfl) (by kernel_rfl) (by kernel_rfl) (fun _ _ _ h=>h) (Or.inl ⟨by rfl,fun Xw hSW=>by have c1:=hSW.2.2.1; go_simp⟩) hHeld ?_
 simp only [Act.put,List.setIfInBounds_toArray,List.set_cons_zero,List.set_cons_succ]
 refine wpAnyH_take (i:=17) (oi:=⟨some 43,_,_,_,_,_⟩) (v:=.int .i64 (64 - (Y:Int))) rfl (by kernel_rfl) (by kernel_rfl) (by kernel_rfl) (fun _ _ _ h=>h) (Or.inl ⟨by rfl,fun Xw hSW=>by go_simp; exact WY.out⟩) hHeld ?_
 simp only [Act.put,List.setIfInBounds_toArray,List.set_cons_zero,List.set_cons_succ]
 refine wpAnyH_take (i:=19) (oi:=⟨some 45,_,_,_,_,_⟩) (v:=.pointer (some ⟨w.heap.size,2,none⟩)) rfl (by kernel_rfl) (by kernel_rfl) (by kernel_rfl) (fun _ _ _ h=>h) (Or.inl ⟨by rfl,fun Xw hSW=>by go_simp⟩) hHeld ?_
 simp only [Act.put,List.setIfInBounds_toArray,List.set_cons_zero,List.set_cons_succ]
 refine wpAnyH_take (i:=20) (oi:=⟨some 46,_,_,_,_,_⟩) (v:=.int .i64 p.2.2) rfl (by kernel_rfl) (by kernel_rfl) (by kernel_rfl) (fun _ _ _ h=>h) (Or.inl ⟨by rfl,fun Xw hSW=>by have b2:=hSW.1.cell (i:=2) rfl; go_simp⟩) hHeld ?_
 simp only [Act.put,List.setIfInBounds_toArray,List.set_cons_zero,List.set_cons_succ]
 refine wpAnyH_take (i:=21) (oi:=⟨some 47,_,_,_,_,_⟩) (v:=.pointer (some ⟨F,0,none⟩)) rfl (by kernel_rfl) (by kernel_rfl) (by kernel_rfl) (fun _ _ _ h=>h) (Or.inl ⟨by rfl,fun Xw hSW=>by go_simp⟩) hHeld ?_
 simp only [Act.put,List.setIfInBounds_toArray,List.set_cons_zero,List.set_cons_succ]
 refine wpAnyH_take (i:=22) (oi:=⟨some 48,_,_,_,_,_⟩) (v:=.pointer (some ⟨F,0,none⟩)) rfl (by kernel_rfl) (by kernel_rfl) (by kernel_rfl) (fun _ _ _ h=>h) (Or.inl ⟨by rfl,fun Xw hSW=>by go_simp⟩) hHeld ?_
 simp only [Act.put,List.setIfInBounds_toArray,List.set_cons_zero,List.set_cons_succ]
 refine wpAnyH_take (i:=23) (oi:=⟨some 49,_,_,_,_,_⟩) (v:=.pointer (some ⟨F,3,none⟩)) rfl (by kernel_rfl) (by kernel_rfl) (by kernel_rfl) (fun _ _ _ h=>h) (Or.inl ⟨by rfl,fun Xw hSW=>by go_simp⟩) hHeld ?_
 simp only [Act.put,List.setIfInBounds_toArray,List.set_cons_zero,List.set_cons_succ]
 refine wpAnyH_take (i:=24) (oi:=⟨some 50,_,_,_,_,_⟩) (v:=.pointer (some ⟨F,5,none⟩)) rfl (by kernel_rfl) (by kernel_rfl) (by kernel_rfl) (fun _ _ _ h=>h) (Or.inl ⟨by rfl,fun Xw hSW=>by go_simp⟩) hHeld ?_
 simp only [Act.put,List.setIfInBounds_toArray,List.set_cons_zero,List.set_cons_succ]
 refine wpAnyH_take (i:=25) (oi:=⟨some 51,_,_,_,_,_⟩) (v:=.int .i64 (Z:Int)) rfl (by kernel_rfl) (by kernel_rfl) (by kernel_rfl) (fun _ _ _ h=>h) (Or.inl ⟨by rfl,fun Xw hSW=>by have c2:=hSW.2.2.2; go_simp⟩) hHeld ?_
 simp only [Act.put,List.setIfInBounds_toArray,List.set_cons_zero,List.set_cons_succ]
 refine wpAnyH_take (i:=26) (oi:=⟨some 52,_,_,_,_,_⟩) (v:=.int .i64 (1048576 - (Z:Int))) rfl (by kernel_rfl) (by kernel_rfl) (by kernel_rfl) (fun _ _ _ h=>h) (Or.inl ⟨by rfl,fun Xw hSW=>by go_simp; exact WZ.out⟩) hHeld ?_
 simp only [Act.put,List.setIfInBounds_toArray,List.set_cons_zero,List.set_cons_succ]
 refine wpAnyH_ready (rs:=[9]) (by kernel_rfl) (by simp) ?_
 refine AllReadyH.cons (o:=⟨some 35,_,_,_,_,_⟩) rfl (fun K hK=>?_) AllReadyH.nil
 go_simp
 refine (fit_c HLX.out _).mono ?_
 rintro e Wx ⟨rfl,rfl⟩
 try go_wp2_with fail
 refine hK.out _ _ (hHeld) (fun hHeld=>?_)
 clear hK K
 refine wpAnyH_ready (rs:=[18]) (by kernel_rfl) (by simp) ?_
 refine AllReadyH.cons (o:=⟨some 44,_,_,_,_,_⟩) rfl (fun K hK=>?_) AllReadyH.nil
 go_simp
 refine (fit_c HLY.out _).mono ?_
 rintro e Wx ⟨rfl,rfl⟩
 try go_wp2_with fail
 refine hK.out _ _ (hHeld) (fun hHeld=>?_)
 clear hK K
 refine wpAnyH_ready (rs:=[27]) (by kernel_rfl) (by simp) ?_
 refine AllReadyH.cons (o:=⟨some 53,_,_,_,_,_⟩) rfl (fun K hK=>?_) AllReadyH.nil
 go_simp
 refine (fit_c HLZ.out _).mono ?_
 rintro e Wx ⟨rfl,rfl⟩
 try go_wp2_with fail
 refine hK.out _ _ (hHeld) (fun hHeld=>?_)
 clear hK K
 refine wpAnyH_take (i:=28) (oi:=⟨some 54,_,_,_,_,_⟩) (v:=.agg #[.int .i64 lx,.int .i64 ly,.int .i64 lz]) rfl (by kernel_rfl) (by kernel_rfl) (by kernel_rfl) (fun _ _ _ h=>h) (Or.inl ⟨by rfl,fun Xw hSW=>by go_simp⟩) hHeld ?_
 simp only [Act.put,List.setIfInBounds_toArray,List.set_cons_zero,List.set_cons_succ]
 refine wpAnyH_take (i:=29) (oi:=⟨some 55,_,_,_,_,_⟩) (v:=.pointer (some ⟨F,0,none⟩)) rfl (by kernel_rfl) (by kernel_rfl) (by kernel_rfl) (fun _ _ _ h=>h) (Or.inl ⟨by rfl,fun Xw hSW=>by go_simp⟩) hHeld ?_
 simp only [Act.put,List.setIfInBounds_toArray,List.set_cons_zero,List.set_cons_succ]
 refine wpAnyH_take (i:=30) (oi:=⟨some 56,_,_,_,_,_⟩) (v:=.pointer (some ⟨F,0,none⟩)) rfl (by kernel_rfl) (by kernel_rfl) (by kernel_rfl) (fun _ _ _ h=>h) (Or.inl ⟨by rfl,fun Xw hSW=>by go_simp⟩) hHeld ?_
 simp only [Act.put,List.setIfInBounds_toArray,List.set_cons_zero,List.set_cons_succ]
 refine wpAnyH_ready (rs:=[31]) (by kernel_rfl) (by simp) ?_
 refine AllReadyH.cons (o:=⟨none,_,_,_,_,_⟩) rfl (fun K hK=>?_) AllReadyH.nil
 have k0:W1.cell? ⟨F,0,none⟩ = some (.int .i64 0):=HW1.out.cell (i:=0) rfl
 have k1:W1.cell? ⟨F,1,none⟩ = some (.int .i64 0):=HW1.out.cell (i:=1) rfl
 have k2:W1.cell? ⟨F,2,none⟩ = some (.int .i64 0):=HW1.out.cell (i:=2) rfl
 have z0:=HW1.out.frozen 0
 have z1:=HW1.out.frozen 1
 have z2:=HW1.out.frozen 2
 go_simp
 refine hK.out _ _ ⟨by have q:=HP1.out; have e:=HPF.out; (repeat' (first | (with_reducible exact q) | (with_reducible refine BlkP.Blk.drew ?_) | (with_reducible refine BlkP.Blk.drewN ?_ _) | (with_reducible refine BlkP.Blk.setAt (us:=?_) (by first | omega | (simp; done) | (simp; omega)) rfl ?_ ?_) | (with_reducible refine BlkP.Blk.otherAt ?_ (by first | omega | (simp; done) | (simp; omega))) | (with_reducible refine BlkP.Blk.newA' (by first | omega | (simp; done) | (simp; omega)) rfl) | (with_reducible refine BlkP.Blk.alloc ?_ _) | (exact rfl))),by have q:=HW1.out.cell (i:=3) (v:=.int .i64 (X:Int)) rfl; (repeat' (first | (with_reducible assumption) | (with_reducible refine HeldP.c_drew ?_) | (with_reducible refine HeldP.c_drewN ?_) | (with_reducible refine HeldP.c_same (by omega) ?_) | (with_reducible refine HeldP.c_other ?_ ?_) | (with_reducible refine HeldP.c_new (by first | omega | (simp; done) | (simp; omega)) ?_) | (with_reducible refine HeldP.c_alloc ?_ ?_) | (with_reducible refine HeldP.e_drew ?_) | (with_reducible refine HeldP.e_drewN ?_) | (with_reducible refine HeldP.e_set ?_) | (with_reducible refine HeldP.e_new (by first | omega | (simp; done) | (simp; omega)) ⟨_,rfl⟩) | (with_reducible refine HeldP.e_alloc ?_ ?_) | (with_reducible refine HeldP.f_drew ?_) | (with_reducible refine HeldP.f_drewN ?_) | (with_reducible refine HeldP.f_set ?_) | (with_reducible refine HeldP.f_new (by first | omega | (simp; done) | (simp; omega))) | (with_reducible refine HeldP.f_alloc ?_ ?_) | (with_reducible refine HeldP.s_drew ?_) | (with_reducible refine HeldP.s_drewN ?_) | (with_reducible refine HeldP.s_set ?_) | (with_reducible refine HeldP.s_new (by first | omega | (simp; done) | (simp; omega))) | (with_reducible refine HeldP.s_alloc ?_) | (with_reducible exact ⟨_,by assumption⟩) | omega | (intro e; simp at e; done) | (intro e; simp at e; omega) | (exact rfl) | (simp; done) | (simp; omega))),by have q:=HW1.out.cell (i:=4) (v:=.int .i64 (Y:Int)) rfl; (repeat' (first | (with_reducible assumption) | (with_reducible refine HeldP.c_drew ?_) | (with_reducible refine HeldP.c_drewN ?_) | (with_reducible refine HeldP.c_same (by omega) ?_) | (with_reducible refine HeldP.c_other ?_ ?_) | (with_reducible refine HeldP.c_new (by first | omega | (simp; done) | (simp; omega)) ?_) | (with_reducible refine HeldP.c_alloc ?_ ?_) | (with_reducible refine HeldP.e_drew ?_) | (with_reducible refine HeldP.e_drewN ?_) | (with_reducible refine HeldP.e_set ?_) | (with_reducible refine HeldP.e_new (by first | omega | (simp; done) | (simp; omega)) ⟨_,rfl⟩) | (with_reducible refine HeldP.e_alloc ?_ ?_) | (with_reducible refine HeldP.f_drew ?_) | (with_reducible refine HeldP.f_drewN ?_) | (with_reducible refine HeldP.f_set ?_) | (with_reducible refine HeldP.f_new (by first | omega | (simp; done) | (simp; omega))) | (with_reducible refine HeldP.f_alloc ?_ ?_) | (with_reducible refine HeldP.s_drew ?_) | (with_reducible refine HeldP.s_drewN ?_) | (with_reducible refine HeldP.s_set ?_) | (with_reducible refine HeldP.s_new (by first | omega | (simp; done) | (simp; omega))) | (with_reducible refine HeldP.s_alloc ?_) | (with_reducible exact ⟨_,by assumption⟩) | omega | (intro e; simp at e; done) | (intro e; simp at e; omega) | (exact rfl) | (simp; done) | (simp; omega))),by have q:=HW1.out.cell (i:=5) (v:=.int .i64 (Z:Int)) rfl; (repeat' (first | (with_reducible assumption) | (with_reducible refine HeldP.c_drew ?_) | (with_reducible refine HeldP.c_drewN ?_) | (with_reducible refine HeldP.c_same (by omega) ?_) | (with_reducible refine HeldP.c_other ?_ ?_) | (with_reducible refine HeldP.c_new (by first | omega | (simp; done) | (simp; omega)) ?_) | (with_reducible refine HeldP.c_alloc ?_ ?_) | (with_reducible refine HeldP.e_drew ?_) | (with_reducible refine HeldP.e_drewN ?_) | (with_reducible refine HeldP.e_set ?_) | (with_reducible refine HeldP.e_new (by first | omega | (simp; done) | (simp; omega)) ⟨_,rfl⟩) | (with_reducible refine HeldP.e_alloc ?_ ?_) | (with_reducible refine HeldP.f_drew ?_) | (with_reducible refine HeldP.f_drewN ?_) | (with_reducible refine HeldP.f_set ?_) | (with_reducible refine HeldP.f_new (by first | omega | (simp; done) | (simp; omega))) | (with_reducible refine HeldP.f_alloc ?_ ?_) | (with_reducible refine HeldP.s_drew ?_) | (with_reducible refine HeldP.s_drewN ?_) | (with_reducible refine HeldP.s_set ?_) | (with_reducible refine HeldP.s_new (by first | omega | (simp; done) | (simp; omega))) | (with_reducible refine HeldP.s_alloc ?_) | (with_reducible exact ⟨_,by assumption⟩) | omega | (intro e; simp at e; done) | (intro e; simp at e; omega) | (exact rfl) | (simp; done) | (simp; omega)))⟩ (fun hHeld=>?_)
 clear hK K
 refine wpAnyH_done (by kernel_rfl) ?_ _
 refine NoPanic.normal ?_
 clear hHeld
 refine HeldP.then_named (S:=fun W=>Below w.heap.size w W∧Blk W F TW (fcells (fJ F (lx,ly,lz) X Y Z (.slice none 0 0) []))) ⟨HB1.out.trans ?_,?_⟩ ?_
 ·have:=HFE.out
  have hz1:=HW1.out.lt
  (repeat' (first | (with_reducible exact Below.refl _ _) | (with_reducible refine Below.setCell ?_ (by (first | omega | (simp; done) | (simp; omega))) _) | (with_reducible refine Below.alloc ?_ (by (first | omega | (simp; done) | (simp; omega))) _) | (with_reducible refine Below.drew ?_) | (with_reducible refine below_drewN ?_ _)))
 ·have q:=HW1.out
  (repeat' (first | (with_reducible exact q) | (with_reducible refine BlkP.Blk.drew ?_) | (with_reducible refine BlkP.Blk.drewN ?_ _) | (with_reducible refine BlkP.Blk.setAt (us:=?_) (by first | omega | (simp; done) | (simp; omega)) rfl ?_ ?_) | (with_reducible refine BlkP.Blk.otherAt ?_ (by first | omega | (simp; done) | (simp; omega))) | (with_reducible refine BlkP.Blk.newA' (by first | omega | (simp; done) | (simp; omega)) rfl) | (with_reducible refine BlkP.Blk.alloc ?_ _) | (exact rfl)))
 rintro W2 ⟨hb2,hw2⟩
 have hcut:=True.intro
 obtain ⟨n,hn⟩:∃ n,X * Y * Z = n:=⟨_,rfl⟩
 have hnb:1≤n∧n≤1024:=by
  have m1:X * Y≤8 * 16:=Nat.mul_le_mul (by omega) (by omega)
  have m2:X * Y * Z≤8 * 16 * 8:=Nat.mul_le_mul m1 (by omega)
  have p1:0 < X * Y:=Nat.mul_pos (by omega) (by omega)
  have p2:0 < X * Y * Z:=Nat.mul_pos p1 (by omega)
  omega
 obtain ⟨xy,hxy⟩:∃ xy,X * Y = xy:=⟨_,rfl⟩
 have hxyb:xy≤128:=by rw [← hxy]; exact Nat.mul_le_mul hXb.2 hYb.2
 have HXY:=Lib.hid (wrI (a:=(X:Int) * (Y:Int)) (c:=(xy:Int)) (by rw [← hxy]; simp) (by omega) (by omega))
 have HXZ:=Lib.hid (wrI (a:=(xy:Int) * (Z:Int)) (c:=(n:Int)) (by rw [← hn,← hxy]; simp) (by omega) (by omega))
 have HN:=Lib.hid hn
 have HB2:=Lib.hid hb2
 have HM2:=Lib.hid (fJ_mem hw2 (Own.nil _ _ _ 0))
 clear hcut hn hxy hxyb hb2 hw2
 go_wp2_with fail
 go_loopw [12] (fun v wr=>∃ j vC,v = .int .i64 (j:Nat)∧j≤n∧FldM wr (fJ F (lx,ly,lz) X Y Z vC (madeC cl j))∧(∀ k,vC.ownBlock = some k→w.heap.size≤k)∧Below w.heap.size w wr) (fun v _=>n - (intOf v).toNat)
 case atStart=>exact ⟨0,_,rfl,by omega,HM2.out,fun k hk=>(by cases hk),HB2.out⟩
 case round =>
  obtain ⟨j,vC,rfl,hj,hfm,hnew,hbr⟩:=hrel
  have HFM:=Lib.hid hfm
  have HNEW:=Lib.hid hnew
  have HBR:=Lib.hid hbr
  have HLEN:=Lib.hid (madeC_len cl j)
  obtain ⟨A1,cA,hvA,_,_,_⟩:=hfm.cs.form HLEN.out
  have hvA2:vC = .slice A1 j cA:=hvA
  subst hvA2
  have HFB:=Lib.hid (show Blk wr F TW (fcells (fJ F (lx,ly,lz) X Y Z (.slice A1 j cA) (madeC cl j))) from hfm.blk)
  clear hfm hnew hbr hvA
  by_cases hjn:j < n
  ·have hjI:(j:Int) < n:=by omega
   have HWR:=Lib.hid (show wrap64 ((j:Int) + 1) = ((j + 1:Nat):Int) by rw [wr64 (by omega) (by omega)]; omega)
   go_wp2_with fail
   refine wp_region_noPanic ?_
   refine wp_region_held_drew (S:=fun Xw=>Blk Xw F TW (fcells (fJ F (lx,ly,lz) X Y Z (.slice A1 j cA) (madeC cl j)))) (by kernel_rfl) (HFB.out) (fun hHeld=>?_)
   refine wpAnyH_take (i:=0) (oi:=⟨some 57,_,_,_,_,_⟩) (v:=.int .i64 (j:Int)) rfl (by kernel_rfl) (by kernel_rfl) (by kernel_rfl) (fun _ _ _ h=>h) (Or.inl ⟨by rfl,fun Xw hSW=>by go_simp⟩) hHeld ?_
   simp only [Act.put,List.setIfInBounds_toArray,List.set_cons_zero,List.set_cons_succ]
   refine wpAnyH_take (i:=1) (oi:=⟨some 58,_,_,_,_,_⟩) (v:=.pointer (some ⟨F,0,none⟩)) rfl (by kernel_rfl) (by kernel_rfl) (by kernel_rfl) (fun _ _ _ h=>h) (Or.inl ⟨by rfl,fun Xw hSW=>by go_simp⟩) hHeld ?_
   simp only [Act.put,List.setIfInBounds_toArray,List.set_cons_zero,List.set_cons_succ]
   refine wpAnyH_take (i:=2) (oi:=⟨some 59,_,_,_,_,_⟩) (v:=.pointer (some ⟨F,0,none⟩)) rfl (by kernel_rfl) (by kernel_rfl) (by kernel_rfl) (fun _ _ _ h=>h) (Or.inl ⟨by rfl,fun Xw hSW=>by go_simp⟩) hHeld ?_
   simp only [Act.put,List.setIfInBounds_toArray,List.set_cons_zero,List.set_cons_succ]
   refine wpAnyH_take (i:=3) (oi:=⟨some 60,_,_,_,_,_⟩) (v:=.pointer (some ⟨F,3,none⟩)) rfl (by kernel_rfl) (by kernel_rfl) (by kernel_rfl) (fun _ _ _ h=>h) (Or.inl ⟨by rfl,fun Xw hSW=>by go_simp⟩) hHeld ?_
   simp only [Act.put,List.setIfInBounds_toArray,List.set_cons_zero,List.set_cons_succ]
   refine wpAnyH_take (i:=4) (oi:=⟨some 61,_,_,_,_,_⟩) (v:=.pointer (some ⟨F,3,none⟩)) rfl (by kernel_rfl) (by kernel_rfl) (by kernel_rfl) (fun _ _ _ h=>h) (Or.inl ⟨by rfl,fun Xw hSW=>by go_simp⟩) hHeld ?_
   simp only [Act.put,List.setIfInBounds_toArray,List.set_cons_zero,List.set_cons_succ]
   refine wpAnyH_take (i:=5) (oi:=⟨some 62,_,_,_,_,_⟩) (v:=.int .i64 (X:Int)) rfl (by kernel_rfl) (by kernel_rfl) (by kernel_rfl) (fun _ _ _ h=>h) (Or.inl ⟨by rfl,fun Xw hSW=>by have c0:Xw.cell? ⟨F,3,none⟩ = some (.int .i64 (X:Int)):=hSW.cell (i:=3) rfl; go_simp⟩) hHeld ?_
   simp only [Act.put,List.setIfInBounds_toArray,List.set_cons_zero,List.set_cons_succ]
   refine wpAnyH_take (i:=6) (oi:=⟨some 63,_,_,_,_,_⟩) (v:=.pointer (some ⟨F,0,none⟩)) rfl (by kernel_rfl) (by kernel_rfl) (by kernel_rfl) (fun _ _ _ h=>h) (Or.inl ⟨by rfl,fun Xw hSW=>by go_simp⟩) hHeld ?_
   simp only [Act.put,List.setIfInBounds_toArray,List.set_cons_zero,List.set_cons_succ]
   refine wpAnyH_take (i:=7) (oi:=⟨some 64,_,_,_,_,_⟩) (v:=.pointer (some ⟨F,0,none⟩)) rfl (by kernel_rfl) (by kernel_rfl) (by kernel_rfl) (fun _ _ _ h=>h) (Or.inl ⟨by rfl,fun Xw hSW=>by go_simp⟩) hHeld ?_
   simp only [Act.put,List.setIfInBounds_toArray,List.set_cons_zero,List.set_cons_succ]
   refine wpAnyH_take (i:=8) (oi:=⟨some 65,_,_,_,_,_⟩) (v:=.pointer (some ⟨F,3,none⟩)) rfl (by kernel_rfl) (by kernel_rfl) (by kernel_rfl) (fun _ _ _ h=>h) (Or.inl ⟨by rfl,fun Xw hSW=>by go_simp⟩) hHeld ?_
   simp only [Act.put,List.setIfInBounds_toArray,List.set_cons_zero,List.set_cons_succ]
   refine wpAnyH_take (i:=9) (oi:=⟨some 66,_,_,_,_,_⟩) (v:=.pointer (some ⟨F,4,none⟩)) rfl (by kernel_rfl) (by kernel_rfl) (by kernel_rfl) (fun _ _ _ h=>h) (Or.inl ⟨by rfl,fun Xw hSW=>by go_simp⟩) hHeld ?_
   simp only [Act.put,List.setIfInBounds_toArray,List.set_cons_zero,List.set_cons_succ]
   refine wpAnyH_take (i:=10) (oi:=⟨some 67,_,_,_,_,_⟩) (v:=.int .i64 (Y:Int)) rfl (by kernel_rfl) (by kernel_rfl) (by kernel_rfl) (fun _ _ _ h=>h) (Or.inl ⟨by rfl,fun Xw hSW=>by have c1:Xw.cell? ⟨F,4,none⟩ = some (.int .i64 (Y:Int)):=hSW.cell (i:=4) rfl; go_simp⟩) hHeld ?_
   simp only [Act.put,List.setIfInBounds_toArray,List.set_cons_zero,List.set_cons_succ]
   refine wpAnyH_take (i:=11) (oi:=⟨some 68,_,_,_,_,_⟩) (v:=.int .i64 (xy:Int)) rfl (by kernel_rfl) (by kernel_rfl) (by kernel_rfl) (fun _ _ _ h=>h) (Or.inl ⟨by rfl,fun Xw hSW=>by go_simp; exact HXY.out⟩) hHeld ?_
   simp only [Act.put,List.setIfInBounds_toArray,List.set_cons_zero,List.set_cons_succ]
   refine wpAnyH_take (i:=12) (oi:=⟨some 69,_,_,_,_,_⟩) (v:=.pointer (some ⟨F,0,none⟩)) rfl (by kernel_rfl) (by kernel_rfl) (by kernel_rfl) (fun _ _ _ h=>h) (Or.inl ⟨by rfl,fun Xw hSW=>by go_simp⟩) hHeld ?_
   simp only [Act.put,List.setIfInBounds_toArray,List.set_cons_zero,List.set_cons_succ]
   refine wpAnyH_take (i:=13) (oi:=⟨some 70,_,_,_,_,_⟩) (v:=.pointer (some ⟨F,0,none⟩)) rfl (by kernel_rfl) (by kernel_rfl) (by kernel_rfl) (fun _ _ _ h=>h) (Or.inl ⟨by rfl,fun Xw hSW=>by go_simp⟩) hHeld ?_
   simp only [Act.put,List.setIfInBounds_toArray,List.set_cons_zero,List.set_cons_succ]
   refine wpAnyH_take (i:=14) (oi:=⟨some 71,_,_,_,_,_⟩) (v:=.pointer (some ⟨F,3,none⟩)) rfl (by kernel_rfl) (by kernel_rfl) (by kernel_rfl) (fun _ _ _ h=>h) (Or.inl ⟨by rfl,fun Xw hSW=>by go_simp⟩) hHeld ?_
   simp only [Act.put,List.setIfInBounds_toArray,List.set_cons_zero,List.set_cons_succ]
   refine wpAnyH_take (i:=15) (oi:=⟨some 72,_,_,_,_,_⟩) (v:=.pointer (some ⟨F,5,none⟩)) rfl (by kernel_rfl) (by kernel_rfl) (by kernel_rfl) (fun _ _ _ h=>h) (Or.inl ⟨by rfl,fun Xw hSW=>by go_simp⟩) hHeld ?_
   simp only [Act.put,List.setIfInBounds_toArray,List.set_cons_zero,List.set_cons_succ]
   refine wpAnyH_take (i:=16) (oi:=⟨some 73,_,_,_,_,_⟩) (v:=.int .i64 (Z:Int)) rfl (by kernel_rfl) (by kernel_rfl) (by kernel_rfl) (fun _ _ _ h=>h) (Or.inl ⟨by rfl,fun Xw hSW=>by have c2:Xw.cell? ⟨F,5,none⟩ = some (.int .i64 (Z:Int)):=hSW.cell (i:=5) rfl; go_simp⟩) hHeld ?_
   simp only [Act.put,List.setIfInBounds_toArray,List.set_cons_zero,List.set_cons_succ]
   refine wpAnyH_take (i:=17) (oi:=⟨some 74,_,_,_,_,_⟩) (v:=.int .i64 (n:Int)) rfl (by kernel_rfl) (by kernel_rfl) (by kernel_rfl) (fun _ _ _ h=>h) (Or.inl ⟨by rfl,fun Xw hSW=>by go_simp; exact HXZ.out⟩) hHeld ?_
   simp only [Act.put,List.setIfInBounds_toArray,List.set_cons_zero,List.set_cons_succ]
   refine wpAnyH_take (i:=18) (oi:=⟨some 75,_,_,_,_,_⟩) (v:=.bool true) rfl (by kernel_rfl) (by kernel_rfl) (by kernel_rfl) (fun _ _ _ h=>h) (Or.inl ⟨by rfl,fun Xw hSW=>by go_simp⟩) hHeld ?_
   simp only [Act.put,List.setIfInBounds_toArray,List.set_cons_zero,List.set_cons_succ]
   refine wpAnyH_done (by kernel_rfl) ?_ _
   refine NoPanic.normal ?_
   clear hHeld
   by_cases hm0:m = 0
   ·have HPK:=Lib.hid (show pickC cl j = ((0:Nat),(0:Nat)) by rw [List.length_eq_zero_iff.1 (HM.out.trans hm0)]; exact pickC_nil j)
    subst hm0
    go_wp2_with fail
    refine HeldP.wp_named (S:=fun W=>Blk W wr.heap.size TC [.int .u8 0,.int .u8 0]∧FldM W (fJ F (lx,ly,lz) X Y Z (.slice A1 j cA) (madeC cl j))∧Below w.heap.size w W) ⟨by (repeat' (first | (with_reducible refine BlkP.Blk.drew ?_) | (with_reducible refine BlkP.Blk.drewN ?_ _) | (with_reducible refine BlkP.Blk.setAt (us:=?_) (by first | omega | (simp; done) | (simp; omega)) rfl ?_ ?_) | (with_reducible refine BlkP.Blk.otherAt ?_ (by first | omega | (simp; done) | (simp; omega))) | (with_reducible refine BlkP.Blk.newA' (by first | omega | (simp; done) | (simp; omega)) rfl) | (with_reducible refine BlkP.Blk.alloc ?_ _) | (exact rfl))),HFM.out.below (by (repeat' (first | (with_reducible exact Below.refl _ _) | (with_reducible refine Below.setCell ?_ (by (first | omega | (simp; done) | (simp; omega))) _) | (with_reducible refine Below.alloc ?_ (by (first | omega | (simp; done) | (simp; omega))) _) | (with_reducible refine Below.drew ?_) | (with_reducible refine below_drewN ?_ _)))),HBR.out.trans ((show Below wr.heap.size wr _ by (repeat' (first | (with_reducible exact Below.refl _ _) | (with_reducible refine Below.setCell ?_ (by (first | omega | (simp; done) | (simp; omega))) _) | (with_reducible refine Below.alloc ?_ (by (first | omega | (simp; done) | (simp; omega))) _) | (with_reducible refine Below.drew ?_) | (with_reducible refine below_drewN ?_ _)))).mono HBR.out.size)⟩ ?_
    rintro W ⟨hc,hfm,hbw⟩
    have HC:=Lib.hid hc
    have HFM2:=Lib.hid hfm
    have HBW:=Lib.hid hbw
    have HAK:=Lib.hid (show RowG.Own enc2 TC W.drew 0 (.slice A1 j cA) (madeC cl j) from hfm.cs)
    have HC8F:=Lib.hid (show W.cell? ⟨F,6,none⟩ = some (.slice A1 j cA) from hfm.blk.cell (i:=6) rfl)
    have HFL:=Lib.hid (show F < W.heap.size from hfm.blk.lt)
    have HNF:=Lib.hid (show ¬ (Value.slice A1 j cA).ownBlock = some F from fun e=>by
     obtain ⟨us,hu⟩:=own_cells hfm.cs e
     exact Blk.ne hu hfm.blk (by decide) rfl)
    have HNC:=Lib.hid (show ¬ (Value.slice A1 j cA).ownBlock = some wr.heap.size from fun e=>by
     have:=(HFM.out.cs.ge _ e).2
     omega)
    clear hc hfm hbw
    refine wp_region_noPanic ?_
    refine wp_region_held_drew (S:=fun Xw=>Blk Xw wr.heap.size TC [.int .u8 0,.int .u8 0]) (by kernel_rfl) (HC.out) (fun hHeld=>?_)
    refine wpAnyH_take (i:=0) (oi:=⟨some 99,_,_,_,_,_⟩) (v:=.pointer (some ⟨F,0,none⟩)) rfl (by kernel_rfl) (by kernel_rfl) (by kernel_rfl) (fun _ _ _ h=>h) (Or.inl ⟨by rfl,fun Xw hSW=>by go_simp⟩) hHeld ?_
    simp only [Act.put,List.setIfInBounds_toArray,List.set_cons_zero,List.set_cons_succ]
    refine wpAnyH_take (i:=1) (oi:=⟨some 100,_,_,_,_,_⟩) (v:=.pointer (some ⟨F,0,none⟩)) rfl (by kernel_rfl) (by kernel_rfl) (by kernel_rfl) (fun _ _ _ h=>h) (Or.inl ⟨by rfl,fun Xw hSW=>by go_simp⟩) hHeld ?_
    simp only [Act.put,List.setIfInBounds_toArray,List.set_cons_zero,List.set_cons_succ]
    refine wpAnyH_take (i:=2) (oi:=⟨some 101,_,_,_,_,_⟩) (v:=.pointer (some ⟨F,0,none⟩)) rfl (by kernel_rfl) (by kernel_rfl) (by kernel_rfl) (fun _ _ _ h=>h) (Or.inl ⟨by rfl,fun Xw hSW=>by go_simp⟩) hHeld ?_
    simp only [Act.put,List.setIfInBounds_toArray,List.set_cons_zero,List.set_cons_succ]
    refine wpAnyH_take (i:=3) (oi:=⟨some 102,_,_,_,_,_⟩) (v:=.pointer (some ⟨F,3,none⟩)) rfl (by kernel_rfl) (by kernel_rfl) (by kernel_rfl) (fun _ _ _ h=>h) (Or.inl ⟨by rfl,fun Xw hSW=>by go_simp⟩) hHeld ?_
    simp only [Act.put,List.setIfInBounds_toArray,List.set_cons_zero,List.set_cons_succ]
    refine wpAnyH_take (i:=4) (oi:=⟨some 103,_,_,_,_,_⟩) (v:=.pointer (some ⟨F,6,none⟩)) rfl (by kernel_rfl) (by kernel_rfl) (by kernel_rfl) (fun _ _ _ h=>h) (Or.inl ⟨by rfl,fun Xw hSW=>by go_simp⟩) hHeld ?_
    simp only [Act.put,List.setIfInBounds_toArray,List.set_cons_zero,List.set_cons_succ]
    refine wpAnyH_take (i:=6) (oi:=⟨some 105,_,_,_,_,_⟩) (v:=.agg #[.int .u8 0,.int .u8 0]) rfl (by kernel_rfl) (by kernel_rfl) (by kernel_rfl) (fun _ _ _ h=>h) (Or.inl ⟨by rfl,fun Xw hSW=>by have b0:=hSW.cell (i:=0) rfl; have b1:=hSW.cell (i:=1) rfl; go_simp⟩) hHeld ?_
    simp only [Act.put,List.setIfInBounds_toArray,List.set_cons_zero,List.set_cons_succ]
    have c8:W.cell? ⟨F,6,none⟩ = some (.slice A1 j cA):=HC8F.out
    have HNCF:=Lib.hid (show F ≠ wr.heap.size from fun e=>by have:=HFM.out.blk.lt; have e2:F < wr.heap.size:=this; omega)
    refine wpAnyH_ready (rs:=[5,7]) (by kernel_rfl) (by simp) ?_
    refine AllReadyH.cons (o:=⟨some 104,_,_,_,_,_⟩) rfl (fun K hK=>?_) (AllReadyH.cons (o:=⟨some 106,_,_,_,_,_⟩) rfl (fun K hK=>?_) AllReadyH.nil)
    ·go_simp
     refine hK.out _ _ (hHeld) (fun hHeld=>?_)
     clear hK K
     refine wpAnyH_ready (rs:=[7]) (by kernel_rfl) (by simp) ?_
     refine AllReadyH.cons (o:=⟨some 106,_,_,_,_,_⟩) rfl (fun K hK=>?_) AllReadyH.nil
     go_simp
     refine hK.out _ _ (by have q:=HC.out; (repeat' (first | (with_reducible exact q) | (with_reducible refine BlkP.Blk.drew ?_) | (with_reducible refine BlkP.Blk.drewN ?_ _) | (with_reducible refine BlkP.Blk.setAt (us:=?_) (by first | omega | (simp; done) | (simp; omega)) rfl ?_ ?_) | (with_reducible refine BlkP.Blk.otherAt ?_ (by first | omega | (simp; done) | (simp; omega))) | (with_reducible refine BlkP.Blk.newA' (by first | omega | (simp; done) | (simp; omega)) rfl) | (with_reducible refine BlkP.Blk.alloc ?_ _) | (exact rfl)))) (fun hHeld=>?_)
     clear hK K
     refine wpAnyH_ready (rs:=[8]) (by kernel_rfl) (by simp) ?_
     refine AllReadyH.cons (o:=⟨some 107,_,_,_,_,_⟩) rfl (fun K hK=>?_) AllReadyH.nil
     refine step_pushC (w0:=W.drew) (y:=(0,0)) (v:=.slice A1 j cA) (l:=madeC cl j) rfl (.tmp 104) (.tmp 106) rfl rfl rfl rfl HAK.out rfl HLEN.out (by omega) (Nat.zero_le _) ?_
     intro g c6 w6 hp
     have HPU:=Lib.hid hp
     have f1:Fr (fun k=>(Value.slice A1 j cA).ownBlock = some k) W.drew w6:=Fr.grown hp.2.1 (fun i e=>e)
     have hb6:Blk w6 F TW (fcells (fJ F (lx,ly,lz) X Y Z (.slice A1 j cA) (madeC cl j))):=f1.blk HFM2.out.blk HNF.out
     have HB6:=Lib.hid (show Blk w6 wr.heap.size TC [.int .u8 0,.int .u8 0] from f1.blk HC.out HNC.out)
     have c6':w6.cell? ⟨F,6,none⟩ = some (.slice A1 j cA):=hb6.cell (i:=6) rfl
     have z6:=hb6.frozen 6
     clear hp f1 hb6
     refine hK.out _ _ (HB6.out) (fun hHeld=>?_)
     clear hK K
     refine wpAnyH_take (i:=9) (oi:=⟨some 108,_,_,_,_,_⟩) (v:=.pointer (some ⟨F,0,none⟩)) rfl (by kernel_rfl) (by kernel_rfl) (by kernel_rfl) (fun _ _ _ h=>h) (Or.inl ⟨by rfl,fun Xw hSW=>by go_simp⟩) hHeld ?_
     simp only [Act.put,List.setIfInBounds_toArray,List.set_cons_zero,List.set_cons_succ]
     refine wpAnyH_take (i:=10) (oi:=⟨some 109,_,_,_,_,_⟩) (v:=.pointer (some ⟨F,3,none⟩)) rfl (by kernel_rfl) (by kernel_rfl) (by kernel_rfl) (fun _ _ _ h=>h) (Or.inl ⟨by rfl,fun Xw hSW=>by go_simp⟩) hHeld ?_
     simp only [Act.put,List.setIfInBounds_toArray,List.set_cons_zero,List.set_cons_succ]
     refine wpAnyH_take (i:=11) (oi:=⟨some 110,_,_,_,_,_⟩) (v:=.pointer (some ⟨F,6,none⟩)) rfl (by kernel_rfl) (by kernel_rfl) (by kernel_rfl) (fun _ _ _ h=>h) (Or.inl ⟨by rfl,fun Xw hSW=>by go_simp⟩) hHeld ?_
     simp only [Act.put,List.setIfInBounds_toArray,List.set_cons_zero,List.set_cons_succ]
     refine wpAnyH_ready (rs:=[12]) (by kernel_rfl) (by simp) ?_
     refine AllReadyH.cons (o:=⟨none,_,_,_,_,_⟩) rfl (fun K hK=>?_) AllReadyH.nil
     go_simp
     refine hK.out _ _ (by have q:=HB6.out; have e:=HFL.out; have e2:=HNCF.out; (repeat' (first | (with_reducible exact q) | (with_reducible refine BlkP.Blk.drew ?_) | (with_reducible refine BlkP.Blk.drewN ?_ _) | (with_reducible refine BlkP.Blk.setAt (us:=?_) (by first | omega | (simp; done) | (simp; omega)) rfl ?_ ?_) | (with_reducible refine BlkP.Blk.otherAt ?_ (by first | omega | (simp; done) | (simp; omega))) | (with_reducible refine BlkP.Blk.newA' (by first | omega | (simp; done) | (simp; omega)) rfl) | (with_reducible refine BlkP.Blk.alloc ?_ _) | (exact rfl)))) (fun hHeld=>?_)
     clear hK K
     refine wpAnyH_done (by kernel_rfl) ?_ _
     refine NoPanic.normal ?_
     clear hHeld c6' z6
     have hpc:=FldM.pushC (w0:=W) HFM2.out (y:=(0,0)) ⟨HPU.out.1,⟨HPU.out.2.1.os,HPU.out.2.1.tape,HPU.out.2.1.output,HPU.out.2.1.size,HPU.out.2.1.block⟩,HPU.out.2.2⟩
     have HPC:=Lib.hid hpc
     clear hpc
     go_wp2_with fail
     go_roundw
     case rel =>
      refine ⟨j + 1,.slice (some ⟨g,0,none⟩) (j + 1) c6,by first | rfl | rw [HWR.out] | (congr 1; omega),by omega,?_,fun k hk=>?_,HBW.out.trans ?_⟩
      ·rw [madeC_next,HPK.out]
       exact HPC.out.1
      ·have hk':g = k:=by simpa [Value.ownBlock] using hk
       subst hk'
       rcases HPU.out.2.2 with q | q
       ·exact HNEW.out g q
       ·have q2:W.heap.size≤g:=q
        have:=HBW.out.size
        omega
      ·refine (HPC.out.2.toBelow (B:=w.heap.size) HBW.out.size (fun i hi=>?_))
       rcases hi with e | e
       ·have e':i = F:=e
        have:=HFE.out
        omega
       ·exact HNEW.out i e
     case measure =>
      simp only [intOf]
      omega
    ·go_simp
     refine hK.out _ _ (by have q:=HC.out; (repeat' (first | (with_reducible exact q) | (with_reducible refine BlkP.Blk.drew ?_) | (with_reducible refine BlkP.Blk.drewN ?_ _) | (with_reducible refine BlkP.Blk.setAt (us:=?_) (by first | omega | (simp; done) | (simp; omega)) rfl ?_ ?_) | (with_reducible refine BlkP.Blk.otherAt ?_ (by first | omega | (simp; done) | (simp; omega))) | (with_reducible refine BlkP.Blk.newA' (by first | omega | (simp; done) | (simp; omega)) rfl) | (with_reducible refine BlkP.Blk.alloc ?_ _) | (exact rfl)))) (fun hHeld=>?_)
     clear hK K
     have c8':(W.alloc (.cells #[.int .u8 0,.int .u8 0] TC)).cell? ⟨F,6,none⟩ = some (.slice A1 j cA):=by have q:=HC8F.out; have hl:=HFL.out; (repeat' (first | (with_reducible assumption) | (with_reducible refine HeldP.c_drew ?_) | (with_reducible refine HeldP.c_drewN ?_) | (with_reducible refine HeldP.c_same (by omega) ?_) | (with_reducible refine HeldP.c_other ?_ ?_) | (with_reducible refine HeldP.c_new (by first | omega | (simp; done) | (simp; omega)) ?_) | (with_reducible refine HeldP.c_alloc ?_ ?_) | (with_reducible refine HeldP.e_drew ?_) | (with_reducible refine HeldP.e_drewN ?_) | (with_reducible refine HeldP.e_set ?_) | (with_reducible refine HeldP.e_new (by first | omega | (simp; done) | (simp; omega)) ⟨_,rfl⟩) | (with_reducible refine HeldP.e_alloc ?_ ?_) | (with_reducible refine HeldP.f_drew ?_) | (with_reducible refine HeldP.f_drewN ?_) | (with_reducible refine HeldP.f_set ?_) | (with_reducible refine HeldP.f_new (by first | omega | (simp; done) | (simp; omega))) | (with_reducible refine HeldP.f_alloc ?_ ?_) | (with_reducible refine HeldP.s_drew ?_) | (with_reducible refine HeldP.s_drewN ?_) | (with_reducible refine HeldP.s_set ?_) | (with_reducible refine HeldP.s_new (by first | omega | (simp; done) | (simp; omega))) | (with_reducible refine HeldP.s_alloc ?_) | (with_reducible exact ⟨_,by assumption⟩) | omega | (intro e; simp at e; done) | (intro e; simp at e; omega) | (exact rfl) | (simp; done) | (simp; omega)))
     refine wpAnyH_ready (rs:=[5]) (by kernel_rfl) (by simp) ?_
     refine AllReadyH.cons (o:=⟨some 104,_,_,_,_,_⟩) rfl (fun K hK=>?_) AllReadyH.nil
     go_simp
     refine hK.out _ _ (hHeld) (fun hHeld=>?_)
     clear hK K
     refine wpAnyH_ready (rs:=[8]) (by kernel_rfl) (by simp) ?_
     refine AllReadyH.cons (o:=⟨some 107,_,_,_,_,_⟩) rfl (fun K hK=>?_) AllReadyH.nil
     refine step_pushC (w0:=W.drew) (y:=(0,0)) (v:=.slice A1 j cA) (l:=madeC cl j) rfl (.tmp 104) (.tmp 106) rfl rfl rfl rfl HAK.out rfl HLEN.out (by omega) (Nat.zero_le _) ?_
     intro g c6 w6 hp
     have HPU:=Lib.hid hp
     have f1:Fr (fun k=>(Value.slice A1 j cA).ownBlock = some k) W.drew w6:=Fr.grown hp.2.1 (fun i e=>e)
     have hb6:Blk w6 F TW (fcells (fJ F (lx,ly,lz) X Y Z (.slice A1 j cA) (madeC cl j))):=f1.blk HFM2.out.blk HNF.out
     have HB6:=Lib.hid (show Blk w6 wr.heap.size TC [.int .u8 0,.int .u8 0] from f1.blk HC.out HNC.out)
     have c6':w6.cell? ⟨F,6,none⟩ = some (.slice A1 j cA):=hb6.cell (i:=6) rfl
     have z6:=hb6.frozen 6
     clear hp f1 hb6
     refine hK.out _ _ (HB6.out) (fun hHeld=>?_)
     clear hK K
     refine wpAnyH_take (i:=9) (oi:=⟨some 108,_,_,_,_,_⟩) (v:=.pointer (some ⟨F,0,none⟩)) rfl (by kernel_rfl) (by kernel_rfl) (by kernel_rfl) (fun _ _ _ h=>h) (Or.inl ⟨by rfl,fun Xw hSW=>by go_simp⟩) hHeld ?_
     simp only [Act.put,List.setIfInBounds_toArray,List.set_cons_zero,List.set_cons_succ]
     refine wpAnyH_take (i:=10) (oi:=⟨some 109,_,_,_,_,_⟩) (v:=.pointer (some ⟨F,3,none⟩)) rfl (by kernel_rfl) (by kernel_rfl) (by kernel_rfl) (fun _ _ _ h=>h) (Or.inl ⟨by rfl,fun Xw hSW=>by go_simp⟩) hHeld ?_
     simp only [Act.put,List.setIfInBounds_toArray,List.set_cons_zero,List.set_cons_succ]
     refine wpAnyH_take (i:=11) (oi:=⟨some 110,_,_,_,_,_⟩) (v:=.pointer (some ⟨F,6,none⟩)) rfl (by kernel_rfl) (by kernel_rfl) (by kernel_rfl) (fun _ _ _ h=>h) (Or.inl ⟨by rfl,fun Xw hSW=>by go_simp⟩) hHeld ?_
     simp only [Act.put,List.setIfInBounds_toArray,List.set_cons_zero,List.set_cons_succ]
     refine wpAnyH_ready (rs:=[12]) (by kernel_rfl) (by simp) ?_
     refine AllReadyH.cons (o:=⟨none,_,_,_,_,_⟩) rfl (fun K hK=>?_) AllReadyH.nil
     go_simp
     refine hK.out _ _ (by have q:=HB6.out; have e:=HFL.out; have e2:=HNCF.out; (repeat' (first | (with_reducible exact q) | (with_reducible refine BlkP.Blk.drew ?_) | (with_reducible refine BlkP.Blk.drewN ?_ _) | (with_reducible refine BlkP.Blk.setAt (us:=?_) (by first | omega | (simp; done) | (simp; omega)) rfl ?_ ?_) | (with_reducible refine BlkP.Blk.otherAt ?_ (by first | omega | (simp; done) | (simp; omega))) | (with_reducible refine BlkP.Blk.newA' (by first | omega | (simp; done) | (simp; omega)) rfl) | (with_reducible refine BlkP.Blk.alloc ?_ _) | (exact rfl)))) (fun hHeld=>?_)
     clear hK K
     refine wpAnyH_done (by kernel_rfl) ?_ _
     refine NoPanic.normal ?_
     clear hHeld c6' z6
     have hpc:=FldM.pushC (w0:=W) HFM2.out (y:=(0,0)) ⟨HPU.out.1,⟨HPU.out.2.1.os,HPU.out.2.1.tape,HPU.out.2.1.output,HPU.out.2.1.size,HPU.out.2.1.block⟩,HPU.out.2.2⟩
     have HPC:=Lib.hid hpc
     clear hpc
     go_wp2_with fail
     go_roundw
     case rel =>
      refine ⟨j + 1,.slice (some ⟨g,0,none⟩) (j + 1) c6,by first | rfl | rw [HWR.out] | (congr 1; omega),by omega,?_,fun k hk=>?_,HBW.out.trans ?_⟩
      ·rw [madeC_next,HPK.out]
       exact HPC.out.1
      ·have hk':g = k:=by simpa [Value.ownBlock] using hk
       subst hk'
       rcases HPU.out.2.2 with q | q
       ·exact HNEW.out g q
       ·have q2:W.heap.size≤g:=q
        have:=HBW.out.size
        omega
      ·refine (HPC.out.2.toBelow (B:=w.heap.size) HBW.out.size (fun i hi=>?_))
       rcases hi with e | e
       ·have e':i = F:=e
        have:=HFE.out
        omega
       ·exact HNEW.out i e
     case measure =>
      simp only [intOf]
      omega
   ·obtain ⟨t,ht⟩:∃ t,j % m = t:=⟨_,rfl⟩
    have htm:t < m:=by rw [← ht]; exact Nat.mod_lt _ (by omega)
    have n1:(j:Int).tmod m = (t:Int):=remF ht
    obtain ⟨⟨k,l⟩,hkl⟩:∃ x,cl[t]? = some x:=⟨_,List.getElem?_eq_getElem (by rw [HM.out]; exact htm)⟩
    obtain ⟨rb,ro,hA,hrl,hcell⟩:=HR.out.at hkl
    subst hA
    have hrw:wr.cell? ⟨rb,ro + t * 2,none⟩ = some (.int .u8 (k:Int)):=(HBR.out.cell (p:=⟨rb,ro + t * 2,none⟩) hrl).trans (hcell 0 _ rfl)
    have hrw1:wr.cell? ⟨rb,ro + t * 2 + 1,none⟩ = some (.int .u8 (l:Int)):=(HBR.out.cell (p:=⟨rb,ro + t * 2 + 1,none⟩) hrl).trans (hcell 1 _ rfl)
    have HPA:=Lib.hid (pickC_at (cl:=cl) (i:=j) (x:=(k,l)) (by rw [HM.out,ht]; exact hkl))
    have hmI:(0:Int) < m:=by omega
    have hmN:0 < m:=by omega
    have htI:(t:Int) < m:=by omega
    have hmz:¬ (m:Int) = 0:=by omega
    have hrb:rb < wr.heap.size:=Nat.lt_of_lt_of_le hrl HBR.out.size
    clear ht hkl hcell
    obtain ⟨mb,hmb⟩:∃ mb,KindP.may k l = mb:=⟨_,rfl⟩
    have HMB:=Lib.hid hmb
    go_wp2_with fail
    go_at_call 23
    refine calls_named (S:=fun W=>Below wr.heap.size wr W∧Blk W wr.heap.size TC [.int .u8 0,.int .u8 0]) ⟨by (repeat' (first | (with_reducible exact Below.refl _ _) | (with_reducible refine Below.setCell ?_ (by (first | omega | (simp; done) | (simp; omega))) _) | (with_reducible refine Below.alloc ?_ (by (first | omega | (simp; done) | (simp; omega))) _) | (with_reducible refine Below.drew ?_) | (with_reducible refine below_drewN ?_ _))),by (repeat' (first | (with_reducible refine BlkP.Blk.drew ?_) | (with_reducible refine BlkP.Blk.drewN ?_ _) | (with_reducible refine BlkP.Blk.setAt (us:=?_) (by first | omega | (simp; done) | (simp; omega)) rfl ?_ ?_) | (with_reducible refine BlkP.Blk.otherAt ?_ (by first | omega | (simp; done) | (simp; omega))) | (with_reducible refine BlkP.Blk.newA' (by first | omega | (simp; done) | (simp; omega)) rfl) | (with_reducible refine BlkP.Blk.alloc ?_ _) | (exact rfl)))⟩ ?_
    rintro W3 ⟨hb3,hc3⟩
    refine (KindW.r_may_b hmb W3).mono ?_
    rintro e W4 ⟨rfl,hb4⟩
    have HB4:=Lib.hid (hb3.trans (hb4.mono hb3.size))
    have HC4:=Lib.hid (hc3.below hb4)
    have g0:=HC4.out.cell (i:=0) rfl
    have g1:=HC4.out.cell (i:=1) rfl
    have z0:=HC4.out.frozen 0
    have z1:=HC4.out.frozen 1
    have r0:W4.cell? ⟨rb,ro + t * 2,none⟩ = some (.int .u8 (k:Int)):=(HB4.out.cell (p:=⟨rb,ro + t * 2,none⟩) hrb).trans hrw
    have r1:W4.cell? ⟨rb,ro + t * 2 + 1,none⟩ = some (.int .u8 (l:Int)):=(HB4.out.cell (p:=⟨rb,ro + t * 2 + 1,none⟩) hrb).trans hrw1
    have hwl:=HC4.out.lt
    clear hmb hb3 hc3 hb4 hrw hrw1
    cases mb with
    | true =>
     have HPK:=Lib.hid (show pickC cl j = (k,l) by rw [HPA.out,if_pos HMB.out])
     go_wp2_with fail
     clear g0 g1 z0 z1 r0 r1
     refine HeldP.wp_named (S:=fun W=>Blk W wr.heap.size TC [.int .u8 (k:Int),.int .u8 (l:Int)]∧FldM W (fJ F (lx,ly,lz) X Y Z (.slice A1 j cA) (madeC cl j))∧Below w.heap.size w W) ⟨by have q:=HC4.out; (repeat' (first | (with_reducible exact q) | (with_reducible refine BlkP.Blk.drew ?_) | (with_reducible refine BlkP.Blk.drewN ?_ _) | (with_reducible refine BlkP.Blk.setAt (us:=?_) (by first | omega | (simp; done) | (simp; omega)) rfl ?_ ?_) | (with_reducible refine BlkP.Blk.otherAt ?_ (by first | omega | (simp; done) | (simp; omega))) | (with_reducible refine BlkP.Blk.newA' (by first | omega | (simp; done) | (simp; omega)) rfl) | (with_reducible refine BlkP.Blk.alloc ?_ _) | (exact rfl))),HFM.out.below (HB4.out.trans (by (repeat' (first | (with_reducible exact Below.refl _ _) | (with_reducible refine Below.setCell ?_ (by (first | omega | (simp; done) | (simp; omega))) _) | (with_reducible refine Below.alloc ?_ (by (first | omega | (simp; done) | (simp; omega))) _) | (with_reducible refine Below.drew ?_) | (with_reducible refine below_drewN ?_ _))))),HBR.out.trans ((HB4.out.trans (show Below wr.heap.size W4 _ by (repeat' (first | (with_reducible exact Below.refl _ _) | (with_reducible refine Below.setCell ?_ (by (first | omega | (simp; done) | (simp; omega))) _) | (with_reducible refine Below.alloc ?_ (by (first | omega | (simp; done) | (simp; omega))) _) | (with_reducible refine Below.drew ?_) | (with_reducible refine below_drewN ?_ _))))).mono HBR.out.size)⟩ ?_
     rintro W ⟨hc,hfm,hbw⟩
     have HC:=Lib.hid hc
     have HFM2:=Lib.hid hfm
     have HBW:=Lib.hid hbw
     have HAK:=Lib.hid (show RowG.Own enc2 TC W.drew 0 (.slice A1 j cA) (madeC cl j) from hfm.cs)
     have HC8F:=Lib.hid (show W.cell? ⟨F,6,none⟩ = some (.slice A1 j cA) from hfm.blk.cell (i:=6) rfl)
     have HFL:=Lib.hid (show F < W.heap.size from hfm.blk.lt)
     have HNF:=Lib.hid (show ¬ (Value.slice A1 j cA).ownBlock = some F from fun e=>by
      obtain ⟨us,hu⟩:=own_cells hfm.cs e
      exact Blk.ne hu hfm.blk (by decide) rfl)
     have HNC:=Lib.hid (show ¬ (Value.slice A1 j cA).ownBlock = some wr.heap.size from fun e=>by
      have:=(HFM.out.cs.ge _ e).2
      omega)
     clear hc hfm hbw
     refine wp_region_noPanic ?_
     refine wp_region_held_drew (S:=fun Xw=>Blk Xw wr.heap.size TC [.int .u8 (k:Int),.int .u8 (l:Int)]) (by kernel_rfl) (HC.out) (fun hHeld=>?_)
     refine wpAnyH_take (i:=0) (oi:=⟨some 99,_,_,_,_,_⟩) (v:=.pointer (some ⟨F,0,none⟩)) rfl (by kernel_rfl) (by kernel_rfl) (by kernel_rfl) (fun _ _ _ h=>h) (Or.inl ⟨by rfl,fun Xw hSW=>by go_simp⟩) hHeld ?_
     simp only [Act.put,List.setIfInBounds_toArray,List.set_cons_zero,List.set_cons_succ]
     refine wpAnyH_take (i:=1) (oi:=⟨some 100,_,_,_,_,_⟩) (v:=.pointer (some ⟨F,0,none⟩)) rfl (by kernel_rfl) (by kernel_rfl) (by kernel_rfl) (fun _ _ _ h=>h) (Or.inl ⟨by rfl,fun Xw hSW=>by go_simp⟩) hHeld ?_
     simp only [Act.put,List.setIfInBounds_toArray,List.set_cons_zero,List.set_cons_succ]
     refine wpAnyH_take (i:=2) (oi:=⟨some 101,_,_,_,_,_⟩) (v:=.pointer (some ⟨F,0,none⟩)) rfl (by kernel_rfl) (by kernel_rfl) (by kernel_rfl) (fun _ _ _ h=>h) (Or.inl ⟨by rfl,fun Xw hSW=>by go_simp⟩) hHeld ?_
     simp only [Act.put,List.setIfInBounds_toArray,List.set_cons_zero,List.set_cons_succ]
     refine wpAnyH_take (i:=3) (oi:=⟨some 102,_,_,_,_,_⟩) (v:=.pointer (some ⟨F,3,none⟩)) rfl (by kernel_rfl) (by kernel_rfl) (by kernel_rfl) (fun _ _ _ h=>h) (Or.inl ⟨by rfl,fun Xw hSW=>by go_simp⟩) hHeld ?_
     simp only [Act.put,List.setIfInBounds_toArray,List.set_cons_zero,List.set_cons_succ]
     refine wpAnyH_take (i:=4) (oi:=⟨some 103,_,_,_,_,_⟩) (v:=.pointer (some ⟨F,6,none⟩)) rfl (by kernel_rfl) (by kernel_rfl) (by kernel_rfl) (fun _ _ _ h=>h) (Or.inl ⟨by rfl,fun Xw hSW=>by go_simp⟩) hHeld ?_
     simp only [Act.put,List.setIfInBounds_toArray,List.set_cons_zero,List.set_cons_succ]
     refine wpAnyH_take (i:=6) (oi:=⟨some 105,_,_,_,_,_⟩) (v:=.agg #[.int .u8 (k:Int),.int .u8 (l:Int)]) rfl (by kernel_rfl) (by kernel_rfl) (by kernel_rfl) (fun _ _ _ h=>h) (Or.inl ⟨by rfl,fun Xw hSW=>by have b0:=hSW.cell (i:=0) rfl; have b1:=hSW.cell (i:=1) rfl; go_simp⟩) hHeld ?_
     simp only [Act.put,List.setIfInBounds_toArray,List.set_cons_zero,List.set_cons_succ]
     have c8:W.cell? ⟨F,6,none⟩ = some (.slice A1 j cA):=HC8F.out
     have HNCF:=Lib.hid (show F ≠ wr.heap.size from fun e=>by have:=HFM.out.blk.lt; have e2:F < wr.heap.size:=this; omega)
     refine wpAnyH_ready (rs:=[5,7]) (by kernel_rfl) (by simp) ?_
     refine AllReadyH.cons (o:=⟨some 104,_,_,_,_,_⟩) rfl (fun K hK=>?_) (AllReadyH.cons (o:=⟨some 106,_,_,_,_,_⟩) rfl (fun K hK=>?_) AllReadyH.nil)
     ·go_simp
      refine hK.out _ _ (hHeld) (fun hHeld=>?_)
      clear hK K
      refine wpAnyH_ready (rs:=[7]) (by kernel_rfl) (by simp) ?_
      refine AllReadyH.cons (o:=⟨some 106,_,_,_,_,_⟩) rfl (fun K hK=>?_) AllReadyH.nil
      go_simp
      refine hK.out _ _ (by have q:=HC.out; (repeat' (first | (with_reducible exact q) | (with_reducible refine BlkP.Blk.drew ?_) | (with_reducible refine BlkP.Blk.drewN ?_ _) | (with_reducible refine BlkP.Blk.setAt (us:=?_) (by first | omega | (simp; done) | (simp; omega)) rfl ?_ ?_) | (with_reducible refine BlkP.Blk.otherAt ?_ (by first | omega | (simp; done) | (simp; omega))) | (with_reducible refine BlkP.Blk.newA' (by first | omega | (simp; done) | (simp; omega)) rfl) | (with_reducible refine BlkP.Blk.alloc ?_ _) | (exact rfl)))) (fun hHeld=>?_)
      clear hK K
      refine wpAnyH_ready (rs:=[8]) (by kernel_rfl) (by simp) ?_
      refine AllReadyH.cons (o:=⟨some 107,_,_,_,_,_⟩) rfl (fun K hK=>?_) AllReadyH.nil
      refine step_pushC (w0:=W.drew) (y:=(k,l)) (v:=.slice A1 j cA) (l:=madeC cl j) rfl (.tmp 104) (.tmp 106) rfl rfl rfl rfl HAK.out rfl HLEN.out (by omega) (Nat.zero_le _) ?_
      intro g c6 w6 hp
      have HPU:=Lib.hid hp
      have f1:Fr (fun k=>(Value.slice A1 j cA).ownBlock = some k) W.drew w6:=Fr.grown hp.2.1 (fun i e=>e)
      have hb6:Blk w6 F TW (fcells (fJ F (lx,ly,lz) X Y Z (.slice A1 j cA) (madeC cl j))):=f1.blk HFM2.out.blk HNF.out
      have HB6:=Lib.hid (show Blk w6 wr.heap.size TC [.int .u8 (k:Int),.int .u8 (l:Int)] from f1.blk HC.out HNC.out)
      have c6':w6.cell? ⟨F,6,none⟩ = some (.slice A1 j cA):=hb6.cell (i:=6) rfl
      have z6:=hb6.frozen 6
      clear hp f1 hb6
      refine hK.out _ _ (HB6.out) (fun hHeld=>?_)
      clear hK K
      refine wpAnyH_take (i:=9) (oi:=⟨some 108,_,_,_,_,_⟩) (v:=.pointer (some ⟨F,0,none⟩)) rfl (by kernel_rfl) (by kernel_rfl) (by kernel_rfl) (fun _ _ _ h=>h) (Or.inl ⟨by rfl,fun Xw hSW=>by go_simp⟩) hHeld ?_
      simp only [Act.put,List.setIfInBounds_toArray,List.set_cons_zero,List.set_cons_succ]
      refine wpAnyH_take (i:=10) (oi:=⟨some 109,_,_,_,_,_⟩) (v:=.pointer (some ⟨F,3,none⟩)) rfl (by kernel_rfl) (by kernel_rfl) (by kernel_rfl) (fun _ _ _ h=>h) (Or.inl ⟨by rfl,fun Xw hSW=>by go_simp⟩) hHeld ?_
      simp only [Act.put,List.setIfInBounds_toArray,List.set_cons_zero,List.set_cons_succ]
      refine wpAnyH_take (i:=11) (oi:=⟨some 110,_,_,_,_,_⟩) (v:=.pointer (some ⟨F,6,none⟩)) rfl (by kernel_rfl) (by kernel_rfl) (by kernel_rfl) (fun _ _ _ h=>h) (Or.inl ⟨by rfl,fun Xw hSW=>by go_simp⟩) hHeld ?_
      simp only [Act.put,List.setIfInBounds_toArray,List.set_cons_zero,List.set_cons_succ]
      refine wpAnyH_ready (rs:=[12]) (by kernel_rfl) (by simp) ?_
      refine AllReadyH.cons (o:=⟨none,_,_,_,_,_⟩) rfl (fun K hK=>?_) AllReadyH.nil
      go_simp
      refine hK.out _ _ (by have q:=HB6.out; have e:=HFL.out; have e2:=HNCF.out; (repeat' (first | (with_reducible exact q) | (with_reducible refine BlkP.Blk.drew ?_) | (with_reducible refine BlkP.Blk.drewN ?_ _) | (with_reducible refine BlkP.Blk.setAt (us:=?_) (by first | omega | (simp; done) | (simp; omega)) rfl ?_ ?_) | (with_reducible refine BlkP.Blk.otherAt ?_ (by first | omega | (simp; done) | (simp; omega))) | (with_reducible refine BlkP.Blk.newA' (by first | omega | (simp; done) | (simp; omega)) rfl) | (with_reducible refine BlkP.Blk.alloc ?_ _) | (exact rfl)))) (fun hHeld=>?_)
      clear hK K
      refine wpAnyH_done (by kernel_rfl) ?_ _
      refine NoPanic.normal ?_
      clear hHeld c6' z6
      have hpc:=FldM.pushC (w0:=W) HFM2.out (y:=(k,l)) ⟨HPU.out.1,⟨HPU.out.2.1.os,HPU.out.2.1.tape,HPU.out.2.1.output,HPU.out.2.1.size,HPU.out.2.1.block⟩,HPU.out.2.2⟩
      have HPC:=Lib.hid hpc
      clear hpc
      go_wp2_with fail
      go_roundw
      case rel =>
       refine ⟨j + 1,.slice (some ⟨g,0,none⟩) (j + 1) c6,by first | rfl | rw [HWR.out] | (congr 1; omega),by omega,?_,fun k hk=>?_,HBW.out.trans ?_⟩
       ·rw [madeC_next,HPK.out]
        exact HPC.out.1
       ·have hk':g = k:=by simpa [Value.ownBlock] using hk
        subst hk'
        rcases HPU.out.2.2 with q | q
        ·exact HNEW.out g q
        ·have q2:W.heap.size≤g:=q
         have:=HBW.out.size
         omega
       ·refine (HPC.out.2.toBelow (B:=w.heap.size) HBW.out.size (fun i hi=>?_))
        rcases hi with e | e
        ·have e':i = F:=e
         have:=HFE.out
         omega
        ·exact HNEW.out i e
      case measure =>
       simp only [intOf]
       omega
     ·go_simp
      refine hK.out _ _ (by have q:=HC.out; (repeat' (first | (with_reducible exact q) | (with_reducible refine BlkP.Blk.drew ?_) | (with_reducible refine BlkP.Blk.drewN ?_ _) | (with_reducible refine BlkP.Blk.setAt (us:=?_) (by first | omega | (simp; done) | (simp; omega)) rfl ?_ ?_) | (with_reducible refine BlkP.Blk.otherAt ?_ (by first | omega | (simp; done) | (simp; omega))) | (with_reducible refine BlkP.Blk.newA' (by first | omega | (simp; done) | (simp; omega)) rfl) | (with_reducible refine BlkP.Blk.alloc ?_ _) | (exact rfl)))) (fun hHeld=>?_)
      clear hK K
      have c8':(W.alloc (.cells #[.int .u8 (k:Int),.int .u8 (l:Int)] TC)).cell? ⟨F,6,none⟩ = some (.slice A1 j cA):=by have q:=HC8F.out; have hl:=HFL.out; (repeat' (first | (with_reducible assumption) | (with_reducible refine HeldP.c_drew ?_) | (with_reducible refine HeldP.c_drewN ?_) | (with_reducible refine HeldP.c_same (by omega) ?_) | (with_reducible refine HeldP.c_other ?_ ?_) | (with_reducible refine HeldP.c_new (by first | omega | (simp; done) | (simp; omega)) ?_) | (with_reducible refine HeldP.c_alloc ?_ ?_) | (with_reducible refine HeldP.e_drew ?_) | (with_reducible refine HeldP.e_drewN ?_) | (with_reducible refine HeldP.e_set ?_) | (with_reducible refine HeldP.e_new (by first | omega | (simp; done) | (simp; omega)) ⟨_,rfl⟩) | (with_reducible refine HeldP.e_alloc ?_ ?_) | (with_reducible refine HeldP.f_drew ?_) | (with_reducible refine HeldP.f_drewN ?_) | (with_reducible refine HeldP.f_set ?_) | (with_reducible refine HeldP.f_new (by first | omega | (simp; done) | (simp; omega))) | (with_reducible refine HeldP.f_alloc ?_ ?_) | (with_reducible refine HeldP.s_drew ?_) | (with_reducible refine HeldP.s_drewN ?_) | (with_reducible refine HeldP.s_set ?_) | (with_reducible refine HeldP.s_new (by first | omega | (simp; done) | (simp; omega))) | (with_reducible refine HeldP.s_alloc ?_) | (with_reducible exact ⟨_,by assumption⟩) | omega | (intro e; simp at e; done) | (intro e; simp at e; omega) | (exact rfl) | (simp; done) | (simp; omega)))
      refine wpAnyH_ready (rs:=[5]) (by kernel_rfl) (by simp) ?_
      refine AllReadyH.cons (o:=⟨some 104,_,_,_,_,_⟩) rfl (fun K hK=>?_) AllReadyH.nil
      go_simp
      refine hK.out _ _ (hHeld) (fun hHeld=>?_)
      clear hK K
      refine wpAnyH_ready (rs:=[8]) (by kernel_rfl) (by simp) ?_
      refine AllReadyH.cons (o:=⟨some 107,_,_,_,_,_⟩) rfl (fun K hK=>?_) AllReadyH.nil
      refine step_pushC (w0:=W.drew) (y:=(k,l)) (v:=.slice A1 j cA) (l:=madeC cl j) rfl (.tmp 104) (.tmp 106) rfl rfl rfl rfl HAK.out rfl HLEN.out (by omega) (Nat.zero_le _) ?_
      intro g c6 w6 hp
      have HPU:=Lib.hid hp
      have f1:Fr (fun k=>(Value.slice A1 j cA).ownBlock = some k) W.drew w6:=Fr.grown hp.2.1 (fun i e=>e)
      have hb6:Blk w6 F TW (fcells (fJ F (lx,ly,lz) X Y Z (.slice A1 j cA) (madeC cl j))):=f1.blk HFM2.out.blk HNF.out
      have HB6:=Lib.hid (show Blk w6 wr.heap.size TC [.int .u8 (k:Int),.int .u8 (l:Int)] from f1.blk HC.out HNC.out)
      have c6':w6.cell? ⟨F,6,none⟩ = some (.slice A1 j cA):=hb6.cell (i:=6) rfl
      have z6:=hb6.frozen 6
      clear hp f1 hb6
      refine hK.out _ _ (HB6.out) (fun hHeld=>?_)
      clear hK K
      refine wpAnyH_take (i:=9) (oi:=⟨some 108,_,_,_,_,_⟩) (v:=.pointer (some ⟨F,0,none⟩)) rfl (by kernel_rfl) (by kernel_rfl) (by kernel_rfl) (fun _ _ _ h=>h) (Or.inl ⟨by rfl,fun Xw hSW=>by go_simp⟩) hHeld ?_
      simp only [Act.put,List.setIfInBounds_toArray,List.set_cons_zero,List.set_cons_succ]
      refine wpAnyH_take (i:=10) (oi:=⟨some 109,_,_,_,_,_⟩) (v:=.pointer (some ⟨F,3,none⟩)) rfl (by kernel_rfl) (by kernel_rfl) (by kernel_rfl) (fun _ _ _ h=>h) (Or.inl ⟨by rfl,fun Xw hSW=>by go_simp⟩) hHeld ?_
      simp only [Act.put,List.setIfInBounds_toArray,List.set_cons_zero,List.set_cons_succ]
      refine wpAnyH_take (i:=11) (oi:=⟨some 110,_,_,_,_,_⟩) (v:=.pointer (some ⟨F,6,none⟩)) rfl (by kernel_rfl) (by kernel_rfl) (by kernel_rfl) (fun _ _ _ h=>h) (Or.inl ⟨by rfl,fun Xw hSW=>by go_simp⟩) hHeld ?_
      simp only [Act.put,List.setIfInBounds_toArray,List.set_cons_zero,List.set_cons_succ]
      refine wpAnyH_ready (rs:=[12]) (by kernel_rfl) (by simp) ?_
      refine AllReadyH.cons (o:=⟨none,_,_,_,_,_⟩) rfl (fun K hK=>?_) AllReadyH.nil
      go_simp
      refine hK.out _ _ (by have q:=HB6.out; have e:=HFL.out; have e2:=HNCF.out; (repeat' (first | (with_reducible exact q) | (with_reducible refine BlkP.Blk.drew ?_) | (with_reducible refine BlkP.Blk.drewN ?_ _) | (with_reducible refine BlkP.Blk.setAt (us:=?_) (by first | omega | (simp; done) | (simp; omega)) rfl ?_ ?_) | (with_reducible refine BlkP.Blk.otherAt ?_ (by first | omega | (simp; done) | (simp; omega))) | (with_reducible refine BlkP.Blk.newA' (by first | omega | (simp; done) | (simp; omega)) rfl) | (with_reducible refine BlkP.Blk.alloc ?_ _) | (exact rfl)))) (fun hHeld=>?_)
      clear hK K
      refine wpAnyH_done (by kernel_rfl) ?_ _
      refine NoPanic.normal ?_
      clear hHeld c6' z6
      have hpc:=FldM.pushC (w0:=W) HFM2.out (y:=(k,l)) ⟨HPU.out.1,⟨HPU.out.2.1.os,HPU.out.2.1.tape,HPU.out.2.1.output,HPU.out.2.1.size,HPU.out.2.1.block⟩,HPU.out.2.2⟩
      have HPC:=Lib.hid hpc
      clear hpc
      go_wp2_with fail
      go_roundw
      case rel =>
       refine ⟨j + 1,.slice (some ⟨g,0,none⟩) (j + 1) c6,by first | rfl | rw [HWR.out] | (congr 1; omega),by omega,?_,fun k hk=>?_,HBW.out.trans ?_⟩
       ·rw [madeC_next,HPK.out]
        exact HPC.out.1
       ·have hk':g = k:=by simpa [Value.ownBlock] using hk
        subst hk'
        rcases HPU.out.2.2 with q | q
        ·exact HNEW.out g q
        ·have q2:W.heap.size≤g:=q
         have:=HBW.out.size
         omega
       ·refine (HPC.out.2.toBelow (B:=w.heap.size) HBW.out.size (fun i hi=>?_))
        rcases hi with e | e
        ·have e':i = F:=e
         have:=HFE.out
         omega
        ·exact HNEW.out i e
      case measure =>
       simp only [intOf]
       omega
    | false =>
     have HPK:=Lib.hid (show pickC cl j = ((0:Nat),(0:Nat)) by rw [HPA.out,if_neg (by rw [HMB.out]; simp)])
     go_wp2_with fail
     clear g0 g1 z0 z1 r0 r1
     refine HeldP.wp_named (S:=fun W=>Blk W wr.heap.size TC [.int .u8 0,.int .u8 0]∧FldM W (fJ F (lx,ly,lz) X Y Z (.slice A1 j cA) (madeC cl j))∧Below w.heap.size w W) ⟨HC4.out,HFM.out.below HB4.out,HBR.out.trans (HB4.out.mono HBR.out.size)⟩ ?_
     rintro W ⟨hc,hfm,hbw⟩
     have HC:=Lib.hid hc
     have HFM2:=Lib.hid hfm
     have HBW:=Lib.hid hbw
     have HAK:=Lib.hid (show RowG.Own enc2 TC W.drew 0 (.slice A1 j cA) (madeC cl j) from hfm.cs)
     have HC8F:=Lib.hid (show W.cell? ⟨F,6,none⟩ = some (.slice A1 j cA) from hfm.blk.cell (i:=6) rfl)
     have HFL:=Lib.hid (show F < W.heap.size from hfm.blk.lt)
     have HNF:=Lib.hid (show ¬ (Value.slice A1 j cA).ownBlock = some F from fun e=>by
      obtain ⟨us,hu⟩:=own_cells hfm.cs e
      exact Blk.ne hu hfm.blk (by decide) rfl)
     have HNC:=Lib.hid (show ¬ (Value.slice A1 j cA).ownBlock = some wr.heap.size from fun e=>by
      have:=(HFM.out.cs.ge _ e).2
      omega)
     clear hc hfm hbw
     refine wp_region_noPanic ?_
     refine wp_region_held_drew (S:=fun Xw=>Blk Xw wr.heap.size TC [.int .u8 0,.int .u8 0]) (by kernel_rfl) (HC.out) (fun hHeld=>?_)
     refine wpAnyH_take (i:=0) (oi:=⟨some 99,_,_,_,_,_⟩) (v:=.pointer (some ⟨F,0,none⟩)) rfl (by kernel_rfl) (by kernel_rfl) (by kernel_rfl) (fun _ _ _ h=>h) (Or.inl ⟨by rfl,fun Xw hSW=>by go_simp⟩) hHeld ?_
     simp only [Act.put,List.setIfInBounds_toArray,List.set_cons_zero,List.set_cons_succ]
     refine wpAnyH_take (i:=1) (oi:=⟨some 100,_,_,_,_,_⟩) (v:=.pointer (some ⟨F,0,none⟩)) rfl (by kernel_rfl) (by kernel_rfl) (by kernel_rfl) (fun _ _ _ h=>h) (Or.inl ⟨by rfl,fun Xw hSW=>by go_simp⟩) hHeld ?_
     simp only [Act.put,List.setIfInBounds_toArray,List.set_cons_zero,List.set_cons_succ]
     refine wpAnyH_take (i:=2) (oi:=⟨some 101,_,_,_,_,_⟩) (v:=.pointer (some ⟨F,0,none⟩)) rfl (by kernel_rfl) (by kernel_rfl) (by kernel_rfl) (fun _ _ _ h=>h) (Or.inl ⟨by rfl,fun Xw hSW=>by go_simp⟩) hHeld ?_
     simp only [Act.put,List.setIfInBounds_toArray,List.set_cons_zero,List.set_cons_succ]
     refine wpAnyH_take (i:=3) (oi:=⟨some 102,_,_,_,_,_⟩) (v:=.pointer (some ⟨F,3,none⟩)) rfl (by kernel_rfl) (by kernel_rfl) (by kernel_rfl) (fun _ _ _ h=>h) (Or.inl ⟨by rfl,fun Xw hSW=>by go_simp⟩) hHeld ?_
     simp only [Act.put,List.setIfInBounds_toArray,List.set_cons_zero,List.set_cons_succ]
     refine wpAnyH_take (i:=4) (oi:=⟨some 103,_,_,_,_,_⟩) (v:=.pointer (some ⟨F,6,none⟩)) rfl (by kernel_rfl) (by kernel_rfl) (by kernel_rfl) (fun _ _ _ h=>h) (Or.inl ⟨by rfl,fun Xw hSW=>by go_simp⟩) hHeld ?_
     simp only [Act.put,List.setIfInBounds_toArray,List.set_cons_zero,List.set_cons_succ]
     refine wpAnyH_take (i:=6) (oi:=⟨some 105,_,_,_,_,_⟩) (v:=.agg #[.int .u8 0,.int .u8 0]) rfl (by kernel_rfl) (by kernel_rfl) (by kernel_rfl) (fun _ _ _ h=>h) (Or.inl ⟨by rfl,fun Xw hSW=>by have b0:=hSW.cell (i:=0) rfl; have b1:=hSW.cell (i:=1) rfl; go_simp⟩) hHeld ?_
     simp only [Act.put,List.setIfInBounds_toArray,List.set_cons_zero,List.set_cons_succ]
     have c8:W.cell? ⟨F,6,none⟩ = some (.slice A1 j cA):=HC8F.out
     have HNCF:=Lib.hid (show F ≠ wr.heap.size from fun e=>by have:=HFM.out.blk.lt; have e2:F < wr.heap.size:=this; omega)
     refine wpAnyH_ready (rs:=[5,7]) (by kernel_rfl) (by simp) ?_
     refine AllReadyH.cons (o:=⟨some 104,_,_,_,_,_⟩) rfl (fun K hK=>?_) (AllReadyH.cons (o:=⟨some 106,_,_,_,_,_⟩) rfl (fun K hK=>?_) AllReadyH.nil)
     ·go_simp
      refine hK.out _ _ (hHeld) (fun hHeld=>?_)
      clear hK K
      refine wpAnyH_ready (rs:=[7]) (by kernel_rfl) (by simp) ?_
      refine AllReadyH.cons (o:=⟨some 106,_,_,_,_,_⟩) rfl (fun K hK=>?_) AllReadyH.nil
      go_simp
      refine hK.out _ _ (by have q:=HC.out; (repeat' (first | (with_reducible exact q) | (with_reducible refine BlkP.Blk.drew ?_) | (with_reducible refine BlkP.Blk.drewN ?_ _) | (with_reducible refine BlkP.Blk.setAt (us:=?_) (by first | omega | (simp; done) | (simp; omega)) rfl ?_ ?_) | (with_reducible refine BlkP.Blk.otherAt ?_ (by first | omega | (simp; done) | (simp; omega))) | (with_reducible refine BlkP.Blk.newA' (by first | omega | (simp; done) | (simp; omega)) rfl) | (with_reducible refine BlkP.Blk.alloc ?_ _) | (exact rfl)))) (fun hHeld=>?_)
      clear hK K
      refine wpAnyH_ready (rs:=[8]) (by kernel_rfl) (by simp) ?_
      refine AllReadyH.cons (o:=⟨some 107,_,_,_,_,_⟩) rfl (fun K hK=>?_) AllReadyH.nil
      refine step_pushC (w0:=W.drew) (y:=(0,0)) (v:=.slice A1 j cA) (l:=madeC cl j) rfl (.tmp 104) (.tmp 106) rfl rfl rfl rfl HAK.out rfl HLEN.out (by omega) (Nat.zero_le _) ?_
      intro g c6 w6 hp
      have HPU:=Lib.hid hp
      have f1:Fr (fun k=>(Value.slice A1 j cA).ownBlock = some k) W.drew w6:=Fr.grown hp.2.1 (fun i e=>e)
      have hb6:Blk w6 F TW (fcells (fJ F (lx,ly,lz) X Y Z (.slice A1 j cA) (madeC cl j))):=f1.blk HFM2.out.blk HNF.out
      have HB6:=Lib.hid (show Blk w6 wr.heap.size TC [.int .u8 0,.int .u8 0] from f1.blk HC.out HNC.out)
      have c6':w6.cell? ⟨F,6,none⟩ = some (.slice A1 j cA):=hb6.cell (i:=6) rfl
      have z6:=hb6.frozen 6
      clear hp f1 hb6
      refine hK.out _ _ (HB6.out) (fun hHeld=>?_)
      clear hK K
      refine wpAnyH_take (i:=9) (oi:=⟨some 108,_,_,_,_,_⟩) (v:=.pointer (some ⟨F,0,none⟩)) rfl (by kernel_rfl) (by kernel_rfl) (by kernel_rfl) (fun _ _ _ h=>h) (Or.inl ⟨by rfl,fun Xw hSW=>by go_simp⟩) hHeld ?_
      simp only [Act.put,List.setIfInBounds_toArray,List.set_cons_zero,List.set_cons_succ]
      refine wpAnyH_take (i:=10) (oi:=⟨some 109,_,_,_,_,_⟩) (v:=.pointer (some ⟨F,3,none⟩)) rfl (by kernel_rfl) (by kernel_rfl) (by kernel_rfl) (fun _ _ _ h=>h) (Or.inl ⟨by rfl,fun Xw hSW=>by go_simp⟩) hHeld ?_
      simp only [Act.put,List.setIfInBounds_toArray,List.set_cons_zero,List.set_cons_succ]
      refine wpAnyH_take (i:=11) (oi:=⟨some 110,_,_,_,_,_⟩) (v:=.pointer (some ⟨F,6,none⟩)) rfl (by kernel_rfl) (by kernel_rfl) (by kernel_rfl) (fun _ _ _ h=>h) (Or.inl ⟨by rfl,fun Xw hSW=>by go_simp⟩) hHeld ?_
      simp only [Act.put,List.setIfInBounds_toArray,List.set_cons_zero,List.set_cons_succ]
      refine wpAnyH_ready (rs:=[12]) (by kernel_rfl) (by simp) ?_
      refine AllReadyH.cons (o:=⟨none,_,_,_,_,_⟩) rfl (fun K hK=>?_) AllReadyH.nil
      go_simp
      refine hK.out _ _ (by have q:=HB6.out; have e:=HFL.out; have e2:=HNCF.out; (repeat' (first | (with_reducible exact q) | (with_reducible refine BlkP.Blk.drew ?_) | (with_reducible refine BlkP.Blk.drewN ?_ _) | (with_reducible refine BlkP.Blk.setAt (us:=?_) (by first | omega | (simp; done) | (simp; omega)) rfl ?_ ?_) | (with_reducible refine BlkP.Blk.otherAt ?_ (by first | omega | (simp; done) | (simp; omega))) | (with_reducible refine BlkP.Blk.newA' (by first | omega | (simp; done) | (simp; omega)) rfl) | (with_reducible refine BlkP.Blk.alloc ?_ _) | (exact rfl)))) (fun hHeld=>?_)
      clear hK K
      refine wpAnyH_done (by kernel_rfl) ?_ _
      refine NoPanic.normal ?_
      clear hHeld c6' z6
      have hpc:=FldM.pushC (w0:=W) HFM2.out (y:=(0,0)) ⟨HPU.out.1,⟨HPU.out.2.1.os,HPU.out.2.1.tape,HPU.out.2.1.output,HPU.out.2.1.size,HPU.out.2.1.block⟩,HPU.out.2.2⟩
      have HPC:=Lib.hid hpc
      clear hpc
      go_wp2_with fail
      go_roundw
      case rel =>
       refine ⟨j + 1,.slice (some ⟨g,0,none⟩) (j + 1) c6,by first | rfl | rw [HWR.out] | (congr 1; omega),by omega,?_,fun k hk=>?_,HBW.out.trans ?_⟩
       ·rw [madeC_next,HPK.out]
        exact HPC.out.1
       ·have hk':g = k:=by simpa [Value.ownBlock] using hk
        subst hk'
        rcases HPU.out.2.2 with q | q
        ·exact HNEW.out g q
        ·have q2:W.heap.size≤g:=q
         have:=HBW.out.size
         omega
       ·refine (HPC.out.2.toBelow (B:=w.heap.size) HBW.out.size (fun i hi=>?_))
        rcases hi with e | e
        ·have e':i = F:=e
         have:=HFE.out
         omega
        ·exact HNEW.out i e
      case measure =>
       simp only [intOf]
       omega
     ·go_simp
      refine hK.out _ _ (by have q:=HC.out; (repeat' (first | (with_reducible exact q) | (with_reducible refine BlkP.Blk.drew ?_) | (with_reducible refine BlkP.Blk.drewN ?_ _) | (with_reducible refine BlkP.Blk.setAt (us:=?_) (by first | omega | (simp; done) | (simp; omega)) rfl ?_ ?_) | (with_reducible refine BlkP.Blk.otherAt ?_ (by first | omega | (simp; done) | (simp; omega))) | (with_reducible refine BlkP.Blk.newA' (by first | omega | (simp; done) | (simp; omega)) rfl) | (with_reducible refine BlkP.Blk.alloc ?_ _) | (exact rfl)))) (fun hHeld=>?_)
      clear hK K
      have c8':(W.alloc (.cells #[.int .u8 0,.int .u8 0] TC)).cell? ⟨F,6,none⟩ = some (.slice A1 j cA):=by have q:=HC8F.out; have hl:=HFL.out; (repeat' (first | (with_reducible assumption) | (with_reducible refine HeldP.c_drew ?_) | (with_reducible refine HeldP.c_drewN ?_) | (with_reducible refine HeldP.c_same (by omega) ?_) | (with_reducible refine HeldP.c_other ?_ ?_) | (with_reducible refine HeldP.c_new (by first | omega | (simp; done) | (simp; omega)) ?_) | (with_reducible refine HeldP.c_alloc ?_ ?_) | (with_reducible refine HeldP.e_drew ?_) | (with_reducible refine HeldP.e_drewN ?_) | (with_reducible refine HeldP.e_set ?_) | (with_reducible refine HeldP.e_new (by first | omega | (simp; done) | (simp; omega)) ⟨_,rfl⟩) | (with_reducible refine HeldP.e_alloc ?_ ?_) | (with_reducible refine HeldP.f_drew ?_) | (with_reducible refine HeldP.f_drewN ?_) | (with_reducible refine HeldP.f_set ?_) | (with_reducible refine HeldP.f_new (by first | omega | (simp; done) | (simp; omega))) | (with_reducible refine HeldP.f_alloc ?_ ?_) | (with_reducible refine HeldP.s_drew ?_) | (with_reducible refine HeldP.s_drewN ?_) | (with_reducible refine HeldP.s_set ?_) | (with_reducible refine HeldP.s_new (by first | omega | (simp; done) | (simp; omega))) | (with_reducible refine HeldP.s_alloc ?_) | (with_reducible exact ⟨_,by assumption⟩) | omega | (intro e; simp at e; done) | (intro e; simp at e; omega) | (exact rfl) | (simp; done) | (simp; omega)))
      refine wpAnyH_ready (rs:=[5]) (by kernel_rfl) (by simp) ?_
      refine AllReadyH.cons (o:=⟨some 104,_,_,_,_,_⟩) rfl (fun K hK=>?_) AllReadyH.nil
      go_simp
      refine hK.out _ _ (hHeld) (fun hHeld=>?_)
      clear hK K
      refine wpAnyH_ready (rs:=[8]) (by kernel_rfl) (by simp) ?_
      refine AllReadyH.cons (o:=⟨some 107,_,_,_,_,_⟩) rfl (fun K hK=>?_) AllReadyH.nil
      refine step_pushC (w0:=W.drew) (y:=(0,0)) (v:=.slice A1 j cA) (l:=madeC cl j) rfl (.tmp 104) (.tmp 106) rfl rfl rfl rfl HAK.out rfl HLEN.out (by omega) (Nat.zero_le _) ?_
      intro g c6 w6 hp
      have HPU:=Lib.hid hp
      have f1:Fr (fun k=>(Value.slice A1 j cA).ownBlock = some k) W.drew w6:=Fr.grown hp.2.1 (fun i e=>e)
      have hb6:Blk w6 F TW (fcells (fJ F (lx,ly,lz) X Y Z (.slice A1 j cA) (madeC cl j))):=f1.blk HFM2.out.blk HNF.out
      have HB6:=Lib.hid (show Blk w6 wr.heap.size TC [.int .u8 0,.int .u8 0] from f1.blk HC.out HNC.out)
      have c6':w6.cell? ⟨F,6,none⟩ = some (.slice A1 j cA):=hb6.cell (i:=6) rfl
      have z6:=hb6.frozen 6
      clear hp f1 hb6
      refine hK.out _ _ (HB6.out) (fun hHeld=>?_)
      clear hK K
      refine wpAnyH_take (i:=9) (oi:=⟨some 108,_,_,_,_,_⟩) (v:=.pointer (some ⟨F,0,none⟩)) rfl (by kernel_rfl) (by kernel_rfl) (by kernel_rfl) (fun _ _ _ h=>h) (Or.inl ⟨by rfl,fun Xw hSW=>by go_simp⟩) hHeld ?_
      simp only [Act.put,List.setIfInBounds_toArray,List.set_cons_zero,List.set_cons_succ]
      refine wpAnyH_take (i:=10) (oi:=⟨some 109,_,_,_,_,_⟩) (v:=.pointer (some ⟨F,3,none⟩)) rfl (by kernel_rfl) (by kernel_rfl) (by kernel_rfl) (fun _ _ _ h=>h) (Or.inl ⟨by rfl,fun Xw hSW=>by go_simp⟩) hHeld ?_
      simp only [Act.put,List.setIfInBounds_toArray,List.set_cons_zero,List.set_cons_succ]
      refine wpAnyH_take (i:=11) (oi:=⟨some 110,_,_,_,_,_⟩) (v:=.pointer (some ⟨F,6,none⟩)) rfl (by kernel_rfl) (by kernel_rfl) (by kernel_rfl) (fun _ _ _ h=>h) (Or.inl ⟨by rfl,fun Xw hSW=>by go_simp⟩) hHeld ?_
      simp only [Act.put,List.setIfInBounds_toArray,List.set_cons_zero,List.set_cons_succ]
      refine wpAnyH_ready (rs:=[12]) (by kernel_rfl) (by simp) ?_
      refine AllReadyH.cons (o:=⟨none,_,_,_,_,_⟩) rfl (fun K hK=>?_) AllReadyH.nil
      go_simp
      refine hK.out _ _ (by have q:=HB6.out; have e:=HFL.out; have e2:=HNCF.out; (repeat' (first | (with_reducible exact q) | (with_reducible refine BlkP.Blk.drew ?_) | (with_reducible refine BlkP.Blk.drewN ?_ _) | (with_reducible refine BlkP.Blk.setAt (us:=?_) (by first | omega | (simp; done) | (simp; omega)) rfl ?_ ?_) | (with_reducible refine BlkP.Blk.otherAt ?_ (by first | omega | (simp; done) | (simp; omega))) | (with_reducible refine BlkP.Blk.newA' (by first | omega | (simp; done) | (simp; omega)) rfl) | (with_reducible refine BlkP.Blk.alloc ?_ _) | (exact rfl)))) (fun hHeld=>?_)
      clear hK K
      refine wpAnyH_done (by kernel_rfl) ?_ _
      refine NoPanic.normal ?_
      clear hHeld c6' z6
      have hpc:=FldM.pushC (w0:=W) HFM2.out (y:=(0,0)) ⟨HPU.out.1,⟨HPU.out.2.1.os,HPU.out.2.1.tape,HPU.out.2.1.output,HPU.out.2.1.size,HPU.out.2.1.block⟩,HPU.out.2.2⟩
      have HPC:=Lib.hid hpc
      clear hpc
      go_wp2_with fail
      go_roundw
      case rel =>
       refine ⟨j + 1,.slice (some ⟨g,0,none⟩) (j + 1) c6,by first | rfl | rw [HWR.out] | (congr 1; omega),by omega,?_,fun k hk=>?_,HBW.out.trans ?_⟩
       ·rw [madeC_next,HPK.out]
        exact HPC.out.1
       ·have hk':g = k:=by simpa [Value.ownBlock] using hk
        subst hk'
        rcases HPU.out.2.2 with q | q
        ·exact HNEW.out g q
        ·have q2:W.heap.size≤g:=q
         have:=HBW.out.size
         omega
       ·refine (HPC.out.2.toBelow (B:=w.heap.size) HBW.out.size (fun i hi=>?_))
        rcases hi with e | e
        ·have e':i = F:=e
         have:=HFE.out
         omega
        ·exact HNEW.out i e
      case measure =>
       simp only [intOf]
       omega
  ·have hje:j = n:=by omega
   have hjI:¬ (j:Int) < n:=by omega
   have HJE:=Lib.hid hje
   clear hje
   go_wp2_with fail
   refine wp_region_noPanic ?_
   refine wp_region_held_drew (S:=fun Xw=>Blk Xw F TW (fcells (fJ F (lx,ly,lz) X Y Z (.slice A1 j cA) (madeC cl j)))) (by kernel_rfl) (HFB.out) (fun hHeld=>?_)
   refine wpAnyH_take (i:=0) (oi:=⟨some 57,_,_,_,_,_⟩) (v:=.int .i64 (j:Int)) rfl (by kernel_rfl) (by kernel_rfl) (by kernel_rfl) (fun _ _ _ h=>h) (Or.inl ⟨by rfl,fun Xw hSW=>by go_simp⟩) hHeld ?_
   simp only [Act.put,List.setIfInBounds_toArray,List.set_cons_zero,List.set_cons_succ]
   refine wpAnyH_take (i:=1) (oi:=⟨some 58,_,_,_,_,_⟩) (v:=.pointer (some ⟨F,0,none⟩)) rfl (by kernel_rfl) (by kernel_rfl) (by kernel_rfl) (fun _ _ _ h=>h) (Or.inl ⟨by rfl,fun Xw hSW=>by go_simp⟩) hHeld ?_
   simp only [Act.put,List.setIfInBounds_toArray,List.set_cons_zero,List.set_cons_succ]
   refine wpAnyH_take (i:=2) (oi:=⟨some 59,_,_,_,_,_⟩) (v:=.pointer (some ⟨F,0,none⟩)) rfl (by kernel_rfl) (by kernel_rfl) (by kernel_rfl) (fun _ _ _ h=>h) (Or.inl ⟨by rfl,fun Xw hSW=>by go_simp⟩) hHeld ?_
   simp only [Act.put,List.setIfInBounds_toArray,List.set_cons_zero,List.set_cons_succ]
   refine wpAnyH_take (i:=3) (oi:=⟨some 60,_,_,_,_,_⟩) (v:=.pointer (some ⟨F,3,none⟩)) rfl (by kernel_rfl) (by kernel_rfl) (by kernel_rfl) (fun _ _ _ h=>h) (Or.inl ⟨by rfl,fun Xw hSW=>by go_simp⟩) hHeld ?_
   simp only [Act.put,List.setIfInBounds_toArray,List.set_cons_zero,List.set_cons_succ]
   refine wpAnyH_take (i:=4) (oi:=⟨some 61,_,_,_,_,_⟩) (v:=.pointer (some ⟨F,3,none⟩)) rfl (by kernel_rfl) (by kernel_rfl) (by kernel_rfl) (fun _ _ _ h=>h) (Or.inl ⟨by rfl,fun Xw hSW=>by go_simp⟩) hHeld ?_
   simp only [Act.put,List.setIfInBounds_toArray,List.set_cons_zero,List.set_cons_succ]
   refine wpAnyH_take (i:=5) (oi:=⟨some 62,_,_,_,_,_⟩) (v:=.int .i64 (X:Int)) rfl (by kernel_rfl) (by kernel_rfl) (by kernel_rfl) (fun _ _ _ h=>h) (Or.inl ⟨by rfl,fun Xw hSW=>by have c0:Xw.cell? ⟨F,3,none⟩ = some (.int .i64 (X:Int)):=hSW.cell (i:=3) rfl; go_simp⟩) hHeld ?_
   simp only [Act.put,List.setIfInBounds_toArray,List.set_cons_zero,List.set_cons_succ]
   refine wpAnyH_take (i:=6) (oi:=⟨some 63,_,_,_,_,_⟩) (v:=.pointer (some ⟨F,0,none⟩)) rfl (by kernel_rfl) (by kernel_rfl) (by kernel_rfl) (fun _ _ _ h=>h) (Or.inl ⟨by rfl,fun Xw hSW=>by go_simp⟩) hHeld ?_
   simp only [Act.put,List.setIfInBounds_toArray,List.set_cons_zero,List.set_cons_succ]
   refine wpAnyH_take (i:=7) (oi:=⟨some 64,_,_,_,_,_⟩) (v:=.pointer (some ⟨F,0,none⟩)) rfl (by kernel_rfl) (by kernel_rfl) (by kernel_rfl) (fun _ _ _ h=>h) (Or.inl ⟨by rfl,fun Xw hSW=>by go_simp⟩) hHeld ?_
   simp only [Act.put,List.setIfInBounds_toArray,List.set_cons_zero,List.set_cons_succ]
   refine wpAnyH_take (i:=8) (oi:=⟨some 65,_,_,_,_,_⟩) (v:=.pointer (some ⟨F,3,none⟩)) rfl (by kernel_rfl) (by kernel_rfl) (by kernel_rfl) (fun _ _ _ h=>h) (Or.inl ⟨by rfl,fun Xw hSW=>by go_simp⟩) hHeld ?_
   simp only [Act.put,List.setIfInBounds_toArray,List.set_cons_zero,List.set_cons_succ]
   refine wpAnyH_take (i:=9) (oi:=⟨some 66,_,_,_,_,_⟩) (v:=.pointer (some ⟨F,4,none⟩)) rfl (by kernel_rfl) (by kernel_rfl) (by kernel_rfl) (fun _ _ _ h=>h) (Or.inl ⟨by rfl,fun Xw hSW=>by go_simp⟩) hHeld ?_
   simp only [Act.put,List.setIfInBounds_toArray,List.set_cons_zero,List.set_cons_succ]
   refine wpAnyH_take (i:=10) (oi:=⟨some 67,_,_,_,_,_⟩) (v:=.int .i64 (Y:Int)) rfl (by kernel_rfl) (by kernel_rfl) (by kernel_rfl) (fun _ _ _ h=>h) (Or.inl ⟨by rfl,fun Xw hSW=>by have c1:Xw.cell? ⟨F,4,none⟩ = some (.int .i64 (Y:Int)):=hSW.cell (i:=4) rfl; go_simp⟩) hHeld ?_
   simp only [Act.put,List.setIfInBounds_toArray,List.set_cons_zero,List.set_cons_succ]
   refine wpAnyH_take (i:=11) (oi:=⟨some 68,_,_,_,_,_⟩) (v:=.int .i64 (xy:Int)) rfl (by kernel_rfl) (by kernel_rfl) (by kernel_rfl) (fun _ _ _ h=>h) (Or.inl ⟨by rfl,fun Xw hSW=>by go_simp; exact HXY.out⟩) hHeld ?_
   simp only [Act.put,List.setIfInBounds_toArray,List.set_cons_zero,List.set_cons_succ]
   refine wpAnyH_take (i:=12) (oi:=⟨some 69,_,_,_,_,_⟩) (v:=.pointer (some ⟨F,0,none⟩)) rfl (by kernel_rfl) (by kernel_rfl) (by kernel_rfl) (fun _ _ _ h=>h) (Or.inl ⟨by rfl,fun Xw hSW=>by go_simp⟩) hHeld ?_
   simp only [Act.put,List.setIfInBounds_toArray,List.set_cons_zero,List.set_cons_succ]
   refine wpAnyH_take (i:=13) (oi:=⟨some 70,_,_,_,_,_⟩) (v:=.pointer (some ⟨F,0,none⟩)) rfl (by kernel_rfl) (by kernel_rfl) (by kernel_rfl) (fun _ _ _ h=>h) (Or.inl ⟨by rfl,fun Xw hSW=>by go_simp⟩) hHeld ?_
   simp only [Act.put,List.setIfInBounds_toArray,List.set_cons_zero,List.set_cons_succ]
   refine wpAnyH_take (i:=14) (oi:=⟨some 71,_,_,_,_,_⟩) (v:=.pointer (some ⟨F,3,none⟩)) rfl (by kernel_rfl) (by kernel_rfl) (by kernel_rfl) (fun _ _ _ h=>h) (Or.inl ⟨by rfl,fun Xw hSW=>by go_simp⟩) hHeld ?_
   simp only [Act.put,List.setIfInBounds_toArray,List.set_cons_zero,List.set_cons_succ]
   refine wpAnyH_take (i:=15) (oi:=⟨some 72,_,_,_,_,_⟩) (v:=.pointer (some ⟨F,5,none⟩)) rfl (by kernel_rfl) (by kernel_rfl) (by kernel_rfl) (fun _ _ _ h=>h) (Or.inl ⟨by rfl,fun Xw hSW=>by go_simp⟩) hHeld ?_
   simp only [Act.put,List.setIfInBounds_toArray,List.set_cons_zero,List.set_cons_succ]
   refine wpAnyH_take (i:=16) (oi:=⟨some 73,_,_,_,_,_⟩) (v:=.int .i64 (Z:Int)) rfl (by kernel_rfl) (by kernel_rfl) (by kernel_rfl) (fun _ _ _ h=>h) (Or.inl ⟨by rfl,fun Xw hSW=>by have c2:Xw.cell? ⟨F,5,none⟩ = some (.int .i64 (Z:Int)):=hSW.cell (i:=5) rfl; go_simp⟩) hHeld ?_
   simp only [Act.put,List.setIfInBounds_toArray,List.set_cons_zero,List.set_cons_succ]
   refine wpAnyH_take (i:=17) (oi:=⟨some 74,_,_,_,_,_⟩) (v:=.int .i64 (n:Int)) rfl (by kernel_rfl) (by kernel_rfl) (by kernel_rfl) (fun _ _ _ h=>h) (Or.inl ⟨by rfl,fun Xw hSW=>by go_simp; exact HXZ.out⟩) hHeld ?_
   simp only [Act.put,List.setIfInBounds_toArray,List.set_cons_zero,List.set_cons_succ]
   refine wpAnyH_take (i:=18) (oi:=⟨some 75,_,_,_,_,_⟩) (v:=.bool false) rfl (by kernel_rfl) (by kernel_rfl) (by kernel_rfl) (fun _ _ _ h=>h) (Or.inl ⟨by rfl,fun Xw hSW=>by go_simp⟩) hHeld ?_
   simp only [Act.put,List.setIfInBounds_toArray,List.set_cons_zero,List.set_cons_succ]
   refine wpAnyH_done (by kernel_rfl) ?_ _
   refine NoPanic.normal ?_
   clear hHeld
   have hfc:FldC (fJ F (lx,ly,lz) X Y Z (.slice A1 j cA) (madeC cl j)):=⟨hXb,hYb,hZb,by have:=HBX.out; show -1048576≤lx∧lx + (X:Int)≤1048576; omega,by have:=HBY.out; show 0≤ly∧ly + (Y:Int)≤64; omega,by have:=HBZ.out; show -1048576≤lz∧lz + (Z:Int)≤1048576; omega,by show (madeC cl j).length = X * Y * Z; rw [madeC_len,HN.out,HJE.out],fun c hc=>by
    obtain ⟨i,_,rfl⟩:=List.mem_map.1 hc
    exact pickC_8 HC8.out i⟩
   have hrt:=right_c (HFM.out.below (Below.refl _ _).drew) hfc
   have HFC:=Lib.hid hfc
   have HRT:=Lib.hid (show Calls Tryd.prog 18 #[.pointer (some ⟨F,0,none⟩)] wr.drew (OwnL wr.drew (rightL (fJ F (lx,ly,lz) X Y Z (.slice A1 j cA) (madeC cl j)))) from hrt)
   clear hfc hrt
   go_wp2_with fail
   go_at_call 18
   refine HRT.out.mono ?_
   rintro e W5 ⟨v,rfl,ho,hb5⟩
   obtain ⟨A5,c5,rfl,_,_,_⟩:=ho.form rfl
   have HO5:=Lib.hid ho
   have HF5:=Lib.hid ((HFM.out.below (Below.refl _ _).drew).below hb5)
   have HB5:=Lib.hid hb5
   have b7:W5.cell? ⟨F,7,none⟩ = some (.slice none 0 0):=HF5.out.blk.cell (i:=7) rfl
   have z7:W5.frozen? ⟨F,7,none⟩ = false:=HF5.out.blk.frozen 7
   clear ho hb5
   go_wp2_with fail
   go_ret
   have hfin:=HF5.out.setLs HO5.out
   have hbz:Below w.heap.size w W5:=HBR.out.trans (((Below.refl wr.heap.size wr).drew.trans HB5.out).mono HBR.out.size)
   refine ⟨{ fJ F (lx,ly,lz) X Y Z (.slice A1 j cA) (madeC cl j) with vL:=.slice A5 (rightL (fJ F (lx,ly,lz) X Y Z (.slice A1 j cA) (madeC cl j))).length c5,ls:=rightL (fJ F (lx,ly,lz) X Y Z (.slice A1 j cA) (madeC cl j)) },rfl,hfin,⟨HFC.out.x,HFC.out.y,HFC.out.z,HFC.out.lx,HFC.out.ly,HFC.out.lz,HFC.out.cs,HFC.out.c8⟩,HX.out,HY.out,HZ.out,?_,?_,rfl,rfl,rfl,rfl,fun k hk=>?_,⟨rfl,rfl⟩,?_⟩
   ·show (lx,ly,lz) = _
    rw [← HLX.out,← HLY.out,← HLZ.out]
    rfl
   ·show madeC cl j = madeC cl (X * Y * Z)
    rw [HN.out,HJE.out]
   ·have:=HFE.out
    rcases hk with e | e | e
    ·have e':k = F:=e
     omega
    ·exact HNEW.out k e
    ·have h1:=(HO5.out.ge k e).1
     have h2:=HBR.out.size
     have h3:wr.drew.heap.size = wr.heap.size:=rfl
     omega
   ·have:=HFE.out
    refine Below.setCell hbz ?_ _
    show w.heap.size≤F
    omega
end FloodW
end Go.Proofs.YtpimkdaikoclnaaDoor
namespace Go.Proofs.YtpimkdaikoclnaaDoor
open Go.RowKit
set_option linter.unusedVariables false
set_option linter.unusedSimpArgs false
namespace FloodW
open BlkP RowG GlowW FloodP
theorem inB_congr {f f':Fld} (h1:f'.lo = f.lo) (h2:f'.X = f.X) (h3:f'.Y = f.Y) (h4:f'.Z = f.Z):inB f' = inB f∧numB f' = numB f∧plc f' = plc f:=by
 refine ⟨?_,?_,?_⟩
 ·funext q; unfold inB; rw [h1,h2,h3,h4]
 ·funext q; unfold numB; rw [h1,h2,h4]
 ·funext i; unfold plc; rw [h1,h2,h4]
theorem FldC.w {f:Fld} (h:FldC f):FldW { f with ls:=List.replicate (f.X * f.Y * f.Z) (0,0) }:=⟨h.x,h.y,h.z,h.lx,h.ly,h.lz,h.cs,by simp,h.c8,fun c hc=>by
 rw [List.eq_of_mem_replicate hc]
 exact ⟨Nat.zero_le _,Nat.zero_le _⟩⟩
end FloodW
end Go.Proofs.YtpimkdaikoclnaaDoor
namespace Go.Proofs.YtpimkdaikoclnaaDoor
open Go.RowKit
set_option linter.unusedVariables false
set_option linter.unusedSimpArgs false
namespace FloodW
open BlkP RowG GlowW FloodP
theorem right_get2 {f:Fld} (hW:FldC f) {i:Nat} (hi:i < f.X * f.Y * f.Z):(rightL f)[i]? = some (litV f (rightL f) false (plc f i),litV f (rightL f) true (plc f i)):=by
 have hin:=plc_in hi
 have hr:i < (rightL f).length:=by rw [rightL_len]; exact hi
 unfold litV atV
 rw [if_pos hin,if_pos hin,num_plc hi,List.getElem?_eq_getElem hr]
 simp [List.getD,hr]
theorem litV_cs {f f':Fld} (h1:f'.lo = f.lo) (h2:f'.X = f.X) (h3:f'.Y = f.Y) (h4:f'.Z = f.Z) (l:List (Nat × Nat)) (b:Bool):litV f' l b = litV f l b:=by
 obtain ⟨e1,e2,_⟩:=inB_congr h1 h2 h3 h4
 funext q
 unfold litV atV
 rw [e1,e2]
theorem rightL_cs {f f':Fld} (h1:f'.lo = f.lo) (h2:f'.X = f.X) (h3:f'.Y = f.Y) (h4:f'.Z = f.Z) (h5:f'.cs = f.cs):rightL f' = rightL f:=by
 unfold rightL
 rw [h1,h2,h3,h4,h5]
theorem right_solC {f:Fld} (hW:FldC f) (b:Bool):SolV sidesV (clr f) (nowS f b) (litV f (rightL f) b)∧∀ q,litV f (rightL f) b q≤15:=right_sol (f:={ f with ls:=List.replicate (f.X * f.Y * f.Z) (0,0) }) hW.w b
theorem right_uniqC {f:Fld} (hW:FldC f) {b:Bool} {L:V→Nat} (h15:∀ q,L q≤15) (h:SolV sidesV (clr f) (nowS f b) L):L = litV f (rightL f) b:=uniqV h15 (right_solC hW b).2 h (right_solC hW b).1
theorem right15 {f:Fld} (hW:FldC f):∀ c ∈ rightL f,c.1≤15∧c.2≤15:=fun c hc=>by
 obtain ⟨i,hi⟩:=List.getElem?_of_mem hc
 have hl:=(List.getElem?_eq_some_iff.1 hi).1
 rw [rightL_len] at hl
 rw [right_get2 hW hl] at hi
 injection hi with hi
 rw [← hi]
 exact ⟨(right_solC hW false).2 _,(right_solC hW true).2 _⟩
theorem FldC.w2 {f:Fld} (hW:FldC f) (h:f.ls = rightL f):FldW f:=⟨hW.x,hW.y,hW.z,hW.lx,hW.ly,hW.lz,hW.cs,by rw [h,rightL_len],hW.c8,by rw [h]; exact right15 hW⟩
def Fld.put (f:Fld) (i:Nat) (c:Nat × Nat):Fld:={ f with cs:=f.cs.set i c }
theorem put_c {f:Fld} {i:Nat} {c:Nat × Nat} (h:FldC f) (hc:c.1 < 256∧c.2 < 256):FldC (f.put i c):=⟨h.x,h.y,h.z,h.lx,h.ly,h.lz,by show (f.cs.set i c).length = _; rw [List.length_set]; exact h.cs,fun d hd=>by
 rcases List.mem_or_eq_of_mem_set hd with h1 | h1
 ·exact h.c8 d h1
 ·rw [h1]; exact hc⟩
theorem cellAt_put {f:Fld} (hW:FldC f) {i:Nat} {c:Nat × Nat} (hi:i < f.X * f.Y * f.Z) (q:V):cellAt (f.put i c) q = if q = plc f i then c else cellAt f q:=by
 have hl:i < f.cs.length:=by rw [hW.cs]; exact hi
 by_cases e:q = plc f i
 ·rw [if_pos e,e]
  unfold cellAt
  rw [show inB (f.put i c) (plc f i) = true from plc_in hi,if_pos rfl,show numB (f.put i c) (plc f i) = i from num_plc hi]
  show (f.cs.set i c).getD i (0,0) = c
  simp [List.getD,hl]
 ·rw [if_neg e]
  unfold cellAt
  by_cases hb:inB f q = true
  ·rw [show inB (f.put i c) q = true from hb,hb,if_pos rfl,if_pos rfl]
   have hne:i ≠ numB f q:=fun e2=>e (by rw [e2]; exact (plc_num hb).symm)
   show (f.cs.set i c).getD (numB f q) (0,0) = _
   simp [List.getD,List.getElem?_set_ne hne]
  ·rw [show inB (f.put i c) q = inB f q from rfl,if_neg hb,if_neg hb]
theorem cellAt_at {f:Fld} (hW:FldC f) {i:Nat} {o:Nat × Nat} (hi:i < f.X * f.Y * f.Z) (ho:f.cs[i]? = some o):cellAt f (plc f i) = o:=by
 unfold cellAt
 rw [plc_in hi,if_pos rfl,num_plc hi]
 simp [List.getD,ho]
theorem old_put {f:Fld} (hW:FldC f) (hls:f.ls = rightL f) {i:Nat} {c o:Nat × Nat} (hi:i < f.X * f.Y * f.Z) (ho:f.cs[i]? = some o) (hc:c.1 < 256∧c.2 < 256):Old (f.put i c) (plc f i) o:=by
 have hW2:FldW (f.put i c):=by
  have h1:=put_c (i:=i) hW hc
  exact ⟨h1.x,h1.y,h1.z,h1.lx,h1.ly,h1.lz,h1.cs,by show f.ls.length = _; rw [hls,rightL_len]; rfl,h1.c8,by show ∀ c ∈ f.ls,_; rw [hls]; exact right15 hW⟩
 have hcl:clO (f.put i c) (plc f i) o = clr f:=by
  funext q
  unfold clO clr
  rw [cellAt_put hW hi]
  by_cases e:q = plc f i
  ·rw [if_pos e,e,cellAt_at hW hi ho]
  ·rw [if_neg e,if_neg e]
 have hlm:lmO (f.put i c) (plc f i) o = lmN f:=by
  funext q
  unfold lmO lmN
  rw [cellAt_put hW hi]
  by_cases e:q = plc f i
  ·rw [if_pos e,e,cellAt_at hW hi ho]
  ·rw [if_neg e,if_neg e]
 have hw:∀ b,wasB (f.put i c) b = litV f (rightL f) b:=fun b=>by
  funext q
  rw [← litV_was]
  show litV (f.put i c) f.ls b q = _
  rw [hls,litV_cs (f:=f) (f':=f.put i c) rfl rfl rfl rfl]
 refine ⟨hW2,plc_in hi,?_,?_⟩
 ·rw [hcl,hw]
  exact (right_solC hW false).1
 ·rw [hcl,hlm,hw]
  exact (right_solC hW true).1
theorem cntL {T E:List V} (h1:T.Nodup) (h2:E.Nodup) (h:∀ q,q ∈ T↔q ∈ E):T.length = E.length:=Nat.le_antisymm (nodup_len h1 (fun q hq=>(h q).1 hq)) (nodup_len h2 (fun q hq=>(h q).2 hq))
def ovC:List (Nat × Nat):=List.replicate 441 (3,0) ++ List.replicate 343 (0,0)
structure Ov (f:Fld):Prop where
 lo:f.lo = (0,48,0)
 x:f.X = 7
 y:f.Y = 16
 z:f.Z = 7
 cs:f.cs = ovC
theorem ovC_len:ovC.length = 784:=by
 unfold ovC
 rw [List.length_append,List.length_replicate,List.length_replicate]
theorem rep_get (a b:Nat) (u v:Nat × Nat) (i:Nat):(List.replicate a u ++ List.replicate b v).getD i v = if i < a then u else v:=by
 by_cases h:i < a
 ·rw [if_pos h]
  simp [List.getD,List.getElem?_append_left,h]
 ·rw [if_neg h]
  simp only [List.getD]
  rw [List.getElem?_append_right (by simp; omega)]
  by_cases h2:i - a < b
  ·simp [h2]
  ·rw [List.getElem?_eq_none (by simp; omega)]
   rfl
theorem ovC_get (i:Nat):ovC.getD i (0,0) = if i < 441 then (3,0) else (0,0):=rep_get 441 343 (3,0) (0,0) i
section
variable {f:Fld}
theorem Ov.c (h:Ov f):FldC f:=by
 refine ⟨?_,?_,?_,?_,?_,?_,?_,?_⟩
 ·rw [h.x]; decide
 ·rw [h.y]; decide
 ·rw [h.z]; decide
 ·rw [h.lo,h.x]; decide
 ·rw [h.lo,h.y]; decide
 ·rw [h.lo,h.z]; decide
 ·rw [h.cs,h.x,h.y,h.z,ovC_len]
 ·rw [h.cs]
  intro c hc
  unfold ovC at hc
  rcases List.mem_append.1 hc with h1 | h1 <;> rw [List.eq_of_mem_replicate h1] <;> decide
theorem Ov.inBx (h:Ov f) {q:V}:inB f q = true↔0≤q.1∧q.1 < 7∧48≤q.2.1∧q.2.1 < 64∧0≤q.2.2∧q.2.2 < 7:=by
 rw [inB_iff,h.lo,h.x,h.y,h.z]
 simp only
 omega
theorem Ov.cell (h:Ov f) {q:V} (hq:FloodW.inB f q = true):cellAt f q = if q.2.1 < 57 then (3,0) else (0,0):=by
 have h1:=h.inBx.1 hq
 unfold cellAt
 rw [if_pos hq,h.cs,ovC_get]
 have e:numB f q < 441↔q.2.1 < 57:=by
  unfold numB
  rw [h.lo,h.x,h.z]
  simp only
  omega
 by_cases c:q.2.1 < 57
 ·rw [if_pos c,if_pos (e.2 c)]
 ·rw [if_neg c,if_neg (fun d=>c (e.1 d))]
theorem Ov.plcx (h:Ov f) {y:Nat} (hy:y < 16):49 * y + 24 < f.X * f.Y * f.Z∧FloodW.plc f (49 * y + 24) = (3,48 + (y:Int),3):=by
 rw [h.x,h.y,h.z]
 refine ⟨by omega,?_⟩
 unfold FloodW.plc
 rw [h.lo,h.x,h.z]
 refine Prod.ext ?_ (Prod.ext ?_ ?_) <;> simp only <;> omega
theorem Ov.clrx (h:Ov f) {y:Nat} (hy:y < 16) (c:Nat × Nat) (q:V):FloodW.clr (f.put (49 * y + 24) c) q = true↔FloodW.inB f q = true∧(if q = (3,48 + (y:Int),3) then openA c = true else 57≤q.2.1):=by
 obtain ⟨h1,h2⟩:=h.plcx hy
 unfold FloodW.clr
 rw [cellAt_put h.c h1,h2]
 by_cases e:q = (3,48 + (y:Int),3)
 ·rw [if_pos e,if_pos e]
  constructor
  ·intro hc
   exact ⟨h.inBx.2 (by rw [e]; simp only; omega),hc⟩
  ·exact fun hc=>hc.2
 ·rw [if_neg e,if_neg e]
  by_cases hb:FloodW.inB f q = true
  ·rw [h.cell hb]
   by_cases hl:q.2.1 < 57
   ·rw [if_pos hl]
    constructor
    ·intro hc
     exact absurd hc (by decide)
    ·intro hc
     omega
   ·rw [if_neg hl]
    constructor
    ·intro _
     exact ⟨hb,by omega⟩
    ·intro _
     decide
  ·constructor
   ·intro hc
    have:FloodW.clr f q = true:=hc
    exact absurd (clr_in this) hb
   ·exact fun hc=>absurd hc.1 hb
theorem Ov.lamp (h:Ov f) {y:Nat} (hy:y < 16) (c:Nat × Nat) (q:V):lmN (f.put (49 * y + 24) c) q = if q = (3,48 + (y:Int),3) then lampA c else 0:=by
 obtain ⟨h1,h2⟩:=h.plcx hy
 unfold lmN
 rw [cellAt_put h.c h1,h2]
 by_cases e:q = (3,48 + (y:Int),3)
 ·rw [if_pos e,if_pos e]
 ·rw [if_neg e,if_neg e]
  by_cases hb:FloodW.inB f q = true
  ·rw [h.cell hb]
   by_cases hl:q.2.1 < 57
   ·rw [if_pos hl]
    decide
   ·rw [if_neg hl]
    decide
  ·unfold cellAt
   rw [if_neg hb]
   decide
theorem Ov.self (h:Ov f) {y:Nat} (hy:y < 16):f.put (49 * y + 24) (if y < 9 then (3,0) else (0,0)) = f:=by
 obtain ⟨h1,_⟩:=h.plcx hy
 have hl:49 * y + 24 < f.cs.length:=by rw [h.c.cs]; exact h1
 have e:f.cs.set (49 * y + 24) (if y < 9 then (3,0) else (0,0)) = f.cs:=by
  apply List.ext_getElem?
  intro j
  by_cases hj:49 * y + 24 = j
  ·subst hj
   have hg:f.cs.getD (49 * y + 24) (0,0) = if 49 * y + 24 < 441 then (3,0) else (0,0):=by rw [h.cs]; exact ovC_get _
   rw [List.getElem?_set_self hl,List.getElem?_eq_getElem hl]
   have hg2:f.cs.getD (49 * y + 24) (0,0) = f.cs[49 * y + 24]:=by simp [List.getD,hl]
   rw [← hg2,hg]
   by_cases c:y < 9
   ·rw [if_pos c,if_pos (by omega)]
   ·rw [if_neg c,if_neg (by omega)]
  ·rw [List.getElem?_set_ne hj]
 unfold Fld.put
 rw [e]
theorem Ov.at_ (h:Ov f) {y:Nat} (hy:y < 16):f.cs[49 * y + 24]? = some (if y < 9 then (3,0) else (0,0)):=by
 obtain ⟨h1,_⟩:=h.plcx hy
 have hl:49 * y + 24 < f.cs.length:=by rw [h.c.cs]; exact h1
 have hg:f.cs.getD (49 * y + 24) (0,0) = if 49 * y + 24 < 441 then (3,0) else (0,0):=by rw [h.cs]; exact ovC_get _
 have hg2:f.cs.getD (49 * y + 24) (0,0) = f.cs[49 * y + 24]:=by simp [List.getD,hl]
 rw [List.getElem?_eq_getElem hl,← hg2,hg]
 by_cases c:y < 9
 ·rw [if_pos c,if_pos (by omega)]
 ·rw [if_neg c,if_neg (by omega)]
end
theorem sol_full {cl:V→Bool} (h:∀ q,cl q = true→skyS cl q = 15):SolV sidesV cl (skyS cl) (skyS cl):=fun q=>by
 cases hc:cl q with
 | false =>
  rw [if_neg (by simp)]
  exact skyS_dark hc
 | true =>
  rw [if_pos rfl,h q hc]
  have:inV sidesV (skyS cl) q≤14:=inV_le.2 fun s _=>by have:=skyS_le cl s; omega
  omega
theorem sol_none {cl:V→Bool} {own:V→Nat} (h:∀ q,own q = 0):SolV sidesV cl own (fun _=>0):=fun q=>by
 have:inV sidesV (fun _=>0) q≤0:=inV_le.2 fun s _=>Nat.zero_le _
 rw [h q]
 show (0:Nat) = _
 split <;> omega
section
variable {f:Fld} {y:Nat} {c:Nat × Nat}
theorem Ov.full (h:Ov f) (hy:y < 16) (hc8:c.1 < 256∧c.2 < 256) (hc:y < 9 ∨ openA c = true) (hc2:y < 8→openA c = false) (q:V):litV (f.put (49 * y + 24) c) (rightL (f.put (49 * y + 24) c)) false q = if FloodW.clr (f.put (49 * y + 24) c) q = true then 15 else 0:=by
 have hf:∀ q,FloodW.clr (f.put (49 * y + 24) c) q = true→skyS (FloodW.clr (f.put (49 * y + 24) c)) q = 15:=fun q hq=>by
  have h1:=(h.clrx hy c q).1 hq
  have h2:=h.inBx.1 h1.1
  refine (skyS_iff (by omega)).2 ⟨hq,fun k hk=>(h.clrx hy c _).2 ⟨h.inBx.2 ?_,?_⟩⟩
  ·simp only [upV]
   omega
  ·split
   ·rename_i e
    rcases hc with hc | hc
    ·have e2:q.2.1 + (k:Int) = 48 + (y:Int):=congrArg (fun p:V=>p.2.1) e
     have e3:q.1 = 3:=congrArg (fun p:V=>p.1) e
     have e4:q.2.2 = 3:=congrArg (fun p:V=>p.2.2) e
     have h3:=h1.2
     by_cases k0:k = 0
     ·have eq:q = (3,48 + (y:Int),3):=Prod.ext e3 (Prod.ext (by simp only; omega) e4)
      rw [if_pos eq] at h3
      exact h3
     ·rw [if_neg (fun eq=>by
       have:q.2.1 = 48 + (y:Int):=congrArg (fun p:V=>p.2.1) eq
       omega)] at h3
      omega
    ·exact hc
   ·have h3:=h1.2
    simp only [upV]
    split at h3
    ·rename_i e
     have e2:q.2.1 = 48 + (y:Int):=congrArg (fun p:V=>p.2.1) e
     by_cases y8:y < 8
     ·rw [hc2 y8] at h3
      cases h3
     ·rename_i hne
      by_cases k0:k = 0
      ·subst k0
       exact absurd ((upV_zero q).trans e) hne
      ·omega
    ·omega
 have e:skyS (FloodW.clr (f.put (49 * y + 24) c)) = litV (f.put (49 * y + 24) c) (rightL (f.put (49 * y + 24) c)) false:=right_uniqC (put_c h.c hc8) (skyS_le _) (sol_full hf)
 rw [← e]
 split
 ·rename_i hq
  exact hf q hq
 ·rename_i hq
  exact skyS_dark (by simpa using hq)
end
end FloodW
end Go.Proofs.YtpimkdaikoclnaaDoor
