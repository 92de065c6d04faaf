import Derived.RangeFuncNested
import Derived.RangeFuncBound
import Derived.RangeFuncCalls
import Derived.RangeFuncLeaves
import Derived.Shelf.Abstract
import Derived.Shelf.RegionOpen
import Derived.WalkKit
import Derived.OwnWalkIn
import Derived.TacticsInMore
import Derived.LoopNIn
import Derived.LoopIn
import Derived.BigQuiet
import Derived.Test.YtpimkdaikoclnaaDoorFlB2
import Derived.Test.YtpimkdaikoclnaaDoorFlB5
import Derived.RangeFuncWrites
import Derived.Maps.AppendAt
namespace Go.Proofs.YtpimkdaikoclnaaDoor
open Go.RowKit Go.Shelf
set_option linter.unusedVariables false
set_option linter.unusedSimpArgs false
attribute [local go_sem] Oper.semAt_some
namespace FloodW
open BlkP RowG GlowW FloodP
theorem wpIn_named {F:Fence} {n:Nat} {P:Program} {c:Code} {Q:Exit→Act→World→Prop} {a:Act} {W:World} (S:World→Prop) (h:S W) (k:∀ W',S W'→c.wpIn F n P Q a W'):c.wpIn F n P Q a W:=k W h
def sideO (q:V) (k:Nat):Option V:=if (PlaceW.stepOf q.1 q.2.1 q.2.2 (k:Int)).2.2.2 = true then some ((PlaceW.stepOf q.1 q.2.1 q.2.2 (k:Int)).1,(PlaceW.stepOf q.1 q.2.1 q.2.2 (k:Int)).2.1,(PlaceW.stepOf q.1 q.2.1 q.2.2 (k:Int)).2.2.1) else none
def sidesTo (q:V) (k:Nat):List V:=(List.range k).filterMap (sideO q)
def sidesV (q:V):List V:=sidesTo q 6
theorem sidesTo_succ (q:V) (k:Nat):sidesTo q (k + 1) = sidesTo q k ++ (match sideO q k with | some s=>[s] | none=>[]):=by
 unfold sidesTo
 rw [List.range_succ,List.filterMap_append]
 cases h:sideO q k with
 | none=>simp [h]
 | some s=>simp [h]
theorem sidesTo_mem {q s:V} {k:Nat} (h:sideO q k = some s) (hk:k < 6):s ∈ sidesV q:=List.mem_filterMap.2 ⟨k,List.mem_range.2 hk,h⟩
structure Base (wk E wb:Nat) (q:V) (g:Gh) (W:World):Prop where
 wkE:g.wk = wk
 near:∀ s,s ∈ sidesV q→okP g s∧dG g s≤15
 box:Loc W g E TP [.int .i64 q.1,.int .i64 q.2.1,.int .i64 q.2.2]
 wbox:Loc W g wb 66 [.pointer (some ⟨wk,0,none⟩)]
def Stab (Inv:List (V × Nat)→Gh→World→Prop):Prop:=∀ pre g W vA ak kn W',Inv pre g W→Sx W' (g.more vA ak kn)→Go g W (g.more vA ak kn) W'→(∀ p,p ∈ g.kn→p ∈ kn)→Inv pre (g.more vA ak kn) W'
theorem Base.go {wk E wb:Nat} {q:V} {g:Gh} {W W':World} (h:Base wk E wb q g W) {vA:Value} {ak:List V} {kn:List (V × Nat)} (k:Go g W (g.more vA ak kn) W'):Base wk E wb q (g.more vA ak kn) W':=⟨h.wkE,h.near,h.box.go k,h.wbox.go k⟩
theorem Stab.below {Inv:List (V × Nat)→Gh→World→Prop} (h:Stab Inv) {pre:List (V × Nat)} {g:Gh} {W W':World} (hsx:Sx W g) (hi:Inv pre g W) (hb:Below W.heap.size W W'):Inv pre g W':=h pre g W g.f.vA g.f.ak g.kn W' hi (hsx.below hb) (Go.below g hb) (fun _ h=>h)
theorem Base.below {wk E wb:Nat} {q:V} {g:Gh} {W W':World} (h:Base wk E wb q g W) (hb:Below W.heap.size W W'):Base wk E wb q g W':=h.go (vA:=g.f.vA) (ak:=g.f.ak) (kn:=g.kn) (Go.below g hb)
def Betw (wk E wb:Nat) (q:V) (Inv:List (V × Nat)→Gh→World→Prop) (pre:List (V × Nat)) (W:World):Prop:=∃ g,Sx W g∧Base wk E wb q g W∧Inv pre g W
theorem Betw.below {wk E wb:Nat} {q:V} {Inv:List (V × Nat)→Gh→World→Prop} (hS:Stab Inv) {pre:List (V × Nat)} {W W':World} (h:Betw wk E wb q Inv pre W) (hb:Below W.heap.size W W'):Betw wk E wb q Inv pre W':=by
 obtain ⟨g,h1,h2,h3⟩:=h
 exact ⟨g,h1.below hb,h2.below hb,hS.below h1 h3 hb⟩
def EachRel (wk E wb:Nat) (q:V) (Inv:List (V × Nat)→Gh→World→Prop) (v:Value) (W:World):Prop:=∃ k:Nat,v = .int .i64 k∧k≤6∧∃ pre:List (V × Nat),pre.map (·.1) = sidesTo q k∧Betw wk E wb q Inv pre W
set_option maxRecDepth 100000 in
set_option maxHeartbeats 16000000 in
theorem each_in (n:Nat) (hn:2≤n) (l:Nat) {wk E wb:Nat} {q:V} (hq:mayP q) (Inv:List (V × Nat)→Gh→World→Prop) (hS:Stab Inv)
  (hY:∀ pre (x:V × Nat) g W,Sx W g→Base wk E wb q g W→Inv pre g W→x ∈ g.kn→x.1 ∈ sidesV q→YieldAt Fence.wide (n - 1) Tryd.prog l #[.agg #[.int .i64 x.1.1,.int .i64 x.1.2.1,.int .i64 x.1.2.2],.pointer (some ⟨x.2,0,none⟩)] W fun e W'=>e = .returned (.bool true)∧Betw wk E wb q Inv (pre ++ [x]) W')
  (W:World) (h0:Betw wk E wb q Inv [] W) :
  CallsIn Fence.wide n Tryd.prog 63 #[.func (.yield l) #[] #[],.pointer (some ⟨E,0,none⟩),.pointer (some ⟨wb,0,none⟩)] W fun e W'=>(∃ v,e = .returned v)∧∃ xs,xs.map (·.1) = sidesV q∧Betw wk E wb q Inv xs W':=by
 obtain ⟨x,y,z⟩:=q
 have HQ:=Lib.hid hq
 have HS:=Lib.hid hS
 have HY:=Lib.hid hY
 have H0:=Lib.hid h0
 clear hq hS hY h0
 refine callsIn_of_wp Tryd.func63 rfl trivial ?_ rfl
 simp only [Tryd.ntmps63,List.size_toArray,List.length_cons,List.length_nil,Nat.reduceAdd,Nat.reduceSub,Array.replicate_succ,Array.replicate_zero,List.push_toArray,List.append_toArray,List.nil_append,List.cons_append]
 gi_wp2
 gi_loopw [4] (fun v wr=>EachRel wk E wb (x,y,z) Inv v wr) (fun v _=>6 - (intOf v).toNat)
 case atStart=>exact ⟨0,rfl,by omega,[],rfl,H0.out⟩
 case round =>
  obtain ⟨k,rfl,hk,pre,hpre,hB⟩:=hrel
  have HPRE:=Lib.hid hpre
  have HB:=Lib.hid hB
  obtain ⟨g,hsx,hbase,hinv⟩:=hB
  have HSX0:=Lib.hid hsx
  have HBA0:=Lib.hid hbase
  have HIN0:=Lib.hid hinv
  clear hpre
  by_cases hk6:k < 6
  ·have hkI:(k:Int)≤5:=by omega
   obtain ⟨X,Y,Z,r,hst⟩:∃ X Y Z r,PlaceW.stepOf x y z (k:Int) = (X,Y,Z,r):=⟨_,_,_,_,rfl⟩
   have HST:=Lib.hid hst
   have e0:wr.cell? ⟨E,0,none⟩ = some (.int .i64 x):=hbase.box.1.cell (i:=0) rfl
   have e1:wr.cell? ⟨E,1,none⟩ = some (.int .i64 y):=hbase.box.1.cell (i:=1) rfl
   have e2:wr.cell? ⟨E,2,none⟩ = some (.int .i64 z):=hbase.box.1.cell (i:=2) rfl
   clear hst hsx hbase hinv
   gi_wp2
   refine ⟨trivial,fun _=>by omega,?_⟩
   gi_at_call 52
   refine (callsIn_wide.2 (PlaceW.step_c HST.out wr)).mono ?_
   rintro e w1 ⟨rfl,hb1⟩
   have HSX1:=Lib.hid (HSX0.out.below hb1)
   have HBA1:=Lib.hid (HBA0.out.below hb1)
   have HIN1:=Lib.hid (HS.out.below HSX0.out HIN0.out hb1)
   clear e0 e1 e2 hb1 HB HSX0 HBA0 HIN0
   gi_wp2
   refine wpIn_named (S:=fun W'=>Blk W' w1.heap.size TP [.int .i64 X,.int .i64 Y,.int .i64 Z]∧Below w1.heap.size w1 W'∧w1.heap.size < W'.heap.size) ⟨by (repeat' (first | (with_reducible refine BlkP.Blk.drew ?_) | (with_reducible refine BlkP.Blk.drewN ?_ _) | (with_reducible refine BlkP.Blk.setAt (us:=?_) (by first | omega | (simp; done) | (simp; omega)) rfl ?_ ?_) | (with_reducible refine BlkP.Blk.otherAt ?_ (by first | omega | (simp; done) | (simp; omega))) | (with_reducible refine BlkP.Blk.newA' (by first | omega | (simp; done) | (simp; omega)) rfl) | (with_reducible refine BlkP.Blk.alloc ?_ _) | (exact rfl))),by (repeat' (first | (with_reducible exact Below.refl _ _) | (with_reducible refine Below.setCell ?_ (by (first | omega | (simp; done) | (simp; omega))) _) | (with_reducible refine Below.alloc ?_ (by (first | omega | (simp; done) | (simp; omega))) _) | (with_reducible refine Below.drew ?_) | (with_reducible refine below_drewN ?_ _))),by simp⟩ ?_
   rintro W2 ⟨hs2,hb2,hz2⟩
   have HSB:=Lib.hid hs2
   have HNS:=Lib.hid (HSX1.out.st.new (Nat.le_refl _))
   have HSX:=Lib.hid (HSX1.out.below hb2)
   have HBA:=Lib.hid (HBA1.out.below hb2)
   have HIN:=Lib.hid (HS.out.below HSX1.out HIN1.out hb2)
   obtain ⟨sb,hsb⟩:∃ sb,w1.heap.size = sb:=⟨_,rfl⟩
   rw [hsb] at HSB hz2 HNS ⊢
   clear hs2 hb2 hsb HSX1 HBA1 HIN1
   cases r with
   | false =>
    have HN:=Lib.hid (show sideO (x,y,z) k = none by unfold sideO; rw [HST.out]; rfl)
    refine EachR.region (by kernel_rfl) ?_
    refine wpAnyIn_take (i:=0) (oi:=⟨some 17,_,_,_,_,_⟩) (v:=.bool false) rfl rfl (by kernel_rfl) (by kernel_rfl) (by kernel_rfl) (fun _ _ _ h=>h) ⟨Or.inl ⟨by rfl,fun W=>by go_simp⟩,fun W=>by rfl⟩ ?_
    simp only [Act.put,List.setIfInBounds_toArray,List.set_cons_zero,List.set_cons_succ]
    refine wpAnyIn_take (i:=1) (oi:=⟨some 18,_,_,_,_,_⟩) (v:=.bool false) rfl rfl (by kernel_rfl) (by kernel_rfl) (by kernel_rfl) (fun _ _ _ h=>h) ⟨Or.inl ⟨by rfl,fun W=>by go_simp⟩,fun W=>by rfl⟩ ?_
    simp only [Act.put,List.setIfInBounds_toArray,List.set_cons_zero,List.set_cons_succ]
    refine wpAnyIn_take (i:=2) (oi:=⟨some 19,_,_,_,_,_⟩) (v:=undef) rfl rfl (by kernel_rfl) (by kernel_rfl) (by kernel_rfl) (fun _ _ _ h=>h) ⟨Or.inr ⟨by kernel_rfl,rfl⟩,fun W=>by rfl⟩ ?_
    simp only [Act.put,List.setIfInBounds_toArray,List.set_cons_zero,List.set_cons_succ]
    refine wpAnyIn_take (i:=3) (oi:=⟨some 20,_,_,_,_,_⟩) (v:=undef) rfl rfl (by kernel_rfl) (by kernel_rfl) (by kernel_rfl) (fun _ _ _ h=>h) ⟨Or.inr ⟨by kernel_rfl,rfl⟩,fun W=>by rfl⟩ ?_
    simp only [Act.put,List.setIfInBounds_toArray,List.set_cons_zero,List.set_cons_succ]
    refine wpAnyIn_ready (rs:=[4]) (by kernel_rfl) (by simp) ?_
    refine EachR.cons (o:=⟨some 21,_,_,_,_,_⟩) rfl (fun c=>by intro h; cases h) (fun K hK=>?_) ?_
    ·go_simp
     refine hK.out _ _ ?_
     clear hK K
     try simp only [Act.put,List.setIfInBounds_toArray,List.set_cons_zero,List.set_cons_succ]
     refine wpAnyIn_take (i:=5) (oi:=⟨some 22,_,_,_,_,_⟩) (v:=.bool false) rfl rfl (by kernel_rfl) (by kernel_rfl) (by kernel_rfl) (fun _ _ _ h=>h) ⟨Or.inl ⟨by rfl,fun W=>by go_simp⟩,fun W=>by rfl⟩ ?_
     simp only [Act.put,List.setIfInBounds_toArray,List.set_cons_zero,List.set_cons_succ]
     refine wpAnyIn_take (i:=6) (oi:=⟨some 23,_,_,_,_,_⟩) (v:=.bool false) rfl rfl (by kernel_rfl) (by kernel_rfl) (by kernel_rfl) (fun _ _ _ h=>h) ⟨Or.inl ⟨by rfl,fun W=>by go_simp⟩,fun W=>by rfl⟩ ?_
     simp only [Act.put,List.setIfInBounds_toArray,List.set_cons_zero,List.set_cons_succ]
     refine wpAnyIn_take (i:=7) (oi:=⟨some 24,_,_,_,_,_⟩) (v:=undef) rfl rfl (by kernel_rfl) (by kernel_rfl) (by kernel_rfl) (fun _ _ _ h=>h) ⟨Or.inr ⟨by kernel_rfl,rfl⟩,fun W=>by rfl⟩ ?_
     simp only [Act.put,List.setIfInBounds_toArray,List.set_cons_zero,List.set_cons_succ]
     refine wpAnyIn_take (i:=8) (oi:=⟨some 25,_,_,_,_,_⟩) (v:=undef) rfl rfl (by kernel_rfl) (by kernel_rfl) (by kernel_rfl) (fun _ _ _ h=>h) ⟨Or.inr ⟨by kernel_rfl,rfl⟩,fun W=>by rfl⟩ ?_
     simp only [Act.put,List.setIfInBounds_toArray,List.set_cons_zero,List.set_cons_succ]
     refine wpAnyIn_take (i:=9) (oi:=⟨some 26,_,_,_,_,_⟩) (v:=undef) rfl rfl (by kernel_rfl) (by kernel_rfl) (by kernel_rfl) (fun _ _ _ h=>h) ⟨Or.inr ⟨by kernel_rfl,rfl⟩,fun W=>by rfl⟩ ?_
     simp only [Act.put,List.setIfInBounds_toArray,List.set_cons_zero,List.set_cons_succ]
     refine wpAnyIn_take (i:=10) (oi:=⟨some 27,_,_,_,_,_⟩) (v:=undef) rfl rfl (by kernel_rfl) (by kernel_rfl) (by kernel_rfl) (fun _ _ _ h=>h) ⟨Or.inr ⟨by kernel_rfl,rfl⟩,fun W=>by rfl⟩ ?_
     simp only [Act.put,List.setIfInBounds_toArray,List.set_cons_zero,List.set_cons_succ]
     refine wpAnyIn_ready (rs:=[11]) (by kernel_rfl) (by simp) ?_
     refine EachR.cons (o:=⟨some 28,_,_,_,_,_⟩) rfl (fun c=>by intro h; cases h) (fun K hK=>?_) ?_
     ·go_simp
      refine hK.out _ _ ?_
      clear hK K
      try simp only [Act.put,List.setIfInBounds_toArray,List.set_cons_zero,List.set_cons_succ]
      refine wpAnyIn_ready (rs:=[12]) (by kernel_rfl) (by simp) ?_
      refine EachR.cons (o:=⟨some 29,_,_,_,_,_⟩) rfl (fun c=>by intro h; cases h) (fun K hK=>?_) ?_
      ·go_simp
       refine hK.out _ _ ?_
       clear hK K
       try simp only [Act.put,List.setIfInBounds_toArray,List.set_cons_zero,List.set_cons_succ]
       refine wpAnyIn_take (i:=13) (oi:=⟨some 30,_,_,_,_,_⟩) (v:=undef) rfl rfl (by kernel_rfl) (by kernel_rfl) (by kernel_rfl) (fun _ _ _ h=>h) ⟨Or.inr ⟨by kernel_rfl,rfl⟩,fun W=>by rfl⟩ ?_
       simp only [Act.put,List.setIfInBounds_toArray,List.set_cons_zero,List.set_cons_succ]
       refine wpAnyIn_take (i:=14) (oi:=⟨some 31,_,_,_,_,_⟩) (v:=.bool false) rfl rfl (by kernel_rfl) (by kernel_rfl) (by kernel_rfl) (fun _ _ _ h=>h) ⟨Or.inl ⟨by rfl,fun W=>by go_simp⟩,fun W=>by rfl⟩ ?_
       simp only [Act.put,List.setIfInBounds_toArray,List.set_cons_zero,List.set_cons_succ]
       refine wpAnyIn_done (by kernel_rfl) ?_ _
       gi_wp2
       go_roundw
       case rel=>exact ⟨k + 1,by go_num,by omega,pre,by rw [sidesTo_succ,HN.out,HPRE.out]; simp,Betw.below HS.out ⟨g,HSX.out,HBA.out,HIN.out⟩ (by (repeat' (first | (with_reducible exact Below.refl _ _) | (with_reducible refine Below.setCell ?_ (by (first | omega | (simp; done) | (simp; omega))) _) | (with_reducible refine Below.alloc ?_ (by (first | omega | (simp; done) | (simp; omega))) _) | (with_reducible refine Below.drew ?_) | (with_reducible refine below_drewN ?_ _))))⟩
       case measure=>(simp only [intOf]; omega)
      exact AllReadyIn.nil
     exact AllReadyIn.nil
    exact AllReadyIn.nil
   | true =>
    have HN:=Lib.hid (show sideO (x,y,z) k = some (X,Y,Z) by unfold sideO; rw [HST.out]; rfl)
    have HM:=Lib.hid (sidesTo_mem HN.out hk6)
    have c0:=HSB.out.cell (i:=0) rfl
    have c1:=HSB.out.cell (i:=1) rfl
    have c2:=HSB.out.cell (i:=2) rfl
    have hwb:=HBA.out.wbox.1.cell (i:=0) rfl
    have HOK:=Lib.hid (HBA.out.near _ HM.out)
    have HWKE:=Lib.hid HBA.out.wkE
    refine EachR.region (by kernel_rfl) ?_
    refine wpAnyIn_take (i:=0) (oi:=⟨some 17,_,_,_,_,_⟩) (v:=.bool true) rfl rfl (by kernel_rfl) (by kernel_rfl) (by kernel_rfl) (fun _ _ _ h=>h) ⟨Or.inl ⟨by rfl,fun W=>by go_simp⟩,fun W=>by rfl⟩ ?_
    simp only [Act.put,List.setIfInBounds_toArray,List.set_cons_zero,List.set_cons_succ]
    refine wpAnyIn_take (i:=1) (oi:=⟨some 18,_,_,_,_,_⟩) (v:=.bool true) rfl rfl (by kernel_rfl) (by kernel_rfl) (by kernel_rfl) (fun _ _ _ h=>h) ⟨Or.inl ⟨by rfl,fun W=>by go_simp⟩,fun W=>by rfl⟩ ?_
    simp only [Act.put,List.setIfInBounds_toArray,List.set_cons_zero,List.set_cons_succ]
    refine wpAnyIn_ready (rs:=[2,3]) (by kernel_rfl) (by simp) ?_
    refine EachR.cons (o:=⟨some 19,_,_,_,_,_⟩) rfl (fun c=>by intro h; cases h) (fun K hK=>?_) ?_
    ·go_simp
     refine hK.out _ _ ?_
     clear hK K
     refine wpAnyIn_ready (rs:=[3]) (by kernel_rfl) (by simp) ?_
     refine EachR.cons (o:=⟨some 20,_,_,_,_,_⟩) rfl (fun c=>by intro h; cases h) (fun K hK=>?_) ?_
     ·go_simp
      refine hK.out _ _ ?_
      clear hK K
      refine wpAnyIn_ready (rs:=[4]) (by kernel_rfl) (by simp) ?_
      refine EachR.cons (o:=⟨some 21,_,_,_,_,_⟩) rfl (fun c=>by intro h; cases h) (fun K hK=>?_) ?_
      ·go_simp
       have hnc:=near_c (w:=W2.drew) (q:=(X,Y,Z)) (HSX.out.below (Below.refl _ _).drew) HOK.out.1.1
       rw [HWKE.out] at hnc
       refine hnc.mono ?_
       clear hnc
       rintro e W3 ⟨rfl,hb3⟩
       rw [show decide (dG g (X,Y,Z)≤15) = true from decide_eq_true HOK.out.2]
       have HSX3:=Lib.hid ((HSX.out.below (Below.refl _ _).drew).below hb3)
       have HBA3:=Lib.hid ((HBA.out.below (Below.refl _ _).drew).below hb3)
       have HIN3:=Lib.hid (HS.out.below (HSX.out.below (Below.refl _ _).drew) (HS.out.below HSX.out HIN.out (Below.refl _ _).drew) hb3)
       have HLS3:=Lib.hid (show Loc W3 g sb TP [.int .i64 X,.int .i64 Y,.int .i64 Z] from Loc.below (w:=W2.drew) ⟨HSB.out,HNS.out⟩ hb3)
       have d0:=HLS3.out.1.cell (i:=0) rfl
       have d1:=HLS3.out.1.cell (i:=1) rfl
       have d2:=HLS3.out.1.cell (i:=2) rfl
       have dwb:=HBA3.out.wbox.1.cell (i:=0) rfl
       clear hb3 c0 c1 c2 hwb
       refine hK.out _ _ ?_
       clear hK K
       refine wpAnyIn_take (i:=5) (oi:=⟨some 22,_,_,_,_,_⟩) (v:=.bool true) rfl rfl (by kernel_rfl) (by kernel_rfl) (by kernel_rfl) (fun _ _ _ h=>h) ⟨Or.inl ⟨by rfl,fun W=>by go_simp⟩,fun W=>by rfl⟩ ?_
       simp only [Act.put,List.setIfInBounds_toArray,List.set_cons_zero,List.set_cons_succ]
       refine wpAnyIn_take (i:=6) (oi:=⟨some 23,_,_,_,_,_⟩) (v:=.bool true) rfl rfl (by kernel_rfl) (by kernel_rfl) (by kernel_rfl) (fun _ _ _ h=>h) ⟨Or.inl ⟨by rfl,fun W=>by go_simp⟩,fun W=>by rfl⟩ ?_
       simp only [Act.put,List.setIfInBounds_toArray,List.set_cons_zero,List.set_cons_succ]
       refine wpAnyIn_take (i:=7) (oi:=⟨some 24,_,_,_,_,_⟩) (v:=.func (.yield l) #[] #[]) rfl rfl (by kernel_rfl) (by kernel_rfl) (by kernel_rfl) (fun _ _ _ h=>h) ⟨Or.inl ⟨by rfl,fun W=>by go_simp⟩,fun W=>by rfl⟩ ?_
       simp only [Act.put,List.setIfInBounds_toArray,List.set_cons_zero,List.set_cons_succ]
       refine wpAnyIn_ready (rs:=[8,9,10]) (by kernel_rfl) (by simp) ?_
       refine EachR.cons (o:=⟨some 25,_,_,_,_,_⟩) rfl (fun c=>by intro h; cases h) (fun K hK=>?_) ?_
       ·go_simp
        refine hK.out _ _ ?_
        clear hK K
        refine wpAnyIn_ready (rs:=[9,10]) (by kernel_rfl) (by simp) ?_
        refine EachR.cons (o:=⟨some 26,_,_,_,_,_⟩) rfl (fun c=>by intro h; cases h) (fun K hK=>?_) ?_
        ·go_simp
         refine hK.out _ _ ?_
         clear hK K
         refine wpAnyIn_ready (rs:=[10]) (by kernel_rfl) (by simp) ?_
         refine EachR.cons (o:=⟨some 27,_,_,_,_,_⟩) rfl (fun c=>by intro h; cases h) (fun K hK=>?_) ?_
         ·go_simp
          refine hK.out _ _ ?_
          clear hK K
          refine wpAnyIn_ready (rs:=[11]) (by kernel_rfl) (by simp) ?_
          refine EachR.cons (o:=⟨some 28,_,_,_,_,_⟩) rfl (fun c=>by intro h; cases h) (fun K hK=>?_) ?_
          ·have hkc:=know_c (w:=W3) (q:=(X,Y,Z)) HSX3.out HOK.out.1
           rw [HWKE.out] at hkc
           go_simp
           refine hkc.mono ?_
           clear hkc
           rintro e W4 ⟨kb,vA,ak,kn,rfl,hmem,hmore,hsx4,hgo4⟩
           have HSX4:=Lib.hid hsx4
           have HBA4:=Lib.hid (HBA3.out.go hgo4)
           have HIN4:=Lib.hid (HS.out _ _ _ _ _ _ _ HIN3.out hsx4 hgo4 hmore)
           have HLS4:=Lib.hid (HLS3.out.go hgo4)
           have HMEM:=Lib.hid (show ((X,Y,Z),kb) ∈ (g.more vA ak kn).kn from hmem)
           have f0:=HLS4.out.1.cell (i:=0) rfl
           have f1:=HLS4.out.1.cell (i:=1) rfl
           have f2:=HLS4.out.1.cell (i:=2) rfl
           clear hmem hmore hsx4 hgo4 d0 d1 d2 dwb
           refine hK.out _ _ ?_
           clear hK K
           obtain ⟨fn,tmps,assign,body,hy,hR⟩:=HY.out pre ((X,Y,Z),kb) _ W4 HSX4.out HBA4.out HIN4.out HMEM.out HM.out
           dsimp only at hy hR
           refine wpAnyIn_ready (rs:=[12]) (by kernel_rfl) (by simp) ?_
           refine EachR.yields (o:=⟨some 29,_,_,_,_,_⟩) rfl (by kernel_rfl) (fun c=>by intro h; cases h) (f:=fn) (tmps:=tmps) (assign:=assign) (body:=body) (l:=l) ?_ (hR.mono ?_)
           ·go_simp
           rintro e W5 ⟨rfl,hB5⟩
           have HB5:=Lib.hid hB5
           refine ⟨_,rfl,?_⟩
           clear hy hR hB5 f0 f1 f2
           simp only [Act.put,List.setIfInBounds_toArray,List.set_cons_zero,List.set_cons_succ]
           refine wpAnyIn_take (i:=13) (oi:=⟨some 30,_,_,_,_,_⟩) (v:=.bool false) rfl rfl (by kernel_rfl) (by kernel_rfl) (by kernel_rfl) (fun _ _ _ h=>h) ⟨Or.inl ⟨by rfl,fun W=>by go_simp⟩,fun W=>by rfl⟩ ?_
           simp only [Act.put,List.setIfInBounds_toArray,List.set_cons_zero,List.set_cons_succ]
           refine wpAnyIn_take (i:=14) (oi:=⟨some 31,_,_,_,_,_⟩) (v:=.bool false) rfl rfl (by kernel_rfl) (by kernel_rfl) (by kernel_rfl) (fun _ _ _ h=>h) ⟨Or.inl ⟨by rfl,fun W=>by go_simp⟩,fun W=>by rfl⟩ ?_
           simp only [Act.put,List.setIfInBounds_toArray,List.set_cons_zero,List.set_cons_succ]
           refine wpAnyIn_done (by kernel_rfl) ?_ _
           gi_wp2
           go_roundw
           case rel=>exact ⟨k + 1,by go_num,by omega,pre ++ [((X,Y,Z),kb)],by rw [sidesTo_succ,HN.out,List.map_append,HPRE.out]; rfl,HB5.out⟩
           case measure=>(simp only [intOf]; omega)
          exact AllReadyIn.nil
         exact AllReadyIn.nil
        refine EachR.cons (o:=⟨some 27,_,_,_,_,_⟩) rfl (fun c=>by intro h; cases h) (fun K hK=>?_) ?_
        ·go_simp
         refine hK.out _ _ ?_
         clear hK K
         refine wpAnyIn_ready (rs:=[9]) (by kernel_rfl) (by simp) ?_
         refine EachR.cons (o:=⟨some 26,_,_,_,_,_⟩) rfl (fun c=>by intro h; cases h) (fun K hK=>?_) ?_
         ·go_simp
          refine hK.out _ _ ?_
          clear hK K
          refine wpAnyIn_ready (rs:=[11]) (by kernel_rfl) (by simp) ?_
          refine EachR.cons (o:=⟨some 28,_,_,_,_,_⟩) rfl (fun c=>by intro h; cases h) (fun K hK=>?_) ?_
          ·have hkc:=know_c (w:=W3) (q:=(X,Y,Z)) HSX3.out HOK.out.1
           rw [HWKE.out] at hkc
           go_simp
           refine hkc.mono ?_
           clear hkc
           rintro e W4 ⟨kb,vA,ak,kn,rfl,hmem,hmore,hsx4,hgo4⟩
           have HSX4:=Lib.hid hsx4
           have HBA4:=Lib.hid (HBA3.out.go hgo4)
           have HIN4:=Lib.hid (HS.out _ _ _ _ _ _ _ HIN3.out hsx4 hgo4 hmore)
           have HLS4:=Lib.hid (HLS3.out.go hgo4)
           have HMEM:=Lib.hid (show ((X,Y,Z),kb) ∈ (g.more vA ak kn).kn from hmem)
           have f0:=HLS4.out.1.cell (i:=0) rfl
           have f1:=HLS4.out.1.cell (i:=1) rfl
           have f2:=HLS4.out.1.cell (i:=2) rfl
           clear hmem hmore hsx4 hgo4 d0 d1 d2 dwb
           refine hK.out _ _ ?_
           clear hK K
           obtain ⟨fn,tmps,assign,body,hy,hR⟩:=HY.out pre ((X,Y,Z),kb) _ W4 HSX4.out HBA4.out HIN4.out HMEM.out HM.out
           dsimp only at hy hR
           refine wpAnyIn_ready (rs:=[12]) (by kernel_rfl) (by simp) ?_
           refine EachR.yields (o:=⟨some 29,_,_,_,_,_⟩) rfl (by kernel_rfl) (fun c=>by intro h; cases h) (f:=fn) (tmps:=tmps) (assign:=assign) (body:=body) (l:=l) ?_ (hR.mono ?_)
           ·go_simp
           rintro e W5 ⟨rfl,hB5⟩
           have HB5:=Lib.hid hB5
           refine ⟨_,rfl,?_⟩
           clear hy hR hB5 f0 f1 f2
           simp only [Act.put,List.setIfInBounds_toArray,List.set_cons_zero,List.set_cons_succ]
           refine wpAnyIn_take (i:=13) (oi:=⟨some 30,_,_,_,_,_⟩) (v:=.bool false) rfl rfl (by kernel_rfl) (by kernel_rfl) (by kernel_rfl) (fun _ _ _ h=>h) ⟨Or.inl ⟨by rfl,fun W=>by go_simp⟩,fun W=>by rfl⟩ ?_
           simp only [Act.put,List.setIfInBounds_toArray,List.set_cons_zero,List.set_cons_succ]
           refine wpAnyIn_take (i:=14) (oi:=⟨some 31,_,_,_,_,_⟩) (v:=.bool false) rfl rfl (by kernel_rfl) (by kernel_rfl) (by kernel_rfl) (fun _ _ _ h=>h) ⟨Or.inl ⟨by rfl,fun W=>by go_simp⟩,fun W=>by rfl⟩ ?_
           simp only [Act.put,List.setIfInBounds_toArray,List.set_cons_zero,List.set_cons_succ]
           refine wpAnyIn_done (by kernel_rfl) ?_ _
           gi_wp2
           go_roundw
           case rel=>exact ⟨k + 1,by go_num,by omega,pre ++ [((X,Y,Z),kb)],by rw [sidesTo_succ,HN.out,List.map_append,HPRE.out]; rfl,HB5.out⟩
           case measure=>(simp only [intOf]; omega)
          exact AllReadyIn.nil
         exact AllReadyIn.nil
        exact AllReadyIn.nil
       refine EachR.cons (o:=⟨some 26,_,_,_,_,_⟩) rfl (fun c=>by intro h; cases h) (fun K hK=>?_) ?_
       ·go_simp
        refine hK.out _ _ ?_
        clear hK K
        refine wpAnyIn_ready (rs:=[8,10]) (by kernel_rfl) (by simp) ?_
        refine EachR.cons (o:=⟨some 25,_,_,_,_,_⟩) rfl (fun c=>by intro h; cases h) (fun K hK=>?_) ?_
        ·go_simp
         refine hK.out _ _ ?_
         clear hK K
         refine wpAnyIn_ready (rs:=[10]) (by kernel_rfl) (by simp) ?_
         refine EachR.cons (o:=⟨some 27,_,_,_,_,_⟩) rfl (fun c=>by intro h; cases h) (fun K hK=>?_) ?_
         ·go_simp
          refine hK.out _ _ ?_
          clear hK K
          refine wpAnyIn_ready (rs:=[11]) (by kernel_rfl) (by simp) ?_
          refine EachR.cons (o:=⟨some 28,_,_,_,_,_⟩) rfl (fun c=>by intro h; cases h) (fun K hK=>?_) ?_
          ·have hkc:=know_c (w:=W3) (q:=(X,Y,Z)) HSX3.out HOK.out.1
           rw [HWKE.out] at hkc
           go_simp
           refine hkc.mono ?_
           clear hkc
           rintro e W4 ⟨kb,vA,ak,kn,rfl,hmem,hmore,hsx4,hgo4⟩
           have HSX4:=Lib.hid hsx4
           have HBA4:=Lib.hid (HBA3.out.go hgo4)
           have HIN4:=Lib.hid (HS.out _ _ _ _ _ _ _ HIN3.out hsx4 hgo4 hmore)
           have HLS4:=Lib.hid (HLS3.out.go hgo4)
           have HMEM:=Lib.hid (show ((X,Y,Z),kb) ∈ (g.more vA ak kn).kn from hmem)
           have f0:=HLS4.out.1.cell (i:=0) rfl
           have f1:=HLS4.out.1.cell (i:=1) rfl
           have f2:=HLS4.out.1.cell (i:=2) rfl
           clear hmem hmore hsx4 hgo4 d0 d1 d2 dwb
           refine hK.out _ _ ?_
           clear hK K
           obtain ⟨fn,tmps,assign,body,hy,hR⟩:=HY.out pre ((X,Y,Z),kb) _ W4 HSX4.out HBA4.out HIN4.out HMEM.out HM.out
           dsimp only at hy hR
           refine wpAnyIn_ready (rs:=[12]) (by kernel_rfl) (by simp) ?_
           refine EachR.yields (o:=⟨some 29,_,_,_,_,_⟩) rfl (by kernel_rfl) (fun c=>by intro h; cases h) (f:=fn) (tmps:=tmps) (assign:=assign) (body:=body) (l:=l) ?_ (hR.mono ?_)
           ·go_simp
           rintro e W5 ⟨rfl,hB5⟩
           have HB5:=Lib.hid hB5
           refine ⟨_,rfl,?_⟩
           clear hy hR hB5 f0 f1 f2
           simp only [Act.put,List.setIfInBounds_toArray,List.set_cons_zero,List.set_cons_succ]
           refine wpAnyIn_take (i:=13) (oi:=⟨some 30,_,_,_,_,_⟩) (v:=.bool false) rfl rfl (by kernel_rfl) (by kernel_rfl) (by kernel_rfl) (fun _ _ _ h=>h) ⟨Or.inl ⟨by rfl,fun W=>by go_simp⟩,fun W=>by rfl⟩ ?_
           simp only [Act.put,List.setIfInBounds_toArray,List.set_cons_zero,List.set_cons_succ]
           refine wpAnyIn_take (i:=14) (oi:=⟨some 31,_,_,_,_,_⟩) (v:=.bool false) rfl rfl (by kernel_rfl) (by kernel_rfl) (by kernel_rfl) (fun _ _ _ h=>h) ⟨Or.inl ⟨by rfl,fun W=>by go_simp⟩,fun W=>by rfl⟩ ?_
           simp only [Act.put,List.setIfInBounds_toArray,List.set_cons_zero,List.set_cons_succ]
           refine wpAnyIn_done (by kernel_rfl) ?_ _
           gi_wp2
           go_roundw
           case rel=>exact ⟨k + 1,by go_num,by omega,pre ++ [((X,Y,Z),kb)],by rw [sidesTo_succ,HN.out,List.map_append,HPRE.out]; rfl,HB5.out⟩
           case measure=>(simp only [intOf]; omega)
          exact AllReadyIn.nil
         exact AllReadyIn.nil
        refine EachR.cons (o:=⟨some 27,_,_,_,_,_⟩) rfl (fun c=>by intro h; cases h) (fun K hK=>?_) ?_
        ·go_simp
         refine hK.out _ _ ?_
         clear hK K
         refine wpAnyIn_ready (rs:=[8,11]) (by kernel_rfl) (by simp) ?_
         refine EachR.cons (o:=⟨some 25,_,_,_,_,_⟩) rfl (fun c=>by intro h; cases h) (fun K hK=>?_) ?_
         ·go_simp
          refine hK.out _ _ ?_
          clear hK K
          refine wpAnyIn_ready (rs:=[11]) (by kernel_rfl) (by simp) ?_
          refine EachR.cons (o:=⟨some 28,_,_,_,_,_⟩) rfl (fun c=>by intro h; cases h) (fun K hK=>?_) ?_
          ·have hkc:=know_c (w:=W3) (q:=(X,Y,Z)) HSX3.out HOK.out.1
           rw [HWKE.out] at hkc
           go_simp
           refine hkc.mono ?_
           clear hkc
           rintro e W4 ⟨kb,vA,ak,kn,rfl,hmem,hmore,hsx4,hgo4⟩
           have HSX4:=Lib.hid hsx4
           have HBA4:=Lib.hid (HBA3.out.go hgo4)
           have HIN4:=Lib.hid (HS.out _ _ _ _ _ _ _ HIN3.out hsx4 hgo4 hmore)
           have HLS4:=Lib.hid (HLS3.out.go hgo4)
           have HMEM:=Lib.hid (show ((X,Y,Z),kb) ∈ (g.more vA ak kn).kn from hmem)
           have f0:=HLS4.out.1.cell (i:=0) rfl
           have f1:=HLS4.out.1.cell (i:=1) rfl
           have f2:=HLS4.out.1.cell (i:=2) rfl
           clear hmem hmore hsx4 hgo4 d0 d1 d2 dwb
           refine hK.out _ _ ?_
           clear hK K
           obtain ⟨fn,tmps,assign,body,hy,hR⟩:=HY.out pre ((X,Y,Z),kb) _ W4 HSX4.out HBA4.out HIN4.out HMEM.out HM.out
           dsimp only at hy hR
           refine wpAnyIn_ready (rs:=[12]) (by kernel_rfl) (by simp) ?_
           refine EachR.yields (o:=⟨some 29,_,_,_,_,_⟩) rfl (by kernel_rfl) (fun c=>by intro h; cases h) (f:=fn) (tmps:=tmps) (assign:=assign) (body:=body) (l:=l) ?_ (hR.mono ?_)
           ·go_simp
           rintro e W5 ⟨rfl,hB5⟩
           have HB5:=Lib.hid hB5
           refine ⟨_,rfl,?_⟩
           clear hy hR hB5 f0 f1 f2
           simp only [Act.put,List.setIfInBounds_toArray,List.set_cons_zero,List.set_cons_succ]
           refine wpAnyIn_take (i:=13) (oi:=⟨some 30,_,_,_,_,_⟩) (v:=.bool false) rfl rfl (by kernel_rfl) (by kernel_rfl) (by kernel_rfl) (fun _ _ _ h=>h) ⟨Or.inl ⟨by rfl,fun W=>by go_simp⟩,fun W=>by rfl⟩ ?_
           simp only [Act.put,List.setIfInBounds_toArray,List.set_cons_zero,List.set_cons_succ]
           refine wpAnyIn_take (i:=14) (oi:=⟨some 31,_,_,_,_,_⟩) (v:=.bool false) rfl rfl (by kernel_rfl) (by kernel_rfl) (by kernel_rfl) (fun _ _ _ h=>h) ⟨Or.inl ⟨by rfl,fun W=>by go_simp⟩,fun W=>by rfl⟩ ?_
           simp only [Act.put,List.setIfInBounds_toArray,List.set_cons_zero,List.set_cons_succ]
           refine wpAnyIn_done (by kernel_rfl) ?_ _
           gi_wp2
           go_roundw
           case rel=>exact ⟨k + 1,by go_num,by omega,pre ++ [((X,Y,Z),kb)],by rw [sidesTo_succ,HN.out,List.map_append,HPRE.out]; rfl,HB5.out⟩
           case measure=>(simp only [intOf]; omega)
          exact AllReadyIn.nil
         refine EachR.cons (o:=⟨some 28,_,_,_,_,_⟩) rfl (fun c=>by intro h; cases h) (fun K hK=>?_) ?_
         ·have hkc:=know_c (w:=W3) (q:=(X,Y,Z)) HSX3.out HOK.out.1
          rw [HWKE.out] at hkc
          go_simp
          refine hkc.mono ?_
          clear hkc
          rintro e W4 ⟨kb,vA,ak,kn,rfl,hmem,hmore,hsx4,hgo4⟩
          have HSX4:=Lib.hid hsx4
          have HBA4:=Lib.hid (HBA3.out.go hgo4)
          have HIN4:=Lib.hid (HS.out _ _ _ _ _ _ _ HIN3.out hsx4 hgo4 hmore)
          have HLS4:=Lib.hid (HLS3.out.go hgo4)
          have HMEM:=Lib.hid (show ((X,Y,Z),kb) ∈ (g.more vA ak kn).kn from hmem)
          have f0:=HLS4.out.1.cell (i:=0) rfl
          have f1:=HLS4.out.1.cell (i:=1) rfl
          have f2:=HLS4.out.1.cell (i:=2) rfl
          clear hmem hmore hsx4 hgo4 d0 d1 d2 dwb
          refine hK.out _ _ ?_
          clear hK K
          refine wpAnyIn_ready (rs:=[8]) (by kernel_rfl) (by simp) ?_
          refine EachR.cons (o:=⟨some 25,_,_,_,_,_⟩) rfl (fun c=>by intro h; cases h) (fun K hK=>?_) ?_
          ·go_simp
           refine hK.out _ _ ?_
           clear hK K
           obtain ⟨fn,tmps,assign,body,hy,hR⟩:=HY.out pre ((X,Y,Z),kb) _ W4 HSX4.out HBA4.out HIN4.out HMEM.out HM.out
           dsimp only at hy hR
           refine wpAnyIn_ready (rs:=[12]) (by kernel_rfl) (by simp) ?_
           refine EachR.yields (o:=⟨some 29,_,_,_,_,_⟩) rfl (by kernel_rfl) (fun c=>by intro h; cases h) (f:=fn) (tmps:=tmps) (assign:=assign) (body:=body) (l:=l) ?_ (hR.mono ?_)
           ·go_simp
           rintro e W5 ⟨rfl,hB5⟩
           have HB5:=Lib.hid hB5
           refine ⟨_,rfl,?_⟩
           clear hy hR hB5 f0 f1 f2
           simp only [Act.put,List.setIfInBounds_toArray,List.set_cons_zero,List.set_cons_succ]
           refine wpAnyIn_take (i:=13) (oi:=⟨some 30,_,_,_,_,_⟩) (v:=.bool false) rfl rfl (by kernel_rfl) (by kernel_rfl) (by kernel_rfl) (fun _ _ _ h=>h) ⟨Or.inl ⟨by rfl,fun W=>by go_simp⟩,fun W=>by rfl⟩ ?_
           simp only [Act.put,List.setIfInBounds_toArray,List.set_cons_zero,List.set_cons_succ]
           refine wpAnyIn_take (i:=14) (oi:=⟨some 31,_,_,_,_,_⟩) (v:=.bool false) rfl rfl (by kernel_rfl) (by kernel_rfl) (by kernel_rfl) (fun _ _ _ h=>h) ⟨Or.inl ⟨by rfl,fun W=>by go_simp⟩,fun W=>by rfl⟩ ?_
           simp only [Act.put,List.setIfInBounds_toArray,List.set_cons_zero,List.set_cons_succ]
           refine wpAnyIn_done (by kernel_rfl) ?_ _
           gi_wp2
           go_roundw
           case rel=>exact ⟨k + 1,by go_num,by omega,pre ++ [((X,Y,Z),kb)],by rw [sidesTo_succ,HN.out,List.map_append,HPRE.out]; rfl,HB5.out⟩
           case measure=>(simp only [intOf]; omega)
          exact AllReadyIn.nil
         exact AllReadyIn.nil
        exact AllReadyIn.nil
       refine EachR.cons (o:=⟨some 27,_,_,_,_,_⟩) rfl (fun c=>by intro h; cases h) (fun K hK=>?_) ?_
       ·go_simp
        refine hK.out _ _ ?_
        clear hK K
        refine wpAnyIn_ready (rs:=[8,9]) (by kernel_rfl) (by simp) ?_
        refine EachR.cons (o:=⟨some 25,_,_,_,_,_⟩) rfl (fun c=>by intro h; cases h) (fun K hK=>?_) ?_
        ·go_simp
         refine hK.out _ _ ?_
         clear hK K
         refine wpAnyIn_ready (rs:=[9]) (by kernel_rfl) (by simp) ?_
         refine EachR.cons (o:=⟨some 26,_,_,_,_,_⟩) rfl (fun c=>by intro h; cases h) (fun K hK=>?_) ?_
         ·go_simp
          refine hK.out _ _ ?_
          clear hK K
          refine wpAnyIn_ready (rs:=[11]) (by kernel_rfl) (by simp) ?_
          refine EachR.cons (o:=⟨some 28,_,_,_,_,_⟩) rfl (fun c=>by intro h; cases h) (fun K hK=>?_) ?_
          ·have hkc:=know_c (w:=W3) (q:=(X,Y,Z)) HSX3.out HOK.out.1
           rw [HWKE.out] at hkc
           go_simp
           refine hkc.mono ?_
           clear hkc
           rintro e W4 ⟨kb,vA,ak,kn,rfl,hmem,hmore,hsx4,hgo4⟩
           have HSX4:=Lib.hid hsx4
           have HBA4:=Lib.hid (HBA3.out.go hgo4)
           have HIN4:=Lib.hid (HS.out _ _ _ _ _ _ _ HIN3.out hsx4 hgo4 hmore)
           have HLS4:=Lib.hid (HLS3.out.go hgo4)
           have HMEM:=Lib.hid (show ((X,Y,Z),kb) ∈ (g.more vA ak kn).kn from hmem)
           have f0:=HLS4.out.1.cell (i:=0) rfl
           have f1:=HLS4.out.1.cell (i:=1) rfl
           have f2:=HLS4.out.1.cell (i:=2) rfl
           clear hmem hmore hsx4 hgo4 d0 d1 d2 dwb
           refine hK.out _ _ ?_
           clear hK K
           obtain ⟨fn,tmps,assign,body,hy,hR⟩:=HY.out pre ((X,Y,Z),kb) _ W4 HSX4.out HBA4.out HIN4.out HMEM.out HM.out
           dsimp only at hy hR
           refine wpAnyIn_ready (rs:=[12]) (by kernel_rfl) (by simp) ?_
           refine EachR.yields (o:=⟨some 29,_,_,_,_,_⟩) rfl (by kernel_rfl) (fun c=>by intro h; cases h) (f:=fn) (tmps:=tmps) (assign:=assign) (body:=body) (l:=l) ?_ (hR.mono ?_)
           ·go_simp
           rintro e W5 ⟨rfl,hB5⟩
           have HB5:=Lib.hid hB5
           refine ⟨_,rfl,?_⟩
           clear hy hR hB5 f0 f1 f2
           simp only [Act.put,List.setIfInBounds_toArray,List.set_cons_zero,List.set_cons_succ]
           refine wpAnyIn_take (i:=13) (oi:=⟨some 30,_,_,_,_,_⟩) (v:=.bool false) rfl rfl (by kernel_rfl) (by kernel_rfl) (by kernel_rfl) (fun _ _ _ h=>h) ⟨Or.inl ⟨by rfl,fun W=>by go_simp⟩,fun W=>by rfl⟩ ?_
           simp only [Act.put,List.setIfInBounds_toArray,List.set_cons_zero,List.set_cons_succ]
           refine wpAnyIn_take (i:=14) (oi:=⟨some 31,_,_,_,_,_⟩) (v:=.bool false) rfl rfl (by kernel_rfl) (by kernel_rfl) (by kernel_rfl) (fun _ _ _ h=>h) ⟨Or.inl ⟨by rfl,fun W=>by go_simp⟩,fun W=>by rfl⟩ ?_
           simp only [Act.put,List.setIfInBounds_toArray,List.set_cons_zero,List.set_cons_succ]
           refine wpAnyIn_done (by kernel_rfl) ?_ _
           gi_wp2
           go_roundw
           case rel=>exact ⟨k + 1,by go_num,by omega,pre ++ [((X,Y,Z),kb)],by rw [sidesTo_succ,HN.out,List.map_append,HPRE.out]; rfl,HB5.out⟩
           case measure=>(simp only [intOf]; omega)
          exact AllReadyIn.nil
         exact AllReadyIn.nil
        refine EachR.cons (o:=⟨some 26,_,_,_,_,_⟩) rfl (fun c=>by intro h; cases h) (fun K hK=>?_) ?_
        ·go_simp
         refine hK.out _ _ ?_
         clear hK K
         refine wpAnyIn_ready (rs:=[8,11]) (by kernel_rfl) (by simp) ?_
         refine EachR.cons (o:=⟨some 25,_,_,_,_,_⟩) rfl (fun c=>by intro h; cases h) (fun K hK=>?_) ?_
         ·go_simp
          refine hK.out _ _ ?_
          clear hK K
          refine wpAnyIn_ready (rs:=[11]) (by kernel_rfl) (by simp) ?_
          refine EachR.cons (o:=⟨some 28,_,_,_,_,_⟩) rfl (fun c=>by intro h; cases h) (fun K hK=>?_) ?_
          ·have hkc:=know_c (w:=W3) (q:=(X,Y,Z)) HSX3.out HOK.out.1
           rw [HWKE.out] at hkc
           go_simp
           refine hkc.mono ?_
           clear hkc
           rintro e W4 ⟨kb,vA,ak,kn,rfl,hmem,hmore,hsx4,hgo4⟩
           have HSX4:=Lib.hid hsx4
           have HBA4:=Lib.hid (HBA3.out.go hgo4)
           have HIN4:=Lib.hid (HS.out _ _ _ _ _ _ _ HIN3.out hsx4 hgo4 hmore)
           have HLS4:=Lib.hid (HLS3.out.go hgo4)
           have HMEM:=Lib.hid (show ((X,Y,Z),kb) ∈ (g.more vA ak kn).kn from hmem)
           have f0:=HLS4.out.1.cell (i:=0) rfl
           have f1:=HLS4.out.1.cell (i:=1) rfl
           have f2:=HLS4.out.1.cell (i:=2) rfl
           clear hmem hmore hsx4 hgo4 d0 d1 d2 dwb
           refine hK.out _ _ ?_
           clear hK K
           obtain ⟨fn,tmps,assign,body,hy,hR⟩:=HY.out pre ((X,Y,Z),kb) _ W4 HSX4.out HBA4.out HIN4.out HMEM.out HM.out
           dsimp only at hy hR
           refine wpAnyIn_ready (rs:=[12]) (by kernel_rfl) (by simp) ?_
           refine EachR.yields (o:=⟨some 29,_,_,_,_,_⟩) rfl (by kernel_rfl) (fun c=>by intro h; cases h) (f:=fn) (tmps:=tmps) (assign:=assign) (body:=body) (l:=l) ?_ (hR.mono ?_)
           ·go_simp
           rintro e W5 ⟨rfl,hB5⟩
           have HB5:=Lib.hid hB5
           refine ⟨_,rfl,?_⟩
           clear hy hR hB5 f0 f1 f2
           simp only [Act.put,List.setIfInBounds_toArray,List.set_cons_zero,List.set_cons_succ]
           refine wpAnyIn_take (i:=13) (oi:=⟨some 30,_,_,_,_,_⟩) (v:=.bool false) rfl rfl (by kernel_rfl) (by kernel_rfl) (by kernel_rfl) (fun _ _ _ h=>h) ⟨Or.inl ⟨by rfl,fun W=>by go_simp⟩,fun W=>by rfl⟩ ?_
           simp only [Act.put,List.setIfInBounds_toArray,List.set_cons_zero,List.set_cons_succ]
           refine wpAnyIn_take (i:=14) (oi:=⟨some 31,_,_,_,_,_⟩) (v:=.bool false) rfl rfl (by kernel_rfl) (by kernel_rfl) (by kernel_rfl) (fun _ _ _ h=>h) ⟨Or.inl ⟨by rfl,fun W=>by go_simp⟩,fun W=>by rfl⟩ ?_
           simp only [Act.put,List.setIfInBounds_toArray,List.set_cons_zero,List.set_cons_succ]
           refine wpAnyIn_done (by kernel_rfl) ?_ _
           gi_wp2
           go_roundw
           case rel=>exact ⟨k + 1,by go_num,by omega,pre ++ [((X,Y,Z),kb)],by rw [sidesTo_succ,HN.out,List.map_append,HPRE.out]; rfl,HB5.out⟩
           case measure=>(simp only [intOf]; omega)
          exact AllReadyIn.nil
         refine EachR.cons (o:=⟨some 28,_,_,_,_,_⟩) rfl (fun c=>by intro h; cases h) (fun K hK=>?_) ?_
         ·have hkc:=know_c (w:=W3) (q:=(X,Y,Z)) HSX3.out HOK.out.1
          rw [HWKE.out] at hkc
          go_simp
          refine hkc.mono ?_
          clear hkc
          rintro e W4 ⟨kb,vA,ak,kn,rfl,hmem,hmore,hsx4,hgo4⟩
          have HSX4:=Lib.hid hsx4
          have HBA4:=Lib.hid (HBA3.out.go hgo4)
          have HIN4:=Lib.hid (HS.out _ _ _ _ _ _ _ HIN3.out hsx4 hgo4 hmore)
          have HLS4:=Lib.hid (HLS3.out.go hgo4)
          have HMEM:=Lib.hid (show ((X,Y,Z),kb) ∈ (g.more vA ak kn).kn from hmem)
          have f0:=HLS4.out.1.cell (i:=0) rfl
          have f1:=HLS4.out.1.cell (i:=1) rfl
          have f2:=HLS4.out.1.cell (i:=2) rfl
          clear hmem hmore hsx4 hgo4 d0 d1 d2 dwb
          refine hK.out _ _ ?_
          clear hK K
          refine wpAnyIn_ready (rs:=[8]) (by kernel_rfl) (by simp) ?_
          refine EachR.cons (o:=⟨some 25,_,_,_,_,_⟩) rfl (fun c=>by intro h; cases h) (fun K hK=>?_) ?_
          ·go_simp
           refine hK.out _ _ ?_
           clear hK K
           obtain ⟨fn,tmps,assign,body,hy,hR⟩:=HY.out pre ((X,Y,Z),kb) _ W4 HSX4.out HBA4.out HIN4.out HMEM.out HM.out
           dsimp only at hy hR
           refine wpAnyIn_ready (rs:=[12]) (by kernel_rfl) (by simp) ?_
           refine EachR.yields (o:=⟨some 29,_,_,_,_,_⟩) rfl (by kernel_rfl) (fun c=>by intro h; cases h) (f:=fn) (tmps:=tmps) (assign:=assign) (body:=body) (l:=l) ?_ (hR.mono ?_)
           ·go_simp
           rintro e W5 ⟨rfl,hB5⟩
           have HB5:=Lib.hid hB5
           refine ⟨_,rfl,?_⟩
           clear hy hR hB5 f0 f1 f2
           simp only [Act.put,List.setIfInBounds_toArray,List.set_cons_zero,List.set_cons_succ]
           refine wpAnyIn_take (i:=13) (oi:=⟨some 30,_,_,_,_,_⟩) (v:=.bool false) rfl rfl (by kernel_rfl) (by kernel_rfl) (by kernel_rfl) (fun _ _ _ h=>h) ⟨Or.inl ⟨by rfl,fun W=>by go_simp⟩,fun W=>by rfl⟩ ?_
           simp only [Act.put,List.setIfInBounds_toArray,List.set_cons_zero,List.set_cons_succ]
           refine wpAnyIn_take (i:=14) (oi:=⟨some 31,_,_,_,_,_⟩) (v:=.bool false) rfl rfl (by kernel_rfl) (by kernel_rfl) (by kernel_rfl) (fun _ _ _ h=>h) ⟨Or.inl ⟨by rfl,fun W=>by go_simp⟩,fun W=>by rfl⟩ ?_
           simp only [Act.put,List.setIfInBounds_toArray,List.set_cons_zero,List.set_cons_succ]
           refine wpAnyIn_done (by kernel_rfl) ?_ _
           gi_wp2
           go_roundw
           case rel=>exact ⟨k + 1,by go_num,by omega,pre ++ [((X,Y,Z),kb)],by rw [sidesTo_succ,HN.out,List.map_append,HPRE.out]; rfl,HB5.out⟩
           case measure=>(simp only [intOf]; omega)
          exact AllReadyIn.nil
         exact AllReadyIn.nil
        exact AllReadyIn.nil
       exact AllReadyIn.nil
      exact AllReadyIn.nil
     exact AllReadyIn.nil
    refine EachR.cons (o:=⟨some 20,_,_,_,_,_⟩) rfl (fun c=>by intro h; cases h) (fun K hK=>?_) ?_
    ·go_simp
     refine hK.out _ _ ?_
     clear hK K
     refine wpAnyIn_ready (rs:=[2]) (by kernel_rfl) (by simp) ?_
     refine EachR.cons (o:=⟨some 19,_,_,_,_,_⟩) rfl (fun c=>by intro h; cases h) (fun K hK=>?_) ?_
     ·go_simp
      refine hK.out _ _ ?_
      clear hK K
      refine wpAnyIn_ready (rs:=[4]) (by kernel_rfl) (by simp) ?_
      refine EachR.cons (o:=⟨some 21,_,_,_,_,_⟩) rfl (fun c=>by intro h; cases h) (fun K hK=>?_) ?_
      ·go_simp
       have hnc:=near_c (w:=W2.drew) (q:=(X,Y,Z)) (HSX.out.below (Below.refl _ _).drew) HOK.out.1.1
       rw [HWKE.out] at hnc
       refine hnc.mono ?_
       clear hnc
       rintro e W3 ⟨rfl,hb3⟩
       rw [show decide (dG g (X,Y,Z)≤15) = true from decide_eq_true HOK.out.2]
       have HSX3:=Lib.hid ((HSX.out.below (Below.refl _ _).drew).below hb3)
       have HBA3:=Lib.hid ((HBA.out.below (Below.refl _ _).drew).below hb3)
       have HIN3:=Lib.hid (HS.out.below (HSX.out.below (Below.refl _ _).drew) (HS.out.below HSX.out HIN.out (Below.refl _ _).drew) hb3)
       have HLS3:=Lib.hid (show Loc W3 g sb TP [.int .i64 X,.int .i64 Y,.int .i64 Z] from Loc.below (w:=W2.drew) ⟨HSB.out,HNS.out⟩ hb3)
       have d0:=HLS3.out.1.cell (i:=0) rfl
       have d1:=HLS3.out.1.cell (i:=1) rfl
       have d2:=HLS3.out.1.cell (i:=2) rfl
       have dwb:=HBA3.out.wbox.1.cell (i:=0) rfl
       clear hb3 c0 c1 c2 hwb
       refine hK.out _ _ ?_
       clear hK K
       refine wpAnyIn_take (i:=5) (oi:=⟨some 22,_,_,_,_,_⟩) (v:=.bool true) rfl rfl (by kernel_rfl) (by kernel_rfl) (by kernel_rfl) (fun _ _ _ h=>h) ⟨Or.inl ⟨by rfl,fun W=>by go_simp⟩,fun W=>by rfl⟩ ?_
       simp only [Act.put,List.setIfInBounds_toArray,List.set_cons_zero,List.set_cons_succ]
       refine wpAnyIn_take (i:=6) (oi:=⟨some 23,_,_,_,_,_⟩) (v:=.bool true) rfl rfl (by kernel_rfl) (by kernel_rfl) (by kernel_rfl) (fun _ _ _ h=>h) ⟨Or.inl ⟨by rfl,fun W=>by go_simp⟩,fun W=>by rfl⟩ ?_
       simp only [Act.put,List.setIfInBounds_toArray,List.set_cons_zero,List.set_cons_succ]
       refine wpAnyIn_take (i:=7) (oi:=⟨some 24,_,_,_,_,_⟩) (v:=.func (.yield l) #[] #[]) rfl rfl (by kernel_rfl) (by kernel_rfl) (by kernel_rfl) (fun _ _ _ h=>h) ⟨Or.inl ⟨by rfl,fun W=>by go_simp⟩,fun W=>by rfl⟩ ?_
       simp only [Act.put,List.setIfInBounds_toArray,List.set_cons_zero,List.set_cons_succ]
       refine wpAnyIn_ready (rs:=[8,9,10]) (by kernel_rfl) (by simp) ?_
       refine EachR.cons (o:=⟨some 25,_,_,_,_,_⟩) rfl (fun c=>by intro h; cases h) (fun K hK=>?_) ?_
       ·go_simp
        refine hK.out _ _ ?_
        clear hK K
        refine wpAnyIn_ready (rs:=[9,10]) (by kernel_rfl) (by simp) ?_
        refine EachR.cons (o:=⟨some 26,_,_,_,_,_⟩) rfl (fun c=>by intro h; cases h) (fun K hK=>?_) ?_
        ·go_simp
         refine hK.out _ _ ?_
         clear hK K
         refine wpAnyIn_ready (rs:=[10]) (by kernel_rfl) (by simp) ?_
         refine EachR.cons (o:=⟨some 27,_,_,_,_,_⟩) rfl (fun c=>by intro h; cases h) (fun K hK=>?_) ?_
         ·go_simp
          refine hK.out _ _ ?_
          clear hK K
          refine wpAnyIn_ready (rs:=[11]) (by kernel_rfl) (by simp) ?_
          refine EachR.cons (o:=⟨some 28,_,_,_,_,_⟩) rfl (fun c=>by intro h; cases h) (fun K hK=>?_) ?_
          ·have hkc:=know_c (w:=W3) (q:=(X,Y,Z)) HSX3.out HOK.out.1
           rw [HWKE.out] at hkc
           go_simp
           refine hkc.mono ?_
           clear hkc
           rintro e W4 ⟨kb,vA,ak,kn,rfl,hmem,hmore,hsx4,hgo4⟩
           have HSX4:=Lib.hid hsx4
           have HBA4:=Lib.hid (HBA3.out.go hgo4)
           have HIN4:=Lib.hid (HS.out _ _ _ _ _ _ _ HIN3.out hsx4 hgo4 hmore)
           have HLS4:=Lib.hid (HLS3.out.go hgo4)
           have HMEM:=Lib.hid (show ((X,Y,Z),kb) ∈ (g.more vA ak kn).kn from hmem)
           have f0:=HLS4.out.1.cell (i:=0) rfl
           have f1:=HLS4.out.1.cell (i:=1) rfl
           have f2:=HLS4.out.1.cell (i:=2) rfl
           clear hmem hmore hsx4 hgo4 d0 d1 d2 dwb
           refine hK.out _ _ ?_
           clear hK K
           obtain ⟨fn,tmps,assign,body,hy,hR⟩:=HY.out pre ((X,Y,Z),kb) _ W4 HSX4.out HBA4.out HIN4.out HMEM.out HM.out
           dsimp only at hy hR
           refine wpAnyIn_ready (rs:=[12]) (by kernel_rfl) (by simp) ?_
           refine EachR.yields (o:=⟨some 29,_,_,_,_,_⟩) rfl (by kernel_rfl) (fun c=>by intro h; cases h) (f:=fn) (tmps:=tmps) (assign:=assign) (body:=body) (l:=l) ?_ (hR.mono ?_)
           ·go_simp
           rintro e W5 ⟨rfl,hB5⟩
           have HB5:=Lib.hid hB5
           refine ⟨_,rfl,?_⟩
           clear hy hR hB5 f0 f1 f2
           simp only [Act.put,List.setIfInBounds_toArray,List.set_cons_zero,List.set_cons_succ]
           refine wpAnyIn_take (i:=13) (oi:=⟨some 30,_,_,_,_,_⟩) (v:=.bool false) rfl rfl (by kernel_rfl) (by kernel_rfl) (by kernel_rfl) (fun _ _ _ h=>h) ⟨Or.inl ⟨by rfl,fun W=>by go_simp⟩,fun W=>by rfl⟩ ?_
           simp only [Act.put,List.setIfInBounds_toArray,List.set_cons_zero,List.set_cons_succ]
           refine wpAnyIn_take (i:=14) (oi:=⟨some 31,_,_,_,_,_⟩) (v:=.bool false) rfl rfl (by kernel_rfl) (by kernel_rfl) (by kernel_rfl) (fun _ _ _ h=>h) ⟨Or.inl ⟨by rfl,fun W=>by go_simp⟩,fun W=>by rfl⟩ ?_
           simp only [Act.put,List.setIfInBounds_toArray,List.set_cons_zero,List.set_cons_succ]
           refine wpAnyIn_done (by kernel_rfl) ?_ _
           gi_wp2
           go_roundw
           case rel=>exact ⟨k + 1,by go_num,by omega,pre ++ [((X,Y,Z),kb)],by rw [sidesTo_succ,HN.out,List.map_append,HPRE.out]; rfl,HB5.out⟩
           case measure=>(simp only [intOf]; omega)
          exact AllReadyIn.nil
         exact AllReadyIn.nil
        refine EachR.cons (o:=⟨some 27,_,_,_,_,_⟩) rfl (fun c=>by intro h; cases h) (fun K hK=>?_) ?_
        ·go_simp
         refine hK.out _ _ ?_
         clear hK K
         refine wpAnyIn_ready (rs:=[9]) (by kernel_rfl) (by simp) ?_
         refine EachR.cons (o:=⟨some 26,_,_,_,_,_⟩) rfl (fun c=>by intro h; cases h) (fun K hK=>?_) ?_
         ·go_simp
          refine hK.out _ _ ?_
          clear hK K
          refine wpAnyIn_ready (rs:=[11]) (by kernel_rfl) (by simp) ?_
          refine EachR.cons (o:=⟨some 28,_,_,_,_,_⟩) rfl (fun c=>by intro h; cases h) (fun K hK=>?_) ?_
          ·have hkc:=know_c (w:=W3) (q:=(X,Y,Z)) HSX3.out HOK.out.1
           rw [HWKE.out] at hkc
           go_simp
           refine hkc.mono ?_
           clear hkc
           rintro e W4 ⟨kb,vA,ak,kn,rfl,hmem,hmore,hsx4,hgo4⟩
           have HSX4:=Lib.hid hsx4
           have HBA4:=Lib.hid (HBA3.out.go hgo4)
           have HIN4:=Lib.hid (HS.out _ _ _ _ _ _ _ HIN3.out hsx4 hgo4 hmore)
           have HLS4:=Lib.hid (HLS3.out.go hgo4)
           have HMEM:=Lib.hid (show ((X,Y,Z),kb) ∈ (g.more vA ak kn).kn from hmem)
           have f0:=HLS4.out.1.cell (i:=0) rfl
           have f1:=HLS4.out.1.cell (i:=1) rfl
           have f2:=HLS4.out.1.cell (i:=2) rfl
           clear hmem hmore hsx4 hgo4 d0 d1 d2 dwb
           refine hK.out _ _ ?_
           clear hK K
           obtain ⟨fn,tmps,assign,body,hy,hR⟩:=HY.out pre ((X,Y,Z),kb) _ W4 HSX4.out HBA4.out HIN4.out HMEM.out HM.out
           dsimp only at hy hR
           refine wpAnyIn_ready (rs:=[12]) (by kernel_rfl) (by simp) ?_
           refine EachR.yields (o:=⟨some 29,_,_,_,_,_⟩) rfl (by kernel_rfl) (fun c=>by intro h; cases h) (f:=fn) (tmps:=tmps) (assign:=assign) (body:=body) (l:=l) ?_ (hR.mono ?_)
           ·go_simp
           rintro e W5 ⟨rfl,hB5⟩
           have HB5:=Lib.hid hB5
           refine ⟨_,rfl,?_⟩
           clear hy hR hB5 f0 f1 f2
           simp only [Act.put,List.setIfInBounds_toArray,List.set_cons_zero,List.set_cons_succ]
           refine wpAnyIn_take (i:=13) (oi:=⟨some 30,_,_,_,_,_⟩) (v:=.bool false) rfl rfl (by kernel_rfl) (by kernel_rfl) (by kernel_rfl) (fun _ _ _ h=>h) ⟨Or.inl ⟨by rfl,fun W=>by go_simp⟩,fun W=>by rfl⟩ ?_
           simp only [Act.put,List.setIfInBounds_toArray,List.set_cons_zero,List.set_cons_succ]
           refine wpAnyIn_take (i:=14) (oi:=⟨some 31,_,_,_,_,_⟩) (v:=.bool false) rfl rfl (by kernel_rfl) (by kernel_rfl) (by kernel_rfl) (fun _ _ _ h=>h) ⟨Or.inl ⟨by rfl,fun W=>by go_simp⟩,fun W=>by rfl⟩ ?_
           simp only [Act.put,List.setIfInBounds_toArray,List.set_cons_zero,List.set_cons_succ]
           refine wpAnyIn_done (by kernel_rfl) ?_ _
           gi_wp2
           go_roundw
           case rel=>exact ⟨k + 1,by go_num,by omega,pre ++ [((X,Y,Z),kb)],by rw [sidesTo_succ,HN.out,List.map_append,HPRE.out]; rfl,HB5.out⟩
           case measure=>(simp only [intOf]; omega)
          exact AllReadyIn.nil
         exact AllReadyIn.nil
        exact AllReadyIn.nil
       refine EachR.cons (o:=⟨some 26,_,_,_,_,_⟩) rfl (fun c=>by intro h; cases h) (fun K hK=>?_) ?_
       ·go_simp
        refine hK.out _ _ ?_
        clear hK K
        refine wpAnyIn_ready (rs:=[8,10]) (by kernel_rfl) (by simp) ?_
        refine EachR.cons (o:=⟨some 25,_,_,_,_,_⟩) rfl (fun c=>by intro h; cases h) (fun K hK=>?_) ?_
        ·go_simp
         refine hK.out _ _ ?_
         clear hK K
         refine wpAnyIn_ready (rs:=[10]) (by kernel_rfl) (by simp) ?_
         refine EachR.cons (o:=⟨some 27,_,_,_,_,_⟩) rfl (fun c=>by intro h; cases h) (fun K hK=>?_) ?_
         ·go_simp
          refine hK.out _ _ ?_
          clear hK K
          refine wpAnyIn_ready (rs:=[11]) (by kernel_rfl) (by simp) ?_
          refine EachR.cons (o:=⟨some 28,_,_,_,_,_⟩) rfl (fun c=>by intro h; cases h) (fun K hK=>?_) ?_
          ·have hkc:=know_c (w:=W3) (q:=(X,Y,Z)) HSX3.out HOK.out.1
           rw [HWKE.out] at hkc
           go_simp
           refine hkc.mono ?_
           clear hkc
           rintro e W4 ⟨kb,vA,ak,kn,rfl,hmem,hmore,hsx4,hgo4⟩
           have HSX4:=Lib.hid hsx4
           have HBA4:=Lib.hid (HBA3.out.go hgo4)
           have HIN4:=Lib.hid (HS.out _ _ _ _ _ _ _ HIN3.out hsx4 hgo4 hmore)
           have HLS4:=Lib.hid (HLS3.out.go hgo4)
           have HMEM:=Lib.hid (show ((X,Y,Z),kb) ∈ (g.more vA ak kn).kn from hmem)
           have f0:=HLS4.out.1.cell (i:=0) rfl
           have f1:=HLS4.out.1.cell (i:=1) rfl
           have f2:=HLS4.out.1.cell (i:=2) rfl
           clear hmem hmore hsx4 hgo4 d0 d1 d2 dwb
           refine hK.out _ _ ?_
           clear hK K
           obtain ⟨fn,tmps,assign,body,hy,hR⟩:=HY.out pre ((X,Y,Z),kb) _ W4 HSX4.out HBA4.out HIN4.out HMEM.out HM.out
           dsimp only at hy hR
           refine wpAnyIn_ready (rs:=[12]) (by kernel_rfl) (by simp) ?_
           refine EachR.yields (o:=⟨some 29,_,_,_,_,_⟩) rfl (by kernel_rfl) (fun c=>by intro h; cases h) (f:=fn) (tmps:=tmps) (assign:=assign) (body:=body) (l:=l) ?_ (hR.mono ?_)
           ·go_simp
           rintro e W5 ⟨rfl,hB5⟩
           have HB5:=Lib.hid hB5
           refine ⟨_,rfl,?_⟩
           clear hy hR hB5 f0 f1 f2
           simp only [Act.put,List.setIfInBounds_toArray,List.set_cons_zero,List.set_cons_succ]
           refine wpAnyIn_take (i:=13) (oi:=⟨some 30,_,_,_,_,_⟩) (v:=.bool false) rfl rfl (by kernel_rfl) (by kernel_rfl) (by kernel_rfl) (fun _ _ _ h=>h) ⟨Or.inl ⟨by rfl,fun W=>by go_simp⟩,fun W=>by rfl⟩ ?_
           simp only [Act.put,List.setIfInBounds_toArray,List.set_cons_zero,List.set_cons_succ]
           refine wpAnyIn_take (i:=14) (oi:=⟨some 31,_,_,_,_,_⟩) (v:=.bool false) rfl rfl (by kernel_rfl) (by kernel_rfl) (by kernel_rfl) (fun _ _ _ h=>h) ⟨Or.inl ⟨by rfl,fun W=>by go_simp⟩,fun W=>by rfl⟩ ?_
           simp only [Act.put,List.setIfInBounds_toArray,List.set_cons_zero,List.set_cons_succ]
           refine wpAnyIn_done (by kernel_rfl) ?_ _
           gi_wp2
           go_roundw
           case rel=>exact ⟨k + 1,by go_num,by omega,pre ++ [((X,Y,Z),kb)],by rw [sidesTo_succ,HN.out,List.map_append,HPRE.out]; rfl,HB5.out⟩
           case measure=>(simp only [intOf]; omega)
          exact AllReadyIn.nil
         exact AllReadyIn.nil
        refine EachR.cons (o:=⟨some 27,_,_,_,_,_⟩) rfl (fun c=>by intro h; cases h) (fun K hK=>?_) ?_
        ·go_simp
         refine hK.out _ _ ?_
         clear hK K
         refine wpAnyIn_ready (rs:=[8,11]) (by kernel_rfl) (by simp) ?_
         refine EachR.cons (o:=⟨some 25,_,_,_,_,_⟩) rfl (fun c=>by intro h; cases h) (fun K hK=>?_) ?_
         ·go_simp
          refine hK.out _ _ ?_
          clear hK K
          refine wpAnyIn_ready (rs:=[11]) (by kernel_rfl) (by simp) ?_
          refine EachR.cons (o:=⟨some 28,_,_,_,_,_⟩) rfl (fun c=>by intro h; cases h) (fun K hK=>?_) ?_
          ·have hkc:=know_c (w:=W3) (q:=(X,Y,Z)) HSX3.out HOK.out.1
           rw [HWKE.out] at hkc
           go_simp
           refine hkc.mono ?_
           clear hkc
           rintro e W4 ⟨kb,vA,ak,kn,rfl,hmem,hmore,hsx4,hgo4⟩
           have HSX4:=Lib.hid hsx4
           have HBA4:=Lib.hid (HBA3.out.go hgo4)
           have HIN4:=Lib.hid (HS.out _ _ _ _ _ _ _ HIN3.out hsx4 hgo4 hmore)
           have HLS4:=Lib.hid (HLS3.out.go hgo4)
           have HMEM:=Lib.hid (show ((X,Y,Z),kb) ∈ (g.more vA ak kn).kn from hmem)
           have f0:=HLS4.out.1.cell (i:=0) rfl
           have f1:=HLS4.out.1.cell (i:=1) rfl
           have f2:=HLS4.out.1.cell (i:=2) rfl
           clear hmem hmore hsx4 hgo4 d0 d1 d2 dwb
           refine hK.out _ _ ?_
           clear hK K
           obtain ⟨fn,tmps,assign,body,hy,hR⟩:=HY.out pre ((X,Y,Z),kb) _ W4 HSX4.out HBA4.out HIN4.out HMEM.out HM.out
           dsimp only at hy hR
           refine wpAnyIn_ready (rs:=[12]) (by kernel_rfl) (by simp) ?_
           refine EachR.yields (o:=⟨some 29,_,_,_,_,_⟩) rfl (by kernel_rfl) (fun c=>by intro h; cases h) (f:=fn) (tmps:=tmps) (assign:=assign) (body:=body) (l:=l) ?_ (hR.mono ?_)
           ·go_simp
           rintro e W5 ⟨rfl,hB5⟩
           have HB5:=Lib.hid hB5
           refine ⟨_,rfl,?_⟩
           clear hy hR hB5 f0 f1 f2
           simp only [Act.put,List.setIfInBounds_toArray,List.set_cons_zero,List.set_cons_succ]
           refine wpAnyIn_take (i:=13) (oi:=⟨some 30,_,_,_,_,_⟩) (v:=.bool false) rfl rfl (by kernel_rfl) (by kernel_rfl) (by kernel_rfl) (fun _ _ _ h=>h) ⟨Or.inl ⟨by rfl,fun W=>by go_simp⟩,fun W=>by rfl⟩ ?_
           simp only [Act.put,List.setIfInBounds_toArray,List.set_cons_zero,List.set_cons_succ]
           refine wpAnyIn_take (i:=14) (oi:=⟨some 31,_,_,_,_,_⟩) (v:=.bool false) rfl rfl (by kernel_rfl) (by kernel_rfl) (by kernel_rfl) (fun _ _ _ h=>h) ⟨Or.inl ⟨by rfl,fun W=>by go_simp⟩,fun W=>by rfl⟩ ?_
           simp only [Act.put,List.setIfInBounds_toArray,List.set_cons_zero,List.set_cons_succ]
           refine wpAnyIn_done (by kernel_rfl) ?_ _
           gi_wp2
           go_roundw
           case rel=>exact ⟨k + 1,by go_num,by omega,pre ++ [((X,Y,Z),kb)],by rw [sidesTo_succ,HN.out,List.map_append,HPRE.out]; rfl,HB5.out⟩
           case measure=>(simp only [intOf]; omega)
          exact AllReadyIn.nil
         refine EachR.cons (o:=⟨some 28,_,_,_,_,_⟩) rfl (fun c=>by intro h; cases h) (fun K hK=>?_) ?_
         ·have hkc:=know_c (w:=W3) (q:=(X,Y,Z)) HSX3.out HOK.out.1
          rw [HWKE.out] at hkc
          go_simp
          refine hkc.mono ?_
          clear hkc
          rintro e W4 ⟨kb,vA,ak,kn,rfl,hmem,hmore,hsx4,hgo4⟩
          have HSX4:=Lib.hid hsx4
          have HBA4:=Lib.hid (HBA3.out.go hgo4)
          have HIN4:=Lib.hid (HS.out _ _ _ _ _ _ _ HIN3.out hsx4 hgo4 hmore)
          have HLS4:=Lib.hid (HLS3.out.go hgo4)
          have HMEM:=Lib.hid (show ((X,Y,Z),kb) ∈ (g.more vA ak kn).kn from hmem)
          have f0:=HLS4.out.1.cell (i:=0) rfl
          have f1:=HLS4.out.1.cell (i:=1) rfl
          have f2:=HLS4.out.1.cell (i:=2) rfl
          clear hmem hmore hsx4 hgo4 d0 d1 d2 dwb
          refine hK.out _ _ ?_
          clear hK K
          refine wpAnyIn_ready (rs:=[8]) (by kernel_rfl) (by simp) ?_
          refine EachR.cons (o:=⟨some 25,_,_,_,_,_⟩) rfl (fun c=>by intro h; cases h) (fun K hK=>?_) ?_
          ·go_simp
           refine hK.out _ _ ?_
           clear hK K
           obtain ⟨fn,tmps,assign,body,hy,hR⟩:=HY.out pre ((X,Y,Z),kb) _ W4 HSX4.out HBA4.out HIN4.out HMEM.out HM.out
           dsimp only at hy hR
           refine wpAnyIn_ready (rs:=[12]) (by kernel_rfl) (by simp) ?_
           refine EachR.yields (o:=⟨some 29,_,_,_,_,_⟩) rfl (by kernel_rfl) (fun c=>by intro h; cases h) (f:=fn) (tmps:=tmps) (assign:=assign) (body:=body) (l:=l) ?_ (hR.mono ?_)
           ·go_simp
           rintro e W5 ⟨rfl,hB5⟩
           have HB5:=Lib.hid hB5
           refine ⟨_,rfl,?_⟩
           clear hy hR hB5 f0 f1 f2
           simp only [Act.put,List.setIfInBounds_toArray,List.set_cons_zero,List.set_cons_succ]
           refine wpAnyIn_take (i:=13) (oi:=⟨some 30,_,_,_,_,_⟩) (v:=.bool false) rfl rfl (by kernel_rfl) (by kernel_rfl) (by kernel_rfl) (fun _ _ _ h=>h) ⟨Or.inl ⟨by rfl,fun W=>by go_simp⟩,fun W=>by rfl⟩ ?_
           simp only [Act.put,List.setIfInBounds_toArray,List.set_cons_zero,List.set_cons_succ]
           refine wpAnyIn_take (i:=14) (oi:=⟨some 31,_,_,_,_,_⟩) (v:=.bool false) rfl rfl (by kernel_rfl) (by kernel_rfl) (by kernel_rfl) (fun _ _ _ h=>h) ⟨Or.inl ⟨by rfl,fun W=>by go_simp⟩,fun W=>by rfl⟩ ?_
           simp only [Act.put,List.setIfInBounds_toArray,List.set_cons_zero,List.set_cons_succ]
           refine wpAnyIn_done (by kernel_rfl) ?_ _
           gi_wp2
           go_roundw
           case rel=>exact ⟨k + 1,by go_num,by omega,pre ++ [((X,Y,Z),kb)],by rw [sidesTo_succ,HN.out,List.map_append,HPRE.out]; rfl,HB5.out⟩
           case measure=>(simp only [intOf]; omega)
          exact AllReadyIn.nil
         exact AllReadyIn.nil
        exact AllReadyIn.nil
       refine EachR.cons (o:=⟨some 27,_,_,_,_,_⟩) rfl (fun c=>by intro h; cases h) (fun K hK=>?_) ?_
       ·go_simp
        refine hK.out _ _ ?_
        clear hK K
        refine wpAnyIn_ready (rs:=[8,9]) (by kernel_rfl) (by simp) ?_
        refine EachR.cons (o:=⟨some 25,_,_,_,_,_⟩) rfl (fun c=>by intro h; cases h) (fun K hK=>?_) ?_
        ·go_simp
         refine hK.out _ _ ?_
         clear hK K
         refine wpAnyIn_ready (rs:=[9]) (by kernel_rfl) (by simp) ?_
         refine EachR.cons (o:=⟨some 26,_,_,_,_,_⟩) rfl (fun c=>by intro h; cases h) (fun K hK=>?_) ?_
         ·go_simp
          refine hK.out _ _ ?_
          clear hK K
          refine wpAnyIn_ready (rs:=[11]) (by kernel_rfl) (by simp) ?_
          refine EachR.cons (o:=⟨some 28,_,_,_,_,_⟩) rfl (fun c=>by intro h; cases h) (fun K hK=>?_) ?_
          ·have hkc:=know_c (w:=W3) (q:=(X,Y,Z)) HSX3.out HOK.out.1
           rw [HWKE.out] at hkc
           go_simp
           refine hkc.mono ?_
           clear hkc
           rintro e W4 ⟨kb,vA,ak,kn,rfl,hmem,hmore,hsx4,hgo4⟩
           have HSX4:=Lib.hid hsx4
           have HBA4:=Lib.hid (HBA3.out.go hgo4)
           have HIN4:=Lib.hid (HS.out _ _ _ _ _ _ _ HIN3.out hsx4 hgo4 hmore)
           have HLS4:=Lib.hid (HLS3.out.go hgo4)
           have HMEM:=Lib.hid (show ((X,Y,Z),kb) ∈ (g.more vA ak kn).kn from hmem)
           have f0:=HLS4.out.1.cell (i:=0) rfl
           have f1:=HLS4.out.1.cell (i:=1) rfl
           have f2:=HLS4.out.1.cell (i:=2) rfl
           clear hmem hmore hsx4 hgo4 d0 d1 d2 dwb
           refine hK.out _ _ ?_
           clear hK K
           obtain ⟨fn,tmps,assign,body,hy,hR⟩:=HY.out pre ((X,Y,Z),kb) _ W4 HSX4.out HBA4.out HIN4.out HMEM.out HM.out
           dsimp only at hy hR
           refine wpAnyIn_ready (rs:=[12]) (by kernel_rfl) (by simp) ?_
           refine EachR.yields (o:=⟨some 29,_,_,_,_,_⟩) rfl (by kernel_rfl) (fun c=>by intro h; cases h) (f:=fn) (tmps:=tmps) (assign:=assign) (body:=body) (l:=l) ?_ (hR.mono ?_)
           ·go_simp
           rintro e W5 ⟨rfl,hB5⟩
           have HB5:=Lib.hid hB5
           refine ⟨_,rfl,?_⟩
           clear hy hR hB5 f0 f1 f2
           simp only [Act.put,List.setIfInBounds_toArray,List.set_cons_zero,List.set_cons_succ]
           refine wpAnyIn_take (i:=13) (oi:=⟨some 30,_,_,_,_,_⟩) (v:=.bool false) rfl rfl (by kernel_rfl) (by kernel_rfl) (by kernel_rfl) (fun _ _ _ h=>h) ⟨Or.inl ⟨by rfl,fun W=>by go_simp⟩,fun W=>by rfl⟩ ?_
           simp only [Act.put,List.setIfInBounds_toArray,List.set_cons_zero,List.set_cons_succ]
           refine wpAnyIn_take (i:=14) (oi:=⟨some 31,_,_,_,_,_⟩) (v:=.bool false) rfl rfl (by kernel_rfl) (by kernel_rfl) (by kernel_rfl) (fun _ _ _ h=>h) ⟨Or.inl ⟨by rfl,fun W=>by go_simp⟩,fun W=>by rfl⟩ ?_
           simp only [Act.put,List.setIfInBounds_toArray,List.set_cons_zero,List.set_cons_succ]
           refine wpAnyIn_done (by kernel_rfl) ?_ _
           gi_wp2
           go_roundw
           case rel=>exact ⟨k + 1,by go_num,by omega,pre ++ [((X,Y,Z),kb)],by rw [sidesTo_succ,HN.out,List.map_append,HPRE.out]; rfl,HB5.out⟩
           case measure=>(simp only [intOf]; omega)
          exact AllReadyIn.nil
         exact AllReadyIn.nil
        refine EachR.cons (o:=⟨some 26,_,_,_,_,_⟩) rfl (fun c=>by intro h; cases h) (fun K hK=>?_) ?_
        ·go_simp
         refine hK.out _ _ ?_
         clear hK K
         refine wpAnyIn_ready (rs:=[8,11]) (by kernel_rfl) (by simp) ?_
         refine EachR.cons (o:=⟨some 25,_,_,_,_,_⟩) rfl (fun c=>by intro h; cases h) (fun K hK=>?_) ?_
         ·go_simp
          refine hK.out _ _ ?_
          clear hK K
          refine wpAnyIn_ready (rs:=[11]) (by kernel_rfl) (by simp) ?_
          refine EachR.cons (o:=⟨some 28,_,_,_,_,_⟩) rfl (fun c=>by intro h; cases h) (fun K hK=>?_) ?_
          ·have hkc:=know_c (w:=W3) (q:=(X,Y,Z)) HSX3.out HOK.out.1
           rw [HWKE.out] at hkc
           go_simp
           refine hkc.mono ?_
           clear hkc
           rintro e W4 ⟨kb,vA,ak,kn,rfl,hmem,hmore,hsx4,hgo4⟩
           have HSX4:=Lib.hid hsx4
           have HBA4:=Lib.hid (HBA3.out.go hgo4)
           have HIN4:=Lib.hid (HS.out _ _ _ _ _ _ _ HIN3.out hsx4 hgo4 hmore)
           have HLS4:=Lib.hid (HLS3.out.go hgo4)
           have HMEM:=Lib.hid (show ((X,Y,Z),kb) ∈ (g.more vA ak kn).kn from hmem)
           have f0:=HLS4.out.1.cell (i:=0) rfl
           have f1:=HLS4.out.1.cell (i:=1) rfl
           have f2:=HLS4.out.1.cell (i:=2) rfl
           clear hmem hmore hsx4 hgo4 d0 d1 d2 dwb
           refine hK.out _ _ ?_
           clear hK K
           obtain ⟨fn,tmps,assign,body,hy,hR⟩:=HY.out pre ((X,Y,Z),kb) _ W4 HSX4.out HBA4.out HIN4.out HMEM.out HM.out
           dsimp only at hy hR
           refine wpAnyIn_ready (rs:=[12]) (by kernel_rfl) (by simp) ?_
           refine EachR.yields (o:=⟨some 29,_,_,_,_,_⟩) rfl (by kernel_rfl) (fun c=>by intro h; cases h) (f:=fn) (tmps:=tmps) (assign:=assign) (body:=body) (l:=l) ?_ (hR.mono ?_)
           ·go_simp
           rintro e W5 ⟨rfl,hB5⟩
           have HB5:=Lib.hid hB5
           refine ⟨_,rfl,?_⟩
           clear hy hR hB5 f0 f1 f2
           simp only [Act.put,List.setIfInBounds_toArray,List.set_cons_zero,List.set_cons_succ]
           refine wpAnyIn_take (i:=13) (oi:=⟨some 30,_,_,_,_,_⟩) (v:=.bool false) rfl rfl (by kernel_rfl) (by kernel_rfl) (by kernel_rfl) (fun _ _ _ h=>h) ⟨Or.inl ⟨by rfl,fun W=>by go_simp⟩,fun W=>by rfl⟩ ?_
           simp only [Act.put,List.setIfInBounds_toArray,List.set_cons_zero,List.set_cons_succ]
           refine wpAnyIn_take (i:=14) (oi:=⟨some 31,_,_,_,_,_⟩) (v:=.bool false) rfl rfl (by kernel_rfl) (by kernel_rfl) (by kernel_rfl) (fun _ _ _ h=>h) ⟨Or.inl ⟨by rfl,fun W=>by go_simp⟩,fun W=>by rfl⟩ ?_
           simp only [Act.put,List.setIfInBounds_toArray,List.set_cons_zero,List.set_cons_succ]
           refine wpAnyIn_done (by kernel_rfl) ?_ _
           gi_wp2
           go_roundw
           case rel=>exact ⟨k + 1,by go_num,by omega,pre ++ [((X,Y,Z),kb)],by rw [sidesTo_succ,HN.out,List.map_append,HPRE.out]; rfl,HB5.out⟩
           case measure=>(simp only [intOf]; omega)
          exact AllReadyIn.nil
         refine EachR.cons (o:=⟨some 28,_,_,_,_,_⟩) rfl (fun c=>by intro h; cases h) (fun K hK=>?_) ?_
         ·have hkc:=know_c (w:=W3) (q:=(X,Y,Z)) HSX3.out HOK.out.1
          rw [HWKE.out] at hkc
          go_simp
          refine hkc.mono ?_
          clear hkc
          rintro e W4 ⟨kb,vA,ak,kn,rfl,hmem,hmore,hsx4,hgo4⟩
          have HSX4:=Lib.hid hsx4
          have HBA4:=Lib.hid (HBA3.out.go hgo4)
          have HIN4:=Lib.hid (HS.out _ _ _ _ _ _ _ HIN3.out hsx4 hgo4 hmore)
          have HLS4:=Lib.hid (HLS3.out.go hgo4)
          have HMEM:=Lib.hid (show ((X,Y,Z),kb) ∈ (g.more vA ak kn).kn from hmem)
          have f0:=HLS4.out.1.cell (i:=0) rfl
          have f1:=HLS4.out.1.cell (i:=1) rfl
          have f2:=HLS4.out.1.cell (i:=2) rfl
          clear hmem hmore hsx4 hgo4 d0 d1 d2 dwb
          refine hK.out _ _ ?_
          clear hK K
          refine wpAnyIn_ready (rs:=[8]) (by kernel_rfl) (by simp) ?_
          refine EachR.cons (o:=⟨some 25,_,_,_,_,_⟩) rfl (fun c=>by intro h; cases h) (fun K hK=>?_) ?_
          ·go_simp
           refine hK.out _ _ ?_
           clear hK K
           obtain ⟨fn,tmps,assign,body,hy,hR⟩:=HY.out pre ((X,Y,Z),kb) _ W4 HSX4.out HBA4.out HIN4.out HMEM.out HM.out
           dsimp only at hy hR
           refine wpAnyIn_ready (rs:=[12]) (by kernel_rfl) (by simp) ?_
           refine EachR.yields (o:=⟨some 29,_,_,_,_,_⟩) rfl (by kernel_rfl) (fun c=>by intro h; cases h) (f:=fn) (tmps:=tmps) (assign:=assign) (body:=body) (l:=l) ?_ (hR.mono ?_)
           ·go_simp
           rintro e W5 ⟨rfl,hB5⟩
           have HB5:=Lib.hid hB5
           refine ⟨_,rfl,?_⟩
           clear hy hR hB5 f0 f1 f2
           simp only [Act.put,List.setIfInBounds_toArray,List.set_cons_zero,List.set_cons_succ]
           refine wpAnyIn_take (i:=13) (oi:=⟨some 30,_,_,_,_,_⟩) (v:=.bool false) rfl rfl (by kernel_rfl) (by kernel_rfl) (by kernel_rfl) (fun _ _ _ h=>h) ⟨Or.inl ⟨by rfl,fun W=>by go_simp⟩,fun W=>by rfl⟩ ?_
           simp only [Act.put,List.setIfInBounds_toArray,List.set_cons_zero,List.set_cons_succ]
           refine wpAnyIn_take (i:=14) (oi:=⟨some 31,_,_,_,_,_⟩) (v:=.bool false) rfl rfl (by kernel_rfl) (by kernel_rfl) (by kernel_rfl) (fun _ _ _ h=>h) ⟨Or.inl ⟨by rfl,fun W=>by go_simp⟩,fun W=>by rfl⟩ ?_
           simp only [Act.put,List.setIfInBounds_toArray,List.set_cons_zero,List.set_cons_succ]
           refine wpAnyIn_done (by kernel_rfl) ?_ _
           gi_wp2
           go_roundw
           case rel=>exact ⟨k + 1,by go_num,by omega,pre ++ [((X,Y,Z),kb)],by rw [sidesTo_succ,HN.out,List.map_append,HPRE.out]; rfl,HB5.out⟩
           case measure=>(simp only [intOf]; omega)
          exact AllReadyIn.nil
         exact AllReadyIn.nil
        exact AllReadyIn.nil
       exact AllReadyIn.nil
      exact AllReadyIn.nil
     exact AllReadyIn.nil
    exact AllReadyIn.nil
  ·obtain rfl:k = 6:=by omega
   gi_wp2
   go_end0
   exact ⟨⟨_,rfl⟩,pre,HPRE.out,HB.out⟩
end FloodW
end Go.Proofs.YtpimkdaikoclnaaDoor
namespace Go.Proofs.YtpimkdaikoclnaaDoor
open Go.RowKit Go.Shelf
set_option linter.unusedVariables false
set_option linter.unusedSimpArgs false
namespace FloodW
open BlkP RowG GlowW FloodP
theorem put_fr (W:World) (l:Nat) (o:Obj):Fr (fun k=>k = l) W (W.putObj l o):=Fr.grown (grownBy_putObj' W l o) (fun i e=>by injection e with e; exact e.symm)
theorem not_at {W:World} {l:Nat} {o:Obj} {b:Nat} {T:TypeId} {vs:List Value} (ho:W.heap[l]? = some o) (hc:o.isCells = false) (hb:Blk W b T vs):b ≠ l:=fun e=>by
 subst e
 unfold Blk at hb
 rw [ho] at hb
 injection hb with hb
 subst hb
 cases hc
theorem Sx.put {W:World} {g:Gh} {l:Nat} {o:Obj} (h:Sx W g) (ho:W.heap[l]? = some o) (hc:o.isCells = false) (hn:¬ Ss g l) (hg:0 < l) (o':Obj):Sx (W.putObj l o') g:=by
 have row:∀ {α:Type} {e:Enc α} {E:TypeId} {v:Value} {L:List α},RowG.Own e E W 0 v L→v.ownBlock ≠ some l:=fun hr e=>by
  obtain ⟨us,hu⟩:=own_cells hr e
  exact not_at ho hc hu rfl
 refine ⟨h.st.fr (put_fr W l o') (fun k hk _=>?_),tab_fr h.tab (put_fr W l o') (fun e=>by omega),h.gk⟩
 subst hk
 exact ⟨hn,row h.st.fld.cs,row h.st.fld.ls,row h.st.fld.ts⟩
theorem Loc.put {W:World} {g:Gh} {l b:Nat} {T:TypeId} {vs:List Value} {o:Obj} (h:Loc W g b T vs) (ho:W.heap[l]? = some o) (hc:o.isCells = false) (o':Obj):Loc (W.putObj l o') g b T vs:=⟨(put_fr W l o').blk h.1 (fun e=>not_at ho hc h.1 e),h.2⟩
theorem Base.put {W:World} {g:Gh} {l wk E wb:Nat} {q:V} {o:Obj} (h:Base wk E wb q g W) (ho:W.heap[l]? = some o) (hc:o.isCells = false) (o':Obj):Base wk E wb q g (W.putObj l o'):=⟨h.wkE,h.near,h.box.put ho hc o',h.wbox.put ho hc o'⟩
def Puts (B:Nat) (Inv:List (V × Nat)→Gh→World→Prop):Prop:=∀ pre g W l o o',Inv pre g W→B≤l→W.heap[l]? = some o→o.isCells = false→¬ Ss g l→Inv pre g (W.putObj l o')
structure Book (l D:Nat) (lp:Obj) (g:Gh) (W:World):Prop where
 rc:W.heap[l]? = some lp
 df:W.heap[D]? = some (.deferred (some []))
 nl:¬ Ss g l
 nd:¬ Ss g D
theorem Book.go {l D:Nat} {lp:Obj} {g g':Gh} {W W':World} (h:Book l D lp g W) (k:Go g W g' W'):Book l D lp g' W':=by
 have h1:=(Array.getElem?_eq_some_iff.1 h.rc).1
 have h2:=(Array.getElem?_eq_some_iff.1 h.df).1
 refine ⟨(k.fr.block l h1 h.nl).trans h.rc,(k.fr.block D h2 h.nd).trans h.df,fun hs=>?_,fun hs=>?_⟩
 ·rcases k.new l hs with q | q
  ·exact h.nl q
  ·omega
 ·rcases k.new D hs with q | q
  ·exact h.nd q
  ·omega
set_option maxHeartbeats 1000000 in
theorem wpIn_sides {g:Operand} {ps:Array Tmp} {assign body:Code} {Q:Exit→Act→World→Prop} {a:Act} {w:World} {n:Nat} (hn:4≤n) {wk E wb:Nat} {q:V} (hq:mayP q)
  (hg:a.eval g = .func (.func 63) #[] #[.pointer (some ⟨E,0,none⟩),.pointer (some ⟨wb,0,none⟩)]) (hps:ps.size = 2)
  (Inv:List (V × Nat)→Gh→World→Prop) (hS:Stab Inv) (hP:Puts w.heap.size Inv) (g0:Gh) (hx0:Sx w g0) (hb0:Base wk E wb q g0 w) (h0:Inv [] g0 w) (Ax:V × Nat→Gh→Act→World→Prop) (hAx:∀ x gh a' W l o o',Ax x gh a' W→W.heap[l]? = some o→o.isCells = false→Ax x gh a' (W.putObj l o'))
  (hassign:∀ (l:Nat) (x:V × Nat) (gh:Gh) (W:World) (K:Act→World→Prop),Sx W gh→(∀ a' W',Below W.heap.size W W'→Ax x gh a' W'→K a' W') →
   assign.wpIn (Fence.wide.inRound l) (n - 1 - 1) Tryd.prog (Exit.then K (fun _ _ _=>False)) { tmps:=(ps.zip #[.agg #[.int .i64 x.1.1,.int .i64 x.1.2.1,.int .i64 x.1.2.2],.pointer (some ⟨x.2,0,none⟩)]).foldl (fun t (p,v)=>t.setIfInBounds p v) a.tmps,defers:=[] } W)
  (hbody:∀ (l:Nat) (pre:List (V × Nat)) (x:V × Nat) (gh:Gh) (a':Act) (W:World),Sx W gh→Base wk E wb q gh W→Inv pre gh W→Ax x gh a' W→x ∈ gh.kn→x.1 ∈ sidesV q →
   body.wpIn (Fence.wide.inRound l) (n - 1 - 1) Tryd.prog (fun e _ W'=>e = .normal∧KeepsOthers W W'∧∃ gh',Sx W' gh'∧Base wk E wb q gh' W'∧Inv (pre ++ [x]) gh' W'∧∀ k,¬ Ss gh k→k < W.heap.size→¬ Ss gh' k) a' W)
  (hdone:∀ (D:Nat) (xs:List (V × Nat)) (W:World),w.heap.size≤D→xs.map (·.1) = sidesV q→Betw wk E wb q (fun pre g W=>Inv pre g W∧¬ Ss g D) xs W→W.heap[D]? = some (.deferred (some []))→Q .normal { a with defers:=GlowW.mark D :: a.defers } W) :
  (Code.rangeFunc g ps assign body).wpIn Fence.wide n Tryd.prog Q a w:=by
 refine wpIn_rangeFunc ?_
 intro fn hfn
 obtain ⟨lp,hlp⟩:∃ lp:LoopState→Option Code→Loop,lp = fun st pe=>{ state:=st,pending:=pe,fn,tmps:=a.tmps,params:=ps,assign,body,defers:=w.heap.size }:=⟨_,rfl⟩
 obtain ⟨W1,hW1⟩:∃ W1,(w.alloc (.deferred (some []))).alloc (.loop (lp .ready none)) = W1:=⟨_,rfl⟩
 have gk0:=hx0.tab.size
 have hb1:Below w.heap.size w W1:=by
  rw [← hW1]
  exact ((Below.refl _ w).alloc (Nat.le_refl _) _).alloc (by simp) _
 have hl1:W1.heap[w.heap.size + 1]? = some (.loop (lp .ready none)):=by
  rw [← hW1]
  have:=World.alloc_heap_new (w.alloc (.deferred (some []))) (.loop (lp .ready none))
  rwa [World.size_alloc] at this
 have hd1:W1.heap[w.heap.size]? = some (.deferred (some [])):=by
  rw [← hW1]
  exact (Below.heap_alloc _ _ _ (by simp)).trans (World.alloc_heap_new w _)
 refine ⟨w.heap.size + 1,[GlowW.mark w.heap.size],W1,{ target:=.fn (.func 63) #[.pointer (some ⟨E,0,none⟩),.pointer (some ⟨wb,0,none⟩)],args:=#[.func (.yield (w.heap.size + 1)) #[] #[]] },W1,63,
  #[.func (.yield (w.heap.size + 1)) #[] #[]] ++ #[.pointer (some ⟨E,0,none⟩),.pointer (some ⟨wb,0,none⟩)],W1,?_,?_,?_,?_,fun _=>by omega,?_⟩
 ·rw [← hW1,hlp]
  exact run_enterLoop_outer _ _ _ _ _
 ·simp only [resolve,hg]
  simp [go_sem]
 ·intro f' _
  trivial
 ·have eg:=enters_of Tryd.func63 (by kernel_rfl) rfl
  simp [invoke,go_sem,eg]
 ·
  have hSB:Stab (fun pre gh W=>Inv pre gh W∧Book (w.heap.size + 1) w.heap.size (.loop (lp .ready none)) gh W):=fun pre gh W vA ak kn W' hi hs k hm=>⟨hS pre gh W vA ak kn W' hi.1 hs k hm,hi.2.go k⟩
  have hbk1:Book (w.heap.size + 1) w.heap.size (.loop (lp .ready none)) g0 W1:=⟨hl1,hd1,hx0.st.new (by omega),hx0.st.new (Nat.le_refl _)⟩
  refine (each_in (n - 1) (by omega) (w.heap.size + 1) hq _ hSB ?_ W1 ⟨g0,hx0.below hb1,hb0.below hb1,hS.below hx0 h0 hb1,hbk1⟩).mono ?_
  ·
   rintro pre x gh W hsx hbase ⟨hi,hbk⟩ hmem hside
   have hlt:w.heap.size + 1 < W.heap.size:=(Array.getElem?_eq_some_iff.1 hbk.rc).1
   have hy:=run_yield (P:=Tryd.prog) (args:=#[.agg #[.int .i64 x.1.1,.int .i64 x.1.2.1,.int .i64 x.1.2.2],.pointer (some ⟨x.2,0,none⟩)]) hbk.rc (by rw [hlp]; exact hps.symm)
   rw [hlp] at hy
   refine ⟨fn,_,assign,body,hy,roundIn_of_wpIn hfn (hassign _ x gh W _ hsx ?_)⟩
   clear hy
   intro a' Wa hba hax
   have hbka:=hbk.go (Go.below gh hba)
   have hsxa:=hsx.below hba
   have hbasea:=hbase.below hba
   have hia:=hS.below hsx hi hba
   have hsz:=hba.size
   have hlta:w.heap.size + 1 < Wa.heap.size:=by omega
   refine ⟨_,run_beginRound hbka.rc (by rw [hlp]),?_⟩
   have hl2:(Wa.putObj (w.heap.size + 1) (.loop { lp .ready none with state:=.busy })).heap[w.heap.size + 1]? = some (.loop { lp .ready none with state:=.busy }):=World.putObj_heap_same hlta
   have hd2:(Wa.putObj (w.heap.size + 1) (.loop { lp .ready none with state:=.busy })).heap[w.heap.size]? = some (.deferred (some [])):=(World.putObj_heap_other (by omega)).trans hbka.df
   refine wpIn_mono (hbody _ pre x gh a' _ (hsxa.put hbka.rc rfl hbka.nl (by omega) _) (hbasea.put hbka.rc rfl _) (hP pre gh Wa _ _ _ hia (by omega) hbka.rc rfl hbka.nl) (hAx _ _ _ _ _ _ _ hax hbka.rc rfl) hmem hside) ?_
   rintro e a3 W3 ⟨rfl,hk3,gh3,hsx3,hbase3,hi3,hn3⟩
   have hl3:=hk3.same _ _ hl2 rfl
   have hd3:=hk3.same _ _ hd2 rfl
   have hr:=run_endRound (P:=Tryd.prog) none hl3
   have nl3:=hn3 _ hbka.nl (by rw [World.putObj_size]; omega)
   have nd3:=hn3 _ hbka.nd (by rw [World.putObj_size]; omega)
   rw [hlp] at hr hl3
   refine ⟨_,_,hr,rfl,gh3,hsx3.put hl3 rfl nl3 (by omega) _,hbase3.put hl3 rfl _,hP _ _ _ _ _ _ hi3 (by omega) hl3 rfl nl3,?_,?_,nl3,nd3⟩
   ·rw [hlp]
    exact World.putObj_heap_same (Array.getElem?_eq_some_iff.1 hl3).1
   ·exact (World.putObj_heap_other (by omega)).trans hd3
  ·
   rintro e W2 ⟨⟨v,rfl⟩,xs,hxs,gh,hsx,hbase,hi,hbk⟩
   have he:=run_endLoop (P:=Tryd.prog) hbk.rc (by rw [hlp]; simp)
   rw [hlp] at he
   have hrc:=hbk.rc
   rw [hlp] at hrc
   exact ⟨none,_,he,hdone _ xs _ (Nat.le_refl _) hxs ⟨gh,hsx.put hrc rfl hbk.nl (by omega) _,hbase.put hrc rfl _,hP _ _ _ _ _ _ hi (by omega) hrc rfl hbk.nl,hbk.nd⟩ ((World.putObj_heap_other (by omega)).trans hbk.df)⟩
def roundT (p1 p2:Tmp) (tmps:Array Value) (x:V × Nat):Array Value:=(tmps.setIfInBounds p1 (.agg #[.int .i64 x.1.1,.int .i64 x.1.2.1,.int .i64 x.1.2.2])).setIfInBounds p2 (.pointer (some ⟨x.2,0,none⟩))
theorem roundT_is (p1 p2:Tmp) (tmps:Array Value) (x:V × Nat):((#[p1,p2]:Array Tmp).zip #[.agg #[.int .i64 x.1.1,.int .i64 x.1.2.1,.int .i64 x.1.2.2],.pointer (some ⟨x.2,0,none⟩)]).foldl (fun t (p,v)=>t.setIfInBounds p v) tmps = roundT p1 p2 tmps x:=by
 simp [roundT]
def actB (p1 p2:Tmp) (tmps:Array Value) (s1 s2:Tmp) (x:V × Nat) (sb:Nat):Act:={ tmps:=((roundT p1 p2 tmps x).setIfInBounds s1 (.pointer (some ⟨sb,0,none⟩))).setIfInBounds s2 (.pointer (some ⟨x.2,0,none⟩)),defers:=[] }
def actS (p1 p2:Tmp) (tmps:Array Value) (s2:Tmp) (x:V × Nat):Act:={ tmps:=(roundT p1 p2 tmps x).setIfInBounds s2 (.pointer (some ⟨x.2,0,none⟩)),defers:=[] }
section
variable {g:Operand} {p1 p2:Tmp} {assign body:Code} {Q:Exit→Act→World→Prop} {a:Act} {w:World} {n:Nat} {wk E wb:Nat} {q:V}
theorem wpIn_sidesB (s1 s2:Tmp) (hn:4≤n) (hq:mayP q)
  (hg:a.eval g = .func (.func 63) #[] #[.pointer (some ⟨E,0,none⟩),.pointer (some ⟨wb,0,none⟩)])
  (Inv:List (V × Nat)→Gh→World→Prop) (hS:Stab Inv) (hP:Puts w.heap.size Inv) (g0:Gh) (hx0:Sx w g0) (hb0:Base wk E wb q g0 w) (h0:Inv [] g0 w)
  (hassign:∀ (l:Nat) (x:V × Nat) (W:World) (K:Act→World→Prop),(∀ W',Below W.heap.size W W'→Blk W' W.heap.size TP [.int .i64 x.1.1,.int .i64 x.1.2.1,.int .i64 x.1.2.2]→K (actB p1 p2 a.tmps s1 s2 x W.heap.size) W') →
   assign.wpIn (Fence.wide.inRound l) (n - 1 - 1) Tryd.prog (Exit.then K (fun _ _ _=>False)) { tmps:=roundT p1 p2 a.tmps x,defers:=[] } W)
  (hbody:∀ (l:Nat) (pre:List (V × Nat)) (x:V × Nat) (gh:Gh) (sb:Nat) (W:World),Sx W gh→Base wk E wb q gh W→Inv pre gh W→Loc W gh sb TP [.int .i64 x.1.1,.int .i64 x.1.2.1,.int .i64 x.1.2.2]→x ∈ gh.kn→x.1 ∈ sidesV q →
   body.wpIn (Fence.wide.inRound l) (n - 1 - 1) Tryd.prog (fun e _ W'=>e = .normal∧KeepsOthers W W'∧∃ gh',Sx W' gh'∧Base wk E wb q gh' W'∧Inv (pre ++ [x]) gh' W'∧∀ k,¬ Ss gh k→k < W.heap.size→¬ Ss gh' k) (actB p1 p2 a.tmps s1 s2 x sb) W)
  (hdone:∀ (D:Nat) (xs:List (V × Nat)) (W:World),w.heap.size≤D→xs.map (·.1) = sidesV q→Betw wk E wb q (fun pre g W=>Inv pre g W∧¬ Ss g D) xs W→W.heap[D]? = some (.deferred (some []))→Q .normal { a with defers:=GlowW.mark D :: a.defers } W) :
  (Code.rangeFunc g #[p1,p2] assign body).wpIn Fence.wide n Tryd.prog Q a w :=
 wpIn_sides hn hq hg rfl Inv hS hP g0 hx0 hb0 h0 (fun x gh a' W=>∃ sb,a' = actB p1 p2 a.tmps s1 s2 x sb∧Loc W gh sb TP [.int .i64 x.1.1,.int .i64 x.1.2.1,.int .i64 x.1.2.2])
  (fun x gh a' W l o o' ⟨sb,h1,h2⟩ ho hc=>⟨sb,h1,h2.put ho hc o'⟩)
  (fun l x gh W K hsx hK=>by
   rw [roundT_is]
   exact hassign l x W K (fun W' hb hB=>hK _ _ hb ⟨_,rfl,hB,hsx.st.new (Nat.le_refl _)⟩))
  (fun l pre x gh a' W h1 h2 h3 ⟨sb,e,h4⟩ h5 h6=>by subst e; exact hbody l pre x gh sb W h1 h2 h3 h4 h5 h6) hdone
theorem wpIn_sidesS (s2:Tmp) (hn:4≤n) (hq:mayP q)
  (hg:a.eval g = .func (.func 63) #[] #[.pointer (some ⟨E,0,none⟩),.pointer (some ⟨wb,0,none⟩)])
  (Inv:List (V × Nat)→Gh→World→Prop) (hS:Stab Inv) (hP:Puts w.heap.size Inv) (g0:Gh) (hx0:Sx w g0) (hb0:Base wk E wb q g0 w) (h0:Inv [] g0 w)
  (hassign:∀ (l:Nat) (x:V × Nat) (W:World) (K:Act→World→Prop),K (actS p1 p2 a.tmps s2 x) W →
   assign.wpIn (Fence.wide.inRound l) (n - 1 - 1) Tryd.prog (Exit.then K (fun _ _ _=>False)) { tmps:=roundT p1 p2 a.tmps x,defers:=[] } W)
  (hbody:∀ (l:Nat) (pre:List (V × Nat)) (x:V × Nat) (gh:Gh) (W:World),Sx W gh→Base wk E wb q gh W→Inv pre gh W→x ∈ gh.kn→x.1 ∈ sidesV q →
   body.wpIn (Fence.wide.inRound l) (n - 1 - 1) Tryd.prog (fun e _ W'=>e = .normal∧KeepsOthers W W'∧∃ gh',Sx W' gh'∧Base wk E wb q gh' W'∧Inv (pre ++ [x]) gh' W'∧∀ k,¬ Ss gh k→k < W.heap.size→¬ Ss gh' k) (actS p1 p2 a.tmps s2 x) W)
  (hdone:∀ (D:Nat) (xs:List (V × Nat)) (W:World),w.heap.size≤D→xs.map (·.1) = sidesV q→Betw wk E wb q (fun pre g W=>Inv pre g W∧¬ Ss g D) xs W→W.heap[D]? = some (.deferred (some []))→Q .normal { a with defers:=GlowW.mark D :: a.defers } W) :
  (Code.rangeFunc g #[p1,p2] assign body).wpIn Fence.wide n Tryd.prog Q a w :=
 wpIn_sides hn hq hg rfl Inv hS hP g0 hx0 hb0 h0 (fun x gh a' W=>a' = actS p1 p2 a.tmps s2 x) (fun x gh a' W l o o' h1 ho hc=>h1)
  (fun l x gh W K hsx hK=>by
   rw [roundT_is]
   exact hassign l x W K (hK _ _ (Below.refl _ _) rfl))
  (fun l pre x gh a' W h1 h2 h3 e h5 h6=>by subst e; exact hbody l pre x gh W h1 h2 h3 h5 h6) hdone
end
end FloodW
end Go.Proofs.YtpimkdaikoclnaaDoor
namespace Go.Proofs.YtpimkdaikoclnaaDoor
open Go.RowKit
set_option linter.unusedVariables false
set_option linter.unusedSimpArgs false
namespace FloodW
open BlkP RowG GlowW FloodP
theorem calls_named {P:Program} {f:FuncId} {args:Array Value} {R:Ending→World→Prop} {W:World} (S:World→Prop) (h:S W) (k:∀ W',S W'→Calls P f args W' R):Calls P f args W R:=k W h
def More (g g':Gh):Prop:=(∃ vA ak kn,g' = g.more vA ak kn)∧∀ p,p ∈ g.kn→p ∈ g'.kn
theorem More.refl (g:Gh):More g g:=⟨⟨_,_,_,rfl⟩,fun _ h=>h⟩
theorem More.trans {a b c:Gh} (h:More a b) (k:More b c):More a c:=by
 obtain ⟨⟨_,_,_,e1⟩,h2⟩:=h
 obtain ⟨⟨_,_,_,e2⟩,h4⟩:=k
 exact ⟨⟨_,_,_,by rw [e2,e1]; rfl⟩,fun p hp=>h4 p (h2 p hp)⟩
theorem More.clr {a b:Gh} (h:More a b) (q:V):clr b.f q = clr a.f q:=by
 obtain ⟨⟨_,_,_,e1⟩,_⟩:=h
 rw [e1]; rfl
theorem More.was {a b:Gh} (h:More a b) (c:Bool) (q:V):wasB b.f c q = wasB a.f c q:=by
 obtain ⟨⟨_,_,_,e1⟩,_⟩:=h
 rw [e1]; rfl
theorem More.same {a b:Gh} (h:More a b):b.wk = a.wk∧b.at_ = a.at_∧b.low = a.low∧b.ow = a.ow∧b.nw = a.nw∧b.M = a.M∧b.f.F = a.f.F:=by
 obtain ⟨⟨_,_,_,e1⟩,_⟩:=h
 rw [e1]; exact ⟨rfl,rfl,rfl,rfl,rfl,rfl,rfl⟩
theorem More.ok {a b:Gh} (h:More a b) {q:V} (hq:okP a q):okP b q:=by
 obtain ⟨⟨_,_,_,e1⟩,_⟩:=h
 rw [e1]; exact hq
theorem know_m {w:World} {g:Gh} {q:V} (h:Sx w g) (hq:okP g q):Calls Tryd.prog 37 #[.pointer (some ⟨g.wk,0,none⟩),.agg #[.int .i64 q.1,.int .i64 q.2.1,.int .i64 q.2.2]] w fun e w'=>∃ b g',e = .returned (.pointer (some ⟨b,0,none⟩))∧(q,b) ∈ g'.kn∧More g g'∧Sx w' g'∧Go g w g' w' :=
 (know_c h hq).mono (by
  rintro e w' ⟨b,vA,ak,kn,rfl,h1,h2,h3,h4⟩
  exact ⟨b,_,rfl,h1,⟨⟨_,_,_,rfl⟩,h2⟩,h3,h4⟩)
theorem Go.set {w W:World} {g g':Gh} (h:Go g w g' W) {b:Nat} (hb:w.heap.size≤b) (i:Nat) (v:Value):Go g w g' (W.setCell ⟨b,i,none⟩ v) :=
 ⟨h.fr.trans (Fr.set (fun k=>k = b) W ⟨b,i,none⟩ v rfl) (fun k hk=>.inr (by omega)),h.new⟩
theorem Sx.set {w W:World} {g g':Gh} (h0:Sx w g) (hm:More g g') (h:Sx W g') {b:Nat} (hb:w.heap.size≤b) (hn:¬ Ss g' b) (i:Nat) (v:Value):Sx (W.setCell ⟨b,i,none⟩ v) g':=by
 have hf:Fr (fun k=>k = b) W (W.setCell ⟨b,i,none⟩ v):=Fr.set (fun k=>k = b) W ⟨b,i,none⟩ v rfl
 refine ⟨h.st.fr hf (fun k hk _=>?_),tab_fr h.tab hf (fun e=>?_),h.gk⟩
 ·subst hk
  obtain ⟨⟨_,_,_,e1⟩,_⟩:=hm
  subst e1
  exact ⟨hn,fun e=>by have:=(h0.st.fld.cs.ge _ e).2; omega,fun e=>by have:=(h0.st.fld.ls.ge _ e).2; omega,fun e=>by have:=(h0.st.fld.ts.ge _ e).2; omega⟩
 ·have:=h0.tab.size
  omega
def opn (f:Fld):Nat→V→Bool→Bool
 | 0,_,br=>br
 | n + 1,q,br=>match sideO q 4 with
  | none=>true
  | some a=>if clr f a = true then opn f n a (br && decide (wasB f false a = 15)) else false
def opnOk (g:Gh):Nat→V→Prop
 | 0,_=>True
 | n + 1,q=>∀ a,sideO q 4 = some a→okP g a∧(clr g.f a = true→opnOk g n a)
def OpnRel (w:World) (g:Gh) (R:Bool) (qb:Nat) (b v:Value) (W:World):Prop:=∃ k br q,v = .int .i64 (k:Nat)∧k≤15∧b = .bool br∧∃ g',More g g'∧Sx W g'∧Go g w g' W∧Loc W g' qb TP [.int .i64 q.1,.int .i64 q.2.1,.int .i64 q.2.2]∧opn g.f (15 - k) q br = R∧opnOk g (15 - k) q
theorem side_vals {q a:V} {k:Nat} (h:sideO q k = some a):PlaceW.stepOf q.1 q.2.1 q.2.2 (k:Int) = (a.1,a.2.1,a.2.2,true):=by
 unfold sideO at h
 split at h
 ·rename_i h1
  injection h with h
  rw [← h]
  exact Prod.ext rfl (Prod.ext rfl (Prod.ext rfl h1))
 ·cases h
theorem side_none {q:V} {k:Nat} (h:sideO q k = none):∃ X Y Z,PlaceW.stepOf q.1 q.2.1 q.2.2 (k:Int) = (X,Y,Z,false):=by
 unfold sideO at h
 split at h
 ·cases h
 ·rename_i h1
  exact ⟨_,_,_,Prod.ext rfl (Prod.ext rfl (Prod.ext rfl (by simpa using h1)))⟩
set_option maxRecDepth 100000 in
set_option maxHeartbeats 16000000 in
theorem open_c {w:World} {g:Gh} (h:Sx w g) (hok:opnOk g 15 g.at_):Calls Tryd.prog 51 #[.pointer (some ⟨g.wk,0,none⟩)] w fun e w'=>e = .returned (.bool (opn g.f 15 g.at_ true))∧∃ g',More g g'∧Sx w' g'∧Go g w g' w':=by
 obtain ⟨R,hR⟩:∃ R,opn g.f 15 g.at_ true = R:=⟨_,rfl⟩
 rw [hR]
 have HR:=Lib.hid hR
 have HS:=Lib.hid h
 have HOK:=Lib.hid hok
 have k1:w.cell? ⟨g.wk,1,none⟩ = some (.int .i64 g.at_.1):=h.st.work.cell (i:=1) rfl
 have k2:w.cell? ⟨g.wk,2,none⟩ = some (.int .i64 g.at_.2.1):=h.st.work.cell (i:=2) rfl
 have k3:w.cell? ⟨g.wk,3,none⟩ = some (.int .i64 g.at_.2.2):=h.st.work.cell (i:=3) rfl
 have hwl:=h.st.work.lt
 clear hR h hok
 go_enter Tryd.func51,Tryd.ntmps51
 go_wp2_with fail
 clear k1 k2 k3
 go_loopw [3,12] (fun b v wr=>OpnRel w g R w.heap.size b v wr) (fun b v _=>15 - (intOf v).toNat)
 case atStart =>
  refine ⟨0,true,g.at_,rfl,by omega,rfl,g,More.refl g,HS.out.below (by (repeat' (first | (with_reducible exact Below.refl _ _) | (with_reducible refine Below.setCell ?_ (by (first | omega | (simp; done) | (simp; omega))) _) | (with_reducible refine Below.alloc ?_ (by (first | omega | (simp; done) | (simp; omega))) _) | (with_reducible refine Below.drew ?_) | (with_reducible refine below_drewN ?_ _)))),Go.below g (by (repeat' (first | (with_reducible exact Below.refl _ _) | (with_reducible refine Below.setCell ?_ (by (first | omega | (simp; done) | (simp; omega))) _) | (with_reducible refine Below.alloc ?_ (by (first | omega | (simp; done) | (simp; omega))) _) | (with_reducible refine Below.drew ?_) | (with_reducible refine below_drewN ?_ _)))),⟨by (repeat' (first | (with_reducible refine BlkP.Blk.drew ?_) | (with_reducible refine BlkP.Blk.drewN ?_ _) | (with_reducible refine BlkP.Blk.setAt (us:=?_) (by first | omega | (simp; done) | (simp; omega)) rfl ?_ ?_) | (with_reducible refine BlkP.Blk.otherAt ?_ (by first | omega | (simp; done) | (simp; omega))) | (with_reducible refine BlkP.Blk.newA' (by first | omega | (simp; done) | (simp; omega)) rfl) | (with_reducible refine BlkP.Blk.alloc ?_ _) | (exact rfl))),HS.out.st.new (Nat.le_refl _)⟩,HR.out,HOK.out⟩
 case round =>
  obtain ⟨k,br,q,rfl,hk,rfl,g',hm,hsx,hgo,hq,hop,hok⟩:=hrel
  have HM:=Lib.hid hm
  have HSX:=Lib.hid hsx
  have HGO:=Lib.hid hgo
  have HQ:=Lib.hid hq
  have HOP:=Lib.hid hop
  have HK:=Lib.hid hok
  clear hm hsx hgo hop hok
  by_cases hk15:k < 15
  ·have hkI:(k:Int) < 15:=by omega
   obtain ⟨n,hn⟩:∃ n,15 - k = n + 1:=⟨14 - k,by omega⟩
   have HNN:=Lib.hid (show 15 - (k + 1) = n by omega)
   rw [hn] at HOP HK
   clear hn
   have c0:=hq.1.cell (i:=0) rfl
   have c1:=hq.1.cell (i:=1) rfl
   have c2:=hq.1.cell (i:=2) rfl
   have hql:=hq.1.lt
   clear hq
   cases hside:sideO q 4 with
   | none =>
    obtain ⟨X,Y,Z,hst⟩:=side_none hside
    have HST:=Lib.hid hst
    have HE:=Lib.hid (show R = true by rw [← HOP.out,opn,hside])
    clear hst hside
    go_wp2_with fail
    go_at_call 52
    refine (PlaceW.step_c HST.out _).mono ?_
    rintro e w1 ⟨rfl,hb1⟩
    have HB1:=Lib.hid hb1
    clear c0 c1 c2 hb1
    go_wp2_with fail
    go_ret
    refine ⟨by rw [HE.out]; rfl,g',HM.out,(HSX.out.below HB1.out).below (by (repeat' (first | (with_reducible exact Below.refl _ _) | (with_reducible refine Below.setCell ?_ (by (first | omega | (simp; done) | (simp; omega))) _) | (with_reducible refine Below.alloc ?_ (by (first | omega | (simp; done) | (simp; omega))) _) | (with_reducible refine Below.drew ?_) | (with_reducible refine below_drewN ?_ _)))),HGO.out.trans ((Go.below g' HB1.out).trans (Go.below g' (by (repeat' (first | (with_reducible exact Below.refl _ _) | (with_reducible refine Below.setCell ?_ (by (first | omega | (simp; done) | (simp; omega))) _) | (with_reducible refine Below.alloc ?_ (by (first | omega | (simp; done) | (simp; omega))) _) | (with_reducible refine Below.drew ?_) | (with_reducible refine below_drewN ?_ _))))))⟩
   | some a =>
    have HST:=Lib.hid (side_vals hside)
    have HOA:=Lib.hid (HK.out a hside)
    have HE:=Lib.hid (show (if clr g.f a = true then opn g.f n a (br && decide (wasB g.f false a = 15)) else false) = R by rw [← HOP.out,opn,hside])
    clear hside
    obtain ⟨ax,ay,az⟩:=a
    simp only at HST
    go_wp2_with fail
    go_at_call 52
    refine (PlaceW.step_c HST.out _).mono ?_
    rintro e w1 ⟨rfl,hb1⟩
    have HQ1:=Lib.hid (HQ.out.below hb1)
    have HSX1:=Lib.hid (HSX.out.below hb1)
    have HGO1:=Lib.hid (HGO.out.trans (Go.below g' hb1))
    clear c0 c1 c2 hb1 HSX HGO HQ
    go_wp2_with fail
    go_at_call 37
    refine calls_named (S:=fun W=>Loc W g' w1.heap.size TP [.int .i64 ax,.int .i64 ay,.int .i64 az]∧Loc W g' w.heap.size TP [.int .i64 q.1,.int .i64 q.2.1,.int .i64 q.2.2]∧Sx W g'∧Go g w g' W∧w1.heap.size ≠ w.heap.size) ⟨⟨by (repeat' (first | (with_reducible refine BlkP.Blk.drew ?_) | (with_reducible refine BlkP.Blk.drewN ?_ _) | (with_reducible refine BlkP.Blk.setAt (us:=?_) (by first | omega | (simp; done) | (simp; omega)) rfl ?_ ?_) | (with_reducible refine BlkP.Blk.otherAt ?_ (by first | omega | (simp; done) | (simp; omega))) | (with_reducible refine BlkP.Blk.newA' (by first | omega | (simp; done) | (simp; omega)) rfl) | (with_reducible refine BlkP.Blk.alloc ?_ _) | (exact rfl))),HSX1.out.st.new (Nat.le_refl _)⟩,HQ1.out.below (by (repeat' (first | (with_reducible exact Below.refl _ _) | (with_reducible refine Below.setCell ?_ (by (first | omega | (simp; done) | (simp; omega))) _) | (with_reducible refine Below.alloc ?_ (by (first | omega | (simp; done) | (simp; omega))) _) | (with_reducible refine Below.drew ?_) | (with_reducible refine below_drewN ?_ _)))),HSX1.out.below (by (repeat' (first | (with_reducible exact Below.refl _ _) | (with_reducible refine Below.setCell ?_ (by (first | omega | (simp; done) | (simp; omega))) _) | (with_reducible refine Below.alloc ?_ (by (first | omega | (simp; done) | (simp; omega))) _) | (with_reducible refine Below.drew ?_) | (with_reducible refine below_drewN ?_ _)))),HGO1.out.trans (Go.below g' (by (repeat' (first | (with_reducible exact Below.refl _ _) | (with_reducible refine Below.setCell ?_ (by (first | omega | (simp; done) | (simp; omega))) _) | (with_reducible refine Below.alloc ?_ (by (first | omega | (simp; done) | (simp; omega))) _) | (with_reducible refine Below.drew ?_) | (with_reducible refine below_drewN ?_ _))))),by have:=HQ1.out.1.lt; omega⟩ ?_
    clear HQ1 HSX1 HGO1
    obtain ⟨ab,hab⟩:∃ ab,w1.heap.size = ab:=⟨_,rfl⟩
    rw [hab]
    clear hab
    rintro W2 ⟨ha,hq,hsx,hgo,hne⟩
    have HA:=Lib.hid ha
    have HQ:=Lib.hid hq
    have HSX:=Lib.hid hsx
    have HGO:=Lib.hid hgo
    have d0:=ha.1.cell (i:=0) rfl
    have d1:=ha.1.cell (i:=1) rfl
    have d2:=ha.1.cell (i:=2) rfl
    have hkn:=know_m (q:=(ax,ay,az)) hsx (HM.out.ok HOA.out.1)
    rw [HM.out.same.1] at hkn
    have HKN:=Lib.hid hkn
    clear ha hq hsx hgo hkn
    refine HKN.out.mono ?_
    rintro e W3 ⟨b,g3,rfl,hmem,hm3,hsx3,hgo3⟩
    have HM3:=Lib.hid (HM.out.trans hm3)
    have HSX3:=Lib.hid hsx3
    have HGO3:=Lib.hid (HGO.out.trans hgo3)
    have HA3:=Lib.hid (HA.out.go hgo3)
    have HQ3:=Lib.hid (HQ.out.go hgo3)
    have HB3:=Lib.hid (hsx3.st.known _ _ hmem)
    have cl:W3.cell? ⟨b,0,none⟩ = some (.bool (clr g3.f (ax,ay,az))):=HB3.out.cell (i:=0) rfl
    rw [HM3.out.clr] at cl
    clear d0 d1 d2 HA HQ HSX HGO HKN hm3 hsx3 hgo3 hmem HM
    cases hcl:clr g.f (ax,ay,az) with
    | false =>
     have HR2:=Lib.hid (show R = false by have:=HE.out; rw [hcl] at this; simpa using this.symm)
     rw [hcl] at cl
     clear hcl
     go_wp2_with fail
     go_ret
     exact ⟨by rw [HR2.out]; rfl,g3,HM3.out,HSX3.out,HGO3.out⟩
    | true =>
     have HE2:=Lib.hid (show opn g.f n (ax,ay,az) (br && decide (wasB g.f false (ax,ay,az) = 15)) = R by have:=HE.out; rwa [if_pos hcl] at this)
     have HOK2:=Lib.hid (HOA.out.2 hcl)
     rw [hcl] at cl
     obtain ⟨s,hs⟩:∃ s,wasB g.f false (ax,ay,az) = s:=⟨_,rfl⟩
     have cs:W3.cell? ⟨b,3,none⟩ = some (.int .u8 (wasB g3.f false (ax,ay,az):Int)):=HB3.out.cell (i:=3) rfl
     rw [HM3.out.was,hs] at cs
     rw [hs] at HE2
     have a0:=HA3.out.1.cell (i:=0) rfl
     have a1:=HA3.out.1.cell (i:=1) rfl
     have a2:=HA3.out.1.cell (i:=2) rfl
     have q0:=HQ3.out.1.cell (i:=0) rfl
     have q1:=HQ3.out.1.cell (i:=1) rfl
     have q2:=HQ3.out.1.cell (i:=2) rfl
     have f0:=HQ3.out.1.frozen 0
     have f1:=HQ3.out.1.frozen 1
     have f2:=HQ3.out.1.frozen 2
     have hd15:decide ((s:Int) = 15) = decide (s = 15):=by rw [decide_eq_decide]; omega
     clear hcl hs HE HOA
     cases br with
     | false =>
      go_wp2_with fail
      go_roundw
      case rel =>
       refine ⟨k + 1,false,(ax,ay,az),by go_num,by omega,rfl,g3,HM3.out,(HS.out.set HM3.out (HS.out.set HM3.out (HS.out.set HM3.out HSX3.out (Nat.le_refl _) HQ3.out.2 _ _) (Nat.le_refl _) HQ3.out.2 _ _) (Nat.le_refl _) HQ3.out.2 _ _),(((HGO3.out.set (Nat.le_refl _) _ _).set (Nat.le_refl _) _ _).set (Nat.le_refl _) _ _),⟨by (have q:=HQ3.out.1; (repeat' (first | (with_reducible exact q) | (with_reducible refine BlkP.Blk.drew ?_) | (with_reducible refine BlkP.Blk.drewN ?_ _) | (with_reducible refine BlkP.Blk.setAt (us:=?_) (by first | omega | (simp; done) | (simp; omega)) rfl ?_ ?_) | (with_reducible refine BlkP.Blk.otherAt ?_ (by first | omega | (simp; done) | (simp; omega))) | (with_reducible refine BlkP.Blk.newA' (by first | omega | (simp; done) | (simp; omega)) rfl) | (with_reducible refine BlkP.Blk.alloc ?_ _) | (exact rfl)))),HQ3.out.2⟩,by rw [HNN.out,← HE2.out]; rfl,by rw [HNN.out]; exact HOK2.out⟩
      case measure=>(simp only [intOf]; omega)
     | true =>
      by_cases hs15:s = 15
      ·have hsI:(s:Int) = 15:=by omega
       subst hs15
       go_wp2_with fail
       go_roundw
       case rel =>
        refine ⟨k + 1,true,(ax,ay,az),by go_num,by omega,rfl,g3,HM3.out,(HS.out.set HM3.out (HS.out.set HM3.out (HS.out.set HM3.out HSX3.out (Nat.le_refl _) HQ3.out.2 _ _) (Nat.le_refl _) HQ3.out.2 _ _) (Nat.le_refl _) HQ3.out.2 _ _),(((HGO3.out.set (Nat.le_refl _) _ _).set (Nat.le_refl _) _ _).set (Nat.le_refl _) _ _),⟨by (have q:=HQ3.out.1; (repeat' (first | (with_reducible exact q) | (with_reducible refine BlkP.Blk.drew ?_) | (with_reducible refine BlkP.Blk.drewN ?_ _) | (with_reducible refine BlkP.Blk.setAt (us:=?_) (by first | omega | (simp; done) | (simp; omega)) rfl ?_ ?_) | (with_reducible refine BlkP.Blk.otherAt ?_ (by first | omega | (simp; done) | (simp; omega))) | (with_reducible refine BlkP.Blk.newA' (by first | omega | (simp; done) | (simp; omega)) rfl) | (with_reducible refine BlkP.Blk.alloc ?_ _) | (exact rfl)))),HQ3.out.2⟩,by rw [HNN.out,← HE2.out]; rfl,by rw [HNN.out]; exact HOK2.out⟩
       case measure=>(simp only [intOf]; omega)
      ·have hsI:¬ (s:Int) = 15:=by omega
       have hd:decide ((s:Int) = 15) = false:=decide_eq_false hsI
       go_wp2_with fail
       go_roundw
       case rel =>
        refine ⟨k + 1,false,(ax,ay,az),by go_num,by omega,(by first | rfl | (simp; omega)),g3,HM3.out,(HS.out.set HM3.out (HS.out.set HM3.out (HS.out.set HM3.out HSX3.out (Nat.le_refl _) HQ3.out.2 _ _) (Nat.le_refl _) HQ3.out.2 _ _) (Nat.le_refl _) HQ3.out.2 _ _),(((HGO3.out.set (Nat.le_refl _) _ _).set (Nat.le_refl _) _ _).set (Nat.le_refl _) _ _),⟨by (have q:=HQ3.out.1; (repeat' (first | (with_reducible exact q) | (with_reducible refine BlkP.Blk.drew ?_) | (with_reducible refine BlkP.Blk.drewN ?_ _) | (with_reducible refine BlkP.Blk.setAt (us:=?_) (by first | omega | (simp; done) | (simp; omega)) rfl ?_ ?_) | (with_reducible refine BlkP.Blk.otherAt ?_ (by first | omega | (simp; done) | (simp; omega))) | (with_reducible refine BlkP.Blk.newA' (by first | omega | (simp; done) | (simp; omega)) rfl) | (with_reducible refine BlkP.Blk.alloc ?_ _) | (exact rfl)))),HQ3.out.2⟩,by rw [HNN.out,← HE2.out]; simp [hs15],by rw [HNN.out]; exact HOK2.out⟩
       case measure=>(simp only [intOf]; omega)
  ·obtain rfl:k = 15:=by omega
   go_wp2_with fail
   go_ret
   refine ⟨by rw [← HOP.out]; rfl,g',HM.out,HSX.out,HGO.out⟩
end FloodW
end Go.Proofs.YtpimkdaikoclnaaDoor
namespace Go.Proofs.YtpimkdaikoclnaaDoor
open Go.RowKit
set_option linter.unusedVariables false
set_option linter.unusedSimpArgs false
namespace FloodW
open BlkP RowG GlowW FloodP
structure Part (b:Bool) (fo:Nat):Prop where
 ent:∀ args w,(callFunc fo args).run Tryd.prog w = .ok (.enter fo args) w
 run:∀ (kb o:Nat) (w:World),Calls Tryd.prog fo #[.pointer (some ⟨kb,o,none⟩)] w fun e w'=>e = .returned (.pointer (some ⟨kb,o + b.toNat,none⟩))∧w' = w
theorem part_sky:Part false 35:=⟨enters_of Tryd.func35 (by kernel_rfl) rfl,fun kb o w=>by
 go_enter Tryd.func35,Tryd.ntmps35
 go_wp2_with fail
 go_ret
 exact ⟨rfl,rfl⟩⟩
theorem part_lamp:Part true 36:=⟨enters_of Tryd.func36 (by kernel_rfl) rfl,fun kb o w=>by
 go_enter Tryd.func36,Tryd.ntmps36
 go_wp2_with fail
 go_ret
 exact ⟨rfl,rfl⟩⟩
section
variable {W:World} {g:Gh} {q:V} {kb:Nat} (b:Bool)
theorem k_own (h:Blk W kb TK (kcells g q)):W.cell? ⟨kb,1 + b.toNat,none⟩ = some (.int .u8 (g.ow b q:Int)):=by cases b <;> exact h.cell rfl
theorem k_was (h:Blk W kb TK (kcells g q)):W.cell? ⟨kb,3 + b.toNat,none⟩ = some (.int .u8 (wasB g.f b q:Int)):=by cases b <;> exact h.cell rfl
theorem k_now (h:Blk W kb TK (kcells g q)):W.cell? ⟨kb,5 + b.toNat,none⟩ = some (.int .u8 (g.nw b q:Int)):=by cases b <;> exact h.cell rfl
theorem k_clear (h:Blk W kb TK (kcells g q)):W.cell? ⟨kb,0,none⟩ = some (.bool (clr g.f q)):=h.cell rfl
end
def Gh.setN (g:Gh) (b:Bool) (q:V) (v:Nat):Gh:={ g with nw:=fun c=>if c = b then up (g.nw b) q v else g.nw c }
theorem setN_b (g:Gh) (b:Bool) (q:V) (v:Nat):(g.setN b q v).nw b = up (g.nw b) q v:=by simp [Gh.setN]
theorem kcells_set (g:Gh) (b:Bool) (q:V) (v:Nat):kcells (g.setN b q v) q = (kcells g q).set (5 + b.toNat) (.int .u8 v):=by
 cases b <;> simp [kcells,Gh.setN,up,u8v,Bool.toNat]
theorem kcells_other (g:Gh) (b:Bool) {q p:V} (v:Nat) (h:p ≠ q):kcells (g.setN b q v) p = kcells g p:=by
 cases b <;> simp [kcells,Gh.setN,up,h]
theorem dup_at:∀ {l:List Nat} {i j x:Nat},l.Nodup→l[i]? = some x→l[j]? = some x→i = j
 | y :: r,0,0,x,_,_,_=>rfl
 | y :: r,0,j + 1,x,h,hi,hj=>by
  have e:y = x:=by simpa using hi
  subst e
  exact absurd (List.mem_of_getElem? (by simpa using hj)) (List.nodup_cons.1 h).1
 | y :: r,i + 1,0,x,h,hi,hj=>by
  have e:y = x:=by simpa using hj
  subst e
  exact absurd (List.mem_of_getElem? (by simpa using hi)) (List.nodup_cons.1 h).1
 | y :: r,i + 1,j + 1,x,h,hi,hj=>congrArg (· + 1) (dup_at (l:=r) (x:=x) (List.nodup_cons.1 h).2 (by simpa using hi) (by simpa using hj))
theorem St.setN {w W:World} {g0 g:Gh} {b:Bool} {q:V} {kb v:Nat} (h:St W g) (hm:(q,kb) ∈ g.kn) (hv:v≤15):St (W.setCell ⟨kb,5 + b.toNat,none⟩ (.int .u8 v)) (g.setN b q v):=by
 have hb:=h.known q kb hm
 have hf:Fr (fun k=>k = kb) W (W.setCell ⟨kb,5 + b.toNat,none⟩ (.int .u8 v)):=Fr.set (fun k=>k = kb) W ⟨kb,5 + b.toNat,none⟩ _ rfl
 have row:∀ {α:Type} {e:Enc α} {E:TypeId} {v:Value} {L:List α},RowG.Own e E W 0 v L→E ≠ TK→∀ k,v.ownBlock = some k→¬ k = kb:=fun hr hE k e e2=>by
  obtain ⟨us,hu⟩:=own_cells hr e
  rw [e2] at hu
  exact Blk.ne hu hb hE rfl
 refine ⟨h.fld.fr hf (fun e=>Blk.ne hb h.fld.blk (by decide) e.symm) (row h.fld.cs (by decide)) (row h.fld.ls (by decide)) (row h.fld.ak (by decide)) (row h.fld.ts (by decide)),h.fw,hf.blk h.work (fun e=>Blk.ne hb h.work (by decide) e.symm),?_,h.dup,h.bdup,fun p k hp=>?_,fun p hp=>?_,fun c p=>?_,h.few,h.asks,h.atp,h.lowp⟩
 ·exact (hf.block _ h.map.lt (fun e=>Blk.notMap h.map hb e.symm)).trans h.map
 ·replace hp:(p,k) ∈ g.kn:=hp
  by_cases e:p = q
  ·subst e
   have ek:k = kb:=by
    have h1:=findK_of h.dup hp
    have h2:=findK_of h.dup hm
    rw [h1] at h2
    injection h2
   subst ek
   rw [kcells_set]
   exact hb.set _ _
  ·have hne:k ≠ kb:=fun e2=>by
    subst e2
    obtain ⟨i,hi⟩:=List.getElem?_of_mem hp
    obtain ⟨j,hj⟩:=List.getElem?_of_mem hm
    have hi2:(g.kn.map (·.2))[i]? = some k:=by rw [List.getElem?_map,hi]; rfl
    have hj2:(g.kn.map (·.2))[j]? = some k:=by rw [List.getElem?_map,hj]; rfl
    have:i = j:=dup_at h.bdup hi2 hj2
    subst this
    rw [hi] at hj
    injection hj with hj
    injection hj with hj _
    exact e hj
   rw [kcells_other g b v e]
   exact (h.known p k hp).other hne _
 ·obtain ⟨h1,h2,h3⟩:=h.dflt p hp
  have hpq:p ≠ q:=fun e=>hp (by rw [e]; exact List.mem_map.2 ⟨_,hm,rfl⟩)
  refine ⟨h1,h2,fun c=>?_⟩
  show (if c = b then up (g.nw b) q v else g.nw c) p = _
  have:=h3 c
  split
  ·rename_i e
   subst e
   rw [up_other hpq]
   exact this
  ·exact this
 ·have h1:=h.le c p
  refine ⟨h1.1,?_⟩
  show (if c = b then up (g.nw b) q v else g.nw c) p≤15
  split
  ·rename_i e
   subst e
   unfold up
   split
   ·exact hv
   ·exact h1.2
  ·exact h1.2
theorem Go.setN {W:World} {g:Gh} {b:Bool} {q:V} {kb v:Nat} (h:St W g) (hm:(q,kb) ∈ g.kn):Go g W (g.setN b q v) (W.setCell ⟨kb,5 + b.toNat,none⟩ (.int .u8 v)) :=
 ⟨Fr.set _ _ _ _ (.inr (.inr (.inr (.inr (List.mem_map.2 ⟨_,hm,rfl⟩))))),fun _ hk=>.inl hk⟩
theorem Sx.setN {W:World} {g:Gh} {b:Bool} {q:V} {kb v:Nat} (h:Sx W g) (hm:(q,kb) ∈ g.kn) (hv:v≤15):Sx (W.setCell ⟨kb,5 + b.toNat,none⟩ (.int .u8 v)) (g.setN b q v):=h.go (St.setN (w:=W) (g0:=g) h.st hm hv) (Go.setN h.st hm)
def MoreB (b:Bool) (g g':Gh):Prop:=(∃ vA ak kn f,g' = { g.more vA ak kn with nw:=fun c=>if c = b then f else g.nw c })∧∀ p,p ∈ g.kn→p ∈ g'.kn
theorem More.toB {b:Bool} {g g':Gh} (h:More g g'):MoreB b g g':=by
 obtain ⟨⟨vA,ak,kn,e⟩,h2⟩:=h
 refine ⟨⟨vA,ak,kn,g.nw b,?_⟩,h2⟩
 rw [e]
 unfold Gh.more
 congr 1
 funext c
 split
 ·rename_i e2
  rw [e2]
 ·rfl
theorem MoreB.trans {b:Bool} {x y z:Gh} (h:MoreB b x y) (k:MoreB b y z):MoreB b x z:=by
 obtain ⟨⟨_,_,_,_,e1⟩,h2⟩:=h
 obtain ⟨⟨vA,ak,kn,f,e2⟩,h4⟩:=k
 refine ⟨⟨vA,ak,kn,f,?_⟩,fun p hp=>h4 p (h2 p hp)⟩
 rw [e2,e1]
 refine congrArg (fun h=>({ x.more vA ak kn with nw:=h }:Gh)) ?_
 funext c
 by_cases e:c = b
 ·simp [e]
 ·simp [e,Gh.more]
theorem MoreB.setN (g:Gh) (b:Bool) (q:V) (v:Nat):MoreB b g (g.setN b q v):=⟨⟨_,_,_,_,rfl⟩,fun _ h=>h⟩
section
variable {b:Bool} {x y:Gh}
theorem MoreB.clr (h:MoreB b x y) (q:V):clr y.f q = clr x.f q:=by
 obtain ⟨⟨_,_,_,_,e1⟩,_⟩:=h
 rw [e1]; rfl
theorem MoreB.was (h:MoreB b x y) (c:Bool) (q:V):wasB y.f c q = wasB x.f c q:=by
 obtain ⟨⟨_,_,_,_,e1⟩,_⟩:=h
 rw [e1]; rfl
theorem MoreB.same (h:MoreB b x y):y.wk = x.wk∧y.at_ = x.at_∧y.low = x.low∧y.ow = x.ow∧y.M = x.M∧y.f.F = x.f.F:=by
 obtain ⟨⟨_,_,_,_,e1⟩,_⟩:=h
 rw [e1]; exact ⟨rfl,rfl,rfl,rfl,rfl,rfl⟩
theorem MoreB.ok (h:MoreB b x y) {q:V} (hq:okP x q):okP y q:=by
 obtain ⟨⟨_,_,_,_,e1⟩,_⟩:=h
 rw [e1]; exact hq
theorem MoreB.dG (h:MoreB b x y) (q:V):dG y q = dG x q:=by
 obtain ⟨⟨_,_,_,_,e1⟩,_⟩:=h
 rw [e1]; rfl
theorem MoreB.mono (h:MoreB b x y) {p:V × Nat} (hp:p ∈ x.kn):p ∈ y.kn:=h.2 p hp
end
theorem Sx.setB {w W:World} {g g':Gh} {b:Bool} (h0:Sx w g) (hm:MoreB b g g') (h:Sx W g') {k:Nat} (hb:w.heap.size≤k) (hn:¬ Ss g' k) (i:Nat) (v:Value):Sx (W.setCell ⟨k,i,none⟩ v) g':=by
 have hf:Fr (fun j=>j = k) W (W.setCell ⟨k,i,none⟩ v):=Fr.set (fun j=>j = k) W ⟨k,i,none⟩ v rfl
 refine ⟨h.st.fr hf (fun j hj _=>?_),tab_fr h.tab hf (fun e=>?_),h.gk⟩
 ·subst hj
  obtain ⟨⟨_,_,_,_,e1⟩,_⟩:=hm
  subst e1
  exact ⟨hn,fun e=>by have:=(h0.st.fld.cs.ge _ e).2; omega,fun e=>by have:=(h0.st.fld.ls.ge _ e).2; omega,fun e=>by have:=(h0.st.fld.ts.ge _ e).2; omega⟩
 ·have:=h0.tab.size
  omega
theorem Sx.grownB {w W W':World} {g g':Gh} {b:Bool} (h0:Sx w g) (hm:MoreB b g g') (h:Sx W g') {r:Option Nat} (hg:W.grownBy W' r) (hr:∀ k,r = some k→w.heap.size≤k∧¬ Ss g' k):Sx W' g':=by
 have hf:Fr (fun j=>r = some j) W W':=Fr.grown hg (fun i e=>e)
 refine ⟨h.st.fr hf (fun j hj _=>?_),tab_fr h.tab hf (fun e=>?_),h.gk⟩
 ·have hj':=hr j hj
  obtain ⟨⟨_,_,_,_,e1⟩,_⟩:=hm
  subst e1
  exact ⟨hj'.2,fun e=>by have:=(h0.st.fld.cs.ge _ e).2; omega,fun e=>by have:=(h0.st.fld.ls.ge _ e).2; omega,fun e=>by have:=(h0.st.fld.ts.ge _ e).2; omega⟩
 ·have:=h0.tab.size
  have:=(hr _ e).1
  omega
theorem Go.grown {w W W':World} {g g':Gh} (h:Go g w g' W) {r:Option Nat} (hg:W.grownBy W' r) (hr:∀ k,r = some k→w.heap.size≤k):Go g w g' W' :=
 ⟨h.fr.trans (Fr.grown (S:=fun j=>r = some j) hg (fun i e=>e)) (fun k hk=>.inr (hr k hk)),h.new⟩
end FloodW
end Go.Proofs.YtpimkdaikoclnaaDoor
namespace Go.Proofs.YtpimkdaikoclnaaDoor
open Go.RowKit
set_option linter.unusedVariables false
set_option linter.unusedSimpArgs false
namespace FloodW
open BlkP RowG GlowW FloodP
theorem flat_at:∀ {l:List V} {j:Nat} {u:Value},(flat encP l)[j]? = some u→∃ i x k,l[i]? = some x∧(encP.f x)[k]? = some u∧j = i * 3 + k
 | [],j,u,h=>by simp [flat] at h
 | x :: r,j,u,h=>by
  have h2:flat encP (x :: r) = encP.f x ++ flat encP r:=rfl
  rw [h2] at h
  by_cases hj:j < 3
  ·rw [List.getElem?_append_left (by rw [encP.len]; exact hj)] at h
   exact ⟨0,x,j,rfl,h,by omega⟩
  ·rw [List.getElem?_append_right (by rw [encP.len]; show 3≤j; omega),encP.len] at h
   obtain ⟨i,y,k,h3,h4,h5⟩:=flat_at (l:=r) h
   exact ⟨i + 1,y,k,by simpa using h3,h4,by have:encP.k = 3:=rfl; omega⟩
set_option maxRecDepth 100000 in
set_option maxHeartbeats 1000000 in
theorem cloneP_c {w:World} {A:Option Addr} {n c:Nat} {l:List V} (hR:Rd encP w (.slice A n c) l) (hn:l.length = n) (h0:0 < n) (hl:n≤1000000) :
  Calls Tryd.prog 54 #[.slice A n c] w fun e w'=>∃ g c',e = .returned (.slice (some ⟨g,0,none⟩) n c')∧RowG.Own encP TP w' w.heap.size (.slice (some ⟨g,0,none⟩) n c') l∧Below w.heap.size w w':=by
 obtain ⟨x,hx⟩:∃ x,l[0]? = some x:=⟨_,List.getElem?_eq_getElem (by omega)⟩
 obtain ⟨b,o,rfl,hlt,_⟩:=hR.at hx
 have HR:=Lib.hid hR
 have HN:=Lib.hid hn
 clear hR hx hn
 have q26:∀ (w:World) (a:Option Addr) (n c n' c':Nat),(binOp .eql TSP (.slice a n c) (.slice none n' c')).run Tryd.prog w = .ok (.bool a.isNone) w:=fun w a n c n' c'=>Lib.run_eql_slice_nil w _ _ a n c n' c' underSP
 have hown:∀ cs,cs = #[]→(w.alloc (.cells cs TP)).ownsRow w.heap.size TP 3 (.slice (some ⟨w.heap.size,0,none⟩) 0 0) 0 []:=fun cs h=>by
  subst h
  exact World.ownsRow_made w #[] 0 (Nat.le_refl _) (Nat.zero_le _) rfl
 have HO:=Lib.hid hown
 obtain ⟨i,hi,hz,hs1,hby⟩:=info_parts infoP
 have HI:=Lib.hid hi
 have HZ:=Lib.hid hz
 have HS:=Lib.hid hs1
 have HY:=Lib.hid hby
 have HC:Hid (∀ j u,(flat encP l)[j]? = some u→(w.alloc (.cells #[] TP)).cell? ((⟨b,o,none⟩:Addr).add j) = some u):=Lib.hid (fun j u hu=>by
  obtain ⟨k,y,m,h1,h2,rfl⟩:=flat_at hu
  obtain ⟨b',o',e,hb',hcs⟩:=HR.out.at h1
  injection e with e
  injection e with e1 e2
  subst e1 e2
  have hadd:(⟨b,o,none⟩:Addr).add (k * 3 + m) = ⟨b,o + k * 3 + m,none⟩:=by unfold Addr.add; split <;> simp_all <;> omega
  rw [hadd,World.cell?_alloc_lt _ _ _ hlt]
  exact hcs m u h2)
 have HF:=Lib.hid (show (flat encP l).length = n * 3 by rw [flat_len,HN.out]; rfl)
 have HH:=Lib.hid (Rd.form (e:=encP) HR.out HN.out)
 have hcap:n≤c:=by
  obtain ⟨A,c2,e,h1,h2⟩:=HH.out
  injection e with _ _ e3
  omega
 clear hown hi hz hs1 hby
 go_enter Tryd.func54,Tryd.ntmps54
 go_wp2_with ((with_reducible refine at_slot 7 ?_); refine Classical.byContradiction (fun hG=>?_))
 refine hG ?_
 clear hG
 refine wpList_append_own_at _ rfl (.tmp 5) (.tmp 6) TSP rfl w.heap.size TP i _ 3 24 underSP HI.out HZ.out HS.out HY.out rfl (by omega) _ 0 [] rfl (HO.out _ rfl) ⟨b,o,none⟩ n c (flat encP l) rfl HF.out HC.out (fun u hu=>?_) (by have:maxLen = 9223372036854775807:=rfl; omega) (by omega) (by simp) ?_
 ·obtain ⟨j,hj⟩:=List.getElem?_of_mem hu
  obtain ⟨k,y,m,_,h2,_⟩:=flat_at hj
  exact encP.one y u (List.mem_of_getElem? h2)
 intro v' w' hown' hg _ hb
 have ho:RowG.Own encP TP w' w.heap.size v' l:=by
  unfold RowG.Own
  rw [HN.out]
  have q:=hown'
  rw [Nat.zero_add,List.nil_append] at q
  exact q
 obtain ⟨A',c',rfl,_,_,hA⟩:=ho.form HN.out
 obtain ⟨g,rfl,hg1,hg2⟩:=hA h0
 have HOW:=Lib.hid ho
 have HB:=Lib.hid (show Below w.heap.size w w' from ((Below.refl _ w).alloc (Nat.le_refl _) _).grown hg (by simp) (fun k hk=>by
  have hk':(Value.slice (some ⟨w.heap.size,0,none⟩) 0 0).ownBlock = some k:=hk
  have:w.heap.size = k:=by simpa [Value.ownBlock] using hk'
  omega))
 clear ho hown' hg hb
 go_wp2_with fail
 go_ret
 exact ⟨g,c',rfl,HOW.out,HB.out⟩
end FloodW
end Go.Proofs.YtpimkdaikoclnaaDoor
