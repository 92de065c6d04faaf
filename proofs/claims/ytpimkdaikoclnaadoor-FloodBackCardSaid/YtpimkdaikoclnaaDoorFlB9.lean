import Derived.Deep.LoopGhost
import Derived.BigQuiet
import Derived.Deep.Cut
import Derived.Deep.CutRange
import Derived.Test.YtpimkdaikoclnaaDoorFlB7
namespace Go.Proofs.YtpimkdaikoclnaaDoor
open Go.RowKit Go.Shelf
set_option linter.unusedVariables false
set_option linter.unusedSimpArgs false
attribute [local go_sem] Oper.semAt_some
namespace FloodW
open BlkP RowG GlowW FloodP
def cutI (g:Gh) (b:Bool) (G:Set0) (i:Nat) (q:V):Nat:=if q ∈ G.C.take i then G.po q else g.nw b q
def Loop1D (w:World) (g:Gh) (b:Bool) (fo:Nat) (G:Set0) (bf bd:Nat) (vd:Value) (v:Value) (W:World):Prop :=
 ∃ i:Nat,v = .int .i64 i∧i≤G.C.length∧∃ g',MoreB b g g'∧Sx W g'∧Go g w g' W∧(∀ q,g'.nw b q = cutI g b G i q)∧Loc W g' bf TPart [.func (.func fo) #[] #[]]∧Loc W g' bd TSP [vd]∧LocR W g' vd G.C
theorem cutI_up {g:Gh} {b:Bool} {G:Set0} {i:Nat} {q:V} (hq:G.C[i]? = some q):cutI g b G (i + 1) = up (cutI g b G i) q (G.po q):=by
 funext x
 unfold up cutI
 rw [List.take_add_one,hq]
 by_cases e:x = q
 ·subst e
  simp
 ·simp only [Option.toList,List.mem_append,List.mem_singleton,e,or_false,if_false]
def DarkP (w:World) (g:Gh) (b:Bool) (G:Set0) (e:Ending) (w':World):Prop:=∃ T A n c g',e = .returned (.slice A n c)∧T.length = n∧Dk G T T.length∧MoreB b g g'∧(∀ q,g'.nw b q = cut G T q)∧Sx w' g'∧Go g w g' w'∧LocR w' g' (.slice A n c) T∧∀ q ∈ T,okP g q
set_option maxRecDepth 100000 in
set_option maxHeartbeats 16000000 in
theorem darken_c {w:World} {g:Gh} {b:Bool} {fo:Nat} {G:Set0} (hp:Part b fo) (h:Sx w g) (hf:Fit G) (hrel:PRel b g G) {A:Option Addr} {n c:Nat} (hR:Rd encP w (.slice A n c) G.C) (hn:G.C.length = n) (h0:0 < n) :
  Calls Tryd.prog 41 #[.pointer (some ⟨g.wk,0,none⟩),.slice A n c,.func (.func fo) #[] #[]] w (DarkP w g b G):=by
 have hn2:n≤1024:=by
  have:=nodup_len hf.cdup hf.cin
  have:=hrel.few
  omega
 have HPA:=Lib.hid hp
 have HPE:=Lib.hid hp.ent
 have HS:=Lib.hid h
 have HF:=Lib.hid hf
 have HREL:=Lib.hid hrel
 have HR:=Lib.hid hR
 have HN:=Lib.hid hn
 have hwl:=h.st.work.lt
 clear hp h hf hrel hR hn
 refine (callsIn_wide (n:=8)).1 ?_
 refine callsIn_of_wp_marks Tryd.func41 rfl trivial ?_ rfl
 refine wpIn_wide.2 ?_
 simp only [Tryd.ntmps41,List.size_toArray,List.length_cons,List.length_nil,Nat.reduceAdd,Nat.reduceSub,Array.replicate_succ,Array.replicate_zero,List.push_toArray,List.append_toArray,List.nil_append,List.cons_append]
 go_wp2_with fail
 go_at_call 54
 refine calls_named (S:=fun W=>Blk W w.heap.size TPart [.func (.func fo) #[] #[]]∧Below w.heap.size w W∧w.heap.size < W.heap.size) ⟨by (repeat' (first | (with_reducible refine BlkP.Blk.drew ?_) | (with_reducible refine BlkP.Blk.drewN ?_ _) | (with_reducible refine BlkP.Blk.setAt (us:=?_) (by first | omega | (simp; done) | (simp; omega)) rfl ?_ ?_) | (with_reducible refine BlkP.Blk.otherAt ?_ (by first | omega | (simp; done) | (simp; omega))) | (with_reducible refine BlkP.Blk.newA' (by first | omega | (simp; done) | (simp; omega)) rfl) | (with_reducible refine BlkP.Blk.alloc ?_ _) | (exact rfl))),by (repeat' (first | (with_reducible exact Below.refl _ _) | (with_reducible refine Below.setCell ?_ (by (first | omega | (simp; done) | (simp; omega))) _) | (with_reducible refine Below.alloc ?_ (by (first | omega | (simp; done) | (simp; omega))) _) | (with_reducible refine Below.drew ?_) | (with_reducible refine below_drewN ?_ _))),by simp⟩ ?_
 rintro W0 ⟨hb5,hbw,hz0⟩
 have HB5:=Lib.hid hb5
 have HBW:=Lib.hid hbw
 refine (cloneP_c (HR.out.below hbw) HN.out h0 (by omega)).mono ?_
 rintro e W1 ⟨gd,cd,rfl,hown,hb1⟩
 have HSX1:=Lib.hid ((HS.out.below hbw).below hb1)
 have HB51:=Lib.hid (hb5.below hb1)
 have HBW1:=Lib.hid (hbw.trans (hb1.mono hbw.size))
 have HOW1:=Lib.hid (show RowG.Own encP TP W1 0 (.slice (some ⟨gd,0,none⟩) n cd) G.C from hown.mono (Nat.zero_le _))
 have HGD:=Lib.hid (show W0.heap.size≤gd from (hown.ge gd rfl).1)
 have hz1:=hb1.size
 clear hb5 hbw hown hb1 HB5 HBW
 go_wp2_with fail
 go_loopw [22] (fun v wr=>Loop1D w g b fo G w.heap.size (W1.heap.size) (.slice (some ⟨gd,0,none⟩) n cd) v wr) (fun v _=>n - (intOf v).toNat)
 case atStart =>
  have hbl:Below W1.heap.size W1 W1:=Below.refl _ _
  refine ⟨0,rfl,by omega,g,(More.refl g).toB,HSX1.out.below (by (repeat' (first | (with_reducible exact Below.refl _ _) | (with_reducible refine Below.setCell ?_ (by (first | omega | (simp; done) | (simp; omega))) _) | (with_reducible refine Below.alloc ?_ (by (first | omega | (simp; done) | (simp; omega))) _) | (with_reducible refine Below.drew ?_) | (with_reducible refine below_drewN ?_ _)))),Go.below g (HBW1.out.trans (by (repeat' (first | (with_reducible exact Below.refl _ _) | (with_reducible refine Below.setCell ?_ (by (first | omega | (simp; done) | (simp; omega))) _) | (with_reducible refine Below.alloc ?_ (by (first | omega | (simp; done) | (simp; omega))) _) | (with_reducible refine Below.drew ?_) | (with_reducible refine below_drewN ?_ _))))),fun q=>rfl,⟨by (have q:=HB51.out; (repeat' (first | (with_reducible exact q) | (with_reducible refine BlkP.Blk.drew ?_) | (with_reducible refine BlkP.Blk.drewN ?_ _) | (with_reducible refine BlkP.Blk.setAt (us:=?_) (by first | omega | (simp; done) | (simp; omega)) rfl ?_ ?_) | (with_reducible refine BlkP.Blk.otherAt ?_ (by first | omega | (simp; done) | (simp; omega))) | (with_reducible refine BlkP.Blk.newA' (by first | omega | (simp; done) | (simp; omega)) rfl) | (with_reducible refine BlkP.Blk.alloc ?_ _) | (exact rfl)))),HS.out.st.new (Nat.le_refl _)⟩,⟨by (repeat' (first | (with_reducible refine BlkP.Blk.drew ?_) | (with_reducible refine BlkP.Blk.drewN ?_ _) | (with_reducible refine BlkP.Blk.setAt (us:=?_) (by first | omega | (simp; done) | (simp; omega)) rfl ?_ ?_) | (with_reducible refine BlkP.Blk.otherAt ?_ (by first | omega | (simp; done) | (simp; omega))) | (with_reducible refine BlkP.Blk.newA' (by first | omega | (simp; done) | (simp; omega)) rfl) | (with_reducible refine BlkP.Blk.alloc ?_ _) | (exact rfl))),HS.out.st.new (by omega)⟩,LocR.below (w:=W1) ⟨HOW1.out,fun k hk=>?_⟩ (by (repeat' (first | (with_reducible exact Below.refl _ _) | (with_reducible refine Below.setCell ?_ (by (first | omega | (simp; done) | (simp; omega))) _) | (with_reducible refine Below.alloc ?_ (by (first | omega | (simp; done) | (simp; omega))) _) | (with_reducible refine Below.drew ?_) | (with_reducible refine below_drewN ?_ _))))⟩
  have hk':gd = k:=by simpa [Value.ownBlock] using hk
  have:=HGD.out
  exact HS.out.st.new (by omega)
 case round =>
  obtain ⟨i,rfl,hi,g2,hm,hsx,hgo,hnw,hfb,hdb,hrow⟩:=hrel
  have HM:=Lib.hid hm
  have HSX:=Lib.hid hsx
  have HGO:=Lib.hid hgo
  have HNW:=Lib.hid hnw
  have HFB:=Lib.hid hfb
  have HDB:=Lib.hid hdb
  have HRW:=Lib.hid hrow
  clear hm hsx hgo hnw hfb hdb
  by_cases hin:i < n
  ·have hinI:(i:Int) < n:=by omega
   obtain ⟨q,hq⟩:∃ q,G.C[i]? = some q:=⟨_,List.getElem?_eq_getElem (by have:=HN.out; omega)⟩
   have HQ:=Lib.hid hq
   have HOK:=Lib.hid (HM.out.ok (HREL.out.okC q (List.mem_of_getElem? hq)))
   obtain ⟨qx,qy,qz⟩:=q
   have r0:wr.cell? ⟨gd,i * 3,none⟩ = some (.int .i64 qx):=hrow.1.cell (j:=0) hq rfl
   have r1:wr.cell? ⟨gd,i * 3 + 1,none⟩ = some (.int .i64 qy):=hrow.1.cell (j:=1) hq rfl
   have r2:wr.cell? ⟨gd,i * 3 + 2,none⟩ = some (.int .i64 qz):=hrow.1.cell (j:=2) hq rfl
   clear hq hrow
   go_wp2_with fail
   go_at_call 37
   refine calls_named (S:=fun W=>Below wr.heap.size wr W) (by (repeat' (first | (with_reducible exact Below.refl _ _) | (with_reducible refine Below.setCell ?_ (by (first | omega | (simp; done) | (simp; omega))) _) | (with_reducible refine Below.alloc ?_ (by (first | omega | (simp; done) | (simp; omega))) _) | (with_reducible refine Below.drew ?_) | (with_reducible refine below_drewN ?_ _)))) ?_
   clear r0 r1 r2
   rintro W2 hb2
   have hkn:=know_m (q:=(qx,qy,qz)) (HSX.out.below hb2) HOK.out
   rw [HM.out.same.1] at hkn
   refine hkn.mono ?_
   clear hkn
   rintro e W3 ⟨kb,g3,rfl,hmem,hm3,hsx3,hgo3⟩
   have hgo3':=(Go.below g2 hb2).trans hgo3
   have HM3:=Lib.hid (HM.out.trans hm3.toB)
   have HSX3:=Lib.hid hsx3
   have HGO3:=Lib.hid (HGO.out.trans hgo3')
   have HFB3:=Lib.hid (HFB.out.go hgo3')
   have HDB3:=Lib.hid (HDB.out.go hgo3')
   have HRW3:=Lib.hid (HRW.out.go hgo3')
   have HME:=Lib.hid hmem
   have HKB:=Lib.hid (hsx3.st.known _ _ hmem)
   have HNW3:=Lib.hid (show ∀ p,g3.nw b p = cutI g b G i p from fun p=>by rw [hm3.same.2.2.2.2.1]; exact HNW.out p)
   clear hb2 hm3 hsx3 hgo3 hgo3' hmem HM HSX HGO HFB HDB HRW HNW
   go_wp2_with fail
   refine wp_region_noPanic ?_
   refine wp_region_held_drew (S:=fun Xw=>Blk Xw w.heap.size TPart [.func (.func fo) #[] #[]]∧Xw.cell? ⟨kb,1 + b.toNat,none⟩ = some (.int .u8 (g3.ow b (qx,qy,qz):Int))) (by kernel_rfl) (⟨HFB3.out.1,k_own b HKB.out⟩) (fun hHeld=>?_)
   refine wpAnyH_take (i:=0) (oi:=⟨some 29,_,_,_,_,_⟩) (v:=.func (.func fo) #[] #[]) rfl (by kernel_rfl) (by kernel_rfl) (by kernel_rfl) (fun _ _ _ h=>h) (Or.inl ⟨by rfl,fun Xw hSW=>by have a:=hSW.1.cell (i:=0) rfl; go_simp⟩) hHeld ?_
   simp only [Act.put,List.setIfInBounds_toArray,List.set_cons_zero,List.set_cons_succ]
   refine wpAnyH_take (i:=1) (oi:=⟨some 30,_,_,_,_,_⟩) (v:=.pointer (some ⟨kb,0,none⟩)) rfl (by kernel_rfl) (by kernel_rfl) (by kernel_rfl) (fun _ _ _ h=>h) (Or.inl ⟨by rfl,fun Xw hSW=>by go_simp⟩) hHeld ?_
   simp only [Act.put,List.setIfInBounds_toArray,List.set_cons_zero,List.set_cons_succ]
   refine wpAnyH_take (i:=2) (oi:=⟨some 31,_,_,_,_,_⟩) (v:=.pointer (some ⟨kb,0,none⟩)) rfl (by kernel_rfl) (by kernel_rfl) (by kernel_rfl) (fun _ _ _ h=>h) (Or.inl ⟨by rfl,fun Xw hSW=>by go_simp⟩) hHeld ?_
   simp only [Act.put,List.setIfInBounds_toArray,List.set_cons_zero,List.set_cons_succ]
   refine wpAnyH_take (i:=3) (oi:=⟨some 32,_,_,_,_,_⟩) (v:=.pointer (some ⟨kb,5,none⟩)) rfl (by kernel_rfl) (by kernel_rfl) (by kernel_rfl) (fun _ _ _ h=>h) (Or.inl ⟨by rfl,fun Xw hSW=>by go_simp⟩) hHeld ?_
   simp only [Act.put,List.setIfInBounds_toArray,List.set_cons_zero,List.set_cons_succ]
   refine wpAnyH_take (i:=5) (oi:=⟨some 34,_,_,_,_,_⟩) (v:=.func (.func fo) #[] #[]) rfl (by kernel_rfl) (by kernel_rfl) (by kernel_rfl) (fun _ _ _ h=>h) (Or.inl ⟨by rfl,fun Xw hSW=>by have a:=hSW.1.cell (i:=0) rfl; go_simp⟩) hHeld ?_
   simp only [Act.put,List.setIfInBounds_toArray,List.set_cons_zero,List.set_cons_succ]
   refine wpAnyH_take (i:=6) (oi:=⟨some 35,_,_,_,_,_⟩) (v:=.pointer (some ⟨kb,0,none⟩)) rfl (by kernel_rfl) (by kernel_rfl) (by kernel_rfl) (fun _ _ _ h=>h) (Or.inl ⟨by rfl,fun Xw hSW=>by go_simp⟩) hHeld ?_
   simp only [Act.put,List.setIfInBounds_toArray,List.set_cons_zero,List.set_cons_succ]
   refine wpAnyH_take (i:=7) (oi:=⟨some 36,_,_,_,_,_⟩) (v:=.pointer (some ⟨kb,0,none⟩)) rfl (by kernel_rfl) (by kernel_rfl) (by kernel_rfl) (fun _ _ _ h=>h) (Or.inl ⟨by rfl,fun Xw hSW=>by go_simp⟩) hHeld ?_
   simp only [Act.put,List.setIfInBounds_toArray,List.set_cons_zero,List.set_cons_succ]
   refine wpAnyH_take (i:=8) (oi:=⟨some 37,_,_,_,_,_⟩) (v:=.pointer (some ⟨kb,1,none⟩)) rfl (by kernel_rfl) (by kernel_rfl) (by kernel_rfl) (fun _ _ _ h=>h) (Or.inl ⟨by rfl,fun Xw hSW=>by go_simp⟩) hHeld ?_
   simp only [Act.put,List.setIfInBounds_toArray,List.set_cons_zero,List.set_cons_succ]
   refine wpAnyH_ready (rs:=[4]) (by kernel_rfl) (by simp) ?_
   refine AllReadyH.cons (o:=⟨some 33,_,_,_,_,_⟩) rfl (fun K hK=>?_) AllReadyH.nil
   have ent:=HPE.out
   go_simp
   refine (HPA.out.run kb 5 _).mono ?_
   rintro e w' ⟨rfl,rfl⟩
   try go_wp2_with fail
   refine hK.out _ _ (hHeld) (fun hHeld=>?_)
   clear hK K
   refine wpAnyH_ready (rs:=[9]) (by kernel_rfl) (by simp) ?_
   refine AllReadyH.cons (o:=⟨some 38,_,_,_,_,_⟩) rfl (fun K hK=>?_) AllReadyH.nil
   have ent:=HPE.out
   go_simp
   refine (HPA.out.run kb 1 _).mono ?_
   rintro e w' ⟨rfl,rfl⟩
   try go_wp2_with fail
   refine hK.out _ _ (hHeld) (fun hHeld=>?_)
   clear hK K
   refine wpAnyH_take (i:=10) (oi:=⟨some 39,_,_,_,_,_⟩) (v:=.pointer (some ⟨kb,1 + b.toNat,none⟩)) rfl (by kernel_rfl) (by kernel_rfl) (by kernel_rfl) (fun _ _ _ h=>h) (Or.inl ⟨by rfl,fun Xw hSW=>by go_simp⟩) hHeld ?_
   simp only [Act.put,List.setIfInBounds_toArray,List.set_cons_zero,List.set_cons_succ]
   refine wpAnyH_take (i:=11) (oi:=⟨some 40,_,_,_,_,_⟩) (v:=.int .u8 (g3.ow b (qx,qy,qz):Int)) rfl (by kernel_rfl) (by kernel_rfl) (by kernel_rfl) (fun _ _ _ h=>h) (Or.inl ⟨by rfl,fun Xw hSW=>by have a:=hSW.2; go_simp⟩) hHeld ?_
   simp only [Act.put,List.setIfInBounds_toArray,List.set_cons_zero,List.set_cons_succ]
   refine wpAnyH_take (i:=12) (oi:=⟨some 41,_,_,_,_,_⟩) (v:=.pointer (some ⟨kb,5 + b.toNat,none⟩)) rfl (by kernel_rfl) (by kernel_rfl) (by kernel_rfl) (fun _ _ _ h=>h) (Or.inl ⟨by rfl,fun Xw hSW=>by go_simp⟩) hHeld ?_
   simp only [Act.put,List.setIfInBounds_toArray,List.set_cons_zero,List.set_cons_succ]
   refine wpAnyH_ready (rs:=[13]) (by kernel_rfl) (by simp) ?_
   refine AllReadyH.cons (o:=⟨none,_,_,_,_,_⟩) rfl (fun K hK=>?_) AllReadyH.nil
   have a5:=k_now b HKB.out
   have z5:=HKB.out.frozen (5 + b.toNat)
   go_simp
   refine hK.out _ _ (⟨HFB3.out.1.otherAt (fun e=>Blk.ne HFB3.out.1 HKB.out (by decide) e),(World.cell?_setCell_other _ _ _ _ (by intro e; injection e with _ e; omega)).trans (k_own b HKB.out)⟩) (fun hHeld=>?_)
   clear hK K
   refine wpAnyH_done (by kernel_rfl) ?_ _
   refine NoPanic.normal ?_
   go_wp2_with fail
   go_roundw
   case rel =>
    have hpo:g3.ow b (qx,qy,qz) = G.po (qx,qy,qz):=by rw [HM3.out.same.2.2.2.1]; exact HREL.out.po _
    have hgs:=(Go.setN (b:=b) (v:=g3.ow b (qx,qy,qz)) HSX3.out.st HME.out).trans (Go.below _ (Below.refl _ _).drew)
    refine ⟨i + 1,by go_num,by have:=HN.out; omega,g3.setN b (qx,qy,qz) (g3.ow b (qx,qy,qz)),HM3.out.trans (MoreB.setN _ _ _ _),HSX3.out.setN HME.out (HSX3.out.st.le b _).1 |>.below (Below.refl _ _).drew,HGO3.out.trans hgs,fun p=>?_,HFB3.out.go hgs,HDB3.out.go hgs,HRW3.out.go hgs⟩
    rw [setN_b,cutI_up HQ.out,hpo]
    exact congrFun (congrArg (fun f=>up f (qx,qy,qz) (G.po (qx,qy,qz))) (funext HNW3.out)) p
   case measure=>(simp only [intOf]; omega)
  ·obtain rfl:n = i:=by have:=HN.out; omega
   go_wp2_with fail
   refine wp_loop_ghost_k (fun k a W=>∃ y11:Value,∃ y12:Value,∃ y13:Value,∃ y43:Value,∃ y44:Value,∃ y45:Value,∃ y46:Value,∃ y47:Value,∃ y48:Value,∃ y49:Value,∃ y50:Value,∃ y51:Value,∃ y52:Value,∃ y53:Value,∃ y54:Value,∃ y55:Value,∃ y56:Value,∃ y57:Value,∃ y58:Value,∃ y59:Value,∃ y60:Value,∃ y61:Value,∃ y62:Value,∃ y63:Value,∃ y64:Value,∃ y65:Value,∃ y66:Value,∃ y67:Value,∃ y68:Value,∃ y69:Value,∃ y70:Value,∃ y71:Value,∃ y72:Value,∃ y73:Value,∃ y74:Value,∃ y75:Value,∃ y76:Value,∃ Ds:List Nat,(∃ i T vd g',y11 = .int .i64 (i:Nat)∧k = 1025 - i∧Sx W g'∧D2 w g b fo G w.heap.size W1.heap.size i T vd Ds g' W)∧a = { tmps:=#[.pointer (some ⟨g.wk,0,none⟩),.slice A n c,.func (.func fo) #[] #[],undef,undef,.pointer (some ⟨w.heap.size,0,none⟩),.slice none 0 0,.pointer (some ⟨W1.heap.size,0,none⟩),undef,u9,u10,y11,y12,y13,undef,undef,undef,undef,.slice A n c,.slice (some ⟨gd,0,none⟩) n cd,.slice (some ⟨gd,0,none⟩) n cd,.int .i64 n,.int .i64 n,.bool false,u24,u25,u26,u27,u28,u29,u30,u31,u32,u33,u34,u35,u36,u37,u38,u39,u40,u41,u42,y43,y44,y45,y46,y47,y48,y49,y50,y51,y52,y53,y54,y55,y56,y57,y58,y59,y60,y61,y62,y63,y64,y65,y66,y67,y68,y69,y70,y71,y72,y73,y74,y75,y76,undef,undef,undef,undef,undef,undef,undef,undef,undef,undef,undef,undef,undef,undef,undef,undef,undef,undef,undef,undef,undef,undef,undef,undef,undef,undef,undef,undef,undef,undef,undef,undef,undef,undef,undef],defers:=Ds.map GlowW.mark }) 1025 ?_ ?_
   ·refine ⟨_,_,_,_,_,_,_,_,_,_,_,_,_,_,_,_,_,_,_,_,_,_,_,_,_,_,_,_,_,_,_,_,_,_,_,_,_,[],⟨0,G.C,.slice (some ⟨gd,0,none⟩) n cd,g2,rfl,rfl,HSX.out.below (by (repeat' (first | (with_reducible exact Below.refl _ _) | (with_reducible refine Below.setCell ?_ (by (first | omega | (simp; done) | (simp; omega))) _) | (with_reducible refine Below.alloc ?_ (by (first | omega | (simp; done) | (simp; omega))) _) | (with_reducible refine Below.drew ?_) | (with_reducible refine below_drewN ?_ _)))),Dk.start HF.out,HM.out,HGO.out.trans (Go.below _ (by (repeat' (first | (with_reducible exact Below.refl _ _) | (with_reducible refine Below.setCell ?_ (by (first | omega | (simp; done) | (simp; omega))) _) | (with_reducible refine Below.alloc ?_ (by (first | omega | (simp; done) | (simp; omega))) _) | (with_reducible refine Below.drew ?_) | (with_reducible refine below_drewN ?_ _))))),fun q=>?_,HFB.out.below (by (repeat' (first | (with_reducible exact Below.refl _ _) | (with_reducible refine Below.setCell ?_ (by (first | omega | (simp; done) | (simp; omega))) _) | (with_reducible refine Below.alloc ?_ (by (first | omega | (simp; done) | (simp; omega))) _) | (with_reducible refine Below.drew ?_) | (with_reducible refine below_drewN ?_ _)))),HDB.out.below (by (repeat' (first | (with_reducible exact Below.refl _ _) | (with_reducible refine Below.setCell ?_ (by (first | omega | (simp; done) | (simp; omega))) _) | (with_reducible refine Below.alloc ?_ (by (first | omega | (simp; done) | (simp; omega))) _) | (with_reducible refine Below.drew ?_) | (with_reducible refine below_drewN ?_ _)))),HRW.out.below (by (repeat' (first | (with_reducible exact Below.refl _ _) | (with_reducible refine Below.setCell ?_ (by (first | omega | (simp; done) | (simp; omega))) _) | (with_reducible refine Below.alloc ?_ (by (first | omega | (simp; done) | (simp; omega))) _) | (with_reducible refine Below.drew ?_) | (with_reducible refine below_drewN ?_ _)))),fun k hk=>?_,Marks.nil _ _,fun D hD=>(by cases hD),fun q hq=>HREL.out.okC q hq⟩,rfl⟩
    ·rw [HNW.out,cutI,cut,← HN.out,List.take_length]
     by_cases hq:q ∈ G.C
     ·rw [if_pos hq,if_pos hq]
     ·rw [if_neg hq,if_neg hq]
      exact HREL.out.out q hq
    ·have e:gd = k:=by simpa [Value.ownBlock] using hk
     have:=HGD.out
     omega
   ·clear HM HSX HGO HNW HFB HDB HRW hrow
    intro k a W hI
    obtain ⟨y11,y12,y13,y43,y44,y45,y46,y47,y48,y49,y50,y51,y52,y53,y54,y55,y56,y57,y58,y59,y60,y61,y62,y63,y64,y65,y66,y67,y68,y69,y70,y71,y72,y73,y74,y75,y76,Ds,⟨i,T,vd,g3,rfl,rfl,hsx2,hd2⟩,rfl⟩:=hI
    intro J K hJ hK
    have HD2:=Lib.hid hd2
    have HSX2:=Lib.hid hsx2
    have HJ:=Lib.hid hJ
    obtain ⟨ln,hln⟩:∃ ln,T.length = ln:=⟨_,rfl⟩
    have HLN:=Lib.hid hln
    obtain ⟨Av,cv,hvd,hcap,_,hAv⟩:=hd2.row.1.form hln
    subst hvd
    have hd0:W.cell? ⟨W1.heap.size,0,none⟩ = some (.slice Av ln cv):=hd2.bd.1.cell (i:=0) rfl
    have hlnE:ln≤1024:=by
     have h1:=hd2.dk.len HF.out
     have h2:=HREL.out.few
     omega
    have hi1:=hd2.dk.lt
    clear hJ hln
    by_cases hil:i < ln
    ·have hilI:(i:Int) < ln:=by omega
     obtain ⟨gr,rfl,_,_⟩:=hAv (by omega)
     obtain ⟨q,hq⟩:∃ q,T[i]? = some q:=⟨_,List.getElem?_eq_getElem (by have:=HLN.out; omega)⟩
     have HQ:=Lib.hid hq
     have hkn:=know_m (q:=q) hsx2 (hd2.m.ok (hd2.ok q (List.mem_of_getElem? hq)))
     rw [hd2.m.same.1] at hkn
     have HKN:=Lib.hid hkn
     obtain ⟨qx,qy,qz⟩:=q
     have r0:W.cell? ⟨gr,i * 3,none⟩ = some (.int .i64 qx):=hd2.row.1.cell (j:=0) hq rfl
     have r1:W.cell? ⟨gr,i * 3 + 1,none⟩ = some (.int .i64 qy):=hd2.row.1.cell (j:=1) hq rfl
     have r2:W.cell? ⟨gr,i * 3 + 2,none⟩ = some (.int .i64 qz):=hd2.row.1.cell (j:=2) hq rfl
     clear hd2 hq hkn hAv hsx2
     go_wp2_with fail
     go_at_call 37
     refine HKN.out.mono ?_
     rintro e W3 ⟨kb,g4,rfl,hmem,hm4,hsx4,hgo4⟩
     have HD3:=Lib.hid (HD2.out.step hgo4 hm4)
     have HSX3:=Lib.hid hsx4
     have HME:=Lib.hid hmem
     have HKB:=Lib.hid (hsx4.st.known _ _ hmem)
     clear HD2 HKN r0 r1 r2 hd0 hmem hm4 hsx4 hgo4
     go_wp2_with fail
     go_cut [13] from 55 to 61 (fun s13 W=>∃ nb,s13 = .pointer (some ⟨nb,0,none⟩)∧Sx W g4∧D2 w g b fo G w.heap.size W1.heap.size i T (.slice (some ⟨gr,0,none⟩) ln cv) Ds g4 W∧Loc W g4 nb 5 [.int .u8 (wasB g4.f b (qx,qy,qz):Int)]∧w.heap.size≤nb)
     case first =>
      refine wp_region_noPanic ?_
      refine wp_region_held_drew (S:=fun Xw=>Blk Xw w.heap.size TPart [.func (.func fo) #[] #[]]∧Xw.cell? ⟨kb,3 + b.toNat,none⟩ = some (.int .u8 (wasB g4.f b (qx,qy,qz):Int))) (by kernel_rfl) (⟨HD3.out.bf.1,k_was b HKB.out⟩) (fun hHeld=>?_)
      refine wpAnyH_take (i:=0) (oi:=⟨some 55,_,_,_,_,_⟩) (v:=.func (.func fo) #[] #[]) rfl (by kernel_rfl) (by kernel_rfl) (by kernel_rfl) (fun _ _ _ h=>h) (Or.inl ⟨by rfl,fun Xw hSW=>by have a:=hSW.1.cell (i:=0) rfl; go_simp⟩) hHeld ?_
      simp only [Act.put,List.setIfInBounds_toArray,List.set_cons_zero,List.set_cons_succ]
      refine wpAnyH_take (i:=1) (oi:=⟨some 56,_,_,_,_,_⟩) (v:=.pointer (some ⟨kb,0,none⟩)) rfl (by kernel_rfl) (by kernel_rfl) (by kernel_rfl) (fun _ _ _ h=>h) (Or.inl ⟨by rfl,fun Xw hSW=>by go_simp⟩) hHeld ?_
      simp only [Act.put,List.setIfInBounds_toArray,List.set_cons_zero,List.set_cons_succ]
      refine wpAnyH_take (i:=2) (oi:=⟨some 57,_,_,_,_,_⟩) (v:=.pointer (some ⟨kb,0,none⟩)) rfl (by kernel_rfl) (by kernel_rfl) (by kernel_rfl) (fun _ _ _ h=>h) (Or.inl ⟨by rfl,fun Xw hSW=>by go_simp⟩) hHeld ?_
      simp only [Act.put,List.setIfInBounds_toArray,List.set_cons_zero,List.set_cons_succ]
      refine wpAnyH_take (i:=3) (oi:=⟨some 58,_,_,_,_,_⟩) (v:=.pointer (some ⟨kb,3,none⟩)) rfl (by kernel_rfl) (by kernel_rfl) (by kernel_rfl) (fun _ _ _ h=>h) (Or.inl ⟨by rfl,fun Xw hSW=>by go_simp⟩) hHeld ?_
      simp only [Act.put,List.setIfInBounds_toArray,List.set_cons_zero,List.set_cons_succ]
      refine wpAnyH_ready (rs:=[4,7]) (by kernel_rfl) (by simp) ?_
      refine AllReadyH.cons (o:=⟨some 59,_,_,_,_,_⟩) rfl (fun K hK=>?_) (AllReadyH.cons (o:=⟨some 13,_,_,_,_,_⟩) rfl (fun K hK=>?_) AllReadyH.nil)
      ·have ent:=HPE.out
       go_simp
       refine (HPA.out.run kb 3 _).mono ?_
       rintro e w' ⟨rfl,rfl⟩
       try go_wp2_with fail
       refine hK.out _ _ (hHeld) (fun hHeld=>?_)
       clear hK K
       refine wpAnyH_take (i:=5) (oi:=⟨some 60,_,_,_,_,_⟩) (v:=.pointer (some ⟨kb,3 + b.toNat,none⟩)) rfl (by kernel_rfl) (by kernel_rfl) (by kernel_rfl) (fun _ _ _ h=>h) (Or.inl ⟨by rfl,fun Xw hSW=>by go_simp⟩) hHeld ?_
       simp only [Act.put,List.setIfInBounds_toArray,List.set_cons_zero,List.set_cons_succ]
       refine wpAnyH_take (i:=6) (oi:=⟨some 61,_,_,_,_,_⟩) (v:=.int .u8 (wasB g4.f b (qx,qy,qz):Int)) rfl (by kernel_rfl) (by kernel_rfl) (by kernel_rfl) (fun _ _ _ h=>h) (Or.inl ⟨by rfl,fun Xw hSW=>by have a:=hSW.2; go_simp⟩) hHeld ?_
       simp only [Act.put,List.setIfInBounds_toArray,List.set_cons_zero,List.set_cons_succ]
       refine wpAnyH_ready (rs:=[7]) (by kernel_rfl) (by simp) ?_
       refine AllReadyH.cons (o:=⟨some 13,_,_,_,_,_⟩) rfl (fun K hK=>?_) AllReadyH.nil
       go_simp
       refine hK.out _ _ (⟨by (have q:=HD3.out.bf.1; (repeat' (first | (with_reducible exact q) | (with_reducible refine BlkP.Blk.drew ?_) | (with_reducible refine BlkP.Blk.drewN ?_ _) | (with_reducible refine BlkP.Blk.setAt (us:=?_) (by first | omega | (simp; done) | (simp; omega)) rfl ?_ ?_) | (with_reducible refine BlkP.Blk.otherAt ?_ (by first | omega | (simp; done) | (simp; omega))) | (with_reducible refine BlkP.Blk.newA' (by first | omega | (simp; done) | (simp; omega)) rfl) | (with_reducible refine BlkP.Blk.alloc ?_ _) | (exact rfl)))),by (have q:=k_was b HKB.out; have hl:=HKB.out.lt; (repeat' (first | (with_reducible assumption) | (with_reducible refine HeldP.c_drew ?_) | (with_reducible refine HeldP.c_drewN ?_) | (with_reducible refine HeldP.c_same (by omega) ?_) | (with_reducible refine HeldP.c_other ?_ ?_) | (with_reducible refine HeldP.c_new (by first | omega | (simp; done) | (simp; omega)) ?_) | (with_reducible refine HeldP.c_alloc ?_ ?_) | (with_reducible refine HeldP.e_drew ?_) | (with_reducible refine HeldP.e_drewN ?_) | (with_reducible refine HeldP.e_set ?_) | (with_reducible refine HeldP.e_new (by first | omega | (simp; done) | (simp; omega)) ⟨_,rfl⟩) | (with_reducible refine HeldP.e_alloc ?_ ?_) | (with_reducible refine HeldP.f_drew ?_) | (with_reducible refine HeldP.f_drewN ?_) | (with_reducible refine HeldP.f_set ?_) | (with_reducible refine HeldP.f_new (by first | omega | (simp; done) | (simp; omega))) | (with_reducible refine HeldP.f_alloc ?_ ?_) | (with_reducible refine HeldP.s_drew ?_) | (with_reducible refine HeldP.s_drewN ?_) | (with_reducible refine HeldP.s_set ?_) | (with_reducible refine HeldP.s_new (by first | omega | (simp; done) | (simp; omega))) | (with_reducible refine HeldP.s_alloc ?_) | (with_reducible exact ⟨_,by assumption⟩) | omega | (intro e; simp at e; done) | (intro e; simp at e; omega) | (exact rfl) | (simp; done) | (simp; omega))))⟩) (fun hHeld=>?_)
       clear hK K
       refine wpAnyH_ready (rs:=[8]) (by kernel_rfl) (by simp) ?_
       refine AllReadyH.cons (o:=⟨none,_,_,_,_,_⟩) rfl (fun K hK=>?_) AllReadyH.nil
       go_simp
       refine hK.out _ _ (⟨by (have q:=HD3.out.bf.1; (repeat' (first | (with_reducible exact q) | (with_reducible refine BlkP.Blk.drew ?_) | (with_reducible refine BlkP.Blk.drewN ?_ _) | (with_reducible refine BlkP.Blk.setAt (us:=?_) (by first | omega | (simp; done) | (simp; omega)) rfl ?_ ?_) | (with_reducible refine BlkP.Blk.otherAt ?_ (by first | omega | (simp; done) | (simp; omega))) | (with_reducible refine BlkP.Blk.newA' (by first | omega | (simp; done) | (simp; omega)) rfl) | (with_reducible refine BlkP.Blk.alloc ?_ _) | (exact rfl)))),by (have q:=k_was b HKB.out; have hl:=HKB.out.lt; (repeat' (first | (with_reducible assumption) | (with_reducible refine HeldP.c_drew ?_) | (with_reducible refine HeldP.c_drewN ?_) | (with_reducible refine HeldP.c_same (by omega) ?_) | (with_reducible refine HeldP.c_other ?_ ?_) | (with_reducible refine HeldP.c_new (by first | omega | (simp; done) | (simp; omega)) ?_) | (with_reducible refine HeldP.c_alloc ?_ ?_) | (with_reducible refine HeldP.e_drew ?_) | (with_reducible refine HeldP.e_drewN ?_) | (with_reducible refine HeldP.e_set ?_) | (with_reducible refine HeldP.e_new (by first | omega | (simp; done) | (simp; omega)) ⟨_,rfl⟩) | (with_reducible refine HeldP.e_alloc ?_ ?_) | (with_reducible refine HeldP.f_drew ?_) | (with_reducible refine HeldP.f_drewN ?_) | (with_reducible refine HeldP.f_set ?_) | (with_reducible refine HeldP.f_new (by first | omega | (simp; done) | (simp; omega))) | (with_reducible refine HeldP.f_alloc ?_ ?_) | (with_reducible refine HeldP.s_drew ?_) | (with_reducible refine HeldP.s_drewN ?_) | (with_reducible refine HeldP.s_set ?_) | (with_reducible refine HeldP.s_new (by first | omega | (simp; done) | (simp; omega))) | (with_reducible refine HeldP.s_alloc ?_) | (with_reducible exact ⟨_,by assumption⟩) | omega | (intro e; simp at e; done) | (intro e; simp at e; omega) | (exact rfl) | (simp; done) | (simp; omega))))⟩) (fun hHeld=>?_)
       clear hK K
       refine wpAnyH_done (by kernel_rfl) ?_ _
       refine NoPanic.normal ?_
       go_wp2_with fail
       go_meet
       case rel =>
        exact ⟨W3.heap.size,rfl,HSX3.out.below (by (repeat' (first | (with_reducible exact Below.refl _ _) | (with_reducible refine Below.setCell ?_ (by (first | omega | (simp; done) | (simp; omega))) _) | (with_reducible refine Below.alloc ?_ (by (first | omega | (simp; done) | (simp; omega))) _) | (with_reducible refine Below.drew ?_) | (with_reducible refine below_drewN ?_ _)))),HD3.out.below (by (repeat' (first | (with_reducible exact Below.refl _ _) | (with_reducible refine Below.setCell ?_ (by (first | omega | (simp; done) | (simp; omega))) _) | (with_reducible refine Below.alloc ?_ (by (first | omega | (simp; done) | (simp; omega))) _) | (with_reducible refine Below.drew ?_) | (with_reducible refine below_drewN ?_ _)))),⟨by (repeat' (first | (with_reducible refine BlkP.Blk.drew ?_) | (with_reducible refine BlkP.Blk.drewN ?_ _) | (with_reducible refine BlkP.Blk.setAt (us:=?_) (by first | omega | (simp; done) | (simp; omega)) rfl ?_ ?_) | (with_reducible refine BlkP.Blk.otherAt ?_ (by first | omega | (simp; done) | (simp; omega))) | (with_reducible refine BlkP.Blk.newA' (by first | omega | (simp; done) | (simp; omega)) rfl) | (with_reducible refine BlkP.Blk.alloc ?_ _) | (exact rfl))),HSX3.out.st.new (Nat.le_refl _)⟩,HD3.out.go.fr.size⟩
      ·go_simp
       refine hK.out _ _ (⟨by (have q:=HD3.out.bf.1; (repeat' (first | (with_reducible exact q) | (with_reducible refine BlkP.Blk.drew ?_) | (with_reducible refine BlkP.Blk.drewN ?_ _) | (with_reducible refine BlkP.Blk.setAt (us:=?_) (by first | omega | (simp; done) | (simp; omega)) rfl ?_ ?_) | (with_reducible refine BlkP.Blk.otherAt ?_ (by first | omega | (simp; done) | (simp; omega))) | (with_reducible refine BlkP.Blk.newA' (by first | omega | (simp; done) | (simp; omega)) rfl) | (with_reducible refine BlkP.Blk.alloc ?_ _) | (exact rfl)))),by (have q:=k_was b HKB.out; have hl:=HKB.out.lt; (repeat' (first | (with_reducible assumption) | (with_reducible refine HeldP.c_drew ?_) | (with_reducible refine HeldP.c_drewN ?_) | (with_reducible refine HeldP.c_same (by omega) ?_) | (with_reducible refine HeldP.c_other ?_ ?_) | (with_reducible refine HeldP.c_new (by first | omega | (simp; done) | (simp; omega)) ?_) | (with_reducible refine HeldP.c_alloc ?_ ?_) | (with_reducible refine HeldP.e_drew ?_) | (with_reducible refine HeldP.e_drewN ?_) | (with_reducible refine HeldP.e_set ?_) | (with_reducible refine HeldP.e_new (by first | omega | (simp; done) | (simp; omega)) ⟨_,rfl⟩) | (with_reducible refine HeldP.e_alloc ?_ ?_) | (with_reducible refine HeldP.f_drew ?_) | (with_reducible refine HeldP.f_drewN ?_) | (with_reducible refine HeldP.f_set ?_) | (with_reducible refine HeldP.f_new (by first | omega | (simp; done) | (simp; omega))) | (with_reducible refine HeldP.f_alloc ?_ ?_) | (with_reducible refine HeldP.s_drew ?_) | (with_reducible refine HeldP.s_drewN ?_) | (with_reducible refine HeldP.s_set ?_) | (with_reducible refine HeldP.s_new (by first | omega | (simp; done) | (simp; omega))) | (with_reducible refine HeldP.s_alloc ?_) | (with_reducible exact ⟨_,by assumption⟩) | omega | (intro e; simp at e; done) | (intro e; simp at e; omega) | (exact rfl) | (simp; done) | (simp; omega))))⟩) (fun hHeld=>?_)
       clear hK K
       refine wpAnyH_ready (rs:=[4]) (by kernel_rfl) (by simp) ?_
       refine AllReadyH.cons (o:=⟨some 59,_,_,_,_,_⟩) rfl (fun K hK=>?_) AllReadyH.nil
       have ent:=HPE.out
       go_simp
       refine (HPA.out.run kb 3 _).mono ?_
       rintro e w' ⟨rfl,rfl⟩
       try go_wp2_with fail
       refine hK.out _ _ (hHeld) (fun hHeld=>?_)
       clear hK K
       refine wpAnyH_take (i:=5) (oi:=⟨some 60,_,_,_,_,_⟩) (v:=.pointer (some ⟨kb,3 + b.toNat,none⟩)) rfl (by kernel_rfl) (by kernel_rfl) (by kernel_rfl) (fun _ _ _ h=>h) (Or.inl ⟨by rfl,fun Xw hSW=>by go_simp⟩) hHeld ?_
       simp only [Act.put,List.setIfInBounds_toArray,List.set_cons_zero,List.set_cons_succ]
       refine wpAnyH_take (i:=6) (oi:=⟨some 61,_,_,_,_,_⟩) (v:=.int .u8 (wasB g4.f b (qx,qy,qz):Int)) rfl (by kernel_rfl) (by kernel_rfl) (by kernel_rfl) (fun _ _ _ h=>h) (Or.inl ⟨by rfl,fun Xw hSW=>by have a:=hSW.2; go_simp⟩) hHeld ?_
       simp only [Act.put,List.setIfInBounds_toArray,List.set_cons_zero,List.set_cons_succ]
       refine wpAnyH_ready (rs:=[8]) (by kernel_rfl) (by simp) ?_
       refine AllReadyH.cons (o:=⟨none,_,_,_,_,_⟩) rfl (fun K hK=>?_) AllReadyH.nil
       go_simp
       refine hK.out _ _ (⟨by (have q:=HD3.out.bf.1; (repeat' (first | (with_reducible exact q) | (with_reducible refine BlkP.Blk.drew ?_) | (with_reducible refine BlkP.Blk.drewN ?_ _) | (with_reducible refine BlkP.Blk.setAt (us:=?_) (by first | omega | (simp; done) | (simp; omega)) rfl ?_ ?_) | (with_reducible refine BlkP.Blk.otherAt ?_ (by first | omega | (simp; done) | (simp; omega))) | (with_reducible refine BlkP.Blk.newA' (by first | omega | (simp; done) | (simp; omega)) rfl) | (with_reducible refine BlkP.Blk.alloc ?_ _) | (exact rfl)))),by (have q:=k_was b HKB.out; have hl:=HKB.out.lt; (repeat' (first | (with_reducible assumption) | (with_reducible refine HeldP.c_drew ?_) | (with_reducible refine HeldP.c_drewN ?_) | (with_reducible refine HeldP.c_same (by omega) ?_) | (with_reducible refine HeldP.c_other ?_ ?_) | (with_reducible refine HeldP.c_new (by first | omega | (simp; done) | (simp; omega)) ?_) | (with_reducible refine HeldP.c_alloc ?_ ?_) | (with_reducible refine HeldP.e_drew ?_) | (with_reducible refine HeldP.e_drewN ?_) | (with_reducible refine HeldP.e_set ?_) | (with_reducible refine HeldP.e_new (by first | omega | (simp; done) | (simp; omega)) ⟨_,rfl⟩) | (with_reducible refine HeldP.e_alloc ?_ ?_) | (with_reducible refine HeldP.f_drew ?_) | (with_reducible refine HeldP.f_drewN ?_) | (with_reducible refine HeldP.f_set ?_) | (with_reducible refine HeldP.f_new (by first | omega | (simp; done) | (simp; omega))) | (with_reducible refine HeldP.f_alloc ?_ ?_) | (with_reducible refine HeldP.s_drew ?_) | (with_reducible refine HeldP.s_drewN ?_) | (with_reducible refine HeldP.s_set ?_) | (with_reducible refine HeldP.s_new (by first | omega | (simp; done) | (simp; omega))) | (with_reducible refine HeldP.s_alloc ?_) | (with_reducible exact ⟨_,by assumption⟩) | omega | (intro e; simp at e; done) | (intro e; simp at e; omega) | (exact rfl) | (simp; done) | (simp; omega))))⟩) (fun hHeld=>?_)
       clear hK K
       refine wpAnyH_done (by kernel_rfl) ?_ _
       refine NoPanic.normal ?_
       go_wp2_with fail
       go_meet
       case rel =>
        exact ⟨W3.heap.size,rfl,HSX3.out.below (by (repeat' (first | (with_reducible exact Below.refl _ _) | (with_reducible refine Below.setCell ?_ (by (first | omega | (simp; done) | (simp; omega))) _) | (with_reducible refine Below.alloc ?_ (by (first | omega | (simp; done) | (simp; omega))) _) | (with_reducible refine Below.drew ?_) | (with_reducible refine below_drewN ?_ _)))),HD3.out.below (by (repeat' (first | (with_reducible exact Below.refl _ _) | (with_reducible refine Below.setCell ?_ (by (first | omega | (simp; done) | (simp; omega))) _) | (with_reducible refine Below.alloc ?_ (by (first | omega | (simp; done) | (simp; omega))) _) | (with_reducible refine Below.drew ?_) | (with_reducible refine below_drewN ?_ _)))),⟨by (repeat' (first | (with_reducible refine BlkP.Blk.drew ?_) | (with_reducible refine BlkP.Blk.drewN ?_ _) | (with_reducible refine BlkP.Blk.setAt (us:=?_) (by first | omega | (simp; done) | (simp; omega)) rfl ?_ ?_) | (with_reducible refine BlkP.Blk.otherAt ?_ (by first | omega | (simp; done) | (simp; omega))) | (with_reducible refine BlkP.Blk.newA' (by first | omega | (simp; done) | (simp; omega)) rfl) | (with_reducible refine BlkP.Blk.alloc ?_ _) | (exact rfl))),HSX3.out.st.new (Nat.le_refl _)⟩,HD3.out.go.fr.size⟩
     case rest =>
      obtain ⟨nb,rfl,hsx3,hd3,hnb,hnbl⟩:=hcut
      have HD:=Lib.hid hd3
      have HSX:=Lib.hid hsx3
      have HKC:=Lib.hid (hsx3.st.known _ _ HME.out)
      have HQT:=Lib.hid (List.mem_of_getElem? HQ.out)
      obtain ⟨pq,hpq⟩:∃ pq,G.po (qx,qy,qz) = pq:=⟨_,rfl⟩
      obtain ⟨wq,hwq⟩:∃ wq,G.was (qx,qy,qz) = wq:=⟨_,rfl⟩
      have HPQ:=Lib.hid hpq
      have HWQ:=Lib.hid hwq
      have HWA:=Lib.hid (show wasB g4.f b (qx,qy,qz) = wq by rw [hd3.m.was,HREL.out.was]; exact hwq)
      rw [HWA.out] at hnb
      have HNB:=Lib.hid hnb
      have HNOW:=Lib.hid (show wc.cell? ⟨kb,5 + b.toNat,none⟩ = some (.int .u8 (pq:Int)) by
       have:=k_now b HKC.out
       rw [hd3.nw,cut,if_pos HQT.out,hpq] at this
       exact this)
      have hw15:wq≤15:=by rw [← hwq]; exact HF.out.was15 _
      clear hd3 hsx3 hnb hpq hwq HD3 HSX3 HKB
      by_cases hge:wq≤pq
      ·have hgeI:(wq:Int)≤(pq:Int):=by omega
       go_wp2_with fail
       refine wp_region_noPanic ?_
       refine wp_region_held_drew (S:=fun Xw=>(Blk Xw w.heap.size TPart [.func (.func fo) #[] #[]]∧Xw.cell? ⟨kb,5 + b.toNat,none⟩ = some (.int .u8 pq))∧Blk Xw nb 5 [.int .u8 wq]) (by kernel_rfl) (⟨⟨HD.out.bf.1,HNOW.out⟩,HNB.out.1⟩) (fun hHeld=>?_)
       refine wpAnyH_take (i:=0) (oi:=⟨some 62,_,_,_,_,_⟩) (v:=.func (.func fo) #[] #[]) rfl (by kernel_rfl) (by kernel_rfl) (by kernel_rfl) (fun _ _ _ h=>h) (Or.inl ⟨by rfl,fun Xw hSW=>by have a:=hSW.1.1.cell (i:=0) rfl; go_simp⟩) hHeld ?_
       simp only [Act.put,List.setIfInBounds_toArray,List.set_cons_zero,List.set_cons_succ]
       refine wpAnyH_take (i:=1) (oi:=⟨some 63,_,_,_,_,_⟩) (v:=.pointer (some ⟨kb,0,none⟩)) rfl (by kernel_rfl) (by kernel_rfl) (by kernel_rfl) (fun _ _ _ h=>h) (Or.inl ⟨by rfl,fun Xw hSW=>by go_simp⟩) hHeld ?_
       simp only [Act.put,List.setIfInBounds_toArray,List.set_cons_zero,List.set_cons_succ]
       refine wpAnyH_take (i:=2) (oi:=⟨some 64,_,_,_,_,_⟩) (v:=.pointer (some ⟨kb,0,none⟩)) rfl (by kernel_rfl) (by kernel_rfl) (by kernel_rfl) (fun _ _ _ h=>h) (Or.inl ⟨by rfl,fun Xw hSW=>by go_simp⟩) hHeld ?_
       simp only [Act.put,List.setIfInBounds_toArray,List.set_cons_zero,List.set_cons_succ]
       refine wpAnyH_take (i:=3) (oi:=⟨some 65,_,_,_,_,_⟩) (v:=.pointer (some ⟨kb,5,none⟩)) rfl (by kernel_rfl) (by kernel_rfl) (by kernel_rfl) (fun _ _ _ h=>h) (Or.inl ⟨by rfl,fun Xw hSW=>by go_simp⟩) hHeld ?_
       simp only [Act.put,List.setIfInBounds_toArray,List.set_cons_zero,List.set_cons_succ]
       refine wpAnyH_take (i:=7) (oi:=⟨some 69,_,_,_,_,_⟩) (v:=.int .u8 wq) rfl (by kernel_rfl) (by kernel_rfl) (by kernel_rfl) (fun _ _ _ h=>h) (Or.inl ⟨by rfl,fun Xw hSW=>by have a:=hSW.2.cell (i:=0) rfl; go_simp⟩) hHeld ?_
       simp only [Act.put,List.setIfInBounds_toArray,List.set_cons_zero,List.set_cons_succ]
       refine wpAnyH_ready (rs:=[4]) (by kernel_rfl) (by simp) ?_
       refine AllReadyH.cons (o:=⟨some 66,_,_,_,_,_⟩) rfl (fun K hK=>?_) AllReadyH.nil
       have ent:=HPE.out
       go_simp
       refine (HPA.out.run kb 5 _).mono ?_
       rintro e w' ⟨rfl,rfl⟩
       try go_wp2_with fail
       refine hK.out _ _ (hHeld) (fun hHeld=>?_)
       clear hK K
       refine wpAnyH_take (i:=5) (oi:=⟨some 67,_,_,_,_,_⟩) (v:=.pointer (some ⟨kb,5 + b.toNat,none⟩)) rfl (by kernel_rfl) (by kernel_rfl) (by kernel_rfl) (fun _ _ _ h=>h) (Or.inl ⟨by rfl,fun Xw hSW=>by go_simp⟩) hHeld ?_
       simp only [Act.put,List.setIfInBounds_toArray,List.set_cons_zero,List.set_cons_succ]
       refine wpAnyH_take (i:=6) (oi:=⟨some 68,_,_,_,_,_⟩) (v:=.int .u8 pq) rfl (by kernel_rfl) (by kernel_rfl) (by kernel_rfl) (fun _ _ _ h=>h) (Or.inl ⟨by rfl,fun Xw hSW=>by have a:=hSW.1.2; go_simp⟩) hHeld ?_
       simp only [Act.put,List.setIfInBounds_toArray,List.set_cons_zero,List.set_cons_succ]
       refine wpAnyH_take (i:=8) (oi:=⟨some 70,_,_,_,_,_⟩) (v:=.bool true) rfl (by kernel_rfl) (by kernel_rfl) (by kernel_rfl) (fun _ _ _ h=>h) (Or.inl ⟨by rfl,fun Xw hSW=>by go_simp⟩) hHeld ?_
       simp only [Act.put,List.setIfInBounds_toArray,List.set_cons_zero,List.set_cons_succ]
       refine wpAnyH_done (by kernel_rfl) ?_ _
       refine NoPanic.normal ?_
       go_wp2_with fail
       refine Handed.intro (1025 - (i + 1)) (by omega) (HJ.out _ _ _ ?_)
       refine ⟨_,_,_,_,_,_,_,_,_,_,_,_,_,_,_,_,_,_,_,_,_,_,_,_,_,_,_,_,_,_,_,_,_,_,_,_,_,Ds,⟨i + 1,T,_,g4,by go_num,rfl,HSX.out.below (Below.refl _ _).drew,(HD.out.next (HD.out.dk.skip HF.out HQ.out (by rw [HPQ.out,HWQ.out]; exact hge))).below (Below.refl _ _).drew⟩,rfl⟩
      ·have hgeI:¬ (wq:Int)≤(pq:Int):=by omega
       have hged:decide ((wq:Int)≤(pq:Int)) = false:=decide_eq_false hgeI
       go_wp2_with fail
       refine wp_region_noPanic ?_
       refine wp_region_held_drew (S:=fun Xw=>(Blk Xw w.heap.size TPart [.func (.func fo) #[] #[]]∧Xw.cell? ⟨kb,5 + b.toNat,none⟩ = some (.int .u8 pq))∧Blk Xw nb 5 [.int .u8 wq]) (by kernel_rfl) (⟨⟨HD.out.bf.1,HNOW.out⟩,HNB.out.1⟩) (fun hHeld=>?_)
       refine wpAnyH_take (i:=0) (oi:=⟨some 62,_,_,_,_,_⟩) (v:=.func (.func fo) #[] #[]) rfl (by kernel_rfl) (by kernel_rfl) (by kernel_rfl) (fun _ _ _ h=>h) (Or.inl ⟨by rfl,fun Xw hSW=>by have a:=hSW.1.1.cell (i:=0) rfl; go_simp⟩) hHeld ?_
       simp only [Act.put,List.setIfInBounds_toArray,List.set_cons_zero,List.set_cons_succ]
       refine wpAnyH_take (i:=1) (oi:=⟨some 63,_,_,_,_,_⟩) (v:=.pointer (some ⟨kb,0,none⟩)) rfl (by kernel_rfl) (by kernel_rfl) (by kernel_rfl) (fun _ _ _ h=>h) (Or.inl ⟨by rfl,fun Xw hSW=>by go_simp⟩) hHeld ?_
       simp only [Act.put,List.setIfInBounds_toArray,List.set_cons_zero,List.set_cons_succ]
       refine wpAnyH_take (i:=2) (oi:=⟨some 64,_,_,_,_,_⟩) (v:=.pointer (some ⟨kb,0,none⟩)) rfl (by kernel_rfl) (by kernel_rfl) (by kernel_rfl) (fun _ _ _ h=>h) (Or.inl ⟨by rfl,fun Xw hSW=>by go_simp⟩) hHeld ?_
       simp only [Act.put,List.setIfInBounds_toArray,List.set_cons_zero,List.set_cons_succ]
       refine wpAnyH_take (i:=3) (oi:=⟨some 65,_,_,_,_,_⟩) (v:=.pointer (some ⟨kb,5,none⟩)) rfl (by kernel_rfl) (by kernel_rfl) (by kernel_rfl) (fun _ _ _ h=>h) (Or.inl ⟨by rfl,fun Xw hSW=>by go_simp⟩) hHeld ?_
       simp only [Act.put,List.setIfInBounds_toArray,List.set_cons_zero,List.set_cons_succ]
       refine wpAnyH_take (i:=7) (oi:=⟨some 69,_,_,_,_,_⟩) (v:=.int .u8 wq) rfl (by kernel_rfl) (by kernel_rfl) (by kernel_rfl) (fun _ _ _ h=>h) (Or.inl ⟨by rfl,fun Xw hSW=>by have a:=hSW.2.cell (i:=0) rfl; go_simp⟩) hHeld ?_
       simp only [Act.put,List.setIfInBounds_toArray,List.set_cons_zero,List.set_cons_succ]
       refine wpAnyH_ready (rs:=[4]) (by kernel_rfl) (by simp) ?_
       refine AllReadyH.cons (o:=⟨some 66,_,_,_,_,_⟩) rfl (fun K hK=>?_) AllReadyH.nil
       have ent:=HPE.out
       go_simp
       refine (HPA.out.run kb 5 _).mono ?_
       rintro e w' ⟨rfl,rfl⟩
       try go_wp2_with fail
       refine hK.out _ _ (hHeld) (fun hHeld=>?_)
       clear hK K
       refine wpAnyH_take (i:=5) (oi:=⟨some 67,_,_,_,_,_⟩) (v:=.pointer (some ⟨kb,5 + b.toNat,none⟩)) rfl (by kernel_rfl) (by kernel_rfl) (by kernel_rfl) (fun _ _ _ h=>h) (Or.inl ⟨by rfl,fun Xw hSW=>by go_simp⟩) hHeld ?_
       simp only [Act.put,List.setIfInBounds_toArray,List.set_cons_zero,List.set_cons_succ]
       refine wpAnyH_take (i:=6) (oi:=⟨some 68,_,_,_,_,_⟩) (v:=.int .u8 pq) rfl (by kernel_rfl) (by kernel_rfl) (by kernel_rfl) (fun _ _ _ h=>h) (Or.inl ⟨by rfl,fun Xw hSW=>by have a:=hSW.1.2; go_simp⟩) hHeld ?_
       simp only [Act.put,List.setIfInBounds_toArray,List.set_cons_zero,List.set_cons_succ]
       refine wpAnyH_take (i:=8) (oi:=⟨some 70,_,_,_,_,_⟩) (v:=.bool false) rfl (by kernel_rfl) (by kernel_rfl) (by kernel_rfl) (fun _ _ _ h=>h) (Or.inl ⟨by rfl,fun Xw hSW=>by go_simp⟩) hHeld ?_
       simp only [Act.put,List.setIfInBounds_toArray,List.set_cons_zero,List.set_cons_succ]
       refine wpAnyH_done (by kernel_rfl) ?_ _
       refine NoPanic.normal ?_
       have HDD:=Lib.hid (HD.out.below (Below.refl wc.heap.size wc).drew)
       have HSXD:=Lib.hid (HSX.out.below (Below.refl wc.heap.size wc).drew)
       have HNBD:=Lib.hid (HNB.out.below (Below.refl wc.heap.size wc).drew)
       have e0:wc.cell? ⟨W1.heap.size,0,none⟩ = some (.slice (some ⟨gr,0,none⟩) ln cv):=HD.out.bd.1.cell (i:=0) rfl
       have r0:wc.cell? ⟨gr,i * 3,none⟩ = some (.int .i64 qx):=HD.out.row.1.cell (j:=0) HQ.out rfl
       have r1:wc.cell? ⟨gr,i * 3 + 1,none⟩ = some (.int .i64 qy):=HD.out.row.1.cell (j:=1) HQ.out rfl
       have r2:wc.cell? ⟨gr,i * 3 + 2,none⟩ = some (.int .i64 qz):=HD.out.row.1.cell (j:=2) HQ.out rfl
       have HQE:=Lib.hid (HD.out.dk.inE HF.out _ HQT.out)
       have HNEAR:=Lib.hid (show ∀ s,s ∈ sidesV (qx,qy,qz)→okP g4 s∧dG g4 s≤15 from fun s hs=>by
        have h1:G.d s≤15:=HD.out.dk.near HF.out HQT.out (.inl (by rw [HWQ.out]; omega)) (by rw [← HREL.out.side]; exact hs)
        rw [HD.out.m.dG,HREL.out.d]
        exact ⟨HD.out.m.ok ((HREL.out.okE _ HQE.out).2 s hs (by rw [HREL.out.d]; exact h1)),h1⟩)
       clear hHeld
       go_wp2_with fail
       go_at_call 53
       refine fsides_c.mono ?_
       rintro e W5 ⟨E,rfl,hE,hbox,hwb,hb5⟩
       have HD5:=Lib.hid (HDD.out.below hb5)
       have HSX5:=Lib.hid (HSXD.out.below hb5)
       have HNB5:=Lib.hid (HNBD.out.below hb5)
       have hz5:=hb5.size
       have HBA:=Lib.hid (show Base g.wk E wc.heap.size (qx,qy,qz) g4 W5 from ⟨HD.out.m.same.1,HNEAR.out,⟨hbox,HSXD.out.st.new (by rw [hE]; simp)⟩,⟨hwb,HSXD.out.st.new (Nat.le_refl _)⟩⟩)
       have HB5S:=Lib.hid (show w.heap.size≤W5.heap.size from HD5.out.go.fr.size)
       have HDSW:=Lib.hid (show ∀ D ∈ Ds,D < W5.heap.size from fun D hD=>(HD5.out.mks.at_ D hD).2.1)
       have HRE:=Lib.hid (show ∀ k,(Value.slice (some ⟨gr,0,none⟩) ln cv).ownBlock = some k→k ≠ E from fun k hk=>by
        have:=(HDD.out.row.1.ge k hk).2
        have:wc.drew.heap.size = wc.heap.size:=rfl
        rw [hE]
        omega)
       have HOKS:=Lib.hid (show ∀ s,s ∈ sidesV (qx,qy,qz)→okP g s from fun s hs=>by
        have h1:G.d s≤15:=HD.out.dk.near HF.out HQT.out (.inl (by rw [HWQ.out]; omega)) (by rw [← HREL.out.side]; exact hs)
        exact (HREL.out.okE _ HQE.out).2 s hs (by rw [HREL.out.d]; exact h1))
       have HBDL:=Lib.hid (show w.heap.size≤W1.heap.size by omega)
       have HDK:=Lib.hid HD.out.dk
       clear hE hbox hwb hb5 e0 r0 r1 r2 HD HSX HNB HDD HSXD HNBD
       go_wp2_with fail
       refine (wpIn_wide (n:=8)).1 ?_
       refine wpIn_sidesB 14 15 (by omega) (wk:=g.wk) (E:=E) (wb:=wc.heap.size) (q:=(qx,qy,qz)) ((HREL.out.okE _ HQE.out).1) rfl
        (fun pre gh W=>∃ vd,D2 w g b fo G w.heap.size W1.heap.size i (dFold G (qx,qy,qz) T (pre.map (·.1))) vd Ds gh W∧Loc W gh nb 5 [.int .u8 wq]∧∀ k,vd.ownBlock = some k→k ≠ E) ?stab ?puts g4 HSX5.out HBA.out ⟨_,HD5.out,HNB5.out,HRE.out⟩
        ?assign ?body ?done
       case stab =>
        rintro pre gh W vA ak kn W' ⟨vd,h1,h2,h3⟩ _ hgo hk
        exact ⟨vd,h1.step hgo ⟨⟨_,_,_,rfl⟩,hk⟩,h2.go hgo,h3⟩
       case puts =>
        rintro pre gh W l o o' ⟨vd,h1,h2,h3⟩ hl ho hc hn
        exact ⟨vd,h1.put ho hc hn (by have:=HB5S.out; omega) (fun D hD=>by have:=HDSW.out D hD; omega) o',h2.put ho hc o',h3⟩
       case assign =>
        rintro l ⟨⟨sx,sy,sz⟩,kb2⟩ W K hK
        simp only [actB,roundT,List.setIfInBounds_toArray,List.set_cons_zero,List.set_cons_succ] at hK ⊢
        gi_wp2
        refine hK _ ?_ ?_
        ·(repeat' (first | (with_reducible exact Below.refl _ _) | (with_reducible refine Below.setCell ?_ (by (first | omega | (simp; done) | (simp; omega))) _) | (with_reducible refine Below.alloc ?_ (by (first | omega | (simp; done) | (simp; omega))) _) | (with_reducible refine Below.drew ?_) | (with_reducible refine below_drewN ?_ _)))
        ·(repeat' (first | (with_reducible refine BlkP.Blk.drew ?_) | (with_reducible refine BlkP.Blk.drewN ?_ _) | (with_reducible refine BlkP.Blk.setAt (us:=?_) (by first | omega | (simp; done) | (simp; omega)) rfl ?_ ?_) | (with_reducible refine BlkP.Blk.otherAt ?_ (by first | omega | (simp; done) | (simp; omega))) | (with_reducible refine BlkP.Blk.newA' (by first | omega | (simp; done) | (simp; omega)) rfl) | (with_reducible refine BlkP.Blk.alloc ?_ _) | (exact rfl)))
       case body =>
        rintro l pre ⟨⟨sx,sy,sz⟩,kb2⟩ gh sb W6 hsx hbase ⟨vd,hd6,hnb6,hvE⟩ hsb hmem hside
        obtain ⟨T6,hT6⟩:∃ T6,dFold G (qx,qy,qz) T (pre.map (·.1)) = T6:=⟨_,rfl⟩
        rw [hT6] at hd6
        have HT6:=Lib.hid hT6
        have HQT6:=Lib.hid (show (qx,qy,qz) ∈ T6 by rw [← hT6]; exact dFold_mem HQT.out _)
        have HD6:=Lib.hid hd6
        have HSX6:=Lib.hid hsx
        have HBA6:=Lib.hid hbase
        have HNB6:=Lib.hid hnb6
        have HVE:=Lib.hid hvE
        have HSB:=Lib.hid hsb
        have HME6:=Lib.hid hmem
        have HSD:=Lib.hid hside
        have HKB6:=Lib.hid (hsx.st.known _ _ hmem)
        obtain ⟨nv,hnv⟩:∃ nv,cut G T6 (sx,sy,sz) = nv:=⟨_,rfl⟩
        obtain ⟨pv,hpv⟩:∃ pv,G.po (sx,sy,sz) = pv:=⟨_,rfl⟩
        have HNV:=Lib.hid hnv
        have HPV:=Lib.hid hpv
        have HNW6:=Lib.hid (show W6.cell? ⟨kb2,5 + b.toNat,none⟩ = some (.int .u8 (nv:Int)) by
         have:=k_now b HKB6.out
         rw [hd6.nw,hnv] at this
         exact this)
        have HOW6:=Lib.hid (show W6.cell? ⟨kb2,1 + b.toNat,none⟩ = some (.int .u8 (pv:Int)) by
         have:=k_own b HKB6.out
         rw [hd6.m.same.2.2.2.1,HREL.out.po,hpv] at this
         exact this)
        have hp15:pv≤15:=by rw [← hpv]; have:=HF.out.po_le (sx,sy,sz); have:=HF.out.now15 (sx,sy,sz); omega
        have hn15:nv≤15:=by
         rw [← hnv,← hd6.nw]
         exact (hsx.st.le b _).2
        obtain ⟨le,hle⟩:∃ le:Nat,(wq:Int) - 1 = le:=⟨wq - 1,by omega⟩
        have hs8:=sub8F hle (by omega)
        have hleN:wq = le + 1:=by omega
        have hwr:IntKind.u8.wrap ((wq:Int) - 1) = (le:Int):=by rw [IntKind.wrap_u8]; omega
        have HLEN:=Lib.hid hleN
        clear hT6 hd6 hsx hbase hnb6 hvE hsb hmem hside hnv hpv hle hleN
        simp only [actB,roundT,List.setIfInBounds_toArray,List.set_cons_zero,List.set_cons_succ]
        gi_wp2
        refine RoundR.region (S:=fun Xw=>Blk Xw w.heap.size TPart [.func (.func fo) #[] #[]]∧Xw.cell? ⟨kb2,1 + b.toNat,none⟩ = some (.int .u8 pv)) (by kernel_rfl) (by kernel_rfl) (⟨HD6.out.bf.1,HOW6.out⟩) (fun hHeld=>?_)
        refine wpAnyH_take (i:=0) (oi:=⟨some 79,_,_,_,_,_⟩) (v:=.func (.func fo) #[] #[]) rfl (by kernel_rfl) (by kernel_rfl) (by kernel_rfl) (fun _ _ _ h=>h) (Or.inl ⟨by rfl,fun Xw hSW=>by have a:=hSW.1.cell (i:=0) rfl; go_simp⟩) hHeld ?_
        simp only [Act.put,List.setIfInBounds_toArray,List.set_cons_zero,List.set_cons_succ]
        refine wpAnyH_take (i:=1) (oi:=⟨some 80,_,_,_,_,_⟩) (v:=.pointer (some ⟨kb2,0,none⟩)) rfl (by kernel_rfl) (by kernel_rfl) (by kernel_rfl) (fun _ _ _ h=>h) (Or.inl ⟨by rfl,fun Xw hSW=>by go_simp⟩) hHeld ?_
        simp only [Act.put,List.setIfInBounds_toArray,List.set_cons_zero,List.set_cons_succ]
        refine wpAnyH_take (i:=2) (oi:=⟨some 81,_,_,_,_,_⟩) (v:=.pointer (some ⟨kb2,0,none⟩)) rfl (by kernel_rfl) (by kernel_rfl) (by kernel_rfl) (fun _ _ _ h=>h) (Or.inl ⟨by rfl,fun Xw hSW=>by go_simp⟩) hHeld ?_
        simp only [Act.put,List.setIfInBounds_toArray,List.set_cons_zero,List.set_cons_succ]
        refine wpAnyH_take (i:=3) (oi:=⟨some 82,_,_,_,_,_⟩) (v:=.pointer (some ⟨kb2,5,none⟩)) rfl (by kernel_rfl) (by kernel_rfl) (by kernel_rfl) (fun _ _ _ h=>h) (Or.inl ⟨by rfl,fun Xw hSW=>by go_simp⟩) hHeld ?_
        simp only [Act.put,List.setIfInBounds_toArray,List.set_cons_zero,List.set_cons_succ]
        refine wpAnyH_take (i:=5) (oi:=⟨some 84,_,_,_,_,_⟩) (v:=.func (.func fo) #[] #[]) rfl (by kernel_rfl) (by kernel_rfl) (by kernel_rfl) (fun _ _ _ h=>h) (Or.inl ⟨by rfl,fun Xw hSW=>by have a:=hSW.1.cell (i:=0) rfl; go_simp⟩) hHeld ?_
        simp only [Act.put,List.setIfInBounds_toArray,List.set_cons_zero,List.set_cons_succ]
        refine wpAnyH_take (i:=6) (oi:=⟨some 85,_,_,_,_,_⟩) (v:=.pointer (some ⟨kb2,0,none⟩)) rfl (by kernel_rfl) (by kernel_rfl) (by kernel_rfl) (fun _ _ _ h=>h) (Or.inl ⟨by rfl,fun Xw hSW=>by go_simp⟩) hHeld ?_
        simp only [Act.put,List.setIfInBounds_toArray,List.set_cons_zero,List.set_cons_succ]
        refine wpAnyH_take (i:=7) (oi:=⟨some 86,_,_,_,_,_⟩) (v:=.pointer (some ⟨kb2,0,none⟩)) rfl (by kernel_rfl) (by kernel_rfl) (by kernel_rfl) (fun _ _ _ h=>h) (Or.inl ⟨by rfl,fun Xw hSW=>by go_simp⟩) hHeld ?_
        simp only [Act.put,List.setIfInBounds_toArray,List.set_cons_zero,List.set_cons_succ]
        refine wpAnyH_take (i:=8) (oi:=⟨some 87,_,_,_,_,_⟩) (v:=.pointer (some ⟨kb2,1,none⟩)) rfl (by kernel_rfl) (by kernel_rfl) (by kernel_rfl) (fun _ _ _ h=>h) (Or.inl ⟨by rfl,fun Xw hSW=>by go_simp⟩) hHeld ?_
        simp only [Act.put,List.setIfInBounds_toArray,List.set_cons_zero,List.set_cons_succ]
        refine wpAnyH_ready (rs:=[4]) (by kernel_rfl) (by simp) ?_
        refine AllReadyH.cons (o:=⟨some 83,_,_,_,_,_⟩) rfl (fun K hK=>?_) AllReadyH.nil
        have ent:=HPE.out
        go_simp
        refine (HPA.out.run kb2 5 _).mono ?_
        rintro e w' ⟨rfl,rfl⟩
        try go_wp2_with fail
        refine hK.out _ _ (hHeld) (fun hHeld=>?_)
        clear hK K
        refine wpAnyH_ready (rs:=[9]) (by kernel_rfl) (by simp) ?_
        refine AllReadyH.cons (o:=⟨some 88,_,_,_,_,_⟩) rfl (fun K hK=>?_) AllReadyH.nil
        have ent:=HPE.out
        go_simp
        refine (HPA.out.run kb2 1 _).mono ?_
        rintro e w' ⟨rfl,rfl⟩
        try go_wp2_with fail
        refine hK.out _ _ (hHeld) (fun hHeld=>?_)
        clear hK K
        refine wpAnyH_take (i:=10) (oi:=⟨some 89,_,_,_,_,_⟩) (v:=.pointer (some ⟨kb2,1 + b.toNat,none⟩)) rfl (by kernel_rfl) (by kernel_rfl) (by kernel_rfl) (fun _ _ _ h=>h) (Or.inl ⟨by rfl,fun Xw hSW=>by go_simp⟩) hHeld ?_
        simp only [Act.put,List.setIfInBounds_toArray,List.set_cons_zero,List.set_cons_succ]
        refine wpAnyH_take (i:=11) (oi:=⟨some 90,_,_,_,_,_⟩) (v:=.int .u8 pv) rfl (by kernel_rfl) (by kernel_rfl) (by kernel_rfl) (fun _ _ _ h=>h) (Or.inl ⟨by rfl,fun Xw hSW=>by have a:=hSW.2; go_simp⟩) hHeld ?_
        simp only [Act.put,List.setIfInBounds_toArray,List.set_cons_zero,List.set_cons_succ]
        refine wpAnyH_take (i:=12) (oi:=⟨some 16,_,_,_,_,_⟩) (v:=.pointer (some ⟨kb2,5 + b.toNat,none⟩)) rfl (by kernel_rfl) (by kernel_rfl) (by kernel_rfl) (fun _ _ _ h=>h) (Or.inl ⟨by rfl,fun Xw hSW=>by go_simp⟩) hHeld ?_
        simp only [Act.put,List.setIfInBounds_toArray,List.set_cons_zero,List.set_cons_succ]
        refine wpAnyH_take (i:=13) (oi:=⟨some 17,_,_,_,_,_⟩) (v:=.int .u8 pv) rfl (by kernel_rfl) (by kernel_rfl) (by kernel_rfl) (fun _ _ _ h=>h) (Or.inl ⟨by rfl,fun Xw hSW=>by go_simp⟩) hHeld ?_
        simp only [Act.put,List.setIfInBounds_toArray,List.set_cons_zero,List.set_cons_succ]
        refine wpAnyH_done (by kernel_rfl) ?_ _
        refine RoundR.Calm.normal ?_
        clear hHeld
        gi_wp2
        by_cases hc1:nv = le
        ·by_cases hc2:pv < nv
         ·have HYES:=Lib.hid (show cut G T6 (sx,sy,sz) + 1 = G.was (qx,qy,qz)∧G.po (sx,sy,sz) < cut G T6 (sx,sy,sz) by rw [HNV.out,HPV.out,HWQ.out]; have:=HLEN.out; omega)
          have hEq:((nv:Int) == (le:Int)) = true:=by simpa using (show (nv:Int) = (le:Int) by omega)
          have hLt:(pv:Int) < (nv:Int):=by omega
          clear hc1 hc2
          refine RoundR.region (S:=fun Xw=>Xw.cell? ⟨kb2,5 + b.toNat,none⟩ = some (.int .u8 nv)∧Blk Xw nb 5 [.int .u8 wq]) (by kernel_rfl) (by kernel_rfl) (⟨HNW6.out,HNB6.out.1⟩) (fun hHeld=>?_)
          refine wpAnyH_take (i:=0) (oi:=⟨some 91,_,_,_,_,_⟩) (v:=.pointer (some ⟨kb2,5 + b.toNat,none⟩)) rfl (by kernel_rfl) (by kernel_rfl) (by kernel_rfl) (fun _ _ _ h=>h) (Or.inl ⟨by rfl,fun Xw hSW=>by go_simp⟩) hHeld ?_
          simp only [Act.put,List.setIfInBounds_toArray,List.set_cons_zero,List.set_cons_succ]
          refine wpAnyH_take (i:=1) (oi:=⟨some 92,_,_,_,_,_⟩) (v:=.pointer (some ⟨kb2,5 + b.toNat,none⟩)) rfl (by kernel_rfl) (by kernel_rfl) (by kernel_rfl) (fun _ _ _ h=>h) (Or.inl ⟨by rfl,fun Xw hSW=>by go_simp⟩) hHeld ?_
          simp only [Act.put,List.setIfInBounds_toArray,List.set_cons_zero,List.set_cons_succ]
          refine wpAnyH_take (i:=2) (oi:=⟨some 93,_,_,_,_,_⟩) (v:=.int .u8 nv) rfl (by kernel_rfl) (by kernel_rfl) (by kernel_rfl) (fun _ _ _ h=>h) (Or.inl ⟨by rfl,fun Xw hSW=>by have a:=hSW.1; go_simp⟩) hHeld ?_
          simp only [Act.put,List.setIfInBounds_toArray,List.set_cons_zero,List.set_cons_succ]
          refine wpAnyH_take (i:=3) (oi:=⟨some 94,_,_,_,_,_⟩) (v:=.int .u8 wq) rfl (by kernel_rfl) (by kernel_rfl) (by kernel_rfl) (fun _ _ _ h=>h) (Or.inl ⟨by rfl,fun Xw hSW=>by have a:=hSW.2.cell (i:=0) rfl; go_simp⟩) hHeld ?_
          simp only [Act.put,List.setIfInBounds_toArray,List.set_cons_zero,List.set_cons_succ]
          refine wpAnyH_take (i:=4) (oi:=⟨some 95,_,_,_,_,_⟩) (v:=.int .u8 le) rfl (by kernel_rfl) (by kernel_rfl) (by kernel_rfl) (fun _ _ _ h=>h) (Or.inl ⟨by rfl,fun Xw hSW=>by have a:=hs8 Xw; have a2:=hwr; go_simp⟩) hHeld ?_
          simp only [Act.put,List.setIfInBounds_toArray,List.set_cons_zero,List.set_cons_succ]
          refine wpAnyH_take (i:=5) (oi:=⟨some 96,_,_,_,_,_⟩) (v:=.bool true) rfl (by kernel_rfl) (by kernel_rfl) (by kernel_rfl) (fun _ _ _ h=>h) (Or.inl ⟨by rfl,fun Xw hSW=>by have q1:=hEq; go_simp⟩) hHeld ?_
          simp only [Act.put,List.setIfInBounds_toArray,List.set_cons_zero,List.set_cons_succ]
          refine wpAnyH_take (i:=6) (oi:=⟨some 97,_,_,_,_,_⟩) (v:=.bool true) rfl (by kernel_rfl) (by kernel_rfl) (by kernel_rfl) (fun _ _ _ h=>h) (Or.inl ⟨by rfl,fun Xw hSW=>by go_simp⟩) hHeld ?_
          simp only [Act.put,List.setIfInBounds_toArray,List.set_cons_zero,List.set_cons_succ]
          refine wpAnyH_take (i:=7) (oi:=⟨some 98,_,_,_,_,_⟩) (v:=.int .u8 pv) rfl (by kernel_rfl) (by kernel_rfl) (by kernel_rfl) (fun _ _ _ h=>h) (Or.inl ⟨by rfl,fun Xw hSW=>by go_simp⟩) hHeld ?_
          simp only [Act.put,List.setIfInBounds_toArray,List.set_cons_zero,List.set_cons_succ]
          refine wpAnyH_take (i:=8) (oi:=⟨some 99,_,_,_,_,_⟩) (v:=.pointer (some ⟨kb2,5 + b.toNat,none⟩)) rfl (by kernel_rfl) (by kernel_rfl) (by kernel_rfl) (fun _ _ _ h=>h) (Or.inl ⟨by rfl,fun Xw hSW=>by go_simp⟩) hHeld ?_
          simp only [Act.put,List.setIfInBounds_toArray,List.set_cons_zero,List.set_cons_succ]
          refine wpAnyH_take (i:=9) (oi:=⟨some 100,_,_,_,_,_⟩) (v:=.pointer (some ⟨kb2,5 + b.toNat,none⟩)) rfl (by kernel_rfl) (by kernel_rfl) (by kernel_rfl) (fun _ _ _ h=>h) (Or.inl ⟨by rfl,fun Xw hSW=>by go_simp⟩) hHeld ?_
          simp only [Act.put,List.setIfInBounds_toArray,List.set_cons_zero,List.set_cons_succ]
          refine wpAnyH_take (i:=10) (oi:=⟨some 101,_,_,_,_,_⟩) (v:=.int .u8 nv) rfl (by kernel_rfl) (by kernel_rfl) (by kernel_rfl) (fun _ _ _ h=>h) (Or.inl ⟨by rfl,fun Xw hSW=>by have a:=hSW.1; go_simp⟩) hHeld ?_
          simp only [Act.put,List.setIfInBounds_toArray,List.set_cons_zero,List.set_cons_succ]
          refine wpAnyH_take (i:=11) (oi:=⟨some 102,_,_,_,_,_⟩) (v:=.bool true) rfl (by kernel_rfl) (by kernel_rfl) (by kernel_rfl) (fun _ _ _ h=>h) (Or.inl ⟨by rfl,fun Xw hSW=>by have q1:=hLt; go_simp⟩) hHeld ?_
          simp only [Act.put,List.setIfInBounds_toArray,List.set_cons_zero,List.set_cons_succ]
          refine wpAnyH_take (i:=12) (oi:=⟨some 103,_,_,_,_,_⟩) (v:=.bool true) rfl (by kernel_rfl) (by kernel_rfl) (by kernel_rfl) (fun _ _ _ h=>h) (Or.inl ⟨by rfl,fun Xw hSW=>by go_simp⟩) hHeld ?_
          simp only [Act.put,List.setIfInBounds_toArray,List.set_cons_zero,List.set_cons_succ]
          refine wpAnyH_done (by kernel_rfl) ?_ _
          refine RoundR.Calm.normal ?_
          clear hHeld
          have hne:(sx,sy,sz) ∉ T6:=(dStep_new HYES.out).1
          have HNT:=Lib.hid hne
          obtain ⟨W7,hW7⟩:∃ W7,W6.drew.drew = W7:=⟨_,rfl⟩
          have hb2:Below W6.heap.size W6 W7:=by rw [← hW7]; exact (Below.refl _ _).drew.drew
          have HKE:=Lib.hid (show KeepsOthers W6 W7 by rw [← hW7]; exact (KeepsOthers.drew W6).trans (KeepsOthers.drew _))
          have HD7:=Lib.hid (HD6.out.below hb2)
          have HSX7:=Lib.hid (HSX6.out.below hb2)
          have HBA7:=Lib.hid (HBA6.out.below hb2)
          have HNB7:=Lib.hid (HNB6.out.below hb2)
          have HSB7:=Lib.hid (HSB.out.below hb2)
          have HKB7:=Lib.hid (HKB6.out.below hb2)
          rw [hW7]
          obtain ⟨l6,hl6⟩:∃ l6,T6.length = l6:=⟨_,rfl⟩
          have HL6:=Lib.hid hl6
          obtain ⟨A6,c6,hvd,_,_,_⟩:=HD7.out.row.1.form hl6
          subst hvd
          have hl6n:l6≤1024:=by
           have h1:=HD7.out.dk.len HF.out
           have h2:=HREL.out.few
           omega
          have n0:=k_now b HKB7.out
          have z0:=HKB7.out.frozen (5 + b.toNat)
          have HSX8:=Lib.hid (D2.darker HSX7.out HD7.out HME6.out hp15)
          obtain ⟨W8,hW8⟩:∃ W8,W7.setCell ⟨kb2,5 + b.toNat,none⟩ (.int .u8 (pv:Int)) = W8:=⟨_,rfl⟩
          have HW8:=Lib.hid hW8
          obtain ⟨hm8,hsx8,hgo8⟩:=HSX8.out
          rw [hW8] at hsx8 hgo8
          have HGO8:=Lib.hid hgo8
          have HROW8:=Lib.hid (HD7.out.row.go hgo8)
          have HBD8:=Lib.hid (HD7.out.bd.go hgo8)
          have HSB8:=Lib.hid (HSB7.out.go hgo8)
          have HBA8:=Lib.hid (show Loc W8 (gh.setN b (sx,sy,sz) pv) E TP [.int .i64 qx,.int .i64 qy,.int .i64 qz]∧Loc W8 (gh.setN b (sx,sy,sz) pv) wc.heap.size 66 [.pointer (some ⟨g.wk,0,none⟩)]∧Loc W8 (gh.setN b (sx,sy,sz) pv) nb 5 [.int .u8 wq] from ⟨HBA7.out.box.go hgo8,HBA7.out.wbox.go hgo8,HNB7.out.go hgo8⟩)
          have d7:W8.cell? ⟨W1.heap.size,0,none⟩ = some (.slice A6 l6 c6):=HBD8.out.1.cell (i:=0) rfl
          have b0:W8.cell? ⟨sb,0,none⟩ = some (.int .i64 sx):=HSB8.out.1.cell (i:=0) rfl
          have b1:W8.cell? ⟨sb,1,none⟩ = some (.int .i64 sy):=HSB8.out.1.cell (i:=1) rfl
          have b2:W8.cell? ⟨sb,2,none⟩ = some (.int .i64 sz):=HSB8.out.1.cell (i:=2) rfl
          clear hb2 hW7 hl6 hne hm8 hsx8 hgo8
          gi_wp2_with ((with_reducible refine gi_slotP 110 ?_); refine Classical.byContradiction (fun hG=>?_))
          refine hG ?_
          clear hG
          refine wpI_pushP (w0:=W8) (y:=(sx,sy,sz)) (v:=.slice A6 l6 c6) (l:=T6) rfl (.tmp 107) (.tmp 109) rfl rfl rfl rfl HROW8.out.1 rfl HL6.out (by omega) (Nat.zero_le _) ?_
          intro gr7 c7 W9 hpu
          have HPU:=Lib.hid hpu
          have f9:Fr (fun j=>(Value.slice A6 l6 c6).ownBlock = some j) W8 W9:=Fr.grown hpu.2.1 (fun i e=>e)
          have nt:∀ {x:Nat} {U:TypeId} {us:List Value},Blk W8 x U us→U ≠ TP→¬ (Value.slice A6 l6 c6).ownBlock = some x:=fun hb hU e=>by
           obtain ⟨us2,hu⟩:=own_cells HROW8.out.1 e
           exact Blk.ne hb hu hU rfl
          have hbd9:Blk W9 W1.heap.size TSP [.slice A6 l6 c6]:=f9.blk HBD8.out.1 (nt HBD8.out.1 (by decide))
          have HBX:=Lib.hid (show Blk W9 E TP [.int .i64 qx,.int .i64 qy,.int .i64 qz]∧Blk W9 wc.heap.size 66 [.pointer (some ⟨g.wk,0,none⟩)]∧Blk W9 nb 5 [.int .u8 wq] from ⟨f9.blk HBA8.out.1.1 (fun e=>HVE.out _ e rfl),f9.blk HBA8.out.2.1.1 (nt HBA8.out.2.1.1 (by decide)),f9.blk HBA8.out.2.2.1 (nt HBA8.out.2.2.1 (by decide))⟩)
          have KE:=Lib.hid (show KeepsOthers W6 W9 from (HKE.out.trans (by rw [← HW8.out]; exact KeepsOthers.setCell _ _ _)).trans (KeepsOthers.of_grownBy hpu.2.1 (fun j o e ho=>by
           obtain ⟨us,hu⟩:=own_cells HROW8.out.1 e
           unfold Blk at hu
           rw [hu] at ho
           injection ho with ho
           subst ho
           rfl)))
          have c9:=hbd9.cell (i:=0) rfl
          have z9:=hbd9.frozen 0
          have HBD9:=Lib.hid hbd9
          clear hpu f9 nt hbd9 d7 b0 b1 b2 n0 z0 hW8
          gi_wp2
          have hdk:Dk G (T6 ++ [(sx,sy,sz)]) i:=by
           have h1:=(HD7.out.dk.fold HF.out (k:=(qx,qy,qz)) [(sx,sy,sz)] (HQT6.out) (fun x hx=>by
            have:x = (sx,sy,sz):=by simpa using hx
            subst this
            rw [← HREL.out.side]
            exact HSD.out)).1
           have e:dFold G (qx,qy,qz) T6 [(sx,sy,sz)] = T6 ++ [(sx,sy,sz)]:=by
            show dStep G (qx,qy,qz) T6 (sx,sy,sz) = _
            exact dStep_yes HYES.out
           rwa [e] at h1
          have hj:=D2.joined (bd:=W1.heap.size) HS.out HSX7.out HD7.out HME6.out hdk HNT.out (HOKS.out _ HSD.out) (by rw [HPV.out]; exact HW8.out.symm) (by rw [HPV.out]; exact hp15) HPU.out HBDL.out
          rw [HPV.out] at hj
          have hbd:=Fr.set (fun k=>k = W1.heap.size) W9 ⟨W1.heap.size,0,none⟩ (.slice (some ⟨gr7,0,none⟩) (l6 + 1) c7) rfl
          have ne1:¬ E = W1.heap.size:=fun e=>Blk.ne HBX.out.1 HBD9.out (by decide) e
          have ne2:¬ wc.heap.size = W1.heap.size:=fun e=>Blk.ne HBX.out.2.1 HBD9.out (by decide) e
          have ne3:¬ nb = W1.heap.size:=fun e=>Blk.ne HBX.out.2.2 HBD9.out (by decide) e
          refine ⟨KE.out.trans (KeepsOthers.setCell _ _ _),gh.setN b (sx,sy,sz) pv,hj.1,⟨HBA7.out.wkE,HBA7.out.near,⟨hbd.blk HBX.out.1 ne1,HBA8.out.1.2⟩,⟨hbd.blk HBX.out.2.1 ne2,HBA8.out.2.1.2⟩⟩,⟨.slice (some ⟨gr7,0,none⟩) (l6 + 1) c7,?_,⟨hbd.blk HBX.out.2.2 ne3,HBA8.out.2.2.2⟩,fun k hk=>?_⟩,fun k h _=>h⟩
          ·try rw [List.map_append,List.map_singleton]
           rw [dFold_app,HT6.out,dStep_yes HYES.out]
           exact hj.2
          ·have e2:gr7 = k:=by simpa [Value.ownBlock] using hk
           subst e2
           rcases HPU.out.2.2 with q1 | q1
           ·exact HVE.out _ q1
           ·intro e3
            subst e3
            have:=HBA8.out.1.1.lt
            omega
         ·have HNO:=Lib.hid (show ¬ (cut G T6 (sx,sy,sz) + 1 = G.was (qx,qy,qz)∧G.po (sx,sy,sz) < cut G T6 (sx,sy,sz)) by rw [HNV.out,HPV.out,HWQ.out]; have:=HLEN.out; omega)
          have hEq:((nv:Int) == (le:Int)) = true:=by simpa using (show (nv:Int) = (le:Int) by omega)
          have hLt:¬ (pv:Int) < (nv:Int):=by omega
          clear hc1 hc2
          have hLd:decide ((pv:Int) < (nv:Int)) = false:=decide_eq_false hLt
          refine RoundR.region (S:=fun Xw=>Xw.cell? ⟨kb2,5 + b.toNat,none⟩ = some (.int .u8 nv)∧Blk Xw nb 5 [.int .u8 wq]) (by kernel_rfl) (by kernel_rfl) (⟨HNW6.out,HNB6.out.1⟩) (fun hHeld=>?_)
          refine wpAnyH_take (i:=0) (oi:=⟨some 91,_,_,_,_,_⟩) (v:=.pointer (some ⟨kb2,5 + b.toNat,none⟩)) rfl (by kernel_rfl) (by kernel_rfl) (by kernel_rfl) (fun _ _ _ h=>h) (Or.inl ⟨by rfl,fun Xw hSW=>by go_simp⟩) hHeld ?_
          simp only [Act.put,List.setIfInBounds_toArray,List.set_cons_zero,List.set_cons_succ]
          refine wpAnyH_take (i:=1) (oi:=⟨some 92,_,_,_,_,_⟩) (v:=.pointer (some ⟨kb2,5 + b.toNat,none⟩)) rfl (by kernel_rfl) (by kernel_rfl) (by kernel_rfl) (fun _ _ _ h=>h) (Or.inl ⟨by rfl,fun Xw hSW=>by go_simp⟩) hHeld ?_
          simp only [Act.put,List.setIfInBounds_toArray,List.set_cons_zero,List.set_cons_succ]
          refine wpAnyH_take (i:=2) (oi:=⟨some 93,_,_,_,_,_⟩) (v:=.int .u8 nv) rfl (by kernel_rfl) (by kernel_rfl) (by kernel_rfl) (fun _ _ _ h=>h) (Or.inl ⟨by rfl,fun Xw hSW=>by have a:=hSW.1; go_simp⟩) hHeld ?_
          simp only [Act.put,List.setIfInBounds_toArray,List.set_cons_zero,List.set_cons_succ]
          refine wpAnyH_take (i:=3) (oi:=⟨some 94,_,_,_,_,_⟩) (v:=.int .u8 wq) rfl (by kernel_rfl) (by kernel_rfl) (by kernel_rfl) (fun _ _ _ h=>h) (Or.inl ⟨by rfl,fun Xw hSW=>by have a:=hSW.2.cell (i:=0) rfl; go_simp⟩) hHeld ?_
          simp only [Act.put,List.setIfInBounds_toArray,List.set_cons_zero,List.set_cons_succ]
          refine wpAnyH_take (i:=4) (oi:=⟨some 95,_,_,_,_,_⟩) (v:=.int .u8 le) rfl (by kernel_rfl) (by kernel_rfl) (by kernel_rfl) (fun _ _ _ h=>h) (Or.inl ⟨by rfl,fun Xw hSW=>by have a:=hs8 Xw; have a2:=hwr; go_simp⟩) hHeld ?_
          simp only [Act.put,List.setIfInBounds_toArray,List.set_cons_zero,List.set_cons_succ]
          refine wpAnyH_take (i:=5) (oi:=⟨some 96,_,_,_,_,_⟩) (v:=.bool true) rfl (by kernel_rfl) (by kernel_rfl) (by kernel_rfl) (fun _ _ _ h=>h) (Or.inl ⟨by rfl,fun Xw hSW=>by have q1:=hEq; go_simp⟩) hHeld ?_
          simp only [Act.put,List.setIfInBounds_toArray,List.set_cons_zero,List.set_cons_succ]
          refine wpAnyH_take (i:=6) (oi:=⟨some 97,_,_,_,_,_⟩) (v:=.bool true) rfl (by kernel_rfl) (by kernel_rfl) (by kernel_rfl) (fun _ _ _ h=>h) (Or.inl ⟨by rfl,fun Xw hSW=>by go_simp⟩) hHeld ?_
          simp only [Act.put,List.setIfInBounds_toArray,List.set_cons_zero,List.set_cons_succ]
          refine wpAnyH_take (i:=7) (oi:=⟨some 98,_,_,_,_,_⟩) (v:=.int .u8 pv) rfl (by kernel_rfl) (by kernel_rfl) (by kernel_rfl) (fun _ _ _ h=>h) (Or.inl ⟨by rfl,fun Xw hSW=>by go_simp⟩) hHeld ?_
          simp only [Act.put,List.setIfInBounds_toArray,List.set_cons_zero,List.set_cons_succ]
          refine wpAnyH_take (i:=8) (oi:=⟨some 99,_,_,_,_,_⟩) (v:=.pointer (some ⟨kb2,5 + b.toNat,none⟩)) rfl (by kernel_rfl) (by kernel_rfl) (by kernel_rfl) (fun _ _ _ h=>h) (Or.inl ⟨by rfl,fun Xw hSW=>by go_simp⟩) hHeld ?_
          simp only [Act.put,List.setIfInBounds_toArray,List.set_cons_zero,List.set_cons_succ]
          refine wpAnyH_take (i:=9) (oi:=⟨some 100,_,_,_,_,_⟩) (v:=.pointer (some ⟨kb2,5 + b.toNat,none⟩)) rfl (by kernel_rfl) (by kernel_rfl) (by kernel_rfl) (fun _ _ _ h=>h) (Or.inl ⟨by rfl,fun Xw hSW=>by go_simp⟩) hHeld ?_
          simp only [Act.put,List.setIfInBounds_toArray,List.set_cons_zero,List.set_cons_succ]
          refine wpAnyH_take (i:=10) (oi:=⟨some 101,_,_,_,_,_⟩) (v:=.int .u8 nv) rfl (by kernel_rfl) (by kernel_rfl) (by kernel_rfl) (fun _ _ _ h=>h) (Or.inl ⟨by rfl,fun Xw hSW=>by have a:=hSW.1; go_simp⟩) hHeld ?_
          simp only [Act.put,List.setIfInBounds_toArray,List.set_cons_zero,List.set_cons_succ]
          refine wpAnyH_take (i:=11) (oi:=⟨some 102,_,_,_,_,_⟩) (v:=.bool false) rfl (by kernel_rfl) (by kernel_rfl) (by kernel_rfl) (fun _ _ _ h=>h) (Or.inl ⟨by rfl,fun Xw hSW=>by have q1:=hLt; go_simp⟩) hHeld ?_
          simp only [Act.put,List.setIfInBounds_toArray,List.set_cons_zero,List.set_cons_succ]
          refine wpAnyH_take (i:=12) (oi:=⟨some 103,_,_,_,_,_⟩) (v:=.bool false) rfl (by kernel_rfl) (by kernel_rfl) (by kernel_rfl) (fun _ _ _ h=>h) (Or.inl ⟨by rfl,fun Xw hSW=>by go_simp⟩) hHeld ?_
          simp only [Act.put,List.setIfInBounds_toArray,List.set_cons_zero,List.set_cons_succ]
          refine wpAnyH_done (by kernel_rfl) ?_ _
          refine RoundR.Calm.normal ?_
          clear hHeld
          gi_wp2
          have hb2:Below W6.heap.size W6 W6.drew.drew:=(Below.refl _ _).drew.drew
          exact ⟨(KeepsOthers.drew W6).trans (KeepsOthers.drew _),gh,HSX6.out.below hb2,HBA6.out.below hb2,⟨vd,by (try rw [List.map_append,List.map_singleton]); rw [dFold_app,HT6.out,dStep_no HNO.out]; exact HD6.out.below hb2,HNB6.out.below hb2,HVE.out⟩,fun k h _=>h⟩
        ·have HNO:=Lib.hid (show ¬ (cut G T6 (sx,sy,sz) + 1 = G.was (qx,qy,qz)∧G.po (sx,sy,sz) < cut G T6 (sx,sy,sz)) by rw [HNV.out,HPV.out,HWQ.out]; have:=HLEN.out; omega)
         have hEq:((nv:Int) == (le:Int)) = false:=by simpa using (show ¬ (nv:Int) = (le:Int) by omega)
         clear hc1
         refine RoundR.region (S:=fun Xw=>Xw.cell? ⟨kb2,5 + b.toNat,none⟩ = some (.int .u8 nv)∧Blk Xw nb 5 [.int .u8 wq]) (by kernel_rfl) (by kernel_rfl) (⟨HNW6.out,HNB6.out.1⟩) (fun hHeld=>?_)
         refine wpAnyH_take (i:=0) (oi:=⟨some 91,_,_,_,_,_⟩) (v:=.pointer (some ⟨kb2,5 + b.toNat,none⟩)) rfl (by kernel_rfl) (by kernel_rfl) (by kernel_rfl) (fun _ _ _ h=>h) (Or.inl ⟨by rfl,fun Xw hSW=>by go_simp⟩) hHeld ?_
         simp only [Act.put,List.setIfInBounds_toArray,List.set_cons_zero,List.set_cons_succ]
         refine wpAnyH_take (i:=1) (oi:=⟨some 92,_,_,_,_,_⟩) (v:=.pointer (some ⟨kb2,5 + b.toNat,none⟩)) rfl (by kernel_rfl) (by kernel_rfl) (by kernel_rfl) (fun _ _ _ h=>h) (Or.inl ⟨by rfl,fun Xw hSW=>by go_simp⟩) hHeld ?_
         simp only [Act.put,List.setIfInBounds_toArray,List.set_cons_zero,List.set_cons_succ]
         refine wpAnyH_take (i:=2) (oi:=⟨some 93,_,_,_,_,_⟩) (v:=.int .u8 nv) rfl (by kernel_rfl) (by kernel_rfl) (by kernel_rfl) (fun _ _ _ h=>h) (Or.inl ⟨by rfl,fun Xw hSW=>by have a:=hSW.1; go_simp⟩) hHeld ?_
         simp only [Act.put,List.setIfInBounds_toArray,List.set_cons_zero,List.set_cons_succ]
         refine wpAnyH_take (i:=3) (oi:=⟨some 94,_,_,_,_,_⟩) (v:=.int .u8 wq) rfl (by kernel_rfl) (by kernel_rfl) (by kernel_rfl) (fun _ _ _ h=>h) (Or.inl ⟨by rfl,fun Xw hSW=>by have a:=hSW.2.cell (i:=0) rfl; go_simp⟩) hHeld ?_
         simp only [Act.put,List.setIfInBounds_toArray,List.set_cons_zero,List.set_cons_succ]
         refine wpAnyH_take (i:=4) (oi:=⟨some 95,_,_,_,_,_⟩) (v:=.int .u8 le) rfl (by kernel_rfl) (by kernel_rfl) (by kernel_rfl) (fun _ _ _ h=>h) (Or.inl ⟨by rfl,fun Xw hSW=>by have a:=hs8 Xw; have a2:=hwr; go_simp⟩) hHeld ?_
         simp only [Act.put,List.setIfInBounds_toArray,List.set_cons_zero,List.set_cons_succ]
         refine wpAnyH_take (i:=5) (oi:=⟨some 96,_,_,_,_,_⟩) (v:=.bool false) rfl (by kernel_rfl) (by kernel_rfl) (by kernel_rfl) (fun _ _ _ h=>h) (Or.inl ⟨by rfl,fun Xw hSW=>by have q1:=hEq; go_simp⟩) hHeld ?_
         simp only [Act.put,List.setIfInBounds_toArray,List.set_cons_zero,List.set_cons_succ]
         refine wpAnyH_take (i:=6) (oi:=⟨some 97,_,_,_,_,_⟩) (v:=.bool false) rfl (by kernel_rfl) (by kernel_rfl) (by kernel_rfl) (fun _ _ _ h=>h) (Or.inl ⟨by rfl,fun Xw hSW=>by go_simp⟩) hHeld ?_
         simp only [Act.put,List.setIfInBounds_toArray,List.set_cons_zero,List.set_cons_succ]
         refine wpAnyH_take (i:=7) (oi:=⟨some 98,_,_,_,_,_⟩) (v:=undef) rfl (by kernel_rfl) (by kernel_rfl) (by kernel_rfl) (fun _ _ _ h=>h) (Or.inr ⟨by kernel_rfl,rfl⟩) hHeld ?_
         simp only [Act.put,List.setIfInBounds_toArray,List.set_cons_zero,List.set_cons_succ]
         refine wpAnyH_take (i:=8) (oi:=⟨some 99,_,_,_,_,_⟩) (v:=undef) rfl (by kernel_rfl) (by kernel_rfl) (by kernel_rfl) (fun _ _ _ h=>h) (Or.inr ⟨by kernel_rfl,rfl⟩) hHeld ?_
         simp only [Act.put,List.setIfInBounds_toArray,List.set_cons_zero,List.set_cons_succ]
         refine wpAnyH_take (i:=9) (oi:=⟨some 100,_,_,_,_,_⟩) (v:=undef) rfl (by kernel_rfl) (by kernel_rfl) (by kernel_rfl) (fun _ _ _ h=>h) (Or.inr ⟨by kernel_rfl,rfl⟩) hHeld ?_
         simp only [Act.put,List.setIfInBounds_toArray,List.set_cons_zero,List.set_cons_succ]
         refine wpAnyH_take (i:=10) (oi:=⟨some 101,_,_,_,_,_⟩) (v:=undef) rfl (by kernel_rfl) (by kernel_rfl) (by kernel_rfl) (fun _ _ _ h=>h) (Or.inr ⟨by kernel_rfl,rfl⟩) hHeld ?_
         simp only [Act.put,List.setIfInBounds_toArray,List.set_cons_zero,List.set_cons_succ]
         refine wpAnyH_take (i:=11) (oi:=⟨some 102,_,_,_,_,_⟩) (v:=undef) rfl (by kernel_rfl) (by kernel_rfl) (by kernel_rfl) (fun _ _ _ h=>h) (Or.inr ⟨by kernel_rfl,rfl⟩) hHeld ?_
         simp only [Act.put,List.setIfInBounds_toArray,List.set_cons_zero,List.set_cons_succ]
         refine wpAnyH_take (i:=12) (oi:=⟨some 103,_,_,_,_,_⟩) (v:=.bool false) rfl (by kernel_rfl) (by kernel_rfl) (by kernel_rfl) (fun _ _ _ h=>h) (Or.inl ⟨by rfl,fun Xw hSW=>by go_simp⟩) hHeld ?_
         simp only [Act.put,List.setIfInBounds_toArray,List.set_cons_zero,List.set_cons_succ]
         refine wpAnyH_done (by kernel_rfl) ?_ _
         refine RoundR.Calm.normal ?_
         clear hHeld
         gi_wp2
         have hb2:Below W6.heap.size W6 W6.drew.drew:=(Below.refl _ _).drew.drew
         exact ⟨(KeepsOthers.drew W6).trans (KeepsOthers.drew _),gh,HSX6.out.below hb2,HBA6.out.below hb2,⟨vd,by (try rw [List.map_append,List.map_singleton]); rw [dFold_app,HT6.out,dStep_no HNO.out]; exact HD6.out.below hb2,HNB6.out.below hb2,HVE.out⟩,fun k h _=>h⟩
       case done =>
        rintro D xs W' hD hxs ⟨gh,hsx,hbase,⟨vd,hd6,hnb6,_⟩,hnD⟩ hk
        have ex:=hxs.trans (HREL.out.side _)
        rw [ex] at hd6
        have HD6:=Lib.hid hd6
        have HSX6:=Lib.hid hsx
        have HND:=Lib.hid hnD
        have HK:=Lib.hid hk
        clear hxs ex hd6 hnb6 hbase hsx hnD hk
        go_wp2_with fail
        refine Handed.intro (1025 - (i + 1)) (by omega) (HJ.out _ _ _ ?_)
        have hB:=HB5S.out
        refine ⟨_,_,_,_,_,_,_,_,_,_,_,_,_,_,_,_,_,_,_,_,_,_,_,_,_,_,_,_,_,_,_,_,_,_,_,_,_,D :: Ds,⟨i + 1,_,vd,gh,by go_num,rfl,HSX6.out,(HD6.out.next (HDK.out.next HF.out HQ.out)).mark (fun F hF=>by have:=HDSW.out F hF; omega) (by omega) HK.out HND.out⟩,rfl⟩
    ·obtain rfl:i = ln:=by have:=HLN.out; omega
     clear hd2 hsx2
     go_wp2_with fail
     have e0:W.cell? ⟨W1.heap.size,0,none⟩ = some (.slice Av i cv):=HD2.out.bd.1.cell (i:=0) rfl
     refine leaves_marks (B:=w.heap.size) Ds W HD2.out.mks (fun W' h1 h2 h3 h4 h5 h6=>⟨.slice Av i cv,by simp [results,Tryd.results41,go_sem],?_⟩)
     obtain ⟨s1,s2⟩:=Sx.left HS.out HD2.out.m HSX2.out HD2.out.go h1 h2 h3 h4 h5 h6
     exact ⟨T,Av,i,cv,g3,rfl,HLN.out,by rw [HLN.out]; exact HD2.out.dk,HD2.out.m,HD2.out.nw,s1,s2,HD2.out.row.left h2,HD2.out.ok⟩
end FloodW
end Go.Proofs.YtpimkdaikoclnaaDoor
