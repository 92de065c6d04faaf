import Derived.Deep.LoopGhost
import Derived.BigQuiet
import Derived.Deep.Cut
import Derived.Deep.CutRange
import Derived.Test.YtpimkdaikoclnaaDoorFlB7
namespace Go.Proofs.YtpimkdaikoclnaaDoor
open Go.RowKit Go.Shelf
set_option linter.unusedVariables false
set_option linter.unusedSimpArgs false
attribute [local go_sem] Oper.semAt_some
namespace FloodW
open BlkP RowG GlowW FloodP
def BriP (w:World) (g:Gh) (b:Bool) (G:Set0) (e:Ending) (w':World):Prop:=∃ ls g',e = .returned (.tuple #[])∧MoreB b g g'∧Sp G 1 (g'.nw b) ls∧Sx w' g'∧Go g w g' w'
theorem add8F {k le:Nat} (h:k + 1 = le) (h2:le < 256):∀ w,(binOp .add 5 (.int .u8 k) (.int .u8 1)).run Tryd.prog w = .ok (.int .u8 le) w:=fun w=>by
 have e:IntKind.u8.wrap ((k:Int) + 1) = le:=by rw [IntKind.wrap_u8]; omega
 have a:=e
 go_simp
set_option maxRecDepth 100000 in
set_option maxHeartbeats 16000000 in
theorem brighten_c {w:World} {g0 g:Gh} {b:Bool} {fo:Nat} {G:Set0} {T:List V} (hp:Part b fo) (h:Sx w g) (hf:Fit G) (hrel:PRel b g0 G) (hm0:MoreB b g0 g) (hirr:∀ q,q ∉ G.side q) (hdk:Dk G T T.length) (hnw:∀ q,g.nw b q = cut G T q) (hok:∀ q ∈ T,okP g q) {A:Option Addr} {n c:Nat} (hR:LocR w g (.slice A n c) T) (hn:T.length = n) :
  Calls Tryd.prog 40 #[.pointer (some ⟨g.wk,0,none⟩),.slice A n c,.func (.func fo) #[] #[]] w (BriP w g b G):=by
 have hn2:n≤1024:=by
  have:=hdk.len hf
  have:=hrel.few
  omega
 have HPA:=Lib.hid hp
 have HPE:=Lib.hid hp.ent
 have HS:=Lib.hid h
 have HF:=Lib.hid hf
 have HREL:=Lib.hid hrel
 have HM0:=Lib.hid hm0
 have HIRR:=Lib.hid hirr
 have HDK:=Lib.hid hdk
 have HNWG:=Lib.hid hnw
 have HOKT:=Lib.hid hok
 have HR:=Lib.hid hR
 have HN:=Lib.hid hn
 have hwl:=h.st.work.lt
 obtain ⟨Av,cv,hvd,_,_,hAv⟩:=hR.1.form hn
 cases hvd
 have HAV:=Lib.hid hAv
 clear hp h hf hrel hR hn hm0 hirr hdk hnw hok hAv
 refine (callsIn_wide (n:=8)).1 ?_
 refine callsIn_of_wp_marks Tryd.func40 rfl trivial ?_ rfl
 refine wpIn_wide.2 ?_
 simp only [Tryd.ntmps40,List.size_toArray,List.length_cons,List.length_nil,Nat.reduceAdd,Nat.reduceSub,Array.replicate_succ,Array.replicate_zero,List.push_toArray,List.append_toArray,List.nil_append,List.cons_append]
 go_wp2_with fail
 refine wp_loop_ghost_k (fun k a W=>∃ y8:Value,∃ y9:Value,∃ y10:Value,∃ y12:Value,∃ y23:Value,∃ y24:Value,∃ y25:Value,∃ y26:Value,∃ y27:Value,∃ y28:Value,∃ y29:Value,∃ y30:Value,∃ y31:Value,∃ y32:Value,∃ y33:Value,∃ y34:Value,∃ y35:Value,∃ y36:Value,∃ y37:Value,∃ y38:Value,∃ y39:Value,∃ y40:Value,∃ y41:Value,∃ y42:Value,∃ y62:Value,∃ y63:Value,∃ y64:Value,∃ y65:Value,∃ y66:Value,∃ y67:Value,∃ y68:Value,∃ y69:Value,∃ y70:Value,∃ y71:Value,∃ y72:Value,∃ y73:Value,∃ y74:Value,∃ Ds:List Nat,(∃ i vs ls gh,y23 = .int .i64 (i:Nat)∧k = 1025 - i∧i≤n∧Sx W gh∧Br G T i (gh.nw b) ls∧BM w g b fo w.heap.size (w.heap.size + 1) vs ls Ds gh W)∧a = { tmps:=#[.pointer (some ⟨g.wk,0,none⟩),.slice A n c,.func (.func fo) #[] #[],undef,undef,.pointer (some ⟨w.heap.size,0,none⟩),.pointer (some ⟨w.heap.size + 1,0,none⟩),undef,y8,y9,y10,undef,y12,undef,undef,undef,undef,undef,undef,undef,undef,.slice A n c,.int .i64 n,y23,y24,y25,y26,y27,y28,y29,y30,y31,y32,y33,y34,y35,y36,y37,y38,y39,y40,y41,y42,undef,undef,undef,undef,undef,undef,undef,undef,undef,undef,undef,undef,undef,undef,undef,undef,undef,undef,undef,y62,y63,y64,y65,y66,y67,y68,y69,y70,y71,y72,y73,y74,undef,undef,undef,undef,undef,undef,undef,undef,undef,undef,undef,undef,undef,undef,undef,undef,undef,undef,undef,undef,undef,undef,undef,undef,undef,undef,undef,undef,undef,undef,undef,undef,undef,undef,undef,undef,undef,undef,undef,undef,undef,undef,undef,undef,undef,undef,undef],defers:=Ds.map GlowW.mark }) 1025 ?_ ?_
 ·refine ⟨_,_,_,_,_,_,_,_,_,_,_,_,_,_,_,_,_,_,_,_,_,_,_,_,_,_,_,_,_,_,_,_,_,_,_,_,_,[],⟨0,List.replicate 16 (.slice none 0 0),(fun _=>[]),g,rfl,rfl,Nat.zero_le _,HS.out.below (by (repeat' (first | (with_reducible exact Below.refl _ _) | (with_reducible refine Below.setCell ?_ (by (first | omega | (simp; done) | (simp; omega))) _) | (with_reducible refine Below.alloc ?_ (by (first | omega | (simp; done) | (simp; omega))) _) | (with_reducible refine Below.drew ?_) | (with_reducible refine below_drewN ?_ _)))),?_,(More.refl g).toB,Go.below g (by (repeat' (first | (with_reducible exact Below.refl _ _) | (with_reducible refine Below.setCell ?_ (by (first | omega | (simp; done) | (simp; omega))) _) | (with_reducible refine Below.alloc ?_ (by (first | omega | (simp; done) | (simp; omega))) _) | (with_reducible refine Below.drew ?_) | (with_reducible refine below_drewN ?_ _)))),⟨by (repeat' (first | (with_reducible refine BlkP.Blk.drew ?_) | (with_reducible refine BlkP.Blk.drewN ?_ _) | (with_reducible refine BlkP.Blk.setAt (us:=?_) (by first | omega | (simp; done) | (simp; omega)) rfl ?_ ?_) | (with_reducible refine BlkP.Blk.otherAt ?_ (by first | omega | (simp; done) | (simp; omega))) | (with_reducible refine BlkP.Blk.newA' (by first | omega | (simp; done) | (simp; omega)) rfl) | (with_reducible refine BlkP.Blk.alloc ?_ _) | (exact rfl))),HS.out.st.new (Nat.le_refl _)⟩,⟨⟨by (repeat' (first | (with_reducible refine BlkP.Blk.drew ?_) | (with_reducible refine BlkP.Blk.drewN ?_ _) | (with_reducible refine BlkP.Blk.setAt (us:=?_) (by first | omega | (simp; done) | (simp; omega)) rfl ?_ ?_) | (with_reducible refine BlkP.Blk.otherAt ?_ (by first | omega | (simp; done) | (simp; omega))) | (with_reducible refine BlkP.Blk.newA' (by first | omega | (simp; done) | (simp; omega)) rfl) | (with_reducible refine BlkP.Blk.alloc ?_ _) | (exact rfl))),HS.out.st.new (by omega)⟩,rfl,fun k v hv=>?_,fun k v hv x hx=>?_,fun j k v u _ hv _ x hx=>?_⟩,Marks.nil _ _,fun D hD=>(by cases hD)⟩,rfl⟩
  ·rw [show g.nw b = cut G T from funext HNWG.out]
   exact Br.start HF.out HDK.out
  ·obtain rfl:=(List.mem_replicate.1 (List.mem_of_getElem? hv)).2
   exact ⟨Own.nil _ _ _ _,fun x hx=>by cases hx⟩
  ·obtain rfl:=(List.mem_replicate.1 (List.mem_of_getElem? hv)).2
   cases hx
  ·obtain rfl:=(List.mem_replicate.1 (List.mem_of_getElem? hv)).2
   cases hx
 ·intro k a W hI
  obtain ⟨y8,y9,y10,y12,y23,y24,y25,y26,y27,y28,y29,y30,y31,y32,y33,y34,y35,y36,y37,y38,y39,y40,y41,y42,y62,y63,y64,y65,y66,y67,y68,y69,y70,y71,y72,y73,y74,Ds,⟨i,vs,ls,gh,rfl,rfl,hi,hsx,hbr,hbm⟩,rfl⟩:=hI
  intro J K hJ hK
  have HSX:=Lib.hid hsx
  have HBR:=Lib.hid hbr
  have HBM:=Lib.hid hbm
  have HJ:=Lib.hid hJ
  have HT:=Lib.hid (HR.out.go hbm.go)
  clear hsx hbr hbm hJ
  by_cases hin:i < n
  ·have hinI:(i:Int) < n:=by omega
   obtain ⟨gr,rfl,_,_⟩:=HAV.out (by omega)
   obtain ⟨q,hq⟩:∃ q,T[i]? = some q:=⟨_,List.getElem?_eq_getElem (by have:=HN.out; omega)⟩
   have HQ:=Lib.hid hq
   have HQT:=Lib.hid (List.mem_of_getElem? hq)
   have HOK:=Lib.hid (HBM.out.m.ok (HOKT.out q (List.mem_of_getElem? hq)))
   obtain ⟨qx,qy,qz⟩:=q
   have r0:W.cell? ⟨gr,i * 3,none⟩ = some (.int .i64 qx):=HT.out.1.cell (j:=0) hq rfl
   have r1:W.cell? ⟨gr,i * 3 + 1,none⟩ = some (.int .i64 qy):=HT.out.1.cell (j:=1) hq rfl
   have r2:W.cell? ⟨gr,i * 3 + 2,none⟩ = some (.int .i64 qz):=HT.out.1.cell (j:=2) hq rfl
   clear hq
   go_wp2_with fail
   go_at_call 37
   refine calls_named (S:=fun W2=>Below W.heap.size W W2∧Blk W2 W.heap.size TP [.int .i64 qx,.int .i64 qy,.int .i64 qz]∧W.heap.size < W2.heap.size) ⟨by (repeat' (first | (with_reducible exact Below.refl _ _) | (with_reducible refine Below.setCell ?_ (by (first | omega | (simp; done) | (simp; omega))) _) | (with_reducible refine Below.alloc ?_ (by (first | omega | (simp; done) | (simp; omega))) _) | (with_reducible refine Below.drew ?_) | (with_reducible refine below_drewN ?_ _))),by (repeat' (first | (with_reducible refine BlkP.Blk.drew ?_) | (with_reducible refine BlkP.Blk.drewN ?_ _) | (with_reducible refine BlkP.Blk.setAt (us:=?_) (by first | omega | (simp; done) | (simp; omega)) rfl ?_ ?_) | (with_reducible refine BlkP.Blk.otherAt ?_ (by first | omega | (simp; done) | (simp; omega))) | (with_reducible refine BlkP.Blk.newA' (by first | omega | (simp; done) | (simp; omega)) rfl) | (with_reducible refine BlkP.Blk.alloc ?_ _) | (exact rfl))),by simp⟩ ?_
   clear r0 r1 r2
   rintro W2 ⟨hb2,hq2,hz2⟩
   have hkn:=know_m (q:=(qx,qy,qz)) (HSX.out.below hb2) HOK.out
   rw [HBM.out.m.same.1] at hkn
   refine hkn.mono ?_
   clear hkn
   rintro e W3 ⟨kb,g4,rfl,hmem,hm4,hsx4,hgo4⟩
   have HBM4:=Lib.hid ((HBM.out.below hb2).step hgo4 hm4)
   have HSX4:=Lib.hid hsx4
   have HQB4:=Lib.hid (Loc.go (g:=gh) ⟨hq2,HSX.out.st.new (Nat.le_refl _)⟩ hgo4)
   have HME:=Lib.hid hmem
   have HKB:=Lib.hid (hsx4.st.known _ _ hmem)
   have HNW4:=Lib.hid (show g4.nw b = gh.nw b from congrFun hm4.same.2.2.2.2.1 b)
   have HQN:=Lib.hid (show ∀ (k:Nat) (v:Value),vs[k]? = some v→∀ x,v.ownBlock = some x→x ≠ W.heap.size from fun k v hk x hx=>by have:=((HBM.out.kp.own k v hk).1.ge x hx).2; omega)
   have HSZ:=Lib.hid (show w.heap.size≤W.heap.size from HBM.out.go.fr.size)
   have hcl:W3.cell? ⟨kb,0,none⟩ = some (.bool (G.cn (qx,qy,qz))):=by
    have:=k_clear (hsx4.st.known _ _ hmem)
    rwa [HBM4.out.m.clr,HM0.out.clr,HREL.out.cn] at this
   clear hb2 hq2 hz2 hsx4 hgo4 hm4 hmem HBM HSX
   cases hcn:G.cn (qx,qy,qz) with
   | false =>
    rw [hcn] at hcl
    go_wp2_with fail
    refine Handed.intro (1025 - (i + 1)) (by omega) (HJ.out _ _ _ ?_)
    refine ⟨_,_,_,_,_,_,_,_,_,_,_,_,_,_,_,_,_,_,_,_,_,_,_,_,_,_,_,_,_,_,_,_,_,_,_,_,_,Ds,⟨i + 1,vs,ls,g4,by go_num,rfl,by omega,HSX4.out.below (by (repeat' (first | (with_reducible exact Below.refl _ _) | (with_reducible refine Below.setCell ?_ (by (first | omega | (simp; done) | (simp; omega))) _) | (with_reducible refine Below.alloc ?_ (by (first | omega | (simp; done) | (simp; omega))) _) | (with_reducible refine Below.drew ?_) | (with_reducible refine below_drewN ?_ _)))),by rw [HNW4.out]; exact HBR.out.skip HQ.out hcn,HBM4.out.below (by (repeat' (first | (with_reducible exact Below.refl _ _) | (with_reducible refine Below.setCell ?_ (by (first | omega | (simp; done) | (simp; omega))) _) | (with_reducible refine Below.alloc ?_ (by (first | omega | (simp; done) | (simp; omega))) _) | (with_reducible refine Below.drew ?_) | (with_reducible refine below_drewN ?_ _))))⟩,rfl⟩
   | true =>
    rw [hcn] at hcl
    have HCN:=Lib.hid hcn
    clear hcn
    go_wp2_with fail
    go_cut [10] from 35 to 39 (fun s10 W7=>∃ nb,s10 = .pointer (some ⟨nb,0,none⟩)∧Sx W7 g4∧BM w g b fo w.heap.size (w.heap.size + 1) vs ls Ds g4 W7∧Loc W7 g4 W.heap.size TP [.int .i64 qx,.int .i64 qy,.int .i64 qz]∧Loc W7 g4 nb 83 [.pointer (some ⟨kb,5 + b.toNat,none⟩)]∧w.heap.size≤nb)
    case first =>
     refine wp_region_noPanic ?_
     refine wp_region_held_drew (S:=fun Xw=>Blk Xw w.heap.size TPart [.func (.func fo) #[] #[]]) (by kernel_rfl) (HBM4.out.bf.1) (fun hHeld=>?_)
     refine wpAnyH_take (i:=0) (oi:=⟨some 35,_,_,_,_,_⟩) (v:=.func (.func fo) #[] #[]) rfl (by kernel_rfl) (by kernel_rfl) (by kernel_rfl) (fun _ _ _ h=>h) (Or.inl ⟨by rfl,fun Xw hSW=>by have a:=hSW.cell (i:=0) rfl; go_simp⟩) hHeld ?_
     simp only [Act.put,List.setIfInBounds_toArray,List.set_cons_zero,List.set_cons_succ]
     refine wpAnyH_take (i:=1) (oi:=⟨some 36,_,_,_,_,_⟩) (v:=.pointer (some ⟨kb,0,none⟩)) rfl (by kernel_rfl) (by kernel_rfl) (by kernel_rfl) (fun _ _ _ h=>h) (Or.inl ⟨by rfl,fun Xw hSW=>by go_simp⟩) hHeld ?_
     simp only [Act.put,List.setIfInBounds_toArray,List.set_cons_zero,List.set_cons_succ]
     refine wpAnyH_take (i:=2) (oi:=⟨some 37,_,_,_,_,_⟩) (v:=.pointer (some ⟨kb,0,none⟩)) rfl (by kernel_rfl) (by kernel_rfl) (by kernel_rfl) (fun _ _ _ h=>h) (Or.inl ⟨by rfl,fun Xw hSW=>by go_simp⟩) hHeld ?_
     simp only [Act.put,List.setIfInBounds_toArray,List.set_cons_zero,List.set_cons_succ]
     refine wpAnyH_take (i:=3) (oi:=⟨some 38,_,_,_,_,_⟩) (v:=.pointer (some ⟨kb,5,none⟩)) rfl (by kernel_rfl) (by kernel_rfl) (by kernel_rfl) (fun _ _ _ h=>h) (Or.inl ⟨by rfl,fun Xw hSW=>by go_simp⟩) hHeld ?_
     simp only [Act.put,List.setIfInBounds_toArray,List.set_cons_zero,List.set_cons_succ]
     refine wpAnyH_ready (rs:=[4,5]) (by kernel_rfl) (by simp) ?_
     refine AllReadyH.cons (o:=⟨some 39,_,_,_,_,_⟩) rfl (fun K hK=>?_) (AllReadyH.cons (o:=⟨some 10,_,_,_,_,_⟩) rfl (fun K hK=>?_) AllReadyH.nil)
     ·have ent:=HPE.out
      go_simp
      refine (HPA.out.run kb 5 _).mono ?_
      rintro e w' ⟨rfl,rfl⟩
      try go_wp2_with fail
      refine hK.out _ _ (hHeld) (fun hHeld=>?_)
      clear hK K
      refine wpAnyH_ready (rs:=[5]) (by kernel_rfl) (by simp) ?_
      refine AllReadyH.cons (o:=⟨some 10,_,_,_,_,_⟩) rfl (fun K hK=>?_) AllReadyH.nil
      go_simp
      refine hK.out _ _ (by (have q:=HBM4.out.bf.1; (repeat' (first | (with_reducible exact q) | (with_reducible refine BlkP.Blk.drew ?_) | (with_reducible refine BlkP.Blk.drewN ?_ _) | (with_reducible refine BlkP.Blk.setAt (us:=?_) (by first | omega | (simp; done) | (simp; omega)) rfl ?_ ?_) | (with_reducible refine BlkP.Blk.otherAt ?_ (by first | omega | (simp; done) | (simp; omega))) | (with_reducible refine BlkP.Blk.newA' (by first | omega | (simp; done) | (simp; omega)) rfl) | (with_reducible refine BlkP.Blk.alloc ?_ _) | (exact rfl))))) (fun hHeld=>?_)
      clear hK K
      refine wpAnyH_ready (rs:=[6]) (by kernel_rfl) (by simp) ?_
      refine AllReadyH.cons (o:=⟨none,_,_,_,_,_⟩) rfl (fun K hK=>?_) AllReadyH.nil
      go_simp
      refine hK.out _ _ (by (have q:=HBM4.out.bf.1; (repeat' (first | (with_reducible exact q) | (with_reducible refine BlkP.Blk.drew ?_) | (with_reducible refine BlkP.Blk.drewN ?_ _) | (with_reducible refine BlkP.Blk.setAt (us:=?_) (by first | omega | (simp; done) | (simp; omega)) rfl ?_ ?_) | (with_reducible refine BlkP.Blk.otherAt ?_ (by first | omega | (simp; done) | (simp; omega))) | (with_reducible refine BlkP.Blk.newA' (by first | omega | (simp; done) | (simp; omega)) rfl) | (with_reducible refine BlkP.Blk.alloc ?_ _) | (exact rfl))))) (fun hHeld=>?_)
      clear hK K
      refine wpAnyH_done (by kernel_rfl) ?_ _
      refine NoPanic.normal ?_
      go_wp2_with fail
      go_meet
      case rel =>
       exact ⟨W3.heap.size,rfl,HSX4.out.below (by (repeat' (first | (with_reducible exact Below.refl _ _) | (with_reducible refine Below.setCell ?_ (by (first | omega | (simp; done) | (simp; omega))) _) | (with_reducible refine Below.alloc ?_ (by (first | omega | (simp; done) | (simp; omega))) _) | (with_reducible refine Below.drew ?_) | (with_reducible refine below_drewN ?_ _)))),HBM4.out.below (by (repeat' (first | (with_reducible exact Below.refl _ _) | (with_reducible refine Below.setCell ?_ (by (first | omega | (simp; done) | (simp; omega))) _) | (with_reducible refine Below.alloc ?_ (by (first | omega | (simp; done) | (simp; omega))) _) | (with_reducible refine Below.drew ?_) | (with_reducible refine below_drewN ?_ _)))),HQB4.out.below (by (repeat' (first | (with_reducible exact Below.refl _ _) | (with_reducible refine Below.setCell ?_ (by (first | omega | (simp; done) | (simp; omega))) _) | (with_reducible refine Below.alloc ?_ (by (first | omega | (simp; done) | (simp; omega))) _) | (with_reducible refine Below.drew ?_) | (with_reducible refine below_drewN ?_ _)))),⟨by (repeat' (first | (with_reducible refine BlkP.Blk.drew ?_) | (with_reducible refine BlkP.Blk.drewN ?_ _) | (with_reducible refine BlkP.Blk.setAt (us:=?_) (by first | omega | (simp; done) | (simp; omega)) rfl ?_ ?_) | (with_reducible refine BlkP.Blk.otherAt ?_ (by first | omega | (simp; done) | (simp; omega))) | (with_reducible refine BlkP.Blk.newA' (by first | omega | (simp; done) | (simp; omega)) rfl) | (with_reducible refine BlkP.Blk.alloc ?_ _) | (exact rfl))),HSX4.out.st.new (Nat.le_refl _)⟩,HBM4.out.go.fr.size⟩
     ·go_simp
      refine hK.out _ _ (by (have q:=HBM4.out.bf.1; (repeat' (first | (with_reducible exact q) | (with_reducible refine BlkP.Blk.drew ?_) | (with_reducible refine BlkP.Blk.drewN ?_ _) | (with_reducible refine BlkP.Blk.setAt (us:=?_) (by first | omega | (simp; done) | (simp; omega)) rfl ?_ ?_) | (with_reducible refine BlkP.Blk.otherAt ?_ (by first | omega | (simp; done) | (simp; omega))) | (with_reducible refine BlkP.Blk.newA' (by first | omega | (simp; done) | (simp; omega)) rfl) | (with_reducible refine BlkP.Blk.alloc ?_ _) | (exact rfl))))) (fun hHeld=>?_)
      clear hK K
      refine wpAnyH_ready (rs:=[4]) (by kernel_rfl) (by simp) ?_
      refine AllReadyH.cons (o:=⟨some 39,_,_,_,_,_⟩) rfl (fun K hK=>?_) AllReadyH.nil
      have ent:=HPE.out
      go_simp
      refine (HPA.out.run kb 5 _).mono ?_
      rintro e w' ⟨rfl,rfl⟩
      try go_wp2_with fail
      refine hK.out _ _ (hHeld) (fun hHeld=>?_)
      clear hK K
      refine wpAnyH_ready (rs:=[6]) (by kernel_rfl) (by simp) ?_
      refine AllReadyH.cons (o:=⟨none,_,_,_,_,_⟩) rfl (fun K hK=>?_) AllReadyH.nil
      go_simp
      refine hK.out _ _ (by (have q:=HBM4.out.bf.1; (repeat' (first | (with_reducible exact q) | (with_reducible refine BlkP.Blk.drew ?_) | (with_reducible refine BlkP.Blk.drewN ?_ _) | (with_reducible refine BlkP.Blk.setAt (us:=?_) (by first | omega | (simp; done) | (simp; omega)) rfl ?_ ?_) | (with_reducible refine BlkP.Blk.otherAt ?_ (by first | omega | (simp; done) | (simp; omega))) | (with_reducible refine BlkP.Blk.newA' (by first | omega | (simp; done) | (simp; omega)) rfl) | (with_reducible refine BlkP.Blk.alloc ?_ _) | (exact rfl))))) (fun hHeld=>?_)
      clear hK K
      refine wpAnyH_done (by kernel_rfl) ?_ _
      refine NoPanic.normal ?_
      go_wp2_with fail
      go_meet
      case rel =>
       exact ⟨W3.heap.size,rfl,HSX4.out.below (by (repeat' (first | (with_reducible exact Below.refl _ _) | (with_reducible refine Below.setCell ?_ (by (first | omega | (simp; done) | (simp; omega))) _) | (with_reducible refine Below.alloc ?_ (by (first | omega | (simp; done) | (simp; omega))) _) | (with_reducible refine Below.drew ?_) | (with_reducible refine below_drewN ?_ _)))),HBM4.out.below (by (repeat' (first | (with_reducible exact Below.refl _ _) | (with_reducible refine Below.setCell ?_ (by (first | omega | (simp; done) | (simp; omega))) _) | (with_reducible refine Below.alloc ?_ (by (first | omega | (simp; done) | (simp; omega))) _) | (with_reducible refine Below.drew ?_) | (with_reducible refine below_drewN ?_ _)))),HQB4.out.below (by (repeat' (first | (with_reducible exact Below.refl _ _) | (with_reducible refine Below.setCell ?_ (by (first | omega | (simp; done) | (simp; omega))) _) | (with_reducible refine Below.alloc ?_ (by (first | omega | (simp; done) | (simp; omega))) _) | (with_reducible refine Below.drew ?_) | (with_reducible refine below_drewN ?_ _)))),⟨by (repeat' (first | (with_reducible refine BlkP.Blk.drew ?_) | (with_reducible refine BlkP.Blk.drewN ?_ _) | (with_reducible refine BlkP.Blk.setAt (us:=?_) (by first | omega | (simp; done) | (simp; omega)) rfl ?_ ?_) | (with_reducible refine BlkP.Blk.otherAt ?_ (by first | omega | (simp; done) | (simp; omega))) | (with_reducible refine BlkP.Blk.newA' (by first | omega | (simp; done) | (simp; omega)) rfl) | (with_reducible refine BlkP.Blk.alloc ?_ _) | (exact rfl))),HSX4.out.st.new (Nat.le_refl _)⟩,HBM4.out.go.fr.size⟩
    case rest =>
     obtain ⟨nb,rfl,hsx7,hbm7,hqb7,hnb7,hnbl⟩:=hcut
     obtain ⟨qb0,hqb0⟩:∃ x,W.heap.size = x:=⟨_,rfl⟩
     rw [hqb0] at hqb7
     have e0:wc.cell? ⟨qb0,0,none⟩ = some (.int .i64 qx):=hqb7.1.cell (i:=0) rfl
     have e1:wc.cell? ⟨qb0,1,none⟩ = some (.int .i64 qy):=hqb7.1.cell (i:=1) rfl
     have e2:wc.cell? ⟨qb0,2,none⟩ = some (.int .i64 qz):=hqb7.1.cell (i:=2) rfl
     have HBM7:=Lib.hid hbm7
     have HSX7:=Lib.hid hsx7
     have HQB7:=Lib.hid hqb7
     have HNB7:=Lib.hid hnb7
     have HQE:=Lib.hid (HDK.out.inE HF.out _ HQT.out)
     have HNEAR:=Lib.hid (show ∀ s,s ∈ sidesV (qx,qy,qz)→okP g4 s∧dG g4 s≤15 from fun s hs=>by
      have h1:G.d s≤15:=HDK.out.near HF.out HQT.out ((HDK.out.less _ HQT.out).elim .inr (fun h=>.inl (by omega))) (by rw [← HREL.out.side]; exact hs)
      have hd:dG g4 s = G.d s:=by rw [hbm7.m.dG,HM0.out.dG,HREL.out.d]
      rw [hd]
      exact ⟨hbm7.m.ok (HM0.out.ok ((HREL.out.okE _ HQE.out).2 s hs (by rw [HREL.out.d]; exact h1))),h1⟩)
     clear hbm7 hsx7 hqb7 hnb7 HBM4 HSX4 HQB4 HKB
     go_wp2_with fail
     go_at_call 53
     refine fsides_c.mono ?_
     rintro e W5 ⟨E,rfl,hE,hbox,hwb,hb5⟩
     have HBM5:=Lib.hid (HBM7.out.below hb5)
     have HSX5:=Lib.hid (HSX7.out.below hb5)
     have HQB5:=Lib.hid (HQB7.out.below hb5)
     have HNB5:=Lib.hid (HNB7.out.below hb5)
     have hz5:=hb5.size
     have HBA:=Lib.hid (show Base g.wk E wc.heap.size (qx,qy,qz) g4 W5 from ⟨HBM7.out.m.same.1,HNEAR.out,⟨hbox,HSX7.out.st.new (by rw [hE]; simp)⟩,⟨hwb,HSX7.out.st.new (Nat.le_refl _)⟩⟩)
     have HB5S:=Lib.hid (show w.heap.size≤W5.heap.size from HBM5.out.go.fr.size)
     have HDSW:=Lib.hid (show ∀ D ∈ Ds,D < W5.heap.size from fun D hD=>(HBM5.out.mks.at_ D hD).2.1)
     clear hE hbox hwb hb5 e0 e1 e2 HBM7 HSX7 HQB7 HNB7
     go_wp2_with fail
     refine (wpIn_wide (n:=8)).1 ?_
     refine wpIn_sidesS 12 (by omega) (wk:=g.wk) (E:=E) (wb:=wc.heap.size) (q:=(qx,qy,qz)) ((HREL.out.okE _ HQE.out).1) rfl
      (fun pre gh W=>BM w g b fo w.heap.size (w.heap.size + 1) vs ls Ds gh W∧gh.nw b = up (g4.nw b) (qx,qy,qz) (bFold (g4.nw b) (qx,qy,qz) (pre.map (·.1)))∧Loc W gh qb0 TP [.int .i64 qx,.int .i64 qy,.int .i64 qz]∧Loc W gh nb 83 [.pointer (some ⟨kb,5 + b.toNat,none⟩)]∧((qx,qy,qz),kb) ∈ gh.kn) ?stab ?puts g4 HSX5.out HBA.out ⟨HBM5.out,(up_self (g4.nw b) (qx,qy,qz)).symm,HQB5.out,HNB5.out,HME.out⟩
      ?assign ?body ?done
     case stab =>
      rintro pre gh W vA ak kn W' ⟨h1,h2,h3,h4,h5⟩ _ hgo hk
      exact ⟨h1.step hgo ⟨⟨_,_,_,rfl⟩,hk⟩,h2,h3.go hgo,h4.go hgo,hk _ h5⟩
     case puts =>
      rintro pre gh W l o o' ⟨h1,h2,h3,h4,h5⟩ hl ho hc hn
      exact ⟨h1.put ho hc (by have:=HB5S.out; omega) (fun D hD=>by have:=HDSW.out D hD; omega) o',h2,h3.put ho hc o',h4.put ho hc o',h5⟩
     case assign =>
      rintro l ⟨⟨sx,sy,sz⟩,kb2⟩ W K hK
      simp only [actS,roundT,List.setIfInBounds_toArray,List.set_cons_zero,List.set_cons_succ] at hK ⊢
      gi_wp2
      exact hK
     case body =>
      rintro l pre ⟨⟨sx,sy,sz⟩,kb2⟩ gh6 W6 hsx hbase ⟨hbm,hnw,hqb6,hnb6,hmq⟩ hmem hside
      have hne:(sx,sy,sz) ≠ (qx,qy,qz):=fun e=>HIRR.out (qx,qy,qz) (by rw [← HREL.out.side,← e]; rw [← e] at hside; exact hside)
      obtain ⟨v,hv⟩:∃ v,bFold (g4.nw b) (qx,qy,qz) (pre.map (·.1)) = v:=⟨_,rfl⟩
      obtain ⟨lv,hlv⟩:∃ lv,g4.nw b (sx,sy,sz) = lv:=⟨_,rfl⟩
      rw [hv] at hnw
      have hs1:gh6.nw b (sx,sy,sz) = lv:=by rw [hnw,up_other hne,hlv]
      have hq1:gh6.nw b (qx,qy,qz) = v:=by rw [hnw,up_same]
      have HBM6:=Lib.hid hbm
      have HSX6:=Lib.hid hsx
      have HBA6:=Lib.hid hbase
      have HQB6:=Lib.hid hqb6
      have HNB6:=Lib.hid hnb6
      have HMQ:=Lib.hid hmq
      have HNW6:=Lib.hid hnw
      have HVV:=Lib.hid hv
      have HLV:=Lib.hid hlv
      have HKS:=Lib.hid (hsx.st.known _ _ hmem)
      have HKQ:=Lib.hid (hsx.st.known _ _ hmq)
      have HCS:=Lib.hid (show W6.cell? ⟨kb2,5 + b.toNat,none⟩ = some (.int .u8 (lv:Int)) by
       have:=k_now b HKS.out
       rwa [hs1] at this)
      have HCQ:=Lib.hid (show W6.cell? ⟨kb,5 + b.toNat,none⟩ = some (.int .u8 (v:Int)) by
       have:=k_now b HKQ.out
       rwa [hq1] at this)
      have hl15:lv≤15:=by rw [← hs1]; exact (hsx.st.le b _).2
      have hv15:v≤15:=by rw [← hq1]; exact (hsx.st.le b _).2
      obtain ⟨v1,hv1⟩:∃ v1,v + 1 = v1:=⟨_,rfl⟩
      have ha8:=add8F hv1 (by omega)
      have hwa:IntKind.u8.wrap ((v:Int) + 1) = (v1:Int):=by rw [IntKind.wrap_u8]; omega
      have HV1:=Lib.hid hv1
      clear hbm hsx hbase hqb6 hnb6 hmq hnw hv hlv hs1 hq1 hmem hside hne hv1
      simp only [actS,roundT,List.setIfInBounds_toArray,List.set_cons_zero,List.set_cons_succ]
      gi_wp2
      refine RoundR.region (S:=fun Xw=>Blk Xw w.heap.size TPart [.func (.func fo) #[] #[]]∧Xw.cell? ⟨kb2,5 + b.toNat,none⟩ = some (.int .u8 lv)) (by kernel_rfl) (by kernel_rfl) (⟨HBM6.out.bf.1,HCS.out⟩) (fun hHeld=>?_)
      refine wpAnyH_take (i:=0) (oi:=⟨some 45,_,_,_,_,_⟩) (v:=.func (.func fo) #[] #[]) rfl (by kernel_rfl) (by kernel_rfl) (by kernel_rfl) (fun _ _ _ h=>h) (Or.inl ⟨by rfl,fun Xw hSW=>by have a:=hSW.1.cell (i:=0) rfl; go_simp⟩) hHeld ?_
      simp only [Act.put,List.setIfInBounds_toArray,List.set_cons_zero,List.set_cons_succ]
      refine wpAnyH_take (i:=1) (oi:=⟨some 46,_,_,_,_,_⟩) (v:=.pointer (some ⟨kb2,0,none⟩)) rfl (by kernel_rfl) (by kernel_rfl) (by kernel_rfl) (fun _ _ _ h=>h) (Or.inl ⟨by rfl,fun Xw hSW=>by go_simp⟩) hHeld ?_
      simp only [Act.put,List.setIfInBounds_toArray,List.set_cons_zero,List.set_cons_succ]
      refine wpAnyH_take (i:=2) (oi:=⟨some 47,_,_,_,_,_⟩) (v:=.pointer (some ⟨kb2,0,none⟩)) rfl (by kernel_rfl) (by kernel_rfl) (by kernel_rfl) (fun _ _ _ h=>h) (Or.inl ⟨by rfl,fun Xw hSW=>by go_simp⟩) hHeld ?_
      simp only [Act.put,List.setIfInBounds_toArray,List.set_cons_zero,List.set_cons_succ]
      refine wpAnyH_take (i:=3) (oi:=⟨some 48,_,_,_,_,_⟩) (v:=.pointer (some ⟨kb2,5,none⟩)) rfl (by kernel_rfl) (by kernel_rfl) (by kernel_rfl) (fun _ _ _ h=>h) (Or.inl ⟨by rfl,fun Xw hSW=>by go_simp⟩) hHeld ?_
      simp only [Act.put,List.setIfInBounds_toArray,List.set_cons_zero,List.set_cons_succ]
      refine wpAnyH_ready (rs:=[4]) (by kernel_rfl) (by simp) ?_
      refine AllReadyH.cons (o:=⟨some 49,_,_,_,_,_⟩) rfl (fun K hK=>?_) AllReadyH.nil
      have ent:=HPE.out
      go_simp
      refine (HPA.out.run kb2 5 _).mono ?_
      rintro e w' ⟨rfl,rfl⟩
      try go_wp2_with fail
      refine hK.out _ _ (hHeld) (fun hHeld=>?_)
      clear hK K
      refine wpAnyH_take (i:=5) (oi:=⟨some 50,_,_,_,_,_⟩) (v:=.pointer (some ⟨kb2,5 + b.toNat,none⟩)) rfl (by kernel_rfl) (by kernel_rfl) (by kernel_rfl) (fun _ _ _ h=>h) (Or.inl ⟨by rfl,fun Xw hSW=>by go_simp⟩) hHeld ?_
      simp only [Act.put,List.setIfInBounds_toArray,List.set_cons_zero,List.set_cons_succ]
      refine wpAnyH_take (i:=6) (oi:=⟨some 51,_,_,_,_,_⟩) (v:=.int .u8 lv) rfl (by kernel_rfl) (by kernel_rfl) (by kernel_rfl) (fun _ _ _ h=>h) (Or.inl ⟨by rfl,fun Xw hSW=>by have a:=hSW.2; go_simp⟩) hHeld ?_
      simp only [Act.put,List.setIfInBounds_toArray,List.set_cons_zero,List.set_cons_succ]
      refine wpAnyH_take (i:=7) (oi:=⟨some 13,_,_,_,_,_⟩) (v:=.int .u8 lv) rfl (by kernel_rfl) (by kernel_rfl) (by kernel_rfl) (fun _ _ _ h=>h) (Or.inl ⟨by rfl,fun Xw hSW=>by go_simp⟩) hHeld ?_
      simp only [Act.put,List.setIfInBounds_toArray,List.set_cons_zero,List.set_cons_succ]
      refine wpAnyH_done (by kernel_rfl) ?_ _
      refine RoundR.Calm.normal ?_
      clear hHeld
      have p0:W6.cell? ⟨nb,0,none⟩ = some (.pointer (some ⟨kb,5 + b.toNat,none⟩)):=HNB6.out.1.cell (i:=0) rfl
      have n0:=HCQ.out
      by_cases hc1:v1 < lv
      ·have HYES:=Lib.hid (show bStep (g4.nw b) v (sx,sy,sz) = lv - 1 by unfold bStep; rw [HLV.out,if_pos (by have:=HV1.out; omega)])
       have hLt:(v1:Int) < (lv:Int):=by omega
       have z0:=HKQ.out.frozen (5 + b.toNat)
       obtain ⟨le,hle⟩:∃ le:Nat,(lv:Int) - 1 = le:=⟨lv - 1,by omega⟩
       have hs8:=sub8F hle (by omega)
       have hwr:IntKind.u8.wrap ((lv:Int) - 1) = (le:Int):=by rw [IntKind.wrap_u8]; omega
       have HLE:=Lib.hid (show lv - 1 = le∧le≤15 by omega)
       clear hle
       gi_wp2
       obtain ⟨s8,go8,bm8⟩:=HBM6.out.lit HSX6.out HMQ.out HLE.out.2
       have d8:=(Below.refl (W6.setCell ⟨kb,5 + b.toNat,none⟩ (.int .u8 le)).heap.size (W6.setCell ⟨kb,5 + b.toNat,none⟩ (.int .u8 le))).drew
       have go9:=go8.trans (Go.below _ d8)
       refine ⟨(KeepsOthers.setCell _ _ _).trans (KeepsOthers.drew _),gh6.setN b (qx,qy,qz) le,s8.below d8,⟨HBA6.out.wkE,HBA6.out.near,HBA6.out.box.go go9,HBA6.out.wbox.go go9⟩,⟨bm8.below d8,?_,HQB6.out.go go9,HNB6.out.go go9,HMQ.out⟩,fun k h _=>h⟩
       try rw [List.map_append,List.map_singleton]
       rw [bFold_app,HVV.out,HYES.out,setN_b,← HLE.out.1,HNW6.out]
       funext x
       unfold up
       split <;> rfl
      ·have HNO:=Lib.hid (show bStep (g4.nw b) v (sx,sy,sz) = v by unfold bStep; rw [HLV.out,if_neg (by have:=HV1.out; omega)])
       have hLt:¬ (v1:Int) < (lv:Int):=by omega
       have hLd:decide ((v1:Int) < (lv:Int)) = false:=decide_eq_false hLt
       gi_wp2
       have hb2:Below W6.heap.size W6 W6.drew:=(Below.refl _ _).drew
       exact ⟨KeepsOthers.drew W6,gh6,HSX6.out.below hb2,HBA6.out.below hb2,⟨HBM6.out.below hb2,by (try rw [List.map_append,List.map_singleton]); rw [bFold_app,HVV.out,HNO.out]; exact HNW6.out,HQB6.out.below hb2,HNB6.out.below hb2,HMQ.out⟩,fun k h _=>h⟩
     case done =>
      rintro D xs W' hD hxs ⟨gh6,hsx,hbase,⟨hbm,hnw,hqb6,hnb6,hmq⟩,hnD⟩ hk
      have ex:=hxs.trans (HREL.out.side _)
      rw [ex] at hnw
      obtain ⟨v,hv⟩:∃ v,bFold (g4.nw b) (qx,qy,qz) (G.side (qx,qy,qz)) = v:=⟨_,rfl⟩
      rw [hv] at hnw
      have hq1:gh6.nw b (qx,qy,qz) = v:=by rw [hnw,up_same]
      have HBM6:=Lib.hid (hbm.mark (fun F hF=>by have:=HDSW.out F hF; omega) (by have:=HB5S.out; omega) hk hnD)
      have HSX6:=Lib.hid hsx
      have HKQ:=Lib.hid (hsx.st.known _ _ hmq)
      have HCQ:=Lib.hid (show W'.cell? ⟨kb,5 + b.toNat,none⟩ = some (.int .u8 (v:Int)) by
       have:=k_now b HKQ.out
       rwa [hq1] at this)
      have hv15:v≤15:=by rw [← hq1]; exact (hsx.st.le b _).2
      have HBR7:=Lib.hid (show Br G T (i + 1) (gh6.nw b) (pushV ls v (qx,qy,qz)) by
       have h1:=HBR.out.next HF.out HIRR.out HDK.out.dup HQ.out HCN.out
       rw [← HNW4.out,hv] at h1
       rwa [show gh6.nw b = up (g4.nw b) (qx,qy,qz) v from hnw])
      obtain ⟨vv,hvv⟩:=hbm.kp.get (k:=v) (by omega)
      obtain ⟨l6,hl6⟩:∃ l6,(ls v).length = l6:=⟨_,rfl⟩
      obtain ⟨A6,c6,hvd,_,_,_⟩:=(hbm.kp.own v vv hvv).1.form hl6
      subst hvd
      have hl6n:l6≤1024:=by
       have h1:=nodup_len (HBR.out.dup v) (m:=T) (fun q hq=>by
        obtain ⟨_,_,j,_,hj⟩:=HBR.out.mem v q hq
        exact List.mem_of_getElem? hj)
       have h2:=HN.out
       omega
      have HVV:=Lib.hid hvv
      have HL6:=Lib.hid hl6
      have HQB6:=Lib.hid hqb6
      have HNB6:=Lib.hid hnb6
      have HBL:=Lib.hid hbm.kp.blk.1
      have HQ1:=Lib.hid hq1
      have QNE:=Lib.hid (show ¬ (Value.slice A6 l6 c6).ownBlock = some qb0 from fun e=>HQN.out _ _ hvv _ e hqb0.symm)
      have HSL:=Lib.hid (show W'.cell? ⟨w.heap.size + 1,v,none⟩ = some (.slice A6 l6 c6) from hbm.kp.blk.1.cell hvv)
      have HOW:=Lib.hid (show RowG.Own encP TP W'.drew 0 (.slice A6 l6 c6) (ls v) from ((hbm.kp.own v _ hvv).below (Below.refl _ _).drew).1)
      clear hxs ex hnw hv hq1 hsx hbase hbm hqb6 hnb6 hmq hnD hk hvv hl6
      go_wp2_with fail
      refine wp_region_noPanic ?_
      refine wp_region_held_drew (S:=fun Xw=>(Blk Xw nb 83 [.pointer (some ⟨kb,5 + b.toNat,none⟩)]∧Xw.cell? ⟨kb,5 + b.toNat,none⟩ = some (.int .u8 v))∧Blk Xw qb0 TP [.int .i64 qx,.int .i64 qy,.int .i64 qz]) (by kernel_rfl) (⟨⟨HNB6.out.1,HCQ.out⟩,HQB6.out.1⟩) (fun hHeld=>?_)
      refine wpAnyH_take (i:=0) (oi:=⟨some 62,_,_,_,_,_⟩) (v:=.pointer (some ⟨kb,5 + b.toNat,none⟩)) rfl (by kernel_rfl) (by kernel_rfl) (by kernel_rfl) (fun _ _ _ h=>h) (Or.inl ⟨by rfl,fun Xw hSW=>by have a:=hSW.1.1.cell (i:=0) rfl; go_simp⟩) hHeld ?_
      simp only [Act.put,List.setIfInBounds_toArray,List.set_cons_zero,List.set_cons_succ]
      refine wpAnyH_take (i:=1) (oi:=⟨some 63,_,_,_,_,_⟩) (v:=.pointer (some ⟨kb,5 + b.toNat,none⟩)) rfl (by kernel_rfl) (by kernel_rfl) (by kernel_rfl) (fun _ _ _ h=>h) (Or.inl ⟨by rfl,fun Xw hSW=>by go_simp⟩) hHeld ?_
      simp only [Act.put,List.setIfInBounds_toArray,List.set_cons_zero,List.set_cons_succ]
      refine wpAnyH_take (i:=2) (oi:=⟨some 64,_,_,_,_,_⟩) (v:=.int .u8 v) rfl (by kernel_rfl) (by kernel_rfl) (by kernel_rfl) (fun _ _ _ h=>h) (Or.inl ⟨by rfl,fun Xw hSW=>by have a:=hSW.1.2; go_simp⟩) hHeld ?_
      simp only [Act.put,List.setIfInBounds_toArray,List.set_cons_zero,List.set_cons_succ]
      refine wpAnyH_take (i:=3) (oi:=⟨some 65,_,_,_,_,_⟩) (v:=.pointer (some ⟨kb,5 + b.toNat,none⟩)) rfl (by kernel_rfl) (by kernel_rfl) (by kernel_rfl) (fun _ _ _ h=>h) (Or.inl ⟨by rfl,fun Xw hSW=>by have a:=hSW.1.1.cell (i:=0) rfl; go_simp⟩) hHeld ?_
      simp only [Act.put,List.setIfInBounds_toArray,List.set_cons_zero,List.set_cons_succ]
      refine wpAnyH_take (i:=4) (oi:=⟨some 66,_,_,_,_,_⟩) (v:=.pointer (some ⟨kb,5 + b.toNat,none⟩)) rfl (by kernel_rfl) (by kernel_rfl) (by kernel_rfl) (fun _ _ _ h=>h) (Or.inl ⟨by rfl,fun Xw hSW=>by go_simp⟩) hHeld ?_
      simp only [Act.put,List.setIfInBounds_toArray,List.set_cons_zero,List.set_cons_succ]
      refine wpAnyH_take (i:=5) (oi:=⟨some 67,_,_,_,_,_⟩) (v:=.int .u8 v) rfl (by kernel_rfl) (by kernel_rfl) (by kernel_rfl) (fun _ _ _ h=>h) (Or.inl ⟨by rfl,fun Xw hSW=>by have a:=hSW.1.2; go_simp⟩) hHeld ?_
      simp only [Act.put,List.setIfInBounds_toArray,List.set_cons_zero,List.set_cons_succ]
      refine wpAnyH_take (i:=6) (oi:=⟨some 68,_,_,_,_,_⟩) (v:=.pointer (some ⟨w.heap.size + 1,v,none⟩)) rfl (by kernel_rfl) (by kernel_rfl) (by kernel_rfl) (fun _ _ _ h=>h) (Or.inl ⟨by rfl,fun Xw hSW=>by have hv:(v:Int) < 16:=(by omega); go_simp⟩) hHeld ?_
      simp only [Act.put,List.setIfInBounds_toArray,List.set_cons_zero,List.set_cons_succ]
      refine wpAnyH_take (i:=8) (oi:=⟨some 70,_,_,_,_,_⟩) (v:=.agg #[.int .i64 qx,.int .i64 qy,.int .i64 qz]) rfl (by kernel_rfl) (by kernel_rfl) (by kernel_rfl) (fun _ _ _ h=>h) (Or.inl ⟨by rfl,fun Xw hSW=>by have a0:=hSW.2.cell (i:=0) rfl; have a1:=hSW.2.cell (i:=1) rfl; have a2:=hSW.2.cell (i:=2) rfl; go_simp⟩) hHeld ?_
      simp only [Act.put,List.setIfInBounds_toArray,List.set_cons_zero,List.set_cons_succ]
      refine wpAnyH_ready (rs:=[7,9]) (by kernel_rfl) (by simp) ?_
      refine AllReadyH.cons (o:=⟨some 69,_,_,_,_,_⟩) rfl (fun K hK=>?_) (AllReadyH.cons (o:=⟨some 71,_,_,_,_,_⟩) rfl (fun K hK=>?_) AllReadyH.nil)
      ·have a:=HSL.out
       go_simp
       refine hK.out _ _ (hHeld) (fun hHeld=>?_)
       clear hK K
       refine wpAnyH_ready (rs:=[9]) (by kernel_rfl) (by simp) ?_
       refine AllReadyH.cons (o:=⟨some 71,_,_,_,_,_⟩) rfl (fun K hK=>?_) AllReadyH.nil
       go_simp
       refine hK.out _ _ (⟨⟨by (have q:=HNB6.out.1; (repeat' (first | (with_reducible exact q) | (with_reducible refine BlkP.Blk.drew ?_) | (with_reducible refine BlkP.Blk.drewN ?_ _) | (with_reducible refine BlkP.Blk.setAt (us:=?_) (by first | omega | (simp; done) | (simp; omega)) rfl ?_ ?_) | (with_reducible refine BlkP.Blk.otherAt ?_ (by first | omega | (simp; done) | (simp; omega))) | (with_reducible refine BlkP.Blk.newA' (by first | omega | (simp; done) | (simp; omega)) rfl) | (with_reducible refine BlkP.Blk.alloc ?_ _) | (exact rfl)))),by (have q:=HCQ.out; have hl:=HKQ.out.lt; (repeat' (first | (with_reducible assumption) | (with_reducible refine HeldP.c_drew ?_) | (with_reducible refine HeldP.c_drewN ?_) | (with_reducible refine HeldP.c_same (by omega) ?_) | (with_reducible refine HeldP.c_other ?_ ?_) | (with_reducible refine HeldP.c_new (by first | omega | (simp; done) | (simp; omega)) ?_) | (with_reducible refine HeldP.c_alloc ?_ ?_) | (with_reducible refine HeldP.e_drew ?_) | (with_reducible refine HeldP.e_drewN ?_) | (with_reducible refine HeldP.e_set ?_) | (with_reducible refine HeldP.e_new (by first | omega | (simp; done) | (simp; omega)) ⟨_,rfl⟩) | (with_reducible refine HeldP.e_alloc ?_ ?_) | (with_reducible refine HeldP.f_drew ?_) | (with_reducible refine HeldP.f_drewN ?_) | (with_reducible refine HeldP.f_set ?_) | (with_reducible refine HeldP.f_new (by first | omega | (simp; done) | (simp; omega))) | (with_reducible refine HeldP.f_alloc ?_ ?_) | (with_reducible refine HeldP.s_drew ?_) | (with_reducible refine HeldP.s_drewN ?_) | (with_reducible refine HeldP.s_set ?_) | (with_reducible refine HeldP.s_new (by first | omega | (simp; done) | (simp; omega))) | (with_reducible refine HeldP.s_alloc ?_) | (with_reducible exact ⟨_,by assumption⟩) | omega | (intro e; simp at e; done) | (intro e; simp at e; omega) | (exact rfl) | (simp; done) | (simp; omega))))⟩,by (have q:=HQB6.out.1; (repeat' (first | (with_reducible exact q) | (with_reducible refine BlkP.Blk.drew ?_) | (with_reducible refine BlkP.Blk.drewN ?_ _) | (with_reducible refine BlkP.Blk.setAt (us:=?_) (by first | omega | (simp; done) | (simp; omega)) rfl ?_ ?_) | (with_reducible refine BlkP.Blk.otherAt ?_ (by first | omega | (simp; done) | (simp; omega))) | (with_reducible refine BlkP.Blk.newA' (by first | omega | (simp; done) | (simp; omega)) rfl) | (with_reducible refine BlkP.Blk.alloc ?_ _) | (exact rfl))))⟩) (fun hHeld=>?_)
       clear hK K
       refine wpAnyH_ready (rs:=[10]) (by kernel_rfl) (by simp) ?_
       refine AllReadyH.cons (o:=⟨some 72,_,_,_,_,_⟩) rfl (fun K hK=>?_) AllReadyH.nil
       refine step_pushP (w0:=W'.drew) (y:=(qx,qy,qz)) (v:=.slice A6 l6 c6) (l:=ls v) rfl (.tmp 69) (.tmp 71) rfl rfl rfl rfl HOW.out rfl HL6.out (by omega) (Nat.zero_le _) ?_
       intro gr7 c7 W9 hpu
       have HPU:=Lib.hid hpu
       have f9:Fr (fun j=>(Value.slice A6 l6 c6).ownBlock = some j) W'.drew W9:=Fr.grown hpu.2.1 (fun i e=>e)
       have nt:∀ {x:Nat} {U:TypeId} {us:List Value},Blk W'.drew x U us→U ≠ TP→¬ (Value.slice A6 l6 c6).ownBlock = some x:=fun hb hU e=>by
        obtain ⟨us2,hu⟩:=own_cells HOW.out e
        exact Blk.ne hb hu hU rfl
       have nb9:Blk W9 nb 83 [.pointer (some ⟨kb,5 + b.toNat,none⟩)]:=f9.blk HNB6.out.1 (nt HNB6.out.1 (by decide))
       have kb9:=f9.blk (show Blk W'.drew kb TK _ from HKQ.out) (nt HKQ.out (by decide))
       have qb9:Blk W9 qb0 TP [.int .i64 qx,.int .i64 qy,.int .i64 qz]:=f9.blk HQB6.out.1 QNE.out
       have bl9:Blk W9 (w.heap.size + 1) TKP vs:=f9.blk HBL.out (nt HBL.out (by decide))
       have kc9:W9.cell? ⟨kb,5 + b.toNat,none⟩ = some (.int .u8 (v:Int)):=by
        have:=k_now b kb9
        rwa [HQ1.out] at this
       have HB9:=Lib.hid (show Blk W9 nb 83 [.pointer (some ⟨kb,5 + b.toNat,none⟩)]∧Blk W9 qb0 TP [.int .i64 qx,.int .i64 qy,.int .i64 qz]∧Blk W9 (w.heap.size + 1) TKP vs from ⟨nb9,qb9,bl9⟩)
       have HK9:=Lib.hid kb9
       have HC9:=Lib.hid kc9
       have c9:=bl9.cell HVV.out
       have z9:=bl9.frozen v
       clear hpu f9 nt nb9 qb9 bl9 kb9 kc9
       refine hK.out _ _ (⟨⟨HB9.out.1,HC9.out⟩,HB9.out.2.1⟩) (fun hHeld=>?_)
       clear hK K
       refine wpAnyH_ready (rs:=[11]) (by kernel_rfl) (by simp) ?_
       refine AllReadyH.cons (o:=⟨some 73,_,_,_,_,_⟩) rfl (fun K hK=>?_) AllReadyH.nil
       have hv:(v:Int) < 16:=(by omega)
       go_simp
       refine hK.out _ _ (⟨⟨HB9.out.1,HC9.out⟩,HB9.out.2.1⟩) (fun hHeld=>?_)
       clear hK K
       refine wpAnyH_ready (rs:=[12]) (by kernel_rfl) (by simp) ?_
       refine AllReadyH.cons (o:=⟨none,_,_,_,_,_⟩) rfl (fun K hK=>?_) AllReadyH.nil
       go_simp
       refine hK.out _ _ (⟨⟨HB9.out.1.otherAt (fun e=>Blk.ne HB9.out.1 HB9.out.2.2 (by decide) e),(World.cell?_setCell_other _ _ _ _ (by intro e; injection e with e _; exact Blk.ne HK9.out HB9.out.2.2 (by decide) e.symm)).trans HC9.out⟩,HB9.out.2.1.otherAt (fun e=>Blk.ne HB9.out.2.1 HB9.out.2.2 (by decide) e)⟩) (fun hHeld=>?_)
       clear hK K
       refine wpAnyH_done (by kernel_rfl) ?_ _
       refine NoPanic.normal ?_
       go_wp2_with fail
       refine Handed.intro (1025 - (i + 1)) (by omega) (HJ.out _ _ _ ?_)
       obtain ⟨s9,b9,_,_⟩:=BM.pushed HS.out (HBM6.out.below (Below.refl _ _).drew) (HSX6.out.below (Below.refl _ _).drew) (k:=v) HVV.out HPU.out (by omega)
       refine ⟨_,_,_,_,_,_,_,_,_,_,_,_,_,_,_,_,_,_,_,_,_,_,_,_,_,_,_,_,_,_,_,_,_,_,_,_,_,D :: Ds,⟨i + 1,_,_,gh6,by go_num,rfl,by omega,s9,HBR7.out,b9⟩,rfl⟩
      ·go_simp
       refine hK.out _ _ (⟨⟨by (have q:=HNB6.out.1; (repeat' (first | (with_reducible exact q) | (with_reducible refine BlkP.Blk.drew ?_) | (with_reducible refine BlkP.Blk.drewN ?_ _) | (with_reducible refine BlkP.Blk.setAt (us:=?_) (by first | omega | (simp; done) | (simp; omega)) rfl ?_ ?_) | (with_reducible refine BlkP.Blk.otherAt ?_ (by first | omega | (simp; done) | (simp; omega))) | (with_reducible refine BlkP.Blk.newA' (by first | omega | (simp; done) | (simp; omega)) rfl) | (with_reducible refine BlkP.Blk.alloc ?_ _) | (exact rfl)))),by (have q:=HCQ.out; have hl:=HKQ.out.lt; (repeat' (first | (with_reducible assumption) | (with_reducible refine HeldP.c_drew ?_) | (with_reducible refine HeldP.c_drewN ?_) | (with_reducible refine HeldP.c_same (by omega) ?_) | (with_reducible refine HeldP.c_other ?_ ?_) | (with_reducible refine HeldP.c_new (by first | omega | (simp; done) | (simp; omega)) ?_) | (with_reducible refine HeldP.c_alloc ?_ ?_) | (with_reducible refine HeldP.e_drew ?_) | (with_reducible refine HeldP.e_drewN ?_) | (with_reducible refine HeldP.e_set ?_) | (with_reducible refine HeldP.e_new (by first | omega | (simp; done) | (simp; omega)) ⟨_,rfl⟩) | (with_reducible refine HeldP.e_alloc ?_ ?_) | (with_reducible refine HeldP.f_drew ?_) | (with_reducible refine HeldP.f_drewN ?_) | (with_reducible refine HeldP.f_set ?_) | (with_reducible refine HeldP.f_new (by first | omega | (simp; done) | (simp; omega))) | (with_reducible refine HeldP.f_alloc ?_ ?_) | (with_reducible refine HeldP.s_drew ?_) | (with_reducible refine HeldP.s_drewN ?_) | (with_reducible refine HeldP.s_set ?_) | (with_reducible refine HeldP.s_new (by first | omega | (simp; done) | (simp; omega))) | (with_reducible refine HeldP.s_alloc ?_) | (with_reducible exact ⟨_,by assumption⟩) | omega | (intro e; simp at e; done) | (intro e; simp at e; omega) | (exact rfl) | (simp; done) | (simp; omega))))⟩,by (have q:=HQB6.out.1; (repeat' (first | (with_reducible exact q) | (with_reducible refine BlkP.Blk.drew ?_) | (with_reducible refine BlkP.Blk.drewN ?_ _) | (with_reducible refine BlkP.Blk.setAt (us:=?_) (by first | omega | (simp; done) | (simp; omega)) rfl ?_ ?_) | (with_reducible refine BlkP.Blk.otherAt ?_ (by first | omega | (simp; done) | (simp; omega))) | (with_reducible refine BlkP.Blk.newA' (by first | omega | (simp; done) | (simp; omega)) rfl) | (with_reducible refine BlkP.Blk.alloc ?_ _) | (exact rfl))))⟩) (fun hHeld=>?_)
       clear hK K
       refine wpAnyH_ready (rs:=[7]) (by kernel_rfl) (by simp) ?_
       refine AllReadyH.cons (o:=⟨some 69,_,_,_,_,_⟩) rfl (fun K hK=>?_) AllReadyH.nil
       have hla:(W'.alloc (.cells #[.int .i64 qx,.int .i64 qy,.int .i64 qz] TP)).cell? ⟨w.heap.size + 1,v,none⟩ = some (.slice A6 l6 c6):=by (have q:=HSL.out; have hl:=HBL.out.lt; (repeat' (first | (with_reducible assumption) | (with_reducible refine HeldP.c_drew ?_) | (with_reducible refine HeldP.c_drewN ?_) | (with_reducible refine HeldP.c_same (by omega) ?_) | (with_reducible refine HeldP.c_other ?_ ?_) | (with_reducible refine HeldP.c_new (by first | omega | (simp; done) | (simp; omega)) ?_) | (with_reducible refine HeldP.c_alloc ?_ ?_) | (with_reducible refine HeldP.e_drew ?_) | (with_reducible refine HeldP.e_drewN ?_) | (with_reducible refine HeldP.e_set ?_) | (with_reducible refine HeldP.e_new (by first | omega | (simp; done) | (simp; omega)) ⟨_,rfl⟩) | (with_reducible refine HeldP.e_alloc ?_ ?_) | (with_reducible refine HeldP.f_drew ?_) | (with_reducible refine HeldP.f_drewN ?_) | (with_reducible refine HeldP.f_set ?_) | (with_reducible refine HeldP.f_new (by first | omega | (simp; done) | (simp; omega))) | (with_reducible refine HeldP.f_alloc ?_ ?_) | (with_reducible refine HeldP.s_drew ?_) | (with_reducible refine HeldP.s_drewN ?_) | (with_reducible refine HeldP.s_set ?_) | (with_reducible refine HeldP.s_new (by first | omega | (simp; done) | (simp; omega))) | (with_reducible refine HeldP.s_alloc ?_) | (with_reducible exact ⟨_,by assumption⟩) | omega | (intro e; simp at e; done) | (intro e; simp at e; omega) | (exact rfl) | (simp; done) | (simp; omega))))
       have hlb:(W'.drew.alloc (.cells #[.int .i64 qx,.int .i64 qy,.int .i64 qz] TP)).cell? ⟨w.heap.size + 1,v,none⟩ = some (.slice A6 l6 c6):=hla
       go_simp
       refine hK.out _ _ (hHeld) (fun hHeld=>?_)
       clear hK K
       refine wpAnyH_ready (rs:=[10]) (by kernel_rfl) (by simp) ?_
       refine AllReadyH.cons (o:=⟨some 72,_,_,_,_,_⟩) rfl (fun K hK=>?_) AllReadyH.nil
       refine step_pushP (w0:=W'.drew) (y:=(qx,qy,qz)) (v:=.slice A6 l6 c6) (l:=ls v) rfl (.tmp 69) (.tmp 71) rfl rfl rfl rfl HOW.out rfl HL6.out (by omega) (Nat.zero_le _) ?_
       intro gr7 c7 W9 hpu
       have HPU:=Lib.hid hpu
       have f9:Fr (fun j=>(Value.slice A6 l6 c6).ownBlock = some j) W'.drew W9:=Fr.grown hpu.2.1 (fun i e=>e)
       have nt:∀ {x:Nat} {U:TypeId} {us:List Value},Blk W'.drew x U us→U ≠ TP→¬ (Value.slice A6 l6 c6).ownBlock = some x:=fun hb hU e=>by
        obtain ⟨us2,hu⟩:=own_cells HOW.out e
        exact Blk.ne hb hu hU rfl
       have nb9:Blk W9 nb 83 [.pointer (some ⟨kb,5 + b.toNat,none⟩)]:=f9.blk HNB6.out.1 (nt HNB6.out.1 (by decide))
       have kb9:=f9.blk (show Blk W'.drew kb TK _ from HKQ.out) (nt HKQ.out (by decide))
       have qb9:Blk W9 qb0 TP [.int .i64 qx,.int .i64 qy,.int .i64 qz]:=f9.blk HQB6.out.1 QNE.out
       have bl9:Blk W9 (w.heap.size + 1) TKP vs:=f9.blk HBL.out (nt HBL.out (by decide))
       have kc9:W9.cell? ⟨kb,5 + b.toNat,none⟩ = some (.int .u8 (v:Int)):=by
        have:=k_now b kb9
        rwa [HQ1.out] at this
       have HB9:=Lib.hid (show Blk W9 nb 83 [.pointer (some ⟨kb,5 + b.toNat,none⟩)]∧Blk W9 qb0 TP [.int .i64 qx,.int .i64 qy,.int .i64 qz]∧Blk W9 (w.heap.size + 1) TKP vs from ⟨nb9,qb9,bl9⟩)
       have HK9:=Lib.hid kb9
       have HC9:=Lib.hid kc9
       have c9:=bl9.cell HVV.out
       have z9:=bl9.frozen v
       clear hpu f9 nt nb9 qb9 bl9 kb9 kc9
       refine hK.out _ _ (⟨⟨HB9.out.1,HC9.out⟩,HB9.out.2.1⟩) (fun hHeld=>?_)
       clear hK K
       refine wpAnyH_ready (rs:=[11]) (by kernel_rfl) (by simp) ?_
       refine AllReadyH.cons (o:=⟨some 73,_,_,_,_,_⟩) rfl (fun K hK=>?_) AllReadyH.nil
       have hv:(v:Int) < 16:=(by omega)
       go_simp
       refine hK.out _ _ (⟨⟨HB9.out.1,HC9.out⟩,HB9.out.2.1⟩) (fun hHeld=>?_)
       clear hK K
       refine wpAnyH_ready (rs:=[12]) (by kernel_rfl) (by simp) ?_
       refine AllReadyH.cons (o:=⟨none,_,_,_,_,_⟩) rfl (fun K hK=>?_) AllReadyH.nil
       go_simp
       refine hK.out _ _ (⟨⟨HB9.out.1.otherAt (fun e=>Blk.ne HB9.out.1 HB9.out.2.2 (by decide) e),(World.cell?_setCell_other _ _ _ _ (by intro e; injection e with e _; exact Blk.ne HK9.out HB9.out.2.2 (by decide) e.symm)).trans HC9.out⟩,HB9.out.2.1.otherAt (fun e=>Blk.ne HB9.out.2.1 HB9.out.2.2 (by decide) e)⟩) (fun hHeld=>?_)
       clear hK K
       refine wpAnyH_done (by kernel_rfl) ?_ _
       refine NoPanic.normal ?_
       go_wp2_with fail
       refine Handed.intro (1025 - (i + 1)) (by omega) (HJ.out _ _ _ ?_)
       obtain ⟨s9,b9,_,_⟩:=BM.pushed HS.out (HBM6.out.below (Below.refl _ _).drew) (HSX6.out.below (Below.refl _ _).drew) (k:=v) HVV.out HPU.out (by omega)
       refine ⟨_,_,_,_,_,_,_,_,_,_,_,_,_,_,_,_,_,_,_,_,_,_,_,_,_,_,_,_,_,_,_,_,_,_,_,_,_,D :: Ds,⟨i + 1,_,_,gh6,by go_num,rfl,by omega,s9,HBR7.out,b9⟩,rfl⟩
  ·have hinI:¬ (i:Int) < n:=by omega
   obtain rfl:n = i:=by omega
   have HSP:=Lib.hid (Br.spread HF.out HDK.out (by rw [HN.out]; exact HBR.out))
   go_wp2_with fail
   refine wp_loop_ghost_k (fun k a W=>∃ y8:Value,∃ y9:Value,∃ y10:Value,∃ y12:Value,∃ y23:Value,∃ y24:Value,∃ y25:Value,∃ y26:Value,∃ y27:Value,∃ y28:Value,∃ y29:Value,∃ y30:Value,∃ y31:Value,∃ y32:Value,∃ y33:Value,∃ y34:Value,∃ y35:Value,∃ y36:Value,∃ y37:Value,∃ y38:Value,∃ y39:Value,∃ y40:Value,∃ y41:Value,∃ y42:Value,∃ y62:Value,∃ y63:Value,∃ y64:Value,∃ y65:Value,∃ y66:Value,∃ y67:Value,∃ y68:Value,∃ y69:Value,∃ y70:Value,∃ y71:Value,∃ y72:Value,∃ y73:Value,∃ y74:Value,∃ y14:Value,∃ y15:Value,∃ y17:Value,∃ y75:Value,∃ y76:Value,∃ y77:Value,∃ y78:Value,∃ y79:Value,∃ y80:Value,∃ y81:Value,∃ y82:Value,∃ y83:Value,∃ y84:Value,∃ y85:Value,∃ y86:Value,∃ y87:Value,∃ y88:Value,∃ y89:Value,∃ y90:Value,∃ y91:Value,∃ y121:Value,∃ Ds:List Nat,(∃ m vs ls gh,y14 = .int .u8 (m:Nat)∧k = m∧1≤m∧m≤15∧Sx W gh∧Sp G m (gh.nw b) ls∧BM w g b fo w.heap.size (w.heap.size + 1) vs ls Ds gh W)∧a = { tmps:=#[.pointer (some ⟨g.wk,0,none⟩),.slice A n c,.func (.func fo) #[] #[],undef,undef,.pointer (some ⟨w.heap.size,0,none⟩),.pointer (some ⟨w.heap.size + 1,0,none⟩),undef,y8,y9,y10,undef,y12,undef,y14,y15,undef,y17,undef,undef,undef,.slice A n c,.int .i64 n,y23,y24,y25,y26,y27,y28,y29,y30,y31,y32,y33,y34,y35,y36,y37,y38,y39,y40,y41,y42,undef,undef,undef,undef,undef,undef,undef,undef,undef,undef,undef,undef,undef,undef,undef,undef,undef,undef,undef,y62,y63,y64,y65,y66,y67,y68,y69,y70,y71,y72,y73,y74,y75,y76,y77,y78,y79,y80,y81,y82,y83,y84,y85,y86,y87,y88,y89,y90,y91,undef,undef,undef,undef,undef,undef,undef,undef,undef,undef,undef,undef,undef,undef,undef,undef,undef,undef,undef,undef,undef,undef,undef,undef,undef,undef,undef,undef,undef,y121],defers:=Ds.map GlowW.mark }) 15 ?_ ?_
   ·exact ⟨_,_,_,_,_,_,_,_,_,_,_,_,_,_,_,_,_,_,_,_,_,_,_,_,_,_,_,_,_,_,_,_,_,_,_,_,_,_,_,_,_,_,_,_,_,_,_,_,_,_,_,_,_,_,_,_,_,_,Ds,⟨15,vs,ls,gh,rfl,rfl,by omega,by omega,HSX.out.below (by (repeat' (first | (with_reducible exact Below.refl _ _) | (with_reducible refine Below.setCell ?_ (by (first | omega | (simp; done) | (simp; omega))) _) | (with_reducible refine Below.alloc ?_ (by (first | omega | (simp; done) | (simp; omega))) _) | (with_reducible refine Below.drew ?_) | (with_reducible refine below_drewN ?_ _)))),HSP.out,HBM.out.below (by (repeat' (first | (with_reducible exact Below.refl _ _) | (with_reducible refine Below.setCell ?_ (by (first | omega | (simp; done) | (simp; omega))) _) | (with_reducible refine Below.alloc ?_ (by (first | omega | (simp; done) | (simp; omega))) _) | (with_reducible refine Below.drew ?_) | (with_reducible refine below_drewN ?_ _))))⟩,rfl⟩
   ·clear HSX HBR HBM HT HSP HJ
    clear hK
    intro k a W hI
    obtain ⟨y8,y9,y10,y12,y23,y24,y25,y26,y27,y28,y29,y30,y31,y32,y33,y34,y35,y36,y37,y38,y39,y40,y41,y42,y62,y63,y64,y65,y66,y67,y68,y69,y70,y71,y72,y73,y74,y14,y15,y17,y75,y76,y77,y78,y79,y80,y81,y82,y83,y84,y85,y86,y87,y88,y89,y90,y91,y121,Ds,⟨m,vs,ls,gh,rfl,rfl,hm1,hm15,hsx,hsp,hbm⟩,rfl⟩:=hI
    intro J K hJ hK
    have HSX:=Lib.hid hsx
    have HSP:=Lib.hid hsp
    have HBM:=Lib.hid hbm
    have HJ:=Lib.hid hJ
    clear hsx hsp hbm hJ
    by_cases hm2:1 < k
    ·have hmI:(1:Int) < (k:Int):=by omega
     obtain ⟨le,hle⟩:∃ le:Nat,(k:Int) - 1 = le:=⟨k - 1,by omega⟩
     have hs8:=sub8F hle (by omega)
     have hwr:IntKind.u8.wrap ((k:Int) - 1) = (le:Int):=by rw [IntKind.wrap_u8]; omega
     have HLE:=Lib.hid (show k = le + 1 by omega)
     have hkI:(k:Int) < 16:=by omega
     obtain ⟨vr,hvr⟩:=HBM.out.kp.get (k:=k) (by omega)
     obtain ⟨lr,hlr⟩:∃ lr,(ls k).length = lr:=⟨_,rfl⟩
     obtain ⟨Ar,cr,hvd,_,_,hAr⟩:=(HBM.out.kp.own k vr hvr).1.form hlr
     subst hvd
     have HVR:=Lib.hid hvr
     have HLR:=Lib.hid hlr
     have HAR:=Lib.hid hAr
     have hlrn:lr≤1024:=by
      have h1:=Sp.len (st:=(gh.nw b,ls)) HF.out HSP.out k
      simp only at h1
      have h2:=HREL.out.few
      omega
     have hl0:W.cell? ⟨w.heap.size + 1,k,none⟩ = some (.slice Ar lr cr):=HBM.out.kp.blk.1.cell hvr
     have HSZ:=Lib.hid (show w.heap.size≤W.heap.size from HBM.out.go.fr.size)
     have hbl1:w.heap.size + 1 < W.heap.size:=HBM.out.kp.blk.1.lt
     clear hle hvr hlr hAr
     go_wp2_with fail
     refine wp_loop_ghost_k (fun k2 a W2=>∃ z17:Value,∃ z75:Value,∃ z76:Value,∃ z77:Value,∃ z78:Value,∃ z79:Value,∃ z80:Value,∃ z81:Value,∃ z82:Value,∃ z85:Value,∃ z86:Value,∃ z87:Value,∃ z88:Value,∃ z89:Value,∃ z90:Value,∃ z91:Value,∃ z121:Value,∃ Ds2:List Nat,(∃ j vs2 ls2 g2,z85 = .int .i64 (j:Nat)∧k2 = 1025 - j∧j≤lr∧Sx W2 g2∧(g2.nw b,ls2) = ((ls k).take j).foldl (cellV G le) (gh.nw b,ls)∧BM w g b fo w.heap.size (w.heap.size + 1) vs2 ls2 Ds2 g2 W2∧vs2[k]? = some (.slice Ar lr cr)∧Loc W2 g2 W.heap.size 5 [.int .u8 le])∧a = { tmps:=#[.pointer (some ⟨g.wk,0,none⟩),.slice A n c,.func (.func fo) #[] #[],undef,undef,.pointer (some ⟨w.heap.size,0,none⟩),.pointer (some ⟨w.heap.size + 1,0,none⟩),undef,y8,y9,y10,undef,y12,undef,.int .u8 k,.pointer (some ⟨W.heap.size,0,none⟩),undef,z17,undef,undef,undef,.slice A n c,.int .i64 n,y23,y24,y25,y26,y27,y28,y29,y30,y31,y32,y33,y34,y35,y36,y37,y38,y39,y40,y41,y42,undef,undef,undef,undef,undef,undef,undef,undef,undef,undef,undef,undef,undef,undef,undef,undef,undef,undef,undef,y62,y63,y64,y65,y66,y67,y68,y69,y70,y71,y72,y73,y74,z75,z76,z77,z78,z79,z80,z81,z82,.slice Ar lr cr,.int .i64 lr,z85,z86,z87,z88,z89,z90,z91,undef,undef,undef,undef,undef,undef,undef,undef,undef,undef,undef,undef,undef,undef,undef,undef,undef,undef,undef,undef,undef,undef,undef,undef,undef,undef,undef,undef,undef,z121],defers:=Ds2.map GlowW.mark }) 1025 ?_ ?_
     ·refine ⟨_,_,_,_,_,_,_,_,_,_,_,_,_,_,_,_,_,Ds,⟨0,vs,ls,gh,rfl,rfl,Nat.zero_le _,HSX.out.below (by (repeat' (first | (with_reducible exact Below.refl _ _) | (with_reducible refine Below.setCell ?_ (by (first | omega | (simp; done) | (simp; omega))) _) | (with_reducible refine Below.alloc ?_ (by (first | omega | (simp; done) | (simp; omega))) _) | (with_reducible refine Below.drew ?_) | (with_reducible refine below_drewN ?_ _)))),rfl,HBM.out.below (by (repeat' (first | (with_reducible exact Below.refl _ _) | (with_reducible refine Below.setCell ?_ (by (first | omega | (simp; done) | (simp; omega))) _) | (with_reducible refine Below.alloc ?_ (by (first | omega | (simp; done) | (simp; omega))) _) | (with_reducible refine Below.drew ?_) | (with_reducible refine below_drewN ?_ _)))),HVR.out,⟨by (repeat' (first | (with_reducible refine BlkP.Blk.drew ?_) | (with_reducible refine BlkP.Blk.drewN ?_ _) | (with_reducible refine BlkP.Blk.setAt (us:=?_) (by first | omega | (simp; done) | (simp; omega)) rfl ?_ ?_) | (with_reducible refine BlkP.Blk.otherAt ?_ (by first | omega | (simp; done) | (simp; omega))) | (with_reducible refine BlkP.Blk.newA' (by first | omega | (simp; done) | (simp; omega)) rfl) | (with_reducible refine BlkP.Blk.alloc ?_ _) | (exact rfl))),HSX.out.st.new (Nat.le_refl _)⟩⟩,rfl⟩
     ·have HKK:=Lib.hid hK
      clear hl0 hK hwr hs8
      intro k2 a W2 hI
      obtain ⟨z17,z75,z76,z77,z78,z79,z80,z81,z82,z85,z86,z87,z88,z89,z90,z91,z121,Ds2,⟨j,vs2,ls2,g2,rfl,rfl,hj,hsx,hst,hbm,hvr2,hlb⟩,rfl⟩:=hI
      intro J2 K2 hJ2 hK2
      have HSX2:=Lib.hid hsx
      have HST2:=Lib.hid hst
      have HBM2:=Lib.hid hbm
      have HVR2:=Lib.hid hvr2
      have HLB2:=Lib.hid hlb
      have HJ2:=Lib.hid hJ2
      have hlen:ls2 k = ls k:=by
       have:=congrArg (fun s=>s.2 k) hst
       simp only at this
       rw [this,cellsV_other (by have:=HLE.out; omega)]
      have HRW:=Lib.hid (show LocR W2 g2 (.slice Ar lr cr) (ls k) by rw [← hlen]; exact hbm.kp.own k _ hvr2)
      have HLN2:=Lib.hid hlen
      clear hsx hst hbm hvr2 hlb hJ2 hlen
      by_cases hjl:j < lr
      ·have hjI:(j:Int) < lr:=by omega
       obtain ⟨gr2,rfl,_,_⟩:=HAR.out (by omega)
       obtain ⟨q,hq⟩:∃ q,(ls k)[j]? = some q:=⟨_,List.getElem?_eq_getElem (by have:=HLR.out; omega)⟩
       have HQ:=Lib.hid hq
       have HQL:=Lib.hid (List.mem_of_getElem? hq)
       have HMM:=Lib.hid (HSP.out.mem k q (List.mem_of_getElem? hq))
       obtain ⟨qx,qy,qz⟩:=q
       have r0:W2.cell? ⟨gr2,j * 3,none⟩ = some (.int .i64 qx):=HRW.out.1.cell (j:=0) hq rfl
       have r1:W2.cell? ⟨gr2,j * 3 + 1,none⟩ = some (.int .i64 qy):=HRW.out.1.cell (j:=1) hq rfl
       have r2:W2.cell? ⟨gr2,j * 3 + 2,none⟩ = some (.int .i64 qz):=HRW.out.1.cell (j:=2) hq rfl
       have HQE:=Lib.hid (HF.out.ein2 _ HMM.out.1)
       have HNEAR:=Lib.hid (show ∀ s,s ∈ sidesV (qx,qy,qz)→okP g2 s∧dG g2 s≤15 from fun s hs=>by
        have h1:G.d s≤15:=by
         have h2:=HF.out.near _ _ (by rw [← HREL.out.side]; exact hs)
         have h3:=HMM.out.2
         omega
        have hd:dG g2 s = G.d s:=by rw [HBM2.out.m.dG,HM0.out.dG,HREL.out.d]
        rw [hd]
        exact ⟨HBM2.out.m.ok (HM0.out.ok ((HREL.out.okE _ HQE.out).2 s hs (by rw [HREL.out.d]; exact h1))),h1⟩)
       obtain ⟨hc1,hc2,_⟩:=Sp.cells HF.out (b:=k) (by omega) (by omega) ((ls k).take j) (st:=(gh.nw b,ls)) HSP.out (fun c hc=>Sp.listed (st:=(gh.nw b,ls)) HSP.out c (List.mem_of_mem_take hc))
       rw [show k - 1 = le by have:=HLE.out; omega,← HST2.out] at hc1 hc2
       have HSP2:=Lib.hid (show Sp G k (g2.nw b) ls2∧k≤g2.nw b (qx,qy,qz) from ⟨hc1,Nat.le_trans (Sp.listed (st:=(gh.nw b,ls)) HSP.out _ HQL.out).1 (hc2 _)⟩)
       clear hq hc1 hc2
       go_wp2_with fail
       go_at_call 53
       refine calls_named (S:=fun W3=>Below W2.heap.size W2 W3) (by (repeat' (first | (with_reducible exact Below.refl _ _) | (with_reducible refine Below.setCell ?_ (by (first | omega | (simp; done) | (simp; omega))) _) | (with_reducible refine Below.alloc ?_ (by (first | omega | (simp; done) | (simp; omega))) _) | (with_reducible refine Below.drew ?_) | (with_reducible refine below_drewN ?_ _)))) ?_
       clear r0 r1 r2
       rintro W3 hb3
       refine fsides_c.mono ?_
       rintro e W5 ⟨E,rfl,hE,hbox,hwb,hb5'⟩
       have hb5:=hb3.trans (hb5'.mono hb3.size)
       have HBM5:=Lib.hid (HBM2.out.below hb5)
       have HSX5:=Lib.hid (HSX2.out.below hb5)
       have HLB5:=Lib.hid (HLB2.out.below hb5)
       have hz3:=hb3.size
       have hz5:=hb5'.size
       have HBA:=Lib.hid (show Base g.wk E W3.heap.size (qx,qy,qz) g2 W5 from ⟨HBM2.out.m.same.1,HNEAR.out,⟨hbox,HSX2.out.st.new (by rw [hE]; omega)⟩,⟨hwb,HSX2.out.st.new hz3⟩⟩)
       have HB5S:=Lib.hid (show w.heap.size≤W5.heap.size from HBM5.out.go.fr.size)
       have HDSW:=Lib.hid (show ∀ D ∈ Ds2,D < W5.heap.size from fun D hD=>(HBM5.out.mks.at_ D hD).2.1)
       have HRE:=Lib.hid (show ∀ (i:Nat) (v:Value),vs2[i]? = some v→∀ x,v.ownBlock = some x→x ≠ E from fun i v hi x hx=>by
        have:=((HBM2.out.kp.own i v hi).1.ge x hx).2
        omega)
       clear hE hbox hwb hb3 hb5 hb5' HBM2 HSX2 HLB2 HRW
       go_wp2_with fail
       refine (wpIn_wide (n:=8)).1 ?_
       refine wpIn_sidesB 18 19 (by omega) (wk:=g.wk) (E:=E) (wb:=W3.heap.size) (q:=(qx,qy,qz)) ((HREL.out.okE _ HQE.out).1) rfl
        (fun pre gh4 W4=>∃ vs4 ls4,BM w g b fo w.heap.size (w.heap.size + 1) vs4 ls4 Ds2 gh4 W4∧(gh4.nw b,ls4) = (pre.map (·.1)).foldl (stepV G le) (g2.nw b,ls2)∧vs4[k]? = some (.slice (some ⟨gr2,0,none⟩) lr cr)∧(Sp G k (gh4.nw b) ls4∧k≤gh4.nw b (qx,qy,qz))∧Loc W4 gh4 W.heap.size 5 [.int .u8 le]∧∀ (i:Nat) (v:Value),vs4[i]? = some v→∀ x,v.ownBlock = some x→x ≠ E) ?stab ?puts g2 HSX5.out HBA.out ⟨vs2,ls2,HBM5.out,rfl,HVR2.out,HSP2.out,HLB5.out,HRE.out⟩
        ?assign ?body ?done
       case stab =>
        rintro pre gh W vA ak kn W' ⟨vs4,ls4,h1,h2,h3,h6,h4,h5⟩ _ hgo hk
        exact ⟨vs4,ls4,h1.step hgo ⟨⟨_,_,_,rfl⟩,hk⟩,h2,h3,h6,h4.go hgo,h5⟩
       case puts =>
        rintro pre gh W l o o' ⟨vs4,ls4,h1,h2,h3,h6,h4,h5⟩ hl ho hc hn
        exact ⟨vs4,ls4,h1.put ho hc (by have:=HB5S.out; omega) (fun D hD=>by have:=HDSW.out D hD; omega) o',h2,h3,h6,h4.put ho hc o',h5⟩
       case assign =>
        rintro l ⟨⟨sx,sy,sz⟩,kb2⟩ W K hK
        simp only [actB,roundT,List.setIfInBounds_toArray,List.set_cons_zero,List.set_cons_succ] at hK ⊢
        gi_wp2
        refine hK _ ?_ ?_
        ·(repeat' (first | (with_reducible exact Below.refl _ _) | (with_reducible refine Below.setCell ?_ (by (first | omega | (simp; done) | (simp; omega))) _) | (with_reducible refine Below.alloc ?_ (by (first | omega | (simp; done) | (simp; omega))) _) | (with_reducible refine Below.drew ?_) | (with_reducible refine below_drewN ?_ _)))
        ·(repeat' (first | (with_reducible refine BlkP.Blk.drew ?_) | (with_reducible refine BlkP.Blk.drewN ?_ _) | (with_reducible refine BlkP.Blk.setAt (us:=?_) (by first | omega | (simp; done) | (simp; omega)) rfl ?_ ?_) | (with_reducible refine BlkP.Blk.otherAt ?_ (by first | omega | (simp; done) | (simp; omega))) | (with_reducible refine BlkP.Blk.newA' (by first | omega | (simp; done) | (simp; omega)) rfl) | (with_reducible refine BlkP.Blk.alloc ?_ _) | (exact rfl)))
       case body =>
        rintro l pre ⟨⟨sx,sy,sz⟩,kb2⟩ gh6 sb W6 hsx hbase ⟨vs4,ls4,hbm,hst,hvr,hsp6,hlb,hne⟩ hsb hmem hside
        have HSP6:=Lib.hid hsp6
        have HSD:=Lib.hid hside
        obtain ⟨nv,hnv⟩:∃ nv,gh6.nw b (sx,sy,sz) = nv:=⟨_,rfl⟩
        have HBM6:=Lib.hid hbm
        have HSX6:=Lib.hid hsx
        have HBA6:=Lib.hid hbase
        have HSB6:=Lib.hid hsb
        have HLB6:=Lib.hid hlb
        have HST6:=Lib.hid hst
        have HVR6:=Lib.hid hvr
        have HNE6:=Lib.hid hne
        have HME6:=Lib.hid hmem
        have HNV:=Lib.hid hnv
        have HKB6:=Lib.hid (hsx.st.known _ _ hmem)
        have HCN6:=Lib.hid (show W6.cell? ⟨kb2,0,none⟩ = some (.bool (G.cn (sx,sy,sz))) by
         have:=k_clear HKB6.out
         rwa [hbm.m.clr,HM0.out.clr,HREL.out.cn] at this)
        have HNW6:=Lib.hid (show W6.cell? ⟨kb2,5 + b.toNat,none⟩ = some (.int .u8 (nv:Int)) by
         have:=k_now b HKB6.out
         rwa [hnv] at this)
        have hn15:nv≤15:=by rw [← hnv]; exact (hsx.st.le b _).2
        clear hbm hsx hbase hsb hlb hst hvr hne hmem hnv hside hsp6
        simp only [actB,roundT,List.setIfInBounds_toArray,List.set_cons_zero,List.set_cons_succ]
        gi_wp2
        refine RoundR.region (S:=fun Xw=>Blk Xw w.heap.size TPart [.func (.func fo) #[] #[]]) (by kernel_rfl) (by kernel_rfl) (HBM6.out.bf.1) (fun hHeld=>?_)
        refine wpAnyH_take (i:=0) (oi:=⟨some 94,_,_,_,_,_⟩) (v:=.func (.func fo) #[] #[]) rfl (by kernel_rfl) (by kernel_rfl) (by kernel_rfl) (fun _ _ _ h=>h) (Or.inl ⟨by rfl,fun Xw hSW=>by have a:=hSW.cell (i:=0) rfl; go_simp⟩) hHeld ?_
        simp only [Act.put,List.setIfInBounds_toArray,List.set_cons_zero,List.set_cons_succ]
        refine wpAnyH_take (i:=1) (oi:=⟨some 95,_,_,_,_,_⟩) (v:=.pointer (some ⟨kb2,0,none⟩)) rfl (by kernel_rfl) (by kernel_rfl) (by kernel_rfl) (fun _ _ _ h=>h) (Or.inl ⟨by rfl,fun Xw hSW=>by go_simp⟩) hHeld ?_
        simp only [Act.put,List.setIfInBounds_toArray,List.set_cons_zero,List.set_cons_succ]
        refine wpAnyH_take (i:=2) (oi:=⟨some 96,_,_,_,_,_⟩) (v:=.pointer (some ⟨kb2,0,none⟩)) rfl (by kernel_rfl) (by kernel_rfl) (by kernel_rfl) (fun _ _ _ h=>h) (Or.inl ⟨by rfl,fun Xw hSW=>by go_simp⟩) hHeld ?_
        simp only [Act.put,List.setIfInBounds_toArray,List.set_cons_zero,List.set_cons_succ]
        refine wpAnyH_take (i:=3) (oi:=⟨some 97,_,_,_,_,_⟩) (v:=.pointer (some ⟨kb2,5,none⟩)) rfl (by kernel_rfl) (by kernel_rfl) (by kernel_rfl) (fun _ _ _ h=>h) (Or.inl ⟨by rfl,fun Xw hSW=>by go_simp⟩) hHeld ?_
        simp only [Act.put,List.setIfInBounds_toArray,List.set_cons_zero,List.set_cons_succ]
        refine wpAnyH_ready (rs:=[4]) (by kernel_rfl) (by simp) ?_
        refine AllReadyH.cons (o:=⟨some 98,_,_,_,_,_⟩) rfl (fun K hK=>?_) AllReadyH.nil
        have ent:=HPE.out
        go_simp
        refine (HPA.out.run kb2 5 _).mono ?_
        rintro e w' ⟨rfl,rfl⟩
        try go_wp2_with fail
        refine hK.out _ _ (hHeld) (fun hHeld=>?_)
        clear hK K
        refine wpAnyH_take (i:=5) (oi:=⟨some 20,_,_,_,_,_⟩) (v:=.pointer (some ⟨kb2,5 + b.toNat,none⟩)) rfl (by kernel_rfl) (by kernel_rfl) (by kernel_rfl) (fun _ _ _ h=>h) (Or.inl ⟨by rfl,fun Xw hSW=>by go_simp⟩) hHeld ?_
        simp only [Act.put,List.setIfInBounds_toArray,List.set_cons_zero,List.set_cons_succ]
        refine wpAnyH_done (by kernel_rfl) ?_ _
        refine RoundR.Calm.normal ?_
        clear hHeld
        gi_wp2
        cases hcl:G.cn (sx,sy,sz) with
        | true =>
         by_cases hc1:nv < le
         ·have HYES:=Lib.hid (show G.cn (sx,sy,sz) = true∧gh6.nw b (sx,sy,sz) < le from ⟨hcl,by rw [HNV.out]; exact hc1⟩)
          have hLt:(nv:Int) < (le:Int):=by omega
          refine RoundR.region (S:=fun Xw=>(Xw.cell? ⟨kb2,0,none⟩ = some (.bool true)∧Xw.cell? ⟨kb2,5 + b.toNat,none⟩ = some (.int .u8 nv))∧Blk Xw W.heap.size 5 [.int .u8 le]) (by kernel_rfl) (by kernel_rfl) (⟨⟨by rw [← hcl]; exact HCN6.out,HNW6.out⟩,HLB6.out.1⟩) (fun hHeld=>?_)
          refine wpAnyH_take (i:=0) (oi:=⟨some 99,_,_,_,_,_⟩) (v:=.pointer (some ⟨kb2,0,none⟩)) rfl (by kernel_rfl) (by kernel_rfl) (by kernel_rfl) (fun _ _ _ h=>h) (Or.inl ⟨by rfl,fun Xw hSW=>by go_simp⟩) hHeld ?_
          simp only [Act.put,List.setIfInBounds_toArray,List.set_cons_zero,List.set_cons_succ]
          refine wpAnyH_take (i:=1) (oi:=⟨some 100,_,_,_,_,_⟩) (v:=.pointer (some ⟨kb2,0,none⟩)) rfl (by kernel_rfl) (by kernel_rfl) (by kernel_rfl) (fun _ _ _ h=>h) (Or.inl ⟨by rfl,fun Xw hSW=>by go_simp⟩) hHeld ?_
          simp only [Act.put,List.setIfInBounds_toArray,List.set_cons_zero,List.set_cons_succ]
          refine wpAnyH_take (i:=2) (oi:=⟨some 101,_,_,_,_,_⟩) (v:=.pointer (some ⟨kb2,0,none⟩)) rfl (by kernel_rfl) (by kernel_rfl) (by kernel_rfl) (fun _ _ _ h=>h) (Or.inl ⟨by rfl,fun Xw hSW=>by go_simp⟩) hHeld ?_
          simp only [Act.put,List.setIfInBounds_toArray,List.set_cons_zero,List.set_cons_succ]
          refine wpAnyH_take (i:=3) (oi:=⟨some 102,_,_,_,_,_⟩) (v:=.bool true) rfl (by kernel_rfl) (by kernel_rfl) (by kernel_rfl) (fun _ _ _ h=>h) (Or.inl ⟨by rfl,fun Xw hSW=>by have a:=hSW.1.1; go_simp⟩) hHeld ?_
          simp only [Act.put,List.setIfInBounds_toArray,List.set_cons_zero,List.set_cons_succ]
          refine wpAnyH_take (i:=4) (oi:=⟨some 103,_,_,_,_,_⟩) (v:=.bool true) rfl (by kernel_rfl) (by kernel_rfl) (by kernel_rfl) (fun _ _ _ h=>h) (Or.inl ⟨by rfl,fun Xw hSW=>by go_simp⟩) hHeld ?_
          simp only [Act.put,List.setIfInBounds_toArray,List.set_cons_zero,List.set_cons_succ]
          refine wpAnyH_take (i:=5) (oi:=⟨some 104,_,_,_,_,_⟩) (v:=.pointer (some ⟨kb2,5 + b.toNat,none⟩)) rfl (by kernel_rfl) (by kernel_rfl) (by kernel_rfl) (fun _ _ _ h=>h) (Or.inl ⟨by rfl,fun Xw hSW=>by go_simp⟩) hHeld ?_
          simp only [Act.put,List.setIfInBounds_toArray,List.set_cons_zero,List.set_cons_succ]
          refine wpAnyH_take (i:=6) (oi:=⟨some 105,_,_,_,_,_⟩) (v:=.pointer (some ⟨kb2,5 + b.toNat,none⟩)) rfl (by kernel_rfl) (by kernel_rfl) (by kernel_rfl) (fun _ _ _ h=>h) (Or.inl ⟨by rfl,fun Xw hSW=>by go_simp⟩) hHeld ?_
          simp only [Act.put,List.setIfInBounds_toArray,List.set_cons_zero,List.set_cons_succ]
          refine wpAnyH_take (i:=7) (oi:=⟨some 106,_,_,_,_,_⟩) (v:=.int .u8 nv) rfl (by kernel_rfl) (by kernel_rfl) (by kernel_rfl) (fun _ _ _ h=>h) (Or.inl ⟨by rfl,fun Xw hSW=>by have a:=hSW.1.2; go_simp⟩) hHeld ?_
          simp only [Act.put,List.setIfInBounds_toArray,List.set_cons_zero,List.set_cons_succ]
          refine wpAnyH_take (i:=8) (oi:=⟨some 107,_,_,_,_,_⟩) (v:=.int .u8 le) rfl (by kernel_rfl) (by kernel_rfl) (by kernel_rfl) (fun _ _ _ h=>h) (Or.inl ⟨by rfl,fun Xw hSW=>by have a:=hSW.2.cell (i:=0) rfl; go_simp⟩) hHeld ?_
          simp only [Act.put,List.setIfInBounds_toArray,List.set_cons_zero,List.set_cons_succ]
          refine wpAnyH_take (i:=9) (oi:=⟨some 108,_,_,_,_,_⟩) (v:=.bool true) rfl (by kernel_rfl) (by kernel_rfl) (by kernel_rfl) (fun _ _ _ h=>h) (Or.inl ⟨by rfl,fun Xw hSW=>by have q1:=hLt; go_simp⟩) hHeld ?_
          simp only [Act.put,List.setIfInBounds_toArray,List.set_cons_zero,List.set_cons_succ]
          refine wpAnyH_take (i:=10) (oi:=⟨some 109,_,_,_,_,_⟩) (v:=.bool true) rfl (by kernel_rfl) (by kernel_rfl) (by kernel_rfl) (fun _ _ _ h=>h) (Or.inl ⟨by rfl,fun Xw hSW=>by go_simp⟩) hHeld ?_
          simp only [Act.put,List.setIfInBounds_toArray,List.set_cons_zero,List.set_cons_succ]
          refine wpAnyH_done (by kernel_rfl) ?_ _
          refine RoundR.Calm.normal ?_
          clear hHeld
          clear hcl hc1
          obtain ⟨W7,hW7⟩:∃ W7,W6.drew.drew = W7:=⟨_,rfl⟩
          have hb2:Below W6.heap.size W6 W7:=by rw [← hW7]; exact (Below.refl _ _).drew.drew
          have HKE:=Lib.hid (show KeepsOthers W6 W7 by rw [← hW7]; exact (KeepsOthers.drew W6).trans (KeepsOthers.drew _))
          have HBM7:=Lib.hid (HBM6.out.below hb2)
          have HSX7:=Lib.hid (HSX6.out.below hb2)
          have HBA7:=Lib.hid (HBA6.out.below hb2)
          have HLB7:=Lib.hid (HLB6.out.below hb2)
          have HSB7:=Lib.hid (HSB6.out.below hb2)
          have HKB7:=Lib.hid (HKB6.out.below hb2)
          rw [hW7]
          have p0:W7.cell? ⟨W.heap.size,0,none⟩ = some (.int .u8 le):=HLB7.out.1.cell (i:=0) rfl
          have n0:=k_now b HKB7.out
          have z0:=HKB7.out.frozen (5 + b.toNat)
          have HLE15:=Lib.hid (show le≤15 by have:=HLE.out; omega)
          obtain ⟨s8,go8,bm8⟩:=HBM7.out.lit HSX7.out HME6.out HLE15.out
          obtain ⟨W8,hW8⟩:∃ W8,W7.setCell ⟨kb2,5 + b.toNat,none⟩ (.int .u8 (le:Int)) = W8:=⟨_,rfl⟩
          have HW8:=Lib.hid hW8
          rw [hW8] at s8 go8 bm8
          have HSX8:=Lib.hid s8
          have HBM8:=Lib.hid bm8
          have HSB8:=Lib.hid (HSB7.out.go go8)
          have HBA8:=Lib.hid (show Base g.wk E W3.heap.size (qx,qy,qz) (gh6.setN b (sx,sy,sz) le) W8 from ⟨HBA7.out.wkE,HBA7.out.near,HBA7.out.box.go go8,HBA7.out.wbox.go go8⟩)
          have HLB8:=Lib.hid (HLB7.out.go go8)
          have HKE8:=Lib.hid (show KeepsOthers W6 W8 from HKE.out.trans (by rw [← hW8]; exact KeepsOthers.setCell _ _ _))
          obtain ⟨vv,hvv⟩:=HBM8.out.kp.get (k:=le) (by have:=HLE15.out; omega)
          obtain ⟨l6,hl6⟩:∃ l6,(ls4 le).length = l6:=⟨_,rfl⟩
          obtain ⟨A6,c6,hvd,_,_,_⟩:=(HBM8.out.kp.own le vv hvv).1.form hl6
          subst hvd
          have hl6n:l6≤1024:=by
           have h1:=Sp.len (st:=(gh6.nw b,ls4)) HF.out HSP6.out.1 le
           have h2:=HREL.out.few
           simp only at h1
           omega
          have HVV:=Lib.hid hvv
          have HL6:=Lib.hid hl6
          have HSL:=Lib.hid (show W8.cell? ⟨w.heap.size + 1,le,none⟩ = some (.slice A6 l6 c6) from HBM8.out.kp.blk.1.cell hvv)
          have HOW:=Lib.hid (show RowG.Own encP TP W8.drew 0 (.slice A6 l6 c6) (ls4 le) from ((HBM8.out.kp.own le _ hvv).below (Below.refl _ _).drew).1)
          have hle16:(le:Int) < 16:=by have:=HLE15.out; omega
          clear hb2 hW7 s8 go8 bm8 hvv hl6
          gi_wp2
          clear hW8
          refine RoundR.region (S:=fun Xw=>Blk Xw W.heap.size 5 [.int .u8 le]) (by kernel_rfl) (by kernel_rfl) (HLB8.out.1) (fun hHeld=>?_)
          refine wpAnyH_take (i:=0) (oi:=⟨some 113,_,_,_,_,_⟩) (v:=.int .u8 le) rfl (by kernel_rfl) (by kernel_rfl) (by kernel_rfl) (fun _ _ _ h=>h) (Or.inl ⟨by rfl,fun Xw hSW=>by have a:=hSW.cell (i:=0) rfl; go_simp⟩) hHeld ?_
          simp only [Act.put,List.setIfInBounds_toArray,List.set_cons_zero,List.set_cons_succ]
          refine wpAnyH_take (i:=1) (oi:=⟨some 114,_,_,_,_,_⟩) (v:=.int .u8 le) rfl (by kernel_rfl) (by kernel_rfl) (by kernel_rfl) (fun _ _ _ h=>h) (Or.inl ⟨by rfl,fun Xw hSW=>by have a:=hSW.cell (i:=0) rfl; go_simp⟩) hHeld ?_
          simp only [Act.put,List.setIfInBounds_toArray,List.set_cons_zero,List.set_cons_succ]
          refine wpAnyH_take (i:=2) (oi:=⟨some 115,_,_,_,_,_⟩) (v:=.pointer (some ⟨w.heap.size + 1,le,none⟩)) rfl (by kernel_rfl) (by kernel_rfl) (by kernel_rfl) (fun _ _ _ h=>h) (Or.inl ⟨by rfl,fun Xw hSW=>by have hv:=hle16; go_simp⟩) hHeld ?_
          simp only [Act.put,List.setIfInBounds_toArray,List.set_cons_zero,List.set_cons_succ]
          refine wpAnyH_ready (rs:=[3,4]) (by kernel_rfl) (by simp) ?_
          refine AllReadyH.cons (o:=⟨some 116,_,_,_,_,_⟩) rfl (fun K hK=>?_) (AllReadyH.cons (o:=⟨some 117,_,_,_,_,_⟩) rfl (fun K hK=>?_) AllReadyH.nil)
          ·have a:=HSL.out
           go_simp
           refine hK.out _ _ (hHeld) (fun hHeld=>?_)
           clear hK K
           refine wpAnyH_ready (rs:=[4]) (by kernel_rfl) (by simp) ?_
           refine AllReadyH.cons (o:=⟨some 117,_,_,_,_,_⟩) rfl (fun K hK=>?_) AllReadyH.nil
           have b0:=HSB8.out.1.cell (i:=0) rfl
           have b1:=HSB8.out.1.cell (i:=1) rfl
           have b2:=HSB8.out.1.cell (i:=2) rfl
           go_simp
           refine hK.out _ _ (hHeld) (fun hHeld=>?_)
           clear hK K
           refine wpAnyH_ready (rs:=[5]) (by kernel_rfl) (by simp) ?_
           refine AllReadyH.cons (o:=⟨some 118,_,_,_,_,_⟩) rfl (fun K hK=>?_) AllReadyH.nil
           go_simp
           refine hK.out _ _ (by (have q:=HLB8.out.1; (repeat' (first | (with_reducible exact q) | (with_reducible refine BlkP.Blk.drew ?_) | (with_reducible refine BlkP.Blk.drewN ?_ _) | (with_reducible refine BlkP.Blk.setAt (us:=?_) (by first | omega | (simp; done) | (simp; omega)) rfl ?_ ?_) | (with_reducible refine BlkP.Blk.otherAt ?_ (by first | omega | (simp; done) | (simp; omega))) | (with_reducible refine BlkP.Blk.newA' (by first | omega | (simp; done) | (simp; omega)) rfl) | (with_reducible refine BlkP.Blk.alloc ?_ _) | (exact rfl))))) (fun hHeld=>?_)
           clear hK K
           refine wpAnyH_ready (rs:=[6]) (by kernel_rfl) (by simp) ?_
           refine AllReadyH.cons (o:=⟨some 119,_,_,_,_,_⟩) rfl (fun K hK=>?_) AllReadyH.nil
           refine step_pushP (w0:=W8.drew) (y:=(sx,sy,sz)) (v:=.slice A6 l6 c6) (l:=ls4 le) rfl (.tmp 116) (.tmp 118) rfl rfl rfl rfl HOW.out rfl HL6.out (by omega) (Nat.zero_le _) ?_
           intro gr7 c7 W9 hpu
           have HPU:=Lib.hid hpu
           have f9:Fr (fun j=>(Value.slice A6 l6 c6).ownBlock = some j) W8.drew W9:=Fr.grown hpu.2.1 (fun i e=>e)
           have nt:∀ {x:Nat} {U:TypeId} {us:List Value},Blk W8.drew x U us→U ≠ TP→¬ (Value.slice A6 l6 c6).ownBlock = some x:=fun hb hU e=>by
            obtain ⟨us2,hu⟩:=own_cells HOW.out e
            exact Blk.ne hb hu hU rfl
           have bl9:Blk W9 (w.heap.size + 1) TKP vs4:=f9.blk HBM8.out.kp.blk.1 (nt HBM8.out.kp.blk.1 (by decide))
           have HB9:=Lib.hid (show Blk W9 W.heap.size 5 [.int .u8 le]∧Blk W9 E TP [.int .i64 qx,.int .i64 qy,.int .i64 qz]∧Blk W9 W3.heap.size 66 [.pointer (some ⟨g.wk,0,none⟩)]∧Blk W9 (w.heap.size + 1) TKP vs4 from ⟨f9.blk HLB8.out.1 (nt HLB8.out.1 (by decide)),f9.blk HBA8.out.box.1 (fun e=>HNE6.out _ _ HVV.out _ e rfl),f9.blk HBA8.out.wbox.1 (nt HBA8.out.wbox.1 (by decide)),bl9⟩)
           have KE:=Lib.hid (show KeepsOthers W6 W9 from (HKE8.out.trans (KeepsOthers.drew _)).trans (KeepsOthers.of_grownBy hpu.2.1 (fun j o e ho=>by
            obtain ⟨us,hu⟩:=own_cells HOW.out e
            unfold Blk at hu
            rw [hu] at ho
            injection ho with ho
            subst ho
            rfl)))
           have c9:=bl9.cell HVV.out
           have z9:=bl9.frozen le
           clear hpu f9 nt bl9
           refine hK.out _ _ (HB9.out.1) (fun hHeld=>?_)
           clear hK K
           refine wpAnyH_ready (rs:=[7]) (by kernel_rfl) (by simp) ?_
           refine AllReadyH.cons (o:=⟨some 120,_,_,_,_,_⟩) rfl (fun K hK=>?_) AllReadyH.nil
           have hv:=hle16
           go_simp
           refine hK.out _ _ (HB9.out.1) (fun hHeld=>?_)
           clear hK K
           refine wpAnyH_ready (rs:=[8]) (by kernel_rfl) (by simp) ?_
           refine AllReadyH.cons (o:=⟨none,_,_,_,_,_⟩) rfl (fun K hK=>?_) AllReadyH.nil
           go_simp
           refine hK.out _ _ (HB9.out.1.otherAt (fun e=>Blk.ne HB9.out.1 HB9.out.2.2.2 (by decide) e)) (fun hHeld=>?_)
           clear hK K
           refine wpAnyH_done (by kernel_rfl) ?_ _
           refine RoundR.Calm.normal ?_
           gi_wp2
           obtain ⟨s9,b9,_,_⟩:=BM.pushed HS.out (HBM8.out.below (Below.refl _ _).drew) (HSX8.out.below (Below.refl _ _).drew) (k:=le) HVV.out HPU.out (by omega)
           have hstp:=(Sp.step HF.out (b:=k) (st:=(gh6.nw b,ls4)) HSP6.out.1 (by omega) (by omega) HSP6.out.2 (by have:=HMM.out.2; omega) (by rw [← HREL.out.side]; exact HSD.out))
           rw [show k - 1 = le by have:=HLE.out; omega,show stepV G le (gh6.nw b,ls4) (sx,sy,sz) = (up (gh6.nw b) (sx,sy,sz) le,pushV ls4 le (sx,sy,sz)) from if_pos HYES.out] at hstp
           refine ⟨KE.out.trans (KeepsOthers.setCell _ _ _),gh6.setN b (sx,sy,sz) le,s9,⟨HBA8.out.wkE,HBA8.out.near,⟨HB9.out.2.1.otherAt (fun e=>Blk.ne HB9.out.2.1 HB9.out.2.2.2 (by decide) e),HBA8.out.box.2⟩,⟨HB9.out.2.2.1.otherAt (fun e=>Blk.ne HB9.out.2.2.1 HB9.out.2.2.2 (by decide) e),HBA8.out.wbox.2⟩⟩,⟨_,_,b9,?_,(List.getElem?_set_ne (by have:=HLE.out; omega)).trans HVR6.out,?_,⟨HB9.out.1.otherAt (fun e=>Blk.ne HB9.out.1 HB9.out.2.2.2 (by decide) e),HLB8.out.2⟩,?_⟩,fun k h _=>h⟩
           ·(try rw [List.map_append,List.map_singleton]); (try rw [List.foldl_append])
            rw [← HST6.out,setN_b]
            exact (if_pos HYES.out).symm
           ·rw [setN_b]
            exact ⟨hstp.1,Nat.le_trans HSP6.out.2 (hstp.2.1 _)⟩
           ·intro i u hi x hx
            by_cases ei:i = le
            ·subst ei
             rw [List.getElem?_set_self (List.getElem?_eq_some_iff.1 HVV.out).1] at hi
             injection hi with hi
             rw [← hi] at hx
             have e2:gr7 = x:=by simpa [Value.ownBlock] using hx
             subst e2
             rcases HPU.out.2.2 with q1 | q1
             ·exact HNE6.out _ _ HVV.out _ q1
             ·intro e3
              have h1:=HBA8.out.box.1.lt
              have h2:W8.drew.heap.size = W8.heap.size:=rfl
              omega
            ·rw [List.getElem?_set_ne (fun q=>ei q.symm)] at hi
             exact HNE6.out _ _ hi _ hx
          ·have b0:=HSB8.out.1.cell (i:=0) rfl
           have b1:=HSB8.out.1.cell (i:=1) rfl
           have b2:=HSB8.out.1.cell (i:=2) rfl
           go_simp
           refine hK.out _ _ (hHeld) (fun hHeld=>?_)
           clear hK K
           refine wpAnyH_ready (rs:=[3,5]) (by kernel_rfl) (by simp) ?_
           refine AllReadyH.cons (o:=⟨some 116,_,_,_,_,_⟩) rfl (fun K hK=>?_) (AllReadyH.cons (o:=⟨some 118,_,_,_,_,_⟩) rfl (fun K hK=>?_) AllReadyH.nil)
           ·have a:=HSL.out
            go_simp
            refine hK.out _ _ (hHeld) (fun hHeld=>?_)
            clear hK K
            refine wpAnyH_ready (rs:=[5]) (by kernel_rfl) (by simp) ?_
            refine AllReadyH.cons (o:=⟨some 118,_,_,_,_,_⟩) rfl (fun K hK=>?_) AllReadyH.nil
            go_simp
            refine hK.out _ _ (by (have q:=HLB8.out.1; (repeat' (first | (with_reducible exact q) | (with_reducible refine BlkP.Blk.drew ?_) | (with_reducible refine BlkP.Blk.drewN ?_ _) | (with_reducible refine BlkP.Blk.setAt (us:=?_) (by first | omega | (simp; done) | (simp; omega)) rfl ?_ ?_) | (with_reducible refine BlkP.Blk.otherAt ?_ (by first | omega | (simp; done) | (simp; omega))) | (with_reducible refine BlkP.Blk.newA' (by first | omega | (simp; done) | (simp; omega)) rfl) | (with_reducible refine BlkP.Blk.alloc ?_ _) | (exact rfl))))) (fun hHeld=>?_)
            clear hK K
            refine wpAnyH_ready (rs:=[6]) (by kernel_rfl) (by simp) ?_
            refine AllReadyH.cons (o:=⟨some 119,_,_,_,_,_⟩) rfl (fun K hK=>?_) AllReadyH.nil
            refine step_pushP (w0:=W8.drew) (y:=(sx,sy,sz)) (v:=.slice A6 l6 c6) (l:=ls4 le) rfl (.tmp 116) (.tmp 118) rfl rfl rfl rfl HOW.out rfl HL6.out (by omega) (Nat.zero_le _) ?_
            intro gr7 c7 W9 hpu
            have HPU:=Lib.hid hpu
            have f9:Fr (fun j=>(Value.slice A6 l6 c6).ownBlock = some j) W8.drew W9:=Fr.grown hpu.2.1 (fun i e=>e)
            have nt:∀ {x:Nat} {U:TypeId} {us:List Value},Blk W8.drew x U us→U ≠ TP→¬ (Value.slice A6 l6 c6).ownBlock = some x:=fun hb hU e=>by
             obtain ⟨us2,hu⟩:=own_cells HOW.out e
             exact Blk.ne hb hu hU rfl
            have bl9:Blk W9 (w.heap.size + 1) TKP vs4:=f9.blk HBM8.out.kp.blk.1 (nt HBM8.out.kp.blk.1 (by decide))
            have HB9:=Lib.hid (show Blk W9 W.heap.size 5 [.int .u8 le]∧Blk W9 E TP [.int .i64 qx,.int .i64 qy,.int .i64 qz]∧Blk W9 W3.heap.size 66 [.pointer (some ⟨g.wk,0,none⟩)]∧Blk W9 (w.heap.size + 1) TKP vs4 from ⟨f9.blk HLB8.out.1 (nt HLB8.out.1 (by decide)),f9.blk HBA8.out.box.1 (fun e=>HNE6.out _ _ HVV.out _ e rfl),f9.blk HBA8.out.wbox.1 (nt HBA8.out.wbox.1 (by decide)),bl9⟩)
            have KE:=Lib.hid (show KeepsOthers W6 W9 from (HKE8.out.trans (KeepsOthers.drew _)).trans (KeepsOthers.of_grownBy hpu.2.1 (fun j o e ho=>by
             obtain ⟨us,hu⟩:=own_cells HOW.out e
             unfold Blk at hu
             rw [hu] at ho
             injection ho with ho
             subst ho
             rfl)))
            have c9:=bl9.cell HVV.out
            have z9:=bl9.frozen le
            clear hpu f9 nt bl9
            refine hK.out _ _ (HB9.out.1) (fun hHeld=>?_)
            clear hK K
            refine wpAnyH_ready (rs:=[7]) (by kernel_rfl) (by simp) ?_
            refine AllReadyH.cons (o:=⟨some 120,_,_,_,_,_⟩) rfl (fun K hK=>?_) AllReadyH.nil
            have hv:=hle16
            go_simp
            refine hK.out _ _ (HB9.out.1) (fun hHeld=>?_)
            clear hK K
            refine wpAnyH_ready (rs:=[8]) (by kernel_rfl) (by simp) ?_
            refine AllReadyH.cons (o:=⟨none,_,_,_,_,_⟩) rfl (fun K hK=>?_) AllReadyH.nil
            go_simp
            refine hK.out _ _ (HB9.out.1.otherAt (fun e=>Blk.ne HB9.out.1 HB9.out.2.2.2 (by decide) e)) (fun hHeld=>?_)
            clear hK K
            refine wpAnyH_done (by kernel_rfl) ?_ _
            refine RoundR.Calm.normal ?_
            gi_wp2
            obtain ⟨s9,b9,_,_⟩:=BM.pushed HS.out (HBM8.out.below (Below.refl _ _).drew) (HSX8.out.below (Below.refl _ _).drew) (k:=le) HVV.out HPU.out (by omega)
            have hstp:=(Sp.step HF.out (b:=k) (st:=(gh6.nw b,ls4)) HSP6.out.1 (by omega) (by omega) HSP6.out.2 (by have:=HMM.out.2; omega) (by rw [← HREL.out.side]; exact HSD.out))
            rw [show k - 1 = le by have:=HLE.out; omega,show stepV G le (gh6.nw b,ls4) (sx,sy,sz) = (up (gh6.nw b) (sx,sy,sz) le,pushV ls4 le (sx,sy,sz)) from if_pos HYES.out] at hstp
            refine ⟨KE.out.trans (KeepsOthers.setCell _ _ _),gh6.setN b (sx,sy,sz) le,s9,⟨HBA8.out.wkE,HBA8.out.near,⟨HB9.out.2.1.otherAt (fun e=>Blk.ne HB9.out.2.1 HB9.out.2.2.2 (by decide) e),HBA8.out.box.2⟩,⟨HB9.out.2.2.1.otherAt (fun e=>Blk.ne HB9.out.2.2.1 HB9.out.2.2.2 (by decide) e),HBA8.out.wbox.2⟩⟩,⟨_,_,b9,?_,(List.getElem?_set_ne (by have:=HLE.out; omega)).trans HVR6.out,?_,⟨HB9.out.1.otherAt (fun e=>Blk.ne HB9.out.1 HB9.out.2.2.2 (by decide) e),HLB8.out.2⟩,?_⟩,fun k h _=>h⟩
            ·(try rw [List.map_append,List.map_singleton]); (try rw [List.foldl_append])
             rw [← HST6.out,setN_b]
             exact (if_pos HYES.out).symm
            ·rw [setN_b]
             exact ⟨hstp.1,Nat.le_trans HSP6.out.2 (hstp.2.1 _)⟩
            ·intro i u hi x hx
             by_cases ei:i = le
             ·subst ei
              rw [List.getElem?_set_self (List.getElem?_eq_some_iff.1 HVV.out).1] at hi
              injection hi with hi
              rw [← hi] at hx
              have e2:gr7 = x:=by simpa [Value.ownBlock] using hx
              subst e2
              rcases HPU.out.2.2 with q1 | q1
              ·exact HNE6.out _ _ HVV.out _ q1
              ·intro e3
               have h1:=HBA8.out.box.1.lt
               have h2:W8.drew.heap.size = W8.heap.size:=rfl
               omega
             ·rw [List.getElem?_set_ne (fun q=>ei q.symm)] at hi
              exact HNE6.out _ _ hi _ hx
           ·go_simp
            refine hK.out _ _ (by (have q:=HLB8.out.1; (repeat' (first | (with_reducible exact q) | (with_reducible refine BlkP.Blk.drew ?_) | (with_reducible refine BlkP.Blk.drewN ?_ _) | (with_reducible refine BlkP.Blk.setAt (us:=?_) (by first | omega | (simp; done) | (simp; omega)) rfl ?_ ?_) | (with_reducible refine BlkP.Blk.otherAt ?_ (by first | omega | (simp; done) | (simp; omega))) | (with_reducible refine BlkP.Blk.newA' (by first | omega | (simp; done) | (simp; omega)) rfl) | (with_reducible refine BlkP.Blk.alloc ?_ _) | (exact rfl))))) (fun hHeld=>?_)
            clear hK K
            refine wpAnyH_ready (rs:=[3]) (by kernel_rfl) (by simp) ?_
            refine AllReadyH.cons (o:=⟨some 116,_,_,_,_,_⟩) rfl (fun K hK=>?_) AllReadyH.nil
            have hla:(W8.alloc (.cells #[.int .i64 sx,.int .i64 sy,.int .i64 sz] TP)).cell? ⟨w.heap.size + 1,le,none⟩ = some (.slice A6 l6 c6):=by (have q:=HSL.out; have hl:=HBM8.out.kp.blk.1.lt; (repeat' (first | (with_reducible assumption) | (with_reducible refine HeldP.c_drew ?_) | (with_reducible refine HeldP.c_drewN ?_) | (with_reducible refine HeldP.c_same (by omega) ?_) | (with_reducible refine HeldP.c_other ?_ ?_) | (with_reducible refine HeldP.c_new (by first | omega | (simp; done) | (simp; omega)) ?_) | (with_reducible refine HeldP.c_alloc ?_ ?_) | (with_reducible refine HeldP.e_drew ?_) | (with_reducible refine HeldP.e_drewN ?_) | (with_reducible refine HeldP.e_set ?_) | (with_reducible refine HeldP.e_new (by first | omega | (simp; done) | (simp; omega)) ⟨_,rfl⟩) | (with_reducible refine HeldP.e_alloc ?_ ?_) | (with_reducible refine HeldP.f_drew ?_) | (with_reducible refine HeldP.f_drewN ?_) | (with_reducible refine HeldP.f_set ?_) | (with_reducible refine HeldP.f_new (by first | omega | (simp; done) | (simp; omega))) | (with_reducible refine HeldP.f_alloc ?_ ?_) | (with_reducible refine HeldP.s_drew ?_) | (with_reducible refine HeldP.s_drewN ?_) | (with_reducible refine HeldP.s_set ?_) | (with_reducible refine HeldP.s_new (by first | omega | (simp; done) | (simp; omega))) | (with_reducible refine HeldP.s_alloc ?_) | (with_reducible exact ⟨_,by assumption⟩) | omega | (intro e; simp at e; done) | (intro e; simp at e; omega) | (exact rfl) | (simp; done) | (simp; omega))))
            have hlb:(W8.drew.alloc (.cells #[.int .i64 sx,.int .i64 sy,.int .i64 sz] TP)).cell? ⟨w.heap.size + 1,le,none⟩ = some (.slice A6 l6 c6):=hla
            go_simp
            refine hK.out _ _ (hHeld) (fun hHeld=>?_)
            clear hK K
            refine wpAnyH_ready (rs:=[6]) (by kernel_rfl) (by simp) ?_
            refine AllReadyH.cons (o:=⟨some 119,_,_,_,_,_⟩) rfl (fun K hK=>?_) AllReadyH.nil
            refine step_pushP (w0:=W8.drew) (y:=(sx,sy,sz)) (v:=.slice A6 l6 c6) (l:=ls4 le) rfl (.tmp 116) (.tmp 118) rfl rfl rfl rfl HOW.out rfl HL6.out (by omega) (Nat.zero_le _) ?_
            intro gr7 c7 W9 hpu
            have HPU:=Lib.hid hpu
            have f9:Fr (fun j=>(Value.slice A6 l6 c6).ownBlock = some j) W8.drew W9:=Fr.grown hpu.2.1 (fun i e=>e)
            have nt:∀ {x:Nat} {U:TypeId} {us:List Value},Blk W8.drew x U us→U ≠ TP→¬ (Value.slice A6 l6 c6).ownBlock = some x:=fun hb hU e=>by
             obtain ⟨us2,hu⟩:=own_cells HOW.out e
             exact Blk.ne hb hu hU rfl
            have bl9:Blk W9 (w.heap.size + 1) TKP vs4:=f9.blk HBM8.out.kp.blk.1 (nt HBM8.out.kp.blk.1 (by decide))
            have HB9:=Lib.hid (show Blk W9 W.heap.size 5 [.int .u8 le]∧Blk W9 E TP [.int .i64 qx,.int .i64 qy,.int .i64 qz]∧Blk W9 W3.heap.size 66 [.pointer (some ⟨g.wk,0,none⟩)]∧Blk W9 (w.heap.size + 1) TKP vs4 from ⟨f9.blk HLB8.out.1 (nt HLB8.out.1 (by decide)),f9.blk HBA8.out.box.1 (fun e=>HNE6.out _ _ HVV.out _ e rfl),f9.blk HBA8.out.wbox.1 (nt HBA8.out.wbox.1 (by decide)),bl9⟩)
            have KE:=Lib.hid (show KeepsOthers W6 W9 from (HKE8.out.trans (KeepsOthers.drew _)).trans (KeepsOthers.of_grownBy hpu.2.1 (fun j o e ho=>by
             obtain ⟨us,hu⟩:=own_cells HOW.out e
             unfold Blk at hu
             rw [hu] at ho
             injection ho with ho
             subst ho
             rfl)))
            have c9:=bl9.cell HVV.out
            have z9:=bl9.frozen le
            clear hpu f9 nt bl9
            refine hK.out _ _ (HB9.out.1) (fun hHeld=>?_)
            clear hK K
            refine wpAnyH_ready (rs:=[7]) (by kernel_rfl) (by simp) ?_
            refine AllReadyH.cons (o:=⟨some 120,_,_,_,_,_⟩) rfl (fun K hK=>?_) AllReadyH.nil
            have hv:=hle16
            go_simp
            refine hK.out _ _ (HB9.out.1) (fun hHeld=>?_)
            clear hK K
            refine wpAnyH_ready (rs:=[8]) (by kernel_rfl) (by simp) ?_
            refine AllReadyH.cons (o:=⟨none,_,_,_,_,_⟩) rfl (fun K hK=>?_) AllReadyH.nil
            go_simp
            refine hK.out _ _ (HB9.out.1.otherAt (fun e=>Blk.ne HB9.out.1 HB9.out.2.2.2 (by decide) e)) (fun hHeld=>?_)
            clear hK K
            refine wpAnyH_done (by kernel_rfl) ?_ _
            refine RoundR.Calm.normal ?_
            gi_wp2
            obtain ⟨s9,b9,_,_⟩:=BM.pushed HS.out (HBM8.out.below (Below.refl _ _).drew) (HSX8.out.below (Below.refl _ _).drew) (k:=le) HVV.out HPU.out (by omega)
            have hstp:=(Sp.step HF.out (b:=k) (st:=(gh6.nw b,ls4)) HSP6.out.1 (by omega) (by omega) HSP6.out.2 (by have:=HMM.out.2; omega) (by rw [← HREL.out.side]; exact HSD.out))
            rw [show k - 1 = le by have:=HLE.out; omega,show stepV G le (gh6.nw b,ls4) (sx,sy,sz) = (up (gh6.nw b) (sx,sy,sz) le,pushV ls4 le (sx,sy,sz)) from if_pos HYES.out] at hstp
            refine ⟨KE.out.trans (KeepsOthers.setCell _ _ _),gh6.setN b (sx,sy,sz) le,s9,⟨HBA8.out.wkE,HBA8.out.near,⟨HB9.out.2.1.otherAt (fun e=>Blk.ne HB9.out.2.1 HB9.out.2.2.2 (by decide) e),HBA8.out.box.2⟩,⟨HB9.out.2.2.1.otherAt (fun e=>Blk.ne HB9.out.2.2.1 HB9.out.2.2.2 (by decide) e),HBA8.out.wbox.2⟩⟩,⟨_,_,b9,?_,(List.getElem?_set_ne (by have:=HLE.out; omega)).trans HVR6.out,?_,⟨HB9.out.1.otherAt (fun e=>Blk.ne HB9.out.1 HB9.out.2.2.2 (by decide) e),HLB8.out.2⟩,?_⟩,fun k h _=>h⟩
            ·(try rw [List.map_append,List.map_singleton]); (try rw [List.foldl_append])
             rw [← HST6.out,setN_b]
             exact (if_pos HYES.out).symm
            ·rw [setN_b]
             exact ⟨hstp.1,Nat.le_trans HSP6.out.2 (hstp.2.1 _)⟩
            ·intro i u hi x hx
             by_cases ei:i = le
             ·subst ei
              rw [List.getElem?_set_self (List.getElem?_eq_some_iff.1 HVV.out).1] at hi
              injection hi with hi
              rw [← hi] at hx
              have e2:gr7 = x:=by simpa [Value.ownBlock] using hx
              subst e2
              rcases HPU.out.2.2 with q1 | q1
              ·exact HNE6.out _ _ HVV.out _ q1
              ·intro e3
               have h1:=HBA8.out.box.1.lt
               have h2:W8.drew.heap.size = W8.heap.size:=rfl
               omega
             ·rw [List.getElem?_set_ne (fun q=>ei q.symm)] at hi
              exact HNE6.out _ _ hi _ hx
         ·have HNO:=Lib.hid (show stepV G le (gh6.nw b,ls4) (sx,sy,sz) = (gh6.nw b,ls4) by unfold stepV; rw [if_neg]; rintro ⟨_,h2⟩; exact hc1 (by rw [← HNV.out]; exact h2))
          have hLt:¬ (nv:Int) < (le:Int):=by omega
          have hLd:decide ((nv:Int) < (le:Int)) = false:=decide_eq_false hLt
          refine RoundR.region (S:=fun Xw=>(Xw.cell? ⟨kb2,0,none⟩ = some (.bool true)∧Xw.cell? ⟨kb2,5 + b.toNat,none⟩ = some (.int .u8 nv))∧Blk Xw W.heap.size 5 [.int .u8 le]) (by kernel_rfl) (by kernel_rfl) (⟨⟨by rw [← hcl]; exact HCN6.out,HNW6.out⟩,HLB6.out.1⟩) (fun hHeld=>?_)
          refine wpAnyH_take (i:=0) (oi:=⟨some 99,_,_,_,_,_⟩) (v:=.pointer (some ⟨kb2,0,none⟩)) rfl (by kernel_rfl) (by kernel_rfl) (by kernel_rfl) (fun _ _ _ h=>h) (Or.inl ⟨by rfl,fun Xw hSW=>by go_simp⟩) hHeld ?_
          simp only [Act.put,List.setIfInBounds_toArray,List.set_cons_zero,List.set_cons_succ]
          refine wpAnyH_take (i:=1) (oi:=⟨some 100,_,_,_,_,_⟩) (v:=.pointer (some ⟨kb2,0,none⟩)) rfl (by kernel_rfl) (by kernel_rfl) (by kernel_rfl) (fun _ _ _ h=>h) (Or.inl ⟨by rfl,fun Xw hSW=>by go_simp⟩) hHeld ?_
          simp only [Act.put,List.setIfInBounds_toArray,List.set_cons_zero,List.set_cons_succ]
          refine wpAnyH_take (i:=2) (oi:=⟨some 101,_,_,_,_,_⟩) (v:=.pointer (some ⟨kb2,0,none⟩)) rfl (by kernel_rfl) (by kernel_rfl) (by kernel_rfl) (fun _ _ _ h=>h) (Or.inl ⟨by rfl,fun Xw hSW=>by go_simp⟩) hHeld ?_
          simp only [Act.put,List.setIfInBounds_toArray,List.set_cons_zero,List.set_cons_succ]
          refine wpAnyH_take (i:=3) (oi:=⟨some 102,_,_,_,_,_⟩) (v:=.bool true) rfl (by kernel_rfl) (by kernel_rfl) (by kernel_rfl) (fun _ _ _ h=>h) (Or.inl ⟨by rfl,fun Xw hSW=>by have a:=hSW.1.1; go_simp⟩) hHeld ?_
          simp only [Act.put,List.setIfInBounds_toArray,List.set_cons_zero,List.set_cons_succ]
          refine wpAnyH_take (i:=4) (oi:=⟨some 103,_,_,_,_,_⟩) (v:=.bool true) rfl (by kernel_rfl) (by kernel_rfl) (by kernel_rfl) (fun _ _ _ h=>h) (Or.inl ⟨by rfl,fun Xw hSW=>by go_simp⟩) hHeld ?_
          simp only [Act.put,List.setIfInBounds_toArray,List.set_cons_zero,List.set_cons_succ]
          refine wpAnyH_take (i:=5) (oi:=⟨some 104,_,_,_,_,_⟩) (v:=.pointer (some ⟨kb2,5 + b.toNat,none⟩)) rfl (by kernel_rfl) (by kernel_rfl) (by kernel_rfl) (fun _ _ _ h=>h) (Or.inl ⟨by rfl,fun Xw hSW=>by go_simp⟩) hHeld ?_
          simp only [Act.put,List.setIfInBounds_toArray,List.set_cons_zero,List.set_cons_succ]
          refine wpAnyH_take (i:=6) (oi:=⟨some 105,_,_,_,_,_⟩) (v:=.pointer (some ⟨kb2,5 + b.toNat,none⟩)) rfl (by kernel_rfl) (by kernel_rfl) (by kernel_rfl) (fun _ _ _ h=>h) (Or.inl ⟨by rfl,fun Xw hSW=>by go_simp⟩) hHeld ?_
          simp only [Act.put,List.setIfInBounds_toArray,List.set_cons_zero,List.set_cons_succ]
          refine wpAnyH_take (i:=7) (oi:=⟨some 106,_,_,_,_,_⟩) (v:=.int .u8 nv) rfl (by kernel_rfl) (by kernel_rfl) (by kernel_rfl) (fun _ _ _ h=>h) (Or.inl ⟨by rfl,fun Xw hSW=>by have a:=hSW.1.2; go_simp⟩) hHeld ?_
          simp only [Act.put,List.setIfInBounds_toArray,List.set_cons_zero,List.set_cons_succ]
          refine wpAnyH_take (i:=8) (oi:=⟨some 107,_,_,_,_,_⟩) (v:=.int .u8 le) rfl (by kernel_rfl) (by kernel_rfl) (by kernel_rfl) (fun _ _ _ h=>h) (Or.inl ⟨by rfl,fun Xw hSW=>by have a:=hSW.2.cell (i:=0) rfl; go_simp⟩) hHeld ?_
          simp only [Act.put,List.setIfInBounds_toArray,List.set_cons_zero,List.set_cons_succ]
          refine wpAnyH_take (i:=9) (oi:=⟨some 108,_,_,_,_,_⟩) (v:=.bool false) rfl (by kernel_rfl) (by kernel_rfl) (by kernel_rfl) (fun _ _ _ h=>h) (Or.inl ⟨by rfl,fun Xw hSW=>by have q1:=hLt; go_simp⟩) hHeld ?_
          simp only [Act.put,List.setIfInBounds_toArray,List.set_cons_zero,List.set_cons_succ]
          refine wpAnyH_take (i:=10) (oi:=⟨some 109,_,_,_,_,_⟩) (v:=.bool false) rfl (by kernel_rfl) (by kernel_rfl) (by kernel_rfl) (fun _ _ _ h=>h) (Or.inl ⟨by rfl,fun Xw hSW=>by go_simp⟩) hHeld ?_
          simp only [Act.put,List.setIfInBounds_toArray,List.set_cons_zero,List.set_cons_succ]
          refine wpAnyH_done (by kernel_rfl) ?_ _
          refine RoundR.Calm.normal ?_
          clear hHeld
          gi_wp2
          have hb2:Below W6.heap.size W6 W6.drew.drew:=(Below.refl _ _).drew.drew
          exact ⟨(KeepsOthers.drew W6).trans (KeepsOthers.drew _),gh6,HSX6.out.below hb2,HBA6.out.below hb2,⟨vs4,ls4,HBM6.out.below hb2,by (try rw [List.map_append,List.map_singleton]); (try rw [List.foldl_append]); rw [← HST6.out]; exact HNO.out.symm,HVR6.out,HSP6.out,HLB6.out.below hb2,HNE6.out⟩,fun k h _=>h⟩
        | false =>
         have HNO:=Lib.hid (show stepV G le (gh6.nw b,ls4) (sx,sy,sz) = (gh6.nw b,ls4) by unfold stepV; rw [if_neg]; rintro ⟨h2,_⟩; rw [hcl] at h2; cases h2)
         refine RoundR.region (S:=fun Xw=>(Xw.cell? ⟨kb2,0,none⟩ = some (.bool false)∧Xw.cell? ⟨kb2,5 + b.toNat,none⟩ = some (.int .u8 nv))∧Blk Xw W.heap.size 5 [.int .u8 le]) (by kernel_rfl) (by kernel_rfl) (⟨⟨by rw [← hcl]; exact HCN6.out,HNW6.out⟩,HLB6.out.1⟩) (fun hHeld=>?_)
         refine wpAnyH_take (i:=0) (oi:=⟨some 99,_,_,_,_,_⟩) (v:=.pointer (some ⟨kb2,0,none⟩)) rfl (by kernel_rfl) (by kernel_rfl) (by kernel_rfl) (fun _ _ _ h=>h) (Or.inl ⟨by rfl,fun Xw hSW=>by go_simp⟩) hHeld ?_
         simp only [Act.put,List.setIfInBounds_toArray,List.set_cons_zero,List.set_cons_succ]
         refine wpAnyH_take (i:=1) (oi:=⟨some 100,_,_,_,_,_⟩) (v:=.pointer (some ⟨kb2,0,none⟩)) rfl (by kernel_rfl) (by kernel_rfl) (by kernel_rfl) (fun _ _ _ h=>h) (Or.inl ⟨by rfl,fun Xw hSW=>by go_simp⟩) hHeld ?_
         simp only [Act.put,List.setIfInBounds_toArray,List.set_cons_zero,List.set_cons_succ]
         refine wpAnyH_take (i:=2) (oi:=⟨some 101,_,_,_,_,_⟩) (v:=.pointer (some ⟨kb2,0,none⟩)) rfl (by kernel_rfl) (by kernel_rfl) (by kernel_rfl) (fun _ _ _ h=>h) (Or.inl ⟨by rfl,fun Xw hSW=>by go_simp⟩) hHeld ?_
         simp only [Act.put,List.setIfInBounds_toArray,List.set_cons_zero,List.set_cons_succ]
         refine wpAnyH_take (i:=3) (oi:=⟨some 102,_,_,_,_,_⟩) (v:=.bool false) rfl (by kernel_rfl) (by kernel_rfl) (by kernel_rfl) (fun _ _ _ h=>h) (Or.inl ⟨by rfl,fun Xw hSW=>by have a:=hSW.1.1; go_simp⟩) hHeld ?_
         simp only [Act.put,List.setIfInBounds_toArray,List.set_cons_zero,List.set_cons_succ]
         refine wpAnyH_take (i:=4) (oi:=⟨some 103,_,_,_,_,_⟩) (v:=.bool false) rfl (by kernel_rfl) (by kernel_rfl) (by kernel_rfl) (fun _ _ _ h=>h) (Or.inl ⟨by rfl,fun Xw hSW=>by go_simp⟩) hHeld ?_
         simp only [Act.put,List.setIfInBounds_toArray,List.set_cons_zero,List.set_cons_succ]
         refine wpAnyH_take (i:=5) (oi:=⟨some 104,_,_,_,_,_⟩) (v:=undef) rfl (by kernel_rfl) (by kernel_rfl) (by kernel_rfl) (fun _ _ _ h=>h) (Or.inr ⟨by kernel_rfl,rfl⟩) hHeld ?_
         simp only [Act.put,List.setIfInBounds_toArray,List.set_cons_zero,List.set_cons_succ]
         refine wpAnyH_take (i:=6) (oi:=⟨some 105,_,_,_,_,_⟩) (v:=undef) rfl (by kernel_rfl) (by kernel_rfl) (by kernel_rfl) (fun _ _ _ h=>h) (Or.inr ⟨by kernel_rfl,rfl⟩) hHeld ?_
         simp only [Act.put,List.setIfInBounds_toArray,List.set_cons_zero,List.set_cons_succ]
         refine wpAnyH_take (i:=7) (oi:=⟨some 106,_,_,_,_,_⟩) (v:=undef) rfl (by kernel_rfl) (by kernel_rfl) (by kernel_rfl) (fun _ _ _ h=>h) (Or.inr ⟨by kernel_rfl,rfl⟩) hHeld ?_
         simp only [Act.put,List.setIfInBounds_toArray,List.set_cons_zero,List.set_cons_succ]
         refine wpAnyH_take (i:=8) (oi:=⟨some 107,_,_,_,_,_⟩) (v:=undef) rfl (by kernel_rfl) (by kernel_rfl) (by kernel_rfl) (fun _ _ _ h=>h) (Or.inr ⟨by kernel_rfl,rfl⟩) hHeld ?_
         simp only [Act.put,List.setIfInBounds_toArray,List.set_cons_zero,List.set_cons_succ]
         refine wpAnyH_take (i:=9) (oi:=⟨some 108,_,_,_,_,_⟩) (v:=undef) rfl (by kernel_rfl) (by kernel_rfl) (by kernel_rfl) (fun _ _ _ h=>h) (Or.inr ⟨by kernel_rfl,rfl⟩) hHeld ?_
         simp only [Act.put,List.setIfInBounds_toArray,List.set_cons_zero,List.set_cons_succ]
         refine wpAnyH_take (i:=10) (oi:=⟨some 109,_,_,_,_,_⟩) (v:=.bool false) rfl (by kernel_rfl) (by kernel_rfl) (by kernel_rfl) (fun _ _ _ h=>h) (Or.inl ⟨by rfl,fun Xw hSW=>by go_simp⟩) hHeld ?_
         simp only [Act.put,List.setIfInBounds_toArray,List.set_cons_zero,List.set_cons_succ]
         refine wpAnyH_done (by kernel_rfl) ?_ _
         refine RoundR.Calm.normal ?_
         clear hHeld
         gi_wp2
         have hb2:Below W6.heap.size W6 W6.drew.drew:=(Below.refl _ _).drew.drew
         exact ⟨(KeepsOthers.drew W6).trans (KeepsOthers.drew _),gh6,HSX6.out.below hb2,HBA6.out.below hb2,⟨vs4,ls4,HBM6.out.below hb2,by (try rw [List.map_append,List.map_singleton]); (try rw [List.foldl_append]); rw [← HST6.out]; exact HNO.out.symm,HVR6.out,HSP6.out,HLB6.out.below hb2,HNE6.out⟩,fun k h _=>h⟩
       case done =>
        rintro D xs W' hD hxs ⟨gh6,hsx,hbase,⟨vs4,ls4,hbm,hst,hvr,_,hlb,_⟩,hnD⟩ hk
        have ex:=hxs.trans (HREL.out.side _)
        rw [ex] at hst
        have HBM6:=Lib.hid (hbm.mark (fun F hF=>by have:=HDSW.out F hF; omega) (by have:=HB5S.out; omega) hk hnD)
        have HSX6:=Lib.hid hsx
        have HLB6:=Lib.hid hlb
        have HST6:=Lib.hid hst
        have HVR6:=Lib.hid hvr
        clear hxs ex hst hsx hbase hbm hvr hlb hnD hk
        go_wp2_with fail
        refine Handed.intro (1025 - (j + 1)) (by omega) (HJ2.out _ _ _ ?_)
        refine ⟨_,_,_,_,_,_,_,_,_,_,_,_,_,_,_,_,_,D :: Ds2,⟨j + 1,vs4,ls4,gh6,by go_num,rfl,by omega,HSX6.out,?_,HBM6.out,HVR6.out,HLB6.out⟩,rfl⟩
        rw [HST6.out,List.take_add_one,HQ.out,List.foldl_append,← HST2.out]
        rfl
      ·have hjI:¬ (j:Int) < lr:=by omega
       obtain rfl:lr = j:=by omega
       have hs8:=sub8F (k:=k) (le:=le) (by have:=HLE.out; omega) (by have:=HLE.out; omega)
       have hwr:IntKind.u8.wrap ((k:Int) - 1) = (le:Int):=by rw [IntKind.wrap_u8]; have:=HLE.out; omega
       go_wp2_with fail
       refine HKK.out _ _ (Handed.intro le (by have:=HLE.out; omega) (HJ.out _ _ _ ?_))
       refine ⟨_,_,_,_,_,_,_,_,_,_,_,_,_,_,_,_,_,_,_,_,_,_,_,_,_,_,_,_,_,_,_,_,_,_,_,_,_,_,_,_,_,_,_,_,_,_,_,_,_,_,_,_,_,_,_,_,_,_,Ds2,⟨le,vs2,ls2,g2,rfl,rfl,by have:=HLE.out; omega,by have:=HLE.out; omega,HSX2.out.below (by (repeat' (first | (with_reducible exact Below.refl _ _) | (with_reducible refine Below.setCell ?_ (by (first | omega | (simp; done) | (simp; omega))) _) | (with_reducible refine Below.alloc ?_ (by (first | omega | (simp; done) | (simp; omega))) _) | (with_reducible refine Below.drew ?_) | (with_reducible refine below_drewN ?_ _)))),?_,HBM2.out.below (by (repeat' (first | (with_reducible exact Below.refl _ _) | (with_reducible refine Below.setCell ?_ (by (first | omega | (simp; done) | (simp; omega))) _) | (with_reducible refine Below.alloc ?_ (by (first | omega | (simp; done) | (simp; omega))) _) | (with_reducible refine Below.drew ?_) | (with_reducible refine below_drewN ?_ _))))⟩,rfl⟩
       have ht:=Sp.turn (b:=k) (st:=(gh.nw b,ls)) HF.out HSP.out (by omega) (by omega)
       have e:=HST2.out
       rw [← HLR.out,List.take_length] at e
       rw [turnV,show k - 1 = le by have:=HLE.out; omega,← e] at ht
       exact ht
    ·obtain rfl:k = 1:=by omega
     go_wp2_with fail
     refine leaves_marks (B:=w.heap.size) Ds W HBM.out.mks (fun W' h1 h2 h3 h4 h5 h6=>⟨_,results_none rfl _ _ _,?_⟩)
     obtain ⟨s1,s2⟩:=Sx.left HS.out HBM.out.m HSX.out HBM.out.go h1 h2 h3 h4 h5 h6
     exact ⟨ls,gh,rfl,HBM.out.m,HSP.out,s1,s2⟩
end FloodW
end Go.Proofs.YtpimkdaikoclnaaDoor
