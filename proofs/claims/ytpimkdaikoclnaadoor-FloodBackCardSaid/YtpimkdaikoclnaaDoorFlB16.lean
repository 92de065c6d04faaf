import Derived.Deep.RegionHeld3
import Derived.Test.YtpimkdaikoclnaaDoorFlB15
import Derived.Test.YtpimkdaikoclnaaDoorTie
import Derived.Test.YtpimkdaikoclnaaDoorFlB1
import Derived.ProofKit
import Derived.LaidMore
import Derived.OpenShut
import Derived.Test.YtpimkdaikoclnaaDoorRows
import Derived.Carry
import Derived.Lib.SmallJoins
import Derived.Deep.Slices
namespace Go.Proofs.YtpimkdaikoclnaaDoor
open Go.RowKit
set_option linter.unusedVariables false
set_option linter.unusedSimpArgs false
namespace FloodW
open BlkP RowG GlowW FloodP
set_option maxRecDepth 100000 in
set_option maxHeartbeats 64000000 in
theorem law_back {w:World} (hT:KindW.Tab w) {p:V} {x y z:Int} {A:Option Addr} {m c:Nat} {cl:List (Nat × Nat)} (hR:Rd enc2 w (.slice A m c) cl) (hm:cl.length = m) (hc8:∀ c ∈ cl,c.1 < 256∧c.2 < 256)
  {ea:Int} {k l:Nat} (hk:k < 256∧l < 256) :
  Calls Tryd.prog 5 #[.agg #[.int .i64 p.1,.int .i64 p.2.1,.int .i64 p.2.2,.int .i64 x,.int .i64 y,.int .i64 z,.slice A m c],.agg #[.int .i64 ea,.int .u8 k,.int .u8 l]] w fun e w'=>e = .returned (.bool true)∧Below w.heap.size w w':=by
 have HT:=Lib.hid hT
 have HR:=Lib.hid hR
 have HM:=Lib.hid hm
 have HC8:=Lib.hid hc8
 have HK:=Lib.hid hk
 clear hT hR hm hc8 hk
 go_enter Tryd.func5,Tryd.ntmps5
 go_wp2_with fail
 obtain ⟨s,hs⟩:∃ s,w.heap.size = s:=⟨_,rfl⟩
 go_at_call 7
 refine calls_named (S:=fun W=>Below w.heap.size w W∧Blk W (s + 1) TE [.int .i64 ea,.int .u8 k,.int .u8 l]) ⟨by (repeat' (first | (with_reducible exact Below.refl _ _) | (with_reducible refine Below.setCell ?_ (by (first | omega | (simp; done) | (simp; omega))) _) | (with_reducible refine Below.alloc ?_ (by (first | omega | (simp; done) | (simp; omega))) _) | (with_reducible refine Below.drew ?_) | (with_reducible refine below_drewN ?_ _))),by subst hs; (repeat' (first | (with_reducible refine BlkP.Blk.drew ?_) | (with_reducible refine BlkP.Blk.drewN ?_ _) | (with_reducible refine BlkP.Blk.setAt (us:=?_) (by first | omega | (simp; done) | (simp; omega)) rfl ?_ ?_) | (with_reducible refine BlkP.Blk.otherAt ?_ (by first | omega | (simp; done) | (simp; omega))) | (with_reducible refine BlkP.Blk.newA' (by first | omega | (simp; done) | (simp; omega)) rfl) | (with_reducible refine BlkP.Blk.alloc ?_ _) | (exact rfl)))⟩ ?_
 rintro W1 ⟨hb1,he1⟩
 rw [hs]
 have HSW:=Lib.hid hs
 refine (lmade_c (HR.out.below hb1) HM.out HC8.out).mono ?_
 rintro e W2 ⟨f,rfl,hmk⟩
 have HB2:=Lib.hid (show Below w.heap.size w W2 from hb1.trans (hmk.bel.mono hb1.size))
 have HE2:=Lib.hid (he1.below hmk.bel)
 have HF2:=Lib.hid hmk.fld
 have HW:=Lib.hid hmk.fc
 have HLS:=Lib.hid hmk.ls
 have HNIL:=Lib.hid hmk.nil
 have HAT:=Lib.hid (show f.ak = []∧f.ts = [] from ⟨hmk.ak,hmk.ts⟩)
 have HNEW:=Lib.hid (show ∀ k,k = f.F ∨ f.vC.ownBlock = some k ∨ f.vL.ownBlock = some k→w.heap.size≤k∧s + 2≤k∧k < W2.heap.size from fun k hk=>by
  have h1:=hmk.new k hk
  have h2:=he1.lt
  have h3:=hb1.size
  refine ⟨by omega,by omega,?_⟩
  rcases hk with e | e | e
  ·rw [e]; exact hmk.fld.blk.lt
  ·exact (hmk.fld.cs.ge k e).2
  ·exact (hmk.fld.ls.ge k e).2)
 obtain ⟨n,hn⟩:∃ n,f.X * f.Y * f.Z = n:=⟨_,rfl⟩
 have hnb:=hmk.fc.n
 rw [hn] at hnb
 have HN:=Lib.hid hn
 have HLL:=Lib.hid (show f.ls.length = n by rw [hmk.ls,rightL_len,hn])
 have HCL:=Lib.hid (show f.cs.length = n by rw [hmk.fc.cs,hn])
 obtain ⟨AL,cL,hvL,_,_,hAL⟩:=hmk.fld.ls.form (n:=n) HLL.out
 obtain ⟨gL,rfl,_,_⟩:=hAL (by omega)
 have HVL:=Lib.hid hvL
 obtain ⟨AC,cC,hvC,_,_,hAC⟩:=hmk.fld.cs.form (n:=n) HCL.out
 obtain ⟨gC,rfl,_,_⟩:=hAC (by omega)
 have HVC:=Lib.hid hvC
 have HFG:=Lib.hid (show f.F ≠ gC from fun e=>by
  obtain ⟨us,hu⟩:=own_cells hmk.fld.cs (g:=gC) (by rw [hvC]; rfl)
  exact Blk.ne hmk.fld.blk hu (by decide) e)
 have hlF:=hmk.fld.blk.lt
 have k7:W2.cell? ⟨f.F,7,none⟩ = some (.slice (some ⟨gL,0,none⟩) n cL):=(hmk.fld.blk.cell (i:=7) (v:=f.vL) rfl).trans (congrArg some hvL)
 clear hb1 he1 hs hmk hn hvL hAL hvC hAC
 go_wp2_with ((with_reducible refine at_slot 25 ?_); refine Classical.byContradiction (fun hG=>?_))
 refine hG ?_
 clear hG
 refine wp_copyLt (w:=W2) rfl (.tmp 20) (.tmp 24) rfl (l:=f.ls) (A:=some ⟨gL,0,none⟩) (n:=n) (c:=cL) rfl (by first | rfl | (simp; done) | (simp; rfl)) rfl ?_ HLL.out (by omega) (by omega) ?_
 ·exact (HVL.out ▸ HF2.out.ls).rd
 intro g1 c1 W3 ho1 hb3
 have HB3:=Lib.hid hb3
 have HO3:=Lib.hid ho1
 have HE3:=Lib.hid (HE2.out.below hb3)
 have e0:=HE3.out.cell (i:=0) rfl
 have e1:=HE3.out.cell (i:=1) rfl
 have e2:=HE3.out.cell (i:=2) rfl
 clear ho1 hb3 k7
 go_wp2_with fail
 clear e0 e1 e2
 go_at_call 12
 refine (edited_c (HF2.out.below HB3.out) HW.out HK.out).mono ?_
 rintro e W4 ⟨i,o1,o2,d1,d2,hi,hd,ho,rfl,hf4,hr4⟩
 have HI:=Lib.hid hi
 have HIN:=Lib.hid (show i < n by rw [← HN.out]; exact hi)
 have HD:=Lib.hid hd
 have HO:=Lib.hid ho
 have HO8:=Lib.hid (show o1 < 256∧o2 < 256 from HW.out.c8 _ (List.mem_of_getElem? ho))
 have HF4:=Lib.hid hf4
 have HWA4:=Lib.hid (show RowG.Own enc2 TL W4 W2.heap.size (.slice (some ⟨g1,0,none⟩) n c1) f.ls from hr4.own HO3.out (fun g e hk=>by
  have h1:=(HO3.out.ge g e).1
  have h2:=(HNEW.out g (.inr (.inl hk))).2.2
  omega))
 have HB4:=Lib.hid (show Below w.heap.size w W4 from (HB2.out.trans (HB3.out.mono HB2.out.size)).trans (hr4.toBelow (Nat.le_trans HB2.out.size HB3.out.size) (fun k hk=>(HNEW.out k (.inr (.inl hk))).1)))
 have HZ4:=Lib.hid (show W2.heap.size≤W4.heap.size from Nat.le_trans HB3.out.size hr4.size)
 have HFC:=Lib.hid (put_c (i:=i) (c:=(d1,d2)) HW.out HD.out)
 have HOLD1:=Lib.hid (old_put (i:=i) (c:=(d1,d2)) (o:=(o1,o2)) HW.out HLS.out HI.out HO.out HD.out)
 obtain ⟨px,hpx⟩:∃ x,(plc f i).1 = x:=⟨_,rfl⟩
 obtain ⟨py,hpy⟩:∃ x,(plc f i).2.1 = x:=⟨_,rfl⟩
 obtain ⟨pz,hpz⟩:∃ x,(plc f i).2.2 = x:=⟨_,rfl⟩
 have HPL:=Lib.hid (show plc f i = (px,py,pz) from Prod.ext hpx (Prod.ext hpy hpz))
 rw [hpx,hpy,hpz]
 clear hi hd ho hf4 hr4 hpx hpy hpz
 go_wp2_with fail
 obtain ⟨pb,hpb⟩:∃ pb,W4.heap.size = pb:=⟨_,rfl⟩
 go_at_call 13
 refine calls_named (S:=fun W=>Below W4.heap.size W4 W∧Blk W pb TP [.int .i64 px,.int .i64 py,.int .i64 pz]∧Blk W (pb + 1) TC [.int .u8 o1,.int .u8 o2]) ⟨by (repeat' (first | (with_reducible exact Below.refl _ _) | (with_reducible refine Below.setCell ?_ (by (first | omega | (simp; done) | (simp; omega))) _) | (with_reducible refine Below.alloc ?_ (by (first | omega | (simp; done) | (simp; omega))) _) | (with_reducible refine Below.drew ?_) | (with_reducible refine below_drewN ?_ _))),by subst hpb; (repeat' (first | (with_reducible refine BlkP.Blk.drew ?_) | (with_reducible refine BlkP.Blk.drewN ?_ _) | (with_reducible refine BlkP.Blk.setAt (us:=?_) (by first | omega | (simp; done) | (simp; omega)) rfl ?_ ?_) | (with_reducible refine BlkP.Blk.otherAt ?_ (by first | omega | (simp; done) | (simp; omega))) | (with_reducible refine BlkP.Blk.newA' (by first | omega | (simp; done) | (simp; omega)) rfl) | (with_reducible refine BlkP.Blk.alloc ?_ _) | (exact rfl))),by subst hpb; (repeat' (first | (with_reducible refine BlkP.Blk.drew ?_) | (with_reducible refine BlkP.Blk.drewN ?_ _) | (with_reducible refine BlkP.Blk.setAt (us:=?_) (by first | omega | (simp; done) | (simp; omega)) rfl ?_ ?_) | (with_reducible refine BlkP.Blk.otherAt ?_ (by first | omega | (simp; done) | (simp; omega))) | (with_reducible refine BlkP.Blk.newA' (by first | omega | (simp; done) | (simp; omega)) rfl) | (with_reducible refine BlkP.Blk.alloc ?_ _) | (exact rfl)))⟩ ?_
 rintro W5 ⟨hb5,hp5,hc5⟩
 rw [hpb]
 have HPB:=Lib.hid hpb
 have HPB5:=Lib.hid (show pb + 2≤W5.heap.size from hc5.lt)
 have hcell:Calls Tryd.prog 13 #[.pointer (some ⟨f.F,0,none⟩),.agg #[.int .i64 px,.int .i64 py,.int .i64 pz]] W5 fun e w'=>e = .returned (.agg #[.int .u8 (d1:Int),.int .u8 (d2:Int)])∧AskP W5 (f.put i (d1,d2)) (px,py,pz) w':=by
  have q:=askcell_c (q:=(px,py,pz)) (HF4.out.below hb5) HOLD1.out.fw (in_may HOLD1.out.fw (by rw [← HPL.out]; exact HOLD1.out.inb)) (by show f.ak.length≤900000; rw [HAT.out.1]; decide)
  rw [cellAt_put HW.out HI.out,if_pos HPL.out.symm] at q
  exact q
 refine hcell.mono ?_
 clear hcell
 rintro e W6 ⟨rfl,g2,c2,hf6,hr6,hg2⟩
 obtain ⟨f2,hf2⟩:∃ f2,(f.put i (d1,d2)).asked (px,py,pz) g2 ((f.put i (d1,d2)).ak.length + 1) c2 = f2:=⟨_,rfl⟩
 rw [hf2] at hf6
 have HG2:=Lib.hid (show W5.heap.size≤g2∧g2 < W6.heap.size from by
  rcases hg2 with e | e
  ·rw [show (f.put i (d1,d2)).vA = .slice none 0 0 from HNIL.out.1] at e
   cases e
  ·exact ⟨e,(hf6.ak.ge g2 (by rw [← hf2]; rfl)).2⟩)
 have hSF:∀ k,SF (f.put i (d1,d2)) k→k = f.F:=fun k hk=>by
  rcases hk with e | e
  ·exact e
  ·rw [show (f.put i (d1,d2)).vA = .slice none 0 0 from HNIL.out.1] at e
   cases e
 obtain ⟨R,hR⟩:∃ R,rightL (f.put i (d1,d2)) = R:=⟨_,rfl⟩
 have HRR:=Lib.hid hR
 have HRL:=Lib.hid (show R.length = n by rw [← hR,rightL_len]; exact HN.out)
 have HQ2:=Lib.hid (show f2.F = f.F∧f2.vL = f.vL∧f2.ak.length = 1∧f2.ts = []∧f2.ls = f.ls∧rightL f2 = R∧f2.X * f2.Y * f2.Z = n∧(∀ k,SC f2 k→k = f.F ∨ k = g2 ∨ f.vL.ownBlock = some k) from by
  rw [← hf2]
  refine ⟨rfl,rfl,by show (f.ak ++ [(px,py,pz)]).length = 1; rw [HAT.out.1]; rfl,HAT.out.2,rfl,(rightL_cs (f:=f.put i (d1,d2)) rfl rfl rfl rfl rfl).trans hR,HN.out,fun k hk=>?_⟩
  rcases hk with e | e | e | e
  ·exact .inl e
  ·right; left
   have e':(Value.slice (some ⟨g2,0,none⟩) ((f.put i (d1,d2)).ak.length + 1) c2).ownBlock = some k:=e
   have:g2 = k:=by simpa [Value.ownBlock] using e'
   exact this.symm
  ·rw [show ((f.put i (d1,d2)).asked (px,py,pz) g2 ((f.put i (d1,d2)).ak.length + 1) c2).vT = .slice none 0 0 from HNIL.out.2] at e
   cases e
  ·exact .inr (.inr e))
 have HOLD2:=Lib.hid (show Old f2 (px,py,pz) (o1,o2) from by
  obtain ⟨fw,inb,sky,lamp⟩:=HOLD1.out
  rw [HPL.out] at inb sky lamp
  rw [← hf2]
  exact ⟨⟨fw.x,fw.y,fw.z,fw.lx,fw.ly,fw.lz,fw.cs,fw.ls,fw.c8,fw.l15⟩,inb,sky,lamp⟩)
 have HC2:=Lib.hid (show FldC f2 from HOLD2.out.fw.c)
 have HCS2:=Lib.hid (show f2.vC = f.vC∧f2.cs = f.cs.set i (d1,d2)∧f2.lo = f.lo∧f2.X = f.X∧f2.Y = f.Y∧f2.Z = f.Z from by rw [← hf2]; exact ⟨rfl,rfl,rfl,rfl,rfl,rfl⟩)
 have HP6:=Lib.hid (show Blk W6 pb TP [.int .i64 px,.int .i64 py,.int .i64 pz] from hr6.blk hp5 (fun hk=>by
  have h1:=hSF _ hk
  have h2:=(HNEW.out _ (.inl h1)).2.2
  have h3:=HZ4.out
  have h4:=HPB.out
  omega))
 have HC6:=Lib.hid (show Blk W6 (pb + 1) TC [.int .u8 o1,.int .u8 o2] from hr6.blk hc5 (fun hk=>by
  have h1:=hSF _ hk
  have h2:=(HNEW.out _ (.inl h1)).2.2
  have h3:=HZ4.out
  have h4:=HPB.out
  omega))
 have HWA6:=Lib.hid (show RowG.Own enc2 TL W6 W2.heap.size (.slice (some ⟨g1,0,none⟩) n c1) f.ls from hr6.own (HWA4.out.below hb5) (fun g e hk=>by
  have h1:=(HWA4.out.ge g e).1
  have h2:=(HNEW.out _ (.inl (hSF _ hk))).2.2
  omega))
 have HG1:=Lib.hid (show g1 < pb from by
  have h1:=(HWA4.out.ge g1 rfl).2
  have h2:=HPB.out
  omega)
 have HB6:=Lib.hid (show Below w.heap.size w W6 from (HB4.out.trans (hb5.mono HB4.out.size)).trans (hr6.toBelow (Nat.le_trans HB4.out.size hb5.size) (fun k hk=>(HNEW.out k (.inl (hSF _ hk))).1)))
 have HF6:=Lib.hid hf6
 have p0:=HP6.out.cell (i:=0) rfl
 have p1:=HP6.out.cell (i:=1) rfl
 have p2:=HP6.out.cell (i:=2) rfl
 have q0:=HC6.out.cell (i:=0) rfl
 have q1:=HC6.out.cell (i:=1) rfl
 have hlp:=HP6.out.lt
 have hlc:=HC6.out.lt
 clear hb5 hp5 hc5 hf2 hf6 hr6 hg2 hSF hR hpb
 go_wp2_with fail
 clear p0 p1 p2 q0 q1
 obtain ⟨nb,hnbe⟩:∃ nb,W6.heap.size = nb:=⟨_,rfl⟩
 go_at_call 11
 refine calls_named (S:=fun W=>Below W6.heap.size W6 W∧Blk W nb TC [.int .u8 d1,.int .u8 d2]) ⟨by (repeat' (first | (with_reducible exact Below.refl _ _) | (with_reducible refine Below.setCell ?_ (by (first | omega | (simp; done) | (simp; omega))) _) | (with_reducible refine Below.alloc ?_ (by (first | omega | (simp; done) | (simp; omega))) _) | (with_reducible refine Below.drew ?_) | (with_reducible refine below_drewN ?_ _))),by subst hnbe; (repeat' (first | (with_reducible refine BlkP.Blk.drew ?_) | (with_reducible refine BlkP.Blk.drewN ?_ _) | (with_reducible refine BlkP.Blk.setAt (us:=?_) (by first | omega | (simp; done) | (simp; omega)) rfl ?_ ?_) | (with_reducible refine BlkP.Blk.otherAt ?_ (by first | omega | (simp; done) | (simp; omega))) | (with_reducible refine BlkP.Blk.newA' (by first | omega | (simp; done) | (simp; omega)) rfl) | (with_reducible refine BlkP.Blk.alloc ?_ _) | (exact rfl)))⟩ ?_
 rintro W7 ⟨hb7,hn7⟩
 rw [hnbe]
 have HNB:=Lib.hid (show W6.heap.size = nb∧pb + 1 < nb∧g2 < nb from ⟨hnbe,by have:=HC6.out.lt; omega,by have:=HG2.out.2; omega⟩)
 have hchg:Calls Tryd.prog 11 #[.iface 29 (.pointer (some ⟨f.F,0,none⟩)),.agg #[.int .i64 px,.int .i64 py,.int .i64 pz],.agg #[.int .u8 o1,.int .u8 o2]] W7 (ChangeP W7 f2 (px,py,pz) (o1,o2)):=by
  have q:=change_c (HF6.out.below hb7) HOLD2.out (HT.out.below (HB6.out.trans (hb7.mono HB6.out.size))) (by rw [HQ2.out.2.2.1]; decide) (by rw [HQ2.out.2.2.2.1]; decide) (fun hs=>by
   have h2:=HT.out.size
   have h3:=HB4.out.size
   rcases HQ2.out.2.2.2.2.2.2.2 _ hs with e | e | e
   ·have h1:=(HNEW.out _ (.inl e)).1
    omega
   ·have h1:=HG2.out.1
    have h4:=HPB5.out
    have h5:=HPB.out
    omega
   ·have h1:=(HNEW.out _ (.inr (.inr e))).1
    omega)
  rw [HQ2.out.1] at q
  exact q
 refine hchg.mono ?_
 clear hchg
 rintro e W8 ⟨T,f3,rfl,hch⟩
 have HSC:=Lib.hid (show ∀ k,SC f2 k→w.heap.size≤k∧k ≠ pb∧k ≠ pb + 1∧k ≠ nb∧k ≠ g1 from fun k hk=>by
  have h4:=HPB5.out
  have h5:=HPB.out
  have h6:=HNB.out
  have h7:=HZ4.out
  have h8:=HG1.out
  have h9:=(HWA6.out.ge g1 rfl).1
  have h10:=HB4.out.size
  have h11:=HG2.out
  rcases HQ2.out.2.2.2.2.2.2.2 _ hk with e | e | e
  ·have h1:=HNEW.out _ (.inl e)
   omega
  ·omega
  ·have h1:=HNEW.out _ (.inr (.inr e))
   omega)
 have HP8:=Lib.hid (hch.fr.blk (HP6.out.below hb7) (fun hk=>(HSC.out _ hk).2.1 rfl))
 have HC8':=Lib.hid (hch.fr.blk (HC6.out.below hb7) (fun hk=>(HSC.out _ hk).2.2.1 rfl))
 have HN8:=Lib.hid (hch.fr.blk hn7 (fun hk=>(HSC.out _ hk).2.2.2.1 rfl))
 have HWA8:=Lib.hid (show RowG.Own enc2 TL W8 W2.heap.size (.slice (some ⟨g1,0,none⟩) n c1) f.ls from hch.fr.own (HWA6.out.below hb7) (fun g e hk=>by
  have h1:g1 = g:=by simpa [Value.ownBlock] using e
  exact (HSC.out _ hk).2.2.2.2 h1.symm))
 have HB8:=Lib.hid (show Below w.heap.size w W8 from (HB6.out.trans (hb7.mono HB6.out.size)).trans (hch.fr.toBelow (Nat.le_trans HB6.out.size hb7.size) (fun k hk=>(HSC.out k hk).1)))
 obtain ⟨vA,vT,la,ef3,hla,_⟩:=hch.f_
 have HF8:=Lib.hid hch.fld
 have HTN:=Lib.hid (show T.length = cntD R f.ls n from by
  have q:=told_len HC2.out HOLD2.out.fw hch.dup hch.mem
  rw [HQ2.out.2.2.2.2.2.1,HQ2.out.2.2.2.2.1,HQ2.out.2.2.2.2.2.2.1] at q
  exact q)
 have HQ3:=Lib.hid (show f3.F = f.F∧f3.vL = .slice (some ⟨gL,0,none⟩) n cL∧f3.ls = R∧f3.ak.length≤10000∧f3.ts.length≤10000∧f3.X * f3.Y * f3.Z = n from by
  rw [ef3]
  refine ⟨HQ2.out.1,HQ2.out.2.1.trans HVL.out,HQ2.out.2.2.2.2.2.1,?_,?_,HQ2.out.2.2.2.2.2.2.1⟩
  ·show (f2.ak ++ la).length≤10000
   rw [List.length_append,HQ2.out.2.2.1]
   omega
  ·show (f2.ts ++ T).length≤10000
   rw [List.length_append,HQ2.out.2.2.2.1,HTN.out]
   have:=cntD_le R f.ls n
   show 0 + _≤10000
   omega)
 have HSC3:=Lib.hid (show ∀ k,SC f3 k→w.heap.size≤k∧k ≠ pb∧k ≠ pb + 1∧k ≠ nb∧k ≠ g1 from fun k hk=>by
  rcases hch.new k hk with e | e
  ·exact HSC.out k e
  ·have h1:=(HB6.out.trans (hb7.mono HB6.out.size)).size
   have h2:=hn7.lt
   have h3:=HNB.out
   have h4:=HG1.out
   omega)
 have HC3:=Lib.hid (show FldC f3 from by
  have q:=HC2.out
  rw [ef3]
  exact ⟨q.x,q.y,q.z,q.lx,q.ly,q.lz,q.cs,q.c8⟩)
 have HE3:=Lib.hid (show f3.vC = f.vC∧f3.cs = f.cs.set i (d1,d2)∧inB f3 = inB f∧numB f3 = numB f∧plc f3 = plc f∧f3.ls = rightL f3∧rightL (f3.put i (o1,o2)) = f.ls from by
  have e2:f2.vC = f.vC∧f2.cs = f.cs.set i (d1,d2)∧f2.lo = f.lo∧f2.X = f.X∧f2.Y = f.Y∧f2.Z = f.Z:=HCS2.out
  have hcs:f3.cs = f.cs.set i (d1,d2):=by rw [ef3]; exact e2.2.1
  have h1:f3.lo = f.lo:=by rw [ef3]; exact e2.2.2.1
  have h2:f3.X = f.X:=by rw [ef3]; exact e2.2.2.2.1
  have h3:f3.Y = f.Y:=by rw [ef3]; exact e2.2.2.2.2.1
  have h4:f3.Z = f.Z:=by rw [ef3]; exact e2.2.2.2.2.2
  have hin:=inB_congr h1 h2 h3 h4
  refine ⟨by rw [ef3]; exact e2.1,hcs,hin.1,hin.2.1,hin.2.2,by rw [ef3]; exact (rightL_cs rfl rfl rfl rfl rfl).symm,?_⟩
  rw [HLS.out]
  refine rightL_cs (f:=f) (f':=f3.put i (o1,o2)) h1 h2 h3 h4 ?_
  show f3.cs.set i (o1,o2) = f.cs
  rw [hcs]
  exact congrArg Fld.cs (put_back (f:=f) (c:=(d1,d2)) HO.out))
 clear ef3 hla hb7 hn7 hch hlp hlc hlF hnbe
 go_wp2_with fail
 go_loopw [11] (fun v wr=>∃ j:Nat,v = .int .i64 (j:Nat)∧j≤n∧Below W8.heap.size W8 wr) (fun v _=>n - (intOf v).toNat)
 case atStart=>exact ⟨0,rfl,by omega,Below.refl _ _⟩
 case round =>
  obtain ⟨j,rfl,hj,hbr⟩:=hrel
  have HBR:=Lib.hid hbr
  have HFR:=Lib.hid (HF8.out.below hbr)
  have HWA:=Lib.hid (HWA8.out.below hbr)
  clear hbr
  by_cases hjn:j < n
  ·have hjI:(j:Int) < n:=by omega
   obtain ⟨⟨a,b⟩,hab⟩:∃ x,R[j]? = some x:=⟨_,List.getElem?_eq_getElem (by rw [HRL.out]; exact hjn)⟩
   obtain ⟨⟨a2,b2⟩,hab2⟩:∃ x,f.ls[j]? = some x:=⟨_,List.getElem?_eq_getElem (by rw [HLL.out]; exact hjn)⟩
   have HA:=Lib.hid hab
   have HA2:=Lib.hid hab2
   have HDIM:=Lib.hid (show darkK d1→a≤a2∧b≤b2 from fun hd=>dim_get (c:=(d1,d2)) HW.out HI.out HD.out (dark_open hd) (by rw [HN.out]; exact hjn) (by rw [HRR.out]; exact hab) (by rw [← HLS.out]; exact hab2))
   have HLIG:=Lib.hid (show darkK o1→a2≤a∧b2≤b from fun hd=>lighten_get (c:=(d1,d2)) (o:=(o1,o2)) HW.out HI.out HO.out HD.out (dark_open hd) (by rw [HN.out]; exact hjn) (by rw [HRR.out]; exact hab) (by rw [← HLS.out]; exact hab2))
   have HW1:=Lib.hid (show wrap64 ((j:Int) + 1) = ((j + 1:Nat):Int) by rw [wr64 (by omega) (by omega)]; omega)
   clear hab hab2
   go_wp2_with fail
   refine wp_region_noPanic ?_
   refine wp_region_held_drew (S:=fun Xw=>FldM Xw f3∧RowG.Own enc2 TL Xw W2.heap.size (.slice (some ⟨g1,0,none⟩) n c1) f.ls) (by kernel_rfl) (⟨HFR.out.below (Below.refl _ _).drew,HWA.out.drew⟩) (fun hHeld=>?_)
   refine wpAnyH_take (i:=0) (oi:=⟨some 46,_,_,_,_,_⟩) (v:=.slice (some ⟨g1,0,none⟩) n c1) rfl (by kernel_rfl) (by kernel_rfl) (by kernel_rfl) (fun _ _ _ h=>h) (Or.inl ⟨by rfl,fun Xw hSW=>by go_simp⟩) hHeld ?_
   simp only [Act.put,List.setIfInBounds_toArray,List.set_cons_zero,List.set_cons_succ]
   refine wpAnyH_take (i:=1) (oi:=⟨some 47,_,_,_,_,_⟩) (v:=.int .i64 (j:Int)) rfl (by kernel_rfl) (by kernel_rfl) (by kernel_rfl) (fun _ _ _ h=>h) (Or.inl ⟨by rfl,fun Xw hSW=>by go_simp⟩) hHeld ?_
   simp only [Act.put,List.setIfInBounds_toArray,List.set_cons_zero,List.set_cons_succ]
   refine wpAnyH_take (i:=2) (oi:=⟨some 48,_,_,_,_,_⟩) (v:=.pointer (some ⟨g1,j * 2,none⟩)) rfl (by kernel_rfl) (by kernel_rfl) (by kernel_rfl) (fun _ _ _ h=>h) (Or.inl ⟨by rfl,fun Xw hSW=>by go_simp⟩) hHeld ?_
   simp only [Act.put,List.setIfInBounds_toArray,List.set_cons_zero,List.set_cons_succ]
   refine wpAnyH_take (i:=3) (oi:=⟨some 49,_,_,_,_,_⟩) (v:=.agg #[.int .u8 a2,.int .u8 b2]) rfl (by kernel_rfl) (by kernel_rfl) (by kernel_rfl) (fun _ _ _ h=>h) (Or.inl ⟨by rfl,fun Xw hSW=>by have a0:Xw.cell? ⟨g1,j * 2,none⟩ = some (.int .u8 a2):=hSW.2.cell (i:=j) (j:=0) HA2.out rfl; have a1:Xw.cell? ⟨g1,j * 2 + 1,none⟩ = some (.int .u8 b2):=hSW.2.cell (i:=j) (j:=1) HA2.out rfl; go_simp⟩) hHeld ?_
   simp only [Act.put,List.setIfInBounds_toArray,List.set_cons_zero,List.set_cons_succ]
   refine wpAnyH_take (i:=4) (oi:=⟨some 50,_,_,_,_,_⟩) (v:=.pointer (some ⟨f.F,0,none⟩)) rfl (by kernel_rfl) (by kernel_rfl) (by kernel_rfl) (fun _ _ _ h=>h) (Or.inl ⟨by rfl,fun Xw hSW=>by go_simp⟩) hHeld ?_
   simp only [Act.put,List.setIfInBounds_toArray,List.set_cons_zero,List.set_cons_succ]
   refine wpAnyH_take (i:=5) (oi:=⟨some 51,_,_,_,_,_⟩) (v:=.pointer (some ⟨f.F,0,none⟩)) rfl (by kernel_rfl) (by kernel_rfl) (by kernel_rfl) (fun _ _ _ h=>h) (Or.inl ⟨by rfl,fun Xw hSW=>by go_simp⟩) hHeld ?_
   simp only [Act.put,List.setIfInBounds_toArray,List.set_cons_zero,List.set_cons_succ]
   refine wpAnyH_take (i:=6) (oi:=⟨some 52,_,_,_,_,_⟩) (v:=.pointer (some ⟨f.F,7,none⟩)) rfl (by kernel_rfl) (by kernel_rfl) (by kernel_rfl) (fun _ _ _ h=>h) (Or.inl ⟨by rfl,fun Xw hSW=>by go_simp⟩) hHeld ?_
   simp only [Act.put,List.setIfInBounds_toArray,List.set_cons_zero,List.set_cons_succ]
   refine wpAnyH_take (i:=7) (oi:=⟨some 53,_,_,_,_,_⟩) (v:=.slice (some ⟨gL,0,none⟩) n cL) rfl (by kernel_rfl) (by kernel_rfl) (by kernel_rfl) (fun _ _ _ h=>h) (Or.inl ⟨by rfl,fun Xw hSW=>by have q:Xw.cell? ⟨f.F,7,none⟩ = some (.slice (some ⟨gL,0,none⟩) n cL):=by { have q:=hSW.1.blk.cell (i:=7) (v:=f3.vL) rfl; rwa [HQ3.out.1,HQ3.out.2.1] at q }; go_simp⟩) hHeld ?_
   simp only [Act.put,List.setIfInBounds_toArray,List.set_cons_zero,List.set_cons_succ]
   refine wpAnyH_take (i:=8) (oi:=⟨some 54,_,_,_,_,_⟩) (v:=.int .i64 (j:Int)) rfl (by kernel_rfl) (by kernel_rfl) (by kernel_rfl) (fun _ _ _ h=>h) (Or.inl ⟨by rfl,fun Xw hSW=>by go_simp⟩) hHeld ?_
   simp only [Act.put,List.setIfInBounds_toArray,List.set_cons_zero,List.set_cons_succ]
   refine wpAnyH_take (i:=9) (oi:=⟨some 55,_,_,_,_,_⟩) (v:=.pointer (some ⟨gL,j * 2,none⟩)) rfl (by kernel_rfl) (by kernel_rfl) (by kernel_rfl) (fun _ _ _ h=>h) (Or.inl ⟨by rfl,fun Xw hSW=>by go_simp⟩) hHeld ?_
   simp only [Act.put,List.setIfInBounds_toArray,List.set_cons_zero,List.set_cons_succ]
   refine wpAnyH_take (i:=10) (oi:=⟨some 56,_,_,_,_,_⟩) (v:=.agg #[.int .u8 a,.int .u8 b]) rfl (by kernel_rfl) (by kernel_rfl) (by kernel_rfl) (fun _ _ _ h=>h) (Or.inl ⟨by rfl,fun Xw hSW=>by have ho:RowG.Own enc2 TL Xw 0 (.slice (some ⟨gL,0,none⟩) n cL) R:=(by { have q:=hSW.1.ls; rwa [HQ3.out.2.1,HQ3.out.2.2.1] at q }); have a0:Xw.cell? ⟨gL,j * 2,none⟩ = some (.int .u8 a):=ho.cell (i:=j) (j:=0) HA.out rfl; have a1:Xw.cell? ⟨gL,j * 2 + 1,none⟩ = some (.int .u8 b):=ho.cell (i:=j) (j:=1) HA.out rfl; clear ho; go_simp⟩) hHeld ?_
   simp only [Act.put,List.setIfInBounds_toArray,List.set_cons_zero,List.set_cons_succ]
   refine wpAnyH_ready (rs:=[11,12]) (by kernel_rfl) (by simp) ?_
   refine AllReadyH.cons (o:=⟨some 12,_,_,_,_,_⟩) rfl (fun K hK=>?_) (AllReadyH.cons (o:=⟨some 13,_,_,_,_,_⟩) rfl (fun K hK=>?_) AllReadyH.nil)
   ·go_simp
    refine hK.out _ _ (⟨HFR.out.below (by (repeat' (first | (with_reducible exact Below.refl _ _) | (with_reducible refine Below.setCell ?_ (by (first | omega | (simp; done) | (simp; omega))) _) | (with_reducible refine Below.alloc ?_ (by (first | omega | (simp; done) | (simp; omega))) _) | (with_reducible refine Below.drew ?_) | (with_reducible refine below_drewN ?_ _)))),HWA.out.below (by (repeat' (first | (with_reducible exact Below.refl _ _) | (with_reducible refine Below.setCell ?_ (by (first | omega | (simp; done) | (simp; omega))) _) | (with_reducible refine Below.alloc ?_ (by (first | omega | (simp; done) | (simp; omega))) _) | (with_reducible refine Below.drew ?_) | (with_reducible refine below_drewN ?_ _))))⟩) (fun hHeld=>?_)
    clear hK K
    refine wpAnyH_ready (rs:=[12]) (by kernel_rfl) (by simp) ?_
    refine AllReadyH.cons (o:=⟨some 13,_,_,_,_,_⟩) rfl (fun K hK=>?_) AllReadyH.nil
    go_simp
    refine hK.out _ _ (⟨HFR.out.below (by (repeat' (first | (with_reducible exact Below.refl _ _) | (with_reducible refine Below.setCell ?_ (by (first | omega | (simp; done) | (simp; omega))) _) | (with_reducible refine Below.alloc ?_ (by (first | omega | (simp; done) | (simp; omega))) _) | (with_reducible refine Below.drew ?_) | (with_reducible refine below_drewN ?_ _)))),HWA.out.below (by (repeat' (first | (with_reducible exact Below.refl _ _) | (with_reducible refine Below.setCell ?_ (by (first | omega | (simp; done) | (simp; omega))) _) | (with_reducible refine Below.alloc ?_ (by (first | omega | (simp; done) | (simp; omega))) _) | (with_reducible refine Below.drew ?_) | (with_reducible refine below_drewN ?_ _))))⟩) (fun hHeld=>?_)
    clear hK K
    refine wpAnyH_ready (rs:=[13]) (by kernel_rfl) (by simp) ?_
    refine AllReadyH.cons (o:=⟨none,_,_,_,_,_⟩) rfl (fun K hK=>?_) AllReadyH.nil
    go_simp
    refine hK.out _ _ (⟨HFR.out.below (by (repeat' (first | (with_reducible exact Below.refl _ _) | (with_reducible refine Below.setCell ?_ (by (first | omega | (simp; done) | (simp; omega))) _) | (with_reducible refine Below.alloc ?_ (by (first | omega | (simp; done) | (simp; omega))) _) | (with_reducible refine Below.drew ?_) | (with_reducible refine below_drewN ?_ _)))),HWA.out.below (by (repeat' (first | (with_reducible exact Below.refl _ _) | (with_reducible refine Below.setCell ?_ (by (first | omega | (simp; done) | (simp; omega))) _) | (with_reducible refine Below.alloc ?_ (by (first | omega | (simp; done) | (simp; omega))) _) | (with_reducible refine Below.drew ?_) | (with_reducible refine below_drewN ?_ _))))⟩) (fun hHeld=>?_)
    clear hK K
    refine wpAnyH_ready (rs:=[14]) (by kernel_rfl) (by simp) ?_
    refine AllReadyH.cons (o:=⟨none,_,_,_,_,_⟩) rfl (fun K hK=>?_) AllReadyH.nil
    go_simp
    refine hK.out _ _ (⟨HFR.out.below (by (repeat' (first | (with_reducible exact Below.refl _ _) | (with_reducible refine Below.setCell ?_ (by (first | omega | (simp; done) | (simp; omega))) _) | (with_reducible refine Below.alloc ?_ (by (first | omega | (simp; done) | (simp; omega))) _) | (with_reducible refine Below.drew ?_) | (with_reducible refine below_drewN ?_ _)))),HWA.out.below (by (repeat' (first | (with_reducible exact Below.refl _ _) | (with_reducible refine Below.setCell ?_ (by (first | omega | (simp; done) | (simp; omega))) _) | (with_reducible refine Below.alloc ?_ (by (first | omega | (simp; done) | (simp; omega))) _) | (with_reducible refine Below.drew ?_) | (with_reducible refine below_drewN ?_ _))))⟩) (fun hHeld=>?_)
    clear hK K
    refine wpAnyH_done (by kernel_rfl) ?_ _
    refine NoPanic.normal ?_
    clear hHeld
    obtain ⟨zs,hzs⟩:∃ zs,wr.heap.size = zs:=⟨_,rfl⟩
    refine HeldP.then_named (S:=fun W=>Below W8.heap.size W8 W∧Blk W (pb + 1) TC [.int .u8 o1,.int .u8 o2]∧Blk W nb TC [.int .u8 d1,.int .u8 d2]∧Blk W (zs) TL [.int .u8 a2,.int .u8 b2]∧Blk W (zs + 1) TL [.int .u8 a,.int .u8 b]) ⟨HBR.out.trans (by have:=HBR.out.size; (repeat' (first | (with_reducible exact Below.refl _ _) | (with_reducible refine Below.setCell ?_ (by (first | omega | (simp; done) | (simp; omega))) _) | (with_reducible refine Below.alloc ?_ (by (first | omega | (simp; done) | (simp; omega))) _) | (with_reducible refine Below.drew ?_) | (with_reducible refine below_drewN ?_ _)))),(HC8'.out.below HBR.out).below (by (repeat' (first | (with_reducible exact Below.refl _ _) | (with_reducible refine Below.setCell ?_ (by (first | omega | (simp; done) | (simp; omega))) _) | (with_reducible refine Below.alloc ?_ (by (first | omega | (simp; done) | (simp; omega))) _) | (with_reducible refine Below.drew ?_) | (with_reducible refine below_drewN ?_ _)))),(HN8.out.below HBR.out).below (by (repeat' (first | (with_reducible exact Below.refl _ _) | (with_reducible refine Below.setCell ?_ (by (first | omega | (simp; done) | (simp; omega))) _) | (with_reducible refine Below.alloc ?_ (by (first | omega | (simp; done) | (simp; omega))) _) | (with_reducible refine Below.drew ?_) | (with_reducible refine below_drewN ?_ _)))),by subst hzs; (repeat' (first | (with_reducible refine BlkP.Blk.drew ?_) | (with_reducible refine BlkP.Blk.drewN ?_ _) | (with_reducible refine BlkP.Blk.setAt (us:=?_) (by first | omega | (simp; done) | (simp; omega)) rfl ?_ ?_) | (with_reducible refine BlkP.Blk.otherAt ?_ (by first | omega | (simp; done) | (simp; omega))) | (with_reducible refine BlkP.Blk.newA' (by first | omega | (simp; done) | (simp; omega)) rfl) | (with_reducible refine BlkP.Blk.alloc ?_ _) | (exact rfl))),by subst hzs; (repeat' (first | (with_reducible refine BlkP.Blk.drew ?_) | (with_reducible refine BlkP.Blk.drewN ?_ _) | (with_reducible refine BlkP.Blk.setAt (us:=?_) (by first | omega | (simp; done) | (simp; omega)) rfl ?_ ?_) | (with_reducible refine BlkP.Blk.otherAt ?_ (by first | omega | (simp; done) | (simp; omega))) | (with_reducible refine BlkP.Blk.newA' (by first | omega | (simp; done) | (simp; omega)) rfl) | (with_reducible refine BlkP.Blk.alloc ?_ _) | (exact rfl)))⟩ ?_
    rintro X0 ⟨hx1,hx2,hx3,hx4,hx5⟩
    rw [hzs]
    have HX0:=Lib.hid (show Below W8.heap.size W8 X0∧Blk X0 (pb + 1) TC [.int .u8 o1,.int .u8 o2]∧Blk X0 nb TC [.int .u8 d1,.int .u8 d2]∧Blk X0 (zs) TL [.int .u8 a2,.int .u8 b2]∧Blk X0 (zs + 1) TL [.int .u8 a,.int .u8 b] from ⟨hx1,hx2,hx3,hx4,hx5⟩)
    clear hx1 hx2 hx3 hx4 hx5 hzs
    by_cases hlo:lampK o1
    ·have c0:=HX0.out.2.1.cell (i:=0) rfl
     have c1':=HX0.out.2.1.cell (i:=1) rfl
     go_wp2_with fail
     clear c0 c1'
     go_at_call 14
     refine (lamp_c (k:=o1) (l:=o2) (r:=true) ⟨fun _=>hlo,fun _=>rfl⟩).mono ?_
     rintro e X1 ⟨rfl,hxb⟩
     have HX1:=Lib.hid (show Below W8.heap.size W8 X1∧Blk X1 (pb + 1) TC [.int .u8 o1,.int .u8 o2]∧Blk X1 nb TC [.int .u8 d1,.int .u8 d2]∧Blk X1 (zs) TL [.int .u8 a2,.int .u8 b2]∧Blk X1 (zs + 1) TL [.int .u8 a,.int .u8 b] from ⟨HX0.out.1.trans (hxb.mono HX0.out.1.size),HX0.out.2.1.below hxb,HX0.out.2.2.1.below hxb,HX0.out.2.2.2.1.below hxb,HX0.out.2.2.2.2.below hxb⟩)
     clear hxb
     have c0:=HX1.out.2.1.cell (i:=0) rfl
     have c1':=HX1.out.2.1.cell (i:=1) rfl
     go_wp2_with fail
     clear c0 c1'
     go_at_call 14
     refine (lamp_c (k:=o1) (l:=o2) (r:=true) ⟨fun _=>hlo,fun _=>rfl⟩).mono ?_
     rintro e X2 ⟨rfl,hxb⟩
     have HX2:=Lib.hid (show Below W8.heap.size W8 X2∧Blk X2 (pb + 1) TC [.int .u8 o1,.int .u8 o2]∧Blk X2 nb TC [.int .u8 d1,.int .u8 d2]∧Blk X2 (zs) TL [.int .u8 a2,.int .u8 b2]∧Blk X2 (zs + 1) TL [.int .u8 a,.int .u8 b] from ⟨HX1.out.1.trans (hxb.mono HX1.out.1.size),HX1.out.2.1.below hxb,HX1.out.2.2.1.below hxb,HX1.out.2.2.2.1.below hxb,HX1.out.2.2.2.2.below hxb⟩)
     clear hxb
     go_wp2_with fail
     go_roundw
     case rel=>exact ⟨j + 1,by first | rfl | rw [HW1.out] | (congr 1; omega),by omega,HX2.out.1.trans (by (repeat' (first | (with_reducible exact Below.refl _ _) | (with_reducible refine Below.setCell ?_ (by (first | omega | (simp; done) | (simp; omega))) _) | (with_reducible refine Below.alloc ?_ (by (first | omega | (simp; done) | (simp; omega))) _) | (with_reducible refine Below.drew ?_) | (with_reducible refine below_drewN ?_ _))))⟩
     case measure =>
      simp only [intOf]
      omega
    ·have c0:=HX0.out.2.1.cell (i:=0) rfl
     have c1':=HX0.out.2.1.cell (i:=1) rfl
     go_wp2_with fail
     clear c0 c1'
     go_at_call 14
     refine (lamp_c (k:=o1) (l:=o2) (r:=false) ⟨fun e=>Bool.noConfusion e,fun e=>absurd e hlo⟩).mono ?_
     rintro e X1 ⟨rfl,hxb⟩
     have HX1:=Lib.hid (show Below W8.heap.size W8 X1∧Blk X1 (pb + 1) TC [.int .u8 o1,.int .u8 o2]∧Blk X1 nb TC [.int .u8 d1,.int .u8 d2]∧Blk X1 (zs) TL [.int .u8 a2,.int .u8 b2]∧Blk X1 (zs + 1) TL [.int .u8 a,.int .u8 b] from ⟨HX0.out.1.trans (hxb.mono HX0.out.1.size),HX0.out.2.1.below hxb,HX0.out.2.2.1.below hxb,HX0.out.2.2.2.1.below hxb,HX0.out.2.2.2.2.below hxb⟩)
     clear hxb
     by_cases hln:lampK d1
     ·have c0:=HX1.out.2.2.1.cell (i:=0) rfl
      have c1':=HX1.out.2.2.1.cell (i:=1) rfl
      go_wp2_with fail
      clear c0 c1'
      go_at_call 14
      refine (lamp_c (k:=d1) (l:=d2) (r:=true) ⟨fun _=>hln,fun _=>rfl⟩).mono ?_
      rintro e X2 ⟨rfl,hxb⟩
      have HX2:=Lib.hid (show Below W8.heap.size W8 X2∧Blk X2 (pb + 1) TC [.int .u8 o1,.int .u8 o2]∧Blk X2 nb TC [.int .u8 d1,.int .u8 d2]∧Blk X2 (zs) TL [.int .u8 a2,.int .u8 b2]∧Blk X2 (zs + 1) TL [.int .u8 a,.int .u8 b] from ⟨HX1.out.1.trans (hxb.mono HX1.out.1.size),HX1.out.2.1.below hxb,HX1.out.2.2.1.below hxb,HX1.out.2.2.2.1.below hxb,HX1.out.2.2.2.2.below hxb⟩)
      clear hxb
      have c0:=HX2.out.2.1.cell (i:=0) rfl
      have c1':=HX2.out.2.1.cell (i:=1) rfl
      go_wp2_with fail
      clear c0 c1'
      go_at_call 14
      refine (lamp_c (k:=o1) (l:=o2) (r:=false) ⟨fun e=>Bool.noConfusion e,fun e=>absurd e hlo⟩).mono ?_
      rintro e X3 ⟨rfl,hxb⟩
      have HX3:=Lib.hid (show Below W8.heap.size W8 X3∧Blk X3 (pb + 1) TC [.int .u8 o1,.int .u8 o2]∧Blk X3 nb TC [.int .u8 d1,.int .u8 d2]∧Blk X3 (zs) TL [.int .u8 a2,.int .u8 b2]∧Blk X3 (zs + 1) TL [.int .u8 a,.int .u8 b] from ⟨HX2.out.1.trans (hxb.mono HX2.out.1.size),HX2.out.2.1.below hxb,HX2.out.2.2.1.below hxb,HX2.out.2.2.2.1.below hxb,HX2.out.2.2.2.2.below hxb⟩)
      clear hxb
      by_cases hdo:darkK o1
      ·have c0:=HX3.out.2.1.cell (i:=0) rfl
       have c1':=HX3.out.2.1.cell (i:=1) rfl
       go_wp2_with fail
       clear c0 c1'
       go_at_call 15
       refine (dark_c (k:=o1) (l:=o2) (r:=true) ⟨fun _=>hdo,fun _=>rfl⟩).mono ?_
       rintro e X4 ⟨rfl,hxb⟩
       have HX4:=Lib.hid (show Below W8.heap.size W8 X4∧Blk X4 (pb + 1) TC [.int .u8 o1,.int .u8 o2]∧Blk X4 nb TC [.int .u8 d1,.int .u8 d2]∧Blk X4 (zs) TL [.int .u8 a2,.int .u8 b2]∧Blk X4 (zs + 1) TL [.int .u8 a,.int .u8 b] from ⟨HX3.out.1.trans (hxb.mono HX3.out.1.size),HX3.out.2.1.below hxb,HX3.out.2.2.1.below hxb,HX3.out.2.2.2.1.below hxb,HX3.out.2.2.2.2.below hxb⟩)
       clear hxb
       have hq1:=(HLIG.out hdo).1
       have hq2:=(HLIG.out hdo).2
       have hz1:¬ (a:Int) < (a2:Int):=by omega
       have hz2:¬ (b:Int) < (b2:Int):=by omega
       have v0:=HX4.out.2.2.2.1.cell (i:=0) rfl
       have v1:=HX4.out.2.2.2.1.cell (i:=1) rfl
       have v2:=HX4.out.2.2.2.2.cell (i:=0) rfl
       have v3:=HX4.out.2.2.2.2.cell (i:=1) rfl
       go_wp2_with fail
       go_roundw
       case rel=>exact ⟨j + 1,by first | rfl | rw [HW1.out] | (congr 1; omega),by omega,HX4.out.1.trans (by (repeat' (first | (with_reducible exact Below.refl _ _) | (with_reducible refine Below.setCell ?_ (by (first | omega | (simp; done) | (simp; omega))) _) | (with_reducible refine Below.alloc ?_ (by (first | omega | (simp; done) | (simp; omega))) _) | (with_reducible refine Below.drew ?_) | (with_reducible refine below_drewN ?_ _))))⟩
       case measure =>
        simp only [intOf]
        omega
      ·have c0:=HX3.out.2.1.cell (i:=0) rfl
       have c1':=HX3.out.2.1.cell (i:=1) rfl
       go_wp2_with fail
       clear c0 c1'
       go_at_call 15
       refine (dark_c (k:=o1) (l:=o2) (r:=false) ⟨fun e=>Bool.noConfusion e,fun e=>absurd e hdo⟩).mono ?_
       rintro e X4 ⟨rfl,hxb⟩
       have HX4:=Lib.hid (show Below W8.heap.size W8 X4∧Blk X4 (pb + 1) TC [.int .u8 o1,.int .u8 o2]∧Blk X4 nb TC [.int .u8 d1,.int .u8 d2]∧Blk X4 (zs) TL [.int .u8 a2,.int .u8 b2]∧Blk X4 (zs + 1) TL [.int .u8 a,.int .u8 b] from ⟨HX3.out.1.trans (hxb.mono HX3.out.1.size),HX3.out.2.1.below hxb,HX3.out.2.2.1.below hxb,HX3.out.2.2.2.1.below hxb,HX3.out.2.2.2.2.below hxb⟩)
       clear hxb
       go_wp2_with fail
       go_roundw
       case rel=>exact ⟨j + 1,by first | rfl | rw [HW1.out] | (congr 1; omega),by omega,HX4.out.1.trans (by (repeat' (first | (with_reducible exact Below.refl _ _) | (with_reducible refine Below.setCell ?_ (by (first | omega | (simp; done) | (simp; omega))) _) | (with_reducible refine Below.alloc ?_ (by (first | omega | (simp; done) | (simp; omega))) _) | (with_reducible refine Below.drew ?_) | (with_reducible refine below_drewN ?_ _))))⟩
       case measure =>
        simp only [intOf]
        omega
     ·have c0:=HX1.out.2.2.1.cell (i:=0) rfl
      have c1':=HX1.out.2.2.1.cell (i:=1) rfl
      go_wp2_with fail
      clear c0 c1'
      go_at_call 14
      refine (lamp_c (k:=d1) (l:=d2) (r:=false) ⟨fun e=>Bool.noConfusion e,fun e=>absurd e hln⟩).mono ?_
      rintro e X2 ⟨rfl,hxb⟩
      have HX2:=Lib.hid (show Below W8.heap.size W8 X2∧Blk X2 (pb + 1) TC [.int .u8 o1,.int .u8 o2]∧Blk X2 nb TC [.int .u8 d1,.int .u8 d2]∧Blk X2 (zs) TL [.int .u8 a2,.int .u8 b2]∧Blk X2 (zs + 1) TL [.int .u8 a,.int .u8 b] from ⟨HX1.out.1.trans (hxb.mono HX1.out.1.size),HX1.out.2.1.below hxb,HX1.out.2.2.1.below hxb,HX1.out.2.2.2.1.below hxb,HX1.out.2.2.2.2.below hxb⟩)
      clear hxb
      by_cases hdn:darkK d1
      ·have c0:=HX2.out.2.2.1.cell (i:=0) rfl
       have c1':=HX2.out.2.2.1.cell (i:=1) rfl
       go_wp2_with fail
       clear c0 c1'
       go_at_call 15
       refine (dark_c (k:=d1) (l:=d2) (r:=true) ⟨fun _=>hdn,fun _=>rfl⟩).mono ?_
       rintro e X3 ⟨rfl,hxb⟩
       have HX3:=Lib.hid (show Below W8.heap.size W8 X3∧Blk X3 (pb + 1) TC [.int .u8 o1,.int .u8 o2]∧Blk X3 nb TC [.int .u8 d1,.int .u8 d2]∧Blk X3 (zs) TL [.int .u8 a2,.int .u8 b2]∧Blk X3 (zs + 1) TL [.int .u8 a,.int .u8 b] from ⟨HX2.out.1.trans (hxb.mono HX2.out.1.size),HX2.out.2.1.below hxb,HX2.out.2.2.1.below hxb,HX2.out.2.2.2.1.below hxb,HX2.out.2.2.2.2.below hxb⟩)
       clear hxb
       have hp1:=(HDIM.out hdn).1
       have hp2:=(HDIM.out hdn).2
       have hy1:¬ (a2:Int) < (a:Int):=by omega
       have hy2:¬ (b2:Int) < (b:Int):=by omega
       have c0:=HX3.out.2.1.cell (i:=0) rfl
       have c1':=HX3.out.2.1.cell (i:=1) rfl
       have v0:=HX3.out.2.2.2.1.cell (i:=0) rfl
       have v1:=HX3.out.2.2.2.1.cell (i:=1) rfl
       have v2:=HX3.out.2.2.2.2.cell (i:=0) rfl
       have v3:=HX3.out.2.2.2.2.cell (i:=1) rfl
       go_wp2_with fail
       clear c0 c1'
       go_at_call 14
       refine (lamp_c (k:=o1) (l:=o2) (r:=false) ⟨fun e=>Bool.noConfusion e,fun e=>absurd e hlo⟩).mono ?_
       rintro e X4 ⟨rfl,hxb⟩
       have HX4:=Lib.hid (show Below W8.heap.size W8 X4∧Blk X4 (pb + 1) TC [.int .u8 o1,.int .u8 o2]∧Blk X4 nb TC [.int .u8 d1,.int .u8 d2]∧Blk X4 (zs) TL [.int .u8 a2,.int .u8 b2]∧Blk X4 (zs + 1) TL [.int .u8 a,.int .u8 b] from ⟨HX3.out.1.trans (hxb.mono HX3.out.1.size),HX3.out.2.1.below hxb,HX3.out.2.2.1.below hxb,HX3.out.2.2.2.1.below hxb,HX3.out.2.2.2.2.below hxb⟩)
       clear hxb
       by_cases hdo:darkK o1
       ·have c0:=HX4.out.2.1.cell (i:=0) rfl
        have c1':=HX4.out.2.1.cell (i:=1) rfl
        go_wp2_with fail
        clear c0 c1'
        go_at_call 15
        refine (dark_c (k:=o1) (l:=o2) (r:=true) ⟨fun _=>hdo,fun _=>rfl⟩).mono ?_
        rintro e X5 ⟨rfl,hxb⟩
        have HX5:=Lib.hid (show Below W8.heap.size W8 X5∧Blk X5 (pb + 1) TC [.int .u8 o1,.int .u8 o2]∧Blk X5 nb TC [.int .u8 d1,.int .u8 d2]∧Blk X5 (zs) TL [.int .u8 a2,.int .u8 b2]∧Blk X5 (zs + 1) TL [.int .u8 a,.int .u8 b] from ⟨HX4.out.1.trans (hxb.mono HX4.out.1.size),HX4.out.2.1.below hxb,HX4.out.2.2.1.below hxb,HX4.out.2.2.2.1.below hxb,HX4.out.2.2.2.2.below hxb⟩)
        clear hxb
        have hq1:=(HLIG.out hdo).1
        have hq2:=(HLIG.out hdo).2
        have hz1:¬ (a:Int) < (a2:Int):=by omega
        have hz2:¬ (b:Int) < (b2:Int):=by omega
        have v0:=HX5.out.2.2.2.1.cell (i:=0) rfl
        have v1:=HX5.out.2.2.2.1.cell (i:=1) rfl
        have v2:=HX5.out.2.2.2.2.cell (i:=0) rfl
        have v3:=HX5.out.2.2.2.2.cell (i:=1) rfl
        go_wp2_with fail
        go_roundw
        case rel=>exact ⟨j + 1,by first | rfl | rw [HW1.out] | (congr 1; omega),by omega,HX5.out.1.trans (by (repeat' (first | (with_reducible exact Below.refl _ _) | (with_reducible refine Below.setCell ?_ (by (first | omega | (simp; done) | (simp; omega))) _) | (with_reducible refine Below.alloc ?_ (by (first | omega | (simp; done) | (simp; omega))) _) | (with_reducible refine Below.drew ?_) | (with_reducible refine below_drewN ?_ _))))⟩
        case measure =>
         simp only [intOf]
         omega
       ·have c0:=HX4.out.2.1.cell (i:=0) rfl
        have c1':=HX4.out.2.1.cell (i:=1) rfl
        go_wp2_with fail
        clear c0 c1'
        go_at_call 15
        refine (dark_c (k:=o1) (l:=o2) (r:=false) ⟨fun e=>Bool.noConfusion e,fun e=>absurd e hdo⟩).mono ?_
        rintro e X5 ⟨rfl,hxb⟩
        have HX5:=Lib.hid (show Below W8.heap.size W8 X5∧Blk X5 (pb + 1) TC [.int .u8 o1,.int .u8 o2]∧Blk X5 nb TC [.int .u8 d1,.int .u8 d2]∧Blk X5 (zs) TL [.int .u8 a2,.int .u8 b2]∧Blk X5 (zs + 1) TL [.int .u8 a,.int .u8 b] from ⟨HX4.out.1.trans (hxb.mono HX4.out.1.size),HX4.out.2.1.below hxb,HX4.out.2.2.1.below hxb,HX4.out.2.2.2.1.below hxb,HX4.out.2.2.2.2.below hxb⟩)
        clear hxb
        go_wp2_with fail
        go_roundw
        case rel=>exact ⟨j + 1,by first | rfl | rw [HW1.out] | (congr 1; omega),by omega,HX5.out.1.trans (by (repeat' (first | (with_reducible exact Below.refl _ _) | (with_reducible refine Below.setCell ?_ (by (first | omega | (simp; done) | (simp; omega))) _) | (with_reducible refine Below.alloc ?_ (by (first | omega | (simp; done) | (simp; omega))) _) | (with_reducible refine Below.drew ?_) | (with_reducible refine below_drewN ?_ _))))⟩
        case measure =>
         simp only [intOf]
         omega
      ·have c0:=HX2.out.2.2.1.cell (i:=0) rfl
       have c1':=HX2.out.2.2.1.cell (i:=1) rfl
       go_wp2_with fail
       clear c0 c1'
       go_at_call 15
       refine (dark_c (k:=d1) (l:=d2) (r:=false) ⟨fun e=>Bool.noConfusion e,fun e=>absurd e hdn⟩).mono ?_
       rintro e X3 ⟨rfl,hxb⟩
       have HX3:=Lib.hid (show Below W8.heap.size W8 X3∧Blk X3 (pb + 1) TC [.int .u8 o1,.int .u8 o2]∧Blk X3 nb TC [.int .u8 d1,.int .u8 d2]∧Blk X3 (zs) TL [.int .u8 a2,.int .u8 b2]∧Blk X3 (zs + 1) TL [.int .u8 a,.int .u8 b] from ⟨HX2.out.1.trans (hxb.mono HX2.out.1.size),HX2.out.2.1.below hxb,HX2.out.2.2.1.below hxb,HX2.out.2.2.2.1.below hxb,HX2.out.2.2.2.2.below hxb⟩)
       clear hxb
       have c0:=HX3.out.2.1.cell (i:=0) rfl
       have c1':=HX3.out.2.1.cell (i:=1) rfl
       go_wp2_with fail
       clear c0 c1'
       go_at_call 14
       refine (lamp_c (k:=o1) (l:=o2) (r:=false) ⟨fun e=>Bool.noConfusion e,fun e=>absurd e hlo⟩).mono ?_
       rintro e X4 ⟨rfl,hxb⟩
       have HX4:=Lib.hid (show Below W8.heap.size W8 X4∧Blk X4 (pb + 1) TC [.int .u8 o1,.int .u8 o2]∧Blk X4 nb TC [.int .u8 d1,.int .u8 d2]∧Blk X4 (zs) TL [.int .u8 a2,.int .u8 b2]∧Blk X4 (zs + 1) TL [.int .u8 a,.int .u8 b] from ⟨HX3.out.1.trans (hxb.mono HX3.out.1.size),HX3.out.2.1.below hxb,HX3.out.2.2.1.below hxb,HX3.out.2.2.2.1.below hxb,HX3.out.2.2.2.2.below hxb⟩)
       clear hxb
       by_cases hdo:darkK o1
       ·have c0:=HX4.out.2.1.cell (i:=0) rfl
        have c1':=HX4.out.2.1.cell (i:=1) rfl
        go_wp2_with fail
        clear c0 c1'
        go_at_call 15
        refine (dark_c (k:=o1) (l:=o2) (r:=true) ⟨fun _=>hdo,fun _=>rfl⟩).mono ?_
        rintro e X5 ⟨rfl,hxb⟩
        have HX5:=Lib.hid (show Below W8.heap.size W8 X5∧Blk X5 (pb + 1) TC [.int .u8 o1,.int .u8 o2]∧Blk X5 nb TC [.int .u8 d1,.int .u8 d2]∧Blk X5 (zs) TL [.int .u8 a2,.int .u8 b2]∧Blk X5 (zs + 1) TL [.int .u8 a,.int .u8 b] from ⟨HX4.out.1.trans (hxb.mono HX4.out.1.size),HX4.out.2.1.below hxb,HX4.out.2.2.1.below hxb,HX4.out.2.2.2.1.below hxb,HX4.out.2.2.2.2.below hxb⟩)
        clear hxb
        have hq1:=(HLIG.out hdo).1
        have hq2:=(HLIG.out hdo).2
        have hz1:¬ (a:Int) < (a2:Int):=by omega
        have hz2:¬ (b:Int) < (b2:Int):=by omega
        have v0:=HX5.out.2.2.2.1.cell (i:=0) rfl
        have v1:=HX5.out.2.2.2.1.cell (i:=1) rfl
        have v2:=HX5.out.2.2.2.2.cell (i:=0) rfl
        have v3:=HX5.out.2.2.2.2.cell (i:=1) rfl
        go_wp2_with fail
        go_roundw
        case rel=>exact ⟨j + 1,by first | rfl | rw [HW1.out] | (congr 1; omega),by omega,HX5.out.1.trans (by (repeat' (first | (with_reducible exact Below.refl _ _) | (with_reducible refine Below.setCell ?_ (by (first | omega | (simp; done) | (simp; omega))) _) | (with_reducible refine Below.alloc ?_ (by (first | omega | (simp; done) | (simp; omega))) _) | (with_reducible refine Below.drew ?_) | (with_reducible refine below_drewN ?_ _))))⟩
        case measure =>
         simp only [intOf]
         omega
       ·have c0:=HX4.out.2.1.cell (i:=0) rfl
        have c1':=HX4.out.2.1.cell (i:=1) rfl
        go_wp2_with fail
        clear c0 c1'
        go_at_call 15
        refine (dark_c (k:=o1) (l:=o2) (r:=false) ⟨fun e=>Bool.noConfusion e,fun e=>absurd e hdo⟩).mono ?_
        rintro e X5 ⟨rfl,hxb⟩
        have HX5:=Lib.hid (show Below W8.heap.size W8 X5∧Blk X5 (pb + 1) TC [.int .u8 o1,.int .u8 o2]∧Blk X5 nb TC [.int .u8 d1,.int .u8 d2]∧Blk X5 (zs) TL [.int .u8 a2,.int .u8 b2]∧Blk X5 (zs + 1) TL [.int .u8 a,.int .u8 b] from ⟨HX4.out.1.trans (hxb.mono HX4.out.1.size),HX4.out.2.1.below hxb,HX4.out.2.2.1.below hxb,HX4.out.2.2.2.1.below hxb,HX4.out.2.2.2.2.below hxb⟩)
        clear hxb
        go_wp2_with fail
        go_roundw
        case rel=>exact ⟨j + 1,by first | rfl | rw [HW1.out] | (congr 1; omega),by omega,HX5.out.1.trans (by (repeat' (first | (with_reducible exact Below.refl _ _) | (with_reducible refine Below.setCell ?_ (by (first | omega | (simp; done) | (simp; omega))) _) | (with_reducible refine Below.alloc ?_ (by (first | omega | (simp; done) | (simp; omega))) _) | (with_reducible refine Below.drew ?_) | (with_reducible refine below_drewN ?_ _))))⟩
        case measure =>
         simp only [intOf]
         omega
   ·go_simp
    refine hK.out _ _ (⟨HFR.out.below (by (repeat' (first | (with_reducible exact Below.refl _ _) | (with_reducible refine Below.setCell ?_ (by (first | omega | (simp; done) | (simp; omega))) _) | (with_reducible refine Below.alloc ?_ (by (first | omega | (simp; done) | (simp; omega))) _) | (with_reducible refine Below.drew ?_) | (with_reducible refine below_drewN ?_ _)))),HWA.out.below (by (repeat' (first | (with_reducible exact Below.refl _ _) | (with_reducible refine Below.setCell ?_ (by (first | omega | (simp; done) | (simp; omega))) _) | (with_reducible refine Below.alloc ?_ (by (first | omega | (simp; done) | (simp; omega))) _) | (with_reducible refine Below.drew ?_) | (with_reducible refine below_drewN ?_ _))))⟩) (fun hHeld=>?_)
    clear hK K
    refine wpAnyH_ready (rs:=[11]) (by kernel_rfl) (by simp) ?_
    refine AllReadyH.cons (o:=⟨some 12,_,_,_,_,_⟩) rfl (fun K hK=>?_) AllReadyH.nil
    go_simp
    refine hK.out _ _ (⟨HFR.out.below (by (repeat' (first | (with_reducible exact Below.refl _ _) | (with_reducible refine Below.setCell ?_ (by (first | omega | (simp; done) | (simp; omega))) _) | (with_reducible refine Below.alloc ?_ (by (first | omega | (simp; done) | (simp; omega))) _) | (with_reducible refine Below.drew ?_) | (with_reducible refine below_drewN ?_ _)))),HWA.out.below (by (repeat' (first | (with_reducible exact Below.refl _ _) | (with_reducible refine Below.setCell ?_ (by (first | omega | (simp; done) | (simp; omega))) _) | (with_reducible refine Below.alloc ?_ (by (first | omega | (simp; done) | (simp; omega))) _) | (with_reducible refine Below.drew ?_) | (with_reducible refine below_drewN ?_ _))))⟩) (fun hHeld=>?_)
    clear hK K
    refine wpAnyH_ready (rs:=[13]) (by kernel_rfl) (by simp) ?_
    refine AllReadyH.cons (o:=⟨none,_,_,_,_,_⟩) rfl (fun K hK=>?_) AllReadyH.nil
    go_simp
    refine hK.out _ _ (⟨HFR.out.below (by (repeat' (first | (with_reducible exact Below.refl _ _) | (with_reducible refine Below.setCell ?_ (by (first | omega | (simp; done) | (simp; omega))) _) | (with_reducible refine Below.alloc ?_ (by (first | omega | (simp; done) | (simp; omega))) _) | (with_reducible refine Below.drew ?_) | (with_reducible refine below_drewN ?_ _)))),HWA.out.below (by (repeat' (first | (with_reducible exact Below.refl _ _) | (with_reducible refine Below.setCell ?_ (by (first | omega | (simp; done) | (simp; omega))) _) | (with_reducible refine Below.alloc ?_ (by (first | omega | (simp; done) | (simp; omega))) _) | (with_reducible refine Below.drew ?_) | (with_reducible refine below_drewN ?_ _))))⟩) (fun hHeld=>?_)
    clear hK K
    refine wpAnyH_ready (rs:=[14]) (by kernel_rfl) (by simp) ?_
    refine AllReadyH.cons (o:=⟨none,_,_,_,_,_⟩) rfl (fun K hK=>?_) AllReadyH.nil
    go_simp
    refine hK.out _ _ (⟨HFR.out.below (by (repeat' (first | (with_reducible exact Below.refl _ _) | (with_reducible refine Below.setCell ?_ (by (first | omega | (simp; done) | (simp; omega))) _) | (with_reducible refine Below.alloc ?_ (by (first | omega | (simp; done) | (simp; omega))) _) | (with_reducible refine Below.drew ?_) | (with_reducible refine below_drewN ?_ _)))),HWA.out.below (by (repeat' (first | (with_reducible exact Below.refl _ _) | (with_reducible refine Below.setCell ?_ (by (first | omega | (simp; done) | (simp; omega))) _) | (with_reducible refine Below.alloc ?_ (by (first | omega | (simp; done) | (simp; omega))) _) | (with_reducible refine Below.drew ?_) | (with_reducible refine below_drewN ?_ _))))⟩) (fun hHeld=>?_)
    clear hK K
    refine wpAnyH_done (by kernel_rfl) ?_ _
    refine NoPanic.normal ?_
    clear hHeld
    obtain ⟨zs,hzs⟩:∃ zs,wr.heap.size = zs:=⟨_,rfl⟩
    refine HeldP.then_named (S:=fun W=>Below W8.heap.size W8 W∧Blk W (pb + 1) TC [.int .u8 o1,.int .u8 o2]∧Blk W nb TC [.int .u8 d1,.int .u8 d2]∧Blk W (zs + 1) TL [.int .u8 a2,.int .u8 b2]∧Blk W (zs) TL [.int .u8 a,.int .u8 b]) ⟨HBR.out.trans (by have:=HBR.out.size; (repeat' (first | (with_reducible exact Below.refl _ _) | (with_reducible refine Below.setCell ?_ (by (first | omega | (simp; done) | (simp; omega))) _) | (with_reducible refine Below.alloc ?_ (by (first | omega | (simp; done) | (simp; omega))) _) | (with_reducible refine Below.drew ?_) | (with_reducible refine below_drewN ?_ _)))),(HC8'.out.below HBR.out).below (by (repeat' (first | (with_reducible exact Below.refl _ _) | (with_reducible refine Below.setCell ?_ (by (first | omega | (simp; done) | (simp; omega))) _) | (with_reducible refine Below.alloc ?_ (by (first | omega | (simp; done) | (simp; omega))) _) | (with_reducible refine Below.drew ?_) | (with_reducible refine below_drewN ?_ _)))),(HN8.out.below HBR.out).below (by (repeat' (first | (with_reducible exact Below.refl _ _) | (with_reducible refine Below.setCell ?_ (by (first | omega | (simp; done) | (simp; omega))) _) | (with_reducible refine Below.alloc ?_ (by (first | omega | (simp; done) | (simp; omega))) _) | (with_reducible refine Below.drew ?_) | (with_reducible refine below_drewN ?_ _)))),by subst hzs; (repeat' (first | (with_reducible refine BlkP.Blk.drew ?_) | (with_reducible refine BlkP.Blk.drewN ?_ _) | (with_reducible refine BlkP.Blk.setAt (us:=?_) (by first | omega | (simp; done) | (simp; omega)) rfl ?_ ?_) | (with_reducible refine BlkP.Blk.otherAt ?_ (by first | omega | (simp; done) | (simp; omega))) | (with_reducible refine BlkP.Blk.newA' (by first | omega | (simp; done) | (simp; omega)) rfl) | (with_reducible refine BlkP.Blk.alloc ?_ _) | (exact rfl))),by subst hzs; (repeat' (first | (with_reducible refine BlkP.Blk.drew ?_) | (with_reducible refine BlkP.Blk.drewN ?_ _) | (with_reducible refine BlkP.Blk.setAt (us:=?_) (by first | omega | (simp; done) | (simp; omega)) rfl ?_ ?_) | (with_reducible refine BlkP.Blk.otherAt ?_ (by first | omega | (simp; done) | (simp; omega))) | (with_reducible refine BlkP.Blk.newA' (by first | omega | (simp; done) | (simp; omega)) rfl) | (with_reducible refine BlkP.Blk.alloc ?_ _) | (exact rfl)))⟩ ?_
    rintro X0 ⟨hx1,hx2,hx3,hx4,hx5⟩
    rw [hzs]
    have HX0:=Lib.hid (show Below W8.heap.size W8 X0∧Blk X0 (pb + 1) TC [.int .u8 o1,.int .u8 o2]∧Blk X0 nb TC [.int .u8 d1,.int .u8 d2]∧Blk X0 (zs + 1) TL [.int .u8 a2,.int .u8 b2]∧Blk X0 (zs) TL [.int .u8 a,.int .u8 b] from ⟨hx1,hx2,hx3,hx4,hx5⟩)
    clear hx1 hx2 hx3 hx4 hx5 hzs
    by_cases hlo:lampK o1
    ·have c0:=HX0.out.2.1.cell (i:=0) rfl
     have c1':=HX0.out.2.1.cell (i:=1) rfl
     go_wp2_with fail
     clear c0 c1'
     go_at_call 14
     refine (lamp_c (k:=o1) (l:=o2) (r:=true) ⟨fun _=>hlo,fun _=>rfl⟩).mono ?_
     rintro e X1 ⟨rfl,hxb⟩
     have HX1:=Lib.hid (show Below W8.heap.size W8 X1∧Blk X1 (pb + 1) TC [.int .u8 o1,.int .u8 o2]∧Blk X1 nb TC [.int .u8 d1,.int .u8 d2]∧Blk X1 (zs + 1) TL [.int .u8 a2,.int .u8 b2]∧Blk X1 (zs) TL [.int .u8 a,.int .u8 b] from ⟨HX0.out.1.trans (hxb.mono HX0.out.1.size),HX0.out.2.1.below hxb,HX0.out.2.2.1.below hxb,HX0.out.2.2.2.1.below hxb,HX0.out.2.2.2.2.below hxb⟩)
     clear hxb
     have c0:=HX1.out.2.1.cell (i:=0) rfl
     have c1':=HX1.out.2.1.cell (i:=1) rfl
     go_wp2_with fail
     clear c0 c1'
     go_at_call 14
     refine (lamp_c (k:=o1) (l:=o2) (r:=true) ⟨fun _=>hlo,fun _=>rfl⟩).mono ?_
     rintro e X2 ⟨rfl,hxb⟩
     have HX2:=Lib.hid (show Below W8.heap.size W8 X2∧Blk X2 (pb + 1) TC [.int .u8 o1,.int .u8 o2]∧Blk X2 nb TC [.int .u8 d1,.int .u8 d2]∧Blk X2 (zs + 1) TL [.int .u8 a2,.int .u8 b2]∧Blk X2 (zs) TL [.int .u8 a,.int .u8 b] from ⟨HX1.out.1.trans (hxb.mono HX1.out.1.size),HX1.out.2.1.below hxb,HX1.out.2.2.1.below hxb,HX1.out.2.2.2.1.below hxb,HX1.out.2.2.2.2.below hxb⟩)
     clear hxb
     go_wp2_with fail
     go_roundw
     case rel=>exact ⟨j + 1,by first | rfl | rw [HW1.out] | (congr 1; omega),by omega,HX2.out.1.trans (by (repeat' (first | (with_reducible exact Below.refl _ _) | (with_reducible refine Below.setCell ?_ (by (first | omega | (simp; done) | (simp; omega))) _) | (with_reducible refine Below.alloc ?_ (by (first | omega | (simp; done) | (simp; omega))) _) | (with_reducible refine Below.drew ?_) | (with_reducible refine below_drewN ?_ _))))⟩
     case measure =>
      simp only [intOf]
      omega
    ·have c0:=HX0.out.2.1.cell (i:=0) rfl
     have c1':=HX0.out.2.1.cell (i:=1) rfl
     go_wp2_with fail
     clear c0 c1'
     go_at_call 14
     refine (lamp_c (k:=o1) (l:=o2) (r:=false) ⟨fun e=>Bool.noConfusion e,fun e=>absurd e hlo⟩).mono ?_
     rintro e X1 ⟨rfl,hxb⟩
     have HX1:=Lib.hid (show Below W8.heap.size W8 X1∧Blk X1 (pb + 1) TC [.int .u8 o1,.int .u8 o2]∧Blk X1 nb TC [.int .u8 d1,.int .u8 d2]∧Blk X1 (zs + 1) TL [.int .u8 a2,.int .u8 b2]∧Blk X1 (zs) TL [.int .u8 a,.int .u8 b] from ⟨HX0.out.1.trans (hxb.mono HX0.out.1.size),HX0.out.2.1.below hxb,HX0.out.2.2.1.below hxb,HX0.out.2.2.2.1.below hxb,HX0.out.2.2.2.2.below hxb⟩)
     clear hxb
     by_cases hln:lampK d1
     ·have c0:=HX1.out.2.2.1.cell (i:=0) rfl
      have c1':=HX1.out.2.2.1.cell (i:=1) rfl
      go_wp2_with fail
      clear c0 c1'
      go_at_call 14
      refine (lamp_c (k:=d1) (l:=d2) (r:=true) ⟨fun _=>hln,fun _=>rfl⟩).mono ?_
      rintro e X2 ⟨rfl,hxb⟩
      have HX2:=Lib.hid (show Below W8.heap.size W8 X2∧Blk X2 (pb + 1) TC [.int .u8 o1,.int .u8 o2]∧Blk X2 nb TC [.int .u8 d1,.int .u8 d2]∧Blk X2 (zs + 1) TL [.int .u8 a2,.int .u8 b2]∧Blk X2 (zs) TL [.int .u8 a,.int .u8 b] from ⟨HX1.out.1.trans (hxb.mono HX1.out.1.size),HX1.out.2.1.below hxb,HX1.out.2.2.1.below hxb,HX1.out.2.2.2.1.below hxb,HX1.out.2.2.2.2.below hxb⟩)
      clear hxb
      have c0:=HX2.out.2.1.cell (i:=0) rfl
      have c1':=HX2.out.2.1.cell (i:=1) rfl
      go_wp2_with fail
      clear c0 c1'
      go_at_call 14
      refine (lamp_c (k:=o1) (l:=o2) (r:=false) ⟨fun e=>Bool.noConfusion e,fun e=>absurd e hlo⟩).mono ?_
      rintro e X3 ⟨rfl,hxb⟩
      have HX3:=Lib.hid (show Below W8.heap.size W8 X3∧Blk X3 (pb + 1) TC [.int .u8 o1,.int .u8 o2]∧Blk X3 nb TC [.int .u8 d1,.int .u8 d2]∧Blk X3 (zs + 1) TL [.int .u8 a2,.int .u8 b2]∧Blk X3 (zs) TL [.int .u8 a,.int .u8 b] from ⟨HX2.out.1.trans (hxb.mono HX2.out.1.size),HX2.out.2.1.below hxb,HX2.out.2.2.1.below hxb,HX2.out.2.2.2.1.below hxb,HX2.out.2.2.2.2.below hxb⟩)
      clear hxb
      by_cases hdo:darkK o1
      ·have c0:=HX3.out.2.1.cell (i:=0) rfl
       have c1':=HX3.out.2.1.cell (i:=1) rfl
       go_wp2_with fail
       clear c0 c1'
       go_at_call 15
       refine (dark_c (k:=o1) (l:=o2) (r:=true) ⟨fun _=>hdo,fun _=>rfl⟩).mono ?_
       rintro e X4 ⟨rfl,hxb⟩
       have HX4:=Lib.hid (show Below W8.heap.size W8 X4∧Blk X4 (pb + 1) TC [.int .u8 o1,.int .u8 o2]∧Blk X4 nb TC [.int .u8 d1,.int .u8 d2]∧Blk X4 (zs + 1) TL [.int .u8 a2,.int .u8 b2]∧Blk X4 (zs) TL [.int .u8 a,.int .u8 b] from ⟨HX3.out.1.trans (hxb.mono HX3.out.1.size),HX3.out.2.1.below hxb,HX3.out.2.2.1.below hxb,HX3.out.2.2.2.1.below hxb,HX3.out.2.2.2.2.below hxb⟩)
       clear hxb
       have hq1:=(HLIG.out hdo).1
       have hq2:=(HLIG.out hdo).2
       have hz1:¬ (a:Int) < (a2:Int):=by omega
       have hz2:¬ (b:Int) < (b2:Int):=by omega
       have v0:=HX4.out.2.2.2.1.cell (i:=0) rfl
       have v1:=HX4.out.2.2.2.1.cell (i:=1) rfl
       have v2:=HX4.out.2.2.2.2.cell (i:=0) rfl
       have v3:=HX4.out.2.2.2.2.cell (i:=1) rfl
       go_wp2_with fail
       go_roundw
       case rel=>exact ⟨j + 1,by first | rfl | rw [HW1.out] | (congr 1; omega),by omega,HX4.out.1.trans (by (repeat' (first | (with_reducible exact Below.refl _ _) | (with_reducible refine Below.setCell ?_ (by (first | omega | (simp; done) | (simp; omega))) _) | (with_reducible refine Below.alloc ?_ (by (first | omega | (simp; done) | (simp; omega))) _) | (with_reducible refine Below.drew ?_) | (with_reducible refine below_drewN ?_ _))))⟩
       case measure =>
        simp only [intOf]
        omega
      ·have c0:=HX3.out.2.1.cell (i:=0) rfl
       have c1':=HX3.out.2.1.cell (i:=1) rfl
       go_wp2_with fail
       clear c0 c1'
       go_at_call 15
       refine (dark_c (k:=o1) (l:=o2) (r:=false) ⟨fun e=>Bool.noConfusion e,fun e=>absurd e hdo⟩).mono ?_
       rintro e X4 ⟨rfl,hxb⟩
       have HX4:=Lib.hid (show Below W8.heap.size W8 X4∧Blk X4 (pb + 1) TC [.int .u8 o1,.int .u8 o2]∧Blk X4 nb TC [.int .u8 d1,.int .u8 d2]∧Blk X4 (zs + 1) TL [.int .u8 a2,.int .u8 b2]∧Blk X4 (zs) TL [.int .u8 a,.int .u8 b] from ⟨HX3.out.1.trans (hxb.mono HX3.out.1.size),HX3.out.2.1.below hxb,HX3.out.2.2.1.below hxb,HX3.out.2.2.2.1.below hxb,HX3.out.2.2.2.2.below hxb⟩)
       clear hxb
       go_wp2_with fail
       go_roundw
       case rel=>exact ⟨j + 1,by first | rfl | rw [HW1.out] | (congr 1; omega),by omega,HX4.out.1.trans (by (repeat' (first | (with_reducible exact Below.refl _ _) | (with_reducible refine Below.setCell ?_ (by (first | omega | (simp; done) | (simp; omega))) _) | (with_reducible refine Below.alloc ?_ (by (first | omega | (simp; done) | (simp; omega))) _) | (with_reducible refine Below.drew ?_) | (with_reducible refine below_drewN ?_ _))))⟩
       case measure =>
        simp only [intOf]
        omega
     ·have c0:=HX1.out.2.2.1.cell (i:=0) rfl
      have c1':=HX1.out.2.2.1.cell (i:=1) rfl
      go_wp2_with fail
      clear c0 c1'
      go_at_call 14
      refine (lamp_c (k:=d1) (l:=d2) (r:=false) ⟨fun e=>Bool.noConfusion e,fun e=>absurd e hln⟩).mono ?_
      rintro e X2 ⟨rfl,hxb⟩
      have HX2:=Lib.hid (show Below W8.heap.size W8 X2∧Blk X2 (pb + 1) TC [.int .u8 o1,.int .u8 o2]∧Blk X2 nb TC [.int .u8 d1,.int .u8 d2]∧Blk X2 (zs + 1) TL [.int .u8 a2,.int .u8 b2]∧Blk X2 (zs) TL [.int .u8 a,.int .u8 b] from ⟨HX1.out.1.trans (hxb.mono HX1.out.1.size),HX1.out.2.1.below hxb,HX1.out.2.2.1.below hxb,HX1.out.2.2.2.1.below hxb,HX1.out.2.2.2.2.below hxb⟩)
      clear hxb
      by_cases hdn:darkK d1
      ·have c0:=HX2.out.2.2.1.cell (i:=0) rfl
       have c1':=HX2.out.2.2.1.cell (i:=1) rfl
       go_wp2_with fail
       clear c0 c1'
       go_at_call 15
       refine (dark_c (k:=d1) (l:=d2) (r:=true) ⟨fun _=>hdn,fun _=>rfl⟩).mono ?_
       rintro e X3 ⟨rfl,hxb⟩
       have HX3:=Lib.hid (show Below W8.heap.size W8 X3∧Blk X3 (pb + 1) TC [.int .u8 o1,.int .u8 o2]∧Blk X3 nb TC [.int .u8 d1,.int .u8 d2]∧Blk X3 (zs + 1) TL [.int .u8 a2,.int .u8 b2]∧Blk X3 (zs) TL [.int .u8 a,.int .u8 b] from ⟨HX2.out.1.trans (hxb.mono HX2.out.1.size),HX2.out.2.1.below hxb,HX2.out.2.2.1.below hxb,HX2.out.2.2.2.1.below hxb,HX2.out.2.2.2.2.below hxb⟩)
       clear hxb
       have hp1:=(HDIM.out hdn).1
       have hp2:=(HDIM.out hdn).2
       have hy1:¬ (a2:Int) < (a:Int):=by omega
       have hy2:¬ (b2:Int) < (b:Int):=by omega
       have c0:=HX3.out.2.1.cell (i:=0) rfl
       have c1':=HX3.out.2.1.cell (i:=1) rfl
       have v0:=HX3.out.2.2.2.1.cell (i:=0) rfl
       have v1:=HX3.out.2.2.2.1.cell (i:=1) rfl
       have v2:=HX3.out.2.2.2.2.cell (i:=0) rfl
       have v3:=HX3.out.2.2.2.2.cell (i:=1) rfl
       go_wp2_with fail
       clear c0 c1'
       go_at_call 14
       refine (lamp_c (k:=o1) (l:=o2) (r:=false) ⟨fun e=>Bool.noConfusion e,fun e=>absurd e hlo⟩).mono ?_
       rintro e X4 ⟨rfl,hxb⟩
       have HX4:=Lib.hid (show Below W8.heap.size W8 X4∧Blk X4 (pb + 1) TC [.int .u8 o1,.int .u8 o2]∧Blk X4 nb TC [.int .u8 d1,.int .u8 d2]∧Blk X4 (zs + 1) TL [.int .u8 a2,.int .u8 b2]∧Blk X4 (zs) TL [.int .u8 a,.int .u8 b] from ⟨HX3.out.1.trans (hxb.mono HX3.out.1.size),HX3.out.2.1.below hxb,HX3.out.2.2.1.below hxb,HX3.out.2.2.2.1.below hxb,HX3.out.2.2.2.2.below hxb⟩)
       clear hxb
       by_cases hdo:darkK o1
       ·have c0:=HX4.out.2.1.cell (i:=0) rfl
        have c1':=HX4.out.2.1.cell (i:=1) rfl
        go_wp2_with fail
        clear c0 c1'
        go_at_call 15
        refine (dark_c (k:=o1) (l:=o2) (r:=true) ⟨fun _=>hdo,fun _=>rfl⟩).mono ?_
        rintro e X5 ⟨rfl,hxb⟩
        have HX5:=Lib.hid (show Below W8.heap.size W8 X5∧Blk X5 (pb + 1) TC [.int .u8 o1,.int .u8 o2]∧Blk X5 nb TC [.int .u8 d1,.int .u8 d2]∧Blk X5 (zs + 1) TL [.int .u8 a2,.int .u8 b2]∧Blk X5 (zs) TL [.int .u8 a,.int .u8 b] from ⟨HX4.out.1.trans (hxb.mono HX4.out.1.size),HX4.out.2.1.below hxb,HX4.out.2.2.1.below hxb,HX4.out.2.2.2.1.below hxb,HX4.out.2.2.2.2.below hxb⟩)
        clear hxb
        have hq1:=(HLIG.out hdo).1
        have hq2:=(HLIG.out hdo).2
        have hz1:¬ (a:Int) < (a2:Int):=by omega
        have hz2:¬ (b:Int) < (b2:Int):=by omega
        have v0:=HX5.out.2.2.2.1.cell (i:=0) rfl
        have v1:=HX5.out.2.2.2.1.cell (i:=1) rfl
        have v2:=HX5.out.2.2.2.2.cell (i:=0) rfl
        have v3:=HX5.out.2.2.2.2.cell (i:=1) rfl
        go_wp2_with fail
        go_roundw
        case rel=>exact ⟨j + 1,by first | rfl | rw [HW1.out] | (congr 1; omega),by omega,HX5.out.1.trans (by (repeat' (first | (with_reducible exact Below.refl _ _) | (with_reducible refine Below.setCell ?_ (by (first | omega | (simp; done) | (simp; omega))) _) | (with_reducible refine Below.alloc ?_ (by (first | omega | (simp; done) | (simp; omega))) _) | (with_reducible refine Below.drew ?_) | (with_reducible refine below_drewN ?_ _))))⟩
        case measure =>
         simp only [intOf]
         omega
       ·have c0:=HX4.out.2.1.cell (i:=0) rfl
        have c1':=HX4.out.2.1.cell (i:=1) rfl
        go_wp2_with fail
        clear c0 c1'
        go_at_call 15
        refine (dark_c (k:=o1) (l:=o2) (r:=false) ⟨fun e=>Bool.noConfusion e,fun e=>absurd e hdo⟩).mono ?_
        rintro e X5 ⟨rfl,hxb⟩
        have HX5:=Lib.hid (show Below W8.heap.size W8 X5∧Blk X5 (pb + 1) TC [.int .u8 o1,.int .u8 o2]∧Blk X5 nb TC [.int .u8 d1,.int .u8 d2]∧Blk X5 (zs + 1) TL [.int .u8 a2,.int .u8 b2]∧Blk X5 (zs) TL [.int .u8 a,.int .u8 b] from ⟨HX4.out.1.trans (hxb.mono HX4.out.1.size),HX4.out.2.1.below hxb,HX4.out.2.2.1.below hxb,HX4.out.2.2.2.1.below hxb,HX4.out.2.2.2.2.below hxb⟩)
        clear hxb
        go_wp2_with fail
        go_roundw
        case rel=>exact ⟨j + 1,by first | rfl | rw [HW1.out] | (congr 1; omega),by omega,HX5.out.1.trans (by (repeat' (first | (with_reducible exact Below.refl _ _) | (with_reducible refine Below.setCell ?_ (by (first | omega | (simp; done) | (simp; omega))) _) | (with_reducible refine Below.alloc ?_ (by (first | omega | (simp; done) | (simp; omega))) _) | (with_reducible refine Below.drew ?_) | (with_reducible refine below_drewN ?_ _))))⟩
        case measure =>
         simp only [intOf]
         omega
      ·have c0:=HX2.out.2.2.1.cell (i:=0) rfl
       have c1':=HX2.out.2.2.1.cell (i:=1) rfl
       go_wp2_with fail
       clear c0 c1'
       go_at_call 15
       refine (dark_c (k:=d1) (l:=d2) (r:=false) ⟨fun e=>Bool.noConfusion e,fun e=>absurd e hdn⟩).mono ?_
       rintro e X3 ⟨rfl,hxb⟩
       have HX3:=Lib.hid (show Below W8.heap.size W8 X3∧Blk X3 (pb + 1) TC [.int .u8 o1,.int .u8 o2]∧Blk X3 nb TC [.int .u8 d1,.int .u8 d2]∧Blk X3 (zs + 1) TL [.int .u8 a2,.int .u8 b2]∧Blk X3 (zs) TL [.int .u8 a,.int .u8 b] from ⟨HX2.out.1.trans (hxb.mono HX2.out.1.size),HX2.out.2.1.below hxb,HX2.out.2.2.1.below hxb,HX2.out.2.2.2.1.below hxb,HX2.out.2.2.2.2.below hxb⟩)
       clear hxb
       have c0:=HX3.out.2.1.cell (i:=0) rfl
       have c1':=HX3.out.2.1.cell (i:=1) rfl
       go_wp2_with fail
       clear c0 c1'
       go_at_call 14
       refine (lamp_c (k:=o1) (l:=o2) (r:=false) ⟨fun e=>Bool.noConfusion e,fun e=>absurd e hlo⟩).mono ?_
       rintro e X4 ⟨rfl,hxb⟩
       have HX4:=Lib.hid (show Below W8.heap.size W8 X4∧Blk X4 (pb + 1) TC [.int .u8 o1,.int .u8 o2]∧Blk X4 nb TC [.int .u8 d1,.int .u8 d2]∧Blk X4 (zs + 1) TL [.int .u8 a2,.int .u8 b2]∧Blk X4 (zs) TL [.int .u8 a,.int .u8 b] from ⟨HX3.out.1.trans (hxb.mono HX3.out.1.size),HX3.out.2.1.below hxb,HX3.out.2.2.1.below hxb,HX3.out.2.2.2.1.below hxb,HX3.out.2.2.2.2.below hxb⟩)
       clear hxb
       by_cases hdo:darkK o1
       ·have c0:=HX4.out.2.1.cell (i:=0) rfl
        have c1':=HX4.out.2.1.cell (i:=1) rfl
        go_wp2_with fail
        clear c0 c1'
        go_at_call 15
        refine (dark_c (k:=o1) (l:=o2) (r:=true) ⟨fun _=>hdo,fun _=>rfl⟩).mono ?_
        rintro e X5 ⟨rfl,hxb⟩
        have HX5:=Lib.hid (show Below W8.heap.size W8 X5∧Blk X5 (pb + 1) TC [.int .u8 o1,.int .u8 o2]∧Blk X5 nb TC [.int .u8 d1,.int .u8 d2]∧Blk X5 (zs + 1) TL [.int .u8 a2,.int .u8 b2]∧Blk X5 (zs) TL [.int .u8 a,.int .u8 b] from ⟨HX4.out.1.trans (hxb.mono HX4.out.1.size),HX4.out.2.1.below hxb,HX4.out.2.2.1.below hxb,HX4.out.2.2.2.1.below hxb,HX4.out.2.2.2.2.below hxb⟩)
        clear hxb
        have hq1:=(HLIG.out hdo).1
        have hq2:=(HLIG.out hdo).2
        have hz1:¬ (a:Int) < (a2:Int):=by omega
        have hz2:¬ (b:Int) < (b2:Int):=by omega
        have v0:=HX5.out.2.2.2.1.cell (i:=0) rfl
        have v1:=HX5.out.2.2.2.1.cell (i:=1) rfl
        have v2:=HX5.out.2.2.2.2.cell (i:=0) rfl
        have v3:=HX5.out.2.2.2.2.cell (i:=1) rfl
        go_wp2_with fail
        go_roundw
        case rel=>exact ⟨j + 1,by first | rfl | rw [HW1.out] | (congr 1; omega),by omega,HX5.out.1.trans (by (repeat' (first | (with_reducible exact Below.refl _ _) | (with_reducible refine Below.setCell ?_ (by (first | omega | (simp; done) | (simp; omega))) _) | (with_reducible refine Below.alloc ?_ (by (first | omega | (simp; done) | (simp; omega))) _) | (with_reducible refine Below.drew ?_) | (with_reducible refine below_drewN ?_ _))))⟩
        case measure =>
         simp only [intOf]
         omega
       ·have c0:=HX4.out.2.1.cell (i:=0) rfl
        have c1':=HX4.out.2.1.cell (i:=1) rfl
        go_wp2_with fail
        clear c0 c1'
        go_at_call 15
        refine (dark_c (k:=o1) (l:=o2) (r:=false) ⟨fun e=>Bool.noConfusion e,fun e=>absurd e hdo⟩).mono ?_
        rintro e X5 ⟨rfl,hxb⟩
        have HX5:=Lib.hid (show Below W8.heap.size W8 X5∧Blk X5 (pb + 1) TC [.int .u8 o1,.int .u8 o2]∧Blk X5 nb TC [.int .u8 d1,.int .u8 d2]∧Blk X5 (zs + 1) TL [.int .u8 a2,.int .u8 b2]∧Blk X5 (zs) TL [.int .u8 a,.int .u8 b] from ⟨HX4.out.1.trans (hxb.mono HX4.out.1.size),HX4.out.2.1.below hxb,HX4.out.2.2.1.below hxb,HX4.out.2.2.2.1.below hxb,HX4.out.2.2.2.2.below hxb⟩)
        clear hxb
        go_wp2_with fail
        go_roundw
        case rel=>exact ⟨j + 1,by first | rfl | rw [HW1.out] | (congr 1; omega),by omega,HX5.out.1.trans (by (repeat' (first | (with_reducible exact Below.refl _ _) | (with_reducible refine Below.setCell ?_ (by (first | omega | (simp; done) | (simp; omega))) _) | (with_reducible refine Below.alloc ?_ (by (first | omega | (simp; done) | (simp; omega))) _) | (with_reducible refine Below.drew ?_) | (with_reducible refine below_drewN ?_ _))))⟩
        case measure =>
         simp only [intOf]
         omega
  ·have hje:j = n:=by omega
   have hjI:¬ (j:Int) < n:=by omega
   clear HWA
   have HP9:=Lib.hid (HP8.out.below HBR.out)
   have HO9:=Lib.hid (HC8'.out.below HBR.out)
   have HN9:=Lib.hid (HN8.out.below HBR.out)
   have HWA9:=Lib.hid (HWA8.out.below HBR.out)
   have HB9:=Lib.hid (HB8.out.trans (HBR.out.mono HB8.out.size))
   have p0:=HP9.out.cell (i:=0) rfl
   have p1:=HP9.out.cell (i:=1) rfl
   have p2:=HP9.out.cell (i:=2) rfl
   clear hjn hj hje
   go_wp2_with fail
   clear p0 p1 p2 hjI
   go_at_call 16
   have hidx:Calls Tryd.prog 16 #[.pointer (some ⟨f.F,0,none⟩),.agg #[.int .i64 px,.int .i64 py,.int .i64 pz]] wr fun e w'=>e = .returned (.tuple #[.int .i64 (i:Nat),.bool true])∧Below wr.heap.size wr w':=by
    have hin:inB f (px,py,pz) = true:=by rw [← HPL.out]; exact plc_in HI.out
    have hW3:FldW f3:=HC3.out.w2 HE3.out.2.2.2.2.2.1
    have q:=fidx_c (q:=(px,py,pz)) HFR.out hW3 (in_may hW3 (by rw [HE3.out.2.2.1]; exact hin))
    rw [HQ3.out.1] at q
    unfold idxV at q
    rw [HE3.out.2.2.1,HE3.out.2.2.2.1,hin,if_pos rfl,show numB f (px,py,pz) = i by rw [← HPL.out]; exact num_plc HI.out] at q
    exact q
   refine hidx.mono ?_
   clear hidx
   rintro e V1 ⟨rfl,hb1⟩
   have HFV:=Lib.hid (HFR.out.below hb1)
   have HPV:=Lib.hid (HP9.out.below hb1)
   have HOV:=Lib.hid (HO9.out.below hb1)
   have HNV:=Lib.hid (HN9.out.below hb1)
   have HWV:=Lib.hid (HWA9.out.below hb1)
   have HBV:=Lib.hid (HB9.out.trans (hb1.mono HB9.out.size))
   have hcV:V1.cell? ⟨f.F,6,none⟩ = some (.slice (some ⟨gC,0,none⟩) n cC):=by
    have q:=(HFV.out.blk.cell (i:=6) (v:=f3.vC) rfl)
    rwa [HQ3.out.1,HE3.out.1,HVC.out] at q
   have HCF:=Lib.hid hcV
   have HVC3:=Lib.hid (show f3.vC = .slice (some ⟨gC,0,none⟩) n cC from HE3.out.1.trans HVC.out)
   have HOC:=Lib.hid (show RowG.Own enc2 TC V1 0 (.slice (some ⟨gC,0,none⟩) n cC) f3.cs from HVC3.out ▸ HFV.out.cs)
   have HXC:=Lib.hid (show f3.cs[i]? = some (d1,d2) from by
    rw [HE3.out.2.1,List.getElem?_set,if_pos rfl,if_pos (by rw [HCL.out]; exact HIN.out)])
   have hiN:=HIN.out
   have hiI:(i:Int) < n:=by omega
   have hpg:pb + 1 ≠ gC∧pb ≠ gC∧nb ≠ gC∧g1 ≠ gC∧f.F < W2.heap.size∧gC < W2.heap.size∧w.heap.size≤gC:=by
    have h1:=HNEW.out gC (.inr (.inl (by rw [HVC.out]; rfl)))
    have h2:=HZ4.out
    have h3:=HPB.out
    have h4:=HNB.out
    have h5:=(HWA6.out.ge g1 rfl).1
    have h6:=HNEW.out f.F (.inl rfl)
    omega
   have HPG:=Lib.hid hpg
   have hpo:=hpg.1
   clear hb1 hcV HFR HBR HP9 HO9 HN9 HWA9 HB9 hpg
   go_wp2_with fail
   refine wp_region_noPanic ?_
   refine wp_region_held_drew (S:=fun Xw=>Xw.cell? ⟨f.F,6,none⟩ = some (.slice (some ⟨gC,0,none⟩) n cC)∧Blk Xw (pb + 1) TC [.int .u8 o1,.int .u8 o2]) (by kernel_rfl) (⟨HCF.out,HOV.out⟩) (fun hHeld=>?_)
   refine wpAnyH_take (i:=0) (oi:=⟨some 112,_,_,_,_,_⟩) (v:=.pointer (some ⟨f.F,0,none⟩)) rfl (by kernel_rfl) (by kernel_rfl) (by kernel_rfl) (fun _ _ _ h=>h) (Or.inl ⟨by rfl,fun Xw hSW=>by go_simp⟩) hHeld ?_
   simp only [Act.put,List.setIfInBounds_toArray,List.set_cons_zero,List.set_cons_succ]
   refine wpAnyH_take (i:=1) (oi:=⟨some 113,_,_,_,_,_⟩) (v:=.pointer (some ⟨f.F,0,none⟩)) rfl (by kernel_rfl) (by kernel_rfl) (by kernel_rfl) (fun _ _ _ h=>h) (Or.inl ⟨by rfl,fun Xw hSW=>by go_simp⟩) hHeld ?_
   simp only [Act.put,List.setIfInBounds_toArray,List.set_cons_zero,List.set_cons_succ]
   refine wpAnyH_take (i:=2) (oi:=⟨some 114,_,_,_,_,_⟩) (v:=.pointer (some ⟨f.F,3,none⟩)) rfl (by kernel_rfl) (by kernel_rfl) (by kernel_rfl) (fun _ _ _ h=>h) (Or.inl ⟨by rfl,fun Xw hSW=>by go_simp⟩) hHeld ?_
   simp only [Act.put,List.setIfInBounds_toArray,List.set_cons_zero,List.set_cons_succ]
   refine wpAnyH_take (i:=3) (oi:=⟨some 115,_,_,_,_,_⟩) (v:=.pointer (some ⟨f.F,6,none⟩)) rfl (by kernel_rfl) (by kernel_rfl) (by kernel_rfl) (fun _ _ _ h=>h) (Or.inl ⟨by rfl,fun Xw hSW=>by go_simp⟩) hHeld ?_
   simp only [Act.put,List.setIfInBounds_toArray,List.set_cons_zero,List.set_cons_succ]
   refine wpAnyH_take (i:=4) (oi:=⟨some 116,_,_,_,_,_⟩) (v:=.slice (some ⟨gC,0,none⟩) n cC) rfl (by kernel_rfl) (by kernel_rfl) (by kernel_rfl) (fun _ _ _ h=>h) (Or.inl ⟨by rfl,fun Xw hSW=>by have q:=hSW.1; go_simp⟩) hHeld ?_
   simp only [Act.put,List.setIfInBounds_toArray,List.set_cons_zero,List.set_cons_succ]
   refine wpAnyH_take (i:=5) (oi:=⟨some 117,_,_,_,_,_⟩) (v:=.int .i64 (i:Int)) rfl (by kernel_rfl) (by kernel_rfl) (by kernel_rfl) (fun _ _ _ h=>h) (Or.inl ⟨by rfl,fun Xw hSW=>by go_simp⟩) hHeld ?_
   simp only [Act.put,List.setIfInBounds_toArray,List.set_cons_zero,List.set_cons_succ]
   refine wpAnyH_take (i:=6) (oi:=⟨some 118,_,_,_,_,_⟩) (v:=.agg #[.int .u8 o1,.int .u8 o2]) rfl (by kernel_rfl) (by kernel_rfl) (by kernel_rfl) (fun _ _ _ h=>h) (Or.inl ⟨by rfl,fun Xw hSW=>by have a0:=hSW.2.cell (i:=0) rfl; have a1:=hSW.2.cell (i:=1) rfl; go_simp⟩) hHeld ?_
   simp only [Act.put,List.setIfInBounds_toArray,List.set_cons_zero,List.set_cons_succ]
   refine wpAnyH_take (i:=7) (oi:=⟨some 119,_,_,_,_,_⟩) (v:=.pointer (some ⟨gC,i * 2,none⟩)) rfl (by kernel_rfl) (by kernel_rfl) (by kernel_rfl) (fun _ _ _ h=>h) (Or.inl ⟨by rfl,fun Xw hSW=>by go_simp⟩) hHeld ?_
   simp only [Act.put,List.setIfInBounds_toArray,List.set_cons_zero,List.set_cons_succ]
   refine wpAnyH_ready (rs:=[8]) (by kernel_rfl) (by simp) ?_
   refine AllReadyH.cons (o:=⟨none,_,_,_,_,_⟩) rfl (fun K hK=>?_) AllReadyH.nil
   have g0:V1.cell? ⟨gC,i * 2,none⟩ = some (.int .u8 (d1:Int)):=HOC.out.cell (j:=0) HXC.out rfl
   have g1':V1.cell? ⟨gC,i * 2 + 1,none⟩ = some (.int .u8 (d2:Int)):=HOC.out.cell (j:=1) HXC.out rfl
   have z0:=HOC.out.frozen (i * 2)
   have z1:=HOC.out.frozen (i * 2 + 1)
   have hgf:gC ≠ f.F:=fun e=>HFG.out e.symm
   go_simp
   refine hK.out _ _ (⟨by have q:=HCF.out; (repeat' (first | (with_reducible assumption) | (with_reducible refine HeldP.c_drew ?_) | (with_reducible refine HeldP.c_drewN ?_) | (with_reducible refine HeldP.c_same (by omega) ?_) | (with_reducible refine HeldP.c_other ?_ ?_) | (with_reducible refine HeldP.c_new (by first | omega | (simp; done) | (simp; omega)) ?_) | (with_reducible refine HeldP.c_alloc ?_ ?_) | (with_reducible refine HeldP.e_drew ?_) | (with_reducible refine HeldP.e_drewN ?_) | (with_reducible refine HeldP.e_set ?_) | (with_reducible refine HeldP.e_new (by first | omega | (simp; done) | (simp; omega)) ⟨_,rfl⟩) | (with_reducible refine HeldP.e_alloc ?_ ?_) | (with_reducible refine HeldP.f_drew ?_) | (with_reducible refine HeldP.f_drewN ?_) | (with_reducible refine HeldP.f_set ?_) | (with_reducible refine HeldP.f_new (by first | omega | (simp; done) | (simp; omega))) | (with_reducible refine HeldP.f_alloc ?_ ?_) | (with_reducible refine HeldP.s_drew ?_) | (with_reducible refine HeldP.s_drewN ?_) | (with_reducible refine HeldP.s_set ?_) | (with_reducible refine HeldP.s_new (by first | omega | (simp; done) | (simp; omega))) | (with_reducible refine HeldP.s_alloc ?_) | (with_reducible exact ⟨_,by assumption⟩) | omega | (intro e; simp at e; done) | (intro e; simp at e; omega) | (exact rfl) | (simp; done) | (simp; omega))),by have q:=HOV.out; (repeat' (first | (with_reducible exact q) | (with_reducible refine BlkP.Blk.drew ?_) | (with_reducible refine BlkP.Blk.drewN ?_ _) | (with_reducible refine BlkP.Blk.setAt (us:=?_) (by first | omega | (simp; done) | (simp; omega)) rfl ?_ ?_) | (with_reducible refine BlkP.Blk.otherAt ?_ (by first | omega | (simp; done) | (simp; omega))) | (with_reducible refine BlkP.Blk.newA' (by first | omega | (simp; done) | (simp; omega)) rfl) | (with_reducible refine BlkP.Blk.alloc ?_ _) | (exact rfl)))⟩) (fun hHeld=>?_)
   clear hK K
   refine wpAnyH_done (by kernel_rfl) ?_ _
   refine NoPanic.normal ?_
   clear hHeld
   have hput:=FldM.putM HFV.out HVC3.out HXC.out o1 o2
   refine HeldP.then_named (S:=fun W=>Below w.heap.size w W∧FldM W (f3.put i (o1,o2))∧Blk W pb TP [.int .i64 px,.int .i64 py,.int .i64 pz]∧Blk W nb TC [.int .u8 d1,.int .u8 d2]∧RowG.Own enc2 TL W W2.heap.size (.slice (some ⟨g1,0,none⟩) n c1) f.ls) ⟨HBV.out.trans (by have h1:=HPG.out.2.2.2.2.2.2; have:=HBV.out; exact (hput.2.drew.toBelow (B:=w.heap.size) HBV.out.size (fun k hk=>by have hk':k = gC:=hk; omega))) ,hput.1.below (by first | exact Below.refl _ _ | exact (Below.refl _ _).drew),?_,?_,?_⟩ ?_
   ·exact hput.2.drew.blk HPV.out (fun hk=>HPG.out.2.1 hk)
   ·exact hput.2.drew.blk HNV.out (fun hk=>HPG.out.2.2.1 hk)
   ·exact hput.2.drew.own HWV.out (fun g e hk=>by
     have h1:g1 = g:=by simpa [Value.ownBlock] using e
     have h2:g = gC:=hk
     exact HPG.out.2.2.2.1 (h1.trans h2))
   rintro V2 ⟨hbv,hfv,hpv,hnv,hwv⟩
   have HB2':=Lib.hid hbv
   have HFV2:=Lib.hid hfv
   have HWV2:=Lib.hid hwv
   have HPV2:=Lib.hid hpv
   have HNV2:=Lib.hid hnv
   have p0:=hpv.cell (i:=0) rfl
   have p1:=hpv.cell (i:=1) rfl
   have p2:=hpv.cell (i:=2) rfl
   have q0:=hnv.cell (i:=0) rfl
   have q1:=hnv.cell (i:=1) rfl
   clear hput hbv hfv hpv hnv hwv hpo
   go_wp2_with fail
   clear p0 p1 p2 q0 q1
   go_at_call 11
   have HOLD4:=Lib.hid (show Old (f3.put i (o1,o2)) (px,py,pz) (d1,d2) from by
    have q:=old_put (f:=f3) (i:=i) (c:=(o1,o2)) (o:=(d1,d2)) HC3.out HE3.out.2.2.2.2.2.1 (by rw [HQ3.out.2.2.2.2.2]; exact HIN.out) HXC.out HO8.out
    rw [HE3.out.2.2.2.2.1,HPL.out] at q
    exact q)
   have hchg:Calls Tryd.prog 11 #[.iface 29 (.pointer (some ⟨f.F,0,none⟩)),.agg #[.int .i64 px,.int .i64 py,.int .i64 pz],.agg #[.int .u8 d1,.int .u8 d2]] V2 (ChangeP V2 (f3.put i (o1,o2)) (px,py,pz) (d1,d2)):=by
    have q:=change_c HFV2.out HOLD4.out (HT.out.below HB2'.out) HQ3.out.2.2.2.1 HQ3.out.2.2.2.2.1 (fun hs=>by
     have h1:=(HSC3.out _ hs).1
     have h2:=HT.out.size
     omega)
    rw [show (f3.put i (o1,o2)).F = f.F from HQ3.out.1] at q
    exact q
   refine hchg.mono ?_
   clear hchg
   rintro e V3 ⟨T2,f5,rfl,hch⟩
   have HB3':=Lib.hid (show Below w.heap.size w V3 from HB2'.out.trans (hch.fr.toBelow HB2'.out.size (fun k hk=>(HSC3.out k hk).1)))
   have HWV3:=Lib.hid (show RowG.Own enc2 TL V3 W2.heap.size (.slice (some ⟨g1,0,none⟩) n c1) f.ls from hch.fr.own HWV2.out (fun g e hk=>by
    have h1:g1 = g:=by simpa [Value.ownBlock] using e
    exact (HSC3.out _ hk).2.2.2.2 h1.symm))
   have HTT:=Lib.hid (show T2.length = T.length from by
    have q:=told_len (put_c (i:=i) (c:=(o1,o2)) HC3.out HO8.out) HOLD4.out.fw hch.dup hch.mem
    rw [HE3.out.2.2.2.2.2.2,show (f3.put i (o1,o2)).ls = R from HQ3.out.2.2.1,show (f3.put i (o1,o2)).X * (f3.put i (o1,o2)).Y * (f3.put i (o1,o2)).Z = n from HQ3.out.2.2.2.2.2,cntD_comm] at q
    rw [q,HTN.out])
   obtain ⟨_,_,_,ef5,_,_⟩:=hch.f_
   have HQ5:=Lib.hid (show f5.F = f.F∧f5.vL = .slice (some ⟨gL,0,none⟩) n cL∧f5.ls = f.ls from by
    rw [ef5]
    exact ⟨HQ3.out.1,HQ3.out.2.1,HE3.out.2.2.2.2.2.2⟩)
   have HFV3:=Lib.hid hch.fld
   rw [HTT.out]
   obtain ⟨nt,hnt⟩:∃ nt,T.length = nt:=⟨_,rfl⟩
   rw [hnt]
   clear hch ef5 hnt
   go_wp2_with fail
   go_loopw [17] (fun v wr=>∃ j:Nat,v = .int .i64 (j:Nat)∧j≤n∧Below V3.heap.size V3 wr) (fun v _=>n - (intOf v).toNat)
   case atStart=>exact ⟨0,rfl,by omega,Below.refl _ _⟩
   case round =>
    obtain ⟨u,rfl,hu,hbr⟩:=hrel
    have HBR:=Lib.hid hbr
    have HFR:=Lib.hid (HFV3.out.below hbr)
    have HWR:=Lib.hid (HWV3.out.below hbr)
    clear hbr
    by_cases hun:u < n
    ·have huI:(u:Int) < n:=by omega
     obtain ⟨⟨a,b⟩,hab⟩:∃ x,f.ls[u]? = some x:=⟨_,List.getElem?_eq_getElem (by rw [HLL.out]; exact hun)⟩
     have HA:=Lib.hid hab
     have HW1:=Lib.hid (show wrap64 ((u:Int) + 1) = ((u + 1:Nat):Int) by rw [wr64 (by omega) (by omega)]; omega)
     clear hab
     go_wp2_with fail
     refine wp_region_noPanic ?_
     refine wp_region_held_drew (S:=fun Xw=>FldM Xw f5∧RowG.Own enc2 TL Xw W2.heap.size (.slice (some ⟨g1,0,none⟩) n c1) f.ls) (by kernel_rfl) (⟨HFR.out.below (Below.refl _ _).drew,HWR.out.drew⟩) (fun hHeld=>?_)
     refine wpAnyH_take (i:=0) (oi:=⟨some 131,_,_,_,_,_⟩) (v:=.pointer (some ⟨f.F,0,none⟩)) rfl (by kernel_rfl) (by kernel_rfl) (by kernel_rfl) (fun _ _ _ h=>h) (Or.inl ⟨by rfl,fun Xw hSW=>by go_simp⟩) hHeld ?_
     simp only [Act.put,List.setIfInBounds_toArray,List.set_cons_zero,List.set_cons_succ]
     refine wpAnyH_take (i:=1) (oi:=⟨some 132,_,_,_,_,_⟩) (v:=.pointer (some ⟨f.F,0,none⟩)) rfl (by kernel_rfl) (by kernel_rfl) (by kernel_rfl) (fun _ _ _ h=>h) (Or.inl ⟨by rfl,fun Xw hSW=>by go_simp⟩) hHeld ?_
     simp only [Act.put,List.setIfInBounds_toArray,List.set_cons_zero,List.set_cons_succ]
     refine wpAnyH_take (i:=2) (oi:=⟨some 133,_,_,_,_,_⟩) (v:=.pointer (some ⟨f.F,7,none⟩)) rfl (by kernel_rfl) (by kernel_rfl) (by kernel_rfl) (fun _ _ _ h=>h) (Or.inl ⟨by rfl,fun Xw hSW=>by go_simp⟩) hHeld ?_
     simp only [Act.put,List.setIfInBounds_toArray,List.set_cons_zero,List.set_cons_succ]
     refine wpAnyH_take (i:=3) (oi:=⟨some 134,_,_,_,_,_⟩) (v:=.slice (some ⟨gL,0,none⟩) n cL) rfl (by kernel_rfl) (by kernel_rfl) (by kernel_rfl) (fun _ _ _ h=>h) (Or.inl ⟨by rfl,fun Xw hSW=>by have q:Xw.cell? ⟨f.F,7,none⟩ = some (.slice (some ⟨gL,0,none⟩) n cL):=by { have q:=hSW.1.blk.cell (i:=7) (v:=f5.vL) rfl; rwa [HQ5.out.1,HQ5.out.2.1] at q }; go_simp⟩) hHeld ?_
     simp only [Act.put,List.setIfInBounds_toArray,List.set_cons_zero,List.set_cons_succ]
     refine wpAnyH_take (i:=4) (oi:=⟨some 135,_,_,_,_,_⟩) (v:=.int .i64 (u:Int)) rfl (by kernel_rfl) (by kernel_rfl) (by kernel_rfl) (fun _ _ _ h=>h) (Or.inl ⟨by rfl,fun Xw hSW=>by go_simp⟩) hHeld ?_
     simp only [Act.put,List.setIfInBounds_toArray,List.set_cons_zero,List.set_cons_succ]
     refine wpAnyH_take (i:=5) (oi:=⟨some 136,_,_,_,_,_⟩) (v:=.pointer (some ⟨gL,u * 2,none⟩)) rfl (by kernel_rfl) (by kernel_rfl) (by kernel_rfl) (fun _ _ _ h=>h) (Or.inl ⟨by rfl,fun Xw hSW=>by go_simp⟩) hHeld ?_
     simp only [Act.put,List.setIfInBounds_toArray,List.set_cons_zero,List.set_cons_succ]
     refine wpAnyH_take (i:=6) (oi:=⟨some 137,_,_,_,_,_⟩) (v:=.agg #[.int .u8 a,.int .u8 b]) rfl (by kernel_rfl) (by kernel_rfl) (by kernel_rfl) (fun _ _ _ h=>h) (Or.inl ⟨by rfl,fun Xw hSW=>by have ho:RowG.Own enc2 TL Xw 0 (.slice (some ⟨gL,0,none⟩) n cL) f.ls:=(by { have q:=hSW.1.ls; rwa [HQ5.out.2.1,HQ5.out.2.2] at q }); have a0:Xw.cell? ⟨gL,u * 2,none⟩ = some (.int .u8 a):=ho.cell (i:=u) (j:=0) HA.out rfl; have a1:Xw.cell? ⟨gL,u * 2 + 1,none⟩ = some (.int .u8 b):=ho.cell (i:=u) (j:=1) HA.out rfl; clear ho; go_simp⟩) hHeld ?_
     simp only [Act.put,List.setIfInBounds_toArray,List.set_cons_zero,List.set_cons_succ]
     refine wpAnyH_take (i:=7) (oi:=⟨some 138,_,_,_,_,_⟩) (v:=.slice (some ⟨g1,0,none⟩) n c1) rfl (by kernel_rfl) (by kernel_rfl) (by kernel_rfl) (fun _ _ _ h=>h) (Or.inl ⟨by rfl,fun Xw hSW=>by go_simp⟩) hHeld ?_
     simp only [Act.put,List.setIfInBounds_toArray,List.set_cons_zero,List.set_cons_succ]
     refine wpAnyH_take (i:=8) (oi:=⟨some 139,_,_,_,_,_⟩) (v:=.int .i64 (u:Int)) rfl (by kernel_rfl) (by kernel_rfl) (by kernel_rfl) (fun _ _ _ h=>h) (Or.inl ⟨by rfl,fun Xw hSW=>by go_simp⟩) hHeld ?_
     simp only [Act.put,List.setIfInBounds_toArray,List.set_cons_zero,List.set_cons_succ]
     refine wpAnyH_take (i:=9) (oi:=⟨some 140,_,_,_,_,_⟩) (v:=.pointer (some ⟨g1,u * 2,none⟩)) rfl (by kernel_rfl) (by kernel_rfl) (by kernel_rfl) (fun _ _ _ h=>h) (Or.inl ⟨by rfl,fun Xw hSW=>by go_simp⟩) hHeld ?_
     simp only [Act.put,List.setIfInBounds_toArray,List.set_cons_zero,List.set_cons_succ]
     refine wpAnyH_take (i:=10) (oi:=⟨some 141,_,_,_,_,_⟩) (v:=.agg #[.int .u8 a,.int .u8 b]) rfl (by kernel_rfl) (by kernel_rfl) (by kernel_rfl) (fun _ _ _ h=>h) (Or.inl ⟨by rfl,fun Xw hSW=>by have a0:Xw.cell? ⟨g1,u * 2,none⟩ = some (.int .u8 a):=hSW.2.cell (i:=u) (j:=0) HA.out rfl; have a1:Xw.cell? ⟨g1,u * 2 + 1,none⟩ = some (.int .u8 b):=hSW.2.cell (i:=u) (j:=1) HA.out rfl; go_simp⟩) hHeld ?_
     simp only [Act.put,List.setIfInBounds_toArray,List.set_cons_zero,List.set_cons_succ]
     refine wpAnyH_take (i:=11) (oi:=⟨some 142,_,_,_,_,_⟩) (v:=.bool false) rfl (by kernel_rfl) (by kernel_rfl) (by kernel_rfl) (fun _ _ _ h=>h) (Or.inl ⟨by rfl,fun Xw hSW=>by go_simp⟩) hHeld ?_
     simp only [Act.put,List.setIfInBounds_toArray,List.set_cons_zero,List.set_cons_succ]
     refine wpAnyH_done (by kernel_rfl) ?_ _
     refine NoPanic.normal ?_
     clear hHeld
     go_wp2_with fail
     go_roundw
     case rel=>exact ⟨u + 1,by first | rfl | rw [HW1.out] | (congr 1; omega),by omega,HBR.out.trans (by (repeat' (first | (with_reducible exact Below.refl _ _) | (with_reducible refine Below.setCell ?_ (by (first | omega | (simp; done) | (simp; omega))) _) | (with_reducible refine Below.alloc ?_ (by (first | omega | (simp; done) | (simp; omega))) _) | (with_reducible refine Below.drew ?_) | (with_reducible refine below_drewN ?_ _))))⟩
     case measure =>
      simp only [intOf]
      omega
    ·have huI:¬ (u:Int) < n:=by omega
     go_wp2_with fail
     go_at_call 6
     refine (awake_c (HT.out.below (HB3'.out.trans (HBR.out.mono HB3'.out.size)))).mono ?_
     rintro e V5 ⟨rfl,hb5⟩
     have HB5':=Lib.hid ((HB3'.out.trans (HBR.out.mono HB3'.out.size)).trans (hb5.mono (HB3'.out.trans (HBR.out.mono HB3'.out.size)).size))
     clear hb5
     go_wp2_with fail
     go_ret
     exact ⟨rfl,HB5'.out⟩
end FloodW
end Go.Proofs.YtpimkdaikoclnaaDoor
namespace Go.Proofs.YtpimkdaikoclnaaDoor
open Go.RowKit
set_option linter.unusedVariables false
set_option linter.unusedSimpArgs false
namespace FloodW
open BlkP RowG GlowW FloodP
end FloodW
end Go.Proofs.YtpimkdaikoclnaaDoor
namespace Go.Proofs.YtpimkdaikoclnaaDoor
open Go.RowKit
set_option linter.unusedVariables false
set_option linter.unusedSimpArgs false
namespace FloodW
open BlkP RowG GlowW FloodP
end FloodW
end Go.Proofs.YtpimkdaikoclnaaDoor
namespace Go.Proofs.YtpimkdaikoclnaaDoor
open Go.ChangeShapes Go.WideShapes Go.ChangeAt Go.RowKit
set_option maxRecDepth 100000
namespace KindW
open KindP
theorem own:ownKnob Tryd.prog.godebug = none:=by kernel_rfl
theorem laidOut:laidOutB Tryd.prog = true:=by kernel_rfl
def tabName:String:=(Rows.floodKnownRow.laid.map (·.1)).headD default
theorem gTab:Tryd.prog.globalNamed tabName = some 0:=by kernel_rfl
theorem tTab:(Tryd.prog.globals[0]?).map (·.type) = some 109:=by kernel_rfl
theorem cellsRow:Tryd.prog.cellsOf 108 = 4:=by kernel_rfl
theorem cellsTab:Tryd.prog.cellsOf 109 = 60:=by kernel_rfl
theorem cellsStr:Tryd.prog.cellsOf 9 = 1:=by kernel_rfl
theorem cellsU8:Tryd.prog.cellsOf 5 = 1:=by kernel_rfl
theorem cellsTr:Tryd.prog.cellsOf 106 = 1:=by kernel_rfl
def rowD (k:Nat):DataW Unit:=.agg [.lit (.string (nm k)),.lit (.int .u8 (least k)),.lit (.int .u8 (most k)),.lit (.int .u8 (trait k))]
theorem rows_eq:(Rows.laid_bedrock_kind_rows:DataW Unit) = .agg ((List.range 15).map rowD):=by kernel_rfl
theorem cells_of_row {enc:TypeId × Value→Unit} {W:World} {base:Nat} {sp:Nat→Bool} {held:Bool} {fuel:Nat} {cs:List Value} {p:List MemPlace} {k:Nat}
  (h:DataW.trod enc Tryd.prog W base sp held fuel 108 cs = some (rowD k,p)) :
  cs = [.string ⟨(nm k).toArray⟩,.int .u8 (least k),.int .u8 (most k),.int .u8 (trait k)]:=by
 obtain ⟨xs,n,rfl,hx,hlen,hn,hel⟩:=DataW.trod_struct Tryd.underlying108 h
 rw [cellsRow] at hlen
 match cs,hlen with
 | [c0,c1,c2,c3],_ =>
  have e0:DataW.trod enc Tryd.prog W base sp held n 9 (([c0,c1,c2,c3].drop 0).take (Tryd.prog.cellsOf 9)) = xs[0]?:=hel 0 _ rfl
  rw [cellsStr] at e0
  have e1:DataW.trod enc Tryd.prog W base sp held n 5 (([c0,c1,c2,c3].drop 1).take (Tryd.prog.cellsOf 5)) = xs[1]?:=hel 1 _ rfl
  rw [cellsU8] at e1
  have e2:DataW.trod enc Tryd.prog W base sp held n 5 (([c0,c1,c2,c3].drop 2).take (Tryd.prog.cellsOf 5)) = xs[2]?:=hel 2 _ rfl
  rw [cellsU8] at e2
  have e3:DataW.trod enc Tryd.prog W base sp held n 106 (([c0,c1,c2,c3].drop 3).take (Tryd.prog.cellsOf 106)) = xs[3]?:=hel 3 _ rfl
  rw [cellsTr] at e3
  match xs,hn with
  | [x0,x1,x2,x3],_ =>
   simp only [List.drop_zero,List.take_succ_cons,List.take_zero,List.drop_succ_cons,List.getElem?_cons_zero,List.getElem?_cons_succ] at e0 e1 e2 e3
   obtain ⟨s,h0,hx0,_⟩:=DataW.trod_string Tryd.underlying9 e0
   obtain ⟨n1,h1,hx1,_⟩:=DataW.trod_int Tryd.underlying5 e1
   obtain ⟨n2,h2,hx2,_⟩:=DataW.trod_int Tryd.underlying5 e2
   obtain ⟨n3,h3,hx3,_⟩:=DataW.trod_int Tryd.underlying106 e3
   simp only [List.cons.injEq,and_true] at h0 h1 h2 h3
   simp only [rowD,List.map_cons,List.map_nil,Prod.mk.injEq,DataW.agg.injEq,List.cons.injEq,and_true,hx0,hx1,hx2,hx3,DataW.lit.injEq,Lit.string.injEq,Lit.int.injEq,true_and] at hx
   obtain ⟨⟨a0,a1,a2,a3⟩,_⟩:=hx
   rw [h0,h1,h2,h3,← a1,← a2,← a3,a0]
theorem tab_of_parts {W:World} {g0:Nat} {t0:TypeId} {cs0:Array Value} {f0:Nat} {p0:List MemPlace} (hg0:Tryd.prog.globalNamed tabName = some g0) (ht0:(Tryd.prog.globals[g0]?).map (·.type) = some t0) (hv0:W.var? Tryd.prog tabName = some cs0) (hd0:DataW.trod (fun _=>()) Tryd.prog W 0 (fun _=>true) false f0 t0 cs0.toList = some (Rows.laid_bedrock_kind_rows,p0)):Tab W:=by
 obtain rfl:=Option.some.inj (gTab.symm.trans hg0)
 obtain rfl:=Option.some.inj (tTab.symm.trans ht0)
 rw [rows_eq] at hd0
 obtain ⟨xs,m,rfl,hx,hlen,hn,hel⟩:=DataW.trod_array Tryd.underlying109 hd0
 rw [cellsTab] at hlen
 have hx1:xs.map (·.1) = (List.range 15).map rowD:=by
  have:=congrArg Prod.fst hx
  simpa using this.symm
 have key:∀ k,k < 15→(cs0.toList.drop (k * 4)).take 4 = [.string ⟨(nm k).toArray⟩,.int .u8 (least k),.int .u8 (most k),.int .u8 (trait k)]:=by
  intro k hk
  have e:=hel k hk
  rw [cellsRow,List.getElem?_eq_getElem (by omega)] at e
  have ey:(xs[k]'(by omega)).1 = rowD k:=by
   have:=congrArg (fun l:List (DataW Unit)=>l[k]?) hx1
   simpa [hk,hn] using this
  exact cells_of_row (p:=(xs[k]'(by omega)).2) (by rw [e,← ey])
 have at_:∀ k,k < 15→∀ j,j < 4→cs0[k * 4 + j]? = [(.string ⟨(nm k).toArray⟩:Value),.int .u8 (least k),.int .u8 (most k),.int .u8 (trait k)][j]?:=by
  intro k hk j hj
  rw [← key k hk,List.getElem?_take_of_lt hj,List.getElem?_drop,Array.getElem?_toList]
 have cell:=World.var?_cell hg0 hv0
 refine ⟨fun k hk=>(cell _).trans (at_ k hk 0 (by decide)),fun k hk=>(cell _).trans (at_ k hk 1 (by decide)),fun k hk=>(cell _).trans (at_ k hk 2 (by decide)),fun k hk=>(cell _).trans (at_ k hk 3 (by decide)),?_⟩
 exact World.block_lt_of_cell? W ⟨0,0,none⟩ ((cell 0).trans (at_ 0 (by decide) 0 (by decide)))
theorem tab_of_laid {W:World} (h:laidMetH Tryd.prog Rows.floodKnownRow.laid W):Tab W:=by
 rw [MakeChecks.laidMetH_plain _ _ _ (by kernel_rfl)] at h
 obtain ⟨ps,⟨g0,t0,cs0,f0,p0,q0,hg0,ht0,hv0,hd0,_,_⟩,_,_⟩:=h
 exact tab_of_parts hg0 ht0 hv0 hd0
theorem door_met (os:Os) (args:Array Value):laidMetH Tryd.prog Rows.floodKnownRow.laid ((World.doorLaid Tryd.prog 400 os).forCall (fun _ _=>0) ⟨#[],args,[]⟩).memory :=
 laidMetH_of_parts3 (fuel:=8) (laidMet_of_run' 8 (by kernel_rfl) (by kernel_rfl)) (by kernel_rfl) (by kernel_rfl)
end KindW
end Go.Proofs.YtpimkdaikoclnaaDoor
namespace Go.Proofs.YtpimkdaikoclnaaDoor
open Go.ChangeShapes Go.WideShapes Go.ChangeAt Go.RowKit
set_option linter.unusedVariables false
namespace OpenP
theorem own:ownKnob Tryd.prog.godebug = none:=by kernel_rfl
theorem laidOut:laidOutB Tryd.prog = true:=by kernel_rfl
section
variable {P:Program} {w:World} {r:Reach} {b:Nat} {t:TypeId} {v:Value}
theorem c_int {k:IntKind} {lo hi:Int} (ht:P.underlying t = some (.int k)) (hlo:k.min = lo) (hhi:k.max = hi) (h:Cell.okWide P w r b t v):∃ n:Int,v = .int k n∧lo≤n∧n≤hi:=by
 subst hlo hhi
 unfold Cell.okWide at h
 rw [ht] at h
 cases v <;> simp_all [Cell.ok,IntKind.has]
theorem v_agg {n:Nat} {ts:List TypeId} (ht:(∃ fs,P.underlying t = some (.struct fs)) ∨ (∃ m e,P.underlying t = some (.array m e))) (hts:P.cellTypes P.depth t = some ts) (hl:ts.length = n) (hc:P.cellsOf t = n) (h:Value.okWide P w r b t v) :
  ∃ l:List Value,v = .agg l.toArray∧l.length = n∧∀ (i:Nat) (u:TypeId),ts[i]? = some u→∃ x,l[i]? = some x∧Cell.okWide P w r b u x:=by
 have h':∃ cs,v = .agg cs∧cs.size = P.cellsOf t∧Row.okWide P w r b t cs:=by
  unfold Value.okWide at h
  rcases ht with ⟨fs,e⟩ | ⟨m,el,e⟩ <;> (rw [e] at h; exact h)
 obtain ⟨⟨l⟩,rfl,hs,ts',hts',_,hf⟩:=h'
 rw [hts] at hts'
 obtain rfl:=Option.some.inj hts'
 have hs':l.length = n:=by rw [← hc,← hs]; rfl
 refine ⟨l,rfl,hs',fun i u hu=>?_⟩
 have hi:i < ts.length:=(List.getElem?_eq_some_iff.1 hu).1
 have hx:i < l.length:=by omega
 obtain ⟨u',hu',hk⟩:=hf i l[i] (by simp [hx])
 rw [Nat.mod_eq_of_lt hi,hu] at hu'
 obtain rfl:=Option.some.inj hu'
 exact ⟨_,List.getElem?_eq_getElem hx,hk⟩
theorem all_keep {H:Type} {enc:TypeId × Value→H} (hl:laidOutB P = true) {W W':World} (hb:Below W.heap.size W W') :
  ∀ {ts:List TypeId} {vs:List Value} {ds:List (DataW H)} {ps:List MemPlace},(∀ t ∈ ts,P.readableRec t = true∧t < P.types.size)→DataW.TrodAll enc P W 0 (fun _=>true) true ts vs ds ps→(∀ x ∈ ps,x.block < W.heap.size) →
   DataW.TrodAll enc P W' 0 (fun b=>decide (b < W.heap.size)) true ts vs ds ps
 | [],vs,ds,ps,_,h,_=>by
  obtain ⟨rfl,rfl,rfl⟩:=trodAll_nil h
  exact trodAll_mk0
 | t :: ts,vs,ds,ps,ht,h,hlt=>by
  obtain ⟨v,vs',d,ds',p,q,rfl,rfl,rfl,hd,hrest⟩:=trodAll_cons h
  obtain ⟨h1,h2⟩:=ht t (by simp)
  exact trodAll_cons_mk (Below.trod hl h1 h2 hd hb (fun x hx=>hlt x (by simp [hx]))) (all_keep hl hb (fun u hu=>ht u (by simp [hu])) hrest (fun x hx=>hlt x (by simp [hx])))
theorem all_len {H:Type} {enc:TypeId × Value→H} {W:World}:∀ {ts:List TypeId} {vs:List Value} {ds:List (DataW H)} {ps:List MemPlace},DataW.TrodAll enc P W 0 (fun _=>true) true ts vs ds ps→vs.length = ts.length∧ds.length = ts.length
 | [],vs,ds,ps,h=>by
  obtain ⟨rfl,rfl,rfl⟩:=trodAll_nil h
  exact ⟨rfl,rfl⟩
 | t :: ts,vs,ds,ps,h=>by
  obtain ⟨v,vs',d,ds',p,q,rfl,rfl,rfl,hd,hrest⟩:=trodAll_cons h
  obtain ⟨h1,h2⟩:=all_len hrest
  exact ⟨by simp [h1],by simp [h2]⟩
end
theorem len2 {α:Type} {l:List α} (h:l.length = 2):∃ a0 a1:α,l = [a0,a1]:=by
 match l,h with
 | [a0,a1],_=>exact ⟨_,_,rfl⟩
theorem arr2 {α:Type} {l:Array α} (h:l.toList.length = 2):∃ a0 a1:α,l = #[a0,a1]:=by
 obtain ⟨l⟩:=l
 match l,h with
 | [a0,a1],_=>exact ⟨_,_,rfl⟩
theorem len3 {α:Type} {l:List α} (h:l.length = 3):∃ a0 a1 a2:α,l = [a0,a1,a2]:=by
 match l,h with
 | [a0,a1,a2],_=>exact ⟨_,_,_,rfl⟩
theorem len7 {α:Type} {l:List α} (h:l.length = 7):∃ a0 a1 a2 a3 a4 a5 a6:α,l = [a0,a1,a2,a3,a4,a5,a6]:=by
 match l,h with
 | [a0,a1,a2,a3,a4,a5,a6],_=>exact ⟨_,_,_,_,_,_,_,rfl⟩
end OpenP
end Go.Proofs.YtpimkdaikoclnaaDoor
namespace Go.Proofs.YtpimkdaikoclnaaDoor
open Go.ChangeShapes Go.WideShapes Go.ChangeAt Go.RowKit Go.Deep
set_option linter.unusedVariables false
namespace OpenQ
theorem listed {α:Type} {Q:Nat→α→Prop}:∀ n:Nat,(∀ i,i < n→∃ x,Q i x)→∃ xs:List α,xs.length = n∧∀ i x,xs[i]? = some x→Q i x
 | 0,_=>⟨[],rfl,fun i x h=>by simp at h⟩
 | n + 1,h=>by
  obtain ⟨xs,hl,hx⟩:=listed n (fun i hi=>h i (by omega))
  obtain ⟨y,hy⟩:=h n (by omega)
  refine ⟨xs ++ [y],by simp [hl],fun i x hi=>?_⟩
  by_cases e:i < xs.length
  ·rw [List.getElem?_append_left e] at hi
   exact hx i x hi
  ·rw [List.getElem?_append_right (by omega)] at hi
   have:i - xs.length = 0:=by
    have:=(List.getElem?_eq_some_iff.1 hi).1
    simp at this
    omega
   rw [this] at hi
   have hi':y = x:=by simpa using hi
   subst hi'
   rw [show i = n by omega]
   exact hy
section
variable {H:Type} {enc:TypeId × Value→H} {P:Program} {W:World}
theorem trod_at:∀ {ts:List TypeId} {vs:List Value} {ds:List (DataW H)} {ps:List MemPlace},DataW.TrodAll enc P W 0 (fun _=>true) true ts vs ds ps→∀ (j:Nat) (t:TypeId) (v:Value),ts[j]? = some t→vs[j]? = some v→∃ d p,DataW.Trod enc P W 0 (fun _=>true) true t v d p
 | [],_,_,_,_,j,t,v,ht,_=>by simp at ht
 | t0 :: ts,vs,ds,ps,h,j,t,v,ht,hv=>by
  obtain ⟨v0,vs',d,ds',p,q,rfl,rfl,rfl,hd,hrest⟩:=trodAll_cons h
  cases j with
  | zero =>
   simp at ht hv
   subst ht hv
   exact ⟨d,p,hd⟩
  | succ j=>exact trod_at hrest j t v (by simpa using ht) (by simpa using hv)
theorem v_slice {r:Reach} {b:Nat} {t e:TypeId} {v:Value} (ht:P.underlying t = some (.slice e)) (h:Value.okWide P W r b t v):v.cells.toList = [v]:=by
 unfold Value.okWide at h
 rw [ht] at h
 unfold Cell.okWide at h
 rw [ht] at h
 cases v <;> simp_all [Value.cells,Cell.ok]
theorem slice_at {t e:TypeId} {C:Nat} {v:Value} {d:DataW H} {p:List MemPlace} (ht:P.underlying t = some (.slice e)) (hC:P.cellsOf e = C) (hone:v.cells.toList = [v]) (h:DataW.Trod enc P W 0 (fun _=>true) true t v d p) :
  ∃ (A:Option Addr) (n c:Nat),v = .slice A n c∧n≤c∧c≤maxLen∧(A = none→n = 0)∧∀ a,A = some a→∀ i,i < n→∃ (cs:List Value) (k:Nat) (y:DataW H × List MemPlace),cs.length = C∧(∀ j,j < C→W.cell? (a.add (i * C + j)) = cs[j]?)∧DataW.trod enc P W 0 (fun _=>true) true k e cs = some y:=by
 obtain ⟨fuel,hf⟩:=h
 rw [hone] at hf
 rcases open_slice ht hf with ⟨h0,_⟩ | ⟨a,len,cap,m,n,D,Pl,hcs,hb,hl,hm,hmm,hx,hi⟩
 ·injection h0 with h0 _
  exact ⟨none,0,0,h0,by omega,by simp [maxLen],fun _=>rfl,fun a ha=>by cases ha⟩
 ·injection hcs with hcs _
  refine ⟨some a,len,cap,hcs,hl,hm,(fun h=>(by cases h)),fun a' ha i hin=>?_⟩
  injection ha with ha
  subst ha
  have hmc:m = cap:=by simpa using hmm
  obtain ⟨cs',hc,ht'⟩:=hi i (by omega)
  rw [hC] at hc
  obtain ⟨_,hcl,hat⟩:=World.cells?_some hc
  exact ⟨cs',n,_,hcl,fun j hj=>by rw [← add_add]; exact hat j hj,ht'⟩
theorem plain {a:Addr} {v:Value} (h:W.cell? (a.add 0) = some v):∃ b o,a = ⟨b,o,none⟩∧b < W.heap.size:=by
 have h0:W.cell? a = some v:=by simpa [Addr.add] using h
 have hb:=World.block_lt_of_cell? W a h0
 obtain ⟨b,o,s⟩:=a
 cases s with
 | none=>exact ⟨b,o,rfl,hb⟩
 | some k =>
  unfold World.cell? at h0
  split at h0
  ·simp at h0
  ·cases h0
end
end OpenQ
end Go.Proofs.YtpimkdaikoclnaaDoor
namespace Go.Proofs.YtpimkdaikoclnaaDoor
open Go.ChangeShapes Go.WideShapes Go.ChangeAt Go.RowKit Go.Deep
set_option linter.unusedVariables false
namespace GlowW
open RowG
section
variable {H:Type} {enc:TypeId × Value→H} {W:World}
theorem u8_elem {k:Nat} {c0:Value} {y:DataW H × List MemPlace} (h:DataW.trod enc Tryd.prog W 0 (fun _=>true) true k 5 [c0] = some y):∃ x:Nat,c0 = u8v x∧x < 256:=by
 obtain ⟨a,ha,_,wa⟩:=DataW.trod_int (cs:=[c0]) Tryd.underlying5 h
 simp at ha
 have hw:0≤a∧a≤255:=by
  simp [Lit.wf] at wa
  have h1:IntKind.u8.min = 0:=rfl
  have h2:IntKind.u8.max = 255:=rfl
  omega
 obtain ⟨n,rfl⟩:=Int.eq_ofNat_of_zero_le hw.1
 exact ⟨n,ha,by omega⟩
theorem cell_elem {k:Nat} {c0 c1:Value} {y:DataW H × List MemPlace} (h:DataW.trod enc Tryd.prog W 0 (fun _=>true) true k 33 [c0,c1] = some y):∃ x:Nat × Nat,c0 = u8v x.1∧c1 = u8v x.2∧x.1 < 256∧x.2 < 256:=by
 obtain ⟨ys,n',_,_,_,hyl,hf⟩:=DataW.trod_struct Tryd.underlying33 h
 have hyl2:ys.length = 2:=hyl
 have h0:=hf 0 _ rfl
 have h1:=hf 1 _ rfl
 rw [List.getElem?_eq_getElem (by omega)] at h0 h1
 have hc:Tryd.prog.cellsOf 5 = 1:=by kernel_rfl
 obtain ⟨a,ha,hla⟩:=u8_elem (c0:=c0) (by simpa [hc] using h0)
 obtain ⟨b,hb,hlb⟩:=u8_elem (c0:=c1) (by simpa [hc] using h1)
 exact ⟨(a,b),ha,hb,hla,hlb⟩
theorem open_cells {v:Value} {d:DataW H} {p:List MemPlace} (hone:v.cells.toList = [v]) (h:DataW.Trod enc Tryd.prog W 0 (fun _=>true) true 24 v d p) :
  ∃ (A:Option Addr) (xs:List (Nat × Nat)) (c:Nat),v = .slice A xs.length c∧Rd enc2 W (.slice A xs.length c) xs∧∀ x ∈ xs,x.1 < 256∧x.2 < 256:=by
 obtain ⟨A,n,c,rfl,hnc,hcm,hnil,hel⟩:=OpenQ.slice_at (C:=2) Tryd.underlying24 (by kernel_rfl) hone h
 have hm:maxLen = 9223372036854775807:=rfl
 rcases A with _ | a
 ·have:=hnil rfl
  subst this
  exact ⟨none,[],c,rfl,⟨none,c,rfl,by simp,by omega,fun h=>absurd rfl h⟩,fun x h=>by cases h⟩
 ·have each:∀ i,i < n→∃ x:Nat × Nat,W.cell? (a.add (i * 2)) = some (u8v x.1)∧W.cell? (a.add (i * 2 + 1)) = some (u8v x.2)∧x.1 < 256∧x.2 < 256:=fun i hi=>by
   obtain ⟨cs,k,y,hl,hc,ht⟩:=hel a rfl i hi
   match cs,hl with
   | [c0,c1],_ =>
    obtain ⟨x,rfl,rfl,h1,h2⟩:=cell_elem ht
    exact ⟨x,hc 0 (by omega),hc 1 (by omega),h1,h2⟩
  obtain ⟨xs,hl,hxs⟩:=OpenQ.listed n each
  subst hl
  refine ⟨some a,xs,c,rfl,⟨some a,c,rfl,hnc,by omega,fun hne=>?_⟩,fun x hx=>?_⟩
  ·have h0:0 < xs.length:=List.length_pos_iff.2 hne
   obtain ⟨b,o,rfl,hb⟩:=OpenQ.plain (by simpa using (hxs 0 _ (List.getElem?_eq_getElem h0)).1)
   have hadd:∀ k,(⟨b,o,none⟩:Addr).add k = ⟨b,o + k,none⟩:=fun k=>by unfold Addr.add; split <;> simp_all
   refine ⟨b,o,rfl,hb,fun i x hi j u hu=>?_⟩
   obtain ⟨g0,g1,_,_⟩:=hxs i _ hi
   rw [hadd] at g0 g1
   match j,hu with
   | 0,hu =>
    have:u8v x.1 = u:=by simpa [enc2] using hu
    subst this
    exact g0
   | 1,hu =>
    have:u8v x.2 = u:=by simpa [enc2] using hu
    subst this
    exact g1
  ·obtain ⟨i,hi⟩:=List.getElem?_of_mem hx
   exact ⟨(hxs i x hi).2.2.1,(hxs i x hi).2.2.2⟩
end
end GlowW
end Go.Proofs.YtpimkdaikoclnaaDoor
namespace Go.Proofs.YtpimkdaikoclnaaDoor
open Go.ChangeShapes Go.WideShapes Go.ChangeAt Go.RowKit Go.Deep
set_option linter.unusedVariables false
namespace FloodW
open RowG GlowW FloodP
section
variable {H:Type} {enc:TypeId × Value→H} {W:World}
set_option maxRecDepth 100000 in
theorem open_hole {r:Reach} {b:Nat} {v:Value} {d:DataW H} {p:List MemPlace} (hv:Value.okWide Tryd.prog W r b 26 v) (h:DataW.Trod enc Tryd.prog W 0 (fun _=>true) true 26 v d p) :
  ∃ (q:V) (X Y Z:Int) (A:Option Addr) (xs:List (Nat × Nat)) (c:Nat),v = .agg #[.int .i64 q.1,.int .i64 q.2.1,.int .i64 q.2.2,.int .i64 X,.int .i64 Y,.int .i64 Z,.slice A xs.length c]∧(Rd enc2 W (.slice A xs.length c) xs∧(∀ x ∈ xs,x.1 < 256∧x.2 < 256)):=by
 obtain ⟨m,rfl,hm,hc⟩:=OpenP.v_agg (n:=7) (ts:=[3,3,3,3,3,3,24]) (.inl ⟨_,Tryd.underlying26⟩) (by kernel_rfl) rfl (by kernel_rfl) hv
 obtain ⟨e0,e1,e2,e3,e4,e5,e6,rfl⟩:=OpenP.len7 hm
 obtain ⟨_,e,k0⟩:=hc 0 _ rfl
 obtain rfl:=Option.some.inj e
 obtain ⟨_,e,k1⟩:=hc 1 _ rfl
 obtain rfl:=Option.some.inj e
 obtain ⟨_,e,k2⟩:=hc 2 _ rfl
 obtain rfl:=Option.some.inj e
 obtain ⟨_,e,k3⟩:=hc 3 _ rfl
 obtain rfl:=Option.some.inj e
 obtain ⟨_,e,k4⟩:=hc 4 _ rfl
 obtain rfl:=Option.some.inj e
 obtain ⟨_,e,k5⟩:=hc 5 _ rfl
 obtain rfl:=Option.some.inj e
 obtain ⟨_,e,k6⟩:=hc 6 _ rfl
 obtain rfl:=Option.some.inj e
 obtain ⟨n0,rfl,_,_⟩:=OpenP.c_int (k:=.i64) Tryd.underlying3 rfl rfl k0
 obtain ⟨n1,rfl,_,_⟩:=OpenP.c_int (k:=.i64) Tryd.underlying3 rfl rfl k1
 obtain ⟨n2,rfl,_,_⟩:=OpenP.c_int (k:=.i64) Tryd.underlying3 rfl rfl k2
 obtain ⟨n3,rfl,_,_⟩:=OpenP.c_int (k:=.i64) Tryd.underlying3 rfl rfl k3
 obtain ⟨n4,rfl,_,_⟩:=OpenP.c_int (k:=.i64) Tryd.underlying3 rfl rfl k4
 obtain ⟨n5,rfl,_,_⟩:=OpenP.c_int (k:=.i64) Tryd.underlying3 rfl rfl k5
 have o6:e6.cells.toList = [e6]:=OpenQ.v_slice (W:=W) (r:=r) (b:=b) Tryd.underlying24 (by unfold Value.okWide; rw [Tryd.underlying24]; exact k6)
 obtain ⟨fuel,hf⟩:=h
 obtain ⟨ys,n',_,_,_,hyl,hg⟩:=DataW.trod_struct (cs:=[.int .i64 n0,.int .i64 n1,.int .i64 n2,.int .i64 n3,.int .i64 n4,.int .i64 n5,e6]) Tryd.underlying26 hf
 have hyl2:ys.length = 5:=hyl
 have h4:=hg 4 _ rfl
 rw [List.getElem?_eq_getElem (by omega)] at h4
 have z0:Tryd.prog.cellsOf 24 = 1:=by kernel_rfl
 obtain ⟨A,xs,c,rfl,hr,hx⟩:=open_cells (enc:=enc) (d:=ys[4].1) (p:=ys[4].2) o6 ⟨n',by rw [o6]; simpa [z0] using h4⟩
 exact ⟨(n0,n1,n2),n3,n4,n5,A,xs,c,rfl,hr,hx⟩
set_option maxRecDepth 100000 in
theorem open_edit {r:Reach} {b:Nat} {v:Value} {d:DataW H} {p:List MemPlace} (hv:Value.okWide Tryd.prog W r b 35 v) (h:DataW.Trod enc Tryd.prog W 0 (fun _=>true) true 35 v d p) :
  ∃ (ea:Int) (k l:Nat),v = .agg #[.int .i64 ea,.int .u8 k,.int .u8 l]∧(k < 256∧l < 256):=by
 obtain ⟨m,rfl,hm,hc⟩:=OpenP.v_agg (n:=3) (ts:=[3,5,5]) (.inl ⟨_,Tryd.underlying35⟩) (by kernel_rfl) rfl (by kernel_rfl) hv
 obtain ⟨e0,e1,e2,rfl⟩:=OpenP.len3 hm
 obtain ⟨_,e,k0⟩:=hc 0 _ rfl
 obtain rfl:=Option.some.inj e
 obtain ⟨_,e,k1⟩:=hc 1 _ rfl
 obtain rfl:=Option.some.inj e
 obtain ⟨_,e,k2⟩:=hc 2 _ rfl
 obtain rfl:=Option.some.inj e
 obtain ⟨n0,rfl,_,_⟩:=OpenP.c_int (k:=.i64) Tryd.underlying3 rfl rfl k0
 obtain ⟨n1,rfl,l1,u1⟩:=OpenP.c_int (k:=.u8) (lo:=0) (hi:=255) Tryd.underlying5 rfl rfl k1
 obtain ⟨n2,rfl,l2,u2⟩:=OpenP.c_int (k:=.u8) (lo:=0) (hi:=255) Tryd.underlying5 rfl rfl k2
 obtain ⟨a,rfl⟩:=Int.eq_ofNat_of_zero_le l1
 obtain ⟨b',rfl⟩:=Int.eq_ofNat_of_zero_le l2
 exact ⟨n0,a,b',rfl,by omega,by omega⟩
end
end FloodW
end Go.Proofs.YtpimkdaikoclnaaDoor
