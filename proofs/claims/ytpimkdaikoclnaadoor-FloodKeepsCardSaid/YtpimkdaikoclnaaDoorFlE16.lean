import Derived.Deep.RegionHeld3
import Derived.Test.YtpimkdaikoclnaaDoorFlE15
import Derived.Test.YtpimkdaikoclnaaDoorFlE14
import Derived.Test.YtpimkdaikoclnaaDoorTie
import Derived.Test.YtpimkdaikoclnaaDoorFlE1
import Derived.ProofKit
import Derived.LaidMore
import Derived.OpenShut
import Derived.Test.YtpimkdaikoclnaaDoorRows
import Derived.Carry
import Derived.Lib.SmallJoins
import Derived.Deep.Slices
namespace Go.Proofs.YtpimkdaikoclnaaDoor
open Go.RowKit
set_option linter.unusedVariables false
set_option linter.unusedSimpArgs false
namespace FloodW
open BlkP RowG GlowW FloodP
set_option maxRecDepth 100000 in
set_option maxHeartbeats 32000000 in
theorem kept_c {w0 w:World} {f:Fld} {ea:Int} {k l:Nat} (hT:KindW.Tab w0) (hb:Below w0.heap.size w0 w) (h:FldM w f) (hW:FldC f) (hls:f.ls = rightL f) (hall:∀ k,SC f k ∨ f.vC.ownBlock = some k→w0.heap.size≤k) (hk:k < 256∧l < 256) :
  Calls Tryd.prog 8 #[.pointer (some ⟨f.F,0,none⟩),.agg #[.int .i64 ea,.int .u8 k,.int .u8 l]] w fun e w'=>e = .returned (.bool true)∧StK w0 f.F w':=by
 have HT:=Lib.hid hT
 have HB:=Lib.hid hb
 have H:=Lib.hid h
 have HW:=Lib.hid hW
 have HLS:=Lib.hid hls
 have HALL:=Lib.hid hall
 have HK:=Lib.hid hk
 obtain ⟨n,hn⟩:∃ n,f.X * f.Y * f.Z = n:=⟨_,rfl⟩
 have hnb:=hW.n
 rw [hn] at hnb
 have HN:=Lib.hid hn
 have HLL:=Lib.hid (show f.ls.length = n by rw [hls,rightL_len,hn])
 obtain ⟨AL,cL,hvL,_,_,hAL⟩:=h.ls.form (n:=n) HLL.out
 obtain ⟨gL,rfl,_,_⟩:=hAL (by omega)
 have HVL:=Lib.hid hvL
 have hlF:=h.blk.lt
 have k7:w.cell? ⟨f.F,7,none⟩ = some (.slice (some ⟨gL,0,none⟩) n cL):=(h.blk.cell (i:=7) (v:=f.vL) rfl).trans (congrArg some hvL)
 have hnI:(0:Int) < n:=by omega
 clear hT hb h hW hls hall hk hn hvL hAL
 go_enter Tryd.func8,Tryd.ntmps8
 go_wp2_with ((with_reducible refine at_slot 23 ?_); refine Classical.byContradiction (fun hG=>?_))
 refine hG ?_
 clear hG
 refine wp_copyLt (w:=w.alloc (.cells #[.int .i64 ea,.int .u8 k,.int .u8 l] TE)) rfl (.tmp 18) (.tmp 22) rfl (l:=f.ls) (A:=some ⟨gL,0,none⟩) (n:=n) (c:=cL) rfl (by first | rfl | (simp; done) | (simp; rfl)) rfl ?_ HLL.out (by omega) (by omega) ?_
 ·exact (HVL.out ▸ (H.out.below (by (repeat' (first | (with_reducible exact Below.refl _ _) | (with_reducible refine Below.setCell ?_ (by (first | omega | (simp; done) | (simp; omega))) _) | (with_reducible refine Below.alloc ?_ (by (first | omega | (simp; done) | (simp; omega))) _) | (with_reducible refine Below.drew ?_) | (with_reducible refine below_drewN ?_ _))))).ls).rd
 intro g1 c1 W2 ho1 hb1
 have hB2:Below w.heap.size w W2:=by (repeat' (first | (with_reducible exact Below.refl _ _) | (with_reducible refine Below.setCell ?_ (by (first | omega | (simp; done) | (simp; omega))) _) | (with_reducible refine Below.alloc ?_ (by (first | omega | (simp; done) | (simp; omega))) _) | (with_reducible refine Below.drew ?_) | (with_reducible refine below_drewN ?_ _) | (with_reducible refine Below.trans ?_ (Below.mono hb1 (by (first | omega | (simp; done) | (simp; omega)))))))
 have HB2:=Lib.hid hB2
 have HO2:=Lib.hid (show RowG.Own enc2 TL W2 w.heap.size (.slice (some ⟨g1,0,none⟩) n c1) f.ls from ho1.mono (by simp))
 have HE2:=Lib.hid (show Blk W2 w.heap.size TE [.int .i64 ea,.int .u8 k,.int .u8 l] from (show Blk (w.alloc (.cells #[.int .i64 ea,.int .u8 k,.int .u8 l] TE)) w.heap.size TE [.int .i64 ea,.int .u8 k,.int .u8 l] by (repeat' (first | (with_reducible refine BlkP.Blk.drew ?_) | (with_reducible refine BlkP.Blk.drewN ?_ _) | (with_reducible refine BlkP.Blk.setAt (us:=?_) (by first | omega | (simp; done) | (simp; omega)) rfl ?_ ?_) | (with_reducible refine BlkP.Blk.otherAt ?_ (by first | omega | (simp; done) | (simp; omega))) | (with_reducible refine BlkP.Blk.newA' (by first | omega | (simp; done) | (simp; omega)) rfl) | (with_reducible refine BlkP.Blk.alloc ?_ _) | (exact rfl)))).below hb1)
 clear ho1 hb1 hB2 k7
 go_wp2_with fail
 go_at_call 17
 refine (rsources_c (H.out.below HB2.out) HW.out).mono ?_
 rintro e W3 ⟨g3,rfl,hbl3,hge3,hb3⟩
 rw [HN.out]
 have HB3:=Lib.hid (HB2.out.trans (hb3.mono HB2.out.size))
 have HLOC3:=Lib.hid (show LocK W3 w.heap.size g1 n c1 f.ls g3 (srcL f) from ⟨HO2.out.below hb3,hbl3,Nat.le_trans HB2.out.size hge3⟩)
 have HE3:=Lib.hid (HE2.out.below hb3)
 have e0:=HE3.out.cell (i:=0) rfl
 have e1:=HE3.out.cell (i:=1) rfl
 have e2:=HE3.out.cell (i:=2) rfl
 clear hbl3 hge3 hb3
 go_wp2_with fail
 clear e0 e1 e2
 go_at_call 12
 refine (edited_c (H.out.below HB3.out) HW.out HK.out).mono ?_
 rintro e W4 ⟨i,o1,o2,d1,d2,hi,hd,ho,rfl,hf4,hr4⟩
 have HI:=Lib.hid hi
 have HD:=Lib.hid hd
 have HO:=Lib.hid ho
 have HF4:=Lib.hid hf4
 have HLOC4:=Lib.hid (HLOC3.out.fr hr4 (fun k hk=>.inl (H.out.cs.ge k hk).2))
 have HB4:=Lib.hid (show Below w0.heap.size w0 W4 from (HB.out.trans (HB3.out.mono HB.out.size)).trans (hr4.toBelow (Nat.le_trans HB.out.size HB3.out.size) (fun k hk=>HALL.out k (.inr hk))))
 have HZ4:=Lib.hid (show w.heap.size≤W4.heap.size from Nat.le_trans HB3.out.size hr4.size)
 have HFC:=Lib.hid (put_c (i:=i) (c:=(d1,d2)) HW.out HD.out)
 obtain ⟨px,hpx⟩:∃ x,(plc f i).1 = x:=⟨_,rfl⟩
 obtain ⟨py,hpy⟩:∃ x,(plc f i).2.1 = x:=⟨_,rfl⟩
 obtain ⟨pz,hpz⟩:∃ x,(plc f i).2.2 = x:=⟨_,rfl⟩
 have HPL:=Lib.hid (show plc f i = (px,py,pz) from Prod.ext hpx (Prod.ext hpy hpz))
 rw [hpx,hpy,hpz]
 clear hi hd ho hf4 hr4 hpx hpy hpz
 go_wp2_with fail
 obtain ⟨pb,hpb⟩:∃ pb,W4.heap.size = pb:=⟨_,rfl⟩
 go_at_call 18
 refine calls_named (S:=fun W=>Below W4.heap.size W4 W∧Blk W pb TP [.int .i64 px,.int .i64 py,.int .i64 pz]∧Blk W (pb + 1) TC [.int .u8 o1,.int .u8 o2]) ⟨by (repeat' (first | (with_reducible exact Below.refl _ _) | (with_reducible refine Below.setCell ?_ (by (first | omega | (simp; done) | (simp; omega))) _) | (with_reducible refine Below.alloc ?_ (by (first | omega | (simp; done) | (simp; omega))) _) | (with_reducible refine Below.drew ?_) | (with_reducible refine below_drewN ?_ _))),by subst hpb; (repeat' (first | (with_reducible refine BlkP.Blk.drew ?_) | (with_reducible refine BlkP.Blk.drewN ?_ _) | (with_reducible refine BlkP.Blk.setAt (us:=?_) (by first | omega | (simp; done) | (simp; omega)) rfl ?_ ?_) | (with_reducible refine BlkP.Blk.otherAt ?_ (by first | omega | (simp; done) | (simp; omega))) | (with_reducible refine BlkP.Blk.newA' (by first | omega | (simp; done) | (simp; omega)) rfl) | (with_reducible refine BlkP.Blk.alloc ?_ _) | (exact rfl))),by subst hpb; (repeat' (first | (with_reducible refine BlkP.Blk.drew ?_) | (with_reducible refine BlkP.Blk.drewN ?_ _) | (with_reducible refine BlkP.Blk.setAt (us:=?_) (by first | omega | (simp; done) | (simp; omega)) rfl ?_ ?_) | (with_reducible refine BlkP.Blk.otherAt ?_ (by first | omega | (simp; done) | (simp; omega))) | (with_reducible refine BlkP.Blk.newA' (by first | omega | (simp; done) | (simp; omega)) rfl) | (with_reducible refine BlkP.Blk.alloc ?_ _) | (exact rfl)))⟩ ?_
 rintro W5 ⟨hb5,hp5,hc5⟩
 rw [hpb]
 have HPB:=Lib.hid hpb
 have HRR:Calls Tryd.prog 18 #[.pointer (some ⟨f.F,0,none⟩)] W5 (OwnL W5 (rightL (f.put i (d1,d2)))):=right_c (HF4.out.below hb5) HFC.out
 refine HRR.mono ?_
 clear HRR
 rintro e W6 ⟨vR,rfl,hoR,hb6⟩
 obtain ⟨R,hR⟩:∃ R,rightL (f.put i (d1,d2)) = R:=⟨_,rfl⟩
 rw [hR] at hoR
 have HR:=Lib.hid hR
 have HRL:=Lib.hid (show R.length = n by rw [← hR,rightL_len]; exact HN.out)
 obtain ⟨AR,cR,hvR,_,_,hAR⟩:=hoR.form (n:=n) HRL.out
 obtain ⟨gR,rfl,_,_⟩:=hAR (by omega)
 subst hvR
 have hB46:=hb5.trans (hb6.mono hb5.size)
 have HF6:=Lib.hid (HF4.out.below hB46)
 have HLOC6:=Lib.hid (HLOC4.out.below hB46)
 have HP6:=Lib.hid (hp5.below hb6)
 have HC6:=Lib.hid (hc5.below hb6)
 have HOR6:=Lib.hid (show RowG.Own enc2 TL W6 w.heap.size (.slice (some ⟨gR,0,none⟩) n cR) R from hoR.mono (Nat.le_trans HZ4.out hb5.size))
 have HB6:=Lib.hid (show Below w0.heap.size w0 W6 from HB4.out.trans (hB46.mono HB4.out.size))
 have HZ6:=Lib.hid (show w.heap.size≤W6.heap.size from Nat.le_trans HZ4.out hB46.size)
 have HFL:=Lib.hid (show f.F < w.heap.size∧w.heap.size≤pb from ⟨hlF,by rw [← hpb]; exact HZ4.out⟩)
 have hl6:f.F < W6.heap.size:=HF6.out.blk.lt
 have x8:∃ v,W6.cell? ⟨f.F,8,none⟩ = some v:=⟨_,HF6.out.blk.cell (i:=8) rfl⟩
 have x9:∃ v,W6.cell? ⟨f.F,9,none⟩ = some v:=⟨_,HF6.out.blk.cell (i:=9) rfl⟩
 have x10:∃ v,W6.cell? ⟨f.F,10,none⟩ = some v:=⟨_,HF6.out.blk.cell (i:=10) rfl⟩
 obtain ⟨v8,x8⟩:=x8
 obtain ⟨v9,x9⟩:=x9
 obtain ⟨v10,x10⟩:=x10
 have z8:W6.frozen? ⟨f.F,8,none⟩ = false:=HF6.out.blk.frozen 8
 have z9:W6.frozen? ⟨f.F,9,none⟩ = false:=HF6.out.blk.frozen 9
 have z10:W6.frozen? ⟨f.F,10,none⟩ = false:=HF6.out.blk.frozen 10
 have p0:=HP6.out.cell (i:=0) rfl
 have p1:=HP6.out.cell (i:=1) rfl
 have p2:=HP6.out.cell (i:=2) rfl
 have q0:=HC6.out.cell (i:=0) rfl
 have q1:=HC6.out.cell (i:=1) rfl
 have hlp:=HP6.out.lt
 have hlc:=HC6.out.lt
 have hne1:pb ≠ f.F:=by have:=HFL.out; omega
 have hne2:pb + 1 ≠ f.F:=by have:=HFL.out; omega
 clear hb5 hp5 hc5 hb6 hR hoR hAR hB46 hpb
 go_wp2_with fail
 clear x8 x9 x10 z8 z9 z10 p0 p1 p2 q0 q1
 go_at_call 11
 refine calls_named (S:=fun W=>FldM W (f.clean.put i (d1,d2))∧Fr (fun k=>k = f.F) W6 W) ⟨HF6.out.reset.1,HF6.out.reset.2⟩ ?_
 rintro W7 ⟨hf7,hr7⟩
 have HCC:=Lib.hid (show FldC f.clean from ⟨HW.out.x,HW.out.y,HW.out.z,HW.out.lx,HW.out.ly,HW.out.lz,HW.out.cs,HW.out.c8⟩)
 have hlsC:f.clean.ls = rightL f.clean:=HLS.out.trans (rightL_cs (f:=f) (f':=f.clean) rfl rfl rfl rfl rfl).symm
 have HOLD:=Lib.hid (show Old (f.clean.put i (d1,d2)) (px,py,pz) (o1,o2) from by
  have q:=old_put (f:=f.clean) HCC.out hlsC (i:=i) (c:=(d1,d2)) (o:=(o1,o2)) HI.out HO.out HD.out
  rw [show plc f.clean i = (px,py,pz) from HPL.out] at q
  exact q)
 have HB7:=Lib.hid (show Below w0.heap.size w0 W7 from HB6.out.trans (hr7.toBelow HB6.out.size (fun k hk=>HALL.out k (.inl (.inl hk)))))
 have HSC:=Lib.hid (show ∀ k,SC (f.clean.put i (d1,d2)) k→w0.heap.size≤k∧k < w.heap.size from fun k hk=>by
  rcases hk with e | e | e | e
  ·have e':k = f.F:=e
   exact ⟨HALL.out k (.inl (.inl e')),by have:=HFL.out; omega⟩
  ·cases e
  ·cases e
  ·exact ⟨HALL.out k (.inl (.inr (.inr (.inr e)))),(H.out.ls.ge k e).2⟩)
 have hchg:Calls Tryd.prog 11 #[.iface 29 (.pointer (some ⟨f.F,0,none⟩)),.agg #[.int .i64 px,.int .i64 py,.int .i64 pz],.agg #[.int .u8 o1,.int .u8 o2]] W7 (ChangeP W7 (f.clean.put i (d1,d2)) (px,py,pz) (o1,o2)) :=
  change_c hf7 HOLD.out (HT.out.below HB7.out) (Nat.zero_le _) (Nat.zero_le _) (fun hs=>by
   have h1:=(HSC.out _ hs).1
   have h2:=HT.out.size
   omega)
 refine hchg.mono ?_
 clear hchg
 rintro e W8 ⟨T,f4,rfl,hch⟩
 have hr8:Fr (SC (f.clean.put i (d1,d2))) W6 W8:=(hr7.mono (fun k hk=>.inl hk)).trans hch.fr (fun _ h=>.inl h)
 have HZ8:=Lib.hid (show W6.heap.size≤W8.heap.size from hr8.size)
 have HLOC8:=Lib.hid (HLOC6.out.fr hr8 (fun k hk=>.inl (HSC.out k hk).2))
 have HOR8:=Lib.hid (show RowG.Own enc2 TL W8 w.heap.size (.slice (some ⟨gR,0,none⟩) n cR) R from hr8.own HOR6.out (fun k e hk=>by
  have h1:=(HOR6.out.ge k e).1
  have h2:=(HSC.out k hk).2
  omega))
 have HP8:=Lib.hid (show Blk W8 pb TP [.int .i64 px,.int .i64 py,.int .i64 pz] from hr8.blk HP6.out (fun hk=>by
  have h1:=(HSC.out _ hk).2
  have h2:=HFL.out.2
  omega))
 have HB8:=Lib.hid (show Below w0.heap.size w0 W8 from HB7.out.trans (hch.fr.toBelow HB7.out.size (fun k hk=>(HSC.out k hk).1)))
 obtain ⟨vA,vT,la,ef4,hla,hnear⟩:=hch.f_
 have hRc:rightL (f.clean.put i (d1,d2)) = R:=(rightL_cs (f:=f.put i (d1,d2)) (f':=f.clean.put i (d1,d2)) rfl rfl rfl rfl rfl).trans HR.out
 obtain ⟨nT,hnT⟩:∃ nT,T.length = nT:=⟨_,rfl⟩
 have HTL:=Lib.hid hnT
 have HLA:=Lib.hid hla
 have HNEAR:=Lib.hid (show ∀ q,q ∈ la→wideP q∧(farI q (px,py,pz)≤15 ∨ ∃ i0 a b,i0 < n∧(srcL f)[i0]? = some a∧(srcL (f.clean.put i (d1,d2)))[i0]? = some b∧a ≠ b∧farI q (plc (f.clean.put i (d1,d2)) i0)≤15) from fun q hq=>by
  have h1:=hnear q hq
  refine ⟨near_wide (put_c HCC.out HD.out) HOLD.out.inb h1,?_⟩
  have h2:=near_src (f:=f.clean) HCC.out (i:=i) (c:=(d1,d2)) (o:=(o1,o2)) HI.out HO.out (q:=q) (by rw [show plc f.clean i = (px,py,pz) from HPL.out]; exact h1)
  rw [show plc f.clean i = (px,py,pz) from HPL.out,show f.clean.X * f.clean.Y * f.clean.Z = n from HN.out,src_cs (f:=f) (f':=f.clean) rfl rfl rfl rfl rfl] at h2
  exact h2)
 have HCNT:=Lib.hid (show nT = cntD R f.ls n from by
  have q:=told_len (put_c (i:=i) (c:=(d1,d2)) HCC.out HD.out) HOLD.out.fw hch.dup hch.mem
  rw [hnT,hRc,show (f.clean.put i (d1,d2)).X * (f.clean.put i (d1,d2)).Y * (f.clean.put i (d1,d2)).Z = n from HN.out] at q
  exact q)
 have HMEM:=Lib.hid (show ∀ q,q ∈ T→inB f q = true∧numB f q < n∧¬ R[numB f q]? = f.ls[numB f q]? from fun q hq=>by
  have h1:=(hch.mem q).1 hq
  have h2:inB f q = true:=h1.1
  have h3:numB f q < f.X * f.Y * f.Z:=by
   have:=inB_iff.1 h2
   exact GlowP.at_lt (by omega) (by omega) (by omega)
  refine ⟨h2,by rw [← HN.out]; exact h3,?_⟩
  have e:plc (f.clean.put i (d1,d2)) (numB f q) = q:=plc_num (f:=f) h2
  rw [← e] at h1
  have h4:=(newL_get (f:=f.clean.put i (d1,d2)) (put_c HCC.out HD.out) HOLD.out.fw h3).1 h1
  rw [hRc] at h4
  exact h4)
 have HUP:=Lib.hid hch.up
 have HF8:=Lib.hid hch.fld
 have HQ4:=Lib.hid (show f4.F = f.F∧f4.vL = .slice (some ⟨gL,0,none⟩) n cL∧f4.ls = R∧f4.ak = la∧f4.ts = T∧f4.other = 0∧f4.X * f4.Y * f4.Z = n∧srcL f4 = srcL (f.clean.put i (d1,d2))∧plc f4 = plc (f.clean.put i (d1,d2))∧(inB f4 = inB f∧numB f4 = numB f)∧f4.ls = rightL f4 from by
  rw [ef4]
  refine ⟨rfl,HVL.out,hRc,rfl,rfl,rfl,HN.out,src_cs rfl rfl rfl rfl rfl,rfl,⟨rfl,rfl⟩,(rightL_cs rfl rfl rfl rfl rfl).symm⟩)
 have HC4:=Lib.hid (show FldC f4 from by
  have q:=put_c (i:=i) (c:=(d1,d2)) HCC.out HD.out
  rw [ef4]
  exact ⟨q.x,q.y,q.z,q.lx,q.ly,q.lz,q.cs,q.c8⟩)
 have HW4:=Lib.hid (HC4.out.w2 HQ4.out.2.2.2.2.2.2.2.2.2.2)
 have HSC4:=Lib.hid (show ∀ k,SC f4 k ∨ f4.vC.ownBlock = some k→w0.heap.size≤k from fun k hk=>by
  rcases hk with hk | hk
  ·rcases hch.new k hk with e | e
   ·exact (HSC.out k e).1
   ·exact Nat.le_trans HB7.out.size e
  ·rw [ef4] at hk
   exact HALL.out k (.inr hk))
 obtain ⟨AT,cT,hvT,_,_,hAT⟩:=hch.fld.ts.form (n:=nT) (by rw [HQ4.out.2.2.2.2.1]; exact hnT)
 have HVT:=Lib.hid hvT
 have HAT:=Lib.hid (show 0 < nT→∃ g,AT = some ⟨g,0,none⟩ from fun h0=>by
  obtain ⟨g,e,_,_⟩:=hAT h0
  exact ⟨g,e⟩)
 obtain ⟨nA,hnA⟩:∃ nA,la.length = nA:=⟨_,rfl⟩
 have HAL:=Lib.hid hnA
 obtain ⟨AA,cA,hvA,_,_,hAA⟩:=hch.fld.ak.form (n:=nA) (by rw [HQ4.out.2.2.2.1]; exact hnA)
 have HVA:=Lib.hid hvA
 have HAA:=Lib.hid (show 0 < nA→∃ g,AA = some ⟨g,0,none⟩ from fun h0=>by
  obtain ⟨g,e,_,_⟩:=hAA h0
  exact ⟨g,e⟩)
 have HTB:=Lib.hid (show nT≤1024 from by rw [HCNT.out]; exact Nat.le_trans (cntD_le _ _ _) hnb.2)
 have HPW:=Lib.hid (show wideP (px,py,pz) from may_wide (by have q:=plc_may HW.out HI.out; rw [HPL.out] at q; exact q))
 rw [hnT]
 clear ef4 hla hnear hRc hnT hnA hr8 hf7 hr7 hch hvT hAT hvA hAA hlsC hl6 hlp hlc hne1 hne2 hlF HOLD HF6 HLOC6 HP6 HC6 HOR6 HF4 HLOC4 HLOC3 HE3 HO2 HE2
 go_wp2_with fail
 go_loopw [11,12] (fun v11 v12 wr=>∃ j:Nat,v12 = .int .i64 (j:Nat)∧v11 = .int .i64 (cntD R f.ls j:Nat)∧j≤n∧Below W8.heap.size W8 wr) (fun _ v _=>n - (intOf v).toNat)
 case atStart=>exact ⟨0,rfl,rfl,by omega,Below.refl _ _⟩
 case round =>
  obtain ⟨j,rfl,rfl,hj,hbr⟩:=hrel
  have HBR:=Lib.hid hbr
  have HFR:=Lib.hid (HF8.out.below hbr)
  obtain ⟨kc,hkc⟩:∃ kc,cntD R f.ls j = kc:=⟨_,rfl⟩
  have HKC:=Lib.hid hkc
  have HKB:=Lib.hid (show kc≤1024 by rw [← hkc]; exact Nat.le_trans (cntD_le _ _ _) (by omega))
  rw [hkc]
  clear hbr hkc
  by_cases hjn:j < n
  ·have hjI:(j:Int) < n:=by omega
   obtain ⟨⟨a,b⟩,hab⟩:∃ x,R[j]? = some x:=⟨_,List.getElem?_eq_getElem (by rw [HRL.out]; exact hjn)⟩
   obtain ⟨⟨a2,b2⟩,hab2⟩:∃ x,f.ls[j]? = some x:=⟨_,List.getElem?_eq_getElem (by rw [HLL.out]; exact hjn)⟩
   have HA:=Lib.hid hab
   have HA2:=Lib.hid hab2
   have HOR:=Lib.hid (HOR8.out.below HBR.out)
   have HLOC:=Lib.hid (HLOC8.out.below HBR.out)
   have HW1:=Lib.hid (show wrap64 ((j:Int) + 1) = ((j + 1:Nat):Int) by rw [wr64 (by omega) (by omega)]; omega)
   have HW2:=Lib.hid (show wrap64 ((kc:Int) + 1) = ((kc + 1:Nat):Int) by have:=HKB.out; rw [wr64 (by omega) (by omega)]; omega)
   clear hab hab2
   go_wp2_with fail
   refine wp_region_noPanic ?_
   refine wp_region_held_drew (S:=fun Xw=>FldM Xw f4∧RowG.Own enc2 TL Xw w.heap.size (.slice (some ⟨gR,0,none⟩) n cR) R) (by kernel_rfl) (⟨HFR.out.below (Below.refl _ _).drew,HOR.out.drew⟩) (fun hHeld=>?_)
   refine wpAnyH_take (i:=0) (oi:=⟨some 54,_,_,_,_,_⟩) (v:=.pointer (some ⟨f.F,0,none⟩)) rfl (by kernel_rfl) (by kernel_rfl) (by kernel_rfl) (fun _ _ _ h=>h) (Or.inl ⟨by rfl,fun Xw hSW=>by go_simp⟩) hHeld ?_
   simp only [Act.put,List.setIfInBounds_toArray,List.set_cons_zero,List.set_cons_succ]
   refine wpAnyH_take (i:=1) (oi:=⟨some 55,_,_,_,_,_⟩) (v:=.pointer (some ⟨f.F,0,none⟩)) rfl (by kernel_rfl) (by kernel_rfl) (by kernel_rfl) (fun _ _ _ h=>h) (Or.inl ⟨by rfl,fun Xw hSW=>by go_simp⟩) hHeld ?_
   simp only [Act.put,List.setIfInBounds_toArray,List.set_cons_zero,List.set_cons_succ]
   refine wpAnyH_take (i:=2) (oi:=⟨some 56,_,_,_,_,_⟩) (v:=.pointer (some ⟨f.F,7,none⟩)) rfl (by kernel_rfl) (by kernel_rfl) (by kernel_rfl) (fun _ _ _ h=>h) (Or.inl ⟨by rfl,fun Xw hSW=>by go_simp⟩) hHeld ?_
   simp only [Act.put,List.setIfInBounds_toArray,List.set_cons_zero,List.set_cons_succ]
   refine wpAnyH_take (i:=3) (oi:=⟨some 57,_,_,_,_,_⟩) (v:=.slice (some ⟨gL,0,none⟩) n cL) rfl (by kernel_rfl) (by kernel_rfl) (by kernel_rfl) (fun _ _ _ h=>h) (Or.inl ⟨by rfl,fun Xw hSW=>by have q:Xw.cell? ⟨f.F,7,none⟩ = some (.slice (some ⟨gL,0,none⟩) n cL):=by { have q:=hSW.1.blk.cell (i:=7) (v:=f4.vL) rfl; rwa [HQ4.out.1,HQ4.out.2.1] at q }; go_simp⟩) hHeld ?_
   simp only [Act.put,List.setIfInBounds_toArray,List.set_cons_zero,List.set_cons_succ]
   refine wpAnyH_take (i:=4) (oi:=⟨some 58,_,_,_,_,_⟩) (v:=.int .i64 (j:Int)) rfl (by kernel_rfl) (by kernel_rfl) (by kernel_rfl) (fun _ _ _ h=>h) (Or.inl ⟨by rfl,fun Xw hSW=>by go_simp⟩) hHeld ?_
   simp only [Act.put,List.setIfInBounds_toArray,List.set_cons_zero,List.set_cons_succ]
   refine wpAnyH_take (i:=5) (oi:=⟨some 59,_,_,_,_,_⟩) (v:=.pointer (some ⟨gL,j * 2,none⟩)) rfl (by kernel_rfl) (by kernel_rfl) (by kernel_rfl) (fun _ _ _ h=>h) (Or.inl ⟨by rfl,fun Xw hSW=>by go_simp⟩) hHeld ?_
   simp only [Act.put,List.setIfInBounds_toArray,List.set_cons_zero,List.set_cons_succ]
   refine wpAnyH_take (i:=6) (oi:=⟨some 60,_,_,_,_,_⟩) (v:=.agg #[.int .u8 a,.int .u8 b]) rfl (by kernel_rfl) (by kernel_rfl) (by kernel_rfl) (fun _ _ _ h=>h) (Or.inl ⟨by rfl,fun Xw hSW=>by have ho:RowG.Own enc2 TL Xw 0 (.slice (some ⟨gL,0,none⟩) n cL) R:=(by { have q:=hSW.1.ls; rwa [HQ4.out.2.1,HQ4.out.2.2.1] at q }); have a0:Xw.cell? ⟨gL,j * 2,none⟩ = some (.int .u8 a):=ho.cell (i:=j) (j:=0) HA.out rfl; have a1:Xw.cell? ⟨gL,j * 2 + 1,none⟩ = some (.int .u8 b):=ho.cell (i:=j) (j:=1) HA.out rfl; clear ho; go_simp⟩) hHeld ?_
   simp only [Act.put,List.setIfInBounds_toArray,List.set_cons_zero,List.set_cons_succ]
   refine wpAnyH_take (i:=7) (oi:=⟨some 61,_,_,_,_,_⟩) (v:=.slice (some ⟨gR,0,none⟩) n cR) rfl (by kernel_rfl) (by kernel_rfl) (by kernel_rfl) (fun _ _ _ h=>h) (Or.inl ⟨by rfl,fun Xw hSW=>by go_simp⟩) hHeld ?_
   simp only [Act.put,List.setIfInBounds_toArray,List.set_cons_zero,List.set_cons_succ]
   refine wpAnyH_take (i:=8) (oi:=⟨some 62,_,_,_,_,_⟩) (v:=.int .i64 (j:Int)) rfl (by kernel_rfl) (by kernel_rfl) (by kernel_rfl) (fun _ _ _ h=>h) (Or.inl ⟨by rfl,fun Xw hSW=>by go_simp⟩) hHeld ?_
   simp only [Act.put,List.setIfInBounds_toArray,List.set_cons_zero,List.set_cons_succ]
   refine wpAnyH_take (i:=9) (oi:=⟨some 63,_,_,_,_,_⟩) (v:=.pointer (some ⟨gR,j * 2,none⟩)) rfl (by kernel_rfl) (by kernel_rfl) (by kernel_rfl) (fun _ _ _ h=>h) (Or.inl ⟨by rfl,fun Xw hSW=>by go_simp⟩) hHeld ?_
   simp only [Act.put,List.setIfInBounds_toArray,List.set_cons_zero,List.set_cons_succ]
   refine wpAnyH_take (i:=10) (oi:=⟨some 64,_,_,_,_,_⟩) (v:=.agg #[.int .u8 a,.int .u8 b]) rfl (by kernel_rfl) (by kernel_rfl) (by kernel_rfl) (fun _ _ _ h=>h) (Or.inl ⟨by rfl,fun Xw hSW=>by have a0:Xw.cell? ⟨gR,j * 2,none⟩ = some (.int .u8 a):=hSW.2.cell (i:=j) (j:=0) HA.out rfl; have a1:Xw.cell? ⟨gR,j * 2 + 1,none⟩ = some (.int .u8 b):=hSW.2.cell (i:=j) (j:=1) HA.out rfl; go_simp⟩) hHeld ?_
   simp only [Act.put,List.setIfInBounds_toArray,List.set_cons_zero,List.set_cons_succ]
   refine wpAnyH_take (i:=11) (oi:=⟨some 65,_,_,_,_,_⟩) (v:=.bool false) rfl (by kernel_rfl) (by kernel_rfl) (by kernel_rfl) (fun _ _ _ h=>h) (Or.inl ⟨by rfl,fun Xw hSW=>by go_simp⟩) hHeld ?_
   simp only [Act.put,List.setIfInBounds_toArray,List.set_cons_zero,List.set_cons_succ]
   refine wpAnyH_done (by kernel_rfl) ?_ _
   refine NoPanic.normal ?_
   clear hHeld
   by_cases heq:a = a2∧b = b2
   ·obtain ⟨rfl,rfl⟩:=heq
    have HCN:=Lib.hid (show cntD R f.ls (j + 1) = kc from by
     show cntD R f.ls j + (if R[j]? = f.ls[j]? then 0 else 1) = kc
     rw [HA.out,HA2.out,if_pos rfl,HKC.out]
     rfl)
    go_wp2_with fail
    refine wp_region_noPanic ?_
    refine wp_region_held_drew (S:=fun Xw=>RowG.Own enc2 TL Xw w.heap.size (.slice (some ⟨gR,0,none⟩) n cR) R∧LocK Xw w.heap.size g1 n c1 f.ls g3 (srcL f)) (by kernel_rfl) (⟨HOR.out.drew,HLOC.out.below (by (repeat' (first | (with_reducible exact Below.refl _ _) | (with_reducible refine Below.setCell ?_ (by (first | omega | (simp; done) | (simp; omega))) _) | (with_reducible refine Below.alloc ?_ (by (first | omega | (simp; done) | (simp; omega))) _) | (with_reducible refine Below.drew ?_) | (with_reducible refine below_drewN ?_ _))))⟩) (fun hHeld=>?_)
    refine wpAnyH_take (i:=0) (oi:=⟨some 66,_,_,_,_,_⟩) (v:=.slice (some ⟨gR,0,none⟩) n cR) rfl (by kernel_rfl) (by kernel_rfl) (by kernel_rfl) (fun _ _ _ h=>h) (Or.inl ⟨by rfl,fun Xw hSW=>by go_simp⟩) hHeld ?_
    simp only [Act.put,List.setIfInBounds_toArray,List.set_cons_zero,List.set_cons_succ]
    refine wpAnyH_take (i:=1) (oi:=⟨some 67,_,_,_,_,_⟩) (v:=.int .i64 (j:Int)) rfl (by kernel_rfl) (by kernel_rfl) (by kernel_rfl) (fun _ _ _ h=>h) (Or.inl ⟨by rfl,fun Xw hSW=>by go_simp⟩) hHeld ?_
    simp only [Act.put,List.setIfInBounds_toArray,List.set_cons_zero,List.set_cons_succ]
    refine wpAnyH_take (i:=2) (oi:=⟨some 68,_,_,_,_,_⟩) (v:=.pointer (some ⟨gR,j * 2,none⟩)) rfl (by kernel_rfl) (by kernel_rfl) (by kernel_rfl) (fun _ _ _ h=>h) (Or.inl ⟨by rfl,fun Xw hSW=>by go_simp⟩) hHeld ?_
    simp only [Act.put,List.setIfInBounds_toArray,List.set_cons_zero,List.set_cons_succ]
    refine wpAnyH_take (i:=3) (oi:=⟨some 69,_,_,_,_,_⟩) (v:=.agg #[.int .u8 a,.int .u8 b]) rfl (by kernel_rfl) (by kernel_rfl) (by kernel_rfl) (fun _ _ _ h=>h) (Or.inl ⟨by rfl,fun Xw hSW=>by have a0:Xw.cell? ⟨gR,j * 2,none⟩ = some (.int .u8 a):=hSW.1.cell (i:=j) (j:=0) HA.out rfl; have a1:Xw.cell? ⟨gR,j * 2 + 1,none⟩ = some (.int .u8 b):=hSW.1.cell (i:=j) (j:=1) HA.out rfl; go_simp⟩) hHeld ?_
    simp only [Act.put,List.setIfInBounds_toArray,List.set_cons_zero,List.set_cons_succ]
    refine wpAnyH_take (i:=4) (oi:=⟨some 70,_,_,_,_,_⟩) (v:=.slice (some ⟨g1,0,none⟩) n c1) rfl (by kernel_rfl) (by kernel_rfl) (by kernel_rfl) (fun _ _ _ h=>h) (Or.inl ⟨by rfl,fun Xw hSW=>by go_simp⟩) hHeld ?_
    simp only [Act.put,List.setIfInBounds_toArray,List.set_cons_zero,List.set_cons_succ]
    refine wpAnyH_take (i:=5) (oi:=⟨some 71,_,_,_,_,_⟩) (v:=.int .i64 (j:Int)) rfl (by kernel_rfl) (by kernel_rfl) (by kernel_rfl) (fun _ _ _ h=>h) (Or.inl ⟨by rfl,fun Xw hSW=>by go_simp⟩) hHeld ?_
    simp only [Act.put,List.setIfInBounds_toArray,List.set_cons_zero,List.set_cons_succ]
    refine wpAnyH_take (i:=6) (oi:=⟨some 72,_,_,_,_,_⟩) (v:=.pointer (some ⟨g1,j * 2,none⟩)) rfl (by kernel_rfl) (by kernel_rfl) (by kernel_rfl) (fun _ _ _ h=>h) (Or.inl ⟨by rfl,fun Xw hSW=>by go_simp⟩) hHeld ?_
    simp only [Act.put,List.setIfInBounds_toArray,List.set_cons_zero,List.set_cons_succ]
    refine wpAnyH_take (i:=7) (oi:=⟨some 73,_,_,_,_,_⟩) (v:=.agg #[.int .u8 a,.int .u8 b]) rfl (by kernel_rfl) (by kernel_rfl) (by kernel_rfl) (fun _ _ _ h=>h) (Or.inl ⟨by rfl,fun Xw hSW=>by have a0:Xw.cell? ⟨g1,j * 2,none⟩ = some (.int .u8 a):=hSW.2.own.cell (i:=j) (j:=0) HA2.out rfl; have a1:Xw.cell? ⟨g1,j * 2 + 1,none⟩ = some (.int .u8 b):=hSW.2.own.cell (i:=j) (j:=1) HA2.out rfl; go_simp⟩) hHeld ?_
    simp only [Act.put,List.setIfInBounds_toArray,List.set_cons_zero,List.set_cons_succ]
    refine wpAnyH_take (i:=8) (oi:=⟨some 74,_,_,_,_,_⟩) (v:=.bool false) rfl (by kernel_rfl) (by kernel_rfl) (by kernel_rfl) (fun _ _ _ h=>h) (Or.inl ⟨by rfl,fun Xw hSW=>by go_simp⟩) hHeld ?_
    simp only [Act.put,List.setIfInBounds_toArray,List.set_cons_zero,List.set_cons_succ]
    refine wpAnyH_done (by kernel_rfl) ?_ _
    refine NoPanic.normal ?_
    clear hHeld
    go_wp2_with fail
    go_roundw
    case rel=>exact ⟨j + 1,by first | rfl | rw [HW1.out] | (congr 1; omega),by first | rw [HCN.out] | rfl,by omega,HBR.out.trans (by (repeat' (first | (with_reducible exact Below.refl _ _) | (with_reducible refine Below.setCell ?_ (by (first | omega | (simp; done) | (simp; omega))) _) | (with_reducible refine Below.alloc ?_ (by (first | omega | (simp; done) | (simp; omega))) _) | (with_reducible refine Below.drew ?_) | (with_reducible refine below_drewN ?_ _))))⟩
    case measure =>
     simp only [intOf]
     omega
   ·have HND:=Lib.hid (show decide (a ≠ a2 ∨ b ≠ b2) = true from decide_eq_true (by omega))
    have HCN:=Lib.hid (show cntD R f.ls (j + 1) = kc + 1 from by
     show cntD R f.ls j + (if R[j]? = f.ls[j]? then 0 else 1) = kc + 1
     rw [HA.out,HA2.out,if_neg (by
      intro e
      injection e with e
      injection e with x y
      exact heq ⟨x,y⟩),HKC.out])
    clear heq
    go_wp2_with fail
    refine wp_region_noPanic ?_
    refine wp_region_held_drew (S:=fun Xw=>RowG.Own enc2 TL Xw w.heap.size (.slice (some ⟨gR,0,none⟩) n cR) R∧LocK Xw w.heap.size g1 n c1 f.ls g3 (srcL f)) (by kernel_rfl) (⟨HOR.out.drew,HLOC.out.below (by (repeat' (first | (with_reducible exact Below.refl _ _) | (with_reducible refine Below.setCell ?_ (by (first | omega | (simp; done) | (simp; omega))) _) | (with_reducible refine Below.alloc ?_ (by (first | omega | (simp; done) | (simp; omega))) _) | (with_reducible refine Below.drew ?_) | (with_reducible refine below_drewN ?_ _))))⟩) (fun hHeld=>?_)
    refine wpAnyH_take (i:=0) (oi:=⟨some 66,_,_,_,_,_⟩) (v:=.slice (some ⟨gR,0,none⟩) n cR) rfl (by kernel_rfl) (by kernel_rfl) (by kernel_rfl) (fun _ _ _ h=>h) (Or.inl ⟨by rfl,fun Xw hSW=>by go_simp⟩) hHeld ?_
    simp only [Act.put,List.setIfInBounds_toArray,List.set_cons_zero,List.set_cons_succ]
    refine wpAnyH_take (i:=1) (oi:=⟨some 67,_,_,_,_,_⟩) (v:=.int .i64 (j:Int)) rfl (by kernel_rfl) (by kernel_rfl) (by kernel_rfl) (fun _ _ _ h=>h) (Or.inl ⟨by rfl,fun Xw hSW=>by go_simp⟩) hHeld ?_
    simp only [Act.put,List.setIfInBounds_toArray,List.set_cons_zero,List.set_cons_succ]
    refine wpAnyH_take (i:=2) (oi:=⟨some 68,_,_,_,_,_⟩) (v:=.pointer (some ⟨gR,j * 2,none⟩)) rfl (by kernel_rfl) (by kernel_rfl) (by kernel_rfl) (fun _ _ _ h=>h) (Or.inl ⟨by rfl,fun Xw hSW=>by go_simp⟩) hHeld ?_
    simp only [Act.put,List.setIfInBounds_toArray,List.set_cons_zero,List.set_cons_succ]
    refine wpAnyH_take (i:=3) (oi:=⟨some 69,_,_,_,_,_⟩) (v:=.agg #[.int .u8 a,.int .u8 b]) rfl (by kernel_rfl) (by kernel_rfl) (by kernel_rfl) (fun _ _ _ h=>h) (Or.inl ⟨by rfl,fun Xw hSW=>by have a0:Xw.cell? ⟨gR,j * 2,none⟩ = some (.int .u8 a):=hSW.1.cell (i:=j) (j:=0) HA.out rfl; have a1:Xw.cell? ⟨gR,j * 2 + 1,none⟩ = some (.int .u8 b):=hSW.1.cell (i:=j) (j:=1) HA.out rfl; go_simp⟩) hHeld ?_
    simp only [Act.put,List.setIfInBounds_toArray,List.set_cons_zero,List.set_cons_succ]
    refine wpAnyH_take (i:=4) (oi:=⟨some 70,_,_,_,_,_⟩) (v:=.slice (some ⟨g1,0,none⟩) n c1) rfl (by kernel_rfl) (by kernel_rfl) (by kernel_rfl) (fun _ _ _ h=>h) (Or.inl ⟨by rfl,fun Xw hSW=>by go_simp⟩) hHeld ?_
    simp only [Act.put,List.setIfInBounds_toArray,List.set_cons_zero,List.set_cons_succ]
    refine wpAnyH_take (i:=5) (oi:=⟨some 71,_,_,_,_,_⟩) (v:=.int .i64 (j:Int)) rfl (by kernel_rfl) (by kernel_rfl) (by kernel_rfl) (fun _ _ _ h=>h) (Or.inl ⟨by rfl,fun Xw hSW=>by go_simp⟩) hHeld ?_
    simp only [Act.put,List.setIfInBounds_toArray,List.set_cons_zero,List.set_cons_succ]
    refine wpAnyH_take (i:=6) (oi:=⟨some 72,_,_,_,_,_⟩) (v:=.pointer (some ⟨g1,j * 2,none⟩)) rfl (by kernel_rfl) (by kernel_rfl) (by kernel_rfl) (fun _ _ _ h=>h) (Or.inl ⟨by rfl,fun Xw hSW=>by go_simp⟩) hHeld ?_
    simp only [Act.put,List.setIfInBounds_toArray,List.set_cons_zero,List.set_cons_succ]
    refine wpAnyH_take (i:=7) (oi:=⟨some 73,_,_,_,_,_⟩) (v:=.agg #[.int .u8 a2,.int .u8 b2]) rfl (by kernel_rfl) (by kernel_rfl) (by kernel_rfl) (fun _ _ _ h=>h) (Or.inl ⟨by rfl,fun Xw hSW=>by have a0:Xw.cell? ⟨g1,j * 2,none⟩ = some (.int .u8 a2):=hSW.2.own.cell (i:=j) (j:=0) HA2.out rfl; have a1:Xw.cell? ⟨g1,j * 2 + 1,none⟩ = some (.int .u8 b2):=hSW.2.own.cell (i:=j) (j:=1) HA2.out rfl; go_simp⟩) hHeld ?_
    simp only [Act.put,List.setIfInBounds_toArray,List.set_cons_zero,List.set_cons_succ]
    refine wpAnyH_take (i:=8) (oi:=⟨some 74,_,_,_,_,_⟩) (v:=.bool true) rfl (by kernel_rfl) (by kernel_rfl) (by kernel_rfl) (fun _ _ _ h=>h) (Or.inl ⟨by rfl,fun Xw hSW=>by have hq:=run_neqL a b a2 b2 Xw; rw [HND.out] at hq; go_simp; intro x y; have q:=of_decide_eq_true HND.out; omega⟩) hHeld ?_
    simp only [Act.put,List.setIfInBounds_toArray,List.set_cons_zero,List.set_cons_succ]
    refine wpAnyH_done (by kernel_rfl) ?_ _
    refine NoPanic.normal ?_
    clear hHeld
    go_wp2_with fail
    go_roundw
    case rel=>exact ⟨j + 1,by first | rfl | rw [HW1.out] | (congr 1; omega),by first | (rw [HCN.out,← HW2.out]; done) | (rw [HCN.out]; rfl),by omega,HBR.out.trans (by (repeat' (first | (with_reducible exact Below.refl _ _) | (with_reducible refine Below.setCell ?_ (by (first | omega | (simp; done) | (simp; omega))) _) | (with_reducible refine Below.alloc ?_ (by (first | omega | (simp; done) | (simp; omega))) _) | (with_reducible refine Below.drew ?_) | (with_reducible refine below_drewN ?_ _))))⟩
    case measure =>
     simp only [intOf]
     omega
  ·have hje:j = n:=by omega
   have hjI:¬ (j:Int) < n:=by omega
   have hkn:kc = nT:=by rw [HCNT.out,← HKC.out,hje]
   subst hkn
   clear HKB HKC
   have k9:wr.cell? ⟨f.F,9,none⟩ = some (.slice AT kc cT):=by
    have q:=HFR.out.blk.cell (i:=9) (v:=f4.vT) rfl
    rwa [HQ4.out.1,HVT.out] at q
   have k10:wr.cell? ⟨f.F,10,none⟩ = some (.int .i64 0):=by
    have q:=HFR.out.blk.cell (i:=10) (v:=i64v f4.other) rfl
    rw [HQ4.out.1,HQ4.out.2.2.2.2.2.1] at q
    exact q
   go_wp2_with fail
   clear k9 k10
   go_at_call 17
   have HSRC:Calls Tryd.prog 17 #[.pointer (some ⟨f.F,0,none⟩)] wr (OwnB wr n (srcL f4)):=by
    have q:=rsources_c HFR.out HC4.out
    rw [HQ4.out.1,HQ4.out.2.2.2.2.2.2.1] at q
    exact q
   refine HSRC.mono ?_
   clear HSRC
   rintro e W9 ⟨g5,rfl,hbl5,hge5,hb9⟩
   have HB9:=Lib.hid (HBR.out.trans (hb9.mono HBR.out.size))
   have HI5:=Lib.hid hbl5
   clear hbl5 hge5 hb9 HBR HFR hjI hje hjn
   have HF9:=Lib.hid (HF8.out.below HB9.out)
   have HOR9:=Lib.hid (HOR8.out.below HB9.out)
   have HLOC9:=Lib.hid (HLOC8.out.below HB9.out)
   have HP9:=Lib.hid (HP8.out.below HB9.out)
   go_wp2_with fail
   go_loopw [14] (fun v14 wr=>∃ j:Nat,v14 = .int .i64 (j:Nat)∧j≤kc∧Below W9.heap.size W9 wr) (fun v _=>kc - (intOf v).toNat)
   case atStart=>exact ⟨0,rfl,by omega,Below.refl _ _⟩
   case round =>
    obtain ⟨m,rfl,hm,hbr⟩:=hrel
    have HBR:=Lib.hid hbr
    have HFR:=Lib.hid (HF9.out.below hbr)
    clear hbr
    have k9:wr.cell? ⟨f.F,9,none⟩ = some (.slice AT kc cT):=by
     have q:=HFR.out.blk.cell (i:=9) (v:=f4.vT) rfl
     rwa [HQ4.out.1,HVT.out] at q
    by_cases hmk:m < kc
    ·have hmI:(m:Int) < kc:=by omega
     obtain ⟨gT,hgT⟩:=HAT.out (by omega)
     subst hgT
     obtain ⟨⟨qx,qy,qz⟩,hq⟩:∃ q,T[m]? = some q:=⟨_,List.getElem?_eq_getElem (by rw [HTL.out]; exact hmk)⟩
     have HQ:=Lib.hid hq
     obtain ⟨hin,htn,hne⟩:=HMEM.out _ (List.mem_of_getElem? hq)
     obtain ⟨t,ht⟩:∃ t,numB f (qx,qy,qz) = t:=⟨_,rfl⟩
     rw [ht] at htn hne
     obtain ⟨⟨a,b⟩,hab⟩:∃ x,R[t]? = some x:=⟨_,List.getElem?_eq_getElem (by rw [HRL.out]; exact htn)⟩
     obtain ⟨⟨a2,b2⟩,hab2⟩:∃ x,f.ls[t]? = some x:=⟨_,List.getElem?_eq_getElem (by rw [HLL.out]; exact htn)⟩
     have HND:=Lib.hid (show decide (a = a2∧b = b2) = false from decide_eq_false (fun e=>hne (by rw [hab,hab2,e.1,e.2])))
     have HA:=Lib.hid hab
     have HA2:=Lib.hid hab2
     have htI:(t:Int) < n:=by omega
     have HWR:=Lib.hid (show wrap64 ((m:Int) + 1) = ((m + 1:Nat):Int) by have:=HTB.out; rw [wr64 (by omega) (by omega)]; omega)
     have HRW:=Lib.hid (show RowG.Own encP TP wr 0 (.slice (some ⟨gT,0,none⟩) kc cT) T from by
      have q:=HFR.out.ts
      rwa [HVT.out,HQ4.out.2.2.2.2.1] at q)
     have r0:wr.cell? ⟨gT,m * 3,none⟩ = some (.int .i64 qx):=HRW.out.cell (j:=0) hq rfl
     have r1:wr.cell? ⟨gT,m * 3 + 1,none⟩ = some (.int .i64 qy):=HRW.out.cell (j:=1) hq rfl
     have r2:wr.cell? ⟨gT,m * 3 + 2,none⟩ = some (.int .i64 qz):=HRW.out.cell (j:=2) hq rfl
     have hidx:Calls Tryd.prog 16 #[.pointer (some ⟨f.F,0,none⟩),.agg #[.int .i64 qx,.int .i64 qy,.int .i64 qz]] wr fun e w'=>e = .returned (.tuple #[.int .i64 (t:Nat),.bool true])∧Below wr.heap.size wr w':=by
      have q:=fidx_c (q:=(qx,qy,qz)) HFR.out HW4.out (in_may HW4.out (by rw [HQ4.out.2.2.2.2.2.2.2.2.2.1.1]; exact hin))
      rw [HQ4.out.1] at q
      unfold idxV at q
      rw [HQ4.out.2.2.2.2.2.2.2.2.2.1.1,HQ4.out.2.2.2.2.2.2.2.2.2.1.2,hin,if_pos rfl,ht] at q
      exact q
     have HIDX:=Lib.hid hidx
     clear hq hin hne hab hab2 ht hidx
     go_wp2_with fail
     clear k9 r0 r1 r2
     go_at_call 16
     refine HIDX.out.mono ?_
     clear HIDX
     rintro e W10 ⟨rfl,hb10⟩
     have HB10:=Lib.hid (HBR.out.trans (hb10.mono HBR.out.size))
     have HF10:=Lib.hid (HF9.out.below HB10.out)
     have HOR10:=Lib.hid (HOR9.out.below HB10.out)
     have HLOC10:=Lib.hid (HLOC9.out.below HB10.out)
     clear hb10
     go_wp2_with fail
     by_cases h0:0 < m
     ·have h0I:(0:Int) < m:=by omega
      obtain ⟨m1,hm1⟩:∃ m1,m = m1 + 1:=⟨m - 1,by omega⟩
      have hm1k:(m1:Int) < kc:=by omega
      have hm1n:m1 < kc:=by omega
      obtain ⟨⟨sx,sy,sz⟩,hs⟩:∃ q,T[m1]? = some q:=⟨_,List.getElem?_eq_getElem (by rw [HTL.out]; omega)⟩
      have HS:=Lib.hid hs
      have HSB:=Lib.hid (wrI (a:=(m:Int) - 1) (c:=(m1:Int)) (by omega) (by omega) (by have:=HTB.out; omega))
      obtain ⟨cv,hcv⟩:∃ cv,PlaceW.cmpOf sx sy sz qx qy qz = cv:=⟨_,rfl⟩
      have HCV:=Lib.hid hcv
      have hcvI:¬ 0≤cv:=by
       have h1:ltP (sx,sy,sz) (qx,qy,qz):=by
        have h2:=List.pairwise_iff_getElem.1 HUP.out m1 m (by rw [HTL.out]; omega) (by rw [HTL.out]; omega) (by omega)
        have e1:T[m1]'(by rw [HTL.out]; omega) = (sx,sy,sz):=Option.some.inj ((List.getElem?_eq_getElem (by rw [HTL.out]; omega)).symm.trans hs)
        have e2:T[m]'(by rw [HTL.out]; omega) = (qx,qy,qz):=Option.some.inj ((List.getElem?_eq_getElem (by rw [HTL.out]; omega)).symm.trans HQ.out)
        rw [e1,e2] at h2
        exact h2
       have h3:PlaceW.cmpOf sx sy sz qx qy qz < 0:=(cf_lt (sx,sy,sz) (qx,qy,qz)).2 h1
       omega
      have HM1:=Lib.hid hm1
      clear hs hcv hm1
      refine wp_region_noPanic ?_
      refine wp_region_held_drew (S:=fun Xw=>FldM Xw f4∧RowG.Own enc2 TL Xw w.heap.size (.slice (some ⟨gR,0,none⟩) n cR) R∧LocK Xw w.heap.size g1 n c1 f.ls g3 (srcL f)) (by kernel_rfl) (⟨HF10.out.below (Below.refl _ _).drew,HOR10.out.drew,HLOC10.out.below (by (repeat' (first | (with_reducible exact Below.refl _ _) | (with_reducible refine Below.setCell ?_ (by (first | omega | (simp; done) | (simp; omega))) _) | (with_reducible refine Below.alloc ?_ (by (first | omega | (simp; done) | (simp; omega))) _) | (with_reducible refine Below.drew ?_) | (with_reducible refine below_drewN ?_ _))))⟩) (fun hHeld=>?_)
      refine wpAnyH_take (i:=0) (oi:=⟨some 119,_,_,_,_,_⟩) (v:=.bool true) rfl (by kernel_rfl) (by kernel_rfl) (by kernel_rfl) (fun _ _ _ h=>h) (Or.inl ⟨by rfl,fun Xw hSW=>by go_simp⟩) hHeld ?_
      simp only [Act.put,List.setIfInBounds_toArray,List.set_cons_zero,List.set_cons_succ]
      refine wpAnyH_take (i:=1) (oi:=⟨some 120,_,_,_,_,_⟩) (v:=.bool false) rfl (by kernel_rfl) (by kernel_rfl) (by kernel_rfl) (fun _ _ _ h=>h) (Or.inl ⟨by rfl,fun Xw hSW=>by go_simp⟩) hHeld ?_
      simp only [Act.put,List.setIfInBounds_toArray,List.set_cons_zero,List.set_cons_succ]
      refine wpAnyH_take (i:=2) (oi:=⟨some 121,_,_,_,_,_⟩) (v:=.bool false) rfl (by kernel_rfl) (by kernel_rfl) (by kernel_rfl) (fun _ _ _ h=>h) (Or.inl ⟨by rfl,fun Xw hSW=>by go_simp⟩) hHeld ?_
      simp only [Act.put,List.setIfInBounds_toArray,List.set_cons_zero,List.set_cons_succ]
      refine wpAnyH_take (i:=3) (oi:=⟨some 122,_,_,_,_,_⟩) (v:=.slice (some ⟨gR,0,none⟩) n cR) rfl (by kernel_rfl) (by kernel_rfl) (by kernel_rfl) (fun _ _ _ h=>h) (Or.inl ⟨by rfl,fun Xw hSW=>by go_simp⟩) hHeld ?_
      simp only [Act.put,List.setIfInBounds_toArray,List.set_cons_zero,List.set_cons_succ]
      refine wpAnyH_take (i:=4) (oi:=⟨some 123,_,_,_,_,_⟩) (v:=.int .i64 (t:Int)) rfl (by kernel_rfl) (by kernel_rfl) (by kernel_rfl) (fun _ _ _ h=>h) (Or.inl ⟨by rfl,fun Xw hSW=>by go_simp⟩) hHeld ?_
      simp only [Act.put,List.setIfInBounds_toArray,List.set_cons_zero,List.set_cons_succ]
      refine wpAnyH_take (i:=5) (oi:=⟨some 124,_,_,_,_,_⟩) (v:=.pointer (some ⟨gR,t * 2,none⟩)) rfl (by kernel_rfl) (by kernel_rfl) (by kernel_rfl) (fun _ _ _ h=>h) (Or.inl ⟨by rfl,fun Xw hSW=>by go_simp⟩) hHeld ?_
      simp only [Act.put,List.setIfInBounds_toArray,List.set_cons_zero,List.set_cons_succ]
      refine wpAnyH_take (i:=6) (oi:=⟨some 125,_,_,_,_,_⟩) (v:=.agg #[.int .u8 a,.int .u8 b]) rfl (by kernel_rfl) (by kernel_rfl) (by kernel_rfl) (fun _ _ _ h=>h) (Or.inl ⟨by rfl,fun Xw hSW=>by have a0:Xw.cell? ⟨gR,t * 2,none⟩ = some (.int .u8 a):=hSW.2.1.cell (i:=t) (j:=0) HA.out rfl; have a1:Xw.cell? ⟨gR,t * 2 + 1,none⟩ = some (.int .u8 b):=hSW.2.1.cell (i:=t) (j:=1) HA.out rfl; go_simp⟩) hHeld ?_
      simp only [Act.put,List.setIfInBounds_toArray,List.set_cons_zero,List.set_cons_succ]
      refine wpAnyH_take (i:=7) (oi:=⟨some 126,_,_,_,_,_⟩) (v:=.slice (some ⟨g1,0,none⟩) n c1) rfl (by kernel_rfl) (by kernel_rfl) (by kernel_rfl) (fun _ _ _ h=>h) (Or.inl ⟨by rfl,fun Xw hSW=>by go_simp⟩) hHeld ?_
      simp only [Act.put,List.setIfInBounds_toArray,List.set_cons_zero,List.set_cons_succ]
      refine wpAnyH_take (i:=8) (oi:=⟨some 127,_,_,_,_,_⟩) (v:=.int .i64 (t:Int)) rfl (by kernel_rfl) (by kernel_rfl) (by kernel_rfl) (fun _ _ _ h=>h) (Or.inl ⟨by rfl,fun Xw hSW=>by go_simp⟩) hHeld ?_
      simp only [Act.put,List.setIfInBounds_toArray,List.set_cons_zero,List.set_cons_succ]
      refine wpAnyH_take (i:=9) (oi:=⟨some 128,_,_,_,_,_⟩) (v:=.pointer (some ⟨g1,t * 2,none⟩)) rfl (by kernel_rfl) (by kernel_rfl) (by kernel_rfl) (fun _ _ _ h=>h) (Or.inl ⟨by rfl,fun Xw hSW=>by go_simp⟩) hHeld ?_
      simp only [Act.put,List.setIfInBounds_toArray,List.set_cons_zero,List.set_cons_succ]
      refine wpAnyH_take (i:=10) (oi:=⟨some 129,_,_,_,_,_⟩) (v:=.agg #[.int .u8 a2,.int .u8 b2]) rfl (by kernel_rfl) (by kernel_rfl) (by kernel_rfl) (fun _ _ _ h=>h) (Or.inl ⟨by rfl,fun Xw hSW=>by have a0:Xw.cell? ⟨g1,t * 2,none⟩ = some (.int .u8 a2):=hSW.2.2.own.cell (i:=t) (j:=0) HA2.out rfl; have a1:Xw.cell? ⟨g1,t * 2 + 1,none⟩ = some (.int .u8 b2):=hSW.2.2.own.cell (i:=t) (j:=1) HA2.out rfl; go_simp⟩) hHeld ?_
      simp only [Act.put,List.setIfInBounds_toArray,List.set_cons_zero,List.set_cons_succ]
      refine wpAnyH_take (i:=11) (oi:=⟨some 130,_,_,_,_,_⟩) (v:=.bool false) rfl (by kernel_rfl) (by kernel_rfl) (by kernel_rfl) (fun _ _ _ h=>h) (Or.inl ⟨by rfl,fun Xw hSW=>by go_simp; intro x y; have q:=of_decide_eq_false HND.out; omega⟩) hHeld ?_
      simp only [Act.put,List.setIfInBounds_toArray,List.set_cons_zero,List.set_cons_succ]
      refine wpAnyH_take (i:=12) (oi:=⟨some 131,_,_,_,_,_⟩) (v:=.bool false) rfl (by kernel_rfl) (by kernel_rfl) (by kernel_rfl) (fun _ _ _ h=>h) (Or.inl ⟨by rfl,fun Xw hSW=>by go_simp⟩) hHeld ?_
      simp only [Act.put,List.setIfInBounds_toArray,List.set_cons_zero,List.set_cons_succ]
      refine wpAnyH_take (i:=13) (oi:=⟨some 132,_,_,_,_,_⟩) (v:=.bool false) rfl (by kernel_rfl) (by kernel_rfl) (by kernel_rfl) (fun _ _ _ h=>h) (Or.inl ⟨by rfl,fun Xw hSW=>by go_simp⟩) hHeld ?_
      simp only [Act.put,List.setIfInBounds_toArray,List.set_cons_zero,List.set_cons_succ]
      refine wpAnyH_take (i:=14) (oi:=⟨some 133,_,_,_,_,_⟩) (v:=.int .i64 (m:Int)) rfl (by kernel_rfl) (by kernel_rfl) (by kernel_rfl) (fun _ _ _ h=>h) (Or.inl ⟨by rfl,fun Xw hSW=>by go_simp⟩) hHeld ?_
      simp only [Act.put,List.setIfInBounds_toArray,List.set_cons_zero,List.set_cons_succ]
      refine wpAnyH_take (i:=15) (oi:=⟨some 134,_,_,_,_,_⟩) (v:=.bool true) rfl (by kernel_rfl) (by kernel_rfl) (by kernel_rfl) (fun _ _ _ h=>h) (Or.inl ⟨by rfl,fun Xw hSW=>by go_simp⟩) hHeld ?_
      simp only [Act.put,List.setIfInBounds_toArray,List.set_cons_zero,List.set_cons_succ]
      refine wpAnyH_take (i:=16) (oi:=⟨some 135,_,_,_,_,_⟩) (v:=.bool true) rfl (by kernel_rfl) (by kernel_rfl) (by kernel_rfl) (fun _ _ _ h=>h) (Or.inl ⟨by rfl,fun Xw hSW=>by go_simp⟩) hHeld ?_
      simp only [Act.put,List.setIfInBounds_toArray,List.set_cons_zero,List.set_cons_succ]
      refine wpAnyH_take (i:=17) (oi:=⟨some 136,_,_,_,_,_⟩) (v:=.pointer (some ⟨f.F,0,none⟩)) rfl (by kernel_rfl) (by kernel_rfl) (by kernel_rfl) (fun _ _ _ h=>h) (Or.inl ⟨by rfl,fun Xw hSW=>by go_simp⟩) hHeld ?_
      simp only [Act.put,List.setIfInBounds_toArray,List.set_cons_zero,List.set_cons_succ]
      refine wpAnyH_take (i:=18) (oi:=⟨some 137,_,_,_,_,_⟩) (v:=.pointer (some ⟨f.F,0,none⟩)) rfl (by kernel_rfl) (by kernel_rfl) (by kernel_rfl) (fun _ _ _ h=>h) (Or.inl ⟨by rfl,fun Xw hSW=>by go_simp⟩) hHeld ?_
      simp only [Act.put,List.setIfInBounds_toArray,List.set_cons_zero,List.set_cons_succ]
      refine wpAnyH_take (i:=19) (oi:=⟨some 138,_,_,_,_,_⟩) (v:=.pointer (some ⟨f.F,9,none⟩)) rfl (by kernel_rfl) (by kernel_rfl) (by kernel_rfl) (fun _ _ _ h=>h) (Or.inl ⟨by rfl,fun Xw hSW=>by go_simp⟩) hHeld ?_
      simp only [Act.put,List.setIfInBounds_toArray,List.set_cons_zero,List.set_cons_succ]
      refine wpAnyH_take (i:=20) (oi:=⟨some 139,_,_,_,_,_⟩) (v:=.slice (some ⟨gT,0,none⟩) kc cT) rfl (by kernel_rfl) (by kernel_rfl) (by kernel_rfl) (fun _ _ _ h=>h) (Or.inl ⟨by rfl,fun Xw hSW=>by have k9:Xw.cell? ⟨f.F,9,none⟩ = some (.slice (some ⟨gT,0,none⟩) kc cT):=by { have q:=hSW.1.blk.cell (i:=9) (v:=f4.vT) rfl; rwa [HQ4.out.1,HVT.out] at q }; go_simp⟩) hHeld ?_
      simp only [Act.put,List.setIfInBounds_toArray,List.set_cons_zero,List.set_cons_succ]
      refine wpAnyH_take (i:=21) (oi:=⟨some 140,_,_,_,_,_⟩) (v:=.int .i64 (m:Int)) rfl (by kernel_rfl) (by kernel_rfl) (by kernel_rfl) (fun _ _ _ h=>h) (Or.inl ⟨by rfl,fun Xw hSW=>by go_simp⟩) hHeld ?_
      simp only [Act.put,List.setIfInBounds_toArray,List.set_cons_zero,List.set_cons_succ]
      refine wpAnyH_take (i:=22) (oi:=⟨some 141,_,_,_,_,_⟩) (v:=.int .i64 (m1:Int)) rfl (by kernel_rfl) (by kernel_rfl) (by kernel_rfl) (fun _ _ _ h=>h) (Or.inl ⟨by rfl,fun Xw hSW=>by go_simp; exact HSB.out⟩) hHeld ?_
      simp only [Act.put,List.setIfInBounds_toArray,List.set_cons_zero,List.set_cons_succ]
      refine wpAnyH_take (i:=23) (oi:=⟨some 142,_,_,_,_,_⟩) (v:=.pointer (some ⟨gT,m1 * 3,none⟩)) rfl (by kernel_rfl) (by kernel_rfl) (by kernel_rfl) (fun _ _ _ h=>h) (Or.inl ⟨by rfl,fun Xw hSW=>by go_simp⟩) hHeld ?_
      simp only [Act.put,List.setIfInBounds_toArray,List.set_cons_zero,List.set_cons_succ]
      refine wpAnyH_take (i:=24) (oi:=⟨some 143,_,_,_,_,_⟩) (v:=.agg #[.int .i64 sx,.int .i64 sy,.int .i64 sz]) rfl (by kernel_rfl) (by kernel_rfl) (by kernel_rfl) (fun _ _ _ h=>h) (Or.inl ⟨by rfl,fun Xw hSW=>by have ho:RowG.Own encP TP Xw 0 (.slice (some ⟨gT,0,none⟩) kc cT) T:=(by { have q:=hSW.1.ts; rwa [HVT.out,HQ4.out.2.2.2.2.1] at q }); have a0:Xw.cell? ⟨gT,m1 * 3,none⟩ = some (.int .i64 sx):=ho.cell (i:=m1) (j:=0) HS.out rfl; have a1:Xw.cell? ⟨gT,m1 * 3 + 1,none⟩ = some (.int .i64 sy):=ho.cell (i:=m1) (j:=1) HS.out rfl; have a2:Xw.cell? ⟨gT,m1 * 3 + 2,none⟩ = some (.int .i64 sz):=ho.cell (i:=m1) (j:=2) HS.out rfl; clear ho; go_simp⟩) hHeld ?_
      simp only [Act.put,List.setIfInBounds_toArray,List.set_cons_zero,List.set_cons_succ]
      refine wpAnyH_take (i:=25) (oi:=⟨some 144,_,_,_,_,_⟩) (v:=.pointer (some ⟨f.F,0,none⟩)) rfl (by kernel_rfl) (by kernel_rfl) (by kernel_rfl) (fun _ _ _ h=>h) (Or.inl ⟨by rfl,fun Xw hSW=>by go_simp⟩) hHeld ?_
      simp only [Act.put,List.setIfInBounds_toArray,List.set_cons_zero,List.set_cons_succ]
      refine wpAnyH_take (i:=26) (oi:=⟨some 145,_,_,_,_,_⟩) (v:=.pointer (some ⟨f.F,0,none⟩)) rfl (by kernel_rfl) (by kernel_rfl) (by kernel_rfl) (fun _ _ _ h=>h) (Or.inl ⟨by rfl,fun Xw hSW=>by go_simp⟩) hHeld ?_
      simp only [Act.put,List.setIfInBounds_toArray,List.set_cons_zero,List.set_cons_succ]
      refine wpAnyH_take (i:=27) (oi:=⟨some 146,_,_,_,_,_⟩) (v:=.pointer (some ⟨f.F,9,none⟩)) rfl (by kernel_rfl) (by kernel_rfl) (by kernel_rfl) (fun _ _ _ h=>h) (Or.inl ⟨by rfl,fun Xw hSW=>by go_simp⟩) hHeld ?_
      simp only [Act.put,List.setIfInBounds_toArray,List.set_cons_zero,List.set_cons_succ]
      refine wpAnyH_take (i:=28) (oi:=⟨some 147,_,_,_,_,_⟩) (v:=.slice (some ⟨gT,0,none⟩) kc cT) rfl (by kernel_rfl) (by kernel_rfl) (by kernel_rfl) (fun _ _ _ h=>h) (Or.inl ⟨by rfl,fun Xw hSW=>by have k9:Xw.cell? ⟨f.F,9,none⟩ = some (.slice (some ⟨gT,0,none⟩) kc cT):=by { have q:=hSW.1.blk.cell (i:=9) (v:=f4.vT) rfl; rwa [HQ4.out.1,HVT.out] at q }; go_simp⟩) hHeld ?_
      simp only [Act.put,List.setIfInBounds_toArray,List.set_cons_zero,List.set_cons_succ]
      refine wpAnyH_take (i:=29) (oi:=⟨some 148,_,_,_,_,_⟩) (v:=.int .i64 (m:Int)) rfl (by kernel_rfl) (by kernel_rfl) (by kernel_rfl) (fun _ _ _ h=>h) (Or.inl ⟨by rfl,fun Xw hSW=>by go_simp⟩) hHeld ?_
      simp only [Act.put,List.setIfInBounds_toArray,List.set_cons_zero,List.set_cons_succ]
      refine wpAnyH_take (i:=30) (oi:=⟨some 149,_,_,_,_,_⟩) (v:=.pointer (some ⟨gT,m * 3,none⟩)) rfl (by kernel_rfl) (by kernel_rfl) (by kernel_rfl) (fun _ _ _ h=>h) (Or.inl ⟨by rfl,fun Xw hSW=>by go_simp⟩) hHeld ?_
      simp only [Act.put,List.setIfInBounds_toArray,List.set_cons_zero,List.set_cons_succ]
      refine wpAnyH_take (i:=31) (oi:=⟨some 150,_,_,_,_,_⟩) (v:=.agg #[.int .i64 qx,.int .i64 qy,.int .i64 qz]) rfl (by kernel_rfl) (by kernel_rfl) (by kernel_rfl) (fun _ _ _ h=>h) (Or.inl ⟨by rfl,fun Xw hSW=>by have ho:RowG.Own encP TP Xw 0 (.slice (some ⟨gT,0,none⟩) kc cT) T:=(by { have q:=hSW.1.ts; rwa [HVT.out,HQ4.out.2.2.2.2.1] at q }); have a0:Xw.cell? ⟨gT,m * 3,none⟩ = some (.int .i64 qx):=ho.cell (i:=m) (j:=0) HQ.out rfl; have a1:Xw.cell? ⟨gT,m * 3 + 1,none⟩ = some (.int .i64 qy):=ho.cell (i:=m) (j:=1) HQ.out rfl; have a2:Xw.cell? ⟨gT,m * 3 + 2,none⟩ = some (.int .i64 qz):=ho.cell (i:=m) (j:=2) HQ.out rfl; clear ho; go_simp⟩) hHeld ?_
      simp only [Act.put,List.setIfInBounds_toArray,List.set_cons_zero,List.set_cons_succ]
      refine wpAnyH_ready (rs:=[32]) (by kernel_rfl) (by simp) ?_
      refine AllReadyH.cons (o:=⟨some 151,_,_,_,_,_⟩) rfl (fun K hK=>?_) AllReadyH.nil
      go_simp
      refine (PlaceW.r_cmp_c HCV.out _).mono ?_
      rintro e W11 ⟨rfl,hb11⟩
      have hB11:Below W10.heap.size W10 W11:=(show Below W10.heap.size W10 W10.drew by (repeat' (first | (with_reducible exact Below.refl _ _) | (with_reducible refine Below.setCell ?_ (by (first | omega | (simp; done) | (simp; omega))) _) | (with_reducible refine Below.alloc ?_ (by (first | omega | (simp; done) | (simp; omega))) _) | (with_reducible refine Below.drew ?_) | (with_reducible refine below_drewN ?_ _)))).trans hb11
      clear hb11
      try go_wp2_with fail
      refine hK.out _ _ (⟨HF10.out.below hB11,HOR10.out.below hB11,HLOC10.out.below hB11⟩) (fun hHeld=>?_)
      clear hK K
      refine wpAnyH_take (i:=33) (oi:=⟨some 152,_,_,_,_,_⟩) (v:=.bool false) rfl (by kernel_rfl) (by kernel_rfl) (by kernel_rfl) (fun _ _ _ h=>h) (Or.inl ⟨by rfl,fun Xw hSW=>by go_simp⟩) hHeld ?_
      simp only [Act.put,List.setIfInBounds_toArray,List.set_cons_zero,List.set_cons_succ]
      refine wpAnyH_take (i:=34) (oi:=⟨some 153,_,_,_,_,_⟩) (v:=.bool false) rfl (by kernel_rfl) (by kernel_rfl) (by kernel_rfl) (fun _ _ _ h=>h) (Or.inl ⟨by rfl,fun Xw hSW=>by go_simp⟩) hHeld ?_
      simp only [Act.put,List.setIfInBounds_toArray,List.set_cons_zero,List.set_cons_succ]
      refine wpAnyH_take (i:=35) (oi:=⟨some 154,_,_,_,_,_⟩) (v:=.bool false) rfl (by kernel_rfl) (by kernel_rfl) (by kernel_rfl) (fun _ _ _ h=>h) (Or.inl ⟨by rfl,fun Xw hSW=>by go_simp⟩) hHeld ?_
      simp only [Act.put,List.setIfInBounds_toArray,List.set_cons_zero,List.set_cons_succ]
      refine wpAnyH_done (by kernel_rfl) ?_ _
      refine NoPanic.normal ?_
      clear hHeld
      go_wp2_with fail
      go_roundw
      case rel=>exact ⟨m + 1,by first | rfl | rw [HWR.out] | (congr 1; omega),by omega,HB10.out.trans (hB11.mono HB10.out.size) |>.trans (by (repeat' (first | (with_reducible exact Below.refl _ _) | (with_reducible refine Below.setCell ?_ (by (first | omega | (simp; done) | (simp; omega))) _) | (with_reducible refine Below.alloc ?_ (by (first | omega | (simp; done) | (simp; omega))) _) | (with_reducible refine Below.drew ?_) | (with_reducible refine below_drewN ?_ _))))⟩
      case measure =>
       simp only [intOf]
       omega
     ·have h0I:¬ (0:Int) < m:=by omega
      refine wp_region_noPanic ?_
      refine wp_region_held_drew (S:=fun Xw=>FldM Xw f4∧RowG.Own enc2 TL Xw w.heap.size (.slice (some ⟨gR,0,none⟩) n cR) R∧LocK Xw w.heap.size g1 n c1 f.ls g3 (srcL f)) (by kernel_rfl) (⟨HF10.out.below (Below.refl _ _).drew,HOR10.out.drew,HLOC10.out.below (by (repeat' (first | (with_reducible exact Below.refl _ _) | (with_reducible refine Below.setCell ?_ (by (first | omega | (simp; done) | (simp; omega))) _) | (with_reducible refine Below.alloc ?_ (by (first | omega | (simp; done) | (simp; omega))) _) | (with_reducible refine Below.drew ?_) | (with_reducible refine below_drewN ?_ _))))⟩) (fun hHeld=>?_)
      refine wpAnyH_take (i:=0) (oi:=⟨some 119,_,_,_,_,_⟩) (v:=.bool true) rfl (by kernel_rfl) (by kernel_rfl) (by kernel_rfl) (fun _ _ _ h=>h) (Or.inl ⟨by rfl,fun Xw hSW=>by go_simp⟩) hHeld ?_
      simp only [Act.put,List.setIfInBounds_toArray,List.set_cons_zero,List.set_cons_succ]
      refine wpAnyH_take (i:=1) (oi:=⟨some 120,_,_,_,_,_⟩) (v:=.bool false) rfl (by kernel_rfl) (by kernel_rfl) (by kernel_rfl) (fun _ _ _ h=>h) (Or.inl ⟨by rfl,fun Xw hSW=>by go_simp⟩) hHeld ?_
      simp only [Act.put,List.setIfInBounds_toArray,List.set_cons_zero,List.set_cons_succ]
      refine wpAnyH_take (i:=2) (oi:=⟨some 121,_,_,_,_,_⟩) (v:=.bool false) rfl (by kernel_rfl) (by kernel_rfl) (by kernel_rfl) (fun _ _ _ h=>h) (Or.inl ⟨by rfl,fun Xw hSW=>by go_simp⟩) hHeld ?_
      simp only [Act.put,List.setIfInBounds_toArray,List.set_cons_zero,List.set_cons_succ]
      refine wpAnyH_take (i:=3) (oi:=⟨some 122,_,_,_,_,_⟩) (v:=.slice (some ⟨gR,0,none⟩) n cR) rfl (by kernel_rfl) (by kernel_rfl) (by kernel_rfl) (fun _ _ _ h=>h) (Or.inl ⟨by rfl,fun Xw hSW=>by go_simp⟩) hHeld ?_
      simp only [Act.put,List.setIfInBounds_toArray,List.set_cons_zero,List.set_cons_succ]
      refine wpAnyH_take (i:=4) (oi:=⟨some 123,_,_,_,_,_⟩) (v:=.int .i64 (t:Int)) rfl (by kernel_rfl) (by kernel_rfl) (by kernel_rfl) (fun _ _ _ h=>h) (Or.inl ⟨by rfl,fun Xw hSW=>by go_simp⟩) hHeld ?_
      simp only [Act.put,List.setIfInBounds_toArray,List.set_cons_zero,List.set_cons_succ]
      refine wpAnyH_take (i:=5) (oi:=⟨some 124,_,_,_,_,_⟩) (v:=.pointer (some ⟨gR,t * 2,none⟩)) rfl (by kernel_rfl) (by kernel_rfl) (by kernel_rfl) (fun _ _ _ h=>h) (Or.inl ⟨by rfl,fun Xw hSW=>by go_simp⟩) hHeld ?_
      simp only [Act.put,List.setIfInBounds_toArray,List.set_cons_zero,List.set_cons_succ]
      refine wpAnyH_take (i:=6) (oi:=⟨some 125,_,_,_,_,_⟩) (v:=.agg #[.int .u8 a,.int .u8 b]) rfl (by kernel_rfl) (by kernel_rfl) (by kernel_rfl) (fun _ _ _ h=>h) (Or.inl ⟨by rfl,fun Xw hSW=>by have a0:Xw.cell? ⟨gR,t * 2,none⟩ = some (.int .u8 a):=hSW.2.1.cell (i:=t) (j:=0) HA.out rfl; have a1:Xw.cell? ⟨gR,t * 2 + 1,none⟩ = some (.int .u8 b):=hSW.2.1.cell (i:=t) (j:=1) HA.out rfl; go_simp⟩) hHeld ?_
      simp only [Act.put,List.setIfInBounds_toArray,List.set_cons_zero,List.set_cons_succ]
      refine wpAnyH_take (i:=7) (oi:=⟨some 126,_,_,_,_,_⟩) (v:=.slice (some ⟨g1,0,none⟩) n c1) rfl (by kernel_rfl) (by kernel_rfl) (by kernel_rfl) (fun _ _ _ h=>h) (Or.inl ⟨by rfl,fun Xw hSW=>by go_simp⟩) hHeld ?_
      simp only [Act.put,List.setIfInBounds_toArray,List.set_cons_zero,List.set_cons_succ]
      refine wpAnyH_take (i:=8) (oi:=⟨some 127,_,_,_,_,_⟩) (v:=.int .i64 (t:Int)) rfl (by kernel_rfl) (by kernel_rfl) (by kernel_rfl) (fun _ _ _ h=>h) (Or.inl ⟨by rfl,fun Xw hSW=>by go_simp⟩) hHeld ?_
      simp only [Act.put,List.setIfInBounds_toArray,List.set_cons_zero,List.set_cons_succ]
      refine wpAnyH_take (i:=9) (oi:=⟨some 128,_,_,_,_,_⟩) (v:=.pointer (some ⟨g1,t * 2,none⟩)) rfl (by kernel_rfl) (by kernel_rfl) (by kernel_rfl) (fun _ _ _ h=>h) (Or.inl ⟨by rfl,fun Xw hSW=>by go_simp⟩) hHeld ?_
      simp only [Act.put,List.setIfInBounds_toArray,List.set_cons_zero,List.set_cons_succ]
      refine wpAnyH_take (i:=10) (oi:=⟨some 129,_,_,_,_,_⟩) (v:=.agg #[.int .u8 a2,.int .u8 b2]) rfl (by kernel_rfl) (by kernel_rfl) (by kernel_rfl) (fun _ _ _ h=>h) (Or.inl ⟨by rfl,fun Xw hSW=>by have a0:Xw.cell? ⟨g1,t * 2,none⟩ = some (.int .u8 a2):=hSW.2.2.own.cell (i:=t) (j:=0) HA2.out rfl; have a1:Xw.cell? ⟨g1,t * 2 + 1,none⟩ = some (.int .u8 b2):=hSW.2.2.own.cell (i:=t) (j:=1) HA2.out rfl; go_simp⟩) hHeld ?_
      simp only [Act.put,List.setIfInBounds_toArray,List.set_cons_zero,List.set_cons_succ]
      refine wpAnyH_take (i:=11) (oi:=⟨some 130,_,_,_,_,_⟩) (v:=.bool false) rfl (by kernel_rfl) (by kernel_rfl) (by kernel_rfl) (fun _ _ _ h=>h) (Or.inl ⟨by rfl,fun Xw hSW=>by go_simp; intro x y; have q:=of_decide_eq_false HND.out; omega⟩) hHeld ?_
      simp only [Act.put,List.setIfInBounds_toArray,List.set_cons_zero,List.set_cons_succ]
      refine wpAnyH_take (i:=12) (oi:=⟨some 131,_,_,_,_,_⟩) (v:=.bool false) rfl (by kernel_rfl) (by kernel_rfl) (by kernel_rfl) (fun _ _ _ h=>h) (Or.inl ⟨by rfl,fun Xw hSW=>by go_simp⟩) hHeld ?_
      simp only [Act.put,List.setIfInBounds_toArray,List.set_cons_zero,List.set_cons_succ]
      refine wpAnyH_take (i:=13) (oi:=⟨some 132,_,_,_,_,_⟩) (v:=.bool false) rfl (by kernel_rfl) (by kernel_rfl) (by kernel_rfl) (fun _ _ _ h=>h) (Or.inl ⟨by rfl,fun Xw hSW=>by go_simp⟩) hHeld ?_
      simp only [Act.put,List.setIfInBounds_toArray,List.set_cons_zero,List.set_cons_succ]
      refine wpAnyH_take (i:=14) (oi:=⟨some 133,_,_,_,_,_⟩) (v:=.int .i64 (m:Int)) rfl (by kernel_rfl) (by kernel_rfl) (by kernel_rfl) (fun _ _ _ h=>h) (Or.inl ⟨by rfl,fun Xw hSW=>by go_simp⟩) hHeld ?_
      simp only [Act.put,List.setIfInBounds_toArray,List.set_cons_zero,List.set_cons_succ]
      refine wpAnyH_take (i:=15) (oi:=⟨some 134,_,_,_,_,_⟩) (v:=.bool false) rfl (by kernel_rfl) (by kernel_rfl) (by kernel_rfl) (fun _ _ _ h=>h) (Or.inl ⟨by rfl,fun Xw hSW=>by go_simp⟩) hHeld ?_
      simp only [Act.put,List.setIfInBounds_toArray,List.set_cons_zero,List.set_cons_succ]
      refine wpAnyH_take (i:=16) (oi:=⟨some 135,_,_,_,_,_⟩) (v:=.bool false) rfl (by kernel_rfl) (by kernel_rfl) (by kernel_rfl) (fun _ _ _ h=>h) (Or.inl ⟨by rfl,fun Xw hSW=>by go_simp⟩) hHeld ?_
      simp only [Act.put,List.setIfInBounds_toArray,List.set_cons_zero,List.set_cons_succ]
      refine wpAnyH_take (i:=17) (oi:=⟨some 136,_,_,_,_,_⟩) (v:=undef) rfl (by kernel_rfl) (by kernel_rfl) (by kernel_rfl) (fun _ _ _ h=>h) (Or.inr ⟨by kernel_rfl,rfl⟩) hHeld ?_
      simp only [Act.put,List.setIfInBounds_toArray,List.set_cons_zero,List.set_cons_succ]
      refine wpAnyH_take (i:=18) (oi:=⟨some 137,_,_,_,_,_⟩) (v:=undef) rfl (by kernel_rfl) (by kernel_rfl) (by kernel_rfl) (fun _ _ _ h=>h) (Or.inr ⟨by kernel_rfl,rfl⟩) hHeld ?_
      simp only [Act.put,List.setIfInBounds_toArray,List.set_cons_zero,List.set_cons_succ]
      refine wpAnyH_take (i:=19) (oi:=⟨some 138,_,_,_,_,_⟩) (v:=undef) rfl (by kernel_rfl) (by kernel_rfl) (by kernel_rfl) (fun _ _ _ h=>h) (Or.inr ⟨by kernel_rfl,rfl⟩) hHeld ?_
      simp only [Act.put,List.setIfInBounds_toArray,List.set_cons_zero,List.set_cons_succ]
      refine wpAnyH_take (i:=20) (oi:=⟨some 139,_,_,_,_,_⟩) (v:=undef) rfl (by kernel_rfl) (by kernel_rfl) (by kernel_rfl) (fun _ _ _ h=>h) (Or.inr ⟨by kernel_rfl,rfl⟩) hHeld ?_
      simp only [Act.put,List.setIfInBounds_toArray,List.set_cons_zero,List.set_cons_succ]
      refine wpAnyH_take (i:=21) (oi:=⟨some 140,_,_,_,_,_⟩) (v:=undef) rfl (by kernel_rfl) (by kernel_rfl) (by kernel_rfl) (fun _ _ _ h=>h) (Or.inr ⟨by kernel_rfl,rfl⟩) hHeld ?_
      simp only [Act.put,List.setIfInBounds_toArray,List.set_cons_zero,List.set_cons_succ]
      refine wpAnyH_take (i:=22) (oi:=⟨some 141,_,_,_,_,_⟩) (v:=undef) rfl (by kernel_rfl) (by kernel_rfl) (by kernel_rfl) (fun _ _ _ h=>h) (Or.inr ⟨by kernel_rfl,rfl⟩) hHeld ?_
      simp only [Act.put,List.setIfInBounds_toArray,List.set_cons_zero,List.set_cons_succ]
      refine wpAnyH_take (i:=23) (oi:=⟨some 142,_,_,_,_,_⟩) (v:=undef) rfl (by kernel_rfl) (by kernel_rfl) (by kernel_rfl) (fun _ _ _ h=>h) (Or.inr ⟨by kernel_rfl,rfl⟩) hHeld ?_
      simp only [Act.put,List.setIfInBounds_toArray,List.set_cons_zero,List.set_cons_succ]
      refine wpAnyH_take (i:=24) (oi:=⟨some 143,_,_,_,_,_⟩) (v:=undef) rfl (by kernel_rfl) (by kernel_rfl) (by kernel_rfl) (fun _ _ _ h=>h) (Or.inr ⟨by kernel_rfl,rfl⟩) hHeld ?_
      simp only [Act.put,List.setIfInBounds_toArray,List.set_cons_zero,List.set_cons_succ]
      refine wpAnyH_take (i:=25) (oi:=⟨some 144,_,_,_,_,_⟩) (v:=undef) rfl (by kernel_rfl) (by kernel_rfl) (by kernel_rfl) (fun _ _ _ h=>h) (Or.inr ⟨by kernel_rfl,rfl⟩) hHeld ?_
      simp only [Act.put,List.setIfInBounds_toArray,List.set_cons_zero,List.set_cons_succ]
      refine wpAnyH_take (i:=26) (oi:=⟨some 145,_,_,_,_,_⟩) (v:=undef) rfl (by kernel_rfl) (by kernel_rfl) (by kernel_rfl) (fun _ _ _ h=>h) (Or.inr ⟨by kernel_rfl,rfl⟩) hHeld ?_
      simp only [Act.put,List.setIfInBounds_toArray,List.set_cons_zero,List.set_cons_succ]
      refine wpAnyH_take (i:=27) (oi:=⟨some 146,_,_,_,_,_⟩) (v:=undef) rfl (by kernel_rfl) (by kernel_rfl) (by kernel_rfl) (fun _ _ _ h=>h) (Or.inr ⟨by kernel_rfl,rfl⟩) hHeld ?_
      simp only [Act.put,List.setIfInBounds_toArray,List.set_cons_zero,List.set_cons_succ]
      refine wpAnyH_take (i:=28) (oi:=⟨some 147,_,_,_,_,_⟩) (v:=undef) rfl (by kernel_rfl) (by kernel_rfl) (by kernel_rfl) (fun _ _ _ h=>h) (Or.inr ⟨by kernel_rfl,rfl⟩) hHeld ?_
      simp only [Act.put,List.setIfInBounds_toArray,List.set_cons_zero,List.set_cons_succ]
      refine wpAnyH_take (i:=29) (oi:=⟨some 148,_,_,_,_,_⟩) (v:=undef) rfl (by kernel_rfl) (by kernel_rfl) (by kernel_rfl) (fun _ _ _ h=>h) (Or.inr ⟨by kernel_rfl,rfl⟩) hHeld ?_
      simp only [Act.put,List.setIfInBounds_toArray,List.set_cons_zero,List.set_cons_succ]
      refine wpAnyH_take (i:=30) (oi:=⟨some 149,_,_,_,_,_⟩) (v:=undef) rfl (by kernel_rfl) (by kernel_rfl) (by kernel_rfl) (fun _ _ _ h=>h) (Or.inr ⟨by kernel_rfl,rfl⟩) hHeld ?_
      simp only [Act.put,List.setIfInBounds_toArray,List.set_cons_zero,List.set_cons_succ]
      refine wpAnyH_take (i:=31) (oi:=⟨some 150,_,_,_,_,_⟩) (v:=undef) rfl (by kernel_rfl) (by kernel_rfl) (by kernel_rfl) (fun _ _ _ h=>h) (Or.inr ⟨by kernel_rfl,rfl⟩) hHeld ?_
      simp only [Act.put,List.setIfInBounds_toArray,List.set_cons_zero,List.set_cons_succ]
      refine wpAnyH_take (i:=32) (oi:=⟨some 151,_,_,_,_,_⟩) (v:=undef) rfl (by kernel_rfl) (by kernel_rfl) (by kernel_rfl) (fun _ _ _ h=>h) (Or.inr ⟨by kernel_rfl,rfl⟩) hHeld ?_
      simp only [Act.put,List.setIfInBounds_toArray,List.set_cons_zero,List.set_cons_succ]
      refine wpAnyH_take (i:=33) (oi:=⟨some 152,_,_,_,_,_⟩) (v:=undef) rfl (by kernel_rfl) (by kernel_rfl) (by kernel_rfl) (fun _ _ _ h=>h) (Or.inr ⟨by kernel_rfl,rfl⟩) hHeld ?_
      simp only [Act.put,List.setIfInBounds_toArray,List.set_cons_zero,List.set_cons_succ]
      refine wpAnyH_take (i:=34) (oi:=⟨some 153,_,_,_,_,_⟩) (v:=.bool false) rfl (by kernel_rfl) (by kernel_rfl) (by kernel_rfl) (fun _ _ _ h=>h) (Or.inl ⟨by rfl,fun Xw hSW=>by go_simp⟩) hHeld ?_
      simp only [Act.put,List.setIfInBounds_toArray,List.set_cons_zero,List.set_cons_succ]
      refine wpAnyH_take (i:=35) (oi:=⟨some 154,_,_,_,_,_⟩) (v:=.bool false) rfl (by kernel_rfl) (by kernel_rfl) (by kernel_rfl) (fun _ _ _ h=>h) (Or.inl ⟨by rfl,fun Xw hSW=>by go_simp⟩) hHeld ?_
      simp only [Act.put,List.setIfInBounds_toArray,List.set_cons_zero,List.set_cons_succ]
      refine wpAnyH_done (by kernel_rfl) ?_ _
      refine NoPanic.normal ?_
      clear hHeld
      go_wp2_with fail
      go_roundw
      case rel=>exact ⟨m + 1,by first | rfl | rw [HWR.out] | (congr 1; omega),by omega,HB10.out.trans (by (repeat' (first | (with_reducible exact Below.refl _ _) | (with_reducible refine Below.setCell ?_ (by (first | omega | (simp; done) | (simp; omega))) _) | (with_reducible refine Below.alloc ?_ (by (first | omega | (simp; done) | (simp; omega))) _) | (with_reducible refine Below.drew ?_) | (with_reducible refine below_drewN ?_ _))))⟩
      case measure =>
       simp only [intOf]
       omega
    ·have hmI:¬ (m:Int) < kc:=by omega
     go_wp2_with fail
     clear k9
     have HBX:=Lib.hid HBR.out
     clear HBR HFR hmI hmk hm
     go_loopw [17] (fun v17 wr=>∃ j:Nat,v17 = .int .i64 (j:Nat)∧j≤nA∧Below W9.heap.size W9 wr) (fun v _=>nA - (intOf v).toNat)
     case atStart=>exact ⟨0,rfl,by omega,HBX.out⟩
     case round =>
      obtain ⟨u,rfl,hu,hbr⟩:=hrel
      have HBR:=Lib.hid hbr
      have HFR:=Lib.hid (HF9.out.below hbr)
      clear hbr
      have k8:wr.cell? ⟨f.F,8,none⟩ = some (.slice AA nA cA):=by
       have q:=HFR.out.blk.cell (i:=8) (v:=f4.vA) rfl
       rwa [HQ4.out.1,HVA.out] at q
      by_cases hun:u < nA
      ·have huI:(u:Int) < nA:=by omega
       obtain ⟨gA,hgA⟩:=HAA.out (by omega)
       subst hgA
       obtain ⟨⟨qx,qy,qz⟩,hq⟩:∃ q,la[u]? = some q:=⟨_,List.getElem?_eq_getElem (by rw [HAL.out]; exact hun)⟩
       have HQ:=Lib.hid hq
       have HNQ:=Lib.hid (HNEAR.out _ (List.mem_of_getElem? hq))
       have HWR:=Lib.hid (show wrap64 ((u:Int) + 1) = ((u + 1:Nat):Int) by have h1:=HLA.out; have h2:=HAL.out; rw [wr64 (by omega) (by omega)]; omega)
       have HRW:=Lib.hid (show RowG.Own encP TP wr 0 (.slice (some ⟨gA,0,none⟩) nA cA) la from by
        have q:=HFR.out.ak
        rwa [HVA.out,HQ4.out.2.2.2.1] at q)
       have HLOC:=Lib.hid (HLOC9.out.below HBR.out)
       have HPR:=Lib.hid (HP9.out.below HBR.out)
       have HIR:=Lib.hid (HI5.out.below HBR.out)
       clear hq
       go_wp2_with fail
       clear k8
       refine wp_region_noPanic ?_
       refine wp_region_held_drew (S:=fun Xw=>FldM Xw f4∧LocK Xw w.heap.size g1 n c1 f.ls g3 (srcL f)∧Blk Xw pb TP [.int .i64 px,.int .i64 py,.int .i64 pz]∧Blk Xw g5 4 ((srcL f4).map Value.bool)) (by kernel_rfl) (⟨HFR.out.below (Below.refl _ _).drew,HLOC.out.below (by (repeat' (first | (with_reducible exact Below.refl _ _) | (with_reducible refine Below.setCell ?_ (by (first | omega | (simp; done) | (simp; omega))) _) | (with_reducible refine Below.alloc ?_ (by (first | omega | (simp; done) | (simp; omega))) _) | (with_reducible refine Below.drew ?_) | (with_reducible refine below_drewN ?_ _)))),HPR.out,HIR.out⟩) (fun hHeld=>?_)
       refine wpAnyH_take (i:=0) (oi:=⟨some 164,_,_,_,_,_⟩) (v:=.pointer (some ⟨f.F,0,none⟩)) rfl (by kernel_rfl) (by kernel_rfl) (by kernel_rfl) (fun _ _ _ h=>h) (Or.inl ⟨by rfl,fun Xw hSW=>by go_simp⟩) hHeld ?_
       simp only [Act.put,List.setIfInBounds_toArray,List.set_cons_zero,List.set_cons_succ]
       refine wpAnyH_take (i:=1) (oi:=⟨some 165,_,_,_,_,_⟩) (v:=.pointer (some ⟨f.F,0,none⟩)) rfl (by kernel_rfl) (by kernel_rfl) (by kernel_rfl) (fun _ _ _ h=>h) (Or.inl ⟨by rfl,fun Xw hSW=>by go_simp⟩) hHeld ?_
       simp only [Act.put,List.setIfInBounds_toArray,List.set_cons_zero,List.set_cons_succ]
       refine wpAnyH_take (i:=2) (oi:=⟨some 166,_,_,_,_,_⟩) (v:=.pointer (some ⟨f.F,0,none⟩)) rfl (by kernel_rfl) (by kernel_rfl) (by kernel_rfl) (fun _ _ _ h=>h) (Or.inl ⟨by rfl,fun Xw hSW=>by go_simp⟩) hHeld ?_
       simp only [Act.put,List.setIfInBounds_toArray,List.set_cons_zero,List.set_cons_succ]
       refine wpAnyH_take (i:=3) (oi:=⟨some 167,_,_,_,_,_⟩) (v:=.pointer (some ⟨f.F,8,none⟩)) rfl (by kernel_rfl) (by kernel_rfl) (by kernel_rfl) (fun _ _ _ h=>h) (Or.inl ⟨by rfl,fun Xw hSW=>by go_simp⟩) hHeld ?_
       simp only [Act.put,List.setIfInBounds_toArray,List.set_cons_zero,List.set_cons_succ]
       refine wpAnyH_take (i:=4) (oi:=⟨some 168,_,_,_,_,_⟩) (v:=.slice (some ⟨gA,0,none⟩) nA cA) rfl (by kernel_rfl) (by kernel_rfl) (by kernel_rfl) (fun _ _ _ h=>h) (Or.inl ⟨by rfl,fun Xw hSW=>by have k8:Xw.cell? ⟨f.F,8,none⟩ = some (.slice (some ⟨gA,0,none⟩) nA cA):=by { have q:=hSW.1.blk.cell (i:=8) (v:=f4.vA) rfl; rwa [HQ4.out.1,HVA.out] at q }; go_simp⟩) hHeld ?_
       simp only [Act.put,List.setIfInBounds_toArray,List.set_cons_zero,List.set_cons_succ]
       refine wpAnyH_take (i:=5) (oi:=⟨some 169,_,_,_,_,_⟩) (v:=.int .i64 (u:Int)) rfl (by kernel_rfl) (by kernel_rfl) (by kernel_rfl) (fun _ _ _ h=>h) (Or.inl ⟨by rfl,fun Xw hSW=>by go_simp⟩) hHeld ?_
       simp only [Act.put,List.setIfInBounds_toArray,List.set_cons_zero,List.set_cons_succ]
       refine wpAnyH_take (i:=6) (oi:=⟨some 170,_,_,_,_,_⟩) (v:=.pointer (some ⟨gA,u * 3,none⟩)) rfl (by kernel_rfl) (by kernel_rfl) (by kernel_rfl) (fun _ _ _ h=>h) (Or.inl ⟨by rfl,fun Xw hSW=>by go_simp⟩) hHeld ?_
       simp only [Act.put,List.setIfInBounds_toArray,List.set_cons_zero,List.set_cons_succ]
       refine wpAnyH_take (i:=7) (oi:=⟨some 171,_,_,_,_,_⟩) (v:=.agg #[.int .i64 qx,.int .i64 qy,.int .i64 qz]) rfl (by kernel_rfl) (by kernel_rfl) (by kernel_rfl) (fun _ _ _ h=>h) (Or.inl ⟨by rfl,fun Xw hSW=>by have ho:RowG.Own encP TP Xw 0 (.slice (some ⟨gA,0,none⟩) nA cA) la:=(by { have q:=hSW.1.ak; rwa [HVA.out,HQ4.out.2.2.2.1] at q }); have a0:Xw.cell? ⟨gA,u * 3,none⟩ = some (.int .i64 qx):=ho.cell (i:=u) (j:=0) HQ.out rfl; have a1:Xw.cell? ⟨gA,u * 3 + 1,none⟩ = some (.int .i64 qy):=ho.cell (i:=u) (j:=1) HQ.out rfl; have a2:Xw.cell? ⟨gA,u * 3 + 2,none⟩ = some (.int .i64 qz):=ho.cell (i:=u) (j:=2) HQ.out rfl; clear ho; go_simp⟩) hHeld ?_
       simp only [Act.put,List.setIfInBounds_toArray,List.set_cons_zero,List.set_cons_succ]
       refine wpAnyH_take (i:=8) (oi:=⟨some 172,_,_,_,_,_⟩) (v:=.agg #[.int .i64 px,.int .i64 py,.int .i64 pz]) rfl (by kernel_rfl) (by kernel_rfl) (by kernel_rfl) (fun _ _ _ h=>h) (Or.inl ⟨by rfl,fun Xw hSW=>by have b0:=hSW.2.2.1.cell (i:=0) rfl; have b1:=hSW.2.2.1.cell (i:=1) rfl; have b2:=hSW.2.2.1.cell (i:=2) rfl; go_simp⟩) hHeld ?_
       simp only [Act.put,List.setIfInBounds_toArray,List.set_cons_zero,List.set_cons_succ]
       refine wpAnyH_take (i:=9) (oi:=⟨some 173,_,_,_,_,_⟩) (v:=.slice (some ⟨g3,0,none⟩) n n) rfl (by kernel_rfl) (by kernel_rfl) (by kernel_rfl) (fun _ _ _ h=>h) (Or.inl ⟨by rfl,fun Xw hSW=>by go_simp⟩) hHeld ?_
       simp only [Act.put,List.setIfInBounds_toArray,List.set_cons_zero,List.set_cons_succ]
       refine wpAnyH_take (i:=10) (oi:=⟨some 174,_,_,_,_,_⟩) (v:=.slice (some ⟨g5,0,none⟩) n n) rfl (by kernel_rfl) (by kernel_rfl) (by kernel_rfl) (fun _ _ _ h=>h) (Or.inl ⟨by rfl,fun Xw hSW=>by go_simp⟩) hHeld ?_
       simp only [Act.put,List.setIfInBounds_toArray,List.set_cons_zero,List.set_cons_succ]
       refine wpAnyH_ready (rs:=[11]) (by kernel_rfl) (by simp) ?_
       refine AllReadyH.cons (o:=⟨some 175,_,_,_,_,_⟩) rfl (fun K hK=>?_) AllReadyH.nil
       go_simp
       have hne:Calls Tryd.prog 20 #[.pointer (some ⟨f.F,0,none⟩),.agg #[.int .i64 qx,.int .i64 qy,.int .i64 qz],.agg #[.int .i64 px,.int .i64 py,.int .i64 pz],.slice (some ⟨g3,0,none⟩) n n,.slice (some ⟨g5,0,none⟩) n n] wr.drew fun e w'=>e = .returned (.bool true)∧Below wr.drew.heap.size wr.drew w':=by
        have q:=rnear_c (f:=f4) (q:=(qx,qy,qz)) (p:=(px,py,pz)) (gw:=g3) (gi:=g5) (n:=n) (wl:=srcL f) (il:=srcL f4) (HFR.out.below (Below.refl _ _).drew) HC4.out HNQ.out.1 HPW.out HQ4.out.2.2.2.2.2.2.1 (HLOC.out.below (Below.refl _ _).drew).src HIR.out.drew (by rw [srcL_len]; exact HN.out) (by rw [srcL_len]; exact HQ4.out.2.2.2.2.2.2.1) (by rw [HQ4.out.2.2.2.2.2.2.2.1,HQ4.out.2.2.2.2.2.2.2.2.1]; exact HNQ.out.2)
        rw [HQ4.out.1] at q
        exact q
       refine hne.mono ?_
       clear hne
       rintro e W12 ⟨rfl,hb12⟩
       have hB12:Below wr.heap.size wr W12:=(show Below wr.heap.size wr wr.drew by (repeat' (first | (with_reducible exact Below.refl _ _) | (with_reducible refine Below.setCell ?_ (by (first | omega | (simp; done) | (simp; omega))) _) | (with_reducible refine Below.alloc ?_ (by (first | omega | (simp; done) | (simp; omega))) _) | (with_reducible refine Below.drew ?_) | (with_reducible refine below_drewN ?_ _)))).trans hb12
       clear hb12
       try go_wp2_with fail
       refine hK.out _ _ (⟨HFR.out.below hB12,HLOC.out.below hB12,HPR.out.below hB12,HIR.out.below hB12⟩) (fun hHeld=>?_)
       clear hK K
       refine wpAnyH_take (i:=12) (oi:=⟨some 176,_,_,_,_,_⟩) (v:=.bool false) rfl (by kernel_rfl) (by kernel_rfl) (by kernel_rfl) (fun _ _ _ h=>h) (Or.inl ⟨by rfl,fun Xw hSW=>by go_simp⟩) hHeld ?_
       simp only [Act.put,List.setIfInBounds_toArray,List.set_cons_zero,List.set_cons_succ]
       refine wpAnyH_done (by kernel_rfl) ?_ _
       refine NoPanic.normal ?_
       clear hHeld
       go_wp2_with fail
       go_roundw
       case rel=>exact ⟨u + 1,by first | rfl | rw [HWR.out] | (congr 1; omega),by omega,HBR.out.trans (hB12.mono HBR.out.size) |>.trans (by (repeat' (first | (with_reducible exact Below.refl _ _) | (with_reducible refine Below.setCell ?_ (by (first | omega | (simp; done) | (simp; omega))) _) | (with_reducible refine Below.alloc ?_ (by (first | omega | (simp; done) | (simp; omega))) _) | (with_reducible refine Below.drew ?_) | (with_reducible refine below_drewN ?_ _))))⟩
       case measure =>
        simp only [intOf]
        omega
      ·have huI:¬ (u:Int) < nA:=by omega
       go_wp2_with fail
       go_ret
       exact ⟨rfl,HB8.out.trans ((HB9.out.trans (HBR.out.mono HB9.out.size)).mono HB8.out.size),f4,HQ4.out.1,HFR.out,HC4.out,HQ4.out.2.2.2.2.2.2.2.2.2.2,HSC4.out⟩
end FloodW
end Go.Proofs.YtpimkdaikoclnaaDoor
namespace Go.Proofs.YtpimkdaikoclnaaDoor
open Go.RowKit
set_option linter.unusedVariables false
set_option linter.unusedSimpArgs false
namespace FloodW
open BlkP RowG GlowW FloodP
abbrev mid (y:Nat):V:=(3,48 + (y:Int),3)
theorem new_iff {f:Fld} (hls:f.ls = rightL f) (i:Nat) (c:Nat × Nat) (q:V):newL (f.put i c) q↔inB f q = true∧(litV (f.put i c) (rightL (f.put i c)) false q ≠ litV f (rightL f) false q ∨ litV (f.put i c) (rightL (f.put i c)) true q ≠ litV f (rightL f) true q):=by
 have hw:∀ b,wasB (f.put i c) b q = litV f (rightL f) b q:=fun b=>by
  rw [← litV_was]
  show litV (f.put i c) f.ls b q = _
  rw [hls,litV_cs (f:=f) (f':=f.put i c) rfl rfl rfl rfl]
 unfold newL
 rw [hw,hw]
 exact Iff.rfl
section
variable {f:Fld}
theorem Ov.sky0 (h:Ov f) (q:V):litV f (rightL f) false q = if inB f q = true∧57≤q.2.1 then 15 else 0:=by
 have h1:=h.full (y:=12) (c:=(0,0)) (by decide) (by decide) (.inr (by decide)) (fun e=>absurd e (by decide)) q
 have e:f.put (49 * 12 + 24) (0,0) = f:=h.self (y:=12) (by decide)
 have h2:=h.clrx (y:=12) (by decide) (0,0) q
 rw [e] at h1 h2
 rw [h1]
 have h3:clr f q = true↔inB f q = true∧57≤q.2.1:=by
  rw [h2]
  constructor
  ·rintro ⟨a,b⟩
   refine ⟨a,?_⟩
   split at b
   ·rename_i e
    rw [e]
    simp only
    omega
   ·exact b
  ·rintro ⟨a,b⟩
   refine ⟨a,?_⟩
   split
   ·decide
   ·exact b
 by_cases hc:clr f q = true
 ·rw [if_pos hc,if_pos (h3.1 hc)]
 ·rw [if_neg hc,if_neg (fun d=>hc (h3.2 d))]
theorem Ov.dark (h:Ov f) {y:Nat} {c:Nat × Nat} (hy:y < 16) (hc8:c.1 < 256∧c.2 < 256) (hc:lampA c = 0) (q:V):litV (f.put (49 * y + 24) c) (rightL (f.put (49 * y + 24) c)) true q = 0:=by
 have e:(fun _=>0) = litV (f.put (49 * y + 24) c) (rightL (f.put (49 * y + 24) c)) true:=right_uniqC (put_c h.c hc8) (fun _=>Nat.zero_le _) (sol_none fun q=>by
  show lmN (f.put (49 * y + 24) c) q = 0
  rw [h.lamp hy]
  split
  ·exact hc
  ·rfl)
 rw [← e]
theorem Ov.lamp0 (h:Ov f) (q:V):litV f (rightL f) true q = 0:=by
 have h1:=h.dark (y:=12) (c:=(0,0)) (by decide) (by decide) (by decide) q
 rwa [show f.put (49 * 12 + 24) (0,0) = f from h.self (y:=12) (by decide)] at h1
theorem Ov.skyT (h:Ov f) {y:Nat} {c:Nat × Nat} (hy:y < 16) (hy9:9≤y) (hc8:c.1 < 256∧c.2 < 256) (hc:openA c = true) (q:V):litV (f.put (49 * y + 24) c) (rightL (f.put (49 * y + 24) c)) false q = litV f (rightL f) false q:=by
 rw [h.full hy hc8 (.inr hc) (fun e=>by omega),h.sky0]
 have h3:clr (f.put (49 * y + 24) c) q = true↔inB f q = true∧57≤q.2.1:=by
  rw [h.clrx hy]
  constructor
  ·rintro ⟨a,b⟩
   refine ⟨a,?_⟩
   split at b
   ·rename_i e
    rw [e]
    simp only
    omega
   ·exact b
  ·rintro ⟨a,b⟩
   refine ⟨a,?_⟩
   split
   ·exact hc
   ·exact b
 by_cases hq:inB f q = true∧57≤q.2.1
 ·rw [if_pos hq,if_pos (h3.2 hq)]
 ·rw [if_neg hq,if_neg (fun d=>hq (h3.1 d))]
theorem Ov.in_mid (h:Ov f) {y:Nat} (hy:y < 16):inB f (mid y) = true:=h.inBx.2 (by simp only; omega)
def six:List V:=[(4,60,3),(2,60,3),(3,60,4),(3,60,2),(3,61,3),(3,59,3)]
theorem six_adj (q:V):q ∈ six↔adj (mid 12) q:=by
 unfold six adj mid
 simp only [List.mem_cons,List.not_mem_nil,or_false,Prod.ext_iff]
 omega
theorem Ov.torch2 (h:Ov f) (q:V):litV (f.put (49 * 12 + 24) (11,2)) (rightL (f.put (49 * 12 + 24) (11,2))) true q = if q = mid 12 then 2 else if q ∈ six then 1 else 0:=by
 have e:(fun q=>if q = mid 12 then 2 else if q ∈ six then 1 else 0) = litV (f.put (49 * 12 + 24) (11,2)) (rightL (f.put (49 * 12 + 24) (11,2))) true:=right_uniqC (put_c h.c (by decide)) (fun q=>by split; omega; split <;> omega) (fun q=>by
  show (if q = mid 12 then 2 else if q ∈ six then 1 else 0) = _
  have hl:nowS (f.put (49 * 12 + 24) (11,2)) true q = if q = mid 12 then 2 else 0:=by
   show lmN (f.put (49 * 12 + 24) (11,2)) q = _
   rw [h.lamp (y:=12) (by decide)]
   rfl
  have hmid:mid 12 ∉ six:=fun hm=>by
   have:=(six_adj _).1 hm
   unfold adj at this
   omega
  rw [hl]
  by_cases hq:q = mid 12
  ·have hin:inV sidesV (fun q=>if q = mid 12 then 2 else if q ∈ six then 1 else 0) q≤1:=inV_le.2 fun s _=>by split; omega; split <;> omega
   rw [if_pos hq,if_pos ((h.clrx (y:=12) (by decide) (11,2) q).2 ⟨by rw [hq]; exact h.in_mid (y:=12) (by decide),by rw [if_pos hq]; decide⟩),if_pos hq]
   omega
  ·rw [if_neg hq,if_neg hq]
   by_cases h6:q ∈ six
   ·have hadj:=(six_adj q).1 h6
    have hb:inB f q = true:=h.inBx.2 (by unfold adj mid at hadj; simp only at hadj; omega)
    have hp:mayP q:=in_may (h.c.w) hb
    have hpm:mayP (mid 12):=in_may (h.c.w) (h.in_mid (y:=12) (by decide))
    have hin1:inV sidesV (fun q=>if q = mid 12 then 2 else if q ∈ six then 1 else 0) q≤1:=inV_le.2 fun s _=>by split; omega; split <;> omega
    have hin2:=inV_ge (L:=fun q=>if q = mid 12 then 2 else if q ∈ six then 1 else 0) (mem_sidesV.2 ⟨hp,hpm,adj_sym hadj⟩:mid 12 ∈ sidesV q)
    simp only [if_true] at hin2
    rw [if_pos h6,if_pos ((h.clrx (y:=12) (by decide) (11,2) q).2 ⟨hb,by
     rw [if_neg hq]
     unfold adj mid at hadj
     simp only at hadj
     omega⟩)]
    omega
   ·rw [if_neg h6]
    have hin:inV sidesV (fun q=>if q = mid 12 then 2 else if q ∈ six then 1 else 0) q≤0:=inV_le.2 fun s hs=>by
     have hne:s ≠ mid 12:=fun e=>h6 ((six_adj q).2 (by
      have:=(mem_sidesV.1 hs).2.2
      rw [e] at this
      exact adj_sym this))
     rw [if_neg hne]
     split <;> omega
    split <;> omega)
 rw [← e]
theorem Ov.stone (h:Ov f) {y:Nat} (hy:y < 16) (hy9:9≤y) (q:V):litV (f.put (49 * y + 24) (2,0)) (rightL (f.put (49 * y + 24) (2,0))) false q = if clr (f.put (49 * y + 24) (2,0)) q = true then (if q.1 = 3∧q.2.2 = 3∧q.2.1 < 48 + (y:Int) then 14 else 15) else 0:=by
 have e:(fun q:V=>if clr (f.put (49 * y + 24) (2,0)) q = true then (if q.1 = 3∧q.2.2 = 3∧q.2.1 < 48 + (y:Int) then 14 else 15) else 0) = litV (f.put (49 * y + 24) (2,0)) (rightL (f.put (49 * y + 24) (2,0))) false:=right_uniqC (put_c h.c (by decide)) (fun q=>by split; split <;> omega; omega) (fun q=>by
  show (if clr (f.put (49 * y + 24) (2,0)) q = true then (if q.1 = 3∧q.2.2 = 3∧q.2.1 < 48 + (y:Int) then 14 else 15) else 0) = _
  have hin:inV sidesV (fun q:V=>if clr (f.put (49 * y + 24) (2,0)) q = true then (if q.1 = 3∧q.2.2 = 3∧q.2.1 < 48 + (y:Int) then 14 else 15) else 0) q≤14:=inV_le.2 fun s _=>by split; split <;> omega; omega
  by_cases hc:clr (f.put (49 * y + 24) (2,0)) q = true
  ·rw [if_pos hc,if_pos hc]
   have hb:=(h.clrx hy (2,0) q).1 hc
   have hbi:=h.inBx.1 hb.1
   have hne:q ≠ mid y:=fun e=>by
    have:=hb.2
    rw [if_pos e] at this
    exact absurd this (by decide)
   have h57:57≤q.2.1:=by
    have:=hb.2
    rwa [if_neg hne] at this
   by_cases hcol:q.1 = 3∧q.2.2 = 3∧q.2.1 < 48 + (y:Int)
   ·rw [if_pos hcol]
    have hs0:nowS (f.put (49 * y + 24) (2,0)) false q = 0:=by
     show skyS (clr (f.put (49 * y + 24) (2,0))) q = 0
     refine skyS_zero (k:=(48 + (y:Int) - q.2.1).toNat) (by omega) (by omega) ?_
     have eu:upV q (48 + (y:Int) - q.2.1).toNat = mid y:=Prod.ext hcol.1 (Prod.ext (by simp only [upV]; omega) hcol.2.1)
     rw [eu]
     cases hm:clr (f.put (49 * y + 24) (2,0)) (mid y) with
     | false=>rfl
     | true =>
      have:=((h.clrx hy (2,0) (mid y)).1 hm).2
      rw [if_pos rfl] at this
      exact absurd this (by decide)
    have hsb:inB f (2,q.2.1,3) = true:=h.inBx.2 (by simp only; omega)
    have hsc:clr (f.put (49 * y + 24) (2,0)) (2,q.2.1,3) = true:=(h.clrx hy (2,0) _).2 ⟨hsb,by
     rw [if_neg (fun e=>by
      have:(2:Int) = 3:=congrArg (fun p:V=>p.1) e
      omega)]
     exact h57⟩
    have hside:(2,q.2.1,3) ∈ sidesV q:=mem_sidesV.2 ⟨in_may h.c.w hb.1,in_may h.c.w hsb,.inl ⟨.inr (by simp only; omega),rfl,by simp only; omega⟩⟩
    have hge:=inV_ge (L:=fun q:V=>if clr (f.put (49 * y + 24) (2,0)) q = true then (if q.1 = 3∧q.2.2 = 3∧q.2.1 < 48 + (y:Int) then 14 else 15) else 0) hside
    simp only at hge
    rw [if_pos hsc,if_neg (by omega)] at hge
    rw [hs0]
    omega
   ·rw [if_neg hcol]
    have hs15:nowS (f.put (49 * y + 24) (2,0)) false q = 15:=by
     show skyS (clr (f.put (49 * y + 24) (2,0))) q = 15
     refine (skyS_iff (by omega)).2 ⟨hc,fun k hk=>(h.clrx hy (2,0) _).2 ⟨h.inBx.2 (by simp only [upV]; omega),?_⟩⟩
     rw [if_neg (fun e=>by
      have e1:q.1 = 3:=congrArg (fun p:V=>p.1) e
      have e2:q.2.1 + (k:Int) = 48 + (y:Int):=congrArg (fun p:V=>p.2.1) e
      have e3:q.2.2 = 3:=congrArg (fun p:V=>p.2.2) e
      by_cases k0:k = 0
      ·exact hne (Prod.ext e1 (Prod.ext (by simp only; omega) e3))
      ·exact hcol ⟨e1,e3,by omega⟩)]
     simp only [upV]
     omega
    rw [hs15]
    omega
  ·rw [if_neg hc,if_neg hc])
 rw [← e]
variable {T:List V}
theorem Ov.n_torch2 (h:Ov f) (hls:f.ls = rightL f) (hd:T.Nodup) (hT:∀ q,q ∈ T↔newL (f.put (49 * 12 + 24) (11,2)) q):T.length = 7:=by
 refine cntL (E:=mid 12 :: six) hd (by decide) (fun q=>?_)
 rw [hT,new_iff hls,h.skyT (y:=12) (by decide) (by decide) (by decide) (by decide),h.torch2,h.lamp0]
 constructor
 ·rintro ⟨_,h1 | h1⟩
  ·exact absurd rfl h1
  ·split at h1
   ·rename_i e
    rw [e]
    exact List.mem_cons_self
   ·split at h1
    ·rename_i h6
     exact List.mem_cons_of_mem _ h6
    ·exact absurd rfl h1
 ·intro hq
  have hb:inB f q = true:=by
   rcases List.mem_cons.1 hq with e | h6
   ·rw [e]
    exact h.in_mid (y:=12) (by decide)
   ·have hadj:=(six_adj q).1 h6
    exact h.inBx.2 (by unfold adj mid at hadj; simp only at hadj; omega)
  refine ⟨hb,.inr ?_⟩
  rcases List.mem_cons.1 hq with e | h6
  ·rw [if_pos e]
   decide
  ·split
   ·decide
   ·decide
theorem Ov.n_stone (h:Ov f) (hls:f.ls = rightL f) {y:Nat} (hy:y < 16) (hy9:9≤y) (hd:T.Nodup) (hT:∀ q,q ∈ T↔newL (f.put (49 * y + 24) (2,0)) q):T.length = y - 8:=by
 have hE:((List.range (y - 8)).map fun k:Nat=>((3,57 + (k:Int),3):V)).length = y - 8:=by simp
 rw [← hE]
 refine cntL hd (List.pairwise_map.2 (List.nodup_range.imp fun {a b} hne e=>hne (by
  have:(57:Int) + (a:Int) = 57 + (b:Int):=congrArg (fun p:V=>p.2.1) e
  omega))) (fun q=>?_)
 ·rw [hT,new_iff hls,h.stone hy hy9,h.sky0,h.dark hy (by decide) (by decide),h.lamp0]
  have hcl:=h.clrx hy (2,0) q
  constructor
  ·rintro ⟨hb,h1 | h1⟩
   ·have hbi:=h.inBx.1 hb
    rw [List.mem_map]
    by_cases hm:q = mid y
    ·exact ⟨y - 9,List.mem_range.2 (by omega),by rw [hm]; exact Prod.ext rfl (Prod.ext (by simp only; omega) rfl)⟩
    ·rw [if_neg hm] at hcl
     by_cases h57:57≤q.2.1
     ·by_cases hcol:q.1 = 3∧q.2.2 = 3∧q.2.1 < 48 + (y:Int)
      ·exact ⟨(q.2.1 - 57).toNat,List.mem_range.2 (by omega),Prod.ext hcol.1.symm (Prod.ext (by simp only; omega) hcol.2.1.symm)⟩
      ·rw [if_pos (hcl.2 ⟨hb,h57⟩),if_neg hcol,if_pos ⟨hb,h57⟩] at h1
       exact absurd rfl h1
     ·rw [if_neg (fun d=>h57 (hcl.1 d).2),if_neg (fun d=>h57 d.2)] at h1
      exact absurd rfl h1
   ·exact absurd rfl h1
  ·intro hq
   obtain ⟨k,hk,e⟩:=List.mem_map.1 hq
   have hk:=List.mem_range.1 hk
   subst e
   have hb:inB f (3,57 + (k:Int),3) = true:=h.inBx.2 (by simp only; omega)
   refine ⟨hb,.inl ?_⟩
   rw [if_pos (show inB f (3,57 + (k:Int),3) = true∧57≤((3,57 + (k:Int),3):V).2.1 from ⟨hb,by simp only; omega⟩)]
   split
   ·rename_i hc
    have h2:=(hcl.1 hc).2
    have hne:¬ ((3,57 + (k:Int),3):V) = mid y:=fun e=>by
     rw [if_pos e] at h2
     exact absurd h2 (by decide)
    rw [if_pos ⟨rfl,rfl,by
     simp only
     apply Classical.byContradiction
     intro hn
     exact hne (Prod.ext rfl (Prod.ext (by simp only; omega) rfl))⟩]
    decide
   ·decide
end
end FloodW
end Go.Proofs.YtpimkdaikoclnaaDoor
namespace Go.Proofs.YtpimkdaikoclnaaDoor
open Go.RowKit
set_option linter.unusedVariables false
set_option linter.unusedSimpArgs false
namespace FloodW
open BlkP RowG GlowW FloodP
theorem col_at {g:Fld} {j a b:Nat} (hj:j < 16) (ha:litV g (rightL g) false (mid j) = a) (hb:litV g (rightL g) true (mid j) = b):(colL g)[j]? = some (a,b):=by
 unfold colL
 rw [List.getElem?_map,List.getElem?_range hj,← ha,← hb]
 rfl
section
variable {f:Fld}
theorem Ov.c_torch2 (h:Ov f):(colL (f.put (49 * 12 + 24) (11,2)))[12]? = some (15,2)∧(colL (f.put (49 * 12 + 24) (11,2)))[13]? = some (15,1):=by
 refine ⟨col_at (by decide) ?_ ?_,col_at (by decide) ?_ ?_⟩
 ·rw [h.skyT (y:=12) (by decide) (by decide) (by decide) (by decide),h.sky0,if_pos ⟨h.in_mid (y:=12) (by decide),by decide⟩]
 ·rw [h.torch2,if_pos rfl]
 ·rw [h.skyT (y:=12) (by decide) (by decide) (by decide) (by decide),h.sky0,if_pos ⟨h.in_mid (y:=13) (by decide),by decide⟩]
 ·rw [h.torch2,if_neg (by decide),if_pos (by decide)]
theorem Ov.c_stone (h:Ov f):(colL (f.put (49 * 12 + 24) (2,0)))[12]? = some (0,0)∧(colL (f.put (49 * 12 + 24) (2,0)))[11]? = some (14,0)∧(colL (f.put (49 * 12 + 24) (2,0)))[9]? = some (14,0):=by
 have hd:∀ q,litV (f.put (49 * 12 + 24) (2,0)) (rightL (f.put (49 * 12 + 24) (2,0))) true q = 0:=h.dark (y:=12) (by decide) (by decide) (by decide)
 refine ⟨col_at (by decide) ?_ (hd _),col_at (by decide) ?_ (hd _),col_at (by decide) ?_ (hd _)⟩
 ·rw [h.stone (y:=12) (by decide) (by decide),if_neg (fun hc=>by
   have:=((h.clrx (y:=12) (by decide) (2,0) (mid 12)).1 hc).2
   rw [if_pos rfl] at this
   exact absurd this (by decide))]
 ·rw [h.stone (y:=12) (by decide) (by decide),if_pos ((h.clrx (y:=12) (by decide) (2,0) (mid 11)).2 ⟨h.in_mid (y:=11) (by decide),by rw [if_neg (by decide)]; decide⟩),if_pos ⟨rfl,rfl,by decide⟩]
 ·rw [h.stone (y:=12) (by decide) (by decide),if_pos ((h.clrx (y:=12) (by decide) (2,0) (mid 9)).2 ⟨h.in_mid (y:=9) (by decide),by rw [if_neg (by decide)]; decide⟩),if_pos ⟨rfl,rfl,by decide⟩]
end
theorem over_at {w:World} {y k l:Nat} {e:Ending} {w':World} (h:OverP w y (k,l) e w'):∃ (f:Fld) (T:List V) (g c:Nat),e = .returned (.tuple #[.int .i64 (T.length:Nat),.slice (some ⟨g,0,none⟩) 16 c])∧Ov f∧f.ls = rightL f∧T.Nodup∧(∀ q:V,q ∈ T↔newL (f.put (49 * y + 24) (k,l)) q)∧RowG.Own enc2 TL w' w.heap.size (.slice (some ⟨g,0,none⟩) 16 c) (colL (f.put (49 * y + 24) (k,l)))∧Below w.heap.size w w':=by
 obtain ⟨f,T,v,h1,h2,h3,h4,h5,h6,h7⟩:=h
 obtain ⟨A,c,rfl,_,_,hA⟩:=h6.form (n:=16) (by simp [colL])
 obtain ⟨g,rfl,_,_⟩:=hA (by omega)
 exact ⟨f,T,g,c,h1,h2,h3,h4,h5,h6,h7⟩
set_option maxRecDepth 100000 in
set_option maxHeartbeats 16000000 in
theorem awake_c {w:World} (hT:KindW.Tab w):Calls Tryd.prog 6 #[] w fun e w'=>e = .returned (.bool true)∧Below w.heap.size w w':=by
 have HT:=Lib.hid hT
 clear hT
 go_enter Tryd.func6,Tryd.ntmps6
 go_wp2_with fail
 go_at_call 9
 refine (over_c (w:=w) (y:=12) (k:=11) (l:=2) HT.out (by decide) (by decide)).mono ?_
 intro e w1 ho1
 obtain ⟨f1,T1,g1,c1,rfl,hv1,hl1,hd1,hm1,hr1,hb1⟩:=over_at ho1
 have hn1:=hv1.n_torch2 hl1 hd1 hm1
 rw [hn1]
 have HV1:=Lib.hid hv1
 have HR1:=Lib.hid hr1
 have HB1:=Lib.hid hb1
 clear ho1 hv1 hl1 hd1 hm1 hr1 hb1 hn1
 go_wp2_with fail
 go_at_call 9
 refine (over_c (w:=w1) (y:=12) (k:=2) (l:=0) (HT.out.below HB1.out) (by decide) (by decide)).mono ?_
 intro e w2 ho2
 obtain ⟨f2,T2,g2,c2,rfl,hv2,hl2,hd2,hm2,hr2,hb2⟩:=over_at ho2
 have hn2:=hv2.n_stone hl2 (y:=12) (by decide) (by decide) hd2 hm2
 rw [hn2]
 have hr1:=HR1.out.below hb2
 have a0:w2.cell? ⟨g1,24,none⟩ = some (.int .u8 15):=hr1.cell (i:=12) (j:=0) HV1.out.c_torch2.1 rfl
 have a1:w2.cell? ⟨g1,25,none⟩ = some (.int .u8 2):=hr1.cell (i:=12) (j:=1) HV1.out.c_torch2.1 rfl
 have a2:w2.cell? ⟨g1,26,none⟩ = some (.int .u8 15):=hr1.cell (i:=13) (j:=0) HV1.out.c_torch2.2 rfl
 have a3:w2.cell? ⟨g1,27,none⟩ = some (.int .u8 1):=hr1.cell (i:=13) (j:=1) HV1.out.c_torch2.2 rfl
 have d0:w2.cell? ⟨g2,24,none⟩ = some (.int .u8 0):=hr2.cell (i:=12) (j:=0) hv2.c_stone.1 rfl
 have d1:w2.cell? ⟨g2,25,none⟩ = some (.int .u8 0):=hr2.cell (i:=12) (j:=1) hv2.c_stone.1 rfl
 have d2:w2.cell? ⟨g2,22,none⟩ = some (.int .u8 14):=hr2.cell (i:=11) (j:=0) hv2.c_stone.2.1 rfl
 have d3:w2.cell? ⟨g2,23,none⟩ = some (.int .u8 0):=hr2.cell (i:=11) (j:=1) hv2.c_stone.2.1 rfl
 have d4:w2.cell? ⟨g2,18,none⟩ = some (.int .u8 14):=hr2.cell (i:=9) (j:=0) hv2.c_stone.2.2 rfl
 have d5:w2.cell? ⟨g2,19,none⟩ = some (.int .u8 0):=hr2.cell (i:=9) (j:=1) hv2.c_stone.2.2 rfl
 have HB2:=Lib.hid (HB1.out.trans (hb2.mono HB1.out.size))
 clear ho2 hv2 hl2 hd2 hm2 hr2 hb2 hn2 hr1
 go_wp2_with fail
 go_ret
 exact ⟨rfl,HB2.out⟩
end FloodW
end Go.Proofs.YtpimkdaikoclnaaDoor
namespace Go.Proofs.YtpimkdaikoclnaaDoor
open Go.RowKit
set_option linter.unusedVariables false
set_option linter.unusedSimpArgs false
namespace FloodW
open BlkP RowG GlowW FloodP
def encE:Enc (Int × Nat × Nat):=⟨fun e=>[.int .i64 e.1,.int .u8 e.2.1,.int .u8 e.2.2],3,fun _=>rfl,fun x v h=>by
 simp only [List.mem_cons,List.not_mem_nil,or_false] at h
 rcases h with rfl | rfl | rfl <;> rfl⟩
theorem mk_stk {w:World} {x y z:Int} {p:V} {cl:List (Nat × Nat)} {f:Fld} {w':World} (h:Mk w x y z p cl f w'):StK w f.F w' :=
 ⟨h.bel,f,rfl,h.fld,h.fc,h.ls,fun k hk=>by
  rcases hk with (e | e | e | e) | e
  ·exact h.new k (.inl e)
  ·rw [h.nil.1] at e
   cases e
  ·rw [h.nil.2] at e
   cases e
  ·exact h.new k (.inr (.inr e))
  ·exact h.new k (.inr (.inl e))⟩
set_option maxRecDepth 100000 in
set_option maxHeartbeats 16000000 in
theorem law_keeps {w:World} (hT:KindW.Tab w) {p:V} {x y z:Int} {A:Option Addr} {m c:Nat} {cl:List (Nat × Nat)} (hR:Rd enc2 w (.slice A m c) cl) (hm:cl.length = m) (hc8:∀ c ∈ cl,c.1 < 256∧c.2 < 256)
  {A2:Option Addr} {n2 c2:Nat} {el:List (Int × Nat × Nat)} (hE:Rd encE w (.slice A2 n2 c2) el) (hn:el.length = n2) (he8:∀ e ∈ el,e.2.1 < 256∧e.2.2 < 256) :
  Calls Tryd.prog 3 #[.agg #[.int .i64 p.1,.int .i64 p.2.1,.int .i64 p.2.2,.int .i64 x,.int .i64 y,.int .i64 z,.slice A m c],.slice A2 n2 c2] w fun e w'=>e = .returned (.bool true)∧Below w.heap.size w w':=by
 have HT:=Lib.hid hT
 have HR:=Lib.hid hR
 have HM:=Lib.hid hm
 have HC8:=Lib.hid hc8
 have HE:=Lib.hid hE
 have HN:=Lib.hid hn
 have HE8:=Lib.hid he8
 clear hT hR hm hc8 hE hn he8
 by_cases hbig:40 < n2
 ·have hbI:(40:Int) < (n2:Int):=by omega
  go_enter Tryd.func3,Tryd.ntmps3
  go_wp2_with fail
  go_at_call 6
  refine calls_named (S:=fun W=>Below w.heap.size w W) (by (repeat' (first | (with_reducible exact Below.refl _ _) | (with_reducible refine Below.setCell ?_ (by (first | omega | (simp; done) | (simp; omega))) _) | (with_reducible refine Below.alloc ?_ (by (first | omega | (simp; done) | (simp; omega))) _) | (with_reducible refine Below.drew ?_) | (with_reducible refine below_drewN ?_ _)))) ?_
  rintro W1 hb1
  refine (awake_c (HT.out.below hb1)).mono ?_
  rintro e W2 ⟨rfl,hb2⟩
  have HB2:=Lib.hid (hb1.trans (hb2.mono hb1.size))
  clear hb1 hb2
  go_wp2_with fail
  go_ret
  exact ⟨rfl,HB2.out⟩
 ·have hbI:¬ (40:Int) < (n2:Int):=by omega
  have HBG:=Lib.hid (show n2≤40 by omega)
  clear hbig
  go_enter Tryd.func3,Tryd.ntmps3
  go_wp2_with fail
  clear hbI
  go_at_call 7
  refine calls_named (S:=fun W=>Below w.heap.size w W) (by (repeat' (first | (with_reducible exact Below.refl _ _) | (with_reducible refine Below.setCell ?_ (by (first | omega | (simp; done) | (simp; omega))) _) | (with_reducible refine Below.alloc ?_ (by (first | omega | (simp; done) | (simp; omega))) _) | (with_reducible refine Below.drew ?_) | (with_reducible refine below_drewN ?_ _)))) ?_
  rintro W1 hb1
  refine (lmade_c (HR.out.below hb1) HM.out HC8.out).mono ?_
  rintro e W2 ⟨f,rfl,hmk⟩
  obtain ⟨hbk,f',hF,hs⟩:=mk_stk hmk
  have hst:StK w f.F W2:=⟨hb1.trans (hbk.mono hb1.size),f',hF,hs.1,hs.2.1,hs.2.2.1,fun k hk=>Nat.le_trans hb1.size (hs.2.2.2 k hk)⟩
  obtain ⟨F,hFe⟩:∃ F,f.F = F:=⟨_,rfl⟩
  rw [hFe] at hst ⊢
  have HST:=Lib.hid hst
  clear hbk hF hs hst hb1 hmk hFe
  go_wp2_with fail
  go_loopw [6] (fun v wr=>∃ j:Nat,v = .int .i64 (j:Nat)∧j≤n2∧StK w F wr) (fun v _=>n2 - (intOf v).toNat)
  case atStart=>exact ⟨0,rfl,by omega,HST.out⟩
  case round =>
   obtain ⟨j,rfl,hj,hst2⟩:=hrel
   have hn40:=HBG.out
   have HS2:=Lib.hid hst2
   clear hst2
   by_cases hjn:j < n2
   ·have hjI:(j:Int) < n2:=by omega
    obtain ⟨⟨ea,k,l⟩,he⟩:∃ e,el[j]? = some e:=⟨_,List.getElem?_eq_getElem (by rw [HN.out]; exact hjn)⟩
    have hkl:=HE8.out _ (List.mem_of_getElem? he)
    have HKL:=Lib.hid (show k < 256∧l < 256 from hkl)
    obtain ⟨hbw,f2,hF2,hf2,hc2,hl2,ha2⟩:=HS2.out
    obtain ⟨b,o,rfl,hbl,hcs⟩:=(HE.out.below hbw).at he
    have r0:wr.cell? ⟨b,o + j * 3,none⟩ = some (.int .i64 ea):=hcs 0 _ rfl
    have r1:wr.cell? ⟨b,o + j * 3 + 1,none⟩ = some (.int .u8 (k:Int)):=hcs 1 _ rfl
    have r2:wr.cell? ⟨b,o + j * 3 + 2,none⟩ = some (.int .u8 (l:Int)):=hcs 2 _ rfl
    have hkp:Calls Tryd.prog 8 #[.pointer (some ⟨F,0,none⟩),.agg #[.int .i64 ea,.int .u8 k,.int .u8 l]] wr fun e w'=>e = .returned (.bool true)∧StK w F w':=by
     have q:=kept_c (ea:=ea) HT.out hbw hf2 hc2 hl2 ha2 HKL.out
     rw [hF2] at q
     exact q
    have HKP:=Lib.hid hkp
    have HWR:=Lib.hid (show wrap64 ((j:Int) + 1) = ((j + 1:Nat):Int) by have:=HBG.out; rw [wr64 (by omega) (by omega)]; omega)
    clear he hkl hbw hF2 hf2 hc2 hl2 ha2 hcs hkp
    go_wp2_with fail
    clear r0 r1 r2
    go_at_call 8
    refine HKP.out.mono ?_
    clear HKP
    rintro e W5 ⟨rfl,hst5⟩
    have HS5:=Lib.hid hst5
    clear hst5
    go_wp2_with fail
    go_roundw
    case rel=>exact ⟨j + 1,by first | rfl | rw [HWR.out] | (congr 1; omega),by omega,HS5.out⟩
    case measure =>
     simp only [intOf]
     omega
   ·have hjI:¬ (j:Int) < n2:=by omega
    go_wp2_with fail
    go_at_call 6
    refine (awake_c (HT.out.below HS2.out.1)).mono ?_
    rintro e W6 ⟨rfl,hb6⟩
    have HB6:=Lib.hid (HS2.out.1.trans (hb6.mono HS2.out.1.size))
    clear hb6
    go_wp2_with fail
    go_ret
    exact ⟨rfl,HB6.out⟩
end FloodW
end Go.Proofs.YtpimkdaikoclnaaDoor
namespace Go.Proofs.YtpimkdaikoclnaaDoor
open Go.ChangeShapes Go.WideShapes Go.ChangeAt Go.RowKit
set_option maxRecDepth 100000
namespace KindW
open KindP
theorem own:ownKnob Tryd.prog.godebug = none:=by kernel_rfl
theorem laidOut:laidOutB Tryd.prog = true:=by kernel_rfl
def tabName:String:=(Rows.floodKnownRow.laid.map (·.1)).headD default
theorem gTab:Tryd.prog.globalNamed tabName = some 0:=by kernel_rfl
theorem tTab:(Tryd.prog.globals[0]?).map (·.type) = some 109:=by kernel_rfl
theorem cellsRow:Tryd.prog.cellsOf 108 = 4:=by kernel_rfl
theorem cellsTab:Tryd.prog.cellsOf 109 = 60:=by kernel_rfl
theorem cellsStr:Tryd.prog.cellsOf 9 = 1:=by kernel_rfl
theorem cellsU8:Tryd.prog.cellsOf 5 = 1:=by kernel_rfl
theorem cellsTr:Tryd.prog.cellsOf 106 = 1:=by kernel_rfl
def rowD (k:Nat):DataW Unit:=.agg [.lit (.string (nm k)),.lit (.int .u8 (least k)),.lit (.int .u8 (most k)),.lit (.int .u8 (trait k))]
theorem rows_eq:(Rows.laid_bedrock_kind_rows:DataW Unit) = .agg ((List.range 15).map rowD):=by kernel_rfl
theorem cells_of_row {enc:TypeId × Value→Unit} {W:World} {base:Nat} {sp:Nat→Bool} {held:Bool} {fuel:Nat} {cs:List Value} {p:List MemPlace} {k:Nat}
  (h:DataW.trod enc Tryd.prog W base sp held fuel 108 cs = some (rowD k,p)) :
  cs = [.string ⟨(nm k).toArray⟩,.int .u8 (least k),.int .u8 (most k),.int .u8 (trait k)]:=by
 obtain ⟨xs,n,rfl,hx,hlen,hn,hel⟩:=DataW.trod_struct Tryd.underlying108 h
 rw [cellsRow] at hlen
 match cs,hlen with
 | [c0,c1,c2,c3],_ =>
  have e0:DataW.trod enc Tryd.prog W base sp held n 9 (([c0,c1,c2,c3].drop 0).take (Tryd.prog.cellsOf 9)) = xs[0]?:=hel 0 _ rfl
  rw [cellsStr] at e0
  have e1:DataW.trod enc Tryd.prog W base sp held n 5 (([c0,c1,c2,c3].drop 1).take (Tryd.prog.cellsOf 5)) = xs[1]?:=hel 1 _ rfl
  rw [cellsU8] at e1
  have e2:DataW.trod enc Tryd.prog W base sp held n 5 (([c0,c1,c2,c3].drop 2).take (Tryd.prog.cellsOf 5)) = xs[2]?:=hel 2 _ rfl
  rw [cellsU8] at e2
  have e3:DataW.trod enc Tryd.prog W base sp held n 106 (([c0,c1,c2,c3].drop 3).take (Tryd.prog.cellsOf 106)) = xs[3]?:=hel 3 _ rfl
  rw [cellsTr] at e3
  match xs,hn with
  | [x0,x1,x2,x3],_ =>
   simp only [List.drop_zero,List.take_succ_cons,List.take_zero,List.drop_succ_cons,List.getElem?_cons_zero,List.getElem?_cons_succ] at e0 e1 e2 e3
   obtain ⟨s,h0,hx0,_⟩:=DataW.trod_string Tryd.underlying9 e0
   obtain ⟨n1,h1,hx1,_⟩:=DataW.trod_int Tryd.underlying5 e1
   obtain ⟨n2,h2,hx2,_⟩:=DataW.trod_int Tryd.underlying5 e2
   obtain ⟨n3,h3,hx3,_⟩:=DataW.trod_int Tryd.underlying106 e3
   simp only [List.cons.injEq,and_true] at h0 h1 h2 h3
   simp only [rowD,List.map_cons,List.map_nil,Prod.mk.injEq,DataW.agg.injEq,List.cons.injEq,and_true,hx0,hx1,hx2,hx3,DataW.lit.injEq,Lit.string.injEq,Lit.int.injEq,true_and] at hx
   obtain ⟨⟨a0,a1,a2,a3⟩,_⟩:=hx
   rw [h0,h1,h2,h3,← a1,← a2,← a3,a0]
theorem tab_of_parts {W:World} {g0:Nat} {t0:TypeId} {cs0:Array Value} {f0:Nat} {p0:List MemPlace} (hg0:Tryd.prog.globalNamed tabName = some g0) (ht0:(Tryd.prog.globals[g0]?).map (·.type) = some t0) (hv0:W.var? Tryd.prog tabName = some cs0) (hd0:DataW.trod (fun _=>()) Tryd.prog W 0 (fun _=>true) false f0 t0 cs0.toList = some (Rows.laid_bedrock_kind_rows,p0)):Tab W:=by
 obtain rfl:=Option.some.inj (gTab.symm.trans hg0)
 obtain rfl:=Option.some.inj (tTab.symm.trans ht0)
 rw [rows_eq] at hd0
 obtain ⟨xs,m,rfl,hx,hlen,hn,hel⟩:=DataW.trod_array Tryd.underlying109 hd0
 rw [cellsTab] at hlen
 have hx1:xs.map (·.1) = (List.range 15).map rowD:=by
  have:=congrArg Prod.fst hx
  simpa using this.symm
 have key:∀ k,k < 15→(cs0.toList.drop (k * 4)).take 4 = [.string ⟨(nm k).toArray⟩,.int .u8 (least k),.int .u8 (most k),.int .u8 (trait k)]:=by
  intro k hk
  have e:=hel k hk
  rw [cellsRow,List.getElem?_eq_getElem (by omega)] at e
  have ey:(xs[k]'(by omega)).1 = rowD k:=by
   have:=congrArg (fun l:List (DataW Unit)=>l[k]?) hx1
   simpa [hk,hn] using this
  exact cells_of_row (p:=(xs[k]'(by omega)).2) (by rw [e,← ey])
 have at_:∀ k,k < 15→∀ j,j < 4→cs0[k * 4 + j]? = [(.string ⟨(nm k).toArray⟩:Value),.int .u8 (least k),.int .u8 (most k),.int .u8 (trait k)][j]?:=by
  intro k hk j hj
  rw [← key k hk,List.getElem?_take_of_lt hj,List.getElem?_drop,Array.getElem?_toList]
 have cell:=World.var?_cell hg0 hv0
 refine ⟨fun k hk=>(cell _).trans (at_ k hk 0 (by decide)),fun k hk=>(cell _).trans (at_ k hk 1 (by decide)),fun k hk=>(cell _).trans (at_ k hk 2 (by decide)),fun k hk=>(cell _).trans (at_ k hk 3 (by decide)),?_⟩
 exact World.block_lt_of_cell? W ⟨0,0,none⟩ ((cell 0).trans (at_ 0 (by decide) 0 (by decide)))
theorem tab_of_laid {W:World} (h:laidMetH Tryd.prog Rows.floodKnownRow.laid W):Tab W:=by
 rw [MakeChecks.laidMetH_plain _ _ _ (by kernel_rfl)] at h
 obtain ⟨ps,⟨g0,t0,cs0,f0,p0,q0,hg0,ht0,hv0,hd0,_,_⟩,_,_⟩:=h
 exact tab_of_parts hg0 ht0 hv0 hd0
theorem door_met (os:Os) (args:Array Value):laidMetH Tryd.prog Rows.floodKnownRow.laid ((World.doorLaid Tryd.prog 400 os).forCall (fun _ _=>0) ⟨#[],args,[]⟩).memory :=
 laidMetH_of_parts3 (fuel:=8) (laidMet_of_run' 8 (by kernel_rfl) (by kernel_rfl)) (by kernel_rfl) (by kernel_rfl)
end KindW
end Go.Proofs.YtpimkdaikoclnaaDoor
namespace Go.Proofs.YtpimkdaikoclnaaDoor
open Go.ChangeShapes Go.WideShapes Go.ChangeAt Go.RowKit
set_option linter.unusedVariables false
namespace OpenP
theorem own:ownKnob Tryd.prog.godebug = none:=by kernel_rfl
theorem laidOut:laidOutB Tryd.prog = true:=by kernel_rfl
section
variable {P:Program} {w:World} {r:Reach} {b:Nat} {t:TypeId} {v:Value}
theorem c_int {k:IntKind} {lo hi:Int} (ht:P.underlying t = some (.int k)) (hlo:k.min = lo) (hhi:k.max = hi) (h:Cell.okWide P w r b t v):∃ n:Int,v = .int k n∧lo≤n∧n≤hi:=by
 subst hlo hhi
 unfold Cell.okWide at h
 rw [ht] at h
 cases v <;> simp_all [Cell.ok,IntKind.has]
theorem v_agg {n:Nat} {ts:List TypeId} (ht:(∃ fs,P.underlying t = some (.struct fs)) ∨ (∃ m e,P.underlying t = some (.array m e))) (hts:P.cellTypes P.depth t = some ts) (hl:ts.length = n) (hc:P.cellsOf t = n) (h:Value.okWide P w r b t v) :
  ∃ l:List Value,v = .agg l.toArray∧l.length = n∧∀ (i:Nat) (u:TypeId),ts[i]? = some u→∃ x,l[i]? = some x∧Cell.okWide P w r b u x:=by
 have h':∃ cs,v = .agg cs∧cs.size = P.cellsOf t∧Row.okWide P w r b t cs:=by
  unfold Value.okWide at h
  rcases ht with ⟨fs,e⟩ | ⟨m,el,e⟩ <;> (rw [e] at h; exact h)
 obtain ⟨⟨l⟩,rfl,hs,ts',hts',_,hf⟩:=h'
 rw [hts] at hts'
 obtain rfl:=Option.some.inj hts'
 have hs':l.length = n:=by rw [← hc,← hs]; rfl
 refine ⟨l,rfl,hs',fun i u hu=>?_⟩
 have hi:i < ts.length:=(List.getElem?_eq_some_iff.1 hu).1
 have hx:i < l.length:=by omega
 obtain ⟨u',hu',hk⟩:=hf i l[i] (by simp [hx])
 rw [Nat.mod_eq_of_lt hi,hu] at hu'
 obtain rfl:=Option.some.inj hu'
 exact ⟨_,List.getElem?_eq_getElem hx,hk⟩
theorem all_keep {H:Type} {enc:TypeId × Value→H} (hl:laidOutB P = true) {W W':World} (hb:Below W.heap.size W W') :
  ∀ {ts:List TypeId} {vs:List Value} {ds:List (DataW H)} {ps:List MemPlace},(∀ t ∈ ts,P.readableRec t = true∧t < P.types.size)→DataW.TrodAll enc P W 0 (fun _=>true) true ts vs ds ps→(∀ x ∈ ps,x.block < W.heap.size) →
   DataW.TrodAll enc P W' 0 (fun b=>decide (b < W.heap.size)) true ts vs ds ps
 | [],vs,ds,ps,_,h,_=>by
  obtain ⟨rfl,rfl,rfl⟩:=trodAll_nil h
  exact trodAll_mk0
 | t :: ts,vs,ds,ps,ht,h,hlt=>by
  obtain ⟨v,vs',d,ds',p,q,rfl,rfl,rfl,hd,hrest⟩:=trodAll_cons h
  obtain ⟨h1,h2⟩:=ht t (by simp)
  exact trodAll_cons_mk (Below.trod hl h1 h2 hd hb (fun x hx=>hlt x (by simp [hx]))) (all_keep hl hb (fun u hu=>ht u (by simp [hu])) hrest (fun x hx=>hlt x (by simp [hx])))
theorem all_len {H:Type} {enc:TypeId × Value→H} {W:World}:∀ {ts:List TypeId} {vs:List Value} {ds:List (DataW H)} {ps:List MemPlace},DataW.TrodAll enc P W 0 (fun _=>true) true ts vs ds ps→vs.length = ts.length∧ds.length = ts.length
 | [],vs,ds,ps,h=>by
  obtain ⟨rfl,rfl,rfl⟩:=trodAll_nil h
  exact ⟨rfl,rfl⟩
 | t :: ts,vs,ds,ps,h=>by
  obtain ⟨v,vs',d,ds',p,q,rfl,rfl,rfl,hd,hrest⟩:=trodAll_cons h
  obtain ⟨h1,h2⟩:=all_len hrest
  exact ⟨by simp [h1],by simp [h2]⟩
end
theorem len2 {α:Type} {l:List α} (h:l.length = 2):∃ a0 a1:α,l = [a0,a1]:=by
 match l,h with
 | [a0,a1],_=>exact ⟨_,_,rfl⟩
theorem arr2 {α:Type} {l:Array α} (h:l.toList.length = 2):∃ a0 a1:α,l = #[a0,a1]:=by
 obtain ⟨l⟩:=l
 match l,h with
 | [a0,a1],_=>exact ⟨_,_,rfl⟩
theorem len7 {α:Type} {l:List α} (h:l.length = 7):∃ a0 a1 a2 a3 a4 a5 a6:α,l = [a0,a1,a2,a3,a4,a5,a6]:=by
 match l,h with
 | [a0,a1,a2,a3,a4,a5,a6],_=>exact ⟨_,_,_,_,_,_,_,rfl⟩
end OpenP
end Go.Proofs.YtpimkdaikoclnaaDoor
namespace Go.Proofs.YtpimkdaikoclnaaDoor
open Go.ChangeShapes Go.WideShapes Go.ChangeAt Go.RowKit Go.Deep
set_option linter.unusedVariables false
namespace OpenQ
theorem listed {α:Type} {Q:Nat→α→Prop}:∀ n:Nat,(∀ i,i < n→∃ x,Q i x)→∃ xs:List α,xs.length = n∧∀ i x,xs[i]? = some x→Q i x
 | 0,_=>⟨[],rfl,fun i x h=>by simp at h⟩
 | n + 1,h=>by
  obtain ⟨xs,hl,hx⟩:=listed n (fun i hi=>h i (by omega))
  obtain ⟨y,hy⟩:=h n (by omega)
  refine ⟨xs ++ [y],by simp [hl],fun i x hi=>?_⟩
  by_cases e:i < xs.length
  ·rw [List.getElem?_append_left e] at hi
   exact hx i x hi
  ·rw [List.getElem?_append_right (by omega)] at hi
   have:i - xs.length = 0:=by
    have:=(List.getElem?_eq_some_iff.1 hi).1
    simp at this
    omega
   rw [this] at hi
   have hi':y = x:=by simpa using hi
   subst hi'
   rw [show i = n by omega]
   exact hy
section
variable {H:Type} {enc:TypeId × Value→H} {P:Program} {W:World}
theorem trod_at:∀ {ts:List TypeId} {vs:List Value} {ds:List (DataW H)} {ps:List MemPlace},DataW.TrodAll enc P W 0 (fun _=>true) true ts vs ds ps→∀ (j:Nat) (t:TypeId) (v:Value),ts[j]? = some t→vs[j]? = some v→∃ d p,DataW.Trod enc P W 0 (fun _=>true) true t v d p
 | [],_,_,_,_,j,t,v,ht,_=>by simp at ht
 | t0 :: ts,vs,ds,ps,h,j,t,v,ht,hv=>by
  obtain ⟨v0,vs',d,ds',p,q,rfl,rfl,rfl,hd,hrest⟩:=trodAll_cons h
  cases j with
  | zero =>
   simp at ht hv
   subst ht hv
   exact ⟨d,p,hd⟩
  | succ j=>exact trod_at hrest j t v (by simpa using ht) (by simpa using hv)
theorem v_slice {r:Reach} {b:Nat} {t e:TypeId} {v:Value} (ht:P.underlying t = some (.slice e)) (h:Value.okWide P W r b t v):v.cells.toList = [v]:=by
 unfold Value.okWide at h
 rw [ht] at h
 unfold Cell.okWide at h
 rw [ht] at h
 cases v <;> simp_all [Value.cells,Cell.ok]
theorem slice_at {t e:TypeId} {C:Nat} {v:Value} {d:DataW H} {p:List MemPlace} (ht:P.underlying t = some (.slice e)) (hC:P.cellsOf e = C) (hone:v.cells.toList = [v]) (h:DataW.Trod enc P W 0 (fun _=>true) true t v d p) :
  ∃ (A:Option Addr) (n c:Nat),v = .slice A n c∧n≤c∧c≤maxLen∧(A = none→n = 0)∧∀ a,A = some a→∀ i,i < n→∃ (cs:List Value) (k:Nat) (y:DataW H × List MemPlace),cs.length = C∧(∀ j,j < C→W.cell? (a.add (i * C + j)) = cs[j]?)∧DataW.trod enc P W 0 (fun _=>true) true k e cs = some y:=by
 obtain ⟨fuel,hf⟩:=h
 rw [hone] at hf
 rcases open_slice ht hf with ⟨h0,_⟩ | ⟨a,len,cap,m,n,D,Pl,hcs,hb,hl,hm,hmm,hx,hi⟩
 ·injection h0 with h0 _
  exact ⟨none,0,0,h0,by omega,by simp [maxLen],fun _=>rfl,fun a ha=>by cases ha⟩
 ·injection hcs with hcs _
  refine ⟨some a,len,cap,hcs,hl,hm,(fun h=>(by cases h)),fun a' ha i hin=>?_⟩
  injection ha with ha
  subst ha
  have hmc:m = cap:=by simpa using hmm
  obtain ⟨cs',hc,ht'⟩:=hi i (by omega)
  rw [hC] at hc
  obtain ⟨_,hcl,hat⟩:=World.cells?_some hc
  exact ⟨cs',n,_,hcl,fun j hj=>by rw [← add_add]; exact hat j hj,ht'⟩
theorem plain {a:Addr} {v:Value} (h:W.cell? (a.add 0) = some v):∃ b o,a = ⟨b,o,none⟩∧b < W.heap.size:=by
 have h0:W.cell? a = some v:=by simpa [Addr.add] using h
 have hb:=World.block_lt_of_cell? W a h0
 obtain ⟨b,o,s⟩:=a
 cases s with
 | none=>exact ⟨b,o,rfl,hb⟩
 | some k =>
  unfold World.cell? at h0
  split at h0
  ·simp at h0
  ·cases h0
end
end OpenQ
end Go.Proofs.YtpimkdaikoclnaaDoor
namespace Go.Proofs.YtpimkdaikoclnaaDoor
open Go.ChangeShapes Go.WideShapes Go.ChangeAt Go.RowKit Go.Deep
set_option linter.unusedVariables false
namespace GlowW
open RowG
section
variable {H:Type} {enc:TypeId × Value→H} {W:World}
theorem u8_elem {k:Nat} {c0:Value} {y:DataW H × List MemPlace} (h:DataW.trod enc Tryd.prog W 0 (fun _=>true) true k 5 [c0] = some y):∃ x:Nat,c0 = u8v x∧x < 256:=by
 obtain ⟨a,ha,_,wa⟩:=DataW.trod_int (cs:=[c0]) Tryd.underlying5 h
 simp at ha
 have hw:0≤a∧a≤255:=by
  simp [Lit.wf] at wa
  have h1:IntKind.u8.min = 0:=rfl
  have h2:IntKind.u8.max = 255:=rfl
  omega
 obtain ⟨n,rfl⟩:=Int.eq_ofNat_of_zero_le hw.1
 exact ⟨n,ha,by omega⟩
theorem cell_elem {k:Nat} {c0 c1:Value} {y:DataW H × List MemPlace} (h:DataW.trod enc Tryd.prog W 0 (fun _=>true) true k 33 [c0,c1] = some y):∃ x:Nat × Nat,c0 = u8v x.1∧c1 = u8v x.2∧x.1 < 256∧x.2 < 256:=by
 obtain ⟨ys,n',_,_,_,hyl,hf⟩:=DataW.trod_struct Tryd.underlying33 h
 have hyl2:ys.length = 2:=hyl
 have h0:=hf 0 _ rfl
 have h1:=hf 1 _ rfl
 rw [List.getElem?_eq_getElem (by omega)] at h0 h1
 have hc:Tryd.prog.cellsOf 5 = 1:=by kernel_rfl
 obtain ⟨a,ha,hla⟩:=u8_elem (c0:=c0) (by simpa [hc] using h0)
 obtain ⟨b,hb,hlb⟩:=u8_elem (c0:=c1) (by simpa [hc] using h1)
 exact ⟨(a,b),ha,hb,hla,hlb⟩
theorem open_cells {v:Value} {d:DataW H} {p:List MemPlace} (hone:v.cells.toList = [v]) (h:DataW.Trod enc Tryd.prog W 0 (fun _=>true) true 24 v d p) :
  ∃ (A:Option Addr) (xs:List (Nat × Nat)) (c:Nat),v = .slice A xs.length c∧Rd enc2 W (.slice A xs.length c) xs∧∀ x ∈ xs,x.1 < 256∧x.2 < 256:=by
 obtain ⟨A,n,c,rfl,hnc,hcm,hnil,hel⟩:=OpenQ.slice_at (C:=2) Tryd.underlying24 (by kernel_rfl) hone h
 have hm:maxLen = 9223372036854775807:=rfl
 rcases A with _ | a
 ·have:=hnil rfl
  subst this
  exact ⟨none,[],c,rfl,⟨none,c,rfl,by simp,by omega,fun h=>absurd rfl h⟩,fun x h=>by cases h⟩
 ·have each:∀ i,i < n→∃ x:Nat × Nat,W.cell? (a.add (i * 2)) = some (u8v x.1)∧W.cell? (a.add (i * 2 + 1)) = some (u8v x.2)∧x.1 < 256∧x.2 < 256:=fun i hi=>by
   obtain ⟨cs,k,y,hl,hc,ht⟩:=hel a rfl i hi
   match cs,hl with
   | [c0,c1],_ =>
    obtain ⟨x,rfl,rfl,h1,h2⟩:=cell_elem ht
    exact ⟨x,hc 0 (by omega),hc 1 (by omega),h1,h2⟩
  obtain ⟨xs,hl,hxs⟩:=OpenQ.listed n each
  subst hl
  refine ⟨some a,xs,c,rfl,⟨some a,c,rfl,hnc,by omega,fun hne=>?_⟩,fun x hx=>?_⟩
  ·have h0:0 < xs.length:=List.length_pos_iff.2 hne
   obtain ⟨b,o,rfl,hb⟩:=OpenQ.plain (by simpa using (hxs 0 _ (List.getElem?_eq_getElem h0)).1)
   have hadd:∀ k,(⟨b,o,none⟩:Addr).add k = ⟨b,o + k,none⟩:=fun k=>by unfold Addr.add; split <;> simp_all
   refine ⟨b,o,rfl,hb,fun i x hi j u hu=>?_⟩
   obtain ⟨g0,g1,_,_⟩:=hxs i _ hi
   rw [hadd] at g0 g1
   match j,hu with
   | 0,hu =>
    have:u8v x.1 = u:=by simpa [enc2] using hu
    subst this
    exact g0
   | 1,hu =>
    have:u8v x.2 = u:=by simpa [enc2] using hu
    subst this
    exact g1
  ·obtain ⟨i,hi⟩:=List.getElem?_of_mem hx
   exact ⟨(hxs i x hi).2.2.1,(hxs i x hi).2.2.2⟩
end
end GlowW
end Go.Proofs.YtpimkdaikoclnaaDoor
