import Derived.Deep.RegionHeld3
import Derived.Test.YtpimkdaikoclnaaDoorFlE14
import Derived.Test.YtpimkdaikoclnaaDoorFlE1
import Derived.Test.YtpimkdaikoclnaaDoorFlE12
import Derived.Test.YtpimkdaikoclnaaDoorFlE6
namespace Go.Proofs.YtpimkdaikoclnaaDoor
open Go.RowKit
set_option linter.unusedVariables false
set_option linter.unusedSimpArgs false
namespace FloodW
open BlkP RowG GlowW FloodP
set_option maxRecDepth 100000 in
set_option maxHeartbeats 8000000 in
theorem lmade_c {w:World} {p:V} {x y z:Int} {A:Option Addr} {m c:Nat} {cl:List (Nat × Nat)} (hR:Rd enc2 w (.slice A m c) cl) (hm:cl.length = m) (hc8:∀ c ∈ cl,c.1 < 256∧c.2 < 256) :
  Calls Tryd.prog 7 #[.agg #[.int .i64 p.1,.int .i64 p.2.1,.int .i64 p.2.2,.int .i64 x,.int .i64 y,.int .i64 z,.slice A m c]] w (MadeP w x y z p cl):=by
 have HR:=Lib.hid hR
 have HM:=Lib.hid hm
 have HC8:=Lib.hid hc8
 clear hR hm hc8
 go_enter Tryd.func7,Tryd.ntmps7
 go_wp2_with fail
 go_at_call 10
 refine calls_named (S:=fun W=>Below w.heap.size w W) (by (repeat' (first | (with_reducible exact Below.refl _ _) | (with_reducible refine Below.setCell ?_ (by (first | omega | (simp; done) | (simp; omega))) _) | (with_reducible refine Below.alloc ?_ (by (first | omega | (simp; done) | (simp; omega))) _) | (with_reducible refine Below.drew ?_) | (with_reducible refine below_drewN ?_ _)))) ?_
 rintro W1 hb1
 refine (made_c (HR.out.below hb1) HM.out HC8.out).mono ?_
 rintro e W2 ⟨f,rfl,hmk⟩
 have HMK:=Lib.hid hmk
 have HB1:=Lib.hid hb1
 clear hmk hb1
 go_wp2_with fail
 go_ret
 refine ⟨f,rfl,?_⟩
 obtain ⟨a1,a2,a3,a4,a5,a6,a7,a8,a9,a10,a11,a12,a13,a14⟩:=HMK.out
 exact ⟨a1,a2,a3,a4,a5,a6,a7,a8,a9,a10,a11,fun k hk=>Nat.le_trans HB1.out.size (a12 k hk),a13,HB1.out.trans (a14.mono HB1.out.size)⟩
abbrev TE:TypeId:=35
def EditedP (w:World) (f:Fld) (e:Ending) (w':World):Prop:=∃ (i o1 o2 c1 c2:Nat),i < f.X * f.Y * f.Z∧(c1 < 256∧c2 < 256)∧f.cs[i]? = some (o1,o2)∧e = .returned (.tuple #[.agg #[.int .i64 ((plc f i).1),.int .i64 ((plc f i).2.1),.int .i64 ((plc f i).2.2)],.agg #[.int .u8 o1,.int .u8 o2]])∧FldM w' (f.put i (c1,c2))∧Fr (fun k=>f.vC.ownBlock = some k) w w'
set_option maxRecDepth 100000 in
set_option maxHeartbeats 16000000 in
theorem edited_c {w:World} {f:Fld} {ea:Int} {k l:Nat} (h:FldM w f) (hW:FldC f) (hk:k < 256∧l < 256):Calls Tryd.prog 12 #[.pointer (some ⟨f.F,0,none⟩),.agg #[.int .i64 ea,.int .u8 k,.int .u8 l]] w (EditedP w f):=by
 have HW:=Lib.hid hW
 have HK:=Lib.hid hk
 obtain ⟨n,hn⟩:∃ n,f.X * f.Y * f.Z = n:=⟨_,rfl⟩
 have hnb:=hW.n
 rw [hn] at hnb
 have HN:=Lib.hid hn
 have HL:=Lib.hid (show f.cs.length = n by rw [hW.cs,hn])
 obtain ⟨A,cC,hvC,_,_,hAC⟩:=h.cs.form (n:=n) HL.out
 obtain ⟨gC,rfl,_,_⟩:=hAC (by omega)
 have HVC:=Lib.hid hvC
 have H:=Lib.hid h
 have HFG:=Lib.hid (show f.F ≠ gC from fun e=>by
  obtain ⟨us,hu⟩:=own_cells h.cs (g:=gC) (by rw [hvC]; rfl)
  exact Blk.ne h.blk hu (by decide) e)
 have HLT:=Lib.hid (show f.F < w.heap.size∧gC < w.heap.size from ⟨h.blk.lt,(h.cs.ge gC (by rw [hvC]; rfl)).2⟩)
 obtain ⟨a,ha⟩:∃ a:Nat,ea % 65536 = a:=⟨(ea % 65536).toNat,by omega⟩
 have e1:bits .and .i64 ea 65535 = (a:Int):=(BitsP.and_mask ea 16 (by omega)).trans ha
 obtain ⟨i,hi⟩:∃ i,a % n = i:=⟨_,rfl⟩
 have e2:(a:Int).tmod n = (i:Int):=remF hi
 have hin:i < n:=by rw [← hi]; exact Nat.mod_lt _ (by omega)
 have hiI:(i:Int) < n:=by omega
 have hn0:¬ (n:Int) = 0:=by omega
 have hn1:¬ (n:Int) = -1:=by omega
 have hn2:¬ n = 0:=by omega
 obtain ⟨⟨o1,o2⟩,ho⟩:∃ o,f.cs[i]? = some o:=⟨_,List.getElem?_eq_getElem (by rw [HL.out]; exact hin)⟩
 have HO:=Lib.hid ho
 clear h hW hk hn hvC hAC ha hi ho
 go_enter Tryd.func12,Tryd.ntmps12
 go_wp2_with fail
 obtain ⟨s,hs⟩:∃ s,w.heap.size = s:=⟨_,rfl⟩
 refine HeldP.wp_named (S:=fun W=>Below w.heap.size w W∧Blk W s TE [.int .i64 ea,.int .u8 k,.int .u8 l]∧Blk W (s + 1) TP [.int .i64 0,.int .i64 0,.int .i64 0]∧Blk W (s + 2) TC [.int .u8 0,.int .u8 0]∧W.heap.size = s + 3) ⟨by (repeat' (first | (with_reducible exact Below.refl _ _) | (with_reducible refine Below.setCell ?_ (by (first | omega | (simp; done) | (simp; omega))) _) | (with_reducible refine Below.alloc ?_ (by (first | omega | (simp; done) | (simp; omega))) _) | (with_reducible refine Below.drew ?_) | (with_reducible refine below_drewN ?_ _))),by subst hs; (repeat' (first | (with_reducible refine BlkP.Blk.drew ?_) | (with_reducible refine BlkP.Blk.drewN ?_ _) | (with_reducible refine BlkP.Blk.setAt (us:=?_) (by first | omega | (simp; done) | (simp; omega)) rfl ?_ ?_) | (with_reducible refine BlkP.Blk.otherAt ?_ (by first | omega | (simp; done) | (simp; omega))) | (with_reducible refine BlkP.Blk.newA' (by first | omega | (simp; done) | (simp; omega)) rfl) | (with_reducible refine BlkP.Blk.alloc ?_ _) | (exact rfl))),by subst hs; (repeat' (first | (with_reducible refine BlkP.Blk.drew ?_) | (with_reducible refine BlkP.Blk.drewN ?_ _) | (with_reducible refine BlkP.Blk.setAt (us:=?_) (by first | omega | (simp; done) | (simp; omega)) rfl ?_ ?_) | (with_reducible refine BlkP.Blk.otherAt ?_ (by first | omega | (simp; done) | (simp; omega))) | (with_reducible refine BlkP.Blk.newA' (by first | omega | (simp; done) | (simp; omega)) rfl) | (with_reducible refine BlkP.Blk.alloc ?_ _) | (exact rfl))),by subst hs; (repeat' (first | (with_reducible refine BlkP.Blk.drew ?_) | (with_reducible refine BlkP.Blk.drewN ?_ _) | (with_reducible refine BlkP.Blk.setAt (us:=?_) (by first | omega | (simp; done) | (simp; omega)) rfl ?_ ?_) | (with_reducible refine BlkP.Blk.otherAt ?_ (by first | omega | (simp; done) | (simp; omega))) | (with_reducible refine BlkP.Blk.newA' (by first | omega | (simp; done) | (simp; omega)) rfl) | (with_reducible refine BlkP.Blk.alloc ?_ _) | (exact rfl))),by simp; omega⟩ ?_
 rintro W1 ⟨hb1,he1,hp1,hc1,hz1⟩
 rw [hs]
 have HS:=Lib.hid hs
 have HLS:=Lib.hid (show f.F < s∧gC < s by have:=HLT.out; omega)
 have HB1:=Lib.hid hb1
 have HE1:=Lib.hid he1
 have HP1:=Lib.hid hp1
 have HC1:=Lib.hid hc1
 have HZ1:=Lib.hid hz1
 have HF1:=Lib.hid (H.out.below hb1)
 clear hb1 he1 hp1 hc1 hs hz1
 refine wp_region_noPanic ?_
 refine wp_region_held_drew (S:=fun Xw=>FldM Xw f∧Blk Xw s TE [.int .i64 ea,.int .u8 k,.int .u8 l]) (by kernel_rfl) (⟨HF1.out.below (Below.refl _ _).drew,HE1.out⟩) (fun hHeld=>?_)
 refine wpAnyH_take (i:=0) (oi:=⟨some 9,_,_,_,_,_⟩) (v:=.pointer (some ⟨s,0,none⟩)) rfl (by kernel_rfl) (by kernel_rfl) (by kernel_rfl) (fun _ _ _ h=>h) (Or.inl ⟨by rfl,fun Xw hSW=>by go_simp⟩) hHeld ?_
 simp only [Act.put,List.setIfInBounds_toArray,List.set_cons_zero,List.set_cons_succ]
 refine wpAnyH_take (i:=1) (oi:=⟨some 10,_,_,_,_,_⟩) (v:=.int .i64 ea) rfl (by kernel_rfl) (by kernel_rfl) (by kernel_rfl) (fun _ _ _ h=>h) (Or.inl ⟨by rfl,fun Xw hSW=>by have q:=hSW.2.cell (i:=0) rfl; go_simp⟩) hHeld ?_
 simp only [Act.put,List.setIfInBounds_toArray,List.set_cons_zero,List.set_cons_succ]
 refine wpAnyH_take (i:=2) (oi:=⟨some 11,_,_,_,_,_⟩) (v:=.int .i64 (a:Int)) rfl (by kernel_rfl) (by kernel_rfl) (by kernel_rfl) (fun _ _ _ h=>h) (Or.inl ⟨by rfl,fun Xw hSW=>by go_simp⟩) hHeld ?_
 simp only [Act.put,List.setIfInBounds_toArray,List.set_cons_zero,List.set_cons_succ]
 refine wpAnyH_take (i:=3) (oi:=⟨some 12,_,_,_,_,_⟩) (v:=.pointer (some ⟨f.F,0,none⟩)) rfl (by kernel_rfl) (by kernel_rfl) (by kernel_rfl) (fun _ _ _ h=>h) (Or.inl ⟨by rfl,fun Xw hSW=>by go_simp⟩) hHeld ?_
 simp only [Act.put,List.setIfInBounds_toArray,List.set_cons_zero,List.set_cons_succ]
 refine wpAnyH_take (i:=4) (oi:=⟨some 13,_,_,_,_,_⟩) (v:=.pointer (some ⟨f.F,0,none⟩)) rfl (by kernel_rfl) (by kernel_rfl) (by kernel_rfl) (fun _ _ _ h=>h) (Or.inl ⟨by rfl,fun Xw hSW=>by go_simp⟩) hHeld ?_
 simp only [Act.put,List.setIfInBounds_toArray,List.set_cons_zero,List.set_cons_succ]
 refine wpAnyH_take (i:=5) (oi:=⟨some 14,_,_,_,_,_⟩) (v:=.pointer (some ⟨f.F,3,none⟩)) rfl (by kernel_rfl) (by kernel_rfl) (by kernel_rfl) (fun _ _ _ h=>h) (Or.inl ⟨by rfl,fun Xw hSW=>by go_simp⟩) hHeld ?_
 simp only [Act.put,List.setIfInBounds_toArray,List.set_cons_zero,List.set_cons_succ]
 refine wpAnyH_take (i:=6) (oi:=⟨some 15,_,_,_,_,_⟩) (v:=.pointer (some ⟨f.F,6,none⟩)) rfl (by kernel_rfl) (by kernel_rfl) (by kernel_rfl) (fun _ _ _ h=>h) (Or.inl ⟨by rfl,fun Xw hSW=>by go_simp⟩) hHeld ?_
 simp only [Act.put,List.setIfInBounds_toArray,List.set_cons_zero,List.set_cons_succ]
 refine wpAnyH_take (i:=7) (oi:=⟨some 16,_,_,_,_,_⟩) (v:=.slice (some ⟨gC,0,none⟩) n cC) rfl (by kernel_rfl) (by kernel_rfl) (by kernel_rfl) (fun _ _ _ h=>h) (Or.inl ⟨by rfl,fun Xw hSW=>by have q:Xw.cell? ⟨f.F,6,none⟩ = some (.slice (some ⟨gC,0,none⟩) n cC):=(hSW.1.blk.cell (i:=6) (v:=f.vC) rfl).trans (congrArg some HVC.out); go_simp⟩) hHeld ?_
 simp only [Act.put,List.setIfInBounds_toArray,List.set_cons_zero,List.set_cons_succ]
 refine wpAnyH_take (i:=8) (oi:=⟨some 17,_,_,_,_,_⟩) (v:=.int .i64 (n:Int)) rfl (by kernel_rfl) (by kernel_rfl) (by kernel_rfl) (fun _ _ _ h=>h) (Or.inl ⟨by rfl,fun Xw hSW=>by go_simp⟩) hHeld ?_
 simp only [Act.put,List.setIfInBounds_toArray,List.set_cons_zero,List.set_cons_succ]
 refine wpAnyH_take (i:=9) (oi:=⟨some 18,_,_,_,_,_⟩) (v:=.int .i64 (i:Int)) rfl (by kernel_rfl) (by kernel_rfl) (by kernel_rfl) (fun _ _ _ h=>h) (Or.inl ⟨by rfl,fun Xw hSW=>by go_simp⟩) hHeld ?_
 simp only [Act.put,List.setIfInBounds_toArray,List.set_cons_zero,List.set_cons_succ]
 refine wpAnyH_take (i:=10) (oi:=⟨some 6,_,_,_,_,_⟩) (v:=.int .i64 (i:Int)) rfl (by kernel_rfl) (by kernel_rfl) (by kernel_rfl) (fun _ _ _ h=>h) (Or.inl ⟨by rfl,fun Xw hSW=>by go_simp⟩) hHeld ?_
 simp only [Act.put,List.setIfInBounds_toArray,List.set_cons_zero,List.set_cons_succ]
 refine wpAnyH_done (by kernel_rfl) ?_ _
 refine NoPanic.normal ?_
 clear hHeld
 have HOC1:=Lib.hid (show RowG.Own enc2 TC W1 0 (.slice (some ⟨gC,0,none⟩) n cC) f.cs from HVC.out ▸ HF1.out.cs)
 have k6:W1.cell? ⟨f.F,6,none⟩ = some (.slice (some ⟨gC,0,none⟩) n cC):=(HF1.out.blk.cell (i:=6) (v:=f.vC) rfl).trans (congrArg some HVC.out)
 have g0:W1.cell? ⟨gC,i * 2,none⟩ = some (.int .u8 (o1:Int)):=HOC1.out.cell (j:=0) HO.out rfl
 have g1:W1.cell? ⟨gC,i * 2 + 1,none⟩ = some (.int .u8 (o2:Int)):=HOC1.out.cell (j:=1) HO.out rfl
 have q1:=HE1.out.cell (i:=1) rfl
 have q2:=HE1.out.cell (i:=2) rfl
 have hlE:=HE1.out.lt
 go_wp2_with fail
 clear k6 g0 g1 q1 q2
 go_at_call 23
 refine calls_named (S:=fun W=>Below W1.heap.size W1 W∧Blk W (s + 3) TC [.int .u8 o1,.int .u8 o2]∧Blk W (s + 4) TC [.int .u8 k,.int .u8 l]) ⟨by (repeat' (first | (with_reducible exact Below.refl _ _) | (with_reducible refine Below.setCell ?_ (by (first | omega | (simp; done) | (simp; omega))) _) | (with_reducible refine Below.alloc ?_ (by (first | omega | (simp; done) | (simp; omega))) _) | (with_reducible refine Below.drew ?_) | (with_reducible refine below_drewN ?_ _))),by have:=HZ1.out; (repeat' (first | (with_reducible refine BlkP.Blk.drew ?_) | (with_reducible refine BlkP.Blk.drewN ?_ _) | (with_reducible refine BlkP.Blk.setAt (us:=?_) (by first | omega | (simp; done) | (simp; omega)) rfl ?_ ?_) | (with_reducible refine BlkP.Blk.otherAt ?_ (by first | omega | (simp; done) | (simp; omega))) | (with_reducible refine BlkP.Blk.newA' (by first | omega | (simp; done) | (simp; omega)) rfl) | (with_reducible refine BlkP.Blk.alloc ?_ _) | (exact rfl))),by have:=HZ1.out; (repeat' (first | (with_reducible refine BlkP.Blk.drew ?_) | (with_reducible refine BlkP.Blk.drewN ?_ _) | (with_reducible refine BlkP.Blk.setAt (us:=?_) (by first | omega | (simp; done) | (simp; omega)) rfl ?_ ?_) | (with_reducible refine BlkP.Blk.otherAt ?_ (by first | omega | (simp; done) | (simp; omega))) | (with_reducible refine BlkP.Blk.newA' (by first | omega | (simp; done) | (simp; omega)) rfl) | (with_reducible refine BlkP.Blk.alloc ?_ _) | (exact rfl)))⟩ ?_
 rintro W2 ⟨hb2,ho2,hk2⟩
 rw [HZ1.out,show s + 3 + 1 = s + 4 from rfl]
 obtain ⟨b,hb⟩:∃ b,KindP.may k l = b:=⟨_,rfl⟩
 refine (KindW.r_may_b hb W2).mono ?_
 rintro e W3 ⟨rfl,hb3⟩
 have hB3:=hb2.trans (hb3.mono hb2.size)
 obtain ⟨W3',hW3'⟩:∃ X,W3 = X:=⟨_,rfl⟩
 have HF3:=Lib.hid (HF1.out.below hB3)
 have HP3:=Lib.hid (HP1.out.below hB3)
 have HC3:=Lib.hid (HC1.out.below hB3)
 have HO3:=Lib.hid (ho2.below hb3)
 have HK3:=Lib.hid (hk2.below hb3)
 have HB3:=Lib.hid (show Below w.heap.size w W3 from HB1.out.trans (hB3.mono HB1.out.size))
 clear hb2 ho2 hk2 hb hb3 hB3 hW3' hlE HF1 HP1 HC1 HE1 HOC1
 cases b with
 | true =>
  go_wp2_with fail
  refine HeldP.wp_named (S:=fun W=>Below w.heap.size w W∧FldM W f∧Blk W (s + 1) TP [.int .i64 0,.int .i64 0,.int .i64 0]∧Blk W (s + 2) TC [.int .u8 0,.int .u8 0]∧Blk W (s + 3) TC [.int .u8 o1,.int .u8 o2]∧Blk W (s + 4) TC [.int .u8 k,.int .u8 l]) ⟨by have:=HS.out; have q:=HB3.out; (repeat' (first | (with_reducible exact Below.refl _ _) | (with_reducible refine Below.setCell ?_ (by (first | omega | (simp; done) | (simp; omega))) _) | (with_reducible refine Below.alloc ?_ (by (first | omega | (simp; done) | (simp; omega))) _) | (with_reducible refine Below.drew ?_) | (with_reducible refine below_drewN ?_ _) | (with_reducible refine Below.trans ?_ (Below.mono q (by (first | omega | (simp; done) | (simp; omega))))))),?_,by have q:=HP3.out; (repeat' (first | (with_reducible exact q) | (with_reducible refine BlkP.Blk.drew ?_) | (with_reducible refine BlkP.Blk.drewN ?_ _) | (with_reducible refine BlkP.Blk.setAt (us:=?_) (by first | omega | (simp; done) | (simp; omega)) rfl ?_ ?_) | (with_reducible refine BlkP.Blk.otherAt ?_ (by first | omega | (simp; done) | (simp; omega))) | (with_reducible refine BlkP.Blk.newA' (by first | omega | (simp; done) | (simp; omega)) rfl) | (with_reducible refine BlkP.Blk.alloc ?_ _) | (exact rfl))),by have q:=HC3.out; (repeat' (first | (with_reducible exact q) | (with_reducible refine BlkP.Blk.drew ?_) | (with_reducible refine BlkP.Blk.drewN ?_ _) | (with_reducible refine BlkP.Blk.setAt (us:=?_) (by first | omega | (simp; done) | (simp; omega)) rfl ?_ ?_) | (with_reducible refine BlkP.Blk.otherAt ?_ (by first | omega | (simp; done) | (simp; omega))) | (with_reducible refine BlkP.Blk.newA' (by first | omega | (simp; done) | (simp; omega)) rfl) | (with_reducible refine BlkP.Blk.alloc ?_ _) | (exact rfl))),by have q:=HO3.out; (repeat' (first | (with_reducible exact q) | (with_reducible refine BlkP.Blk.drew ?_) | (with_reducible refine BlkP.Blk.drewN ?_ _) | (with_reducible refine BlkP.Blk.setAt (us:=?_) (by first | omega | (simp; done) | (simp; omega)) rfl ?_ ?_) | (with_reducible refine BlkP.Blk.otherAt ?_ (by first | omega | (simp; done) | (simp; omega))) | (with_reducible refine BlkP.Blk.newA' (by first | omega | (simp; done) | (simp; omega)) rfl) | (with_reducible refine BlkP.Blk.alloc ?_ _) | (exact rfl))),by have q:=HK3.out; (repeat' (first | (with_reducible exact q) | (with_reducible refine BlkP.Blk.drew ?_) | (with_reducible refine BlkP.Blk.drewN ?_ _) | (with_reducible refine BlkP.Blk.setAt (us:=?_) (by first | omega | (simp; done) | (simp; omega)) rfl ?_ ?_) | (with_reducible refine BlkP.Blk.otherAt ?_ (by first | omega | (simp; done) | (simp; omega))) | (with_reducible refine BlkP.Blk.newA' (by first | omega | (simp; done) | (simp; omega)) rfl) | (with_reducible refine BlkP.Blk.alloc ?_ _) | (exact rfl)))⟩ ?_
  ·exact HF3.out.below (by (repeat' (first | (with_reducible exact Below.refl _ _) | (with_reducible refine Below.setCell ?_ (by (first | omega | (simp; done) | (simp; omega))) _) | (with_reducible refine Below.alloc ?_ (by (first | omega | (simp; done) | (simp; omega))) _) | (with_reducible refine Below.drew ?_) | (with_reducible refine below_drewN ?_ _))))
  rintro W4 ⟨hb4,hf4,hp4,hc4,ho4,hk4⟩
  have HB4:=Lib.hid hb4
  have HF4:=Lib.hid hf4
  have HP4:=Lib.hid hp4
  have HC4:=Lib.hid hc4
  have HO4:=Lib.hid ho4
  have HK4:=Lib.hid hk4
  have hcF:W4.cell? ⟨f.F,6,none⟩ = some (.slice (some ⟨gC,0,none⟩) n cC):=(hf4.blk.cell (i:=6) (v:=f.vC) rfl).trans (congrArg some HVC.out)
  have HCF:=Lib.hid hcF
  have HOC4:=Lib.hid (show RowG.Own enc2 TC W4 0 (.slice (some ⟨gC,0,none⟩) n cC) f.cs from HVC.out ▸ hf4.cs)
  have hsg:s + 4 ≠ gC:=by have:=HLS.out; omega
  clear hb4 hf4 hp4 hc4 ho4 hk4 hcF HF3 HP3 HC3 HO3 HK3 HB3
  refine wp_region_noPanic ?_
  refine wp_region_held_drew (S:=fun Xw=>Xw.cell? ⟨f.F,6,none⟩ = some (.slice (some ⟨gC,0,none⟩) n cC)∧Blk Xw (s + 4) TC [.int .u8 k,.int .u8 l]) (by kernel_rfl) (⟨HCF.out,HK4.out⟩) (fun hHeld=>?_)
  refine wpAnyH_take (i:=0) (oi:=⟨some 33,_,_,_,_,_⟩) (v:=.pointer (some ⟨f.F,0,none⟩)) rfl (by kernel_rfl) (by kernel_rfl) (by kernel_rfl) (fun _ _ _ h=>h) (Or.inl ⟨by rfl,fun Xw hSW=>by go_simp⟩) hHeld ?_
  simp only [Act.put,List.setIfInBounds_toArray,List.set_cons_zero,List.set_cons_succ]
  refine wpAnyH_take (i:=1) (oi:=⟨some 34,_,_,_,_,_⟩) (v:=.pointer (some ⟨f.F,0,none⟩)) rfl (by kernel_rfl) (by kernel_rfl) (by kernel_rfl) (fun _ _ _ h=>h) (Or.inl ⟨by rfl,fun Xw hSW=>by go_simp⟩) hHeld ?_
  simp only [Act.put,List.setIfInBounds_toArray,List.set_cons_zero,List.set_cons_succ]
  refine wpAnyH_take (i:=2) (oi:=⟨some 35,_,_,_,_,_⟩) (v:=.pointer (some ⟨f.F,3,none⟩)) rfl (by kernel_rfl) (by kernel_rfl) (by kernel_rfl) (fun _ _ _ h=>h) (Or.inl ⟨by rfl,fun Xw hSW=>by go_simp⟩) hHeld ?_
  simp only [Act.put,List.setIfInBounds_toArray,List.set_cons_zero,List.set_cons_succ]
  refine wpAnyH_take (i:=3) (oi:=⟨some 36,_,_,_,_,_⟩) (v:=.pointer (some ⟨f.F,6,none⟩)) rfl (by kernel_rfl) (by kernel_rfl) (by kernel_rfl) (fun _ _ _ h=>h) (Or.inl ⟨by rfl,fun Xw hSW=>by go_simp⟩) hHeld ?_
  simp only [Act.put,List.setIfInBounds_toArray,List.set_cons_zero,List.set_cons_succ]
  refine wpAnyH_take (i:=4) (oi:=⟨some 37,_,_,_,_,_⟩) (v:=.slice (some ⟨gC,0,none⟩) n cC) rfl (by kernel_rfl) (by kernel_rfl) (by kernel_rfl) (fun _ _ _ h=>h) (Or.inl ⟨by rfl,fun Xw hSW=>by have q:=hSW.1; go_simp⟩) hHeld ?_
  simp only [Act.put,List.setIfInBounds_toArray,List.set_cons_zero,List.set_cons_succ]
  refine wpAnyH_take (i:=5) (oi:=⟨some 38,_,_,_,_,_⟩) (v:=.int .i64 (i:Int)) rfl (by kernel_rfl) (by kernel_rfl) (by kernel_rfl) (fun _ _ _ h=>h) (Or.inl ⟨by rfl,fun Xw hSW=>by go_simp⟩) hHeld ?_
  simp only [Act.put,List.setIfInBounds_toArray,List.set_cons_zero,List.set_cons_succ]
  refine wpAnyH_take (i:=6) (oi:=⟨some 39,_,_,_,_,_⟩) (v:=.agg #[.int .u8 k,.int .u8 l]) rfl (by kernel_rfl) (by kernel_rfl) (by kernel_rfl) (fun _ _ _ h=>h) (Or.inl ⟨by rfl,fun Xw hSW=>by have a0:=hSW.2.cell (i:=0) rfl; have a1:=hSW.2.cell (i:=1) rfl; go_simp⟩) hHeld ?_
  simp only [Act.put,List.setIfInBounds_toArray,List.set_cons_zero,List.set_cons_succ]
  refine wpAnyH_take (i:=7) (oi:=⟨some 40,_,_,_,_,_⟩) (v:=.pointer (some ⟨gC,i * 2,none⟩)) rfl (by kernel_rfl) (by kernel_rfl) (by kernel_rfl) (fun _ _ _ h=>h) (Or.inl ⟨by rfl,fun Xw hSW=>by go_simp⟩) hHeld ?_
  simp only [Act.put,List.setIfInBounds_toArray,List.set_cons_zero,List.set_cons_succ]
  refine wpAnyH_ready (rs:=[8]) (by kernel_rfl) (by simp) ?_
  refine AllReadyH.cons (o:=⟨none,_,_,_,_,_⟩) rfl (fun K hK=>?_) AllReadyH.nil
  have g0:W4.cell? ⟨gC,i * 2,none⟩ = some (.int .u8 (o1:Int)):=HOC4.out.cell (j:=0) HO.out rfl
  have g1:W4.cell? ⟨gC,i * 2 + 1,none⟩ = some (.int .u8 (o2:Int)):=HOC4.out.cell (j:=1) HO.out rfl
  have z0:=HOC4.out.frozen (i * 2)
  have z1:=HOC4.out.frozen (i * 2 + 1)
  have hgf:gC ≠ f.F:=fun e=>HFG.out e.symm
  go_simp
  refine hK.out _ _ (⟨by have q:=HCF.out; (repeat' (first | (with_reducible assumption) | (with_reducible refine HeldP.c_drew ?_) | (with_reducible refine HeldP.c_drewN ?_) | (with_reducible refine HeldP.c_same (by omega) ?_) | (with_reducible refine HeldP.c_other ?_ ?_) | (with_reducible refine HeldP.c_new (by first | omega | (simp; done) | (simp; omega)) ?_) | (with_reducible refine HeldP.c_alloc ?_ ?_) | (with_reducible refine HeldP.e_drew ?_) | (with_reducible refine HeldP.e_drewN ?_) | (with_reducible refine HeldP.e_set ?_) | (with_reducible refine HeldP.e_new (by first | omega | (simp; done) | (simp; omega)) ⟨_,rfl⟩) | (with_reducible refine HeldP.e_alloc ?_ ?_) | (with_reducible refine HeldP.f_drew ?_) | (with_reducible refine HeldP.f_drewN ?_) | (with_reducible refine HeldP.f_set ?_) | (with_reducible refine HeldP.f_new (by first | omega | (simp; done) | (simp; omega))) | (with_reducible refine HeldP.f_alloc ?_ ?_) | (with_reducible refine HeldP.s_drew ?_) | (with_reducible refine HeldP.s_drewN ?_) | (with_reducible refine HeldP.s_set ?_) | (with_reducible refine HeldP.s_new (by first | omega | (simp; done) | (simp; omega))) | (with_reducible refine HeldP.s_alloc ?_) | (with_reducible exact ⟨_,by assumption⟩) | omega | (intro e; simp at e; done) | (intro e; simp at e; omega) | (exact rfl) | (simp; done) | (simp; omega))),by have q:=HK4.out; (repeat' (first | (with_reducible exact q) | (with_reducible refine BlkP.Blk.drew ?_) | (with_reducible refine BlkP.Blk.drewN ?_ _) | (with_reducible refine BlkP.Blk.setAt (us:=?_) (by first | omega | (simp; done) | (simp; omega)) rfl ?_ ?_) | (with_reducible refine BlkP.Blk.otherAt ?_ (by first | omega | (simp; done) | (simp; omega))) | (with_reducible refine BlkP.Blk.newA' (by first | omega | (simp; done) | (simp; omega)) rfl) | (with_reducible refine BlkP.Blk.alloc ?_ _) | (exact rfl)))⟩) (fun hHeld=>?_)
  clear hK K
  refine wpAnyH_done (by kernel_rfl) ?_ _
  refine NoPanic.normal ?_
  clear hHeld
  have hput:=FldM.putM HF4.out HVC.out HO.out k l
  refine HeldP.then_named (S:=fun W=>Fr (fun k=>f.vC.ownBlock = some k) w W∧FldM W (f.put i (k,l))∧Blk W (s + 1) TP [.int .i64 0,.int .i64 0,.int .i64 0]∧Blk W (s + 2) TC [.int .u8 0,.int .u8 0]∧Blk W (s + 3) TC [.int .u8 o1,.int .u8 o2]∧s + 3 < W.heap.size) ⟨(Fr.below _ HB4.out).trans (hput.2.drew) (fun j hj=>.inl (by
   have hj':j = gC:=hj
   rw [hj',HVC.out]
   rfl)),hput.1.below (by first | exact Below.refl _ _ | exact (Below.refl _ _).drew),?_,?_,?_,by simpa using HO4.out.lt⟩ ?_
  ·have q:=HP4.out
   have hl:=HLS.out
   (repeat' (first | (with_reducible exact q) | (with_reducible refine BlkP.Blk.drew ?_) | (with_reducible refine BlkP.Blk.drewN ?_ _) | (with_reducible refine BlkP.Blk.setAt (us:=?_) (by first | omega | (simp; done) | (simp; omega)) rfl ?_ ?_) | (with_reducible refine BlkP.Blk.otherAt ?_ (by first | omega | (simp; done) | (simp; omega))) | (with_reducible refine BlkP.Blk.newA' (by first | omega | (simp; done) | (simp; omega)) rfl) | (with_reducible refine BlkP.Blk.alloc ?_ _) | (exact rfl)))
  ·have q:=HC4.out
   have hl:=HLS.out
   (repeat' (first | (with_reducible exact q) | (with_reducible refine BlkP.Blk.drew ?_) | (with_reducible refine BlkP.Blk.drewN ?_ _) | (with_reducible refine BlkP.Blk.setAt (us:=?_) (by first | omega | (simp; done) | (simp; omega)) rfl ?_ ?_) | (with_reducible refine BlkP.Blk.otherAt ?_ (by first | omega | (simp; done) | (simp; omega))) | (with_reducible refine BlkP.Blk.newA' (by first | omega | (simp; done) | (simp; omega)) rfl) | (with_reducible refine BlkP.Blk.alloc ?_ _) | (exact rfl)))
  ·have q:=HO4.out
   have hl:=HLS.out
   (repeat' (first | (with_reducible exact q) | (with_reducible refine BlkP.Blk.drew ?_) | (with_reducible refine BlkP.Blk.drewN ?_ _) | (with_reducible refine BlkP.Blk.setAt (us:=?_) (by first | omega | (simp; done) | (simp; omega)) rfl ?_ ?_) | (with_reducible refine BlkP.Blk.otherAt ?_ (by first | omega | (simp; done) | (simp; omega))) | (with_reducible refine BlkP.Blk.newA' (by first | omega | (simp; done) | (simp; omega)) rfl) | (with_reducible refine BlkP.Blk.alloc ?_ _) | (exact rfl)))
  rintro W5 ⟨hr5,hf5,hp5,hc5,ho5,hz5⟩
  have HR5:=Lib.hid hr5
  have HF5:=Lib.hid hf5
  have HP5:=Lib.hid hp5
  have HC5:=Lib.hid hc5
  have HO5:=Lib.hid ho5
  have HZ5:=Lib.hid hz5
  have HFC:=Lib.hid (put_c (i:=i) (c:=(k,l)) HW.out HK.out)
  clear hput hr5 hf5 hp5 hc5 ho5 hz5 HF4 HP4 HC4 HO4 HK4 HB4 HCF HOC4 hsg
  go_wp2_with fail
  refine wp_region_noPanic ?_
  refine wp_region_held_drew (S:=fun Xw=>Blk Xw (s + 3) TC [.int .u8 o1,.int .u8 o2]) (by kernel_rfl) (HO5.out) (fun hHeld=>?_)
  refine wpAnyH_take (i:=0) (oi:=⟨some 41,_,_,_,_,_⟩) (v:=.pointer (some ⟨f.F,0,none⟩)) rfl (by kernel_rfl) (by kernel_rfl) (by kernel_rfl) (fun _ _ _ h=>h) (Or.inl ⟨by rfl,fun Xw hSW=>by go_simp⟩) hHeld ?_
  simp only [Act.put,List.setIfInBounds_toArray,List.set_cons_zero,List.set_cons_succ]
  refine wpAnyH_take (i:=1) (oi:=⟨some 42,_,_,_,_,_⟩) (v:=.int .i64 (i:Int)) rfl (by kernel_rfl) (by kernel_rfl) (by kernel_rfl) (fun _ _ _ h=>h) (Or.inl ⟨by rfl,fun Xw hSW=>by go_simp⟩) hHeld ?_
  simp only [Act.put,List.setIfInBounds_toArray,List.set_cons_zero,List.set_cons_succ]
  refine wpAnyH_take (i:=3) (oi:=⟨some 44,_,_,_,_,_⟩) (v:=.agg #[.int .u8 o1,.int .u8 o2]) rfl (by kernel_rfl) (by kernel_rfl) (by kernel_rfl) (fun _ _ _ h=>h) (Or.inl ⟨by rfl,fun Xw hSW=>by have a0:=hSW.cell (i:=0) rfl; have a1:=hSW.cell (i:=1) rfl; go_simp⟩) hHeld ?_
  simp only [Act.put,List.setIfInBounds_toArray,List.set_cons_zero,List.set_cons_succ]
  refine wpAnyH_ready (rs:=[2]) (by kernel_rfl) (by simp) ?_
  refine AllReadyH.cons (o:=⟨some 43,_,_,_,_,_⟩) rfl (fun K hK=>?_) AllReadyH.nil
  go_simp
  refine (at_c (w:=W5.drew) (i:=i) (HF5.out.below (by (repeat' (first | (with_reducible exact Below.refl _ _) | (with_reducible refine Below.setCell ?_ (by (first | omega | (simp; done) | (simp; omega))) _) | (with_reducible refine Below.alloc ?_ (by (first | omega | (simp; done) | (simp; omega))) _) | (with_reducible refine Below.drew ?_) | (with_reducible refine below_drewN ?_ _))))) HFC.out (by rw [show (f.put i (k,l)).X * (f.put i (k,l)).Y * (f.put i (k,l)).Z = n from HN.out]; exact hin)).mono ?_
  rintro e W6 ⟨rfl,hb6⟩
  rw [show plc (f.put i (k,l)) i = plc f i from rfl]
  have hB6:Below W5.heap.size W5 W6:=(show Below W5.heap.size W5 W5.drew by (repeat' (first | (with_reducible exact Below.refl _ _) | (with_reducible refine Below.setCell ?_ (by (first | omega | (simp; done) | (simp; omega))) _) | (with_reducible refine Below.alloc ?_ (by (first | omega | (simp; done) | (simp; omega))) _) | (with_reducible refine Below.drew ?_) | (with_reducible refine below_drewN ?_ _)))).trans hb6
  have HB6:=Lib.hid hB6
  have HO6:=Lib.hid (HO5.out.below hB6)
  have HP6:=Lib.hid (HP5.out.below hB6)
  have HC6:=Lib.hid (HC5.out.below hB6)
  have HR6:=Lib.hid (Fr.below (fun k=>k = s + 1 ∨ k = s + 2) hB6)
  clear hb6 hB6
  try go_wp2_with fail
  refine hK.out _ _ (HO6.out) (fun hHeld=>?_)
  clear hK K
  refine wpAnyH_ready (rs:=[4]) (by kernel_rfl) (by simp) ?_
  refine AllReadyH.cons (o:=⟨none,_,_,_,_,_⟩) rfl (fun K hK=>?_) AllReadyH.nil
  have hp6:=HP6.out
  have hl6:=hp6.lt
  have v0:=hp6.cell (i:=0) rfl
  have v1:=hp6.cell (i:=1) rfl
  have v2:=hp6.cell (i:=2) rfl
  have y0:=hp6.frozen 0
  have y1:=hp6.frozen 1
  have y2:=hp6.frozen 2
  go_simp
  clear hp6 hl6 v0 v1 v2 y0 y1 y2
  refine hK.out _ _ (by have q:=HO6.out; (repeat' (first | (with_reducible exact q) | (with_reducible refine BlkP.Blk.drew ?_) | (with_reducible refine BlkP.Blk.drewN ?_ _) | (with_reducible refine BlkP.Blk.setAt (us:=?_) (by first | omega | (simp; done) | (simp; omega)) rfl ?_ ?_) | (with_reducible refine BlkP.Blk.otherAt ?_ (by first | omega | (simp; done) | (simp; omega))) | (with_reducible refine BlkP.Blk.newA' (by first | omega | (simp; done) | (simp; omega)) rfl) | (with_reducible refine BlkP.Blk.alloc ?_ _) | (exact rfl)))) (fun hHeld=>?_)
  clear hK K
  refine wpAnyH_ready (rs:=[5]) (by kernel_rfl) (by simp) ?_
  refine AllReadyH.cons (o:=⟨none,_,_,_,_,_⟩) rfl (fun K hK=>?_) AllReadyH.nil
  have hc6:=HC6.out
  have hm6:=hc6.lt
  have u0:=hc6.cell (i:=0) rfl
  have u1:=hc6.cell (i:=1) rfl
  have x0:=hc6.frozen 0
  have x1:=hc6.frozen 1
  go_simp
  clear hc6 hm6 u0 u1 x0 x1
  refine hK.out _ _ (by have q:=HO6.out; (repeat' (first | (with_reducible exact q) | (with_reducible refine BlkP.Blk.drew ?_) | (with_reducible refine BlkP.Blk.drewN ?_ _) | (with_reducible refine BlkP.Blk.setAt (us:=?_) (by first | omega | (simp; done) | (simp; omega)) rfl ?_ ?_) | (with_reducible refine BlkP.Blk.otherAt ?_ (by first | omega | (simp; done) | (simp; omega))) | (with_reducible refine BlkP.Blk.newA' (by first | omega | (simp; done) | (simp; omega)) rfl) | (with_reducible refine BlkP.Blk.alloc ?_ _) | (exact rfl)))) (fun hHeld=>?_)
  clear hK K
  refine wpAnyH_done (by kernel_rfl) ?_ _
  refine NoPanic.normal ?_
  clear hHeld
  refine HeldP.then_named (S:=fun W=>Blk W (s + 1) TP [.int .i64 ((plc f i).1),.int .i64 ((plc f i).2.1),.int .i64 ((plc f i).2.2)]∧Blk W (s + 2) TC [.int .u8 o1,.int .u8 o2]∧Fr (fun k=>k = s + 1 ∨ k = s + 2) W5 W) ⟨by have q:=HP6.out; (repeat' (first | (with_reducible exact q) | (with_reducible refine BlkP.Blk.drew ?_) | (with_reducible refine BlkP.Blk.drewN ?_ _) | (with_reducible refine BlkP.Blk.setAt (us:=?_) (by first | omega | (simp; done) | (simp; omega)) rfl ?_ ?_) | (with_reducible refine BlkP.Blk.otherAt ?_ (by first | omega | (simp; done) | (simp; omega))) | (with_reducible refine BlkP.Blk.newA' (by first | omega | (simp; done) | (simp; omega)) rfl) | (with_reducible refine BlkP.Blk.alloc ?_ _) | (exact rfl))),by have q:=HC6.out; (repeat' (first | (with_reducible exact q) | (with_reducible refine BlkP.Blk.drew ?_) | (with_reducible refine BlkP.Blk.drewN ?_ _) | (with_reducible refine BlkP.Blk.setAt (us:=?_) (by first | omega | (simp; done) | (simp; omega)) rfl ?_ ?_) | (with_reducible refine BlkP.Blk.otherAt ?_ (by first | omega | (simp; done) | (simp; omega))) | (with_reducible refine BlkP.Blk.newA' (by first | omega | (simp; done) | (simp; omega)) rfl) | (with_reducible refine BlkP.Blk.alloc ?_ _) | (exact rfl))),?_⟩ ?_
  ·refine HR6.out.trans (S':=fun k=>k = s + 1 ∨ k = s + 2) ?_ (fun _ h=>.inl h)
   repeat' (first | (with_reducible exact Fr.refl _ _) | (with_reducible refine Fr.drew ?_) | (refine Fr.trans (S':=fun k=>k = s + 1 ∨ k = s + 2) ?_ (Fr.set _ _ _ _ (by first | exact .inl rfl | exact .inr rfl)) (fun _ h=>.inl h)))
  rintro W7 ⟨hp7,hc7,hr7⟩
  have HR7:=Lib.hid hr7
  have p0:=hp7.cell (i:=0) rfl
  have p1:=hp7.cell (i:=1) rfl
  have p2:=hp7.cell (i:=2) rfl
  have p3:=hc7.cell (i:=0) rfl
  have p4:=hc7.cell (i:=1) rfl
  clear hr7
  go_wp2_with fail
  refine bodyPost_ret (v:=.tuple #[.agg #[.int .i64 ((plc f i).1),.int .i64 ((plc f i).2.1),.int .i64 ((plc f i).2.2)],.agg #[.int .u8 o1,.int .u8 o2]]) (by simp [results,Tryd.results12,go_sem,p0,p1,p2,p3,p4]) rfl ?_
  refine ⟨i,o1,o2,k,l,by rw [HN.out]; exact hin,HK.out,HO.out,rfl,HF5.out.fr HR7.out ?_ ?_ ?_ ?_ ?_,HR5.out.trans HR7.out (fun k hk=>.inr (by have:=HS.out; omega))⟩
  ·have h1:f.F < s:=HLS.out.1
   show ¬ (f.F = s + 1 ∨ f.F = s + 2)
   omega
  all_goals (intro k hk hs2; have h0:=HS.out)
  ·have:=(H.out.cs.ge k hk).2; omega
  ·have:=(H.out.ls.ge k hk).2; omega
  ·have:=(H.out.ak.ge k hk).2; omega
  ·have:=(H.out.ts.ge k hk).2; omega
 | false =>
  have y0:=HK3.out.cell (i:=0) rfl
  have y1:=HK3.out.cell (i:=1) rfl
  have yz:=HK3.out.frozen 0
  have yy:=HK3.out.frozen 1
  have yl:=HK3.out.lt
  go_wp2_with fail
  clear y0 y1 yz yy yl
  refine HeldP.wp_named (S:=fun W=>Below w.heap.size w W∧FldM W f∧Blk W (s + 1) TP [.int .i64 0,.int .i64 0,.int .i64 0]∧Blk W (s + 2) TC [.int .u8 0,.int .u8 0]∧Blk W (s + 3) TC [.int .u8 o1,.int .u8 o2]∧Blk W (s + 4) TC [.int .u8 0,.int .u8 0]) ⟨by have:=HS.out; have q:=HB3.out; (repeat' (first | (with_reducible exact Below.refl _ _) | (with_reducible refine Below.setCell ?_ (by (first | omega | (simp; done) | (simp; omega))) _) | (with_reducible refine Below.alloc ?_ (by (first | omega | (simp; done) | (simp; omega))) _) | (with_reducible refine Below.drew ?_) | (with_reducible refine below_drewN ?_ _) | (with_reducible refine Below.trans ?_ (Below.mono q (by (first | omega | (simp; done) | (simp; omega))))))),?_,by have q:=HP3.out; (repeat' (first | (with_reducible exact q) | (with_reducible refine BlkP.Blk.drew ?_) | (with_reducible refine BlkP.Blk.drewN ?_ _) | (with_reducible refine BlkP.Blk.setAt (us:=?_) (by first | omega | (simp; done) | (simp; omega)) rfl ?_ ?_) | (with_reducible refine BlkP.Blk.otherAt ?_ (by first | omega | (simp; done) | (simp; omega))) | (with_reducible refine BlkP.Blk.newA' (by first | omega | (simp; done) | (simp; omega)) rfl) | (with_reducible refine BlkP.Blk.alloc ?_ _) | (exact rfl))),by have q:=HC3.out; (repeat' (first | (with_reducible exact q) | (with_reducible refine BlkP.Blk.drew ?_) | (with_reducible refine BlkP.Blk.drewN ?_ _) | (with_reducible refine BlkP.Blk.setAt (us:=?_) (by first | omega | (simp; done) | (simp; omega)) rfl ?_ ?_) | (with_reducible refine BlkP.Blk.otherAt ?_ (by first | omega | (simp; done) | (simp; omega))) | (with_reducible refine BlkP.Blk.newA' (by first | omega | (simp; done) | (simp; omega)) rfl) | (with_reducible refine BlkP.Blk.alloc ?_ _) | (exact rfl))),by have q:=HO3.out; (repeat' (first | (with_reducible exact q) | (with_reducible refine BlkP.Blk.drew ?_) | (with_reducible refine BlkP.Blk.drewN ?_ _) | (with_reducible refine BlkP.Blk.setAt (us:=?_) (by first | omega | (simp; done) | (simp; omega)) rfl ?_ ?_) | (with_reducible refine BlkP.Blk.otherAt ?_ (by first | omega | (simp; done) | (simp; omega))) | (with_reducible refine BlkP.Blk.newA' (by first | omega | (simp; done) | (simp; omega)) rfl) | (with_reducible refine BlkP.Blk.alloc ?_ _) | (exact rfl))),by have q:=HK3.out; (repeat' (first | (with_reducible exact q) | (with_reducible refine BlkP.Blk.drew ?_) | (with_reducible refine BlkP.Blk.drewN ?_ _) | (with_reducible refine BlkP.Blk.setAt (us:=?_) (by first | omega | (simp; done) | (simp; omega)) rfl ?_ ?_) | (with_reducible refine BlkP.Blk.otherAt ?_ (by first | omega | (simp; done) | (simp; omega))) | (with_reducible refine BlkP.Blk.newA' (by first | omega | (simp; done) | (simp; omega)) rfl) | (with_reducible refine BlkP.Blk.alloc ?_ _) | (exact rfl)))⟩ ?_
  ·refine HF3.out.fr (S:=fun k=>k = s + 4) ?_ ?_ ?_ ?_ ?_ ?_
   ·repeat' (first | (with_reducible exact Fr.refl _ _) | (with_reducible refine Fr.drew ?_) | (refine Fr.trans (S':=fun k=>k = s + 4) ?_ (Fr.set _ _ _ _ rfl) (fun _ h=>.inl h)))
   ·have h1:f.F < s:=HLS.out.1
    show ¬ (f.F = s + 4)
    omega
   all_goals (intro k hk hs2; have hs2':k = s + 4:=hs2; have h0:=HS.out)
   ·have:=(H.out.cs.ge k hk).2; omega
   ·have:=(H.out.ls.ge k hk).2; omega
   ·have:=(H.out.ak.ge k hk).2; omega
   ·have:=(H.out.ts.ge k hk).2; omega
  rintro W4 ⟨hb4,hf4,hp4,hc4,ho4,hk4⟩
  have HB4:=Lib.hid hb4
  have HF4:=Lib.hid hf4
  have HP4:=Lib.hid hp4
  have HC4:=Lib.hid hc4
  have HO4:=Lib.hid ho4
  have HK4:=Lib.hid hk4
  have hcF:W4.cell? ⟨f.F,6,none⟩ = some (.slice (some ⟨gC,0,none⟩) n cC):=(hf4.blk.cell (i:=6) (v:=f.vC) rfl).trans (congrArg some HVC.out)
  have HCF:=Lib.hid hcF
  have HOC4:=Lib.hid (show RowG.Own enc2 TC W4 0 (.slice (some ⟨gC,0,none⟩) n cC) f.cs from HVC.out ▸ hf4.cs)
  have hsg:s + 4 ≠ gC:=by have:=HLS.out; omega
  clear hb4 hf4 hp4 hc4 ho4 hk4 hcF HF3 HP3 HC3 HO3 HK3 HB3
  refine wp_region_noPanic ?_
  refine wp_region_held_drew (S:=fun Xw=>Xw.cell? ⟨f.F,6,none⟩ = some (.slice (some ⟨gC,0,none⟩) n cC)∧Blk Xw (s + 4) TC [.int .u8 0,.int .u8 0]) (by kernel_rfl) (⟨HCF.out,HK4.out⟩) (fun hHeld=>?_)
  refine wpAnyH_take (i:=0) (oi:=⟨some 33,_,_,_,_,_⟩) (v:=.pointer (some ⟨f.F,0,none⟩)) rfl (by kernel_rfl) (by kernel_rfl) (by kernel_rfl) (fun _ _ _ h=>h) (Or.inl ⟨by rfl,fun Xw hSW=>by go_simp⟩) hHeld ?_
  simp only [Act.put,List.setIfInBounds_toArray,List.set_cons_zero,List.set_cons_succ]
  refine wpAnyH_take (i:=1) (oi:=⟨some 34,_,_,_,_,_⟩) (v:=.pointer (some ⟨f.F,0,none⟩)) rfl (by kernel_rfl) (by kernel_rfl) (by kernel_rfl) (fun _ _ _ h=>h) (Or.inl ⟨by rfl,fun Xw hSW=>by go_simp⟩) hHeld ?_
  simp only [Act.put,List.setIfInBounds_toArray,List.set_cons_zero,List.set_cons_succ]
  refine wpAnyH_take (i:=2) (oi:=⟨some 35,_,_,_,_,_⟩) (v:=.pointer (some ⟨f.F,3,none⟩)) rfl (by kernel_rfl) (by kernel_rfl) (by kernel_rfl) (fun _ _ _ h=>h) (Or.inl ⟨by rfl,fun Xw hSW=>by go_simp⟩) hHeld ?_
  simp only [Act.put,List.setIfInBounds_toArray,List.set_cons_zero,List.set_cons_succ]
  refine wpAnyH_take (i:=3) (oi:=⟨some 36,_,_,_,_,_⟩) (v:=.pointer (some ⟨f.F,6,none⟩)) rfl (by kernel_rfl) (by kernel_rfl) (by kernel_rfl) (fun _ _ _ h=>h) (Or.inl ⟨by rfl,fun Xw hSW=>by go_simp⟩) hHeld ?_
  simp only [Act.put,List.setIfInBounds_toArray,List.set_cons_zero,List.set_cons_succ]
  refine wpAnyH_take (i:=4) (oi:=⟨some 37,_,_,_,_,_⟩) (v:=.slice (some ⟨gC,0,none⟩) n cC) rfl (by kernel_rfl) (by kernel_rfl) (by kernel_rfl) (fun _ _ _ h=>h) (Or.inl ⟨by rfl,fun Xw hSW=>by have q:=hSW.1; go_simp⟩) hHeld ?_
  simp only [Act.put,List.setIfInBounds_toArray,List.set_cons_zero,List.set_cons_succ]
  refine wpAnyH_take (i:=5) (oi:=⟨some 38,_,_,_,_,_⟩) (v:=.int .i64 (i:Int)) rfl (by kernel_rfl) (by kernel_rfl) (by kernel_rfl) (fun _ _ _ h=>h) (Or.inl ⟨by rfl,fun Xw hSW=>by go_simp⟩) hHeld ?_
  simp only [Act.put,List.setIfInBounds_toArray,List.set_cons_zero,List.set_cons_succ]
  refine wpAnyH_take (i:=6) (oi:=⟨some 39,_,_,_,_,_⟩) (v:=.agg #[.int .u8 0,.int .u8 0]) rfl (by kernel_rfl) (by kernel_rfl) (by kernel_rfl) (fun _ _ _ h=>h) (Or.inl ⟨by rfl,fun Xw hSW=>by have a0:=hSW.2.cell (i:=0) rfl; have a1:=hSW.2.cell (i:=1) rfl; go_simp⟩) hHeld ?_
  simp only [Act.put,List.setIfInBounds_toArray,List.set_cons_zero,List.set_cons_succ]
  refine wpAnyH_take (i:=7) (oi:=⟨some 40,_,_,_,_,_⟩) (v:=.pointer (some ⟨gC,i * 2,none⟩)) rfl (by kernel_rfl) (by kernel_rfl) (by kernel_rfl) (fun _ _ _ h=>h) (Or.inl ⟨by rfl,fun Xw hSW=>by go_simp⟩) hHeld ?_
  simp only [Act.put,List.setIfInBounds_toArray,List.set_cons_zero,List.set_cons_succ]
  refine wpAnyH_ready (rs:=[8]) (by kernel_rfl) (by simp) ?_
  refine AllReadyH.cons (o:=⟨none,_,_,_,_,_⟩) rfl (fun K hK=>?_) AllReadyH.nil
  have g0:W4.cell? ⟨gC,i * 2,none⟩ = some (.int .u8 (o1:Int)):=HOC4.out.cell (j:=0) HO.out rfl
  have g1:W4.cell? ⟨gC,i * 2 + 1,none⟩ = some (.int .u8 (o2:Int)):=HOC4.out.cell (j:=1) HO.out rfl
  have z0:=HOC4.out.frozen (i * 2)
  have z1:=HOC4.out.frozen (i * 2 + 1)
  have hgf:gC ≠ f.F:=fun e=>HFG.out e.symm
  go_simp
  refine hK.out _ _ (⟨by have q:=HCF.out; (repeat' (first | (with_reducible assumption) | (with_reducible refine HeldP.c_drew ?_) | (with_reducible refine HeldP.c_drewN ?_) | (with_reducible refine HeldP.c_same (by omega) ?_) | (with_reducible refine HeldP.c_other ?_ ?_) | (with_reducible refine HeldP.c_new (by first | omega | (simp; done) | (simp; omega)) ?_) | (with_reducible refine HeldP.c_alloc ?_ ?_) | (with_reducible refine HeldP.e_drew ?_) | (with_reducible refine HeldP.e_drewN ?_) | (with_reducible refine HeldP.e_set ?_) | (with_reducible refine HeldP.e_new (by first | omega | (simp; done) | (simp; omega)) ⟨_,rfl⟩) | (with_reducible refine HeldP.e_alloc ?_ ?_) | (with_reducible refine HeldP.f_drew ?_) | (with_reducible refine HeldP.f_drewN ?_) | (with_reducible refine HeldP.f_set ?_) | (with_reducible refine HeldP.f_new (by first | omega | (simp; done) | (simp; omega))) | (with_reducible refine HeldP.f_alloc ?_ ?_) | (with_reducible refine HeldP.s_drew ?_) | (with_reducible refine HeldP.s_drewN ?_) | (with_reducible refine HeldP.s_set ?_) | (with_reducible refine HeldP.s_new (by first | omega | (simp; done) | (simp; omega))) | (with_reducible refine HeldP.s_alloc ?_) | (with_reducible exact ⟨_,by assumption⟩) | omega | (intro e; simp at e; done) | (intro e; simp at e; omega) | (exact rfl) | (simp; done) | (simp; omega))),by have q:=HK4.out; (repeat' (first | (with_reducible exact q) | (with_reducible refine BlkP.Blk.drew ?_) | (with_reducible refine BlkP.Blk.drewN ?_ _) | (with_reducible refine BlkP.Blk.setAt (us:=?_) (by first | omega | (simp; done) | (simp; omega)) rfl ?_ ?_) | (with_reducible refine BlkP.Blk.otherAt ?_ (by first | omega | (simp; done) | (simp; omega))) | (with_reducible refine BlkP.Blk.newA' (by first | omega | (simp; done) | (simp; omega)) rfl) | (with_reducible refine BlkP.Blk.alloc ?_ _) | (exact rfl)))⟩) (fun hHeld=>?_)
  clear hK K
  refine wpAnyH_done (by kernel_rfl) ?_ _
  refine NoPanic.normal ?_
  clear hHeld
  have hput:=FldM.putM HF4.out HVC.out HO.out 0 0
  refine HeldP.then_named (S:=fun W=>Fr (fun k=>f.vC.ownBlock = some k) w W∧FldM W (f.put i (0,0))∧Blk W (s + 1) TP [.int .i64 0,.int .i64 0,.int .i64 0]∧Blk W (s + 2) TC [.int .u8 0,.int .u8 0]∧Blk W (s + 3) TC [.int .u8 o1,.int .u8 o2]∧s + 3 < W.heap.size) ⟨(Fr.below _ HB4.out).trans (hput.2.drew) (fun j hj=>.inl (by
   have hj':j = gC:=hj
   rw [hj',HVC.out]
   rfl)),hput.1.below (by first | exact Below.refl _ _ | exact (Below.refl _ _).drew),?_,?_,?_,by simpa using HO4.out.lt⟩ ?_
  ·have q:=HP4.out
   have hl:=HLS.out
   (repeat' (first | (with_reducible exact q) | (with_reducible refine BlkP.Blk.drew ?_) | (with_reducible refine BlkP.Blk.drewN ?_ _) | (with_reducible refine BlkP.Blk.setAt (us:=?_) (by first | omega | (simp; done) | (simp; omega)) rfl ?_ ?_) | (with_reducible refine BlkP.Blk.otherAt ?_ (by first | omega | (simp; done) | (simp; omega))) | (with_reducible refine BlkP.Blk.newA' (by first | omega | (simp; done) | (simp; omega)) rfl) | (with_reducible refine BlkP.Blk.alloc ?_ _) | (exact rfl)))
  ·have q:=HC4.out
   have hl:=HLS.out
   (repeat' (first | (with_reducible exact q) | (with_reducible refine BlkP.Blk.drew ?_) | (with_reducible refine BlkP.Blk.drewN ?_ _) | (with_reducible refine BlkP.Blk.setAt (us:=?_) (by first | omega | (simp; done) | (simp; omega)) rfl ?_ ?_) | (with_reducible refine BlkP.Blk.otherAt ?_ (by first | omega | (simp; done) | (simp; omega))) | (with_reducible refine BlkP.Blk.newA' (by first | omega | (simp; done) | (simp; omega)) rfl) | (with_reducible refine BlkP.Blk.alloc ?_ _) | (exact rfl)))
  ·have q:=HO4.out
   have hl:=HLS.out
   (repeat' (first | (with_reducible exact q) | (with_reducible refine BlkP.Blk.drew ?_) | (with_reducible refine BlkP.Blk.drewN ?_ _) | (with_reducible refine BlkP.Blk.setAt (us:=?_) (by first | omega | (simp; done) | (simp; omega)) rfl ?_ ?_) | (with_reducible refine BlkP.Blk.otherAt ?_ (by first | omega | (simp; done) | (simp; omega))) | (with_reducible refine BlkP.Blk.newA' (by first | omega | (simp; done) | (simp; omega)) rfl) | (with_reducible refine BlkP.Blk.alloc ?_ _) | (exact rfl)))
  rintro W5 ⟨hr5,hf5,hp5,hc5,ho5,hz5⟩
  have HR5:=Lib.hid hr5
  have HF5:=Lib.hid hf5
  have HP5:=Lib.hid hp5
  have HC5:=Lib.hid hc5
  have HO5:=Lib.hid ho5
  have HZ5:=Lib.hid hz5
  have HFC:=Lib.hid (put_c (i:=i) (c:=(0,0)) HW.out ⟨by decide,by decide⟩)
  clear hput hr5 hf5 hp5 hc5 ho5 hz5 HF4 HP4 HC4 HO4 HK4 HB4 HCF HOC4 hsg
  go_wp2_with fail
  refine wp_region_noPanic ?_
  refine wp_region_held_drew (S:=fun Xw=>Blk Xw (s + 3) TC [.int .u8 o1,.int .u8 o2]) (by kernel_rfl) (HO5.out) (fun hHeld=>?_)
  refine wpAnyH_take (i:=0) (oi:=⟨some 41,_,_,_,_,_⟩) (v:=.pointer (some ⟨f.F,0,none⟩)) rfl (by kernel_rfl) (by kernel_rfl) (by kernel_rfl) (fun _ _ _ h=>h) (Or.inl ⟨by rfl,fun Xw hSW=>by go_simp⟩) hHeld ?_
  simp only [Act.put,List.setIfInBounds_toArray,List.set_cons_zero,List.set_cons_succ]
  refine wpAnyH_take (i:=1) (oi:=⟨some 42,_,_,_,_,_⟩) (v:=.int .i64 (i:Int)) rfl (by kernel_rfl) (by kernel_rfl) (by kernel_rfl) (fun _ _ _ h=>h) (Or.inl ⟨by rfl,fun Xw hSW=>by go_simp⟩) hHeld ?_
  simp only [Act.put,List.setIfInBounds_toArray,List.set_cons_zero,List.set_cons_succ]
  refine wpAnyH_take (i:=3) (oi:=⟨some 44,_,_,_,_,_⟩) (v:=.agg #[.int .u8 o1,.int .u8 o2]) rfl (by kernel_rfl) (by kernel_rfl) (by kernel_rfl) (fun _ _ _ h=>h) (Or.inl ⟨by rfl,fun Xw hSW=>by have a0:=hSW.cell (i:=0) rfl; have a1:=hSW.cell (i:=1) rfl; go_simp⟩) hHeld ?_
  simp only [Act.put,List.setIfInBounds_toArray,List.set_cons_zero,List.set_cons_succ]
  refine wpAnyH_ready (rs:=[2]) (by kernel_rfl) (by simp) ?_
  refine AllReadyH.cons (o:=⟨some 43,_,_,_,_,_⟩) rfl (fun K hK=>?_) AllReadyH.nil
  go_simp
  refine (at_c (w:=W5.drew) (i:=i) (HF5.out.below (by (repeat' (first | (with_reducible exact Below.refl _ _) | (with_reducible refine Below.setCell ?_ (by (first | omega | (simp; done) | (simp; omega))) _) | (with_reducible refine Below.alloc ?_ (by (first | omega | (simp; done) | (simp; omega))) _) | (with_reducible refine Below.drew ?_) | (with_reducible refine below_drewN ?_ _))))) HFC.out (by rw [show (f.put i (0,0)).X * (f.put i (0,0)).Y * (f.put i (0,0)).Z = n from HN.out]; exact hin)).mono ?_
  rintro e W6 ⟨rfl,hb6⟩
  rw [show plc (f.put i (0,0)) i = plc f i from rfl]
  have hB6:Below W5.heap.size W5 W6:=(show Below W5.heap.size W5 W5.drew by (repeat' (first | (with_reducible exact Below.refl _ _) | (with_reducible refine Below.setCell ?_ (by (first | omega | (simp; done) | (simp; omega))) _) | (with_reducible refine Below.alloc ?_ (by (first | omega | (simp; done) | (simp; omega))) _) | (with_reducible refine Below.drew ?_) | (with_reducible refine below_drewN ?_ _)))).trans hb6
  have HB6:=Lib.hid hB6
  have HO6:=Lib.hid (HO5.out.below hB6)
  have HP6:=Lib.hid (HP5.out.below hB6)
  have HC6:=Lib.hid (HC5.out.below hB6)
  have HR6:=Lib.hid (Fr.below (fun k=>k = s + 1 ∨ k = s + 2) hB6)
  clear hb6 hB6
  try go_wp2_with fail
  refine hK.out _ _ (HO6.out) (fun hHeld=>?_)
  clear hK K
  refine wpAnyH_ready (rs:=[4]) (by kernel_rfl) (by simp) ?_
  refine AllReadyH.cons (o:=⟨none,_,_,_,_,_⟩) rfl (fun K hK=>?_) AllReadyH.nil
  have hp6:=HP6.out
  have hl6:=hp6.lt
  have v0:=hp6.cell (i:=0) rfl
  have v1:=hp6.cell (i:=1) rfl
  have v2:=hp6.cell (i:=2) rfl
  have y0:=hp6.frozen 0
  have y1:=hp6.frozen 1
  have y2:=hp6.frozen 2
  go_simp
  clear hp6 hl6 v0 v1 v2 y0 y1 y2
  refine hK.out _ _ (by have q:=HO6.out; (repeat' (first | (with_reducible exact q) | (with_reducible refine BlkP.Blk.drew ?_) | (with_reducible refine BlkP.Blk.drewN ?_ _) | (with_reducible refine BlkP.Blk.setAt (us:=?_) (by first | omega | (simp; done) | (simp; omega)) rfl ?_ ?_) | (with_reducible refine BlkP.Blk.otherAt ?_ (by first | omega | (simp; done) | (simp; omega))) | (with_reducible refine BlkP.Blk.newA' (by first | omega | (simp; done) | (simp; omega)) rfl) | (with_reducible refine BlkP.Blk.alloc ?_ _) | (exact rfl)))) (fun hHeld=>?_)
  clear hK K
  refine wpAnyH_ready (rs:=[5]) (by kernel_rfl) (by simp) ?_
  refine AllReadyH.cons (o:=⟨none,_,_,_,_,_⟩) rfl (fun K hK=>?_) AllReadyH.nil
  have hc6:=HC6.out
  have hm6:=hc6.lt
  have u0:=hc6.cell (i:=0) rfl
  have u1:=hc6.cell (i:=1) rfl
  have x0:=hc6.frozen 0
  have x1:=hc6.frozen 1
  go_simp
  clear hc6 hm6 u0 u1 x0 x1
  refine hK.out _ _ (by have q:=HO6.out; (repeat' (first | (with_reducible exact q) | (with_reducible refine BlkP.Blk.drew ?_) | (with_reducible refine BlkP.Blk.drewN ?_ _) | (with_reducible refine BlkP.Blk.setAt (us:=?_) (by first | omega | (simp; done) | (simp; omega)) rfl ?_ ?_) | (with_reducible refine BlkP.Blk.otherAt ?_ (by first | omega | (simp; done) | (simp; omega))) | (with_reducible refine BlkP.Blk.newA' (by first | omega | (simp; done) | (simp; omega)) rfl) | (with_reducible refine BlkP.Blk.alloc ?_ _) | (exact rfl)))) (fun hHeld=>?_)
  clear hK K
  refine wpAnyH_done (by kernel_rfl) ?_ _
  refine NoPanic.normal ?_
  clear hHeld
  refine HeldP.then_named (S:=fun W=>Blk W (s + 1) TP [.int .i64 ((plc f i).1),.int .i64 ((plc f i).2.1),.int .i64 ((plc f i).2.2)]∧Blk W (s + 2) TC [.int .u8 o1,.int .u8 o2]∧Fr (fun k=>k = s + 1 ∨ k = s + 2) W5 W) ⟨by have q:=HP6.out; (repeat' (first | (with_reducible exact q) | (with_reducible refine BlkP.Blk.drew ?_) | (with_reducible refine BlkP.Blk.drewN ?_ _) | (with_reducible refine BlkP.Blk.setAt (us:=?_) (by first | omega | (simp; done) | (simp; omega)) rfl ?_ ?_) | (with_reducible refine BlkP.Blk.otherAt ?_ (by first | omega | (simp; done) | (simp; omega))) | (with_reducible refine BlkP.Blk.newA' (by first | omega | (simp; done) | (simp; omega)) rfl) | (with_reducible refine BlkP.Blk.alloc ?_ _) | (exact rfl))),by have q:=HC6.out; (repeat' (first | (with_reducible exact q) | (with_reducible refine BlkP.Blk.drew ?_) | (with_reducible refine BlkP.Blk.drewN ?_ _) | (with_reducible refine BlkP.Blk.setAt (us:=?_) (by first | omega | (simp; done) | (simp; omega)) rfl ?_ ?_) | (with_reducible refine BlkP.Blk.otherAt ?_ (by first | omega | (simp; done) | (simp; omega))) | (with_reducible refine BlkP.Blk.newA' (by first | omega | (simp; done) | (simp; omega)) rfl) | (with_reducible refine BlkP.Blk.alloc ?_ _) | (exact rfl))),?_⟩ ?_
  ·refine HR6.out.trans (S':=fun k=>k = s + 1 ∨ k = s + 2) ?_ (fun _ h=>.inl h)
   repeat' (first | (with_reducible exact Fr.refl _ _) | (with_reducible refine Fr.drew ?_) | (refine Fr.trans (S':=fun k=>k = s + 1 ∨ k = s + 2) ?_ (Fr.set _ _ _ _ (by first | exact .inl rfl | exact .inr rfl)) (fun _ h=>.inl h)))
  rintro W7 ⟨hp7,hc7,hr7⟩
  have HR7:=Lib.hid hr7
  have p0:=hp7.cell (i:=0) rfl
  have p1:=hp7.cell (i:=1) rfl
  have p2:=hp7.cell (i:=2) rfl
  have p3:=hc7.cell (i:=0) rfl
  have p4:=hc7.cell (i:=1) rfl
  clear hr7
  go_wp2_with fail
  refine bodyPost_ret (v:=.tuple #[.agg #[.int .i64 ((plc f i).1),.int .i64 ((plc f i).2.1),.int .i64 ((plc f i).2.2)],.agg #[.int .u8 o1,.int .u8 o2]]) (by simp [results,Tryd.results12,go_sem,p0,p1,p2,p3,p4]) rfl ?_
  refine ⟨i,o1,o2,0,0,by rw [HN.out]; exact hin,⟨by decide,by decide⟩,HO.out,rfl,HF5.out.fr HR7.out ?_ ?_ ?_ ?_ ?_,HR5.out.trans HR7.out (fun k hk=>.inr (by have:=HS.out; omega))⟩
  ·have h1:f.F < s:=HLS.out.1
   show ¬ (f.F = s + 1 ∨ f.F = s + 2)
   omega
  all_goals (intro k hk hs2; have h0:=HS.out)
  ·have:=(H.out.cs.ge k hk).2; omega
  ·have:=(H.out.ls.ge k hk).2; omega
  ·have:=(H.out.ak.ge k hk).2; omega
  ·have:=(H.out.ts.ge k hk).2; omega
end FloodW
end Go.Proofs.YtpimkdaikoclnaaDoor
namespace Go.Proofs.YtpimkdaikoclnaaDoor
open Go.RowKit
set_option linter.unusedVariables false
set_option linter.unusedSimpArgs false
namespace FloodW
open BlkP RowG GlowW FloodP
def wideP (q:V):Prop:=-2000000≤q.1∧q.1≤2000000∧-2000000≤q.2.1∧q.2.1≤2000000∧-2000000≤q.2.2∧q.2.2≤2000000
theorem may_wide {q:V} (h:mayP q):wideP q:=by
 unfold mayP at h
 unfold wideP
 omega
set_option maxRecDepth 100000 in
set_option maxHeartbeats 16000000 in
theorem farw_c {w:World} {a b:V} (ha:wideP a) (hb:wideP b):Calls Tryd.prog 32 #[.agg #[.int .i64 a.1,.int .i64 a.2.1,.int .i64 a.2.2],.agg #[.int .i64 b.1,.int .i64 b.2.1,.int .i64 b.2.2]] w fun e w'=>e = .returned (.int .i64 (farI a b:Nat))∧Below w.heap.size w w':=by
 unfold wideP at ha hb
 obtain ⟨d0,hd0⟩:∃ d,a.1 - b.1 = d:=⟨_,rfl⟩
 obtain ⟨d1,hd1⟩:∃ d,a.2.1 - b.2.1 = d:=⟨_,rfl⟩
 obtain ⟨d2,hd2⟩:∃ d,a.2.2 - b.2.2 = d:=⟨_,rfl⟩
 have HE:=Lib.hid (show farI a b = sumD 3 d0 d1 d2 by
  unfold farI gapZ sumD
  rw [hd0,hd1,hd2]
  rfl)
 have B0:-4000000≤d0∧d0≤4000000:=by omega
 have B1:-4000000≤d1∧d1≤4000000:=by omega
 have B2:-4000000≤d2∧d2≤4000000:=by omega
 have S0:=Lib.hid (wrF hd0 (by omega) (by omega))
 have S1:=Lib.hid (wrF hd1 (by omega) (by omega))
 have S2:=Lib.hid (wrF hd2 (by omega) (by omega))
 clear hd0 hd1 hd2 ha hb
 go_enter Tryd.func32,Tryd.ntmps32
 go_wp2_with fail
 go_loopw [5,7] (fun v5 v7 wr=>FarRel w (w.heap.size + 2) d0 d1 d2 v5 v7 wr) (fun _ v _=>3 - (intOf v).toNat)
 case atStart=>exact ⟨0,by omega,rfl,rfl,by rw [dif_ge (by omega),dif_ge (by omega),dif_ge (by omega),← S0.out,← S1.out,← S2.out]; (repeat' (first | (with_reducible refine BlkP.Blk.drew ?_) | (with_reducible refine BlkP.Blk.drewN ?_ _) | (with_reducible refine BlkP.Blk.setAt (us:=?_) (by first | omega | (simp; done) | (simp; omega)) rfl ?_ ?_) | (with_reducible refine BlkP.Blk.otherAt ?_ (by first | omega | (simp; done) | (simp; omega))) | (with_reducible refine BlkP.Blk.newA' (by first | omega | (simp; done) | (simp; omega)) rfl) | (with_reducible refine BlkP.Blk.alloc ?_ _) | (exact rfl))),by (repeat' (first | (with_reducible exact Below.refl _ _) | (with_reducible refine Below.setCell ?_ (by (first | omega | (simp; done) | (simp; omega))) _) | (with_reducible refine Below.alloc ?_ (by (first | omega | (simp; done) | (simp; omega))) _) | (with_reducible refine Below.drew ?_) | (with_reducible refine below_drewN ?_ _)))⟩
 case round =>
  obtain ⟨k,hk,rfl,rfl,hd,hbl⟩:=hrel
  have HD:=Lib.hid hd
  have HB:=Lib.hid hbl
  clear hd hbl
  by_cases h3:k = 3
  ·subst h3
   go_wp2
   go_ret
   exact ⟨by rw [HE.out]; rfl,HB.out.trans (by (repeat' (first | (with_reducible exact Below.refl _ _) | (with_reducible refine Below.setCell ?_ (by (first | omega | (simp; done) | (simp; omega))) _) | (with_reducible refine Below.alloc ?_ (by (first | omega | (simp; done) | (simp; omega))) _) | (with_reducible refine Below.drew ?_) | (with_reducible refine below_drewN ?_ _))))⟩
  ·have hk3:k = 0 ∨ k = 1 ∨ k = 2:=by omega
   clear hk h3
   rcases hk3 with rfl | rfl | rfl
   ·have c0:=HD.out.cell (i:=0) (v:=.int .i64 (dif 0 0 d0)) rfl
    have c1:=HD.out.cell (i:=1) (v:=.int .i64 (dif 0 1 d1)) rfl
    have c2:=HD.out.cell (i:=2) (v:=.int .i64 (dif 0 2 d2)) rfl
    have z0:=HD.out.frozen 0
    have hbz:=HD.out.lt
    obtain ⟨n,hn⟩:∃ n:Nat,d0.natAbs = n:=⟨_,rfl⟩
    obtain ⟨s,hs⟩:∃ s:Nat,sumD 0 d0 d1 d2 = s:=⟨_,rfl⟩
    have hsb:s≤12000000:=by rw [← hs]; unfold sumD; split <;> split <;> split <;> omega
    have hnx:sumD 1 d0 d1 d2 = s + n:=by rw [← hs,← hn]; unfold sumD; simp; try omega
    have HNX:=Lib.hid hnx
    have AS:=Lib.hid (wrF (a:=(s:Int) + (n:Int)) (c:=((s + n:Nat):Int)) (by omega) (by omega) (by omega))
    rw [hs]
    clear hnx hs
    rw [dif_ge (k:=0) (j:=0) (by omega)] at c0
    by_cases hneg:d0 < 0
    ·have hng:-d0 = (n:Int):=by omega
     have NR:=Lib.hid (wrF hng (by omega) (by omega))
     have HND:=Lib.hid hng
     clear hng
     clear hn
     go_wp2
     go_roundw
     case rel=>exact ⟨1,by omega,rfl,by
      have e1:=HND.out
      rw [HNX.out]
      congr 1
      omega,by
      have q:=(HD.out.set 0 (.int .i64 (-d0)))
      have e:([.int .i64 (dif 0 0 d0),.int .i64 (dif 0 1 d1),.int .i64 (dif 0 2 d2)]:List Value).set 0 (.int .i64 (-d0)) = [.int .i64 (dif 1 0 d0),.int .i64 (dif 1 1 d1),.int .i64 (dif 1 2 d2)]:=by
       have e0:(d0.natAbs:Int) = -d0:=by omega
       simp [dif,e0]
      rw [e] at q
      exact q,HB.out.trans (by (repeat' (first | (with_reducible exact Below.refl _ _) | (with_reducible refine Below.setCell ?_ (by (first | omega | (simp; done) | (simp; omega))) _) | (with_reducible refine Below.alloc ?_ (by (first | omega | (simp; done) | (simp; omega))) _) | (with_reducible refine Below.drew ?_) | (with_reducible refine below_drewN ?_ _))))⟩
     case measure=>simp [intOf]
    ·have HND:=Lib.hid (show (n:Int) = d0 by omega)
     have hdn:d0 = (n:Int):=by omega
     rw [hdn] at c0
     have hneg2:¬ (n:Int) < 0:=by omega
     clear hn hneg hdn
     go_wp2
     go_roundw
     case rel=>exact ⟨1,by omega,rfl,by rw [HNX.out,← AS.out],by
      have q:=HD.out
      have e:([.int .i64 (dif 0 0 d0),.int .i64 (dif 0 1 d1),.int .i64 (dif 0 2 d2)]:List Value) = [.int .i64 (dif 1 0 d0),.int .i64 (dif 1 1 d1),.int .i64 (dif 1 2 d2)]:=by
       have e0:(d0.natAbs:Int) = d0:=by have:=HND.out; omega
       simp [dif,e0]
      rw [e] at q
      exact q,HB.out⟩
     case measure=>simp [intOf]
   ·have c0:=HD.out.cell (i:=0) (v:=.int .i64 (dif 1 0 d0)) rfl
    have c1:=HD.out.cell (i:=1) (v:=.int .i64 (dif 1 1 d1)) rfl
    have c2:=HD.out.cell (i:=2) (v:=.int .i64 (dif 1 2 d2)) rfl
    have z0:=HD.out.frozen 1
    have hbz:=HD.out.lt
    obtain ⟨n,hn⟩:∃ n:Nat,d1.natAbs = n:=⟨_,rfl⟩
    obtain ⟨s,hs⟩:∃ s:Nat,sumD 1 d0 d1 d2 = s:=⟨_,rfl⟩
    have hsb:s≤12000000:=by rw [← hs]; unfold sumD; split <;> split <;> split <;> omega
    have hnx:sumD 2 d0 d1 d2 = s + n:=by rw [← hs,← hn]; unfold sumD; simp; try omega
    have HNX:=Lib.hid hnx
    have AS:=Lib.hid (wrF (a:=(s:Int) + (n:Int)) (c:=((s + n:Nat):Int)) (by omega) (by omega) (by omega))
    rw [hs]
    clear hnx hs
    rw [dif_ge (k:=1) (j:=1) (by omega)] at c1
    by_cases hneg:d1 < 0
    ·have hng:-d1 = (n:Int):=by omega
     have NR:=Lib.hid (wrF hng (by omega) (by omega))
     have HND:=Lib.hid hng
     clear hng
     clear hn
     go_wp2
     go_roundw
     case rel=>exact ⟨2,by omega,rfl,by
      have e1:=HND.out
      rw [HNX.out]
      congr 1
      omega,by
      have q:=(HD.out.set 1 (.int .i64 (-d1)))
      have e:([.int .i64 (dif 1 0 d0),.int .i64 (dif 1 1 d1),.int .i64 (dif 1 2 d2)]:List Value).set 1 (.int .i64 (-d1)) = [.int .i64 (dif 2 0 d0),.int .i64 (dif 2 1 d1),.int .i64 (dif 2 2 d2)]:=by
       have e0:(d1.natAbs:Int) = -d1:=by omega
       simp [dif,e0]
      rw [e] at q
      exact q,HB.out.trans (by (repeat' (first | (with_reducible exact Below.refl _ _) | (with_reducible refine Below.setCell ?_ (by (first | omega | (simp; done) | (simp; omega))) _) | (with_reducible refine Below.alloc ?_ (by (first | omega | (simp; done) | (simp; omega))) _) | (with_reducible refine Below.drew ?_) | (with_reducible refine below_drewN ?_ _))))⟩
     case measure=>simp [intOf]
    ·have HND:=Lib.hid (show (n:Int) = d1 by omega)
     have hdn:d1 = (n:Int):=by omega
     rw [hdn] at c1
     have hneg2:¬ (n:Int) < 0:=by omega
     clear hn hneg hdn
     go_wp2
     go_roundw
     case rel=>exact ⟨2,by omega,rfl,by rw [HNX.out,← AS.out],by
      have q:=HD.out
      have e:([.int .i64 (dif 1 0 d0),.int .i64 (dif 1 1 d1),.int .i64 (dif 1 2 d2)]:List Value) = [.int .i64 (dif 2 0 d0),.int .i64 (dif 2 1 d1),.int .i64 (dif 2 2 d2)]:=by
       have e0:(d1.natAbs:Int) = d1:=by have:=HND.out; omega
       simp [dif,e0]
      rw [e] at q
      exact q,HB.out⟩
     case measure=>simp [intOf]
   ·have c0:=HD.out.cell (i:=0) (v:=.int .i64 (dif 2 0 d0)) rfl
    have c1:=HD.out.cell (i:=1) (v:=.int .i64 (dif 2 1 d1)) rfl
    have c2:=HD.out.cell (i:=2) (v:=.int .i64 (dif 2 2 d2)) rfl
    have z0:=HD.out.frozen 2
    have hbz:=HD.out.lt
    obtain ⟨n,hn⟩:∃ n:Nat,d2.natAbs = n:=⟨_,rfl⟩
    obtain ⟨s,hs⟩:∃ s:Nat,sumD 2 d0 d1 d2 = s:=⟨_,rfl⟩
    have hsb:s≤12000000:=by rw [← hs]; unfold sumD; split <;> split <;> split <;> omega
    have hnx:sumD 3 d0 d1 d2 = s + n:=by rw [← hs,← hn]; unfold sumD; simp; try omega
    have HNX:=Lib.hid hnx
    have AS:=Lib.hid (wrF (a:=(s:Int) + (n:Int)) (c:=((s + n:Nat):Int)) (by omega) (by omega) (by omega))
    rw [hs]
    clear hnx hs
    rw [dif_ge (k:=2) (j:=2) (by omega)] at c2
    by_cases hneg:d2 < 0
    ·have hng:-d2 = (n:Int):=by omega
     have NR:=Lib.hid (wrF hng (by omega) (by omega))
     have HND:=Lib.hid hng
     clear hng
     clear hn
     go_wp2
     go_roundw
     case rel=>exact ⟨3,by omega,rfl,by
      have e1:=HND.out
      rw [HNX.out]
      congr 1
      omega,by
      have q:=(HD.out.set 2 (.int .i64 (-d2)))
      have e:([.int .i64 (dif 2 0 d0),.int .i64 (dif 2 1 d1),.int .i64 (dif 2 2 d2)]:List Value).set 2 (.int .i64 (-d2)) = [.int .i64 (dif 3 0 d0),.int .i64 (dif 3 1 d1),.int .i64 (dif 3 2 d2)]:=by
       have e0:(d2.natAbs:Int) = -d2:=by omega
       simp [dif,e0]
      rw [e] at q
      exact q,HB.out.trans (by (repeat' (first | (with_reducible exact Below.refl _ _) | (with_reducible refine Below.setCell ?_ (by (first | omega | (simp; done) | (simp; omega))) _) | (with_reducible refine Below.alloc ?_ (by (first | omega | (simp; done) | (simp; omega))) _) | (with_reducible refine Below.drew ?_) | (with_reducible refine below_drewN ?_ _))))⟩
     case measure=>simp [intOf]
    ·have HND:=Lib.hid (show (n:Int) = d2 by omega)
     have hdn:d2 = (n:Int):=by omega
     rw [hdn] at c2
     have hneg2:¬ (n:Int) < 0:=by omega
     clear hn hneg hdn
     go_wp2
     go_roundw
     case rel=>exact ⟨3,by omega,rfl,by rw [HNX.out,← AS.out],by
      have q:=HD.out
      have e:([.int .i64 (dif 2 0 d0),.int .i64 (dif 2 1 d1),.int .i64 (dif 2 2 d2)]:List Value) = [.int .i64 (dif 3 0 d0),.int .i64 (dif 3 1 d1),.int .i64 (dif 3 2 d2)]:=by
       have e0:(d2.natAbs:Int) = d2:=by have:=HND.out; omega
       simp [dif,e0]
      rw [e] at q
      exact q,HB.out⟩
     case measure=>simp [intOf]
theorem plc_may {f:Fld} (h:FldC f) {i:Nat} (hi:i < f.X * f.Y * f.Z):mayP (plc f i):=by
 have q:=inB_iff.1 (plc_in hi)
 have h1:=h.lx
 have h2:=h.ly
 have h3:=h.lz
 unfold mayP
 omega
set_option maxRecDepth 100000 in
set_option maxHeartbeats 16000000 in
theorem rnear_c {w:World} {f:Fld} {q p:V} {gw gi n:Nat} {wl il:List Bool} (h:FldM w f) (hW:FldC f) (hq:wideP q) (hp:wideP p) (hn:f.X * f.Y * f.Z = n)
  (hw:Blk w gw 4 (wl.map Value.bool)) (hi:Blk w gi 4 (il.map Value.bool)) (hwl:wl.length = n) (hil:il.length = n)
  (hnear:farI q p≤15 ∨ ∃ i0 a b,i0 < n∧wl[i0]? = some a∧il[i0]? = some b∧a ≠ b∧farI q (plc f i0)≤15) :
  Calls Tryd.prog 20 #[.pointer (some ⟨f.F,0,none⟩),.agg #[.int .i64 q.1,.int .i64 q.2.1,.int .i64 q.2.2],.agg #[.int .i64 p.1,.int .i64 p.2.1,.int .i64 p.2.2],.slice (some ⟨gw,0,none⟩) n n,.slice (some ⟨gi,0,none⟩) n n] w fun e w'=>e = .returned (.bool true)∧Below w.heap.size w w':=by
 have H:=Lib.hid h
 have HW:=Lib.hid hW
 have HQ:=Lib.hid hq
 have HP:=Lib.hid hp
 have HN:=Lib.hid hn
 have HWB:=Lib.hid hw
 have HIB:=Lib.hid hi
 have HWL:=Lib.hid hwl
 have HIL:=Lib.hid hil
 have hN:=hW.n
 rw [hn] at hN
 have HNR:=Lib.hid hnear
 clear h hW hq hp hn hw hi hwl hil hnear
 go_enter Tryd.func20,Tryd.ntmps20
 go_wp2_with fail
 go_at_call 32
 refine calls_named (S:=fun W=>Below w.heap.size w W∧Blk W w.heap.size TP [.int .i64 q.1,.int .i64 q.2.1,.int .i64 q.2.2]) ⟨by (repeat' (first | (with_reducible exact Below.refl _ _) | (with_reducible refine Below.setCell ?_ (by (first | omega | (simp; done) | (simp; omega))) _) | (with_reducible refine Below.alloc ?_ (by (first | omega | (simp; done) | (simp; omega))) _) | (with_reducible refine Below.drew ?_) | (with_reducible refine below_drewN ?_ _))),by (repeat' (first | (with_reducible refine BlkP.Blk.drew ?_) | (with_reducible refine BlkP.Blk.drewN ?_ _) | (with_reducible refine BlkP.Blk.setAt (us:=?_) (by first | omega | (simp; done) | (simp; omega)) rfl ?_ ?_) | (with_reducible refine BlkP.Blk.otherAt ?_ (by first | omega | (simp; done) | (simp; omega))) | (with_reducible refine BlkP.Blk.newA' (by first | omega | (simp; done) | (simp; omega)) rfl) | (with_reducible refine BlkP.Blk.alloc ?_ _) | (exact rfl)))⟩ ?_
 rintro W0 ⟨hb0,hq0⟩
 refine (farw_c HQ.out HP.out).mono ?_
 rintro e W1 ⟨rfl,hb1⟩
 have HB1:=Lib.hid (hb0.trans (hb1.mono hb0.size))
 have HQ1:=Lib.hid (hq0.below hb1)
 clear hb0 hq0 hb1
 obtain ⟨r,hr⟩:∃ r,farI q p = r:=⟨_,rfl⟩
 rw [hr] at HNR ⊢
 clear hr
 by_cases hle:r≤15
 ·have hleI:(r:Int)≤15:=by omega
  go_wp2_with fail
  go_ret
  exact ⟨rfl,HB1.out⟩
 ·have hleI:¬ (r:Int)≤15:=by omega
  have hex:∃ i0 a b,i0 < n∧wl[i0]? = some a∧il[i0]? = some b∧a ≠ b∧farI q (plc f i0)≤15:=by
   rcases HNR.out with h1 | h1
   ·exact absurd h1 hle
   ·exact h1
  obtain ⟨i0,a0,b0,hi0,ha0,hb0,hab,hf0⟩:=hex
  have HA0:=Lib.hid ha0
  have HB0:=Lib.hid hb0
  have HAB:=Lib.hid hab
  have HF0:=Lib.hid hf0
  clear ha0 hb0 hab hf0 HNR
  go_wp2_with fail
  clear hle hleI
  go_loopw [11] (fun v wr=>∃ k:Nat,v = .int .i64 (k:Nat)∧k≤i0∧Below w.heap.size w wr∧Blk wr w.heap.size TP [.int .i64 q.1,.int .i64 q.2.1,.int .i64 q.2.2]) (fun v _=>n - (intOf v).toNat)
  case atStart=>exact ⟨0,rfl,by omega,HB1.out,HQ1.out⟩
  case round =>
   obtain ⟨k,rfl,hk,hb,hqb⟩:=hrel
   have HBR:=Lib.hid hb
   have HQR:=Lib.hid hqb
   have HWR:=Lib.hid (HWB.out.below hb)
   have HIR:=Lib.hid (HIB.out.below hb)
   have HFR:=Lib.hid (H.out.below hb)
   clear hb hqb
   have hkn:k < n:=by omega
   have hkI:(k:Int) < n:=by omega
   have HW1:=Lib.hid (show wrap64 ((k:Int) + 1) = ((k + 1:Nat):Int) by rw [wr64 (by omega) (by omega)]; omega)
   obtain ⟨a,ha⟩:∃ a,wl[k]? = some a:=⟨_,List.getElem?_eq_getElem (by rw [HWL.out]; exact hkn)⟩
   obtain ⟨b,hbb⟩:∃ b,il[k]? = some b:=⟨_,List.getElem?_eq_getElem (by rw [HIL.out]; exact hkn)⟩
   have HA:=Lib.hid (show (wl.map Value.bool)[k]? = some (.bool a) by rw [List.getElem?_map,ha]; rfl)
   have HBB:=Lib.hid (show (il.map Value.bool)[k]? = some (.bool b) by rw [List.getElem?_map,hbb]; rfl)
   have HEQ:=Lib.hid (show a = b→k < i0 from fun e=>by
    apply Classical.byContradiction
    intro hn
    have e2:k = i0:=by omega
    rw [e2] at ha hbb
    rw [HA0.out] at ha
    rw [HB0.out] at hbb
    injection ha with ha
    injection hbb with hbb
    exact HAB.out (by rw [ha,hbb,e]))
   obtain ⟨r2,hr2⟩:∃ r2,farI q (plc f k) = r2:=⟨_,rfl⟩
   have HR2:=Lib.hid hr2
   have HGT:=Lib.hid (show ¬ r2≤15→k < i0 from fun e=>by
    apply Classical.byContradiction
    intro hn
    have e2:k = i0:=by omega
    rw [← hr2,e2] at e
    exact e HF0.out)
   clear ha hbb hr2
   cases a with
   | true =>
    cases b with
    | true =>
     go_wp2_with fail
     refine wp_region_noPanic ?_
     refine wp_region_held_drew (S:=fun Xw=>Blk Xw w.heap.size TP [.int .i64 q.1,.int .i64 q.2.1,.int .i64 q.2.2]∧Blk Xw gw 4 (wl.map Value.bool)∧Blk Xw gi 4 (il.map Value.bool)) (by kernel_rfl) (⟨HQR.out,HWR.out,HIR.out⟩) (fun hHeld=>?_)
     refine wpAnyH_take (i:=0) (oi:=⟨some 22,_,_,_,_,_⟩) (v:=.slice (some ⟨gw,0,none⟩) n n) rfl (by kernel_rfl) (by kernel_rfl) (by kernel_rfl) (fun _ _ _ h=>h) (Or.inl ⟨by rfl,fun Xw hSW=>by go_simp⟩) hHeld ?_
     simp only [Act.put,List.setIfInBounds_toArray,List.set_cons_zero,List.set_cons_succ]
     refine wpAnyH_take (i:=1) (oi:=⟨some 23,_,_,_,_,_⟩) (v:=.int .i64 (k:Int)) rfl (by kernel_rfl) (by kernel_rfl) (by kernel_rfl) (fun _ _ _ h=>h) (Or.inl ⟨by rfl,fun Xw hSW=>by go_simp⟩) hHeld ?_
     simp only [Act.put,List.setIfInBounds_toArray,List.set_cons_zero,List.set_cons_succ]
     refine wpAnyH_take (i:=2) (oi:=⟨some 24,_,_,_,_,_⟩) (v:=.pointer (some ⟨gw,k,none⟩)) rfl (by kernel_rfl) (by kernel_rfl) (by kernel_rfl) (fun _ _ _ h=>h) (Or.inl ⟨by rfl,fun Xw hSW=>by go_simp⟩) hHeld ?_
     simp only [Act.put,List.setIfInBounds_toArray,List.set_cons_zero,List.set_cons_succ]
     refine wpAnyH_take (i:=3) (oi:=⟨some 25,_,_,_,_,_⟩) (v:=.bool true) rfl (by kernel_rfl) (by kernel_rfl) (by kernel_rfl) (fun _ _ _ h=>h) (Or.inl ⟨by rfl,fun Xw hSW=>by have c:Xw.cell? ⟨gw,k,none⟩ = some (.bool true):=hSW.2.1.cell (i:=k) HA.out; go_simp⟩) hHeld ?_
     simp only [Act.put,List.setIfInBounds_toArray,List.set_cons_zero,List.set_cons_succ]
     refine wpAnyH_take (i:=4) (oi:=⟨some 26,_,_,_,_,_⟩) (v:=.slice (some ⟨gi,0,none⟩) n n) rfl (by kernel_rfl) (by kernel_rfl) (by kernel_rfl) (fun _ _ _ h=>h) (Or.inl ⟨by rfl,fun Xw hSW=>by go_simp⟩) hHeld ?_
     simp only [Act.put,List.setIfInBounds_toArray,List.set_cons_zero,List.set_cons_succ]
     refine wpAnyH_take (i:=5) (oi:=⟨some 27,_,_,_,_,_⟩) (v:=.int .i64 (k:Int)) rfl (by kernel_rfl) (by kernel_rfl) (by kernel_rfl) (fun _ _ _ h=>h) (Or.inl ⟨by rfl,fun Xw hSW=>by go_simp⟩) hHeld ?_
     simp only [Act.put,List.setIfInBounds_toArray,List.set_cons_zero,List.set_cons_succ]
     refine wpAnyH_take (i:=6) (oi:=⟨some 28,_,_,_,_,_⟩) (v:=.pointer (some ⟨gi,k,none⟩)) rfl (by kernel_rfl) (by kernel_rfl) (by kernel_rfl) (fun _ _ _ h=>h) (Or.inl ⟨by rfl,fun Xw hSW=>by go_simp⟩) hHeld ?_
     simp only [Act.put,List.setIfInBounds_toArray,List.set_cons_zero,List.set_cons_succ]
     refine wpAnyH_take (i:=7) (oi:=⟨some 29,_,_,_,_,_⟩) (v:=.bool true) rfl (by kernel_rfl) (by kernel_rfl) (by kernel_rfl) (fun _ _ _ h=>h) (Or.inl ⟨by rfl,fun Xw hSW=>by have c:Xw.cell? ⟨gi,k,none⟩ = some (.bool true):=hSW.2.2.cell (i:=k) HBB.out; go_simp⟩) hHeld ?_
     simp only [Act.put,List.setIfInBounds_toArray,List.set_cons_zero,List.set_cons_succ]
     refine wpAnyH_take (i:=8) (oi:=⟨some 30,_,_,_,_,_⟩) (v:=.bool false) rfl (by kernel_rfl) (by kernel_rfl) (by kernel_rfl) (fun _ _ _ h=>h) (Or.inl ⟨by rfl,fun Xw hSW=>by go_simp⟩) hHeld ?_
     simp only [Act.put,List.setIfInBounds_toArray,List.set_cons_zero,List.set_cons_succ]
     refine wpAnyH_take (i:=9) (oi:=⟨some 31,_,_,_,_,_⟩) (v:=.bool false) rfl (by kernel_rfl) (by kernel_rfl) (by kernel_rfl) (fun _ _ _ h=>h) (Or.inl ⟨by rfl,fun Xw hSW=>by go_simp⟩) hHeld ?_
     simp only [Act.put,List.setIfInBounds_toArray,List.set_cons_zero,List.set_cons_succ]
     refine wpAnyH_take (i:=10) (oi:=⟨some 32,_,_,_,_,_⟩) (v:=undef) rfl (by kernel_rfl) (by kernel_rfl) (by kernel_rfl) (fun _ _ _ h=>h) (Or.inr ⟨by kernel_rfl,rfl⟩) hHeld ?_
     simp only [Act.put,List.setIfInBounds_toArray,List.set_cons_zero,List.set_cons_succ]
     refine wpAnyH_take (i:=11) (oi:=⟨some 33,_,_,_,_,_⟩) (v:=undef) rfl (by kernel_rfl) (by kernel_rfl) (by kernel_rfl) (fun _ _ _ h=>h) (Or.inr ⟨by kernel_rfl,rfl⟩) hHeld ?_
     simp only [Act.put,List.setIfInBounds_toArray,List.set_cons_zero,List.set_cons_succ]
     refine wpAnyH_take (i:=12) (oi:=⟨some 34,_,_,_,_,_⟩) (v:=undef) rfl (by kernel_rfl) (by kernel_rfl) (by kernel_rfl) (fun _ _ _ h=>h) (Or.inr ⟨by kernel_rfl,rfl⟩) hHeld ?_
     simp only [Act.put,List.setIfInBounds_toArray,List.set_cons_zero,List.set_cons_succ]
     refine wpAnyH_take (i:=13) (oi:=⟨some 35,_,_,_,_,_⟩) (v:=undef) rfl (by kernel_rfl) (by kernel_rfl) (by kernel_rfl) (fun _ _ _ h=>h) (Or.inr ⟨by kernel_rfl,rfl⟩) hHeld ?_
     simp only [Act.put,List.setIfInBounds_toArray,List.set_cons_zero,List.set_cons_succ]
     refine wpAnyH_take (i:=14) (oi:=⟨some 36,_,_,_,_,_⟩) (v:=undef) rfl (by kernel_rfl) (by kernel_rfl) (by kernel_rfl) (fun _ _ _ h=>h) (Or.inr ⟨by kernel_rfl,rfl⟩) hHeld ?_
     simp only [Act.put,List.setIfInBounds_toArray,List.set_cons_zero,List.set_cons_succ]
     refine wpAnyH_take (i:=15) (oi:=⟨some 37,_,_,_,_,_⟩) (v:=undef) rfl (by kernel_rfl) (by kernel_rfl) (by kernel_rfl) (fun _ _ _ h=>h) (Or.inr ⟨by kernel_rfl,rfl⟩) hHeld ?_
     simp only [Act.put,List.setIfInBounds_toArray,List.set_cons_zero,List.set_cons_succ]
     refine wpAnyH_take (i:=16) (oi:=⟨some 38,_,_,_,_,_⟩) (v:=.bool false) rfl (by kernel_rfl) (by kernel_rfl) (by kernel_rfl) (fun _ _ _ h=>h) (Or.inl ⟨by rfl,fun Xw hSW=>by go_simp⟩) hHeld ?_
     simp only [Act.put,List.setIfInBounds_toArray,List.set_cons_zero,List.set_cons_succ]
     refine wpAnyH_done (by kernel_rfl) ?_ _
     refine NoPanic.normal ?_
     clear hHeld
     go_wp2_with fail
     go_roundw
     case rel=>exact ⟨k + 1,by first | rfl | rw [HW1.out] | (congr 1; omega),by have:=HEQ.out (by first | trivial | rfl); omega,HBR.out.trans (by (repeat' (first | (with_reducible exact Below.refl _ _) | (with_reducible refine Below.setCell ?_ (by (first | omega | (simp; done) | (simp; omega))) _) | (with_reducible refine Below.alloc ?_ (by (first | omega | (simp; done) | (simp; omega))) _) | (with_reducible refine Below.drew ?_) | (with_reducible refine below_drewN ?_ _)))),HQR.out.drew⟩
     case measure =>
      simp only [intOf]
      omega
    | false =>
     go_wp2_with fail
     refine wp_region_noPanic ?_
     refine wp_region_held_drew (S:=fun Xw=>Blk Xw w.heap.size TP [.int .i64 q.1,.int .i64 q.2.1,.int .i64 q.2.2]∧Blk Xw gw 4 (wl.map Value.bool)∧Blk Xw gi 4 (il.map Value.bool)) (by kernel_rfl) (⟨HQR.out,HWR.out,HIR.out⟩) (fun hHeld=>?_)
     refine wpAnyH_take (i:=0) (oi:=⟨some 22,_,_,_,_,_⟩) (v:=.slice (some ⟨gw,0,none⟩) n n) rfl (by kernel_rfl) (by kernel_rfl) (by kernel_rfl) (fun _ _ _ h=>h) (Or.inl ⟨by rfl,fun Xw hSW=>by go_simp⟩) hHeld ?_
     simp only [Act.put,List.setIfInBounds_toArray,List.set_cons_zero,List.set_cons_succ]
     refine wpAnyH_take (i:=1) (oi:=⟨some 23,_,_,_,_,_⟩) (v:=.int .i64 (k:Int)) rfl (by kernel_rfl) (by kernel_rfl) (by kernel_rfl) (fun _ _ _ h=>h) (Or.inl ⟨by rfl,fun Xw hSW=>by go_simp⟩) hHeld ?_
     simp only [Act.put,List.setIfInBounds_toArray,List.set_cons_zero,List.set_cons_succ]
     refine wpAnyH_take (i:=2) (oi:=⟨some 24,_,_,_,_,_⟩) (v:=.pointer (some ⟨gw,k,none⟩)) rfl (by kernel_rfl) (by kernel_rfl) (by kernel_rfl) (fun _ _ _ h=>h) (Or.inl ⟨by rfl,fun Xw hSW=>by go_simp⟩) hHeld ?_
     simp only [Act.put,List.setIfInBounds_toArray,List.set_cons_zero,List.set_cons_succ]
     refine wpAnyH_take (i:=3) (oi:=⟨some 25,_,_,_,_,_⟩) (v:=.bool true) rfl (by kernel_rfl) (by kernel_rfl) (by kernel_rfl) (fun _ _ _ h=>h) (Or.inl ⟨by rfl,fun Xw hSW=>by have c:Xw.cell? ⟨gw,k,none⟩ = some (.bool true):=hSW.2.1.cell (i:=k) HA.out; go_simp⟩) hHeld ?_
     simp only [Act.put,List.setIfInBounds_toArray,List.set_cons_zero,List.set_cons_succ]
     refine wpAnyH_take (i:=4) (oi:=⟨some 26,_,_,_,_,_⟩) (v:=.slice (some ⟨gi,0,none⟩) n n) rfl (by kernel_rfl) (by kernel_rfl) (by kernel_rfl) (fun _ _ _ h=>h) (Or.inl ⟨by rfl,fun Xw hSW=>by go_simp⟩) hHeld ?_
     simp only [Act.put,List.setIfInBounds_toArray,List.set_cons_zero,List.set_cons_succ]
     refine wpAnyH_take (i:=5) (oi:=⟨some 27,_,_,_,_,_⟩) (v:=.int .i64 (k:Int)) rfl (by kernel_rfl) (by kernel_rfl) (by kernel_rfl) (fun _ _ _ h=>h) (Or.inl ⟨by rfl,fun Xw hSW=>by go_simp⟩) hHeld ?_
     simp only [Act.put,List.setIfInBounds_toArray,List.set_cons_zero,List.set_cons_succ]
     refine wpAnyH_take (i:=6) (oi:=⟨some 28,_,_,_,_,_⟩) (v:=.pointer (some ⟨gi,k,none⟩)) rfl (by kernel_rfl) (by kernel_rfl) (by kernel_rfl) (fun _ _ _ h=>h) (Or.inl ⟨by rfl,fun Xw hSW=>by go_simp⟩) hHeld ?_
     simp only [Act.put,List.setIfInBounds_toArray,List.set_cons_zero,List.set_cons_succ]
     refine wpAnyH_take (i:=7) (oi:=⟨some 29,_,_,_,_,_⟩) (v:=.bool false) rfl (by kernel_rfl) (by kernel_rfl) (by kernel_rfl) (fun _ _ _ h=>h) (Or.inl ⟨by rfl,fun Xw hSW=>by have c:Xw.cell? ⟨gi,k,none⟩ = some (.bool false):=hSW.2.2.cell (i:=k) HBB.out; go_simp⟩) hHeld ?_
     simp only [Act.put,List.setIfInBounds_toArray,List.set_cons_zero,List.set_cons_succ]
     refine wpAnyH_take (i:=8) (oi:=⟨some 30,_,_,_,_,_⟩) (v:=.bool true) rfl (by kernel_rfl) (by kernel_rfl) (by kernel_rfl) (fun _ _ _ h=>h) (Or.inl ⟨by rfl,fun Xw hSW=>by go_simp⟩) hHeld ?_
     simp only [Act.put,List.setIfInBounds_toArray,List.set_cons_zero,List.set_cons_succ]
     refine wpAnyH_take (i:=9) (oi:=⟨some 31,_,_,_,_,_⟩) (v:=.bool true) rfl (by kernel_rfl) (by kernel_rfl) (by kernel_rfl) (fun _ _ _ h=>h) (Or.inl ⟨by rfl,fun Xw hSW=>by go_simp⟩) hHeld ?_
     simp only [Act.put,List.setIfInBounds_toArray,List.set_cons_zero,List.set_cons_succ]
     refine wpAnyH_take (i:=10) (oi:=⟨some 32,_,_,_,_,_⟩) (v:=.agg #[.int .i64 q.1,.int .i64 q.2.1,.int .i64 q.2.2]) rfl (by kernel_rfl) (by kernel_rfl) (by kernel_rfl) (fun _ _ _ h=>h) (Or.inl ⟨by rfl,fun Xw hSW=>by have b0:=hSW.1.cell (i:=0) rfl; have b1:=hSW.1.cell (i:=1) rfl; have b2:=hSW.1.cell (i:=2) rfl; go_simp⟩) hHeld ?_
     simp only [Act.put,List.setIfInBounds_toArray,List.set_cons_zero,List.set_cons_succ]
     refine wpAnyH_take (i:=11) (oi:=⟨some 33,_,_,_,_,_⟩) (v:=.pointer (some ⟨f.F,0,none⟩)) rfl (by kernel_rfl) (by kernel_rfl) (by kernel_rfl) (fun _ _ _ h=>h) (Or.inl ⟨by rfl,fun Xw hSW=>by go_simp⟩) hHeld ?_
     simp only [Act.put,List.setIfInBounds_toArray,List.set_cons_zero,List.set_cons_succ]
     refine wpAnyH_take (i:=12) (oi:=⟨some 34,_,_,_,_,_⟩) (v:=.int .i64 (k:Int)) rfl (by kernel_rfl) (by kernel_rfl) (by kernel_rfl) (fun _ _ _ h=>h) (Or.inl ⟨by rfl,fun Xw hSW=>by go_simp⟩) hHeld ?_
     simp only [Act.put,List.setIfInBounds_toArray,List.set_cons_zero,List.set_cons_succ]
     refine wpAnyH_ready (rs:=[13]) (by kernel_rfl) (by simp) ?_
     refine AllReadyH.cons (o:=⟨some 35,_,_,_,_,_⟩) rfl (fun K hK=>?_) AllReadyH.nil
     go_simp
     refine (at_c (i:=k) (HFR.out.below (Below.refl _ _).drew) HW.out (by rw [HN.out]; exact hkn)).mono ?_
     rintro e W3 ⟨rfl,hb3⟩
     have HB3:=Lib.hid ((show Below wr.heap.size wr wr.drew by (repeat' (first | (with_reducible exact Below.refl _ _) | (with_reducible refine Below.setCell ?_ (by (first | omega | (simp; done) | (simp; omega))) _) | (with_reducible refine Below.alloc ?_ (by (first | omega | (simp; done) | (simp; omega))) _) | (with_reducible refine Below.drew ?_) | (with_reducible refine below_drewN ?_ _)))).trans hb3)
     clear hb3
     try go_wp2_with fail
     refine hK.out _ _ (⟨HQR.out.below HB3.out,HWR.out.below HB3.out,HIR.out.below HB3.out⟩) (fun hHeld=>?_)
     clear hK K
     refine wpAnyH_ready (rs:=[14]) (by kernel_rfl) (by simp) ?_
     refine AllReadyH.cons (o:=⟨some 36,_,_,_,_,_⟩) rfl (fun K hK=>?_) AllReadyH.nil
     go_simp
     refine (farw_c HQ.out (may_wide (plc_may HW.out (by rw [HN.out]; exact hkn)))).mono ?_
     rintro e W4 ⟨rfl,hb4⟩
     rw [HR2.out]
     have HB4:=Lib.hid (HB3.out.trans (hb4.mono HB3.out.size))
     clear hb4
     try go_wp2_with fail
     refine hK.out _ _ (⟨HQR.out.below HB4.out,HWR.out.below HB4.out,HIR.out.below HB4.out⟩) (fun hHeld=>?_)
     clear hK K
     by_cases hr15:r2≤15
     ·have hrI:(r2:Int)≤15:=by omega
      refine wpAnyH_take (i:=15) (oi:=⟨some 37,_,_,_,_,_⟩) (v:=.bool true) rfl (by kernel_rfl) (by kernel_rfl) (by kernel_rfl) (fun _ _ _ h=>h) (Or.inl ⟨by rfl,fun Xw hSW=>by go_simp⟩) hHeld ?_
      simp only [Act.put,List.setIfInBounds_toArray,List.set_cons_zero,List.set_cons_succ]
      refine wpAnyH_take (i:=16) (oi:=⟨some 38,_,_,_,_,_⟩) (v:=.bool true) rfl (by kernel_rfl) (by kernel_rfl) (by kernel_rfl) (fun _ _ _ h=>h) (Or.inl ⟨by rfl,fun Xw hSW=>by go_simp⟩) hHeld ?_
      simp only [Act.put,List.setIfInBounds_toArray,List.set_cons_zero,List.set_cons_succ]
      refine wpAnyH_done (by kernel_rfl) ?_ _
      refine NoPanic.normal ?_
      clear hHeld
      go_wp2_with fail
      go_ret
      exact ⟨rfl,HBR.out.trans (HB4.out.mono HBR.out.size)⟩
     ·have hrI:¬ (r2:Int)≤15:=by omega
      refine wpAnyH_take (i:=15) (oi:=⟨some 37,_,_,_,_,_⟩) (v:=.bool false) rfl (by kernel_rfl) (by kernel_rfl) (by kernel_rfl) (fun _ _ _ h=>h) (Or.inl ⟨by rfl,fun Xw hSW=>by go_simp⟩) hHeld ?_
      simp only [Act.put,List.setIfInBounds_toArray,List.set_cons_zero,List.set_cons_succ]
      refine wpAnyH_take (i:=16) (oi:=⟨some 38,_,_,_,_,_⟩) (v:=.bool false) rfl (by kernel_rfl) (by kernel_rfl) (by kernel_rfl) (fun _ _ _ h=>h) (Or.inl ⟨by rfl,fun Xw hSW=>by go_simp⟩) hHeld ?_
      simp only [Act.put,List.setIfInBounds_toArray,List.set_cons_zero,List.set_cons_succ]
      refine wpAnyH_done (by kernel_rfl) ?_ _
      refine NoPanic.normal ?_
      clear hHeld
      go_wp2_with fail
      go_roundw
      case rel=>exact ⟨k + 1,by first | rfl | rw [HW1.out] | (congr 1; omega),by have:=HGT.out hr15; omega,HBR.out.trans (HB4.out.mono HBR.out.size),HQR.out.below HB4.out⟩
      case measure =>
       simp only [intOf]
       omega
   | false =>
    cases b with
    | true =>
     go_wp2_with fail
     refine wp_region_noPanic ?_
     refine wp_region_held_drew (S:=fun Xw=>Blk Xw w.heap.size TP [.int .i64 q.1,.int .i64 q.2.1,.int .i64 q.2.2]∧Blk Xw gw 4 (wl.map Value.bool)∧Blk Xw gi 4 (il.map Value.bool)) (by kernel_rfl) (⟨HQR.out,HWR.out,HIR.out⟩) (fun hHeld=>?_)
     refine wpAnyH_take (i:=0) (oi:=⟨some 22,_,_,_,_,_⟩) (v:=.slice (some ⟨gw,0,none⟩) n n) rfl (by kernel_rfl) (by kernel_rfl) (by kernel_rfl) (fun _ _ _ h=>h) (Or.inl ⟨by rfl,fun Xw hSW=>by go_simp⟩) hHeld ?_
     simp only [Act.put,List.setIfInBounds_toArray,List.set_cons_zero,List.set_cons_succ]
     refine wpAnyH_take (i:=1) (oi:=⟨some 23,_,_,_,_,_⟩) (v:=.int .i64 (k:Int)) rfl (by kernel_rfl) (by kernel_rfl) (by kernel_rfl) (fun _ _ _ h=>h) (Or.inl ⟨by rfl,fun Xw hSW=>by go_simp⟩) hHeld ?_
     simp only [Act.put,List.setIfInBounds_toArray,List.set_cons_zero,List.set_cons_succ]
     refine wpAnyH_take (i:=2) (oi:=⟨some 24,_,_,_,_,_⟩) (v:=.pointer (some ⟨gw,k,none⟩)) rfl (by kernel_rfl) (by kernel_rfl) (by kernel_rfl) (fun _ _ _ h=>h) (Or.inl ⟨by rfl,fun Xw hSW=>by go_simp⟩) hHeld ?_
     simp only [Act.put,List.setIfInBounds_toArray,List.set_cons_zero,List.set_cons_succ]
     refine wpAnyH_take (i:=3) (oi:=⟨some 25,_,_,_,_,_⟩) (v:=.bool false) rfl (by kernel_rfl) (by kernel_rfl) (by kernel_rfl) (fun _ _ _ h=>h) (Or.inl ⟨by rfl,fun Xw hSW=>by have c:Xw.cell? ⟨gw,k,none⟩ = some (.bool false):=hSW.2.1.cell (i:=k) HA.out; go_simp⟩) hHeld ?_
     simp only [Act.put,List.setIfInBounds_toArray,List.set_cons_zero,List.set_cons_succ]
     refine wpAnyH_take (i:=4) (oi:=⟨some 26,_,_,_,_,_⟩) (v:=.slice (some ⟨gi,0,none⟩) n n) rfl (by kernel_rfl) (by kernel_rfl) (by kernel_rfl) (fun _ _ _ h=>h) (Or.inl ⟨by rfl,fun Xw hSW=>by go_simp⟩) hHeld ?_
     simp only [Act.put,List.setIfInBounds_toArray,List.set_cons_zero,List.set_cons_succ]
     refine wpAnyH_take (i:=5) (oi:=⟨some 27,_,_,_,_,_⟩) (v:=.int .i64 (k:Int)) rfl (by kernel_rfl) (by kernel_rfl) (by kernel_rfl) (fun _ _ _ h=>h) (Or.inl ⟨by rfl,fun Xw hSW=>by go_simp⟩) hHeld ?_
     simp only [Act.put,List.setIfInBounds_toArray,List.set_cons_zero,List.set_cons_succ]
     refine wpAnyH_take (i:=6) (oi:=⟨some 28,_,_,_,_,_⟩) (v:=.pointer (some ⟨gi,k,none⟩)) rfl (by kernel_rfl) (by kernel_rfl) (by kernel_rfl) (fun _ _ _ h=>h) (Or.inl ⟨by rfl,fun Xw hSW=>by go_simp⟩) hHeld ?_
     simp only [Act.put,List.setIfInBounds_toArray,List.set_cons_zero,List.set_cons_succ]
     refine wpAnyH_take (i:=7) (oi:=⟨some 29,_,_,_,_,_⟩) (v:=.bool true) rfl (by kernel_rfl) (by kernel_rfl) (by kernel_rfl) (fun _ _ _ h=>h) (Or.inl ⟨by rfl,fun Xw hSW=>by have c:Xw.cell? ⟨gi,k,none⟩ = some (.bool true):=hSW.2.2.cell (i:=k) HBB.out; go_simp⟩) hHeld ?_
     simp only [Act.put,List.setIfInBounds_toArray,List.set_cons_zero,List.set_cons_succ]
     refine wpAnyH_take (i:=8) (oi:=⟨some 30,_,_,_,_,_⟩) (v:=.bool true) rfl (by kernel_rfl) (by kernel_rfl) (by kernel_rfl) (fun _ _ _ h=>h) (Or.inl ⟨by rfl,fun Xw hSW=>by go_simp⟩) hHeld ?_
     simp only [Act.put,List.setIfInBounds_toArray,List.set_cons_zero,List.set_cons_succ]
     refine wpAnyH_take (i:=9) (oi:=⟨some 31,_,_,_,_,_⟩) (v:=.bool true) rfl (by kernel_rfl) (by kernel_rfl) (by kernel_rfl) (fun _ _ _ h=>h) (Or.inl ⟨by rfl,fun Xw hSW=>by go_simp⟩) hHeld ?_
     simp only [Act.put,List.setIfInBounds_toArray,List.set_cons_zero,List.set_cons_succ]
     refine wpAnyH_take (i:=10) (oi:=⟨some 32,_,_,_,_,_⟩) (v:=.agg #[.int .i64 q.1,.int .i64 q.2.1,.int .i64 q.2.2]) rfl (by kernel_rfl) (by kernel_rfl) (by kernel_rfl) (fun _ _ _ h=>h) (Or.inl ⟨by rfl,fun Xw hSW=>by have b0:=hSW.1.cell (i:=0) rfl; have b1:=hSW.1.cell (i:=1) rfl; have b2:=hSW.1.cell (i:=2) rfl; go_simp⟩) hHeld ?_
     simp only [Act.put,List.setIfInBounds_toArray,List.set_cons_zero,List.set_cons_succ]
     refine wpAnyH_take (i:=11) (oi:=⟨some 33,_,_,_,_,_⟩) (v:=.pointer (some ⟨f.F,0,none⟩)) rfl (by kernel_rfl) (by kernel_rfl) (by kernel_rfl) (fun _ _ _ h=>h) (Or.inl ⟨by rfl,fun Xw hSW=>by go_simp⟩) hHeld ?_
     simp only [Act.put,List.setIfInBounds_toArray,List.set_cons_zero,List.set_cons_succ]
     refine wpAnyH_take (i:=12) (oi:=⟨some 34,_,_,_,_,_⟩) (v:=.int .i64 (k:Int)) rfl (by kernel_rfl) (by kernel_rfl) (by kernel_rfl) (fun _ _ _ h=>h) (Or.inl ⟨by rfl,fun Xw hSW=>by go_simp⟩) hHeld ?_
     simp only [Act.put,List.setIfInBounds_toArray,List.set_cons_zero,List.set_cons_succ]
     refine wpAnyH_ready (rs:=[13]) (by kernel_rfl) (by simp) ?_
     refine AllReadyH.cons (o:=⟨some 35,_,_,_,_,_⟩) rfl (fun K hK=>?_) AllReadyH.nil
     go_simp
     refine (at_c (i:=k) (HFR.out.below (Below.refl _ _).drew) HW.out (by rw [HN.out]; exact hkn)).mono ?_
     rintro e W3 ⟨rfl,hb3⟩
     have HB3:=Lib.hid ((show Below wr.heap.size wr wr.drew by (repeat' (first | (with_reducible exact Below.refl _ _) | (with_reducible refine Below.setCell ?_ (by (first | omega | (simp; done) | (simp; omega))) _) | (with_reducible refine Below.alloc ?_ (by (first | omega | (simp; done) | (simp; omega))) _) | (with_reducible refine Below.drew ?_) | (with_reducible refine below_drewN ?_ _)))).trans hb3)
     clear hb3
     try go_wp2_with fail
     refine hK.out _ _ (⟨HQR.out.below HB3.out,HWR.out.below HB3.out,HIR.out.below HB3.out⟩) (fun hHeld=>?_)
     clear hK K
     refine wpAnyH_ready (rs:=[14]) (by kernel_rfl) (by simp) ?_
     refine AllReadyH.cons (o:=⟨some 36,_,_,_,_,_⟩) rfl (fun K hK=>?_) AllReadyH.nil
     go_simp
     refine (farw_c HQ.out (may_wide (plc_may HW.out (by rw [HN.out]; exact hkn)))).mono ?_
     rintro e W4 ⟨rfl,hb4⟩
     rw [HR2.out]
     have HB4:=Lib.hid (HB3.out.trans (hb4.mono HB3.out.size))
     clear hb4
     try go_wp2_with fail
     refine hK.out _ _ (⟨HQR.out.below HB4.out,HWR.out.below HB4.out,HIR.out.below HB4.out⟩) (fun hHeld=>?_)
     clear hK K
     by_cases hr15:r2≤15
     ·have hrI:(r2:Int)≤15:=by omega
      refine wpAnyH_take (i:=15) (oi:=⟨some 37,_,_,_,_,_⟩) (v:=.bool true) rfl (by kernel_rfl) (by kernel_rfl) (by kernel_rfl) (fun _ _ _ h=>h) (Or.inl ⟨by rfl,fun Xw hSW=>by go_simp⟩) hHeld ?_
      simp only [Act.put,List.setIfInBounds_toArray,List.set_cons_zero,List.set_cons_succ]
      refine wpAnyH_take (i:=16) (oi:=⟨some 38,_,_,_,_,_⟩) (v:=.bool true) rfl (by kernel_rfl) (by kernel_rfl) (by kernel_rfl) (fun _ _ _ h=>h) (Or.inl ⟨by rfl,fun Xw hSW=>by go_simp⟩) hHeld ?_
      simp only [Act.put,List.setIfInBounds_toArray,List.set_cons_zero,List.set_cons_succ]
      refine wpAnyH_done (by kernel_rfl) ?_ _
      refine NoPanic.normal ?_
      clear hHeld
      go_wp2_with fail
      go_ret
      exact ⟨rfl,HBR.out.trans (HB4.out.mono HBR.out.size)⟩
     ·have hrI:¬ (r2:Int)≤15:=by omega
      refine wpAnyH_take (i:=15) (oi:=⟨some 37,_,_,_,_,_⟩) (v:=.bool false) rfl (by kernel_rfl) (by kernel_rfl) (by kernel_rfl) (fun _ _ _ h=>h) (Or.inl ⟨by rfl,fun Xw hSW=>by go_simp⟩) hHeld ?_
      simp only [Act.put,List.setIfInBounds_toArray,List.set_cons_zero,List.set_cons_succ]
      refine wpAnyH_take (i:=16) (oi:=⟨some 38,_,_,_,_,_⟩) (v:=.bool false) rfl (by kernel_rfl) (by kernel_rfl) (by kernel_rfl) (fun _ _ _ h=>h) (Or.inl ⟨by rfl,fun Xw hSW=>by go_simp⟩) hHeld ?_
      simp only [Act.put,List.setIfInBounds_toArray,List.set_cons_zero,List.set_cons_succ]
      refine wpAnyH_done (by kernel_rfl) ?_ _
      refine NoPanic.normal ?_
      clear hHeld
      go_wp2_with fail
      go_roundw
      case rel=>exact ⟨k + 1,by first | rfl | rw [HW1.out] | (congr 1; omega),by have:=HGT.out hr15; omega,HBR.out.trans (HB4.out.mono HBR.out.size),HQR.out.below HB4.out⟩
      case measure =>
       simp only [intOf]
       omega
    | false =>
     go_wp2_with fail
     refine wp_region_noPanic ?_
     refine wp_region_held_drew (S:=fun Xw=>Blk Xw w.heap.size TP [.int .i64 q.1,.int .i64 q.2.1,.int .i64 q.2.2]∧Blk Xw gw 4 (wl.map Value.bool)∧Blk Xw gi 4 (il.map Value.bool)) (by kernel_rfl) (⟨HQR.out,HWR.out,HIR.out⟩) (fun hHeld=>?_)
     refine wpAnyH_take (i:=0) (oi:=⟨some 22,_,_,_,_,_⟩) (v:=.slice (some ⟨gw,0,none⟩) n n) rfl (by kernel_rfl) (by kernel_rfl) (by kernel_rfl) (fun _ _ _ h=>h) (Or.inl ⟨by rfl,fun Xw hSW=>by go_simp⟩) hHeld ?_
     simp only [Act.put,List.setIfInBounds_toArray,List.set_cons_zero,List.set_cons_succ]
     refine wpAnyH_take (i:=1) (oi:=⟨some 23,_,_,_,_,_⟩) (v:=.int .i64 (k:Int)) rfl (by kernel_rfl) (by kernel_rfl) (by kernel_rfl) (fun _ _ _ h=>h) (Or.inl ⟨by rfl,fun Xw hSW=>by go_simp⟩) hHeld ?_
     simp only [Act.put,List.setIfInBounds_toArray,List.set_cons_zero,List.set_cons_succ]
     refine wpAnyH_take (i:=2) (oi:=⟨some 24,_,_,_,_,_⟩) (v:=.pointer (some ⟨gw,k,none⟩)) rfl (by kernel_rfl) (by kernel_rfl) (by kernel_rfl) (fun _ _ _ h=>h) (Or.inl ⟨by rfl,fun Xw hSW=>by go_simp⟩) hHeld ?_
     simp only [Act.put,List.setIfInBounds_toArray,List.set_cons_zero,List.set_cons_succ]
     refine wpAnyH_take (i:=3) (oi:=⟨some 25,_,_,_,_,_⟩) (v:=.bool false) rfl (by kernel_rfl) (by kernel_rfl) (by kernel_rfl) (fun _ _ _ h=>h) (Or.inl ⟨by rfl,fun Xw hSW=>by have c:Xw.cell? ⟨gw,k,none⟩ = some (.bool false):=hSW.2.1.cell (i:=k) HA.out; go_simp⟩) hHeld ?_
     simp only [Act.put,List.setIfInBounds_toArray,List.set_cons_zero,List.set_cons_succ]
     refine wpAnyH_take (i:=4) (oi:=⟨some 26,_,_,_,_,_⟩) (v:=.slice (some ⟨gi,0,none⟩) n n) rfl (by kernel_rfl) (by kernel_rfl) (by kernel_rfl) (fun _ _ _ h=>h) (Or.inl ⟨by rfl,fun Xw hSW=>by go_simp⟩) hHeld ?_
     simp only [Act.put,List.setIfInBounds_toArray,List.set_cons_zero,List.set_cons_succ]
     refine wpAnyH_take (i:=5) (oi:=⟨some 27,_,_,_,_,_⟩) (v:=.int .i64 (k:Int)) rfl (by kernel_rfl) (by kernel_rfl) (by kernel_rfl) (fun _ _ _ h=>h) (Or.inl ⟨by rfl,fun Xw hSW=>by go_simp⟩) hHeld ?_
     simp only [Act.put,List.setIfInBounds_toArray,List.set_cons_zero,List.set_cons_succ]
     refine wpAnyH_take (i:=6) (oi:=⟨some 28,_,_,_,_,_⟩) (v:=.pointer (some ⟨gi,k,none⟩)) rfl (by kernel_rfl) (by kernel_rfl) (by kernel_rfl) (fun _ _ _ h=>h) (Or.inl ⟨by rfl,fun Xw hSW=>by go_simp⟩) hHeld ?_
     simp only [Act.put,List.setIfInBounds_toArray,List.set_cons_zero,List.set_cons_succ]
     refine wpAnyH_take (i:=7) (oi:=⟨some 29,_,_,_,_,_⟩) (v:=.bool false) rfl (by kernel_rfl) (by kernel_rfl) (by kernel_rfl) (fun _ _ _ h=>h) (Or.inl ⟨by rfl,fun Xw hSW=>by have c:Xw.cell? ⟨gi,k,none⟩ = some (.bool false):=hSW.2.2.cell (i:=k) HBB.out; go_simp⟩) hHeld ?_
     simp only [Act.put,List.setIfInBounds_toArray,List.set_cons_zero,List.set_cons_succ]
     refine wpAnyH_take (i:=8) (oi:=⟨some 30,_,_,_,_,_⟩) (v:=.bool false) rfl (by kernel_rfl) (by kernel_rfl) (by kernel_rfl) (fun _ _ _ h=>h) (Or.inl ⟨by rfl,fun Xw hSW=>by go_simp⟩) hHeld ?_
     simp only [Act.put,List.setIfInBounds_toArray,List.set_cons_zero,List.set_cons_succ]
     refine wpAnyH_take (i:=9) (oi:=⟨some 31,_,_,_,_,_⟩) (v:=.bool false) rfl (by kernel_rfl) (by kernel_rfl) (by kernel_rfl) (fun _ _ _ h=>h) (Or.inl ⟨by rfl,fun Xw hSW=>by go_simp⟩) hHeld ?_
     simp only [Act.put,List.setIfInBounds_toArray,List.set_cons_zero,List.set_cons_succ]
     refine wpAnyH_take (i:=10) (oi:=⟨some 32,_,_,_,_,_⟩) (v:=undef) rfl (by kernel_rfl) (by kernel_rfl) (by kernel_rfl) (fun _ _ _ h=>h) (Or.inr ⟨by kernel_rfl,rfl⟩) hHeld ?_
     simp only [Act.put,List.setIfInBounds_toArray,List.set_cons_zero,List.set_cons_succ]
     refine wpAnyH_take (i:=11) (oi:=⟨some 33,_,_,_,_,_⟩) (v:=undef) rfl (by kernel_rfl) (by kernel_rfl) (by kernel_rfl) (fun _ _ _ h=>h) (Or.inr ⟨by kernel_rfl,rfl⟩) hHeld ?_
     simp only [Act.put,List.setIfInBounds_toArray,List.set_cons_zero,List.set_cons_succ]
     refine wpAnyH_take (i:=12) (oi:=⟨some 34,_,_,_,_,_⟩) (v:=undef) rfl (by kernel_rfl) (by kernel_rfl) (by kernel_rfl) (fun _ _ _ h=>h) (Or.inr ⟨by kernel_rfl,rfl⟩) hHeld ?_
     simp only [Act.put,List.setIfInBounds_toArray,List.set_cons_zero,List.set_cons_succ]
     refine wpAnyH_take (i:=13) (oi:=⟨some 35,_,_,_,_,_⟩) (v:=undef) rfl (by kernel_rfl) (by kernel_rfl) (by kernel_rfl) (fun _ _ _ h=>h) (Or.inr ⟨by kernel_rfl,rfl⟩) hHeld ?_
     simp only [Act.put,List.setIfInBounds_toArray,List.set_cons_zero,List.set_cons_succ]
     refine wpAnyH_take (i:=14) (oi:=⟨some 36,_,_,_,_,_⟩) (v:=undef) rfl (by kernel_rfl) (by kernel_rfl) (by kernel_rfl) (fun _ _ _ h=>h) (Or.inr ⟨by kernel_rfl,rfl⟩) hHeld ?_
     simp only [Act.put,List.setIfInBounds_toArray,List.set_cons_zero,List.set_cons_succ]
     refine wpAnyH_take (i:=15) (oi:=⟨some 37,_,_,_,_,_⟩) (v:=undef) rfl (by kernel_rfl) (by kernel_rfl) (by kernel_rfl) (fun _ _ _ h=>h) (Or.inr ⟨by kernel_rfl,rfl⟩) hHeld ?_
     simp only [Act.put,List.setIfInBounds_toArray,List.set_cons_zero,List.set_cons_succ]
     refine wpAnyH_take (i:=16) (oi:=⟨some 38,_,_,_,_,_⟩) (v:=.bool false) rfl (by kernel_rfl) (by kernel_rfl) (by kernel_rfl) (fun _ _ _ h=>h) (Or.inl ⟨by rfl,fun Xw hSW=>by go_simp⟩) hHeld ?_
     simp only [Act.put,List.setIfInBounds_toArray,List.set_cons_zero,List.set_cons_succ]
     refine wpAnyH_done (by kernel_rfl) ?_ _
     refine NoPanic.normal ?_
     clear hHeld
     go_wp2_with fail
     go_roundw
     case rel=>exact ⟨k + 1,by first | rfl | rw [HW1.out] | (congr 1; omega),by have:=HEQ.out (by first | trivial | rfl); omega,HBR.out.trans (by (repeat' (first | (with_reducible exact Below.refl _ _) | (with_reducible refine Below.setCell ?_ (by (first | omega | (simp; done) | (simp; omega))) _) | (with_reducible refine Below.alloc ?_ (by (first | omega | (simp; done) | (simp; omega))) _) | (with_reducible refine Below.drew ?_) | (with_reducible refine below_drewN ?_ _)))),HQR.out.drew⟩
     case measure =>
      simp only [intOf]
      omega
end FloodW
end Go.Proofs.YtpimkdaikoclnaaDoor
namespace Go.Proofs.YtpimkdaikoclnaaDoor
open Go.RowKit
set_option linter.unusedVariables false
set_option linter.unusedSimpArgs false
namespace FloodW
open BlkP RowG GlowW FloodP
theorem flat_at2:∀ {l:List (Nat × Nat)} {j:Nat} {u:Value},(flat enc2 l)[j]? = some u→∃ i x k,l[i]? = some x∧(enc2.f x)[k]? = some u∧j = i * 2 + k
 | [],j,u,h=>by simp [flat] at h
 | x :: r,j,u,h=>by
  have h2:flat enc2 (x :: r) = enc2.f x ++ flat enc2 r:=rfl
  rw [h2] at h
  by_cases hj:j < 2
  ·rw [List.getElem?_append_left (by rw [enc2.len]; exact hj)] at h
   exact ⟨0,x,j,rfl,h,by omega⟩
  ·rw [List.getElem?_append_right (by rw [enc2.len]; exact Nat.le_of_not_lt hj),enc2.len] at h
   obtain ⟨i,y,k,h1,h3,h4⟩:=flat_at2 h
   refine ⟨i + 1,y,k,h1,h3,?_⟩
   have h5:j - 2 = i * 2 + k:=h4
   omega
section
variable {w:World} {ops:Array Oper} {rest:List Oper} {o:Oper} {a:Act} {Q:Exit→Act→World→Prop} {W:World}
set_option maxRecDepth 100000 in
theorem wp_copyLt (hgd:o.guard = none) (s x:Operand) (ho:o.op = .call { callee:=.builtin .append,args:=#[s,x],argTypes:=#[TSL,TSL] }) {A:Option Addr} {n c:Nat} {l:List (Nat × Nat)}
  (hW:W = w.alloc (.cells #[] TL)) (hs:a.eval s = .slice (some ⟨w.heap.size,0,none⟩) 0 0) (hx:a.eval x = .slice A n c) (hR:Rd enc2 w (.slice A n c) l) (hn:l.length = n) (h0:0 < n) (hl:n≤1000000)
  (h:∀ g c' w',RowG.Own enc2 TL w' w.heap.size (.slice (some ⟨g,0,none⟩) n c') l→Below w.heap.size w w'→wpList Tryd.prog ops Q rest (a.put o.dst (.slice (some ⟨g,0,none⟩) n c')) w'):wpList Tryd.prog ops Q (o :: rest) a W:=by
 subst hW
 obtain ⟨x0,hx0⟩:∃ x,l[0]? = some x:=⟨_,List.getElem?_eq_getElem (by omega)⟩
 obtain ⟨b,of,rfl,hlt,_⟩:=hR.at hx0
 have hown:(w.alloc (.cells #[] TL)).ownsRow w.heap.size TL 2 (.slice (some ⟨w.heap.size,0,none⟩) 0 0) 0 []:=World.ownsRow_made w #[] 0 (Nat.le_refl _) (Nat.zero_le _) rfl
 obtain ⟨i,hi,hz,hs1,hby⟩:=info_parts infoLight
 have hC:∀ j u,(flat enc2 l)[j]? = some u→(w.alloc (.cells #[] TL)).cell? ((⟨b,of,none⟩:Addr).add j) = some u:=fun j u hu=>by
  obtain ⟨k,y,m,h1,h2,rfl⟩:=flat_at2 hu
  obtain ⟨b',o',e,hb',hcs⟩:=hR.at h1
  injection e with e
  injection e with e1 e2
  subst e1 e2
  have hadd:(⟨b,of,none⟩:Addr).add (k * 2 + m) = ⟨b,of + k * 2 + m,none⟩:=by unfold Addr.add; split <;> simp_all <;> omega
  rw [hadd,World.cell?_alloc_lt _ _ _ hlt]
  exact hcs m u h2
 have hF:(flat enc2 l).length = n * 2:=by rw [flat_len,hn]; rfl
 refine wpList_append_own_at _ hgd s x TSL ho w.heap.size TL i _ 2 2 underLights hi hz hs1 hby rfl (by omega) _ 0 [] hs hown ⟨b,of,none⟩ n c (flat enc2 l) hx hF hC (fun u hu=>?_) (by have:maxLen = 9223372036854775807:=rfl; omega) (by omega) (by simp) ?_
 ·obtain ⟨j,hj⟩:=List.getElem?_of_mem hu
  obtain ⟨k,y,m,_,h2,_⟩:=flat_at2 hj
  exact enc2.one y u (List.mem_of_getElem? h2)
 intro v' w' hown' hg _ hb
 have hO:RowG.Own enc2 TL w' w.heap.size v' l:=by
  unfold RowG.Own
  rw [hn]
  have q:=hown'
  rw [Nat.zero_add,List.nil_append] at q
  exact q
 obtain ⟨A',c',rfl,_,_,hA⟩:=hO.form hn
 obtain ⟨g,rfl,hg1,hg2⟩:=hA h0
 exact h g c' w' hO (((Below.refl _ w).alloc (Nat.le_refl _) _).grown hg (by simp) (fun k hk=>by
  have hk':(Value.slice (some ⟨w.heap.size,0,none⟩) 0 0).ownBlock = some k:=hk
  have:w.heap.size = k:=by simpa [Value.ownBlock] using hk'
  omega))
end
def cntD (R L:List (Nat × Nat)):Nat→Nat
 | 0=>0
 | i + 1=>cntD R L i + (if R[i]? = L[i]? then 0 else 1)
theorem cntD_eq (R L:List (Nat × Nat)):∀ n,cntD R L n = ((List.range n).filter fun i=>decide (¬ R[i]? = L[i]?)).length
 | 0=>rfl
 | n + 1=>by
  rw [List.range_succ,List.filter_append,List.length_append,← cntD_eq R L n]
  have e:([n].filter fun i=>decide (¬ R[i]? = L[i]?)).length = if R[n]? = L[n]? then 0 else 1:=by
   by_cases h:R[n]? = L[n]?
   ·rw [if_pos h,List.filter_cons_of_neg (by rw [decide_eq_true_eq]; exact fun q=>q h)]
    rfl
   ·rw [if_neg h,List.filter_cons_of_pos (by rw [decide_eq_true_eq]; exact h)]
    rfl
  rw [e]
  rfl
theorem cntD_le (R L:List (Nat × Nat)):∀ n,cntD R L n≤n
 | 0=>Nat.le_refl _
 | n + 1=>by
  have:=cntD_le R L n
  unfold cntD
  split <;> omega
theorem was_get {f:Fld} (hW:FldW f) {i:Nat} (hi:i < f.X * f.Y * f.Z):f.ls[i]? = some (wasB f false (plc f i),wasB f true (plc f i)):=by
 have hin:=plc_in hi
 have hr:i < f.ls.length:=by rw [hW.ls]; exact hi
 unfold wasB litAt
 rw [if_pos hin,num_plc hi,List.getElem?_eq_getElem hr]
 simp [List.getD,hr]
theorem newL_get {f:Fld} (hC:FldC f) (hW:FldW f) {i:Nat} (hi:i < f.X * f.Y * f.Z):newL f (plc f i)↔¬ (rightL f)[i]? = f.ls[i]?:=by
 rw [right_get2 hC hi,was_get hW hi]
 unfold newL
 rw [plc_in hi]
 simp only [true_and,Option.some.injEq,Prod.mk.injEq]
 constructor
 ·rintro (h | h) ⟨h1,h2⟩
  ·exact h h1
  ·exact h h2
 ·intro h
  by_cases h1:litV f (rightL f) false (plc f i) = wasB f false (plc f i)
  ·exact .inr (fun h2=>h ⟨h1,h2⟩)
  ·exact .inl h1
theorem told_len {f:Fld} (hC:FldC f) (hW:FldW f) {T:List V} (hd:T.Nodup) (hT:∀ q,q ∈ T↔newL f q):T.length = cntD (rightL f) f.ls (f.X * f.Y * f.Z):=by
 rw [cntD_eq]
 have e:((List.range (f.X * f.Y * f.Z)).filter fun i=>decide (¬ (rightL f)[i]? = f.ls[i]?)).length = (((List.range (f.X * f.Y * f.Z)).filter fun i=>decide (¬ (rightL f)[i]? = f.ls[i]?)).map (plc f)).length:=by simp
 rw [e]
 refine cntL hd ?_ (fun q=>?_)
 ·refine List.pairwise_map.2 (List.Pairwise.imp_of_mem ?_ (List.Pairwise.filter _ List.nodup_range))
  intro a b ha hb hne he
  have h1:=List.mem_range.1 (List.mem_filter.1 ha).1
  have h2:=List.mem_range.1 (List.mem_filter.1 hb).1
  exact hne (by rw [← num_plc h1,← num_plc h2,he])
 ·rw [hT,List.mem_map]
  constructor
  ·intro h
   have hq:=h.1
   have hn:=numB_lt hW hq
   refine ⟨numB f q,List.mem_filter.2 ⟨List.mem_range.2 hn,?_⟩,plc_num hq⟩
   rw [← plc_num hq] at h
   exact decide_eq_true ((newL_get hC hW hn).1 h)
  ·rintro ⟨i,hi,rfl⟩
   have h1:=List.mem_range.1 (List.mem_filter.1 hi).1
   have h2:=of_decide_eq_true (List.mem_filter.1 hi).2
   exact (newL_get hC hW h1).2 h2
theorem clO_put {f:Fld} (hW:FldC f) {i:Nat} {c o:Nat × Nat} (hi:i < f.X * f.Y * f.Z) (ho:f.cs[i]? = some o):clO (f.put i c) (plc f i) o = clr f:=by
 funext q
 unfold clO clr
 rw [cellAt_put hW hi]
 by_cases e:q = plc f i
 ·rw [if_pos e,e,cellAt_at hW hi ho]
 ·rw [if_neg e,if_neg e]
theorem near_src {f:Fld} (hW:FldC f) {i:Nat} {c o:Nat × Nat} (hi:i < f.X * f.Y * f.Z) (ho:f.cs[i]? = some o) {q:V} (h:nearK (f.put i c) (plc f i) o q) :
  farI q (plc f i)≤15 ∨ ∃ i0 a b,i0 < f.X * f.Y * f.Z∧(srcL f)[i0]? = some a∧(srcL (f.put i c))[i0]? = some b∧a ≠ b∧farI q (plc (f.put i c) i0)≤15:=by
 obtain ⟨d,hd,hg⟩:=h
 rcases hd with e | ⟨hin,hs⟩
 ·subst e
  exact .inl hg
 ·have hin':inB f d = true:=hin
  have hn:numB f d < f.X * f.Y * f.Z:=by
   have:=inB_iff.1 hin'
   exact GlowP.at_lt (by omega) (by omega) (by omega)
  refine .inr ⟨numB f d,_,_,hn,srcL_get hn,srcL_get (f:=f.put i c) hn,?_,?_⟩
  ·rw [clO_put hW hi ho] at hs
   have e1:plc f (numB f d) = d:=plc_num hin'
   have e2:plc (f.put i c) (numB f d) = d:=plc_num hin'
   rw [e1,e2]
   intro hd
   have h1:=skyS_or (clr f) d
   have h2:=skyS_or (clr (f.put i c)) d
   have h3:(skyS (clr f) d = 15↔skyS (clr (f.put i c)) d = 15):=by
    have:=congrArg (· = true) hd
    simpa using this
   omega
  ·rw [show plc (f.put i c) (numB f d) = d from plc_num hin']
   exact hg
def Fld.clean (f:Fld):Fld:={ f with vA:=.slice none 0 0,vT:=.slice none 0 0,ak:=[],ts:=[],other:=0 }
theorem FldM.reset {f:Fld} {w:World} (h:FldM w f):FldM (((w.setCell ⟨f.F,8,none⟩ (.slice none 0 0)).setCell ⟨f.F,9,none⟩ (.slice none 0 0)).setCell ⟨f.F,10,none⟩ (.int .i64 0)) f.clean∧Fr (fun k=>k = f.F) w (((w.setCell ⟨f.F,8,none⟩ (.slice none 0 0)).setCell ⟨f.F,9,none⟩ (.slice none 0 0)).setCell ⟨f.F,10,none⟩ (.int .i64 0)):=by
 have f2:Fr (fun k=>k = f.F) w (((w.setCell ⟨f.F,8,none⟩ (.slice none 0 0)).setCell ⟨f.F,9,none⟩ (.slice none 0 0)).setCell ⟨f.F,10,none⟩ (.int .i64 0)) :=
  ((Fr.set (fun k=>k = f.F) w ⟨f.F,8,none⟩ _ rfl).trans (Fr.set (fun k=>k = f.F) _ ⟨f.F,9,none⟩ _ rfl) (fun _ h=>.inl h)).trans (Fr.set (fun k=>k = f.F) _ ⟨f.F,10,none⟩ _ rfl) (fun _ h=>.inl h)
 have key:∀ {α:Type} {e:Enc α} {E:TypeId} {u:Value} {l:List α},RowG.Own e E w 0 u l→E ≠ TW→RowG.Own e E (((w.setCell ⟨f.F,8,none⟩ (.slice none 0 0)).setCell ⟨f.F,9,none⟩ (.slice none 0 0)).setCell ⟨f.F,10,none⟩ (.int .i64 0)) 0 u l:=fun ho hE=>f2.own ho (fun k e e2=>by
  obtain ⟨us,hu⟩:=own_cells ho e
  rw [e2] at hu
  exact Blk.ne hu h.blk hE rfl)
 refine ⟨⟨((h.blk.set 8 _).set 9 _).set 10 _,key h.cs (by decide),key h.ls (by decide),Own.nil _ _ _ _,Own.nil _ _ _ _,fun g e=>by cases e⟩,f2⟩
theorem near_wide {f:Fld} (hW:FldC f) {p q:V} {o:Nat × Nat} (hp:inB f p = true) (h:nearK f p o q):wideP q:=by
 obtain ⟨c,hc,hg⟩:=h
 have hin:inB f c = true:=by
  rcases hc with e | e
  ·rw [e]; exact hp
  ·exact e.1
 have h1:=inB_iff.1 hin
 have h2:=hW.lx
 have h3:=hW.ly
 have h4:=hW.lz
 unfold gapZ at hg
 unfold wideP
 omega
structure LocK (W:World) (B g1 n c1:Nat) (L:List (Nat × Nat)) (g3:Nat) (s:List Bool):Prop where
 own:RowG.Own enc2 TL W B (.slice (some ⟨g1,0,none⟩) n c1) L
 src:Blk W g3 4 (s.map Value.bool)
 ge:B≤g3
theorem LocK.fr {S:Nat→Prop} {W W':World} {B g1 n c1 g3:Nat} {L:List (Nat × Nat)} {s:List Bool} (h:LocK W B g1 n c1 L g3 s) (hf:Fr S W W') (hS:∀ k,S k→k < B ∨ W.heap.size≤k):LocK W' B g1 n c1 L g3 s:=by
 refine ⟨hf.own h.own (fun k e hk=>?_),hf.blk h.src (fun hk=>?_),h.ge⟩
 ·have h1:=h.own.ge k e
  have h2:=hS k hk
  omega
 ·have h1:=h.src.lt
  have h2:=hS _ hk
  have h3:=h.ge
  omega
theorem LocK.below {W W':World} {B g1 n c1 g3:Nat} {L:List (Nat × Nat)} {s:List Bool} (h:LocK W B g1 n c1 L g3 s) (hb:Below W.heap.size W W'):LocK W' B g1 n c1 L g3 s:=h.fr (Fr.below (fun _=>False) hb) (fun _ h=>h.elim)
def StK (w0:World) (F:Nat) (w:World):Prop:=Below w0.heap.size w0 w∧∃ f:Fld,f.F = F∧FldM w f∧FldC f∧f.ls = rightL f∧∀ k,SC f k ∨ f.vC.ownBlock = some k→w0.heap.size≤k
theorem src_cs {f f':Fld} (h1:f'.lo = f.lo) (h2:f'.X = f.X) (h3:f'.Y = f.Y) (h4:f'.Z = f.Z) (h5:f'.cs = f.cs):srcL f' = srcL f:=by
 obtain ⟨e1,e2,e3⟩:=inB_congr h1 h2 h3 h4
 have hc:clr f' = clr f:=by
  funext q
  unfold clr cellAt
  rw [e1,e2,h5]
 unfold srcL
 rw [h2,h3,h4,hc,e3]
end FloodW
end Go.Proofs.YtpimkdaikoclnaaDoor
