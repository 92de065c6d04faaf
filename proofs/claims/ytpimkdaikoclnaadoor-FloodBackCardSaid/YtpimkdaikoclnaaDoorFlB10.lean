import Derived.Test.YtpimkdaikoclnaaDoorFlB7
import Derived.Test.YtpimkdaikoclnaaDoorFlB8
import Derived.Test.YtpimkdaikoclnaaDoorFlB9
import Derived.Test.YtpimkdaikoclnaaDoorFlB1
namespace Go.Proofs.YtpimkdaikoclnaaDoor
open Go.RowKit
set_option linter.unusedVariables false
set_option linter.unusedSimpArgs false
namespace FloodW
open BlkP RowG GlowW FloodP
theorem opn_more {a b:Gh} (h:More a b):∀ (n:Nat) (q:V) (br:Bool),opn b.f n q br = opn a.f n q br
 | 0,_,_=>rfl
 | n + 1,q,br=>by
  unfold opn
  cases sideO q 4 with
  | none=>rfl
  | some c=>simp only [h.clr,h.was,opn_more h n]
theorem opnOk.more {a b:Gh} (h:More a b):∀ {n:Nat} {q:V},opnOk a n q→opnOk b n q
 | 0,_,_=>trivial
 | n + 1,q,hk=>fun c hc=>⟨h.ok (hk c hc).1,fun hcl=>opnOk.more h ((hk c hc).2 (by rw [← h.clr]; exact hcl))⟩
def MoreS (g g':Gh):Prop:=(∃ vA ak kn lo ow nw,g' = { g.more vA ak kn with low:=lo,ow:=ow,nw:=nw })∧∀ p,p ∈ g.kn→p ∈ g'.kn
theorem MoreC.toS {g g':Gh} (h:MoreC g g'):MoreS g g':=by
 obtain ⟨⟨vA,ak,kn,lo,ow,e⟩,h2⟩:=h
 exact ⟨⟨vA,ak,kn,lo,ow,g.nw,e⟩,h2⟩
theorem MoreB.toS {b:Bool} {g g':Gh} (h:MoreB b g g'):MoreS g g':=by
 obtain ⟨⟨vA,ak,kn,f,e⟩,h2⟩:=h
 exact ⟨⟨vA,ak,kn,g.low,g.ow,_,e⟩,h2⟩
theorem MoreS.trans {x y z:Gh} (h:MoreS x y) (k:MoreS y z):MoreS x z:=by
 obtain ⟨⟨_,_,_,_,_,_,e1⟩,h2⟩:=h
 obtain ⟨⟨vA,ak,kn,lo,ow,nw,e2⟩,h4⟩:=k
 exact ⟨⟨vA,ak,kn,lo,ow,nw,by rw [e2,e1]; rfl⟩,fun p hp=>h4 p (h2 p hp)⟩
section
variable {x y:Gh}
theorem MoreS.clr (h:MoreS x y) (q:V):clr y.f q = clr x.f q:=by
 obtain ⟨⟨_,_,_,_,_,_,e1⟩,_⟩:=h
 rw [e1]; rfl
theorem MoreS.same (h:MoreS x y):y.wk = x.wk∧y.at_ = x.at_∧y.M = x.M∧y.f.F = x.f.F:=by
 obtain ⟨⟨_,_,_,_,_,_,e1⟩,_⟩:=h
 rw [e1]; exact ⟨rfl,rfl,rfl,rfl⟩
theorem MoreB.nwo {b c:Bool} (h:MoreB b x y) (hc:c ≠ b):y.nw c = x.nw c:=by
 obtain ⟨⟨_,_,_,_,e1⟩,_⟩:=h
 rw [e1]
 show (if c = b then _ else x.nw c) = _
 rw [if_neg hc]
end
def PSet (b:Bool) (g1:Gh) (T:List V) (now:V→Nat):Prop:=∃ G:Set0,Fit G∧(∀ q,q ∉ G.side q)∧G.C = T∧G.side = sidesV∧G.cn = clr g1.f∧G.now = now∧PRel b g1 G
def Turned (g:Gh) (old:Nat × Nat):Prop:=clr g.f g.at_ ≠ openA old
def Before (g:Gh) (old:Nat × Nat) (g1:Gh):Prop:=MoreS g g1∧g1.ow true = g.ow true∧g1.nw true = g.nw true∧(¬ Turned g old→g1.low = g.low)∧(Turned g old→∃ gk gc T,More g gk∧ColR gk gc T∧g1.low = gc.low)
structure SetH (g:Gh) (old:Nat × Nat) (S:Bool→V→Nat):Prop where
 at_ok:okP g g.at_
 ups:Turned g old→opnOk g 15 g.at_
 col:Turned g old→opn g.f 15 g.at_ true = true→colOk g 64 g.at_
 lampAt:g.ow true g.at_ = lampA (cellAt g.f g.at_)
 sky:Turned g old→∀ gk g1 T,More g gk→ColR gk g1 T→PSet false g1 T (S false)
 lamp:(Turned g old ∨ lampA (cellAt g.f g.at_) ≠ lampA old)→∀ g1,Before g old g1→PSet true g1 [g.at_] (S true)
def SettleP (w:World) (g:Gh) (old:Nat × Nat) (S:Bool→V→Nat) (e:Ending) (w':World):Prop:=∃ g',e = .returned (.tuple #[])∧MoreS g g'∧Sx w' g'∧Go g w g' w'∧(∃ b,(g.at_,b) ∈ g'.kn) ∧
 (Turned g old→SolV sidesV (clr g.f) (S false) (g'.nw false))∧(¬ Turned g old→g'.nw false = g.nw false) ∧
 ((Turned g old ∨ lampA (cellAt g.f g.at_) ≠ lampA old)→SolV sidesV (clr g.f) (S true) (g'.nw true))∧(¬ (Turned g old ∨ lampA (cellAt g.f g.at_) ≠ lampA old)→g'.nw true = g.nw true)
set_option maxRecDepth 100000 in
set_option maxHeartbeats 16000000 in
theorem settle_c {w:World} {g:Gh} {o1 o2:Nat} {S:Bool→V→Nat} (h:Sx w g) (hH:SetH g (o1,o2) S) :
  Calls Tryd.prog 26 #[.pointer (some ⟨g.wk,0,none⟩),.agg #[.int .u8 o1,.int .u8 o2]] w (SettleP w g (o1,o2) S):=by
 have HS:=Lib.hid h
 have HH:=Lib.hid hH
 have k1:w.cell? ⟨g.wk,1,none⟩ = some (.int .i64 g.at_.1):=h.st.work.cell (i:=1) rfl
 have k2:w.cell? ⟨g.wk,2,none⟩ = some (.int .i64 g.at_.2.1):=h.st.work.cell (i:=2) rfl
 have k3:w.cell? ⟨g.wk,3,none⟩ = some (.int .i64 g.at_.2.2):=h.st.work.cell (i:=3) rfl
 have hwl:=h.st.work.lt
 clear h hH
 go_enter Tryd.func26,Tryd.ntmps26
 go_wp2_with fail
 go_at_call 37
 refine calls_named (S:=fun W=>Below w.heap.size w W∧Blk W w.heap.size TC [.int .u8 o1,.int .u8 o2]) ⟨by (repeat' (first | (with_reducible exact Below.refl _ _) | (with_reducible refine Below.setCell ?_ (by (first | omega | (simp; done) | (simp; omega))) _) | (with_reducible refine Below.alloc ?_ (by (first | omega | (simp; done) | (simp; omega))) _) | (with_reducible refine Below.drew ?_) | (with_reducible refine below_drewN ?_ _))),by (repeat' (first | (with_reducible refine BlkP.Blk.drew ?_) | (with_reducible refine BlkP.Blk.drewN ?_ _) | (with_reducible refine BlkP.Blk.setAt (us:=?_) (by first | omega | (simp; done) | (simp; omega)) rfl ?_ ?_) | (with_reducible refine BlkP.Blk.otherAt ?_ (by first | omega | (simp; done) | (simp; omega))) | (with_reducible refine BlkP.Blk.newA' (by first | omega | (simp; done) | (simp; omega)) rfl) | (with_reducible refine BlkP.Blk.alloc ?_ _) | (exact rfl)))⟩ ?_
 rintro W1 ⟨hb1,hl1⟩
 refine (know_m (q:=g.at_) (HS.out.below hb1) HH.out.at_ok).mono ?_
 rintro e W2 ⟨kb,gk,rfl,hmem,hmk,hsxk,hgok⟩
 have HMK:=Lib.hid hmk
 have HSXK:=Lib.hid hsxk
 have HGOK:=Lib.hid ((Go.below g hb1).trans hgok)
 have HOB:=Lib.hid (Loc.go (g:=g) ⟨hl1,HS.out.st.new (Nat.le_refl _)⟩ hgok)
 have cl:W2.cell? ⟨kb,0,none⟩ = some (.bool (clr g.f g.at_)):=by
  have:=k_clear (hsxk.st.known _ _ hmem)
  rwa [hmk.clr] at this
 have cw:W2.cell? ⟨kb,2,none⟩ = some (.int .u8 (lampA (cellAt g.f g.at_):Int)):=by
  have:W2.cell? ⟨kb,2,none⟩ = some (.int .u8 (gk.ow true g.at_:Int)):=k_own true (hsxk.st.known _ _ hmem)
  rwa [hmk.same.2.2.2.1,HH.out.lampAt] at this
 have o0:W2.cell? ⟨w.heap.size,0,none⟩ = some (.int .u8 o1):=HOB.out.1.cell (i:=0) rfl
 have o1':W2.cell? ⟨w.heap.size,1,none⟩ = some (.int .u8 o2):=HOB.out.1.cell (i:=1) rfl
 have HKL:=Lib.hid (hsxk.st.known _ _ hmem).lt
 have HMEM:=Lib.hid hmem
 clear hb1 hl1 hmem hmk hsxk hgok
 clear k1 k2 k3
 cases hcN:clr g.f g.at_ with
 | false =>
  cases hcO:openA (o1,o2) with
  | false =>
   rw [hcN] at cl
   have HCO:=Lib.hid hcO
   clear o0 o1'
   go_wp2_with fail
   refine wp_region_noPanic ?_
   refine wp_region_held_drew (S:=fun Xw=>Xw.cell? ⟨kb,0,none⟩ = some (.bool false)∧Blk Xw w.heap.size TC [.int .u8 o1,.int .u8 o2]) (by kernel_rfl) (⟨cl,HOB.out.1⟩) (fun hHeld=>?_)
   refine wpAnyH_take (i:=0) (oi:=⟨some 15,_,_,_,_,_⟩) (v:=.pointer (some ⟨kb,0,none⟩)) rfl (by kernel_rfl) (by kernel_rfl) (by kernel_rfl) (fun _ _ _ h=>h) (Or.inl ⟨by rfl,fun Xw hSW=>by go_simp⟩) hHeld ?_
   simp only [Act.put,List.setIfInBounds_toArray,List.set_cons_zero,List.set_cons_succ]
   refine wpAnyH_take (i:=1) (oi:=⟨some 16,_,_,_,_,_⟩) (v:=.pointer (some ⟨kb,0,none⟩)) rfl (by kernel_rfl) (by kernel_rfl) (by kernel_rfl) (fun _ _ _ h=>h) (Or.inl ⟨by rfl,fun Xw hSW=>by go_simp⟩) hHeld ?_
   simp only [Act.put,List.setIfInBounds_toArray,List.set_cons_zero,List.set_cons_succ]
   refine wpAnyH_take (i:=2) (oi:=⟨some 17,_,_,_,_,_⟩) (v:=.pointer (some ⟨kb,0,none⟩)) rfl (by kernel_rfl) (by kernel_rfl) (by kernel_rfl) (fun _ _ _ h=>h) (Or.inl ⟨by rfl,fun Xw hSW=>by go_simp⟩) hHeld ?_
   simp only [Act.put,List.setIfInBounds_toArray,List.set_cons_zero,List.set_cons_succ]
   refine wpAnyH_take (i:=3) (oi:=⟨some 18,_,_,_,_,_⟩) (v:=.bool false) rfl (by kernel_rfl) (by kernel_rfl) (by kernel_rfl) (fun _ _ _ h=>h) (Or.inl ⟨by rfl,fun Xw hSW=>by have a:=hSW.1; go_simp⟩) hHeld ?_
   simp only [Act.put,List.setIfInBounds_toArray,List.set_cons_zero,List.set_cons_succ]
   refine wpAnyH_take (i:=4) (oi:=⟨some 19,_,_,_,_,_⟩) (v:=.agg #[.int .u8 o1,.int .u8 o2]) rfl (by kernel_rfl) (by kernel_rfl) (by kernel_rfl) (fun _ _ _ h=>h) (Or.inl ⟨by rfl,fun Xw hSW=>by have a0:=hSW.2.cell (i:=0) rfl; have a1:=hSW.2.cell (i:=1) rfl; go_simp⟩) hHeld ?_
   simp only [Act.put,List.setIfInBounds_toArray,List.set_cons_zero,List.set_cons_succ]
   refine wpAnyH_ready (rs:=[5]) (by kernel_rfl) (by simp) ?_
   refine AllReadyH.cons (o:=⟨some 20,_,_,_,_,_⟩) rfl (fun K hK=>?_) AllReadyH.nil
   go_simp
   refine (opens_b (k:=o1) (l:=o2) W2.drew (HSXK.out.below (Below.refl W2.heap.size W2).drew).tab).mono ?_
   rintro e W3 ⟨rfl,hb3'⟩
   rw [HCO.out]
   have hb3:Below W2.heap.size W2 W3:=(Below.refl W2.heap.size W2).drew.trans hb3'
   have HSX3:=Lib.hid (HSXK.out.below hb3)
   have HGO3:=Lib.hid (HGOK.out.trans (Go.below gk hb3))
   have HOB3:=Lib.hid (HOB.out.below hb3)
   have HK3:=Lib.hid (show W3.cell? ⟨kb,2,none⟩ = some (.int .u8 (lampA (cellAt g.f g.at_):Int)) from ((Fr.below (fun _=>False) hb3).cell (p:=⟨kb,2,none⟩) HKL.out (fun h=>h)).trans cw)
   have HC3:=Lib.hid (((Fr.below (fun _=>False) hb3).cell (p:=⟨kb,0,none⟩) HKL.out (fun h=>h)).trans cl)
   have HKLT:=Lib.hid (Nat.lt_of_lt_of_le HKL.out hb3.size)
   clear hb3 hb3' cl cw
   try go_wp2_with fail
   refine hK.out _ _ (⟨HC3.out,HOB3.out.1⟩) (fun hHeld=>?_)
   clear hK K
   refine wpAnyH_take (i:=6) (oi:=⟨some 21,_,_,_,_,_⟩) (v:=.bool false) rfl (by kernel_rfl) (by kernel_rfl) (by kernel_rfl) (fun _ _ _ h=>h) (Or.inl ⟨by rfl,fun Xw hSW=>by go_simp⟩) hHeld ?_
   simp only [Act.put,List.setIfInBounds_toArray,List.set_cons_zero,List.set_cons_succ]
   refine wpAnyH_take (i:=7) (oi:=⟨some 7,_,_,_,_,_⟩) (v:=.bool false) rfl (by kernel_rfl) (by kernel_rfl) (by kernel_rfl) (fun _ _ _ h=>h) (Or.inl ⟨by rfl,fun Xw hSW=>by go_simp⟩) hHeld ?_
   simp only [Act.put,List.setIfInBounds_toArray,List.set_cons_zero,List.set_cons_succ]
   refine wpAnyH_done (by kernel_rfl) ?_ _
   refine NoPanic.normal ?_
   clear HCO
   have HTU:=Lib.hid (show ¬ Turned g (o1,o2) by rw [Turned,hcN,hcO]; decide)
   clear hcN hcO
   obtain ⟨lv,hlv⟩:∃ lv,lampA (cellAt g.f g.at_) = lv:=⟨_,rfl⟩
   obtain ⟨lo,hlo⟩:∃ lo,KindP.lamp o1 o2 = lo:=⟨_,rfl⟩
   have HLO:=Lib.hid hlo
   have hk3:=HK3.out
   rw [hlv] at hk3
   have HK4:=Lib.hid hk3
   by_cases hll:lv = lo
   ·have HLN:=Lib.hid (show ¬ (Turned g (o1,o2) ∨ lampA (cellAt g.f g.at_) ≠ lampA (o1,o2)) by rintro (e | e); exact HTU.out e; exact e (by rw [hlv,hll]; exact hlo.symm))
    have hEq:((lv:Int) == (lo:Int)) = true:=by simpa using (show (lv:Int) = (lo:Int) by omega)
    have hll2:(lv:Int) = (lo:Int):=by omega
    clear hlv hlo hk3
    go_wp2_with fail
    refine wp_region_noPanic ?_
    refine wp_region_held_drew (S:=fun Xw=>Xw.cell? ⟨kb,2,none⟩ = some (.int .u8 lv)∧Blk Xw w.heap.size TC [.int .u8 o1,.int .u8 o2]) (by kernel_rfl) (⟨HK4.out,HOB3.out.1⟩) (fun hHeld=>?_)
    refine wpAnyH_take (i:=0) (oi:=⟨some 32,_,_,_,_,_⟩) (v:=.bool false) rfl (by kernel_rfl) (by kernel_rfl) (by kernel_rfl) (fun _ _ _ h=>h) (Or.inl ⟨by rfl,fun Xw hSW=>by go_simp⟩) hHeld ?_
    simp only [Act.put,List.setIfInBounds_toArray,List.set_cons_zero,List.set_cons_succ]
    refine wpAnyH_take (i:=1) (oi:=⟨some 33,_,_,_,_,_⟩) (v:=.bool false) rfl (by kernel_rfl) (by kernel_rfl) (by kernel_rfl) (fun _ _ _ h=>h) (Or.inl ⟨by rfl,fun Xw hSW=>by go_simp⟩) hHeld ?_
    simp only [Act.put,List.setIfInBounds_toArray,List.set_cons_zero,List.set_cons_succ]
    refine wpAnyH_take (i:=2) (oi:=⟨some 34,_,_,_,_,_⟩) (v:=.pointer (some ⟨kb,0,none⟩)) rfl (by kernel_rfl) (by kernel_rfl) (by kernel_rfl) (fun _ _ _ h=>h) (Or.inl ⟨by rfl,fun Xw hSW=>by go_simp⟩) hHeld ?_
    simp only [Act.put,List.setIfInBounds_toArray,List.set_cons_zero,List.set_cons_succ]
    refine wpAnyH_take (i:=3) (oi:=⟨some 35,_,_,_,_,_⟩) (v:=.pointer (some ⟨kb,0,none⟩)) rfl (by kernel_rfl) (by kernel_rfl) (by kernel_rfl) (fun _ _ _ h=>h) (Or.inl ⟨by rfl,fun Xw hSW=>by go_simp⟩) hHeld ?_
    simp only [Act.put,List.setIfInBounds_toArray,List.set_cons_zero,List.set_cons_succ]
    refine wpAnyH_take (i:=4) (oi:=⟨some 36,_,_,_,_,_⟩) (v:=.pointer (some ⟨kb,1,none⟩)) rfl (by kernel_rfl) (by kernel_rfl) (by kernel_rfl) (fun _ _ _ h=>h) (Or.inl ⟨by rfl,fun Xw hSW=>by go_simp⟩) hHeld ?_
    simp only [Act.put,List.setIfInBounds_toArray,List.set_cons_zero,List.set_cons_succ]
    refine wpAnyH_take (i:=5) (oi:=⟨some 37,_,_,_,_,_⟩) (v:=.pointer (some ⟨kb,2,none⟩)) rfl (by kernel_rfl) (by kernel_rfl) (by kernel_rfl) (fun _ _ _ h=>h) (Or.inl ⟨by rfl,fun Xw hSW=>by go_simp⟩) hHeld ?_
    simp only [Act.put,List.setIfInBounds_toArray,List.set_cons_zero,List.set_cons_succ]
    refine wpAnyH_take (i:=6) (oi:=⟨some 38,_,_,_,_,_⟩) (v:=.int .u8 lv) rfl (by kernel_rfl) (by kernel_rfl) (by kernel_rfl) (fun _ _ _ h=>h) (Or.inl ⟨by rfl,fun Xw hSW=>by have a:=hSW.1; go_simp⟩) hHeld ?_
    simp only [Act.put,List.setIfInBounds_toArray,List.set_cons_zero,List.set_cons_succ]
    refine wpAnyH_take (i:=7) (oi:=⟨some 39,_,_,_,_,_⟩) (v:=.agg #[.int .u8 o1,.int .u8 o2]) rfl (by kernel_rfl) (by kernel_rfl) (by kernel_rfl) (fun _ _ _ h=>h) (Or.inl ⟨by rfl,fun Xw hSW=>by have a0:=hSW.2.cell (i:=0) rfl; have a1:=hSW.2.cell (i:=1) rfl; go_simp⟩) hHeld ?_
    simp only [Act.put,List.setIfInBounds_toArray,List.set_cons_zero,List.set_cons_succ]
    refine wpAnyH_ready (rs:=[8]) (by kernel_rfl) (by simp) ?_
    refine AllReadyH.cons (o:=⟨some 40,_,_,_,_,_⟩) rfl (fun K hK=>?_) AllReadyH.nil
    go_simp
    refine (KindW.k_lamp o1 o2 _ (HSX3.out.below (by (repeat' (first | (with_reducible exact Below.refl _ _) | (with_reducible refine Below.setCell ?_ (by (first | omega | (simp; done) | (simp; omega))) _) | (with_reducible refine Below.alloc ?_ (by (first | omega | (simp; done) | (simp; omega))) _) | (with_reducible refine Below.drew ?_) | (with_reducible refine below_drewN ?_ _))))).tab).mono ?_
    rintro e W5 ⟨rfl,hb5'⟩
    rw [HLO.out]
    have hb5:Below W3.heap.size W3 W5:=(show Below W3.heap.size W3 _ by (repeat' (first | (with_reducible exact Below.refl _ _) | (with_reducible refine Below.setCell ?_ (by (first | omega | (simp; done) | (simp; omega))) _) | (with_reducible refine Below.alloc ?_ (by (first | omega | (simp; done) | (simp; omega))) _) | (with_reducible refine Below.drew ?_) | (with_reducible refine below_drewN ?_ _)))).trans (hb5'.mono (by simp))
    have HSX3:=Lib.hid (HSX3.out.below hb5)
    have HGO3:=Lib.hid (HGO3.out.trans (Go.below gk hb5))
    have HOB5:=Lib.hid (HOB3.out.below hb5)
    have HK5:=Lib.hid (((Fr.below (fun _=>False) hb5).cell (p:=⟨kb,2,none⟩) (HKLT.out) (fun h=>h)).trans HK4.out)
    clear hb5 hb5'
    try go_wp2_with fail
    refine hK.out _ _ (⟨HK5.out,HOB5.out.1⟩) (fun hHeld=>?_)
    clear hK K
    refine wpAnyH_take (i:=9) (oi:=⟨some 41,_,_,_,_,_⟩) (v:=.bool false) rfl (by kernel_rfl) (by kernel_rfl) (by kernel_rfl) (fun _ _ _ h=>h) (Or.inl ⟨by rfl,fun Xw hSW=>by have q:=hEq; have q2:=hll2; go_simp⟩) hHeld ?_
    simp only [Act.put,List.setIfInBounds_toArray,List.set_cons_zero,List.set_cons_succ]
    refine wpAnyH_take (i:=10) (oi:=⟨some 42,_,_,_,_,_⟩) (v:=.bool false) rfl (by kernel_rfl) (by kernel_rfl) (by kernel_rfl) (fun _ _ _ h=>h) (Or.inl ⟨by rfl,fun Xw hSW=>by go_simp⟩) hHeld ?_
    simp only [Act.put,List.setIfInBounds_toArray,List.set_cons_zero,List.set_cons_succ]
    refine wpAnyH_done (by kernel_rfl) ?_ _
    refine NoPanic.normal ?_
    go_wp2_with fail
    ((try simp only [Exit.inBlock,Exit.then]); refine bodyPost_ret (results_none rfl _ _ _) rfl ?_)
    have hd:=(Below.refl W3.heap.size W3).drew.drew
    exact ⟨gk,rfl,HMK.out.toC.toS,HSX3.out.below (by (repeat' (first | (with_reducible exact Below.refl _ _) | (with_reducible refine Below.setCell ?_ (by (first | omega | (simp; done) | (simp; omega))) _) | (with_reducible refine Below.alloc ?_ (by (first | omega | (simp; done) | (simp; omega))) _) | (with_reducible refine Below.drew ?_) | (with_reducible refine below_drewN ?_ _)))),HGO3.out.trans (Go.below gk (by (repeat' (first | (with_reducible exact Below.refl _ _) | (with_reducible refine Below.setCell ?_ (by (first | omega | (simp; done) | (simp; omega))) _) | (with_reducible refine Below.alloc ?_ (by (first | omega | (simp; done) | (simp; omega))) _) | (with_reducible refine Below.drew ?_) | (with_reducible refine below_drewN ?_ _))))),⟨kb,HMEM.out⟩,fun e=>absurd e HTU.out,fun _=>congrFun HMK.out.same.2.2.2.2.1 false,fun e=>absurd e HLN.out,fun _=>congrFun HMK.out.same.2.2.2.2.1 true⟩
   ·have HLT:=Lib.hid (show Turned g (o1,o2) ∨ lampA (cellAt g.f g.at_) ≠ lampA (o1,o2) from .inr (by rw [hlv]; intro e; exact hll (e.trans hlo)))
    have hEq:((lv:Int) == (lo:Int)) = false:=by simpa using (show ¬ (lv:Int) = (lo:Int) by omega)
    have hll2:¬ (lv:Int) = (lo:Int):=by omega
    clear hlv hlo hk3
    go_wp2_with fail
    refine wp_region_noPanic ?_
    refine wp_region_held_drew (S:=fun Xw=>Xw.cell? ⟨kb,2,none⟩ = some (.int .u8 lv)∧Blk Xw w.heap.size TC [.int .u8 o1,.int .u8 o2]) (by kernel_rfl) (⟨HK4.out,HOB3.out.1⟩) (fun hHeld=>?_)
    refine wpAnyH_take (i:=0) (oi:=⟨some 32,_,_,_,_,_⟩) (v:=.bool false) rfl (by kernel_rfl) (by kernel_rfl) (by kernel_rfl) (fun _ _ _ h=>h) (Or.inl ⟨by rfl,fun Xw hSW=>by go_simp⟩) hHeld ?_
    simp only [Act.put,List.setIfInBounds_toArray,List.set_cons_zero,List.set_cons_succ]
    refine wpAnyH_take (i:=1) (oi:=⟨some 33,_,_,_,_,_⟩) (v:=.bool false) rfl (by kernel_rfl) (by kernel_rfl) (by kernel_rfl) (fun _ _ _ h=>h) (Or.inl ⟨by rfl,fun Xw hSW=>by go_simp⟩) hHeld ?_
    simp only [Act.put,List.setIfInBounds_toArray,List.set_cons_zero,List.set_cons_succ]
    refine wpAnyH_take (i:=2) (oi:=⟨some 34,_,_,_,_,_⟩) (v:=.pointer (some ⟨kb,0,none⟩)) rfl (by kernel_rfl) (by kernel_rfl) (by kernel_rfl) (fun _ _ _ h=>h) (Or.inl ⟨by rfl,fun Xw hSW=>by go_simp⟩) hHeld ?_
    simp only [Act.put,List.setIfInBounds_toArray,List.set_cons_zero,List.set_cons_succ]
    refine wpAnyH_take (i:=3) (oi:=⟨some 35,_,_,_,_,_⟩) (v:=.pointer (some ⟨kb,0,none⟩)) rfl (by kernel_rfl) (by kernel_rfl) (by kernel_rfl) (fun _ _ _ h=>h) (Or.inl ⟨by rfl,fun Xw hSW=>by go_simp⟩) hHeld ?_
    simp only [Act.put,List.setIfInBounds_toArray,List.set_cons_zero,List.set_cons_succ]
    refine wpAnyH_take (i:=4) (oi:=⟨some 36,_,_,_,_,_⟩) (v:=.pointer (some ⟨kb,1,none⟩)) rfl (by kernel_rfl) (by kernel_rfl) (by kernel_rfl) (fun _ _ _ h=>h) (Or.inl ⟨by rfl,fun Xw hSW=>by go_simp⟩) hHeld ?_
    simp only [Act.put,List.setIfInBounds_toArray,List.set_cons_zero,List.set_cons_succ]
    refine wpAnyH_take (i:=5) (oi:=⟨some 37,_,_,_,_,_⟩) (v:=.pointer (some ⟨kb,2,none⟩)) rfl (by kernel_rfl) (by kernel_rfl) (by kernel_rfl) (fun _ _ _ h=>h) (Or.inl ⟨by rfl,fun Xw hSW=>by go_simp⟩) hHeld ?_
    simp only [Act.put,List.setIfInBounds_toArray,List.set_cons_zero,List.set_cons_succ]
    refine wpAnyH_take (i:=6) (oi:=⟨some 38,_,_,_,_,_⟩) (v:=.int .u8 lv) rfl (by kernel_rfl) (by kernel_rfl) (by kernel_rfl) (fun _ _ _ h=>h) (Or.inl ⟨by rfl,fun Xw hSW=>by have a:=hSW.1; go_simp⟩) hHeld ?_
    simp only [Act.put,List.setIfInBounds_toArray,List.set_cons_zero,List.set_cons_succ]
    refine wpAnyH_take (i:=7) (oi:=⟨some 39,_,_,_,_,_⟩) (v:=.agg #[.int .u8 o1,.int .u8 o2]) rfl (by kernel_rfl) (by kernel_rfl) (by kernel_rfl) (fun _ _ _ h=>h) (Or.inl ⟨by rfl,fun Xw hSW=>by have a0:=hSW.2.cell (i:=0) rfl; have a1:=hSW.2.cell (i:=1) rfl; go_simp⟩) hHeld ?_
    simp only [Act.put,List.setIfInBounds_toArray,List.set_cons_zero,List.set_cons_succ]
    refine wpAnyH_ready (rs:=[8]) (by kernel_rfl) (by simp) ?_
    refine AllReadyH.cons (o:=⟨some 40,_,_,_,_,_⟩) rfl (fun K hK=>?_) AllReadyH.nil
    go_simp
    refine (KindW.k_lamp o1 o2 _ (HSX3.out.below (by (repeat' (first | (with_reducible exact Below.refl _ _) | (with_reducible refine Below.setCell ?_ (by (first | omega | (simp; done) | (simp; omega))) _) | (with_reducible refine Below.alloc ?_ (by (first | omega | (simp; done) | (simp; omega))) _) | (with_reducible refine Below.drew ?_) | (with_reducible refine below_drewN ?_ _))))).tab).mono ?_
    rintro e W5 ⟨rfl,hb5'⟩
    rw [HLO.out]
    have hb5:Below W3.heap.size W3 W5:=(show Below W3.heap.size W3 _ by (repeat' (first | (with_reducible exact Below.refl _ _) | (with_reducible refine Below.setCell ?_ (by (first | omega | (simp; done) | (simp; omega))) _) | (with_reducible refine Below.alloc ?_ (by (first | omega | (simp; done) | (simp; omega))) _) | (with_reducible refine Below.drew ?_) | (with_reducible refine below_drewN ?_ _)))).trans (hb5'.mono (by simp))
    have HSX3:=Lib.hid (HSX3.out.below hb5)
    have HGO3:=Lib.hid (HGO3.out.trans (Go.below gk hb5))
    have HOB5:=Lib.hid (HOB3.out.below hb5)
    have HK5:=Lib.hid (((Fr.below (fun _=>False) hb5).cell (p:=⟨kb,2,none⟩) (HKLT.out) (fun h=>h)).trans HK4.out)
    clear hb5 hb5'
    try go_wp2_with fail
    refine hK.out _ _ (⟨HK5.out,HOB5.out.1⟩) (fun hHeld=>?_)
    clear hK K
    refine wpAnyH_take (i:=9) (oi:=⟨some 41,_,_,_,_,_⟩) (v:=.bool true) rfl (by kernel_rfl) (by kernel_rfl) (by kernel_rfl) (fun _ _ _ h=>h) (Or.inl ⟨by rfl,fun Xw hSW=>by have q:=hEq; have q2:=hll2; go_simp⟩) hHeld ?_
    simp only [Act.put,List.setIfInBounds_toArray,List.set_cons_zero,List.set_cons_succ]
    refine wpAnyH_take (i:=10) (oi:=⟨some 42,_,_,_,_,_⟩) (v:=.bool true) rfl (by kernel_rfl) (by kernel_rfl) (by kernel_rfl) (fun _ _ _ h=>h) (Or.inl ⟨by rfl,fun Xw hSW=>by go_simp⟩) hHeld ?_
    simp only [Act.put,List.setIfInBounds_toArray,List.set_cons_zero,List.set_cons_succ]
    refine wpAnyH_done (by kernel_rfl) ?_ _
    refine NoPanic.normal ?_
    have HMS3:=Lib.hid HMK.out.toC.toS
    have HBF:=Lib.hid (show Before g (o1,o2) gk from ⟨HMS3.out,congrFun HMK.out.same.2.2.2.1 true,congrFun HMK.out.same.2.2.2.2.1 true,fun _=>HMK.out.same.2.2.1,fun e=>absurd e HTU.out⟩)
    have hw:Blk W5 g.wk TWk (wcells gk):=by have:=HSX3.out.st.work; rwa [HMS3.out.same.1] at this
    have w1:W5.cell? ⟨g.wk,1,none⟩ = some (.int .i64 g.at_.1):=by have:=hw.cell (i:=1) (v:=.int .i64 gk.at_.1) rfl; rwa [HMS3.out.same.2.1] at this
    have w2:W5.cell? ⟨g.wk,2,none⟩ = some (.int .i64 g.at_.2.1):=by have:=hw.cell (i:=2) (v:=.int .i64 gk.at_.2.1) rfl; rwa [HMS3.out.same.2.1] at this
    have w3:W5.cell? ⟨g.wk,3,none⟩ = some (.int .i64 g.at_.2.2):=by have:=hw.cell (i:=3) (v:=.int .i64 gk.at_.2.2) rfl; rwa [HMS3.out.same.2.1] at this
    have hwl6:=hw.lt
    clear hw
    go_wp2_with fail
    go_at_call 41
    refine calls_named (S:=fun W=>Below W5.heap.size W5 W∧Blk W W5.heap.size TP [.int .i64 g.at_.1,.int .i64 g.at_.2.1,.int .i64 g.at_.2.2]) ⟨by (repeat' (first | (with_reducible exact Below.refl _ _) | (with_reducible refine Below.setCell ?_ (by (first | omega | (simp; done) | (simp; omega))) _) | (with_reducible refine Below.alloc ?_ (by (first | omega | (simp; done) | (simp; omega))) _) | (with_reducible refine Below.drew ?_) | (with_reducible refine below_drewN ?_ _))),by (repeat' (first | (with_reducible refine BlkP.Blk.drew ?_) | (with_reducible refine BlkP.Blk.drewN ?_ _) | (with_reducible refine BlkP.Blk.setAt (us:=?_) (by first | omega | (simp; done) | (simp; omega)) rfl ?_ ?_) | (with_reducible refine BlkP.Blk.otherAt ?_ (by first | omega | (simp; done) | (simp; omega))) | (with_reducible refine BlkP.Blk.newA' (by first | omega | (simp; done) | (simp; omega)) rfl) | (with_reducible refine BlkP.Blk.alloc ?_ _) | (exact rfl)))⟩ ?_
    rintro W7 ⟨hb7,hl7⟩
    obtain ⟨G2,hf,hirr,hC,hside,hcnE,hnow,hrel⟩:=HH.out.lamp HLT.out gk HBF.out
    have hd:=darken_c part_lamp (HSX3.out.below hb7) hf hrel (A:=some ⟨W5.heap.size,0,none⟩) (n:=1) (c:=1) (by rw [hC]; exact (own_one (q:=g.at_) hl7).rd) (by rw [hC]; rfl) (by omega)
    rw [HMS3.out.same.1] at hd
    have HFS2:=Lib.hid hf
    have HREL2:=Lib.hid hrel
    have HIRR2:=Lib.hid hirr
    have HSO2:=Lib.hid (show G2.side = sidesV∧G2.cn = clr gk.f∧G2.now = S true from ⟨hside,hcnE,hnow⟩)
    have HGO7:=Lib.hid (HGO3.out.trans (Go.below gk hb7))
    refine hd.mono ?_
    clear hd hf hirr hC hside hcnE hnow hrel hb7 hl7 w1 w2 w3
    rintro e W8 ⟨T5,A5,n5,c5,g7,rfl,hl5,hdk5,hm5,hnw5,hsx5,hgo5,hrow5,hok5⟩
    have hb:=brighten_c part_lamp hsx5 HFS2.out HREL2.out hm5 HIRR2.out hdk5 hnw5 (fun q hq=>hm5.ok (hok5 q hq)) hrow5 hl5
    rw [hm5.same.1,HMS3.out.same.1] at hb
    have HB2:=Lib.hid hb
    have HM57:=Lib.hid hm5
    have HGO72:=Lib.hid (HGO7.out.trans hgo5)
    clear hb hl5 hdk5 hm5 hnw5 hsx5 hgo5 hrow5 hok5
    go_wp2_with fail
    go_at_call 40
    refine HB2.out.mono ?_
    rintro e W9 ⟨ls6,g8,rfl,hm6,hsp6,hsx6,hgo6⟩
    have HM68:=Lib.hid (HM57.out.trans hm6)
    have HSOL8:=Lib.hid (show SolV sidesV (clr g.f) (S true) (g8.nw true) by
     have:=hsp6.sol
     rwa [HSO2.out.1,HSO2.out.2.1,HSO2.out.2.2,show clr gk.f = clr g.f from funext HMS3.out.clr] at this)
    have HSX8:=Lib.hid hsx6
    have HGO8:=Lib.hid (HGO72.out.trans hgo6)
    clear hm6 hsp6 hsx6 hgo6 HB2
    go_wp2_with fail
    ((try simp only [Exit.inBlock,Exit.then]); refine bodyPost_ret (results_none rfl _ _ _) rfl ?_)
    refine ⟨g8,rfl,HMS3.out.trans HM68.out.toS,HSX8.out,HGO8.out,⟨kb,HM68.out.mono HMEM.out⟩,fun e=>absurd e HTU.out,fun _=>?_,fun _=>HSOL8.out,fun e=>absurd HLT.out e⟩
    rw [HM68.out.nwo (by decide)]
    exact congrFun HMK.out.same.2.2.2.2.1 false
  | true =>
   rw [hcN] at cl
   have HCO:=Lib.hid hcO
   clear o0 o1'
   go_wp2_with fail
   refine wp_region_noPanic ?_
   refine wp_region_held_drew (S:=fun Xw=>Xw.cell? ⟨kb,0,none⟩ = some (.bool false)∧Blk Xw w.heap.size TC [.int .u8 o1,.int .u8 o2]) (by kernel_rfl) (⟨cl,HOB.out.1⟩) (fun hHeld=>?_)
   refine wpAnyH_take (i:=0) (oi:=⟨some 15,_,_,_,_,_⟩) (v:=.pointer (some ⟨kb,0,none⟩)) rfl (by kernel_rfl) (by kernel_rfl) (by kernel_rfl) (fun _ _ _ h=>h) (Or.inl ⟨by rfl,fun Xw hSW=>by go_simp⟩) hHeld ?_
   simp only [Act.put,List.setIfInBounds_toArray,List.set_cons_zero,List.set_cons_succ]
   refine wpAnyH_take (i:=1) (oi:=⟨some 16,_,_,_,_,_⟩) (v:=.pointer (some ⟨kb,0,none⟩)) rfl (by kernel_rfl) (by kernel_rfl) (by kernel_rfl) (fun _ _ _ h=>h) (Or.inl ⟨by rfl,fun Xw hSW=>by go_simp⟩) hHeld ?_
   simp only [Act.put,List.setIfInBounds_toArray,List.set_cons_zero,List.set_cons_succ]
   refine wpAnyH_take (i:=2) (oi:=⟨some 17,_,_,_,_,_⟩) (v:=.pointer (some ⟨kb,0,none⟩)) rfl (by kernel_rfl) (by kernel_rfl) (by kernel_rfl) (fun _ _ _ h=>h) (Or.inl ⟨by rfl,fun Xw hSW=>by go_simp⟩) hHeld ?_
   simp only [Act.put,List.setIfInBounds_toArray,List.set_cons_zero,List.set_cons_succ]
   refine wpAnyH_take (i:=3) (oi:=⟨some 18,_,_,_,_,_⟩) (v:=.bool false) rfl (by kernel_rfl) (by kernel_rfl) (by kernel_rfl) (fun _ _ _ h=>h) (Or.inl ⟨by rfl,fun Xw hSW=>by have a:=hSW.1; go_simp⟩) hHeld ?_
   simp only [Act.put,List.setIfInBounds_toArray,List.set_cons_zero,List.set_cons_succ]
   refine wpAnyH_take (i:=4) (oi:=⟨some 19,_,_,_,_,_⟩) (v:=.agg #[.int .u8 o1,.int .u8 o2]) rfl (by kernel_rfl) (by kernel_rfl) (by kernel_rfl) (fun _ _ _ h=>h) (Or.inl ⟨by rfl,fun Xw hSW=>by have a0:=hSW.2.cell (i:=0) rfl; have a1:=hSW.2.cell (i:=1) rfl; go_simp⟩) hHeld ?_
   simp only [Act.put,List.setIfInBounds_toArray,List.set_cons_zero,List.set_cons_succ]
   refine wpAnyH_ready (rs:=[5]) (by kernel_rfl) (by simp) ?_
   refine AllReadyH.cons (o:=⟨some 20,_,_,_,_,_⟩) rfl (fun K hK=>?_) AllReadyH.nil
   go_simp
   refine (opens_b (k:=o1) (l:=o2) W2.drew (HSXK.out.below (Below.refl W2.heap.size W2).drew).tab).mono ?_
   rintro e W3 ⟨rfl,hb3'⟩
   rw [HCO.out]
   have hb3:Below W2.heap.size W2 W3:=(Below.refl W2.heap.size W2).drew.trans hb3'
   have HSX3:=Lib.hid (HSXK.out.below hb3)
   have HGO3:=Lib.hid (HGOK.out.trans (Go.below gk hb3))
   have HOB3:=Lib.hid (HOB.out.below hb3)
   have HK3:=Lib.hid (show W3.cell? ⟨kb,2,none⟩ = some (.int .u8 (lampA (cellAt g.f g.at_):Int)) from ((Fr.below (fun _=>False) hb3).cell (p:=⟨kb,2,none⟩) HKL.out (fun h=>h)).trans cw)
   have HC3:=Lib.hid (((Fr.below (fun _=>False) hb3).cell (p:=⟨kb,0,none⟩) HKL.out (fun h=>h)).trans cl)
   have HKLT:=Lib.hid (Nat.lt_of_lt_of_le HKL.out hb3.size)
   clear hb3 hb3' cl cw
   try go_wp2_with fail
   refine hK.out _ _ (⟨HC3.out,HOB3.out.1⟩) (fun hHeld=>?_)
   clear hK K
   refine wpAnyH_take (i:=6) (oi:=⟨some 21,_,_,_,_,_⟩) (v:=.bool true) rfl (by kernel_rfl) (by kernel_rfl) (by kernel_rfl) (fun _ _ _ h=>h) (Or.inl ⟨by rfl,fun Xw hSW=>by go_simp⟩) hHeld ?_
   simp only [Act.put,List.setIfInBounds_toArray,List.set_cons_zero,List.set_cons_succ]
   refine wpAnyH_take (i:=7) (oi:=⟨some 7,_,_,_,_,_⟩) (v:=.bool true) rfl (by kernel_rfl) (by kernel_rfl) (by kernel_rfl) (fun _ _ _ h=>h) (Or.inl ⟨by rfl,fun Xw hSW=>by go_simp⟩) hHeld ?_
   simp only [Act.put,List.setIfInBounds_toArray,List.set_cons_zero,List.set_cons_succ]
   refine wpAnyH_done (by kernel_rfl) ?_ _
   refine NoPanic.normal ?_
   clear HCO
   have HTU:=Lib.hid (show Turned g (o1,o2) by rw [Turned,hcN,hcO]; decide)
   clear hcN hcO
   go_wp2_with fail
   go_at_call 39
   have hcol:=column_c HSX3.out (opnOk.more HMK.out (by rw [HMK.out.same.2.1]; exact HH.out.ups HTU.out)) (fun e=>colOk.more HMK.out (by rw [HMK.out.same.2.1]; exact HH.out.col HTU.out (by rw [← opn_more HMK.out,← HMK.out.same.2.1]; exact e))) (HMK.out.ok (by rw [HMK.out.same.2.1]; exact HH.out.at_ok))
   rw [HMK.out.same.1] at hcol
   refine hcol.mono ?_
   clear hcol
   rintro e W4 ⟨T,A,n,c,g4,rfl,hlen,hcr,hsx4,hgo4,hrow⟩
   have HCR:=Lib.hid hcr
   have HMS4:=Lib.hid (HMK.out.toC.trans hcr.more)
   obtain ⟨G,hf,hirr,hC,hside,hcnE,hnow,hrel⟩:=HH.out.sky HTU.out gk g4 T HMK.out hcr
   have h0:0 < n:=by
    obtain ⟨q,hq,_⟩:=hcr.low
    rw [← hlen]
    cases T with
    | nil=>cases hq
    | cons x l=>exact Nat.succ_pos _
   have hd:=darken_c part_sky hsx4 hf hrel (A:=A) (n:=n) (c:=c) (by rw [hC]; exact hrow.1.rd) (by rw [hC]; exact hlen) h0
   rw [HMS4.out.same.1] at hd
   have HGO4:=Lib.hid (HGO3.out.trans hgo4)
   have HFS:=Lib.hid hf
   have HREL:=Lib.hid hrel
   have HIRR:=Lib.hid hirr
   have HSO:=Lib.hid (show G.side = sidesV∧G.cn = clr g4.f∧G.now = S false from ⟨hside,hcnE,hnow⟩)
   have HD:=Lib.hid hd
   clear hlen hcr hsx4 hgo4 hrow hf hirr hC hside hcnE hnow hrel hd h0
   go_wp2_with fail
   go_at_call 41
   refine HD.out.mono ?_
   rintro e W5 ⟨T5,A5,n5,c5,g5,rfl,hl5,hdk5,hm5,hnw5,hsx5,hgo5,hrow5,hok5⟩
   have hb:=brighten_c part_sky hsx5 HFS.out HREL.out hm5 HIRR.out hdk5 hnw5 (fun q hq=>hm5.ok (hok5 q hq)) hrow5 hl5
   rw [hm5.same.1,HMS4.out.same.1] at hb
   have HB:=Lib.hid hb
   have HM5:=Lib.hid hm5
   have HGO5:=Lib.hid (HGO4.out.trans hgo5)
   clear hb hl5 hdk5 hm5 hnw5 hsx5 hgo5 hrow5 hok5 HD
   go_wp2_with fail
   go_at_call 40
   refine HB.out.mono ?_
   rintro e W6 ⟨ls6,g6,rfl,hm6,hsp6,hsx6,hgo6⟩
   have HM46:=Lib.hid (HM5.out.trans hm6)
   have HMS6:=Lib.hid (HMS4.out.toS.trans (HM5.out.trans hm6).toS)
   have HSOL:=Lib.hid (show SolV sidesV (clr g.f) (S false) (g6.nw false) by
    have:=hsp6.sol
    rwa [HSO.out.1,HSO.out.2.1,HSO.out.2.2,show clr g4.f = clr g.f from funext HMS4.out.clr] at this)
   have HSX6:=Lib.hid hsx6
   have HGO6:=Lib.hid (HGO5.out.trans hgo6)
   have HBF:=Lib.hid (show Before g (o1,o2) g6 from ⟨HMS6.out,by rw [HM46.out.same.2.2.2.1,HCR.out.lamp,HMK.out.same.2.2.2.1],by rw [HM46.out.nwo (by decide),HCR.out.more.same.2.2.1,HMK.out.same.2.2.2.2.1],fun e=>absurd HTU.out e,fun _=>⟨gk,g4,T,HMK.out,HCR.out,HM46.out.same.2.2.1⟩⟩)
   have HLT:=Lib.hid (show Turned g (o1,o2) ∨ lampA (cellAt g.f g.at_) ≠ lampA (o1,o2) from .inl HTU.out)
   have HW6:=Lib.hid HMS6.out
   clear hm6 hsp6 hsx6 hgo6 HB
   go_wp2_with fail
   refine wp_region_noPanic ?_
   refine wp_region_held_drew (S:=fun Xw=>True) (by kernel_rfl) (trivial) (fun hHeld=>?_)
   refine wpAnyH_take (i:=0) (oi:=⟨some 32,_,_,_,_,_⟩) (v:=.bool true) rfl (by kernel_rfl) (by kernel_rfl) (by kernel_rfl) (fun _ _ _ h=>h) (Or.inl ⟨by rfl,fun Xw hSW=>by go_simp⟩) hHeld ?_
   simp only [Act.put,List.setIfInBounds_toArray,List.set_cons_zero,List.set_cons_succ]
   refine wpAnyH_take (i:=1) (oi:=⟨some 33,_,_,_,_,_⟩) (v:=.bool true) rfl (by kernel_rfl) (by kernel_rfl) (by kernel_rfl) (fun _ _ _ h=>h) (Or.inl ⟨by rfl,fun Xw hSW=>by go_simp⟩) hHeld ?_
   simp only [Act.put,List.setIfInBounds_toArray,List.set_cons_zero,List.set_cons_succ]
   refine wpAnyH_take (i:=2) (oi:=⟨some 34,_,_,_,_,_⟩) (v:=undef) rfl (by kernel_rfl) (by kernel_rfl) (by kernel_rfl) (fun _ _ _ h=>h) (Or.inr ⟨by kernel_rfl,rfl⟩) hHeld ?_
   simp only [Act.put,List.setIfInBounds_toArray,List.set_cons_zero,List.set_cons_succ]
   refine wpAnyH_take (i:=3) (oi:=⟨some 35,_,_,_,_,_⟩) (v:=undef) rfl (by kernel_rfl) (by kernel_rfl) (by kernel_rfl) (fun _ _ _ h=>h) (Or.inr ⟨by kernel_rfl,rfl⟩) hHeld ?_
   simp only [Act.put,List.setIfInBounds_toArray,List.set_cons_zero,List.set_cons_succ]
   refine wpAnyH_take (i:=4) (oi:=⟨some 36,_,_,_,_,_⟩) (v:=undef) rfl (by kernel_rfl) (by kernel_rfl) (by kernel_rfl) (fun _ _ _ h=>h) (Or.inr ⟨by kernel_rfl,rfl⟩) hHeld ?_
   simp only [Act.put,List.setIfInBounds_toArray,List.set_cons_zero,List.set_cons_succ]
   refine wpAnyH_take (i:=5) (oi:=⟨some 37,_,_,_,_,_⟩) (v:=undef) rfl (by kernel_rfl) (by kernel_rfl) (by kernel_rfl) (fun _ _ _ h=>h) (Or.inr ⟨by kernel_rfl,rfl⟩) hHeld ?_
   simp only [Act.put,List.setIfInBounds_toArray,List.set_cons_zero,List.set_cons_succ]
   refine wpAnyH_take (i:=6) (oi:=⟨some 38,_,_,_,_,_⟩) (v:=undef) rfl (by kernel_rfl) (by kernel_rfl) (by kernel_rfl) (fun _ _ _ h=>h) (Or.inr ⟨by kernel_rfl,rfl⟩) hHeld ?_
   simp only [Act.put,List.setIfInBounds_toArray,List.set_cons_zero,List.set_cons_succ]
   refine wpAnyH_take (i:=7) (oi:=⟨some 39,_,_,_,_,_⟩) (v:=undef) rfl (by kernel_rfl) (by kernel_rfl) (by kernel_rfl) (fun _ _ _ h=>h) (Or.inr ⟨by kernel_rfl,rfl⟩) hHeld ?_
   simp only [Act.put,List.setIfInBounds_toArray,List.set_cons_zero,List.set_cons_succ]
   refine wpAnyH_take (i:=8) (oi:=⟨some 40,_,_,_,_,_⟩) (v:=undef) rfl (by kernel_rfl) (by kernel_rfl) (by kernel_rfl) (fun _ _ _ h=>h) (Or.inr ⟨by kernel_rfl,rfl⟩) hHeld ?_
   simp only [Act.put,List.setIfInBounds_toArray,List.set_cons_zero,List.set_cons_succ]
   refine wpAnyH_take (i:=9) (oi:=⟨some 41,_,_,_,_,_⟩) (v:=undef) rfl (by kernel_rfl) (by kernel_rfl) (by kernel_rfl) (fun _ _ _ h=>h) (Or.inr ⟨by kernel_rfl,rfl⟩) hHeld ?_
   simp only [Act.put,List.setIfInBounds_toArray,List.set_cons_zero,List.set_cons_succ]
   refine wpAnyH_take (i:=10) (oi:=⟨some 42,_,_,_,_,_⟩) (v:=.bool true) rfl (by kernel_rfl) (by kernel_rfl) (by kernel_rfl) (fun _ _ _ h=>h) (Or.inl ⟨by rfl,fun Xw hSW=>by go_simp⟩) hHeld ?_
   simp only [Act.put,List.setIfInBounds_toArray,List.set_cons_zero,List.set_cons_succ]
   refine wpAnyH_done (by kernel_rfl) ?_ _
   refine NoPanic.normal ?_
   have hw:Blk W6 g.wk TWk (wcells g6):=by have:=HSX6.out.st.work; rwa [HMS6.out.same.1] at this
   have w1:W6.cell? ⟨g.wk,1,none⟩ = some (.int .i64 g.at_.1):=by have:=hw.cell (i:=1) (v:=.int .i64 g6.at_.1) rfl; rwa [HMS6.out.same.2.1] at this
   have w2:W6.cell? ⟨g.wk,2,none⟩ = some (.int .i64 g.at_.2.1):=by have:=hw.cell (i:=2) (v:=.int .i64 g6.at_.2.1) rfl; rwa [HMS6.out.same.2.1] at this
   have w3:W6.cell? ⟨g.wk,3,none⟩ = some (.int .i64 g.at_.2.2):=by have:=hw.cell (i:=3) (v:=.int .i64 g6.at_.2.2) rfl; rwa [HMS6.out.same.2.1] at this
   have hwl6:=hw.lt
   clear hw
   go_wp2_with fail
   go_at_call 41
   refine calls_named (S:=fun W=>Below W6.heap.size W6 W∧Blk W W6.heap.size TP [.int .i64 g.at_.1,.int .i64 g.at_.2.1,.int .i64 g.at_.2.2]) ⟨by (repeat' (first | (with_reducible exact Below.refl _ _) | (with_reducible refine Below.setCell ?_ (by (first | omega | (simp; done) | (simp; omega))) _) | (with_reducible refine Below.alloc ?_ (by (first | omega | (simp; done) | (simp; omega))) _) | (with_reducible refine Below.drew ?_) | (with_reducible refine below_drewN ?_ _))),by (repeat' (first | (with_reducible refine BlkP.Blk.drew ?_) | (with_reducible refine BlkP.Blk.drewN ?_ _) | (with_reducible refine BlkP.Blk.setAt (us:=?_) (by first | omega | (simp; done) | (simp; omega)) rfl ?_ ?_) | (with_reducible refine BlkP.Blk.otherAt ?_ (by first | omega | (simp; done) | (simp; omega))) | (with_reducible refine BlkP.Blk.newA' (by first | omega | (simp; done) | (simp; omega)) rfl) | (with_reducible refine BlkP.Blk.alloc ?_ _) | (exact rfl)))⟩ ?_
   rintro W7 ⟨hb7,hl7⟩
   obtain ⟨G2,hf,hirr,hC,hside,hcnE,hnow,hrel⟩:=HH.out.lamp HLT.out g6 HBF.out
   have hd:=darken_c part_lamp (HSX6.out.below hb7) hf hrel (A:=some ⟨W6.heap.size,0,none⟩) (n:=1) (c:=1) (by rw [hC]; exact (own_one (q:=g.at_) hl7).rd) (by rw [hC]; rfl) (by omega)
   rw [HMS6.out.same.1] at hd
   have HFS2:=Lib.hid hf
   have HREL2:=Lib.hid hrel
   have HIRR2:=Lib.hid hirr
   have HSO2:=Lib.hid (show G2.side = sidesV∧G2.cn = clr g6.f∧G2.now = S true from ⟨hside,hcnE,hnow⟩)
   have HGO7:=Lib.hid (HGO6.out.trans (Go.below g6 hb7))
   refine hd.mono ?_
   clear hd hf hirr hC hside hcnE hnow hrel hb7 hl7 w1 w2 w3
   rintro e W8 ⟨T5,A5,n5,c5,g7,rfl,hl5,hdk5,hm5,hnw5,hsx5,hgo5,hrow5,hok5⟩
   have hb:=brighten_c part_lamp hsx5 HFS2.out HREL2.out hm5 HIRR2.out hdk5 hnw5 (fun q hq=>hm5.ok (hok5 q hq)) hrow5 hl5
   rw [hm5.same.1,HMS6.out.same.1] at hb
   have HB2:=Lib.hid hb
   have HM57:=Lib.hid hm5
   have HGO72:=Lib.hid (HGO7.out.trans hgo5)
   clear hb hl5 hdk5 hm5 hnw5 hsx5 hgo5 hrow5 hok5
   go_wp2_with fail
   go_at_call 40
   refine HB2.out.mono ?_
   rintro e W9 ⟨ls6,g8,rfl,hm6,hsp6,hsx6,hgo6⟩
   have HM68:=Lib.hid (HM57.out.trans hm6)
   have HSOL8:=Lib.hid (show SolV sidesV (clr g.f) (S true) (g8.nw true) by
    have:=hsp6.sol
    rwa [HSO2.out.1,HSO2.out.2.1,HSO2.out.2.2,show clr g6.f = clr g.f from funext HMS6.out.clr] at this)
   have HSX8:=Lib.hid hsx6
   have HGO8:=Lib.hid (HGO72.out.trans hgo6)
   clear hm6 hsp6 hsx6 hgo6 HB2
   go_wp2_with fail
   ((try simp only [Exit.inBlock,Exit.then]); refine bodyPost_ret (results_none rfl _ _ _) rfl ?_)
   refine ⟨g8,rfl,HMS6.out.trans HM68.out.toS,HSX8.out,HGO8.out,⟨kb,HM68.out.mono (HM46.out.mono (HCR.out.more.2 _ HMEM.out))⟩,fun _=>?_,fun e=>absurd HTU.out e,fun _=>HSOL8.out,fun e=>absurd HLT.out e⟩
   rw [HM68.out.nwo (by decide)]
   exact HSOL.out
 | true =>
  cases hcO:openA (o1,o2) with
  | false =>
   rw [hcN] at cl
   have HCO:=Lib.hid hcO
   clear o0 o1'
   go_wp2_with fail
   refine wp_region_noPanic ?_
   refine wp_region_held_drew (S:=fun Xw=>Xw.cell? ⟨kb,0,none⟩ = some (.bool true)∧Blk Xw w.heap.size TC [.int .u8 o1,.int .u8 o2]) (by kernel_rfl) (⟨cl,HOB.out.1⟩) (fun hHeld=>?_)
   refine wpAnyH_take (i:=0) (oi:=⟨some 15,_,_,_,_,_⟩) (v:=.pointer (some ⟨kb,0,none⟩)) rfl (by kernel_rfl) (by kernel_rfl) (by kernel_rfl) (fun _ _ _ h=>h) (Or.inl ⟨by rfl,fun Xw hSW=>by go_simp⟩) hHeld ?_
   simp only [Act.put,List.setIfInBounds_toArray,List.set_cons_zero,List.set_cons_succ]
   refine wpAnyH_take (i:=1) (oi:=⟨some 16,_,_,_,_,_⟩) (v:=.pointer (some ⟨kb,0,none⟩)) rfl (by kernel_rfl) (by kernel_rfl) (by kernel_rfl) (fun _ _ _ h=>h) (Or.inl ⟨by rfl,fun Xw hSW=>by go_simp⟩) hHeld ?_
   simp only [Act.put,List.setIfInBounds_toArray,List.set_cons_zero,List.set_cons_succ]
   refine wpAnyH_take (i:=2) (oi:=⟨some 17,_,_,_,_,_⟩) (v:=.pointer (some ⟨kb,0,none⟩)) rfl (by kernel_rfl) (by kernel_rfl) (by kernel_rfl) (fun _ _ _ h=>h) (Or.inl ⟨by rfl,fun Xw hSW=>by go_simp⟩) hHeld ?_
   simp only [Act.put,List.setIfInBounds_toArray,List.set_cons_zero,List.set_cons_succ]
   refine wpAnyH_take (i:=3) (oi:=⟨some 18,_,_,_,_,_⟩) (v:=.bool true) rfl (by kernel_rfl) (by kernel_rfl) (by kernel_rfl) (fun _ _ _ h=>h) (Or.inl ⟨by rfl,fun Xw hSW=>by have a:=hSW.1; go_simp⟩) hHeld ?_
   simp only [Act.put,List.setIfInBounds_toArray,List.set_cons_zero,List.set_cons_succ]
   refine wpAnyH_take (i:=4) (oi:=⟨some 19,_,_,_,_,_⟩) (v:=.agg #[.int .u8 o1,.int .u8 o2]) rfl (by kernel_rfl) (by kernel_rfl) (by kernel_rfl) (fun _ _ _ h=>h) (Or.inl ⟨by rfl,fun Xw hSW=>by have a0:=hSW.2.cell (i:=0) rfl; have a1:=hSW.2.cell (i:=1) rfl; go_simp⟩) hHeld ?_
   simp only [Act.put,List.setIfInBounds_toArray,List.set_cons_zero,List.set_cons_succ]
   refine wpAnyH_ready (rs:=[5]) (by kernel_rfl) (by simp) ?_
   refine AllReadyH.cons (o:=⟨some 20,_,_,_,_,_⟩) rfl (fun K hK=>?_) AllReadyH.nil
   go_simp
   refine (opens_b (k:=o1) (l:=o2) W2.drew (HSXK.out.below (Below.refl W2.heap.size W2).drew).tab).mono ?_
   rintro e W3 ⟨rfl,hb3'⟩
   rw [HCO.out]
   have hb3:Below W2.heap.size W2 W3:=(Below.refl W2.heap.size W2).drew.trans hb3'
   have HSX3:=Lib.hid (HSXK.out.below hb3)
   have HGO3:=Lib.hid (HGOK.out.trans (Go.below gk hb3))
   have HOB3:=Lib.hid (HOB.out.below hb3)
   have HK3:=Lib.hid (show W3.cell? ⟨kb,2,none⟩ = some (.int .u8 (lampA (cellAt g.f g.at_):Int)) from ((Fr.below (fun _=>False) hb3).cell (p:=⟨kb,2,none⟩) HKL.out (fun h=>h)).trans cw)
   have HC3:=Lib.hid (((Fr.below (fun _=>False) hb3).cell (p:=⟨kb,0,none⟩) HKL.out (fun h=>h)).trans cl)
   have HKLT:=Lib.hid (Nat.lt_of_lt_of_le HKL.out hb3.size)
   clear hb3 hb3' cl cw
   try go_wp2_with fail
   refine hK.out _ _ (⟨HC3.out,HOB3.out.1⟩) (fun hHeld=>?_)
   clear hK K
   refine wpAnyH_take (i:=6) (oi:=⟨some 21,_,_,_,_,_⟩) (v:=.bool true) rfl (by kernel_rfl) (by kernel_rfl) (by kernel_rfl) (fun _ _ _ h=>h) (Or.inl ⟨by rfl,fun Xw hSW=>by go_simp⟩) hHeld ?_
   simp only [Act.put,List.setIfInBounds_toArray,List.set_cons_zero,List.set_cons_succ]
   refine wpAnyH_take (i:=7) (oi:=⟨some 7,_,_,_,_,_⟩) (v:=.bool true) rfl (by kernel_rfl) (by kernel_rfl) (by kernel_rfl) (fun _ _ _ h=>h) (Or.inl ⟨by rfl,fun Xw hSW=>by go_simp⟩) hHeld ?_
   simp only [Act.put,List.setIfInBounds_toArray,List.set_cons_zero,List.set_cons_succ]
   refine wpAnyH_done (by kernel_rfl) ?_ _
   refine NoPanic.normal ?_
   clear HCO
   have HTU:=Lib.hid (show Turned g (o1,o2) by rw [Turned,hcN,hcO]; decide)
   clear hcN hcO
   go_wp2_with fail
   go_at_call 39
   have hcol:=column_c HSX3.out (opnOk.more HMK.out (by rw [HMK.out.same.2.1]; exact HH.out.ups HTU.out)) (fun e=>colOk.more HMK.out (by rw [HMK.out.same.2.1]; exact HH.out.col HTU.out (by rw [← opn_more HMK.out,← HMK.out.same.2.1]; exact e))) (HMK.out.ok (by rw [HMK.out.same.2.1]; exact HH.out.at_ok))
   rw [HMK.out.same.1] at hcol
   refine hcol.mono ?_
   clear hcol
   rintro e W4 ⟨T,A,n,c,g4,rfl,hlen,hcr,hsx4,hgo4,hrow⟩
   have HCR:=Lib.hid hcr
   have HMS4:=Lib.hid (HMK.out.toC.trans hcr.more)
   obtain ⟨G,hf,hirr,hC,hside,hcnE,hnow,hrel⟩:=HH.out.sky HTU.out gk g4 T HMK.out hcr
   have h0:0 < n:=by
    obtain ⟨q,hq,_⟩:=hcr.low
    rw [← hlen]
    cases T with
    | nil=>cases hq
    | cons x l=>exact Nat.succ_pos _
   have hd:=darken_c part_sky hsx4 hf hrel (A:=A) (n:=n) (c:=c) (by rw [hC]; exact hrow.1.rd) (by rw [hC]; exact hlen) h0
   rw [HMS4.out.same.1] at hd
   have HGO4:=Lib.hid (HGO3.out.trans hgo4)
   have HFS:=Lib.hid hf
   have HREL:=Lib.hid hrel
   have HIRR:=Lib.hid hirr
   have HSO:=Lib.hid (show G.side = sidesV∧G.cn = clr g4.f∧G.now = S false from ⟨hside,hcnE,hnow⟩)
   have HD:=Lib.hid hd
   clear hlen hcr hsx4 hgo4 hrow hf hirr hC hside hcnE hnow hrel hd h0
   go_wp2_with fail
   go_at_call 41
   refine HD.out.mono ?_
   rintro e W5 ⟨T5,A5,n5,c5,g5,rfl,hl5,hdk5,hm5,hnw5,hsx5,hgo5,hrow5,hok5⟩
   have hb:=brighten_c part_sky hsx5 HFS.out HREL.out hm5 HIRR.out hdk5 hnw5 (fun q hq=>hm5.ok (hok5 q hq)) hrow5 hl5
   rw [hm5.same.1,HMS4.out.same.1] at hb
   have HB:=Lib.hid hb
   have HM5:=Lib.hid hm5
   have HGO5:=Lib.hid (HGO4.out.trans hgo5)
   clear hb hl5 hdk5 hm5 hnw5 hsx5 hgo5 hrow5 hok5 HD
   go_wp2_with fail
   go_at_call 40
   refine HB.out.mono ?_
   rintro e W6 ⟨ls6,g6,rfl,hm6,hsp6,hsx6,hgo6⟩
   have HM46:=Lib.hid (HM5.out.trans hm6)
   have HMS6:=Lib.hid (HMS4.out.toS.trans (HM5.out.trans hm6).toS)
   have HSOL:=Lib.hid (show SolV sidesV (clr g.f) (S false) (g6.nw false) by
    have:=hsp6.sol
    rwa [HSO.out.1,HSO.out.2.1,HSO.out.2.2,show clr g4.f = clr g.f from funext HMS4.out.clr] at this)
   have HSX6:=Lib.hid hsx6
   have HGO6:=Lib.hid (HGO5.out.trans hgo6)
   have HBF:=Lib.hid (show Before g (o1,o2) g6 from ⟨HMS6.out,by rw [HM46.out.same.2.2.2.1,HCR.out.lamp,HMK.out.same.2.2.2.1],by rw [HM46.out.nwo (by decide),HCR.out.more.same.2.2.1,HMK.out.same.2.2.2.2.1],fun e=>absurd HTU.out e,fun _=>⟨gk,g4,T,HMK.out,HCR.out,HM46.out.same.2.2.1⟩⟩)
   have HLT:=Lib.hid (show Turned g (o1,o2) ∨ lampA (cellAt g.f g.at_) ≠ lampA (o1,o2) from .inl HTU.out)
   have HW6:=Lib.hid HMS6.out
   clear hm6 hsp6 hsx6 hgo6 HB
   go_wp2_with fail
   refine wp_region_noPanic ?_
   refine wp_region_held_drew (S:=fun Xw=>True) (by kernel_rfl) (trivial) (fun hHeld=>?_)
   refine wpAnyH_take (i:=0) (oi:=⟨some 32,_,_,_,_,_⟩) (v:=.bool true) rfl (by kernel_rfl) (by kernel_rfl) (by kernel_rfl) (fun _ _ _ h=>h) (Or.inl ⟨by rfl,fun Xw hSW=>by go_simp⟩) hHeld ?_
   simp only [Act.put,List.setIfInBounds_toArray,List.set_cons_zero,List.set_cons_succ]
   refine wpAnyH_take (i:=1) (oi:=⟨some 33,_,_,_,_,_⟩) (v:=.bool true) rfl (by kernel_rfl) (by kernel_rfl) (by kernel_rfl) (fun _ _ _ h=>h) (Or.inl ⟨by rfl,fun Xw hSW=>by go_simp⟩) hHeld ?_
   simp only [Act.put,List.setIfInBounds_toArray,List.set_cons_zero,List.set_cons_succ]
   refine wpAnyH_take (i:=2) (oi:=⟨some 34,_,_,_,_,_⟩) (v:=undef) rfl (by kernel_rfl) (by kernel_rfl) (by kernel_rfl) (fun _ _ _ h=>h) (Or.inr ⟨by kernel_rfl,rfl⟩) hHeld ?_
   simp only [Act.put,List.setIfInBounds_toArray,List.set_cons_zero,List.set_cons_succ]
   refine wpAnyH_take (i:=3) (oi:=⟨some 35,_,_,_,_,_⟩) (v:=undef) rfl (by kernel_rfl) (by kernel_rfl) (by kernel_rfl) (fun _ _ _ h=>h) (Or.inr ⟨by kernel_rfl,rfl⟩) hHeld ?_
   simp only [Act.put,List.setIfInBounds_toArray,List.set_cons_zero,List.set_cons_succ]
   refine wpAnyH_take (i:=4) (oi:=⟨some 36,_,_,_,_,_⟩) (v:=undef) rfl (by kernel_rfl) (by kernel_rfl) (by kernel_rfl) (fun _ _ _ h=>h) (Or.inr ⟨by kernel_rfl,rfl⟩) hHeld ?_
   simp only [Act.put,List.setIfInBounds_toArray,List.set_cons_zero,List.set_cons_succ]
   refine wpAnyH_take (i:=5) (oi:=⟨some 37,_,_,_,_,_⟩) (v:=undef) rfl (by kernel_rfl) (by kernel_rfl) (by kernel_rfl) (fun _ _ _ h=>h) (Or.inr ⟨by kernel_rfl,rfl⟩) hHeld ?_
   simp only [Act.put,List.setIfInBounds_toArray,List.set_cons_zero,List.set_cons_succ]
   refine wpAnyH_take (i:=6) (oi:=⟨some 38,_,_,_,_,_⟩) (v:=undef) rfl (by kernel_rfl) (by kernel_rfl) (by kernel_rfl) (fun _ _ _ h=>h) (Or.inr ⟨by kernel_rfl,rfl⟩) hHeld ?_
   simp only [Act.put,List.setIfInBounds_toArray,List.set_cons_zero,List.set_cons_succ]
   refine wpAnyH_take (i:=7) (oi:=⟨some 39,_,_,_,_,_⟩) (v:=undef) rfl (by kernel_rfl) (by kernel_rfl) (by kernel_rfl) (fun _ _ _ h=>h) (Or.inr ⟨by kernel_rfl,rfl⟩) hHeld ?_
   simp only [Act.put,List.setIfInBounds_toArray,List.set_cons_zero,List.set_cons_succ]
   refine wpAnyH_take (i:=8) (oi:=⟨some 40,_,_,_,_,_⟩) (v:=undef) rfl (by kernel_rfl) (by kernel_rfl) (by kernel_rfl) (fun _ _ _ h=>h) (Or.inr ⟨by kernel_rfl,rfl⟩) hHeld ?_
   simp only [Act.put,List.setIfInBounds_toArray,List.set_cons_zero,List.set_cons_succ]
   refine wpAnyH_take (i:=9) (oi:=⟨some 41,_,_,_,_,_⟩) (v:=undef) rfl (by kernel_rfl) (by kernel_rfl) (by kernel_rfl) (fun _ _ _ h=>h) (Or.inr ⟨by kernel_rfl,rfl⟩) hHeld ?_
   simp only [Act.put,List.setIfInBounds_toArray,List.set_cons_zero,List.set_cons_succ]
   refine wpAnyH_take (i:=10) (oi:=⟨some 42,_,_,_,_,_⟩) (v:=.bool true) rfl (by kernel_rfl) (by kernel_rfl) (by kernel_rfl) (fun _ _ _ h=>h) (Or.inl ⟨by rfl,fun Xw hSW=>by go_simp⟩) hHeld ?_
   simp only [Act.put,List.setIfInBounds_toArray,List.set_cons_zero,List.set_cons_succ]
   refine wpAnyH_done (by kernel_rfl) ?_ _
   refine NoPanic.normal ?_
   have hw:Blk W6 g.wk TWk (wcells g6):=by have:=HSX6.out.st.work; rwa [HMS6.out.same.1] at this
   have w1:W6.cell? ⟨g.wk,1,none⟩ = some (.int .i64 g.at_.1):=by have:=hw.cell (i:=1) (v:=.int .i64 g6.at_.1) rfl; rwa [HMS6.out.same.2.1] at this
   have w2:W6.cell? ⟨g.wk,2,none⟩ = some (.int .i64 g.at_.2.1):=by have:=hw.cell (i:=2) (v:=.int .i64 g6.at_.2.1) rfl; rwa [HMS6.out.same.2.1] at this
   have w3:W6.cell? ⟨g.wk,3,none⟩ = some (.int .i64 g.at_.2.2):=by have:=hw.cell (i:=3) (v:=.int .i64 g6.at_.2.2) rfl; rwa [HMS6.out.same.2.1] at this
   have hwl6:=hw.lt
   clear hw
   go_wp2_with fail
   go_at_call 41
   refine calls_named (S:=fun W=>Below W6.heap.size W6 W∧Blk W W6.heap.size TP [.int .i64 g.at_.1,.int .i64 g.at_.2.1,.int .i64 g.at_.2.2]) ⟨by (repeat' (first | (with_reducible exact Below.refl _ _) | (with_reducible refine Below.setCell ?_ (by (first | omega | (simp; done) | (simp; omega))) _) | (with_reducible refine Below.alloc ?_ (by (first | omega | (simp; done) | (simp; omega))) _) | (with_reducible refine Below.drew ?_) | (with_reducible refine below_drewN ?_ _))),by (repeat' (first | (with_reducible refine BlkP.Blk.drew ?_) | (with_reducible refine BlkP.Blk.drewN ?_ _) | (with_reducible refine BlkP.Blk.setAt (us:=?_) (by first | omega | (simp; done) | (simp; omega)) rfl ?_ ?_) | (with_reducible refine BlkP.Blk.otherAt ?_ (by first | omega | (simp; done) | (simp; omega))) | (with_reducible refine BlkP.Blk.newA' (by first | omega | (simp; done) | (simp; omega)) rfl) | (with_reducible refine BlkP.Blk.alloc ?_ _) | (exact rfl)))⟩ ?_
   rintro W7 ⟨hb7,hl7⟩
   obtain ⟨G2,hf,hirr,hC,hside,hcnE,hnow,hrel⟩:=HH.out.lamp HLT.out g6 HBF.out
   have hd:=darken_c part_lamp (HSX6.out.below hb7) hf hrel (A:=some ⟨W6.heap.size,0,none⟩) (n:=1) (c:=1) (by rw [hC]; exact (own_one (q:=g.at_) hl7).rd) (by rw [hC]; rfl) (by omega)
   rw [HMS6.out.same.1] at hd
   have HFS2:=Lib.hid hf
   have HREL2:=Lib.hid hrel
   have HIRR2:=Lib.hid hirr
   have HSO2:=Lib.hid (show G2.side = sidesV∧G2.cn = clr g6.f∧G2.now = S true from ⟨hside,hcnE,hnow⟩)
   have HGO7:=Lib.hid (HGO6.out.trans (Go.below g6 hb7))
   refine hd.mono ?_
   clear hd hf hirr hC hside hcnE hnow hrel hb7 hl7 w1 w2 w3
   rintro e W8 ⟨T5,A5,n5,c5,g7,rfl,hl5,hdk5,hm5,hnw5,hsx5,hgo5,hrow5,hok5⟩
   have hb:=brighten_c part_lamp hsx5 HFS2.out HREL2.out hm5 HIRR2.out hdk5 hnw5 (fun q hq=>hm5.ok (hok5 q hq)) hrow5 hl5
   rw [hm5.same.1,HMS6.out.same.1] at hb
   have HB2:=Lib.hid hb
   have HM57:=Lib.hid hm5
   have HGO72:=Lib.hid (HGO7.out.trans hgo5)
   clear hb hl5 hdk5 hm5 hnw5 hsx5 hgo5 hrow5 hok5
   go_wp2_with fail
   go_at_call 40
   refine HB2.out.mono ?_
   rintro e W9 ⟨ls6,g8,rfl,hm6,hsp6,hsx6,hgo6⟩
   have HM68:=Lib.hid (HM57.out.trans hm6)
   have HSOL8:=Lib.hid (show SolV sidesV (clr g.f) (S true) (g8.nw true) by
    have:=hsp6.sol
    rwa [HSO2.out.1,HSO2.out.2.1,HSO2.out.2.2,show clr g6.f = clr g.f from funext HMS6.out.clr] at this)
   have HSX8:=Lib.hid hsx6
   have HGO8:=Lib.hid (HGO72.out.trans hgo6)
   clear hm6 hsp6 hsx6 hgo6 HB2
   go_wp2_with fail
   ((try simp only [Exit.inBlock,Exit.then]); refine bodyPost_ret (results_none rfl _ _ _) rfl ?_)
   refine ⟨g8,rfl,HMS6.out.trans HM68.out.toS,HSX8.out,HGO8.out,⟨kb,HM68.out.mono (HM46.out.mono (HCR.out.more.2 _ HMEM.out))⟩,fun _=>?_,fun e=>absurd HTU.out e,fun _=>HSOL8.out,fun e=>absurd HLT.out e⟩
   rw [HM68.out.nwo (by decide)]
   exact HSOL.out
  | true =>
   rw [hcN] at cl
   have HCO:=Lib.hid hcO
   clear o0 o1'
   go_wp2_with fail
   refine wp_region_noPanic ?_
   refine wp_region_held_drew (S:=fun Xw=>Xw.cell? ⟨kb,0,none⟩ = some (.bool true)∧Blk Xw w.heap.size TC [.int .u8 o1,.int .u8 o2]) (by kernel_rfl) (⟨cl,HOB.out.1⟩) (fun hHeld=>?_)
   refine wpAnyH_take (i:=0) (oi:=⟨some 15,_,_,_,_,_⟩) (v:=.pointer (some ⟨kb,0,none⟩)) rfl (by kernel_rfl) (by kernel_rfl) (by kernel_rfl) (fun _ _ _ h=>h) (Or.inl ⟨by rfl,fun Xw hSW=>by go_simp⟩) hHeld ?_
   simp only [Act.put,List.setIfInBounds_toArray,List.set_cons_zero,List.set_cons_succ]
   refine wpAnyH_take (i:=1) (oi:=⟨some 16,_,_,_,_,_⟩) (v:=.pointer (some ⟨kb,0,none⟩)) rfl (by kernel_rfl) (by kernel_rfl) (by kernel_rfl) (fun _ _ _ h=>h) (Or.inl ⟨by rfl,fun Xw hSW=>by go_simp⟩) hHeld ?_
   simp only [Act.put,List.setIfInBounds_toArray,List.set_cons_zero,List.set_cons_succ]
   refine wpAnyH_take (i:=2) (oi:=⟨some 17,_,_,_,_,_⟩) (v:=.pointer (some ⟨kb,0,none⟩)) rfl (by kernel_rfl) (by kernel_rfl) (by kernel_rfl) (fun _ _ _ h=>h) (Or.inl ⟨by rfl,fun Xw hSW=>by go_simp⟩) hHeld ?_
   simp only [Act.put,List.setIfInBounds_toArray,List.set_cons_zero,List.set_cons_succ]
   refine wpAnyH_take (i:=3) (oi:=⟨some 18,_,_,_,_,_⟩) (v:=.bool true) rfl (by kernel_rfl) (by kernel_rfl) (by kernel_rfl) (fun _ _ _ h=>h) (Or.inl ⟨by rfl,fun Xw hSW=>by have a:=hSW.1; go_simp⟩) hHeld ?_
   simp only [Act.put,List.setIfInBounds_toArray,List.set_cons_zero,List.set_cons_succ]
   refine wpAnyH_take (i:=4) (oi:=⟨some 19,_,_,_,_,_⟩) (v:=.agg #[.int .u8 o1,.int .u8 o2]) rfl (by kernel_rfl) (by kernel_rfl) (by kernel_rfl) (fun _ _ _ h=>h) (Or.inl ⟨by rfl,fun Xw hSW=>by have a0:=hSW.2.cell (i:=0) rfl; have a1:=hSW.2.cell (i:=1) rfl; go_simp⟩) hHeld ?_
   simp only [Act.put,List.setIfInBounds_toArray,List.set_cons_zero,List.set_cons_succ]
   refine wpAnyH_ready (rs:=[5]) (by kernel_rfl) (by simp) ?_
   refine AllReadyH.cons (o:=⟨some 20,_,_,_,_,_⟩) rfl (fun K hK=>?_) AllReadyH.nil
   go_simp
   refine (opens_b (k:=o1) (l:=o2) W2.drew (HSXK.out.below (Below.refl W2.heap.size W2).drew).tab).mono ?_
   rintro e W3 ⟨rfl,hb3'⟩
   rw [HCO.out]
   have hb3:Below W2.heap.size W2 W3:=(Below.refl W2.heap.size W2).drew.trans hb3'
   have HSX3:=Lib.hid (HSXK.out.below hb3)
   have HGO3:=Lib.hid (HGOK.out.trans (Go.below gk hb3))
   have HOB3:=Lib.hid (HOB.out.below hb3)
   have HK3:=Lib.hid (show W3.cell? ⟨kb,2,none⟩ = some (.int .u8 (lampA (cellAt g.f g.at_):Int)) from ((Fr.below (fun _=>False) hb3).cell (p:=⟨kb,2,none⟩) HKL.out (fun h=>h)).trans cw)
   have HC3:=Lib.hid (((Fr.below (fun _=>False) hb3).cell (p:=⟨kb,0,none⟩) HKL.out (fun h=>h)).trans cl)
   have HKLT:=Lib.hid (Nat.lt_of_lt_of_le HKL.out hb3.size)
   clear hb3 hb3' cl cw
   try go_wp2_with fail
   refine hK.out _ _ (⟨HC3.out,HOB3.out.1⟩) (fun hHeld=>?_)
   clear hK K
   refine wpAnyH_take (i:=6) (oi:=⟨some 21,_,_,_,_,_⟩) (v:=.bool false) rfl (by kernel_rfl) (by kernel_rfl) (by kernel_rfl) (fun _ _ _ h=>h) (Or.inl ⟨by rfl,fun Xw hSW=>by go_simp⟩) hHeld ?_
   simp only [Act.put,List.setIfInBounds_toArray,List.set_cons_zero,List.set_cons_succ]
   refine wpAnyH_take (i:=7) (oi:=⟨some 7,_,_,_,_,_⟩) (v:=.bool false) rfl (by kernel_rfl) (by kernel_rfl) (by kernel_rfl) (fun _ _ _ h=>h) (Or.inl ⟨by rfl,fun Xw hSW=>by go_simp⟩) hHeld ?_
   simp only [Act.put,List.setIfInBounds_toArray,List.set_cons_zero,List.set_cons_succ]
   refine wpAnyH_done (by kernel_rfl) ?_ _
   refine NoPanic.normal ?_
   clear HCO
   have HTU:=Lib.hid (show ¬ Turned g (o1,o2) by rw [Turned,hcN,hcO]; decide)
   clear hcN hcO
   obtain ⟨lv,hlv⟩:∃ lv,lampA (cellAt g.f g.at_) = lv:=⟨_,rfl⟩
   obtain ⟨lo,hlo⟩:∃ lo,KindP.lamp o1 o2 = lo:=⟨_,rfl⟩
   have HLO:=Lib.hid hlo
   have hk3:=HK3.out
   rw [hlv] at hk3
   have HK4:=Lib.hid hk3
   by_cases hll:lv = lo
   ·have HLN:=Lib.hid (show ¬ (Turned g (o1,o2) ∨ lampA (cellAt g.f g.at_) ≠ lampA (o1,o2)) by rintro (e | e); exact HTU.out e; exact e (by rw [hlv,hll]; exact hlo.symm))
    have hEq:((lv:Int) == (lo:Int)) = true:=by simpa using (show (lv:Int) = (lo:Int) by omega)
    have hll2:(lv:Int) = (lo:Int):=by omega
    clear hlv hlo hk3
    go_wp2_with fail
    refine wp_region_noPanic ?_
    refine wp_region_held_drew (S:=fun Xw=>Xw.cell? ⟨kb,2,none⟩ = some (.int .u8 lv)∧Blk Xw w.heap.size TC [.int .u8 o1,.int .u8 o2]) (by kernel_rfl) (⟨HK4.out,HOB3.out.1⟩) (fun hHeld=>?_)
    refine wpAnyH_take (i:=0) (oi:=⟨some 32,_,_,_,_,_⟩) (v:=.bool false) rfl (by kernel_rfl) (by kernel_rfl) (by kernel_rfl) (fun _ _ _ h=>h) (Or.inl ⟨by rfl,fun Xw hSW=>by go_simp⟩) hHeld ?_
    simp only [Act.put,List.setIfInBounds_toArray,List.set_cons_zero,List.set_cons_succ]
    refine wpAnyH_take (i:=1) (oi:=⟨some 33,_,_,_,_,_⟩) (v:=.bool false) rfl (by kernel_rfl) (by kernel_rfl) (by kernel_rfl) (fun _ _ _ h=>h) (Or.inl ⟨by rfl,fun Xw hSW=>by go_simp⟩) hHeld ?_
    simp only [Act.put,List.setIfInBounds_toArray,List.set_cons_zero,List.set_cons_succ]
    refine wpAnyH_take (i:=2) (oi:=⟨some 34,_,_,_,_,_⟩) (v:=.pointer (some ⟨kb,0,none⟩)) rfl (by kernel_rfl) (by kernel_rfl) (by kernel_rfl) (fun _ _ _ h=>h) (Or.inl ⟨by rfl,fun Xw hSW=>by go_simp⟩) hHeld ?_
    simp only [Act.put,List.setIfInBounds_toArray,List.set_cons_zero,List.set_cons_succ]
    refine wpAnyH_take (i:=3) (oi:=⟨some 35,_,_,_,_,_⟩) (v:=.pointer (some ⟨kb,0,none⟩)) rfl (by kernel_rfl) (by kernel_rfl) (by kernel_rfl) (fun _ _ _ h=>h) (Or.inl ⟨by rfl,fun Xw hSW=>by go_simp⟩) hHeld ?_
    simp only [Act.put,List.setIfInBounds_toArray,List.set_cons_zero,List.set_cons_succ]
    refine wpAnyH_take (i:=4) (oi:=⟨some 36,_,_,_,_,_⟩) (v:=.pointer (some ⟨kb,1,none⟩)) rfl (by kernel_rfl) (by kernel_rfl) (by kernel_rfl) (fun _ _ _ h=>h) (Or.inl ⟨by rfl,fun Xw hSW=>by go_simp⟩) hHeld ?_
    simp only [Act.put,List.setIfInBounds_toArray,List.set_cons_zero,List.set_cons_succ]
    refine wpAnyH_take (i:=5) (oi:=⟨some 37,_,_,_,_,_⟩) (v:=.pointer (some ⟨kb,2,none⟩)) rfl (by kernel_rfl) (by kernel_rfl) (by kernel_rfl) (fun _ _ _ h=>h) (Or.inl ⟨by rfl,fun Xw hSW=>by go_simp⟩) hHeld ?_
    simp only [Act.put,List.setIfInBounds_toArray,List.set_cons_zero,List.set_cons_succ]
    refine wpAnyH_take (i:=6) (oi:=⟨some 38,_,_,_,_,_⟩) (v:=.int .u8 lv) rfl (by kernel_rfl) (by kernel_rfl) (by kernel_rfl) (fun _ _ _ h=>h) (Or.inl ⟨by rfl,fun Xw hSW=>by have a:=hSW.1; go_simp⟩) hHeld ?_
    simp only [Act.put,List.setIfInBounds_toArray,List.set_cons_zero,List.set_cons_succ]
    refine wpAnyH_take (i:=7) (oi:=⟨some 39,_,_,_,_,_⟩) (v:=.agg #[.int .u8 o1,.int .u8 o2]) rfl (by kernel_rfl) (by kernel_rfl) (by kernel_rfl) (fun _ _ _ h=>h) (Or.inl ⟨by rfl,fun Xw hSW=>by have a0:=hSW.2.cell (i:=0) rfl; have a1:=hSW.2.cell (i:=1) rfl; go_simp⟩) hHeld ?_
    simp only [Act.put,List.setIfInBounds_toArray,List.set_cons_zero,List.set_cons_succ]
    refine wpAnyH_ready (rs:=[8]) (by kernel_rfl) (by simp) ?_
    refine AllReadyH.cons (o:=⟨some 40,_,_,_,_,_⟩) rfl (fun K hK=>?_) AllReadyH.nil
    go_simp
    refine (KindW.k_lamp o1 o2 _ (HSX3.out.below (by (repeat' (first | (with_reducible exact Below.refl _ _) | (with_reducible refine Below.setCell ?_ (by (first | omega | (simp; done) | (simp; omega))) _) | (with_reducible refine Below.alloc ?_ (by (first | omega | (simp; done) | (simp; omega))) _) | (with_reducible refine Below.drew ?_) | (with_reducible refine below_drewN ?_ _))))).tab).mono ?_
    rintro e W5 ⟨rfl,hb5'⟩
    rw [HLO.out]
    have hb5:Below W3.heap.size W3 W5:=(show Below W3.heap.size W3 _ by (repeat' (first | (with_reducible exact Below.refl _ _) | (with_reducible refine Below.setCell ?_ (by (first | omega | (simp; done) | (simp; omega))) _) | (with_reducible refine Below.alloc ?_ (by (first | omega | (simp; done) | (simp; omega))) _) | (with_reducible refine Below.drew ?_) | (with_reducible refine below_drewN ?_ _)))).trans (hb5'.mono (by simp))
    have HSX3:=Lib.hid (HSX3.out.below hb5)
    have HGO3:=Lib.hid (HGO3.out.trans (Go.below gk hb5))
    have HOB5:=Lib.hid (HOB3.out.below hb5)
    have HK5:=Lib.hid (((Fr.below (fun _=>False) hb5).cell (p:=⟨kb,2,none⟩) (HKLT.out) (fun h=>h)).trans HK4.out)
    clear hb5 hb5'
    try go_wp2_with fail
    refine hK.out _ _ (⟨HK5.out,HOB5.out.1⟩) (fun hHeld=>?_)
    clear hK K
    refine wpAnyH_take (i:=9) (oi:=⟨some 41,_,_,_,_,_⟩) (v:=.bool false) rfl (by kernel_rfl) (by kernel_rfl) (by kernel_rfl) (fun _ _ _ h=>h) (Or.inl ⟨by rfl,fun Xw hSW=>by have q:=hEq; have q2:=hll2; go_simp⟩) hHeld ?_
    simp only [Act.put,List.setIfInBounds_toArray,List.set_cons_zero,List.set_cons_succ]
    refine wpAnyH_take (i:=10) (oi:=⟨some 42,_,_,_,_,_⟩) (v:=.bool false) rfl (by kernel_rfl) (by kernel_rfl) (by kernel_rfl) (fun _ _ _ h=>h) (Or.inl ⟨by rfl,fun Xw hSW=>by go_simp⟩) hHeld ?_
    simp only [Act.put,List.setIfInBounds_toArray,List.set_cons_zero,List.set_cons_succ]
    refine wpAnyH_done (by kernel_rfl) ?_ _
    refine NoPanic.normal ?_
    go_wp2_with fail
    ((try simp only [Exit.inBlock,Exit.then]); refine bodyPost_ret (results_none rfl _ _ _) rfl ?_)
    have hd:=(Below.refl W3.heap.size W3).drew.drew
    exact ⟨gk,rfl,HMK.out.toC.toS,HSX3.out.below (by (repeat' (first | (with_reducible exact Below.refl _ _) | (with_reducible refine Below.setCell ?_ (by (first | omega | (simp; done) | (simp; omega))) _) | (with_reducible refine Below.alloc ?_ (by (first | omega | (simp; done) | (simp; omega))) _) | (with_reducible refine Below.drew ?_) | (with_reducible refine below_drewN ?_ _)))),HGO3.out.trans (Go.below gk (by (repeat' (first | (with_reducible exact Below.refl _ _) | (with_reducible refine Below.setCell ?_ (by (first | omega | (simp; done) | (simp; omega))) _) | (with_reducible refine Below.alloc ?_ (by (first | omega | (simp; done) | (simp; omega))) _) | (with_reducible refine Below.drew ?_) | (with_reducible refine below_drewN ?_ _))))),⟨kb,HMEM.out⟩,fun e=>absurd e HTU.out,fun _=>congrFun HMK.out.same.2.2.2.2.1 false,fun e=>absurd e HLN.out,fun _=>congrFun HMK.out.same.2.2.2.2.1 true⟩
   ·have HLT:=Lib.hid (show Turned g (o1,o2) ∨ lampA (cellAt g.f g.at_) ≠ lampA (o1,o2) from .inr (by rw [hlv]; intro e; exact hll (e.trans hlo)))
    have hEq:((lv:Int) == (lo:Int)) = false:=by simpa using (show ¬ (lv:Int) = (lo:Int) by omega)
    have hll2:¬ (lv:Int) = (lo:Int):=by omega
    clear hlv hlo hk3
    go_wp2_with fail
    refine wp_region_noPanic ?_
    refine wp_region_held_drew (S:=fun Xw=>Xw.cell? ⟨kb,2,none⟩ = some (.int .u8 lv)∧Blk Xw w.heap.size TC [.int .u8 o1,.int .u8 o2]) (by kernel_rfl) (⟨HK4.out,HOB3.out.1⟩) (fun hHeld=>?_)
    refine wpAnyH_take (i:=0) (oi:=⟨some 32,_,_,_,_,_⟩) (v:=.bool false) rfl (by kernel_rfl) (by kernel_rfl) (by kernel_rfl) (fun _ _ _ h=>h) (Or.inl ⟨by rfl,fun Xw hSW=>by go_simp⟩) hHeld ?_
    simp only [Act.put,List.setIfInBounds_toArray,List.set_cons_zero,List.set_cons_succ]
    refine wpAnyH_take (i:=1) (oi:=⟨some 33,_,_,_,_,_⟩) (v:=.bool false) rfl (by kernel_rfl) (by kernel_rfl) (by kernel_rfl) (fun _ _ _ h=>h) (Or.inl ⟨by rfl,fun Xw hSW=>by go_simp⟩) hHeld ?_
    simp only [Act.put,List.setIfInBounds_toArray,List.set_cons_zero,List.set_cons_succ]
    refine wpAnyH_take (i:=2) (oi:=⟨some 34,_,_,_,_,_⟩) (v:=.pointer (some ⟨kb,0,none⟩)) rfl (by kernel_rfl) (by kernel_rfl) (by kernel_rfl) (fun _ _ _ h=>h) (Or.inl ⟨by rfl,fun Xw hSW=>by go_simp⟩) hHeld ?_
    simp only [Act.put,List.setIfInBounds_toArray,List.set_cons_zero,List.set_cons_succ]
    refine wpAnyH_take (i:=3) (oi:=⟨some 35,_,_,_,_,_⟩) (v:=.pointer (some ⟨kb,0,none⟩)) rfl (by kernel_rfl) (by kernel_rfl) (by kernel_rfl) (fun _ _ _ h=>h) (Or.inl ⟨by rfl,fun Xw hSW=>by go_simp⟩) hHeld ?_
    simp only [Act.put,List.setIfInBounds_toArray,List.set_cons_zero,List.set_cons_succ]
    refine wpAnyH_take (i:=4) (oi:=⟨some 36,_,_,_,_,_⟩) (v:=.pointer (some ⟨kb,1,none⟩)) rfl (by kernel_rfl) (by kernel_rfl) (by kernel_rfl) (fun _ _ _ h=>h) (Or.inl ⟨by rfl,fun Xw hSW=>by go_simp⟩) hHeld ?_
    simp only [Act.put,List.setIfInBounds_toArray,List.set_cons_zero,List.set_cons_succ]
    refine wpAnyH_take (i:=5) (oi:=⟨some 37,_,_,_,_,_⟩) (v:=.pointer (some ⟨kb,2,none⟩)) rfl (by kernel_rfl) (by kernel_rfl) (by kernel_rfl) (fun _ _ _ h=>h) (Or.inl ⟨by rfl,fun Xw hSW=>by go_simp⟩) hHeld ?_
    simp only [Act.put,List.setIfInBounds_toArray,List.set_cons_zero,List.set_cons_succ]
    refine wpAnyH_take (i:=6) (oi:=⟨some 38,_,_,_,_,_⟩) (v:=.int .u8 lv) rfl (by kernel_rfl) (by kernel_rfl) (by kernel_rfl) (fun _ _ _ h=>h) (Or.inl ⟨by rfl,fun Xw hSW=>by have a:=hSW.1; go_simp⟩) hHeld ?_
    simp only [Act.put,List.setIfInBounds_toArray,List.set_cons_zero,List.set_cons_succ]
    refine wpAnyH_take (i:=7) (oi:=⟨some 39,_,_,_,_,_⟩) (v:=.agg #[.int .u8 o1,.int .u8 o2]) rfl (by kernel_rfl) (by kernel_rfl) (by kernel_rfl) (fun _ _ _ h=>h) (Or.inl ⟨by rfl,fun Xw hSW=>by have a0:=hSW.2.cell (i:=0) rfl; have a1:=hSW.2.cell (i:=1) rfl; go_simp⟩) hHeld ?_
    simp only [Act.put,List.setIfInBounds_toArray,List.set_cons_zero,List.set_cons_succ]
    refine wpAnyH_ready (rs:=[8]) (by kernel_rfl) (by simp) ?_
    refine AllReadyH.cons (o:=⟨some 40,_,_,_,_,_⟩) rfl (fun K hK=>?_) AllReadyH.nil
    go_simp
    refine (KindW.k_lamp o1 o2 _ (HSX3.out.below (by (repeat' (first | (with_reducible exact Below.refl _ _) | (with_reducible refine Below.setCell ?_ (by (first | omega | (simp; done) | (simp; omega))) _) | (with_reducible refine Below.alloc ?_ (by (first | omega | (simp; done) | (simp; omega))) _) | (with_reducible refine Below.drew ?_) | (with_reducible refine below_drewN ?_ _))))).tab).mono ?_
    rintro e W5 ⟨rfl,hb5'⟩
    rw [HLO.out]
    have hb5:Below W3.heap.size W3 W5:=(show Below W3.heap.size W3 _ by (repeat' (first | (with_reducible exact Below.refl _ _) | (with_reducible refine Below.setCell ?_ (by (first | omega | (simp; done) | (simp; omega))) _) | (with_reducible refine Below.alloc ?_ (by (first | omega | (simp; done) | (simp; omega))) _) | (with_reducible refine Below.drew ?_) | (with_reducible refine below_drewN ?_ _)))).trans (hb5'.mono (by simp))
    have HSX3:=Lib.hid (HSX3.out.below hb5)
    have HGO3:=Lib.hid (HGO3.out.trans (Go.below gk hb5))
    have HOB5:=Lib.hid (HOB3.out.below hb5)
    have HK5:=Lib.hid (((Fr.below (fun _=>False) hb5).cell (p:=⟨kb,2,none⟩) (HKLT.out) (fun h=>h)).trans HK4.out)
    clear hb5 hb5'
    try go_wp2_with fail
    refine hK.out _ _ (⟨HK5.out,HOB5.out.1⟩) (fun hHeld=>?_)
    clear hK K
    refine wpAnyH_take (i:=9) (oi:=⟨some 41,_,_,_,_,_⟩) (v:=.bool true) rfl (by kernel_rfl) (by kernel_rfl) (by kernel_rfl) (fun _ _ _ h=>h) (Or.inl ⟨by rfl,fun Xw hSW=>by have q:=hEq; have q2:=hll2; go_simp⟩) hHeld ?_
    simp only [Act.put,List.setIfInBounds_toArray,List.set_cons_zero,List.set_cons_succ]
    refine wpAnyH_take (i:=10) (oi:=⟨some 42,_,_,_,_,_⟩) (v:=.bool true) rfl (by kernel_rfl) (by kernel_rfl) (by kernel_rfl) (fun _ _ _ h=>h) (Or.inl ⟨by rfl,fun Xw hSW=>by go_simp⟩) hHeld ?_
    simp only [Act.put,List.setIfInBounds_toArray,List.set_cons_zero,List.set_cons_succ]
    refine wpAnyH_done (by kernel_rfl) ?_ _
    refine NoPanic.normal ?_
    have HMS3:=Lib.hid HMK.out.toC.toS
    have HBF:=Lib.hid (show Before g (o1,o2) gk from ⟨HMS3.out,congrFun HMK.out.same.2.2.2.1 true,congrFun HMK.out.same.2.2.2.2.1 true,fun _=>HMK.out.same.2.2.1,fun e=>absurd e HTU.out⟩)
    have hw:Blk W5 g.wk TWk (wcells gk):=by have:=HSX3.out.st.work; rwa [HMS3.out.same.1] at this
    have w1:W5.cell? ⟨g.wk,1,none⟩ = some (.int .i64 g.at_.1):=by have:=hw.cell (i:=1) (v:=.int .i64 gk.at_.1) rfl; rwa [HMS3.out.same.2.1] at this
    have w2:W5.cell? ⟨g.wk,2,none⟩ = some (.int .i64 g.at_.2.1):=by have:=hw.cell (i:=2) (v:=.int .i64 gk.at_.2.1) rfl; rwa [HMS3.out.same.2.1] at this
    have w3:W5.cell? ⟨g.wk,3,none⟩ = some (.int .i64 g.at_.2.2):=by have:=hw.cell (i:=3) (v:=.int .i64 gk.at_.2.2) rfl; rwa [HMS3.out.same.2.1] at this
    have hwl6:=hw.lt
    clear hw
    go_wp2_with fail
    go_at_call 41
    refine calls_named (S:=fun W=>Below W5.heap.size W5 W∧Blk W W5.heap.size TP [.int .i64 g.at_.1,.int .i64 g.at_.2.1,.int .i64 g.at_.2.2]) ⟨by (repeat' (first | (with_reducible exact Below.refl _ _) | (with_reducible refine Below.setCell ?_ (by (first | omega | (simp; done) | (simp; omega))) _) | (with_reducible refine Below.alloc ?_ (by (first | omega | (simp; done) | (simp; omega))) _) | (with_reducible refine Below.drew ?_) | (with_reducible refine below_drewN ?_ _))),by (repeat' (first | (with_reducible refine BlkP.Blk.drew ?_) | (with_reducible refine BlkP.Blk.drewN ?_ _) | (with_reducible refine BlkP.Blk.setAt (us:=?_) (by first | omega | (simp; done) | (simp; omega)) rfl ?_ ?_) | (with_reducible refine BlkP.Blk.otherAt ?_ (by first | omega | (simp; done) | (simp; omega))) | (with_reducible refine BlkP.Blk.newA' (by first | omega | (simp; done) | (simp; omega)) rfl) | (with_reducible refine BlkP.Blk.alloc ?_ _) | (exact rfl)))⟩ ?_
    rintro W7 ⟨hb7,hl7⟩
    obtain ⟨G2,hf,hirr,hC,hside,hcnE,hnow,hrel⟩:=HH.out.lamp HLT.out gk HBF.out
    have hd:=darken_c part_lamp (HSX3.out.below hb7) hf hrel (A:=some ⟨W5.heap.size,0,none⟩) (n:=1) (c:=1) (by rw [hC]; exact (own_one (q:=g.at_) hl7).rd) (by rw [hC]; rfl) (by omega)
    rw [HMS3.out.same.1] at hd
    have HFS2:=Lib.hid hf
    have HREL2:=Lib.hid hrel
    have HIRR2:=Lib.hid hirr
    have HSO2:=Lib.hid (show G2.side = sidesV∧G2.cn = clr gk.f∧G2.now = S true from ⟨hside,hcnE,hnow⟩)
    have HGO7:=Lib.hid (HGO3.out.trans (Go.below gk hb7))
    refine hd.mono ?_
    clear hd hf hirr hC hside hcnE hnow hrel hb7 hl7 w1 w2 w3
    rintro e W8 ⟨T5,A5,n5,c5,g7,rfl,hl5,hdk5,hm5,hnw5,hsx5,hgo5,hrow5,hok5⟩
    have hb:=brighten_c part_lamp hsx5 HFS2.out HREL2.out hm5 HIRR2.out hdk5 hnw5 (fun q hq=>hm5.ok (hok5 q hq)) hrow5 hl5
    rw [hm5.same.1,HMS3.out.same.1] at hb
    have HB2:=Lib.hid hb
    have HM57:=Lib.hid hm5
    have HGO72:=Lib.hid (HGO7.out.trans hgo5)
    clear hb hl5 hdk5 hm5 hnw5 hsx5 hgo5 hrow5 hok5
    go_wp2_with fail
    go_at_call 40
    refine HB2.out.mono ?_
    rintro e W9 ⟨ls6,g8,rfl,hm6,hsp6,hsx6,hgo6⟩
    have HM68:=Lib.hid (HM57.out.trans hm6)
    have HSOL8:=Lib.hid (show SolV sidesV (clr g.f) (S true) (g8.nw true) by
     have:=hsp6.sol
     rwa [HSO2.out.1,HSO2.out.2.1,HSO2.out.2.2,show clr gk.f = clr g.f from funext HMS3.out.clr] at this)
    have HSX8:=Lib.hid hsx6
    have HGO8:=Lib.hid (HGO72.out.trans hgo6)
    clear hm6 hsp6 hsx6 hgo6 HB2
    go_wp2_with fail
    ((try simp only [Exit.inBlock,Exit.then]); refine bodyPost_ret (results_none rfl _ _ _) rfl ?_)
    refine ⟨g8,rfl,HMS3.out.trans HM68.out.toS,HSX8.out,HGO8.out,⟨kb,HM68.out.mono HMEM.out⟩,fun e=>absurd e HTU.out,fun _=>?_,fun _=>HSOL8.out,fun e=>absurd HLT.out e⟩
    rw [HM68.out.nwo (by decide)]
    exact congrFun HMK.out.same.2.2.2.2.1 false
end FloodW
end Go.Proofs.YtpimkdaikoclnaaDoor
namespace Go.Proofs.YtpimkdaikoclnaaDoor
open Go.RowKit
set_option linter.unusedVariables false
set_option linter.unusedSimpArgs false
namespace FloodW
open BlkP RowG GlowW FloodP
def clO (f:Fld) (p:V) (o:Nat × Nat) (q:V):Bool:=if q = p then openA o else clr f q
def lmN (f:Fld) (q:V):Nat:=lampA (cellAt f q)
def lmO (f:Fld) (p:V) (o:Nat × Nat) (q:V):Nat:=if q = p then lampA o else lmN f q
structure Old (f:Fld) (p:V) (o:Nat × Nat):Prop where
 fw:FldW f
 inb:inB f p = true
 sky:SolV sidesV (clO f p o) (skyS (clO f p o)) (wasB f false)
 lamp:SolV sidesV (clO f p o) (lmO f p o) (wasB f true)
theorem lamp_dark {c:Nat × Nat} (h:openA c = false):lampA c = 0:=by
 have:=(lamp_src [c]).2 0 (by simpa [GlowP.clO] using h)
 simpa using this
theorem lamp15 (c:Nat × Nat):lampA c≤15:=by
 have:=(lamp_src [c]).1 0
 simpa using this
theorem was15 {f:Fld} (h:FldW f) (b:Bool) (q:V):wasB f b q≤15:=by
 have:=litAt_le h q
 cases b
 ·exact this.1
 ·exact this.2
theorem up_ne {p:V} {k:Nat} (hk:1≤k):upV p k ≠ p:=fun e=>by
 have:(upV p k).2.1 = p.2.1:=by rw [e]
 simp only [upV] at this
 omega
theorem dn_ne {p:V} {k:Nat} (hk:1≤k):dnV p k ≠ p:=fun e=>by
 have:(dnV p k).2.1 = p.2.1:=by rw [e]
 simp only [dnV] at this
 omega
section
variable {f:Fld} {p q c:V} {o:Nat × Nat}
theorem clO_ne (h:q ≠ p):clO f p o q = clr f q:=if_neg h
theorem clO_at:clO f p o p = openA o:=if_pos rfl
theorem src_at (hp:mayP p) (hu:upC f p) {cl:V→Bool} (hcl:∀ q,q ≠ p→cl q = clr f q) (hc:cl p = true) {k:Nat} (hk:0≤p.2.1 - (k:Int)) (hd:∀ j:Nat,1≤j→j≤k→clr f (dnV p j) = true):skyS cl (dnV p k) = 15:=by
 have hy:0≤(dnV p k).2.1:=by simp only [dnV]; omega
 have hat:∀ i,i≤k→cl (dnV p i) = true:=fun i hi=>by
  by_cases e:i = 0
  ·rw [e,dnV_zero]
   exact hc
  ·rw [hcl _ (dn_ne (by omega))]
   exact hd i (by omega) hi
 refine (skyS_iff hy).2 ⟨hat k (Nat.le_refl _),fun i hi=>?_⟩
 by_cases e:i≤k
 ·rw [dnV_up e]
  exact hat _ (by omega)
 ·rw [dnV_up2 (by omega),hcl _ (up_ne (by omega))]
  refine hu _ (by omega) ?_
  simp only [dnV] at hi
  omega
theorem src_no (hp:mayP p) {cl:V→Bool} (hc:cl p = false) {k:Nat} (hk:0≤p.2.1 - (k:Int)):skyS cl (dnV p k) = 0:=by
 have hp':=hp
 unfold mayP at hp'
 refine skyS_zero (k:=k) (by simp only [dnV]; omega) (by simp only [dnV]; omega) ?_
 rw [dnV_up (Nat.le_refl _),Nat.sub_self,dnV_zero]
 exact hc
theorem Old.up_src (h:Old f p o) (hu:upC f p) {k:Nat} (hk:1≤k) (hy:p.2.1 + (k:Int)≤63):clO f p o (upV p k) = true∧skyS (clO f p o) (upV p k) = 15:=by
 have hp:=in_may h.fw h.inb
 unfold mayP at hp
 have h1:clO f p o (upV p k) = true:=by
  rw [clO_ne (up_ne hk)]
  exact hu k hk hy
 refine ⟨h1,(skyS_iff (by simp only [upV]; omega)).2 ⟨h1,fun j hj=>?_⟩⟩
 rw [upV_up,clO_ne (up_ne (by omega))]
 refine hu _ (by omega) ?_
 simp only [upV] at hj
 omega
theorem Old.opn_iff (h:Old f p o):opn f 15 p true = true↔upC f p:=by
 have hp:=in_may h.fw h.inb
 have hp':=hp
 unfold mayP at hp'
 rw [opn_gen 15 p true hp]
 constructor
 ·rintro ⟨h1,h2⟩ k k1 k3
  by_cases hk:k≤15
  ·exact h1 k k1 hk k3
  ·obtain ⟨_,h4⟩:=h2 (by omega)
   have h5:=h4 15 (by omega) (by omega)
   have h6:skyS (clO f p o) (upV p 15) = 15:=by
    apply Classical.byContradiction
    intro hn
    have h7:=skyS_le (clO f p o) (upV p 15)
    obtain ⟨s,_,hs⟩:=h.sky.just (q:=upV p 15) (by omega)
    have:=was15 h.fw false s
    omega
   have h7:=((skyS_iff (by simp only [upV]; omega)).1 h6).2 (k - 15) (by simp only [upV]; omega)
   rw [upV_up,show 15 + (k - 15) = k by omega,clO_ne (up_ne k1)] at h7
   exact h7
 ·intro hu
  refine ⟨fun k k1 _ k3=>hu k k1 k3,fun h15=>⟨rfl,fun k k1 k2=>?_⟩⟩
  obtain ⟨h1,h2⟩:=h.up_src hu k1 (by omega)
  have h3:=h.sky.own h1
  have:=was15 h.fw false (upV p k)
  omega
theorem colT_mem (hp:mayP p) (ho:opn f 15 p true = true):c ∈ colT f p↔∃ k:Nat,c = dnV p k∧0≤p.2.1 - (k:Int)∧∀ j:Nat,1≤j→j≤k→clr f (dnV p j) = true:=by
 have hp':=hp
 unfold mayP at hp'
 unfold colT
 rw [if_pos ho,List.mem_cons,colV_mem 64 p c hp]
 constructor
 ·rintro (h | ⟨k,h1,h2,h3,h4,h5⟩)
  ·exact ⟨0,by rw [h,dnV_zero],by omega,fun j j1 j2=>by omega⟩
  ·exact ⟨k,h3,h4,h5⟩
 ·rintro ⟨k,h3,h4,h5⟩
  by_cases e:k = 0
  ·subst e
   rw [dnV_zero] at h3
   exact .inl h3
  ·exact .inr ⟨k,by omega,by omega,h3,h4,h5⟩
theorem colT_no (ho:opn f 15 p true = false):colT f p = [p]:=by
 unfold colT
 rw [ho,if_neg (by simp)]
theorem colT_self (f:Fld) (p:V):p ∈ colT f p:=by
 unfold colT
 split
 ·exact List.mem_cons_self
 ·exact List.mem_cons_self
def ctr (f:Fld) (p:V) (o:Nat × Nat) (c:V):Prop:=c = p ∨ (inB f c = true∧skyS (clO f p o) c ≠ skyS (clr f) c)
def nearK (f:Fld) (p:V) (o:Nat × Nat) (q:V):Prop:=∃ c,ctr f p o c∧gapZ q.1 c.1 + (gapZ q.2.1 c.2.1 + gapZ q.2.2 c.2.2)≤15
theorem ctr_col (hp:mayP p) (ht:clr f p ≠ openA o) (hu:upC f p) {k:Nat} (hk:0≤p.2.1 - (k:Int)) (hd:∀ j:Nat,1≤j→j≤k→clr f (dnV p j) = true):ctr f p o (dnV p k):=by
 by_cases e:k = 0
 ·rw [e,dnV_zero]
  exact .inl rfl
 ·refine .inr ⟨clr_in (hd k (by omega) (Nat.le_refl _)),?_⟩
  have hcO:∀ q,q ≠ p→clO f p o q = clr f q:=fun q hq=>clO_ne hq
  cases hc:clr f p with
  | true =>
   rw [hc] at ht
   have ho:openA o = false:=by
    cases e2:openA o with
    | true=>rw [e2] at ht; exact absurd rfl ht
    | false=>rfl
   rw [src_at hp hu (cl:=clr f) (fun _ _=>rfl) hc hk hd,src_no hp (cl:=clO f p o) (by rw [clO_at]; exact ho) hk]
   decide
  | false =>
   rw [hc] at ht
   have ho:openA o = true:=by
    cases e2:openA o with
    | true=>rfl
    | false=>rw [e2] at ht; exact absurd rfl ht
   rw [src_no hp (cl:=clr f) hc hk,src_at hp hu hcO (by rw [clO_at]; exact ho) hk hd]
   decide
def LowOk (f:Fld) (p:V) (o:Nat × Nat) (low:Int):Prop:=low≤p.2.1∧∀ y,low≤y→y≤p.2.1→ctr f p o (p.1,y,p.2.2)
theorem LowOk.self:LowOk f p o p.2.1:=⟨Int.le_refl _,fun y h1 h2=>.inl (Prod.ext rfl (Prod.ext (by simp only; omega) rfl))⟩
structure ColF (p:V) (T:List V) (lw:Int):Prop where
 low:∀ c ∈ T,lw≤c.2.1
 all:∀ y,lw≤y→y≤p.2.1→(p.1,y,p.2.2) ∈ T
 at_:∀ c ∈ T,c.1 = p.1∧c.2.2 = p.2.2∧c.2.1≤p.2.1
 le:lw≤p.2.1
theorem col_low (hp:mayP p) {T:List V} {low low0:Int} (hT:T = colT f p) (h0:low0 = p.2.1) (hl:∃ q,T.getLast? = some q∧(opn f 15 p true = true→low = q.2.1)∧(opn f 15 p true = false→low = low0)):ColF p T low:=by
 obtain ⟨l,hl1,hl2,hl3⟩:=hl
 cases ho:opn f 15 p true with
 | false =>
  rw [colT_no ho] at hT
  have hlow:low = p.2.1:=(hl3 ho).trans h0
  subst hT
  refine ⟨fun c hc=>?_,fun y h1 h2=>?_,fun c hc=>?_,by omega⟩
  ·have:c = p:=by simpa using hc
   rw [this]
   omega
  ·have:(p.1,y,p.2.2) = p:=Prod.ext rfl (Prod.ext (by simp only; omega) rfl)
   rw [this]
   simp
  ·have:c = p:=by simpa using hc
   rw [this]
   exact ⟨rfl,rfl,Int.le_refl _⟩
 | true =>
  have hlow:=hl2 ho
  have hT':=hT
  unfold colT at hT'
  rw [if_pos ho] at hT'
  rw [hT'] at hl1
  obtain ⟨m1,m2⟩:=last_low 64 p l hp hl1
  rw [← hT'] at m1 m2
  rw [hT] at m1
  obtain ⟨kl,e1,e2,e3⟩:=(colT_mem hp ho).1 m1
  have hly:l.2.1 = p.2.1 - (kl:Int):=by rw [e1]; rfl
  refine ⟨fun c hc=>by rw [hlow]; exact m2 c hc,fun y h1 h2=>?_,fun c hc=>?_,by omega⟩
  ·rw [hT]
   refine (colT_mem hp ho).2 ⟨(p.2.1 - y).toNat,Prod.ext rfl (Prod.ext ?_ rfl),by omega,fun j j1 j2=>e3 j j1 (by omega)⟩
   simp only [dnV]
   omega
  ·rw [hT] at hc
   obtain ⟨k,k1,k2,k3⟩:=(colT_mem hp ho).1 hc
   rw [k1]
   refine ⟨rfl,rfl,?_⟩
   simp only [dnV]
   omega
theorem Old.low_ok (h:Old f p o) (ht:clr f p ≠ openA o) {low:Int} (hF:ColF p (colT f p) low):LowOk f p o low:=by
 have hp:=in_may h.fw h.inb
 refine ⟨hF.le,fun y h1 h2=>?_⟩
 have hm:=hF.all y h1 h2
 cases ho:opn f 15 p true with
 | false =>
  rw [colT_no ho] at hm
  exact .inl (by simpa using hm)
 | true =>
  obtain ⟨k,k1,k2,k3⟩:=(colT_mem hp ho).1 hm
  rw [k1]
  exact ctr_col hp ht (h.opn_iff.1 ho) k2 k3
theorem Old.same (h:Old f p o) (hq:q ∉ colT f p):clO f p o q = clr f q∧skyS (clO f p o) q = skyS (clr f) q:=by
 have hp:=in_may h.fw h.inb
 have hp':=hp
 unfold mayP at hp'
 have hne:q ≠ p:=fun e=>hq (by rw [e]; exact colT_self f p)
 refine ⟨clO_ne hne,?_⟩
 by_cases hk:∃ k:Nat,upV q k = p
 ·obtain ⟨k,hk⟩:=hk
  have hk0:1≤k:=by
   apply Classical.byContradiction
   intro hn
   rw [show k = 0 by omega,upV_zero] at hk
   exact hne hk
  have hqd:q = dnV p k:=by
   rw [← hk]
   exact Prod.ext rfl (Prod.ext (by simp only [dnV,upV]; omega) rfl)
  by_cases hy:0≤q.2.1
  ·have hky:0≤p.2.1 - (k:Int):=by rw [hqd] at hy; exact hy
   have both:∀ i:Nat,q.2.1 + (i:Int)≤63→upV q i ≠ p→clr f (upV q i) = false→skyS (clO f p o) q = skyS (clr f) q:=fun i hi hi2 hi3=>by
    rw [skyS_zero (cl:=clO f p o) hy hi (by rw [clO_ne hi2]; exact hi3),skyS_zero (cl:=clr f) hy hi hi3]
   by_cases hu:upC f p
   ·have ho:=h.opn_iff.2 hu
    have hex:∃ j:Nat,1≤j∧j≤k∧clr f (dnV p j) = false:=by
     apply Classical.byContradiction
     intro hn
     refine hq ((colT_mem hp ho).2 ⟨k,hqd,hky,fun j j1 j2=>?_⟩)
     cases e:clr f (dnV p j) with
     | true=>rfl
     | false=>exact absurd ⟨j,j1,j2,e⟩ hn
    obtain ⟨j,j1,j2,j3⟩:=hex
    have e:upV q (k - j) = dnV p j:=by
     rw [hqd,dnV_up (by omega),show k - (k - j) = j by omega]
    refine both (k - j) ?_ (by rw [e]; exact dn_ne j1) (by rw [e]; exact j3)
    rw [hqd]
    simp only [dnV]
    omega
   ·have hex:∃ j:Nat,1≤j∧p.2.1 + (j:Int)≤63∧clr f (upV p j) = false:=by
     apply Classical.byContradiction
     intro hn
     refine hu (fun j j1 j2=>?_)
     cases e:clr f (upV p j) with
     | true=>rfl
     | false=>exact absurd ⟨j,j1,j2,e⟩ hn
    obtain ⟨j,j1,j2,j3⟩:=hex
    have e:upV q (k + j) = upV p j:=by rw [← upV_up,hk]
    refine both (k + j) ?_ (by rw [e]; exact up_ne j1) (by rw [e]; exact j3)
    rw [hqd]
    simp only [dnV]
    omega
  ·have hcl:clr f q = false:=by
    cases e:clr f q with
    | false=>rfl
    | true =>
     have:=in_may h.fw (clr_in e)
     unfold mayP at this
     omega
   rw [skyS_dark (by rw [clO_ne hne]; exact hcl),skyS_dark hcl]
 ·exact skyS_congr fun k=>clO_ne fun e=>hk ⟨k,e⟩
end
theorem colV_clr {f f':Fld} (h:clr f = clr f'):∀ (n:Nat) (q:V),colV f n q = colV f' n q
 | 0,q=>rfl
 | n + 1,q=>by
  unfold colV
  rw [h]
  cases sideO q 5 with
  | none=>rfl
  | some a=>simp only [colV_clr h n a]
section
variable {x y:Gh}
theorem MoreS.was (h:MoreS x y) (c:Bool) (q:V):wasB y.f c q = wasB x.f c q:=by
 obtain ⟨⟨_,_,_,_,_,_,e1⟩,_⟩:=h
 rw [e1]; rfl
theorem MoreS.ok (h:MoreS x y) {q:V} (hq:okP x q):okP y q:=by
 obtain ⟨⟨_,_,_,_,_,_,e1⟩,_⟩:=h
 rw [e1]; exact hq
theorem More.colT (h:More x y) (q:V):colT y.f q = colT x.f q:=by
 unfold FloodW.colT
 rw [opn_more h,colV_clr (funext h.clr)]
end
structure Begin (g:Gh) (o:Nat × Nat):Prop where
 old:Old g.f g.at_ o
 ow0:∀ q,g.ow false q = 0
 ow1:∀ q,g.ow true q = lmN g.f q
 nw:∀ b q,g.nw b q = if clr g.f q = true then wasB g.f b q else 0
 low:g.low = g.at_.2.1
 kd:∀ q,nearK g.f g.at_ o q→g.kd q
section
variable {g gk g1:Gh} {o:Nat × Nat} {T:List V}
theorem Begin.col (h:Begin g o) (hm:More g gk) (hc:ColR gk g1 T):T = colT g.f g.at_∧ColF g.at_ T g1.low:=by
 have h1:T = colT g.f g.at_:=by rw [hc.list,hm.same.2.1,hm.colT]
 refine ⟨h1,col_low (f:=g.f) (in_may h.old.fw h.old.inb) (low0:=gk.low) h1 (by rw [hm.same.2.2.1]; exact h.low) ?_⟩
 obtain ⟨q,q1,q2,q3⟩:=hc.low
 rw [hm.same.2.1,opn_more hm] at q2 q3
 exact ⟨q,q1,q2,q3⟩
theorem near_ok (h:Begin g o) (hm:MoreS g g1) (hl:LowOk g.f g.at_ o g1.low) {q s:V} (hq:inB g.f q = true) (hs:s ∈ sidesV q) (hd:dG g1 s≤15):okP g1 s:=by
 obtain ⟨h1,h2,h3⟩:=mem_sidesV.1 hs
 refine hm.ok ⟨h2,adj_ext hq h3,h.kd s ⟨(g.at_.1,clampY g1 s.2.1,g.at_.2.2),hl.2 _ ?_ ?_,?_⟩⟩
 ·unfold clampY
  omega
 ·have:=hl.1
  unfold clampY
  rw [hm.same.2.1]
  omega
 ·unfold dG at hd
  rw [hm.same.2.1] at hd
  exact hd
theorem pset_sky (h:Begin g o) (ht:Turned g o) (hm:More g gk) (hc:ColR gk g1 T):PSet false g1 T (skyS (clr g.f)):=by
 obtain ⟨hT,hF⟩:=h.col hm hc
 have hA:=h.old
 have hp:=in_may hA.fw hA.inb
 have hmC:MoreC g g1:=hm.toC.trans hc.more
 have hclr:clr g1.f = clr g.f:=funext hmC.clr
 have hlow:LowOk g.f g.at_ o g1.low:=hA.low_ok ht (by rw [← hT]; exact hF)
 have hat:∀ q,q ∈ T→mayP q∧inB g.f q = true∧ctr g.f g.at_ o q:=fun q hq=>by
  have h1:=hF.at_ q hq
  have h2:=hlow.2 q.2.1 (hF.low q hq) h1.2.2
  have e:(g.at_.1,q.2.1,g.at_.2.2) = q:=Prod.ext h1.1.symm (Prod.ext rfl h1.2.1.symm)
  rw [e] at h2
  have h3:inB g.f q = true:=by
   rcases h2 with h2 | h2
   ·rw [h2]; exact hA.inb
   ·exact h2.1
  exact ⟨in_may hA.fw h3,h3,h2⟩
 have howk:∀ q,gk.ow false q = 0:=fun q=>by rw [hm.same.2.2.2.1]; exact h.ow0 q
 have hsky:∀ q,g1.ow false q = if (opn g.f 15 g.at_ true = true∧clr g.f g.at_ = true)∧q ∈ T then 15 else 0:=fun q=>by
  have:=hc.sky q
  rw [howk,hm.same.2.1,opn_more hm,hm.clr] at this
  exact this
 have hsame:∀ q,q ∉ T→clO g.f g.at_ o q = clr g.f q∧skyS (clO g.f g.at_ o) q = skyS (clr g.f) q:=fun q hq=>hA.same (by rw [← hT]; exact hq)
 have hpo:∀ q,g1.ow false q = skyS (clr g.f) q ∨ (skyS (clO g.f g.at_ o) q = 15∧skyS (clr g.f) q = 15∧g1.ow false q = 0∧0 < dG g1 q):=fun q=>by
  rw [hsky]
  by_cases hq:q ∈ T
  ·refine .inl ?_
   cases ho:opn g.f 15 g.at_ true with
   | false =>
    rw [if_neg (by simp)]
    have hq1:q = g.at_:=by
     rw [hT,colT_no ho] at hq
     simpa using hq
    rw [hq1]
    rcases skyS_or (clr g.f) g.at_ with e | e
    ·exfalso
     have hu:upC g.f g.at_:=fun k _ hk=>((skyS_iff (by unfold mayP at hp; omega)).1 e).2 k hk
     rw [hA.opn_iff.2 hu] at ho
     cases ho
    ·exact e.symm
   | true =>
    have hq2:=hq
    rw [hT] at hq2
    obtain ⟨k,k1,k2,k3⟩:=(colT_mem hp ho).1 hq2
    cases hcl:clr g.f g.at_ with
    | true =>
     rw [if_pos ⟨⟨rfl,rfl⟩,hq⟩,k1]
     exact (src_at hp (hA.opn_iff.1 ho) (cl:=clr g.f) (fun _ _=>rfl) hcl k2 k3).symm
    | false =>
     rw [if_neg (by simp),k1]
     exact (src_no hp (cl:=clr g.f) hcl k2).symm
  ·rw [if_neg (fun e=>hq e.2)]
   rcases skyS_or (clr g.f) q with e | e
   ·refine .inr ⟨by rw [(hsame q hq).2]; exact e,e,rfl,?_⟩
    apply Classical.byContradiction
    intro hn
    have hd:dG g1 q = 0:=by omega
    unfold dG gapZ clampY at hd
    rw [hmC.same.2.1] at hd
    have hle:=hF.le
    have e1:q.1 = g.at_.1:=by omega
    have e2:q.2.2 = g.at_.2.2:=by omega
    have e3:=hF.all q.2.1 (by omega) (by omega)
    have e4:(g.at_.1,q.2.1,g.at_.2.2) = q:=Prod.ext e1.symm (Prod.ext rfl e2.symm)
    rw [e4] at e3
    exact hq e3
   ·exact .inl e.symm
 have hdark:∀ q,clr g.f q = false→skyS (clr g.f) q = 0:=fun q hq=>skyS_dark hq
 refine ⟨{ side:=sidesV,cl:=clO g.f g.at_ o,cn:=clr g.f,own:=skyS (clO g.f g.at_ o),now:=skyS (clr g.f),po:=g1.ow false,was:=wasB g.f false,d:=dG g1,C:=T,E:=boxL g.f },⟨fun q s=>sidesV_sym,hA.sky,was15 hA.fw false,skyS_le _,hsame,fun q s=>dG_near,fun q hq=>?_,hpo,hdark,?_,fun q hq=>(boxL_mem hA.fw).2 (hat q hq).2.1,fun q hq=>(boxL_mem hA.fw).2 ?_,fun q hq=>(boxL_mem hA.fw).2 (clr_in hq),boxL_dup g.f,fun q _=>hdark q⟩,sidesV_irr,rfl,rfl,hclr.symm,rfl,⟨fun q=>hmC.was false q,fun q=>hmC.clr q,fun q=>rfl,fun q=>rfl,fun q=>rfl,fun q hq=>?_,fun q hq=>hmC.ok ⟨(hat q hq).1,in_ext (hat q hq).2.1,h.kd q ⟨q,(hat q hq).2.2,by simp [gapZ]⟩⟩,fun q hq=>⟨in_may hA.fw ((boxL_mem hA.fw).1 hq),fun s hs hd=>near_ok h hmC.toS hlow ((boxL_mem hA.fw).1 hq) hs hd⟩,boxL_len hA.fw⟩⟩
 ·have h1:=hF.at_ q hq
  have h2:=hF.low q hq
  show dG g1 q = 0
  unfold dG gapZ clampY
  rw [hmC.same.2.1]
  omega
 ·show T.Nodup
  rw [hT]
  unfold colT
  split
  ·exact List.nodup_cons.2 ⟨fun hx=>by
    have:=colV_low hp hx
    omega,colV_dup 64 _ hp⟩
  ·exact List.nodup_cons.2 ⟨by simp,List.nodup_nil⟩
 ·replace hq:clO g.f g.at_ o q = true:=hq
  unfold clO at hq
  split at hq
  ·rename_i e
   rw [e]
   exact hA.inb
  ·exact clr_in hq
 ·show g1.nw false q = wasB g.f false q
  rw [hmC.same.2.2.1,h.nw]
  split
  ·rfl
  ·rename_i hn
   have h1:clO g.f g.at_ o q = false:=by
    rw [(hsame q hq).1]
    simpa using hn
   have:=hA.sky q
   rw [h1] at this
   simpa using this.symm
theorem Begin.low_any (h:Begin g o) (hB:Before g o g1):LowOk g.f g.at_ o g1.low:=by
 by_cases ht:Turned g o
 ·obtain ⟨gk,gc,T,hm,hc,hl⟩:=hB.2.2.2.2 ht
  obtain ⟨hT,hF⟩:=h.col hm hc
  rw [hl]
  exact h.old.low_ok ht (by rw [← hT]; exact hF)
 ·rw [hB.2.2.2.1 ht,h.low]
  exact LowOk.self
theorem pset_lamp (h:Begin g o) (hB:Before g o g1):PSet true g1 [g.at_] (lmN g.f):=by
 have hA:=h.old
 have hp:=in_may hA.fw hA.inb
 have hmS:=hB.1
 have hclr:clr g1.f = clr g.f:=funext hmS.clr
 have hlow:=h.low_any hB
 have one:∀ q,q ∈ [g.at_]→q = g.at_:=fun q hq=>by simpa using hq
 have hsame:∀ q,q ∉ [g.at_]→clO g.f g.at_ o q = clr g.f q∧lmO g.f g.at_ o q = lmN g.f q:=fun q hq=>by
  have hne:q ≠ g.at_:=fun e=>hq (by rw [e]; simp)
  exact ⟨clO_ne hne,if_neg hne⟩
 have how:∀ q,g1.ow true q = lmN g.f q:=fun q=>by rw [hB.2.1]; exact h.ow1 q
 have hdark:∀ q,clr g.f q = false→lmN g.f q = 0:=fun q hq=>lamp_dark hq
 have hok:okP g1 g.at_:=hmS.ok ⟨hp,in_ext hA.inb,h.kd _ ⟨g.at_,.inl rfl,by simp [gapZ]⟩⟩
 refine ⟨{ side:=sidesV,cl:=clO g.f g.at_ o,cn:=clr g.f,own:=lmO g.f g.at_ o,now:=lmN g.f,po:=g1.ow true,was:=wasB g.f true,d:=dG g1,C:=[g.at_],E:=boxL g.f },⟨fun q s=>sidesV_sym,hA.lamp,was15 hA.fw true,fun q=>lamp15 _,hsame,fun q s=>dG_near,fun q hq=>?_,fun q=>.inl (how q),hdark,?_,fun q hq=>(boxL_mem hA.fw).2 (by rw [one q hq]; exact hA.inb),fun q hq=>(boxL_mem hA.fw).2 ?_,fun q hq=>(boxL_mem hA.fw).2 (clr_in hq),boxL_dup g.f,fun q _=>hdark q⟩,sidesV_irr,rfl,rfl,hclr.symm,rfl,⟨fun q=>hmS.was true q,fun q=>hmS.clr q,fun q=>rfl,fun q=>rfl,fun q=>rfl,fun q hq=>?_,fun q hq=>by rw [one q hq]; exact hok,fun q hq=>⟨in_may hA.fw ((boxL_mem hA.fw).1 hq),fun s hs hd=>near_ok h hmS hlow ((boxL_mem hA.fw).1 hq) hs hd⟩,boxL_len hA.fw⟩⟩
 ·show dG g1 q = 0
  rw [one q hq]
  have:=hlow.1
  unfold dG gapZ clampY
  rw [hmS.same.2.1]
  omega
 ·show [g.at_].Nodup
  exact List.nodup_cons.2 ⟨by simp,List.nodup_nil⟩
 ·replace hq:clO g.f g.at_ o q = true:=hq
  unfold clO at hq
  split at hq
  ·rename_i e
   rw [e]
   exact hA.inb
  ·exact clr_in hq
 ·show g1.nw true q = wasB g.f true q
  rw [hB.2.2.1,h.nw]
  split
  ·rfl
  ·rename_i hn
   have h1:clO g.f g.at_ o q = false:=by
    rw [(hsame q hq).1]
    simpa using hn
   have:=hA.lamp q
   rw [h1] at this
   simpa using this.symm
theorem Begin.ups (h:Begin g o):∀ (n k:Nat),n + k≤15→inB g.f (upV g.at_ k) = true→opnOk g n (upV g.at_ k)
 | 0,k,_,_=>trivial
 | n + 1,k,hk,hi=>fun a ha=>by
  obtain ⟨h1,h2,h3⟩:=(sideO_iff (by omega)).1 ha
  have hadj:=adj_mv (upV g.at_ k) 4 (by omega)
  rw [← h3] at hadj
  have e:a = upV g.at_ (k + 1):=by
   rw [h3]
   exact Prod.ext rfl (Prod.ext (by simp only [mvV,upV]; simp; omega) rfl)
  refine ⟨⟨h2,adj_ext hi hadj,h.kd a ⟨g.at_,.inl rfl,?_⟩⟩,fun hc=>?_⟩
  ·rw [e]
   simp only [upV,gapZ]
   omega
  ·rw [e] at hc ⊢
   exact Begin.ups h n (k + 1) (by omega) (clr_in hc)
theorem Begin.downs (h:Begin g o) (ht:Turned g o) (hu:upC g.f g.at_):∀ (n k:Nat),0≤g.at_.2.1 - (k:Int)→(∀ j:Nat,1≤j→j≤k→clr g.f (dnV g.at_ j) = true)→colOk g n (dnV g.at_ k)
 | 0,k,_,_=>trivial
 | n + 1,k,hk,hd=>fun a ha=>by
  have hp:=in_may h.old.fw h.old.inb
  obtain ⟨h1,h2,h3⟩:=(sideO_iff (by omega)).1 ha
  have hadj:=adj_mv (dnV g.at_ k) 5 (by omega)
  rw [← h3] at hadj
  have e:a = dnV g.at_ (k + 1):=by
   rw [h3]
   exact Prod.ext rfl (Prod.ext (by simp only [mvV,dnV]; simp; omega) rfl)
  have hi:inB g.f (dnV g.at_ k) = true:=by
   by_cases e0:k = 0
   ·rw [e0,dnV_zero]
    exact h.old.inb
   ·exact clr_in (hd k (by omega) (Nat.le_refl _))
  refine ⟨⟨h2,adj_ext hi hadj,h.kd a ⟨_,ctr_col hp ht hu hk hd,?_⟩⟩,fun hc=>?_⟩
  ·rw [e]
   simp only [dnV,gapZ]
   omega
  ·rw [e] at hc ⊢
   have hy:0≤g.at_.2.1 - ((k + 1:Nat):Int):=by
    rw [e] at h2
    unfold mayP at h2
    simp only [dnV] at h2
    omega
   refine Begin.downs h ht hu n (k + 1) hy (fun j j1 j2=>?_)
   by_cases ej:j = k + 1
   ·rw [ej]
    exact hc
   ·exact hd j j1 (by omega)
def nowS (f:Fld) (b:Bool):V→Nat:=cond b (lmN f) (skyS (clr f))
theorem Begin.setH (h:Begin g o):SetH g o (nowS g.f):=by
 have hp:=in_may h.old.fw h.old.inb
 refine ⟨⟨hp,in_ext h.old.inb,h.kd _ ⟨g.at_,.inl rfl,by simp [gapZ]⟩⟩,fun _=>?_,fun ht ho=>?_,h.ow1 _,fun ht gk g1 T hm hc=>pset_sky h ht hm hc,fun _ g1 hB=>pset_lamp h hB⟩
 ·have:=h.ups 15 0 (by omega) (by rw [upV_zero]; exact h.old.inb)
  rwa [upV_zero] at this
 ·have hp':=hp
  unfold mayP at hp'
  have:=h.downs ht (h.old.opn_iff.1 ho) 64 0 (by omega) (fun j j1 j2=>by omega)
  rwa [dnV_zero] at this
theorem Begin.done (h:Begin g o) {g':Gh} (h1:Turned g o→SolV sidesV (clr g.f) (nowS g.f false) (g'.nw false)) (h2:¬ Turned g o→g'.nw false = g.nw false)
  (h3:(Turned g o ∨ lampA (cellAt g.f g.at_) ≠ lampA o)→SolV sidesV (clr g.f) (nowS g.f true) (g'.nw true)) (h4:¬ (Turned g o ∨ lampA (cellAt g.f g.at_) ≠ lampA o)→g'.nw true = g.nw true) :
  ∀ b,SolV sidesV (clr g.f) (nowS g.f b) (g'.nw b):=by
 have hcl:¬ Turned g o→clO g.f g.at_ o = clr g.f:=fun ht=>by
  have ht':clr g.f g.at_ = openA o:=Classical.not_not.1 ht
  funext q
  unfold clO
  split
  ·rename_i e
   rw [e]
   exact ht'.symm
  ·rfl
 have hwas:∀ b,SolV sidesV (clr g.f) (nowS g.f b) (wasB g.f b)→g.nw b = wasB g.f b:=fun b hs=>by
  funext q
  rw [h.nw]
  split
  ·rfl
  ·rename_i hn
   have:=hs q
   rw [if_neg hn] at this
   exact this.symm
 intro b
 cases b with
 | false =>
  by_cases ht:Turned g o
  ·exact h1 ht
  ·have hs:=h.old.sky
   rw [hcl ht] at hs
   rw [h2 ht,hwas false hs]
   exact hs
 | true =>
  by_cases ht:Turned g o ∨ lampA (cellAt g.f g.at_) ≠ lampA o
  ·exact h3 ht
  ·have ht1:¬ Turned g o:=fun e=>ht (.inl e)
   have ht2:lampA (cellAt g.f g.at_) = lampA o:=Classical.not_not.1 (fun e=>ht (.inr e))
   have hs:=h.old.lamp
   have hl:lmO g.f g.at_ o = lmN g.f:=by
    funext q
    unfold lmO
    split
    ·rename_i e
     rw [e]
     exact ht2.symm
    ·rfl
   rw [hcl ht1,hl] at hs
   rw [h4 ht,hwas true hs]
   exact hs
end
end FloodW
end Go.Proofs.YtpimkdaikoclnaaDoor
namespace Go.Proofs.YtpimkdaikoclnaaDoor
open Go.RowKit
set_option linter.unusedVariables false
set_option linter.unusedSimpArgs false
namespace FloodW
open BlkP RowG GlowW FloodP
section
variable {side:V→List V} {cl cl':V→Bool} {own own' L M:V→Nat} {K:Nat}
theorem cmpV (hK:∀ i,M i≤K) (hM:SolV side cl' own' M) (hL:SolV side cl own L) (hc:∀ i,cl' i = true→cl i = true) (ho:∀ i,cl' i = true→own' i≤own i):∀ i,M i≤L i:=by
 have key:∀ n i,K - M i≤n→M i≤L i:=by
  intro n
  induction n with
  | zero =>
   intro i hi
   have h0:=hK i
   have h1:=hM i
   split at h1
   ·rename_i hci
    have h2:=hL i
    rw [if_pos (hc i hci)] at h2
    have h3:=ho i hci
    by_cases hv:M i≤own' i
    ·omega
    ·by_cases hz:M i = 0
     ·omega
     ·obtain ⟨s,hs,hs2⟩:=inV_some (side:=side) (L:=M) (i:=i) (v:=M i) (by omega) (by omega)
      have:=hK s
      omega
   ·omega
  | succ n ih =>
   intro i hi
   have h0:=hK i
   have h1:=hM i
   split at h1
   ·rename_i hci
    have h2:=hL i
    rw [if_pos (hc i hci)] at h2
    have h3:=ho i hci
    by_cases hv:M i≤own' i
    ·omega
    ·by_cases hz:M i = 0
     ·omega
     ·obtain ⟨s,hs,hs2⟩:=inV_some (side:=side) (L:=M) (i:=i) (v:=M i) (by omega) (by omega)
      have h4:=ih s (by have:=hK s; omega)
      have h5:=inV_ge (L:=L) hs
      omega
   ·omega
 exact fun i=>key _ i (Nat.le_refl _)
theorem uniqV (hK:∀ i,M i≤K) (hK':∀ i,L i≤K) (hM:SolV side cl own M) (hL:SolV side cl own L):M = L:=by
 funext i
 exact Nat.le_antisymm (cmpV hK hM hL (fun _ h=>h) (fun _ _=>Nat.le_refl _) i) (cmpV hK' hL hM (fun _ h=>h) (fun _ _=>Nat.le_refl _) i)
end
def atV (f:Fld) (l:Nat→Nat) (q:V):Nat:=if inB f q = true then l (numB f q) else 0
section
variable {f:Fld} {l own:Nat→Nat} {cl:Nat→Bool}
theorem sides_num {q s:V} (hq:inB f q = true) (hs:inB f s = true) (h:adj q s):numB f s ∈ GlowP.sides f.X f.Y f.Z (numB f q):=by
 have h1:=inB_iff.1 hq
 have h2:=inB_iff.1 hs
 rw [numB_at q,numB_at s]
 refine (GlowP.mem_sides (by omega) (by omega) (by omega)).2 ?_
 unfold adj at h
 rcases h with ⟨a | a,b,c⟩ | ⟨a,b | b,c⟩ | ⟨a,b,c | c⟩
 ·refine .inr (.inl ⟨by omega,?_⟩)
  rw [b,c,show (s.1 - f.lo.1).toNat = (q.1 - f.lo.1).toNat + 1 by omega]
 ·refine .inl ⟨by omega,?_⟩
  rw [b,c,show (s.1 - f.lo.1).toNat = (q.1 - f.lo.1).toNat - 1 by omega]
 ·refine .inr (.inr (.inr (.inr (.inr ⟨by omega,?_⟩))))
  rw [a,c,show (s.2.1 - f.lo.2.1).toNat = (q.2.1 - f.lo.2.1).toNat + 1 by omega]
 ·refine .inr (.inr (.inr (.inr (.inl ⟨by omega,?_⟩))))
  rw [a,c,show (s.2.1 - f.lo.2.1).toNat = (q.2.1 - f.lo.2.1).toNat - 1 by omega]
 ·refine .inr (.inr (.inr (.inl ⟨by omega,?_⟩)))
  rw [a,b,show (s.2.2 - f.lo.2.2).toNat = (q.2.2 - f.lo.2.2).toNat + 1 by omega]
 ·refine .inr (.inr (.inl ⟨by omega,?_⟩))
  rw [a,b,show (s.2.2 - f.lo.2.2).toNat = (q.2.2 - f.lo.2.2).toNat - 1 by omega]
theorem sides_plc (hW:FldW f) {q:V} (hq:inB f q = true) {i:Nat} (h:i ∈ GlowP.sides f.X f.Y f.Z (numB f q)):∃ s,s ∈ sidesV q∧inB f s = true∧numB f s = i:=by
 have h1:=inB_iff.1 hq
 rw [numB_at q] at h
 have key:∀ s:V,inB f s = true→adj q s→numB f s = i→∃ s,s ∈ sidesV q∧inB f s = true∧numB f s = i:=fun s hs ha he=>⟨s,mem_sidesV.2 ⟨in_may hW hq,in_may hW hs,ha⟩,hs,he⟩
 rcases (GlowP.mem_sides (by omega) (by omega) (by omega)).1 h with ⟨a,e⟩ | ⟨a,e⟩ | ⟨a,e⟩ | ⟨a,e⟩ | ⟨a,e⟩ | ⟨a,e⟩
 ·refine key (q.1 - 1,q.2.1,q.2.2) (inB_iff.2 (by simp only; omega)) (.inl ⟨.inr rfl,rfl,rfl⟩) ?_
  rw [e,numB_at]
  simp only
  rw [show (q.1 - 1 - f.lo.1).toNat = (q.1 - f.lo.1).toNat - 1 by omega]
 ·refine key (q.1 + 1,q.2.1,q.2.2) (inB_iff.2 (by simp only; omega)) (.inl ⟨.inl rfl,rfl,rfl⟩) ?_
  rw [e,numB_at]
  simp only
  rw [show (q.1 + 1 - f.lo.1).toNat = (q.1 - f.lo.1).toNat + 1 by omega]
 ·refine key (q.1,q.2.1,q.2.2 - 1) (inB_iff.2 (by simp only; omega)) (.inr (.inr ⟨rfl,rfl,.inr rfl⟩)) ?_
  rw [e,numB_at]
  simp only
  rw [show (q.2.2 - 1 - f.lo.2.2).toNat = (q.2.2 - f.lo.2.2).toNat - 1 by omega]
 ·refine key (q.1,q.2.1,q.2.2 + 1) (inB_iff.2 (by simp only; omega)) (.inr (.inr ⟨rfl,rfl,.inl rfl⟩)) ?_
  rw [e,numB_at]
  simp only
  rw [show (q.2.2 + 1 - f.lo.2.2).toNat = (q.2.2 - f.lo.2.2).toNat + 1 by omega]
 ·refine key (q.1,q.2.1 - 1,q.2.2) (inB_iff.2 (by simp only; omega)) (.inr (.inl ⟨rfl,.inr rfl,rfl⟩)) ?_
  rw [e,numB_at]
  simp only
  rw [show (q.2.1 - 1 - f.lo.2.1).toNat = (q.2.1 - f.lo.2.1).toNat - 1 by omega]
 ·refine key (q.1,q.2.1 + 1,q.2.2) (inB_iff.2 (by simp only; omega)) (.inr (.inl ⟨rfl,.inl rfl,rfl⟩)) ?_
  rw [e,numB_at]
  simp only
  rw [show (q.2.1 + 1 - f.lo.2.1).toNat = (q.2.1 - f.lo.2.1).toNat + 1 by omega]
theorem in_num (hW:FldW f) {q:V} (hq:inB f q = true):inV sidesV (atV f l) q = GlowP.inL (GlowP.sideX f.X f.Y f.Z) l (numB f q):=by
 have hN:=numB_lt hW hq
 refine Nat.le_antisymm (inV_le.2 fun s hs=>?_) (GlowP.in_le.2 fun i hi=>?_)
 ·by_cases hb:inB f s = true
  ·unfold atV
   rw [if_pos hb]
   refine GlowP.in_ge ?_
   unfold GlowP.sideX
   rw [if_pos hN]
   exact sides_num hq hb (mem_sidesV.1 hs).2.2
  ·unfold atV
   rw [if_neg hb]
   exact Nat.zero_le _
 ·unfold GlowP.sideX at hi
  rw [if_pos hN] at hi
  obtain ⟨s,h1,h2,h3⟩:=sides_plc hW hq hi
  have:=inV_ge (L:=atV f l) h1
  unfold atV at this ⊢
  rw [if_pos h2,h3] at this
  exact this
theorem sol_at (hW:FldW f) {clv:V→Bool} {ownv:V→Nat} (h:GlowP.Sol (GlowP.sideX f.X f.Y f.Z) cl own l) (hc:∀ q,inB f q = true→cl (numB f q) = clv q) (ho:∀ q,inB f q = true→clv q = true→own (numB f q) = ownv q) (hout:∀ q,clv q = true→inB f q = true) :
  SolV sidesV clv ownv (atV f l):=fun q=>by
 by_cases hq:inB f q = true
 ·have e:atV f l q = l (numB f q):=if_pos hq
  rw [e,h (numB f q),hc q hq,in_num hW hq]
  by_cases hcl:clv q = true
  ·rw [if_pos hcl,if_pos hcl,ho q hq hcl]
  ·rw [if_neg hcl,if_neg hcl]
 ·have e:atV f l q = 0:=if_neg hq
  rw [e,if_neg (fun hc=>hq (hout q hc))]
end
def rightL (f:Fld):List (Nat × Nat):=(lightA f.X f.Y f.Z f.cs).map fun a=>(if f.lo.2.1 + f.Y < 64 then 0 else a.1,a.2)
theorem rightL_len (f:Fld):(rightL f).length = f.X * f.Y * f.Z:=by
 unfold rightL
 rw [List.length_map,lightA_len]
theorem lightA_getD {X Y Z i:Nat} {cs:List (Nat × Nat)} (h:i < X * Y * Z):(lightA X Y Z cs)[i]? = some (litA X Y Z (cs.map openA) (skyL X Y Z (cs.map openA)) i,litA X Y Z (cs.map openA) (cs.map lampA) i):=by
 unfold lightA
 rw [List.getElem?_map,List.getElem?_range h]
 rfl
theorem rightL_get {f:Fld} {i:Nat} (h:i < f.X * f.Y * f.Z):(rightL f)[i]? = some (if f.lo.2.1 + f.Y < 64 then 0 else litA f.X f.Y f.Z (f.cs.map openA) (skyL f.X f.Y f.Z (f.cs.map openA)) i,litA f.X f.Y f.Z (f.cs.map openA) (f.cs.map lampA) i):=by
 unfold rightL
 rw [List.getElem?_map,lightA_getD h]
 rfl
theorem skyL_at {X Y Z:Nat} {O:List Bool} {i:Nat} (h:i < X * Y * Z):(skyL X Y Z O).getD i 0 = GlowP.skyO (X * Z) (X * Y * Z) (GlowP.clO O) i:=by
 unfold skyL
 rw [List.getD_eq_getElem?_getD,List.getElem?_map,List.getElem?_range h]
 rfl
section
variable {f:Fld}
theorem cs_at (hW:FldW f) {q:V} (hq:inB f q = true):f.cs[numB f q]? = some (cellAt f q):=by
 have hN:=numB_lt hW hq
 rw [← hW.cs] at hN
 unfold cellAt
 rw [if_pos hq,List.getElem?_eq_getElem hN]
 simp [List.getD,hN]
theorem cl_at (hW:FldW f) {q:V} (hq:inB f q = true):GlowP.clO (f.cs.map openA) (numB f q) = clr f q:=by
 rw [openL,cs_at hW hq]
 rfl
theorem lamp_at (hW:FldW f) {q:V} (hq:inB f q = true):(f.cs.map lampA).getD (numB f q) 0 = lmN f q:=by
 rw [lampLD,cs_at hW hq]
 rfl
theorem sky_at (hW:FldW f) (ht:¬ f.lo.2.1 + f.Y < 64) {q:V} (hq:inB f q = true):GlowP.skyO (f.X * f.Z) (f.X * f.Y * f.Z) (GlowP.clO (f.cs.map openA)) (numB f q) = skyS (clr f) q:=by
 have h1:=inB_iff.1 hq
 have h2:=hW.ly
 have hx:=hW.x
 have hz:=hW.z
 have hXZ:0 < f.X * f.Z:=Nat.mul_pos (by omega) (by omega)
 have hup:∀ k:Nat,numB f q + k * (f.X * f.Z) = numB f (upV q k):=fun k=>by
  rw [numB_at q,GlowP.at_up,numB_at (upV q k)]
  have e:((upV q k).2.1 - f.lo.2.1).toNat = (q.2.1 - f.lo.2.1).toNat + k:=by
   simp only [upV]
   omega
  rw [e]
  rfl
 have hlt:∀ k:Nat,numB f q + k * (f.X * f.Z) < f.X * f.Y * f.Z↔q.2.1 + (k:Int)≤63:=fun k=>by
  rw [numB_at q,GlowP.at_up,GlowP.at_up_lt (by omega) (by omega)]
  omega
 have hin:∀ k:Nat,q.2.1 + (k:Int)≤63→inB f (upV q k) = true:=fun k hk=>by
  refine inB_iff.2 ?_
  simp only [upV]
  omega
 have hiff:(GlowP.clO (f.cs.map openA) (numB f q) = true∧∀ k,numB f q + k * (f.X * f.Z) < f.X * f.Y * f.Z→GlowP.clO (f.cs.map openA) (numB f q + k * (f.X * f.Z)) = true)↔(clr f q = true∧∀ k:Nat,q.2.1 + (k:Int)≤63→clr f (upV q k) = true):=by
  rw [cl_at hW hq]
  constructor
  ·rintro ⟨a,b⟩
   refine ⟨a,fun k hk=>?_⟩
   have:=b k ((hlt k).2 hk)
   rw [hup,cl_at hW (hin k hk)] at this
   exact this
  ·rintro ⟨a,b⟩
   refine ⟨a,fun k hk=>?_⟩
   have hk':=(hlt k).1 hk
   rw [hup,cl_at hW (hin k hk')]
   exact b k hk'
 have hs:=GlowP.sky_iff (S:=f.X * f.Z) (N:=f.X * f.Y * f.Z) (cl:=GlowP.clO (f.cs.map openA)) (i:=numB f q) hXZ
 rcases skyS_or (clr f) q with e | e
 ·rw [e]
  unfold GlowP.skyO
  rw [if_pos (hs.2 (hiff.2 ((skyS_iff (by omega)).1 e)))]
 ·rw [e]
  unfold GlowP.skyO
  rw [if_neg (fun c=>by
   have:=(skyS_iff (by omega)).2 (hiff.1 (hs.1 c))
   omega)]
theorem sky_no (hW:FldW f) (ht:f.lo.2.1 + f.Y < 64) (q:V):skyS (clr f) q = 0:=by
 cases hc:clr f q with
 | false=>exact skyS_dark hc
 | true =>
  have h1:=inB_iff.1 (clr_in hc)
  have h2:=hW.ly
  refine skyS_zero (k:=(f.lo.2.1 + f.Y - q.2.1).toNat) (by omega) (by omega) ?_
  cases e:clr f (upV q (f.lo.2.1 + f.Y - q.2.1).toNat) with
  | false=>rfl
  | true =>
   have h3:=inB_iff.1 (clr_in e)
   simp only [upV] at h3
   omega
def litV (f:Fld) (ls:List (Nat × Nat)) (b:Bool) (q:V):Nat:=atV f (fun i=>cond b (ls.getD i (0,0)).2 (ls.getD i (0,0)).1) q
theorem litV_was (f:Fld) (b:Bool) (q:V):litV f f.ls b q = wasB f b q:=by
 unfold litV atV wasB litAt
 by_cases h:inB f q = true
 ·rw [if_pos h,if_pos h]
  cases b <;> rfl
 ·rw [if_neg h,if_neg h]
  cases b <;> rfl
theorem right_sol (hW:FldW f) (b:Bool):SolV sidesV (clr f) (nowS f b) (litV f (rightL f) b)∧∀ q,litV f (rightL f) b q≤15:=by
 obtain ⟨s1,b1⟩:=lit_sol (X:=f.X) (Y:=f.Y) (Z:=f.Z) (sky_src f.X f.Y f.Z (f.cs.map openA)).1 (sky_src f.X f.Y f.Z (f.cs.map openA)).2
 obtain ⟨s2,b2⟩:=lit_sol (X:=f.X) (Y:=f.Y) (Z:=f.Z) (lamp_src f.cs).1 (lamp_src f.cs).2
 have get:∀ q,inB f q = true→(rightL f).getD (numB f q) (0,0) = (if f.lo.2.1 + f.Y < 64 then 0 else litA f.X f.Y f.Z (f.cs.map openA) (skyL f.X f.Y f.Z (f.cs.map openA)) (numB f q),litA f.X f.Y f.Z (f.cs.map openA) (f.cs.map lampA) (numB f q)):=fun q hq=>by
  rw [List.getD_eq_getElem?_getD,rightL_get (numB_lt hW hq)]
  rfl
 have ext:∀ {l:Nat→Nat},(∀ q,inB f q = true→(cond b ((rightL f).getD (numB f q) (0,0)).2 ((rightL f).getD (numB f q) (0,0)).1) = l (numB f q))→litV f (rightL f) b = atV f l:=fun h=>by
  funext q
  unfold litV atV
  split
  ·rename_i hq
   exact h q hq
  ·rfl
 have le:∀ {l:Nat→Nat},(∀ i,l i≤15)→∀ q,atV f l q≤15:=fun h q=>by
  unfold atV
  split
  ·exact h _
  ·exact Nat.zero_le _
 cases b with
 | true =>
  rw [ext (l:=litA f.X f.Y f.Z (f.cs.map openA) (f.cs.map lampA)) (fun q hq=>by rw [get q hq]; rfl)]
  exact ⟨sol_at hW s2 (fun q hq=>cl_at hW hq) (fun q hq _=>lamp_at hW hq) (fun q=>clr_in),le b2⟩
 | false =>
  by_cases ht:f.lo.2.1 + f.Y < 64
  ·rw [ext (l:=fun _=>0) (fun q hq=>by rw [get q hq,if_pos ht]; rfl)]
   refine ⟨fun q=>?_,le (fun _=>by omega)⟩
   have e:∀ q,atV f (fun _=>0) q = 0:=fun q=>by unfold atV; split <;> rfl
   have h1:inV sidesV (atV f fun _=>0) q≤0:=inV_le.2 fun s _=>by rw [e]; omega
   have h2:nowS f false q = 0:=sky_no hW ht q
   rw [e,h2]
   split <;> omega
  ·rw [ext (l:=litA f.X f.Y f.Z (f.cs.map openA) (skyL f.X f.Y f.Z (f.cs.map openA))) (fun q hq=>by rw [get q hq,if_neg ht]; rfl)]
   exact ⟨sol_at hW s1 (fun q hq=>cl_at hW hq) (fun q hq _=>by rw [skyL_at (numB_lt hW hq),sky_at hW ht hq]; rfl) (fun q=>clr_in),le b1⟩
theorem right_uniq (hW:FldW f) {b:Bool} {L:V→Nat} (h15:∀ q,L q≤15) (h:SolV sidesV (clr f) (nowS f b) L):L = litV f (rightL f) b :=
 uniqV h15 (right_sol hW b).2 h (right_sol hW b).1
end
end FloodW
end Go.Proofs.YtpimkdaikoclnaaDoor
