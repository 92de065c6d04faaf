import Derived.Test.YtpimkdaikoclnaaDoorFlE16
namespace Go.Proofs.YtpimkdaikoclnaaDoor
open Go.ChangeShapes Go.WideShapes Go.ChangeAt Go.RowKit Go.Deep
set_option linter.unusedVariables false
namespace FloodW
open RowG GlowW FloodP
section
variable {H:Type} {enc:TypeId × Value→H} {W:World}
set_option maxRecDepth 100000 in
theorem open_hole {r:Reach} {b:Nat} {v:Value} {d:DataW H} {p:List MemPlace} (hv:Value.okWide Tryd.prog W r b 26 v) (h:DataW.Trod enc Tryd.prog W 0 (fun _=>true) true 26 v d p) :
  ∃ (q:V) (X Y Z:Int) (A:Option Addr) (xs:List (Nat × Nat)) (c:Nat),v = .agg #[.int .i64 q.1,.int .i64 q.2.1,.int .i64 q.2.2,.int .i64 X,.int .i64 Y,.int .i64 Z,.slice A xs.length c]∧(Rd enc2 W (.slice A xs.length c) xs∧(∀ x ∈ xs,x.1 < 256∧x.2 < 256)):=by
 obtain ⟨m,rfl,hm,hc⟩:=OpenP.v_agg (n:=7) (ts:=[3,3,3,3,3,3,24]) (.inl ⟨_,Tryd.underlying26⟩) (by kernel_rfl) rfl (by kernel_rfl) hv
 obtain ⟨e0,e1,e2,e3,e4,e5,e6,rfl⟩:=OpenP.len7 hm
 obtain ⟨_,e,k0⟩:=hc 0 _ rfl
 obtain rfl:=Option.some.inj e
 obtain ⟨_,e,k1⟩:=hc 1 _ rfl
 obtain rfl:=Option.some.inj e
 obtain ⟨_,e,k2⟩:=hc 2 _ rfl
 obtain rfl:=Option.some.inj e
 obtain ⟨_,e,k3⟩:=hc 3 _ rfl
 obtain rfl:=Option.some.inj e
 obtain ⟨_,e,k4⟩:=hc 4 _ rfl
 obtain rfl:=Option.some.inj e
 obtain ⟨_,e,k5⟩:=hc 5 _ rfl
 obtain rfl:=Option.some.inj e
 obtain ⟨_,e,k6⟩:=hc 6 _ rfl
 obtain rfl:=Option.some.inj e
 obtain ⟨n0,rfl,_,_⟩:=OpenP.c_int (k:=.i64) Tryd.underlying3 rfl rfl k0
 obtain ⟨n1,rfl,_,_⟩:=OpenP.c_int (k:=.i64) Tryd.underlying3 rfl rfl k1
 obtain ⟨n2,rfl,_,_⟩:=OpenP.c_int (k:=.i64) Tryd.underlying3 rfl rfl k2
 obtain ⟨n3,rfl,_,_⟩:=OpenP.c_int (k:=.i64) Tryd.underlying3 rfl rfl k3
 obtain ⟨n4,rfl,_,_⟩:=OpenP.c_int (k:=.i64) Tryd.underlying3 rfl rfl k4
 obtain ⟨n5,rfl,_,_⟩:=OpenP.c_int (k:=.i64) Tryd.underlying3 rfl rfl k5
 have o6:e6.cells.toList = [e6]:=OpenQ.v_slice (W:=W) (r:=r) (b:=b) Tryd.underlying24 (by unfold Value.okWide; rw [Tryd.underlying24]; exact k6)
 obtain ⟨fuel,hf⟩:=h
 obtain ⟨ys,n',_,_,_,hyl,hg⟩:=DataW.trod_struct (cs:=[.int .i64 n0,.int .i64 n1,.int .i64 n2,.int .i64 n3,.int .i64 n4,.int .i64 n5,e6]) Tryd.underlying26 hf
 have hyl2:ys.length = 5:=hyl
 have h4:=hg 4 _ rfl
 rw [List.getElem?_eq_getElem (by omega)] at h4
 have z0:Tryd.prog.cellsOf 24 = 1:=by kernel_rfl
 obtain ⟨A,xs,c,rfl,hr,hx⟩:=open_cells (enc:=enc) (d:=ys[4].1) (p:=ys[4].2) o6 ⟨n',by rw [o6]; simpa [z0] using h4⟩
 exact ⟨(n0,n1,n2),n3,n4,n5,A,xs,c,rfl,hr,hx⟩
set_option maxRecDepth 100000 in
theorem edit_elem {k:Nat} {c0 c1 c2:Value} {y:DataW H × List MemPlace} (h:DataW.trod enc Tryd.prog W 0 (fun _=>true) true k 35 [c0,c1,c2] = some y):∃ x:Int × Nat × Nat,c0 = .int .i64 x.1∧c1 = u8v x.2.1∧c2 = u8v x.2.2∧x.2.1 < 256∧x.2.2 < 256:=by
 obtain ⟨ys,n',_,_,_,hyl,hf⟩:=DataW.trod_struct Tryd.underlying35 h
 have hyl2:ys.length = 2:=hyl
 have h0:=hf 0 _ rfl
 have h1:=hf 1 _ rfl
 rw [List.getElem?_eq_getElem (by omega)] at h0 h1
 have hc:Tryd.prog.cellsOf 3 = 1:=by kernel_rfl
 have hc1:Tryd.prog.cellsOf 33 = 2:=by kernel_rfl
 obtain ⟨a,ha,_,_⟩:=DataW.trod_int (cs:=[c0]) Tryd.underlying3 (by simpa [hc] using h0)
 simp at ha
 obtain ⟨x,hx1,hx2,hx3,hx4⟩:=cell_elem (c0:=c1) (c1:=c2) (by simpa [hc1] using h1)
 exact ⟨(a,x),ha,hx1,hx2,hx3,hx4⟩
theorem open_edits {v:Value} {d:DataW H} {p:List MemPlace} (hone:v.cells.toList = [v]) (h:DataW.Trod enc Tryd.prog W 0 (fun _=>true) true 27 v d p) :
  ∃ (A:Option Addr) (xs:List (Int × Nat × Nat)) (c:Nat),v = .slice A xs.length c∧(Rd encE W (.slice A xs.length c) xs∧∀ x ∈ xs,x.2.1 < 256∧x.2.2 < 256):=by
 obtain ⟨A,n,c,rfl,hnc,hcm,hnil,hel⟩:=OpenQ.slice_at (C:=3) Tryd.underlying27 (by kernel_rfl) hone h
 have hm:maxLen = 9223372036854775807:=rfl
 rcases A with _ | a
 ·have:=hnil rfl
  subst this
  exact ⟨none,[],c,rfl,⟨none,c,rfl,by simp,by omega,fun h=>absurd rfl h⟩,fun x h=>by cases h⟩
 ·have each:∀ i,i < n→∃ x:Int × Nat × Nat,W.cell? (a.add (i * 3)) = some (.int .i64 x.1)∧W.cell? (a.add (i * 3 + 1)) = some (u8v x.2.1)∧W.cell? (a.add (i * 3 + 2)) = some (u8v x.2.2)∧x.2.1 < 256∧x.2.2 < 256:=fun i hi=>by
   obtain ⟨cs,k,y,hl,hc,ht⟩:=hel a rfl i hi
   match cs,hl with
   | [c0,c1,c2],_ =>
    obtain ⟨x,rfl,rfl,rfl,h1,h2⟩:=edit_elem ht
    exact ⟨x,hc 0 (by omega),hc 1 (by omega),hc 2 (by omega),h1,h2⟩
  obtain ⟨xs,hl,hxs⟩:=OpenQ.listed n each
  subst hl
  refine ⟨some a,xs,c,rfl,⟨some a,c,rfl,hnc,by omega,fun hne=>?_⟩,fun x hx=>?_⟩
  ·have h0:0 < xs.length:=List.length_pos_iff.2 hne
   obtain ⟨b,o,rfl,hb⟩:=OpenQ.plain (by simpa using (hxs 0 _ (List.getElem?_eq_getElem h0)).1)
   have hadd:∀ k,(⟨b,o,none⟩:Addr).add k = ⟨b,o + k,none⟩:=fun k=>by unfold Addr.add; split <;> simp_all
   refine ⟨b,o,rfl,hb,fun i x hi j u hu=>?_⟩
   obtain ⟨g0,g1,g2,_,_⟩:=hxs i _ hi
   rw [hadd] at g0 g1 g2
   have hu':[.int .i64 x.1,u8v x.2.1,u8v x.2.2][j]? = some u:=hu
   have hj:j < 3:=by
    have:=(List.getElem?_eq_some_iff.1 hu').1
    simpa using this
   match j,hj with
   | 0,_=>simp at hu'; subst hu'; exact g0
   | 1,_=>simp at hu'; subst hu'; exact g1
   | 2,_=>simp at hu'; subst hu'; exact g2
  ·obtain ⟨i,hi,rfl⟩:=List.getElem_of_mem hx
   exact (hxs i _ (List.getElem?_eq_getElem hi)).2.2.2
end
end FloodW
end Go.Proofs.YtpimkdaikoclnaaDoor
