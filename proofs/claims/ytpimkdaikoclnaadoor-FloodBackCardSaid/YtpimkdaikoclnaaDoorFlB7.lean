import Derived.OwnWalkIn
import Derived.TacticsInMore
import Derived.Test.YtpimkdaikoclnaaDoorFlB6
import Derived.Test.YtpimkdaikoclnaaDoorFlB2
namespace Go.Proofs.YtpimkdaikoclnaaDoor
open Go.RowKit
set_option linter.unusedVariables false
set_option linter.unusedSimpArgs false
namespace FloodW
open BlkP RowG GlowW FloodP
abbrev TPart:TypeId:=95
structure PRel (b:Bool) (g:Gh) (G:Set0):Prop where
 was:∀ q,wasB g.f b q = G.was q
 cn:∀ q,clr g.f q = G.cn q
 po:∀ q,g.ow b q = G.po q
 side:∀ q,sidesV q = G.side q
 d:∀ q,dG g q = G.d q
 out:∀ q,q ∉ G.C→g.nw b q = G.was q
 okC:∀ q,q ∈ G.C→okP g q
 okE:∀ q,q ∈ G.E→mayP q∧∀ s,s ∈ sidesV q→dG g s≤15→okP g s
 few:G.E.length≤1024
theorem marks_go {B:Nat} {Ds:List Nat} {g g':Gh} {W W':World} (h:Marks B Ds W) (hn:∀ D ∈ Ds,¬ Ss g D) (k:Go g W g' W'):Marks B Ds W'∧∀ D ∈ Ds,¬ Ss g' D :=
 ⟨⟨h.nodup,fun D hD=>⟨(h.at_ D hD).1,Nat.lt_of_lt_of_le (h.at_ D hD).2.1 k.fr.size,(k.fr.block D (h.at_ D hD).2.1 (hn D hD)).trans (h.at_ D hD).2.2⟩⟩,fun D hD hs=>by
  rcases k.new D hs with q | q
  ·exact hn D hD q
  ·have:=(h.at_ D hD).2.1
   omega⟩
theorem marks_put {B:Nat} {Ds:List Nat} {W:World} {l:Nat} (h:Marks B Ds W) (hl:∀ D ∈ Ds,D ≠ l) (o:Obj):Marks B Ds (W.putObj l o) :=
 ⟨h.nodup,fun D hD=>⟨(h.at_ D hD).1,by rw [World.putObj_size]; exact (h.at_ D hD).2.1,(World.putObj_heap_other (fun e=>hl D hD (by omega))).trans (h.at_ D hD).2.2⟩⟩
structure D2 (w:World) (g:Gh) (b:Bool) (fo:Nat) (G:Set0) (bf bd i:Nat) (T:List V) (vd:Value) (Ds:List Nat) (gh:Gh) (W:World):Prop where
 dk:Dk G T i
 m:MoreB b g gh
 go:Go g w gh W
 nw:∀ q,gh.nw b q = cut G T q
 bf:Loc W gh bf TPart [.func (.func fo) #[] #[]]
 bd:Loc W gh bd TSP [vd]
 row:LocR W gh vd T
 old:∀ k,vd.ownBlock = some k→w.heap.size≤k
 mks:Marks w.heap.size Ds W
 ds:∀ D ∈ Ds,¬ Ss gh D
 ok:∀ q ∈ T,okP g q
section
variable {w:World} {g:Gh} {b:Bool} {fo:Nat} {G:Set0} {bf bd i:Nat} {T:List V} {vd:Value} {Ds:List Nat} {gh gh':Gh} {W W':World}
theorem D2.step (h:D2 w g b fo G bf bd i T vd Ds gh W) (k:Go gh W gh' W') (hm:More gh gh'):D2 w g b fo G bf bd i T vd Ds gh' W' :=
 ⟨h.dk,h.m.trans hm.toB,h.go.trans k,fun q=>by rw [hm.same.2.2.2.2.1]; exact h.nw q,h.bf.go k,h.bd.go k,h.row.go k,h.old,(marks_go h.mks h.ds k).1,(marks_go h.mks h.ds k).2,h.ok⟩
theorem D2.below (h:D2 w g b fo G bf bd i T vd Ds gh W) (hb:Below W.heap.size W W'):D2 w g b fo G bf bd i T vd Ds gh W':=h.step (Go.below gh hb) (More.refl gh)
theorem D2.put (h:D2 w g b fo G bf bd i T vd Ds gh W) {l:Nat} {o:Obj} (ho:W.heap[l]? = some o) (hc:o.isCells = false) (hn:¬ Ss gh l) (hl:w.heap.size≤l) (hD:∀ D ∈ Ds,D ≠ l) (o':Obj):D2 w g b fo G bf bd i T vd Ds gh (W.putObj l o'):=by
 refine ⟨h.dk,h.m,h.go.grown (grownBy_putObj' W l o') (fun k e=>by injection e with e; omega),h.nw,h.bf.put ho hc o',h.bd.put ho hc o',⟨(put_fr W l o').own h.row.1 (fun k e e2=>?_),h.row.2⟩,h.old,marks_put h.mks hD o',h.ds,h.ok⟩
 subst e2
 obtain ⟨us,hu⟩:=own_cells h.row.1 e
 exact not_at ho hc hu rfl
theorem D2.next (h:D2 w g b fo G bf bd i T vd Ds gh W) {j:Nat} (hd:Dk G T j):D2 w g b fo G bf bd j T vd Ds gh W:=⟨hd,h.m,h.go,h.nw,h.bf,h.bd,h.row,h.old,h.mks,h.ds,h.ok⟩
theorem D2.mark (h:D2 w g b fo G bf bd i T vd Ds gh W) {D:Nat} (hD:∀ E ∈ Ds,E < D) (hB:w.heap.size≤D) (hk:W.heap[D]? = some (.deferred (some []))) (hn:¬ Ss gh D):D2 w g b fo G bf bd i T vd (D :: Ds) gh W :=
 ⟨h.dk,h.m,h.go,h.nw,h.bf,h.bd,h.row,h.old,h.mks.cons hD hB hk,fun E hE=>by
  rcases List.mem_cons.1 hE with e | hE
  ·subst e; exact hn
  ·exact h.ds E hE,h.ok⟩
theorem dStep_no {k s:V} (h:¬ (cut G T s + 1 = G.was k∧G.po s < cut G T s)):dStep G k T s = T:=by
 unfold dStep
 rw [if_neg h]
theorem dStep_yes {k s:V} (h:cut G T s + 1 = G.was k∧G.po s < cut G T s):dStep G k T s = T ++ [s]:=by
 unfold dStep
 rw [if_pos h]
theorem cut_app {s:V} (hs:s ∉ T):cut G (T ++ [s]) = up (cut G T) s (G.po s):=by
 funext x
 unfold up cut
 by_cases e:x = s
 ·subst e
  simp
 ·simp [e]
theorem sub8F {k le:Nat} (h:(k:Int) - 1 = le) (h2:le < 256):∀ w,(binOp .sub 5 (.int .u8 k) (.int .u8 1)).run Tryd.prog w = .ok (.int .u8 le) w:=fun w=>by
 have e:(binOp .sub 5 (.int .u8 k) (.int .u8 1)).run Tryd.prog w = .ok (.int .u8 (IntKind.u8.wrap ((k:Int) - 1))) w:=by kernel_rfl
 rw [e,h,IntKind.wrap_u8]
 congr 2
 omega
theorem dFold_mem {k q:V}:∀ {T:List V} (_:q ∈ T) (l:List V),q ∈ dFold G k T l
 | T,h,[]=>h
 | T,h,x :: r=>by
  have:q ∈ dStep G k T x:=by
   unfold dStep
   split
   ·exact List.mem_append_left _ h
   ·exact h
  exact dFold_mem this r
theorem D2.darker (hsx:Sx W gh) (h:D2 w g b fo G bf bd i T vd Ds gh W) {s:V} {kb v:Nat} (hm:(s,kb) ∈ gh.kn) (hv:v≤15) :
  MoreB b g (gh.setN b s v)∧Sx (W.setCell ⟨kb,5 + b.toNat,none⟩ (.int .u8 v)) (gh.setN b s v)∧Go gh W (gh.setN b s v) (W.setCell ⟨kb,5 + b.toNat,none⟩ (.int .u8 v)) :=
 ⟨h.m.trans (MoreB.setN _ _ _ _),hsx.setN hm hv,Go.setN hsx.st hm⟩
theorem D2.joined (h0:Sx w g) (hsx:Sx W gh) (h:D2 w g b fo G bf bd i T vd Ds gh W) {s:V} {kb n gr c:Nat} {W5 W6:World} (hm:(s,kb) ∈ gh.kn) (hd:Dk G (T ++ [s]) i) (hsT:s ∉ T) (hok:okP g s)
  (hW5:W5 = W.setCell ⟨kb,5 + b.toNat,none⟩ (.int .u8 (G.po s:Int))) (hpo:G.po s≤15) (hp:Pushed encP TP W5 0 vd T s n gr c W6) (hbd:w.heap.size≤bd) :
  Sx (W6.setCell ⟨bd,0,none⟩ (.slice (some ⟨gr,0,none⟩) n c)) (gh.setN b s (G.po s))∧D2 w g b fo G bf bd i (T ++ [s]) (.slice (some ⟨gr,0,none⟩) n c) Ds (gh.setN b s (G.po s)) (W6.setCell ⟨bd,0,none⟩ (.slice (some ⟨gr,0,none⟩) n c)):=by
 obtain ⟨m1,s1,g1⟩:=D2.darker hsx h hm hpo
 rw [← hW5] at s1 g1
 obtain ⟨ho,hg,hfr⟩:=hp
 have bf5:=h.bf.go g1
 have bd5:=h.bd.go g1
 have row5:=h.row.go g1
 obtain ⟨mk5,ds5⟩:=marks_go h.mks h.ds g1
 have hold:∀ k,vd.ownBlock = some k→w.heap.size≤k∧¬ Ss (gh.setN b s (G.po s)) k:=fun k hk=>⟨h.old k hk,row5.2 k hk⟩
 have s6:Sx W6 (gh.setN b s (G.po s)):=h0.grownB m1 s1 hg hold
 have f6:Fr (fun j=>vd.ownBlock = some j) W5 W6:=Fr.grown hg (fun i e=>e)
 have hnot:∀ {x:Nat} {U:TypeId} {us:List Value},Blk W5 x U us→U ≠ TP→¬ vd.ownBlock = some x:=fun hb hU e=>by
  obtain ⟨us2,hu⟩:=own_cells row5.1 e
  exact Blk.ne hb hu hU rfl
 have bf6:Blk W6 bf TPart [.func (.func fo) #[] #[]]:=f6.blk bf5.1 (hnot bf5.1 (by decide))
 have bd6:Blk W6 bd TSP [vd]:=f6.blk bd5.1 (hnot bd5.1 (by decide))
 have mk6:Marks w.heap.size Ds W6:=⟨mk5.nodup,fun D hD=>⟨(mk5.at_ D hD).1,Nat.lt_of_lt_of_le (mk5.at_ D hD).2.1 f6.size,(f6.block D (mk5.at_ D hD).2.1 (fun e=>by
  obtain ⟨us,hu⟩:=own_cells row5.1 e
  exact not_at (mk5.at_ D hD).2.2 rfl hu rfl)).trans (mk5.at_ D hD).2.2⟩⟩
 have sz:w.heap.size≤W5.heap.size:=Nat.le_trans h.go.fr.size g1.fr.size
 have ngr:w.heap.size≤gr∧¬ Ss (gh.setN b s (G.po s)) gr:=by
  rcases hfr with q | q
  ·exact hold gr q
  ·exact ⟨by omega,s1.st.new q⟩
 have fbd:Fr (fun k=>k = bd) W6 (W6.setCell ⟨bd,0,none⟩ (.slice (some ⟨gr,0,none⟩) n c)):=Fr.set (fun k=>k = bd) W6 ⟨bd,0,none⟩ _ rfl
 refine ⟨h0.setB m1 s6 hbd bd5.2 0 _,hd,m1,((h.go.trans g1).grown hg (fun k hk=>(hold k hk).1)).set hbd 0 _,fun q=>?_,⟨fbd.blk bf6 (fun e=>Blk.ne bf6 bd6 (by decide) e),bf5.2⟩,⟨bd6.set 0 _,bd5.2⟩,⟨fbd.own ho (fun k hk e=>?_),fun k hk=>?_⟩,fun k hk=>?_,⟨mk6.nodup,fun D hD=>⟨(mk6.at_ D hD).1,Nat.lt_of_lt_of_le (mk6.at_ D hD).2.1 fbd.size,(fbd.block D (mk6.at_ D hD).2.1 (fun e=>?_)).trans (mk6.at_ D hD).2.2⟩⟩,ds5,fun q hq=>?_⟩
 ·rw [setN_b,cut_app hsT]
  exact congrFun (congrArg (fun f=>up f s (G.po s)) (funext h.nw)) q
 ·have e2:gr = k:=by simpa [Value.ownBlock] using hk
  obtain ⟨us,hu⟩:=own_cells ho hk
  rw [e] at hu
  exact Blk.ne bd6 hu (by decide) rfl
 ·have e2:gr = k:=by simpa [Value.ownBlock] using hk
  rw [← e2]
  exact ngr.2
 ·have e2:gr = k:=by simpa [Value.ownBlock] using hk
  rw [← e2]
  exact ngr.1
 ·exact not_at (mk6.at_ D hD).2.2 rfl bd6 e.symm
 ·rcases List.mem_append.1 hq with q1 | q1
  ·exact h.ok q q1
  ·have:q = s:=by simpa using q1
   subst this
   exact hok
end
theorem Sx.left {w W W':World} {g g3:Gh} {b:Bool} (h0:Sx w g) (hm:MoreB b g g3) (h:Sx W g3) (hgo:Go g w g3 W) (h1:∀ k,k < w.heap.size→W'.heap[k]? = W.heap[k]?) (h2:∀ (k:Nat) (o:Obj),W.heap[k]? = some o→o.isCells = true→W'.heap[k]? = some o) (h3:W'.os = W.os) (h4:W'.tape = W.tape) (h5:W'.output = W.output) (h6:W'.heap.size = W.heap.size) :
  Sx W' g3∧Go g w g3 W':=by
 have hf:Fr (fun k=>W'.heap[k]? ≠ W.heap[k]?) W W':=⟨h3,h4,h5,by omega,fun k _ hn=>Classical.not_not.1 hn⟩
 have hM:g3.M < w.heap.size:=by rw [hm.same.2.2.2.2.1]; exact h0.st.map.lt
 have cel:∀ {k:Nat} {T:TypeId} {vs:List Value},Blk W k T vs→W'.heap[k]? = W.heap[k]?:=fun hb=>(h2 _ _ hb rfl).trans hb.symm
 have row:∀ {α:Type} {e:Enc α} {E:TypeId} {v:Value} {L:List α} {k:Nat},RowG.Own e E W 0 v L→v.ownBlock = some k→W'.heap[k]? = W.heap[k]?:=fun hr e=>by
  obtain ⟨us,hu⟩:=own_cells hr e
  exact cel hu
 refine ⟨⟨h.st.fr hf (fun k hk hlt=>⟨fun hs=>hk ?_,fun e=>hk (row h.st.fld.cs e),fun e=>hk (row h.st.fld.ls e),fun e=>hk (row h.st.fld.ts e)⟩),tab_fr h.tab hf (fun hk=>hk (h1 _ h0.tab.size)),h.gk⟩,⟨⟨h3.trans hgo.fr.os,h4.trans hgo.fr.tape,h5.trans hgo.fr.output,by rw [h6]; exact hgo.fr.size,fun k hk hn=>(h1 k hk).trans (hgo.fr.block k hk hn)⟩,hgo.new⟩⟩
 rcases hs with e | e | e | e | e
 ·subst e; exact cel h.st.fld.blk
 ·exact row h.st.fld.ak e
 ·subst e; exact cel h.st.work
 ·subst e; exact h1 _ hM
 ·obtain ⟨q,hq⟩:=mem_kn e
  exact cel (h.st.known q k hq)
theorem LocR.left {W W':World} {g:Gh} {v:Value} {l:List V} (h:LocR W g v l) (h2:∀ (k:Nat) (o:Obj),W.heap[k]? = some o→o.isCells = true→W'.heap[k]? = some o):LocR W' g v l:=by
 refine ⟨?_,h.2⟩
 have ho:=h.1
 unfold RowG.Own at ho ⊢
 refine ⟨ho.1,?_⟩
 rcases ho.2 with e | ⟨g',cap,cur,e1,e2,e3,e4⟩
 ·exact .inl e
 ·exact .inr ⟨g',cap,cur,e1,e2,h2 _ _ e3 rfl,e4⟩
section
variable {w0:World} {ops:Array Oper} {rest:List Oper} {o:Oper} {a:Act} {Q:Exit→Act→World→Prop} {W:World}
theorem gi_slotP (t:Tmp) {F:Fence} {n:Nat} {P:Program} {w:World} {ops:Array Oper} {rest:List Oper} {a:Act} {Q:Exit→Act→World→Prop} {op:Op} {ty:TypeId} {pos:String} {af:_} {g:_} (h:wpListIn F n P ops Q ((⟨some t,op,ty,pos,af,g⟩:Oper) :: rest) a w) :
  wpListIn F n P ops Q ((⟨some t,op,ty,pos,af,g⟩:Oper) :: rest) a w:=h
theorem wpI_pushP {F:Fence} {nF:Nat} (hgd:o.guard = none) (s x:Operand) (ho:o.op = .call { callee:=.builtin .append,args:=#[s,x],argTypes:=#[TSP,TSP] }) {B:Nat} {v:Value} {l:List V} {y:V} {x1 x2 x3:Int} {n:Nat}
  (hW:W = w0.alloc (.cells #[.int .i64 x1,.int .i64 x2,.int .i64 x3] TP)) (hy:y = (x1,x2,x3)) (hs:a.eval s = v) (hown:RowG.Own encP TP w0 B v l) (hx:a.eval x = .slice (some ⟨w0.heap.size,0,none⟩) 1 1) (hn:l.length = n) (hl:n≤1000000) (hB:B≤w0.heap.size)
  (h:∀ g c w',Pushed encP TP w0 B v l y (n + 1) g c w'→wpListIn F nF Tryd.prog ops Q rest (a.put o.dst (.slice (some ⟨g,0,none⟩) (n + 1) c)) w'):wpListIn F nF Tryd.prog ops Q (o :: rest) a W:=by
 subst hW hy
 refine wpListIn_plain hgd fun K hK=>?_
 obtain ⟨g,c,w',hr,h2⟩:=run_pushP (y:=(x1,x2,x3)) hn hown hl hB o.type
 unfold Oper.wpIn
 refine ⟨by simp [Oper.about,ho,resolve,Target.leads,Sem.run_pure],?_⟩
 rw [Oper.semAt_plain F _ _ (by rw [ho]; intro c hc'; cases hc')]
 unfold execOp
 simp only at hr
 simp only [ho,resolve,invoke,builtin,Sem.run_bind,Sem.run_pure,Result.andThen_ok,List.map_toArray,List.map_cons,List.map_nil,hs,hx,hr]
 exact hK _ _ (h g c w' h2)
end
end FloodW
end Go.Proofs.YtpimkdaikoclnaaDoor
namespace Go.Proofs.YtpimkdaikoclnaaDoor
open Go.RowKit
set_option linter.unusedVariables false
set_option linter.unusedSimpArgs false
namespace FloodW
open BlkP RowG GlowW FloodP
def Gh.setO (g:Gh) (q:V):Gh:={ g with ow:=fun c=>if c = false then up (g.ow false) q 15 else g.ow c }
def Gh.setLow (g:Gh) (y:Int):Gh:={ g with low:=y }
theorem kcells_setO (g:Gh) (q:V):kcells (g.setO q) q = (kcells g q).set 1 (.int .u8 15):=by
 simp [kcells,Gh.setO,up,u8v]
theorem kcells_setO_other (g:Gh) {q p:V} (h:p ≠ q):kcells (g.setO q) p = kcells g p:=by
 simp [kcells,Gh.setO,up,h]
theorem St.setO {W:World} {g:Gh} {q:V} {kb:Nat} (h:St W g) (hm:(q,kb) ∈ g.kn):St (W.setCell ⟨kb,1,none⟩ (.int .u8 15)) (g.setO q):=by
 have hb:=h.known q kb hm
 have hf:Fr (fun k=>k = kb) W (W.setCell ⟨kb,1,none⟩ (.int .u8 15)):=Fr.set (fun k=>k = kb) W ⟨kb,1,none⟩ _ rfl
 have row:∀ {α:Type} {e:Enc α} {E:TypeId} {v:Value} {L:List α},RowG.Own e E W 0 v L→E ≠ TK→∀ k,v.ownBlock = some k→¬ k = kb:=fun hr hE k e e2=>by
  obtain ⟨us,hu⟩:=own_cells hr e
  rw [e2] at hu
  exact Blk.ne hu hb hE rfl
 refine ⟨h.fld.fr hf (fun e=>Blk.ne hb h.fld.blk (by decide) e.symm) (row h.fld.cs (by decide)) (row h.fld.ls (by decide)) (row h.fld.ak (by decide)) (row h.fld.ts (by decide)),h.fw,hf.blk h.work (fun e=>Blk.ne hb h.work (by decide) e.symm),?_,h.dup,h.bdup,fun p k hp=>?_,fun p hp=>?_,fun c p=>?_,h.few,h.asks,h.atp,h.lowp⟩
 ·exact (hf.block _ h.map.lt (fun e=>Blk.notMap h.map hb e.symm)).trans h.map
 ·replace hp:(p,k) ∈ g.kn:=hp
  by_cases e:p = q
  ·subst e
   have ek:k = kb:=by
    have h1:=findK_of h.dup hp
    have h2:=findK_of h.dup hm
    rw [h1] at h2
    injection h2
   subst ek
   rw [kcells_setO]
   exact hb.set _ _
  ·have hne:k ≠ kb:=fun e2=>by
    subst e2
    obtain ⟨i,hi⟩:=List.getElem?_of_mem hp
    obtain ⟨j,hj⟩:=List.getElem?_of_mem hm
    have hi2:(g.kn.map (·.2))[i]? = some k:=by rw [List.getElem?_map,hi]; rfl
    have hj2:(g.kn.map (·.2))[j]? = some k:=by rw [List.getElem?_map,hj]; rfl
    have:i = j:=dup_at h.bdup hi2 hj2
    subst this
    rw [hi] at hj
    injection hj with hj
    injection hj with hj _
    exact e hj
   rw [kcells_setO_other g e]
   exact (h.known p k hp).other hne _
 ·obtain ⟨h1,h2,h3⟩:=h.dflt p hp
  have hpq:p ≠ q:=fun e=>hp (by rw [e]; exact List.mem_map.2 ⟨_,hm,rfl⟩)
  refine ⟨?_,h2,h3⟩
  show up (g.ow false) q 15 p = 0
  rw [up_other hpq]
  exact h1
 ·have h1:=h.le c p
  refine ⟨?_,h1.2⟩
  show (if c = false then up (g.ow false) q 15 else g.ow c) p≤15
  split
  ·rename_i e
   subst e
   unfold up
   split
   ·exact Nat.le_refl _
   ·exact h1.1
  ·exact h1.1
theorem Go.setO {W:World} {g:Gh} {q:V} {kb:Nat} (hm:(q,kb) ∈ g.kn):Go g W (g.setO q) (W.setCell ⟨kb,1,none⟩ (.int .u8 15)) :=
 ⟨Fr.set _ _ _ _ (.inr (.inr (.inr (.inr (List.mem_map.2 ⟨_,hm,rfl⟩))))),fun _ hk=>.inl hk⟩
theorem Sx.setO {W:World} {g:Gh} {q:V} {kb:Nat} (h:Sx W g) (hm:(q,kb) ∈ g.kn):Sx (W.setCell ⟨kb,1,none⟩ (.int .u8 15)) (g.setO q):=h.go (St.setO h.st hm) (Go.setO hm)
theorem wcells_low (g:Gh) (y:Int):wcells (g.setLow y) = (wcells g).set 4 (.int .i64 y):=rfl
theorem St.setLow {W:World} {g:Gh} {y:Int} (h:St W g) (hy:0≤y∧y≤63):St (W.setCell ⟨g.wk,4,none⟩ (.int .i64 y)) (g.setLow y):=by
 have hb:=h.work
 have hf:Fr (fun k=>k = g.wk) W (W.setCell ⟨g.wk,4,none⟩ (.int .i64 y)):=Fr.set (fun k=>k = g.wk) W ⟨g.wk,4,none⟩ _ rfl
 have row:∀ {α:Type} {e:Enc α} {E:TypeId} {v:Value} {L:List α},RowG.Own e E W 0 v L→E ≠ TWk→∀ k,v.ownBlock = some k→¬ k = g.wk:=fun hr hE k e e2=>by
  obtain ⟨us,hu⟩:=own_cells hr e
  rw [e2] at hu
  exact Blk.ne hu hb hE rfl
 refine ⟨h.fld.fr hf (fun e=>Blk.ne hb h.fld.blk (by decide) e.symm) (row h.fld.cs (by decide)) (row h.fld.ls (by decide)) (row h.fld.ak (by decide)) (row h.fld.ts (by decide)),h.fw,?_,?_,h.dup,h.bdup,fun p k hp=>?_,h.dflt,h.le,h.few,h.asks,h.atp,hy⟩
 ·rw [wcells_low]
  exact hb.set 4 _
 ·exact (hf.block _ h.map.lt (fun e=>Blk.notMap h.map hb e.symm)).trans h.map
 ·exact hf.blk (h.known p k hp) (fun e=>Blk.ne (h.known p k hp) hb (by decide) e)
theorem Go.setLow {W:World} {g:Gh} {y:Int}:Go g W (g.setLow y) (W.setCell ⟨g.wk,4,none⟩ (.int .i64 y)) :=
 ⟨Fr.set _ _ _ _ (.inr (.inr (.inl rfl))),fun _ hk=>.inl hk⟩
theorem Sx.setLow {W:World} {g:Gh} {y:Int} (h:Sx W g) (hy:0≤y∧y≤63):Sx (W.setCell ⟨g.wk,4,none⟩ (.int .i64 y)) (g.setLow y):=h.go (St.setLow h.st hy) Go.setLow
def MoreC (g g':Gh):Prop:=(∃ vA ak kn lo ow,g' = { g.more vA ak kn with low:=lo,ow:=ow })∧∀ p,p ∈ g.kn→p ∈ g'.kn
theorem More.toC {g g':Gh} (h:More g g'):MoreC g g':=by
 obtain ⟨⟨vA,ak,kn,e⟩,h2⟩:=h
 exact ⟨⟨vA,ak,kn,g.low,g.ow,e⟩,h2⟩
theorem MoreC.trans {x y z:Gh} (h:MoreC x y) (k:MoreC y z):MoreC x z:=by
 obtain ⟨⟨_,_,_,_,_,e1⟩,h2⟩:=h
 obtain ⟨⟨vA,ak,kn,lo,ow,e2⟩,h4⟩:=k
 exact ⟨⟨vA,ak,kn,lo,ow,by rw [e2,e1]; rfl⟩,fun p hp=>h4 p (h2 p hp)⟩
theorem MoreC.setO (g:Gh) (q:V):MoreC g (g.setO q):=⟨⟨_,_,_,_,_,rfl⟩,fun _ h=>h⟩
theorem MoreC.setLow (g:Gh) (y:Int):MoreC g (g.setLow y):=⟨⟨_,_,_,_,_,rfl⟩,fun _ h=>h⟩
section
variable {x y:Gh}
theorem MoreC.clr (h:MoreC x y) (q:V):clr y.f q = clr x.f q:=by
 obtain ⟨⟨_,_,_,_,_,e1⟩,_⟩:=h
 rw [e1]; rfl
theorem MoreC.was (h:MoreC x y) (c:Bool) (q:V):wasB y.f c q = wasB x.f c q:=by
 obtain ⟨⟨_,_,_,_,_,e1⟩,_⟩:=h
 rw [e1]; rfl
theorem MoreC.same (h:MoreC x y):y.wk = x.wk∧y.at_ = x.at_∧y.nw = x.nw∧y.M = x.M∧y.f.F = x.f.F:=by
 obtain ⟨⟨_,_,_,_,_,e1⟩,_⟩:=h
 rw [e1]; exact ⟨rfl,rfl,rfl,rfl,rfl⟩
theorem MoreC.ok (h:MoreC x y) {q:V} (hq:okP x q):okP y q:=by
 obtain ⟨⟨_,_,_,_,_,e1⟩,_⟩:=h
 rw [e1]; exact hq
end
theorem More.rows {g g':Gh} (h:MoreC g g'):g'.f.vC = g.f.vC∧g'.f.vL = g.f.vL∧g'.f.vT = g.f.vT:=by
 obtain ⟨⟨_,_,_,_,_,e1⟩,_⟩:=h
 rw [e1]; exact ⟨rfl,rfl,rfl⟩
theorem Sx.grownC {w W W':World} {g g':Gh} (h0:Sx w g) (hm:MoreC g g') (h:Sx W g') {r:Option Nat} (hg:W.grownBy W' r) (hr:∀ k,r = some k→w.heap.size≤k∧¬ Ss g' k):Sx W' g':=by
 have hf:Fr (fun j=>r = some j) W W':=Fr.grown hg (fun i e=>e)
 obtain ⟨r1,r2,r3⟩:=More.rows hm
 refine ⟨h.st.fr hf (fun j hj _=>?_),tab_fr h.tab hf (fun e=>?_),h.gk⟩
 ·have hj':=hr j hj
  rw [r1,r2,r3]
  exact ⟨hj'.2,fun e=>by have:=(h0.st.fld.cs.ge _ e).2; omega,fun e=>by have:=(h0.st.fld.ls.ge _ e).2; omega,fun e=>by have:=(h0.st.fld.ts.ge _ e).2; omega⟩
 ·have:=h0.tab.size
  have:=(hr _ e).1
  omega
def colV (f:Fld):Nat→V→List V
 | 0,_=>[]
 | n + 1,q=>match sideO q 5 with
  | none=>[]
  | some a=>if clr f a = true then a :: colV f n a else []
def colOk (g:Gh):Nat→V→Prop
 | 0,_=>True
 | n + 1,q=>∀ a,sideO q 5 = some a→okP g a∧(clr g.f a = true→colOk g n a)
theorem colOk.more {g g':Gh} (h:More g g'):∀ {n:Nat} {q:V},colOk g n q→colOk g' n q
 | 0,_,_=>trivial
 | n + 1,q,hk=>fun a ha=>⟨h.ok (hk a ha).1,fun hc=>colOk.more h ((hk a ha).2 (by rw [← h.clr]; exact hc))⟩
theorem side5 {q a:V} (h:sideO q 5 = some a):a = (q.1,q.2.1 - 1,q.2.2)∧0≤a.2.1∧a.2.1≤62:=by
 have h1:=side_vals h
 unfold PlaceW.stepOf at h1
 by_cases hm:PlaceW.mayB q.1 q.2.1 q.2.2 = true
 ·rw [if_pos hm] at h1
  have hr:=PlaceW.mayB_true hm
  have hw:wrap64 (q.2.1 - 1) = q.2.1 - 1:=by
   unfold wrap64
   rw [Int.emod_eq_of_lt (by omega) (by omega)]
   omega
  have hmv:PlaceW.mv ((5:Nat):Int) q.1 q.2.1 q.2.2 = (q.1,q.2.1 - 1,q.2.2,true):=by
   show (q.1,wrap64 (q.2.1 - 1),q.2.2,true) = _
   rw [hw]
  rw [hmv] at h1
  split at h1
  ·rename_i h2
   have h3:=PlaceW.mayB_true h2.2
   injection h1 with e1 e2
   injection e2 with e2 e3
   injection e3 with e3 _
   simp only at h3 e1 e2 e3
   refine ⟨Prod.ext e1.symm (Prod.ext e2.symm e3.symm),?_,?_⟩ <;> omega
  ·injection h1 with _ h1
   injection h1 with _ h1
   injection h1 with _ h1
   cases h1
 ·rw [if_neg hm] at h1
  injection h1 with _ h1
  injection h1 with _ h1
  injection h1 with _ h1
  cases h1
theorem colV_none {f:Fld} {n:Nat} {q:V} (h:sideO q 5 = none):colV f n q = []:=by
 cases n with
 | zero=>rfl
 | succ n=>simp [colV,h]
theorem col_end {q:V} (h:q.2.1≤0):sideO q 5 = none:=by
 cases e:sideO q 5 with
 | none=>rfl
 | some a =>
  obtain ⟨h1,h2,_⟩:=side5 e
  rw [h1] at h2
  simp only at h2
  omega
end FloodW
end Go.Proofs.YtpimkdaikoclnaaDoor
namespace Go.Proofs.YtpimkdaikoclnaaDoor
open Go.RowKit
set_option linter.unusedVariables false
set_option linter.unusedSimpArgs false
namespace FloodW
open BlkP RowG GlowW FloodP
theorem own_one {W:World} {b:Nat} {q:V} (h:Blk W b TP [.int .i64 q.1,.int .i64 q.2.1,.int .i64 q.2.2]):RowG.Own encP TP W 0 (.slice (some ⟨b,0,none⟩) 1 1) [q] :=
 ⟨rfl,.inr ⟨b,1,_,rfl,Nat.zero_le _,h,Nat.le_refl _,by decide,rfl,rfl⟩⟩
def colT (f:Fld) (q:V):List V:=if opn f 15 q true = true then q :: colV f 64 q else [q]
structure ColR (g g':Gh) (T:List V):Prop where
 list:T = colT g.f g.at_
 more:MoreC g g'
 low:∃ q,T.getLast? = some q∧(opn g.f 15 g.at_ true = true→g'.low = q.2.1)∧(opn g.f 15 g.at_ true = false→g'.low = g.low)
 lamp:g'.ow true = g.ow true
 sky:∀ q,g'.ow false q = if (opn g.f 15 g.at_ true = true∧clr g.f g.at_ = true)∧q ∈ T then 15 else g.ow false q
def ColP (w:World) (g:Gh) (e:Ending) (w':World):Prop:=∃ T A n c g',e = .returned (.slice A n c)∧T.length = n∧ColR g g' T∧Sx w' g'∧Go g w g' w'∧LocR w' g' (.slice A n c) T
theorem colV_ok {g:Gh}:∀ {n:Nat} {q:V},colOk g n q→∀ a ∈ colV g.f n q,okP g a
 | 0,q,_,a,h=>by cases h
 | n + 1,q,hk,a,h=>by
  unfold colV at h
  cases e:sideO q 5 with
  | none=>rw [e] at h; cases h
  | some b =>
   rw [e] at h
   simp only at h
   cases hc:clr g.f b with
   | false=>rw [hc,if_neg (by simp)] at h; cases h
   | true =>
    rw [hc,if_pos rfl] at h
    rcases List.mem_cons.1 h with e2 | h
    ·rw [e2]; exact (hk b e).1
    ·exact colV_ok ((hk b e).2 hc) a h
structure Col2 (w:World) (g:Gh) (T:List V) (py:Int) (v:Value) (n i:Nat) (g':Gh) (W:World):Prop where
 le:i≤n
 more:MoreC g g'
 sx:Sx W g'
 go:Go g w g' W
 row:LocR W g' v T
 low:g'.low = py
 lamp:g'.ow true = g.ow true
 sky:∀ q,g'.ow false q = if q ∈ T.take i then 15 else g.ow false q
def Rel2 (w:World) (g:Gh) (T:List V) (py:Int) (v3:Value) (n:Nat) (v:Value) (W:World):Prop:=∃ i g',v = .int .i64 (i:Nat)∧Col2 w g T py v3 n i g' W
theorem Col2.step {w:World} {g:Gh} {T:List V} {py:Int} {v:Value} {n i:Nat} {g' g2:Gh} {W W':World} (h:Col2 w g T py v n i g' W) (k:Go g' W g2 W') (hm:More g' g2) (hs:Sx W' g2):Col2 w g T py v n i g2 W' :=
 ⟨h.le,h.more.trans hm.toC,hs,h.go.trans k,h.row.go k,by rw [hm.same.2.2.1]; exact h.low,by rw [hm.same.2.2.2.1]; exact h.lamp,fun q=>by rw [hm.same.2.2.2.1]; exact h.sky q⟩
theorem Col2.put {w:World} {g:Gh} {T:List V} {py:Int} {v:Value} {n i:Nat} {g':Gh} {W:World} (h:Col2 w g T py v n i g' W) {q:V} {kb:Nat} (hq:T[i]? = some q) (hi:i < n) (hm:(q,kb) ∈ g'.kn):Col2 w g T py v n (i + 1) (g'.setO q) (W.setCell ⟨kb,1,none⟩ (.int .u8 15)) :=
 ⟨hi,h.more.trans (MoreC.setO g' q),h.sx.setO hm,h.go.trans (Go.setO hm),h.row.go (Go.setO hm),h.low,h.lamp,fun x=>by
  show up (g'.ow false) q 15 x = _
  rw [List.take_add_one,hq]
  unfold up
  by_cases e:x = q
  ·subst e
   simp
  ·rw [if_neg e,h.sky]
   simp [e]⟩
def lenOf:Value→Nat
 | .slice _ n _=>n
 | _=>0
structure Col1 (w:World) (g:Gh) (T:List V) (p a:V) (v:Value) (n qb m:Nat) (r:Bool) (g':Gh) (W:World):Prop where
 len:T.length = n
 last:T.getLast? = some p
 full:T ++ colV g.f m p = g.at_ :: colV g.f 64 g.at_
 cnt:n + m = 65
 low:0≤p.2.1∧p.2.1≤63∧p.2.1≤m
 nxt:sideO p 5 = if r = true then some a else none
 ok:colOk g m p
 more:More g g'
 sx:Sx W g'
 go:Go g w g' W
 row:LocR W g' v T
 box:Loc W g' qb TP [.int .i64 a.1,.int .i64 a.2.1,.int .i64 a.2.2]
 new:w.heap.size≤qb∧∀ k,v.ownBlock = some k→w.heap.size≤k∧k ≠ qb
def Rel1 (w:World) (g:Gh) (v3 v4 v5:Value) (W:World):Prop:=∃ T p a n qb m r g',v4 = .pointer (some ⟨qb,0,none⟩)∧v5 = .bool r∧lenOf v3 = n∧Col1 w g T p a v3 n qb m r g' W
theorem side_step {q:V} {X Y Z:Int} {r:Bool} (h:PlaceW.stepOf q.1 q.2.1 q.2.2 5 = (X,Y,Z,r)):sideO q 5 = if r = true then some (X,Y,Z) else none:=by
 have h':PlaceW.stepOf q.1 q.2.1 q.2.2 ((5:Nat):Int) = (X,Y,Z,r):=h
 unfold sideO
 rw [h']
section
variable {w W W':World} {g g' g2:Gh} {T:List V} {p a:V} {v:Value} {n qb m:Nat} {r:Bool}
theorem Col1.step (h:Col1 w g T p a v n qb m r g' W) (k:Go g' W g2 W') (hm:More g' g2) (hs:Sx W' g2):Col1 w g T p a v n qb m r g2 W' :=
 ⟨h.len,h.last,h.full,h.cnt,h.low,h.nxt,h.ok,h.more.trans hm,hs,h.go.trans k,h.row.go k,h.box.go k,h.new⟩
theorem Col1.below (h:Col1 w g T p a v n qb m r g' W) (hb:Below W.heap.size W W'):Col1 w g T p a v n qb m r g' W':=h.step (Go.below g' hb) (More.refl g') (h.sx.below hb)
theorem Col1.pos (h:Col1 w g T p a v n qb m r g' W):0 < n:=by
 have h1:=h.last
 have h2:=h.len
 cases T with
 | nil=>cases h1
 | cons x l=>rw [← h2]; exact Nat.succ_pos _
theorem Col1.more_ (h:Col1 w g T p a v n qb m true g' W):∃ k,m = k + 1∧okP g a∧(clr g.f a = true→colOk g k a):=by
 have hn:sideO p 5 = some a:=by simpa using h.nxt
 cases m with
 | zero =>
  have:=col_end (q:=p) (by have:=h.low; omega)
  rw [this] at hn
  cases hn
 | succ k=>exact ⟨k,rfl,h.ok a hn⟩
theorem Col1.ends (h:Col1 w g T p a v n qb m r g' W) (hr:r = false ∨ clr g.f a = false):T = g.at_ :: colV g.f 64 g.at_:=by
 have e:colV g.f m p = []:=by
  cases m with
  | zero=>rfl
  | succ k =>
   have hn:=h.nxt
   rcases hr with e | e
   ·rw [e,if_neg (by simp)] at hn
    exact colV_none hn
   ·cases r with
    | false=>rw [if_neg (by simp)] at hn; exact colV_none hn
    | true =>
     rw [if_pos rfl] at hn
     simp [colV,hn,e]
 have:=h.full
 rw [e,List.append_nil] at this
 exact this
theorem Col1.next {k gr c:Nat} {W5 W7:World} {X Y Z:Int} {r2:Bool} (h0:Sx w g) (h:Col1 w g T p a v n qb (k + 1) true g' W) (hcl:clr g.f a = true) (hok:colOk g k a) (hp:Pushed encP TP W 0 v T a (n + 1) gr c W5) (hb:Below W5.heap.size W5 W7) (hq:Blk W7 W5.heap.size TP [.int .i64 X,.int .i64 Y,.int .i64 Z]) (hst:PlaceW.stepOf a.1 a.2.1 a.2.2 5 = (X,Y,Z,r2)) :
  Col1 w g (T ++ [a]) a (X,Y,Z) (.slice (some ⟨gr,0,none⟩) (n + 1) c) (n + 1) W5.heap.size k r2 g' W7:=by
 obtain ⟨ho,hg,hfr⟩:=hp
 have hn:sideO p 5 = some a:=by simpa using h.nxt
 obtain ⟨ha,hy0,hy1⟩:=side5 hn
 have hy:a.2.1 = p.2.1 - 1:=by rw [ha]
 have sx5:Sx W5 g':=h0.grownC h.more.toC h.sx hg (fun k hk=>⟨(h.new.2 k hk).1,h.row.2 k hk⟩)
 have sz:w.heap.size≤W.heap.size:=h.go.fr.size
 have sz5:W.heap.size≤W5.heap.size:=hg.size
 have grn:∀ k,gr = k→w.heap.size≤k∧k < W5.heap.size∧¬ Ss g' k:=fun k e=>by
  subst e
  refine ⟨?_,(ho.ge gr rfl).2,?_⟩
  ·rcases hfr with q | q
   ·exact (h.new.2 gr q).1
   ·omega
  ·rcases hfr with q | q
   ·exact h.row.2 gr q
   ·exact h.sx.st.new q
 have own:∀ k,(Value.slice (some ⟨gr,0,none⟩) (n + 1) c).ownBlock = some k→w.heap.size≤k∧k < W5.heap.size∧¬ Ss g' k:=fun k hk=>grn k (by simpa [Value.ownBlock] using hk)
 refine ⟨by rw [List.length_append,h.len]; rfl,by simp,?_,by have:=h.cnt; omega,⟨hy0,by omega,by have:=h.low.2.2; omega⟩,side_step hst,hok,h.more,sx5.below hb,(h.go.grown hg (fun k hk=>(h.new.2 k hk).1)).trans (Go.below g' hb),LocR.below ⟨ho,fun k hk=>(own k hk).2.2⟩ hb,⟨hq,sx5.st.new (Nat.le_refl _)⟩,by omega,fun k hk=>⟨(own k hk).1,by have:=(own k hk).2.1; omega⟩⟩
 have hf:=h.full
 rw [← hf,List.append_assoc]
 simp [colV,hn,hcl]
end
set_option maxRecDepth 100000 in
set_option maxHeartbeats 16000000 in
theorem column_c {w:World} {g:Gh} (h:Sx w g) (hok:opnOk g 15 g.at_) (hco:opn g.f 15 g.at_ true = true→colOk g 64 g.at_) (hat:okP g g.at_) :
  Calls Tryd.prog 39 #[.pointer (some ⟨g.wk,0,none⟩)] w (ColP w g):=by
 obtain ⟨R,hR⟩:∃ R,opn g.f 15 g.at_ true = R:=⟨_,rfl⟩
 rw [hR] at hco
 have HR:=Lib.hid hR
 have HS:=Lib.hid h
 have HOK:=Lib.hid hok
 have HCO:=Lib.hid hco
 have HAT:=Lib.hid hat
 have k1:w.cell? ⟨g.wk,1,none⟩ = some (.int .i64 g.at_.1):=h.st.work.cell (i:=1) rfl
 have k2:w.cell? ⟨g.wk,2,none⟩ = some (.int .i64 g.at_.2.1):=h.st.work.cell (i:=2) rfl
 have k3:w.cell? ⟨g.wk,3,none⟩ = some (.int .i64 g.at_.2.2):=h.st.work.cell (i:=3) rfl
 have hwl:=h.st.work.lt
 clear hR h hok hco hat
 go_enter Tryd.func39,Tryd.ntmps39
 go_wp2_with fail
 go_at_call 51
 refine calls_named (S:=fun W=>Below w.heap.size w W∧Blk W w.heap.size TP [.int .i64 g.at_.1,.int .i64 g.at_.2.1,.int .i64 g.at_.2.2]) ⟨by (repeat' (first | (with_reducible exact Below.refl _ _) | (with_reducible refine Below.setCell ?_ (by (first | omega | (simp; done) | (simp; omega))) _) | (with_reducible refine Below.alloc ?_ (by (first | omega | (simp; done) | (simp; omega))) _) | (with_reducible refine Below.drew ?_) | (with_reducible refine below_drewN ?_ _))),by (repeat' (first | (with_reducible refine BlkP.Blk.drew ?_) | (with_reducible refine BlkP.Blk.drewN ?_ _) | (with_reducible refine BlkP.Blk.setAt (us:=?_) (by first | omega | (simp; done) | (simp; omega)) rfl ?_ ?_) | (with_reducible refine BlkP.Blk.otherAt ?_ (by first | omega | (simp; done) | (simp; omega))) | (with_reducible refine BlkP.Blk.newA' (by first | omega | (simp; done) | (simp; omega)) rfl) | (with_reducible refine BlkP.Blk.alloc ?_ _) | (exact rfl)))⟩ ?_
 rintro W1 ⟨hb1,hl1⟩
 refine (open_c (HS.out.below hb1) HOK.out).mono ?_
 rintro e W2 ⟨rfl,g2,hm2,hsx2,hgo2⟩
 rw [HR.out]
 have HM2:=Lib.hid hm2
 have HSX2:=Lib.hid hsx2
 have HGO2:=Lib.hid ((Go.below g hb1).trans hgo2)
 have HL2:=Lib.hid (Loc.go (g:=g) ⟨hl1,HS.out.st.new (Nat.le_refl _)⟩ hgo2)
 have HRW2:=Lib.hid (show LocR W2 g2 (.slice (some ⟨w.heap.size,0,none⟩) 1 1) [g.at_] from ⟨own_one HL2.out.1,fun k hk=>by
  have e:w.heap.size = k:=by simpa [Value.ownBlock] using hk
  rw [← e]
  exact HL2.out.2⟩)
 have k1:W2.cell? ⟨g.wk,1,none⟩ = some (.int .i64 g.at_.1):=by have:=hsx2.st.work.cell (i:=1) (v:=.int .i64 g2.at_.1) rfl; rwa [hm2.same.2.1,hm2.same.1] at this
 have k2:W2.cell? ⟨g.wk,2,none⟩ = some (.int .i64 g.at_.2.1):=by have:=hsx2.st.work.cell (i:=2) (v:=.int .i64 g2.at_.2.1) rfl; rwa [hm2.same.2.1,hm2.same.1] at this
 have k3:W2.cell? ⟨g.wk,3,none⟩ = some (.int .i64 g.at_.2.2):=by have:=hsx2.st.work.cell (i:=3) (v:=.int .i64 g2.at_.2.2) rfl; rwa [hm2.same.2.1,hm2.same.1] at this
 have hwl2:g.wk < W2.heap.size:=by have:=hsx2.st.work.lt; rwa [hm2.same.1] at this
 clear hb1 hl1 hm2 hsx2 hgo2
 cases R with
 | false =>
  go_wp2_with fail
  go_ret
  refine ⟨[g.at_],some ⟨w.heap.size,0,none⟩,1,1,g2,rfl,rfl,⟨by rw [colT,HR.out]; rfl,HM2.out.toC,⟨g.at_,rfl,fun e=>?_,fun _=>HM2.out.same.2.2.1⟩,congrFun HM2.out.same.2.2.2.1 true,fun q=>?_⟩,HSX2.out,HGO2.out,HRW2.out⟩
  ·rw [HR.out] at e; cases e
  ·rw [if_neg (by rw [HR.out]; rintro ⟨⟨e,_⟩,_⟩; cases e)]
   exact congrFun (congrFun HM2.out.same.2.2.2.1 false) q
 | true =>
  obtain ⟨X,Y,Z,r,hst⟩:∃ X Y Z r,PlaceW.stepOf g.at_.1 g.at_.2.1 g.at_.2.2 5 = (X,Y,Z,r):=⟨_,_,_,_,rfl⟩
  have HST:=Lib.hid hst
  clear hst
  go_wp2_with fail
  go_at_call 52
  refine (PlaceW.step_c HST.out _).mono ?_
  rintro e W3 ⟨rfl,hb3⟩
  have HSX3:=Lib.hid (HSX2.out.below hb3)
  have HGO3:=Lib.hid (HGO2.out.trans (Go.below g2 hb3))
  have HRW3:=Lib.hid (HRW2.out.below hb3)
  have HZ3:=Lib.hid (show w.heap.size < W3.heap.size from Nat.lt_of_lt_of_le HL2.out.1.lt hb3.size)
  have hwl3:g.wk < W3.heap.size:=Nat.lt_of_lt_of_le hwl2 hb3.size
  clear hb3 k1 k2 k3
  go_wp2_with fail
  go_loopw [3,4,5] (fun v3 v4 v5 wr=>Rel1 w g v3 v4 v5 wr) (fun v3 _ _ _=>70 - lenOf v3)
  case atStart =>
   have hat:=HSX3.out.st.atp
   rw [HM2.out.same.2.1] at hat
   refine ⟨[g.at_],g.at_,(X,Y,Z),1,W3.heap.size,64,r,g2,rfl,rfl,rfl,rfl,rfl,rfl,rfl,⟨hat.2.2.1,by have:=hat.2.2.2.1; omega,by have:=hat.2.2.2.1; omega⟩,side_step HST.out,HCO.out (by trivial),HM2.out,HSX3.out.below (by (repeat' (first | (with_reducible exact Below.refl _ _) | (with_reducible refine Below.setCell ?_ (by (first | omega | (simp; done) | (simp; omega))) _) | (with_reducible refine Below.alloc ?_ (by (first | omega | (simp; done) | (simp; omega))) _) | (with_reducible refine Below.drew ?_) | (with_reducible refine below_drewN ?_ _)))),HGO3.out.trans (Go.below g2 (by (repeat' (first | (with_reducible exact Below.refl _ _) | (with_reducible refine Below.setCell ?_ (by (first | omega | (simp; done) | (simp; omega))) _) | (with_reducible refine Below.alloc ?_ (by (first | omega | (simp; done) | (simp; omega))) _) | (with_reducible refine Below.drew ?_) | (with_reducible refine below_drewN ?_ _))))),HRW3.out.below (by (repeat' (first | (with_reducible exact Below.refl _ _) | (with_reducible refine Below.setCell ?_ (by (first | omega | (simp; done) | (simp; omega))) _) | (with_reducible refine Below.alloc ?_ (by (first | omega | (simp; done) | (simp; omega))) _) | (with_reducible refine Below.drew ?_) | (with_reducible refine below_drewN ?_ _)))),⟨by (repeat' (first | (with_reducible refine BlkP.Blk.drew ?_) | (with_reducible refine BlkP.Blk.drewN ?_ _) | (with_reducible refine BlkP.Blk.setAt (us:=?_) (by first | omega | (simp; done) | (simp; omega)) rfl ?_ ?_) | (with_reducible refine BlkP.Blk.otherAt ?_ (by first | omega | (simp; done) | (simp; omega))) | (with_reducible refine BlkP.Blk.newA' (by first | omega | (simp; done) | (simp; omega)) rfl) | (with_reducible refine BlkP.Blk.alloc ?_ _) | (exact rfl))),HSX3.out.st.new (Nat.le_refl _)⟩,by have:=HZ3.out; omega,fun k hk=>?_⟩
   have e:w.heap.size = k:=by simpa [Value.ownBlock] using hk
   have:=HZ3.out
   omega
  case round =>
   obtain ⟨T,p,a,n,qb,m,r,g3,rfl,rfl,hlen,hc⟩:=hrel
   obtain ⟨A,c,hv,_,_,hA⟩:=hc.row.1.form hc.len
   subst hv
   obtain ⟨gr,rfl,_,_⟩:=hA hc.pos
   have HC:=Lib.hid hc
   cases r with
   | false =>
    have HE:=Lib.hid (hc.ends (.inl rfl))
    clear hc hA
    have hidx:T[n - 1]? = some p:=by
     rw [← HC.out.len,← List.getLast?_eq_getElem?]
     exact HC.out.last
    have HLAST:=Lib.hid HC.out.last
    obtain ⟨px,py,pz⟩:=p
    have hrow:wr.cell? ⟨gr,(n - 1) * 3 + 1,none⟩ = some (.int .i64 py):=HC.out.row.1.cell (j:=1) hidx rfl
    have hn1:0 < n:=HC.out.pos
    have hn65:n≤65:=by have:=HC.out.cnt; omega
    have hw:Blk wr g.wk TWk (wcells g3):=by have:=HC.out.sx.st.work; rwa [HC.out.more.same.1] at this
    have w1:wr.cell? ⟨g.wk,1,none⟩ = some (.int .i64 g.at_.1):=by have:=hw.cell (i:=1) (v:=.int .i64 g3.at_.1) rfl; rwa [HC.out.more.same.2.1] at this
    have w2:wr.cell? ⟨g.wk,2,none⟩ = some (.int .i64 g.at_.2.1):=by have:=hw.cell (i:=2) (v:=.int .i64 g3.at_.2.1) rfl; rwa [HC.out.more.same.2.1] at this
    have w3:wr.cell? ⟨g.wk,3,none⟩ = some (.int .i64 g.at_.2.2):=by have:=hw.cell (i:=3) (v:=.int .i64 g3.at_.2.2) rfl; rwa [HC.out.more.same.2.1] at this
    have w4:=hw.cell (i:=4) rfl
    have z4:=hw.frozen 4
    have hsxL:=HC.out.sx.setLow (y:=py) ⟨HC.out.low.1,HC.out.low.2.1⟩
    have hgoL:Go g3 wr (g3.setLow py) (wr.setCell ⟨g3.wk,4,none⟩ (.int .i64 py)):=Go.setLow
    have hwk:(g3.setLow py).wk = g.wk:=HC.out.more.same.1
    rw [HC.out.more.same.1] at hsxL hgoL
    have HCL2:=Lib.hid (show Col2 w g T py (.slice (some ⟨gr,0,none⟩) n c) n 0 (g3.setLow py) (wr.setCell ⟨g.wk,4,none⟩ (.int .i64 py)) from ⟨Nat.zero_le _,HC.out.more.toC.trans (MoreC.setLow g3 py),hsxL,HC.out.go.trans hgoL,HC.out.row.go hgoL,rfl,congrFun HC.out.more.same.2.2.2.1 true,fun q=>by rw [List.take_zero,if_neg (by simp)]; exact congrFun (congrFun HC.out.more.same.2.2.2.1 false) q⟩)
    have hkn:=know_m (q:=g.at_) hsxL (HCL2.out.more.ok HAT.out)
    rw [hwk] at hkn
    have HKN2:=Lib.hid hkn
    have HLEN:=Lib.hid HC.out.len
    have HTOK:=Lib.hid (show ∀ q ∈ T,okP g q from fun q hq=>by
     rw [HE.out] at hq
     rcases List.mem_cons.1 hq with e | hq
     ·rw [e]; exact HAT.out
     ·exact colV_ok (HCO.out (by trivial)) q hq)
    have HTC:=Lib.hid (show T = colT g.f g.at_ by rw [colT,HR.out,if_pos rfl]; exact HE.out)
    clear hidx hw hsxL hgoL hwk hkn
    go_wp2_with fail
    go_at_call 37
    refine HKN2.out.mono ?_
    rintro e W8 ⟨kb8,g8,rfl,hmem8,hm8,hsx8,hgo8⟩
    have HC8:=Lib.hid (HCL2.out.step hgo8 hm8 hsx8)
    have cl8:W8.cell? ⟨kb8,0,none⟩ = some (.bool (clr g.f g.at_)):=by
     have:=k_clear (hsx8.st.known _ _ hmem8)
     rwa [HC8.out.more.clr] at this
    clear hmem8 hm8 hsx8 hgo8 hrow w1 w2 w3 w4 z4 HKN2 HCL2
    cases hcl8:clr g.f g.at_ with
    | false =>
     rw [hcl8] at cl8
     have HCA:=Lib.hid hcl8
     clear hcl8
     go_wp2_with fail
     go_ret
     refine ⟨T,_,n,c,g8,rfl,HLEN.out,⟨HTC.out,HC8.out.more,⟨(px,py,pz),HLAST.out,fun _=>HC8.out.low,fun e=>by rw [HR.out] at e; cases e⟩,HC8.out.lamp,fun q=>?_⟩,HC8.out.sx,HC8.out.go,HC8.out.row⟩
     rw [if_neg (by rw [HCA.out]; rintro ⟨⟨_,e⟩,_⟩; cases e),HC8.out.sky,List.take_zero,if_neg (by simp)]
    | true =>
     rw [hcl8] at cl8
     have HCA:=Lib.hid hcl8
     clear hcl8
     go_wp2_with fail
     go_loopw [65] (fun v W=>Rel2 w g T py (.slice (some ⟨gr,0,none⟩) n c) n v W) (fun v _=>n - (intOf v).toNat)
     case atStart =>
      exact ⟨0,g8,rfl,HC8.out⟩
     case round =>
      obtain ⟨i,g9,rfl,hc9⟩:=hrel
      have HC9:=Lib.hid hc9
      have hi9:=hc9.le
      by_cases hin:i < n
      ·have hinI:(i:Int) < n:=by omega
       obtain ⟨q,hq⟩:∃ q,T[i]? = some q:=⟨_,List.getElem?_eq_getElem (by have:=HLEN.out; omega)⟩
       have HQ:=Lib.hid hq
       have hokq:=hc9.more.ok (HTOK.out q (List.mem_of_getElem? hq))
       obtain ⟨qx,qy,qz⟩:=q
       have r0:wr.cell? ⟨gr,i * 3,none⟩ = some (.int .i64 qx):=hc9.row.1.cell (j:=0) hq rfl
       have r1:wr.cell? ⟨gr,i * 3 + 1,none⟩ = some (.int .i64 qy):=hc9.row.1.cell (j:=1) hq rfl
       have r2:wr.cell? ⟨gr,i * 3 + 2,none⟩ = some (.int .i64 qz):=hc9.row.1.cell (j:=2) hq rfl
       have hkn:=fun W2 (hb:Below wr.heap.size wr W2)=>know_m (q:=(qx,qy,qz)) (hc9.sx.below hb) hokq
       rw [hc9.more.same.1] at hkn
       have HKN:=Lib.hid hkn
       clear hkn hc9 hq hokq
       go_wp2_with fail
       go_at_call 37
       refine calls_named (S:=fun W=>Below wr.heap.size wr W) (by (repeat' (first | (with_reducible exact Below.refl _ _) | (with_reducible refine Below.setCell ?_ (by (first | omega | (simp; done) | (simp; omega))) _) | (with_reducible refine Below.alloc ?_ (by (first | omega | (simp; done) | (simp; omega))) _) | (with_reducible refine Below.drew ?_) | (with_reducible refine below_drewN ?_ _)))) ?_
       rintro Wa hba
       refine (HKN.out Wa hba).mono ?_
       rintro e Wb ⟨kb,gb,rfl,hmem,hmb,hsxb,hgob⟩
       have HCB:=Lib.hid (HC9.out.step ((Go.below g9 hba).trans hgob) hmb hsxb)
       have HKB:=Lib.hid (hsxb.st.known _ _ hmem)
       have n1:Wb.cell? ⟨kb,1,none⟩ = some (.int .u8 (gb.ow false (qx,qy,qz):Int)):=k_own false HKB.out
       have z1:=HKB.out.frozen 1
       have HME:=Lib.hid hmem
       clear hba hmb hsxb hgob hmem r0 r1 r2 HC9 HKN
       go_wp2_with fail
       go_roundw
       case rel=>exact ⟨i + 1,gb.setO (qx,qy,qz),by go_num,HCB.out.put HQ.out hin HME.out⟩
       case measure=>(simp only [intOf]; omega)
      ·obtain rfl:n = i:=by omega
       clear hc9
       go_wp2_with fail
       go_ret
       refine ⟨T,_,n,c,g9,rfl,HLEN.out,⟨HTC.out,HC9.out.more,⟨(px,py,pz),HLAST.out,fun _=>HC9.out.low,fun e=>by rw [HR.out] at e; cases e⟩,HC9.out.lamp,fun q=>?_⟩,HC9.out.sx,HC9.out.go,HC9.out.row⟩
       rw [HC9.out.sky,← HLEN.out,List.take_length]
       by_cases e:q ∈ T
       ·rw [if_pos e,if_pos ⟨⟨HR.out,HCA.out⟩,e⟩]
       ·rw [if_neg e,if_neg (fun k=>e k.2)]
   | true =>
    obtain ⟨k,rfl,hoka,hokb⟩:=hc.more_
    have HOA:=Lib.hid hoka
    have HOB:=Lib.hid hokb
    obtain ⟨ax,ay,az⟩:=a
    have d0:=hc.box.1.cell (i:=0) rfl
    have d1:=hc.box.1.cell (i:=1) rfl
    have d2:=hc.box.1.cell (i:=2) rfl
    have hkn:=fun W2 (hb:Below wr.heap.size wr W2)=>know_m (q:=(ax,ay,az)) (hc.sx.below hb) (hc.more.ok hoka)
    rw [hc.more.same.1] at hkn
    have HKN:=Lib.hid hkn
    clear hc hA hoka hokb hkn
    go_wp2_with fail
    go_at_call 37
    refine calls_named (S:=fun W=>Below wr.heap.size wr W) (by (repeat' (first | (with_reducible exact Below.refl _ _) | (with_reducible refine Below.setCell ?_ (by (first | omega | (simp; done) | (simp; omega))) _) | (with_reducible refine Below.alloc ?_ (by (first | omega | (simp; done) | (simp; omega))) _) | (with_reducible refine Below.drew ?_) | (with_reducible refine below_drewN ?_ _)))) ?_
    rintro W3a hb3
    refine (HKN.out W3a hb3).mono ?_
    rintro e W4 ⟨kb,g4,rfl,hmem,hm4,hsx4,hgo4⟩
    have HC4:=Lib.hid ((HC.out.below hb3).step hgo4 hm4 hsx4)
    have HKB:=Lib.hid (hsx4.st.known _ _ hmem)
    have cl:W4.cell? ⟨kb,0,none⟩ = some (.bool (clr g.f (ax,ay,az))):=by
     have:=k_clear (hsx4.st.known _ _ hmem)
     rwa [HC4.out.more.clr] at this
    clear hb3 hm4 hsx4 hgo4 hmem d0 d1 d2 HC HKN
    cases hcl:clr g.f (ax,ay,az) with
    | false =>
     rw [hcl] at cl
     have HE:=Lib.hid (HC4.out.ends (.inr hcl))
     clear hcl
     have hidx:T[n - 1]? = some p:=by
      rw [← HC4.out.len,← List.getLast?_eq_getElem?]
      exact HC4.out.last
     have HLAST:=Lib.hid HC4.out.last
     obtain ⟨px,py,pz⟩:=p
     have hrow:W4.cell? ⟨gr,(n - 1) * 3 + 1,none⟩ = some (.int .i64 py):=HC4.out.row.1.cell (j:=1) hidx rfl
     have hn1:0 < n:=HC4.out.pos
     have hn65:n≤65:=by have:=HC4.out.cnt; omega
     have hw:Blk W4 g.wk TWk (wcells g4):=by have:=HC4.out.sx.st.work; rwa [HC4.out.more.same.1] at this
     have w1:W4.cell? ⟨g.wk,1,none⟩ = some (.int .i64 g.at_.1):=by have:=hw.cell (i:=1) (v:=.int .i64 g4.at_.1) rfl; rwa [HC4.out.more.same.2.1] at this
     have w2:W4.cell? ⟨g.wk,2,none⟩ = some (.int .i64 g.at_.2.1):=by have:=hw.cell (i:=2) (v:=.int .i64 g4.at_.2.1) rfl; rwa [HC4.out.more.same.2.1] at this
     have w3:W4.cell? ⟨g.wk,3,none⟩ = some (.int .i64 g.at_.2.2):=by have:=hw.cell (i:=3) (v:=.int .i64 g4.at_.2.2) rfl; rwa [HC4.out.more.same.2.1] at this
     have w4:=hw.cell (i:=4) rfl
     have z4:=hw.frozen 4
     have hsxL:=HC4.out.sx.setLow (y:=py) ⟨HC4.out.low.1,HC4.out.low.2.1⟩
     have hgoL:Go g4 W4 (g4.setLow py) (W4.setCell ⟨g4.wk,4,none⟩ (.int .i64 py)):=Go.setLow
     have hwk:(g4.setLow py).wk = g.wk:=HC4.out.more.same.1
     rw [HC4.out.more.same.1] at hsxL hgoL
     have HCL2:=Lib.hid (show Col2 w g T py (.slice (some ⟨gr,0,none⟩) n c) n 0 (g4.setLow py) (W4.setCell ⟨g.wk,4,none⟩ (.int .i64 py)) from ⟨Nat.zero_le _,HC4.out.more.toC.trans (MoreC.setLow g4 py),hsxL,HC4.out.go.trans hgoL,HC4.out.row.go hgoL,rfl,congrFun HC4.out.more.same.2.2.2.1 true,fun q=>by rw [List.take_zero,if_neg (by simp)]; exact congrFun (congrFun HC4.out.more.same.2.2.2.1 false) q⟩)
     have hkn:=know_m (q:=g.at_) hsxL (HCL2.out.more.ok HAT.out)
     rw [hwk] at hkn
     have HKN2:=Lib.hid hkn
     have HLEN:=Lib.hid HC4.out.len
     have HTOK:=Lib.hid (show ∀ q ∈ T,okP g q from fun q hq=>by
      rw [HE.out] at hq
      rcases List.mem_cons.1 hq with e | hq
      ·rw [e]; exact HAT.out
      ·exact colV_ok (HCO.out (by trivial)) q hq)
     have HTC:=Lib.hid (show T = colT g.f g.at_ by rw [colT,HR.out,if_pos rfl]; exact HE.out)
     clear hidx hw hsxL hgoL hwk hkn
     go_wp2_with fail
     go_at_call 37
     refine HKN2.out.mono ?_
     rintro e W8 ⟨kb8,g8,rfl,hmem8,hm8,hsx8,hgo8⟩
     have HC8:=Lib.hid (HCL2.out.step hgo8 hm8 hsx8)
     have cl8:W8.cell? ⟨kb8,0,none⟩ = some (.bool (clr g.f g.at_)):=by
      have:=k_clear (hsx8.st.known _ _ hmem8)
      rwa [HC8.out.more.clr] at this
     clear hmem8 hm8 hsx8 hgo8 hrow w1 w2 w3 w4 z4 HKN2 HCL2
     cases hcl8:clr g.f g.at_ with
     | false =>
      rw [hcl8] at cl8
      have HCA:=Lib.hid hcl8
      clear hcl8
      go_wp2_with fail
      go_ret
      refine ⟨T,_,n,c,g8,rfl,HLEN.out,⟨HTC.out,HC8.out.more,⟨(px,py,pz),HLAST.out,fun _=>HC8.out.low,fun e=>by rw [HR.out] at e; cases e⟩,HC8.out.lamp,fun q=>?_⟩,HC8.out.sx,HC8.out.go,HC8.out.row⟩
      rw [if_neg (by rw [HCA.out]; rintro ⟨⟨_,e⟩,_⟩; cases e),HC8.out.sky,List.take_zero,if_neg (by simp)]
     | true =>
      rw [hcl8] at cl8
      have HCA:=Lib.hid hcl8
      clear hcl8
      go_wp2_with fail
      go_loopw [65] (fun v W=>Rel2 w g T py (.slice (some ⟨gr,0,none⟩) n c) n v W) (fun v _=>n - (intOf v).toNat)
      case atStart =>
       exact ⟨0,g8,rfl,HC8.out⟩
      case round =>
       obtain ⟨i,g9,rfl,hc9⟩:=hrel
       have HC9:=Lib.hid hc9
       have hi9:=hc9.le
       by_cases hin:i < n
       ·have hinI:(i:Int) < n:=by omega
        obtain ⟨q,hq⟩:∃ q,T[i]? = some q:=⟨_,List.getElem?_eq_getElem (by have:=HLEN.out; omega)⟩
        have HQ:=Lib.hid hq
        have hokq:=hc9.more.ok (HTOK.out q (List.mem_of_getElem? hq))
        obtain ⟨qx,qy,qz⟩:=q
        have r0:wr.cell? ⟨gr,i * 3,none⟩ = some (.int .i64 qx):=hc9.row.1.cell (j:=0) hq rfl
        have r1:wr.cell? ⟨gr,i * 3 + 1,none⟩ = some (.int .i64 qy):=hc9.row.1.cell (j:=1) hq rfl
        have r2:wr.cell? ⟨gr,i * 3 + 2,none⟩ = some (.int .i64 qz):=hc9.row.1.cell (j:=2) hq rfl
        have hkn:=fun W2 (hb:Below wr.heap.size wr W2)=>know_m (q:=(qx,qy,qz)) (hc9.sx.below hb) hokq
        rw [hc9.more.same.1] at hkn
        have HKN:=Lib.hid hkn
        clear hkn hc9 hq hokq
        go_wp2_with fail
        go_at_call 37
        refine calls_named (S:=fun W=>Below wr.heap.size wr W) (by (repeat' (first | (with_reducible exact Below.refl _ _) | (with_reducible refine Below.setCell ?_ (by (first | omega | (simp; done) | (simp; omega))) _) | (with_reducible refine Below.alloc ?_ (by (first | omega | (simp; done) | (simp; omega))) _) | (with_reducible refine Below.drew ?_) | (with_reducible refine below_drewN ?_ _)))) ?_
        rintro Wa hba
        refine (HKN.out Wa hba).mono ?_
        rintro e Wb ⟨kb,gb,rfl,hmem,hmb,hsxb,hgob⟩
        have HCB:=Lib.hid (HC9.out.step ((Go.below g9 hba).trans hgob) hmb hsxb)
        have HKB:=Lib.hid (hsxb.st.known _ _ hmem)
        have n1:Wb.cell? ⟨kb,1,none⟩ = some (.int .u8 (gb.ow false (qx,qy,qz):Int)):=k_own false HKB.out
        have z1:=HKB.out.frozen 1
        have HME:=Lib.hid hmem
        clear hba hmb hsxb hgob hmem r0 r1 r2 HC9 HKN
        go_wp2_with fail
        go_roundw
        case rel=>exact ⟨i + 1,gb.setO (qx,qy,qz),by go_num,HCB.out.put HQ.out hin HME.out⟩
        case measure=>(simp only [intOf]; omega)
       ·obtain rfl:n = i:=by omega
        clear hc9
        go_wp2_with fail
        go_ret
        refine ⟨T,_,n,c,g9,rfl,HLEN.out,⟨HTC.out,HC9.out.more,⟨(px,py,pz),HLAST.out,fun _=>HC9.out.low,fun e=>by rw [HR.out] at e; cases e⟩,HC9.out.lamp,fun q=>?_⟩,HC9.out.sx,HC9.out.go,HC9.out.row⟩
        rw [HC9.out.sky,← HLEN.out,List.take_length]
        by_cases e:q ∈ T
        ·rw [if_pos e,if_pos ⟨⟨HR.out,HCA.out⟩,e⟩]
        ·rw [if_neg e,if_neg (fun k=>e k.2)]
    | true =>
     rw [hcl] at cl
     have HCL:=Lib.hid hcl
     have b0:=HC4.out.box.1.cell (i:=0) rfl
     have b1:=HC4.out.box.1.cell (i:=1) rfl
     have b2:=HC4.out.box.1.cell (i:=2) rfl
     clear hcl
     go_wp2_with ((with_reducible refine at_slot 42 ?_); refine Classical.byContradiction (fun hG=>?_))
     refine hG ?_
     clear hG
     refine wp_pushP (w0:=W4) (y:=(ax,ay,az)) (v:=.slice (some ⟨gr,0,none⟩) n c) (l:=T) rfl (.tmp 39) (.tmp 41) rfl rfl rfl rfl HC4.out.row.1 rfl HC4.out.len (by have:=HC4.out.cnt; omega) (Nat.zero_le _) ?_
     intro gr5 c5 W5 hpu
     have HPU:=Lib.hid hpu
     have hbx:Blk W5 qb TP [.int .i64 ax,.int .i64 ay,.int .i64 az]:=(Fr.grown (S:=fun j=>(Value.slice (some ⟨gr,0,none⟩) n c).ownBlock = some j) hpu.2.1 (fun i e=>e)).blk HC4.out.box.1 (fun e=>(HC4.out.new.2 _ e).2 rfl)
     have b0:=hbx.cell (i:=0) rfl
     have b1:=hbx.cell (i:=1) rfl
     have b2:=hbx.cell (i:=2) rfl
     obtain ⟨X,Y,Z,r2,hst⟩:∃ X Y Z r,PlaceW.stepOf ax ay az 5 = (X,Y,Z,r):=⟨_,_,_,_,rfl⟩
     have HST2:=Lib.hid hst
     clear hpu hbx hst cl
     go_wp2_with fail
     go_at_call 52
     refine calls_named (S:=fun W=>Below W5.heap.size W5 W∧Blk W W5.heap.size TP [.int .i64 ax,.int .i64 ay,.int .i64 az]) ⟨by (repeat' (first | (with_reducible exact Below.refl _ _) | (with_reducible refine Below.setCell ?_ (by (first | omega | (simp; done) | (simp; omega))) _) | (with_reducible refine Below.alloc ?_ (by (first | omega | (simp; done) | (simp; omega))) _) | (with_reducible refine Below.drew ?_) | (with_reducible refine below_drewN ?_ _))),by (repeat' (first | (with_reducible refine BlkP.Blk.drew ?_) | (with_reducible refine BlkP.Blk.drewN ?_ _) | (with_reducible refine BlkP.Blk.setAt (us:=?_) (by first | omega | (simp; done) | (simp; omega)) rfl ?_ ?_) | (with_reducible refine BlkP.Blk.otherAt ?_ (by first | omega | (simp; done) | (simp; omega))) | (with_reducible refine BlkP.Blk.newA' (by first | omega | (simp; done) | (simp; omega)) rfl) | (with_reducible refine BlkP.Blk.alloc ?_ _) | (exact rfl)))⟩ ?_
     rintro W6a ⟨hb6a,hq6a⟩
     refine (PlaceW.step_c HST2.out _).mono ?_
     rintro e W6 ⟨rfl,hb6⟩
     have HB6:=Lib.hid (hb6a.trans (hb6.mono hb6a.size))
     have HQ6:=Lib.hid (hq6a.below hb6)
     have c0:=HQ6.out.cell (i:=0) rfl
     have c1:=HQ6.out.cell (i:=1) rfl
     have c2:=HQ6.out.cell (i:=2) rfl
     have f0:=HQ6.out.frozen 0
     have f1:=HQ6.out.frozen 1
     have f2:=HQ6.out.frozen 2
     have hl6:=HQ6.out.lt
     clear hb6a hq6a hb6 b0 b1 b2
     go_wp2_with fail
     go_roundw
     case rel =>
      refine ⟨T ++ [(ax,ay,az)],(ax,ay,az),(X,Y,Z),n + 1,W5.heap.size,k,r2,g4,rfl,rfl,rfl,Col1.next HS.out HC4.out HCL.out (HOB.out HCL.out) HPU.out (by (repeat' (first | (with_reducible exact Below.refl _ _) | (with_reducible refine Below.setCell ?_ (by (first | omega | (simp; done) | (simp; omega))) _) | (with_reducible refine Below.alloc ?_ (by (first | omega | (simp; done) | (simp; omega))) _) | (with_reducible refine Below.drew ?_) | (with_reducible refine below_drewN ?_ _))); exact HB6.out) (by have q:=HQ6.out; (repeat' (first | (with_reducible exact q) | (with_reducible refine BlkP.Blk.drew ?_) | (with_reducible refine BlkP.Blk.drewN ?_ _) | (with_reducible refine BlkP.Blk.setAt (us:=?_) (by first | omega | (simp; done) | (simp; omega)) rfl ?_ ?_) | (with_reducible refine BlkP.Blk.otherAt ?_ (by first | omega | (simp; done) | (simp; omega))) | (with_reducible refine BlkP.Blk.newA' (by first | omega | (simp; done) | (simp; omega)) rfl) | (with_reducible refine BlkP.Blk.alloc ?_ _) | (exact rfl)))) HST2.out⟩
     case measure =>
      have:=HC4.out.cnt
      simp only [lenOf]
      omega
end FloodW
end Go.Proofs.YtpimkdaikoclnaaDoor
namespace Go.Proofs.YtpimkdaikoclnaaDoor
open Go.RowKit
set_option linter.unusedVariables false
set_option linter.unusedSimpArgs false
namespace FloodW
open BlkP RowG GlowW FloodP
theorem wr64 {n:Int} (h1:-9223372036854775808≤n) (h2:n < 9223372036854775808):wrap64 n = n:=by
 unfold wrap64
 rw [Int.emod_eq_of_lt (by omega) (by omega)]
 omega
theorem mayB_iff {x y z:Int}:PlaceW.mayB x y z = true↔mayP (x,y,z):=⟨fun h=>by
 have h1:=PlaceW.mayB_true h
 exact h1,may_yes⟩
def mvV (q:V) (k:Nat):V:=if k = 0 then (q.1 + 1,q.2.1,q.2.2) else if k = 1 then (q.1 - 1,q.2.1,q.2.2) else if k = 2 then (q.1,q.2.1,q.2.2 + 1) else if k = 3 then (q.1,q.2.1,q.2.2 - 1) else if k = 4 then (q.1,q.2.1 + 1,q.2.2) else (q.1,q.2.1 - 1,q.2.2)
theorem mv_is {q:V} (hq:mayP q):∀ k:Nat,k < 6→PlaceW.mv (k:Int) q.1 q.2.1 q.2.2 = ((mvV q k).1,(mvV q k).2.1,(mvV q k).2.2,true)
 | 0,_=>by
  unfold mayP at hq
  show (wrap64 (q.1 + 1),q.2.1,q.2.2,true) = _
  rw [wr64 (by omega) (by omega)]
  rfl
 | 1,_=>by
  unfold mayP at hq
  show (wrap64 (q.1 - 1),q.2.1,q.2.2,true) = _
  rw [wr64 (by omega) (by omega)]
  rfl
 | 2,_=>by
  unfold mayP at hq
  show (q.1,q.2.1,wrap64 (q.2.2 + 1),true) = _
  rw [wr64 (by omega) (by omega)]
  rfl
 | 3,_=>by
  unfold mayP at hq
  show (q.1,q.2.1,wrap64 (q.2.2 - 1),true) = _
  rw [wr64 (by omega) (by omega)]
  rfl
 | 4,_=>by
  unfold mayP at hq
  show (q.1,wrap64 (q.2.1 + 1),q.2.2,true) = _
  rw [wr64 (by omega) (by omega)]
  rfl
 | 5,_=>by
  unfold mayP at hq
  show (q.1,wrap64 (q.2.1 - 1),q.2.2,true) = _
  rw [wr64 (by omega) (by omega)]
  rfl
 | k + 6,h=>by omega
theorem sideO_iff {q s:V} {k:Nat} (hk:k < 6):sideO q k = some s↔mayP q∧mayP s∧s = mvV q k:=by
 by_cases hq:mayP q
 ·have hb:PlaceW.mayB q.1 q.2.1 q.2.2 = true:=mayB_iff.2 hq
  have hst:PlaceW.stepOf q.1 q.2.1 q.2.2 (k:Int) = if PlaceW.mayB (mvV q k).1 (mvV q k).2.1 (mvV q k).2.2 = true then ((mvV q k).1,(mvV q k).2.1,(mvV q k).2.2,true) else (0,0,0,false):=by
   unfold PlaceW.stepOf
   rw [if_pos hb,mv_is hq k hk]
   simp only [true_and]
  by_cases hm:mayP (mvV q k)
  ·have hm':PlaceW.mayB (mvV q k).1 (mvV q k).2.1 (mvV q k).2.2 = true:=mayB_iff.2 hm
   rw [if_pos hm'] at hst
   have e:sideO q k = some (mvV q k):=by
    unfold sideO
    rw [hst]
    rfl
   rw [e]
   exact ⟨fun h=>by
    injection h with h
    rw [← h]
    exact ⟨hq,hm,rfl⟩,fun h=>by rw [h.2.2]⟩
  ·have hm':¬ PlaceW.mayB (mvV q k).1 (mvV q k).2.1 (mvV q k).2.2 = true:=fun h=>hm (mayB_iff.1 h)
   rw [if_neg hm'] at hst
   have e:sideO q k = none:=by
    unfold sideO
    rw [hst]
    rfl
   rw [e]
   exact ⟨(fun h=>by cases h),fun h=>absurd (h.2.2 ▸ h.2.1) hm⟩
 ·have hst:PlaceW.stepOf q.1 q.2.1 q.2.2 (k:Int) = (0,0,0,false):=by
   unfold PlaceW.stepOf
   rw [if_neg (fun h=>hq (mayB_iff.1 h))]
  have e:sideO q k = none:=by
   unfold sideO
   rw [hst]
   rfl
  rw [e]
  exact ⟨(fun h=>by cases h),fun h=>absurd h.1 hq⟩
def adj (q s:V):Prop:=((s.1 = q.1 + 1 ∨ s.1 = q.1 - 1)∧s.2.1 = q.2.1∧s.2.2 = q.2.2) ∨ (s.1 = q.1∧(s.2.1 = q.2.1 + 1 ∨ s.2.1 = q.2.1 - 1)∧s.2.2 = q.2.2) ∨ (s.1 = q.1∧s.2.1 = q.2.1∧(s.2.2 = q.2.2 + 1 ∨ s.2.2 = q.2.2 - 1))
theorem adj_mv (q:V):∀ k:Nat,k < 6→adj q (mvV q k)
 | 0,_=>.inl ⟨.inl rfl,rfl,rfl⟩
 | 1,_=>.inl ⟨.inr rfl,rfl,rfl⟩
 | 2,_=>.inr (.inr ⟨rfl,rfl,.inl rfl⟩)
 | 3,_=>.inr (.inr ⟨rfl,rfl,.inr rfl⟩)
 | 4,_=>.inr (.inl ⟨rfl,.inl rfl,rfl⟩)
 | 5,_=>.inr (.inl ⟨rfl,.inr rfl,rfl⟩)
 | k + 6,h=>by omega
theorem mv_adj {q s:V} (h:adj q s):∃ k,k < 6∧s = mvV q k:=by
 rcases h with ⟨h1 | h1,h2,h3⟩ | ⟨h1,h2 | h2,h3⟩ | ⟨h1,h2,h3 | h3⟩
 ·exact ⟨0,by omega,Prod.ext h1 (Prod.ext h2 h3)⟩
 ·exact ⟨1,by omega,Prod.ext h1 (Prod.ext h2 h3)⟩
 ·exact ⟨4,by omega,Prod.ext h1 (Prod.ext h2 h3)⟩
 ·exact ⟨5,by omega,Prod.ext h1 (Prod.ext h2 h3)⟩
 ·exact ⟨2,by omega,Prod.ext h1 (Prod.ext h2 h3)⟩
 ·exact ⟨3,by omega,Prod.ext h1 (Prod.ext h2 h3)⟩
theorem mem_sidesV {q s:V}:s ∈ sidesV q↔mayP q∧mayP s∧adj q s:=by
 unfold sidesV sidesTo
 rw [List.mem_filterMap]
 constructor
 ·rintro ⟨k,hk,h⟩
  have hk:=List.mem_range.1 hk
  obtain ⟨h1,h2,h3⟩:=(sideO_iff hk).1 h
  refine ⟨h1,h2,?_⟩
  rw [h3]
  exact adj_mv q k hk
 ·rintro ⟨h1,h2,h3⟩
  obtain ⟨k,hk,h4⟩:=mv_adj h3
  exact ⟨k,List.mem_range.2 hk,(sideO_iff hk).2 ⟨h1,h2,h4⟩⟩
theorem adj_sym {q s:V} (h:adj q s):adj s q:=by
 unfold adj at h ⊢
 omega
theorem sidesV_sym {q s:V} (h:s ∈ sidesV q):q ∈ sidesV s:=by
 obtain ⟨h1,h2,h3⟩:=mem_sidesV.1 h
 exact mem_sidesV.2 ⟨h2,h1,adj_sym h3⟩
theorem sidesV_irr (q:V):q ∉ sidesV q:=fun h=>by
 obtain ⟨_,_,h3⟩:=mem_sidesV.1 h
 unfold adj at h3
 omega
theorem dG_near {g:Gh} {q s:V} (h:s ∈ sidesV q):dG g s≤dG g q + 1:=by
 obtain ⟨_,_,h3⟩:=mem_sidesV.1 h
 unfold adj at h3
 unfold dG gapZ clampY
 omega
def plc (f:Fld) (i:Nat):V:=(f.lo.1 + (i % f.X:Nat),f.lo.2.1 + (i / f.X / f.Z:Nat),f.lo.2.2 + (i / f.X % f.Z:Nat))
section
variable {f:Fld}
theorem plc_in {i:Nat} (h:i < f.X * f.Y * f.Z):inB f (plc f i) = true:=by
 obtain ⟨h1,h2,h3⟩:=GlowP.at_box h
 refine inB_iff.2 ?_
 unfold plc
 simp only
 generalize i / f.X / f.Z = a at *
 generalize i / f.X % f.Z = b at *
 generalize i % f.X = c at *
 omega
theorem num_plc {i:Nat} (h:i < f.X * f.Y * f.Z):numB f (plc f i) = i:=by
 have key:∀ (x:Int) (n:Nat),(x + (n:Int) - x).toNat = n:=fun x n=>by omega
 unfold numB plc
 simp only [key]
 exact GlowP.at_self
theorem numB_at (q:V):numB f q = GlowP.at_ f.X f.Z (q.1 - f.lo.1).toNat (q.2.2 - f.lo.2.2).toNat (q.2.1 - f.lo.2.1).toNat:=rfl
theorem plc_num {q:V} (h:inB f q = true):plc f (numB f q) = q:=by
 have:=inB_iff.1 h
 rw [numB_at]
 unfold plc
 rw [GlowP.at_x (by omega),GlowP.at_y (by omega) (by omega),GlowP.at_z (by omega) (by omega)]
 refine Prod.ext ?_ (Prod.ext ?_ ?_) <;> simp only <;> omega
theorem in_may (hW:FldW f) {q:V} (h:inB f q = true):mayP q:=by
 have:=inB_iff.1 h
 have h1:=hW.lx
 have h2:=hW.ly
 have h3:=hW.lz
 unfold mayP
 omega
theorem in_ext {q:V} (h:inB f q = true):ext f q:=by
 have:=inB_iff.1 h
 unfold ext
 omega
theorem adj_ext {q s:V} (h:inB f q = true) (hs:adj q s):ext f s:=by
 have:=inB_iff.1 h
 unfold adj at hs
 unfold ext
 omega
theorem opq_out:openA (1,0) = false:=by decide
theorem clr_in {q:V} (h:clr f q = true):inB f q = true:=by
 cases e:inB f q with
 | true=>rfl
 | false =>
  unfold clr cellAt at h
  rw [e,if_neg (by simp),opq_out] at h
  cases h
def boxL (f:Fld):List V:=(List.range (f.X * f.Y * f.Z)).map (plc f)
theorem boxL_mem (hW:FldW f) {q:V}:q ∈ boxL f↔inB f q = true:=by
 unfold boxL
 rw [List.mem_map]
 constructor
 ·rintro ⟨i,hi,rfl⟩
  exact plc_in (List.mem_range.1 hi)
 ·intro h
  exact ⟨numB f q,List.mem_range.2 (numB_lt hW h),plc_num h⟩
theorem boxL_dup (f:Fld):(boxL f).Nodup:=List.pairwise_map.2 (List.Pairwise.imp_of_mem (fun {a b} ha hb hne e=>hne (by rw [← num_plc (List.mem_range.1 ha),e,num_plc (List.mem_range.1 hb)])) List.nodup_range)
theorem boxL_len (hW:FldW f):(boxL f).length≤1024:=by
 unfold boxL
 rw [List.length_map,List.length_range]
 have hx:=hW.x
 have hy:=hW.y
 have hz:=hW.z
 have m1:f.X * f.Y≤8 * 16:=Nat.mul_le_mul (by omega) (by omega)
 have m2:f.X * f.Y * f.Z≤8 * 16 * 8:=Nat.mul_le_mul m1 (by omega)
 omega
end
def upV (q:V) (k:Nat):V:=(q.1,q.2.1 + (k:Int),q.2.2)
def dnV (q:V) (k:Nat):V:=(q.1,q.2.1 - (k:Int),q.2.2)
theorem upV_zero (q:V):upV q 0 = q:=Prod.ext rfl (Prod.ext (by simp [upV]) rfl)
theorem upV_up (q:V) (i j:Nat):upV (upV q i) j = upV q (i + j):=Prod.ext rfl (Prod.ext (by simp only [upV]; omega) rfl)
theorem dnV_up {q:V} {i j:Nat} (h:j≤i):upV (dnV q i) j = dnV q (i - j):=Prod.ext rfl (Prod.ext (by simp only [upV,dnV]; omega) rfl)
theorem dnV_up2 {q:V} {i j:Nat} (h:i≤j):upV (dnV q i) j = upV q (j - i):=Prod.ext rfl (Prod.ext (by simp only [upV,dnV]; omega) rfl)
theorem dnV_zero (q:V):dnV q 0 = q:=Prod.ext rfl (Prod.ext (by simp [dnV]) rfl)
def skyS (cl:V→Bool) (q:V):Nat:=if cl q = true∧∀ k:Nat,k < 64→(q.2.1 + (k:Int)≤63→cl (upV q k) = true) then 15 else 0
section
variable {cl cl':V→Bool} {q:V}
theorem skyS_or (cl:V→Bool) (q:V):skyS cl q = 15 ∨ skyS cl q = 0:=by
 unfold skyS
 split
 ·exact .inl rfl
 ·exact .inr rfl
theorem skyS_le (cl:V→Bool) (q:V):skyS cl q≤15:=by rcases skyS_or cl q with h | h <;> omega
theorem skyS_iff (hy:0≤q.2.1):skyS cl q = 15↔cl q = true∧∀ k:Nat,q.2.1 + (k:Int)≤63→cl (upV q k) = true:=by
 unfold skyS
 constructor
 ·intro h
  split at h
  ·rename_i h1
   exact ⟨h1.1,fun k hk=>h1.2 k (by omega) hk⟩
  ·cases h
 ·rintro ⟨h1,h2⟩
  rw [if_pos ⟨h1,fun k _ hk=>h2 k hk⟩]
theorem skyS_zero {k:Nat} (hy:0≤q.2.1) (hk:q.2.1 + (k:Int)≤63) (h:cl (upV q k) = false):skyS cl q = 0:=by
 rcases skyS_or cl q with e | e
 ·have:=((skyS_iff hy).1 e).2 k hk
  rw [h] at this
  cases this
 ·exact e
theorem skyS_dark (h:cl q = false):skyS cl q = 0:=by
 unfold skyS
 rw [if_neg (by rw [h]; simp)]
theorem skyS_congr (h:∀ k:Nat,cl (upV q k) = cl' (upV q k)):skyS cl q = skyS cl' q:=by
 have h0:=h 0
 rw [upV_zero] at h0
 unfold skyS
 rw [h0]
 have e:(∀ k:Nat,k < 64→(q.2.1 + (k:Int)≤63→cl (upV q k) = true))↔(∀ k:Nat,k < 64→(q.2.1 + (k:Int)≤63→cl' (upV q k) = true)):=⟨fun a k hk hq=>by rw [← h k]; exact a k hk hq,fun a k hk hq=>by rw [h k]; exact a k hk hq⟩
 by_cases c:cl' q = true∧∀ k:Nat,k < 64→(q.2.1 + (k:Int)≤63→cl' (upV q k) = true)
 ·rw [if_pos c,if_pos ⟨c.1,e.2 c.2⟩]
 ·rw [if_neg c,if_neg (fun d=>c ⟨d.1,e.1 d.2⟩)]
end
def upC (f:Fld) (q:V):Prop:=∀ k:Nat,1≤k→q.2.1 + (k:Int)≤63→clr f (upV q k) = true
theorem sideO_up {q:V} (hq:mayP q):sideO q 4 = if q.2.1 + 1≤63 then some (upV q 1) else none:=by
 by_cases h:q.2.1 + 1≤63
 ·rw [if_pos h]
  refine (sideO_iff (by omega)).2 ⟨hq,?_,Prod.ext rfl (Prod.ext ?_ rfl)⟩
  ·unfold mayP upV at *
   simp only
   omega
  ·simp [upV,mvV]
 ·rw [if_neg h]
  cases e:sideO q 4 with
  | none=>rfl
  | some s =>
   obtain ⟨_,h2,h3⟩:=(sideO_iff (by omega)).1 e
   rw [h3] at h2
   unfold mayP at h2
   have e2:(mvV q 4).2.1 = q.2.1 + 1:=rfl
   omega
theorem sideO_dn {q:V} (hq:mayP q):sideO q 5 = if 0≤q.2.1 - 1 then some (dnV q 1) else none:=by
 by_cases h:0≤q.2.1 - 1
 ·rw [if_pos h]
  refine (sideO_iff (by omega)).2 ⟨hq,?_,Prod.ext rfl (Prod.ext ?_ rfl)⟩
  ·unfold mayP dnV at *
   simp only
   omega
  ·simp [dnV,mvV]
 ·rw [if_neg h]
  cases e:sideO q 5 with
  | none=>rfl
  | some s =>
   obtain ⟨_,h2,h3⟩:=(sideO_iff (by omega)).1 e
   rw [h3] at h2
   unfold mayP at h2
   have e2:(mvV q 5).2.1 = q.2.1 - 1:=rfl
   omega
theorem may_up {q:V} (hq:mayP q) {k:Nat} (h:q.2.1 + (k:Int)≤63):mayP (upV q k):=by
 unfold mayP upV at *
 simp only
 omega
theorem may_dn {q:V} (hq:mayP q) {k:Nat} (h:0≤q.2.1 - (k:Int)):mayP (dnV q k):=by
 unfold mayP dnV at *
 simp only
 omega
theorem opn_gen {f:Fld}:∀ (n:Nat) (q:V) (br:Bool),mayP q→(opn f n q br = true↔(∀ k:Nat,1≤k→k≤n→q.2.1 + (k:Int)≤63→clr f (upV q k) = true)∧(q.2.1 + (n:Int)≤63→br = true∧∀ k:Nat,1≤k→k≤n→wasB f false (upV q k) = 15))
 | 0,q,br,hq=>by
  unfold mayP at hq
  constructor
  ·intro h
   exact ⟨fun k h1 h2=>by omega,fun _=>⟨h,fun k h1 h2=>by omega⟩⟩
  ·intro h
   exact (h.2 (by simp only [Int.ofNat_zero,Int.natCast_zero] at *; omega)).1
 | n + 1,q,br,hq=>by
  unfold opn
  rw [sideO_up hq]
  by_cases hy:q.2.1 + 1≤63
  ·rw [if_pos hy]
   simp only
   have hq1:mayP (upV q 1):=may_up hq (by omega)
   have ih:=opn_gen (f:=f) n (upV q 1) (br && decide (wasB f false (upV q 1) = 15)) hq1
   have ey:(upV q 1).2.1 = q.2.1 + 1:=by simp [upV]
   cases hc:clr f (upV q 1) with
   | false =>
    rw [if_neg (by simp)]
    constructor
    ·intro h
     cases h
    ·intro h
     have:=h.1 1 (by omega) (by omega) (by omega)
     rw [hc] at this
     cases this
   | true =>
    rw [if_pos rfl,ih,ey]
    constructor
    ·rintro ⟨h1,h2⟩
     refine ⟨fun k k1 k2 k3=>?_,fun h3=>?_⟩
     ·by_cases e:k = 1
      ·rw [e]
       exact hc
      ·have:=h1 (k - 1) (by omega) (by omega) (by omega)
       rw [upV_up,show 1 + (k - 1) = k by omega] at this
       exact this
     ·obtain ⟨h4,h5⟩:=h2 (by omega)
      rw [Bool.and_eq_true,decide_eq_true_eq] at h4
      refine ⟨h4.1,fun k k1 k2=>?_⟩
      by_cases e:k = 1
      ·rw [e]
       exact h4.2
      ·have:=h5 (k - 1) (by omega) (by omega)
       rw [upV_up,show 1 + (k - 1) = k by omega] at this
       exact this
    ·rintro ⟨h1,h2⟩
     refine ⟨fun k k1 k2 k3=>?_,fun h3=>?_⟩
     ·rw [upV_up]
      exact h1 _ (by omega) (by omega) (by omega)
     ·obtain ⟨h4,h5⟩:=h2 (by omega)
      refine ⟨?_,fun k k1 k2=>?_⟩
      ·rw [Bool.and_eq_true,decide_eq_true_eq]
       exact ⟨h4,h5 1 (by omega) (by omega)⟩
      ·rw [upV_up]
       exact h5 _ (by omega) (by omega)
  ·rw [if_neg hy]
   simp only [true_iff]
   exact ⟨fun k k1 k2 k3=>by omega,fun h3=>by omega⟩
theorem colV_mem {f:Fld}:∀ (n:Nat) (q c:V),mayP q→(c ∈ colV f n q↔∃ k:Nat,1≤k∧k≤n∧c = dnV q k∧0≤q.2.1 - (k:Int)∧∀ j:Nat,1≤j→j≤k→clr f (dnV q j) = true)
 | 0,q,c,hq=>by
  constructor
  ·intro h
   cases h
  ·rintro ⟨k,h1,h2,_⟩
   omega
 | n + 1,q,c,hq=>by
  unfold colV
  rw [sideO_dn hq]
  by_cases hy:0≤q.2.1 - 1
  ·rw [if_pos hy]
   simp only
   have hq1:mayP (dnV q 1):=may_dn hq (by omega)
   have ih:=colV_mem (f:=f) n (dnV q 1) c hq1
   have ey:(dnV q 1).2.1 = q.2.1 - 1:=by simp [dnV]
   have dd:∀ k,dnV (dnV q 1) k = dnV q (1 + k):=fun k=>Prod.ext rfl (Prod.ext (by simp only [dnV]; omega) rfl)
   cases hc:clr f (dnV q 1) with
   | false =>
    rw [if_neg (by simp)]
    constructor
    ·intro h
     cases h
    ·rintro ⟨k,h1,h2,h3,h4,h5⟩
     have:=h5 1 (by omega) h1
     rw [hc] at this
     cases this
   | true =>
    rw [if_pos rfl,List.mem_cons,ih,ey]
    constructor
    ·rintro (h | ⟨k,h1,h2,h3,h4,h5⟩)
     ·refine ⟨1,by omega,by omega,h,by omega,fun j j1 j2=>?_⟩
      rw [show j = 1 by omega]
      exact hc
     ·refine ⟨1 + k,by omega,by omega,by rw [h3,dd],by omega,fun j j1 j2=>?_⟩
      by_cases e:j = 1
      ·rw [e]
       exact hc
      ·have:=h5 (j - 1) (by omega) (by omega)
       rw [dd,show 1 + (j - 1) = j by omega] at this
       exact this
    ·rintro ⟨k,h1,h2,h3,h4,h5⟩
     by_cases e:k = 1
     ·rw [e] at h3
      exact .inl h3
     ·refine .inr ⟨k - 1,by omega,by omega,?_,by omega,fun j j1 j2=>?_⟩
      ·rw [dd,show 1 + (k - 1) = k by omega]
       exact h3
      ·rw [dd]
       exact h5 _ (by omega) (by omega)
  ·rw [if_neg hy]
   constructor
   ·intro h
    cases h
   ·rintro ⟨k,h1,h2,h3,h4,h5⟩
    omega
theorem colV_low {f:Fld} {n:Nat} {q c:V} (hq:mayP q) (h:c ∈ colV f n q):c.2.1 < q.2.1:=by
 obtain ⟨k,h1,_,h3,_,_⟩:=(colV_mem n q c hq).1 h
 rw [h3]
 simp only [dnV]
 omega
theorem colV_dup {f:Fld}:∀ (n:Nat) (q:V),mayP q→(colV f n q).Nodup
 | 0,q,_=>List.nodup_nil
 | n + 1,q,hq=>by
  unfold colV
  rw [sideO_dn hq]
  by_cases hy:0≤q.2.1 - 1
  ·rw [if_pos hy]
   simp only
   have hq1:mayP (dnV q 1):=may_dn hq (by omega)
   split
   ·refine List.nodup_cons.2 ⟨fun h=>?_,colV_dup n _ hq1⟩
    have:=colV_low hq1 h
    omega
   ·exact List.nodup_nil
  ·rw [if_neg hy]
   exact List.nodup_nil
theorem last_low {f:Fld}:∀ (n:Nat) (q l:V),mayP q→(q :: colV f n q).getLast? = some l→(l ∈ q :: colV f n q)∧∀ c ∈ q :: colV f n q,l.2.1≤c.2.1
 | 0,q,l,hq,h=>by
  have e:q = l:=by simpa [colV] using h
  subst e
  refine ⟨List.mem_cons_self,fun c hc=>?_⟩
  have:c = q:=by simpa [colV] using hc
  rw [this]
  exact Int.le_refl _
 | n + 1,q,l,hq,h=>by
  unfold colV at h ⊢
  rw [sideO_dn hq] at h ⊢
  by_cases hy:0≤q.2.1 - 1
  ·rw [if_pos hy] at h ⊢
   simp only at h ⊢
   have hq1:mayP (dnV q 1):=may_dn hq (by omega)
   cases hc:clr f (dnV q 1) with
   | false =>
    rw [hc,if_neg (by simp)] at h
    rw [if_neg (by simp)]
    have e:q = l:=by simpa using h
    subst e
    refine ⟨List.mem_cons_self,fun c hc=>?_⟩
    have:c = q:=by simpa using hc
    rw [this]
    exact Int.le_refl _
   | true =>
    rw [hc,if_pos rfl,List.getLast?_cons_cons] at h
    rw [if_pos rfl]
    obtain ⟨h1,h2⟩:=last_low n (dnV q 1) l hq1 h
    refine ⟨List.mem_cons_of_mem _ h1,fun c hc=>?_⟩
    rcases List.mem_cons.1 hc with e | hc
    ·rw [e]
     have:=h2 _ List.mem_cons_self
     simp only [dnV] at this
     omega
    ·exact h2 c hc
  ·rw [if_neg hy] at h ⊢
   simp only at h ⊢
   have e:q = l:=by simpa using h
   subst e
   refine ⟨List.mem_cons_self,fun c hc=>?_⟩
   have:c = q:=by simpa using hc
   rw [this]
   exact Int.le_refl _
end FloodW
end Go.Proofs.YtpimkdaikoclnaaDoor
namespace Go.Proofs.YtpimkdaikoclnaaDoor
open Go.RowKit
set_option linter.unusedVariables false
set_option linter.unusedSimpArgs false
namespace FloodW
open BlkP RowG GlowW FloodP
abbrev TKP:TypeId:=96
structure KP (W:World) (g:Gh) (B kb:Nat) (vs:List Value) (ls:Nat→List V):Prop where
 blk:Loc W g kb TKP vs
 len:vs.length = 16
 own:∀ (k:Nat) (v:Value),vs[k]? = some v→LocR W g v (ls k)
 old:∀ (k:Nat) (v:Value),vs[k]? = some v→∀ x,v.ownBlock = some x→B≤x
 dj:∀ (j k:Nat) (v u:Value),j ≠ k→vs[j]? = some v→vs[k]? = some u→∀ x,v.ownBlock = some x→u.ownBlock ≠ some x
theorem KP.go {W W':World} {g g':Gh} {B kb:Nat} {vs:List Value} {ls:Nat→List V} (h:KP W g B kb vs ls) (k:Go g W g' W'):KP W' g' B kb vs ls:=⟨h.blk.go k,h.len,fun j v hj=>(h.own j v hj).go k,h.old,h.dj⟩
theorem KP.get {W:World} {g:Gh} {B kb:Nat} {vs:List Value} {ls:Nat→List V} (h:KP W g B kb vs ls) {k:Nat} (hk:k < 16):∃ v,vs[k]? = some v:=⟨_,List.getElem?_eq_getElem (by rw [h.len]; exact hk)⟩
structure BM (w:World) (g:Gh) (b:Bool) (fo bf bl:Nat) (vs:List Value) (ls:Nat→List V) (Ds:List Nat) (gh:Gh) (W:World):Prop where
 m:MoreB b g gh
 go:Go g w gh W
 bf:Loc W gh bf TPart [.func (.func fo) #[] #[]]
 kp:KP W gh w.heap.size bl vs ls
 mks:Marks w.heap.size Ds W
 ds:∀ D ∈ Ds,¬ Ss gh D
section
variable {w:World} {g:Gh} {b:Bool} {fo bf bl:Nat} {vs:List Value} {ls:Nat→List V} {Ds:List Nat} {gh gh':Gh} {W W':World}
theorem BM.stepB (h:BM w g b fo bf bl vs ls Ds gh W) (k:Go gh W gh' W') (hm:MoreB b gh gh'):BM w g b fo bf bl vs ls Ds gh' W' :=
 ⟨h.m.trans hm,h.go.trans k,h.bf.go k,h.kp.go k,(marks_go h.mks h.ds k).1,(marks_go h.mks h.ds k).2⟩
theorem BM.step (h:BM w g b fo bf bl vs ls Ds gh W) (k:Go gh W gh' W') (hm:More gh gh'):BM w g b fo bf bl vs ls Ds gh' W':=h.stepB k hm.toB
theorem BM.below (h:BM w g b fo bf bl vs ls Ds gh W) (hb:Below W.heap.size W W'):BM w g b fo bf bl vs ls Ds gh W':=h.step (Go.below gh hb) (More.refl gh)
theorem LocR.put {v:Value} {l:List V} {x:Nat} {o:Obj} (h:LocR W gh v l) (ho:W.heap[x]? = some o) (hc:o.isCells = false) (o':Obj):LocR (W.putObj x o') gh v l:=⟨(put_fr W x o').own h.1 (fun k e e2=>by
 subst e2
 obtain ⟨us,hu⟩:=own_cells h.1 e
 exact not_at ho hc hu rfl),h.2⟩
theorem BM.put (h:BM w g b fo bf bl vs ls Ds gh W) {l:Nat} {o:Obj} (ho:W.heap[l]? = some o) (hc:o.isCells = false) (hl:w.heap.size≤l) (hD:∀ D ∈ Ds,D ≠ l) (o':Obj):BM w g b fo bf bl vs ls Ds gh (W.putObj l o') :=
 ⟨h.m,h.go.grown (grownBy_putObj' W l o') (fun k e=>by injection e with e; omega),h.bf.put ho hc o',⟨h.kp.blk.put ho hc o',h.kp.len,fun j v hj=>(h.kp.own j v hj).put ho hc o',h.kp.old,h.kp.dj⟩,marks_put h.mks hD o',h.ds⟩
theorem BM.mark (h:BM w g b fo bf bl vs ls Ds gh W) {D:Nat} (hD:∀ E ∈ Ds,E < D) (hB:w.heap.size≤D) (hk:W.heap[D]? = some (.deferred (some []))) (hn:¬ Ss gh D):BM w g b fo bf bl vs ls (D :: Ds) gh W :=
 ⟨h.m,h.go,h.bf,h.kp,h.mks.cons hD hB hk,fun E hE=>by
  rcases List.mem_cons.1 hE with e | hE
  ·subst e; exact hn
  ·exact h.ds E hE⟩
theorem BM.lit (h:BM w g b fo bf bl vs ls Ds gh W) (hsx:Sx W gh) {s:V} {kb v:Nat} (hm:(s,kb) ∈ gh.kn) (hv:v≤15) :
  Sx (W.setCell ⟨kb,5 + b.toNat,none⟩ (.int .u8 v)) (gh.setN b s v)∧Go gh W (gh.setN b s v) (W.setCell ⟨kb,5 + b.toNat,none⟩ (.int .u8 v))∧BM w g b fo bf bl vs ls Ds (gh.setN b s v) (W.setCell ⟨kb,5 + b.toNat,none⟩ (.int .u8 v)) :=
 ⟨hsx.setN hm hv,Go.setN hsx.st hm,h.stepB (Go.setN hsx.st hm) (MoreB.setN _ _ _ _)⟩
theorem BM.pushed (h0:Sx w g) (h:BM w g b fo bf bl vs ls Ds gh W) (hsx:Sx W gh) {k n gr c:Nat} {v:Value} {y:V} {W6:World} (hk:vs[k]? = some v) (hp:Pushed encP TP W 0 v (ls k) y n gr c W6) (hbl:w.heap.size≤bl) :
  Sx (W6.setCell ⟨bl,k,none⟩ (.slice (some ⟨gr,0,none⟩) n c)) gh∧BM w g b fo bf bl (vs.set k (.slice (some ⟨gr,0,none⟩) n c)) (pushV ls k y) Ds gh (W6.setCell ⟨bl,k,none⟩ (.slice (some ⟨gr,0,none⟩) n c)) ∧
   Fr (fun j=>v.ownBlock = some j ∨ j = bl) W (W6.setCell ⟨bl,k,none⟩ (.slice (some ⟨gr,0,none⟩) n c))∧(v.ownBlock = some gr ∨ W.heap.size≤gr):=by
 obtain ⟨ho,hg,hfr⟩:=hp
 have hv:=h.kp.own k v hk
 have hlen:=(List.getElem?_eq_some_iff.1 hk).1
 have hold:∀ x,v.ownBlock = some x→w.heap.size≤x∧¬ Ss gh x:=fun x hx=>⟨h.kp.old k v hk x hx,hv.2 x hx⟩
 have s6:Sx W6 gh:=h0.grownB h.m hsx hg hold
 have f6:Fr (fun j=>v.ownBlock = some j) W W6:=Fr.grown hg (fun i e=>e)
 have hnot:∀ {x:Nat} {U:TypeId} {us:List Value},Blk W x U us→U ≠ TP→¬ v.ownBlock = some x:=fun hb hU e=>by
  obtain ⟨us2,hu⟩:=own_cells hv.1 e
  exact Blk.ne hb hu hU rfl
 have bf6:=f6.blk h.bf.1 (hnot h.bf.1 (by decide))
 have bl6:=f6.blk h.kp.blk.1 (hnot h.kp.blk.1 (by decide))
 have fb:Fr (fun j=>j = bl) W6 (W6.setCell ⟨bl,k,none⟩ (.slice (some ⟨gr,0,none⟩) n c)):=Fr.set (fun j=>j = bl) W6 ⟨bl,k,none⟩ _ rfl
 have fall:Fr (fun j=>v.ownBlock = some j ∨ j = bl) W (W6.setCell ⟨bl,k,none⟩ (.slice (some ⟨gr,0,none⟩) n c)):=(f6.mono (fun i e=>.inl e)).trans fb (fun i e=>.inl (.inr e))
 have sz:w.heap.size≤W.heap.size:=h.go.fr.size
 have ngr:w.heap.size≤gr∧¬ Ss gh gr:=by
  rcases hfr with q | q
  ·exact hold gr q
  ·exact ⟨by omega,hsx.st.new q⟩
 have rowne:∀ {B2:Nat} {u:Value} {l:List V},RowG.Own encP TP W6 B2 u l→∀ x,u.ownBlock = some x→¬ x = bl:=fun hu x hx e=>by
  obtain ⟨us,hus⟩:=own_cells hu hx
  rw [e] at hus
  exact Blk.ne bl6 hus (by decide) rfl
 have other:∀ j u,j ≠ k→vs[j]? = some u→LocR (W6.setCell ⟨bl,k,none⟩ (.slice (some ⟨gr,0,none⟩) n c)) gh u (ls j):=fun j u hj hu=>by
  have h1:=h.kp.own j u hu
  have h2:=f6.own h1.1 (fun x hx e=>h.kp.dj j k u v hj hu hk x hx e)
  exact ⟨fb.own h2 (rowne h2),h1.2⟩
 have mk6:Marks w.heap.size Ds W6:=⟨h.mks.nodup,fun D hD=>⟨(h.mks.at_ D hD).1,Nat.lt_of_lt_of_le (h.mks.at_ D hD).2.1 f6.size,(f6.block D (h.mks.at_ D hD).2.1 (fun e=>by
  obtain ⟨us,hu⟩:=own_cells hv.1 e
  exact not_at (h.mks.at_ D hD).2.2 rfl hu rfl)).trans (h.mks.at_ D hD).2.2⟩⟩
 refine ⟨h0.setB h.m s6 hbl h.kp.blk.2 k _,⟨h.m,(h.go.grown hg (fun x hx=>(hold x hx).1)).set hbl k _,⟨fb.blk bf6 (fun e=>Blk.ne bf6 bl6 (by decide) e),h.bf.2⟩,⟨⟨bl6.set k _,h.kp.blk.2⟩,by rw [List.length_set]; exact h.kp.len,fun j u hj=>?_,fun j u hj x hx=>?_,fun i j u x hij hu hx y1 hy1=>?_⟩,⟨mk6.nodup,fun D hD=>⟨(mk6.at_ D hD).1,Nat.lt_of_lt_of_le (mk6.at_ D hD).2.1 fb.size,(fb.block D (mk6.at_ D hD).2.1 (fun e=>not_at (mk6.at_ D hD).2.2 rfl bl6 e.symm)).trans (mk6.at_ D hD).2.2⟩⟩,h.ds⟩,fall,hfr⟩
 ·by_cases e:j = k
  ·subst e
   rw [List.getElem?_set_self hlen] at hj
   have:(Value.slice (some ⟨gr,0,none⟩) n c) = u:=by simpa using hj
   subst this
   unfold pushV
   rw [if_pos rfl]
   refine ⟨fb.own ho (rowne ho),fun x hx=>?_⟩
   have e2:gr = x:=by simpa [Value.ownBlock] using hx
   rw [← e2]
   exact ngr.2
  ·rw [List.getElem?_set_ne (fun q=>e q.symm)] at hj
   unfold pushV
   rw [if_neg e]
   exact other j u e hj
 ·by_cases e:j = k
  ·subst e
   rw [List.getElem?_set_self hlen] at hj
   have:(Value.slice (some ⟨gr,0,none⟩) n c) = u:=by simpa using hj
   subst this
   have e2:gr = x:=by simpa [Value.ownBlock] using hx
   rw [← e2]
   exact ngr.1
  ·rw [List.getElem?_set_ne (fun q=>e q.symm)] at hj
   exact h.kp.old j u hj x hx
 ·have key:∀ (u:Value) (i:Nat),i ≠ k→vs[i]? = some u→∀ z,u.ownBlock = some z→z ≠ gr:=fun u i hi h5 z hz e=>by
   rcases hfr with q | q
   ·rw [← e] at q
    exact h.kp.dj i k u v hi h5 hk z hz q
   ·have:=((h.kp.own i u h5).1.ge z hz).2
    omega
  by_cases ei:i = k
  ·subst ei
   rw [List.getElem?_set_self hlen] at hu
   have:(Value.slice (some ⟨gr,0,none⟩) n c) = u:=by simpa using hu
   subst this
   rw [List.getElem?_set_ne hij] at hx
   have e2:gr = y1:=by simpa [Value.ownBlock] using hy1
   intro hxg
   exact key x j (fun q=>hij q.symm) hx y1 hxg e2.symm
  ·rw [List.getElem?_set_ne (fun q=>ei q.symm)] at hu
   by_cases ej:j = k
   ·subst ej
    rw [List.getElem?_set_self hlen] at hx
    have:(Value.slice (some ⟨gr,0,none⟩) n c) = x:=by simpa using hx
    subst this
    intro hxg
    have e2:gr = y1:=by simpa [Value.ownBlock] using hxg
    exact key u i ei hu y1 hy1 e2.symm
   ·rw [List.getElem?_set_ne (fun q=>ej q.symm)] at hx
    exact h.kp.dj i j u x hij hu hx y1 hy1
end
theorem Loc.frame {W W':World} {gh:Gh} {S:Nat→Prop} {x:Nat} {U:TypeId} {us:List Value} (h:Loc W gh x U us) (hf:Fr S W W') (hn:¬ S x):Loc W' gh x U us:=⟨hf.blk h.1 hn,h.2⟩
theorem LocR.frame {W W':World} {gh:Gh} {S:Nat→Prop} {v:Value} {l:List V} (h:LocR W gh v l) (hf:Fr S W W') (hn:∀ x,v.ownBlock = some x→¬ S x):LocR W' gh v l:=⟨hf.own h.1 hn,h.2⟩
end FloodW
end Go.Proofs.YtpimkdaikoclnaaDoor
