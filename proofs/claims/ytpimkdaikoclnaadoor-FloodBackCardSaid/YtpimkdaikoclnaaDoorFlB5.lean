import Derived.Deep.Cut
import Derived.Deep.CutRange
import Derived.Test.YtpimkdaikoclnaaDoorFlB4
import Derived.Test.YtpimkdaikoclnaaDoorFlB1
namespace Go.Proofs.YtpimkdaikoclnaaDoor
open Go.RowKit
set_option linter.unusedVariables false
set_option linter.unusedSimpArgs false
namespace FloodW
open BlkP RowG GlowW FloodP
theorem KS.join {w W W':World} {g:Gh} {q:V} {kb:Nat} {f2:Fld} (h:Sx w g) (hk:KS w g W f2) (hak:f2.ak = g.f.ak ++ [q,q]) (hq:okP g q) (hn:findK g.kn q = none) (hb:Blk W kb TK (kcells g q)) (hkb:w.heap.size≤kb)
  (hm:MapK W' g.M (g.kn ++ [(q,kb)])) (hg:W.grownBy W' (some g.M)):Sx W' (g.more f2.vA f2.ak (g.kn ++ [(q,kb)]))∧Go g w (g.more f2.vA f2.ak (g.kn ++ [(q,kb)])) W':=by
 have hM:=hk.map h.st
 have fM:Fr (fun k=>k = g.M) W W':=Fr.grown hg (fun i e=>by injection e with e; exact e.symm)
 have fr:Fr (Ss g) w W':=(hk.fr.mono (S':=Ss g) (fun i hi=>by
  rcases hi with e | e
  ·exact .inl e
  ·exact .inr (.inl e))).trans fM (fun i e=>.inl (.inr (.inr (.inr (.inl e)))))
 have hgo:Go g w (g.more f2.vA f2.ak (g.kn ++ [(q,kb)])) W':=⟨fr,fun k hk'=>by
  rcases hk' with e | e | e | e | e
  ·exact .inl (.inl e)
  ·rcases hk.new k e with q1 | q1
   ·exact .inl (.inr (.inl q1))
   ·exact .inr q1
  ·exact .inl (.inr (.inr (.inl e)))
  ·exact .inl (.inr (.inr (.inr (.inl e))))
  ·have e':k ∈ (g.kn ++ [(q,kb)]).map (·.2):=e
   rw [List.map_append,List.mem_append] at e'
   rcases e' with e' | e'
   ·exact .inl (.inr (.inr (.inr (.inr e'))))
   ·have:k = kb:=by simpa using e'
    exact .inr (by omega)⟩
 refine ⟨h.go ?_ hgo,hgo⟩
 obtain ⟨vA,ak,e⟩:=hk.f_
 subst e
 have bM:∀ {b:Nat} {T:TypeId} {vs:List Value},Blk W b T vs→Blk W' b T vs:=fun hb=>fM.blk hb (fun e=>Blk.notMap hM hb e)
 have oM:∀ {α:Type} {e:Enc α} {E:TypeId} {v:Value} {l:List α},RowG.Own e E W 0 v l→RowG.Own e E W' 0 v l:=fun ho=>fM.own ho (fun k e1 e2=>by
  obtain ⟨us,hu⟩:=own_cells ho e1
  exact Blk.notMap hM hu e2)
 have hd:=h.st.dflt q (findK_none hn)
 have hnew:kb ∉ g.kn.map (·.2):=fun hmem=>by
  obtain ⟨p,hp⟩:=mem_kn hmem
  have:=(h.st.known p kb hp).lt
  omega
 refine ⟨⟨bM hk.fld.blk,oM hk.fld.cs,oM hk.fld.ls,oM hk.fld.ak,oM hk.fld.ts,hk.fld.dj⟩,⟨h.st.fw.x,h.st.fw.y,h.st.fw.z,h.st.fw.lx,h.st.fw.ly,h.st.fw.lz,h.st.fw.cs,h.st.fw.ls,h.st.fw.c8,h.st.fw.l15⟩,bM (hk.blk h.st h.st.work (by decide) (by decide)),hm,?_,?_,fun p b hp=>?_,fun p hp=>?_,h.st.le,fun p hp=>?_,?_,h.st.atp,h.st.lowp⟩
 ·show ((g.kn ++ [(q,kb)]).map (·.1)).Nodup
  rw [List.map_append]
  refine List.nodup_append.2 ⟨h.st.dup,by simp,fun a ha b hb=>?_⟩
  have:b = q:=by simpa using hb
  subst this
  exact fun e=>findK_none hn (e ▸ ha)
 ·show ((g.kn ++ [(q,kb)]).map (·.2)).Nodup
  rw [List.map_append]
  refine List.nodup_append.2 ⟨h.st.bdup,by simp,fun a ha b hb=>?_⟩
  have:b = kb:=by simpa using hb
  subst this
  exact fun e=>hnew (e ▸ ha)
 ·rcases List.mem_append.1 hp with hp | hp
  ·exact bM (hk.blk h.st (h.st.known p b hp) (by decide) (by decide))
  ·have e:(p,b) = (q,kb):=by simpa using hp
   injection e with e1 e2
   subst e1 e2
   exact bM hb
 ·exact h.st.dflt p (fun hm2=>hp (by
   show p ∈ (g.kn ++ [(q,kb)]).map (·.1)
   rw [List.map_append]
   exact List.mem_append_left _ hm2))
 ·have hp':p ∈ (g.kn ++ [(q,kb)]).map (·.1):=hp
  rw [List.map_append,List.mem_append] at hp'
  rcases hp' with hp' | hp'
  ·exact h.st.few p hp'
  ·have:p = q:=by simpa using hp'
   subst this
   exact hq
 ·obtain ⟨h1,l,h2,h3,h4⟩:=h.st.asks
  refine ⟨h1,l ++ [q,q],?_,?_,fun p hp=>?_⟩
  ·show ak = g.ak0 ++ (l ++ [q,q])
   rw [← List.append_assoc,← h2]
   exact hak
  ·show (l ++ [q,q]).length≤2 * (g.kn ++ [(q,kb)]).length
   rw [List.length_append,List.length_append]
   simp only [List.length_cons,List.length_nil]
   omega
  ·show p ∈ (g.kn ++ [(q,kb)]).map (·.1)
   rw [List.map_append,List.mem_append]
   rcases List.mem_append.1 hp with hp | hp
   ·exact .inl (h4 p hp)
   ·have:p = q:=by simpa using hp
    subst this
    exact .inr (by simp)
theorem kcells_new {w:World} {g:Gh} {q:V} (h:St w g) (hn:findK g.kn q = none):kcells g q = [.bool (clr g.f q),.int .u8 0,.int .u8 (lampA (cellAt g.f q):Int),.int .u8 ((litAt g.f q).1:Int),.int .u8 ((litAt g.f q).2:Int),.int .u8 ((if clr g.f q = true then (litAt g.f q).1 else 0:Nat):Int),.int .u8 ((if clr g.f q = true then (litAt g.f q).2 else 0:Nat):Int)]:=by
 obtain ⟨h1,h2,h3⟩:=h.dflt q (findK_none hn)
 unfold kcells
 rw [h1,h2,h3 false,h3 true]
 rfl
theorem KS.setNew {w W:World} {g:Gh} {f:Fld} {b:Nat} {vs:List Value} (hs:St w g) (h:KS w g W f) (hb:Blk W b TC vs) (hlt:w.heap.size + 1≤b) (u v:Value):KS w g ((W.setCell ⟨b,0,none⟩ u).setCell ⟨b,1,none⟩ v) f:=by
 have hf:Fr (fun k=>k = b) W ((W.setCell ⟨b,0,none⟩ u).setCell ⟨b,1,none⟩ v):=(Fr.set (fun k=>k = b) W ⟨b,0,none⟩ u rfl).trans (Fr.set (fun k=>k = b) _ ⟨b,1,none⟩ v rfl) (fun i hi=>.inl hi)
 obtain ⟨vA,ak,e⟩:=h.f_
 refine ⟨h.fld.fr hf ?_ ?_ ?_ ?_ ?_,⟨vA,ak,e⟩,h.fr.trans hf (fun i hi=>.inr (by omega)),h.new⟩
 ·intro e2
  have:f.F = b:=e2
  exact Blk.ne hb h.fld.blk (by decide) this.symm
 ·intro k e1 e2
  rw [e] at e1
  have:=(hs.fld.cs.ge k e1).2
  omega
 ·intro k e1 e2
  rw [e] at e1
  have:=(hs.fld.ls.ge k e1).2
  omega
 ·intro k e1 e2
  obtain ⟨us,hu⟩:=own_cells h.fld.ak e1
  rw [e2] at hu
  exact Blk.ne hb hu (by decide) rfl
 ·intro k e1 e2
  rw [e] at e1
  have:=(hs.fld.ts.ge k e1).2
  omega
theorem KS.turnK {w W:World} {g:Gh} {f:Fld} {b:Nat} {vs:List Value} (hs:St w g) (h:KS w g W f) (hb:Blk W b TK vs) (hlt:w.heap.size≤b) (u v:Value):KS w g ((W.drew.setCell ⟨b,5,none⟩ u).setCell ⟨b,6,none⟩ v) f:=by
 have hf:Fr (fun k=>k = b) W ((W.drew.setCell ⟨b,5,none⟩ u).setCell ⟨b,6,none⟩ v):=((Fr.refl (fun k=>k = b) W).drew.trans (Fr.set (fun k=>k = b) W.drew ⟨b,5,none⟩ u rfl) (fun i hi=>.inl hi)).trans (Fr.set (fun k=>k = b) _ ⟨b,6,none⟩ v rfl) (fun i hi=>.inl hi)
 have key:∀ {α:Type} {e:Enc α} {E:TypeId} {v:Value} {l:List α},RowG.Own e E W 0 v l→E ≠ TK→∀ k,v.ownBlock = some k→¬ k = b:=fun ho hE k e1 e2=>by
  obtain ⟨us,hu⟩:=own_cells ho e1
  rw [e2] at hu
  exact Blk.ne hu hb hE rfl
 exact ⟨h.fld.fr hf (fun e2=>Blk.ne hb h.fld.blk (by decide) e2.symm) (key h.fld.cs (by decide)) (key h.fld.ls (by decide)) (key h.fld.ak (by decide)) (key h.fld.ts (by decide)),h.f_,h.fr.trans hf (fun i hi=>.inr (by omega)),h.new⟩
theorem fresh_ne {w W:World} {g:Gh} {gb n c:Nat} {q:V} (h:St w g) (hf:g.f.vA.ownBlock = some gb ∨ W.heap.size≤gb) (hz:w.heap.size + 1≤W.heap.size):(g.f.asked q gb n c).vA.ownBlock ≠ some w.heap.size:=fun e=>by
 have e':gb = w.heap.size:=by simpa [Fld.asked,Value.ownBlock] using e
 subst e'
 rcases hf with q | q
 ·have:=(h.fld.ak.ge _ q).2
  omega
 ·omega
def CellR (w:World) (g:Gh) (x y z:Int) (s6:Value) (W:World):Prop:=∃ cb f1,s6 = .pointer (some ⟨cb,0,none⟩)∧w.heap.size + 1≤cb∧Blk W cb TC [.int .u8 ((cellAt g.f (x,y,z)).1:Int),.int .u8 ((cellAt g.f (x,y,z)).2:Int)]∧KS w g W f1∧f1.ak = g.f.ak ++ [(x,y,z)]∧Blk W w.heap.size TP [.int .i64 x,.int .i64 y,.int .i64 z]∧f1.vA.ownBlock ≠ some w.heap.size
theorem min_u8 {s:Nat} (h:s≤15):(if (15:Int) < (s:Int) then (15:Int) else (s:Int)) = s:=by
 split <;> omega
set_option maxRecDepth 100000 in
set_option maxHeartbeats 16000000 in
theorem know_c {w:World} {g:Gh} {q:V} (h:Sx w g) (hq:okP g q):Calls Tryd.prog 37 #[.pointer (some ⟨g.wk,0,none⟩),.agg #[.int .i64 q.1,.int .i64 q.2.1,.int .i64 q.2.2]] w (KnowP w g q):=by
 obtain ⟨x,y,z⟩:=q
 simp only
 have HS:=Lib.hid h
 have HQ:=Lib.hid hq
 have hwl:=h.st.work.lt
 have hMl:=h.st.map.lt
 clear h hq
 go_enter Tryd.func37,Tryd.ntmps37
 go_wp2_with fail
 refine HeldP.wp_named (S:=fun W=>Blk W w.heap.size TP [.int .i64 x,.int .i64 y,.int .i64 z]∧Below w.heap.size w W∧w.heap.size + 1≤W.heap.size) ⟨by (repeat' (first | (with_reducible refine BlkP.Blk.drew ?_) | (with_reducible refine BlkP.Blk.drewN ?_ _) | (with_reducible refine BlkP.Blk.setAt (us:=?_) (by first | omega | (simp; done) | (simp; omega)) rfl ?_ ?_) | (with_reducible refine BlkP.Blk.otherAt ?_ (by first | omega | (simp; done) | (simp; omega))) | (with_reducible refine BlkP.Blk.newA' (by first | omega | (simp; done) | (simp; omega)) rfl) | (with_reducible refine BlkP.Blk.alloc ?_ _) | (exact rfl))),by (repeat' (first | (with_reducible exact Below.refl _ _) | (with_reducible refine Below.setCell ?_ (by (first | omega | (simp; done) | (simp; omega))) _) | (with_reducible refine Below.alloc ?_ (by (first | omega | (simp; done) | (simp; omega))) _) | (with_reducible refine Below.drew ?_) | (with_reducible refine below_drewN ?_ _))),by simp⟩ ?_
 rintro W0 ⟨hp,hb,hz⟩
 have HP:=Lib.hid hp
 have HB:=Lib.hid hb
 have HWK:=Lib.hid (show Blk W0 g.wk TWk (wcells g) from HS.out.st.work.below hb)
 have HMP:=Lib.hid (show MapK W0 g.M g.kn from (hb.block _ hMl).trans HS.out.st.map)
 obtain ⟨o,ho⟩:∃ o,findK g.kn (x,y,z) = o:=⟨_,rfl⟩
 have HO:=Lib.hid ho
 clear hp hb ho
 cases o with
 | some b =>
  refine wp_region_noPanic ?_
  refine wp_region_held_drew (S:=fun Xw=>(Blk Xw w.heap.size TP [.int .i64 x,.int .i64 y,.int .i64 z]∧Blk Xw g.wk TWk (wcells g))∧MapK Xw g.M g.kn) (by kernel_rfl) (⟨⟨HP.out,HWK.out⟩,HMP.out⟩) (fun hHeld=>?_)
  refine wpAnyH_take (i:=0) (oi:=⟨some 7,_,_,_,_,_⟩) (v:=.pointer (some ⟨g.wk,0,none⟩)) rfl (by kernel_rfl) (by kernel_rfl) (by kernel_rfl) (fun _ _ _ h=>h) (Or.inl ⟨by rfl,fun Xw hSW=>by go_simp⟩) hHeld ?_
  simp only [Act.put,List.setIfInBounds_toArray,List.set_cons_zero,List.set_cons_succ]
  refine wpAnyH_take (i:=1) (oi:=⟨some 8,_,_,_,_,_⟩) (v:=.pointer (some ⟨g.wk,0,none⟩)) rfl (by kernel_rfl) (by kernel_rfl) (by kernel_rfl) (fun _ _ _ h=>h) (Or.inl ⟨by rfl,fun Xw hSW=>by go_simp⟩) hHeld ?_
  simp only [Act.put,List.setIfInBounds_toArray,List.set_cons_zero,List.set_cons_succ]
  refine wpAnyH_take (i:=2) (oi:=⟨some 9,_,_,_,_,_⟩) (v:=.pointer (some ⟨g.wk,5,none⟩)) rfl (by kernel_rfl) (by kernel_rfl) (by kernel_rfl) (fun _ _ _ h=>h) (Or.inl ⟨by rfl,fun Xw hSW=>by go_simp⟩) hHeld ?_
  simp only [Act.put,List.setIfInBounds_toArray,List.set_cons_zero,List.set_cons_succ]
  refine wpAnyH_take (i:=3) (oi:=⟨some 10,_,_,_,_,_⟩) (v:=.map (some g.M)) rfl (by kernel_rfl) (by kernel_rfl) (by kernel_rfl) (fun _ _ _ h=>h) (Or.inl ⟨by rfl,fun Xw hSW=>by have k5:=hSW.1.2.cell (i:=5) rfl; go_simp⟩) hHeld ?_
  simp only [Act.put,List.setIfInBounds_toArray,List.set_cons_zero,List.set_cons_succ]
  refine wpAnyH_take (i:=4) (oi:=⟨some 11,_,_,_,_,_⟩) (v:=.agg #[.int .i64 x,.int .i64 y,.int .i64 z]) rfl (by kernel_rfl) (by kernel_rfl) (by kernel_rfl) (fun _ _ _ h=>h) (Or.inl ⟨by rfl,fun Xw hSW=>by have b0:=hSW.1.1.cell (i:=0) rfl; have b1:=hSW.1.1.cell (i:=1) rfl; have b2:=hSW.1.1.cell (i:=2) rfl; go_simp⟩) hHeld ?_
  simp only [Act.put,List.setIfInBounds_toArray,List.set_cons_zero,List.set_cons_succ]
  refine wpAnyH_take (i:=5) (oi:=⟨some 12,_,_,_,_,_⟩) (v:=.pointer (some ⟨b,0,none⟩)) rfl (by kernel_rfl) (by kernel_rfl) (by kernel_rfl) (fun _ _ _ h=>h) (Or.inl ⟨by rfl,fun Xw hSW=>by have hl:=run_lookupK (x,y,z) hSW.2; rw [HO.out] at hl; simp only [ptrK] at hl; go_simp⟩) hHeld ?_
  simp only [Act.put,List.setIfInBounds_toArray,List.set_cons_zero,List.set_cons_succ]
  refine wpAnyH_take (i:=6) (oi:=⟨some 5,_,_,_,_,_⟩) (v:=.pointer (some ⟨b,0,none⟩)) rfl (by kernel_rfl) (by kernel_rfl) (by kernel_rfl) (fun _ _ _ h=>h) (Or.inl ⟨by rfl,fun Xw hSW=>by go_simp⟩) hHeld ?_
  simp only [Act.put,List.setIfInBounds_toArray,List.set_cons_zero,List.set_cons_succ]
  refine wpAnyH_done (by kernel_rfl) ?_ _
  refine NoPanic.normal ?_
  go_wp2_with fail
  go_ret
  exact ⟨b,g.f.vA,g.f.ak,g.kn,rfl,findK_mem HO.out,fun _ h=>h,HS.out.below HB.out.drew,Go.below g HB.out.drew⟩
 | none =>
  refine wp_region_noPanic ?_
  refine wp_region_held_drew (S:=fun Xw=>(Blk Xw w.heap.size TP [.int .i64 x,.int .i64 y,.int .i64 z]∧Blk Xw g.wk TWk (wcells g))∧MapK Xw g.M g.kn) (by kernel_rfl) (⟨⟨HP.out,HWK.out⟩,HMP.out⟩) (fun hHeld=>?_)
  refine wpAnyH_take (i:=0) (oi:=⟨some 7,_,_,_,_,_⟩) (v:=.pointer (some ⟨g.wk,0,none⟩)) rfl (by kernel_rfl) (by kernel_rfl) (by kernel_rfl) (fun _ _ _ h=>h) (Or.inl ⟨by rfl,fun Xw hSW=>by go_simp⟩) hHeld ?_
  simp only [Act.put,List.setIfInBounds_toArray,List.set_cons_zero,List.set_cons_succ]
  refine wpAnyH_take (i:=1) (oi:=⟨some 8,_,_,_,_,_⟩) (v:=.pointer (some ⟨g.wk,0,none⟩)) rfl (by kernel_rfl) (by kernel_rfl) (by kernel_rfl) (fun _ _ _ h=>h) (Or.inl ⟨by rfl,fun Xw hSW=>by go_simp⟩) hHeld ?_
  simp only [Act.put,List.setIfInBounds_toArray,List.set_cons_zero,List.set_cons_succ]
  refine wpAnyH_take (i:=2) (oi:=⟨some 9,_,_,_,_,_⟩) (v:=.pointer (some ⟨g.wk,5,none⟩)) rfl (by kernel_rfl) (by kernel_rfl) (by kernel_rfl) (fun _ _ _ h=>h) (Or.inl ⟨by rfl,fun Xw hSW=>by go_simp⟩) hHeld ?_
  simp only [Act.put,List.setIfInBounds_toArray,List.set_cons_zero,List.set_cons_succ]
  refine wpAnyH_take (i:=3) (oi:=⟨some 10,_,_,_,_,_⟩) (v:=.map (some g.M)) rfl (by kernel_rfl) (by kernel_rfl) (by kernel_rfl) (fun _ _ _ h=>h) (Or.inl ⟨by rfl,fun Xw hSW=>by have k5:=hSW.1.2.cell (i:=5) rfl; go_simp⟩) hHeld ?_
  simp only [Act.put,List.setIfInBounds_toArray,List.set_cons_zero,List.set_cons_succ]
  refine wpAnyH_take (i:=4) (oi:=⟨some 11,_,_,_,_,_⟩) (v:=.agg #[.int .i64 x,.int .i64 y,.int .i64 z]) rfl (by kernel_rfl) (by kernel_rfl) (by kernel_rfl) (fun _ _ _ h=>h) (Or.inl ⟨by rfl,fun Xw hSW=>by have b0:=hSW.1.1.cell (i:=0) rfl; have b1:=hSW.1.1.cell (i:=1) rfl; have b2:=hSW.1.1.cell (i:=2) rfl; go_simp⟩) hHeld ?_
  simp only [Act.put,List.setIfInBounds_toArray,List.set_cons_zero,List.set_cons_succ]
  refine wpAnyH_take (i:=5) (oi:=⟨some 12,_,_,_,_,_⟩) (v:=.pointer none) rfl (by kernel_rfl) (by kernel_rfl) (by kernel_rfl) (fun _ _ _ h=>h) (Or.inl ⟨by rfl,fun Xw hSW=>by have hl:=run_lookupK (x,y,z) hSW.2; rw [HO.out] at hl; simp only [ptrK] at hl; go_simp⟩) hHeld ?_
  simp only [Act.put,List.setIfInBounds_toArray,List.set_cons_zero,List.set_cons_succ]
  refine wpAnyH_take (i:=6) (oi:=⟨some 5,_,_,_,_,_⟩) (v:=.pointer none) rfl (by kernel_rfl) (by kernel_rfl) (by kernel_rfl) (fun _ _ _ h=>h) (Or.inl ⟨by rfl,fun Xw hSW=>by go_simp⟩) hHeld ?_
  simp only [Act.put,List.setIfInBounds_toArray,List.set_cons_zero,List.set_cons_succ]
  refine wpAnyH_done (by kernel_rfl) ?_ _
  refine NoPanic.normal ?_
  go_wp2_with fail
  refine HeldP.wp_named (S:=fun W=>Blk W w.heap.size TP [.int .i64 x,.int .i64 y,.int .i64 z]∧Below w.heap.size w W∧w.heap.size + 1≤W.heap.size) ⟨HP.out,HB.out.drew,hz⟩ ?_
  clear HP HB HWK HMP hz
  rintro W1 ⟨hp,hb,hz⟩
  have HP:=Lib.hid hp
  have HKS:=Lib.hid ((KS.start HS.out.st).below hb)
  have HWK:=Lib.hid (show Blk W1 g.wk TWk (wcells g) from HS.out.st.work.below hb)
  have HAK:=Lib.hid HS.out.st.ak_le
  clear hp hb
  go_cut [6] from 15 to 20 (fun s6 W=>CellR w g x y z s6 W)
  case first =>
   refine wp_region_noPanic ?_
   refine wp_region_held_drew (S:=fun Xw=>Blk Xw w.heap.size TP [.int .i64 x,.int .i64 y,.int .i64 z]∧Blk Xw g.wk TWk (wcells g)) (by kernel_rfl) (⟨HP.out,HWK.out⟩) (fun hHeld=>?_)
   refine wpAnyH_take (i:=0) (oi:=⟨some 15,_,_,_,_,_⟩) (v:=.pointer (some ⟨g.wk,0,none⟩)) rfl (by kernel_rfl) (by kernel_rfl) (by kernel_rfl) (fun _ _ _ h=>h) (Or.inl ⟨by rfl,fun Xw hSW=>by go_simp⟩) hHeld ?_
   simp only [Act.put,List.setIfInBounds_toArray,List.set_cons_zero,List.set_cons_succ]
   refine wpAnyH_take (i:=1) (oi:=⟨some 16,_,_,_,_,_⟩) (v:=.pointer (some ⟨g.wk,0,none⟩)) rfl (by kernel_rfl) (by kernel_rfl) (by kernel_rfl) (fun _ _ _ h=>h) (Or.inl ⟨by rfl,fun Xw hSW=>by go_simp⟩) hHeld ?_
   simp only [Act.put,List.setIfInBounds_toArray,List.set_cons_zero,List.set_cons_succ]
   refine wpAnyH_take (i:=2) (oi:=⟨some 17,_,_,_,_,_⟩) (v:=.pointer (some ⟨g.wk,0,none⟩)) rfl (by kernel_rfl) (by kernel_rfl) (by kernel_rfl) (fun _ _ _ h=>h) (Or.inl ⟨by rfl,fun Xw hSW=>by go_simp⟩) hHeld ?_
   simp only [Act.put,List.setIfInBounds_toArray,List.set_cons_zero,List.set_cons_succ]
   refine wpAnyH_take (i:=3) (oi:=⟨some 18,_,_,_,_,_⟩) (v:=(.iface 29 (.pointer (some ⟨g.f.F,0,none⟩)))) rfl (by kernel_rfl) (by kernel_rfl) (by kernel_rfl) (fun _ _ _ h=>h) (Or.inl ⟨by rfl,fun Xw hSW=>by have k0:=hSW.2.cell (i:=0) rfl; go_simp⟩) hHeld ?_
   simp only [Act.put,List.setIfInBounds_toArray,List.set_cons_zero,List.set_cons_succ]
   refine wpAnyH_take (i:=4) (oi:=⟨some 19,_,_,_,_,_⟩) (v:=.agg #[.int .i64 x,.int .i64 y,.int .i64 z]) rfl (by kernel_rfl) (by kernel_rfl) (by kernel_rfl) (fun _ _ _ h=>h) (Or.inl ⟨by rfl,fun Xw hSW=>by have b0:=hSW.1.cell (i:=0) rfl; have b1:=hSW.1.cell (i:=1) rfl; have b2:=hSW.1.cell (i:=2) rfl; go_simp⟩) hHeld ?_
   simp only [Act.put,List.setIfInBounds_toArray,List.set_cons_zero,List.set_cons_succ]
   refine wpAnyH_ready (rs:=[5,6]) (by kernel_rfl) (by simp) ?_
   refine AllReadyH.cons (o:=⟨some 20,_,_,_,_,_⟩) rfl (fun K hK=>?_) (AllReadyH.cons (o:=⟨some 6,_,_,_,_,_⟩) rfl (fun K hK=>?_) AllReadyH.nil)
   ·go_simp
    refine (askcell_c (w:=W1.drew) (q:=(x,y,z)) (HKS.out.below (Below.refl _ _).drew).fld HS.out.st.fw HQ.out.1 (by have:=HAK.out; omega)).mono ?_
    rintro e W2 ⟨rfl,hask⟩
    have hfa:Fr (SF g.f) W1 W2:=by obtain ⟨_,_,_,q,_⟩:=hask; exact ⟨q.os,q.tape,q.output,q.size,q.block⟩
    have HASK:=Lib.hid (show AskP W1 g.f (x,y,z) W2 by obtain ⟨a,b,c,d,e⟩:=hask; exact ⟨a,b,c,⟨d.os,d.tape,d.output,d.size,d.block⟩,e⟩)
    have hnq:¬ SF g.f w.heap.size:=fun hk=>by
     rcases hk with e | e
     ·have:=HS.out.st.fld.blk.lt
      omega
     ·have:=(HS.out.st.fld.ak.ge _ e).2
      omega
    have hnw:¬ SF g.f g.wk:=fun hk=>by
     rcases hk with e | e
     ·exact Blk.ne HS.out.st.work HS.out.st.fld.blk (by decide) e
     ·obtain ⟨us,hu⟩:=own_cells HS.out.st.fld.ak e
      exact Blk.ne HS.out.st.work hu (by decide) rfl
    have HP2:=Lib.hid (hfa.blk HP.out hnq)
    have HW2:=Lib.hid (hfa.blk HWK.out hnw)
    have hz2:=hfa.size
    clear hask hfa hnq hnw
    try go_wp2_with fail
    refine hK.out _ _ (⟨HP2.out,HW2.out⟩) (fun hHeld=>?_)
    clear hK K
    refine wpAnyH_ready (rs:=[6]) (by kernel_rfl) (by simp) ?_
    refine AllReadyH.cons (o:=⟨some 6,_,_,_,_,_⟩) rfl (fun K hK=>?_) AllReadyH.nil
    go_simp
    refine hK.out _ _ (⟨by (have q:=HP2.out; (repeat' (first | (with_reducible exact q) | (with_reducible refine BlkP.Blk.drew ?_) | (with_reducible refine BlkP.Blk.drewN ?_ _) | (with_reducible refine BlkP.Blk.setAt (us:=?_) (by first | omega | (simp; done) | (simp; omega)) rfl ?_ ?_) | (with_reducible refine BlkP.Blk.otherAt ?_ (by first | omega | (simp; done) | (simp; omega))) | (with_reducible refine BlkP.Blk.newA' (by first | omega | (simp; done) | (simp; omega)) rfl) | (with_reducible refine BlkP.Blk.alloc ?_ _) | (exact rfl)))),by (have q:=HW2.out; (repeat' (first | (with_reducible exact q) | (with_reducible refine BlkP.Blk.drew ?_) | (with_reducible refine BlkP.Blk.drewN ?_ _) | (with_reducible refine BlkP.Blk.setAt (us:=?_) (by first | omega | (simp; done) | (simp; omega)) rfl ?_ ?_) | (with_reducible refine BlkP.Blk.otherAt ?_ (by first | omega | (simp; done) | (simp; omega))) | (with_reducible refine BlkP.Blk.newA' (by first | omega | (simp; done) | (simp; omega)) rfl) | (with_reducible refine BlkP.Blk.alloc ?_ _) | (exact rfl))))⟩) (fun hHeld=>?_)
    clear hK K
    refine wpAnyH_ready (rs:=[7]) (by kernel_rfl) (by simp) ?_
    refine AllReadyH.cons (o:=⟨none,_,_,_,_,_⟩) rfl (fun K hK=>?_) AllReadyH.nil
    have hfz:(W2.alloc (.cells #[.int .u8 0,.int .u8 0] TC)).frozen? ⟨W2.heap.size,0,none⟩ = false:=by (repeat' (first | (with_reducible assumption) | (with_reducible refine HeldP.c_drew ?_) | (with_reducible refine HeldP.c_drewN ?_) | (with_reducible refine HeldP.c_same (by omega) ?_) | (with_reducible refine HeldP.c_other ?_ ?_) | (with_reducible refine HeldP.c_new (by first | omega | (simp; done) | (simp; omega)) ?_) | (with_reducible refine HeldP.c_alloc ?_ ?_) | (with_reducible refine HeldP.e_drew ?_) | (with_reducible refine HeldP.e_drewN ?_) | (with_reducible refine HeldP.e_set ?_) | (with_reducible refine HeldP.e_new (by first | omega | (simp; done) | (simp; omega)) ⟨_,rfl⟩) | (with_reducible refine HeldP.e_alloc ?_ ?_) | (with_reducible refine HeldP.f_drew ?_) | (with_reducible refine HeldP.f_drewN ?_) | (with_reducible refine HeldP.f_set ?_) | (with_reducible refine HeldP.f_new (by first | omega | (simp; done) | (simp; omega))) | (with_reducible refine HeldP.f_alloc ?_ ?_) | (with_reducible refine HeldP.s_drew ?_) | (with_reducible refine HeldP.s_drewN ?_) | (with_reducible refine HeldP.s_set ?_) | (with_reducible refine HeldP.s_new (by first | omega | (simp; done) | (simp; omega))) | (with_reducible refine HeldP.s_alloc ?_) | (with_reducible exact ⟨_,by assumption⟩) | omega | (intro e; simp at e; done) | (intro e; simp at e; omega) | (exact rfl) | (simp; done) | (simp; omega)))
    have hfz1:(W2.alloc (.cells #[.int .u8 0,.int .u8 0] TC)).frozen? ⟨W2.heap.size,1,none⟩ = false:=by (repeat' (first | (with_reducible assumption) | (with_reducible refine HeldP.c_drew ?_) | (with_reducible refine HeldP.c_drewN ?_) | (with_reducible refine HeldP.c_same (by omega) ?_) | (with_reducible refine HeldP.c_other ?_ ?_) | (with_reducible refine HeldP.c_new (by first | omega | (simp; done) | (simp; omega)) ?_) | (with_reducible refine HeldP.c_alloc ?_ ?_) | (with_reducible refine HeldP.e_drew ?_) | (with_reducible refine HeldP.e_drewN ?_) | (with_reducible refine HeldP.e_set ?_) | (with_reducible refine HeldP.e_new (by first | omega | (simp; done) | (simp; omega)) ⟨_,rfl⟩) | (with_reducible refine HeldP.e_alloc ?_ ?_) | (with_reducible refine HeldP.f_drew ?_) | (with_reducible refine HeldP.f_drewN ?_) | (with_reducible refine HeldP.f_set ?_) | (with_reducible refine HeldP.f_new (by first | omega | (simp; done) | (simp; omega))) | (with_reducible refine HeldP.f_alloc ?_ ?_) | (with_reducible refine HeldP.s_drew ?_) | (with_reducible refine HeldP.s_drewN ?_) | (with_reducible refine HeldP.s_set ?_) | (with_reducible refine HeldP.s_new (by first | omega | (simp; done) | (simp; omega))) | (with_reducible refine HeldP.s_alloc ?_) | (with_reducible exact ⟨_,by assumption⟩) | omega | (intro e; simp at e; done) | (intro e; simp at e; omega) | (exact rfl) | (simp; done) | (simp; omega)))
    have hlq:=HP2.out.lt
    have hlw:=HW2.out.lt
    go_simp
    refine hK.out _ _ (⟨by (have q:=HP2.out; (repeat' (first | (with_reducible exact q) | (with_reducible refine BlkP.Blk.drew ?_) | (with_reducible refine BlkP.Blk.drewN ?_ _) | (with_reducible refine BlkP.Blk.setAt (us:=?_) (by first | omega | (simp; done) | (simp; omega)) rfl ?_ ?_) | (with_reducible refine BlkP.Blk.otherAt ?_ (by first | omega | (simp; done) | (simp; omega))) | (with_reducible refine BlkP.Blk.newA' (by first | omega | (simp; done) | (simp; omega)) rfl) | (with_reducible refine BlkP.Blk.alloc ?_ _) | (exact rfl)))),by (have q:=HW2.out; (repeat' (first | (with_reducible exact q) | (with_reducible refine BlkP.Blk.drew ?_) | (with_reducible refine BlkP.Blk.drewN ?_ _) | (with_reducible refine BlkP.Blk.setAt (us:=?_) (by first | omega | (simp; done) | (simp; omega)) rfl ?_ ?_) | (with_reducible refine BlkP.Blk.otherAt ?_ (by first | omega | (simp; done) | (simp; omega))) | (with_reducible refine BlkP.Blk.newA' (by first | omega | (simp; done) | (simp; omega)) rfl) | (with_reducible refine BlkP.Blk.alloc ?_ _) | (exact rfl))))⟩) (fun hHeld=>?_)
    clear hK K
    refine wpAnyH_done (by kernel_rfl) ?_ _
    refine NoPanic.normal ?_
    go_wp2_with fail
    go_meet
    case rel =>
     obtain ⟨gb,c,hks,hfr⟩:=HKS.out.ask HASK.out
     have hne:=fresh_ne (q:=(x,y,z)) (n:=g.f.ak.length + 1) (c:=c) HS.out.st hfr hz
     refine ⟨W2.heap.size,_,rfl,by omega,by (repeat' (first | (with_reducible refine BlkP.Blk.drew ?_) | (with_reducible refine BlkP.Blk.drewN ?_ _) | (with_reducible refine BlkP.Blk.setAt (us:=?_) (by first | omega | (simp; done) | (simp; omega)) rfl ?_ ?_) | (with_reducible refine BlkP.Blk.otherAt ?_ (by first | omega | (simp; done) | (simp; omega))) | (with_reducible refine BlkP.Blk.newA' (by first | omega | (simp; done) | (simp; omega)) rfl) | (with_reducible refine BlkP.Blk.alloc ?_ _) | (exact rfl))),hks.below (by (repeat' (first | (with_reducible exact Below.refl _ _) | (with_reducible refine Below.setCell ?_ (by (first | omega | (simp; done) | (simp; omega))) _) | (with_reducible refine Below.alloc ?_ (by (first | omega | (simp; done) | (simp; omega))) _) | (with_reducible refine Below.drew ?_) | (with_reducible refine below_drewN ?_ _)))),rfl,by (have q:=HP2.out; (repeat' (first | (with_reducible exact q) | (with_reducible refine BlkP.Blk.drew ?_) | (with_reducible refine BlkP.Blk.drewN ?_ _) | (with_reducible refine BlkP.Blk.setAt (us:=?_) (by first | omega | (simp; done) | (simp; omega)) rfl ?_ ?_) | (with_reducible refine BlkP.Blk.otherAt ?_ (by first | omega | (simp; done) | (simp; omega))) | (with_reducible refine BlkP.Blk.newA' (by first | omega | (simp; done) | (simp; omega)) rfl) | (with_reducible refine BlkP.Blk.alloc ?_ _) | (exact rfl)))),hne⟩
   ·go_simp
    refine hK.out _ _ (⟨by (have q:=HP.out; (repeat' (first | (with_reducible exact q) | (with_reducible refine BlkP.Blk.drew ?_) | (with_reducible refine BlkP.Blk.drewN ?_ _) | (with_reducible refine BlkP.Blk.setAt (us:=?_) (by first | omega | (simp; done) | (simp; omega)) rfl ?_ ?_) | (with_reducible refine BlkP.Blk.otherAt ?_ (by first | omega | (simp; done) | (simp; omega))) | (with_reducible refine BlkP.Blk.newA' (by first | omega | (simp; done) | (simp; omega)) rfl) | (with_reducible refine BlkP.Blk.alloc ?_ _) | (exact rfl)))),by (have q:=HWK.out; (repeat' (first | (with_reducible exact q) | (with_reducible refine BlkP.Blk.drew ?_) | (with_reducible refine BlkP.Blk.drewN ?_ _) | (with_reducible refine BlkP.Blk.setAt (us:=?_) (by first | omega | (simp; done) | (simp; omega)) rfl ?_ ?_) | (with_reducible refine BlkP.Blk.otherAt ?_ (by first | omega | (simp; done) | (simp; omega))) | (with_reducible refine BlkP.Blk.newA' (by first | omega | (simp; done) | (simp; omega)) rfl) | (with_reducible refine BlkP.Blk.alloc ?_ _) | (exact rfl))))⟩) (fun hHeld=>?_)
    clear hK K
    refine any_named (S:=fun W=>Blk W w.heap.size TP [.int .i64 x,.int .i64 y,.int .i64 z]∧Blk W g.wk TWk (wcells g)∧Blk W W1.heap.size TC [.int .u8 0,.int .u8 0]∧KS w g W g.f∧W1.heap.size < W.heap.size) ⟨hHeld.1,hHeld.2,by (repeat' (first | (with_reducible refine BlkP.Blk.drew ?_) | (with_reducible refine BlkP.Blk.drewN ?_ _) | (with_reducible refine BlkP.Blk.setAt (us:=?_) (by first | omega | (simp; done) | (simp; omega)) rfl ?_ ?_) | (with_reducible refine BlkP.Blk.otherAt ?_ (by first | omega | (simp; done) | (simp; omega))) | (with_reducible refine BlkP.Blk.newA' (by first | omega | (simp; done) | (simp; omega)) rfl) | (with_reducible refine BlkP.Blk.alloc ?_ _) | (exact rfl))),HKS.out.below (by (repeat' (first | (with_reducible exact Below.refl _ _) | (with_reducible refine Below.setCell ?_ (by (first | omega | (simp; done) | (simp; omega))) _) | (with_reducible refine Below.alloc ?_ (by (first | omega | (simp; done) | (simp; omega))) _) | (with_reducible refine Below.drew ?_) | (with_reducible refine below_drewN ?_ _)))),by simp⟩ ?_
    clear hHeld
    rintro W2 ⟨hp2,hw2,hc2,hk2,hz2⟩
    have hHeld:Blk W2 w.heap.size TP [.int .i64 x,.int .i64 y,.int .i64 z]∧Blk W2 g.wk TWk (wcells g):=⟨hp2,hw2⟩
    have HC2:=Lib.hid hc2
    have HK2:=Lib.hid hk2
    clear hp2 hw2 hc2 hk2
    refine wpAnyH_ready (rs:=[5]) (by kernel_rfl) (by simp) ?_
    refine AllReadyH.cons (o:=⟨some 20,_,_,_,_,_⟩) rfl (fun K hK=>?_) AllReadyH.nil
    go_simp
    refine (askcell_c (w:=W2) (q:=(x,y,z)) HK2.out.fld HS.out.st.fw HQ.out.1 (by have:=HAK.out; omega)).mono ?_
    rintro e W3 ⟨rfl,hask⟩
    have HASK:=Lib.hid hask
    have hfa:Fr (SF g.f) W2 W3:=by obtain ⟨_,_,_,q,_⟩:=hask; exact q
    have hnq:¬ SF g.f w.heap.size:=fun hk=>by
     rcases hk with e | e
     ·have:=HS.out.st.fld.blk.lt
      omega
     ·have:=(HS.out.st.fld.ak.ge _ e).2
      omega
    have hnw:¬ SF g.f g.wk:=fun hk=>by
     rcases hk with e | e
     ·exact Blk.ne HS.out.st.work HS.out.st.fld.blk (by decide) e
     ·obtain ⟨us,hu⟩:=own_cells HS.out.st.fld.ak e
      exact Blk.ne HS.out.st.work hu (by decide) rfl
    have hnc:¬ SF g.f W1.heap.size:=fun hk=>by
     rcases hk with e | e
     ·have:=HS.out.st.fld.blk.lt
      omega
     ·have:=(HS.out.st.fld.ak.ge _ e).2
      omega
    have HP3:=Lib.hid (hfa.blk hHeld.1 hnq)
    have HW3:=Lib.hid (hfa.blk hHeld.2 hnw)
    have HC3:=Lib.hid (hfa.blk HC2.out hnc)
    clear hask hfa hnq hnw hnc
    try go_wp2_with fail
    refine hK.out _ _ (⟨HP3.out,HW3.out⟩) (fun hHeld=>?_)
    clear hK K
    refine wpAnyH_ready (rs:=[7]) (by kernel_rfl) (by simp) ?_
    refine AllReadyH.cons (o:=⟨none,_,_,_,_,_⟩) rfl (fun K hK=>?_) AllReadyH.nil
    have cz0:=HC3.out.cell (i:=0) rfl
    have cz1:=HC3.out.cell (i:=1) rfl
    have fz0:=HC3.out.frozen 0
    have fz1:=HC3.out.frozen 1
    have hneW:g.wk ≠ W1.heap.size:=by have:=HS.out.st.work.lt; omega
    go_simp
    refine hK.out _ _ (⟨by (have q:=HP3.out; (repeat' (first | (with_reducible exact q) | (with_reducible refine BlkP.Blk.drew ?_) | (with_reducible refine BlkP.Blk.drewN ?_ _) | (with_reducible refine BlkP.Blk.setAt (us:=?_) (by first | omega | (simp; done) | (simp; omega)) rfl ?_ ?_) | (with_reducible refine BlkP.Blk.otherAt ?_ (by first | omega | (simp; done) | (simp; omega))) | (with_reducible refine BlkP.Blk.newA' (by first | omega | (simp; done) | (simp; omega)) rfl) | (with_reducible refine BlkP.Blk.alloc ?_ _) | (exact rfl)))),by (have q:=HW3.out; (repeat' (first | (with_reducible exact q) | (with_reducible refine BlkP.Blk.drew ?_) | (with_reducible refine BlkP.Blk.drewN ?_ _) | (with_reducible refine BlkP.Blk.setAt (us:=?_) (by first | omega | (simp; done) | (simp; omega)) rfl ?_ ?_) | (with_reducible refine BlkP.Blk.otherAt ?_ (by first | omega | (simp; done) | (simp; omega))) | (with_reducible refine BlkP.Blk.newA' (by first | omega | (simp; done) | (simp; omega)) rfl) | (with_reducible refine BlkP.Blk.alloc ?_ _) | (exact rfl))))⟩) (fun hHeld=>?_)
    clear hK K
    refine wpAnyH_done (by kernel_rfl) ?_ _
    refine NoPanic.normal ?_
    go_wp2_with fail
    go_meet
    case rel =>
     obtain ⟨gb,c,hks,hfr⟩:=HK2.out.ask HASK.out
     have hne:=fresh_ne (q:=(x,y,z)) (n:=g.f.ak.length + 1) (c:=c) HS.out.st hfr (by omega)
     have q3:=HC3.out
     have q4:=HP3.out
     refine ⟨W1.heap.size,_,rfl,by omega,by (repeat' (first | (with_reducible exact q3) | (with_reducible refine BlkP.Blk.drew ?_) | (with_reducible refine BlkP.Blk.drewN ?_ _) | (with_reducible refine BlkP.Blk.setAt (us:=?_) (by first | omega | (simp; done) | (simp; omega)) rfl ?_ ?_) | (with_reducible refine BlkP.Blk.otherAt ?_ (by first | omega | (simp; done) | (simp; omega))) | (with_reducible refine BlkP.Blk.newA' (by first | omega | (simp; done) | (simp; omega)) rfl) | (with_reducible refine BlkP.Blk.alloc ?_ _) | (exact rfl))),KS.setNew HS.out.st hks HC3.out hz _ _,rfl,by (repeat' (first | (with_reducible exact q4) | (with_reducible refine BlkP.Blk.drew ?_) | (with_reducible refine BlkP.Blk.drewN ?_ _) | (with_reducible refine BlkP.Blk.setAt (us:=?_) (by first | omega | (simp; done) | (simp; omega)) rfl ?_ ?_) | (with_reducible refine BlkP.Blk.otherAt ?_ (by first | omega | (simp; done) | (simp; omega))) | (with_reducible refine BlkP.Blk.newA' (by first | omega | (simp; done) | (simp; omega)) rfl) | (with_reducible refine BlkP.Blk.alloc ?_ _) | (exact rfl))),hne⟩
  case rest =>
   obtain ⟨cb,f1,rfl,hcb,hc,hk,hak,hp,hna⟩:=hcut
   obtain ⟨⟨c1,c2⟩,hce⟩:∃ c,cellAt g.f (x,y,z) = c:=⟨_,rfl⟩
   rw [hce] at hc
   simp only at hc
   have HCE:=Lib.hid hce
   have HC:=Lib.hid hc
   have HK:=Lib.hid hk
   have HAKE:=Lib.hid hak
   have HP:=Lib.hid hp
   have HT:=Lib.hid (show KindW.Tab wc.drew from (hk.below (Below.refl _ _).drew).tab HS.out)
   have HWK:=Lib.hid (show Blk wc g.wk TWk (wcells g) from hk.blk HS.out.st HS.out.st.work (by decide) (by decide))
   have HF1:=Lib.hid (show FldW f1 by obtain ⟨_,_,e2⟩:=hk.f_; rw [e2]; exact ⟨HS.out.st.fw.x,HS.out.st.fw.y,HS.out.st.fw.z,HS.out.st.fw.lx,HS.out.st.fw.ly,HS.out.st.fw.lz,HS.out.st.fw.cs,HS.out.st.fw.ls,HS.out.st.fw.c8,HS.out.st.fw.l15⟩)
   have HNA:=Lib.hid hna
   clear hce hc hk hak hp hna HKS
   go_wp2_with fail
   refine wp_region_noPanic ?_
   refine wp_region_held_drew (S:=fun Xw=>Blk Xw w.heap.size TP [.int .i64 x,.int .i64 y,.int .i64 z]∧Blk Xw cb TC [.int .u8 c1,.int .u8 c2]∧Blk Xw g.wk TWk (wcells g)) (by kernel_rfl) (⟨HP.out,HC.out,HWK.out⟩) (fun hHeld=>?_)
   refine wpAnyH_take (i:=0) (oi:=⟨some 21,_,_,_,_,_⟩) (v:=.agg #[.int .u8 c1,.int .u8 c2]) rfl (by kernel_rfl) (by kernel_rfl) (by kernel_rfl) (fun _ _ _ h=>h) (Or.inl ⟨by rfl,fun Xw hSW=>by have c0:=hSW.2.1.cell (i:=0) rfl; have c1':=hSW.2.1.cell (i:=1) rfl; go_simp⟩) hHeld ?_
   simp only [Act.put,List.setIfInBounds_toArray,List.set_cons_zero,List.set_cons_succ]
   refine wpAnyH_take (i:=2) (oi:=⟨some 23,_,_,_,_,_⟩) (v:=.agg #[.int .u8 c1,.int .u8 c2]) rfl (by kernel_rfl) (by kernel_rfl) (by kernel_rfl) (fun _ _ _ h=>h) (Or.inl ⟨by rfl,fun Xw hSW=>by have c0:=hSW.2.1.cell (i:=0) rfl; have c1':=hSW.2.1.cell (i:=1) rfl; go_simp⟩) hHeld ?_
   simp only [Act.put,List.setIfInBounds_toArray,List.set_cons_zero,List.set_cons_succ]
   refine wpAnyH_take (i:=5) (oi:=⟨some 26,_,_,_,_,_⟩) (v:=.pointer (some ⟨g.wk,0,none⟩)) rfl (by kernel_rfl) (by kernel_rfl) (by kernel_rfl) (fun _ _ _ h=>h) (Or.inl ⟨by rfl,fun Xw hSW=>by go_simp⟩) hHeld ?_
   simp only [Act.put,List.setIfInBounds_toArray,List.set_cons_zero,List.set_cons_succ]
   refine wpAnyH_take (i:=6) (oi:=⟨some 27,_,_,_,_,_⟩) (v:=.pointer (some ⟨g.wk,0,none⟩)) rfl (by kernel_rfl) (by kernel_rfl) (by kernel_rfl) (fun _ _ _ h=>h) (Or.inl ⟨by rfl,fun Xw hSW=>by go_simp⟩) hHeld ?_
   simp only [Act.put,List.setIfInBounds_toArray,List.set_cons_zero,List.set_cons_succ]
   refine wpAnyH_take (i:=7) (oi:=⟨some 28,_,_,_,_,_⟩) (v:=.pointer (some ⟨g.wk,0,none⟩)) rfl (by kernel_rfl) (by kernel_rfl) (by kernel_rfl) (fun _ _ _ h=>h) (Or.inl ⟨by rfl,fun Xw hSW=>by go_simp⟩) hHeld ?_
   simp only [Act.put,List.setIfInBounds_toArray,List.set_cons_zero,List.set_cons_succ]
   refine wpAnyH_take (i:=8) (oi:=⟨some 29,_,_,_,_,_⟩) (v:=(.iface 29 (.pointer (some ⟨g.f.F,0,none⟩)))) rfl (by kernel_rfl) (by kernel_rfl) (by kernel_rfl) (fun _ _ _ h=>h) (Or.inl ⟨by rfl,fun Xw hSW=>by have k0:=hSW.2.2.cell (i:=0) rfl; go_simp⟩) hHeld ?_
   simp only [Act.put,List.setIfInBounds_toArray,List.set_cons_zero,List.set_cons_succ]
   refine wpAnyH_take (i:=9) (oi:=⟨some 30,_,_,_,_,_⟩) (v:=.agg #[.int .i64 x,.int .i64 y,.int .i64 z]) rfl (by kernel_rfl) (by kernel_rfl) (by kernel_rfl) (fun _ _ _ h=>h) (Or.inl ⟨by rfl,fun Xw hSW=>by have b0:=hSW.1.cell (i:=0) rfl; have b1:=hSW.1.cell (i:=1) rfl; have b2:=hSW.1.cell (i:=2) rfl; go_simp⟩) hHeld ?_
   simp only [Act.put,List.setIfInBounds_toArray,List.set_cons_zero,List.set_cons_succ]
   refine wpAnyH_ready (rs:=[1]) (by kernel_rfl) (by simp) ?_
   refine AllReadyH.cons (o:=⟨some 22,_,_,_,_,_⟩) rfl (fun K hK=>?_) AllReadyH.nil
   go_simp
   refine (opens_b (k:=c1) (l:=c2) _ HT.out).mono ?_
   rintro e W2 ⟨rfl,hb2⟩
   try go_wp2_with fail
   refine hK.out _ _ (⟨hHeld.1.below hb2,hHeld.2.1.below hb2,hHeld.2.2.below hb2⟩) (fun hHeld=>?_)
   clear hK K
   have HB2:=Lib.hid hb2
   have HT2:=Lib.hid (HT.out.below hb2)
   clear hb2
   refine wpAnyH_ready (rs:=[3]) (by kernel_rfl) (by simp) ?_
   refine AllReadyH.cons (o:=⟨some 24,_,_,_,_,_⟩) rfl (fun K hK=>?_) AllReadyH.nil
   go_simp
   refine (KindW.k_lamp c1 c2 _ HT2.out).mono ?_
   rintro e W3 ⟨rfl,hb3⟩
   try go_wp2_with fail
   refine hK.out _ _ (⟨hHeld.1.below hb3,hHeld.2.1.below hb3,hHeld.2.2.below hb3⟩) (fun hHeld=>?_)
   clear hK K
   have HK3:=Lib.hid (((HK.out.below (Below.refl _ _).drew).below HB2.out).below hb3)
   clear hb3 HB2 HT2
   refine wpAnyH_take (i:=4) (oi:=⟨some 25,_,_,_,_,_⟩) (v:=.agg #[.int .u8 0,.int .u8 (KindP.lamp c1 c2:Int)]) rfl (by kernel_rfl) (by kernel_rfl) (by kernel_rfl) (fun _ _ _ h=>h) (Or.inl ⟨by rfl,fun Xw hSW=>by go_simp⟩) hHeld ?_
   simp only [Act.put,List.setIfInBounds_toArray,List.set_cons_zero,List.set_cons_succ]
   refine wpAnyH_ready (rs:=[10]) (by kernel_rfl) (by simp) ?_
   refine AllReadyH.cons (o:=⟨some 31,_,_,_,_,_⟩) rfl (fun K hK=>?_) AllReadyH.nil
   go_simp
   have hcon:=asklit_c (w:=W3) (q:=(x,y,z)) HK3.out.fld HF1.out HQ.out.1 (by have:=HAK.out; rw [HAKE.out,List.length_append,List.length_singleton]; omega)
   rw [show f1.F = g.f.F by obtain ⟨_,_,e2⟩:=HK3.out.f_; rw [e2]] at hcon
   refine hcon.mono ?_
   clear hcon
   rintro e W4 ⟨rfl,hask⟩
   have HASK:=Lib.hid hask
   have hfa:Fr (SF f1) W3 W4:=by obtain ⟨_,_,_,q,_⟩:=hask; exact q
   have hn:∀ k,w.heap.size≤k→(∃ us T,Blk W3 k T us∧T ≠ TP) ∨ k = w.heap.size→¬ SF f1 k:=fun k hk hT hs=>by
    rcases hs with e | e
    ·have:f1.F = g.f.F:=by obtain ⟨_,_,e2⟩:=HK3.out.f_; rw [e2]
     have:=HS.out.st.fld.blk.lt
     omega
    ·rcases hT with ⟨us,T,hT,hne⟩ | e3
     ·obtain ⟨vs,hv⟩:=own_cells HK3.out.fld.ak e
      exact Blk.ne hT hv hne rfl
     ·subst e3
      exact HNA.out e
   have hnw:¬ SF f1 g.wk:=fun hs=>by
    rcases hs with e | e
    ·have:f1.F = g.f.F:=by obtain ⟨_,_,e2⟩:=HK3.out.f_; rw [e2]
     rw [this] at e
     exact Blk.ne HS.out.st.work HS.out.st.fld.blk (by decide) e
    ·obtain ⟨vs,hv⟩:=own_cells HK3.out.fld.ak e
     exact Blk.ne hHeld.2.2 hv (by decide) rfl
   have HH4:=Lib.hid (show Blk W4 w.heap.size TP [.int .i64 x,.int .i64 y,.int .i64 z]∧Blk W4 cb TC [.int .u8 c1,.int .u8 c2]∧Blk W4 g.wk TWk (wcells g) from ⟨hfa.blk hHeld.1 (hn _ (Nat.le_refl _) (.inr rfl)),hfa.blk hHeld.2.1 (hn _ (by omega) (.inl ⟨_,_,hHeld.2.1,by decide⟩)),hfa.blk hHeld.2.2 hnw⟩)
   clear hask hfa hn hnw
   try go_wp2_with fail
   refine hK.out _ _ (HH4.out) (fun hHeld=>?_)
   clear hK K
   obtain ⟨gb4,cc4,hk4,_⟩:=HK3.out.ask HASK.out
   have HK4:=Lib.hid hk4
   clear hk4 HASK HK3
   have HLITE:=Lib.hid (show litAt f1 (x,y,z) = litAt g.f (x,y,z) by obtain ⟨_,_,e2⟩:=HK.out.f_; rw [e2]; rfl)
   obtain ⟨⟨s1,s2⟩,hle⟩:∃ c,litAt g.f (x,y,z) = c:=⟨_,rfl⟩
   rw [HLITE.out,hle]
   simp only
   have HLE:=Lib.hid hle
   have HOPE:=Lib.hid (show clr g.f (x,y,z) = openA (c1,c2) by rw [clr,HCE.out])
   clear hle HLITE
   obtain ⟨op,hop⟩:∃ op,openA (c1,c2) = op:=⟨_,rfl⟩
   rw [hop] at HOPE ⊢
   clear hop
   obtain ⟨lp,hlp⟩:∃ lp,KindP.lamp c1 c2 = lp:=⟨_,rfl⟩
   rw [hlp]
   have HLPE:=Lib.hid (show lampA (cellAt g.f (x,y,z)) = lp by rw [HCE.out]; exact hlp)
   clear hlp
   refine wpAnyH_take (i:=11) (oi:=⟨some 32,_,_,_,_,_⟩) (v:=.agg #[.bool op,.int .u8 0,.int .u8 lp,.int .u8 s1,.int .u8 s2,.int .u8 0,.int .u8 0]) rfl (by kernel_rfl) (by kernel_rfl) (by kernel_rfl) (fun _ _ _ h=>h) (Or.inl ⟨by rfl,fun Xw hSW=>by go_simp⟩) hHeld ?_
   simp only [Act.put,List.setIfInBounds_toArray,List.set_cons_zero,List.set_cons_succ]
   refine wpAnyH_ready (rs:=[12]) (by kernel_rfl) (by simp) ?_
   refine AllReadyH.cons (o:=⟨some 33,_,_,_,_,_⟩) rfl (fun K hK=>?_) AllReadyH.nil
   go_simp
   refine hK.out _ _ (⟨by (have q:=HH4.out.1; (repeat' (first | (with_reducible exact q) | (with_reducible refine BlkP.Blk.drew ?_) | (with_reducible refine BlkP.Blk.drewN ?_ _) | (with_reducible refine BlkP.Blk.setAt (us:=?_) (by first | omega | (simp; done) | (simp; omega)) rfl ?_ ?_) | (with_reducible refine BlkP.Blk.otherAt ?_ (by first | omega | (simp; done) | (simp; omega))) | (with_reducible refine BlkP.Blk.newA' (by first | omega | (simp; done) | (simp; omega)) rfl) | (with_reducible refine BlkP.Blk.alloc ?_ _) | (exact rfl)))),by (have q:=HH4.out.2.1; (repeat' (first | (with_reducible exact q) | (with_reducible refine BlkP.Blk.drew ?_) | (with_reducible refine BlkP.Blk.drewN ?_ _) | (with_reducible refine BlkP.Blk.setAt (us:=?_) (by first | omega | (simp; done) | (simp; omega)) rfl ?_ ?_) | (with_reducible refine BlkP.Blk.otherAt ?_ (by first | omega | (simp; done) | (simp; omega))) | (with_reducible refine BlkP.Blk.newA' (by first | omega | (simp; done) | (simp; omega)) rfl) | (with_reducible refine BlkP.Blk.alloc ?_ _) | (exact rfl)))),by (have q:=HH4.out.2.2; (repeat' (first | (with_reducible exact q) | (with_reducible refine BlkP.Blk.drew ?_) | (with_reducible refine BlkP.Blk.drewN ?_ _) | (with_reducible refine BlkP.Blk.setAt (us:=?_) (by first | omega | (simp; done) | (simp; omega)) rfl ?_ ?_) | (with_reducible refine BlkP.Blk.otherAt ?_ (by first | omega | (simp; done) | (simp; omega))) | (with_reducible refine BlkP.Blk.newA' (by first | omega | (simp; done) | (simp; omega)) rfl) | (with_reducible refine BlkP.Blk.alloc ?_ _) | (exact rfl))))⟩) (fun hHeld=>?_)
   clear hK K
   refine wpAnyH_take (i:=13) (oi:=⟨some 5,_,_,_,_,_⟩) (v:=.pointer (some ⟨W4.heap.size,0,none⟩)) rfl (by kernel_rfl) (by kernel_rfl) (by kernel_rfl) (fun _ _ _ h=>h) (Or.inl ⟨by rfl,fun Xw hSW=>by go_simp⟩) hHeld ?_
   simp only [Act.put,List.setIfInBounds_toArray,List.set_cons_zero,List.set_cons_succ]
   refine wpAnyH_done (by kernel_rfl) ?_ _
   refine NoPanic.normal ?_
   refine HeldP.then_named (S:=fun W=>Blk W W4.heap.size TK [.bool op,.int .u8 0,.int .u8 lp,.int .u8 s1,.int .u8 s2,.int .u8 0,.int .u8 0]∧KS w g W (f1.asked (x,y,z) gb4 (f1.ak.length + 1) cc4)∧Blk W w.heap.size TP [.int .i64 x,.int .i64 y,.int .i64 z]∧Blk W g.wk TWk (wcells g)) ⟨by (repeat' (first | (with_reducible refine BlkP.Blk.drew ?_) | (with_reducible refine BlkP.Blk.drewN ?_ _) | (with_reducible refine BlkP.Blk.setAt (us:=?_) (by first | omega | (simp; done) | (simp; omega)) rfl ?_ ?_) | (with_reducible refine BlkP.Blk.otherAt ?_ (by first | omega | (simp; done) | (simp; omega))) | (with_reducible refine BlkP.Blk.newA' (by first | omega | (simp; done) | (simp; omega)) rfl) | (with_reducible refine BlkP.Blk.alloc ?_ _) | (exact rfl))),HK4.out.below (by (repeat' (first | (with_reducible exact Below.refl _ _) | (with_reducible refine Below.setCell ?_ (by (first | omega | (simp; done) | (simp; omega))) _) | (with_reducible refine Below.alloc ?_ (by (first | omega | (simp; done) | (simp; omega))) _) | (with_reducible refine Below.drew ?_) | (with_reducible refine below_drewN ?_ _)))),by (have q:=HH4.out.1; (repeat' (first | (with_reducible exact q) | (with_reducible refine BlkP.Blk.drew ?_) | (with_reducible refine BlkP.Blk.drewN ?_ _) | (with_reducible refine BlkP.Blk.setAt (us:=?_) (by first | omega | (simp; done) | (simp; omega)) rfl ?_ ?_) | (with_reducible refine BlkP.Blk.otherAt ?_ (by first | omega | (simp; done) | (simp; omega))) | (with_reducible refine BlkP.Blk.newA' (by first | omega | (simp; done) | (simp; omega)) rfl) | (with_reducible refine BlkP.Blk.alloc ?_ _) | (exact rfl)))),by (have q:=HH4.out.2.2; (repeat' (first | (with_reducible exact q) | (with_reducible refine BlkP.Blk.drew ?_) | (with_reducible refine BlkP.Blk.drewN ?_ _) | (with_reducible refine BlkP.Blk.setAt (us:=?_) (by first | omega | (simp; done) | (simp; omega)) rfl ?_ ?_) | (with_reducible refine BlkP.Blk.otherAt ?_ (by first | omega | (simp; done) | (simp; omega))) | (with_reducible refine BlkP.Blk.newA' (by first | omega | (simp; done) | (simp; omega)) rfl) | (with_reducible refine BlkP.Blk.alloc ?_ _) | (exact rfl))))⟩ ?_
   have hkb:w.heap.size≤W4.heap.size:=HK4.out.fr.size
   have hkw:g.wk ≠ W4.heap.size:=by omega
   obtain ⟨kb,hkbe⟩:∃ kb,W4.heap.size = kb:=⟨_,rfl⟩
   rw [hkbe] at hkb hkw ⊢
   clear hkbe hHeld HH4 HK4 HK HT HC HWK HP
   rintro W5 ⟨hb5,hk5,hp5,hw5⟩
   have HK5:=Lib.hid hk5
   have HP5:=Lib.hid hp5
   have HW5:=Lib.hid hw5
   have HB5:=Lib.hid hb5
   have HAK5:=Lib.hid (show (f1.asked (x,y,z) gb4 (f1.ak.length + 1) cc4).ak = g.f.ak ++ [(x,y,z),(x,y,z)] by
    show f1.ak ++ [(x,y,z)] = _
    rw [HAKE.out,List.append_assoc]
    rfl)
   obtain ⟨f2,hf2⟩:∃ f2,f1.asked (x,y,z) gb4 (f1.ak.length + 1) cc4 = f2:=⟨_,rfl⟩
   rw [hf2] at HK5 HAK5
   clear hf2 hk5 hp5 hw5
   have b0:W5.cell? ⟨kb,0,none⟩ = some (.bool op):=hb5.cell (i:=0) rfl
   clear hb5
   have HMP5:=Lib.hid (show MapK W5 g.M g.kn from HK5.out.map HS.out.st)
   have HKC:=Lib.hid (kcells_new (q:=(x,y,z)) HS.out.st HO.out)
   rw [HOPE.out,HLPE.out,HLE.out] at HKC
   have HL15:=Lib.hid (show s1≤15∧s2≤15 by have:=litAt_le HS.out.st.fw (x,y,z); rw [HLE.out] at this; exact this)
   cases op with
   | false =>
    go_wp2_with fail
    refine wp_region_noPanic ?_
    refine wp_region_held_drew (S:=fun Xw=>Blk Xw w.heap.size TP [.int .i64 x,.int .i64 y,.int .i64 z]∧Blk Xw g.wk TWk (wcells g)) (by kernel_rfl) (⟨HP5.out,HW5.out⟩) (fun hHeld=>?_)
    refine wpAnyH_take (i:=0) (oi:=⟨some 54,_,_,_,_,_⟩) (v:=.pointer (some ⟨g.wk,0,none⟩)) rfl (by kernel_rfl) (by kernel_rfl) (by kernel_rfl) (fun _ _ _ h=>h) (Or.inl ⟨by rfl,fun Xw hSW=>by go_simp⟩) hHeld ?_
    simp only [Act.put,List.setIfInBounds_toArray,List.set_cons_zero,List.set_cons_succ]
    refine wpAnyH_take (i:=1) (oi:=⟨some 55,_,_,_,_,_⟩) (v:=.pointer (some ⟨g.wk,0,none⟩)) rfl (by kernel_rfl) (by kernel_rfl) (by kernel_rfl) (fun _ _ _ h=>h) (Or.inl ⟨by rfl,fun Xw hSW=>by go_simp⟩) hHeld ?_
    simp only [Act.put,List.setIfInBounds_toArray,List.set_cons_zero,List.set_cons_succ]
    refine wpAnyH_take (i:=2) (oi:=⟨some 56,_,_,_,_,_⟩) (v:=.pointer (some ⟨g.wk,5,none⟩)) rfl (by kernel_rfl) (by kernel_rfl) (by kernel_rfl) (fun _ _ _ h=>h) (Or.inl ⟨by rfl,fun Xw hSW=>by go_simp⟩) hHeld ?_
    simp only [Act.put,List.setIfInBounds_toArray,List.set_cons_zero,List.set_cons_succ]
    refine wpAnyH_take (i:=3) (oi:=⟨some 57,_,_,_,_,_⟩) (v:=.map (some g.M)) rfl (by kernel_rfl) (by kernel_rfl) (by kernel_rfl) (fun _ _ _ h=>h) (Or.inl ⟨by rfl,fun Xw hSW=>by have k5:=hSW.2.cell (i:=5) rfl; go_simp⟩) hHeld ?_
    simp only [Act.put,List.setIfInBounds_toArray,List.set_cons_zero,List.set_cons_succ]
    refine wpAnyH_take (i:=4) (oi:=⟨some 58,_,_,_,_,_⟩) (v:=.agg #[.int .i64 x,.int .i64 y,.int .i64 z]) rfl (by kernel_rfl) (by kernel_rfl) (by kernel_rfl) (fun _ _ _ h=>h) (Or.inl ⟨by rfl,fun Xw hSW=>by have b0:=hSW.1.cell (i:=0) rfl; have b1:=hSW.1.cell (i:=1) rfl; have b2:=hSW.1.cell (i:=2) rfl; go_simp⟩) hHeld ?_
    simp only [Act.put,List.setIfInBounds_toArray,List.set_cons_zero,List.set_cons_succ]
    refine wpAnyH_take (i:=5) (oi:=⟨some 59,_,_,_,_,_⟩) (v:=.pointer (some ⟨kb,0,none⟩)) rfl (by kernel_rfl) (by kernel_rfl) (by kernel_rfl) (fun _ _ _ h=>h) (Or.inl ⟨by rfl,fun Xw hSW=>by go_simp⟩) hHeld ?_
    simp only [Act.put,List.setIfInBounds_toArray,List.set_cons_zero,List.set_cons_succ]
    refine wpAnyH_ready (rs:=[6]) (by kernel_rfl) (by simp) ?_
    refine AllReadyH.cons (o:=⟨none,_,_,_,_,_⟩) rfl (fun K hK=>?_) AllReadyH.nil
    obtain ⟨W9,hr9,hm9,hg9⟩:=run_updateK (w:=W5.drew) (b:=kb) (q:=(x,y,z)) (HMP5.out) HO.out
    have HM9:=Lib.hid hm9
    have HG9:=Lib.hid hg9
    clear hm9 hg9
    simp only at hr9
    go_simp
    have q9:Fr (fun k=>k = g.M) W5.drew W9:=Fr.grown HG9.out (fun i e=>by injection e with e; exact e.symm)
    have p9:Blk W9 w.heap.size TP [.int .i64 x,.int .i64 y,.int .i64 z]:=q9.blk HP5.out (fun e=>Blk.notMap HMP5.out HP5.out e)
    have w9:Blk W9 g.wk TWk (wcells g):=q9.blk HW5.out (fun e=>Blk.notMap HMP5.out HW5.out e)
    have H9:=Lib.hid (And.intro p9 w9)
    clear q9 p9 w9 hr9
    refine hK.out _ _ (H9.out) (fun hHeld=>?_)
    clear hK K
    refine wpAnyH_done (by kernel_rfl) ?_ _
    refine NoPanic.normal ?_
    go_wp2_with fail
    go_ret
    have hj:=KS.join HS.out (HK5.out.below (Below.refl _ _).drew) HAK5.out HQ.out HO.out (kb:=kb) (by rw [HKC.out]; exact HB5.out) hkb HM9.out HG9.out
    exact ⟨kb,f2.vA,f2.ak,_,rfl,by simp,fun p hp=>List.mem_append_left _ hp,hj.1,hj.2⟩
   | true =>
    go_wp2_with fail
    refine wp_region_noPanic ?_
    refine wp_region_held_drew (S:=fun Xw=>Xw.cell? ⟨kb,3,none⟩ = some (.int .u8 s1)∧Xw.cell? ⟨kb,4,none⟩ = some (.int .u8 s2)) (by kernel_rfl) (⟨HB5.out.cell (i:=3) rfl,HB5.out.cell (i:=4) rfl⟩) (fun hHeld=>?_)
    refine wpAnyH_take (i:=0) (oi:=⟨some 38,_,_,_,_,_⟩) (v:=.pointer (some ⟨kb,0,none⟩)) rfl (by kernel_rfl) (by kernel_rfl) (by kernel_rfl) (fun _ _ _ h=>h) (Or.inl ⟨by rfl,fun Xw hSW=>by go_simp⟩) hHeld ?_
    simp only [Act.put,List.setIfInBounds_toArray,List.set_cons_zero,List.set_cons_succ]
    refine wpAnyH_take (i:=1) (oi:=⟨some 39,_,_,_,_,_⟩) (v:=.pointer (some ⟨kb,0,none⟩)) rfl (by kernel_rfl) (by kernel_rfl) (by kernel_rfl) (fun _ _ _ h=>h) (Or.inl ⟨by rfl,fun Xw hSW=>by go_simp⟩) hHeld ?_
    simp only [Act.put,List.setIfInBounds_toArray,List.set_cons_zero,List.set_cons_succ]
    refine wpAnyH_take (i:=2) (oi:=⟨some 40,_,_,_,_,_⟩) (v:=.pointer (some ⟨kb,0,none⟩)) rfl (by kernel_rfl) (by kernel_rfl) (by kernel_rfl) (fun _ _ _ h=>h) (Or.inl ⟨by rfl,fun Xw hSW=>by go_simp⟩) hHeld ?_
    simp only [Act.put,List.setIfInBounds_toArray,List.set_cons_zero,List.set_cons_succ]
    refine wpAnyH_take (i:=3) (oi:=⟨some 41,_,_,_,_,_⟩) (v:=.pointer (some ⟨kb,3,none⟩)) rfl (by kernel_rfl) (by kernel_rfl) (by kernel_rfl) (fun _ _ _ h=>h) (Or.inl ⟨by rfl,fun Xw hSW=>by go_simp⟩) hHeld ?_
    simp only [Act.put,List.setIfInBounds_toArray,List.set_cons_zero,List.set_cons_succ]
    refine wpAnyH_take (i:=4) (oi:=⟨some 42,_,_,_,_,_⟩) (v:=.pointer (some ⟨kb,3,none⟩)) rfl (by kernel_rfl) (by kernel_rfl) (by kernel_rfl) (fun _ _ _ h=>h) (Or.inl ⟨by rfl,fun Xw hSW=>by go_simp⟩) hHeld ?_
    simp only [Act.put,List.setIfInBounds_toArray,List.set_cons_zero,List.set_cons_succ]
    refine wpAnyH_take (i:=5) (oi:=⟨some 43,_,_,_,_,_⟩) (v:=.int .u8 s1) rfl (by kernel_rfl) (by kernel_rfl) (by kernel_rfl) (fun _ _ _ h=>h) (Or.inl ⟨by rfl,fun Xw hSW=>by have a:=hSW.1; go_simp⟩) hHeld ?_
    simp only [Act.put,List.setIfInBounds_toArray,List.set_cons_zero,List.set_cons_succ]
    have hs1:(if (15:Int) < (s1:Int) then (15:Int) else (s1:Int)) = s1:=min_u8 HL15.out.1
    have hs2:(if (15:Int) < (s2:Int) then (15:Int) else (s2:Int)) = s2:=min_u8 HL15.out.2
    refine wpAnyH_take (i:=7) (oi:=⟨some 45,_,_,_,_,_⟩) (v:=.pointer (some ⟨kb,0,none⟩)) rfl (by kernel_rfl) (by kernel_rfl) (by kernel_rfl) (fun _ _ _ h=>h) (Or.inl ⟨by rfl,fun Xw hSW=>by go_simp⟩) hHeld ?_
    simp only [Act.put,List.setIfInBounds_toArray,List.set_cons_zero,List.set_cons_succ]
    refine wpAnyH_take (i:=8) (oi:=⟨some 46,_,_,_,_,_⟩) (v:=.pointer (some ⟨kb,0,none⟩)) rfl (by kernel_rfl) (by kernel_rfl) (by kernel_rfl) (fun _ _ _ h=>h) (Or.inl ⟨by rfl,fun Xw hSW=>by go_simp⟩) hHeld ?_
    simp only [Act.put,List.setIfInBounds_toArray,List.set_cons_zero,List.set_cons_succ]
    refine wpAnyH_take (i:=9) (oi:=⟨some 47,_,_,_,_,_⟩) (v:=.pointer (some ⟨kb,3,none⟩)) rfl (by kernel_rfl) (by kernel_rfl) (by kernel_rfl) (fun _ _ _ h=>h) (Or.inl ⟨by rfl,fun Xw hSW=>by go_simp⟩) hHeld ?_
    simp only [Act.put,List.setIfInBounds_toArray,List.set_cons_zero,List.set_cons_succ]
    refine wpAnyH_take (i:=10) (oi:=⟨some 48,_,_,_,_,_⟩) (v:=.pointer (some ⟨kb,4,none⟩)) rfl (by kernel_rfl) (by kernel_rfl) (by kernel_rfl) (fun _ _ _ h=>h) (Or.inl ⟨by rfl,fun Xw hSW=>by go_simp⟩) hHeld ?_
    simp only [Act.put,List.setIfInBounds_toArray,List.set_cons_zero,List.set_cons_succ]
    refine wpAnyH_take (i:=11) (oi:=⟨some 49,_,_,_,_,_⟩) (v:=.int .u8 s2) rfl (by kernel_rfl) (by kernel_rfl) (by kernel_rfl) (fun _ _ _ h=>h) (Or.inl ⟨by rfl,fun Xw hSW=>by have a:=hSW.2; go_simp⟩) hHeld ?_
    simp only [Act.put,List.setIfInBounds_toArray,List.set_cons_zero,List.set_cons_succ]
    refine wpAnyH_ready (rs:=[6,12]) (by kernel_rfl) (by simp) ?_
    refine AllReadyH.cons (o:=⟨some 44,_,_,_,_,_⟩) rfl (fun K hK=>?_) (AllReadyH.cons (o:=⟨some 50,_,_,_,_,_⟩) rfl (fun K hK=>?_) AllReadyH.nil)
    ·go_simp
     try simp only [hs1]
     refine hK.out _ _ (hHeld) (fun hHeld=>?_)
     clear hK K
     refine wpAnyH_ready (rs:=[12]) (by kernel_rfl) (by simp) ?_
     refine AllReadyH.cons (o:=⟨some 50,_,_,_,_,_⟩) rfl (fun K hK=>?_) AllReadyH.nil
     go_simp
     try simp only [hs2]
     refine hK.out _ _ (hHeld) (fun hHeld=>?_)
     clear hK K
     refine wpAnyH_take (i:=13) (oi:=⟨some 51,_,_,_,_,_⟩) (v:=.agg #[.int .u8 s1,.int .u8 s2]) rfl (by kernel_rfl) (by kernel_rfl) (by kernel_rfl) (fun _ _ _ h=>h) (Or.inl ⟨by rfl,fun Xw hSW=>by go_simp⟩) hHeld ?_
     simp only [Act.put,List.setIfInBounds_toArray,List.set_cons_zero,List.set_cons_succ]
     refine wpAnyH_take (i:=14) (oi:=⟨some 52,_,_,_,_,_⟩) (v:=.pointer (some ⟨kb,0,none⟩)) rfl (by kernel_rfl) (by kernel_rfl) (by kernel_rfl) (fun _ _ _ h=>h) (Or.inl ⟨by rfl,fun Xw hSW=>by go_simp⟩) hHeld ?_
     simp only [Act.put,List.setIfInBounds_toArray,List.set_cons_zero,List.set_cons_succ]
     refine wpAnyH_take (i:=15) (oi:=⟨some 53,_,_,_,_,_⟩) (v:=.pointer (some ⟨kb,5,none⟩)) rfl (by kernel_rfl) (by kernel_rfl) (by kernel_rfl) (fun _ _ _ h=>h) (Or.inl ⟨by rfl,fun Xw hSW=>by go_simp⟩) hHeld ?_
     simp only [Act.put,List.setIfInBounds_toArray,List.set_cons_zero,List.set_cons_succ]
     refine wpAnyH_ready (rs:=[16]) (by kernel_rfl) (by simp) ?_
     refine AllReadyH.cons (o:=⟨none,_,_,_,_,_⟩) rfl (fun K hK=>?_) AllReadyH.nil
     have z5:=HB5.out.cell (i:=5) rfl
     have z6:=HB5.out.cell (i:=6) rfl
     have y5:=HB5.out.frozen 5
     have y6:=HB5.out.frozen 6
     have x3:=HB5.out.cell (i:=3) rfl
     have x4:=HB5.out.cell (i:=4) rfl
     go_simp
     refine hK.out _ _ (⟨by (repeat' (first | (with_reducible assumption) | (with_reducible refine HeldP.c_drew ?_) | (with_reducible refine HeldP.c_drewN ?_) | (with_reducible refine HeldP.c_same (by omega) ?_) | (with_reducible refine HeldP.c_other ?_ ?_) | (with_reducible refine HeldP.c_new (by first | omega | (simp; done) | (simp; omega)) ?_) | (with_reducible refine HeldP.c_alloc ?_ ?_) | (with_reducible refine HeldP.e_drew ?_) | (with_reducible refine HeldP.e_drewN ?_) | (with_reducible refine HeldP.e_set ?_) | (with_reducible refine HeldP.e_new (by first | omega | (simp; done) | (simp; omega)) ⟨_,rfl⟩) | (with_reducible refine HeldP.e_alloc ?_ ?_) | (with_reducible refine HeldP.f_drew ?_) | (with_reducible refine HeldP.f_drewN ?_) | (with_reducible refine HeldP.f_set ?_) | (with_reducible refine HeldP.f_new (by first | omega | (simp; done) | (simp; omega))) | (with_reducible refine HeldP.f_alloc ?_ ?_) | (with_reducible refine HeldP.s_drew ?_) | (with_reducible refine HeldP.s_drewN ?_) | (with_reducible refine HeldP.s_set ?_) | (with_reducible refine HeldP.s_new (by first | omega | (simp; done) | (simp; omega))) | (with_reducible refine HeldP.s_alloc ?_) | (with_reducible exact ⟨_,by assumption⟩) | omega | (intro e; simp at e; done) | (intro e; simp at e; omega) | (exact rfl) | (simp; done) | (simp; omega))),by (repeat' (first | (with_reducible assumption) | (with_reducible refine HeldP.c_drew ?_) | (with_reducible refine HeldP.c_drewN ?_) | (with_reducible refine HeldP.c_same (by omega) ?_) | (with_reducible refine HeldP.c_other ?_ ?_) | (with_reducible refine HeldP.c_new (by first | omega | (simp; done) | (simp; omega)) ?_) | (with_reducible refine HeldP.c_alloc ?_ ?_) | (with_reducible refine HeldP.e_drew ?_) | (with_reducible refine HeldP.e_drewN ?_) | (with_reducible refine HeldP.e_set ?_) | (with_reducible refine HeldP.e_new (by first | omega | (simp; done) | (simp; omega)) ⟨_,rfl⟩) | (with_reducible refine HeldP.e_alloc ?_ ?_) | (with_reducible refine HeldP.f_drew ?_) | (with_reducible refine HeldP.f_drewN ?_) | (with_reducible refine HeldP.f_set ?_) | (with_reducible refine HeldP.f_new (by first | omega | (simp; done) | (simp; omega))) | (with_reducible refine HeldP.f_alloc ?_ ?_) | (with_reducible refine HeldP.s_drew ?_) | (with_reducible refine HeldP.s_drewN ?_) | (with_reducible refine HeldP.s_set ?_) | (with_reducible refine HeldP.s_new (by first | omega | (simp; done) | (simp; omega))) | (with_reducible refine HeldP.s_alloc ?_) | (with_reducible exact ⟨_,by assumption⟩) | omega | (intro e; simp at e; done) | (intro e; simp at e; omega) | (exact rfl) | (simp; done) | (simp; omega)))⟩) (fun hHeld=>?_)
     clear hK K
     refine wpAnyH_done (by kernel_rfl) ?_ _
     refine NoPanic.normal ?_
     refine HeldP.then_named (S:=fun W=>Blk W kb TK [.bool true,.int .u8 0,.int .u8 lp,.int .u8 s1,.int .u8 s2,.int .u8 s1,.int .u8 s2]∧KS w g W f2∧Blk W w.heap.size TP [.int .i64 x,.int .i64 y,.int .i64 z]∧Blk W g.wk TWk (wcells g)) ⟨by (have q:=HB5.out; (repeat' (first | (with_reducible exact q) | (with_reducible refine BlkP.Blk.drew ?_) | (with_reducible refine BlkP.Blk.drewN ?_ _) | (with_reducible refine BlkP.Blk.setAt (us:=?_) (by first | omega | (simp; done) | (simp; omega)) rfl ?_ ?_) | (with_reducible refine BlkP.Blk.otherAt ?_ (by first | omega | (simp; done) | (simp; omega))) | (with_reducible refine BlkP.Blk.newA' (by first | omega | (simp; done) | (simp; omega)) rfl) | (with_reducible refine BlkP.Blk.alloc ?_ _) | (exact rfl)))),KS.turnK HS.out.st HK5.out HB5.out hkb _ _,by (have q:=HP5.out; have ne:w.heap.size ≠ kb:=Blk.ne HP5.out HB5.out (by decide); (repeat' (first | (with_reducible exact q) | (with_reducible refine BlkP.Blk.drew ?_) | (with_reducible refine BlkP.Blk.drewN ?_ _) | (with_reducible refine BlkP.Blk.setAt (us:=?_) (by first | omega | (simp; done) | (simp; omega)) rfl ?_ ?_) | (with_reducible refine BlkP.Blk.otherAt ?_ (by first | omega | (simp; done) | (simp; omega))) | (with_reducible refine BlkP.Blk.newA' (by first | omega | (simp; done) | (simp; omega)) rfl) | (with_reducible refine BlkP.Blk.alloc ?_ _) | (exact rfl)))),by (have q:=HW5.out; (repeat' (first | (with_reducible exact q) | (with_reducible refine BlkP.Blk.drew ?_) | (with_reducible refine BlkP.Blk.drewN ?_ _) | (with_reducible refine BlkP.Blk.setAt (us:=?_) (by first | omega | (simp; done) | (simp; omega)) rfl ?_ ?_) | (with_reducible refine BlkP.Blk.otherAt ?_ (by first | omega | (simp; done) | (simp; omega))) | (with_reducible refine BlkP.Blk.newA' (by first | omega | (simp; done) | (simp; omega)) rfl) | (with_reducible refine BlkP.Blk.alloc ?_ _) | (exact rfl))))⟩ ?_
     rintro W6 ⟨hb6,hk6,hp6,hw6⟩
     have HK6:=Lib.hid hk6
     have HP6:=Lib.hid hp6
     have HW6:=Lib.hid hw6
     have HB6:=Lib.hid hb6
     have HMP6:=Lib.hid (show MapK W6 g.M g.kn from hk6.map HS.out.st)
     clear hk6 hp6 hw6 hb6 HK5 HP5 HW5 HB5 HMP5 hHeld b0
     go_wp2_with fail
     refine wp_region_noPanic ?_
     refine wp_region_held_drew (S:=fun Xw=>Blk Xw w.heap.size TP [.int .i64 x,.int .i64 y,.int .i64 z]∧Blk Xw g.wk TWk (wcells g)) (by kernel_rfl) (⟨HP6.out,HW6.out⟩) (fun hHeld=>?_)
     refine wpAnyH_take (i:=0) (oi:=⟨some 54,_,_,_,_,_⟩) (v:=.pointer (some ⟨g.wk,0,none⟩)) rfl (by kernel_rfl) (by kernel_rfl) (by kernel_rfl) (fun _ _ _ h=>h) (Or.inl ⟨by rfl,fun Xw hSW=>by go_simp⟩) hHeld ?_
     simp only [Act.put,List.setIfInBounds_toArray,List.set_cons_zero,List.set_cons_succ]
     refine wpAnyH_take (i:=1) (oi:=⟨some 55,_,_,_,_,_⟩) (v:=.pointer (some ⟨g.wk,0,none⟩)) rfl (by kernel_rfl) (by kernel_rfl) (by kernel_rfl) (fun _ _ _ h=>h) (Or.inl ⟨by rfl,fun Xw hSW=>by go_simp⟩) hHeld ?_
     simp only [Act.put,List.setIfInBounds_toArray,List.set_cons_zero,List.set_cons_succ]
     refine wpAnyH_take (i:=2) (oi:=⟨some 56,_,_,_,_,_⟩) (v:=.pointer (some ⟨g.wk,5,none⟩)) rfl (by kernel_rfl) (by kernel_rfl) (by kernel_rfl) (fun _ _ _ h=>h) (Or.inl ⟨by rfl,fun Xw hSW=>by go_simp⟩) hHeld ?_
     simp only [Act.put,List.setIfInBounds_toArray,List.set_cons_zero,List.set_cons_succ]
     refine wpAnyH_take (i:=3) (oi:=⟨some 57,_,_,_,_,_⟩) (v:=.map (some g.M)) rfl (by kernel_rfl) (by kernel_rfl) (by kernel_rfl) (fun _ _ _ h=>h) (Or.inl ⟨by rfl,fun Xw hSW=>by have k5:=hSW.2.cell (i:=5) rfl; go_simp⟩) hHeld ?_
     simp only [Act.put,List.setIfInBounds_toArray,List.set_cons_zero,List.set_cons_succ]
     refine wpAnyH_take (i:=4) (oi:=⟨some 58,_,_,_,_,_⟩) (v:=.agg #[.int .i64 x,.int .i64 y,.int .i64 z]) rfl (by kernel_rfl) (by kernel_rfl) (by kernel_rfl) (fun _ _ _ h=>h) (Or.inl ⟨by rfl,fun Xw hSW=>by have b0:=hSW.1.cell (i:=0) rfl; have b1:=hSW.1.cell (i:=1) rfl; have b2:=hSW.1.cell (i:=2) rfl; go_simp⟩) hHeld ?_
     simp only [Act.put,List.setIfInBounds_toArray,List.set_cons_zero,List.set_cons_succ]
     refine wpAnyH_take (i:=5) (oi:=⟨some 59,_,_,_,_,_⟩) (v:=.pointer (some ⟨kb,0,none⟩)) rfl (by kernel_rfl) (by kernel_rfl) (by kernel_rfl) (fun _ _ _ h=>h) (Or.inl ⟨by rfl,fun Xw hSW=>by go_simp⟩) hHeld ?_
     simp only [Act.put,List.setIfInBounds_toArray,List.set_cons_zero,List.set_cons_succ]
     refine wpAnyH_ready (rs:=[6]) (by kernel_rfl) (by simp) ?_
     refine AllReadyH.cons (o:=⟨none,_,_,_,_,_⟩) rfl (fun K hK=>?_) AllReadyH.nil
     obtain ⟨W9,hr9,hm9,hg9⟩:=run_updateK (w:=W6.drew) (b:=kb) (q:=(x,y,z)) (HMP6.out) HO.out
     have HM9:=Lib.hid hm9
     have HG9:=Lib.hid hg9
     clear hm9 hg9
     simp only at hr9
     go_simp
     have q9:Fr (fun k=>k = g.M) W6.drew W9:=Fr.grown HG9.out (fun i e=>by injection e with e; exact e.symm)
     have p9:Blk W9 w.heap.size TP [.int .i64 x,.int .i64 y,.int .i64 z]:=q9.blk HP6.out (fun e=>Blk.notMap HMP6.out HP6.out e)
     have w9:Blk W9 g.wk TWk (wcells g):=q9.blk HW6.out (fun e=>Blk.notMap HMP6.out HW6.out e)
     have H9:=Lib.hid (And.intro p9 w9)
     clear q9 p9 w9 hr9
     refine hK.out _ _ (H9.out) (fun hHeld=>?_)
     clear hK K
     refine wpAnyH_done (by kernel_rfl) ?_ _
     refine NoPanic.normal ?_
     go_wp2_with fail
     go_ret
     have hj:=KS.join HS.out (HK6.out.below (Below.refl _ _).drew) HAK5.out HQ.out HO.out (kb:=kb) (by rw [HKC.out]; exact HB6.out) hkb HM9.out HG9.out
     exact ⟨kb,f2.vA,f2.ak,_,rfl,by simp,fun p hp=>List.mem_append_left _ hp,hj.1,hj.2⟩
    ·go_simp
     try simp only [hs2]
     refine hK.out _ _ (hHeld) (fun hHeld=>?_)
     clear hK K
     refine wpAnyH_ready (rs:=[6]) (by kernel_rfl) (by simp) ?_
     refine AllReadyH.cons (o:=⟨some 44,_,_,_,_,_⟩) rfl (fun K hK=>?_) AllReadyH.nil
     go_simp
     try simp only [hs1]
     refine hK.out _ _ (hHeld) (fun hHeld=>?_)
     clear hK K
     refine wpAnyH_take (i:=13) (oi:=⟨some 51,_,_,_,_,_⟩) (v:=.agg #[.int .u8 s1,.int .u8 s2]) rfl (by kernel_rfl) (by kernel_rfl) (by kernel_rfl) (fun _ _ _ h=>h) (Or.inl ⟨by rfl,fun Xw hSW=>by go_simp⟩) hHeld ?_
     simp only [Act.put,List.setIfInBounds_toArray,List.set_cons_zero,List.set_cons_succ]
     refine wpAnyH_take (i:=14) (oi:=⟨some 52,_,_,_,_,_⟩) (v:=.pointer (some ⟨kb,0,none⟩)) rfl (by kernel_rfl) (by kernel_rfl) (by kernel_rfl) (fun _ _ _ h=>h) (Or.inl ⟨by rfl,fun Xw hSW=>by go_simp⟩) hHeld ?_
     simp only [Act.put,List.setIfInBounds_toArray,List.set_cons_zero,List.set_cons_succ]
     refine wpAnyH_take (i:=15) (oi:=⟨some 53,_,_,_,_,_⟩) (v:=.pointer (some ⟨kb,5,none⟩)) rfl (by kernel_rfl) (by kernel_rfl) (by kernel_rfl) (fun _ _ _ h=>h) (Or.inl ⟨by rfl,fun Xw hSW=>by go_simp⟩) hHeld ?_
     simp only [Act.put,List.setIfInBounds_toArray,List.set_cons_zero,List.set_cons_succ]
     refine wpAnyH_ready (rs:=[16]) (by kernel_rfl) (by simp) ?_
     refine AllReadyH.cons (o:=⟨none,_,_,_,_,_⟩) rfl (fun K hK=>?_) AllReadyH.nil
     have z5:=HB5.out.cell (i:=5) rfl
     have z6:=HB5.out.cell (i:=6) rfl
     have y5:=HB5.out.frozen 5
     have y6:=HB5.out.frozen 6
     have x3:=HB5.out.cell (i:=3) rfl
     have x4:=HB5.out.cell (i:=4) rfl
     go_simp
     refine hK.out _ _ (⟨by (repeat' (first | (with_reducible assumption) | (with_reducible refine HeldP.c_drew ?_) | (with_reducible refine HeldP.c_drewN ?_) | (with_reducible refine HeldP.c_same (by omega) ?_) | (with_reducible refine HeldP.c_other ?_ ?_) | (with_reducible refine HeldP.c_new (by first | omega | (simp; done) | (simp; omega)) ?_) | (with_reducible refine HeldP.c_alloc ?_ ?_) | (with_reducible refine HeldP.e_drew ?_) | (with_reducible refine HeldP.e_drewN ?_) | (with_reducible refine HeldP.e_set ?_) | (with_reducible refine HeldP.e_new (by first | omega | (simp; done) | (simp; omega)) ⟨_,rfl⟩) | (with_reducible refine HeldP.e_alloc ?_ ?_) | (with_reducible refine HeldP.f_drew ?_) | (with_reducible refine HeldP.f_drewN ?_) | (with_reducible refine HeldP.f_set ?_) | (with_reducible refine HeldP.f_new (by first | omega | (simp; done) | (simp; omega))) | (with_reducible refine HeldP.f_alloc ?_ ?_) | (with_reducible refine HeldP.s_drew ?_) | (with_reducible refine HeldP.s_drewN ?_) | (with_reducible refine HeldP.s_set ?_) | (with_reducible refine HeldP.s_new (by first | omega | (simp; done) | (simp; omega))) | (with_reducible refine HeldP.s_alloc ?_) | (with_reducible exact ⟨_,by assumption⟩) | omega | (intro e; simp at e; done) | (intro e; simp at e; omega) | (exact rfl) | (simp; done) | (simp; omega))),by (repeat' (first | (with_reducible assumption) | (with_reducible refine HeldP.c_drew ?_) | (with_reducible refine HeldP.c_drewN ?_) | (with_reducible refine HeldP.c_same (by omega) ?_) | (with_reducible refine HeldP.c_other ?_ ?_) | (with_reducible refine HeldP.c_new (by first | omega | (simp; done) | (simp; omega)) ?_) | (with_reducible refine HeldP.c_alloc ?_ ?_) | (with_reducible refine HeldP.e_drew ?_) | (with_reducible refine HeldP.e_drewN ?_) | (with_reducible refine HeldP.e_set ?_) | (with_reducible refine HeldP.e_new (by first | omega | (simp; done) | (simp; omega)) ⟨_,rfl⟩) | (with_reducible refine HeldP.e_alloc ?_ ?_) | (with_reducible refine HeldP.f_drew ?_) | (with_reducible refine HeldP.f_drewN ?_) | (with_reducible refine HeldP.f_set ?_) | (with_reducible refine HeldP.f_new (by first | omega | (simp; done) | (simp; omega))) | (with_reducible refine HeldP.f_alloc ?_ ?_) | (with_reducible refine HeldP.s_drew ?_) | (with_reducible refine HeldP.s_drewN ?_) | (with_reducible refine HeldP.s_set ?_) | (with_reducible refine HeldP.s_new (by first | omega | (simp; done) | (simp; omega))) | (with_reducible refine HeldP.s_alloc ?_) | (with_reducible exact ⟨_,by assumption⟩) | omega | (intro e; simp at e; done) | (intro e; simp at e; omega) | (exact rfl) | (simp; done) | (simp; omega)))⟩) (fun hHeld=>?_)
     clear hK K
     refine wpAnyH_done (by kernel_rfl) ?_ _
     refine NoPanic.normal ?_
     refine HeldP.then_named (S:=fun W=>Blk W kb TK [.bool true,.int .u8 0,.int .u8 lp,.int .u8 s1,.int .u8 s2,.int .u8 s1,.int .u8 s2]∧KS w g W f2∧Blk W w.heap.size TP [.int .i64 x,.int .i64 y,.int .i64 z]∧Blk W g.wk TWk (wcells g)) ⟨by (have q:=HB5.out; (repeat' (first | (with_reducible exact q) | (with_reducible refine BlkP.Blk.drew ?_) | (with_reducible refine BlkP.Blk.drewN ?_ _) | (with_reducible refine BlkP.Blk.setAt (us:=?_) (by first | omega | (simp; done) | (simp; omega)) rfl ?_ ?_) | (with_reducible refine BlkP.Blk.otherAt ?_ (by first | omega | (simp; done) | (simp; omega))) | (with_reducible refine BlkP.Blk.newA' (by first | omega | (simp; done) | (simp; omega)) rfl) | (with_reducible refine BlkP.Blk.alloc ?_ _) | (exact rfl)))),KS.turnK HS.out.st HK5.out HB5.out hkb _ _,by (have q:=HP5.out; have ne:w.heap.size ≠ kb:=Blk.ne HP5.out HB5.out (by decide); (repeat' (first | (with_reducible exact q) | (with_reducible refine BlkP.Blk.drew ?_) | (with_reducible refine BlkP.Blk.drewN ?_ _) | (with_reducible refine BlkP.Blk.setAt (us:=?_) (by first | omega | (simp; done) | (simp; omega)) rfl ?_ ?_) | (with_reducible refine BlkP.Blk.otherAt ?_ (by first | omega | (simp; done) | (simp; omega))) | (with_reducible refine BlkP.Blk.newA' (by first | omega | (simp; done) | (simp; omega)) rfl) | (with_reducible refine BlkP.Blk.alloc ?_ _) | (exact rfl)))),by (have q:=HW5.out; (repeat' (first | (with_reducible exact q) | (with_reducible refine BlkP.Blk.drew ?_) | (with_reducible refine BlkP.Blk.drewN ?_ _) | (with_reducible refine BlkP.Blk.setAt (us:=?_) (by first | omega | (simp; done) | (simp; omega)) rfl ?_ ?_) | (with_reducible refine BlkP.Blk.otherAt ?_ (by first | omega | (simp; done) | (simp; omega))) | (with_reducible refine BlkP.Blk.newA' (by first | omega | (simp; done) | (simp; omega)) rfl) | (with_reducible refine BlkP.Blk.alloc ?_ _) | (exact rfl))))⟩ ?_
     rintro W6 ⟨hb6,hk6,hp6,hw6⟩
     have HK6:=Lib.hid hk6
     have HP6:=Lib.hid hp6
     have HW6:=Lib.hid hw6
     have HB6:=Lib.hid hb6
     have HMP6:=Lib.hid (show MapK W6 g.M g.kn from hk6.map HS.out.st)
     clear hk6 hp6 hw6 hb6 HK5 HP5 HW5 HB5 HMP5 hHeld b0
     go_wp2_with fail
     refine wp_region_noPanic ?_
     refine wp_region_held_drew (S:=fun Xw=>Blk Xw w.heap.size TP [.int .i64 x,.int .i64 y,.int .i64 z]∧Blk Xw g.wk TWk (wcells g)) (by kernel_rfl) (⟨HP6.out,HW6.out⟩) (fun hHeld=>?_)
     refine wpAnyH_take (i:=0) (oi:=⟨some 54,_,_,_,_,_⟩) (v:=.pointer (some ⟨g.wk,0,none⟩)) rfl (by kernel_rfl) (by kernel_rfl) (by kernel_rfl) (fun _ _ _ h=>h) (Or.inl ⟨by rfl,fun Xw hSW=>by go_simp⟩) hHeld ?_
     simp only [Act.put,List.setIfInBounds_toArray,List.set_cons_zero,List.set_cons_succ]
     refine wpAnyH_take (i:=1) (oi:=⟨some 55,_,_,_,_,_⟩) (v:=.pointer (some ⟨g.wk,0,none⟩)) rfl (by kernel_rfl) (by kernel_rfl) (by kernel_rfl) (fun _ _ _ h=>h) (Or.inl ⟨by rfl,fun Xw hSW=>by go_simp⟩) hHeld ?_
     simp only [Act.put,List.setIfInBounds_toArray,List.set_cons_zero,List.set_cons_succ]
     refine wpAnyH_take (i:=2) (oi:=⟨some 56,_,_,_,_,_⟩) (v:=.pointer (some ⟨g.wk,5,none⟩)) rfl (by kernel_rfl) (by kernel_rfl) (by kernel_rfl) (fun _ _ _ h=>h) (Or.inl ⟨by rfl,fun Xw hSW=>by go_simp⟩) hHeld ?_
     simp only [Act.put,List.setIfInBounds_toArray,List.set_cons_zero,List.set_cons_succ]
     refine wpAnyH_take (i:=3) (oi:=⟨some 57,_,_,_,_,_⟩) (v:=.map (some g.M)) rfl (by kernel_rfl) (by kernel_rfl) (by kernel_rfl) (fun _ _ _ h=>h) (Or.inl ⟨by rfl,fun Xw hSW=>by have k5:=hSW.2.cell (i:=5) rfl; go_simp⟩) hHeld ?_
     simp only [Act.put,List.setIfInBounds_toArray,List.set_cons_zero,List.set_cons_succ]
     refine wpAnyH_take (i:=4) (oi:=⟨some 58,_,_,_,_,_⟩) (v:=.agg #[.int .i64 x,.int .i64 y,.int .i64 z]) rfl (by kernel_rfl) (by kernel_rfl) (by kernel_rfl) (fun _ _ _ h=>h) (Or.inl ⟨by rfl,fun Xw hSW=>by have b0:=hSW.1.cell (i:=0) rfl; have b1:=hSW.1.cell (i:=1) rfl; have b2:=hSW.1.cell (i:=2) rfl; go_simp⟩) hHeld ?_
     simp only [Act.put,List.setIfInBounds_toArray,List.set_cons_zero,List.set_cons_succ]
     refine wpAnyH_take (i:=5) (oi:=⟨some 59,_,_,_,_,_⟩) (v:=.pointer (some ⟨kb,0,none⟩)) rfl (by kernel_rfl) (by kernel_rfl) (by kernel_rfl) (fun _ _ _ h=>h) (Or.inl ⟨by rfl,fun Xw hSW=>by go_simp⟩) hHeld ?_
     simp only [Act.put,List.setIfInBounds_toArray,List.set_cons_zero,List.set_cons_succ]
     refine wpAnyH_ready (rs:=[6]) (by kernel_rfl) (by simp) ?_
     refine AllReadyH.cons (o:=⟨none,_,_,_,_,_⟩) rfl (fun K hK=>?_) AllReadyH.nil
     obtain ⟨W9,hr9,hm9,hg9⟩:=run_updateK (w:=W6.drew) (b:=kb) (q:=(x,y,z)) (HMP6.out) HO.out
     have HM9:=Lib.hid hm9
     have HG9:=Lib.hid hg9
     clear hm9 hg9
     simp only at hr9
     go_simp
     have q9:Fr (fun k=>k = g.M) W6.drew W9:=Fr.grown HG9.out (fun i e=>by injection e with e; exact e.symm)
     have p9:Blk W9 w.heap.size TP [.int .i64 x,.int .i64 y,.int .i64 z]:=q9.blk HP6.out (fun e=>Blk.notMap HMP6.out HP6.out e)
     have w9:Blk W9 g.wk TWk (wcells g):=q9.blk HW6.out (fun e=>Blk.notMap HMP6.out HW6.out e)
     have H9:=Lib.hid (And.intro p9 w9)
     clear q9 p9 w9 hr9
     refine hK.out _ _ (H9.out) (fun hHeld=>?_)
     clear hK K
     refine wpAnyH_done (by kernel_rfl) ?_ _
     refine NoPanic.normal ?_
     go_wp2_with fail
     go_ret
     have hj:=KS.join HS.out (HK6.out.below (Below.refl _ _).drew) HAK5.out HQ.out HO.out (kb:=kb) (by rw [HKC.out]; exact HB6.out) hkb HM9.out HG9.out
     exact ⟨kb,f2.vA,f2.ak,_,rfl,by simp,fun p hp=>List.mem_append_left _ hp,hj.1,hj.2⟩
end FloodW
end Go.Proofs.YtpimkdaikoclnaaDoor
namespace Go.Proofs.YtpimkdaikoclnaaDoor
open Go.RowKit
set_option linter.unusedVariables false
set_option linter.unusedSimpArgs false
namespace FloodW
open BlkP RowG GlowW FloodP
def gapZ (a b:Int):Nat:=(a - b).natAbs
def clampY (g:Gh) (y:Int):Int:=max g.low (min y g.at_.2.1)
def dG (g:Gh) (q:V):Nat:=gapZ q.1 g.at_.1 + (gapZ q.2.1 (clampY g q.2.1) + gapZ q.2.2 g.at_.2.2)
theorem gapI_gapZ (a b:Int):PlaceW.gapI a b = (gapZ a b:Int):=by
 unfold PlaceW.gapI gapZ
 split <;> omega
theorem clamp_may {w:World} {g:Gh} (h:St w g) (y:Int):0≤clampY g y∧clampY g y≤63:=by
 have h1:=h.atp
 have h2:=h.lowp
 unfold mayP at h1
 unfold clampY
 omega
theorem far_near {w:World} {g:Gh} {q:V} (h:St w g) (hq:mayP q):PlaceW.farOf q.1 q.2.1 q.2.2 g.at_.1 (clampY g q.2.1) g.at_.2.2 = ((dG g q:Int),true):=by
 have h1:=h.atp
 have h2:=clamp_may h q.2.1
 unfold mayP at h1
 have e1:PlaceW.mayB q.1 q.2.1 q.2.2 = true:=may_yes (x:=q.1) (y:=q.2.1) (z:=q.2.2) hq
 have e2:PlaceW.mayB g.at_.1 (clampY g q.2.1) g.at_.2.2 = true:=may_yes (x:=g.at_.1) (y:=clampY g q.2.1) (z:=g.at_.2.2) ⟨h1.1,h1.2.1,by simp only; omega,by simp only; omega,h1.2.2.2.2.1,h1.2.2.2.2.2⟩
 unfold PlaceW.farOf
 rw [e1,e2]
 simp only [Bool.and_self,if_true,gapI_gapZ]
 unfold dG
 simp
 omega
set_option maxRecDepth 100000 in
set_option maxHeartbeats 4000000 in
theorem near_c {w:World} {g:Gh} {q:V} (h:Sx w g) (hq:mayP q):Calls Tryd.prog 64 #[.pointer (some ⟨g.wk,0,none⟩),.agg #[.int .i64 q.1,.int .i64 q.2.1,.int .i64 q.2.2]] w fun e w'=>e = .returned (.bool (decide (dG g q≤15)))∧Below w.heap.size w w':=by
 have HFAR:=Lib.hid (far_near h.st hq)
 obtain ⟨x,y,z⟩:=q
 simp only at HFAR ⊢
 have HWK:=Lib.hid h.st.work
 have hwl:=h.st.work.lt
 obtain ⟨d,hd⟩:∃ d,dG g (x,y,z) = d:=⟨_,rfl⟩
 rw [hd] at HFAR ⊢
 obtain ⟨m,hm⟩:∃ m,(if g.at_.2.1 < y then g.at_.2.1 else y) = m:=⟨_,rfl⟩
 obtain ⟨c,hc⟩:∃ c,clampY g y = c:=⟨_,rfl⟩
 rw [hc] at HFAR
 have hM:(if g.low < m then m else g.low) = c:=by
  rw [← hc,← hm,clampY]
  split <;> split <;> omega
 have hM':(if m < g.low then g.low else m) = c:=by
  rw [← hc,← hm,clampY]
  split <;> split <;> omega
 have hm':(if y < g.at_.2.1 then y else g.at_.2.1) = m:=by
  rw [← hm]
  split <;> split <;> omega
 have HMN:=Lib.hid hm
 have HMN':=Lib.hid hm'
 have HMX:=Lib.hid hM
 have HMX':=Lib.hid hM'
 clear hm hm' hM hM' hc hd h
 have k1:w.cell? ⟨g.wk,1,none⟩ = some (.int .i64 g.at_.1):=HWK.out.cell (i:=1) rfl
 have k2:w.cell? ⟨g.wk,2,none⟩ = some (.int .i64 g.at_.2.1):=HWK.out.cell (i:=2) rfl
 have k3:w.cell? ⟨g.wk,3,none⟩ = some (.int .i64 g.at_.2.2):=HWK.out.cell (i:=3) rfl
 go_enter Tryd.func64,Tryd.ntmps64
 go_wp2_with fail
 refine HeldP.wp_named (S:=fun W=>Blk W w.heap.size TP [.int .i64 x,.int .i64 y,.int .i64 z]∧Blk W (w.heap.size + 1) TP [.int .i64 g.at_.1,.int .i64 g.at_.2.1,.int .i64 g.at_.2.2]∧Blk W g.wk TWk (wcells g)∧Below w.heap.size w W) ⟨by (repeat' (first | (with_reducible refine BlkP.Blk.drew ?_) | (with_reducible refine BlkP.Blk.drewN ?_ _) | (with_reducible refine BlkP.Blk.setAt (us:=?_) (by first | omega | (simp; done) | (simp; omega)) rfl ?_ ?_) | (with_reducible refine BlkP.Blk.otherAt ?_ (by first | omega | (simp; done) | (simp; omega))) | (with_reducible refine BlkP.Blk.newA' (by first | omega | (simp; done) | (simp; omega)) rfl) | (with_reducible refine BlkP.Blk.alloc ?_ _) | (exact rfl))),by (repeat' (first | (with_reducible refine BlkP.Blk.drew ?_) | (with_reducible refine BlkP.Blk.drewN ?_ _) | (with_reducible refine BlkP.Blk.setAt (us:=?_) (by first | omega | (simp; done) | (simp; omega)) rfl ?_ ?_) | (with_reducible refine BlkP.Blk.otherAt ?_ (by first | omega | (simp; done) | (simp; omega))) | (with_reducible refine BlkP.Blk.newA' (by first | omega | (simp; done) | (simp; omega)) rfl) | (with_reducible refine BlkP.Blk.alloc ?_ _) | (exact rfl))),by (have q:=HWK.out; (repeat' (first | (with_reducible exact q) | (with_reducible refine BlkP.Blk.drew ?_) | (with_reducible refine BlkP.Blk.drewN ?_ _) | (with_reducible refine BlkP.Blk.setAt (us:=?_) (by first | omega | (simp; done) | (simp; omega)) rfl ?_ ?_) | (with_reducible refine BlkP.Blk.otherAt ?_ (by first | omega | (simp; done) | (simp; omega))) | (with_reducible refine BlkP.Blk.newA' (by first | omega | (simp; done) | (simp; omega)) rfl) | (with_reducible refine BlkP.Blk.alloc ?_ _) | (exact rfl)))),by (repeat' (first | (with_reducible exact Below.refl _ _) | (with_reducible refine Below.setCell ?_ (by (first | omega | (simp; done) | (simp; omega))) _) | (with_reducible refine Below.alloc ?_ (by (first | omega | (simp; done) | (simp; omega))) _) | (with_reducible refine Below.drew ?_) | (with_reducible refine below_drewN ?_ _)))⟩ ?_
 clear k1 k2 k3
 rintro W0 ⟨hp,hn,hw,hb⟩
 have HP:=Lib.hid hp
 have HN:=Lib.hid hn
 have HW:=Lib.hid hw
 have HB:=Lib.hid hb
 clear hp hn hw hb
 refine wp_region_noPanic ?_
 refine wp_region_held_drew (S:=fun Xw=>Blk Xw w.heap.size TP [.int .i64 x,.int .i64 y,.int .i64 z]∧Blk Xw g.wk TWk (wcells g)) (by kernel_rfl) (⟨HP.out,HW.out⟩) (fun hHeld=>?_)
 refine wpAnyH_take (i:=0) (oi:=⟨some 12,_,_,_,_,_⟩) (v:=.pointer (some ⟨g.wk,0,none⟩)) rfl (by kernel_rfl) (by kernel_rfl) (by kernel_rfl) (fun _ _ _ h=>h) (Or.inl ⟨by rfl,fun Xw hSW=>by go_simp⟩) hHeld ?_
 simp only [Act.put,List.setIfInBounds_toArray,List.set_cons_zero,List.set_cons_succ]
 refine wpAnyH_take (i:=1) (oi:=⟨some 13,_,_,_,_,_⟩) (v:=.pointer (some ⟨g.wk,0,none⟩)) rfl (by kernel_rfl) (by kernel_rfl) (by kernel_rfl) (fun _ _ _ h=>h) (Or.inl ⟨by rfl,fun Xw hSW=>by go_simp⟩) hHeld ?_
 simp only [Act.put,List.setIfInBounds_toArray,List.set_cons_zero,List.set_cons_succ]
 refine wpAnyH_take (i:=2) (oi:=⟨some 14,_,_,_,_,_⟩) (v:=.pointer (some ⟨g.wk,4,none⟩)) rfl (by kernel_rfl) (by kernel_rfl) (by kernel_rfl) (fun _ _ _ h=>h) (Or.inl ⟨by rfl,fun Xw hSW=>by go_simp⟩) hHeld ?_
 simp only [Act.put,List.setIfInBounds_toArray,List.set_cons_zero,List.set_cons_succ]
 refine wpAnyH_take (i:=3) (oi:=⟨some 15,_,_,_,_,_⟩) (v:=.int .i64 g.low) rfl (by kernel_rfl) (by kernel_rfl) (by kernel_rfl) (fun _ _ _ h=>h) (Or.inl ⟨by rfl,fun Xw hSW=>by have k4:=hSW.2.cell (i:=4) rfl; go_simp⟩) hHeld ?_
 simp only [Act.put,List.setIfInBounds_toArray,List.set_cons_zero,List.set_cons_succ]
 refine wpAnyH_take (i:=4) (oi:=⟨some 16,_,_,_,_,_⟩) (v:=.pointer (some ⟨w.heap.size,1,none⟩)) rfl (by kernel_rfl) (by kernel_rfl) (by kernel_rfl) (fun _ _ _ h=>h) (Or.inl ⟨by rfl,fun Xw hSW=>by go_simp⟩) hHeld ?_
 simp only [Act.put,List.setIfInBounds_toArray,List.set_cons_zero,List.set_cons_succ]
 refine wpAnyH_take (i:=5) (oi:=⟨some 17,_,_,_,_,_⟩) (v:=.int .i64 y) rfl (by kernel_rfl) (by kernel_rfl) (by kernel_rfl) (fun _ _ _ h=>h) (Or.inl ⟨by rfl,fun Xw hSW=>by have k1:=hSW.1.cell (i:=1) rfl; go_simp⟩) hHeld ?_
 simp only [Act.put,List.setIfInBounds_toArray,List.set_cons_zero,List.set_cons_succ]
 refine wpAnyH_take (i:=6) (oi:=⟨some 18,_,_,_,_,_⟩) (v:=.pointer (some ⟨g.wk,0,none⟩)) rfl (by kernel_rfl) (by kernel_rfl) (by kernel_rfl) (fun _ _ _ h=>h) (Or.inl ⟨by rfl,fun Xw hSW=>by go_simp⟩) hHeld ?_
 simp only [Act.put,List.setIfInBounds_toArray,List.set_cons_zero,List.set_cons_succ]
 refine wpAnyH_take (i:=7) (oi:=⟨some 19,_,_,_,_,_⟩) (v:=.pointer (some ⟨g.wk,0,none⟩)) rfl (by kernel_rfl) (by kernel_rfl) (by kernel_rfl) (fun _ _ _ h=>h) (Or.inl ⟨by rfl,fun Xw hSW=>by go_simp⟩) hHeld ?_
 simp only [Act.put,List.setIfInBounds_toArray,List.set_cons_zero,List.set_cons_succ]
 refine wpAnyH_take (i:=8) (oi:=⟨some 20,_,_,_,_,_⟩) (v:=.pointer (some ⟨g.wk,1,none⟩)) rfl (by kernel_rfl) (by kernel_rfl) (by kernel_rfl) (fun _ _ _ h=>h) (Or.inl ⟨by rfl,fun Xw hSW=>by go_simp⟩) hHeld ?_
 simp only [Act.put,List.setIfInBounds_toArray,List.set_cons_zero,List.set_cons_succ]
 refine wpAnyH_take (i:=9) (oi:=⟨some 21,_,_,_,_,_⟩) (v:=.pointer (some ⟨g.wk,2,none⟩)) rfl (by kernel_rfl) (by kernel_rfl) (by kernel_rfl) (fun _ _ _ h=>h) (Or.inl ⟨by rfl,fun Xw hSW=>by go_simp⟩) hHeld ?_
 simp only [Act.put,List.setIfInBounds_toArray,List.set_cons_zero,List.set_cons_succ]
 refine wpAnyH_take (i:=10) (oi:=⟨some 22,_,_,_,_,_⟩) (v:=.int .i64 g.at_.2.1) rfl (by kernel_rfl) (by kernel_rfl) (by kernel_rfl) (fun _ _ _ h=>h) (Or.inl ⟨by rfl,fun Xw hSW=>by have k2:=hSW.2.cell (i:=2) rfl; go_simp⟩) hHeld ?_
 simp only [Act.put,List.setIfInBounds_toArray,List.set_cons_zero,List.set_cons_succ]
 refine wpAnyH_ready (rs:=[11]) (by kernel_rfl) (by simp) ?_
 refine AllReadyH.cons (o:=⟨some 23,_,_,_,_,_⟩) rfl (fun K hK=>?_) AllReadyH.nil
 go_simp
 first | rw [HMN.out] | rw [HMN'.out]
 refine hK.out _ _ (hHeld) (fun hHeld=>?_)
 clear hK K
 refine wpAnyH_ready (rs:=[12]) (by kernel_rfl) (by simp) ?_
 refine AllReadyH.cons (o:=⟨some 24,_,_,_,_,_⟩) rfl (fun K hK=>?_) AllReadyH.nil
 go_simp
 first | rw [HMX.out] | rw [HMX'.out]
 refine hK.out _ _ (hHeld) (fun hHeld=>?_)
 clear hK K
 refine wpAnyH_take (i:=13) (oi:=⟨some 25,_,_,_,_,_⟩) (v:=.pointer (some ⟨w.heap.size + 1,1,none⟩)) rfl (by kernel_rfl) (by kernel_rfl) (by kernel_rfl) (fun _ _ _ h=>h) (Or.inl ⟨by rfl,fun Xw hSW=>by go_simp⟩) hHeld ?_
 simp only [Act.put,List.setIfInBounds_toArray,List.set_cons_zero,List.set_cons_succ]
 refine wpAnyH_ready (rs:=[14]) (by kernel_rfl) (by simp) ?_
 refine AllReadyH.cons (o:=⟨none,_,_,_,_,_⟩) rfl (fun K hK=>?_) AllReadyH.nil
 have z1:=HN.out.cell (i:=1) rfl
 have z2:=HN.out.frozen 1
 go_simp
 refine hK.out _ _ (⟨by (have q:=HP.out; (repeat' (first | (with_reducible exact q) | (with_reducible refine BlkP.Blk.drew ?_) | (with_reducible refine BlkP.Blk.drewN ?_ _) | (with_reducible refine BlkP.Blk.setAt (us:=?_) (by first | omega | (simp; done) | (simp; omega)) rfl ?_ ?_) | (with_reducible refine BlkP.Blk.otherAt ?_ (by first | omega | (simp; done) | (simp; omega))) | (with_reducible refine BlkP.Blk.newA' (by first | omega | (simp; done) | (simp; omega)) rfl) | (with_reducible refine BlkP.Blk.alloc ?_ _) | (exact rfl)))),(HW.out.otherAt (by show g.wk ≠ w.heap.size + 1; omega)).drew⟩) (fun hHeld=>?_)
 clear hK K
 refine wpAnyH_done (by kernel_rfl) ?_ _
 refine NoPanic.normal ?_
 have HN2:=Lib.hid (show Blk (W0.drew.setCell ⟨w.heap.size + 1,1,none⟩ (.int .i64 c)) (w.heap.size + 1) TP [.int .i64 g.at_.1,.int .i64 c,.int .i64 g.at_.2.2] by (have q:=HN.out; (repeat' (first | (with_reducible exact q) | (with_reducible refine BlkP.Blk.drew ?_) | (with_reducible refine BlkP.Blk.drewN ?_ _) | (with_reducible refine BlkP.Blk.setAt (us:=?_) (by first | omega | (simp; done) | (simp; omega)) rfl ?_ ?_) | (with_reducible refine BlkP.Blk.otherAt ?_ (by first | omega | (simp; done) | (simp; omega))) | (with_reducible refine BlkP.Blk.newA' (by first | omega | (simp; done) | (simp; omega)) rfl) | (with_reducible refine BlkP.Blk.alloc ?_ _) | (exact rfl)))))
 refine HeldP.then_named (S:=fun W=>Blk W w.heap.size TP [.int .i64 x,.int .i64 y,.int .i64 z]∧Blk W (w.heap.size + 1) TP [.int .i64 g.at_.1,.int .i64 c,.int .i64 g.at_.2.2]∧Below w.heap.size w W) ⟨by (have q:=HP.out; (repeat' (first | (with_reducible exact q) | (with_reducible refine BlkP.Blk.drew ?_) | (with_reducible refine BlkP.Blk.drewN ?_ _) | (with_reducible refine BlkP.Blk.setAt (us:=?_) (by first | omega | (simp; done) | (simp; omega)) rfl ?_ ?_) | (with_reducible refine BlkP.Blk.otherAt ?_ (by first | omega | (simp; done) | (simp; omega))) | (with_reducible refine BlkP.Blk.newA' (by first | omega | (simp; done) | (simp; omega)) rfl) | (with_reducible refine BlkP.Blk.alloc ?_ _) | (exact rfl)))),HN2.out,by (have q:=HB.out; (repeat' (first | (with_reducible exact Below.refl _ _) | (with_reducible refine Below.setCell ?_ (by (first | omega | (simp; done) | (simp; omega))) _) | (with_reducible refine Below.alloc ?_ (by (first | omega | (simp; done) | (simp; omega))) _) | (with_reducible refine Below.drew ?_) | (with_reducible refine below_drewN ?_ _) | (with_reducible refine Below.trans ?_ (Below.mono q (by (first | omega | (simp; done) | (simp; omega))))))))⟩ ?_
 clear hHeld HP HN HW HB HN2
 rintro W1 ⟨hp,hn,hb⟩
 have HB:=Lib.hid hb
 have a0:=hp.cell (i:=0) rfl
 have a1:=hp.cell (i:=1) rfl
 have a2:=hp.cell (i:=2) rfl
 have b0:=hn.cell (i:=0) rfl
 have b1:=hn.cell (i:=1) rfl
 have b2:=hn.cell (i:=2) rfl
 clear hp hn hb
 have HD:=Lib.hid (show decide ((d:Int)≤15) = decide (d≤15) from by rw [decide_eq_decide]; omega)
 go_wp2_with fail
 go_at_call 77
 refine (PlaceW.far_c HFAR.out _).mono ?_
 rintro e W2 ⟨rfl,hb2⟩
 have HB2:=Lib.hid hb2
 clear a0 a1 a2 b0 b1 b2 hb2
 go_wp2_with fail
 go_ret
 refine ⟨?_,(HB.out.trans (HB2.out.mono HB.out.size))⟩
 first | rfl | (simp; done) | (simp [HD.out]; done)
theorem fsides_c {w:World} {b:Nat} {x y z:Int}:Calls Tryd.prog 53 #[.pointer (some ⟨b,0,none⟩),.agg #[.int .i64 x,.int .i64 y,.int .i64 z]] w fun e w'=>∃ E,e = .returned (.func (.func 63) #[] #[.pointer (some ⟨E,0,none⟩),.pointer (some ⟨w.heap.size,0,none⟩)])∧E = w.heap.size + 1∧Blk w' E TP [.int .i64 x,.int .i64 y,.int .i64 z]∧Blk w' w.heap.size 66 [.pointer (some ⟨b,0,none⟩)]∧Below w.heap.size w w':=by
 go_enter Tryd.func53,Tryd.ntmps53
 go_wp2_with fail
 go_ret
 exact ⟨_,rfl,rfl,by (repeat' (first | (with_reducible refine BlkP.Blk.drew ?_) | (with_reducible refine BlkP.Blk.drewN ?_ _) | (with_reducible refine BlkP.Blk.setAt (us:=?_) (by first | omega | (simp; done) | (simp; omega)) rfl ?_ ?_) | (with_reducible refine BlkP.Blk.otherAt ?_ (by first | omega | (simp; done) | (simp; omega))) | (with_reducible refine BlkP.Blk.newA' (by first | omega | (simp; done) | (simp; omega)) rfl) | (with_reducible refine BlkP.Blk.alloc ?_ _) | (exact rfl))),by (repeat' (first | (with_reducible refine BlkP.Blk.drew ?_) | (with_reducible refine BlkP.Blk.drewN ?_ _) | (with_reducible refine BlkP.Blk.setAt (us:=?_) (by first | omega | (simp; done) | (simp; omega)) rfl ?_ ?_) | (with_reducible refine BlkP.Blk.otherAt ?_ (by first | omega | (simp; done) | (simp; omega))) | (with_reducible refine BlkP.Blk.newA' (by first | omega | (simp; done) | (simp; omega)) rfl) | (with_reducible refine BlkP.Blk.alloc ?_ _) | (exact rfl))),by (repeat' (first | (with_reducible exact Below.refl _ _) | (with_reducible refine Below.setCell ?_ (by (first | omega | (simp; done) | (simp; omega))) _) | (with_reducible refine Below.alloc ?_ (by (first | omega | (simp; done) | (simp; omega))) _) | (with_reducible refine Below.drew ?_) | (with_reducible refine below_drewN ?_ _)))⟩
end FloodW
end Go.Proofs.YtpimkdaikoclnaaDoor
