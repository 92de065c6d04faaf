import Derived.Test.YtpimkdaikoclnaaDoorFlB14
import Derived.Test.YtpimkdaikoclnaaDoorFlB6
import Derived.Test.YtpimkdaikoclnaaDoorFlB13
namespace Go.Proofs.YtpimkdaikoclnaaDoor
open Go.RowKit
set_option linter.unusedVariables false
set_option linter.unusedSimpArgs false
namespace FloodW
open BlkP RowG GlowW FloodP
theorem flat_at2:∀ {l:List (Nat × Nat)} {j:Nat} {u:Value},(flat enc2 l)[j]? = some u→∃ i x k,l[i]? = some x∧(enc2.f x)[k]? = some u∧j = i * 2 + k
 | [],j,u,h=>by simp [flat] at h
 | x :: r,j,u,h=>by
  have h2:flat enc2 (x :: r) = enc2.f x ++ flat enc2 r:=rfl
  rw [h2] at h
  by_cases hj:j < 2
  ·rw [List.getElem?_append_left (by rw [enc2.len]; exact hj)] at h
   exact ⟨0,x,j,rfl,h,by omega⟩
  ·rw [List.getElem?_append_right (by rw [enc2.len]; exact Nat.le_of_not_lt hj),enc2.len] at h
   obtain ⟨i,y,k,h1,h3,h4⟩:=flat_at2 h
   refine ⟨i + 1,y,k,h1,h3,?_⟩
   have h5:j - 2 = i * 2 + k:=h4
   omega
section
variable {w:World} {ops:Array Oper} {rest:List Oper} {o:Oper} {a:Act} {Q:Exit→Act→World→Prop} {W:World}
set_option maxRecDepth 100000 in
theorem wp_copyLt (hgd:o.guard = none) (s x:Operand) (ho:o.op = .call { callee:=.builtin .append,args:=#[s,x],argTypes:=#[TSL,TSL] }) {A:Option Addr} {n c:Nat} {l:List (Nat × Nat)}
  (hW:W = w.alloc (.cells #[] TL)) (hs:a.eval s = .slice (some ⟨w.heap.size,0,none⟩) 0 0) (hx:a.eval x = .slice A n c) (hR:Rd enc2 w (.slice A n c) l) (hn:l.length = n) (h0:0 < n) (hl:n≤1000000)
  (h:∀ g c' w',RowG.Own enc2 TL w' w.heap.size (.slice (some ⟨g,0,none⟩) n c') l→Below w.heap.size w w'→wpList Tryd.prog ops Q rest (a.put o.dst (.slice (some ⟨g,0,none⟩) n c')) w'):wpList Tryd.prog ops Q (o :: rest) a W:=by
 subst hW
 obtain ⟨x0,hx0⟩:∃ x,l[0]? = some x:=⟨_,List.getElem?_eq_getElem (by omega)⟩
 obtain ⟨b,of,rfl,hlt,_⟩:=hR.at hx0
 have hown:(w.alloc (.cells #[] TL)).ownsRow w.heap.size TL 2 (.slice (some ⟨w.heap.size,0,none⟩) 0 0) 0 []:=World.ownsRow_made w #[] 0 (Nat.le_refl _) (Nat.zero_le _) rfl
 obtain ⟨i,hi,hz,hs1,hby⟩:=info_parts infoLight
 have hC:∀ j u,(flat enc2 l)[j]? = some u→(w.alloc (.cells #[] TL)).cell? ((⟨b,of,none⟩:Addr).add j) = some u:=fun j u hu=>by
  obtain ⟨k,y,m,h1,h2,rfl⟩:=flat_at2 hu
  obtain ⟨b',o',e,hb',hcs⟩:=hR.at h1
  injection e with e
  injection e with e1 e2
  subst e1 e2
  have hadd:(⟨b,of,none⟩:Addr).add (k * 2 + m) = ⟨b,of + k * 2 + m,none⟩:=by unfold Addr.add; split <;> simp_all <;> omega
  rw [hadd,World.cell?_alloc_lt _ _ _ hlt]
  exact hcs m u h2
 have hF:(flat enc2 l).length = n * 2:=by rw [flat_len,hn]; rfl
 refine wpList_append_own_at _ hgd s x TSL ho w.heap.size TL i _ 2 2 underLights hi hz hs1 hby rfl (by omega) _ 0 [] hs hown ⟨b,of,none⟩ n c (flat enc2 l) hx hF hC (fun u hu=>?_) (by have:maxLen = 9223372036854775807:=rfl; omega) (by omega) (by simp) ?_
 ·obtain ⟨j,hj⟩:=List.getElem?_of_mem hu
  obtain ⟨k,y,m,_,h2,_⟩:=flat_at2 hj
  exact enc2.one y u (List.mem_of_getElem? h2)
 intro v' w' hown' hg _ hb
 have hO:RowG.Own enc2 TL w' w.heap.size v' l:=by
  unfold RowG.Own
  rw [hn]
  have q:=hown'
  rw [Nat.zero_add,List.nil_append] at q
  exact q
 obtain ⟨A',c',rfl,_,_,hA⟩:=hO.form hn
 obtain ⟨g,rfl,hg1,hg2⟩:=hA h0
 exact h g c' w' hO (((Below.refl _ w).alloc (Nat.le_refl _) _).grown hg (by simp) (fun k hk=>by
  have hk':(Value.slice (some ⟨w.heap.size,0,none⟩) 0 0).ownBlock = some k:=hk
  have:w.heap.size = k:=by simpa [Value.ownBlock] using hk'
  omega))
end
def cntD (R L:List (Nat × Nat)):Nat→Nat
 | 0=>0
 | i + 1=>cntD R L i + (if R[i]? = L[i]? then 0 else 1)
theorem cntD_eq (R L:List (Nat × Nat)):∀ n,cntD R L n = ((List.range n).filter fun i=>decide (¬ R[i]? = L[i]?)).length
 | 0=>rfl
 | n + 1=>by
  rw [List.range_succ,List.filter_append,List.length_append,← cntD_eq R L n]
  have e:([n].filter fun i=>decide (¬ R[i]? = L[i]?)).length = if R[n]? = L[n]? then 0 else 1:=by
   by_cases h:R[n]? = L[n]?
   ·rw [if_pos h,List.filter_cons_of_neg (by rw [decide_eq_true_eq]; exact fun q=>q h)]
    rfl
   ·rw [if_neg h,List.filter_cons_of_pos (by rw [decide_eq_true_eq]; exact h)]
    rfl
  rw [e]
  rfl
theorem cntD_le (R L:List (Nat × Nat)):∀ n,cntD R L n≤n
 | 0=>Nat.le_refl _
 | n + 1=>by
  have:=cntD_le R L n
  unfold cntD
  split <;> omega
theorem was_get {f:Fld} (hW:FldW f) {i:Nat} (hi:i < f.X * f.Y * f.Z):f.ls[i]? = some (wasB f false (plc f i),wasB f true (plc f i)):=by
 have hin:=plc_in hi
 have hr:i < f.ls.length:=by rw [hW.ls]; exact hi
 unfold wasB litAt
 rw [if_pos hin,num_plc hi,List.getElem?_eq_getElem hr]
 simp [List.getD,hr]
theorem newL_get {f:Fld} (hC:FldC f) (hW:FldW f) {i:Nat} (hi:i < f.X * f.Y * f.Z):newL f (plc f i)↔¬ (rightL f)[i]? = f.ls[i]?:=by
 rw [right_get2 hC hi,was_get hW hi]
 unfold newL
 rw [plc_in hi]
 simp only [true_and,Option.some.injEq,Prod.mk.injEq]
 constructor
 ·rintro (h | h) ⟨h1,h2⟩
  ·exact h h1
  ·exact h h2
 ·intro h
  by_cases h1:litV f (rightL f) false (plc f i) = wasB f false (plc f i)
  ·exact .inr (fun h2=>h ⟨h1,h2⟩)
  ·exact .inl h1
theorem told_len {f:Fld} (hC:FldC f) (hW:FldW f) {T:List V} (hd:T.Nodup) (hT:∀ q,q ∈ T↔newL f q):T.length = cntD (rightL f) f.ls (f.X * f.Y * f.Z):=by
 rw [cntD_eq]
 have e:((List.range (f.X * f.Y * f.Z)).filter fun i=>decide (¬ (rightL f)[i]? = f.ls[i]?)).length = (((List.range (f.X * f.Y * f.Z)).filter fun i=>decide (¬ (rightL f)[i]? = f.ls[i]?)).map (plc f)).length:=by simp
 rw [e]
 refine cntL hd ?_ (fun q=>?_)
 ·refine List.pairwise_map.2 (List.Pairwise.imp_of_mem ?_ (List.Pairwise.filter _ List.nodup_range))
  intro a b ha hb hne he
  have h1:=List.mem_range.1 (List.mem_filter.1 ha).1
  have h2:=List.mem_range.1 (List.mem_filter.1 hb).1
  exact hne (by rw [← num_plc h1,← num_plc h2,he])
 ·rw [hT,List.mem_map]
  constructor
  ·intro h
   have hq:=h.1
   have hn:=numB_lt hW hq
   refine ⟨numB f q,List.mem_filter.2 ⟨List.mem_range.2 hn,?_⟩,plc_num hq⟩
   rw [← plc_num hq] at h
   exact decide_eq_true ((newL_get hC hW hn).1 h)
  ·rintro ⟨i,hi,rfl⟩
   have h1:=List.mem_range.1 (List.mem_filter.1 hi).1
   have h2:=of_decide_eq_true (List.mem_filter.1 hi).2
   exact (newL_get hC hW h1).2 h2
structure LocK (W:World) (B g1 n c1:Nat) (L:List (Nat × Nat)) (g3:Nat) (s:List Bool):Prop where
 own:RowG.Own enc2 TL W B (.slice (some ⟨g1,0,none⟩) n c1) L
 src:Blk W g3 4 (s.map Value.bool)
 ge:B≤g3
theorem LocK.fr {S:Nat→Prop} {W W':World} {B g1 n c1 g3:Nat} {L:List (Nat × Nat)} {s:List Bool} (h:LocK W B g1 n c1 L g3 s) (hf:Fr S W W') (hS:∀ k,S k→k < B ∨ W.heap.size≤k):LocK W' B g1 n c1 L g3 s:=by
 refine ⟨hf.own h.own (fun k e hk=>?_),hf.blk h.src (fun hk=>?_),h.ge⟩
 ·have h1:=h.own.ge k e
  have h2:=hS k hk
  omega
 ·have h1:=h.src.lt
  have h2:=hS _ hk
  have h3:=h.ge
  omega
theorem LocK.below {W W':World} {B g1 n c1 g3:Nat} {L:List (Nat × Nat)} {s:List Bool} (h:LocK W B g1 n c1 L g3 s) (hb:Below W.heap.size W W'):LocK W' B g1 n c1 L g3 s:=h.fr (Fr.below (fun _=>False) hb) (fun _ h=>h.elim)
end FloodW
end Go.Proofs.YtpimkdaikoclnaaDoor
namespace Go.Proofs.YtpimkdaikoclnaaDoor
open Go.RowKit
set_option linter.unusedVariables false
set_option linter.unusedSimpArgs false
namespace FloodW
open BlkP RowG GlowW FloodP
theorem sky_le {cl cl':V→Bool} (h:∀ q,cl' q = true→cl q = true) (q:V):skyS cl' q≤skyS cl q:=by
 unfold skyS
 by_cases h1:cl' q = true∧∀ k:Nat,k < 64→(q.2.1 + (k:Int)≤63→cl' (upV q k) = true)
 ·rw [if_pos h1,if_pos ⟨h _ h1.1,fun k hk hy=>h _ (h1.2 k hk hy)⟩]
  exact Nat.le_refl _
 ·rw [if_neg h1]
  exact Nat.zero_le _
theorem dim {f:Fld} (hW:FldC f) {i:Nat} {c:Nat × Nat} (hi:i < f.X * f.Y * f.Z) (hc:c.1 < 256∧c.2 < 256) (hd:openA c = false) (b:Bool) (q:V):litV (f.put i c) (rightL (f.put i c)) b q≤litV f (rightL f) b q:=by
 have hcl:∀ q,clr (f.put i c) q = true→clr f q = true∧q ≠ plc f i:=fun q hq=>by
  unfold clr at hq ⊢
  rw [cellAt_put hW hi] at hq
  by_cases e:q = plc f i
  ·rw [if_pos e,hd] at hq
   cases hq
  ·rw [if_neg e] at hq
   exact ⟨hq,e⟩
 have h1:=right_solC (put_c (i:=i) hW hc) b
 have h2:=right_solC hW b
 refine cmpV h1.2 h1.1 h2.1 (fun q hq=>(hcl q hq).1) (fun q hq=>?_) q
 cases b
 ·exact sky_le (fun q hq=>(hcl q hq).1) q
 ·show lmN (f.put i c) q≤lmN f q
  unfold lmN
  rw [cellAt_put hW hi,if_neg (hcl q hq).2]
  exact Nat.le_refl _
theorem put_back {f:Fld} {i:Nat} {c o:Nat × Nat} (ho:f.cs[i]? = some o):(f.put i c).put i o = f:=by
 have e:(f.cs.set i c).set i o = f.cs:=by
  rw [List.set_set]
  apply List.ext_getElem?
  intro j
  rw [List.getElem?_set]
  by_cases h:i = j
  ·subst h
   have:=(List.getElem?_eq_some_iff.1 ho).1
   rw [if_pos rfl,if_pos this,ho]
  ·rw [if_neg h]
 unfold Fld.put
 simp only [e]
theorem lighten {f:Fld} (hW:FldC f) {i:Nat} {c o:Nat × Nat} (hi:i < f.X * f.Y * f.Z) (ho:f.cs[i]? = some o) (hc:c.1 < 256∧c.2 < 256) (hd:openA o = false) (b:Bool) (q:V):litV f (rightL f) b q≤litV (f.put i c) (rightL (f.put i c)) b q:=by
 have h:=dim (f:=f.put i c) (i:=i) (c:=o) (put_c hW hc) hi (hW.c8 _ (List.mem_of_getElem? ho)) hd b q
 rw [put_back ho] at h
 exact h
theorem dark_open {k l:Nat} (h:darkK k):openA (k,l) = false:=by
 unfold darkK at h
 have hc:KindP.clear k = false:=by
  rcases h with ⟨h1,h2⟩ | h1
  ·match k,h1,h2 with
   | 1,_,_=>rfl
   | 2,_,_=>rfl
   | 3,_,_=>rfl
   | 4,_,_=>rfl
   | 5,_,_=>rfl
   | 6,_,_=>rfl
   | 7,_,_=>rfl
   | 8,_,_=>rfl
  ·subst h1
   rfl
 unfold openA
 rw [hc,Bool.and_false]
theorem cntD_comm (R L:List (Nat × Nat)):∀ n,cntD R L n = cntD L R n
 | 0=>rfl
 | n + 1=>by
  unfold cntD
  rw [cntD_comm R L n]
  by_cases h:R[n]? = L[n]?
  ·rw [if_pos h,if_pos h.symm]
  ·rw [if_neg h,if_neg (fun e=>h e.symm)]
theorem dim_get {f:Fld} (hW:FldC f) {i j a b a2 b2:Nat} {c:Nat × Nat} (hi:i < f.X * f.Y * f.Z) (hc:c.1 < 256∧c.2 < 256) (hd:openA c = false) (hj:j < f.X * f.Y * f.Z) (h1:(rightL (f.put i c))[j]? = some (a,b)) (h2:(rightL f)[j]? = some (a2,b2)):a≤a2∧b≤b2:=by
 rw [right_get2 (put_c (i:=i) hW hc) hj] at h1
 rw [right_get2 hW hj] at h2
 injection h1 with h1
 injection h1 with e1 e2
 injection h2 with h2
 injection h2 with e3 e4
 subst e1 e2 e3 e4
 exact ⟨dim hW hi hc hd false _,dim hW hi hc hd true _⟩
theorem lighten_get {f:Fld} (hW:FldC f) {i j a b a2 b2:Nat} {c o:Nat × Nat} (hi:i < f.X * f.Y * f.Z) (ho:f.cs[i]? = some o) (hc:c.1 < 256∧c.2 < 256) (hd:openA o = false) (hj:j < f.X * f.Y * f.Z) (h1:(rightL (f.put i c))[j]? = some (a,b)) (h2:(rightL f)[j]? = some (a2,b2)):a2≤a∧b2≤b:=by
 rw [right_get2 (put_c (i:=i) hW hc) hj] at h1
 rw [right_get2 hW hj] at h2
 injection h1 with h1
 injection h1 with e1 e2
 injection h2 with h2
 injection h2 with e3 e4
 subst e1 e2 e3 e4
 exact ⟨lighten hW hi ho hc hd false _,lighten hW hi ho hc hd true _⟩
end FloodW
end Go.Proofs.YtpimkdaikoclnaaDoor
namespace Go.Proofs.YtpimkdaikoclnaaDoor
open Go.RowKit
set_option linter.unusedVariables false
set_option linter.unusedSimpArgs false
namespace FloodW
open BlkP RowG GlowW FloodP
abbrev mid (y:Nat):V:=(3,48 + (y:Int),3)
theorem new_iff {f:Fld} (hls:f.ls = rightL f) (i:Nat) (c:Nat × Nat) (q:V):newL (f.put i c) q↔inB f q = true∧(litV (f.put i c) (rightL (f.put i c)) false q ≠ litV f (rightL f) false q ∨ litV (f.put i c) (rightL (f.put i c)) true q ≠ litV f (rightL f) true q):=by
 have hw:∀ b,wasB (f.put i c) b q = litV f (rightL f) b q:=fun b=>by
  rw [← litV_was]
  show litV (f.put i c) f.ls b q = _
  rw [hls,litV_cs (f:=f) (f':=f.put i c) rfl rfl rfl rfl]
 unfold newL
 rw [hw,hw]
 exact Iff.rfl
section
variable {f:Fld}
theorem Ov.sky0 (h:Ov f) (q:V):litV f (rightL f) false q = if inB f q = true∧57≤q.2.1 then 15 else 0:=by
 have h1:=h.full (y:=12) (c:=(0,0)) (by decide) (by decide) (.inr (by decide)) (fun e=>absurd e (by decide)) q
 have e:f.put (49 * 12 + 24) (0,0) = f:=h.self (y:=12) (by decide)
 have h2:=h.clrx (y:=12) (by decide) (0,0) q
 rw [e] at h1 h2
 rw [h1]
 have h3:clr f q = true↔inB f q = true∧57≤q.2.1:=by
  rw [h2]
  constructor
  ·rintro ⟨a,b⟩
   refine ⟨a,?_⟩
   split at b
   ·rename_i e
    rw [e]
    simp only
    omega
   ·exact b
  ·rintro ⟨a,b⟩
   refine ⟨a,?_⟩
   split
   ·decide
   ·exact b
 by_cases hc:clr f q = true
 ·rw [if_pos hc,if_pos (h3.1 hc)]
 ·rw [if_neg hc,if_neg (fun d=>hc (h3.2 d))]
theorem Ov.dark (h:Ov f) {y:Nat} {c:Nat × Nat} (hy:y < 16) (hc8:c.1 < 256∧c.2 < 256) (hc:lampA c = 0) (q:V):litV (f.put (49 * y + 24) c) (rightL (f.put (49 * y + 24) c)) true q = 0:=by
 have e:(fun _=>0) = litV (f.put (49 * y + 24) c) (rightL (f.put (49 * y + 24) c)) true:=right_uniqC (put_c h.c hc8) (fun _=>Nat.zero_le _) (sol_none fun q=>by
  show lmN (f.put (49 * y + 24) c) q = 0
  rw [h.lamp hy]
  split
  ·exact hc
  ·rfl)
 rw [← e]
theorem Ov.lamp0 (h:Ov f) (q:V):litV f (rightL f) true q = 0:=by
 have h1:=h.dark (y:=12) (c:=(0,0)) (by decide) (by decide) (by decide) q
 rwa [show f.put (49 * 12 + 24) (0,0) = f from h.self (y:=12) (by decide)] at h1
theorem Ov.skyT (h:Ov f) {y:Nat} {c:Nat × Nat} (hy:y < 16) (hy9:9≤y) (hc8:c.1 < 256∧c.2 < 256) (hc:openA c = true) (q:V):litV (f.put (49 * y + 24) c) (rightL (f.put (49 * y + 24) c)) false q = litV f (rightL f) false q:=by
 rw [h.full hy hc8 (.inr hc) (fun e=>by omega),h.sky0]
 have h3:clr (f.put (49 * y + 24) c) q = true↔inB f q = true∧57≤q.2.1:=by
  rw [h.clrx hy]
  constructor
  ·rintro ⟨a,b⟩
   refine ⟨a,?_⟩
   split at b
   ·rename_i e
    rw [e]
    simp only
    omega
   ·exact b
  ·rintro ⟨a,b⟩
   refine ⟨a,?_⟩
   split
   ·exact hc
   ·exact b
 by_cases hq:inB f q = true∧57≤q.2.1
 ·rw [if_pos hq,if_pos (h3.2 hq)]
 ·rw [if_neg hq,if_neg (fun d=>hq (h3.1 d))]
theorem Ov.in_mid (h:Ov f) {y:Nat} (hy:y < 16):inB f (mid y) = true:=h.inBx.2 (by simp only; omega)
def six:List V:=[(4,60,3),(2,60,3),(3,60,4),(3,60,2),(3,61,3),(3,59,3)]
theorem six_adj (q:V):q ∈ six↔adj (mid 12) q:=by
 unfold six adj mid
 simp only [List.mem_cons,List.not_mem_nil,or_false,Prod.ext_iff]
 omega
theorem Ov.torch2 (h:Ov f) (q:V):litV (f.put (49 * 12 + 24) (11,2)) (rightL (f.put (49 * 12 + 24) (11,2))) true q = if q = mid 12 then 2 else if q ∈ six then 1 else 0:=by
 have e:(fun q=>if q = mid 12 then 2 else if q ∈ six then 1 else 0) = litV (f.put (49 * 12 + 24) (11,2)) (rightL (f.put (49 * 12 + 24) (11,2))) true:=right_uniqC (put_c h.c (by decide)) (fun q=>by split; omega; split <;> omega) (fun q=>by
  show (if q = mid 12 then 2 else if q ∈ six then 1 else 0) = _
  have hl:nowS (f.put (49 * 12 + 24) (11,2)) true q = if q = mid 12 then 2 else 0:=by
   show lmN (f.put (49 * 12 + 24) (11,2)) q = _
   rw [h.lamp (y:=12) (by decide)]
   rfl
  have hmid:mid 12 ∉ six:=fun hm=>by
   have:=(six_adj _).1 hm
   unfold adj at this
   omega
  rw [hl]
  by_cases hq:q = mid 12
  ·have hin:inV sidesV (fun q=>if q = mid 12 then 2 else if q ∈ six then 1 else 0) q≤1:=inV_le.2 fun s _=>by split; omega; split <;> omega
   rw [if_pos hq,if_pos ((h.clrx (y:=12) (by decide) (11,2) q).2 ⟨by rw [hq]; exact h.in_mid (y:=12) (by decide),by rw [if_pos hq]; decide⟩),if_pos hq]
   omega
  ·rw [if_neg hq,if_neg hq]
   by_cases h6:q ∈ six
   ·have hadj:=(six_adj q).1 h6
    have hb:inB f q = true:=h.inBx.2 (by unfold adj mid at hadj; simp only at hadj; omega)
    have hp:mayP q:=in_may (h.c.w) hb
    have hpm:mayP (mid 12):=in_may (h.c.w) (h.in_mid (y:=12) (by decide))
    have hin1:inV sidesV (fun q=>if q = mid 12 then 2 else if q ∈ six then 1 else 0) q≤1:=inV_le.2 fun s _=>by split; omega; split <;> omega
    have hin2:=inV_ge (L:=fun q=>if q = mid 12 then 2 else if q ∈ six then 1 else 0) (mem_sidesV.2 ⟨hp,hpm,adj_sym hadj⟩:mid 12 ∈ sidesV q)
    simp only [if_true] at hin2
    rw [if_pos h6,if_pos ((h.clrx (y:=12) (by decide) (11,2) q).2 ⟨hb,by
     rw [if_neg hq]
     unfold adj mid at hadj
     simp only at hadj
     omega⟩)]
    omega
   ·rw [if_neg h6]
    have hin:inV sidesV (fun q=>if q = mid 12 then 2 else if q ∈ six then 1 else 0) q≤0:=inV_le.2 fun s hs=>by
     have hne:s ≠ mid 12:=fun e=>h6 ((six_adj q).2 (by
      have:=(mem_sidesV.1 hs).2.2
      rw [e] at this
      exact adj_sym this))
     rw [if_neg hne]
     split <;> omega
    split <;> omega)
 rw [← e]
theorem Ov.stone (h:Ov f) {y:Nat} (hy:y < 16) (hy9:9≤y) (q:V):litV (f.put (49 * y + 24) (2,0)) (rightL (f.put (49 * y + 24) (2,0))) false q = if clr (f.put (49 * y + 24) (2,0)) q = true then (if q.1 = 3∧q.2.2 = 3∧q.2.1 < 48 + (y:Int) then 14 else 15) else 0:=by
 have e:(fun q:V=>if clr (f.put (49 * y + 24) (2,0)) q = true then (if q.1 = 3∧q.2.2 = 3∧q.2.1 < 48 + (y:Int) then 14 else 15) else 0) = litV (f.put (49 * y + 24) (2,0)) (rightL (f.put (49 * y + 24) (2,0))) false:=right_uniqC (put_c h.c (by decide)) (fun q=>by split; split <;> omega; omega) (fun q=>by
  show (if clr (f.put (49 * y + 24) (2,0)) q = true then (if q.1 = 3∧q.2.2 = 3∧q.2.1 < 48 + (y:Int) then 14 else 15) else 0) = _
  have hin:inV sidesV (fun q:V=>if clr (f.put (49 * y + 24) (2,0)) q = true then (if q.1 = 3∧q.2.2 = 3∧q.2.1 < 48 + (y:Int) then 14 else 15) else 0) q≤14:=inV_le.2 fun s _=>by split; split <;> omega; omega
  by_cases hc:clr (f.put (49 * y + 24) (2,0)) q = true
  ·rw [if_pos hc,if_pos hc]
   have hb:=(h.clrx hy (2,0) q).1 hc
   have hbi:=h.inBx.1 hb.1
   have hne:q ≠ mid y:=fun e=>by
    have:=hb.2
    rw [if_pos e] at this
    exact absurd this (by decide)
   have h57:57≤q.2.1:=by
    have:=hb.2
    rwa [if_neg hne] at this
   by_cases hcol:q.1 = 3∧q.2.2 = 3∧q.2.1 < 48 + (y:Int)
   ·rw [if_pos hcol]
    have hs0:nowS (f.put (49 * y + 24) (2,0)) false q = 0:=by
     show skyS (clr (f.put (49 * y + 24) (2,0))) q = 0
     refine skyS_zero (k:=(48 + (y:Int) - q.2.1).toNat) (by omega) (by omega) ?_
     have eu:upV q (48 + (y:Int) - q.2.1).toNat = mid y:=Prod.ext hcol.1 (Prod.ext (by simp only [upV]; omega) hcol.2.1)
     rw [eu]
     cases hm:clr (f.put (49 * y + 24) (2,0)) (mid y) with
     | false=>rfl
     | true =>
      have:=((h.clrx hy (2,0) (mid y)).1 hm).2
      rw [if_pos rfl] at this
      exact absurd this (by decide)
    have hsb:inB f (2,q.2.1,3) = true:=h.inBx.2 (by simp only; omega)
    have hsc:clr (f.put (49 * y + 24) (2,0)) (2,q.2.1,3) = true:=(h.clrx hy (2,0) _).2 ⟨hsb,by
     rw [if_neg (fun e=>by
      have:(2:Int) = 3:=congrArg (fun p:V=>p.1) e
      omega)]
     exact h57⟩
    have hside:(2,q.2.1,3) ∈ sidesV q:=mem_sidesV.2 ⟨in_may h.c.w hb.1,in_may h.c.w hsb,.inl ⟨.inr (by simp only; omega),rfl,by simp only; omega⟩⟩
    have hge:=inV_ge (L:=fun q:V=>if clr (f.put (49 * y + 24) (2,0)) q = true then (if q.1 = 3∧q.2.2 = 3∧q.2.1 < 48 + (y:Int) then 14 else 15) else 0) hside
    simp only at hge
    rw [if_pos hsc,if_neg (by omega)] at hge
    rw [hs0]
    omega
   ·rw [if_neg hcol]
    have hs15:nowS (f.put (49 * y + 24) (2,0)) false q = 15:=by
     show skyS (clr (f.put (49 * y + 24) (2,0))) q = 15
     refine (skyS_iff (by omega)).2 ⟨hc,fun k hk=>(h.clrx hy (2,0) _).2 ⟨h.inBx.2 (by simp only [upV]; omega),?_⟩⟩
     rw [if_neg (fun e=>by
      have e1:q.1 = 3:=congrArg (fun p:V=>p.1) e
      have e2:q.2.1 + (k:Int) = 48 + (y:Int):=congrArg (fun p:V=>p.2.1) e
      have e3:q.2.2 = 3:=congrArg (fun p:V=>p.2.2) e
      by_cases k0:k = 0
      ·exact hne (Prod.ext e1 (Prod.ext (by simp only; omega) e3))
      ·exact hcol ⟨e1,e3,by omega⟩)]
     simp only [upV]
     omega
    rw [hs15]
    omega
  ·rw [if_neg hc,if_neg hc])
 rw [← e]
variable {T:List V}
theorem Ov.n_torch2 (h:Ov f) (hls:f.ls = rightL f) (hd:T.Nodup) (hT:∀ q,q ∈ T↔newL (f.put (49 * 12 + 24) (11,2)) q):T.length = 7:=by
 refine cntL (E:=mid 12 :: six) hd (by decide) (fun q=>?_)
 rw [hT,new_iff hls,h.skyT (y:=12) (by decide) (by decide) (by decide) (by decide),h.torch2,h.lamp0]
 constructor
 ·rintro ⟨_,h1 | h1⟩
  ·exact absurd rfl h1
  ·split at h1
   ·rename_i e
    rw [e]
    exact List.mem_cons_self
   ·split at h1
    ·rename_i h6
     exact List.mem_cons_of_mem _ h6
    ·exact absurd rfl h1
 ·intro hq
  have hb:inB f q = true:=by
   rcases List.mem_cons.1 hq with e | h6
   ·rw [e]
    exact h.in_mid (y:=12) (by decide)
   ·have hadj:=(six_adj q).1 h6
    exact h.inBx.2 (by unfold adj mid at hadj; simp only at hadj; omega)
  refine ⟨hb,.inr ?_⟩
  rcases List.mem_cons.1 hq with e | h6
  ·rw [if_pos e]
   decide
  ·split
   ·decide
   ·decide
theorem Ov.n_stone (h:Ov f) (hls:f.ls = rightL f) {y:Nat} (hy:y < 16) (hy9:9≤y) (hd:T.Nodup) (hT:∀ q,q ∈ T↔newL (f.put (49 * y + 24) (2,0)) q):T.length = y - 8:=by
 have hE:((List.range (y - 8)).map fun k:Nat=>((3,57 + (k:Int),3):V)).length = y - 8:=by simp
 rw [← hE]
 refine cntL hd (List.pairwise_map.2 (List.nodup_range.imp fun {a b} hne e=>hne (by
  have:(57:Int) + (a:Int) = 57 + (b:Int):=congrArg (fun p:V=>p.2.1) e
  omega))) (fun q=>?_)
 ·rw [hT,new_iff hls,h.stone hy hy9,h.sky0,h.dark hy (by decide) (by decide),h.lamp0]
  have hcl:=h.clrx hy (2,0) q
  constructor
  ·rintro ⟨hb,h1 | h1⟩
   ·have hbi:=h.inBx.1 hb
    rw [List.mem_map]
    by_cases hm:q = mid y
    ·exact ⟨y - 9,List.mem_range.2 (by omega),by rw [hm]; exact Prod.ext rfl (Prod.ext (by simp only; omega) rfl)⟩
    ·rw [if_neg hm] at hcl
     by_cases h57:57≤q.2.1
     ·by_cases hcol:q.1 = 3∧q.2.2 = 3∧q.2.1 < 48 + (y:Int)
      ·exact ⟨(q.2.1 - 57).toNat,List.mem_range.2 (by omega),Prod.ext hcol.1.symm (Prod.ext (by simp only; omega) hcol.2.1.symm)⟩
      ·rw [if_pos (hcl.2 ⟨hb,h57⟩),if_neg hcol,if_pos ⟨hb,h57⟩] at h1
       exact absurd rfl h1
     ·rw [if_neg (fun d=>h57 (hcl.1 d).2),if_neg (fun d=>h57 d.2)] at h1
      exact absurd rfl h1
   ·exact absurd rfl h1
  ·intro hq
   obtain ⟨k,hk,e⟩:=List.mem_map.1 hq
   have hk:=List.mem_range.1 hk
   subst e
   have hb:inB f (3,57 + (k:Int),3) = true:=h.inBx.2 (by simp only; omega)
   refine ⟨hb,.inl ?_⟩
   rw [if_pos (show inB f (3,57 + (k:Int),3) = true∧57≤((3,57 + (k:Int),3):V).2.1 from ⟨hb,by simp only; omega⟩)]
   split
   ·rename_i hc
    have h2:=(hcl.1 hc).2
    have hne:¬ ((3,57 + (k:Int),3):V) = mid y:=fun e=>by
     rw [if_pos e] at h2
     exact absurd h2 (by decide)
    rw [if_pos ⟨rfl,rfl,by
     simp only
     apply Classical.byContradiction
     intro hn
     exact hne (Prod.ext rfl (Prod.ext (by simp only; omega) rfl))⟩]
    decide
   ·decide
end
end FloodW
end Go.Proofs.YtpimkdaikoclnaaDoor
namespace Go.Proofs.YtpimkdaikoclnaaDoor
open Go.RowKit
set_option linter.unusedVariables false
set_option linter.unusedSimpArgs false
namespace FloodW
open BlkP RowG GlowW FloodP
theorem col_at {g:Fld} {j a b:Nat} (hj:j < 16) (ha:litV g (rightL g) false (mid j) = a) (hb:litV g (rightL g) true (mid j) = b):(colL g)[j]? = some (a,b):=by
 unfold colL
 rw [List.getElem?_map,List.getElem?_range hj,← ha,← hb]
 rfl
section
variable {f:Fld}
theorem Ov.c_torch2 (h:Ov f):(colL (f.put (49 * 12 + 24) (11,2)))[12]? = some (15,2)∧(colL (f.put (49 * 12 + 24) (11,2)))[13]? = some (15,1):=by
 refine ⟨col_at (by decide) ?_ ?_,col_at (by decide) ?_ ?_⟩
 ·rw [h.skyT (y:=12) (by decide) (by decide) (by decide) (by decide),h.sky0,if_pos ⟨h.in_mid (y:=12) (by decide),by decide⟩]
 ·rw [h.torch2,if_pos rfl]
 ·rw [h.skyT (y:=12) (by decide) (by decide) (by decide) (by decide),h.sky0,if_pos ⟨h.in_mid (y:=13) (by decide),by decide⟩]
 ·rw [h.torch2,if_neg (by decide),if_pos (by decide)]
theorem Ov.c_stone (h:Ov f):(colL (f.put (49 * 12 + 24) (2,0)))[12]? = some (0,0)∧(colL (f.put (49 * 12 + 24) (2,0)))[11]? = some (14,0)∧(colL (f.put (49 * 12 + 24) (2,0)))[9]? = some (14,0):=by
 have hd:∀ q,litV (f.put (49 * 12 + 24) (2,0)) (rightL (f.put (49 * 12 + 24) (2,0))) true q = 0:=h.dark (y:=12) (by decide) (by decide) (by decide)
 refine ⟨col_at (by decide) ?_ (hd _),col_at (by decide) ?_ (hd _),col_at (by decide) ?_ (hd _)⟩
 ·rw [h.stone (y:=12) (by decide) (by decide),if_neg (fun hc=>by
   have:=((h.clrx (y:=12) (by decide) (2,0) (mid 12)).1 hc).2
   rw [if_pos rfl] at this
   exact absurd this (by decide))]
 ·rw [h.stone (y:=12) (by decide) (by decide),if_pos ((h.clrx (y:=12) (by decide) (2,0) (mid 11)).2 ⟨h.in_mid (y:=11) (by decide),by rw [if_neg (by decide)]; decide⟩),if_pos ⟨rfl,rfl,by decide⟩]
 ·rw [h.stone (y:=12) (by decide) (by decide),if_pos ((h.clrx (y:=12) (by decide) (2,0) (mid 9)).2 ⟨h.in_mid (y:=9) (by decide),by rw [if_neg (by decide)]; decide⟩),if_pos ⟨rfl,rfl,by decide⟩]
end
theorem over_at {w:World} {y k l:Nat} {e:Ending} {w':World} (h:OverP w y (k,l) e w'):∃ (f:Fld) (T:List V) (g c:Nat),e = .returned (.tuple #[.int .i64 (T.length:Nat),.slice (some ⟨g,0,none⟩) 16 c])∧Ov f∧f.ls = rightL f∧T.Nodup∧(∀ q:V,q ∈ T↔newL (f.put (49 * y + 24) (k,l)) q)∧RowG.Own enc2 TL w' w.heap.size (.slice (some ⟨g,0,none⟩) 16 c) (colL (f.put (49 * y + 24) (k,l)))∧Below w.heap.size w w':=by
 obtain ⟨f,T,v,h1,h2,h3,h4,h5,h6,h7⟩:=h
 obtain ⟨A,c,rfl,_,_,hA⟩:=h6.form (n:=16) (by simp [colL])
 obtain ⟨g,rfl,_,_⟩:=hA (by omega)
 exact ⟨f,T,g,c,h1,h2,h3,h4,h5,h6,h7⟩
set_option maxRecDepth 100000 in
set_option maxHeartbeats 16000000 in
theorem awake_c {w:World} (hT:KindW.Tab w):Calls Tryd.prog 6 #[] w fun e w'=>e = .returned (.bool true)∧Below w.heap.size w w':=by
 have HT:=Lib.hid hT
 clear hT
 go_enter Tryd.func6,Tryd.ntmps6
 go_wp2_with fail
 go_at_call 9
 refine (over_c (w:=w) (y:=12) (k:=11) (l:=2) HT.out (by decide) (by decide)).mono ?_
 intro e w1 ho1
 obtain ⟨f1,T1,g1,c1,rfl,hv1,hl1,hd1,hm1,hr1,hb1⟩:=over_at ho1
 have hn1:=hv1.n_torch2 hl1 hd1 hm1
 rw [hn1]
 have HV1:=Lib.hid hv1
 have HR1:=Lib.hid hr1
 have HB1:=Lib.hid hb1
 clear ho1 hv1 hl1 hd1 hm1 hr1 hb1 hn1
 go_wp2_with fail
 go_at_call 9
 refine (over_c (w:=w1) (y:=12) (k:=2) (l:=0) (HT.out.below HB1.out) (by decide) (by decide)).mono ?_
 intro e w2 ho2
 obtain ⟨f2,T2,g2,c2,rfl,hv2,hl2,hd2,hm2,hr2,hb2⟩:=over_at ho2
 have hn2:=hv2.n_stone hl2 (y:=12) (by decide) (by decide) hd2 hm2
 rw [hn2]
 have hr1:=HR1.out.below hb2
 have a0:w2.cell? ⟨g1,24,none⟩ = some (.int .u8 15):=hr1.cell (i:=12) (j:=0) HV1.out.c_torch2.1 rfl
 have a1:w2.cell? ⟨g1,25,none⟩ = some (.int .u8 2):=hr1.cell (i:=12) (j:=1) HV1.out.c_torch2.1 rfl
 have a2:w2.cell? ⟨g1,26,none⟩ = some (.int .u8 15):=hr1.cell (i:=13) (j:=0) HV1.out.c_torch2.2 rfl
 have a3:w2.cell? ⟨g1,27,none⟩ = some (.int .u8 1):=hr1.cell (i:=13) (j:=1) HV1.out.c_torch2.2 rfl
 have d0:w2.cell? ⟨g2,24,none⟩ = some (.int .u8 0):=hr2.cell (i:=12) (j:=0) hv2.c_stone.1 rfl
 have d1:w2.cell? ⟨g2,25,none⟩ = some (.int .u8 0):=hr2.cell (i:=12) (j:=1) hv2.c_stone.1 rfl
 have d2:w2.cell? ⟨g2,22,none⟩ = some (.int .u8 14):=hr2.cell (i:=11) (j:=0) hv2.c_stone.2.1 rfl
 have d3:w2.cell? ⟨g2,23,none⟩ = some (.int .u8 0):=hr2.cell (i:=11) (j:=1) hv2.c_stone.2.1 rfl
 have d4:w2.cell? ⟨g2,18,none⟩ = some (.int .u8 14):=hr2.cell (i:=9) (j:=0) hv2.c_stone.2.2 rfl
 have d5:w2.cell? ⟨g2,19,none⟩ = some (.int .u8 0):=hr2.cell (i:=9) (j:=1) hv2.c_stone.2.2 rfl
 have HB2:=Lib.hid (HB1.out.trans (hb2.mono HB1.out.size))
 clear ho2 hv2 hl2 hd2 hm2 hr2 hb2 hn2 hr1
 go_wp2_with fail
 go_ret
 exact ⟨rfl,HB2.out⟩
end FloodW
end Go.Proofs.YtpimkdaikoclnaaDoor
