import Derived.Test.YtpimkdaikoclnaaDoorRows
import Derived.RangeFuncWrites
import Derived.Test.YtpimkdaikoclnaaDoorFlB1
import Derived.ChangeKeysEq
import Derived.MapKept
import Derived.Maps.OwnSet
import Derived.BigQuiet
namespace Go.Proofs.YtpimkdaikoclnaaDoor
set_option linter.unusedVariables false
set_option linter.unusedSimpArgs false
namespace FloodP
abbrev V:=Int × Int × Int
def inV (side:V→List V) (L:V→Nat) (i:V):Nat:=(side i).foldl (fun a s=>max a (L s - 1)) 0
theorem foldV_le {L:V→Nat}:∀ (l:List V) (a v:Nat),l.foldl (fun a s=>max a (L s - 1)) a≤v↔a≤v∧∀ s ∈ l,L s - 1≤v
 | [],a,v=>by simp
 | x :: r,a,v=>by
  rw [List.foldl_cons,foldV_le r]
  constructor
  ·rintro ⟨h1,h2⟩
   refine ⟨by omega,fun s hs=>?_⟩
   rcases List.mem_cons.1 hs with rfl | hs
   ·omega
   ·exact h2 s hs
  ·rintro ⟨h1,h2⟩
   have:=h2 x (by simp)
   exact ⟨by omega,fun s hs=>h2 s (by simp [hs])⟩
theorem inV_le {side:V→List V} {L:V→Nat} {i:V} {v:Nat}:inV side L i≤v↔∀ s ∈ side i,L s - 1≤v:=by
 rw [inV,foldV_le]
 simp
theorem inV_ge {side:V→List V} {L:V→Nat} {i s:V} (h:s ∈ side i):L s - 1≤inV side L i:=inV_le.1 (Nat.le_refl _) s h
theorem inV_some {side:V→List V} {L:V→Nat} {i:V} {v:Nat} (hv:0 < v) (h:v≤inV side L i):∃ s ∈ side i,v + 1≤L s:=by
 apply Classical.byContradiction
 intro hn
 have:inV side L i≤v - 1:=inV_le.2 fun s hs=>by
  have:¬ v + 1≤L s:=fun q=>hn ⟨s,hs,q⟩
  omega
 omega
def SolV (side:V→List V) (cl:V→Bool) (own L:V→Nat):Prop:=∀ i,L i = if cl i = true then max (own i) (inV side L i) else 0
theorem SolV.near {side:V→List V} {cl:V→Bool} {own L:V→Nat} (h:SolV side cl own L) {q s:V} (hq:cl q = true) (hs:s ∈ side q):L s≤L q + 1:=by
 have h1:=h q
 rw [if_pos hq] at h1
 have h2:=inV_ge (L:=L) hs
 omega
theorem SolV.own {side:V→List V} {cl:V→Bool} {own L:V→Nat} (h:SolV side cl own L) {q:V} (hq:cl q = true):own q≤L q:=by
 have h1:=h q
 rw [if_pos hq] at h1
 omega
theorem SolV.clear {side:V→List V} {cl:V→Bool} {own L:V→Nat} (h:SolV side cl own L) {q:V} (hq:0 < L q):cl q = true:=by
 have h1:=h q
 cases e:cl q with
 | true=>rfl
 | false =>
  rw [e] at h1
  simp at h1
  omega
theorem SolV.just {side:V→List V} {cl:V→Bool} {own L:V→Nat} (h:SolV side cl own L) {q:V} (hq:own q < L q):∃ s ∈ side q,L s = L q + 1:=by
 have hc:=h.clear (q:=q) (by omega)
 have h1:=h q
 rw [if_pos hc] at h1
 obtain ⟨s,hs,h2⟩:=inV_some (side:=side) (L:=L) (i:=q) (v:=L q) (by omega) (by omega)
 exact ⟨s,hs,Nat.le_antisymm (h.near hc hs) h2⟩
structure Set0 where
 side:V→List V
 cl:V→Bool
 cn:V→Bool
 own:V→Nat
 now:V→Nat
 po:V→Nat
 was:V→Nat
 d:V→Nat
 C:List V
 E:List V
structure Fit (g:Set0):Prop where
 sym:∀ q s,s ∈ g.side q→q ∈ g.side s
 sol:SolV g.side g.cl g.own g.was
 was15:∀ q,g.was q≤15
 now15:∀ q,g.now q≤15
 same:∀ q,q ∉ g.C→g.cl q = g.cn q∧g.own q = g.now q
 near:∀ q s,s ∈ g.side q→g.d s≤g.d q + 1
 zero:∀ q,q ∈ g.C→g.d q = 0
 po:∀ q,g.po q = g.now q ∨ (g.own q = 15∧g.now q = 15∧g.po q = 0∧0 < g.d q)
 dark:∀ q,g.cn q = false→g.now q = 0
 cdup:g.C.Nodup
 cin:∀ q,q ∈ g.C→q ∈ g.E
 ein:∀ q,g.cl q = true→q ∈ g.E
 ein2:∀ q,g.cn q = true→q ∈ g.E
 edup:g.E.Nodup
 cwas:∀ q,q ∈ g.C→g.cn q = false→g.now q = 0
section
variable {g:Set0}
theorem Fit.po_le (h:Fit g) (q:V):g.po q≤g.now q:=by
 rcases h.po q with h1 | ⟨_,h1,h2,_⟩ <;> omega
def cut (g:Set0) (T:List V) (q:V):Nat:=if q ∈ T then g.po q else g.was q
structure Dk (g:Set0) (T:List V) (i:Nat):Prop where
 lt:i≤T.length
 sub:∀ q,q ∈ g.C→q ∈ T
 dup:T.Nodup
 less:∀ q,q ∈ T→q ∈ g.C ∨ g.po q < g.was q
 far:∀ q,q ∈ T→g.was q + g.d q≤15
 done:∀ (j:Nat) (k:V),j < i→T[j]? = some k→g.po k < g.was k→∀ s,s ∈ g.side k→s ∉ T→g.was s + 1 = g.was k→g.was s≤g.po s
theorem Dk.start (h:Fit g):Dk g g.C 0:=⟨Nat.zero_le _,fun _ hq=>hq,h.cdup,fun _ hq=>.inl hq,fun q hq=>by
 have:=h.was15 q
 have:=h.zero q hq
 omega,fun j k hj=>by omega⟩
theorem Dk.inE (h:Fit g) {T:List V} {i:Nat} (hD:Dk g T i):∀ q,q ∈ T→q ∈ g.E:=fun q hq=>by
 rcases hD.less q hq with h1 | h1
 ·exact h.cin q h1
 ·exact h.ein q (h.sol.clear (by omega))
theorem nodup_len:∀ {l m:List V},l.Nodup→(∀ q,q ∈ l→q ∈ m)→l.length≤m.length
 | [],m,_,_=>by simp
 | x :: r,m,h,hs=>by
  have hx:=hs x (by simp)
  have hr:=List.nodup_cons.1 h
  have:=nodup_len (l:=r) (m:=m.erase x) hr.2 (fun q hq=>by
   have hne:q ≠ x:=fun e=>hr.1 (e ▸ hq)
   exact (List.mem_erase_of_ne hne).2 (hs q (by simp [hq])))
  rw [List.length_erase_of_mem hx] at this
  have hpos:=List.length_pos_of_mem hx
  simp only [List.length_cons]
  omega
theorem Dk.len (h:Fit g) {T:List V} {i:Nat} (hD:Dk g T i):T.length≤g.E.length:=nodup_len hD.dup (hD.inE h)
def dStep (g:Set0) (k:V) (T:List V) (s:V):List V:=if cut g T s + 1 = g.was k∧g.po s < cut g T s then T ++ [s] else T
def dFold (g:Set0) (k:V) (T:List V) (l:List V):List V:=l.foldl (dStep g k) T
theorem dFold_app (k:V) (T l:List V) (s:V):dFold g k T (l ++ [s]) = dStep g k (dFold g k T l) s:=by simp [dFold]
theorem dStep_new {k s:V} {T:List V} (h:cut g T s + 1 = g.was k∧g.po s < cut g T s):s ∉ T∧g.was s + 1 = g.was k∧g.po s < g.was s:=by
 unfold cut at h
 by_cases hs:s ∈ T
 ·rw [if_pos hs] at h
  omega
 ·rw [if_neg hs] at h
  exact ⟨hs,h.1,h.2⟩
theorem Dk.step (h:Fit g) {T:List V} {i:Nat} (hD:Dk g T i) {k s:V} (hk:k ∈ T) (hs:s ∈ g.side k):Dk g (dStep g k T s) i∧(∀ q,q ∈ T→q ∈ dStep g k T s)∧(∀ (j:Nat) (x:V),T[j]? = some x→(dStep g k T s)[j]? = some x) ∧
  (s ∉ dStep g k T s→g.was s + 1 = g.was k→g.was s≤g.po s):=by
 unfold dStep
 by_cases hc:cut g T s + 1 = g.was k∧g.po s < cut g T s
 ·rw [if_pos hc]
  obtain ⟨h1,h2,h3⟩:=dStep_new hc
  have old:∀ (j:Nat) (x:V),T[j]? = some x→(T ++ [s])[j]? = some x:=fun j x hj=>by
   rw [List.getElem?_append_left (List.getElem?_eq_some_iff.1 hj).1]
   exact hj
  refine ⟨⟨by
   have:=hD.lt
   rw [List.length_append]
   omega,fun q hq=>List.mem_append_left _ (hD.sub q hq),?_,fun q hq=>?_,fun q hq=>?_,fun j x hj hx hpo t ht hnt hwt=>?_⟩,fun q hq=>List.mem_append_left _ hq,old,fun hn=>absurd (by simp) hn⟩
  ·refine List.nodup_append.2 ⟨hD.dup,by simp,fun a ha b hb=>?_⟩
   have:b = s:=by simpa using hb
   subst this
   exact fun e=>h1 (e ▸ ha)
  ·rcases List.mem_append.1 hq with q1 | q1
   ·exact hD.less q q1
   ·have:q = s:=by simpa using q1
    subst this
    exact .inr h3
  ·rcases List.mem_append.1 hq with q1 | q1
   ·exact hD.far q q1
   ·have:q = s:=by simpa using q1
    subst this
    have:=hD.far k hk
    have:=h.near k q hs
    omega
  ·have hjl:j < T.length:=Nat.lt_of_lt_of_le hj hD.lt
   rw [List.getElem?_append_left hjl] at hx
   exact hD.done j x hj hx hpo t ht (fun q=>hnt (List.mem_append_left _ q)) hwt
 ·rw [if_neg hc]
  refine ⟨hD,fun _ hq=>hq,fun _ _ hj=>hj,fun hn hw=>?_⟩
  unfold cut at hc
  rw [if_neg hn] at hc
  omega
theorem Dk.fold (h:Fit g) {k:V} {i:Nat}:∀ (l:List V) {T:List V},Dk g T i→k ∈ T→(∀ s,s ∈ l→s ∈ g.side k)→Dk g (dFold g k T l) i∧(∀ q,q ∈ T→q ∈ dFold g k T l)∧(∀ (j:Nat) (x:V),T[j]? = some x→(dFold g k T l)[j]? = some x) ∧
  (∀ s,s ∈ l→s ∉ dFold g k T l→g.was s + 1 = g.was k→g.was s≤g.po s)
 | [],T,hD,_,_=>⟨hD,fun _ hq=>hq,fun _ _ hj=>hj,fun s hs=>by cases hs⟩
 | x :: r,T,hD,hk,hl=>by
  obtain ⟨h1,h2,h3,h4⟩:=hD.step h hk (hl x (by simp))
  obtain ⟨h5,h6,h7,h8⟩:=Dk.fold h r h1 (h2 k hk) (fun s hs=>hl s (by simp [hs]))
  refine ⟨h5,fun q hq=>h6 q (h2 q hq),fun j y hj=>h7 j y (h3 j y hj),fun s hs hn hw=>?_⟩
  rcases List.mem_cons.1 hs with e | hs
  ·subst e
   exact h4 (fun q=>hn (h6 _ q)) hw
  ·exact h8 s hs hn hw
theorem Dk.next (h:Fit g) {T:List V} {i:Nat} (hD:Dk g T i) {k:V} (hk:T[i]? = some k):Dk g (dFold g k T (g.side k)) (i + 1):=by
 obtain ⟨h1,h2,h3,h4⟩:=hD.fold h (g.side k) (List.mem_of_getElem? hk) (fun _ hs=>hs)
 have hlen:=(List.getElem?_eq_some_iff.1 (h3 _ _ hk)).1
 refine ⟨hlen,h1.sub,h1.dup,h1.less,h1.far,fun j x hj hx hpo s hs hn hw=>?_⟩
 by_cases e:j = i
 ·subst e
  have hxk:=(h3 _ _ hk).symm.trans hx
  injection hxk with hxk
  subst hxk
  exact h4 s hs hn hw
 ·exact h1.done j x (by omega) hx hpo s hs hn hw
theorem Dk.skip (h:Fit g) {T:List V} {i:Nat} (hD:Dk g T i) {k:V} (hk:T[i]? = some k) (hw:g.was k≤g.po k):Dk g T (i + 1):=by
 refine ⟨(List.getElem?_eq_some_iff.1 hk).1,hD.sub,hD.dup,hD.less,hD.far,fun j x hj hx hpo s hs hn hws=>?_⟩
 by_cases e:j = i
 ·subst e
  have hxk:=hk.symm.trans hx
  injection hxk with hxk
  subst hxk
  omega
 ·exact hD.done j x (by omega) hx hpo s hs hn hws
theorem Dk.near (h:Fit g) {T:List V} {i:Nat} (hD:Dk g T i) {k s:V} (hk:k ∈ T) (hw:0 < g.was k ∨ k ∈ g.C) (hs:s ∈ g.side k):g.d s≤15:=by
 have h1:=hD.far k hk
 have h2:=h.near k s hs
 rcases hw with h3 | h3
 ·omega
 ·have:=h.zero k h3
  omega
theorem Dk.after {T:List V} (hD:Dk g T T.length) {k:V} (hk:k ∈ T) (hpo:g.po k < g.was k):∀ s,s ∈ g.side k→s ∉ T→g.was s + 1 = g.was k→g.was s≤g.po s:=by
 obtain ⟨j,hj⟩:=List.getElem?_of_mem hk
 exact hD.done j k (List.getElem?_eq_some_iff.1 hj).1 hj hpo
theorem Dk.own (h:Fit g) {T:List V} {i:Nat} (hD:Dk g T i) {q:V} (hq:q ∈ T):g.po q = g.now q:=by
 rcases h.po q with h1 | ⟨h1,h2,h3,h4⟩
 ·exact h1
 ·exfalso
  have hf:=hD.far q hq
  rcases hD.less q hq with h5 | h5
  ·have:=h.zero q h5
   omega
  ·have hc:=h.sol.clear (q:=q) (by omega)
   have:=h.sol.own hc
   omega
def up (L:V→Nat) (q:V) (v:Nat):V→Nat:=fun x=>if x = q then v else L x
theorem up_same (L:V→Nat) (q:V) (v:Nat):up L q v q = v:=by simp [up]
theorem up_other {L:V→Nat} {q x:V} {v:Nat} (h:x ≠ q):up L q v x = L x:=by simp [up,h]
theorem up_self (L:V→Nat) (q:V):up L q (L q) = L:=by
 funext x
 unfold up
 split
 ·rename_i e
  rw [e]
 ·rfl
def pushV (ls:Nat→List V) (k:Nat) (y:V):Nat→List V:=fun j=>if j = k then ls k ++ [y] else ls j
def bStep (L:V→Nat) (v:Nat) (s:V):Nat:=if v + 1 < L s then L s - 1 else v
def bFold (L:V→Nat) (q:V) (l:List V):Nat:=l.foldl (bStep L) (L q)
theorem bFold_app (L:V→Nat) (q:V) (l:List V) (s:V):bFold L q (l ++ [s]) = bStep L (bFold L q l) s:=by simp [bFold]
theorem bFoldl (L:V→Nat):∀ (l:List V) (v:Nat),v≤l.foldl (bStep L) v∧(l.foldl (bStep L) v = v ∨ ∃ s ∈ l,L s = l.foldl (bStep L) v + 1)∧∀ s ∈ l,L s≤l.foldl (bStep L) v + 1
 | [],v=>⟨Nat.le_refl _,.inl rfl,fun s hs=>by cases hs⟩
 | x :: r,v=>by
  obtain ⟨h1,h2,h3⟩:=bFoldl L r (bStep L v x)
  rw [List.foldl_cons]
  have hx:v≤bStep L v x∧L x≤bStep L v x + 1∧(bStep L v x = v ∨ L x = bStep L v x + 1):=by
   unfold bStep
   split <;> omega
  refine ⟨by omega,?_,fun s hs=>?_⟩
  ·rcases h2 with h2 | ⟨s,hs,h2⟩
   ·rw [h2]
    rcases hx.2.2 with h4 | h4
    ·exact .inl h4
    ·exact .inr ⟨x,by simp,h4⟩
   ·exact .inr ⟨s,by simp [hs],h2⟩
  ·rcases List.mem_cons.1 hs with e | hs
   ·subst e
    omega
   ·exact h3 s hs
theorem bFold_le (L:V→Nat) (q:V) (l:List V) {K:Nat} (hK:∀ x,L x≤K):bFold L q l≤K:=by
 obtain ⟨_,h2,_⟩:=bFoldl L l (L q)
 unfold bFold
 rcases h2 with h2 | ⟨s,_,h2⟩
 ·rw [h2]; exact hK q
 ·have:=hK s
  omega
structure Br (g:Set0) (T:List V) (j:Nat) (L:V→Nat) (ls:Nat→List V):Prop where
 out:∀ q,q ∉ T→L q = g.was q
 wfar:∀ q,q ∈ T→g.was q + g.d q≤15
 top:∀ q,L q≤15
 dark:∀ q,g.cn q = false→L q = 0
 sup:∀ q,g.now q < L q→∃ s ∈ g.side q,L q + 1≤L s
 far:∀ q,q ∈ T→L q + g.d q≤15
 low:∀ q,g.cn q = true→g.now q≤L q
 mem:∀ k s,s ∈ ls k→g.cn s = true∧L s = k∧∃ i,i < j∧T[i]? = some s
 all:∀ i q,i < j→T[i]? = some q→g.cn q = true→q ∈ ls (L q)
 dup:∀ k,(ls k).Nodup
 ok:∀ i q,i < j→T[i]? = some q→g.cn q = true→∀ s ∈ g.side q,s ∉ T→g.was s≤L q + 1
theorem Br.start (h:Fit g) {T:List V} (hD:Dk g T T.length):Br g T 0 (cut g T) (fun _=>[]):=by
 refine ⟨fun q hq=>by simp [cut,hq],hD.far,fun q=>?_,fun q hq=>?_,fun q hq=>?_,fun q hq=>?_,fun q hq=>?_,fun k s hs=>(by cases hs),fun i q hi=>(by omega),fun k=>List.nodup_nil,fun i q hi=>(by omega)⟩
 ·unfold cut
  have:=h.was15 q
  have:=h.now15 q
  have:=h.po_le q
  split <;> omega
 ·unfold cut
  have h0:=h.dark q hq
  have:=h.po_le q
  split
  ·omega
  ·rename_i hn
   have hc:=(h.same q (fun hc=>hn (hD.sub q hc))).1
   have:=h.sol q
   rw [hc,hq] at this
   simpa using this
 ·unfold cut at hq
  by_cases hT:q ∈ T
  ·rw [if_pos hT] at hq
   have:=h.po_le q
   omega
  ·rw [if_neg hT] at hq
   have hC:q ∉ g.C:=fun hc=>hT (hD.sub q hc)
   rw [← (h.same q hC).2] at hq
   obtain ⟨s,hs,hs2⟩:=h.sol.just hq
   refine ⟨s,hs,?_⟩
   unfold cut
   rw [if_neg hT]
   by_cases hTs:s ∈ T
   ·rw [if_pos hTs]
    apply Classical.byContradiction
    intro hlt
    have h1:=hD.after hTs (by omega) q (h.sym _ _ hs) hT (by omega)
    have h2:=h.po_le q
    rw [← (h.same q hC).2] at h2
    omega
   ·rw [if_neg hTs]
    omega
 ·unfold cut
  rw [if_pos hq]
  have h1:=hD.far q hq
  have h2:=h.po_le q
  have h3:=h.now15 q
  rcases hD.less q hq with h4 | h4
  ·have:=h.zero q h4
   omega
  ·omega
 ·unfold cut
  by_cases hT:q ∈ T
  ·rw [if_pos hT,hD.own h hT]
   exact Nat.le_refl _
  ·rw [if_neg hT]
   have hs:=h.same q (fun hc=>hT (hD.sub q hc))
   rw [← hs.2]
   exact h.sol.own (hs.1.trans hq)
theorem nodup_inj:∀ {l:List V} {i j:Nat} {x:V},l.Nodup→l[i]? = some x→l[j]? = some x→i = j
 | y :: r,0,0,x,_,_,_=>rfl
 | y :: r,0,j + 1,x,h,hi,hj=>by
  have e:y = x:=by simpa using hi
  subst e
  exact absurd (List.mem_of_getElem? (by simpa using hj)) (List.nodup_cons.1 h).1
 | y :: r,i + 1,0,x,h,hi,hj=>by
  have e:y = x:=by simpa using hj
  subst e
  exact absurd (List.mem_of_getElem? (by simpa using hi)) (List.nodup_cons.1 h).1
 | y :: r,i + 1,j + 1,x,h,hi,hj=>congrArg (· + 1) (nodup_inj (l:=r) (x:=x) (List.nodup_cons.1 h).2 (by simpa using hi) (by simpa using hj))
theorem Br.next (h:Fit g) {T:List V} {j:Nat} {L:V→Nat} {ls:Nat→List V} (hirr:∀ q,q ∉ g.side q) (hdup:T.Nodup) (hB:Br g T j L ls) {q:V} (hq:T[j]? = some q) (hc:g.cn q = true) :
  Br g T (j + 1) (up L q (bFold L q (g.side q))) (pushV ls (bFold L q (g.side q)) q):=by
 obtain ⟨h1,h2,h3⟩:=bFoldl L (g.side q) (L q)
 have h15:=bFold_le L q (g.side q) hB.top
 have hqT:=List.mem_of_getElem? hq
 have hu:∀ x,L x≤up L q (bFold L q (g.side q)) x:=fun x=>by
  unfold up
  split
  ·rename_i e
   subst e
   exact h1
  ·exact Nat.le_refl _
 have hjx:∀ i x,i < j→T[i]? = some x→x ≠ q:=fun i x hi hx e=>by
  subst e
  exact absurd (nodup_inj hdup hx hq) (by omega)
 unfold bFold at h15
 refine ⟨fun x hx=>?_,hB.wfar,fun x=>?_,fun x hx=>?_,fun x hx=>?_,fun x hx=>?_,fun x hx=>?_,fun k s hs=>?_,fun i x hi hx hcx=>?_,fun k=>?_,fun i x hi hx hcx s hs hn=>?_⟩
 ·rw [up_other (fun e=>hx (by rw [e]; exact hqT))]
  exact hB.out x hx
 ·unfold up
  have:=hB.top x
  split
  ·exact h15
  ·exact this
 ·rw [up_other (fun e=>by
   subst e
   rw [hc] at hx
   cases hx)]
  exact hB.dark x hx
 ·by_cases e:x = q
  ·subst e
   rw [up_same] at hx ⊢
   rcases h2 with h2 | ⟨s,hs,h2⟩
   ·have e2:bFold L x (g.side x) = L x:=h2
    rw [e2] at hx hu ⊢
    obtain ⟨s,hs,hs2⟩:=hB.sup x hx
    exact ⟨s,hs,Nat.le_trans hs2 (hu s)⟩
   ·have e3:L s = bFold L x (g.side x) + 1:=h2
    have:=hu s
    exact ⟨s,hs,by omega⟩
  ·rw [up_other e] at hx ⊢
   obtain ⟨s,hs,hs2⟩:=hB.sup x hx
   exact ⟨s,hs,Nat.le_trans hs2 (hu s)⟩
 ·by_cases e:x = q
  ·subst e
   rw [up_same]
   unfold bFold
   rcases h2 with h2 | ⟨s,hs,h2⟩
   ·rw [h2]
    exact hB.far x hx
   ·have hd:=h.near s x (h.sym _ _ hs)
    by_cases hsT:s ∈ T
    ·have:=hB.far s hsT
     omega
    ·have hws:=hB.out s hsT
     by_cases hxC:x ∈ g.C
     ·have:=h.zero x hxC
      have:=hB.top s
      omega
     ·have hcl:g.cl x = true:=(h.same x hxC).1.trans hc
      have hn:=h.sol.near hcl hs
      have:=hB.far x hx
      have:=hB.wfar x hx
      omega
  ·rw [up_other e]
   exact hB.far x hx
 ·exact Nat.le_trans (hB.low x hx) (hu x)
 ·unfold pushV at hs
  split at hs
  ·rename_i ek
   rcases List.mem_append.1 hs with hs | hs
   ·obtain ⟨a,b,i,hi,hx⟩:=hB.mem _ _ hs
    refine ⟨a,?_,i,by omega,hx⟩
    rw [up_other (hjx i s hi hx),ek]
    exact b
   ·have:s = q:=by simpa using hs
    subst this
    exact ⟨hc,by rw [up_same,ek],j,by omega,hq⟩
  ·obtain ⟨a,b,i,hi,hx⟩:=hB.mem _ _ hs
   refine ⟨a,?_,i,by omega,hx⟩
   rw [up_other (hjx i s hi hx)]
   exact b
 ·by_cases e:i = j
  ·subst e
   have:x = q:=by
    rw [hq] at hx
    injection hx with hx
    exact hx.symm
   subst this
   rw [up_same]
   unfold pushV
   rw [if_pos rfl]
   simp
  ·have hxq:=hjx i x (by omega) hx
   rw [up_other hxq]
   have:=hB.all i x (by omega) hx hcx
   unfold pushV
   split
   ·rename_i ek
    rw [← ek]
    exact List.mem_append_left _ this
   ·exact this
 ·unfold pushV
  split
  ·rename_i ek
   refine List.nodup_append.2 ⟨hB.dup _,by simp,fun a ha b hb=>?_⟩
   have:b = q:=by simpa using hb
   subst this
   obtain ⟨_,_,i,hi,hx⟩:=hB.mem _ _ ha
   exact hjx i a hi hx
  ·exact hB.dup k
 ·by_cases e:i = j
  ·subst e
   have:x = q:=by
    rw [hq] at hx
    injection hx with hx
    exact hx.symm
   subst this
   rw [up_same]
   have:=h3 s hs
   rw [hB.out s hn] at this
   exact this
  ·have hxq:=hjx i x (by omega) hx
   rw [up_other hxq]
   exact hB.ok i x (by omega) hx hcx s hs hn
theorem Br.skip {T:List V} {j:Nat} {L:V→Nat} {ls:Nat→List V} (hB:Br g T j L ls) {q:V} (hq:T[j]? = some q) (hc:g.cn q = false):Br g T (j + 1) L ls:=by
 have hjx:∀ i x,i < j + 1→T[i]? = some x→g.cn x = true→i < j:=fun i x hi hx hcx=>by
  by_cases e:i = j
  ·subst e
   rw [hq] at hx
   injection hx with hx
   subst hx
   rw [hc] at hcx
   cases hcx
  ·omega
 exact ⟨hB.out,hB.wfar,hB.top,hB.dark,hB.sup,hB.far,hB.low,fun k s hs=>by
  obtain ⟨a,b,i,hi,hx⟩:=hB.mem k s hs
  exact ⟨a,b,i,by omega,hx⟩,fun i x hi hx hcx=>hB.all i x (hjx i x hi hx hcx) hx hcx,hB.dup,fun i x hi hx hcx=>hB.ok i x (hjx i x hi hx hcx) hx hcx⟩
structure Sp (g:Set0) (b:Nat) (L:V→Nat) (ls:Nat→List V):Prop where
 top:∀ q,L q≤15
 dark:∀ q,g.cn q = false→L q = 0
 sup:∀ q,g.now q < L q→∃ s ∈ g.side q,L q + 1≤L s
 low:∀ q,g.cn q = true→g.now q≤L q
 mem:∀ k s,s ∈ ls k→g.cn s = true∧k≤L s∧L s + g.d s≤15
 dup:∀ k,(ls k).Nodup
 cls:∀ q,g.cn q = true→∀ s ∈ g.side q,L s≤L q + 1 ∨ s ∈ ls (L s)
 done:∀ q,g.cn q = true→∀ s ∈ g.side q,b < L s→L s≤L q + 1
theorem Br.spread (h:Fit g) {T:List V} (hD:Dk g T T.length) {L:V→Nat} {ls:Nat→List V} (hB:Br g T T.length L ls):Sp g 15 L ls:=by
 refine ⟨hB.top,hB.dark,hB.sup,hB.low,fun k s hs=>?_,hB.dup,fun q hq s hs=>?_,fun q _ s _ hlt=>?_⟩
 ·obtain ⟨a,b,i,hi,hx⟩:=hB.mem k s hs
  exact ⟨a,by omega,hB.far s (List.mem_of_getElem? hx)⟩
 ·by_cases hsT:s ∈ T
  ·cases hcs:g.cn s with
   | true =>
    obtain ⟨i,hi⟩:=List.getElem?_of_mem hsT
    exact .inr (hB.all i s (List.getElem?_eq_some_iff.1 hi).1 hi hcs)
   | false =>
    have:=hB.dark s hcs
    exact .inl (by omega)
  ·refine .inl ?_
   rw [hB.out s hsT]
   by_cases hqT:q ∈ T
   ·obtain ⟨i,hi⟩:=List.getElem?_of_mem hqT
    exact hB.ok i q (List.getElem?_eq_some_iff.1 hi).1 hi hq s hs hsT
   ·rw [hB.out q hqT]
    exact h.sol.near ((h.same q (fun hc=>hqT (hD.sub q hc))).1.trans hq) hs
 ·have:=hB.top s
  omega
abbrev SV:=(V→Nat) × (Nat→List V)
def stepV (g:Set0) (less:Nat) (st:SV) (s:V):SV:=if g.cn s = true∧st.1 s < less then (up st.1 s less,pushV st.2 less s) else st
def cellV (g:Set0) (less:Nat) (st:SV) (c:V):SV:=(g.side c).foldl (stepV g less) st
def turnV (g:Set0) (b:Nat) (st:SV):SV:=(st.2 b).foldl (cellV g (b - 1)) st
theorem stepV_other {less k:Nat} {st:SV} {s:V} (hk:k ≠ less):(stepV g less st s).2 k = st.2 k:=by
 unfold stepV
 split
 ·show pushV st.2 less s k = st.2 k
  unfold pushV
  rw [if_neg hk]
 ·rfl
theorem foldV_other {less k:Nat} (hk:k ≠ less):∀ (l:List V) (st:SV),(l.foldl (stepV g less) st).2 k = st.2 k
 | [],st=>rfl
 | s :: r,st=>by rw [List.foldl_cons,foldV_other hk r,stepV_other hk]
theorem cellsV_other {less k:Nat} (hk:k ≠ less):∀ (l:List V) (st:SV),(l.foldl (cellV g less) st).2 k = st.2 k
 | [],st=>rfl
 | c :: r,st=>by rw [List.foldl_cons,cellsV_other hk r,cellV,foldV_other hk]
theorem Sp.step (h:Fit g) {b:Nat} {st:SV} (hS:Sp g b st.1 st.2) (hb:2≤b) (hb15:b≤15) {c s:V} (hc:b≤st.1 c) (hcd:b + g.d c≤15) (hs:s ∈ g.side c) :
  Sp g b (stepV g (b - 1) st s).1 (stepV g (b - 1) st s).2∧(∀ i,st.1 i≤(stepV g (b - 1) st s).1 i)∧(g.cn s = true→b - 1≤(stepV g (b - 1) st s).1 s):=by
 unfold stepV
 by_cases hq:g.cn s = true∧st.1 s < b - 1
 ·rw [if_pos hq]
  have hu:∀ x,st.1 x≤up st.1 s (b - 1) x:=fun x=>by
   unfold up
   split
   ·rename_i e
    subst e
    omega
   ·exact Nat.le_refl _
  have pm:∀ k x,x ∈ st.2 k→x ∈ pushV st.2 (b - 1) s k:=fun k x hx=>by
   unfold pushV
   split
   ·rename_i e
    subst e
    exact List.mem_append_left _ hx
   ·exact hx
  have hnear:=h.near c s hs
  refine ⟨⟨fun x=>?_,fun x hx=>?_,fun x hx=>?_,fun x hx=>?_,fun k x hx=>?_,fun k=>?_,fun x hx t ht=>?_,fun x hx t ht hlt=>?_⟩,hu,fun _=>by show b - 1≤up st.1 s (b - 1) s; rw [up_same]; exact Nat.le_refl _⟩
  ·show up st.1 s (b - 1) x≤15
   have:=hS.top x
   unfold up
   split <;> omega
  ·show up st.1 s (b - 1) x = 0
   rw [up_other (fun e=>by
    subst e
    rw [hq.1] at hx
    cases hx)]
   exact hS.dark x hx
  ·have hx':g.now x < up st.1 s (b - 1) x:=hx
   show ∃ t ∈ g.side x,up st.1 s (b - 1) x + 1≤up st.1 s (b - 1) t
   by_cases e:x = s
   ·subst e
    rw [up_same]
    exact ⟨c,h.sym _ _ hs,by have:=hu c; omega⟩
   ·rw [up_other e] at hx' ⊢
    obtain ⟨t,ht,ht2⟩:=hS.sup x hx'
    exact ⟨t,ht,Nat.le_trans ht2 (hu t)⟩
  ·exact Nat.le_trans (hS.low x hx) (hu x)
  ·have hx':x ∈ pushV st.2 (b - 1) s k:=hx
   show g.cn x = true∧k≤up st.1 s (b - 1) x∧up st.1 s (b - 1) x + g.d x≤15
   have hold:x ∈ st.2 k→g.cn x = true∧k≤up st.1 s (b - 1) x∧up st.1 s (b - 1) x + g.d x≤15:=fun hm=>by
    obtain ⟨a,a2,a3⟩:=hS.mem k x hm
    refine ⟨a,Nat.le_trans a2 (hu x),?_⟩
    by_cases e:x = s
    ·subst e
     rw [up_same]
     omega
    ·rw [up_other e]
     exact a3
   unfold pushV at hx'
   split at hx'
   ·rename_i ek
    rcases List.mem_append.1 hx' with hm | hm
    ·rw [← ek] at hm
     exact hold hm
    ·have:x = s:=by simpa using hm
     subst this
     rw [up_same]
     exact ⟨hq.1,by omega,by omega⟩
   ·exact hold hx'
  ·show (pushV st.2 (b - 1) s k).Nodup
   unfold pushV
   split
   ·refine List.nodup_append.2 ⟨hS.dup _,by simp,fun a ha x hx=>?_⟩
    have:x = s:=by simpa using hx
    subst this
    intro e
    subst e
    have:=(hS.mem _ _ ha).2.1
    omega
   ·exact hS.dup k
  ·show up st.1 s (b - 1) t≤up st.1 s (b - 1) x + 1 ∨ t ∈ pushV st.2 (b - 1) s (up st.1 s (b - 1) t)
   by_cases e:t = s
   ·subst e
    rw [up_same]
    refine .inr ?_
    unfold pushV
    rw [if_pos rfl]
    simp
   ·rw [up_other e]
    rcases hS.cls x hx t ht with h1 | h1
    ·have:=hu x
     exact .inl (by omega)
    ·exact .inr (pm _ _ h1)
  ·have hlt':b < up st.1 s (b - 1) t:=hlt
   show up st.1 s (b - 1) t≤up st.1 s (b - 1) x + 1
   by_cases e:t = s
   ·subst e
    rw [up_same] at hlt'
    omega
   ·rw [up_other e] at hlt' ⊢
    have:=hS.done x hx t ht hlt'
    have:=hu x
    omega
 ·rw [if_neg hq]
  refine ⟨hS,fun _=>Nat.le_refl _,fun hcs=>?_⟩
  apply Classical.byContradiction
  intro hn
  exact hq ⟨hcs,by omega⟩
theorem Sp.fold (h:Fit g) {b:Nat} (hb:2≤b) (hb15:b≤15) {c:V} (hcd:b + g.d c≤15):∀ (l:List V) {st:SV},Sp g b st.1 st.2→b≤st.1 c→(∀ s ∈ l,s ∈ g.side c) →
  Sp g b (l.foldl (stepV g (b - 1)) st).1 (l.foldl (stepV g (b - 1)) st).2∧(∀ i,st.1 i≤(l.foldl (stepV g (b - 1)) st).1 i)∧∀ s ∈ l,g.cn s = true→b - 1≤(l.foldl (stepV g (b - 1)) st).1 s
 | [],st,hS,_,_=>⟨hS,fun _=>Nat.le_refl _,fun s hs=>by cases hs⟩
 | x :: r,st,hS,hc,hl=>by
  obtain ⟨h1,u1,p1⟩:=hS.step h hb hb15 hc hcd (hl x (by simp))
  obtain ⟨h2,u2,p2⟩:=Sp.fold h hb hb15 (c:=c) hcd r h1 (Nat.le_trans hc (u1 c)) (fun s hs=>hl s (by simp [hs]))
  refine ⟨h2,fun i=>Nat.le_trans (u1 i) (u2 i),fun s hs hcl=>?_⟩
  rcases List.mem_cons.1 hs with e | hs
  ·subst e
   exact Nat.le_trans (p1 hcl) (u2 s)
  ·exact p2 s hs hcl
theorem Sp.cells (h:Fit g) {b:Nat} (hb:2≤b) (hb15:b≤15):∀ (l:List V) {st:SV},Sp g b st.1 st.2→(∀ c ∈ l,b≤st.1 c∧b + g.d c≤15) →
  Sp g b (l.foldl (cellV g (b - 1)) st).1 (l.foldl (cellV g (b - 1)) st).2∧(∀ i,st.1 i≤(l.foldl (cellV g (b - 1)) st).1 i)∧∀ c ∈ l,∀ s ∈ g.side c,g.cn s = true→b - 1≤(l.foldl (cellV g (b - 1)) st).1 s
 | [],st,hS,_=>⟨hS,fun _=>Nat.le_refl _,fun s hs=>by cases hs⟩
 | x :: r,st,hS,hl=>by
  obtain ⟨h1,u1,p1⟩:=hS.fold h hb hb15 (c:=x) (hl x (by simp)).2 (g.side x) (hl x (by simp)).1 (fun s hs=>hs)
  obtain ⟨h2,u2,p2⟩:=Sp.cells h hb hb15 r h1 (fun c hc=>⟨Nat.le_trans (hl c (by simp [hc])).1 (u1 c),(hl c (by simp [hc])).2⟩)
  refine ⟨h2,fun i=>Nat.le_trans (u1 i) (u2 i),fun c hc s hs hcl=>?_⟩
  rcases List.mem_cons.1 hc with e | hc
  ·subst e
   exact Nat.le_trans (p1 s hs hcl) (u2 s)
  ·exact p2 c hc s hs hcl
theorem Sp.listed {b:Nat} {st:SV} (hS:Sp g b st.1 st.2):∀ c ∈ st.2 b,b≤st.1 c∧b + g.d c≤15:=fun c hc=>by
 obtain ⟨_,h1,h2⟩:=hS.mem b c hc
 exact ⟨h1,by omega⟩
theorem Sp.turn (h:Fit g) {b:Nat} {st:SV} (hS:Sp g b st.1 st.2) (hb:2≤b) (hb15:b≤15):Sp g (b - 1) (turnV g b st).1 (turnV g b st).2:=by
 obtain ⟨h1,u1,p1⟩:=hS.cells h hb hb15 (st.2 b) hS.listed
 refine ⟨h1.top,h1.dark,h1.sup,h1.low,h1.mem,h1.dup,h1.cls,fun q hq s hs hlt=>?_⟩
 by_cases e:b < (turnV g b st).1 s
 ·exact h1.done q hq s hs e
 ·have eb:(turnV g b st).1 s = b:=by omega
  rcases h1.cls q hq s hs with h2 | h2
  ·exact h2
  ·have eb2:(List.foldl (cellV g (b - 1)) st (st.2 b)).1 s = b:=eb
   rw [eb2,cellsV_other (by omega)] at h2
   have hp:b - 1≤(turnV g b st).1 q:=p1 s h2 q (h.sym _ _ hs) hq
   omega
theorem Sp.len (h:Fit g) {b:Nat} {st:SV} (hS:Sp g b st.1 st.2) (k:Nat):(st.2 k).length≤g.E.length:=nodup_len (hS.dup k) (fun q hq=>h.ein2 q (hS.mem k q hq).1)
theorem Sp.sol {L:V→Nat} {ls:Nat→List V} (hS:Sp g 1 L ls):SolV g.side g.cn g.now L:=fun q=>by
 cases hc:g.cn q with
 | false =>
  rw [if_neg (by simp)]
  exact hS.dark q hc
 | true =>
  rw [if_pos rfl]
  have h1:=hS.low q hc
  have h2:inV g.side L q≤L q:=inV_le.2 fun t ht=>by
   by_cases h1:1 < L t
   ·have:=hS.done q hc t ht h1
    omega
   ·omega
  by_cases h3:g.now q < L q
  ·obtain ⟨s,hs,h4⟩:=hS.sup q h3
   have:=inV_ge (L:=L) hs
   omega
  ·omega
end
end FloodP
end Go.Proofs.YtpimkdaikoclnaaDoor
namespace Go.Proofs.YtpimkdaikoclnaaDoor
open Go.RowKit
set_option linter.unusedVariables false
set_option linter.unusedSimpArgs false
namespace FloodW
open BlkP RowG GlowW FloodP
structure Fr (S:Nat→Prop) (w w':World):Prop where
 os:w'.os = w.os
 tape:w'.tape = w.tape
 output:w'.output = w.output
 size:w.heap.size≤w'.heap.size
 block:∀ k,k < w.heap.size→¬ S k→w'.heap[k]? = w.heap[k]?
section
variable {S S':Nat→Prop} {w w' w'':World} {b:Nat} {T:TypeId} {vs:List Value}
theorem Fr.refl (S:Nat→Prop) (w:World):Fr S w w:=⟨rfl,rfl,rfl,Nat.le_refl _,fun _ _ _=>rfl⟩
theorem Fr.trans (h:Fr S w w') (k:Fr S' w' w'') (hS:∀ i,S' i→S i ∨ w.heap.size≤i):Fr S w w'' :=
 ⟨k.os.trans h.os,k.tape.trans h.tape,k.output.trans h.output,Nat.le_trans h.size k.size,fun i hi hn=>(k.block i (Nat.lt_of_lt_of_le hi h.size) (fun q=>by
  rcases hS i q with q | q
  ·exact hn q
  ·omega)).trans (h.block i hi hn)⟩
theorem Fr.mono (h:Fr S w w') (hS:∀ i,S i→S' i):Fr S' w w':=⟨h.os,h.tape,h.output,h.size,fun i hi hn=>h.block i hi (fun q=>hn (hS i q))⟩
theorem Fr.below (S:Nat→Prop) (h:Below w.heap.size w w'):Fr S w w':=⟨h.os,h.tape,h.output,h.size,fun i hi _=>h.block i hi⟩
theorem Fr.grown {r:Option Nat} (h:w.grownBy w' r) (hr:∀ i,r = some i→S i):Fr S w w':=⟨h.os,h.tape,h.output,h.size,fun i hi hn=>h.block i hi (fun e=>hn (hr i e.symm))⟩
theorem Fr.set (S:Nat→Prop) (w:World) (a:Addr) (v:Value) (h:S a.block):Fr S w (w.setCell a v):=⟨rfl,rfl,rfl,by simp,fun i _ hn=>heap_setCell_other w a i v (fun e=>hn (by rw [e]; exact h))⟩
theorem Fr.alloc (S:Nat→Prop) (w:World) (o:Obj):Fr S w (w.alloc o):=Fr.below S ((Below.refl _ w).alloc (Nat.le_refl _) o)
theorem Fr.drew (h:Fr S w w'):Fr S w w'.drew:=⟨h.os,h.tape,h.output,h.size,h.block⟩
theorem Fr.drewN (h:Fr S w w') (n:Nat):Fr S w (w'.drewN n):=⟨h.os,h.tape,h.output,h.size,h.block⟩
theorem Fr.blk (h:Fr S w w') (hb:Blk w b T vs) (hn:¬ S b):Blk w' b T vs:=(h.block b hb.lt hn).trans hb
theorem Fr.cell (h:Fr S w w') {p:Addr} (hl:p.block < w.heap.size) (hn:¬ S p.block):w'.cell? p = w.cell? p:=by
 unfold World.cell?
 rw [h.block _ hl hn]
theorem Fr.toBelow (h:Fr S w w') {B:Nat} (hB:B≤w.heap.size) (hS:∀ i,S i→B≤i):Below B w w':=⟨h.os,h.tape,h.output,h.size,fun k hk=>h.block k (by omega) (fun q=>by have:=hS k q; omega)⟩
variable {α:Type} {e:Enc α} {E:TypeId} {B:Nat} {v:Value} {l:List α}
theorem Fr.own (h:Fr S w w') (ho:RowG.Own e E w B v l) (hn:∀ g,v.ownBlock = some g→¬ S g):RowG.Own e E w' B v l:=by
 have hge:=ho.ge
 unfold RowG.Own at ho ⊢
 refine ⟨ho.1,?_⟩
 rcases ho.2 with h1 | ⟨g,cap,cur,h2,h3,h4,h5⟩
 ·exact .inl h1
 ·subst h2
  exact .inr ⟨g,cap,cur,rfl,h3,(h.block g (hge g rfl).2 (hn g rfl)).trans h4,h5⟩
end
theorem own_cells {α:Type} {e:Enc α} {E:TypeId} {w:World} {B:Nat} {v:Value} {l:List α} {g:Nat} (h:RowG.Own e E w B v l) (hg:v.ownBlock = some g):∃ us,Blk w g E us:=by
 unfold RowG.Own at h
 rcases h.2 with ⟨rfl,_⟩ | ⟨g',cap,cur,rfl,_,hgg,_⟩
 ·cases hg
 ·have:g' = g:=by simpa [Value.ownBlock] using hg
  subst this
  exact ⟨cur.toList,hgg⟩
def encP:Enc V:=⟨fun q=>[.int .i64 q.1,.int .i64 q.2.1,.int .i64 q.2.2],3,fun _=>rfl,fun x v h=>by
 simp only [List.mem_cons,List.not_mem_nil,or_false] at h
 rcases h with rfl | rfl | rfl <;> rfl⟩
abbrev TW:TypeId:=48
abbrev TK:TypeId:=74
abbrev TWk:TypeId:=69
abbrev TP:TypeId:=23
abbrev TC:TypeId:=33
abbrev TL:TypeId:=43
def mayP (q:V):Prop:=-1048576≤q.1∧q.1 < 1048576∧0≤q.2.1∧q.2.1 < 64∧-1048576≤q.2.2∧q.2.2 < 1048576
structure Fld where
 F:Nat
 lo:V
 X:Nat
 Y:Nat
 Z:Nat
 vC:Value
 vL:Value
 vA:Value
 vT:Value
 cs:List (Nat × Nat)
 ls:List (Nat × Nat)
 ak:List V
 ts:List V
 other:Nat
def fcells (f:Fld):List Value:=[.int .i64 f.lo.1,.int .i64 f.lo.2.1,.int .i64 f.lo.2.2,i64v f.X,i64v f.Y,i64v f.Z,f.vC,f.vL,f.vA,f.vT,i64v f.other]
def inB (f:Fld) (q:V):Bool:=decide (f.lo.1≤q.1) && decide (q.1 < f.lo.1 + f.X) && (decide (f.lo.2.1≤q.2.1) && decide (q.2.1 < f.lo.2.1 + f.Y)) && (decide (f.lo.2.2≤q.2.2) && decide (q.2.2 < f.lo.2.2 + f.Z))
def numB (f:Fld) (q:V):Nat:=((q.2.1 - f.lo.2.1).toNat * f.Z + (q.2.2 - f.lo.2.2).toNat) * f.X + (q.1 - f.lo.1).toNat
def cellAt (f:Fld) (q:V):Nat × Nat:=if inB f q = true then f.cs.getD (numB f q) (0,0) else (1,0)
def litAt (f:Fld) (q:V):Nat × Nat:=if inB f q = true then f.ls.getD (numB f q) (0,0) else (0,0)
structure FldM (w:World) (f:Fld):Prop where
 blk:Blk w f.F TW (fcells f)
 cs:RowG.Own enc2 TC w 0 f.vC f.cs
 ls:RowG.Own enc2 TL w 0 f.vL f.ls
 ak:RowG.Own encP TP w 0 f.vA f.ak
 ts:RowG.Own encP TP w 0 f.vT f.ts
 dj:∀ g,f.vA.ownBlock = some g→f.vT.ownBlock ≠ some g
structure FldW (f:Fld):Prop where
 x:1≤f.X∧f.X≤8
 y:1≤f.Y∧f.Y≤16
 z:1≤f.Z∧f.Z≤8
 lx:-1048576≤f.lo.1∧f.lo.1 + f.X≤1048576
 ly:0≤f.lo.2.1∧f.lo.2.1 + f.Y≤64
 lz:-1048576≤f.lo.2.2∧f.lo.2.2 + f.Z≤1048576
 cs:f.cs.length = f.X * f.Y * f.Z
 ls:f.ls.length = f.X * f.Y * f.Z
 c8:∀ c ∈ f.cs,c.1 < 256∧c.2 < 256
 l15:∀ c ∈ f.ls,c.1≤15∧c.2≤15
section
variable {f:Fld} {w w':World} {S:Nat→Prop}
theorem FldM.fr (h:FldM w f) (hf:Fr S w w') (h1:¬ S f.F) (h2:∀ g,f.vC.ownBlock = some g→¬ S g) (h3:∀ g,f.vL.ownBlock = some g→¬ S g) (h4:∀ g,f.vA.ownBlock = some g→¬ S g) (h5:∀ g,f.vT.ownBlock = some g→¬ S g):FldM w' f :=
 ⟨hf.blk h.blk h1,hf.own h.cs h2,hf.own h.ls h3,hf.own h.ak h4,hf.own h.ts h5,h.dj⟩
theorem FldM.below (h:FldM w f) (hb:Below w.heap.size w w'):FldM w' f:=⟨h.blk.below hb,h.cs.below hb,h.ls.below hb,h.ak.below hb,h.ts.below hb,h.dj⟩
theorem inB_iff {q:V}:inB f q = true↔f.lo.1≤q.1∧q.1 < f.lo.1 + f.X∧f.lo.2.1≤q.2.1∧q.2.1 < f.lo.2.1 + f.Y∧f.lo.2.2≤q.2.2∧q.2.2 < f.lo.2.2 + f.Z:=by
 simp only [inB,Bool.and_eq_true,decide_eq_true_eq]
 omega
theorem numB_lt (hW:FldW f) {q:V} (h:inB f q = true):numB f q < f.X * f.Y * f.Z:=by
 have:=inB_iff.1 h
 exact GlowP.at_lt (by omega) (by omega) (by omega)
theorem litAt_le (hW:FldW f) (q:V):(litAt f q).1≤15∧(litAt f q).2≤15:=by
 unfold litAt
 split
 ·rename_i h
  have:=numB_lt hW h
  rw [← hW.ls] at this
  rw [show f.ls.getD (numB f q) (0,0) = f.ls[numB f q] by simp [List.getD,this]]
  exact hW.l15 _ (List.getElem_mem this)
 ·exact ⟨by decide,by decide⟩
end
def SF (f:Fld) (k:Nat):Prop:=k = f.F ∨ f.vA.ownBlock = some k
structure Gh where
 f:Fld
 wk:Nat
 M:Nat
 at_:V
 low:Int
 kn:List (V × Nat)
 ow:Bool→V→Nat
 nw:Bool→V→Nat
 ak0:List V
 kd:V→Prop
def ext (f:Fld) (q:V):Prop:=f.lo.1 - 1≤q.1∧q.1≤f.lo.1 + f.X∧f.lo.2.1 - 1≤q.2.1∧q.2.1≤f.lo.2.1 + f.Y∧f.lo.2.2 - 1≤q.2.2∧q.2.2≤f.lo.2.2 + f.Z
def okP (g:Gh) (q:V):Prop:=mayP q∧ext g.f q∧g.kd q
def clr (f:Fld) (q:V):Bool:=openA (cellAt f q)
def wasB (f:Fld) (b:Bool) (q:V):Nat:=if b = true then (litAt f q).2 else (litAt f q).1
def kcells (g:Gh) (q:V):List Value:=[.bool (clr g.f q),u8v (g.ow false q),u8v (g.ow true q),u8v (wasB g.f false q),u8v (wasB g.f true q),u8v (g.nw false q),u8v (g.nw true q)]
def wcells (g:Gh):List Value:=[.iface 29 (.pointer (some ⟨g.f.F,0,none⟩)),.int .i64 g.at_.1,.int .i64 g.at_.2.1,.int .i64 g.at_.2.2,.int .i64 g.low,.map (some g.M)]
def ents:Nat→List (V × Nat)→List MapEntry
 | _,[]=>[]
 | s,c :: r=>{ key:=.agg #[.int .i64 c.1.1,.int .i64 c.1.2.1,.int .i64 c.1.2.2],val:=.pointer (some ⟨c.2,0,none⟩),born:=s } :: ents (s + 1) r
def MapK (w:World) (M:Nat) (kn:List (V × Nat)):Prop:=w.heap[M]? = some (.map (ents 0 kn).toArray kn.length)
structure St (w:World) (g:Gh):Prop where
 fld:FldM w g.f
 fw:FldW g.f
 work:Blk w g.wk TWk (wcells g)
 map:MapK w g.M g.kn
 dup:(g.kn.map (·.1)).Nodup
 bdup:(g.kn.map (·.2)).Nodup
 known:∀ q b,(q,b) ∈ g.kn→Blk w b TK (kcells g q)
 dflt:∀ q,q ∉ g.kn.map (·.1)→g.ow false q = 0∧g.ow true q = lampA (cellAt g.f q)∧∀ b,g.nw b q = if clr g.f q = true then wasB g.f b q else 0
 le:∀ b q,g.ow b q≤15∧g.nw b q≤15
 few:∀ q,q ∈ g.kn.map (·.1)→okP g q
 asks:g.ak0.length≤10000∧∃ l,g.f.ak = g.ak0 ++ l∧l.length≤2 * g.kn.length∧∀ q ∈ l,q ∈ g.kn.map (·.1)
 atp:mayP g.at_
 lowp:0≤g.low∧g.low≤63
def Ss (g:Gh) (k:Nat):Prop:=k = g.f.F ∨ g.f.vA.ownBlock = some k ∨ k = g.wk ∨ k = g.M ∨ k ∈ g.kn.map (·.2)
section
variable {w w':World} {g:Gh} {b:Nat} {T:TypeId} {vs:List Value}
theorem MapK.lt {M:Nat} {kn:List (V × Nat)} (h:MapK w M kn):M < w.heap.size:=(Array.getElem?_eq_some_iff.1 h).1
theorem mem_kn {k:Nat} (h:k ∈ g.kn.map (·.2)):∃ q,(q,k) ∈ g.kn:=by
 obtain ⟨⟨q,b⟩,h1,h2⟩:=List.mem_map.1 h
 subst h2
 exact ⟨q,h1⟩
theorem St.lt (h:St w g) {k:Nat} (hk:Ss g k):k < w.heap.size:=by
 rcases hk with e | e | e | e | e
 ·subst e; exact h.fld.blk.lt
 ·exact (h.fld.ak.ge k e).2
 ·subst e; exact h.work.lt
 ·subst e; exact h.map.lt
 ·obtain ⟨q,hq⟩:=mem_kn e
  exact (h.known q k hq).lt
theorem Blk.notMap {M:Nat} {kn:List (V × Nat)} (h:MapK w M kn) (hb:Blk w b T vs):b ≠ M:=fun e=>by
 subst e
 unfold Blk at hb
 unfold MapK at h
 rw [hb] at h
 cases h
theorem St.other (h:St w g) (hb:Blk w b T vs) (h1:T ≠ TW) (h2:T ≠ TP) (h3:T ≠ TWk) (h4:T ≠ TK):¬ Ss g b:=fun hk=>by
 rcases hk with e | e | e | e | e
 ·exact Blk.ne hb h.fld.blk h1 e
 ·obtain ⟨us,hu⟩:=own_cells h.fld.ak e
  exact Blk.ne hb hu h2 rfl
 ·exact Blk.ne hb h.work h3 e
 ·exact Blk.notMap h.map hb e
 ·obtain ⟨q,hq⟩:=mem_kn e
  exact Blk.ne hb (h.known q b hq) h4 rfl
theorem St.new (h:St w g) (hb:w.heap.size≤b):¬ Ss g b:=fun hk=>by
 have:=h.lt hk
 omega
theorem St.fr {S:Nat→Prop} (h:St w g) (hf:Fr S w w') (hS:∀ k,S k→k < w.heap.size→¬ Ss g k∧g.f.vC.ownBlock ≠ some k∧g.f.vL.ownBlock ≠ some k∧g.f.vT.ownBlock ≠ some k):St w' g:=by
 have n1:∀ k,Ss g k→¬ S k:=fun k hk hs=>(hS k hs (h.lt hk)).1 hk
 refine ⟨h.fld.fr hf (n1 _ (.inl rfl)) (fun k e hs=>(hS k hs (h.fld.cs.ge k e).2).2.1 e) (fun k e hs=>(hS k hs (h.fld.ls.ge k e).2).2.2.1 e) (fun k e=>n1 k (.inr (.inl e))) (fun k e hs=>(hS k hs (h.fld.ts.ge k e).2).2.2.2 e),h.fw,hf.blk h.work (n1 _ (.inr (.inr (.inl rfl)))),?_,h.dup,h.bdup,fun q b hq=>hf.blk (h.known q b hq) (n1 _ (.inr (.inr (.inr (.inr (List.mem_map.2 ⟨_,hq,rfl⟩)))))),h.dflt,h.le,h.few,h.asks,h.atp,h.lowp⟩
 exact (hf.block _ h.map.lt (n1 _ (.inr (.inr (.inr (.inl rfl)))))).trans h.map
theorem St.below (h:St w g) (hb:Below w.heap.size w w'):St w' g:=h.fr (S:=fun _=>False) (Fr.below _ hb) (fun k hk=>hk.elim)
def extL (f:Fld):List V:=(List.range (f.X + 2)).flatMap fun (i:Nat)=>(List.range (f.Y + 2)).flatMap fun (j:Nat)=>(List.range (f.Z + 2)).map fun (k:Nat)=>(f.lo.1 - 1 + (i:Int),f.lo.2.1 - 1 + (j:Int),f.lo.2.2 - 1 + (k:Int))
theorem len_flat {α β:Type} (h:α→List β) (n:Nat):∀ l:List α,(∀ x,(h x).length = n)→(l.flatMap h).length = l.length * n
 | [],_=>by simp
 | x :: r,hx=>by
  rw [List.flatMap_cons,List.length_append,hx,len_flat h n r hx,List.length_cons,Nat.succ_mul]
  omega
theorem extL_len (f:Fld):(extL f).length = (f.X + 2) * ((f.Y + 2) * (f.Z + 2)):=by
 unfold extL
 rw [len_flat _ ((f.Y + 2) * (f.Z + 2)) _ (fun i=>by rw [len_flat _ (f.Z + 2) _ (fun j=>by simp)]; simp)]
 simp
theorem extL_mem {f:Fld} {q:V} (h:ext f q):q ∈ extL f:=by
 unfold ext at h
 unfold extL
 simp only [List.mem_flatMap,List.mem_range,List.mem_map]
 refine ⟨(q.1 - (f.lo.1 - 1)).toNat,by omega,(q.2.1 - (f.lo.2.1 - 1)).toNat,by omega,(q.2.2 - (f.lo.2.2 - 1)).toNat,by omega,?_⟩
 refine Prod.ext (by simp only; omega) (Prod.ext (by simp only; omega) (by simp only; omega))
theorem St.kn_le (h:St w g):g.kn.length≤1800:=by
 have h1:=nodup_len h.dup (fun q hq=>extL_mem (h.few q hq).2.1)
 rw [extL_len,List.length_map] at h1
 have hx:=h.fw.x
 have hy:=h.fw.y
 have hz:=h.fw.z
 have m1:(g.f.Y + 2) * (g.f.Z + 2)≤18 * 10:=Nat.mul_le_mul (by omega) (by omega)
 have m2:(g.f.X + 2) * ((g.f.Y + 2) * (g.f.Z + 2))≤10 * (18 * 10):=Nat.mul_le_mul (by omega) m1
 omega
theorem St.ak_le (h:St w g):g.f.ak.length≤13600:=by
 obtain ⟨h1,l,h2,h3,_⟩:=h.asks
 have:=h.kn_le
 rw [h2,List.length_append]
 omega
structure Go (g:Gh) (w:World) (g':Gh) (w':World):Prop where
 fr:Fr (Ss g) w w'
 new:∀ k,Ss g' k→Ss g k ∨ w.heap.size≤k
theorem Go.refl (g:Gh) (w:World):Go g w g w:=⟨Fr.refl _ _,fun _ h=>.inl h⟩
theorem Go.below (g:Gh) (hb:Below w.heap.size w w'):Go g w g w':=⟨Fr.below _ hb,fun _ h=>.inl h⟩
theorem Go.trans {g' g'':Gh} {w'':World} (h:Go g w g' w') (k:Go g' w' g'' w''):Go g w g'' w'' :=
 ⟨h.fr.trans k.fr h.new,fun i hi=>by
  rcases k.new i hi with h1 | h1
  ·exact h.new i h1
  ·exact .inr (Nat.le_trans h.fr.size h1)⟩
def Loc (w:World) (g:Gh) (b:Nat) (T:TypeId) (vs:List Value):Prop:=Blk w b T vs∧¬ Ss g b
theorem Loc.go {g':Gh} (h:Loc w g b T vs) (k:Go g w g' w'):Loc w' g' b T vs:=⟨k.fr.blk h.1 h.2,fun hs=>by
 rcases k.new b hs with h1 | h1
 ·exact h.2 h1
 ·have:=h.1.lt
  omega⟩
theorem Loc.below (h:Loc w g b T vs) (hb:Below w.heap.size w w'):Loc w' g b T vs:=⟨h.1.below hb,h.2⟩
def LocR (w:World) (g:Gh) (v:Value) (l:List V):Prop:=RowG.Own encP TP w 0 v l∧∀ k,v.ownBlock = some k→¬ Ss g k
theorem LocR.go {g':Gh} {v:Value} {l:List V} (h:LocR w g v l) (k:Go g w g' w'):LocR w' g' v l:=⟨k.fr.own h.1 h.2,fun i hi hs=>by
 rcases k.new i hs with h1 | h1
 ·exact h.2 i hi h1
 ·have:=(h.1.ge i hi).2
  omega⟩
theorem LocR.below {v:Value} {l:List V} (h:LocR w g v l) (hb:Below w.heap.size w w'):LocR w' g v l:=⟨h.1.below hb,h.2⟩
end
end FloodW
end Go.Proofs.YtpimkdaikoclnaaDoor
namespace Go.Proofs.YtpimkdaikoclnaaDoor
open Go.RowKit
set_option linter.unusedVariables false
set_option linter.unusedSimpArgs false
set_option maxRecDepth 100000
namespace FloodW
open BlkP RowG GlowW FloodP
theorem fieldsV : (Tryd.prog.fieldsOf 23).toList.map (fun f => (f.name != "_", f.type, f.offset)) = [(true, 3, 0), (true, 3, 1), (true, 3, 2)] := by kernel_rfl
theorem underV:Tryd.prog.underlying 23 = some (.struct (Tryd.prog.fieldsOf 23)):=by kernel_rfl
theorem stoodV:Tryd.prog.stoodInHeld 23 = false:=by kernel_rfl
theorem underI:Tryd.prog.underlying 3 = some (.int .i64):=by kernel_rfl
theorem run_partI (w:World) (x y z:Value):(part 3 #[x,y,z] 0).run Tryd.prog w = .ok x w∧(part 3 #[x,y,z] 1).run Tryd.prog w = .ok y w∧(part 3 #[x,y,z] 2).run Tryd.prog w = .ok z w:=by
 have hagg:(isAgg 3).run Tryd.prog w = .ok false w:=by
  unfold isAgg
  rw [Sem.run_bind,run_underlying underI w]
  simp
 refine ⟨?_,?_,?_⟩ <;> simp [part,Sem.run_bind,hagg]
theorem run_eqI (w:World) (d:Nat) (x y:Int):(Op.equalIn (d + 1) 3 (.int .i64 x) (.int .i64 y)).run Tryd.prog w = .ok (decide (x = y)) w:=by
 have h:=run_equalIn_int (P:=Tryd.prog) w d 3 .i64 .i64 x y underI
 rw [h]
 congr 1
theorem run_eqV (w:World) (d:Nat) (a b:V):(Op.equalIn (d + 2) 23 (.agg #[.int .i64 a.1,.int .i64 a.2.1,.int .i64 a.2.2]) (.agg #[.int .i64 b.1,.int .i64 b.2.1,.int .i64 b.2.2])).run Tryd.prog w = .ok (decide (a = b)) w:=by
 have h:=run_equalIn_agg (P:=Tryd.prog) w (d + 1) 23 #[.int .i64 a.1,.int .i64 a.2.1,.int .i64 a.2.2] #[.int .i64 b.1,.int .i64 b.2.1,.int .i64 b.2.2] underV stoodV
 rw [h]
 have hf:=fieldsV
 generalize (Tryd.prog.fieldsOf 23).toList = fs at hf ⊢
 have hl:fs.length = 3:=by simpa using congrArg List.length hf
 rcases fs with _ | ⟨f0,_ | ⟨f1,_ | ⟨f2,_ | ⟨f3,ft⟩⟩⟩⟩
 ·simp at hl
 ·simp at hl
 ·simp at hl
 ·simp only [List.map_cons,List.map_nil,List.cons.injEq,Prod.mk.injEq,and_true] at hf
  obtain ⟨⟨n0,t0,o0⟩,⟨n1,t1,o1⟩,n2,t2,o2⟩:=hf
  have m0 : f0.name ≠ "_" := by simpa using n0
  have m1 : f1.name ≠ "_" := by simpa using n1
  have m2 : f2.name ≠ "_" := by simpa using n2
  have e:decide (a = b) = (decide (a.1 = b.1) && (decide (a.2.1 = b.2.1) && decide (a.2.2 = b.2.2))):=by
   rw [Bool.eq_iff_iff]
   simp [Prod.ext_iff]
  rw [e]
  unfold Op.eqFields
  simp only [m0,t0,o0,ne_eq,not_false_eq_true,if_true,Sem.run_bind,(run_partI w _ _ _).1,Result.andThen_ok,run_eqI]
  cases decide (a.1 = b.1)
  ·simp
  ·unfold Op.eqFields
   simp only [m1,t1,o1,ne_eq,not_false_eq_true,if_true,Sem.run_bind,(run_partI w _ _ _).2.1,Result.andThen_ok,run_eqI,Bool.not_true,Bool.false_eq_true,if_false]
   cases decide (a.2.1 = b.2.1)
   ·simp
   ·unfold Op.eqFields
    simp only [m2,t2,o2,ne_eq,not_false_eq_true,if_true,Sem.run_bind,(run_partI w _ _ _).2.2,Result.andThen_ok,run_eqI,Bool.not_true,Bool.false_eq_true,if_false]
    cases decide (a.2.2 = b.2.2)
    ·simp
    ·simp [Op.eqFields]
 ·simp at hl
def findK:List (V × Nat)→V→Option Nat
 | [],_=>none
 | c :: r,q=>if c.1 = q then some c.2 else findK r q
def ptrK (o:Option Nat):Value:=match o with | none=>.pointer none | some b=>.pointer (some ⟨b,0,none⟩)
theorem findK_mem:∀ {l:List (V × Nat)} {q:V} {b:Nat},findK l q = some b→(q,b) ∈ l
 | c :: r,q,b,h=>by
  unfold findK at h
  split at h
  ·rename_i e
   injection h with h
   rw [← e,← h]
   simp
  ·exact List.mem_cons_of_mem _ (findK_mem h)
theorem findK_none:∀ {l:List (V × Nat)} {q:V},findK l q = none→q ∉ l.map (·.1)
 | [],q,_=>by simp
 | c :: r,q,h=>by
  unfold findK at h
  split at h
  ·cases h
  ·rename_i e
   have:=findK_none h
   rw [List.map_cons,List.mem_cons]
   rintro (e2 | h2)
   ·exact e e2.symm
   ·exact this h2
theorem findK_of:∀ {l:List (V × Nat)} {q:V} {b:Nat},(l.map (·.1)).Nodup→(q,b) ∈ l→findK l q = some b
 | c :: r,q,b,hn,h=>by
  rw [List.map_cons] at hn
  have hn':=List.nodup_cons.1 hn
  unfold findK
  rcases List.mem_cons.1 h with e | h
  ·rw [← e]
   simp
  ·rw [if_neg (fun e=>hn'.1 (by rw [e]; exact List.mem_map.2 ⟨_,h,rfl⟩))]
   exact findK_of hn'.2 h
theorem ents_app:∀ (l:List (V × Nat)) (s:Nat) (c:V × Nat),ents s (l ++ [c]) = ents s l ++ [{ key:=.agg #[.int .i64 c.1.1,.int .i64 c.1.2.1,.int .i64 c.1.2.2],val:=.pointer (some ⟨c.2,0,none⟩),born:=s + l.length }]
 | [],s,c=>rfl
 | x :: r,s,c=>by
  rw [List.cons_append,ents,ents_app r (s + 1) c,ents,List.cons_append,List.length_cons]
  rw [show s + 1 + r.length = s + (r.length + 1) by omega]
theorem run_findAskingV (w:World) (q:V):∀ (l:List (V × Nat)) (s i:Nat),∃ n,(Instr.findAsking 23 (.agg #[.int .i64 q.1,.int .i64 q.2.1,.int .i64 q.2.2]) (ents s l) i).run Tryd.prog w = .ok ((findK l q).map fun b=>(n,.pointer (some ⟨b,0,none⟩))) w
 | [],s,i=>⟨0,by simp [ents,Instr.findAsking,findK]⟩
 | x :: r,s,i=>by
  have he:(Op.equal 23 (.agg #[.int .i64 q.1,.int .i64 q.2.1,.int .i64 q.2.2]) (.agg #[.int .i64 x.1.1,.int .i64 x.1.2.1,.int .i64 x.1.2.2])).run Tryd.prog w = .ok (decide (q = x.1)) w:=run_eqV w 9998 q x.1
  rw [ents,Instr.findAsking]
  simp only [Sem.run_bind,he,Result.andThen_ok]
  by_cases h:q = x.1
  ·subst h
   exact ⟨i,by simp [findK]⟩
  ·obtain ⟨n,hn⟩:=run_findAskingV w q r (s + 1) (i + 1)
   refine ⟨n,?_⟩
   simp only [decide_eq_false h,Bool.false_eq_true,if_false]
   rw [hn,findK,if_neg (fun e=>h e.symm)]
theorem run_findKeyV (w:World) (q:V) (l:List (V × Nat)):∃ n,(Instr.findKey 23 (.agg #[.int .i64 q.1,.int .i64 q.2.1,.int .i64 q.2.2]) (ents 0 l)).run Tryd.prog w = .ok ((findK l q).map fun b=>(n,.pointer (some ⟨b,0,none⟩))) w:=by
 unfold Instr.findKey
 rw [Sem.run_bind,run_underlying underV]
 simp only [Result.andThen_ok]
 rcases l with _ | ⟨x,r⟩
 ·exact ⟨0,by simp [ents,Instr.findNow,findK]⟩
 ·obtain ⟨n,h⟩:=run_findAskingV w q (x :: r) 0 0
  refine ⟨n,?_⟩
  simp only [ents,Instr.findNow,Instr.sameNow]
  simpa [ents] using h
theorem run_checkKeyV (w:World) (em:Bool) (q:V):(Instr.checkKey em 10000 23 (.agg #[.int .i64 q.1,.int .i64 q.2.1,.int .i64 q.2.2])).run Tryd.prog w = .ok () w:=by kernel_rfl
abbrev TM:TypeId:=67
theorem underM:Tryd.prog.underlying TM = some (.map 23 75):=Tryd.underlying67
theorem infoPK:(Tryd.prog.info? 75).map (fun i=>(i.zero,i.size,i.bytes)) = some (some (.pointer none),1,8):=by kernel_rfl
theorem run_lookupK {w:World} {M:Nat} {l:List (V × Nat)} (q:V) (h:MapK w M l):(Instr.lookup TM (.map (some M)) (.agg #[.int .i64 q.1,.int .i64 q.2.1,.int .i64 q.2.2]) false).run Tryd.prog w = .ok (ptrK (findK l q)) w:=by
 obtain ⟨i,hi,hz,hs,hb⟩:=info_parts infoPK
 have hg:=MapKept.run_getObj_map (P:=Tryd.prog) h
 have hc:=fun em=>run_checkKeyV w em q
 obtain ⟨n,hf⟩:=run_findKeyV w q l
 cases hm:findK l q with
 | some b =>
  rw [hm] at hf
  simp [Instr.lookup,run_underlying underM,hg,hc,hf,Result.andThen,ptrK]
 | none =>
  rw [hm] at hf
  simp [Instr.lookup,run_underlying underM,hg,hc,hf,Result.andThen,zeroValue,typeInfo,hi,hz,ptrK]
theorem run_updateK {w:World} {M:Nat} {l:List (V × Nat)} {q:V} {b:Nat} (h:MapK w M l) (hq:findK l q = none):∃ w',(Instr.mapUpdate TM (.map (some M)) (.agg #[.int .i64 q.1,.int .i64 q.2.1,.int .i64 q.2.2]) (.pointer (some ⟨b,0,none⟩))).run Tryd.prog w = .ok () w'∧MapK w' M (l ++ [(q,b)])∧w.grownBy w' (some M):=by
 have hg:=MapKept.run_getObj_map (P:=Tryd.prog) h
 have hk:=fun em=>run_checkKeyV w em q
 obtain ⟨n,hf⟩:=run_findKeyV w q l
 rw [hq] at hf
 have hset:=MapKept.run_setObj_map (P:=Tryd.prog) (.map ((ents 0 l).toArray.push { key:=.agg #[.int .i64 q.1,.int .i64 q.2.1,.int .i64 q.2.2],val:=.pointer (some ⟨b,0,none⟩),born:=l.length }) (l.length + 1)) h
 refine ⟨{ w with heap:=w.heap.setIfInBounds M (.map ((ents 0 l).toArray.push { key:=.agg #[.int .i64 q.1,.int .i64 q.2.1,.int .i64 q.2.2],val:=.pointer (some ⟨b,0,none⟩),born:=l.length }) (l.length + 1)) },?_,?_,?_⟩
 ·simp [Instr.mapUpdate,run_underlying underM,hg,hk,hf,Result.andThen]
  simpa using hset
 ·have hlt:=(Array.getElem?_eq_some_iff.1 h).1
  unfold MapK
  rw [ents_app,List.length_append]
  simp [hlt]
 ·exact ⟨rfl,rfl,rfl,by simp,fun k hk hne=>by
   have:M ≠ k:=fun e=>hne (by rw [e])
   simp [Array.getElem?_setIfInBounds_ne this]⟩
end FloodW
end Go.Proofs.YtpimkdaikoclnaaDoor
namespace Go.Proofs.YtpimkdaikoclnaaDoor
open Go.RowKit
set_option linter.unusedVariables false
set_option linter.unusedSimpArgs false
namespace FloodW
open BlkP RowG GlowW FloodP
def idxV (f:Fld) (q:V):Value:=.tuple #[.int .i64 ((if inB f q = true then numB f q else 0:Nat):Int),.bool (inB f q)]
theorem numB_int {f:Fld} {q:V} (hW:FldW f) (h:inB f q = true):((q.2.1 - f.lo.2.1) * f.Z + (q.2.2 - f.lo.2.2)) * f.X + (q.1 - f.lo.1) = (numB f q:Int)∧numB f q < 1024∧(q.2.1 - f.lo.2.1) * f.Z≤128∧0≤(q.2.1 - f.lo.2.1) * f.Z∧((q.2.1 - f.lo.2.1) * f.Z + (q.2.2 - f.lo.2.2)) * f.X≤1088∧0≤((q.2.1 - f.lo.2.1) * f.Z + (q.2.2 - f.lo.2.2)) * f.X:=by
 have hb:=inB_iff.1 h
 have hl:=numB_lt hW h
 obtain ⟨y,hy⟩:∃ y:Nat,q.2.1 - f.lo.2.1 = y:=⟨(q.2.1 - f.lo.2.1).toNat,by omega⟩
 obtain ⟨z,hz⟩:∃ z:Nat,q.2.2 - f.lo.2.2 = z:=⟨(q.2.2 - f.lo.2.2).toNat,by omega⟩
 obtain ⟨x,hx⟩:∃ x:Nat,q.1 - f.lo.1 = x:=⟨(q.1 - f.lo.1).toNat,by omega⟩
 have e:numB f q = (y * f.Z + z) * f.X + x:=by
  unfold numB
  rw [hy,hz,hx]
  simp
 have h1:=hW.x
 have h2:=hW.y
 have h3:=hW.z
 have m1:f.X * f.Y≤8 * 16:=Nat.mul_le_mul h1.2 h2.2
 have m2:f.X * f.Y * f.Z≤8 * 16 * 8:=Nat.mul_le_mul m1 h3.2
 have m3:y * f.Z≤16 * 8:=Nat.mul_le_mul (by omega) h3.2
 have m4:(y * f.Z + z) * f.X≤136 * 8:=Nat.mul_le_mul (by omega) h1.2
 rw [hy,hz,hx,e]
 refine ⟨by simp,by omega,?_,?_,?_,?_⟩
 ·have:((y * f.Z:Nat):Int)≤128:=by omega
  simpa using this
 ·have:(0:Int)≤((y * f.Z:Nat):Int):=by omega
  simpa using this
 ·have:(((y * f.Z + z) * f.X:Nat):Int)≤1088:=by omega
  simpa using this
 ·have:(0:Int)≤(((y * f.Z + z) * f.X:Nat):Int):=by omega
  simpa using this
set_option maxRecDepth 100000 in
set_option maxHeartbeats 4000000 in
theorem fidx_c {w:World} {f:Fld} {q:V} (h:FldM w f) (hW:FldW f) (hq:mayP q) :
  Calls Tryd.prog 16 #[.pointer (some ⟨f.F,0,none⟩),.agg #[.int .i64 q.1,.int .i64 q.2.1,.int .i64 q.2.2]] w fun e w'=>e = .returned (idxV f q)∧Below w.heap.size w w':=by
 have hx:=hW.x
 have hy:=hW.y
 have hz:=hW.z
 have hlx:=hW.lx
 have hly:=hW.ly
 have hlz:=hW.lz
 obtain ⟨q1,q2,q3⟩:=hq
 have HB:=Lib.hid (show inB f q = (decide (f.lo.1≤q.1) && decide (f.lo.2.1≤q.2.1) && decide (f.lo.2.2≤q.2.2) && decide (q.1 - f.lo.1 < f.X) && decide (q.2.1 - f.lo.2.1 < f.Y) && decide (q.2.2 - f.lo.2.2 < f.Z)) by
  rw [Bool.eq_iff_iff,inB_iff]
  simp only [Bool.and_eq_true,decide_eq_true_eq]
  omega)
 have HN:=Lib.hid (fun hb=>numB_int (q:=q) hW hb)
 obtain ⟨qx,qy,qz⟩:=q
 obtain ⟨F,⟨lx,ly,lz⟩,X,Y,Z,vC,vL,vA,vT,cs,ls,ak,ts,other⟩:=f
 simp only at *
 have hlt:=h.blk.lt
 have hF:F ≠ w.heap.size:=by simp only at hlt; omega
 have a0:=h.blk.cell (i:=0) (v:=.int .i64 lx) rfl
 have a1:=h.blk.cell (i:=1) (v:=.int .i64 ly) rfl
 have a2:=h.blk.cell (i:=2) (v:=.int .i64 lz) rfl
 have a3:=h.blk.cell (i:=3) (v:=.int .i64 X) rfl
 have a4:=h.blk.cell (i:=4) (v:=.int .i64 Y) rfl
 have a5:=h.blk.cell (i:=5) (v:=.int .i64 Z) rfl
 simp only at a0 a1 a2 a3 a4 a5 hlt
 clear h hW
 by_cases g0:¬ (lx≤qx)
 ·have HV:=Lib.hid (show inB _ _ = false from HB.out.trans (by
   rw [Bool.eq_false_iff]
   simp only [ne_eq,Bool.and_eq_true,decide_eq_true_eq]
   omega))
  clear HB HN
  go_enter Tryd.func16,Tryd.ntmps16
  go_wp2_with fail
  go_quiet (fail)
  go_wp2_with fail
  refine bodyPost_ret (v:=.tuple #[.int .i64 0,.bool false]) (by simp [results,Tryd.results16,go_sem]) rfl ?_
  refine ⟨by rw [idxV,HV.out]; rfl,by (repeat' (first | (with_reducible exact Below.refl _ _) | (with_reducible refine Below.setCell ?_ (by (first | omega | (simp; done) | (simp; omega))) _) | (with_reducible refine Below.alloc ?_ (by (first | omega | (simp; done) | (simp; omega))) _) | (with_reducible refine Below.drew ?_) | (with_reducible refine below_drewN ?_ _)))⟩
 ·have n0:lx≤qx:=Classical.not_not.1 g0
  clear g0
  by_cases g1:¬ (ly≤qy)
  ·have HV:=Lib.hid (show inB _ _ = false from HB.out.trans (by
    rw [Bool.eq_false_iff]
    simp only [ne_eq,Bool.and_eq_true,decide_eq_true_eq]
    omega))
   clear HB HN
   go_enter Tryd.func16,Tryd.ntmps16
   go_wp2_with fail
   go_quiet (fail)
   go_wp2_with fail
   refine bodyPost_ret (v:=.tuple #[.int .i64 0,.bool false]) (by simp [results,Tryd.results16,go_sem]) rfl ?_
   refine ⟨by rw [idxV,HV.out]; rfl,by (repeat' (first | (with_reducible exact Below.refl _ _) | (with_reducible refine Below.setCell ?_ (by (first | omega | (simp; done) | (simp; omega))) _) | (with_reducible refine Below.alloc ?_ (by (first | omega | (simp; done) | (simp; omega))) _) | (with_reducible refine Below.drew ?_) | (with_reducible refine below_drewN ?_ _)))⟩
  ·have n1:ly≤qy:=Classical.not_not.1 g1
   clear g1
   by_cases g2:¬ (lz≤qz)
   ·have HV:=Lib.hid (show inB _ _ = false from HB.out.trans (by
     rw [Bool.eq_false_iff]
     simp only [ne_eq,Bool.and_eq_true,decide_eq_true_eq]
     omega))
    clear HB HN
    go_enter Tryd.func16,Tryd.ntmps16
    go_wp2_with fail
    go_quiet (fail)
    go_wp2_with fail
    refine bodyPost_ret (v:=.tuple #[.int .i64 0,.bool false]) (by simp [results,Tryd.results16,go_sem]) rfl ?_
    refine ⟨by rw [idxV,HV.out]; rfl,by (repeat' (first | (with_reducible exact Below.refl _ _) | (with_reducible refine Below.setCell ?_ (by (first | omega | (simp; done) | (simp; omega))) _) | (with_reducible refine Below.alloc ?_ (by (first | omega | (simp; done) | (simp; omega))) _) | (with_reducible refine Below.drew ?_) | (with_reducible refine below_drewN ?_ _)))⟩
   ·have n2:lz≤qz:=Classical.not_not.1 g2
    clear g2
    by_cases g3:¬ (qx - lx < (X:Int))
    ·have HV:=Lib.hid (show inB _ _ = false from HB.out.trans (by
      rw [Bool.eq_false_iff]
      simp only [ne_eq,Bool.and_eq_true,decide_eq_true_eq]
      omega))
     clear HB HN
     go_enter Tryd.func16,Tryd.ntmps16
     go_wp2_with fail
     go_quiet (fail)
     go_wp2_with fail
     refine bodyPost_ret (v:=.tuple #[.int .i64 0,.bool false]) (by simp [results,Tryd.results16,go_sem]) rfl ?_
     refine ⟨by rw [idxV,HV.out]; rfl,by (repeat' (first | (with_reducible exact Below.refl _ _) | (with_reducible refine Below.setCell ?_ (by (first | omega | (simp; done) | (simp; omega))) _) | (with_reducible refine Below.alloc ?_ (by (first | omega | (simp; done) | (simp; omega))) _) | (with_reducible refine Below.drew ?_) | (with_reducible refine below_drewN ?_ _)))⟩
    ·have n3:qx - lx < (X:Int):=Classical.not_not.1 g3
     clear g3
     by_cases g4:¬ (qy - ly < (Y:Int))
     ·have HV:=Lib.hid (show inB _ _ = false from HB.out.trans (by
       rw [Bool.eq_false_iff]
       simp only [ne_eq,Bool.and_eq_true,decide_eq_true_eq]
       omega))
      clear HB HN
      go_enter Tryd.func16,Tryd.ntmps16
      go_wp2_with fail
      go_quiet (fail)
      go_wp2_with fail
      refine bodyPost_ret (v:=.tuple #[.int .i64 0,.bool false]) (by simp [results,Tryd.results16,go_sem]) rfl ?_
      refine ⟨by rw [idxV,HV.out]; rfl,by (repeat' (first | (with_reducible exact Below.refl _ _) | (with_reducible refine Below.setCell ?_ (by (first | omega | (simp; done) | (simp; omega))) _) | (with_reducible refine Below.alloc ?_ (by (first | omega | (simp; done) | (simp; omega))) _) | (with_reducible refine Below.drew ?_) | (with_reducible refine below_drewN ?_ _)))⟩
     ·have n4:qy - ly < (Y:Int):=Classical.not_not.1 g4
      clear g4
      by_cases g5:¬ (qz - lz < (Z:Int))
      ·have HV:=Lib.hid (show inB _ _ = false from HB.out.trans (by
        rw [Bool.eq_false_iff]
        simp only [ne_eq,Bool.and_eq_true,decide_eq_true_eq]
        omega))
       clear HB HN
       go_enter Tryd.func16,Tryd.ntmps16
       go_wp2_with fail
       go_quiet (fail)
       go_wp2_with fail
       refine bodyPost_ret (v:=.tuple #[.int .i64 0,.bool false]) (by simp [results,Tryd.results16,go_sem]) rfl ?_
       refine ⟨by rw [idxV,HV.out]; rfl,by (repeat' (first | (with_reducible exact Below.refl _ _) | (with_reducible refine Below.setCell ?_ (by (first | omega | (simp; done) | (simp; omega))) _) | (with_reducible refine Below.alloc ?_ (by (first | omega | (simp; done) | (simp; omega))) _) | (with_reducible refine Below.drew ?_) | (with_reducible refine below_drewN ?_ _)))⟩
      ·have n5:qz - lz < (Z:Int):=Classical.not_not.1 g5
       clear g5
       have HV:=Lib.hid (show inB _ _ = true from HB.out.trans (by
         simp only [Bool.and_eq_true,decide_eq_true_eq]
         omega))
       obtain ⟨m1,m2,m3,m4,m5,m6⟩:=HN.out HV.out
       try simp only at m1 m3 m4 m5 m6
       obtain ⟨nb,hnb⟩:∃ nb,numB ⟨F,(lx,ly,lz),X,Y,Z,vC,vL,vA,vT,cs,ls,ak,ts,other⟩ (qx,qy,qz) = nb:=⟨_,rfl⟩
       rw [hnb] at m1 m2
       have HNB:=Lib.hid hnb
       clear hnb HB HN
       obtain ⟨p1,hp1⟩:∃ p1,(qy - ly) * (Z:Int) = p1:=⟨_,rfl⟩
       rw [hp1] at m1 m3 m4 m5 m6
       obtain ⟨p2,hp2⟩:∃ p2,(p1 + (qz - lz)) * (X:Int) = p2:=⟨_,rfl⟩
       rw [hp2] at m1 m5 m6
       have w1:wrap64 p1 = p1:=by unfold wrap64; omega
       have w2:wrap64 (p1 + (qz - lz)) = p1 + (qz - lz):=by unfold wrap64; omega
       have w3:wrap64 p2 = p2:=by unfold wrap64; omega
       have w4:wrap64 (p2 + (qx - lx)) = (nb:Int):=by unfold wrap64; omega
       go_enter Tryd.func16,Tryd.ntmps16
       go_wp2_with fail
       go_quiet (fail)
       go_wp2_with fail
       go_quiet (fail)
       try simp only [hp1,w1,w2,hp2,w3,w4,m1]
       go_wp2_with fail
       refine bodyPost_ret (v:=.tuple #[.int .i64 nb,.bool true]) (by simp [results,Tryd.results16,go_sem]) rfl ?_
       refine ⟨by rw [idxV,HV.out,HNB.out]; rfl,by (repeat' (first | (with_reducible exact Below.refl _ _) | (with_reducible refine Below.setCell ?_ (by (first | omega | (simp; done) | (simp; omega))) _) | (with_reducible refine Below.alloc ?_ (by (first | omega | (simp; done) | (simp; omega))) _) | (with_reducible refine Below.drew ?_) | (with_reducible refine below_drewN ?_ _)))⟩
end FloodW
end Go.Proofs.YtpimkdaikoclnaaDoor
namespace Go.Proofs.YtpimkdaikoclnaaDoor
open Go.RowKit
set_option linter.unusedVariables false
set_option linter.unusedSimpArgs false
namespace FloodW
open BlkP RowG GlowW FloodP
theorem run_pushG {α:Type} (e:Enc α) {T E:TypeId} {z:Value} {bytes:Nat} (hT:Tryd.prog.underlying T = some (.slice E)) (hI:(Tryd.prog.info? E).map (fun i=>(i.zero,i.size,i.bytes)) = some (some z,e.k,bytes)) (hz:z.cells.size = e.k) (hk:0 < e.k) (hby:bytes≤100)
  {w0:World} {B:Nat} {v:Value} {l:List α} {y:α} {c:Array Value} (hc:c.toList = e.f y) (hown:RowG.Own e E w0 B v l) (hl:l.length≤1000000) (hB:B≤w0.heap.size) (ty:TypeId) :
  ∃ g cp w',(Builtin.append_ #[T,T] ty #[v,.slice (some ⟨w0.heap.size,0,none⟩) 1 1]).run Tryd.prog (w0.alloc (.cells c E)) = .ok (.slice (some ⟨g,0,none⟩) (l.length + 1) cp) w' ∧
   RowG.Own e E w' B (.slice (some ⟨g,0,none⟩) (l.length + 1) cp) (l ++ [y])∧w0.grownBy w' v.ownBlock∧((Value.slice (some ⟨g,0,none⟩) (l.length + 1) cp).ownBlock = v.ownBlock ∨ ∃ g',(Value.slice (some ⟨g,0,none⟩) (l.length + 1) cp).ownBlock = some g'∧w0.heap.size≤g'):=by
 obtain ⟨i,hi,hz0,hs1,hb0⟩:=info_parts hI
 have hm:maxLen = 9223372036854775807:=rfl
 have hown2:(w0.alloc (.cells c E)).ownsRow B E e.k v l.length (flat e l):=hown.alloc _
 obtain ⟨v',w',hr,h2,h3,_,h5⟩:=run_append_own_at (P:=Tryd.prog) (w0.alloc (.cells c E)) B T ty E i z e.k bytes hT hi hz0 hs1 hb0 hz hk v l.length (flat e l) hown2 ⟨w0.heap.size,0,none⟩ 1 1 (e.f y) (by rw [e.len,Nat.one_mul]) (fun j u hu=>by
  have hadd:(⟨w0.heap.size,0,none⟩:Addr).add j = ⟨w0.heap.size,j,none⟩:=by unfold Addr.add; split <;> simp_all
  rw [hadd,cell_of_row _ _ _ _ _ _ (heap_alloc_new w0 _),← Array.getElem?_toList,hc]
  exact hu) (e.one y) (by omega) (by
   have:(l.length + 1) * bytes≤1000001 * 100:=Nat.mul_le_mul (by omega) hby
   omega) (by simp; omega)
 have ho:RowG.Own e E w' B v' (l ++ [y]):=by
  unfold RowG.Own
  rw [flat_app,List.length_append]
  have:flat e [y] = e.f y:=by simp [flat]
  rw [this]
  exact h2
 obtain ⟨A,cp,rfl,hc1,hc2,hA⟩:=ho.form (n:=l.length + 1) (by simp)
 obtain ⟨g,rfl,hg1,hg2⟩:=hA (by omega)
 refine ⟨g,cp,w',hr,ho,World.grownBy.trans (World.grownBy_alloc w0 _ _) h3,?_⟩
 rcases h5 with q | q
 ·exact .inl q
 ·exact .inr ⟨_,q,by simp⟩
abbrev TSP:TypeId:=46
abbrev TSC:TypeId:=24
theorem infoP:(Tryd.prog.info? TP).map (fun i=>(i.zero,i.size,i.bytes)) = some (some (.agg #[.int .i64 0,.int .i64 0,.int .i64 0]),3,24):=by kernel_rfl
theorem underSP:Tryd.prog.underlying TSP = some (.slice TP):=by kernel_rfl
theorem infoC2:(Tryd.prog.info? TC).map (fun i=>(i.zero,i.size,i.bytes)) = some (some (.agg #[.int .u8 0,.int .u8 0]),2,2):=by kernel_rfl
theorem underSC:Tryd.prog.underlying TSC = some (.slice TC):=by kernel_rfl
def Pushed {α:Type} (e:Enc α) (E:TypeId) (w0:World) (B:Nat) (v:Value) (l:List α) (y:α) (n:Nat) (g c:Nat) (w':World):Prop :=
 RowG.Own e E w' B (.slice (some ⟨g,0,none⟩) n c) (l ++ [y])∧w0.grownBy w' v.ownBlock∧(v.ownBlock = some g ∨ w0.heap.size≤g)
section
variable {w0:World} {ops:Array Oper} {rest:List Oper} {o:Oper} {a:Act} {Q:Exit→Act→World→Prop} {W:World}
theorem run_pushP {B:Nat} {v:Value} {l:List V} {y:V} {n:Nat} (hn:l.length = n) (hown:RowG.Own encP TP w0 B v l) (hl:n≤1000000) (hB:B≤w0.heap.size) (ty:TypeId) :
  ∃ g cp w',(Builtin.append_ #[TSP,TSP] ty #[v,.slice (some ⟨w0.heap.size,0,none⟩) 1 1]).run Tryd.prog (w0.alloc (.cells #[.int .i64 y.1,.int .i64 y.2.1,.int .i64 y.2.2] TP)) = .ok (.slice (some ⟨g,0,none⟩) (n + 1) cp) w'∧Pushed encP TP w0 B v l y (n + 1) g cp w':=by
 subst hn
 obtain ⟨g,cp,w',hr,h2,h3,h4⟩:=run_pushG encP underSP infoP rfl (by decide) (by decide) (y:=y) (c:=#[.int .i64 y.1,.int .i64 y.2.1,.int .i64 y.2.2]) rfl hown hl hB ty
 refine ⟨g,cp,w',hr,h2,h3,?_⟩
 rcases h4 with q | ⟨g',q,hg⟩
 ·exact .inl q.symm
 ·have:g = g':=by simpa [Value.ownBlock] using q
  subst this
  exact .inr hg
theorem run_pushC {B:Nat} {v:Value} {l:List (Nat × Nat)} {y:Nat × Nat} {n:Nat} (hn:l.length = n) (hown:RowG.Own enc2 TC w0 B v l) (hl:n≤1000000) (hB:B≤w0.heap.size) (ty:TypeId) :
  ∃ g cp w',(Builtin.append_ #[TSC,TSC] ty #[v,.slice (some ⟨w0.heap.size,0,none⟩) 1 1]).run Tryd.prog (w0.alloc (.cells #[.int .u8 y.1,.int .u8 y.2] TC)) = .ok (.slice (some ⟨g,0,none⟩) (n + 1) cp) w'∧Pushed enc2 TC w0 B v l y (n + 1) g cp w':=by
 subst hn
 obtain ⟨g,cp,w',hr,h2,h3,h4⟩:=run_pushG enc2 underSC infoC2 rfl (by decide) (by decide) (y:=y) (c:=#[.int .u8 y.1,.int .u8 y.2]) rfl hown hl hB ty
 refine ⟨g,cp,w',hr,h2,h3,?_⟩
 rcases h4 with q | ⟨g',q,hg⟩
 ·exact .inl q.symm
 ·have:g = g':=by simpa [Value.ownBlock] using q
  subst this
  exact .inr hg
theorem wp_pushP (hgd:o.guard = none) (s x:Operand) (ho:o.op = .call { callee:=.builtin .append,args:=#[s,x],argTypes:=#[TSP,TSP] }) {B:Nat} {v:Value} {l:List V} {y:V} {x1 x2 x3:Int} {n:Nat}
  (hW:W = w0.alloc (.cells #[.int .i64 x1,.int .i64 x2,.int .i64 x3] TP)) (hy:y = (x1,x2,x3)) (hs:a.eval s = v) (hown:RowG.Own encP TP w0 B v l) (hx:a.eval x = .slice (some ⟨w0.heap.size,0,none⟩) 1 1) (hn:l.length = n) (hl:n≤1000000) (hB:B≤w0.heap.size)
  (h:∀ g c w',Pushed encP TP w0 B v l y (n + 1) g c w'→wpList Tryd.prog ops Q rest (a.put o.dst (.slice (some ⟨g,0,none⟩) (n + 1) c)) w'):wpList Tryd.prog ops Q (o :: rest) a W:=by
 subst hW hy
 refine wpList_plain hgd fun K hK=>?_
 obtain ⟨g,c,w',hr,h2⟩:=run_pushP (y:=(x1,x2,x3)) hn hown hl hB o.type
 unfold Oper.wp execOp
 simp only at hr
 simp only [ho,resolve,invoke,builtin,Sem.run_bind,Sem.run_pure,Result.andThen_ok,List.map_toArray,List.map_cons,List.map_nil,hs,hx,hr]
 exact hK _ _ (h g c w' h2)
theorem step_pushP {K:Act→World→Prop} {E:Prop} (hgd:o.guard = none) (s x:Operand) (ho:o.op = .call { callee:=.builtin .append,args:=#[s,x],argTypes:=#[TSP,TSP] }) {B:Nat} {v:Value} {l:List V} {y:V} {x1 x2 x3:Int} {n:Nat}
  (hW:W = w0.alloc (.cells #[.int .i64 x1,.int .i64 x2,.int .i64 x3] TP)) (hy:y = (x1,x2,x3)) (hs:a.eval s = v) (hown:RowG.Own encP TP w0 B v l) (hx:a.eval x = .slice (some ⟨w0.heap.size,0,none⟩) 1 1) (hn:l.length = n) (hl:n≤1000000) (hB:B≤w0.heap.size)
  (h:∀ g c w',Pushed encP TP w0 B v l y (n + 1) g c w'→K (a.put o.dst (.slice (some ⟨g,0,none⟩) (n + 1) c)) w') :
  if Region.wanted o (yielded ops a.tmps) = true then Oper.wp Tryd.prog o a W K Q else E:=by
 subst hW hy
 have hw:Region.wanted o (yielded ops a.tmps) = true:=by simp [Region.wanted,hgd]
 rw [if_pos hw]
 obtain ⟨g,c,w',hr,h2⟩:=run_pushP (y:=(x1,x2,x3)) hn hown hl hB o.type
 unfold Oper.wp execOp
 simp only at hr
 simp only [ho,resolve,invoke,builtin,Sem.run_bind,Sem.run_pure,Result.andThen_ok,List.map_toArray,List.map_cons,List.map_nil,hs,hx,hr]
 exact h g c w' h2
theorem step_pushC {K:Act→World→Prop} {E:Prop} (hgd:o.guard = none) (s x:Operand) (ho:o.op = .call { callee:=.builtin .append,args:=#[s,x],argTypes:=#[TSC,TSC] }) {B:Nat} {v:Value} {l:List (Nat × Nat)} {y:Nat × Nat} {x1 x2:Nat} {n:Nat}
  (hW:W = w0.alloc (.cells #[.int .u8 x1,.int .u8 x2] TC)) (hy:y = (x1,x2)) (hs:a.eval s = v) (hown:RowG.Own enc2 TC w0 B v l) (hx:a.eval x = .slice (some ⟨w0.heap.size,0,none⟩) 1 1) (hn:l.length = n) (hl:n≤1000000) (hB:B≤w0.heap.size)
  (h:∀ g c w',Pushed enc2 TC w0 B v l y (n + 1) g c w'→K (a.put o.dst (.slice (some ⟨g,0,none⟩) (n + 1) c)) w') :
  if Region.wanted o (yielded ops a.tmps) = true then Oper.wp Tryd.prog o a W K Q else E:=by
 subst hW hy
 have hw:Region.wanted o (yielded ops a.tmps) = true:=by simp [Region.wanted,hgd]
 rw [if_pos hw]
 obtain ⟨g,c,w',hr,h2⟩:=run_pushC (y:=(x1,x2)) hn hown hl hB o.type
 unfold Oper.wp execOp
 simp only at hr
 simp only [ho,resolve,invoke,builtin,Sem.run_bind,Sem.run_pure,Result.andThen_ok,List.map_toArray,List.map_cons,List.map_nil,hs,hx,hr]
 exact h g c w' h2
end
end FloodW
end Go.Proofs.YtpimkdaikoclnaaDoor
