import Derived.Test.YtpimkdaikoclnaaDoorFlB1
import Derived.Deep.LoopGhost
import Derived.Deep.RegionHeld3
import Derived.Deep.Cut
import Derived.Deep.CutRange
import Derived.BigQuiet
import Derived.OrdersIn
namespace Go.Proofs.YtpimkdaikoclnaaDoor
open Go.RowKit Go.Shelf
set_option linter.unusedVariables false
set_option linter.unusedSimpArgs false
namespace GlowW
open BlkP RowG
def mark (D:Nat):Deferred:={ target:=.collected D,args:=#[] }
structure Marks (B:Nat) (Ds:List Nat) (W:World):Prop where
 nodup:Ds.Nodup
 at_:∀ D ∈ Ds,B≤D∧D < W.heap.size∧W.heap[D]? = some (.deferred (some []))
theorem Marks.nil (B:Nat) (W:World):Marks B [] W:=⟨List.nodup_nil,fun D h=>by cases h⟩
theorem Marks.cons {B D:Nat} {Ds:List Nat} {W:World} (h:Marks B Ds W) (hD:∀ E ∈ Ds,E < D) (hB:B≤D) (hk:W.heap[D]? = some (.deferred (some []))):Marks B (D :: Ds) W :=
 ⟨List.nodup_cons.2 ⟨fun hm=>by have:=hD D hm; omega,h.nodup⟩,fun E hE=>by
  rcases List.mem_cons.1 hE with rfl | hE
  ·exact ⟨hB,(Array.getElem?_eq_some_iff.1 hk).1,hk⟩
  ·exact h.at_ E hE⟩
theorem leaves_marks {F:Fence} {n:Nat} {P:Program} {fn:Func} {tmps:Array Value} {R:Ending→World→Prop} {B:Nat}:∀ (Ds:List Nat) (W:World),Marks B Ds W →
  (∀ W',(∀ k,k < B→W'.heap[k]? = W.heap[k]?)→(∀ (k:Nat) (o:Obj),W.heap[k]? = some o→o.isCells = true→W'.heap[k]? = some o)→W'.os = W.os→W'.tape = W.tape→W'.output = W.output→W'.heap.size = W.heap.size→LeavesInM F n P fn tmps R [] .returning W') →
  LeavesInM F n P fn tmps R (Ds.map mark) .returning W
 | [],W,_,h=>h W (fun _ _=>rfl) (fun _ _ h _=>h) rfl rfl rfl rfl
 | D :: Ds,W,hm,h=>by
  obtain ⟨hB,hlt,hk⟩:=hm.at_ D (by simp)
  have hnd:=List.nodup_cons.1 hm.nodup
  refine ⟨by simp,.inl ⟨D,_,rfl,run_takeDeferred hk,?_⟩⟩
  refine leaves_marks (B:=B) Ds _ ⟨hnd.2,fun E hE=>⟨(hm.at_ E (by simp [hE])).1,by rw [World.putObj_size]; exact (hm.at_ E (by simp [hE])).2.1,(World.putObj_heap_other (fun e=>hnd.1 (by rw [← e]; exact hE))).trans (hm.at_ E (by simp [hE])).2.2⟩⟩ (fun W' h1 h2 h3 h4 h5 h6=>?_)
  refine h W' (fun k hk'=>(h1 k hk').trans (World.putObj_heap_other (by omega))) (fun k o ho hc=>h2 k o ?_ hc) h3 h4 h5 (by rw [h6,World.putObj_size])
  refine (World.putObj_heap_other (fun e=>?_)).trans ho
  subst e
  rw [hk] at ho
  injection ho with ho
  subst ho
  cases hc
section
variable {gl go b0 n:Nat} {O:List Bool} {W W':World} {L:List Nat} {vs:List Value} {kn:Nat→List Nat}
end
theorem infoInt:(Tryd.prog.info? 3).map (fun i=>(i.zero,i.size,i.bytes)) = some (some (.int .i64 0),1,8):=by kernel_rfl
theorem underInts:Tryd.prog.underlying 76 = some (.slice 3):=by kernel_rfl
section
variable {w0:World} {ops:Array Oper} {rest:List Oper} {o:Oper} {a:Act} {Q:Exit→Act→World→Prop}
end
end GlowW
end Go.Proofs.YtpimkdaikoclnaaDoor
namespace Go.Proofs.YtpimkdaikoclnaaDoor
open Go.RowKit Go.Shelf
set_option linter.unusedVariables false
set_option linter.unusedSimpArgs false
attribute [local go_sem] Oper.semAt_some
namespace GlowW
open BlkP RowG
end GlowW
end Go.Proofs.YtpimkdaikoclnaaDoor
namespace Go.Proofs.YtpimkdaikoclnaaDoor
open Go.RowKit
set_option linter.unusedVariables false
set_option linter.unusedSimpArgs false
namespace GlowW
open BlkP RowG KindP KindW
def litA (X Y Z:Nat) (O:List Bool) (L:List Nat) (i:Nat):Nat:=GlowP.rounds (GlowP.sideX X Y Z) (GlowP.clO O) (fun i=>L.getD i 0) 15 i
def skyL (X Y Z:Nat) (O:List Bool):List Nat:=(List.range (X * Y * Z)).map (GlowP.skyO (X * Z) (X * Y * Z) (GlowP.clO O))
def lightA (X Y Z:Nat) (cs:List (Nat × Nat)):List (Nat × Nat):=(List.range (X * Y * Z)).map fun i=>(litA X Y Z (cs.map openA) (skyL X Y Z (cs.map openA)) i,litA X Y Z (cs.map openA) (cs.map lampA) i)
theorem lightA_len (X Y Z:Nat) (cs:List (Nat × Nat)):(lightA X Y Z cs).length = X * Y * Z:=by simp [lightA]
theorem getD_out {L:List Nat} {i:Nat} (h:L.length≤i):L.getD i 0 = 0:=by simp [List.getD,h]
theorem skyL_getD {X Y Z:Nat} {O:List Bool} {i:Nat}:(skyL X Y Z O).getD i 0 = if i < X * Y * Z then GlowP.skyO (X * Z) (X * Y * Z) (GlowP.clO O) i else 0:=by
 by_cases h:i < X * Y * Z
 ·rw [if_pos h]
  simp [skyL,List.getD,h]
 ·rw [if_neg h]
  exact getD_out (by simp [skyL]; omega)
theorem sky_src (X Y Z:Nat) (O:List Bool):(∀ i,(skyL X Y Z O).getD i 0≤15)∧∀ i,GlowP.clO O i = false→(skyL X Y Z O).getD i 0 = 0:=by
 refine ⟨fun i=>?_,fun i hi=>?_⟩
 ·rw [skyL_getD]
  have:=GlowP.sky_le (X * Z) (X * Y * Z) (GlowP.clO O) i
  split <;> omega
 ·rw [skyL_getD,GlowP.sky_clear hi]
  split <;> rfl
theorem lamp_le15 (k l:Nat):lamp k l≤15:=by
 unfold lamp
 split
 ·rename_i h
  split
  ·rename_i e
   subst e
   simp [may,KindP.most,KindP.mosts] at h
   omega
  ·split <;> omega
 ·omega
theorem lamp_open {c:Nat × Nat} (h:openA c = false):lampA c = 0:=by
 unfold openA at h
 unfold lampA lamp
 split
 ·rename_i hm
  rw [hm,Bool.true_and] at h
  split
  ·rename_i e
   rw [e] at h
   cases h
  ·split
   ·rename_i e
    rw [e] at h
    cases h
   ·rfl
 ·rfl
theorem lamp_src (cs:List (Nat × Nat)):(∀ i,(cs.map lampA).getD i 0≤15)∧∀ i,GlowP.clO (cs.map openA) i = false→(cs.map lampA).getD i 0 = 0:=by
 refine ⟨fun i=>?_,fun i hi=>?_⟩
 ·by_cases h:i < cs.length
  ·simp only [List.getD,List.getElem?_map,List.getElem?_eq_getElem h,Option.map_some,Option.getD_some]
   exact lamp_le15 _ _
  ·rw [getD_out (by simp; omega)]
   omega
 ·by_cases h:i < cs.length
  ·simp only [GlowP.clO,List.getD,List.getElem?_map,List.getElem?_eq_getElem h,Option.map_some,Option.getD_some] at hi ⊢
   exact lamp_open hi
  ·exact getD_out (by simp; omega)
theorem infoLight:(Tryd.prog.info? 43).map (fun i=>(i.zero,i.size,i.bytes)) = some (some (.agg #[.int .u8 0,.int .u8 0]),2,2):=by kernel_rfl
theorem underLights:Tryd.prog.underlying 37 = some (.slice 43):=by kernel_rfl
end GlowW
end Go.Proofs.YtpimkdaikoclnaaDoor
namespace Go.Proofs.YtpimkdaikoclnaaDoor
open Go.RowKit
set_option linter.unusedVariables false
set_option linter.unusedSimpArgs false
namespace GlowW
open BlkP RowG KindP KindW
end GlowW
end Go.Proofs.YtpimkdaikoclnaaDoor
namespace Go.Proofs.YtpimkdaikoclnaaDoor
set_option linter.unusedVariables false
set_option linter.unusedSimpArgs false
namespace GlowW
open RowG KindP
theorem lit_sol {X Y Z:Nat} {O:List Bool} {L:List Nat} (h15:∀ i,L.getD i 0≤15) (h0:∀ i,GlowP.clO O i = false→L.getD i 0 = 0) :
  GlowP.Sol (GlowP.sideX X Y Z) (GlowP.clO O) (fun i=>L.getD i 0) (litA X Y Z O L)∧∀ i,litA X Y Z O L i≤15 :=
 ⟨GlowP.rounds_sol h15 h0,GlowP.rounds_le h15 15⟩
theorem lightA_get {X Y Z:Nat} {cs:List (Nat × Nat)} {i:Nat} {a:Nat × Nat} (h:(lightA X Y Z cs)[i]? = some a):i < X * Y * Z∧a = (litA X Y Z (cs.map openA) (skyL X Y Z (cs.map openA)) i,litA X Y Z (cs.map openA) (cs.map lampA) i):=by
 have hi:=(List.getElem?_eq_some_iff.1 h).1
 rw [lightA_len] at hi
 rw [lightA,List.getElem?_map,List.getElem?_range hi] at h
 injection h with h
 exact ⟨hi,h.symm⟩
theorem openL {cs:List (Nat × Nat)} {i:Nat}:GlowP.clO (cs.map openA) i = match cs[i]? with | some x=>openA x | none=>false:=by
 unfold GlowP.clO
 simp only [List.getD,List.getElem?_map]
 cases cs[i]? <;> rfl
theorem lampLD {cs:List (Nat × Nat)} {i:Nat}:(cs.map lampA).getD i 0 = match cs[i]? with | some x=>lampA x | none=>0:=by
 simp only [List.getD,List.getElem?_map]
 cases cs[i]? <;> rfl
end GlowW
end Go.Proofs.YtpimkdaikoclnaaDoor
namespace Go.Proofs.YtpimkdaikoclnaaDoor
open Go.RowKit
set_option linter.unusedVariables false
set_option linter.unusedSimpArgs false
namespace GlowW
open BlkP RowG KindP KindW
end GlowW
end Go.Proofs.YtpimkdaikoclnaaDoor
namespace Go.Proofs.YtpimkdaikoclnaaDoor
open Go.RowKit
set_option linter.unusedVariables false
set_option linter.unusedSimpArgs false
namespace GlowW
open BlkP RowG KindP KindW
end GlowW
end Go.Proofs.YtpimkdaikoclnaaDoor
namespace Go.Proofs.YtpimkdaikoclnaaDoor
open Go.RowKit
set_option linter.unusedVariables false
set_option linter.unusedSimpArgs false
namespace GlowW
open BlkP RowG KindP KindW
theorem r_clear_b {k:Nat} {b:Bool} (h:clear k = b) (w:World):Calls Tryd.prog 59 #[.int .u8 k] w fun e w'=>e = .returned (.bool b)∧Below w.heap.size w w':=h ▸ r_clear k w
set_option maxHeartbeats 4000000 in
theorem rclear_c {w:World} {k l:Nat} {r:Bool} (h:openA (k,l) = r):Calls Tryd.prog 46 #[.agg #[.int .u8 k,.int .u8 l]] w fun e w'=>e = .returned (.bool r)∧Below w.heap.size w w':=by
 obtain ⟨mb,hm⟩:∃ mb,may k l = mb:=⟨_,rfl⟩
 obtain ⟨cb,hc⟩:∃ cb,clear k = cb:=⟨_,rfl⟩
 have HM:=Lib.hid hm
 have HC:=Lib.hid hc
 have HR:=Lib.hid (show r = (mb && cb) by rw [← h,← hm,← hc]; rfl)
 clear hm hc h
 cases mb
 ·go_enter Tryd.func46,Tryd.ntmps46
  go_wp2_with fail
  refine (r_may_b HM.out _).mono ?_
  rintro e w1 ⟨rfl,hb1⟩
  have d0:w1.cell? ⟨w.heap.size,0,none⟩ = some (.int .u8 k):=by (repeat' (first | (with_reducible assumption) | (with_reducible refine HeldP.c_below hb1 ?_ ?_) | (with_reducible refine HeldP.f_below hb1 ?_ ?_) | (with_reducible refine HeldP.c_drew ?_) | (with_reducible refine HeldP.c_drewN ?_) | (with_reducible refine HeldP.c_same (by omega) ?_) | (with_reducible refine HeldP.c_other ?_ ?_) | (with_reducible refine HeldP.c_new (by first | omega | (simp; done) | (simp; omega)) ?_) | (with_reducible refine HeldP.c_alloc ?_ ?_) | (with_reducible refine HeldP.e_drew ?_) | (with_reducible refine HeldP.e_drewN ?_) | (with_reducible refine HeldP.e_set ?_) | (with_reducible refine HeldP.e_new (by first | omega | (simp; done) | (simp; omega)) ⟨_,rfl⟩) | (with_reducible refine HeldP.e_alloc ?_ ?_) | (with_reducible refine HeldP.f_drew ?_) | (with_reducible refine HeldP.f_drewN ?_) | (with_reducible refine HeldP.f_set ?_) | (with_reducible refine HeldP.f_new (by first | omega | (simp; done) | (simp; omega))) | (with_reducible refine HeldP.f_alloc ?_ ?_) | (with_reducible refine HeldP.s_drew ?_) | (with_reducible refine HeldP.s_drewN ?_) | (with_reducible refine HeldP.s_set ?_) | (with_reducible refine HeldP.s_new (by first | omega | (simp; done) | (simp; omega))) | (with_reducible refine HeldP.s_alloc ?_) | (with_reducible exact ⟨_,by assumption⟩) | omega | (intro e; simp at e; done) | (intro e; simp at e; omega) | (exact rfl) | (simp; done) | (simp; omega)))
  have HK1:=Lib.hid (show Below w.heap.size w w1 by (repeat' (first | (with_reducible exact Below.refl _ _) | (with_reducible refine Below.setCell ?_ (by (first | omega | (simp; done) | (simp; omega))) _) | (with_reducible refine Below.alloc ?_ (by (first | omega | (simp; done) | (simp; omega))) _) | (with_reducible refine Below.drew ?_) | (with_reducible refine below_drewN ?_ _) | (with_reducible refine Below.trans ?_ (Below.mono hb1 (by (first | omega | (simp; done) | (simp; omega))))))))
  clear hb1
  go_wp2_with fail
  go_ret
  exact ⟨by rw [HR.out]; rfl,HK1.out⟩
 ·go_enter Tryd.func46,Tryd.ntmps46
  go_wp2_with fail
  refine (r_may_b HM.out _).mono ?_
  rintro e w1 ⟨rfl,hb1⟩
  have d0:w1.cell? ⟨w.heap.size,0,none⟩ = some (.int .u8 k):=by (repeat' (first | (with_reducible assumption) | (with_reducible refine HeldP.c_below hb1 ?_ ?_) | (with_reducible refine HeldP.f_below hb1 ?_ ?_) | (with_reducible refine HeldP.c_drew ?_) | (with_reducible refine HeldP.c_drewN ?_) | (with_reducible refine HeldP.c_same (by omega) ?_) | (with_reducible refine HeldP.c_other ?_ ?_) | (with_reducible refine HeldP.c_new (by first | omega | (simp; done) | (simp; omega)) ?_) | (with_reducible refine HeldP.c_alloc ?_ ?_) | (with_reducible refine HeldP.e_drew ?_) | (with_reducible refine HeldP.e_drewN ?_) | (with_reducible refine HeldP.e_set ?_) | (with_reducible refine HeldP.e_new (by first | omega | (simp; done) | (simp; omega)) ⟨_,rfl⟩) | (with_reducible refine HeldP.e_alloc ?_ ?_) | (with_reducible refine HeldP.f_drew ?_) | (with_reducible refine HeldP.f_drewN ?_) | (with_reducible refine HeldP.f_set ?_) | (with_reducible refine HeldP.f_new (by first | omega | (simp; done) | (simp; omega))) | (with_reducible refine HeldP.f_alloc ?_ ?_) | (with_reducible refine HeldP.s_drew ?_) | (with_reducible refine HeldP.s_drewN ?_) | (with_reducible refine HeldP.s_set ?_) | (with_reducible refine HeldP.s_new (by first | omega | (simp; done) | (simp; omega))) | (with_reducible refine HeldP.s_alloc ?_) | (with_reducible exact ⟨_,by assumption⟩) | omega | (intro e; simp at e; done) | (intro e; simp at e; omega) | (exact rfl) | (simp; done) | (simp; omega)))
  have HK1:=Lib.hid (show Below w.heap.size w w1 by (repeat' (first | (with_reducible exact Below.refl _ _) | (with_reducible refine Below.setCell ?_ (by (first | omega | (simp; done) | (simp; omega))) _) | (with_reducible refine Below.alloc ?_ (by (first | omega | (simp; done) | (simp; omega))) _) | (with_reducible refine Below.drew ?_) | (with_reducible refine below_drewN ?_ _) | (with_reducible refine Below.trans ?_ (Below.mono hb1 (by (first | omega | (simp; done) | (simp; omega))))))))
  clear hb1
  go_wp2_with (go_at_call 59; refine (r_clear_b HC.out _).mono ?_; rintro e2 w2 ⟨rfl,hb2⟩; have HB2:=Lib.hid hb2; clear hb2)
  go_ret
  exact ⟨by rw [HR.out]; rfl,HK1.out.trans (HB2.out.mono HK1.out.size)⟩
end GlowW
end Go.Proofs.YtpimkdaikoclnaaDoor
namespace Go.Proofs.YtpimkdaikoclnaaDoor
open Go.RowKit
set_option linter.unusedVariables false
set_option linter.unusedSimpArgs false
namespace GlowW
open BlkP RowG KindP KindW
def upF (L:List Nat) (a s:Nat):Nat:=max a (L.getD s 0 - 1)
def FromR (W0:World) (m0:Nat) (v:Value) (W:World):Prop:=∃ m:Nat,v = .int .i64 m∧m = m0∧m≤15∧W0 = W
theorem fold_up {L:List Nat} {p:List Nat} {c:Prop} [Decidable c] {v:Nat}:(p ++ (if c then [v] else [])).foldl (upF L) 0 = if c then upF L (p.foldl (upF L) 0) v else p.foldl (upF L) 0:=by
 split <;> simp
set_option maxRecDepth 100000 in
set_option maxHeartbeats 16000000 in
theorem from_c {w:World} {X Y Z x z y i n c bl:Nat} {A:Option Addr} {L:List Nat} (hX:1≤X∧X≤256) (hY:1≤Y∧Y≤256) (hZ:1≤Z∧Z≤256) (hn:X * Y * Z = n) (hn2:n≤6000) (hx:x < X) (hz:z < Z) (hy:y < Y) (hi:GlowP.at_ X Z x z y = i)
  (hL:Blk w bl 3 (L.map i64v)) (hLn:L.length = n) (h15:∀ i,L.getD i 0≤15) :
  Calls Tryd.prog 60 #[.agg #[.int .i64 X,.int .i64 Y,.int .i64 Z,.slice A n c],.slice (some ⟨bl,0,none⟩) n n,.int .i64 x,.int .i64 y,.int .i64 z] w fun e w'=>e = .returned (.int .i64 (GlowP.inL (GlowP.sideX X Y Z) (fun s=>L.getD s 0) i:Nat))∧Below w.heap.size w w':=by
 have hin:i < n:=by rw [← hn,← hi]; exact GlowP.at_lt hx hz hy
 obtain ⟨SD,hSD⟩:∃ SD,GlowP.sides X Y Z i = SD:=⟨_,rfl⟩
 have HAns:=Lib.hid (show GlowP.inL (GlowP.sideX X Y Z) (fun s=>L.getD s 0) i = SD.foldl (upF L) 0 by
  unfold GlowP.inL GlowP.sideX
  rw [if_pos (by rw [hn]; exact hin),hSD]
  rfl)
 have HMEM:=Lib.hid (show ∀ s,s ∈ SD→s < n from fun s hs=>by rw [← hn]; exact GlowP.sides_lt (by rw [hn]; exact hin) (by rw [hSD]; exact hs))
 unfold GlowP.sides at hSD
 have a1:i % X = x:=by rw [← hi]; exact GlowP.at_x hx
 have a2:i / X % Z = z:=by rw [← hi]; exact GlowP.at_z hx hz
 have a3:i / X / Z = y:=by rw [← hi]; exact GlowP.at_y hx hz
 rw [a1,a2,a3] at hSD
 obtain ⟨S,hS⟩:∃ S,X * Z = S:=⟨_,rfl⟩
 have hSM:S≤65536:=by have:=Nat.mul_le_mul hX.2 hZ.2; omega
 have e0:(X:Int) * (Z:Int) = (S:Int):=by rw [← hS]; simp
 rw [hS] at hSD
 unfold GlowP.at_ at hi
 obtain ⟨p1,hp1⟩:∃ p,y * Z = p:=⟨_,rfl⟩
 obtain ⟨p2,hp2⟩:∃ p,p1 + z = p:=⟨_,rfl⟩
 obtain ⟨p3,hp3⟩:∃ p,p2 * X = p:=⟨_,rfl⟩
 have e1:(y:Int) * (Z:Int) = (p1:Int):=by rw [← hp1]; simp
 have e2:(p1:Int) + (z:Int) = (p2:Int):=by omega
 have e3:(p2:Int) * (X:Int) = (p3:Int):=by rw [← hp3]; simp
 rw [hp1,hp2,hp3] at hi
 have e4:(p3:Int) + (x:Int) = (i:Int):=by omega
 have l3:p2≤p3:=by rw [← hp3]; exact Nat.le_mul_of_pos_right _ (by omega)
 have g2:0 < z→X≤i:=fun h=>by
  have:1 * X≤p2 * X:=Nat.mul_le_mul_right X (by omega)
  omega
 have g3:0 < y→S≤i:=fun h=>by
  have h1:1 * Z≤y * Z:=Nat.mul_le_mul_right Z h
  have h2:Z * X≤p2 * X:=Nat.mul_le_mul_right X (by omega)
  have h3:Z * X = S:=by rw [← hS,Nat.mul_comm]
  omega
 have hXI:(X:Int)≤256:=by omega
 have G1:=Lib.hid (show 0 < x→1≤i from fun h=>by omega)
 have G2:=Lib.hid g2
 have G3:=Lib.hid g3
 have HSD:=Lib.hid hSD
 have H15:=Lib.hid h15
 have HLN:=Lib.hid hLn
 have HL:=Lib.hid hL
 have hLl:=hL.lt
 clear hSD a1 a2 a3 hi hp1 hp2 hp3 hS g2 g3 h15 hLn hL
 go_enter Tryd.func60,Tryd.ntmps60
 go_upto_if 25 with (fail)
 refine HeldP.wp_named (fun W=>W.cell? ⟨w.heap.size,0,none⟩ = some (.int .i64 X)∧W.cell? ⟨w.heap.size,1,none⟩ = some (.int .i64 Y)∧W.cell? ⟨w.heap.size,2,none⟩ = some (.int .i64 Z)∧Below w.heap.size w W) (by (refine ⟨?_,?_,?_,by (repeat' (first | (with_reducible exact Below.refl _ _) | (with_reducible refine Below.setCell ?_ (by (first | omega | (simp; done) | (simp; omega))) _) | (with_reducible refine Below.alloc ?_ (by (first | omega | (simp; done) | (simp; omega))) _) | (with_reducible refine Below.drew ?_) | (with_reducible refine below_drewN ?_ _)))⟩); all_goals (repeat' (first | (with_reducible assumption) | (with_reducible refine HeldP.c_drew ?_) | (with_reducible refine HeldP.c_drewN ?_) | (with_reducible refine HeldP.c_same (by omega) ?_) | (with_reducible refine HeldP.c_other ?_ ?_) | (with_reducible refine HeldP.c_new (by first | omega | (simp; done) | (simp; omega)) ?_) | (with_reducible refine HeldP.c_alloc ?_ ?_) | (with_reducible refine HeldP.e_drew ?_) | (with_reducible refine HeldP.e_drewN ?_) | (with_reducible refine HeldP.e_set ?_) | (with_reducible refine HeldP.e_new (by first | omega | (simp; done) | (simp; omega)) ⟨_,rfl⟩) | (with_reducible refine HeldP.e_alloc ?_ ?_) | (with_reducible refine HeldP.f_drew ?_) | (with_reducible refine HeldP.f_drewN ?_) | (with_reducible refine HeldP.f_set ?_) | (with_reducible refine HeldP.f_new (by first | omega | (simp; done) | (simp; omega))) | (with_reducible refine HeldP.f_alloc ?_ ?_) | (with_reducible refine HeldP.s_drew ?_) | (with_reducible refine HeldP.s_drewN ?_) | (with_reducible refine HeldP.s_set ?_) | (with_reducible refine HeldP.s_new (by first | omega | (simp; done) | (simp; omega))) | (with_reducible refine HeldP.s_alloc ?_) | (with_reducible exact ⟨_,by assumption⟩) | omega | (intro e; simp at e; done) | (intro e; simp at e; omega) | (exact rfl) | (simp; done) | (simp; omega)))) ?_
 rintro W0 ⟨k0,k1,k2,hb0⟩
 have HB0:=Lib.hid hb0
 have HL0:=Lib.hid (HL.out.belowAt hb0 hLl)
 have HSR:=Lib.hid (show FromR W0 (([]:List Nat).foldl (upF L) 0) (.int .i64 (0:Nat)) W0 from ⟨0,rfl,rfl,by omega,rfl⟩)
 clear hb0 e1 e2 e3 e4 l3
 have HM0:=Lib.hid (show 0 = ([]:List Nat).foldl (upF L) 0 from rfl)
 go_cut [11] from 24 (fun v W=>FromR W0 ((([]:List Nat) ++ (if 0 < x then [i - 1] else [])).foldl (upF L) 0) v W)
 case first =>
  by_cases hc:0 < x
  ·have hcI:(0:Int) < x:=by omega
   obtain ⟨u,hu⟩:∃ u:Nat,(i:Int) - 1 = u:=⟨i - 1,by have:=G1.out hc; omega⟩
   have HU:=Lib.hid (show i - 1 = u by omega)
   have hun:u < n:=HMEM.out u (by rw [← HSD.out,← HU.out]; simp [hc])
   obtain ⟨lu,hlu⟩:∃ lu,L[u]? = some lu:=⟨_,List.getElem?_eq_getElem (by rw [HLN.out]; exact hun)⟩
   have hq:W0.cell? ⟨bl,u,none⟩ = some (.int .i64 lu):=HL0.out.cell (by rw [List.getElem?_map,hlu]; rfl)
   have hlu15:lu≤15:=by have:=H15.out u; simp only [List.getD,hlu] at this; exact this
   have HN:=Lib.hid (show upF L 0 u = max 0 (lu - 1) by unfold upF; simp [List.getD,hlu])
   have hunI:(u:Int) < n:=by omega
   have hu0:(0:Int)≤(u:Int):=by omega
   obtain ⟨t,ht⟩:∃ t:Int,(lu:Int) - 1 = t:=⟨_,rfl⟩
   clear hlu
   by_cases hmx:(0:Int) < t
   ·obtain ⟨t',rfl⟩:∃ t':Nat,t = t':=⟨t.toNat,by omega⟩
    go_wp2_with fail
    go_meet
    case rel=>exact ⟨t',by first | rfl | simp,by rw [fold_up,if_pos hc,← HM0.out,HU.out,HN.out]; omega,by omega,rfl⟩
   ·go_wp2_with fail
    go_meet
    case rel=>exact ⟨0,by first | rfl | simp,by rw [fold_up,if_pos hc,← HM0.out,HU.out,HN.out]; omega,by omega,rfl⟩
  ·have hcI:¬ (0:Int) < x:=by omega
   go_wp2_with fail
   go_meet
   case rel=>exact ⟨0,by first | rfl | simp,by rw [fold_up,if_neg hc]; exact HM0.out,by omega,rfl⟩
 case rest =>
  obtain ⟨m1,rfl,hm1,hl1,rfl⟩:=hcut
  have HM1:=Lib.hid hm1
  clear hm1
  go_upto_if 38 with (fail)
  go_cut [11] from 34 (fun v W=>FromR W0 (((([]:List Nat) ++ (if 0 < x then [i - 1] else [])) ++ (if x + 1 < X then [i + 1] else [])).foldl (upF L) 0) v W)
  case first =>
   by_cases hc:x + 1 < X
   ·have hcI:(x:Int) + 1 < X:=by omega
    obtain ⟨u,hu⟩:∃ u:Nat,(i:Int) + 1 = u:=⟨i + 1,by omega⟩
    have HU:=Lib.hid (show i + 1 = u by omega)
    have hun:u < n:=HMEM.out u (by rw [← HSD.out,← HU.out]; simp [hc])
    obtain ⟨lu,hlu⟩:∃ lu,L[u]? = some lu:=⟨_,List.getElem?_eq_getElem (by rw [HLN.out]; exact hun)⟩
    have hq:W0.cell? ⟨bl,u,none⟩ = some (.int .i64 lu):=HL0.out.cell (by rw [List.getElem?_map,hlu]; rfl)
    have hlu15:lu≤15:=by have:=H15.out u; simp only [List.getD,hlu] at this; exact this
    have HN:=Lib.hid (show upF L m1 u = max m1 (lu - 1) by unfold upF; simp [List.getD,hlu])
    have hunI:(u:Int) < n:=by omega
    have hu0:(0:Int)≤(u:Int):=by omega
    obtain ⟨t,ht⟩:∃ t:Int,(lu:Int) - 1 = t:=⟨_,rfl⟩
    clear hlu
    by_cases hmx:(m1:Int) < t
    ·obtain ⟨t',rfl⟩:∃ t':Nat,t = t':=⟨t.toNat,by omega⟩
     go_wp2_with fail
     go_meet
     case rel=>exact ⟨t',by first | rfl | simp,by rw [fold_up,if_pos hc,← HM1.out,HU.out,HN.out]; omega,by omega,rfl⟩
    ·go_wp2_with fail
     go_meet
     case rel=>exact ⟨m1,by first | rfl | simp,by rw [fold_up,if_pos hc,← HM1.out,HU.out,HN.out]; omega,by omega,rfl⟩
   ·have hcI:¬ (x:Int) + 1 < X:=by omega
    go_wp2_with fail
    go_meet
    case rel=>exact ⟨m1,by first | rfl | simp,by rw [fold_up,if_neg hc]; exact HM1.out,by omega,rfl⟩
  case rest =>
   obtain ⟨m2,rfl,hm2,hl2,rfl⟩:=hcut
   have HM2:=Lib.hid hm2
   clear hm2
   go_upto_if 48 with (fail)
   go_cut [11] from 47 (fun v W=>FromR W0 ((((([]:List Nat) ++ (if 0 < x then [i - 1] else [])) ++ (if x + 1 < X then [i + 1] else [])) ++ (if 0 < z then [i - X] else [])).foldl (upF L) 0) v W)
   case first =>
    by_cases hc:0 < z
    ·have hcI:(0:Int) < z:=by omega
     obtain ⟨u,hu⟩:∃ u:Nat,(i:Int) - (X:Int) = u:=⟨i - X,by have:=G2.out hc; omega⟩
     have HU:=Lib.hid (show i - X = u by omega)
     have hun:u < n:=HMEM.out u (by rw [← HSD.out,← HU.out]; simp [hc])
     obtain ⟨lu,hlu⟩:∃ lu,L[u]? = some lu:=⟨_,List.getElem?_eq_getElem (by rw [HLN.out]; exact hun)⟩
     have hq:W0.cell? ⟨bl,u,none⟩ = some (.int .i64 lu):=HL0.out.cell (by rw [List.getElem?_map,hlu]; rfl)
     have hlu15:lu≤15:=by have:=H15.out u; simp only [List.getD,hlu] at this; exact this
     have HN:=Lib.hid (show upF L m2 u = max m2 (lu - 1) by unfold upF; simp [List.getD,hlu])
     have hunI:(u:Int) < n:=by omega
     have hu0:(0:Int)≤(u:Int):=by omega
     obtain ⟨t,ht⟩:∃ t:Int,(lu:Int) - 1 = t:=⟨_,rfl⟩
     clear hlu
     by_cases hmx:(m2:Int) < t
     ·obtain ⟨t',rfl⟩:∃ t':Nat,t = t':=⟨t.toNat,by omega⟩
      go_wp2_with fail
      go_meet
      case rel=>exact ⟨t',by first | rfl | simp,by rw [fold_up,if_pos hc,← HM2.out,HU.out,HN.out]; omega,by omega,rfl⟩
     ·go_wp2_with fail
      go_meet
      case rel=>exact ⟨m2,by first | rfl | simp,by rw [fold_up,if_pos hc,← HM2.out,HU.out,HN.out]; omega,by omega,rfl⟩
    ·have hcI:¬ (0:Int) < z:=by omega
     go_wp2_with fail
     go_meet
     case rel=>exact ⟨m2,by first | rfl | simp,by rw [fold_up,if_neg hc]; exact HM2.out,by omega,rfl⟩
   case rest =>
    obtain ⟨m3,rfl,hm3,hl3,rfl⟩:=hcut
    have HM3:=Lib.hid hm3
    clear hm3
    go_upto_if 63 with (fail)
    go_cut [11] from 59 (fun v W=>FromR W0 (((((([]:List Nat) ++ (if 0 < x then [i - 1] else [])) ++ (if x + 1 < X then [i + 1] else [])) ++ (if 0 < z then [i - X] else [])) ++ (if z + 1 < Z then [i + X] else [])).foldl (upF L) 0) v W)
    case first =>
     by_cases hc:z + 1 < Z
     ·have hcI:(z:Int) + 1 < Z:=by omega
      obtain ⟨u,hu⟩:∃ u:Nat,(i:Int) + (X:Int) = u:=⟨i + X,by omega⟩
      have HU:=Lib.hid (show i + X = u by omega)
      have hun:u < n:=HMEM.out u (by rw [← HSD.out,← HU.out]; simp [hc])
      obtain ⟨lu,hlu⟩:∃ lu,L[u]? = some lu:=⟨_,List.getElem?_eq_getElem (by rw [HLN.out]; exact hun)⟩
      have hq:W0.cell? ⟨bl,u,none⟩ = some (.int .i64 lu):=HL0.out.cell (by rw [List.getElem?_map,hlu]; rfl)
      have hlu15:lu≤15:=by have:=H15.out u; simp only [List.getD,hlu] at this; exact this
      have HN:=Lib.hid (show upF L m3 u = max m3 (lu - 1) by unfold upF; simp [List.getD,hlu])
      have hunI:(u:Int) < n:=by omega
      have hu0:(0:Int)≤(u:Int):=by omega
      obtain ⟨t,ht⟩:∃ t:Int,(lu:Int) - 1 = t:=⟨_,rfl⟩
      clear hlu
      by_cases hmx:(m3:Int) < t
      ·obtain ⟨t',rfl⟩:∃ t':Nat,t = t':=⟨t.toNat,by omega⟩
       go_wp2_with fail
       go_meet
       case rel=>exact ⟨t',by first | rfl | simp,by rw [fold_up,if_pos hc,← HM3.out,HU.out,HN.out]; omega,by omega,rfl⟩
      ·go_wp2_with fail
       go_meet
       case rel=>exact ⟨m3,by first | rfl | simp,by rw [fold_up,if_pos hc,← HM3.out,HU.out,HN.out]; omega,by omega,rfl⟩
     ·have hcI:¬ (z:Int) + 1 < Z:=by omega
      go_wp2_with fail
      go_meet
      case rel=>exact ⟨m3,by first | rfl | simp,by rw [fold_up,if_neg hc]; exact HM3.out,by omega,rfl⟩
    case rest =>
     obtain ⟨m4,rfl,hm4,hl4,rfl⟩:=hcut
     have HM4:=Lib.hid hm4
     clear hm4
     go_upto_if 75 with (fail)
     go_cut [11] from 74 (fun v W=>FromR W0 ((((((([]:List Nat) ++ (if 0 < x then [i - 1] else [])) ++ (if x + 1 < X then [i + 1] else [])) ++ (if 0 < z then [i - X] else [])) ++ (if z + 1 < Z then [i + X] else [])) ++ (if 0 < y then [i - S] else [])).foldl (upF L) 0) v W)
     case first =>
      by_cases hc:0 < y
      ·have hcI:(0:Int) < y:=by omega
       obtain ⟨u,hu⟩:∃ u:Nat,(i:Int) - (S:Int) = u:=⟨i - S,by have:=G3.out hc; omega⟩
       have HU:=Lib.hid (show i - S = u by omega)
       have hun:u < n:=HMEM.out u (by rw [← HSD.out,← HU.out]; simp [hc])
       obtain ⟨lu,hlu⟩:∃ lu,L[u]? = some lu:=⟨_,List.getElem?_eq_getElem (by rw [HLN.out]; exact hun)⟩
       have hq:W0.cell? ⟨bl,u,none⟩ = some (.int .i64 lu):=HL0.out.cell (by rw [List.getElem?_map,hlu]; rfl)
       have hlu15:lu≤15:=by have:=H15.out u; simp only [List.getD,hlu] at this; exact this
       have HN:=Lib.hid (show upF L m4 u = max m4 (lu - 1) by unfold upF; simp [List.getD,hlu])
       have hunI:(u:Int) < n:=by omega
       have hu0:(0:Int)≤(u:Int):=by omega
       obtain ⟨t,ht⟩:∃ t:Int,(lu:Int) - 1 = t:=⟨_,rfl⟩
       clear hlu
       by_cases hmx:(m4:Int) < t
       ·obtain ⟨t',rfl⟩:∃ t':Nat,t = t':=⟨t.toNat,by omega⟩
        go_wp2_with fail
        go_meet
        case rel=>exact ⟨t',by first | rfl | simp,by rw [fold_up,if_pos hc,← HM4.out,HU.out,HN.out]; omega,by omega,rfl⟩
       ·go_wp2_with fail
        go_meet
        case rel=>exact ⟨m4,by first | rfl | simp,by rw [fold_up,if_pos hc,← HM4.out,HU.out,HN.out]; omega,by omega,rfl⟩
      ·have hcI:¬ (0:Int) < y:=by omega
       go_wp2_with fail
       go_meet
       case rel=>exact ⟨m4,by first | rfl | simp,by rw [fold_up,if_neg hc]; exact HM4.out,by omega,rfl⟩
     case rest =>
      obtain ⟨m5,rfl,hm5,hl5,rfl⟩:=hcut
      have HM5:=Lib.hid hm5
      clear hm5
      go_upto_if 93 with (fail)
      go_cut [11] from 89 (fun v W=>FromR W0 (((((((([]:List Nat) ++ (if 0 < x then [i - 1] else [])) ++ (if x + 1 < X then [i + 1] else [])) ++ (if 0 < z then [i - X] else [])) ++ (if z + 1 < Z then [i + X] else [])) ++ (if 0 < y then [i - S] else [])) ++ (if y + 1 < Y then [i + S] else [])).foldl (upF L) 0) v W)
      case first =>
       by_cases hc:y + 1 < Y
       ·have hcI:(y:Int) + 1 < Y:=by omega
        obtain ⟨u,hu⟩:∃ u:Nat,(i:Int) + (S:Int) = u:=⟨i + S,by omega⟩
        have HU:=Lib.hid (show i + S = u by omega)
        have hun:u < n:=HMEM.out u (by rw [← HSD.out,← HU.out]; simp [hc])
        obtain ⟨lu,hlu⟩:∃ lu,L[u]? = some lu:=⟨_,List.getElem?_eq_getElem (by rw [HLN.out]; exact hun)⟩
        have hq:W0.cell? ⟨bl,u,none⟩ = some (.int .i64 lu):=HL0.out.cell (by rw [List.getElem?_map,hlu]; rfl)
        have hlu15:lu≤15:=by have:=H15.out u; simp only [List.getD,hlu] at this; exact this
        have HN:=Lib.hid (show upF L m5 u = max m5 (lu - 1) by unfold upF; simp [List.getD,hlu])
        have hunI:(u:Int) < n:=by omega
        have hu0:(0:Int)≤(u:Int):=by omega
        obtain ⟨t,ht⟩:∃ t:Int,(lu:Int) - 1 = t:=⟨_,rfl⟩
        clear hlu
        by_cases hmx:(m5:Int) < t
        ·obtain ⟨t',rfl⟩:∃ t':Nat,t = t':=⟨t.toNat,by omega⟩
         go_wp2_with fail
         go_meet
         case rel=>exact ⟨t',by first | rfl | simp,by rw [fold_up,if_pos hc,← HM5.out,HU.out,HN.out]; omega,by omega,rfl⟩
        ·go_wp2_with fail
         go_meet
         case rel=>exact ⟨m5,by first | rfl | simp,by rw [fold_up,if_pos hc,← HM5.out,HU.out,HN.out]; omega,by omega,rfl⟩
       ·have hcI:¬ (y:Int) + 1 < Y:=by omega
        go_wp2_with fail
        go_meet
        case rel=>exact ⟨m5,by first | rfl | simp,by rw [fold_up,if_neg hc]; exact HM5.out,by omega,rfl⟩
      case rest =>
       obtain ⟨m6,rfl,hm6,hl6,rfl⟩:=hcut
       have HM6:=Lib.hid hm6
       clear hm6
       go_wp2_with fail
       go_ret
       refine ⟨?_,HB0.out⟩
       have h:=HM6.out
       simp only [List.append_assoc,List.nil_append] at h
       rw [HAns.out,← HSD.out,← h]
       rfl
end GlowW
end Go.Proofs.YtpimkdaikoclnaaDoor
namespace Go.Proofs.YtpimkdaikoclnaaDoor
open Go.RowKit
set_option linter.unusedVariables false
set_option linter.unusedSimpArgs false
namespace GlowW
open BlkP RowG KindP KindW
theorem in_congr {side:Nat→List Nat} {L M:Nat→Nat} {i:Nat} (h:∀ s ∈ side i,L s = M s):GlowP.inL side L i = GlowP.inL side M i :=
 Nat.le_antisymm (GlowP.in_le.2 fun s hs=>by rw [h s hs]; exact GlowP.in_ge hs) (GlowP.in_le.2 fun s hs=>by rw [← h s hs]; exact GlowP.in_ge hs)
theorem fillV_same {f:List Value} {z:Value} {j:Nat} (h:f[j]? = some z):fillV f z (j + 1) = fillV f z j:=by
 have hj:=(List.getElem?_eq_some_iff.1 h).1
 rw [← fillV_set h]
 have hg:=fillV_get (f:=f) (z:=z) hj
 apply List.ext_getElem?
 intro k
 by_cases e:j = k
 ·subst e
  rw [List.getElem?_set_self (by rw [fillV_len (by omega)]; exact hj),hg]
 ·rw [List.getElem?_set_ne e]
def rdL (X Y Z n:Nat) (O:List Bool) (own:List Nat) (k:Nat):List Nat:=(List.range n).map (GlowP.rounds (GlowP.sideX X Y Z) (GlowP.clO O) (fun i=>own.getD i 0) k)
section
variable {X Y Z n:Nat} {O:List Bool} {own:List Nat}
theorem rdL_len (k:Nat):(rdL X Y Z n O own k).length = n:=by simp [rdL]
theorem rdL_get {k i:Nat} (h:i < n):(rdL X Y Z n O own k)[i]? = some (GlowP.rounds (GlowP.sideX X Y Z) (GlowP.clO O) (fun i=>own.getD i 0) k i):=by simp [rdL,h]
theorem rdL_getD {k i:Nat} (h:i < n):(rdL X Y Z n O own k).getD i 0 = GlowP.rounds (GlowP.sideX X Y Z) (GlowP.clO O) (fun i=>own.getD i 0) k i:=by simp only [List.getD,rdL_get h]; rfl
theorem rdL_zero (h:own.length = n):rdL X Y Z n O own 0 = own:=by
 apply List.ext_getElem?
 intro i
 by_cases hi:i < n
 ·rw [rdL_get hi]
  show some (own.getD i 0) = _
  rw [List.getElem?_eq_getElem (by omega)]
  simp [List.getD,List.getElem?_eq_getElem (show i < own.length by omega)]
 ·rw [List.getElem?_eq_none (by rw [rdL_len]; omega),List.getElem?_eq_none (by omega)]
theorem rdL_le (h:∀ i,own.getD i 0≤15) (k i:Nat):(rdL X Y Z n O own k).getD i 0≤15:=by
 by_cases hi:i < n
 ·rw [rdL_getD hi]
  exact GlowP.rounds_le h k i
 ·simp [List.getD,List.getElem?_eq_none (show (rdL X Y Z n O own k).length≤i by rw [rdL_len]; omega)]
theorem rdL_next {k i:Nat} (hn:X * Y * Z = n) (h:i < n):(rdL X Y Z n O own (k + 1))[i]? = some (if GlowP.clO O i = true then max (own.getD i 0) (GlowP.inL (GlowP.sideX X Y Z) (fun s=>(rdL X Y Z n O own k).getD s 0) i) else 0):=by
 rw [rdL_get h]
 have e:GlowP.inL (GlowP.sideX X Y Z) (GlowP.rounds (GlowP.sideX X Y Z) (GlowP.clO O) (fun i=>own.getD i 0) k) i = GlowP.inL (GlowP.sideX X Y Z) (fun s=>(rdL X Y Z n O own k).getD s 0) i:=in_congr fun s hs=>by
  have:=(GlowP.sideX_lt hs).2
  exact (rdL_getD (by omega)).symm
 rw [← e]
 rfl
end
theorem wp_makeI (w:World) {ops:Array Oper} {rest:List Oper} {o:Oper} {a:Act} {Q:Exit→Act→World→Prop} (hg:o.guard = none) (l c:Operand) (hop:o.op = Op.makeSlice 76 l c) (n:Nat) (hl:a.eval l = .int .i64 n) (hc:a.eval c = .int .i64 n) (hn:n≤1000000)
  (h:∀ w',Blk w' w.heap.size 3 (List.replicate n (.int .i64 0))→Below w.heap.size w w'→wpList Tryd.prog ops Q rest (a.put o.dst (.slice (some ⟨w.heap.size,0,none⟩) n n)) w'):wpList Tryd.prog ops Q (o :: rest) a w:=by
 obtain ⟨i,hi,hz,hs1,hby⟩:=info_parts infoInt
 refine wpList_plain hg fun K hK'=>?_
 have hr:=run_make (P:=Tryd.prog) w 76 3 i _ underInts hi hz .i64 .i64 n n (by omega) (Int.le_refl _) (by rw [hby]; omega) (by omega)
 unfold Oper.wp
 simp [execOp,hop,hl,hc,hr,Result.andThen]
 refine hK' _ _ (h _ ?_ ((Below.refl _ _).alloc (Nat.le_refl _) _))
 have e:=madeB (.int .i64 0) n
 rw [hs1,Nat.mul_one]
 exact Blk.newA' rfl (by rw [show (Value.int IntKind.i64 0).cells = #[Value.int IntKind.i64 0] from rfl,e])
theorem bel_th {w0 w w':World} {B:Nat} (hb:Below B w0 w) (h:Below w.heap.size w w') (hB:B≤w.heap.size):Below B w0 w':=hb.trans (h.mono hB)
def WholeI (w:World) (n:Nat) (vs:List Value) (e:Ending) (w':World):Prop:=∃ g,e = .returned (.slice (some ⟨g,0,none⟩) n n)∧Blk w' g 3 vs∧Below w.heap.size w w'
def RdRel (W0:World) (n:Nat) (LL:Nat→List Nat) (v5 v6:Value) (W:World):Prop:=∃ k g:Nat,v6 = .int .i64 k∧k≤15∧v5 = .slice (some ⟨g,0,none⟩) n n∧Blk W g 3 ((LL k).map i64v)∧Below W0.heap.size W0 W
def FlRel (wk:World) (g:Nat) (F:List Value) (m:Nat) (f:Nat→Nat) (v:Value) (W:World):Prop:=∃ y:Nat,v = .int .i64 y∧y≤m∧Blk W g 3 (fillV F (.int .i64 0) (f y))∧Below wk.heap.size wk W
set_option maxRecDepth 100000 in
set_option maxHeartbeats 16000000 in
theorem rounds_c {w:World} {X Y Z n c bb oo bo:Nat} {cs:List (Nat × Nat)} {own:List Nat} (hX:1≤X∧X≤256) (hY:1≤Y∧Y≤256) (hZ:1≤Z∧Z≤256) (hn:X * Y * Z = n) (hn2:n≤6000)
  (hR:Rd enc2 w (.slice (some ⟨bb,oo,none⟩) n c) cs) (hcs:n = cs.length) (hO:Blk w bo 3 (own.map i64v)) (hon:own.length = n) (h15:∀ i,own.getD i 0≤15) :
  Calls Tryd.prog 48 #[.agg #[.int .i64 X,.int .i64 Y,.int .i64 Z,.slice (some ⟨bb,oo,none⟩) n c],.slice (some ⟨bo,0,none⟩) n n] w (WholeI w n ((rdL X Y Z n (cs.map openA) own 15).map i64v)):=by
 have HN:=Lib.hid hn
 have HR:=Lib.hid hR
 have HC:=Lib.hid hcs
 have HO:=Lib.hid hO
 have HON:=Lib.hid hon
 have H15:=Lib.hid h15
 have hbol:=hO.lt
 obtain ⟨LL,hLL⟩:∃ LL:Nat→List Nat,rdL X Y Z n (cs.map openA) own = LL:=⟨_,rfl⟩
 have HLL:=Lib.hid hLL
 have HLN:=Lib.hid (show ∀ k,(LL k).length = n from fun k=>by rw [← hLL]; exact rdL_len k)
 have HL15:=Lib.hid (show ∀ k i,(LL k).getD i 0≤15 from fun k i=>by rw [← hLL]; exact rdL_le h15 k i)
 have HNX:=Lib.hid (show ∀ k i,i < n→(LL (k + 1))[i]? = some (if GlowP.clO (cs.map openA) i = true then max (own.getD i 0) (GlowP.inL (GlowP.sideX X Y Z) (fun s=>(LL k).getD s 0) i) else 0) from fun k i hi=>by rw [← hLL]; exact rdL_next hn hi)
 have HL0:=Lib.hid (show LL 0 = own by rw [← hLL]; exact rdL_zero hon)
 rw [hLL]
 clear hn hR hcs hO hon h15 hLL
 go_enter Tryd.func48,Tryd.ntmps48
 go_wp2_with fail
 refine HeldP.wp_named (fun W=>W.cell? ⟨w.heap.size,0,none⟩ = some (.int .i64 X)∧W.cell? ⟨w.heap.size,1,none⟩ = some (.int .i64 Y)∧W.cell? ⟨w.heap.size,2,none⟩ = some (.int .i64 Z)∧W.cell? ⟨w.heap.size,3,none⟩ = some (.slice (some ⟨bb,oo,none⟩) n c)∧w.heap.size < W.heap.size∧Below w.heap.size w W) (by (refine ⟨?_,?_,?_,?_,?_,by (repeat' (first | (with_reducible exact Below.refl _ _) | (with_reducible refine Below.setCell ?_ (by (first | omega | (simp; done) | (simp; omega))) _) | (with_reducible refine Below.alloc ?_ (by (first | omega | (simp; done) | (simp; omega))) _) | (with_reducible refine Below.drew ?_) | (with_reducible refine below_drewN ?_ _)))⟩); all_goals (repeat' (first | (with_reducible assumption) | (with_reducible refine HeldP.c_drew ?_) | (with_reducible refine HeldP.c_drewN ?_) | (with_reducible refine HeldP.c_same (by omega) ?_) | (with_reducible refine HeldP.c_other ?_ ?_) | (with_reducible refine HeldP.c_new (by first | omega | (simp; done) | (simp; omega)) ?_) | (with_reducible refine HeldP.c_alloc ?_ ?_) | (with_reducible refine HeldP.e_drew ?_) | (with_reducible refine HeldP.e_drewN ?_) | (with_reducible refine HeldP.e_set ?_) | (with_reducible refine HeldP.e_new (by first | omega | (simp; done) | (simp; omega)) ⟨_,rfl⟩) | (with_reducible refine HeldP.e_alloc ?_ ?_) | (with_reducible refine HeldP.f_drew ?_) | (with_reducible refine HeldP.f_drewN ?_) | (with_reducible refine HeldP.f_set ?_) | (with_reducible refine HeldP.f_new (by first | omega | (simp; done) | (simp; omega))) | (with_reducible refine HeldP.f_alloc ?_ ?_) | (with_reducible refine HeldP.s_drew ?_) | (with_reducible refine HeldP.s_drewN ?_) | (with_reducible refine HeldP.s_set ?_) | (with_reducible refine HeldP.s_new (by first | omega | (simp; done) | (simp; omega))) | (with_reducible refine HeldP.s_alloc ?_) | (with_reducible exact ⟨_,by assumption⟩) | omega | (intro e; simp at e; done) | (intro e; simp at e; omega) | (exact rfl) | (simp; done) | (simp; omega)))) ?_
 rintro W0 ⟨k0,k1,k2,k3,hz0,hb0⟩
 have K0:=Lib.hid k0
 have K1:=Lib.hid k1
 have K2:=Lib.hid k2
 have K3:=Lib.hid k3
 have HB0:=Lib.hid hb0
 have HO0:=Lib.hid (HO.out.belowAt hb0 hbol)
 have HR0:=Lib.hid (HR.out.below hb0)
 have hbo0:bo < W0.heap.size:=by omega
 clear hb0 k0 k1 k2 k3
 go_loopw [5,6] (RdRel W0 n LL) (fun _ v _=>15 - (intOf v).toNat)
 case atStart=>exact ⟨0,bo,rfl,by omega,rfl,by rw [HL0.out]; exact HO0.out,Below.refl _ _⟩
 case round =>
  obtain ⟨k,g,rfl,hk,rfl,hg,hb⟩:=hrel
  obtain ⟨wk,hwk⟩:∃ wk,wk = wr:=⟨_,rfl⟩
  subst hwk
  have HB:=Lib.hid hb
  have HG:=Lib.hid hg
  have hgl:=hg.lt
  have hzk:=hb.size
  by_cases hk15:k < 15
  ·have hkI:(k:Int) < 15:=by omega
   have hzw:w.heap.size < wk.heap.size:=by omega
   have hbok:bo < wk.heap.size:=by omega
   have k0:wk.cell? ⟨w.heap.size,0,none⟩ = some (.int .i64 X):=(hb.cell (p:=⟨w.heap.size,0,none⟩) hz0).trans K0.out
   have k1:wk.cell? ⟨w.heap.size,1,none⟩ = some (.int .i64 Y):=(hb.cell (p:=⟨w.heap.size,1,none⟩) hz0).trans K1.out
   have k2:wk.cell? ⟨w.heap.size,2,none⟩ = some (.int .i64 Z):=(hb.cell (p:=⟨w.heap.size,2,none⟩) hz0).trans K2.out
   have k3:wk.cell? ⟨w.heap.size,3,none⟩ = some (.slice (some ⟨bb,oo,none⟩) n c):=(hb.cell (p:=⟨w.heap.size,3,none⟩) hz0).trans K3.out
   have KK0:=Lib.hid k0
   have KK1:=Lib.hid k1
   have KK2:=Lib.hid k2
   have KK3:=Lib.hid k3
   have HRK:=Lib.hid (HR0.out.below hb)
   have HOK:=Lib.hid (HO0.out.belowAt hb hbo0)
   obtain ⟨F,hF⟩:∃ F:List Value,(LL (k + 1)).map i64v = F:=⟨_,rfl⟩
   have HF:=Lib.hid hF
   have hFl:F.length = n:=by rw [← hF,List.length_map]; exact HLN.out _
   have HFL:=Lib.hid hFl
   clear hb hg k0 k1 k2 k3 hF hFl
   go_wp2_with ((with_reducible refine at_slot 20 ?_); refine Classical.byContradiction (fun hG=>?_))
   refine hG ?_
   clear hG
   refine wp_makeI _ rfl _ _ rfl n rfl rfl (by omega) ?_
   intro w2 hd2 hb2
   obtain ⟨gn,hgn⟩:∃ gn,wk.heap.size = gn:=⟨_,rfl⟩
   rw [hgn] at hd2 ⊢
   have HGN:=Lib.hid hgn
   have HD2:=Lib.hid (show Blk w2 gn 3 (fillV F (.int .i64 0) 0) by rw [fillV_zero,HFL.out]; exact hd2)
   have HB2:=Lib.hid hb2
   have hgn1:wk.heap.size≤gn:=by omega
   have hggn:g ≠ gn:=by omega
   have hbgn:bo ≠ gn:=by omega
   have hwgn:w.heap.size ≠ gn:=by omega
   clear hd2 hb2 hgn
   go_wp2_with fail
   go_loopw [8] (FlRel wk gn F Y (fun y=>y * Z * X)) (fun v _=>Y - (intOf v).toNat)
   case atStart=>exact ⟨0,rfl,by omega,by simp only [Nat.zero_mul]; exact HD2.out,HB2.out⟩
   case round =>
    obtain ⟨y,rfl,hy,hd,hb⟩:=hrel
    have HDY:=Lib.hid hd
    have HBY:=Lib.hid hb
    have k0:wr.cell? ⟨w.heap.size,0,none⟩ = some (.int .i64 X):=(hb.cell (p:=⟨w.heap.size,0,none⟩) hzw).trans KK0.out
    have k1:wr.cell? ⟨w.heap.size,1,none⟩ = some (.int .i64 Y):=(hb.cell (p:=⟨w.heap.size,1,none⟩) hzw).trans KK1.out
    have k2:wr.cell? ⟨w.heap.size,2,none⟩ = some (.int .i64 Z):=(hb.cell (p:=⟨w.heap.size,2,none⟩) hzw).trans KK2.out
    have k3:wr.cell? ⟨w.heap.size,3,none⟩ = some (.slice (some ⟨bb,oo,none⟩) n c):=(hb.cell (p:=⟨w.heap.size,3,none⟩) hzw).trans KK3.out
    clear hd hb
    by_cases hyY:y < Y
    ·have hyI:(y:Int) < Y:=by omega
     go_wp2_with fail
     go_loopw [9] (FlRel wk gn F Z (fun z=>(y * Z + z) * X)) (fun v _=>Z - (intOf v).toNat)
     case atStart=>exact ⟨0,rfl,by omega,by simp only [Nat.add_zero]; exact HDY.out,HBY.out⟩
     case round =>
      clear k0 k1 k2 k3
      obtain ⟨z,rfl,hz,hd,hb⟩:=hrel
      have HDZ:=Lib.hid hd
      have HBZ:=Lib.hid hb
      have k0:wr.cell? ⟨w.heap.size,0,none⟩ = some (.int .i64 X):=(hb.cell (p:=⟨w.heap.size,0,none⟩) hzw).trans KK0.out
      have k1:wr.cell? ⟨w.heap.size,1,none⟩ = some (.int .i64 Y):=(hb.cell (p:=⟨w.heap.size,1,none⟩) hzw).trans KK1.out
      have k2:wr.cell? ⟨w.heap.size,2,none⟩ = some (.int .i64 Z):=(hb.cell (p:=⟨w.heap.size,2,none⟩) hzw).trans KK2.out
      have k3:wr.cell? ⟨w.heap.size,3,none⟩ = some (.slice (some ⟨bb,oo,none⟩) n c):=(hb.cell (p:=⟨w.heap.size,3,none⟩) hzw).trans KK3.out
      clear hd hb
      by_cases hzZ:z < Z
      ·have hzI:(z:Int) < Z:=by omega
       go_wp2_with fail
       go_loopw [10] (FlRel wk gn F X (fun x=>(y * Z + z) * X + x)) (fun v _=>X - (intOf v).toNat)
       case atStart=>exact ⟨0,rfl,by omega,by simp only [Nat.add_zero]; exact HDZ.out,HBZ.out⟩
       case round =>
        clear k0 k1 k2 k3
        obtain ⟨x,rfl,hx,hd,hb⟩:=hrel
        have HDX:=Lib.hid hd
        have HBX:=Lib.hid hb
        have hdl:=hd.lt
        have hrl:=hb.size
        have k0:wr.cell? ⟨w.heap.size,0,none⟩ = some (.int .i64 X):=(hb.cell (p:=⟨w.heap.size,0,none⟩) hzw).trans KK0.out
        have k1:wr.cell? ⟨w.heap.size,1,none⟩ = some (.int .i64 Y):=(hb.cell (p:=⟨w.heap.size,1,none⟩) hzw).trans KK1.out
        have k2:wr.cell? ⟨w.heap.size,2,none⟩ = some (.int .i64 Z):=(hb.cell (p:=⟨w.heap.size,2,none⟩) hzw).trans KK2.out
        have k3:wr.cell? ⟨w.heap.size,3,none⟩ = some (.slice (some ⟨bb,oo,none⟩) n c):=(hb.cell (p:=⟨w.heap.size,3,none⟩) hzw).trans KK3.out
        by_cases hxX:x < X
        ·have hxI:(x:Int) < X:=by omega
         obtain ⟨i,hi⟩:∃ i,GlowP.at_ X Z x z y = i:=⟨_,rfl⟩
         have HI:=Lib.hid hi
         have hin:i < n:=by rw [← HN.out,← hi]; exact GlowP.at_lt hxX hzZ hyY
         unfold GlowP.at_ at hi
         have HII:=Lib.hid hi
         obtain ⟨p1,hp1⟩:∃ p,y * Z = p:=⟨_,rfl⟩
         obtain ⟨p2,hp2⟩:∃ p,p1 + z = p:=⟨_,rfl⟩
         obtain ⟨p3,hp3⟩:∃ p,p2 * X = p:=⟨_,rfl⟩
         have e1:(y:Int) * (Z:Int) = (p1:Int):=by rw [← hp1]; simp
         have e2:(p1:Int) + (z:Int) = (p2:Int):=by omega
         have e3:(p2:Int) * (X:Int) = (p3:Int):=by rw [← hp3]; simp
         rw [hp1,hp2,hp3] at hi
         have e4:(p3:Int) + (x:Int) = (i:Int):=by omega
         have l3:p2≤p3:=by rw [← hp3]; exact Nat.le_mul_of_pos_right _ (by omega)
         have l1:p3≤i:=by omega
         have HD1:=Lib.hid (show Blk wr gn 3 (fillV F (.int .i64 0) i) by have h:Blk wr gn 3 (fillV F (.int .i64 0) ((y * Z + z) * X + x)):=hd; rw [HII.out] at h; exact h)
         obtain ⟨⟨kk,ll⟩,hcx⟩:∃ x,cs[i]? = some x:=⟨_,List.getElem?_eq_getElem (by have:=HC.out; omega)⟩
         obtain ⟨b',o',hbo',hblw,c0,c1⟩:=rd2 (HRK.out.below hb) hcx
         obtain ⟨rfl,rfl⟩:bb = b'∧oo = o':=by injection hbo' with hbo'; injection hbo' with e1 e2 e3; exact ⟨e1,e2⟩
         obtain ⟨oa,hoa⟩:∃ oa,openA (kk,ll) = oa:=⟨_,rfl⟩
         have HOA:=Lib.hid hoa
         have hcl:GlowP.clO (cs.map openA) i = oa:=by rw [openL,hcx]; exact hoa
         have HCL:=Lib.hid hcl
         have HGX:=Lib.hid (HG.out.belowAt hb hgl)
         have HOX:=Lib.hid (HOK.out.belowAt hb hbok)
         have hiI:(i:Int) < n:=by omega
         have hi0:(0:Int)≤(i:Int):=by omega
         have hFi:=HNX.out k i hin
         rw [hcl] at hFi
         have HNXT:=Lib.hid (show (y * Z + z) * X + (x + 1) = i + 1 by have:=HII.out; omega)
         clear hd hb hi hp1 hp2 hp3 hcx hbo' hoa hcl
         cases oa
         ·have HFI:=Lib.hid (show F[i]? = some (.int .i64 0) by rw [← HF.out,List.getElem?_map,hFi]; rfl)
          clear hFi
          go_wp2_with (go_at_call 46; refine (rclear_c HOA.out).mono ?_; rintro e w5 ⟨rfl,hb5⟩; have HB5:=Lib.hid hb5; clear hb5)
          go_roundw
          case rel=>exact ⟨x + 1,by go_num,by omega,by show Blk _ gn 3 (fillV F (.int .i64 0) ((y * Z + z) * X + (x + 1))); rw [HNXT.out,fillV_same HFI.out]; exact HD1.out.below HB5.out,HBX.out.trans (HB5.out.mono HBX.out.size)⟩
          case measure=>first | (simp [intOf]; done) | (simp [intOf]; omega)
         ·obtain ⟨ow,how⟩:∃ ow,own[i]? = some ow:=⟨_,List.getElem?_eq_getElem (by rw [HON.out]; exact hin)⟩
          have how2:own.getD i 0 = ow:=by simp [List.getD,how]
          have how15:ow≤15:=by rw [← how2]; exact H15.out i
          obtain ⟨inn,hinn⟩:∃ inn,GlowP.inL (GlowP.sideX X Y Z) (fun s=>(LL k).getD s 0) i = inn:=⟨_,rfl⟩
          have hin15:inn≤15:=by rw [← hinn]; exact GlowP.in_le.2 fun s _=>by have:=HL15.out k s; omega
          rw [how2,hinn] at hFi
          have HFI:=Lib.hid (show F[i]? = some (.int .i64 (max ow inn:Nat)) by rw [← HF.out,List.getElem?_map,hFi]; rfl)
          have HINN:=Lib.hid hinn
          have HOWI:=Lib.hid (show (own.map i64v)[i]? = some (.int .i64 ow) by rw [List.getElem?_map,how]; rfl)
          clear hFi hinn how how2
          go_wp2_with (go_at_call 46; refine Classical.byContradiction (fun hG=>?_))
          refine hG ?_
          clear hG
          refine (rclear_c HOA.out).mono ?_
          rintro e w5 ⟨rfl,hb5⟩
          have hz5:=hb5.size
          replace k0:=(hb5.cell (p:=⟨w.heap.size,0,none⟩) (by show w.heap.size < _; omega)).trans k0
          replace k1:=(hb5.cell (p:=⟨w.heap.size,1,none⟩) (by show w.heap.size < _; omega)).trans k1
          replace k2:=(hb5.cell (p:=⟨w.heap.size,2,none⟩) (by show w.heap.size < _; omega)).trans k2
          replace k3:=(hb5.cell (p:=⟨w.heap.size,3,none⟩) (by show w.heap.size < _; omega)).trans k3
          have HB5:=Lib.hid hb5
          have HG5:=Lib.hid (HGX.out.below hb5)
          have HO5:=Lib.hid (HOX.out.below hb5)
          have HD5:=Lib.hid (HD1.out.below hb5)
          clear hb5 c0 c1 e1 e2 e3 e4
          go_wp2_with (go_at_call 60; refine Classical.byContradiction (fun hG=>?_))
          refine hG ?_
          clear hG
          refine (from_c hX hY hZ HN.out hn2 hxX hzZ hyY HI.out HG5.out (HLN.out k) (HL15.out k)).mono ?_
          rintro e w6 ⟨rfl,hb6⟩
          have ho6:=HO5.out.below hb6
          have hd6:=HD5.out.below hb6
          have oc:w6.cell? ⟨bo,i,none⟩ = some (.int .i64 ow):=ho6.cell HOWI.out
          have dc:w6.cell? ⟨gn,i,none⟩ = some (.int .i64 0):=hd6.cell (fillV_get (by rw [HFL.out]; exact hin))
          have df:=hd6.frozen i
          have HD6:=Lib.hid hd6
          have HB6:=Lib.hid (bel_th (bel_th HBX.out HB5.out HBX.out.size) hb6 (by have:=HBX.out.size; omega))
          rw [HINN.out]
          clear hb6 ho6 hd6 k0 k1 k2 k3
          by_cases hmx:(ow:Int) < inn
          ·have HM:=Lib.hid (show max ow inn = inn by omega)
           go_wp2_with fail
           go_roundw
           case rel=>exact ⟨x + 1,by go_num,by omega,by show Blk _ gn 3 (fillV F (.int .i64 0) ((y * Z + z) * X + (x + 1))); rw [HNXT.out]; exact HD6.out.setTo (fillV_set (by rw [HFI.out,HM.out])),HB6.out.setCell hgn1 _⟩
           case measure=>first | (simp [intOf]; done) | (simp [intOf]; omega)
          ·have HM:=Lib.hid (show max ow inn = ow by omega)
           go_wp2_with fail
           go_roundw
           case rel=>exact ⟨x + 1,by go_num,by omega,by show Blk _ gn 3 (fillV F (.int .i64 0) ((y * Z + z) * X + (x + 1))); rw [HNXT.out]; exact HD6.out.setTo (fillV_set (by rw [HFI.out,HM.out])),HB6.out.setCell hgn1 _⟩
           case measure=>first | (simp [intOf]; done) | (simp [intOf]; omega)
        ·obtain rfl:x = X:=by omega
         clear hd hb
         go_wp2_with fail
         go_roundw
         case rel=>exact ⟨z + 1,by go_num,by omega,by have h:=HDX.out; show Blk _ gn 3 (fillV F (.int .i64 0) ((y * Z + (z + 1)) * x)); rw [show (y * Z + (z + 1)) * x = (y * Z + z) * x + x by rw [← Nat.add_assoc,Nat.succ_mul]]; exact h,HBX.out⟩
         case measure=>first | (simp [intOf]; done) | (simp [intOf]; omega)
      ·obtain rfl:z = Z:=by omega
       go_wp2_with fail
       go_roundw
       case rel=>exact ⟨y + 1,by go_num,by omega,by have h:=HDZ.out; show Blk _ gn 3 (fillV F (.int .i64 0) ((y + 1) * z * X)); rw [show (y + 1) * z * X = (y * z + z) * X by rw [Nat.succ_mul]]; exact h,HBZ.out⟩
       case measure=>first | (simp [intOf]; done) | (simp [intOf]; omega)
    ·obtain rfl:y = Y:=by omega
     go_wp2_with fail
     go_roundw
     case rel =>
      refine ⟨k + 1,gn,by go_num,by omega,rfl,?_,HB.out.trans (HBY.out.mono HB.out.size)⟩
      rw [HF.out]
      have h:Blk wr gn 3 (fillV F (.int .i64 0) (y * Z * X)):=HDY.out
      rw [fillV_all (by rw [HFL.out,← HN.out]; exact Nat.le_of_eq (by ac_rfl))] at h
      exact h
     case measure=>first | (simp [intOf]; done) | (simp [intOf]; omega)
  ·obtain rfl:k = 15:=by omega
   clear hb
   go_wp2_with fail
   go_ret
   exact ⟨g,rfl,HG.out,HB0.out.trans (HB.out.mono HB0.out.size)⟩
end GlowW
end Go.Proofs.YtpimkdaikoclnaaDoor
namespace Go.Proofs.YtpimkdaikoclnaaDoor
set_option linter.unusedVariables false
set_option linter.unusedSimpArgs false
namespace GlowW
open RowG KindP
def uptoS (ls:List (Nat × Nat)) (near:List Nat) (q:Nat × Nat) (k:Nat):Nat × Nat:=(near.take k).foldl (fun q s=>(max q.1 ((ls.getD s (0,0)).1 - 1),max q.2 ((ls.getD s (0,0)).2 - 1))) q
theorem fold_max {f:Nat→Nat}:∀ (l:List Nat) (a:Nat),l.foldl (fun a s=>max a (f s)) a = max a (l.foldl (fun a s=>max a (f s)) 0)
 | [],a=>by simp
 | x :: r,a=>by
  rw [List.foldl_cons,List.foldl_cons,fold_max r (max a (f x)),fold_max r (max 0 (f x))]
  omega
theorem sun_no {S N i k:Nat} {cl:Nat→Bool} (hS:0 < S) (h:i + k * S < N) (hc:cl (i + k * S) = false):GlowP.skyO S N cl i = 0:=by
 unfold GlowP.skyO
 rw [if_neg]
 intro q
 have:=((GlowP.sky_iff hS).1 q).2 k h
 rw [hc] at this
 cases this
def sunA (X Y Z:Nat) (cs:List (Nat × Nat)) (i:Nat):Nat:=GlowP.skyO (X * Z) (X * Y * Z) (GlowP.clO (cs.map openA)) i
structure StepsQ (X Y Z:Nat) (cs ls:List (Nat × Nat)):Prop where
 top:∀ (i:Nat) (a:Nat × Nat),ls[i]? = some a→a.1≤15∧a.2≤15
 dark:∀ (i:Nat) (a x:Nat × Nat),ls[i]? = some a→cs[i]? = some x→openA x = false→a = (0,0)
 steps:∀ (i:Nat) (a x:Nat × Nat),ls[i]? = some a→cs[i]? = some x→openA x = true→a = uptoS ls (GlowP.sides X Y Z i) (sunA X Y Z cs i,lampA x) (GlowP.sides X Y Z i).length
 own:∀ (i:Nat) (x:Nat × Nat),cs[i]? = some x→lampA x≤15
theorem steps_q (X Y Z:Nat) (cs:List (Nat × Nat)):StepsQ X Y Z cs (lightA X Y Z cs):=by
 obtain ⟨s1,b1⟩:=lit_sol (X:=X) (Y:=Y) (Z:=Z) (sky_src X Y Z (cs.map openA)).1 (sky_src X Y Z (cs.map openA)).2
 obtain ⟨s3,b3⟩:=lit_sol (X:=X) (Y:=Y) (Z:=Z) (lamp_src cs).1 (lamp_src cs).2
 refine ⟨fun i a ha=>?_,fun i a x ha hx ho=>?_,fun i a x ha hx ho=>?_,fun i x hx=>?_⟩
 ·obtain ⟨_,rfl⟩:=lightA_get ha
  exact ⟨b1 i,b3 i⟩
 ·obtain ⟨_,rfl⟩:=lightA_get ha
  have hc:GlowP.clO (cs.map openA) i = false:=by
   rw [openL,hx]
   exact ho
  have e1:=s1 i
  have e2:=s3 i
  rw [if_neg (by rw [hc]; simp)] at e1 e2
  rw [e1,e2]
 ·obtain ⟨hi,rfl⟩:=lightA_get ha
  have hc:GlowP.clO (cs.map openA) i = true:=by
   rw [openL,hx]
   exact ho
  have e1:=s1 i
  have e2:=s3 i
  rw [if_pos hc] at e1 e2
  have hd:∀ s,s ∈ GlowP.sides X Y Z i→(lightA X Y Z cs).getD s (0,0) = (litA X Y Z (cs.map openA) (skyL X Y Z (cs.map openA)) s,litA X Y Z (cs.map openA) (cs.map lampA) s):=fun s hs=>by
   have hlt:=GlowP.sides_lt hi hs
   obtain ⟨b,hb⟩:∃ b,(lightA X Y Z cs)[s]? = some b:=⟨_,List.getElem?_eq_getElem (by rw [lightA_len]; exact hlt)⟩
   obtain ⟨_,rfl⟩:=lightA_get hb
   simp [List.getD,hb]
  have hfold:∀ (l:List Nat),(∀ s ∈ l,s ∈ GlowP.sides X Y Z i)→∀ q:Nat × Nat,l.foldl (fun q s=>(max q.1 (((lightA X Y Z cs).getD s (0,0)).1 - 1),max q.2 (((lightA X Y Z cs).getD s (0,0)).2 - 1))) q = (l.foldl (fun a s=>max a (litA X Y Z (cs.map openA) (skyL X Y Z (cs.map openA)) s - 1)) q.1,l.foldl (fun a s=>max a (litA X Y Z (cs.map openA) (cs.map lampA) s - 1)) q.2):=by
   intro l
   induction l with
   | nil=>exact fun _ q=>rfl
   | cons x r ih =>
    intro hl q
    rw [List.foldl_cons,ih (fun s hs=>hl s (List.mem_cons_of_mem _ hs)),hd x (hl x (by simp))]
    rfl
  unfold uptoS
  rw [List.take_length,hfold _ (fun s hs=>hs),fold_max _ (sunA X Y Z cs i,lampA x).1,fold_max _ (sunA X Y Z cs i,lampA x).2]
  have hside:GlowP.sideX X Y Z i = GlowP.sides X Y Z i:=by
   unfold GlowP.sideX
   rw [if_pos hi]
  unfold GlowP.inL at e1 e2
  rw [hside] at e1 e2
  replace e1:=show litA X Y Z (cs.map openA) (skyL X Y Z (cs.map openA)) i = max ((skyL X Y Z (cs.map openA)).getD i 0) _ from e1
  replace e2:=show litA X Y Z (cs.map openA) (cs.map lampA) i = max ((cs.map lampA).getD i 0) _ from e2
  have h1:(skyL X Y Z (cs.map openA)).getD i 0 = sunA X Y Z cs i:=by
   rw [skyL_getD,if_pos hi]
   rfl
  have h2:(cs.map lampA).getD i 0 = lampA x:=by
   rw [lampLD,hx]
  rw [h1] at e1
  rw [h2] at e2
  rw [e1,e2]
 ·have:=(lamp_src cs).1 i
  rw [lampLD,hx] at this
  exact this
end GlowW
end Go.Proofs.YtpimkdaikoclnaaDoor
namespace Go.Proofs.YtpimkdaikoclnaaDoor
open Go.RowKit
set_option linter.unusedVariables false
set_option linter.unusedSimpArgs false
namespace GlowW
open BlkP RowG KindP KindW
def rowF (n:Nat) (f:Nat→Nat):List Value:=(List.range n).map fun i=>.int .i64 (f i:Nat)
theorem rowF_get {n:Nat} {f:Nat→Nat} {i:Nat} (h:i < n):(rowF n f)[i]? = some (.int .i64 (f i:Nat)):=by simp [rowF,h]
theorem rowF_eq {n:Nat} {f g:Nat→Nat} (h:∀ i,i < n→f i = g i):rowF n f = rowF n g:=by
 unfold rowF
 apply List.map_congr_left
 intro i hi
 rw [h i (List.mem_range.1 hi)]
theorem rowF_set {n:Nat} {f g:Nat→Nat} {q v:Nat} (hq:q < n) (hv:g q = v) (h:∀ i,i < n→i ≠ q→f i = g i):(rowF n f).set q (.int .i64 (v:Nat)) = rowF n g:=by
 apply List.ext_getElem?
 intro i
 by_cases e:q = i
 ·subst e
  rw [List.getElem?_set_self (by simpa [rowF] using hq),rowF_get hq,hv]
 ·rw [List.getElem?_set_ne e]
  by_cases hi:i < n
  ·rw [rowF_get hi,rowF_get hi,h i hi (fun x=>e x.symm)]
  ·rw [List.getElem?_eq_none (by simp [rowF]; omega),List.getElem?_eq_none (by simp [rowF]; omega)]
def colF (S N:Nat) (cl:Nat→Bool) (q i:Nat):Nat:=if i % S < q then GlowP.skyO S N cl i else 0
def colG (S N:Nat) (cl:Nat→Bool) (q t i:Nat):Nat:=if i % S < q then GlowP.skyO S N cl i else if i % S = q∧t≤i / S then 15 else 0
section
variable {S Y N q t:Nat} {cl:Nat→Bool}
theorem mod_at {y:Nat} (hq:q < S):(y * S + q) % S = q∧(y * S + q) / S = y:=by
 have hS:0 < S:=by omega
 constructor
 ·rw [Nat.mul_comm,Nat.mul_add_mod,Nat.mod_eq_of_lt hq]
 ·rw [Nat.mul_comm,Nat.mul_add_div hS,Nat.div_eq_of_lt hq,Nat.add_zero]
theorem self_at {i:Nat}:i / S * S + i % S = i:=by rw [Nat.mul_comm]; exact Nat.div_add_mod i S
theorem div_lt_at {i:Nat} (hN:S * Y = N) (h:i < N):i / S < Y:=Nat.div_lt_of_lt_mul (by rw [hN]; exact h)
theorem at_lt_at {y:Nat} (hN:S * Y = N) (hq:q < S) (hy:y < Y):y * S + q < N:=by
 have:y * S + S≤Y * S:=by rw [← Nat.succ_mul]; exact Nat.mul_le_mul_right _ hy
 rw [← hN,Nat.mul_comm S Y]
 omega
theorem colG_start (hN:S * Y = N):∀ i,i < N→colG S N cl q Y i = colF S N cl q i:=fun i hi=>by
 have:=div_lt_at hN hi
 unfold colG colF
 rw [if_neg (show ¬ (i % S = q∧Y≤i / S) by omega)]
theorem colG_step (hq:q < S):colG S N cl q t (t * S + q) = 15∧∀ i,i ≠ t * S + q→colG S N cl q (t + 1) i = colG S N cl q t i:=by
 obtain ⟨h1,h2⟩:=mod_at (y:=t) hq
 refine ⟨?_,fun i hi=>?_⟩
 ·unfold colG
  rw [h1,h2,if_neg (by omega),if_pos ⟨rfl,Nat.le_refl _⟩]
 ·unfold colG
  by_cases a:i % S < q
  ·rw [if_pos a,if_pos a]
  ·rw [if_neg a,if_neg a]
   by_cases b:i % S = q∧t≤i / S
   ·by_cases c:t = i / S
    ·exfalso
     apply hi
     rw [c,← b.1]
     exact self_at.symm
    ·rw [if_pos b,if_pos ⟨b.1,by omega⟩]
   ·rw [if_neg b,if_neg (fun e=>b ⟨e.1,by omega⟩)]
theorem sky_col (hN:S * Y = N) (hq:q < S) (hcl:∀ y,t≤y→y < Y→cl (y * S + q) = true) {i:Nat} (hi:i < N) (hm:i % S = q) (ht:t≤i / S):GlowP.skyO S N cl i = 15:=by
 have hS:0 < S:=by omega
 have hy:=div_lt_at hN hi
 unfold GlowP.skyO
 rw [if_pos ((GlowP.sky_iff hS).2 ⟨?_,fun k hk=>?_⟩)]
 ·have:=hcl (i / S) ht hy
  rw [← hm,self_at] at this
  exact this
 ·have e:i + k * S = (i / S + k) * S + q:=by
   rw [Nat.add_mul,← hm]
   have:=self_at (S:=S) (i:=i)
   omega
  have hlt:i / S + k < Y:=by
   have:=div_lt_at hN hk
   rw [e,(mod_at hq).2] at this
   exact this
  rw [e]
  exact hcl _ (by omega) hlt
theorem colG_break (hN:S * Y = N) (hq:q < S) (ht:t < Y) (hcl:∀ y,t + 1≤y→y < Y→cl (y * S + q) = true) (hc:cl (t * S + q) = false):∀ i,i < N→colG S N cl q (t + 1) i = colF S N cl (q + 1) i:=fun i hi=>by
 have hS:0 < S:=by omega
 unfold colG colF
 by_cases a:i % S < q
 ·rw [if_pos a,if_pos (by omega)]
 ·rw [if_neg a]
  by_cases b:i % S = q
  ·rw [if_pos (show i % S < q + 1 by omega)]
   by_cases c:t + 1≤i / S
   ·rw [if_pos ⟨b,c⟩,sky_col hN hq hcl hi b c]
   ·rw [if_neg (fun e=>c e.2)]
    have e:i + (t - i / S) * S = t * S + q:=by
     have h1:=self_at (S:=S) (i:=i)
     have h2:(t - i / S) * S + i / S * S = t * S:=by rw [← Nat.add_mul]; congr 1; omega
     omega
    exact (sun_no (k:=t - i / S) hS (by rw [e]; exact at_lt_at hN hq ht) (by rw [e]; exact hc)).symm
  ·rw [if_neg (fun e=>b e.1),if_neg (by omega)]
theorem colG_end (hN:S * Y = N) (hq:q < S) (hcl:∀ y,0≤y→y < Y→cl (y * S + q) = true):∀ i,i < N→colG S N cl q 0 i = colF S N cl (q + 1) i:=fun i hi=>by
 unfold colG colF
 by_cases a:i % S < q
 ·rw [if_pos a,if_pos (by omega)]
 ·rw [if_neg a]
  by_cases b:i % S = q
  ·rw [if_pos ⟨b,Nat.zero_le _⟩,if_pos (by omega),sky_col hN hq hcl hi b (Nat.zero_le _)]
  ·rw [if_neg (fun e=>b e.1),if_neg (by omega)]
end
theorem rowF_zero (S N n:Nat) (cl:Nat→Bool):rowF n (colF S N cl 0) = List.replicate n (.int .i64 0):=by
 apply List.ext_getElem?
 intro i
 by_cases hi:i < n
 ·rw [rowF_get hi,List.getElem?_replicate,if_pos hi]
  rfl
 ·rw [List.getElem?_eq_none (by simp [rowF]; omega),List.getElem?_eq_none (by simp; omega)]
theorem rowF_sky {X Y Z n:Nat} (hX:1≤X) (hZ:1≤Z) (hn:X * Y * Z = n) (O:List Bool):rowF n (colF (X * Z) n (GlowP.clO O) (Z * X)) = (skyL X Y Z O).map i64v:=by
 subst hn
 unfold skyL rowF
 rw [List.map_map]
 apply List.map_congr_left
 intro i _
 have:0 < X * Z:=Nat.mul_pos hX hZ
 unfold colF
 rw [if_pos (by rw [Nat.mul_comm Z X]; exact Nat.mod_lt _ this)]
 rfl
def SzRel (w0:World) (g n m:Nat) (f:Nat→List Value) (v:Value) (W:World):Prop:=∃ y:Nat,v = .int .i64 y∧y≤m∧Blk W g 3 (f y)∧Below w0.heap.size w0 W
def SyRel (w0:World) (g n S Y q:Nat) (cl:Nat→Bool) (v:Value) (W:World):Prop:=∃ (t:Nat) (s:Int),v = .int .i64 s∧s = (t:Int) - 1∧t≤Y∧(∀ y,t≤y→y < Y→cl (y * S + q) = true)∧Blk W g 3 (rowF n (colG S n cl q t))∧Below w0.heap.size w0 W
set_option maxRecDepth 100000 in
set_option maxHeartbeats 16000000 in
theorem sources_c {w:World} {X Y Z n c bb oo:Nat} {cs:List (Nat × Nat)} (hX:1≤X∧X≤256) (hY:1≤Y∧Y≤256) (hZ:1≤Z∧Z≤256) (hn:X * Y * Z = n) (hn2:n≤6000)
  (hR:Rd enc2 w (.slice (some ⟨bb,oo,none⟩) n c) cs) (hcs:n = cs.length) :
  Calls Tryd.prog 29 #[.agg #[.int .i64 X,.int .i64 Y,.int .i64 Z,.slice (some ⟨bb,oo,none⟩) n c]] w (WholeI w n ((skyL X Y Z (cs.map openA)).map i64v)):=by
 have HN:=Lib.hid hn
 have HR:=Lib.hid hR
 have HC:=Lib.hid hcs
 obtain ⟨cl,hcl⟩:∃ cl,GlowP.clO (cs.map openA) = cl:=⟨_,rfl⟩
 obtain ⟨S,hS⟩:∃ S,X * Z = S:=⟨_,rfl⟩
 have HS:=Lib.hid hS
 have HSN:=Lib.hid (show S * Y = n by rw [← hS,← hn]; ac_rfl)
 have HCLO:=Lib.hid (show ∀ (u:Nat) (k l:Nat),cs[u]? = some (k,l)→cl u = openA (k,l) from fun u k l h=>by rw [← hcl,openL,h])
 have HANS:=Lib.hid (show rowF n (colF S n cl (Z * X)) = (skyL X Y Z (cs.map openA)).map i64v by rw [← hcl,← hS]; exact rowF_sky hX.1 hZ.1 hn _)
 rw [← HANS.out]
 clear hn hR hcs hcl hS
 go_enter Tryd.func29,Tryd.ntmps29
 go_wp2_with ((with_reducible refine at_slot 11 ?_); refine Classical.byContradiction (fun hG=>?_))
 refine hG ?_
 clear hG
 refine list_named (fun W=>W.cell? ⟨w.heap.size,0,none⟩ = some (.int .i64 X)∧W.cell? ⟨w.heap.size,1,none⟩ = some (.int .i64 Y)∧W.cell? ⟨w.heap.size,2,none⟩ = some (.int .i64 Z)∧W.cell? ⟨w.heap.size,3,none⟩ = some (.slice (some ⟨bb,oo,none⟩) n c)∧w.heap.size < W.heap.size∧Below w.heap.size w W) (by (refine ⟨?_,?_,?_,?_,?_,by (repeat' (first | (with_reducible exact Below.refl _ _) | (with_reducible refine Below.setCell ?_ (by (first | omega | (simp; done) | (simp; omega))) _) | (with_reducible refine Below.alloc ?_ (by (first | omega | (simp; done) | (simp; omega))) _) | (with_reducible refine Below.drew ?_) | (with_reducible refine below_drewN ?_ _)))⟩); all_goals (repeat' (first | (with_reducible assumption) | (with_reducible refine HeldP.c_drew ?_) | (with_reducible refine HeldP.c_drewN ?_) | (with_reducible refine HeldP.c_same (by omega) ?_) | (with_reducible refine HeldP.c_other ?_ ?_) | (with_reducible refine HeldP.c_new (by first | omega | (simp; done) | (simp; omega)) ?_) | (with_reducible refine HeldP.c_alloc ?_ ?_) | (with_reducible refine HeldP.e_drew ?_) | (with_reducible refine HeldP.e_drewN ?_) | (with_reducible refine HeldP.e_set ?_) | (with_reducible refine HeldP.e_new (by first | omega | (simp; done) | (simp; omega)) ⟨_,rfl⟩) | (with_reducible refine HeldP.e_alloc ?_ ?_) | (with_reducible refine HeldP.f_drew ?_) | (with_reducible refine HeldP.f_drewN ?_) | (with_reducible refine HeldP.f_set ?_) | (with_reducible refine HeldP.f_new (by first | omega | (simp; done) | (simp; omega))) | (with_reducible refine HeldP.f_alloc ?_ ?_) | (with_reducible refine HeldP.s_drew ?_) | (with_reducible refine HeldP.s_drewN ?_) | (with_reducible refine HeldP.s_set ?_) | (with_reducible refine HeldP.s_new (by first | omega | (simp; done) | (simp; omega))) | (with_reducible refine HeldP.s_alloc ?_) | (with_reducible exact ⟨_,by assumption⟩) | omega | (intro e; simp at e; done) | (intro e; simp at e; omega) | (exact rfl) | (simp; done) | (simp; omega)))) ?_
 rintro wk ⟨k0,k1,k2,k3,hzw,hb0⟩
 have KK0:=Lib.hid k0
 have KK1:=Lib.hid k1
 have KK2:=Lib.hid k2
 have KK3:=Lib.hid k3
 have HB0:=Lib.hid hb0
 have HRK:=Lib.hid (HR.out.below hb0)
 clear hb0 k0 k1 k2 k3
 refine wp_makeI _ rfl _ _ rfl n rfl rfl (by omega) ?_
 intro w2 hd2 hb2
 obtain ⟨gn,hgn⟩:∃ gn,wk.heap.size = gn:=⟨_,rfl⟩
 rw [hgn] at hd2 ⊢
 have HD2:=Lib.hid (show Blk w2 gn 3 (rowF n (colF S n cl 0)) by rw [rowF_zero]; exact hd2)
 have HB2:=Lib.hid hb2
 have hgn1:wk.heap.size≤gn:=by omega
 have hwgn:w.heap.size ≠ gn:=by omega
 clear hd2 hb2 hgn
 go_wp2_with fail
 go_loopw [4] (SzRel wk gn n Z (fun z=>rowF n (colF S n cl (z * X)))) (fun v _=>Z - (intOf v).toNat)
 case atStart=>exact ⟨0,rfl,by omega,by simp only [Nat.zero_mul]; exact HD2.out,HB2.out⟩
 case round =>
  obtain ⟨z,rfl,hz,hd,hb⟩:=hrel
  have HDZ:=Lib.hid hd
  have HBZ:=Lib.hid hb
  have k0:wr.cell? ⟨w.heap.size,0,none⟩ = some (.int .i64 X):=(hb.cell (p:=⟨w.heap.size,0,none⟩) hzw).trans KK0.out
  have k1:wr.cell? ⟨w.heap.size,1,none⟩ = some (.int .i64 Y):=(hb.cell (p:=⟨w.heap.size,1,none⟩) hzw).trans KK1.out
  have k2:wr.cell? ⟨w.heap.size,2,none⟩ = some (.int .i64 Z):=(hb.cell (p:=⟨w.heap.size,2,none⟩) hzw).trans KK2.out
  have k3:wr.cell? ⟨w.heap.size,3,none⟩ = some (.slice (some ⟨bb,oo,none⟩) n c):=(hb.cell (p:=⟨w.heap.size,3,none⟩) hzw).trans KK3.out
  clear hd hb
  by_cases hzZ:z < Z
  ·have hzI:(z:Int) < Z:=by omega
   go_wp2_with fail
   go_loopw [5] (SzRel wk gn n X (fun x=>rowF n (colF S n cl (z * X + x)))) (fun v _=>X - (intOf v).toNat)
   case atStart=>exact ⟨0,rfl,by omega,by simp only [Nat.add_zero]; exact HDZ.out,HBZ.out⟩
   case round =>
    clear k0 k1 k2 k3
    obtain ⟨x,rfl,hx,hd,hb⟩:=hrel
    have HDX:=Lib.hid hd
    have HBX:=Lib.hid hb
    have k0:wr.cell? ⟨w.heap.size,0,none⟩ = some (.int .i64 X):=(hb.cell (p:=⟨w.heap.size,0,none⟩) hzw).trans KK0.out
    have k1:wr.cell? ⟨w.heap.size,1,none⟩ = some (.int .i64 Y):=(hb.cell (p:=⟨w.heap.size,1,none⟩) hzw).trans KK1.out
    have k2:wr.cell? ⟨w.heap.size,2,none⟩ = some (.int .i64 Z):=(hb.cell (p:=⟨w.heap.size,2,none⟩) hzw).trans KK2.out
    have k3:wr.cell? ⟨w.heap.size,3,none⟩ = some (.slice (some ⟨bb,oo,none⟩) n c):=(hb.cell (p:=⟨w.heap.size,3,none⟩) hzw).trans KK3.out
    clear hd hb
    by_cases hxX:x < X
    ·have hxI:(x:Int) < X:=by omega
     obtain ⟨q,hq⟩:∃ q,z * X + x = q:=⟨_,rfl⟩
     have hqS:q < S:=by
      have:(z + 1) * X≤Z * X:=Nat.mul_le_mul_right _ hzZ
      rw [Nat.succ_mul] at this
      rw [← HS.out,Nat.mul_comm X Z]
      omega
     have HQ:=Lib.hid hq
     have HNX:=Lib.hid (show z * X + (x + 1) = q + 1 by omega)
     have HDQ:=Lib.hid (show Blk wr gn 3 (rowF n (colG S n cl q Y)) by
      have h:Blk wr gn 3 (rowF n (colF S n cl (z * X + x))):=HDX.out
      rw [hq,← rowF_eq (colG_start HSN.out)] at h
      exact h)
     clear hq
     go_wp2_with fail
     go_loopw [6] (SyRel wk gn n S Y q cl) (fun v _=>(intOf v + 1).toNat)
     case atStart=>exact ⟨Y,_,rfl,rfl,Nat.le_refl _,fun y h1 h2=>by omega,HDQ.out,HBX.out⟩
     case round =>
      clear k0 k1 k2 k3
      obtain ⟨t,s,rfl,hs,ht,hall,hd,hb⟩:=hrel
      have HDT:=Lib.hid hd
      have HBT:=Lib.hid hb
      have HALL:=Lib.hid hall
      have hdl:=hd.lt
      have hrl:=hb.size
      have k0:wr.cell? ⟨w.heap.size,0,none⟩ = some (.int .i64 X):=(hb.cell (p:=⟨w.heap.size,0,none⟩) hzw).trans KK0.out
      have k1:wr.cell? ⟨w.heap.size,1,none⟩ = some (.int .i64 Y):=(hb.cell (p:=⟨w.heap.size,1,none⟩) hzw).trans KK1.out
      have k2:wr.cell? ⟨w.heap.size,2,none⟩ = some (.int .i64 Z):=(hb.cell (p:=⟨w.heap.size,2,none⟩) hzw).trans KK2.out
      have k3:wr.cell? ⟨w.heap.size,3,none⟩ = some (.slice (some ⟨bb,oo,none⟩) n c):=(hb.cell (p:=⟨w.heap.size,3,none⟩) hzw).trans KK3.out
      by_cases ht0:t = 0
      ·subst ht0
       have hsI:s < 0:=by omega
       clear hd hb hall
       go_wp2_with fail
       go_roundw
       case rel=>exact ⟨x + 1,by go_num,by omega,by show Blk _ gn 3 (rowF n (colF S n cl (z * X + (x + 1)))); rw [HNX.out,← rowF_eq (colG_end HSN.out hqS HALL.out)]; exact HDT.out,HBT.out⟩
       case measure=>first | (simp [intOf]; done) | (simp [intOf]; omega)
      ·obtain ⟨y,rfl⟩:∃ y,t = y + 1:=⟨t - 1,by omega⟩
       obtain rfl:s = (y:Int):=by omega
       have hyY:y < Y:=by omega
       obtain ⟨i,hi⟩:∃ i,(y * Z + z) * X + x = i:=⟨_,rfl⟩
       have hiq:y * S + q = i:=by
        rw [← hi,← HS.out,← HQ.out,Nat.add_mul,Nat.mul_assoc,Nat.mul_comm Z X]
        omega
       have hin:i < n:=by rw [← hiq]; exact at_lt_at HSN.out hqS hyY
       have HIQ:=Lib.hid hiq
       obtain ⟨p1,hp1⟩:∃ p,y * Z = p:=⟨_,rfl⟩
       obtain ⟨p2,hp2⟩:∃ p,p1 + z = p:=⟨_,rfl⟩
       obtain ⟨p3,hp3⟩:∃ p,p2 * X = p:=⟨_,rfl⟩
       have e1:(y:Int) * (Z:Int) = (p1:Int):=by rw [← hp1]; simp
       have e2:(p1:Int) + (z:Int) = (p2:Int):=by omega
       have e3:(p2:Int) * (X:Int) = (p3:Int):=by rw [← hp3]; simp
       rw [hp1,hp2,hp3] at hi
       have e4:(p3:Int) + (x:Int) = (i:Int):=by omega
       have l3:p2≤p3:=by rw [← hp3]; exact Nat.le_mul_of_pos_right _ (by omega)
       have l1:p3≤i:=by omega
       obtain ⟨⟨kk,ll⟩,hcx⟩:∃ x,cs[i]? = some x:=⟨_,List.getElem?_eq_getElem (by have:=HC.out; omega)⟩
       obtain ⟨b',o',hbo',hblw,c0,c1⟩:=rd2 (HRK.out.below hb) hcx
       obtain ⟨rfl,rfl⟩:bb = b'∧oo = o':=by injection hbo' with hbo'; injection hbo' with e1 e2 e3; exact ⟨e1,e2⟩
       obtain ⟨oa,hoa⟩:∃ oa,openA (kk,ll) = oa:=⟨_,rfl⟩
       have HOA:=Lib.hid hoa
       have HCI:=Lib.hid (show cl (y * S + q) = oa by rw [hiq,HCLO.out i kk ll hcx]; exact hoa)
       have hiI:(i:Int) < n:=by omega
       have hi0:(0:Int)≤(i:Int):=by omega
       have hy0:(0:Int)≤(y:Int):=by omega
       clear hd hb hall hi hp1 hp2 hp3 hcx hbo' hoa hiq hs
       cases oa
       ·go_wp2_with (go_at_call 46; refine (rclear_c HOA.out).mono ?_; rintro e w5 ⟨rfl,hb5⟩; have HB5:=Lib.hid hb5; clear hb5)
        go_roundw
        case rel=>exact ⟨x + 1,by go_num,by omega,by show Blk _ gn 3 (rowF n (colF S n cl (z * X + (x + 1)))); rw [HNX.out,← rowF_eq (colG_break HSN.out hqS hyY HALL.out HCI.out)]; exact HDT.out.below HB5.out,HBT.out.trans (HB5.out.mono HBT.out.size)⟩
        case measure=>first | (simp [intOf]; done) | (simp [intOf]; omega)
       ·go_wp2_with (go_at_call 46; refine Classical.byContradiction (fun hG=>?_))
        refine hG ?_
        clear hG
        refine (rclear_c HOA.out).mono ?_
        rintro e w5 ⟨rfl,hb5⟩
        have hd5:=HDT.out.below hb5
        have dc:w5.cell? ⟨gn,i,none⟩ = some (.int .i64 (colG S n cl q (y + 1) i:Nat)):=hd5.cell (rowF_get hin)
        have df:=hd5.frozen i
        have HD5:=Lib.hid hd5
        have HB5:=Lib.hid (bel_th HBT.out hb5 HBT.out.size)
        clear hb5 hd5 c0 c1 e1 e2 e3 e4 k0 k1 k2 k3
        go_wp2_with fail
        go_roundw
        case rel =>
         refine ⟨y,(y:Int) - 1,by first | rfl | go_num,rfl,by omega,fun y' h1 h2=>?_,?_,HB5.out.setCell hgn1 _⟩
         ·by_cases e:y' = y
          ·subst e
           exact HCI.out
          ·exact HALL.out y' (by omega) h2
         ·obtain ⟨g1,g2⟩:=colG_step (S:=S) (N:=n) (cl:=cl) (t:=y) hqS
          refine HD5.out.setTo ?_
          exact rowF_set (v:=15) hin (by rw [← HIQ.out]; exact g1) (fun i' _ hne=>g2 i' (by rw [HIQ.out]; exact hne))
        case measure=>first | (simp [intOf]; done) | (simp [intOf]; omega)
    ·obtain rfl:x = X:=by omega
     go_wp2_with fail
     go_roundw
     case rel=>exact ⟨z + 1,by go_num,by omega,by have h:=HDX.out; show Blk _ gn 3 (rowF n (colF S n cl ((z + 1) * x))); rw [show (z + 1) * x = z * x + x by rw [Nat.succ_mul]]; exact h,HBX.out⟩
     case measure=>first | (simp [intOf]; done) | (simp [intOf]; omega)
  ·obtain rfl:z = Z:=by omega
   go_wp2_with fail
   go_ret
   exact ⟨gn,rfl,HDZ.out,HB0.out.trans (HBZ.out.mono HB0.out.size)⟩
end GlowW
end Go.Proofs.YtpimkdaikoclnaaDoor
namespace Go.Proofs.YtpimkdaikoclnaaDoor
open Go.RowKit
set_option linter.unusedVariables false
set_option linter.unusedSimpArgs false
namespace GlowW
open BlkP RowG KindP KindW
def v2c (y:Nat × Nat):Array Value:=#[.int .u8 (y.1:Int),.int .u8 (y.2:Int)]
theorem run_pushL {w0:World} {B:Nat} {v:Value} {l:List (Nat × Nat)} {y:Nat × Nat} (hown:RowG.Own enc2 43 w0 B v l) (hl:l.length≤1000000) (hB:B≤w0.heap.size) (ty:TypeId) :
  ∃ v' w',(Builtin.append_ #[37,37] ty #[v,.slice (some ⟨w0.heap.size,0,none⟩) 1 1]).run Tryd.prog (w0.alloc (.cells (v2c y) 43)) = .ok v' w' ∧
   RowG.Own enc2 43 w' B v' (l ++ [y])∧w0.grownBy w' v.ownBlock:=by
 obtain ⟨i,hi,hz,hs1,hby⟩:=info_parts infoLight
 have hm:maxLen = 9223372036854775807:=rfl
 have hown2:(w0.alloc (.cells (v2c y) 43)).ownsRow B 43 2 v l.length (flat enc2 l):=hown.alloc _
 have hc0:(w0.alloc (.cells (v2c y) 43)).cell? ⟨w0.heap.size,0,none⟩ = some (u8v y.1):=(cell_of_row _ _ _ _ _ _ (heap_alloc_new w0 _)).trans rfl
 have hc1:(w0.alloc (.cells (v2c y) 43)).cell? ⟨w0.heap.size,1,none⟩ = some (u8v y.2):=(cell_of_row _ _ _ _ _ _ (heap_alloc_new w0 _)).trans rfl
 obtain ⟨v',w',hr,h2,h3,_,_⟩:=run_append_own_at (P:=Tryd.prog) (w0.alloc (.cells (v2c y) 43)) B 37 ty 43 i _ 2 2 underLights hi hz hs1 hby rfl (by omega) v l.length (flat enc2 l) hown2 ⟨w0.heap.size,0,none⟩ 1 1 [u8v y.1,u8v y.2] rfl (fun j u hu=>by
  match j,hu with
  | 0,hu =>
   have:u8v y.1 = u:=by simpa using hu
   subst this
   exact hc0
  | 1,hu =>
   have:u8v y.2 = u:=by simpa using hu
   subst this
   exact hc1) (fun u hu=>by
  simp only [List.mem_cons,List.not_mem_nil,or_false] at hu
  rcases hu with rfl | rfl <;> rfl) (by omega) (by omega) (by simp; omega)
 have ho:RowG.Own enc2 43 w' B v' (l ++ [y]):=by
  unfold RowG.Own
  rw [flat_app,List.length_append]
  exact h2
 exact ⟨v',w',hr,ho,World.grownBy.trans (World.grownBy_alloc w0 _ _) h3⟩
section
variable {w0:World} {ops:Array Oper} {rest:List Oper} {o:Oper} {a:Act} {Q:Exit→Act→World→Prop}
theorem step_pushL {K:Act→World→Prop} {E:Prop} {W:World} (hgd:o.guard = none) (s x:Operand) (ho:o.op = .call { callee:=.builtin .append,args:=#[s,x],argTypes:=#[37,37] }) {B:Nat} {v:Value} {l:List (Nat × Nat)} {y:Nat × Nat}
  (hW:W = w0.alloc (.cells (v2c y) 43)) (hs:a.eval s = v) (hown:RowG.Own enc2 43 w0 B v l) (hx:a.eval x = .slice (some ⟨w0.heap.size,0,none⟩) 1 1) (hl:l.length≤1000000) (hB:B≤w0.heap.size)
  (h:∀ g c w',RowG.Own enc2 43 w' B (.slice g (l.length + 1) c) (l ++ [y])→w0.grownBy w' v.ownBlock→K (a.put o.dst (.slice g (l.length + 1) c)) w') :
  if Region.wanted o (yielded ops a.tmps) = true then Oper.wp Tryd.prog o a W K Q else E:=by
 subst hW
 have hw:Region.wanted o (yielded ops a.tmps) = true:=by simp [Region.wanted,hgd]
 rw [if_pos hw]
 obtain ⟨v',w',hr,h2,h3⟩:=run_pushL (y:=y) hown hl hB o.type
 obtain ⟨A,c,rfl,_,_,_⟩:=h2.form (n:=l.length + 1) (by simp)
 unfold Oper.wp execOp
 simp only [ho,resolve,invoke,builtin,Sem.run_bind,Sem.run_pure,Result.andThen_ok,List.map_toArray,List.map_cons,List.map_nil,hs,hx,hr]
 exact h A c w' h2 h3
end
theorem r_lamp_b {k l v:Nat} (h:lamp k l = v) (w:World):Calls Tryd.prog 47 #[.agg #[.int .u8 k,.int .u8 l]] w fun e w'=>e = .returned (.int .u8 v)∧Below w.heap.size w w':=h ▸ r_lamp k l w
theorem small8 {a:Nat} (h:a≤15):IntKind.u8.wrap (a:Int) = (a:Int):=by rw [IntKind.wrap_u8]; omega
def OutRel (w7:World) (n:Nat) (ls:List (Nat × Nat)) (v8 v9:Value) (W:World):Prop:=∃ j:Nat,v9 = .int .i64 j∧j≤n∧RowG.Own enc2 43 W w7.heap.size v8 (ls.take j)∧Below w7.heap.size w7 W
def OwnL (w:World) (ls:List (Nat × Nat)) (e:Ending) (w':World):Prop:=∃ v,e = .returned v∧RowG.Own enc2 43 w' w.heap.size v ls∧Below w.heap.size w w'
set_option maxRecDepth 100000 in
set_option maxHeartbeats 16000000 in
theorem rlight_c {w:World} {X Y Z n c bb oo:Nat} {cs:List (Nat × Nat)} (hX:1≤X∧X≤256) (hY:1≤Y∧Y≤256) (hZ:1≤Z∧Z≤256) (hn:X * Y * Z = n) (hn2:n≤6000)
  (hR:Rd enc2 w (.slice (some ⟨bb,oo,none⟩) n c) cs) (hcs:n = cs.length) :
  Calls Tryd.prog 30 #[.agg #[.int .i64 X,.int .i64 Y,.int .i64 Z,.slice (some ⟨bb,oo,none⟩) n c]] w (OwnL w (lightA X Y Z cs)):=by
 have HN:=Lib.hid hn
 have HR:=Lib.hid hR
 have HC:=Lib.hid hcs
 obtain ⟨ls,hls⟩:∃ ls,lightA X Y Z cs = ls:=⟨_,rfl⟩
 obtain ⟨LS,hLS⟩:∃ L,rdL X Y Z n (cs.map openA) (skyL X Y Z (cs.map openA)) 15 = L:=⟨_,rfl⟩
 obtain ⟨LM,hLM⟩:∃ L,rdL X Y Z n (cs.map openA) (cs.map lampA) 15 = L:=⟨_,rfl⟩
 have HLS:=Lib.hid hLS
 have HLM:=Lib.hid hLM
 have HLL:=Lib.hid (show ls.length = n by rw [← hls,lightA_len,hn])
 have HLINK:=Lib.hid (show ∀ (j a b:Nat),ls[j]? = some (a,b)→LS[j]? = some a∧LM[j]? = some b from fun j a b h=>by
  rw [← hls] at h
  obtain ⟨hj,e⟩:=lightA_get h
  rw [hn] at hj
  injection e with e1 e2
  rw [← hLS,← hLM,rdL_get hj,rdL_get hj,e1,e2]
  exact ⟨rfl,rfl⟩)
 have HTOP:=Lib.hid (show ∀ (j a b:Nat),ls[j]? = some (a,b)→a≤15∧b≤15 from fun j a b h=>(steps_q X Y Z cs).top j (a,b) (by rw [hls]; exact h))
 have HSK:=Lib.hid (show ∀ i,(skyL X Y Z (cs.map openA)).getD i 0≤15 from (sky_src X Y Z (cs.map openA)).1)
 have HLP:=Lib.hid (show ∀ i,(cs.map lampA).getD i 0≤15 from (lamp_src cs).1)
 have HSKL:=Lib.hid (show (skyL X Y Z (cs.map openA)).length = n by simp [skyL,hn])
 have HLPL:=Lib.hid (show (cs.map lampA).length = n by rw [List.length_map]; omega)
 obtain ⟨F,hF⟩:∃ F:List Value,(cs.map lampA).map i64v = F:=⟨_,rfl⟩
 have HF:=Lib.hid hF
 have HFL:=Lib.hid (show F.length = n by rw [← hF,List.length_map,List.length_map]; omega)
 rw [hls]
 clear hn hR hcs hls hLS hLM hF
 go_enter Tryd.func30,Tryd.ntmps30
 go_wp2_with ((with_reducible refine at_slot 13 ?_); refine Classical.byContradiction (fun hG=>?_))
 refine hG ?_
 clear hG
 refine list_named (fun W=>W.cell? ⟨w.heap.size,0,none⟩ = some (.int .i64 X)∧W.cell? ⟨w.heap.size,1,none⟩ = some (.int .i64 Y)∧W.cell? ⟨w.heap.size,2,none⟩ = some (.int .i64 Z)∧W.cell? ⟨w.heap.size,3,none⟩ = some (.slice (some ⟨bb,oo,none⟩) n c)∧w.heap.size < W.heap.size∧Below w.heap.size w W) (by (refine ⟨?_,?_,?_,?_,?_,by (repeat' (first | (with_reducible exact Below.refl _ _) | (with_reducible refine Below.setCell ?_ (by (first | omega | (simp; done) | (simp; omega))) _) | (with_reducible refine Below.alloc ?_ (by (first | omega | (simp; done) | (simp; omega))) _) | (with_reducible refine Below.drew ?_) | (with_reducible refine below_drewN ?_ _)))⟩); all_goals (repeat' (first | (with_reducible assumption) | (with_reducible refine HeldP.c_drew ?_) | (with_reducible refine HeldP.c_drewN ?_) | (with_reducible refine HeldP.c_same (by omega) ?_) | (with_reducible refine HeldP.c_other ?_ ?_) | (with_reducible refine HeldP.c_new (by first | omega | (simp; done) | (simp; omega)) ?_) | (with_reducible refine HeldP.c_alloc ?_ ?_) | (with_reducible refine HeldP.e_drew ?_) | (with_reducible refine HeldP.e_drewN ?_) | (with_reducible refine HeldP.e_set ?_) | (with_reducible refine HeldP.e_new (by first | omega | (simp; done) | (simp; omega)) ⟨_,rfl⟩) | (with_reducible refine HeldP.e_alloc ?_ ?_) | (with_reducible refine HeldP.f_drew ?_) | (with_reducible refine HeldP.f_drewN ?_) | (with_reducible refine HeldP.f_set ?_) | (with_reducible refine HeldP.f_new (by first | omega | (simp; done) | (simp; omega))) | (with_reducible refine HeldP.f_alloc ?_ ?_) | (with_reducible refine HeldP.s_drew ?_) | (with_reducible refine HeldP.s_drewN ?_) | (with_reducible refine HeldP.s_set ?_) | (with_reducible refine HeldP.s_new (by first | omega | (simp; done) | (simp; omega))) | (with_reducible refine HeldP.s_alloc ?_) | (with_reducible exact ⟨_,by assumption⟩) | omega | (intro e; simp at e; done) | (intro e; simp at e; omega) | (exact rfl) | (simp; done) | (simp; omega)))) ?_
 rintro wk ⟨k0,k1,k2,k3,hzw,hb0⟩
 have KK0:=Lib.hid k0
 have KK1:=Lib.hid k1
 have KK2:=Lib.hid k2
 have KK3:=Lib.hid k3
 have HB0:=Lib.hid hb0
 have HRK:=Lib.hid (HR.out.below hb0)
 clear hb0 k0 k1 k2 k3
 refine wp_makeI _ rfl _ _ rfl n rfl rfl (by omega) ?_
 intro w2 hd2 hb2
 obtain ⟨gl,hgl⟩:∃ gl,wk.heap.size = gl:=⟨_,rfl⟩
 rw [hgl] at hd2 ⊢
 have HD2:=Lib.hid (show Blk w2 gl 3 (fillV F (.int .i64 0) 0) by rw [fillV_zero,HFL.out]; exact hd2)
 have HB2:=Lib.hid hb2
 have hgl1:wk.heap.size≤gl:=by omega
 clear hd2 hb2 hgl
 go_wp2_with fail
 go_loopw [4] (FlRel wk gl F n (fun j=>j)) (fun v _=>n - (intOf v).toNat)
 case atStart=>exact ⟨0,rfl,by omega,HD2.out,HB2.out⟩
 case round =>
  obtain ⟨j,rfl,hj,hd,hb⟩:=hrel
  have HD:=Lib.hid (show Blk wr gl 3 (fillV F (.int .i64 0) j) from hd)
  have HB:=Lib.hid hb
  have k0:wr.cell? ⟨w.heap.size,0,none⟩ = some (.int .i64 X):=(hb.cell (p:=⟨w.heap.size,0,none⟩) hzw).trans KK0.out
  have k1:wr.cell? ⟨w.heap.size,1,none⟩ = some (.int .i64 Y):=(hb.cell (p:=⟨w.heap.size,1,none⟩) hzw).trans KK1.out
  have k2:wr.cell? ⟨w.heap.size,2,none⟩ = some (.int .i64 Z):=(hb.cell (p:=⟨w.heap.size,2,none⟩) hzw).trans KK2.out
  have k3:wr.cell? ⟨w.heap.size,3,none⟩ = some (.slice (some ⟨bb,oo,none⟩) n c):=(hb.cell (p:=⟨w.heap.size,3,none⟩) hzw).trans KK3.out
  by_cases hlt:j < n
  ·have hjI:(j:Int) < n:=by omega
   have hj0:(0:Int)≤(j:Int):=by omega
   obtain ⟨⟨kk,ll⟩,hx⟩:∃ x,cs[j]? = some x:=⟨_,List.getElem?_eq_getElem (by have:=HC.out; omega)⟩
   obtain ⟨b',o',hbo',hblw,c0,c1⟩:=rd2 (HRK.out.below hb) hx
   obtain ⟨rfl,rfl⟩:bb = b'∧oo = o':=by injection hbo' with hbo'; injection hbo' with e1 e2 e3; exact ⟨e1,e2⟩
   obtain ⟨lm,hlm⟩:∃ lm,lampA (kk,ll) = lm:=⟨_,rfl⟩
   have hlm15:lm≤15:=by rw [← hlm]; exact (steps_q X Y Z cs).own j (kk,ll) hx
   have HLMJ:=Lib.hid (show lamp kk ll = lm from hlm)
   have HFJ:=Lib.hid (show F[j]? = some (.int .i64 lm) by rw [← HF.out,List.getElem?_map,List.getElem?_map,hx]; show some (i64v (lampA (kk,ll))) = _; rw [hlm]; rfl)
   clear hx hbo' hlm hd hb
   go_wp2_with (go_at_call 47; refine Classical.byContradiction (fun hG=>?_))
   refine hG ?_
   clear hG
   refine (r_lamp_b HLMJ.out _).mono ?_
   rintro e w5 ⟨rfl,hb5⟩
   have hd5:=HD.out.below hb5
   have dc:w5.cell? ⟨gl,j,none⟩ = some (.int .i64 0):=hd5.cell (fillV_get (by rw [HFL.out]; exact hlt))
   have df:=hd5.frozen j
   have HD5:=Lib.hid hd5
   have HB5:=Lib.hid (bel_th HB.out hb5 HB.out.size)
   clear hb5 hd5 c0 c1 k0 k1 k2 k3
   go_wp2_with fail
   go_roundw
   case rel=>exact ⟨j + 1,by go_num,by omega,HD5.out.setTo (fillV_set HFJ.out),HB5.out.setCell hgl1 _⟩
   case measure=>first | (simp [intOf]; done) | (simp [intOf]; omega)
  ·obtain rfl:n = j:=by omega
   have HD3:=Lib.hid (show Blk wr gl 3 ((cs.map lampA).map i64v) by
    have h:=HD.out
    rw [fillV_all (by rw [HFL.out]; exact Nat.le_refl _),← HF.out] at h
    exact h)
   have HRr:=Lib.hid (HRK.out.below hb)
   clear hd hb
   go_wp2_with (go_at_call 29; refine Classical.byContradiction (fun hG=>?_))
   refine hG ?_
   clear hG
   refine (sources_c hX hY hZ HN.out hn2 HRr.out HC.out).mono ?_
   rintro e w5 ⟨g5,rfl,hg5,hb5⟩
   have HG5:=Lib.hid hg5
   have HBR5:=Lib.hid (bel_th HB.out hb5 HB.out.size)
   have HR5:=Lib.hid (HRr.out.below hb5)
   have HD5:=Lib.hid (HD3.out.below hb5)
   have hb:=HBR5.out
   clear k0 k1 k2 k3 hb5 hg5
   have k0:w5.cell? ⟨w.heap.size,0,none⟩ = some (.int .i64 X):=(hb.cell (p:=⟨w.heap.size,0,none⟩) hzw).trans KK0.out
   have k1:w5.cell? ⟨w.heap.size,1,none⟩ = some (.int .i64 Y):=(hb.cell (p:=⟨w.heap.size,1,none⟩) hzw).trans KK1.out
   have k2:w5.cell? ⟨w.heap.size,2,none⟩ = some (.int .i64 Z):=(hb.cell (p:=⟨w.heap.size,2,none⟩) hzw).trans KK2.out
   have k3:w5.cell? ⟨w.heap.size,3,none⟩ = some (.slice (some ⟨bb,oo,none⟩) n c):=(hb.cell (p:=⟨w.heap.size,3,none⟩) hzw).trans KK3.out
   clear hb
   go_wp2_with (go_at_call 48; refine Classical.byContradiction (fun hG=>?_))
   refine hG ?_
   clear hG
   refine (rounds_c hX hY hZ HN.out hn2 HR5.out HC.out HG5.out HSKL.out HSK.out).mono ?_
   rintro e w6 ⟨g6,rfl,hg6,hb6⟩
   rw [HLS.out] at hg6
   have HG6:=Lib.hid hg6
   have HBR6:=Lib.hid (bel_th HBR5.out hb6 HBR5.out.size)
   have HR6:=Lib.hid (HR5.out.below hb6)
   have HD6:=Lib.hid (HD5.out.below hb6)
   have hb:=HBR6.out
   clear k0 k1 k2 k3 hb6 hg6
   have k0:w6.cell? ⟨w.heap.size,0,none⟩ = some (.int .i64 X):=(hb.cell (p:=⟨w.heap.size,0,none⟩) hzw).trans KK0.out
   have k1:w6.cell? ⟨w.heap.size,1,none⟩ = some (.int .i64 Y):=(hb.cell (p:=⟨w.heap.size,1,none⟩) hzw).trans KK1.out
   have k2:w6.cell? ⟨w.heap.size,2,none⟩ = some (.int .i64 Z):=(hb.cell (p:=⟨w.heap.size,2,none⟩) hzw).trans KK2.out
   have k3:w6.cell? ⟨w.heap.size,3,none⟩ = some (.slice (some ⟨bb,oo,none⟩) n c):=(hb.cell (p:=⟨w.heap.size,3,none⟩) hzw).trans KK3.out
   clear hb
   go_wp2_with (go_at_call 48; refine Classical.byContradiction (fun hG=>?_))
   refine hG ?_
   clear hG
   refine (rounds_c hX hY hZ HN.out hn2 HR6.out HC.out HD6.out HLPL.out HLP.out).mono ?_
   rintro e w7 ⟨g7,rfl,hg7,hb7⟩
   rw [HLM.out] at hg7
   have HG7:=Lib.hid hg7
   have HG67:=Lib.hid (HG6.out.below hb7)
   have HBR7:=Lib.hid (bel_th HBR6.out hb7 HBR6.out.size)
   have hg7l:=hg7.lt
   have hg6l:=HG67.out.lt
   have hb:=HBR7.out
   clear k0 k1 k2 k3 hb7 hg7
   have k0:w7.cell? ⟨w.heap.size,0,none⟩ = some (.int .i64 X):=(hb.cell (p:=⟨w.heap.size,0,none⟩) hzw).trans KK0.out
   have k1:w7.cell? ⟨w.heap.size,1,none⟩ = some (.int .i64 Y):=(hb.cell (p:=⟨w.heap.size,1,none⟩) hzw).trans KK1.out
   have k2:w7.cell? ⟨w.heap.size,2,none⟩ = some (.int .i64 Z):=(hb.cell (p:=⟨w.heap.size,2,none⟩) hzw).trans KK2.out
   have k3:w7.cell? ⟨w.heap.size,3,none⟩ = some (.slice (some ⟨bb,oo,none⟩) n c):=(hb.cell (p:=⟨w.heap.size,3,none⟩) hzw).trans KK3.out
   have K3o:=Lib.hid k3
   have hz7:w.heap.size < w7.heap.size:=by have:=hb.size; omega
   clear hb
   go_wp2_with fail
   go_loopw [8,9] (OutRel w7 n ls) (fun _ v _=>n - (intOf v).toNat)
   case atStart=>exact ⟨0,rfl,by omega,Own.nil _ _ _ _,Below.refl _ _⟩
   case round =>
    clear k0 k1 k2 k3
    obtain ⟨j,rfl,hj,ho,hb⟩:=hrel
    have HBO:=Lib.hid hb
    have HTL:=Lib.hid (show (ls.take j).length = j by rw [List.length_take,HLL.out]; omega)
    obtain ⟨oA,oc,rfl,_,_,_⟩:=ho.form HTL.out
    have k3:=(hb.cell (p:=⟨w.heap.size,3,none⟩) hz7).trans K3o.out
    have hzr:=hb.size
    by_cases hlt:j < n
    ·have hjI:(j:Int) < n:=by omega
     have hj0:(0:Int)≤(j:Int):=by omega
     obtain ⟨⟨a,b⟩,hab⟩:∃ x,ls[j]? = some x:=⟨_,List.getElem?_eq_getElem (by rw [HLL.out]; exact hlt)⟩
     obtain ⟨h1,h2⟩:=HLINK.out j a b hab
     obtain ⟨ha15,hb15⟩:=HTOP.out j a b hab
     have ca:w7.cell? ⟨g6,j,none⟩ = some (.int .i64 a):=HG67.out.cell (by rw [List.getElem?_map,h1]; rfl)
     have cb:w7.cell? ⟨g7,j,none⟩ = some (.int .i64 b):=HG7.out.cell (by rw [List.getElem?_map,h2]; rfl)
     have HA8:=Lib.hid (small8 ha15)
     have HB8:=Lib.hid (small8 hb15)
     have HOD:=Lib.hid (ho.drew)
     have HTK:=Lib.hid (show ls.take (j + 1) = ls.take j ++ [(a,b)] by rw [List.take_add_one,hab]; rfl)
     clear ho hb hab h1 h2
     go_wp2_with fail
     refine wp_region_noPanic ?_
     refine wp_region_held_drew (S:=fun W=>Below w7.heap.size w7 W) (by kernel_rfl) HBO.out.drew (fun hHeld=>?_)
     refine wpAnyH_take (i:=0) (oi:=⟨some 46,_,_,_,_,_⟩) (v:=.slice oA j oc) rfl (by kernel_rfl) (by kernel_rfl) (by kernel_rfl) (fun _ _ _ h=>h) (Or.inl ⟨by rfl,fun W hSW=>by go_simp⟩) hHeld ?_
     simp only [Act.put,List.setIfInBounds_toArray,List.set_cons_zero,List.set_cons_succ]
     refine wpAnyH_take (i:=1) (oi:=⟨some 47,_,_,_,_,_⟩) (v:=.slice (some ⟨g6,0,none⟩) n n) rfl (by kernel_rfl) (by kernel_rfl) (by kernel_rfl) (fun _ _ _ h=>h) (Or.inl ⟨by rfl,fun W hSW=>by go_simp⟩) hHeld ?_
     simp only [Act.put,List.setIfInBounds_toArray,List.set_cons_zero,List.set_cons_succ]
     refine wpAnyH_take (i:=2) (oi:=⟨some 48,_,_,_,_,_⟩) (v:=.int .i64 j) rfl (by kernel_rfl) (by kernel_rfl) (by kernel_rfl) (fun _ _ _ h=>h) (Or.inl ⟨by rfl,fun W hSW=>by go_simp⟩) hHeld ?_
     simp only [Act.put,List.setIfInBounds_toArray,List.set_cons_zero,List.set_cons_succ]
     refine wpAnyH_take (i:=3) (oi:=⟨some 49,_,_,_,_,_⟩) (v:=.pointer (some ⟨g6,j,none⟩)) rfl (by kernel_rfl) (by kernel_rfl) (by kernel_rfl) (fun _ _ _ h=>h) (Or.inl ⟨by rfl,fun W hSW=>by go_simp⟩) hHeld ?_
     simp only [Act.put,List.setIfInBounds_toArray,List.set_cons_zero,List.set_cons_succ]
     refine wpAnyH_take (i:=4) (oi:=⟨some 50,_,_,_,_,_⟩) (v:=.int .i64 a) rfl (by kernel_rfl) (by kernel_rfl) (by kernel_rfl) (fun _ _ _ h=>h) (Or.inl ⟨by rfl,fun W hSW=>by have a0:=(hSW.cell (p:=⟨g6,j,none⟩) hg6l).trans ca; go_simp⟩) hHeld ?_
     simp only [Act.put,List.setIfInBounds_toArray,List.set_cons_zero,List.set_cons_succ]
     refine wpAnyH_take (i:=5) (oi:=⟨some 51,_,_,_,_,_⟩) (v:=.int .u8 a) rfl (by kernel_rfl) (by kernel_rfl) (by kernel_rfl) (fun _ _ _ h=>h) (Or.inl ⟨by rfl,fun W hSW=>by go_simp <;> exact HA8.out⟩) hHeld ?_
     simp only [Act.put,List.setIfInBounds_toArray,List.set_cons_zero,List.set_cons_succ]
     refine wpAnyH_take (i:=6) (oi:=⟨some 52,_,_,_,_,_⟩) (v:=.slice (some ⟨g7,0,none⟩) n n) rfl (by kernel_rfl) (by kernel_rfl) (by kernel_rfl) (fun _ _ _ h=>h) (Or.inl ⟨by rfl,fun W hSW=>by go_simp⟩) hHeld ?_
     simp only [Act.put,List.setIfInBounds_toArray,List.set_cons_zero,List.set_cons_succ]
     refine wpAnyH_take (i:=7) (oi:=⟨some 53,_,_,_,_,_⟩) (v:=.int .i64 j) rfl (by kernel_rfl) (by kernel_rfl) (by kernel_rfl) (fun _ _ _ h=>h) (Or.inl ⟨by rfl,fun W hSW=>by go_simp⟩) hHeld ?_
     simp only [Act.put,List.setIfInBounds_toArray,List.set_cons_zero,List.set_cons_succ]
     refine wpAnyH_take (i:=8) (oi:=⟨some 54,_,_,_,_,_⟩) (v:=.pointer (some ⟨g7,j,none⟩)) rfl (by kernel_rfl) (by kernel_rfl) (by kernel_rfl) (fun _ _ _ h=>h) (Or.inl ⟨by rfl,fun W hSW=>by go_simp⟩) hHeld ?_
     simp only [Act.put,List.setIfInBounds_toArray,List.set_cons_zero,List.set_cons_succ]
     refine wpAnyH_take (i:=9) (oi:=⟨some 55,_,_,_,_,_⟩) (v:=.int .i64 b) rfl (by kernel_rfl) (by kernel_rfl) (by kernel_rfl) (fun _ _ _ h=>h) (Or.inl ⟨by rfl,fun W hSW=>by have a0:=(hSW.cell (p:=⟨g7,j,none⟩) hg7l).trans cb; go_simp⟩) hHeld ?_
     simp only [Act.put,List.setIfInBounds_toArray,List.set_cons_zero,List.set_cons_succ]
     refine wpAnyH_take (i:=10) (oi:=⟨some 56,_,_,_,_,_⟩) (v:=.int .u8 b) rfl (by kernel_rfl) (by kernel_rfl) (by kernel_rfl) (fun _ _ _ h=>h) (Or.inl ⟨by rfl,fun W hSW=>by go_simp <;> exact HB8.out⟩) hHeld ?_
     simp only [Act.put,List.setIfInBounds_toArray,List.set_cons_zero,List.set_cons_succ]
     refine wpAnyH_take (i:=11) (oi:=⟨some 57,_,_,_,_,_⟩) (v:=.agg #[.int .u8 a,.int .u8 b]) rfl (by kernel_rfl) (by kernel_rfl) (by kernel_rfl) (fun _ _ _ h=>h) (Or.inl ⟨by rfl,fun W hSW=>by go_simp⟩) hHeld ?_
     simp only [Act.put,List.setIfInBounds_toArray,List.set_cons_zero,List.set_cons_succ]
     refine wpAnyH_ready (rs:=[12]) (by kernel_rfl) (by simp) ?_
     refine AllReadyH.cons (o:=⟨some 58,_,_,_,_,_⟩) rfl (fun K hK=>?_) AllReadyH.nil
     go_simp
     refine hK.out _ _ (HBO.out.drew.alloc (by simp; omega) _) (fun hHeld=>?_)
     clear hK K
     refine wpAnyH_ready (rs:=[13]) (by kernel_rfl) (by simp) ?_
     refine AllReadyH.cons (o:=⟨some 59,_,_,_,_,_⟩) rfl (fun K hK=>?_) AllReadyH.nil
     refine step_pushL rfl (.tmp 46) (.tmp 58) rfl (B:=w7.heap.size) (y:=(a,b)) rfl rfl HOD.out rfl (by have:=HTL.out; omega) (by simp; omega) ?_
     intro g9 c9 w9 ho9 hg9
     have hb9:=HBO.out.drew.trans (HOD.out.grownB hg9 (by simp; omega))
     have HO9:=Lib.hid ho9
     have HB9:=Lib.hid hb9
     clear ho9 hg9 hb9
     refine hK.out _ _ HB9.out (fun hHeld=>?_)
     clear hK K
     refine wpAnyH_ready (rs:=[14]) (by kernel_rfl) (by simp) ?_
     refine AllReadyH.cons (o:=⟨some 8,_,_,_,_,_⟩) rfl (fun K hK=>?_) AllReadyH.nil
     go_simp
     refine hK.out _ _ HB9.out (fun hHeld=>?_)
     clear hK K
     refine wpAnyH_done (by kernel_rfl) ?_ _
     refine NoPanic.normal ?_
     go_wp2_with fail
     go_roundw
     case rel=>exact ⟨j + 1,by go_num,by omega,by rw [HTK.out]; have h:=HO9.out; simp only [List.length_take] at h ⊢; exact h,HB9.out⟩
     case measure=>first | (simp [intOf]; done) | (simp [intOf]; omega)
    ·obtain rfl:n = j:=by omega
     have HO:=Lib.hid ho
     clear ho hb
     go_wp2_with fail
     go_ret
     refine ⟨_,rfl,?_,HB0.out.trans ((HBR7.out.trans (HBO.out.mono HBR7.out.size)).mono HB0.out.size)⟩
     have h:=HO.out
     rw [List.take_of_length_le (by rw [HLL.out]; exact Nat.le_refl _)] at h
     exact h.mono (by have:=HB0.out.size; have:=HBR7.out.size; omega)
end GlowW
end Go.Proofs.YtpimkdaikoclnaaDoor
namespace Go.Proofs.YtpimkdaikoclnaaDoor
open Go
set_option linter.unusedVariables false
namespace EachR
variable {P:Program} {ops:Array Oper} {Q:Exit→Act→World→Prop} {md:Region.Mode} {n:Nat}
theorem rows_in {row:String} {args:Array Value} {w:World} {R:Value→World→Prop} (h:Rows P row args w R):RowsIn Fence.wide n P row args w R:=fun c cs _=>by
 obtain ⟨v,w',hr,hs⟩:=h c cs
 exact ⟨v,w',hr,stepsIn_wide.2 hs⟩
theorem oper_in {o:Oper} {a:Act} {w:World} {K:Act→World→Prop} (hnd:∀ c,o.op ≠ .defer c) (h:o.wp P a w K (RoundR.Calm Q)):o.wpIn Fence.wide n P a w K Q:=by
 unfold Oper.wp at h
 unfold Oper.wpIn
 refine ⟨fun _ _=>trivial,?_⟩
 rw [QuietR.semAt_plain _ _ _ hnd]
 generalize (execOp a.eval o).run P w = r at *
 cases r with
 | ok x w' =>
  cases x <;> simp only [Oper.upon] at h <;> simp only [Oper.uponIn]
  case value=>exact h
  case skip=>exact h
  case defer=>exact h
  case enter f args =>
   refine ⟨(fun h0=>by cases h0),(callsIn_wide.2 h).mono ?_⟩
   intro e w'' he
   cases e with
   | returned v=>exact he
   | panicked c=>exact he.elim
   | outgrown=>exact absurd he RoundR.not_letsOut
  case row row args=>exact ⟨(fun h0=>by cases h0),rows_in h⟩
 | halt x w' =>
  cases x <;> simp only [Oper.upon] at h <;> simp only [Oper.uponIn]
  all_goals exact h.elim
theorem cons {fuel:Nat} {listed:Array Bool} {a:Act} {w:World} {i:Nat} {o:Oper} {rs:List Nat} (ho:ops[i]? = some o) (hnd:∀ c,o.op ≠ .defer c)
  (h:∀ K':Act→World→Prop,Shut (∀ a w,wpAnyIn Fence.wide n P md ops Q fuel (listed.setIfInBounds i true) a w→K' a w)→if Region.wanted o (yielded ops a.tmps) = true then Oper.wp P o a w K' (RoundR.Calm Q) else K' (a.put o.dst undef) w)
  (hs:AllReadyIn Fence.wide n P md ops Q fuel listed a w rs):AllReadyIn Fence.wide n P md ops Q fuel listed a w (i :: rs) :=
 AllReadyIn.cons ho (fun K' hK=>by
  have h1:=h K' hK
  split
  ·rename_i hw
   rw [if_pos hw] at h1
   exact oper_in hnd h1
  ·rename_i hw
   rw [if_neg hw] at h1
   exact ⟨fun _ _=>trivial,h1⟩) hs
theorem yields {fuel:Nat} {listed:Array Bool} {a:Act} {w:World} {i:Nat} {o:Oper} (ho:ops[i]? = some o) (hg:Region.wanted o (yielded ops a.tmps) = true) (hnd:∀ c,o.op ≠ .defer c)
  {l f:Nat} {tmps:Array Value} {assign body:Code} (hy:(execOp a.eval o).run P w = .ok (.round l f tmps assign body) w)
  (hR:RoundIn Fence.wide (n - 1) P l f tmps assign body w fun e w'=>∃ v,e = .returned v∧wpAnyIn Fence.wide n P md ops Q fuel (listed.setIfInBounds i true) (a.put o.dst v) w'):AllReadyIn Fence.wide n P md ops Q fuel listed a w [i] :=
 AllReadyIn.cons ho (fun K' hK=>by
  rw [if_pos hg]
  unfold Oper.wpIn
  refine ⟨fun _ _=>trivial,?_⟩
  rw [QuietR.semAt_plain _ _ _ hnd,hy]
  simp only [Oper.uponIn]
  refine ⟨(fun h0=>by cases h0),hR.mono ?_⟩
  rintro e w' ⟨v,rfl,h⟩
  exact hK _ _ h) AllReadyIn.nil
theorem region {id:Nat} {a:Act} {w:World} {L:List Oper} (hm:P.follows .mixedOrders = true)
  (h:wpAnyIn Fence.wide n P .any L.toArray Q L.toArray.size (Array.replicate L.toArray.size false) a w.drew):(Code.region id L.toArray true).wpIn Fence.wide n P Q a w:=wpIn_region_any hm h
end EachR
end Go.Proofs.YtpimkdaikoclnaaDoor
