
/-
  What zones cover, pure: zones in their order, each once; what is wanted of some; what the calls answer, as relations; zones in a row of which twins go; each theorem names its conditions.
-/
import Derived.Test.YthmljpccbjolgaaGreatDoorMinusA
import Derived.Test.YthmljpccbjolgaaGreatDoorMinusE
import Derived.Test.YthmljpccbjolgaaGreatDoorMinusZ
namespace Go.Proofs.YthmljpccbjolgaaGreatDoor.cover
open way num rat dbm Go.Proofs.YthmljpccbjolgaaGreatDoor.tight Go.Proofs.YthmljpccbjolgaaGreatDoor.tkept Go.Proofs.YthmljpccbjolgaaGreatDoor.incl Go.Proofs.YthmljpccbjolgaaGreatDoor.zone Go.Proofs.YthmljpccbjolgaaGreatDoor.win Go.Proofs.YthmljpccbjolgaaGreatDoor.minus
open bound hiding up
set_option linter.unusedVariables false
set_option linter.unusedSimpArgs false
set_option linter.unusedSectionVars false
def Srt (s:List (List Int)):Prop:=s.Pairwise fun x y=>cmpL x y<0
theorem cmp_lt_trans {a b c:List Int} (h:cmpL a b<0) (k:cmpL b c<0):cmpL a c<0:=by
 have t:=cmp_trans a b c (by omega) (by omega)
 rcases cmp_in a c with e | e | e
 ·omega
 ·have:=(cmp_zero a c).1 e
  subst this
  have:=cmp_back a b
  omega
 ·omega
theorem cmp_self (a:List Int):cmpL a a=0:=(cmp_zero a a).2 rfl
theorem srt_same:∀ {s t:List (List Int)},Srt s→Srt t→(∀ x,x ∈ s↔x ∈ t)→s=t
 | [],[],_,_,_=>rfl
 | [],y::t,_,_,h=>by have:=(h y).2 List.mem_cons_self;cases this
 | x::s,[],_,_,h=>by have:=(h x).1 List.mem_cons_self;cases this
 | x::s,y::t,hs,ht,h=>by
  obtain ⟨hx,hs'⟩:=List.pairwise_cons.1 hs
  obtain ⟨hy,ht'⟩:=List.pairwise_cons.1 ht
  have e:x=y:=by
   rcases List.mem_cons.1 ((h x).1 List.mem_cons_self) with e | e
   ·exact e
   rcases List.mem_cons.1 ((h y).2 List.mem_cons_self) with k | k
   ·exact k.symm
   have h1:=hx y k
   have h2:=hy x e
   have:=cmp_back x y
   omega
  subst e
  congr 1
  refine srt_same hs' ht' fun z=>⟨fun hz=>?_,fun hz=>?_⟩
  ·rcases List.mem_cons.1 ((h z).1 (List.mem_cons_of_mem _ hz)) with e | e
   ·have h1:=hx z hz
    rw [e,cmp_self] at h1
    omega
   ·exact e
  ·rcases List.mem_cons.1 ((h z).2 (List.mem_cons_of_mem _ hz)) with e | e
   ·have h1:=hy z hz
    rw [e,cmp_self] at h1
    omega
   ·exact e
theorem srt_nodup {s:List (List Int)} (h:Srt s):s.Nodup:=h.imp fun {x y} k e=>by
 subst e
 rw [cmp_self] at k
 omega
theorem srt_sub {s t:List (List Int)} (h:Srt s) (k:t.Sublist s):Srt t:=List.Pairwise.sublist k h
theorem nodup_len:∀ {s l:List (List Int)},s.Nodup→(∀ x,x ∈ s→x ∈ l)→s.length≤l.length
 | [],l,_,_=>Nat.zero_le _
 | x::s,l,d,h=>by
  obtain ⟨dx,d⟩:=List.nodup_cons.1 d
  have m:=h x List.mem_cons_self
  have:=nodup_len (l:=l.erase x) d fun y hy=>by
   have:y≠x:=fun e=>dx (e ▸ hy)
   exact (List.mem_erase_of_ne this).2 (h y (List.mem_cons_of_mem _ hy))
  have e:=List.length_erase_of_mem m
  have:=List.length_pos_of_mem m
  rw [List.length_cons]
  omega
def ins (z:List Int):List (List Int)→List (List Int)
 | []=>[z]
 | y::t=>if cmpL z y<0 then z::y::t else if cmpL z y=0 then y::t else y::ins z t
theorem ins_mem (z:List Int):∀ (s:List (List Int)) (x:List Int),x ∈ ins z s↔x=z∨x ∈ s
 | [],x=>by unfold ins;simp
 | y::t,x=>by
  unfold ins
  by_cases a:cmpL z y<0
  ·rw [if_pos a,List.mem_cons]
  rw [if_neg a]
  by_cases b:cmpL z y=0
  ·rw [if_pos b,(cmp_zero z y).1 b,List.mem_cons]
   exact ⟨fun h=>.inr h,fun h=>h.elim (fun e=>.inl e) id⟩
  ·rw [if_neg b,List.mem_cons,List.mem_cons,ins_mem z t x]
   exact ⟨fun h=>h.elim (fun e=>.inr (.inl e)) (fun h=>h.elim .inl (fun e=>.inr (.inr e))),fun h=>h.elim (fun e=>.inr (.inl e)) (fun h=>h.elim .inl (fun e=>.inr (.inr e)))⟩
theorem ins_srt (z:List Int):∀ {s:List (List Int)},Srt s→Srt (ins z s)
 | [],_=>by unfold ins;exact List.pairwise_singleton _ _
 | y::t,h=>by
  obtain ⟨h1,h2⟩:=List.pairwise_cons.1 h
  unfold ins
  by_cases a:cmpL z y<0
  ·rw [if_pos a]
   refine List.pairwise_cons.2 ⟨fun x hx=>?_,h⟩
   rcases List.mem_cons.1 hx with e | e
   ·rw [e];exact a
   ·exact cmp_lt_trans a (h1 x e)
  rw [if_neg a]
  by_cases b:cmpL z y=0
  ·rw [if_pos b];exact h
  ·rw [if_neg b]
   refine List.pairwise_cons.2 ⟨fun x hx=>?_,ins_srt z h2⟩
   rcases (ins_mem z t x).1 hx with e | e
   ·rw [e]
    have:=cmp_back z y
    rcases cmp_in z y with k | k | k<;>omega
   ·exact h1 x e
def srt (l:List (List Int)):List (List Int):=l.foldr ins []
theorem srt_mem:∀ (l:List (List Int)) (x:List Int),x ∈ srt l↔x ∈ l
 | [],x=>Iff.rfl
 | y::l,x=>by
  show x ∈ ins y (srt l)↔_
  rw [ins_mem,srt_mem l x,List.mem_cons]
theorem srt_is:∀ (l:List (List Int)),Srt (srt l)
 | []=>List.Pairwise.nil
 | y::l=>ins_srt y (srt_is l)
theorem srt_len (l:List (List Int)):(srt l).length≤l.length:=nodup_len (srt_nodup (srt_is l)) fun x hx=>(srt_mem l x).1 hx
theorem srt_eq {s:List (List Int)} (h:Srt s) {l:List (List Int)} (k:∀ x,x ∈ s↔x ∈ l):s=srt l:=srt_same h (srt_is l) fun x=>(k x).trans (srt_mem l x).symm
/-! a zone that some cover -/
theorem cnt_zero {l:List (List Int)} {p:Pt}:0<cnt l p.1 p.2.1 p.2.2.1 p.2.2.2↔∃ b,b ∈ l∧hasP b p=true:=List.countP_pos_iff
theorem rest_nil {bs:List (List Int)} {a:List Int} {n:List (List Int)} (hb:∀ b,b ∈ bs→Zo b) (ha:Zo a) (h:RestR bs [a] n 0):n=[]↔∀ p,MayQ p→hasP a p=true→∃ b,b ∈ bs∧hasP b p=true:=by
 have hl:∀ z,z ∈ [a]→Zo z:=fun z hz=>by rw [List.mem_singleton.1 hz];exact ha
 refine ⟨fun e p m k=>?_,fun q=>?_⟩
 ·have c:=rest_cnt m.1 m.2 bs hb hl h
  subst e
  by_cases z:0<cnt bs p.1 p.2.1 p.2.2.1 p.2.2.2
  ·exact cnt_zero.1 z
  ·rw [if_neg z,cnt_one,show hasB a p.1 p.2.1 p.2.2.1 p.2.2.2=true from k,if_pos rfl] at c
   exact absurd (show (0:Nat)=1 from c) (by decide)
 ·match n,h with
  | [],_=>rfl
  | z::n,h=>
   obtain ⟨p,m,k⟩:=zo_point (rest_zo bs hb hl h z List.mem_cons_self)
   have c:=rest_cnt m.1 m.2 bs hb hl h
   have pos:0<cnt (z::n) p.1 p.2.1 p.2.2.1 p.2.2.2:=cnt_zero.2 ⟨z,List.mem_cons_self,k⟩
   by_cases y:0<cnt bs p.1 p.2.1 p.2.2.1 p.2.2.2
   ·rw [if_pos y] at c;omega
   ·rw [if_neg y] at c
    have:0<cnt [a] p.1 p.2.1 p.2.2.1 p.2.2.2:=by omega
    obtain ⟨b,hb1,hb2⟩:=cnt_zero.1 this
    rw [List.mem_singleton.1 hb1] at hb2
    exact (y (cnt_zero.2 (q p m hb2))).elim
theorem rest_point {bs:List (List Int)} {a:List Int} {n:List (List Int)} (hb:∀ b,b ∈ bs→Zo b) (ha:Zo a) (h:RestR bs [a] n 0) {z:List Int} (hz:z ∈ n) {p:Pt} (m:MayQ p) (k:hasP z p=true):hasP a p=true∧∀ b,b ∈ bs→hasP b p=false:=by
 have hl:∀ z,z ∈ [a]→Zo z:=fun z hz=>by rw [List.mem_singleton.1 hz];exact ha
 have c:=rest_cnt m.1 m.2 bs hb hl h
 have pos:0<cnt n p.1 p.2.1 p.2.2.1 p.2.2.2:=cnt_zero.2 ⟨z,hz,k⟩
 by_cases y:0<cnt bs p.1 p.2.1 p.2.2.1 p.2.2.2
 ·rw [if_pos y] at c;omega
 ·rw [if_neg y] at c
  have:0<cnt [a] p.1 p.2.1 p.2.2.1 p.2.2.2:=by omega
  obtain ⟨b,hb1,hb2⟩:=cnt_zero.1 this
  rw [List.mem_singleton.1 hb1] at hb2
  refine ⟨hb2,fun b hb=>?_⟩
  cases e:hasP b p with
  | false=>rfl
  | true=>exact (y (cnt_zero.2 ⟨b,hb,e⟩)).elim
/-! what is wanted -/
def Want (R:List (List Int)→List (List Int)→List (List Int)→Int→Prop):Nat→List (List Int)→List (List Int)→Int→Prop
 | 0,out,r,f=>r=out∧f=0
 | i+1,out,r,f=>∃ n e,R (out.eraseIdx i) [out[i]?.getD []] n e∧((e≠0∧r=[]∧f=e)∨(e=0∧((n=[]∧Want R i (out.eraseIdx i) r f)∨(n≠[]∧Want R i out r f))))
def Alls (R:List (List Int)→List (List Int)→List (List Int)→Int→Prop) (b:List (List Int)):List (List Int)→Bool→Int→Prop
 | [],is,f=>is=true∧f=0
 | a::us,is,f=>∃ n e,R b [a] n e∧((e≠0∧is=false∧f=e)∨(e=0∧((n≠[]∧is=false∧f=0)∨(n=[]∧Alls R b us is f))))
theorem want_same:∀ (i:Nat) {out r r':List (List Int)} {f f':Int},Want RestR i out r f→Want RestR i out r' f'→r'=r∧f'=f
 | 0,out,r,r',f,f',h,k=>⟨k.1.trans h.1.symm,k.2.trans h.2.symm⟩
 | i+1,out,r,r',f,f',h,k=>by
  unfold Want at h k
  obtain ⟨n,e,hn,q⟩:=h
  obtain ⟨n',e',hn',q'⟩:=k
  obtain ⟨rfl,rfl⟩:=rest_same _ hn hn'
  rcases q with ⟨q1,q2,q3⟩ | ⟨q1,⟨q2,q3⟩ | ⟨q2,q3⟩⟩<;>rcases q' with ⟨p1,p2,p3⟩ | ⟨p1,⟨p2,p3⟩ | ⟨p2,p3⟩⟩
  all_goals first | exact ⟨p2.trans q2.symm,p3.trans q3.symm⟩ | exact (q1 p1).elim | exact (p1 q1).elim | exact (q2 p2).elim | exact (p2 q2).elim | exact want_same i q3 p3
theorem alls_same {b:List (List Int)}:∀ (us:List (List Int)) {is is':Bool} {f f':Int},Alls RestR b us is f→Alls RestR b us is' f'→is'=is∧f'=f
 | [],is,is',f,f',h,k=>⟨k.1.trans h.1.symm,k.2.trans h.2.symm⟩
 | a::us,is,is',f,f',h,k=>by
  unfold Alls at h k
  obtain ⟨n,e,hn,q⟩:=h
  obtain ⟨n',e',hn',q'⟩:=k
  obtain ⟨rfl,rfl⟩:=rest_same _ hn hn'
  rcases q with ⟨q1,q2,q3⟩ | ⟨q1,⟨q2,q3,q4⟩ | ⟨q2,q3⟩⟩<;>rcases q' with ⟨p1,p2,p3⟩ | ⟨p1,⟨p2,p3,p4⟩ | ⟨p2,p3⟩⟩
  all_goals first | exact ⟨p2.trans q2.symm,p3.trans q3.symm⟩ | exact ⟨p3.trans q3.symm,p4.trans q4.symm⟩ | exact (q1 p1).elim | exact (p1 q1).elim | exact (q2 p2).elim | exact (p2 q2).elim | exact alls_same us q3 p3
theorem era_sub (l:List (List Int)) (i:Nat):∀ x,x ∈ l.eraseIdx i→x ∈ l:=fun x hx=>List.mem_of_mem_eraseIdx hx
theorem at_mem {l:List (List Int)} {i:Nat} (h:i<l.length):l[i]?.getD [] ∈ l:=by
 rw [List.getElem?_eq_getElem h]
 exact List.getElem_mem h
theorem want_few:∀ (i:Nat) {out r:List (List Int)} {f:Int},i≤out.length→out.length≤19→(∀ x,x ∈ out→Zo x)→Want RestP i out r f→Want RestR i out r f
 | 0,_,_,_,_,_,_,h=>h
 | i+1,out,r,f,hi,h7,hz,h=>by
  unfold Want at h ⊢
  obtain ⟨n,e,hn,q⟩:=h
  have le:(out.eraseIdx i).length=out.length - 1:=List.length_eraseIdx_of_lt (by omega)
  have ze:∀ x,x ∈ out.eraseIdx i→Zo x:=fun x hx=>hz x (era_sub out i x hx)
  refine ⟨n,e,restP_few (by omega) ze (hz _ (at_mem (by omega))) hn,?_⟩
  rcases q with q | ⟨q1,⟨q2,q3⟩ | ⟨q2,q3⟩⟩
  ·exact .inl q
  ·exact .inr ⟨q1,.inl ⟨q2,want_few i (by omega) (by omega) ze q3⟩⟩
  ·exact .inr ⟨q1,.inr ⟨q2,want_few i (by omega) h7 hz q3⟩⟩
theorem alls_few {b:List (List Int)} (h6:b.length≤18) (hb:∀ x,x ∈ b→Zo x):∀ (us:List (List Int)) {is:Bool} {f:Int},(∀ x,x ∈ us→Zo x)→Alls RestP b us is f→Alls RestR b us is f
 | [],_,_,_,h=>h
 | a::us,is,f,hz,h=>by
  unfold Alls at h ⊢
  obtain ⟨n,e,hn,q⟩:=h
  refine ⟨n,e,restP_few h6 hb (hz _ List.mem_cons_self) hn,?_⟩
  rcases q with q | ⟨q1,q2 | ⟨q2,q3⟩⟩
  ·exact .inl q
  ·exact .inr ⟨q1,.inl q2⟩
  ·exact .inr ⟨q1,.inr ⟨q2,alls_few h6 hb us (fun x hx=>hz x (List.mem_cons_of_mem _ hx)) q3⟩⟩
theorem want_err:∀ (i:Nat) {out r:List (List Int)} {f:Int},Want RestR i out r f→f≠0→r=[]
 | 0,_,_,_,h,k=>(k h.2).elim
 | i+1,out,r,f,h,k=>by
  unfold Want at h
  obtain ⟨n,e,hn,q⟩:=h
  rcases q with ⟨_,q,_⟩ | ⟨q1,⟨q2,q3⟩ | ⟨q2,q3⟩⟩
  ·exact q
  ·exact want_err i q3 k
  ·exact want_err i q3 k
theorem want_sub:∀ (i:Nat) {out r:List (List Int)},Want RestR i out r 0→r.Sublist out
 | 0,_,_,h=>by rw [h.1];exact List.Sublist.refl _
 | i+1,out,r,h=>by
  unfold Want at h
  obtain ⟨n,e,hn,q⟩:=h
  rcases q with ⟨q1,_,q3⟩ | ⟨q1,⟨q2,q3⟩ | ⟨q2,q3⟩⟩
  ·exact (q1 q3.symm).elim
  ·exact (want_sub i q3).trans (List.eraseIdx_sublist out i)
  ·exact want_sub i q3
theorem era_or {l:List (List Int)} {i:Nat} (h:i<l.length) {x:List Int} (hx:x ∈ l):x=l[i]?.getD []∨x ∈ l.eraseIdx i:=by
 obtain ⟨j,hj,rfl⟩:=List.mem_iff_getElem.1 hx
 by_cases e:j=i
 ·subst e
  exact .inl (by rw [List.getElem?_eq_getElem h];rfl)
 ·exact .inr (List.mem_eraseIdx_iff_getElem.2 ⟨j,hj,e,rfl⟩)
theorem want_has:∀ (i:Nat) {out r:List (List Int)},i≤out.length→(∀ x,x ∈ out→Zo x)→Want RestR i out r 0→∀ p,MayQ p→((∃ b,b ∈ out∧hasP b p=true)↔∃ b,b ∈ r∧hasP b p=true)
 | 0,out,r,_,_,h,p,m=>by rw [h.1]
 | i+1,out,r,hi,hz,h,p,m=>by
  unfold Want at h
  obtain ⟨n,e,hn,q⟩:=h
  have ze:∀ x,x ∈ out.eraseIdx i→Zo x:=fun x hx=>hz x (era_sub out i x hx)
  have le:(out.eraseIdx i).length=out.length - 1:=List.length_eraseIdx_of_lt (by omega)
  rcases q with ⟨q1,_,q3⟩ | ⟨q1,⟨q2,q3⟩ | ⟨q2,q3⟩⟩
  ·exact (q1 q3.symm).elim
  ·subst q1
   refine Iff.trans ?_ (want_has i (by omega) ze q3 p m)
   refine ⟨fun ⟨b,hb,k⟩=>?_,fun ⟨b,hb,k⟩=>⟨b,era_sub out i b hb,k⟩⟩
   rcases era_or (i:=i) (by omega) hb with e | e
   ·rw [e] at k
    exact (rest_nil ze (hz _ (at_mem (by omega))) hn).1 q2 p m k
   ·exact ⟨b,e,k⟩
  ·exact want_has i (by omega) hz q3 p m
def Own (out:List (List Int)) (x:List Int):Prop:=∃ p,MayQ p∧hasP x p=true∧∀ y,y ∈ out→y≠x→hasP y p=false
theorem own_less {out l:List (List Int)} {x:List Int} (h:Own out x) (k:∀ y,y ∈ l→y ∈ out):Own l x:=by
 obtain ⟨p,m,a,b⟩:=h
 exact ⟨p,m,a,fun y hy n=>b y (k y hy) n⟩
theorem want_own:∀ (i:Nat) {out r:List (List Int)},i≤out.length→(∀ x,x ∈ out→Zo x)→Want RestR i out r 0→(∀ j,i≤j→j<out.length→Own out (out[j]?.getD []))→∀ x,x ∈ r→Own r x
 | 0,out,r,_,_,h,ho,x,hx=>by
  rw [h.1] at hx ⊢
  obtain ⟨j,hj,rfl⟩:=List.mem_iff_getElem.1 hx
  have:=ho j (Nat.zero_le _) hj
  rwa [List.getElem?_eq_getElem hj] at this
 | i+1,out,r,hi,hz,h,ho,x,hx=>by
  unfold Want at h
  obtain ⟨n,e,hn,q⟩:=h
  have ze:∀ x,x ∈ out.eraseIdx i→Zo x:=fun x hx=>hz x (era_sub out i x hx)
  have le:(out.eraseIdx i).length=out.length - 1:=List.length_eraseIdx_of_lt (by omega)
  rcases q with ⟨q1,_,q3⟩ | ⟨q1,⟨q2,q3⟩ | ⟨q2,q3⟩⟩
  ·exact (q1 q3.symm).elim
  ·refine want_own i (by omega) ze q3 (fun j h1 h2=>?_) x hx
   have:=own_less (ho (j+1) (by omega) (by omega)) (era_sub out i)
   rwa [List.getElem?_eraseIdx_of_ge h1]
  ·refine want_own i (by omega) hz q3 (fun j h1 h2=>?_) x hx
   by_cases e':j=i
   ·subst e' q1
    have zj:=hz _ (at_mem (by omega:j<out.length))
    match n,q2,hn with
    | [],q2,_=>exact (q2 rfl).elim
    | z::n,_,hn=>
     obtain ⟨p,m,k⟩:=zo_point (rest_zo _ ze (fun y hy=>by rw [List.mem_singleton.1 hy];exact zj) hn z List.mem_cons_self)
     obtain ⟨k1,k2⟩:=rest_point ze zj hn List.mem_cons_self m k
     refine ⟨p,m,k1,fun y hy ny=>?_⟩
     rcases era_or (i:=j) (by omega) hy with e | e
     ·exact (ny e).elim
     ·exact k2 y e
   ·exact ho j (by omega) h2
end Go.Proofs.YthmljpccbjolgaaGreatDoor.cover
namespace Go.Proofs.YthmljpccbjolgaaGreatDoor.cover
open way num rat dbm Go.Proofs.YthmljpccbjolgaaGreatDoor.tight Go.Proofs.YthmljpccbjolgaaGreatDoor.tkept Go.Proofs.YthmljpccbjolgaaGreatDoor.incl Go.Proofs.YthmljpccbjolgaaGreatDoor.zone Go.Proofs.YthmljpccbjolgaaGreatDoor.win Go.Proofs.YthmljpccbjolgaaGreatDoor.minus Go.Proofs.YthmljpccbjolgaaGreatDoor.mz
open bound hiding up
set_option linter.unusedVariables false
set_option linter.unusedSimpArgs false
set_option linter.unusedSectionVars false
abbrev Rel:=List (List Int)→List (List Int)→List (List Int)→Int→Prop
def ChkR (a b:List (List Int)) (f:Int):Prop:=((4096<a.length∨4096<b.length)∧f=4)∨(a.length≤4096∧b.length≤4096∧¬ ((∀ x,x ∈ a→MayZ x)∧∀ x,x ∈ b→MayZ x)∧f=8)∨(a.length≤4096∧b.length≤4096∧(∀ x,x ∈ a→MayZ x)∧(∀ x,x ∈ b→MayZ x)∧f=0)
def CovX (R:Rel) (z:List Int) (l:List (List Int)) (is:Bool) (f:Int):Prop:=∃ n,R l [z] n f∧is=decide (f=0∧n=[])
def InX (R:Rel) (z:List Int) (l:List (List Int)) (is:Bool) (f:Int):Prop:=∃ c,ChkR l [z] c∧((c≠0∧is=false∧f=c)∨(c=0∧CovX R z l is f))
def AllX (R:Rel) (a b:List (List Int)) (is:Bool) (f:Int):Prop:=∃ c,ChkR a b c∧((c≠0∧is=false∧f=c)∨(c=0∧Alls R b a is f))
def PruX (R:Rel) (l r:List (List Int)) (f:Int):Prop:=∃ c,ChkR l [] c∧((c≠0∧r=[]∧f=c)∨(c=0∧Want R (srt l).length (srt l) r f))
def WitX (R:Rel) (z:List Int) (l:List (List Int)) (p:Pt) (f:Int):Prop:=∃ c,ChkR l [z] c∧((c≠0∧p=(0,0,0,0)∧f=c)∨(c=0∧∃ n e,R l [z] n e∧((e≠0∧p=(0,0,0,0)∧f=e)∨(e=0∧n=[]∧p=(0,0,0,0)∧f=6)∨(e=0∧n≠[]∧pks 3 (fullT (zat n 0))=[(p.1,p.2.1),(p.2.2.1,p.2.2.2)]∧f=0))))
theorem chk_same {a b:List (List Int)} {f g:Int} (h:ChkR a b f) (k:ChkR a b g):g=f:=by
 rcases h with ⟨h1,h2⟩ | ⟨h1,h2,h3,h4⟩ | ⟨h1,h2,h3,h4,h5⟩<;>rcases k with ⟨k1,k2⟩ | ⟨k1,k2,k3,k4⟩ | ⟨k1,k2,k3,k4,k5⟩
 all_goals first | omega | exact (h3 ⟨k3,k4⟩).elim | exact (k3 ⟨h3,h4⟩).elim
theorem chk_zo {a b:List (List Int)} {f:Int} (ha:Six a) (hb:Six b) (h:ChkR a b f) (k:f=0):(∀ x,x ∈ a→Zo x)∧(∀ x,x ∈ b→Zo x)∧a.length≤4096∧b.length≤4096:=by
 rcases h with ⟨h1,h2⟩ | ⟨h1,h2,h3,h4⟩ | ⟨h1,h2,h3,h4,h5⟩
 ·omega
 ·omega
 ·exact ⟨ha.zo h3,hb.zo h4,h1,h2⟩
theorem six_one {z:List Int} (hz:z.length=6) (tz:Tops z):Six [z]:=fun x hx=>by rw [List.mem_singleton.1 hx];exact ⟨hz,tz⟩
theorem six_nil:Six []:=fun x hx=>by cases hx
theorem in_few {z:List Int} {l:List (List Int)} {is:Bool} {f:Int} (hz:z.length=6) (tz:Tops z) (hl:Six l) (h6:l.length≤18) (h:InX RestP z l is f):InX RestR z l is f:=by
 obtain ⟨c,hc,q⟩:=h
 refine ⟨c,hc,?_⟩
 rcases q with q | ⟨q,n,q1,q2⟩
 ·exact .inl q
 ·obtain ⟨zl,zz,_,_⟩:=chk_zo hl (six_one hz tz) hc q
  exact .inr ⟨q,n,restP_few h6 zl (zz z List.mem_cons_self) q1,q2⟩
theorem all_few {a b:List (List Int)} {is:Bool} {f:Int} (ha:Six a) (hb:Six b) (h6:b.length≤18) (h:AllX RestP a b is f):AllX RestR a b is f:=by
 obtain ⟨c,hc,q⟩:=h
 refine ⟨c,hc,?_⟩
 rcases q with q | ⟨q,q1⟩
 ·exact .inl q
 ·obtain ⟨za,zb,_,_⟩:=chk_zo ha hb hc q
  exact .inr ⟨q,alls_few h6 zb a za q1⟩
theorem pru_few {l r:List (List Int)} {f:Int} (hl:Six l) (h7:(srt l).length≤19) (h:PruX RestP l r f):PruX RestR l r f:=by
 obtain ⟨c,hc,q⟩:=h
 refine ⟨c,hc,?_⟩
 rcases q with q | ⟨q,q1⟩
 ·exact .inl q
 ·obtain ⟨zl,_,_,_⟩:=chk_zo hl six_nil hc q
  exact .inr ⟨q,want_few _ (Nat.le_refl _) h7 (fun x hx=>zl x ((srt_mem l x).1 hx)) q1⟩
theorem wit_few {z:List Int} {l:List (List Int)} {p:Pt} {f:Int} (hz:z.length=6) (tz:Tops z) (hl:Six l) (h6:l.length≤18) (h:WitX RestP z l p f):WitX RestR z l p f:=by
 obtain ⟨c,hc,q⟩:=h
 refine ⟨c,hc,?_⟩
 rcases q with q | ⟨q,n,e,q1,q2⟩
 ·exact .inl q
 ·obtain ⟨zl,zz,_,_⟩:=chk_zo hl (six_one hz tz) hc q
  exact .inr ⟨q,n,e,restP_few h6 zl (zz z List.mem_cons_self) q1,q2⟩
/-! the document's answers are one each -/
theorem in_same {z:List Int} {l:List (List Int)} {is is':Bool} {f f':Int} (h:InX RestR z l is f) (k:InX RestR z l is' f'):is'=is∧f'=f:=by
 obtain ⟨c,hc,q⟩:=h
 obtain ⟨c',hc',q'⟩:=k
 obtain rfl:=chk_same hc hc'
 rcases q with ⟨q,q1,q2⟩ | ⟨q,n,q1,q2⟩<;>rcases q' with ⟨p,p1,p2⟩ | ⟨p,m,p1,p2⟩
 ·exact ⟨p1.trans q1.symm,p2.trans q2.symm⟩
 ·exact (q p).elim
 ·exact (p q).elim
 ·obtain ⟨rfl,rfl⟩:=rest_same l q1 p1
  exact ⟨p2.trans q2.symm,rfl⟩
theorem all_same {a b:List (List Int)} {is is':Bool} {f f':Int} (h:AllX RestR a b is f) (k:AllX RestR a b is' f'):is'=is∧f'=f:=by
 obtain ⟨c,hc,q⟩:=h
 obtain ⟨c',hc',q'⟩:=k
 obtain rfl:=chk_same hc hc'
 rcases q with ⟨q,q1,q2⟩ | ⟨q,q1⟩<;>rcases q' with ⟨p,p1,p2⟩ | ⟨p,p1⟩
 ·exact ⟨p1.trans q1.symm,p2.trans q2.symm⟩
 ·exact (q p).elim
 ·exact (p q).elim
 ·exact alls_same a q1 p1
theorem pru_same {l r r':List (List Int)} {f f':Int} (h:PruX RestR l r f) (k:PruX RestR l r' f'):r'=r∧f'=f:=by
 obtain ⟨c,hc,q⟩:=h
 obtain ⟨c',hc',q'⟩:=k
 obtain rfl:=chk_same hc hc'
 rcases q with ⟨q,q1,q2⟩ | ⟨q,q1⟩<;>rcases q' with ⟨p,p1,p2⟩ | ⟨p,p1⟩
 ·exact ⟨p1.trans q1.symm,p2.trans q2.symm⟩
 ·exact (q p).elim
 ·exact (p q).elim
 ·exact want_same _ q1 p1
theorem wit_same {z:List Int} {l:List (List Int)} {p p':Pt} {f f':Int} (h:WitX RestR z l p f) (k:WitX RestR z l p' f'):p'=p∧f'=f:=by
 obtain ⟨c,hc,q⟩:=h
 obtain ⟨c',hc',q'⟩:=k
 obtain rfl:=chk_same hc hc'
 rcases q with ⟨q,q1,q2⟩ | ⟨q,n,e,q1,q2⟩<;>rcases q' with ⟨v,v1,v2⟩ | ⟨v,m,g,v1,v2⟩
 ·exact ⟨v1.trans q1.symm,v2.trans q2.symm⟩
 ·exact (q v).elim
 ·exact (v q).elim
 ·obtain ⟨rfl,rfl⟩:=rest_same l q1 v1
  rcases q2 with ⟨q2,q3,q4⟩ | ⟨q2,q3,q4,q5⟩ | ⟨q2,q3,q4,q5⟩<;>rcases v2 with ⟨v2,v3,v4⟩ | ⟨v2,v3,v4,v5⟩ | ⟨v2,v3,v4,v5⟩
  ·exact ⟨v3.trans q3.symm,v4.trans q4.symm⟩
  ·exact (q2 v2).elim
  ·exact (q2 v2).elim
  ·exact (v2 q2).elim
  ·exact ⟨v4.trans q4.symm,v5.trans q5.symm⟩
  ·exact (v3 q3).elim
  ·exact (v2 q2).elim
  ·exact (q3 v3).elim
  ·obtain ⟨p1,p2,p3,p4⟩:=p
   obtain ⟨r1,r2,r3,r4⟩:=p'
   rw [q4] at v4
   injection v4 with x1 x2
   injection x2 with x2 _
   injection x1 with x1 y1
   injection x2 with x2 y2
   exact ⟨by dsimp only at x1 y1 x2 y2;rw [x1,y1,x2,y2],v5.trans q5.symm⟩
theorem pru_errM {l r:List (List Int)} {f:Int} (hl:Six l) (l6:l.length≤18) (h:PruX RestP l r f) (hf:f≠0):r=[]:=by
 have sl:=srt_len l
 obtain ⟨c,hc,q⟩:=pru_few hl (by omega) h
 rcases q with ⟨_,q1,_⟩ | ⟨q,q1⟩
 ·exact q1
 ·exact want_err _ q1 hf
theorem pru_okM {l r:List (List Int)} (hl:Six l) (l6:l.length≤18) (h:PruX RestP l r 0):
  (∀ x,x ∈ l→Zo x)∧(∀ x,x ∈ r→Zo x)∧r.length≤l.length∧Srt r∧(∀ x,x ∈ r→Own r x)∧∀ p,MayQ p→((∃ b,b ∈ l∧hasP b p=true)↔∃ b,b ∈ r∧hasP b p=true):=by
 have sl:=srt_len l
 obtain ⟨c,hc,q⟩:=pru_few hl (by omega) h
 rcases q with ⟨q,q1,q2⟩ | ⟨q,q1⟩
 ·exact (q q2.symm).elim
 ·obtain ⟨zl,_,_,_⟩:=chk_zo hl six_nil hc q
  have zs:∀ x,x ∈ srt l→Zo x:=fun x hx=>zl x ((srt_mem l x).1 hx)
  have su:=want_sub _ q1
  have le:=su.length_le
  refine ⟨zl,fun x hx=>zs x (su.subset hx),by omega,srt_sub (srt_is l) su,want_own _ (Nat.le_refl _) zs q1 (fun j h1 h2=>by omega),fun p m=>?_⟩
  rw [←want_has _ (Nat.le_refl _) zs q1 p m]
  exact ⟨fun ⟨b,hb,k⟩=>⟨b,(srt_mem l b).2 hb,k⟩,fun ⟨b,hb,k⟩=>⟨b,(srt_mem l b).1 hb,k⟩⟩
/-! the same, of six zones -/
theorem in_six {z:List Int} {l:List (List Int)} {is:Bool} {f:Int} (hz:z.length=6) (tz:Tops z) (hl:Six l) (h6:l.length≤6) (h:InX RestP z l is f):InX RestR z l is f:=in_few hz tz hl (by omega) h
theorem all_six {a b:List (List Int)} {is:Bool} {f:Int} (ha:Six a) (hb:Six b) (h6:b.length≤6) (h:AllX RestP a b is f):AllX RestR a b is f:=all_few ha hb (by omega) h
theorem pru_six {l r:List (List Int)} {f:Int} (hl:Six l) (h7:(srt l).length≤7) (h:PruX RestP l r f):PruX RestR l r f:=pru_few hl (by omega) h
theorem wit_six {z:List Int} {l:List (List Int)} {p:Pt} {f:Int} (hz:z.length=6) (tz:Tops z) (hl:Six l) (h6:l.length≤6) (h:WitX RestP z l p f):WitX RestR z l p f:=wit_few hz tz hl (by omega) h
theorem pru_err {l r:List (List Int)} {f:Int} (hl:Six l) (l6:l.length≤6) (h:PruX RestP l r f) (hf:f≠0):r=[]:=pru_errM hl (by omega) h hf
theorem pru_ok {l r:List (List Int)} (hl:Six l) (l6:l.length≤6) (h:PruX RestP l r 0):
  (∀ x,x ∈ l→Zo x)∧(∀ x,x ∈ r→Zo x)∧r.length≤6∧Srt r∧(∀ x,x ∈ r→Own r x)∧∀ p,MayQ p→((∃ b,b ∈ l∧hasP b p=true)↔∃ b,b ∈ r∧hasP b p=true):=by
 obtain ⟨h1,h2,h3,h4⟩:=pru_okM hl (by omega) h
 exact ⟨h1,h2,by omega,h4⟩
/-! zones put in order, the least one that is left at a time -/
def Head (l out:List (List Int)):Prop:=Srt out∧(∀ x,x ∈ out→x ∈ l)∧∀ x,x ∈ l→x ∈ out∨∀ y,y ∈ out→cmpL y x<0
def Bh (out:List (List Int)) (x:List Int):Prop:=out.length=0∨0<cmpL x (zat out (out.length - 1))
theorem last_most {out:List (List Int)} (h:Srt out) {y:List Int} (hy:y ∈ out):cmpL y (zat out (out.length - 1))≤0:=by
 obtain ⟨i,hi,rfl⟩:=List.mem_iff_getElem.1 hy
 unfold zat
 rw [List.getElem?_eq_getElem (by omega),Option.getD_some]
 by_cases e:i=out.length - 1
 ·subst e
  rw [cmp_self]
  exact Int.le_refl _
 ·have:=List.pairwise_iff_getElem.1 h i (out.length - 1) hi (by omega) (by omega)
  omega
theorem bh_iff {out:List (List Int)} (h:Srt out) (x:List Int):Bh out x↔∀ y,y ∈ out→cmpL y x<0:=by
 refine ⟨fun k y hy=>?_,fun k=>?_⟩
 ·have pos:=List.length_pos_of_mem hy
  rcases k with k | k
  ·omega
  ·have a:=last_most h hy
   have b:=cmp_back x (zat out (out.length - 1))
   rcases (by omega:cmpL y (zat out (out.length - 1))<0∨cmpL y (zat out (out.length - 1))=0) with e | e
   ·exact cmp_lt_trans e (by omega)
   ·rw [(cmp_zero _ _).1 e]
    omega
 ·by_cases e:out.length=0
  ·exact .inl e
  ·have:=k _ (zat_mem (by omega:out.length - 1<out.length))
   have b:=cmp_back x (zat out (out.length - 1))
   exact .inr (by omega)
theorem head_end {l out:List (List Int)} (h:Head l out) (k:∀ x,x ∈ l→¬ Bh out x):out=srt l:=
 srt_eq h.1 fun x=>⟨h.2.1 x,fun hx=>(h.2.2 x hx).resolve_right fun q=>k x hx ((bh_iff h.1 x).2 q)⟩
theorem head_add {l out:List (List Int)} {b:List Int} (h:Head l out) (hb:b ∈ l) (hh:Bh out b) (k:∀ x,x ∈ l→Bh out x→cmpL b x≤0):Head l (out++[b]):=by
 have q:=(bh_iff h.1 b).1 hh
 refine ⟨List.pairwise_append.2 ⟨h.1,List.pairwise_singleton _ _,fun x hx y hy=>by rw [List.mem_singleton.1 hy];exact q x hx⟩,fun x hx=>?_,fun x hx=>?_⟩
 ·rcases List.mem_append.1 hx with e | e
  ·exact h.2.1 x e
  ·rw [List.mem_singleton.1 e];exact hb
 ·rcases h.2.2 x hx with e | e
  ·exact .inl (List.mem_append.2 (.inl e))
  ·have:=k x hx ((bh_iff h.1 x).2 e)
   by_cases z:cmpL b x=0
   ·exact .inl (List.mem_append.2 (.inr (by rw [(cmp_zero b x).1 z];exact List.mem_cons_self)))
   ·refine .inr fun y hy=>?_
    rcases List.mem_append.1 hy with g | g
    ·exact e y g
    ·rw [List.mem_singleton.1 g];omega
theorem head_len {l out:List (List Int)} (h:Head l out):out.length≤l.length:=nodup_len (srt_nodup h.1) h.2.1
def Best (l out:List (List Int)) (i:Nat) (b:Int):Prop:=(b=-1∧∀ j,j<i→¬ Bh out (zat l j))∨∃ k:Nat,b=(k:Int)∧k<i∧Bh out (zat l k)∧∀ j,j<i→Bh out (zat l j)→cmpL (zat l k) (zat l j)≤0
theorem best_zero (l out:List (List Int)):Best l out 0 (-1):=.inl ⟨rfl,fun j hj=>by omega⟩
theorem best_skip {l out:List (List Int)} {i:Nat} {b:Int} (h:Best l out i b) (n:¬ Bh out (zat l i)):Best l out (i+1) b:=by
 rcases h with ⟨h1,h2⟩ | ⟨k,h1,h2,h3,h4⟩
 ·refine .inl ⟨h1,fun j hj=>?_⟩
  by_cases e:j=i
  ·subst e;exact n
  ·exact h2 j (by omega)
 ·refine .inr ⟨k,h1,by omega,h3,fun j hj q=>?_⟩
  by_cases e:j=i
  ·subst e;exact (n q).elim
  ·exact h4 j (by omega) q
theorem best_first {l out:List (List Int)} {i:Nat} {b:Int} (h:Best l out i b) (hb:b<0) (n:Bh out (zat l i)):Best l out (i+1) (i:Int):=by
 rcases h with ⟨h1,h2⟩ | ⟨k,h1,h2,h3,h4⟩
 ·refine .inr ⟨i,rfl,by omega,n,fun j hj q=>?_⟩
  by_cases e:j=i
  ·subst e;rw [cmp_self];exact Int.le_refl _
  ·exact (h2 j (by omega) q).elim
 ·omega
theorem best_less {l out:List (List Int)} {i k:Nat} (h:Best l out i (k:Int)) (n:Bh out (zat l i)) (c:cmpL (zat l i) (zat l k)<0):Best l out (i+1) (i:Int):=by
 rcases h with ⟨h1,h2⟩ | ⟨k',h1,h2,h3,h4⟩
 ·omega
 ·obtain rfl:k=k':=by omega
  refine .inr ⟨i,rfl,by omega,n,fun j hj q=>?_⟩
  by_cases e:j=i
  ·subst e;rw [cmp_self];exact Int.le_refl _
  ·have:=h4 j (by omega) q
   exact cmp_trans _ _ _ (by omega) this
theorem best_more {l out:List (List Int)} {i k:Nat} (h:Best l out i (k:Int)) (c:¬ cmpL (zat l i) (zat l k)<0):Best l out (i+1) (k:Int):=by
 rcases h with ⟨h1,h2⟩ | ⟨k',h1,h2,h3,h4⟩
 ·omega
 ·obtain rfl:k=k':=by omega
  refine .inr ⟨k,rfl,by omega,h3,fun j hj q=>?_⟩
  by_cases e:j=i
  ·subst e
   have:=cmp_back (zat l j) (zat l k)
   omega
  ·exact h4 j (by omega) q
theorem best_none {l out:List (List Int)} {b:Int} (hh:Head l out) (h:Best l out l.length b) (hb:b<0):out=srt l:=by
 rcases h with ⟨h1,h2⟩ | ⟨k,h1,_⟩
 ·refine head_end hh fun x hx=>?_
  obtain ⟨i,hi,rfl⟩:=List.mem_iff_getElem.1 hx
  have:=h2 i hi
  unfold zat at this
  rwa [List.getElem?_eq_getElem hi] at this
 ·omega
theorem best_add {l out:List (List Int)} {k:Nat} (hh:Head l out) (h:Best l out l.length (k:Int)):k<l.length∧Head l (out++[zat l k])∧out.length<l.length:=by
 rcases h with ⟨h1,h2⟩ | ⟨k',h1,h2,h3,h4⟩
 ·omega
 ·obtain rfl:k=k':=by omega
  have:=head_add hh (zat_mem h2) h3 fun x hx q=>by
   obtain ⟨i,hi,rfl⟩:=List.mem_iff_getElem.1 hx
   have:=h4 i hi
   rw [show zat l i=l[i] from by unfold zat;rw [List.getElem?_eq_getElem hi];rfl] at this
   exact this q
  refine ⟨h2,this,?_⟩
  have:=head_len this
  rw [List.length_append,List.length_singleton] at this
  omega
theorem take_one {l:List (List Int)} {i:Nat} (h:i<l.length):l.take (i+1)=l.take i++[zat l i]:=by
 rw [List.take_add_one,List.getElem?_eq_getElem h]
 unfold zat
 rw [List.getElem?_eq_getElem h]
 rfl
theorem era_same {l:List (List Int)} {i a:Nat} (h:i<l.length) (e:i=a):(l.take (i+1)).eraseIdx a=(l.take i).eraseIdx a:=by
 subst e
 rw [take_one h,List.eraseIdx_append_of_length_le (by rw [List.length_take];omega),List.length_take,Nat.min_eq_left (by omega),Nat.sub_self,show [zat l i].eraseIdx 0=[] from rfl,List.append_nil,List.eraseIdx_of_length_le (by rw [List.length_take];omega)]
theorem era_more {l:List (List Int)} {i a:Nat} (h:i<l.length) (e:i≠a):(l.take (i+1)).eraseIdx a=(l.take i).eraseIdx a++[zat l i]:=by
 rw [take_one h]
 by_cases k:a<i
 ·rw [List.eraseIdx_append_of_lt_length (by rw [List.length_take];omega)]
 ·rw [List.eraseIdx_of_length_le (by rw [List.length_append,List.length_singleton,List.length_take];omega),List.eraseIdx_of_length_le (by rw [List.length_take];omega)]
theorem era_cut (l:List (List Int)) (a:Nat):l.eraseIdx a=l.take a++l.drop (a+1):=List.eraseIdx_eq_take_drop_succ l a
theorem zat_take {l:List (List Int)} {k j:Nat} (h:j<k):zat (l.take k) j=zat l j:=by
 unfold zat
 rw [List.getElem?_take,if_pos h]
theorem zat_drop (l:List (List Int)) (k j:Nat):zat (l.drop k) j=zat l (k+j):=by
 unfold zat
 rw [List.getElem?_drop]
theorem zs_take {W:World} {b off cap cap':Nat} {l:List (List Int)} {n₀:Nat} (h:Zs n₀ W (.slice (some ⟨b,off,none⟩) l.length cap) l) (k:Nat) (hk:k≤l.length):Zs n₀ W (.slice (some ⟨b,off,none⟩) k cap') (l.take k):=by
 have hl:(l.take k).length=k:=by simp;omega
 rcases h with ⟨⟨a,c,e,_⟩,rfl⟩ | ⟨b',off',c',e,hb,hc⟩
 ·have:k=0:=by simpa using hk
  subst this
  exact .inl ⟨⟨_,cap',rfl,fun h=>by cases h⟩,rfl⟩
 ·injection e with e1 e2 e3
  injection e1 with e1
  injection e1 with e1 e4
  subst e1 e4
  refine .inr ⟨b,off,cap',by rw [hl],hb,fun j hj i hi=>?_⟩
  rw [zat_take (by omega)]
  exact hc j (by omega) i hi
theorem zs_drop {W:World} {b off cap cap':Nat} {l:List (List Int)} {n₀:Nat} (h:Zs n₀ W (.slice (some ⟨b,off,none⟩) l.length cap) l) (k:Nat) (hk:k≤l.length):Zs n₀ W (.slice (some ⟨b,off+k*6,none⟩) (l.length - k) cap') (l.drop k):=by
 have hl:(l.drop k).length=l.length - k:=by simp
 rcases h with ⟨⟨a,c,e,_⟩,rfl⟩ | ⟨b',off',c',e,hb,hc⟩
 ·exact .inl ⟨⟨_,cap',by rw [show ([]:List (List Int)).length - k=0 from Nat.zero_sub k],fun h=>by cases h⟩,List.drop_nil⟩
 ·injection e with e1 e2 e3
  injection e1 with e1
  injection e1 with e1 e4
  subst e1 e4
  refine .inr ⟨b,off+k*6,cap',by rw [hl],hb,fun j hj i hi=>?_⟩
  rw [zat_drop]
  have:=hc (k+j) (by omega) i hi
  rwa [show off+k*6+j*6+i=off+(k+j)*6+i from by omega]
theorem zs_end {W:World} {a:Option Addr} {l:List (List Int)} {n₀ k:Nat} (ha:a≠none) (hk:l.length≤k):Zs n₀ W (.slice a 0 0) (l.drop k):=.inl ⟨⟨a,0,rfl,fun _=>rfl⟩,List.drop_eq_nil_of_le hk⟩
end Go.Proofs.YthmljpccbjolgaaGreatDoor.cover
namespace Go.Proofs.YthmljpccbjolgaaGreatDoor.cover
open way num rat dbm Go.Proofs.YthmljpccbjolgaaGreatDoor.tight Go.Proofs.YthmljpccbjolgaaGreatDoor.tkept Go.Proofs.YthmljpccbjolgaaGreatDoor.incl Go.Proofs.YthmljpccbjolgaaGreatDoor.zone Go.Proofs.YthmljpccbjolgaaGreatDoor.win Go.Proofs.YthmljpccbjolgaaGreatDoor.minus Go.Proofs.YthmljpccbjolgaaGreatDoor.mz
open bound hiding up
set_option linter.unusedVariables false
set_option linter.unusedSimpArgs false
set_option linter.unusedSectionVars false
def kee (zs:List (List Int)) (i:Nat):Bool:=i==0 || decide (zat zs i≠zat zs (i - 1))
def cpt (zs:List (List Int)) (j:Nat):List (List Int):=((List.range j).filter (kee zs)).map (zat zs)
theorem cpt_zero (zs:List (List Int)):cpt zs 0=[]:=rfl
theorem cpt_yes {zs:List (List Int)} {j:Nat} (h:kee zs j=true):cpt zs (j+1)=cpt zs j++[zat zs j]:=by
 unfold cpt
 rw [List.range_succ,List.filter_append,List.map_append]
 simp [h]
theorem cpt_no {zs:List (List Int)} {j:Nat} (h:kee zs j=false):cpt zs (j+1)=cpt zs j:=by
 unfold cpt
 rw [List.range_succ,List.filter_append,List.map_append]
 simp [h]
theorem kee_yes {zs:List (List Int)} {j:Nat} (h:zat zs (j+1)≠zat zs j):kee zs (j+1)=true:=by
 unfold kee
 simp [h]
theorem kee_no {zs:List (List Int)} {j:Nat} (h:zat zs (j+1)=zat zs j):kee zs (j+1)=false:=by
 unfold kee
 simp [h]
theorem cpt_all {zs:List (List Int)}:∀ j,j≤zs.length→(∀ i,i+1<j→zat zs (i+1)≠zat zs i)→cpt zs j=zs.take j
 | 0,_,_=>by rw [cpt_zero,List.take_zero]
 | j+1,h,k=>by
  have e:kee zs j=true:=match j,k with
   | 0,_=>rfl
   | i+1,k=>kee_yes (k i (by omega))
  rw [cpt_yes e,cpt_all j (by omega) (fun i hi=>k i (by omega)),List.take_add_one,List.getElem?_eq_getElem (by omega)]
  unfold zat
  rw [List.getElem?_eq_getElem (by omega)]
  rfl
theorem cpt_mem {zs:List (List Int)} (x:List Int):∀ j,j≤zs.length→(x ∈ cpt zs j↔∃ i,i<j∧zat zs i=x)
 | 0,_=>⟨fun h=>(by cases h),fun ⟨i,h,_⟩=>absurd h (Nat.not_lt_zero i)⟩
 | j+1,h=>by
  have ih:=cpt_mem (zs:=zs) x j (by omega)
  cases e:kee zs j with
  | true=>
   rw [cpt_yes e,List.mem_append,ih,List.mem_singleton]
   refine ⟨fun q=>q.elim (fun ⟨i,a,b⟩=>⟨i,by omega,b⟩) (fun q=>⟨j,by omega,q.symm⟩),fun ⟨i,a,b⟩=>?_⟩
   by_cases q:i=j
   ·exact .inr (by rw [←b,q])
   ·exact .inl ⟨i,by omega,b⟩
  | false=>
   rw [cpt_no e,ih]
   refine ⟨fun ⟨i,a,b⟩=>⟨i,by omega,b⟩,fun ⟨i,a,b⟩=>?_⟩
   by_cases q:i=j
   ·match j,e with
    | 0,e=>exact (by cases e)
    | j+1,e=>
     unfold kee at e
     simp at e
     exact ⟨j,by omega,by rw [←e,←q];exact b⟩
   ·exact ⟨i,by omega,b⟩
theorem zat_all {zs:List (List Int)} (x:List Int):(∃ i,i<zs.length∧zat zs i=x)↔x ∈ zs:=by
 refine ⟨fun ⟨i,a,b⟩=>by rw [←b];exact zat_mem a,fun h=>?_⟩
 obtain ⟨i,hi,e⟩:=List.getElem_of_mem h
 refine ⟨i,hi,?_⟩
 unfold zat
 rw [List.getElem?_eq_getElem hi]
 exact e
theorem cpt_up {zs:List (List Int)} (h:zs.Pairwise fun x y=>cmpL x y≤0) {i j:Nat} (hj:j<zs.length) (hi:i≤j):cmpL (zat zs i) (zat zs j)≤0:=by
 by_cases e:i=j
 ·rw [e,cmp_self];exact Int.le_refl _
 ·have:=List.pairwise_iff_getElem.1 h i j (by omega) hj (by omega)
  unfold zat
  rw [List.getElem?_eq_getElem hj,List.getElem?_eq_getElem (by omega)]
  exact this
theorem cpt_srt {zs:List (List Int)} (h:zs.Pairwise fun x y=>cmpL x y≤0):∀ j,j≤zs.length→Srt (cpt zs j)
 | 0,_=>List.Pairwise.nil
 | j+1,hj=>by
  have ih:=cpt_srt h j (by omega)
  cases e:kee zs j with
  | false=>rw [cpt_no e];exact ih
  | true=>
   rw [cpt_yes e]
   refine List.pairwise_append.2 ⟨ih,List.pairwise_singleton _ _,fun x hx y hy=>?_⟩
   rw [List.mem_singleton.1 hy]
   obtain ⟨i,hi,rfl⟩:=(cpt_mem x j (by omega)).1 hx
   have a:=cpt_up h (i:=i) (j:=j) (by omega) (by omega)
   rcases cmp_in (zat zs i) (zat zs j) with q | q | q
   ·omega
   ·exfalso
    have q:=(cmp_zero _ _).1 q
    have k1:=cpt_up h (i:=i) (j:=j - 1) (by omega) (by omega)
    have k2:=cpt_up h (i:=j - 1) (j:=j) (by omega) (by omega)
    rw [q] at k1
    have k3:=cmp_back (zat zs j) (zat zs (j - 1))
    have:=(cmp_zero (zat zs j) (zat zs (j - 1))).1 (by omega)
    unfold kee at e
    simp [this] at e
    omega
   ·omega
theorem cpt_is {zs l:List (List Int)} (h:zs.Pairwise fun x y=>cmpL x y≤0) (k:zs.Perm l):cpt zs zs.length=srt l:=
 srt_eq (cpt_srt h _ (Nat.le_refl _)) fun x=>((cpt_mem x _ (Nat.le_refl _)).trans (zat_all x)).trans k.mem_iff
end Go.Proofs.YthmljpccbjolgaaGreatDoor.cover
