import Derived.Test.YthmljpccbjolgaaGreatDoorCoverA
import Derived.Test.YthmljpccbjolgaaGreatDoorMinusE
import Derived.Test.YthmljpccbjolgaaGreatDoorWinL
import Derived.Test.YthmljpccbjolgaaGreatDoorMinusF
namespace Go.Proofs.YthmljpccbjolgaaGreatDoor.zset
open way num rat dbm Go.Proofs.YthmljpccbjolgaaGreatDoor.tight Go.Proofs.YthmljpccbjolgaaGreatDoor.tkept Go.Proofs.YthmljpccbjolgaaGreatDoor.incl Go.Proofs.YthmljpccbjolgaaGreatDoor.zone Go.Proofs.YthmljpccbjolgaaGreatDoor.comp Go.Proofs.YthmljpccbjolgaaGreatDoor.win Go.Proofs.YthmljpccbjolgaaGreatDoor.minus Go.Proofs.YthmljpccbjolgaaGreatDoor.mz Go.Proofs.YthmljpccbjolgaaGreatDoor.cover
open bound hiding up
set_option linter.unusedVariables false
set_option linter.unusedSimpArgs false
set_option linter.unusedSectionVars false
abbrev To:=List Int→List Int→Int→Prop
def Col (T:To):List (List Int)→List (List Int)→List (List Int)→Int→Prop
 | [],cur,r,f=>r=cur∧f=0
 | z::zs,cur,r,f=>∃ o e,T z o e∧((e=6∧Col T zs cur r f)∨(e≠6∧e≠0∧r=[]∧f=e)∨(e=0∧Col T zs (cur++[o]) r f))
theorem col_one {T:To} (h1:∀ z o e o' e',T z o e→T z o' e'→o'=o∧e'=e):∀ (zs:List (List Int)) {cur r r':List (List Int)} {f f':Int},Col T zs cur r f→Col T zs cur r' f'→r'=r∧f'=f
 | [],_,_,_,_,_,h,k=>⟨k.1.trans h.1.symm,k.2.trans h.2.symm⟩
 | z::zs,cur,r,r',f,f',h,k=>by
  unfold Col at h k
  obtain ⟨o,e,hT,q⟩:=h
  obtain ⟨o',e',kT,q'⟩:=k
  obtain ⟨rfl,rfl⟩:=h1 _ _ _ _ _ hT kT
  rcases q with ⟨q1,q2⟩ | ⟨q1,q2,q3,q4⟩ | ⟨q1,q2⟩<;>rcases q' with ⟨p1,p2⟩ | ⟨p1,p2,p3,p4⟩ | ⟨p1,p2⟩
  all_goals first | exact col_one h1 zs q2 p2 | exact ⟨p3.trans q3.symm,p4.trans q4.symm⟩ | exact (p1 q1).elim | exact (q1 p1).elim | exact (p2 q1).elim | exact (q2 p1).elim | (rw [q1] at p1;exact absurd p1 (by decide))
theorem col_zo {T:To}:∀ (zs:List (List Int)) {cur r:List (List Int)},(∀ z,z ∈ zs→∀ o,T z o 0→Zo o)→(∀ x,x ∈ cur→Zo x)→Col T zs cur r 0→(∀ x,x ∈ r→Zo x)∧r.length≤cur.length+zs.length
 | [],cur,r,_,hc,h=>by rw [h.1];exact ⟨hc,by simp⟩
 | z::zs,cur,r,hk,hc,h=>by
  unfold Col at h
  obtain ⟨o,e,hT,q⟩:=h
  have hk':∀ z,z ∈ zs→∀ o,T z o 0→Zo o:=fun z hz=>hk z (List.mem_cons_of_mem _ hz)
  rw [List.length_cons]
  rcases q with ⟨q1,q2⟩ | ⟨q1,q2,q3,q4⟩ | ⟨q1,q2⟩
  ·obtain ⟨k1,k2⟩:=col_zo zs hk' hc q2
   exact ⟨k1,by omega⟩
  ·exact (q2 q4.symm).elim
  ·subst q1
   obtain ⟨k1,k2⟩:=col_zo zs hk' (fun x hx=>by
    rcases List.mem_append.1 hx with k | k
    ·exact hc x k
    ·rw [List.mem_singleton.1 k];exact hk z List.mem_cons_self o hT) q2
   rw [List.length_append,List.length_singleton] at k2
   exact ⟨k1,by omega⟩
/-! what is wanted, whatever its number -/
theorem want_ok:∀ (i:Nat) {out r:List (List Int)},i≤out.length→(∀ x,x ∈ out→Zo x)→Want RestP i out r 0→Want RestR i out r 0
 | 0,_,_,_,_,h=>h
 | i+1,out,r,hi,hz,h=>by
  unfold Want at h ⊢
  obtain ⟨n,e,hn,q⟩:=h
  have le:(out.eraseIdx i).length=out.length - 1:=List.length_eraseIdx_of_lt (by omega)
  have ze:∀ x,x ∈ out.eraseIdx i→Zo x:=fun x hx=>hz x (era_sub out i x hx)
  rcases q with ⟨q1,q2,q3⟩ | ⟨q1,q⟩
  ·exact (q1 q3.symm).elim
  ·subst q1
   refine ⟨n,0,restP_ok _ ze (fun x hx=>by rw [List.mem_singleton.1 hx];exact hz _ (at_mem (by omega))) hn,.inr ⟨rfl,?_⟩⟩
   rcases q with ⟨q2,q3⟩ | ⟨q2,q3⟩
   ·exact .inl ⟨q2,want_ok i (by omega) ze q3⟩
   ·exact .inr ⟨q2,want_ok i (by omega) hz q3⟩
theorem pru_fine {l r:List (List Int)} (hl:Six l) (h:PruX RestP l r 0):
  (∀ x,x ∈ l→Zo x)∧(∀ x,x ∈ r→Zo x)∧r.length≤l.length∧Srt r∧(∀ x,x ∈ r→cover.Own r x)∧∀ p,MayQ p→((∃ b,b ∈ l∧hasP b p=true)↔∃ b,b ∈ r∧hasP b p=true):=by
 have sl:=srt_len l
 obtain ⟨c,hc,q⟩:=h
 rcases q with ⟨q,q1,q2⟩ | ⟨q,q1⟩
 ·exact (q q2.symm).elim
 ·obtain ⟨zl,_,_,_⟩:=chk_zo hl six_nil hc q
  have zs:∀ x,x ∈ srt l→Zo x:=fun x hx=>zl x ((srt_mem l x).1 hx)
  replace q1:=want_ok _ (Nat.le_refl _) zs q1
  have su:=want_sub _ q1
  have le:=su.length_le
  refine ⟨zl,fun x hx=>zs x (su.subset hx),by omega,srt_sub (srt_is l) su,want_own _ (Nat.le_refl _) zs q1 (fun j h1 h2=>by omega),fun p m=>?_⟩
  rw [←want_has _ (Nat.le_refl _) zs q1 p m]
  exact ⟨fun ⟨b,hb,k⟩=>⟨b,(srt_mem l b).2 hb,k⟩,fun ⟨b,hb,k⟩=>⟨b,(srt_mem l b).1 hb,k⟩⟩
/-! the relations -/
def all6:List Int:=[9223372036854775807,9223372036854775807,9223372036854775807,9223372036854775807,9223372036854775807,9223372036854775807]
def EachX (R:Rel) (T:To) (c0:Int) (l r:List (List Int)) (f:Int):Prop:=∃ c,ChkR l [] c∧((c≠0∧r=[]∧f=c)∨(c=0∧((c0≠0∧r=[]∧f=c0)∨(c0=0∧∃ come e,Col T l [] come e∧((e≠0∧r=[]∧f=e)∨(e=0∧PruX R come r f))))))
def SameX (R:Rel) (a b:List (List Int)) (is:Bool) (f:Int):Prop:=∃ i e,AllX R a b i e∧((i=false∧is=false∧f=e)∨(i=true∧AllX R b a is f))
def HasX (l:List (List Int)) (p:Pt) (is:Bool) (f:Int):Prop:=∃ c,ChkR l [] c∧((c≠0∧is=false∧f=c)∨(c=0∧((¬ MayQ p∧is=false∧f=8)∨(MayQ p∧f=0∧(is=true↔∃ z,z ∈ l∧hasP z p=true)))))
/-! each is one -/
theorem each_one {T:To} {c0:Int} {l r r':List (List Int)} {f f':Int} (h1:∀ z o e o' e',T z o e→T z o' e'→o'=o∧e'=e) (h:EachX RestR T c0 l r f) (k:EachX RestR T c0 l r' f'):r'=r∧f'=f:=by
 obtain ⟨c,hc,q⟩:=h
 obtain ⟨c',hc',q'⟩:=k
 obtain rfl:=chk_same hc hc'
 rcases q with ⟨q,q1,q2⟩ | ⟨q,q1⟩<;>rcases q' with ⟨p,p1,p2⟩ | ⟨p,p1⟩
 ·exact ⟨p1.trans q1.symm,p2.trans q2.symm⟩
 ·exact (q p).elim
 ·exact (p q).elim
 ·rcases q1 with ⟨q1,q2,q3⟩ | ⟨q1,o,e,q2,q3⟩<;>rcases p1 with ⟨p1,p2,p3⟩ | ⟨p1,o',e',p2,p3⟩
  ·exact ⟨p2.trans q2.symm,p3.trans q3.symm⟩
  ·exact (q1 p1).elim
  ·exact (p1 q1).elim
  ·obtain ⟨rfl,rfl⟩:=col_one h1 l q2 p2
   rcases q3 with ⟨q3,q4,q5⟩ | ⟨q3,q4⟩<;>rcases p3 with ⟨p3,p4,p5⟩ | ⟨p3,p4⟩
   ·exact ⟨p4.trans q4.symm,p5.trans q5.symm⟩
   ·exact (q3 p3).elim
   ·exact (p3 q3).elim
   ·exact pru_same q4 p4
theorem same_one {a b:List (List Int)} {is is':Bool} {f f':Int} (h:SameX RestR a b is f) (k:SameX RestR a b is' f'):is'=is∧f'=f:=by
 obtain ⟨i,e,h1,q⟩:=h
 obtain ⟨i',e',k1,q'⟩:=k
 obtain ⟨rfl,rfl⟩:=all_same h1 k1
 rcases q with ⟨q,q1,q2⟩ | ⟨q,q1⟩<;>rcases q' with ⟨p,p1,p2⟩ | ⟨p,p1⟩
 ·exact ⟨p1.trans q1.symm,p2.trans q2.symm⟩
 ·rw [q] at p;cases p
 ·rw [q] at p;cases p
 ·exact all_same q1 p1
theorem has_one' {l:List (List Int)} {p:Pt} {is is':Bool} {f f':Int} (h:HasX l p is f) (k:HasX l p is' f'):is'=is∧f'=f:=by
 obtain ⟨c,hc,q⟩:=h
 obtain ⟨c',hc',q'⟩:=k
 obtain rfl:=chk_same hc hc'
 rcases q with ⟨q,q1,q2⟩ | ⟨q,q1⟩<;>rcases q' with ⟨p,p1,p2⟩ | ⟨p,p1⟩
 ·exact ⟨p1.trans q1.symm,p2.trans q2.symm⟩
 ·exact (q p).elim
 ·exact (p q).elim
 ·rcases q1 with ⟨q1,q2,q3⟩ | ⟨q1,q2,q3⟩<;>rcases p1 with ⟨p1,p2,p3⟩ | ⟨p1,p2,p3⟩
  ·exact ⟨p2.trans q2.symm,p3.trans q3.symm⟩
  ·exact (q1 p1).elim
  ·exact (p1 q1).elim
  ·exact ⟨by rw [Bool.eq_iff_iff,p3,q3],p2.trans q2.symm⟩
/-! with few zones the program's are the document's -/
theorem six_app {a b:List (List Int)} (ha:Six a) (hb:Six b):Six (a++b):=fun x hx=>by
 rcases List.mem_append.1 hx with k | k
 ·exact ha x k
 ·exact hb x k
theorem six_zo {l:List (List Int)} (h:∀ x,x ∈ l→Zo x):Six l:=fun x hx=>⟨(h x hx).2.2,(h x hx).2.1⟩
theorem each_few {T:To} {c0:Int} {l r:List (List Int)} {f:Int} (hT:∀ y,Zo y→∀ o,T y o 0→Zo o) (hl:Six l) (h18:l.length≤18) (h:EachX RestP T c0 l r f):EachX RestR T c0 l r f:=by
 obtain ⟨c,hc,q⟩:=h
 refine ⟨c,hc,?_⟩
 rcases q with q | ⟨q,q1⟩
 ·exact .inl q
 ·refine .inr ⟨q,?_⟩
  rcases q1 with q1 | ⟨q1,come,e,q2,q3⟩
  ·exact .inl q1
  ·refine .inr ⟨q1,come,e,q2,?_⟩
   rcases q3 with q3 | ⟨q3,q4⟩
   ·exact .inl q3
   ·subst q3
    obtain ⟨zl,_,_,_⟩:=chk_zo hl six_nil hc q
    obtain ⟨k1,k2⟩:=col_zo l (fun y hy=>hT y (zl y hy)) (fun x hx=>by cases hx) q2
    rw [List.length_nil] at k2
    have:=srt_len come
    exact .inr ⟨rfl,pru_few (six_zo k1) (by omega) q4⟩
theorem same_few {a b:List (List Int)} {is:Bool} {f:Int} (ha:Six a) (hb:Six b) (h1:a.length≤18) (h2:b.length≤18) (h:SameX RestP a b is f):SameX RestR a b is f:=by
 obtain ⟨i,e,k,q⟩:=h
 refine ⟨i,e,all_few ha hb h2 k,?_⟩
 rcases q with q | ⟨q,q1⟩
 ·exact .inl q
 ·exact .inr ⟨q,all_few hb ha h1 q1⟩
/-! no set beside an error -/
theorem want_errP:∀ (i:Nat) {out r:List (List Int)} {f:Int},Want RestP i out r f→f≠0→r=[]
 | 0,_,_,_,h,k=>(k h.2).elim
 | i+1,out,r,f,h,k=>by
  unfold Want at h
  obtain ⟨n,e,hn,q⟩:=h
  rcases q with ⟨_,q,_⟩ | ⟨q1,⟨q2,q3⟩ | ⟨q2,q3⟩⟩
  ·exact q
  ·exact want_errP i q3 k
  ·exact want_errP i q3 k
theorem pru_errP {l r:List (List Int)} {f:Int} (h:PruX RestP l r f) (hf:f≠0):r=[]:=by
 obtain ⟨c,hc,q⟩:=h
 rcases q with ⟨_,q1,_⟩ | ⟨q,q1⟩
 ·exact q1
 ·exact want_errP _ q1 hf
theorem each_err {T:To} {c0:Int} {l r:List (List Int)} {f:Int} (h:EachX RestP T c0 l r f) (hf:f≠0):r=[]:=by
 obtain ⟨c,hc,q⟩:=h
 rcases q with ⟨_,q1,_⟩ | ⟨q,⟨_,q1,_⟩ | ⟨_,come,e,_,⟨_,q1,_⟩ | ⟨_,q1⟩⟩⟩
 ·exact q1
 ·exact q1
 ·exact q1
 ·exact pru_errP q1 hf
/-! what is answered, and its points -/
theorem each_fine {T:To} {c0:Int} {l r:List (List Int)} (hT:∀ y,Zo y→∀ o,T y o 0→Zo o) (hl:Six l) (h:EachX RestP T c0 l r 0):
  (∀ x,x ∈ l→Zo x)∧(∀ x,x ∈ r→Zo x)∧r.length≤l.length∧Srt r∧(∀ x,x ∈ r→cover.Own r x)∧c0=0:=by
 obtain ⟨c,hc,q⟩:=h
 rcases q with ⟨q,_,q2⟩ | ⟨q,⟨q1,_,q2⟩ | ⟨q0,come,e,q1,⟨q2,_,q3⟩ | ⟨q2,q3⟩⟩⟩
 ·exact (q q2.symm).elim
 ·exact (q1 q2.symm).elim
 ·exact (q2 q3.symm).elim
 ·subst q2
  obtain ⟨zl,_,_,_⟩:=chk_zo hl six_nil hc q
  obtain ⟨k1,k2⟩:=col_zo l (fun y hy=>hT y (zl y hy)) (fun x hx=>by cases hx) q1
  obtain ⟨_,m1,m2,m3,m4,_⟩:=pru_fine (six_zo k1) q3
  rw [List.length_nil,Nat.zero_add] at k2
  exact ⟨zl,m1,by omega,m3,m4,q0⟩
theorem all_err {R:Rel} (hR:R=RestP∨R=RestR) {a b:List (List Int)} {is:Bool} {f:Int} (h:AllX R a b is f) (hf:f≠0):is=false:=by
 obtain ⟨c,hc,q⟩:=h
 rcases q with ⟨_,q,_⟩ | ⟨q,q1⟩
 ·exact q
 ·clear hR hc
  induction a with
  | nil=>exact (hf q1.2).elim
  | cons x a ih=>
   obtain ⟨n,e,hn,q⟩:=q1
   rcases q with ⟨_,q,_⟩ | ⟨_,⟨_,q,_⟩ | ⟨_,q⟩⟩
   ·exact q
   ·exact q
   ·exact ih q
end Go.Proofs.YthmljpccbjolgaaGreatDoor.zset
namespace Go.Proofs.YthmljpccbjolgaaGreatDoor.zset
open way num rat dbm Go.Proofs.YthmljpccbjolgaaGreatDoor.tight Go.Proofs.YthmljpccbjolgaaGreatDoor.tkept Go.Proofs.YthmljpccbjolgaaGreatDoor.incl Go.Proofs.YthmljpccbjolgaaGreatDoor.zone Go.Proofs.YthmljpccbjolgaaGreatDoor.comp Go.Proofs.YthmljpccbjolgaaGreatDoor.win Go.Proofs.YthmljpccbjolgaaGreatDoor.minus Go.Proofs.YthmljpccbjolgaaGreatDoor.mz Go.Proofs.YthmljpccbjolgaaGreatDoor.cover
open bound hiding up
set_option linter.unusedVariables false
set_option linter.unusedSimpArgs false
set_option linter.unusedSectionVars false
theorem les_all {w:List Int} (tw:Tops w):lesT (fullT all6) (fullT w)=fullT w:=by
 have key:∀ i:Nat,w[i]?.getD 0≤9223372036854775807:=fun i=>by
  cases h:w[i]? with
  | none=>decide
  | some x=>exact tw x (List.mem_of_getElem? h)
 show [lsr 1 1,lsr 9223372036854775807 (w[1]?.getD 0),lsr 9223372036854775807 (w[3]?.getD 0),lsr 9223372036854775807 (w[0]?.getD 0),lsr 1 1,lsr 9223372036854775807 (w[5]?.getD 0),lsr 9223372036854775807 (w[2]?.getD 0),lsr 9223372036854775807 (w[4]?.getD 0),lsr 1 1]=fullT w
 rw [lsr_self,zone.lsr_of (key 1),zone.lsr_of (key 3),zone.lsr_of (key 0),zone.lsr_of (key 5),zone.lsr_of (key 2),zone.lsr_of (key 4)]
 rfl
theorem closed_pair {w:List Int} {a b:Nat} (tw:Tops w) (mw:MayD 3 (fullT w)) (ok:OkD 3 (fullT w)) (ha:a<3) (hb:b<3) (h:∀ i j,i<3→j<3→i≠j→¬ (i=a∧j=b)→¬ (i=b∧j=a)→zw w i j=none):MayZ w:=by
 have diag:∀ i,i<3→zw w i i=way.one:=fun i hi=>by rcases (by omega:i=0∨i=1∨i=2) with rfl | rfl | rfl<;>rfl
 refine cl_may tw mw ⟨fun i j m hi hj hm=>?_,diag⟩
 by_cases e1:i=m
 ·subst e1
  rw [diag i hi,one_ad]
  exact le_refl _
 by_cases e2:m=j
 ·subst e2
  rw [diag m hm,ad_one]
  exact le_refl _
 by_cases k1:(i=a∧m=b)∨(i=b∧m=a)
 ·by_cases k2:(m=a∧j=b)∨(m=b∧j=a)
  ·have e:i=j:=by omega
   subst e
   rw [diag i hi]
   exact pair_ok (n:=3) (by decide) (by decide) rfl (full_tops tw) ok hi hm
  ·rw [h m j hm hj e2 (fun q=>k2 (.inl q)) (fun q=>k2 (.inr q)),ad_none]
   exact le_none _
 ·rw [h i m hi hm e1 (fun q=>k1 (.inl q)) (fun q=>k1 (.inr q)),none_ad]
  exact le_none _
theorem diff_closed {s:Sp} (hs:MayP s) (ok:OkD 3 (fullT (diffZ s))):MayZ (diffZ s):=closed_pair (a:=1) (b:=2) (diff_tops hs) (diff_may hs) ok (by decide) (by decide) fun i j hi hj h1 h2 h3=>by
 rcases (by omega:(i=0∧j=1)∨(i=0∧j=2)∨(i=1∧j=0)∨(i=2∧j=0)) with ⟨rfl,rfl⟩ | ⟨rfl,rfl⟩ | ⟨rfl,rfl⟩ | ⟨rfl,rfl⟩<;>rfl
theorem late_closed {s:Sp} (hs:MayP s) (ok:OkD 3 (fullT (lateZ s))):MayZ (lateZ s):=closed_pair (a:=0) (b:=2) (late_tops hs) (late_may hs) ok (by decide) (by decide) fun i j hi hj h1 h2 h3=>by
 rcases (by omega:(i=0∧j=1)∨(i=2∧j=1)∨(i=1∧j=0)∨(i=1∧j=2)) with ⟨rfl,rfl⟩ | ⟨rfl,rfl⟩ | ⟨rfl,rfl⟩ | ⟨rfl,rfl⟩<;>rfl
theorem zo_all:Zo all6:=by
 obtain ⟨k1,k2⟩:=tlaw.ok_cl (m:=3) (by decide) (ts:=[1,9223372036854775807,9223372036854775807,9223372036854775807,1,9223372036854775807,9223372036854775807,9223372036854775807,1]) (us:=[1,9223372036854775807,9223372036854775807,9223372036854775807,1,9223372036854775807,9223372036854775807,9223372036854775807,1]) (by decide+kernel) (by decide+kernel)
 exact ⟨⟨k1,k2⟩,by unfold Tops all6;decide,rfl⟩
theorem cut_all {w o:List Int} {e:Int} (tw:Tops w) (hc:OkD 3 (fullT w)→MayZ w) (h:CutR all6 w o e):e=0∨e=6:=by
 unfold CutR at h
 rw [les_all tw] at h
 rcases h with ⟨_,_,k⟩ | ⟨k1,k2,_,_⟩ | ⟨_,_,_,k⟩
 ·exact .inr k
 ·refine (k2 ?_).elim
  rw [(hc k1).2]
  exact (hc k1).may
 ·exact .inl k
def SpC (s:Sp) (c:Int):Prop:=(MayP s∧c=0)∨(¬ MayP s∧c=8)
def NuC (a b c:Int):Prop:=(MayW a b∧c=0)∨(¬ MayW a b∧c=2)
theorem spc_one {s:Sp} {c d:Int} (h:SpC s c) (k:SpC s d):d=c:=by
 rcases h with ⟨h1,h2⟩ | ⟨h1,h2⟩<;>rcases k with ⟨k1,k2⟩ | ⟨k1,k2⟩
 ·exact k2.trans h2.symm
 ·exact (k1 h1).elim
 ·exact (h1 k1).elim
 ·exact k2.trans h2.symm
theorem nuc_one {a b c d:Int} (h:NuC a b c) (k:NuC a b d):d=c:=by
 rcases h with ⟨h1,h2⟩ | ⟨h1,h2⟩<;>rcases k with ⟨k1,k2⟩ | ⟨k1,k2⟩
 ·exact k2.trans h2.symm
 ·exact (k1 h1).elim
 ·exact (h1 k1).elim
 ·exact k2.trans h2.symm
def WinT (s:Sp):To:=fun z o e=>WithinR z s o e
def LatT (a b:Int):To:=fun z o e=>WindowR z a b o e
theorem within_all {s:Sp} {o:List Int} {e:Int} (h:WinT s all6 o e):(MayP s∧(e=0∨e=6))∨(¬ MayP s∧e=8):=by
 rcases h with ⟨k,_⟩ | ⟨_,k,_,k2⟩ | ⟨_,k,k2⟩
 ·exact (k zo_all.1).elim
 ·exact .inr ⟨k,k2⟩
 ·exact .inl ⟨k,cut_all (diff_tops k) (diff_closed k) k2⟩
theorem winS_may {a b:Int} (h:MayW a b):MayP (winS a b):=win_may h.1 h.2.1 (Int.le_of_lt h.2.2)
theorem window_all {a b:Int} {o:List Int} {e:Int} (h:LatT a b all6 o e):(MayW a b∧(e=0∨e=6))∨(¬ MayW a b∧e=2):=by
 rcases h with ⟨k,_⟩ | ⟨_,k,_,k2⟩ | ⟨_,k,k2⟩
 ·exact (k zo_all.1).elim
 ·exact .inr ⟨k,k2⟩
 ·exact .inl ⟨k,cut_all (late_tops (winS_may k)) (late_closed (winS_may k)) k2⟩
theorem col_span {s:Sp} {r:List (List Int)} {e:Int} (h:Col (WinT s) [all6] [] r e):SpC s e:=by
 obtain ⟨o,g,hT,q⟩:=h
 rcases within_all hT with ⟨k1,k2⟩ | ⟨k1,k2⟩<;>rcases q with ⟨q1,q2⟩ | ⟨q1,q2,q3,q4⟩ | ⟨q1,q2⟩
 ·exact .inl ⟨k1,q2.2⟩
 ·omega
 ·exact .inl ⟨k1,q2.2⟩
 ·omega
 ·exact .inr ⟨k1,q4.trans k2⟩
 ·omega
theorem col_late {a b:Int} {r:List (List Int)} {e:Int} (h:Col (LatT a b) [all6] [] r e):NuC a b e:=by
 obtain ⟨o,g,hT,q⟩:=h
 rcases window_all hT with ⟨k1,k2⟩ | ⟨k1,k2⟩<;>rcases q with ⟨q1,q2⟩ | ⟨q1,q2,q3,q4⟩ | ⟨q1,q2⟩
 ·exact .inl ⟨k1,q2.2⟩
 ·omega
 ·exact .inl ⟨k1,q2.2⟩
 ·omega
 ·exact .inr ⟨k1,q4.trans k2⟩
 ·omega
/-! each is one -/
theorem within_one' {s:Sp} (z o:List Int) (e:Int) (o':List Int) (e':Int) (h:WinT s z o e) (k:WinT s z o' e'):o'=o∧e'=e:=by
 rcases h with ⟨h1,h2,h3⟩ | ⟨h1,h2,h3,h4⟩ | ⟨h1,h2,h3⟩<;>rcases k with ⟨k1,k2,k3⟩ | ⟨k1,k2,k3,k4⟩ | ⟨k1,k2,k3⟩
 all_goals first
  | exact ⟨k2.trans h2.symm,k3.trans h3.symm⟩
  | exact ⟨k3.trans h3.symm,k4.trans h4.symm⟩
  | exact (h1 k1).elim
  | exact (k1 h1).elim
  | exact (h2 k2).elim
  | exact (k2 h2).elim
  | exact cut_same h3 k3
theorem window_one' {a b:Int} (z o:List Int) (e:Int) (o':List Int) (e':Int) (h:LatT a b z o e) (k:LatT a b z o' e'):o'=o∧e'=e:=by
 rcases h with ⟨h1,h2,h3⟩ | ⟨h1,h2,h3,h4⟩ | ⟨h1,h2,h3⟩<;>rcases k with ⟨k1,k2,k3⟩ | ⟨k1,k2,k3,k4⟩ | ⟨k1,k2,k3⟩
 all_goals first
  | exact ⟨k2.trans h2.symm,k3.trans h3.symm⟩
  | exact ⟨k3.trans h3.symm,k4.trans h4.symm⟩
  | exact (h1 k1).elim
  | exact (k1 h1).elim
  | exact (h2 k2).elim
  | exact (k2 h2).elim
  | exact cut_same h3 k3
/-! zones that may be, and their points -/
theorem within_told {s:Sp} {z o:List Int} {e:Int} (hz:Zo z) (h:WinT s z o e) (he:e≠8):MayP s∧CutR z (diffZ s) o e:=by
 rcases h with ⟨k,_⟩ | ⟨_,k,_,k2⟩ | ⟨_,k,k2⟩
 ·exact (k hz.1).elim
 ·exact (he k2).elim
 ·exact ⟨k,k2⟩
theorem window_told {a b:Int} {z o:List Int} {e:Int} (hz:Zo z) (h:LatT a b z o e) (he:e≠2):MayW a b∧CutR z (lateZ (winS a b)) o e:=by
 rcases h with ⟨k,_⟩ | ⟨_,k,_,k2⟩ | ⟨_,k,k2⟩
 ·exact (k hz.1).elim
 ·exact (he k2).elim
 ·exact ⟨k,k2⟩
theorem within_zo {s:Sp} (z:List Int) (hz:Zo z) (o:List Int) (h:WinT s z o 0):Zo o:=by
 obtain ⟨k1,k2⟩:=within_told hz h (by decide)
 exact cut_zo hz.2.1 hz.1.may (diff_may k1) k2
theorem window_zo {a b:Int} (z:List Int) (hz:Zo z) (o:List Int) (h:LatT a b z o 0):Zo o:=by
 obtain ⟨k1,k2⟩:=window_told hz h (by decide)
 exact cut_zo hz.2.1 hz.1.may (late_may (winS_may k1)) k2
end Go.Proofs.YthmljpccbjolgaaGreatDoor.zset
