
/-
  Sets of pairs, pure: what their calls answer, as relations; each theorem names its conditions.
-/
import Derived.Test.YthmljpccbjolgaaGreatDoorCoverA
import Derived.Test.YthmljpccbjolgaaGreatDoorMinusE
namespace Go.Proofs.YthmljpccbjolgaaGreatDoor.zset
open way num rat dbm Go.Proofs.YthmljpccbjolgaaGreatDoor.tight Go.Proofs.YthmljpccbjolgaaGreatDoor.tkept Go.Proofs.YthmljpccbjolgaaGreatDoor.incl Go.Proofs.YthmljpccbjolgaaGreatDoor.zone Go.Proofs.YthmljpccbjolgaaGreatDoor.comp Go.Proofs.YthmljpccbjolgaaGreatDoor.win Go.Proofs.YthmljpccbjolgaaGreatDoor.minus Go.Proofs.YthmljpccbjolgaaGreatDoor.mz Go.Proofs.YthmljpccbjolgaaGreatDoor.cover
open bound hiding up
set_option linter.unusedVariables false
set_option linter.unusedSimpArgs false
set_option linter.unusedSectionVars false
abbrev To:=List Int→List Int→Int→Prop
def Col (T:To):List (List Int)→List (List Int)→List (List Int)→Int→Prop
 | [],cur,r,f=>r=cur∧f=0
 | z::zs,cur,r,f=>∃ o e,T z o e∧((e=6∧Col T zs cur r f)∨(e≠6∧e≠0∧r=[]∧f=e)∨(e=0∧Col T zs (cur++[o]) r f))
theorem col_one {T:To} (h1:∀ z o e o' e',T z o e→T z o' e'→o'=o∧e'=e):∀ (zs:List (List Int)) {cur r r':List (List Int)} {f f':Int},Col T zs cur r f→Col T zs cur r' f'→r'=r∧f'=f
 | [],_,_,_,_,_,h,k=>⟨k.1.trans h.1.symm,k.2.trans h.2.symm⟩
 | z::zs,cur,r,r',f,f',h,k=>by
  unfold Col at h k
  obtain ⟨o,e,hT,q⟩:=h
  obtain ⟨o',e',kT,q'⟩:=k
  obtain ⟨rfl,rfl⟩:=h1 _ _ _ _ _ hT kT
  rcases q with ⟨q1,q2⟩ | ⟨q1,q2,q3,q4⟩ | ⟨q1,q2⟩<;>rcases q' with ⟨p1,p2⟩ | ⟨p1,p2,p3,p4⟩ | ⟨p1,p2⟩
  all_goals first | exact col_one h1 zs q2 p2 | exact ⟨p3.trans q3.symm,p4.trans q4.symm⟩ | exact (p1 q1).elim | exact (q1 p1).elim | exact (p2 q1).elim | exact (q2 p1).elim | (rw [q1] at p1;exact absurd p1 (by decide))
theorem col_push {T:To} (x:List (List Int)):∀ (zs:List (List Int)) {cur r:List (List Int)} {f:Int},Col T zs cur r f→Col T zs (x++cur) (if f=0 then x++r else []) f
 | [],cur,r,f,h=>by
  obtain ⟨rfl,rfl⟩:=h
  exact ⟨by rw [if_pos rfl],rfl⟩
 | z::zs,cur,r,f,h=>by
  unfold Col at h ⊢
  obtain ⟨o,e,hT,q⟩:=h
  refine ⟨o,e,hT,?_⟩
  rcases q with ⟨q1,q2⟩ | ⟨q1,q2,q3,q4⟩ | ⟨q1,q2⟩
  ·exact .inl ⟨q1,col_push x zs q2⟩
  ·exact .inr (.inl ⟨q1,q2,by rw [if_neg (by rw [q4];exact q2)],q4⟩)
  ·refine .inr (.inr ⟨q1,?_⟩)
   have:=col_push x zs q2
   rwa [←List.append_assoc] at this
theorem col_zo {T:To}:∀ (zs:List (List Int)) {cur r:List (List Int)},(∀ z,z ∈ zs→∀ o,T z o 0→Zo o)→(∀ x,x ∈ cur→Zo x)→Col T zs cur r 0→(∀ x,x ∈ r→Zo x)∧r.length≤cur.length+zs.length
 | [],cur,r,_,hc,h=>by rw [h.1];exact ⟨hc,by simp⟩
 | z::zs,cur,r,hk,hc,h=>by
  unfold Col at h
  obtain ⟨o,e,hT,q⟩:=h
  have hk':∀ z,z ∈ zs→∀ o,T z o 0→Zo o:=fun z hz=>hk z (List.mem_cons_of_mem _ hz)
  rw [List.length_cons]
  rcases q with ⟨q1,q2⟩ | ⟨q1,q2,q3,q4⟩ | ⟨q1,q2⟩
  ·obtain ⟨k1,k2⟩:=col_zo zs hk' hc q2
   exact ⟨k1,by omega⟩
  ·exact (q2 q4.symm).elim
  ·subst q1
   obtain ⟨k1,k2⟩:=col_zo zs hk' (fun x hx=>by
    rcases List.mem_append.1 hx with k | k
    ·exact hc x k
    ·rw [List.mem_singleton.1 k];exact hk z List.mem_cons_self o hT) q2
   rw [List.length_append,List.length_singleton] at k2
   exact ⟨k1,by omega⟩
theorem col_has {T:To} {Q:List Int→Pt→Prop} {p:Pt}:∀ (zs:List (List Int)) {cur r:List (List Int)},(∀ z,z ∈ zs→∀ o,T z o 0→(hasP o p=true↔Q z p))→(∀ z,z ∈ zs→∀ o,T z o 6→¬ Q z p)→Col T zs cur r 0→
  ((∃ x,x ∈ r∧hasP x p=true)↔(∃ x,x ∈ cur∧hasP x p=true)∨∃ z,z ∈ zs∧Q z p)
 | [],cur,r,_,_,h=>by
  rw [h.1]
  exact ⟨.inl,fun q=>q.elim id fun ⟨z,hz,_⟩=>by cases hz⟩
 | z::zs,cur,r,h0,h6,h=>by
  unfold Col at h
  obtain ⟨o,e,hT,q⟩:=h
  have h0':∀ z,z ∈ zs→∀ o,T z o 0→(hasP o p=true↔Q z p):=fun z hz=>h0 z (List.mem_cons_of_mem _ hz)
  have h6':∀ z,z ∈ zs→∀ o,T z o 6→¬ Q z p:=fun z hz=>h6 z (List.mem_cons_of_mem _ hz)
  rcases q with ⟨q1,q2⟩ | ⟨q1,q2,q3,q4⟩ | ⟨q1,q2⟩
  ·subst q1
   rw [col_has zs h0' h6' q2]
   refine or_congr Iff.rfl ⟨fun ⟨x,hx,k⟩=>⟨x,List.mem_cons_of_mem _ hx,k⟩,fun ⟨x,hx,k⟩=>?_⟩
   rcases List.mem_cons.1 hx with e | e
   ·rw [e] at k
    exact (h6 z List.mem_cons_self o hT k).elim
   ·exact ⟨x,e,k⟩
  ·exact (q2 q4.symm).elim
  ·subst q1
   rw [col_has zs h0' h6' q2]
   have ho:=h0 z List.mem_cons_self o hT
   constructor
   ·rintro (⟨x,hx,k⟩ | ⟨x,hx,k⟩)
    ·rcases List.mem_append.1 hx with j | j
     ·exact .inl ⟨x,j,k⟩
     ·rw [List.mem_singleton.1 j] at k
      exact .inr ⟨z,List.mem_cons_self,ho.1 k⟩
    ·exact .inr ⟨x,List.mem_cons_of_mem _ hx,k⟩
   ·rintro (⟨x,hx,k⟩ | ⟨x,hx,k⟩)
    ·exact .inl ⟨x,List.mem_append.2 (.inl hx),k⟩
    ·rcases List.mem_cons.1 hx with e | e
     ·rw [e] at k
      exact .inl ⟨o,List.mem_append.2 (.inr (List.mem_singleton.2 rfl)),ho.2 k⟩
     ·exact .inr ⟨x,e,k⟩
/-! what is wanted, whatever its number -/
theorem want_ok:∀ (i:Nat) {out r:List (List Int)},i≤out.length→(∀ x,x ∈ out→Zo x)→Want RestP i out r 0→Want RestR i out r 0
 | 0,_,_,_,_,h=>h
 | i+1,out,r,hi,hz,h=>by
  unfold Want at h ⊢
  obtain ⟨n,e,hn,q⟩:=h
  have le:(out.eraseIdx i).length=out.length - 1:=List.length_eraseIdx_of_lt (by omega)
  have ze:∀ x,x ∈ out.eraseIdx i→Zo x:=fun x hx=>hz x (era_sub out i x hx)
  rcases q with ⟨q1,q2,q3⟩ | ⟨q1,q⟩
  ·exact (q1 q3.symm).elim
  ·subst q1
   refine ⟨n,0,restP_ok _ ze (fun x hx=>by rw [List.mem_singleton.1 hx];exact hz _ (at_mem (by omega))) hn,.inr ⟨rfl,?_⟩⟩
   rcases q with ⟨q2,q3⟩ | ⟨q2,q3⟩
   ·exact .inl ⟨q2,want_ok i (by omega) ze q3⟩
   ·exact .inr ⟨q2,want_ok i (by omega) hz q3⟩
theorem pru_fine {l r:List (List Int)} (hl:Six l) (h:PruX RestP l r 0):
  (∀ x,x ∈ l→Zo x)∧(∀ x,x ∈ r→Zo x)∧r.length≤l.length∧Srt r∧(∀ x,x ∈ r→cover.Own r x)∧∀ p,MayQ p→((∃ b,b ∈ l∧hasP b p=true)↔∃ b,b ∈ r∧hasP b p=true):=by
 have sl:=srt_len l
 obtain ⟨c,hc,q⟩:=h
 rcases q with ⟨q,q1,q2⟩ | ⟨q,q1⟩
 ·exact (q q2.symm).elim
 ·obtain ⟨zl,_,_,_⟩:=chk_zo hl six_nil hc q
  have zs:∀ x,x ∈ srt l→Zo x:=fun x hx=>zl x ((srt_mem l x).1 hx)
  replace q1:=want_ok _ (Nat.le_refl _) zs q1
  have su:=want_sub _ q1
  have le:=su.length_le
  refine ⟨zl,fun x hx=>zs x (su.subset hx),by omega,srt_sub (srt_is l) su,want_own _ (Nat.le_refl _) zs q1 (fun j h1 h2=>by omega),fun p m=>?_⟩
  rw [←want_has _ (Nat.le_refl _) zs q1 p m]
  exact ⟨fun ⟨b,hb,k⟩=>⟨b,(srt_mem l b).2 hb,k⟩,fun ⟨b,hb,k⟩=>⟨b,(srt_mem l b).1 hb,k⟩⟩
theorem pru_two {l r r':List (List Int)} {f f':Int} (hl:Six l) (h18:l.length≤18) (h:PruX RestP l r f) (k:PruX RestP l r' f'):r'=r∧f'=f:=by
 have:=srt_len l
 exact pru_same (pru_few hl (by omega) h) (pru_few hl (by omega) k)
/-! the relations -/
def MayS (R:Rel) (l:List (List Int)) (f:Int):Prop:=∃ r e,PruX R l r e∧f=if e=0∧r=l then 0 else 8
def OrX (R:Rel) (a b r:List (List Int)) (f:Int):Prop:=∃ c,ChkR a b c∧((c≠0∧r=[]∧f=c)∨(c=0∧PruX R (a++b) r f))
def Bo (R:Rel) (T:List Int→To) (b:List (List Int)):List (List Int)→List (List Int)→List (List Int)→Int→Prop
 | [],cur,r,f=>r=cur∧f=0
 | z::zs,cur,r,f=>∃ put e,Col (T z) b cur put e∧((e≠0∧r=[]∧f=e)∨(e=0∧∃ n g,PruX R put n g∧((g≠0∧r=[]∧f=g)∨(g=0∧Bo R T b zs n r f))))
def BothX (R:Rel) (T:List Int→To) (a b r:List (List Int)) (f:Int):Prop:=∃ c,ChkR a b c∧((c≠0∧r=[]∧f=c)∨(c=0∧Bo R T b a [] r f))
def all6:List Int:=[9223372036854775807,9223372036854775807,9223372036854775807,9223372036854775807,9223372036854775807,9223372036854775807]
def EachX (R:Rel) (T:To) (c0:Int) (l r:List (List Int)) (f:Int):Prop:=∃ c,ChkR l [] c∧((c≠0∧r=[]∧f=c)∨(c=0∧((c0≠0∧r=[]∧f=c0)∨(c0=0∧∃ come e,Col T l [] come e∧((e≠0∧r=[]∧f=e)∨(e=0∧PruX R come r f))))))
def SameX (R:Rel) (a b:List (List Int)) (is:Bool) (f:Int):Prop:=∃ i e,AllX R a b i e∧((i=false∧is=false∧f=e)∨(i=true∧AllX R b a is f))
def HasX (l:List (List Int)) (p:Pt) (is:Bool) (f:Int):Prop:=∃ c,ChkR l [] c∧((c≠0∧is=false∧f=c)∨(c=0∧((¬ MayQ p∧is=false∧f=8)∨(MayQ p∧f=0∧(is=true↔∃ z,z ∈ l∧hasP z p=true)))))
/-! each is one -/
theorem mays_one {l:List (List Int)} {f f':Int} (h:MayS RestR l f) (k:MayS RestR l f'):f'=f:=by
 obtain ⟨r,e,h1,rfl⟩:=h
 obtain ⟨r',e',k1,rfl⟩:=k
 obtain ⟨rfl,rfl⟩:=pru_same h1 k1
 rfl
theorem or_one {a b r r':List (List Int)} {f f':Int} (h:OrX RestR a b r f) (k:OrX RestR a b r' f'):r'=r∧f'=f:=by
 obtain ⟨c,hc,q⟩:=h
 obtain ⟨c',hc',q'⟩:=k
 obtain rfl:=chk_same hc hc'
 rcases q with ⟨q,q1,q2⟩ | ⟨q,q1⟩<;>rcases q' with ⟨p,p1,p2⟩ | ⟨p,p1⟩
 ·exact ⟨p1.trans q1.symm,p2.trans q2.symm⟩
 ·exact (q p).elim
 ·exact (p q).elim
 ·exact pru_same q1 p1
theorem bo_one {T:List Int→To} {b:List (List Int)} (h1:∀ y z o e o' e',T y z o e→T y z o' e'→o'=o∧e'=e):∀ (zs:List (List Int)) {cur r r':List (List Int)} {f f':Int},Bo RestR T b zs cur r f→Bo RestR T b zs cur r' f'→r'=r∧f'=f
 | [],_,_,_,_,_,h,k=>⟨k.1.trans h.1.symm,k.2.trans h.2.symm⟩
 | z::zs,cur,r,r',f,f',h,k=>by
  unfold Bo at h k
  obtain ⟨o,e,hT,q⟩:=h
  obtain ⟨o',e',kT,q'⟩:=k
  obtain ⟨rfl,rfl⟩:=col_one (h1 z) b hT kT
  rcases q with ⟨q1,q2,q3⟩ | ⟨q1,n,g,q2,q3⟩<;>rcases q' with ⟨p1,p2,p3⟩ | ⟨p1,n',g',p2,p3⟩
  ·exact ⟨p2.trans q2.symm,p3.trans q3.symm⟩
  ·exact (q1 p1).elim
  ·exact (p1 q1).elim
  ·obtain ⟨rfl,rfl⟩:=pru_same q2 p2
   rcases q3 with ⟨q3,q4,q5⟩ | ⟨q3,q4⟩<;>rcases p3 with ⟨p3,p4,p5⟩ | ⟨p3,p4⟩
   ·exact ⟨p4.trans q4.symm,p5.trans q5.symm⟩
   ·exact (q3 p3).elim
   ·exact (p3 q3).elim
   ·exact bo_one h1 zs q4 p4
theorem both_one' {T:List Int→To} {a b r r':List (List Int)} {f f':Int} (h1:∀ y z o e o' e',T y z o e→T y z o' e'→o'=o∧e'=e) (h:BothX RestR T a b r f) (k:BothX RestR T a b r' f'):r'=r∧f'=f:=by
 obtain ⟨c,hc,q⟩:=h
 obtain ⟨c',hc',q'⟩:=k
 obtain rfl:=chk_same hc hc'
 rcases q with ⟨q,q1,q2⟩ | ⟨q,q1⟩<;>rcases q' with ⟨p,p1,p2⟩ | ⟨p,p1⟩
 ·exact ⟨p1.trans q1.symm,p2.trans q2.symm⟩
 ·exact (q p).elim
 ·exact (p q).elim
 ·exact bo_one h1 a q1 p1
theorem same_one {a b:List (List Int)} {is is':Bool} {f f':Int} (h:SameX RestR a b is f) (k:SameX RestR a b is' f'):is'=is∧f'=f:=by
 obtain ⟨i,e,h1,q⟩:=h
 obtain ⟨i',e',k1,q'⟩:=k
 obtain ⟨rfl,rfl⟩:=all_same h1 k1
 rcases q with ⟨q,q1,q2⟩ | ⟨q,q1⟩<;>rcases q' with ⟨p,p1,p2⟩ | ⟨p,p1⟩
 ·exact ⟨p1.trans q1.symm,p2.trans q2.symm⟩
 ·rw [q] at p;cases p
 ·rw [q] at p;cases p
 ·exact all_same q1 p1
/-! with few zones the program's are the document's -/
theorem six_app {a b:List (List Int)} (ha:Six a) (hb:Six b):Six (a++b):=fun x hx=>by
 rcases List.mem_append.1 hx with k | k
 ·exact ha x k
 ·exact hb x k
theorem six_zo {l:List (List Int)} (h:∀ x,x ∈ l→Zo x):Six l:=fun x hx=>⟨(h x hx).2.2,(h x hx).2.1⟩
theorem mays_few {l:List (List Int)} {f:Int} (hl:Six l) (h18:l.length≤18) (h:MayS RestP l f):MayS RestR l f:=by
 obtain ⟨r,e,h1,h2⟩:=h
 have:=srt_len l
 exact ⟨r,e,pru_few hl (by omega) h1,h2⟩
theorem or_few {a b r:List (List Int)} {f:Int} (ha:Six a) (hb:Six b) (h18:a.length+b.length≤18) (h:OrX RestP a b r f):OrX RestR a b r f:=by
 obtain ⟨c,hc,q⟩:=h
 refine ⟨c,hc,?_⟩
 rcases q with q | ⟨q,q1⟩
 ·exact .inl q
 ·have:=srt_len (a++b)
  rw [List.length_append] at this
  exact .inr ⟨q,pru_few (six_app ha hb) (by omega) q1⟩
theorem bo_few {T:List Int→To} {b:List (List Int)}:∀ (zs:List (List Int)) {cur r:List (List Int)} {f:Int},(∀ y,y ∈ zs→∀ z,z ∈ b→∀ o,T y z o 0→Zo o)→(∀ x,x ∈ cur→Zo x)→cur.length+zs.length*b.length≤18→Bo RestP T b zs cur r f→Bo RestR T b zs cur r f
 | [],_,_,_,_,_,_,h=>h
 | z::zs,cur,r,f,hk,hc,h18,h=>by
  unfold Bo at h ⊢
  obtain ⟨put,e,hT,q⟩:=h
  refine ⟨put,e,hT,?_⟩
  rw [List.length_cons,Nat.succ_mul] at h18
  rcases q with q | ⟨q1,n,g,q2,q3⟩
  ·exact .inl q
  ·subst q1
   obtain ⟨k1,k2⟩:=col_zo b (fun y hy o=>hk z List.mem_cons_self y hy o) hc hT
   have sl:=srt_len put
   have s6:=six_zo k1
   have hp:=pru_few s6 (by omega) q2
   refine .inr ⟨rfl,n,g,hp,?_⟩
   rcases q3 with q3 | ⟨q3,q4⟩
   ·exact .inl q3
   ·subst q3
    obtain ⟨_,m1,m2,_⟩:=pru_fine s6 q2
    exact .inr ⟨rfl,bo_few zs (fun y hy=>hk y (List.mem_cons_of_mem _ hy)) m1 (by omega) q4⟩
theorem both_few {T:List Int→To} {a b r:List (List Int)} {f:Int} (hT:∀ y,Zo y→∀ z,Zo z→∀ o,T y z o 0→Zo o) (ha:Six a) (hb:Six b) (h18:a.length*b.length≤18) (h:BothX RestP T a b r f):BothX RestR T a b r f:=by
 obtain ⟨c,hc,q⟩:=h
 refine ⟨c,hc,?_⟩
 rcases q with q | ⟨q,q1⟩
 ·exact .inl q
 ·obtain ⟨za,zb,_,_⟩:=chk_zo ha hb hc q
  exact .inr ⟨q,bo_few a (fun y hy z hz=>hT y (za y hy) z (zb z hz)) (fun x hx=>by cases hx) (by rw [List.length_nil];omega) q1⟩
theorem same_few {a b:List (List Int)} {is:Bool} {f:Int} (ha:Six a) (hb:Six b) (h1:a.length≤18) (h2:b.length≤18) (h:SameX RestP a b is f):SameX RestR a b is f:=by
 obtain ⟨i,e,k,q⟩:=h
 refine ⟨i,e,all_few ha hb h2 k,?_⟩
 rcases q with q | ⟨q,q1⟩
 ·exact .inl q
 ·exact .inr ⟨q,all_few hb ha h1 q1⟩
/-! no set beside an error -/
theorem want_errP:∀ (i:Nat) {out r:List (List Int)} {f:Int},Want RestP i out r f→f≠0→r=[]
 | 0,_,_,_,h,k=>(k h.2).elim
 | i+1,out,r,f,h,k=>by
  unfold Want at h
  obtain ⟨n,e,hn,q⟩:=h
  rcases q with ⟨_,q,_⟩ | ⟨q1,⟨q2,q3⟩ | ⟨q2,q3⟩⟩
  ·exact q
  ·exact want_errP i q3 k
  ·exact want_errP i q3 k
theorem pru_errP {l r:List (List Int)} {f:Int} (h:PruX RestP l r f) (hf:f≠0):r=[]:=by
 obtain ⟨c,hc,q⟩:=h
 rcases q with ⟨_,q1,_⟩ | ⟨q,q1⟩
 ·exact q1
 ·exact want_errP _ q1 hf
theorem or_err {a b r:List (List Int)} {f:Int} (h:OrX RestP a b r f) (hf:f≠0):r=[]:=by
 obtain ⟨c,hc,q⟩:=h
 rcases q with ⟨_,q1,_⟩ | ⟨q,q1⟩
 ·exact q1
 ·exact pru_errP q1 hf
theorem bo_err {T:List Int→To} {b:List (List Int)}:∀ (zs:List (List Int)) {cur r:List (List Int)} {f:Int},Bo RestP T b zs cur r f→f≠0→r=[]
 | [],_,_,_,h,k=>(k h.2).elim
 | z::zs,cur,r,f,h,k=>by
  unfold Bo at h
  obtain ⟨put,e,hT,q⟩:=h
  rcases q with ⟨_,q,_⟩ | ⟨_,n,g,_,⟨_,q,_⟩ | ⟨_,q⟩⟩
  ·exact q
  ·exact q
  ·exact bo_err zs q k
theorem both_err {T:List Int→To} {a b r:List (List Int)} {f:Int} (h:BothX RestP T a b r f) (hf:f≠0):r=[]:=by
 obtain ⟨c,hc,q⟩:=h
 rcases q with ⟨_,q1,_⟩ | ⟨q,q1⟩
 ·exact q1
 ·exact bo_err a q1 hf
theorem each_err {T:To} {c0:Int} {l r:List (List Int)} {f:Int} (h:EachX RestP T c0 l r f) (hf:f≠0):r=[]:=by
 obtain ⟨c,hc,q⟩:=h
 rcases q with ⟨_,q1,_⟩ | ⟨q,⟨_,q1,_⟩ | ⟨_,come,e,_,⟨_,q1,_⟩ | ⟨_,q1⟩⟩⟩
 ·exact q1
 ·exact q1
 ·exact q1
 ·exact pru_errP q1 hf
/-! what is answered, and its points -/
theorem or_fine {a b r:List (List Int)} (ha:Six a) (hb:Six b) (h:OrX RestP a b r 0):
  (∀ x,x ∈ a→Zo x)∧(∀ x,x ∈ b→Zo x)∧(∀ x,x ∈ r→Zo x)∧r.length≤a.length+b.length∧Srt r∧(∀ x,x ∈ r→cover.Own r x)∧∀ p,MayQ p→((∃ x,x ∈ r∧hasP x p=true)↔(∃ x,x ∈ a∧hasP x p=true)∨∃ x,x ∈ b∧hasP x p=true):=by
 obtain ⟨c,hc,q⟩:=h
 rcases q with ⟨q,q1,q2⟩ | ⟨q,q1⟩
 ·exact (q q2.symm).elim
 ·obtain ⟨za,zb,_,_⟩:=chk_zo ha hb hc q
  obtain ⟨_,k1,k2,k3,k4,k5⟩:=pru_fine (six_app ha hb) q1
  rw [List.length_append] at k2
  refine ⟨za,zb,k1,k2,k3,k4,fun p m=>?_⟩
  rw [←k5 p m]
  constructor
  ·rintro ⟨x,hx,k⟩
   rcases List.mem_append.1 hx with j | j
   ·exact .inl ⟨x,j,k⟩
   ·exact .inr ⟨x,j,k⟩
  ·rintro (⟨x,hx,k⟩ | ⟨x,hx,k⟩)
   ·exact ⟨x,List.mem_append.2 (.inl hx),k⟩
   ·exact ⟨x,List.mem_append.2 (.inr hx),k⟩
theorem bo_fine {T:List Int→To} {b:List (List Int)}:∀ (zs:List (List Int)) {cur r:List (List Int)},(∀ y,y ∈ zs→∀ z,z ∈ b→∀ o,T y z o 0→Zo o)→(∀ x,x ∈ cur→Zo x)→Srt cur→(∀ x,x ∈ cur→cover.Own cur x)→Bo RestP T b zs cur r 0→
  (∀ x,x ∈ r→Zo x)∧r.length≤cur.length+zs.length*b.length∧Srt r∧∀ x,x ∈ r→cover.Own r x
 | [],cur,r,_,hc,hs,ho,h=>by
  rw [h.1]
  exact ⟨hc,by simp,hs,ho⟩
 | z::zs,cur,r,hk,hc,hs,ho,h=>by
  unfold Bo at h
  obtain ⟨put,e,hT,q⟩:=h
  rw [List.length_cons,Nat.succ_mul]
  rcases q with ⟨q1,_,q2⟩ | ⟨q1,n,g,q2,⟨q3,_,q4⟩ | ⟨q3,q4⟩⟩
  ·exact (q1 q2.symm).elim
  ·exact (q3 q4.symm).elim
  ·subst q1 q3
   obtain ⟨k1,k2⟩:=col_zo b (fun y hy o=>hk z List.mem_cons_self y hy o) hc hT
   obtain ⟨_,m1,m2,m3,m4,_⟩:=pru_fine (six_zo k1) q2
   obtain ⟨j1,j2,j3,j4⟩:=bo_fine zs (fun y hy=>hk y (List.mem_cons_of_mem _ hy)) m1 m3 m4 q4
   exact ⟨j1,by omega,j3,j4⟩
theorem bo_has {T:List Int→To} {Q:List Int→List Int→Pt→Prop} {b:List (List Int)} {p:Pt} (m:MayQ p):∀ (zs:List (List Int)) {cur r:List (List Int)},(∀ y,y ∈ zs→∀ z,z ∈ b→∀ o,T y z o 0→Zo o)→(∀ x,x ∈ cur→Zo x)→
  (∀ y,y ∈ zs→∀ z,z ∈ b→∀ o,T y z o 0→(hasP o p=true↔Q y z p))→(∀ y,y ∈ zs→∀ z,z ∈ b→∀ o,T y z o 6→¬ Q y z p)→Bo RestP T b zs cur r 0→
  ((∃ x,x ∈ r∧hasP x p=true)↔(∃ x,x ∈ cur∧hasP x p=true)∨∃ y,y ∈ zs∧∃ z,z ∈ b∧Q y z p)
 | [],cur,r,_,_,_,_,h=>by
  rw [h.1]
  exact ⟨.inl,fun q=>q.elim id fun ⟨z,hz,_⟩=>by cases hz⟩
 | z::zs,cur,r,hk,hc,h0,h6,h=>by
  unfold Bo at h
  obtain ⟨put,e,hT,q⟩:=h
  rcases q with ⟨q1,_,q2⟩ | ⟨q1,n,g,q2,⟨q3,_,q4⟩ | ⟨q3,q4⟩⟩
  ·exact (q1 q2.symm).elim
  ·exact (q3 q4.symm).elim
  ·subst q1 q3
   obtain ⟨k1,k2⟩:=col_zo b (fun y hy o=>hk z List.mem_cons_self y hy o) hc hT
   obtain ⟨_,m1,_,_,_,m5⟩:=pru_fine (six_zo k1) q2
   rw [bo_has m zs (fun y hy=>hk y (List.mem_cons_of_mem _ hy)) m1 (fun y hy=>h0 y (List.mem_cons_of_mem _ hy)) (fun y hy=>h6 y (List.mem_cons_of_mem _ hy)) q4,←m5 p m,col_has (Q:=Q z) b (h0 z List.mem_cons_self) (h6 z List.mem_cons_self) hT]
   constructor
   ·rintro ((k | ⟨w,hw,k⟩) | ⟨y,hy,w,hw,k⟩)
    ·exact .inl k
    ·exact .inr ⟨z,List.mem_cons_self,w,hw,k⟩
    ·exact .inr ⟨y,List.mem_cons_of_mem _ hy,w,hw,k⟩
   ·rintro (k | ⟨y,hy,w,hw,k⟩)
    ·exact .inl (.inl k)
    ·rcases List.mem_cons.1 hy with e | e
     ·rw [e] at k
      exact .inl (.inr ⟨w,hw,k⟩)
     ·exact .inr ⟨y,e,w,hw,k⟩
theorem both_fine {T:List Int→To} {a b r:List (List Int)} (hT:∀ y,Zo y→∀ z,Zo z→∀ o,T y z o 0→Zo o) (ha:Six a) (hb:Six b) (h:BothX RestP T a b r 0):
  (∀ x,x ∈ a→Zo x)∧(∀ x,x ∈ b→Zo x)∧(∀ x,x ∈ r→Zo x)∧r.length≤a.length*b.length∧Srt r∧(∀ x,x ∈ r→cover.Own r x):=by
 obtain ⟨c,hc,q⟩:=h
 rcases q with ⟨q,q1,q2⟩ | ⟨q,q1⟩
 ·exact (q q2.symm).elim
 ·obtain ⟨za,zb,_,_⟩:=chk_zo ha hb hc q
  obtain ⟨k1,k2,k3,k4⟩:=bo_fine a (fun y hy z hz=>hT y (za y hy) z (zb z hz)) (fun x hx=>by cases hx) List.Pairwise.nil (fun x hx=>by cases hx) q1
  rw [List.length_nil,Nat.zero_add] at k2
  exact ⟨za,zb,k1,k2,k3,k4⟩
theorem both_has {T:List Int→To} {Q:List Int→List Int→Pt→Prop} {a b r:List (List Int)} {p:Pt} (m:MayQ p) (hT:∀ y,Zo y→∀ z,Zo z→∀ o,T y z o 0→Zo o) (h0:∀ y,Zo y→∀ z,Zo z→∀ o,T y z o 0→(hasP o p=true↔Q y z p)) (h6:∀ y,Zo y→∀ z,Zo z→∀ o,T y z o 6→¬ Q y z p) (ha:Six a) (hb:Six b) (h:BothX RestP T a b r 0):
  (∃ x,x ∈ r∧hasP x p=true)↔∃ y,y ∈ a∧∃ z,z ∈ b∧Q y z p:=by
 obtain ⟨c,hc,q⟩:=h
 rcases q with ⟨q,q1,q2⟩ | ⟨q,q1⟩
 ·exact (q q2.symm).elim
 ·obtain ⟨za,zb,_,_⟩:=chk_zo ha hb hc q
  rw [bo_has m a (fun y hy z hz=>hT y (za y hy) z (zb z hz)) (fun x hx=>by cases hx) (fun y hy z hz=>h0 y (za y hy) z (zb z hz)) (fun y hy z hz=>h6 y (za y hy) z (zb z hz)) q1]
  exact ⟨fun k=>k.elim (fun ⟨x,hx,_⟩=>by cases hx) id,.inr⟩
theorem each_fine {T:To} {c0:Int} {l r:List (List Int)} (hT:∀ y,Zo y→∀ o,T y o 0→Zo o) (hl:Six l) (h:EachX RestP T c0 l r 0):
  (∀ x,x ∈ l→Zo x)∧(∀ x,x ∈ r→Zo x)∧r.length≤l.length∧Srt r∧(∀ x,x ∈ r→cover.Own r x)∧c0=0:=by
 obtain ⟨c,hc,q⟩:=h
 rcases q with ⟨q,_,q2⟩ | ⟨q,⟨q1,_,q2⟩ | ⟨q0,come,e,q1,⟨q2,_,q3⟩ | ⟨q2,q3⟩⟩⟩
 ·exact (q q2.symm).elim
 ·exact (q1 q2.symm).elim
 ·exact (q2 q3.symm).elim
 ·subst q2
  obtain ⟨zl,_,_,_⟩:=chk_zo hl six_nil hc q
  obtain ⟨k1,k2⟩:=col_zo l (fun y hy=>hT y (zl y hy)) (fun x hx=>by cases hx) q1
  obtain ⟨_,m1,m2,m3,m4,_⟩:=pru_fine (six_zo k1) q3
  rw [List.length_nil,Nat.zero_add] at k2
  exact ⟨zl,m1,by omega,m3,m4,q0⟩
theorem each_has {T:To} {Q:List Int→Pt→Prop} {c0:Int} {l r:List (List Int)} {p:Pt} (m:MayQ p) (hT:∀ y,Zo y→∀ o,T y o 0→Zo o) (h0:∀ y,Zo y→∀ o,T y o 0→(hasP o p=true↔Q y p)) (h6:∀ y,Zo y→∀ o,T y o 6→¬ Q y p) (hl:Six l) (h:EachX RestP T c0 l r 0):
  (∃ x,x ∈ r∧hasP x p=true)↔∃ y,y ∈ l∧Q y p:=by
 obtain ⟨c,hc,q⟩:=h
 rcases q with ⟨q,_,q2⟩ | ⟨q,⟨q1,_,q2⟩ | ⟨q0,come,e,q1,⟨q2,_,q3⟩ | ⟨q2,q3⟩⟩⟩
 ·exact (q q2.symm).elim
 ·exact (q1 q2.symm).elim
 ·exact (q2 q3.symm).elim
 ·subst q2
  obtain ⟨zl,_,_,_⟩:=chk_zo hl six_nil hc q
  obtain ⟨k1,k2⟩:=col_zo l (fun y hy=>hT y (zl y hy)) (fun x hx=>by cases hx) q1
  obtain ⟨_,_,_,_,_,m5⟩:=pru_fine (six_zo k1) q3
  rw [←m5 p m,col_has (Q:=Q) l (fun y hy=>h0 y (zl y hy)) (fun y hy=>h6 y (zl y hy)) q1]
  exact ⟨fun k=>k.elim (fun ⟨x,hx,_⟩=>by cases hx) id,.inr⟩
theorem all_sub {l r:List (List Int)} {is:Bool} {f:Int} (hl:Six l) (hr:Six r) (hp:∀ p,MayQ p→(∃ b,b ∈ l∧hasP b p=true)→∃ b,b ∈ r∧hasP b p=true) (h18:r.length≤18) (h:AllX RestP l r is f):f≠0∨is=true:=by
 by_cases e:f=0
 ·subst e
  have h':=all_few hl hr h18 h
  obtain ⟨c,hc,q⟩:=h'
  rcases q with ⟨q,_,q3⟩ | ⟨q,q1⟩
  ·exact (q q3.symm).elim
  ·obtain ⟨zl,zr,_,_⟩:=chk_zo hl hr hc q
   exact .inr (alls_yes zr l zl (fun p m x hx k=>hp p m ⟨x,hx,k⟩) q1)
 ·exact .inl e
theorem same_sub {a b:List (List Int)} {is:Bool} {f:Int} (ha:Six a) (hb:Six b) (hp:∀ p,MayQ p→((∃ x,x ∈ a∧hasP x p=true)↔∃ x,x ∈ b∧hasP x p=true)) (h1:a.length≤18) (h2:b.length≤18) (h:SameX RestP a b is f):f≠0∨is=true:=by
 obtain ⟨i,e,k,q⟩:=h
 rcases q with ⟨q,q1,q2⟩ | ⟨q,q1⟩
 ·rcases all_sub ha hb (fun p m=>(hp p m).1) h2 k with j | j
  ·exact .inl (by rw [q2];exact j)
  ·rw [q] at j;cases j
 ·exact all_sub hb ha (fun p m=>(hp p m).2) h1 q1
theorem mays_yes {l s:List (List Int)} {e f:Int} (zl:∀ x,x ∈ l→Zo x) (h18:l.length≤18) (sl:Srt l) (ow:∀ x,x ∈ l→cover.Own l x) (h:PruX RestP l s e) (k:MayS RestP l f):e≠0∨f=0:=by
 by_cases he:e=0
 ·subst he
  obtain ⟨r,g,h1,h2⟩:=k
  obtain ⟨rfl,rfl⟩:=pru_two (six_zo zl) h18 h h1
  rcases pru_againM zl h18 sl ow h with j | j
  ·exact (j rfl).elim
  ·exact .inr (by rw [h2,if_pos ⟨rfl,j⟩])
 ·exact .inl he
end Go.Proofs.YthmljpccbjolgaaGreatDoor.zset
