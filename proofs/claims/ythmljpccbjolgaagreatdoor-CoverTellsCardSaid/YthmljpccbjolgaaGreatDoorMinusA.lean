
/-
  What is left of a zone by some, pure: one zone less another one, in pieces; the pieces as a program yields them; how many six zones leave.
-/
import Derived.Test.YthmljpccbjolgaaGreatDoorWinA
namespace Go.Proofs.YthmljpccbjolgaaGreatDoor.minus
open way num rat dbm Go.Proofs.YthmljpccbjolgaaGreatDoor.tight Go.Proofs.YthmljpccbjolgaaGreatDoor.tkept Go.Proofs.YthmljpccbjolgaaGreatDoor.incl Go.Proofs.YthmljpccbjolgaaGreatDoor.zone Go.Proofs.YthmljpccbjolgaaGreatDoor.win
open bound hiding up
open Go.Proofs.YthmljpccbjolgaaGreatDoor.comp (zw may_cl six_fine)
open proj (cl_cod)
set_option linter.unusedVariables false
set_option linter.unusedSimpArgs false
set_option linter.unusedSectionVars false
def oth (i:Nat):Nat:=if i % 2=0 then i+1 else i - 1
theorem oth_lt {i:Nat} (h:i<6):oth i<6:=by unfold oth;split<;>omega
theorem oth_oth (i:Nat):oth (oth i)=i:=by
 unfold oth
 by_cases h:i % 2=0
 ·rw [if_pos h,if_neg (by omega)];omega
 ·rw [if_neg h,if_pos (by omega)];omega
def ro (i:Nat):Nat:=[1,0,2,0,2,1][i]?.getD 0
def co (i:Nat):Nat:=[0,1,0,2,1,2][i]?.getD 0
theorem six_is {i:Nat} (h:i<6):i=0∨i=1∨i=2∨i=3∨i=4∨i=5:=by omega
theorem ro_lt {i:Nat} (h:i<6):ro i<3:=by rcases six_is h with rfl | rfl | rfl | rfl | rfl | rfl<;>decide
theorem co_lt {i:Nat} (h:i<6):co i<3:=by rcases six_is h with rfl | rfl | rfl | rfl | rfl | rfl<;>decide
theorem ro_oth {i:Nat} (h:i<6):ro (oth i)=co i∧co (oth i)=ro i:=by rcases six_is h with rfl | rfl | rfl | rfl | rfl | rfl<;>decide
theorem zw_at (z:List Int) {i:Nat} (h:i<6):zw z (ro i) (co i)=cod (z[i]?.getD 0):=by rcases six_is h with rfl | rfl | rfl | rfl | rfl | rfl<;>rfl
def oneZ (i:Nat) (x:Int):List Int:=[9223372036854775807,9223372036854775807,9223372036854775807,9223372036854775807,9223372036854775807,9223372036854775807].set i x
theorem one_at {i k:Nat} (x:Int) (hk:k<6):(oneZ i x)[k]?.getD 0=if i=k then x else 9223372036854775807:=by
 unfold oneZ
 by_cases h:i=k
 ·subst h
  rw [if_pos rfl,List.getElem?_set_self (by exact hk)];rfl
 ·rw [if_neg h,List.getElem?_set_ne h]
  rcases six_is hk with rfl | rfl | rfl | rfl | rfl | rfl<;>rfl
theorem one_may {i:Nat} {x:Int} (hx:Fine x):MayD 3 (fullT (oneZ i x)):=full_may fun k hk=>by
 rw [one_at x hk]
 split
 ·exact hx
 ·exact none_fine
theorem one_tops {i:Nat} {x:Int} (hx:x≤9223372036854775807):Tops (oneZ i x):=fun y hy=>by
 unfold oneZ at hy
 rcases List.mem_or_eq_of_mem_set hy with h | h
 ·simp only [List.mem_cons,List.not_mem_nil,or_false] at h
  omega
 ·omega
def kb (i:Nat) (x a b c d:Int):Bool:=if i=0 then kpV a b 0 1 x else if i=1 then kpV 0 1 a b x else if i=2 then kpV c d 0 1 x else if i=3 then kpV 0 1 c d x else if i=4 then kpV c d a b x else kpV a b c d x
theorem kb_none (i:Nat) {a b c d:Int} (h:MayR a b) (k:MayR c d):kb i 9223372036854775807 a b c d=true:=by
 unfold kb
 repeat' split
 ·exact kp_none h zero_may
 ·exact kp_none zero_may h
 ·exact kp_none k zero_may
 ·exact kp_none zero_may k
 ·exact kp_none k h
 ·exact kp_none h k
theorem kept_kb {z:List Int} {a b c d:Int} (h:MayR a b) (k:MayR c d):keptAll 3 (fullT z) [(0,1),(a,b),(c,d)]↔∀ i,i<6→kb i (z[i]?.getD 0) a b c d=true:=by
 rw [kept_six h k]
 constructor
 ·rintro ⟨h0,h1,h2,h3,h4,h5⟩ i hi
  rcases six_is hi with rfl | rfl | rfl | rfl | rfl | rfl
  ·exact h0
  ·exact h1
  ·exact h2
  ·exact h3
  ·exact h4
  ·exact h5
 ·intro q
  exact ⟨q 0 (by decide),q 1 (by decide),q 2 (by decide),q 3 (by decide),q 4 (by decide),q 5 (by decide)⟩
theorem kept_one {i:Nat} {x a b c d:Int} (hi:i<6) (h:MayR a b) (k:MayR c d):keptAll 3 (fullT (oneZ i x)) [(0,1),(a,b),(c,d)]↔kb i x a b c d=true:=by
 rw [kept_kb h k]
 constructor
 ·intro q
  have:=q i hi
  rwa [one_at x hi,if_pos rfl] at this
 ·intro q j hj
  rw [one_at x hj]
  by_cases e:i=j
  ·subst e;rw [if_pos rfl];exact q
  ·rw [if_neg e];exact kb_none j h k
theorem not_is {x:Int} (hx:Fine x) (hn:x≠9223372036854775807):notV x=1 - x∧Fine (1 - x)∧1 - x≠9223372036854775807:=by
 have h:=hx.resolve_left hn
 refine ⟨?_,.inr (by omega),by omega⟩
 unfold notV
 rw [if_pos (by unfold May;omega)]
 unfold mk bS
 by_cases e:x % 2=0
 ·rw [decide_eq_true e,Bool.not_true,if_neg (by decide)];omega
 ·rw [decide_eq_false e,Bool.not_false,if_pos rfl];omega
theorem kept_not {a b c d x : Int} (h : MayR a b) (k : MayR c d) (hx : Fine x) (hn : x ≠ 9223372036854775807) : kpV c d a b (1 - x) = !kpV a b c d x := by
 obtain ⟨_,f,n⟩ := not_is hx hn
 have e1 := kp_kB k h f
 have e2 := kp_kB h k hx
 have key : keptR c d a b (1 - x) = !keptR a b c d x := by
  unfold keptR
  have m : d * b = b * d := Int.mul_comm d b
  have q : (1 - x) / 2 = -(x / 2) ∨ (1 - x) / 2 = -(x / 2) := by omega
  have q : (1 - x) / 2 = -(x / 2) := by omega
  rw [m,q,Int.neg_mul,show c * b - a * d = -(a * d - c * b) by omega]
  generalize a * d - c * b = u
  generalize x / 2 * (b * d) = v
  by_cases e : x % 2 = 0
  ·have s1 : bS x = true := by unfold bS; exact decide_eq_true e
   have s2 : bS (1 - x) = false := by unfold bS; exact decide_eq_false (by omega)
   rw [s1,s2,if_pos rfl,if_neg (by decide)]
   unfold ltB
   rw [decide_eq_decide.2 (show -v < -u ↔ u < v by omega)]
  ·have s1 : bS x = false := by unfold bS; exact decide_eq_false e
   have s2 : bS (1 - x) = true := by unfold bS; exact decide_eq_true (by omega)
   rw [s1,s2,if_pos rfl,if_neg (by decide),Bool.not_not]
   unfold ltB
   rw [decide_eq_decide.2 (show -u < -v ↔ v < u by omega)]
 rw [Bool.eq_iff_iff,e1]
 have e3 : (!kpV a b c d x) = true ↔ ¬ kpV a b c d x = true := by cases kpV a b c d x <;> simp
 rw [e3,e2,key]
 constructor
 ·rintro (q | q)
  ·exact (n q).elim
  ·rintro (r | r)
   ·exact hn r
   ·rw [r] at q; cases q
 ·intro q
  right
  cases hv : keptR a b c d x with
  | false => rfl
  | true => exact (q (.inr hv)).elim
theorem kb_not {i:Nat} {x a b c d:Int} (hi:i<6) (h:MayR a b) (k:MayR c d) (hx:Fine x) (hn:x≠9223372036854775807):kb (oth i) (1 - x) a b c d=!kb i x a b c d:=by
 rcases six_is hi with rfl | rfl | rfl | rfl | rfl | rfl
 ·exact kept_not h zero_may hx hn
 ·exact kept_not zero_may h hx hn
 ·exact kept_not k zero_may hx hn
 ·exact kept_not zero_may k hx hn
 ·exact kept_not k h hx hn
 ·exact kept_not h k hx hn
/-! the table of a zone that may be -/
section
variable {z:List Int} (tz:Tops z) (hz:MayZ z)
include tz hz
theorem tab_eq {i j:Nat} (hi:i<3) (hj:j<3):beg 3 (fullT z) i j=zw z i j:=by
 show wts 3 (lows 3 (fullT z) 3) i j=_
 rw [wts_in hi hj,beg_at (n:=3) rfl (by decide) hi hj]
 by_cases h:i=j
 ·subst h
  rw [if_pos rfl]
  rcases (by omega:i=0∨i=1∨i=2) with rfl | rfl | rfl<;>rfl
 ·rw [if_neg h];rfl
theorem tab_F (i j:Nat):F (beg 3 (fullT z)) 3 i j=beg 3 (fullT z) i j:=by
 by_cases h:i<3∧j<3
 ·rw [←cl_cod (n:=3) (by decide) (by decide) rfl (full_tops tz) hz.1 h.1 h.2,tab_eq tz hz h.1 h.2,show clT ((3:Nat):Int) (fullT z)=fullT z from hz.2];rfl
 ·by_cases hi:i<3
  ·exact (F_none2 (d:=beg 3 (fullT z)) (j:=j) (fun i=>wts_out2 (us:=lows 3 (fullT z) 3) (fun k=>h ⟨hi,k⟩)) 3 i).trans (wts_out2 (us:=lows 3 (fullT z) 3) (fun k=>h ⟨hi,k⟩)).symm
  ·exact (F_none (d:=beg 3 (fullT z)) (i:=i) (fun j=>wts_out (us:=lows 3 (fullT z) 3) hi) 3 j).trans (wts_out (us:=lows 3 (fullT z) 3) hi).symm
theorem tab_good:way.Good (beg 3 (fullT z)) 3:=(okD_good (n:=3) (by decide) (by decide) rfl (full_tops tz) hz.may).1 hz.1
theorem tab_tri:Tri (beg 3 (fullT z)) 3:=fun x hx i j=>by
 have:=good_tri (tab_good tz hz) x hx i j
 rwa [tab_F tz hz,tab_F tz hz,tab_F tz hz] at this
theorem tab_pos:Pos (beg 3 (fullT z)):=fun i=>by
 have:=tab_good tz hz 3 (Nat.le_refl _) i
 rwa [tab_F tz hz] at this
theorem tab_one (i:Nat) (hi:i<3):beg 3 (fullT z) i i=way.one:=by rw [tab_eq tz hz hi hi];exact (may_cl tz hz).2 i hi
theorem both_one {i:Nat} (v:Int) (hi:i<6):both (beg 3 (fullT z)) (beg 3 (fullT (oneZ i v)))=put (beg 3 (fullT z)) (ro i) (co i) (cod v):=by
 have mnn:∀ x:B,mn x none=x:=fun x=>mn_eq_left (le_none _)
 have mno:mn way.one way.one=way.one:=mn_eq_left (le_refl _)
 have eo:∀ {r c:Nat},r<3→c<3→beg 3 (fullT (oneZ i v)) r c=zw (oneZ i v) r c:=fun {r c} hr hc=>by
  show wts 3 (lows 3 (fullT (oneZ i v)) 3) r c=_
  rw [wts_in hr hc,beg_at (n:=3) rfl (by decide) hr hc]
  by_cases h:r=c
  ·subst h
   rw [if_pos rfl]
   rcases (by omega:r=0∨r=1∨r=2) with rfl | rfl | rfl<;>rfl
  ·rw [if_neg h];rfl
 funext r c
 show mn (beg 3 (fullT z) r c) (beg 3 (fullT (oneZ i v)) r c)=put (beg 3 (fullT z)) (ro i) (co i) (cod v) r c
 by_cases h:r<3∧c<3
 ·rw [eo h.1 h.2]
  unfold put
  by_cases e:r=ro i∧c=co i
  ·rw [if_pos e,e.1,e.2,zw_at _ hi,one_at v hi,if_pos rfl]
  ·rw [if_neg e]
   by_cases d:r=c
   ·subst d
    rw [tab_one tz hz r h.1,show zw (oneZ i v) r r=way.one from by rcases (by omega:r=0∨r=1∨r=2) with rfl | rfl | rfl<;>rfl]
    exact mno
   ·have pl:∃ k,k<6∧ro k=r∧co k=c:=by
     rcases (by omega:r=0∨r=1∨r=2) with rfl | rfl | rfl<;>rcases (by omega:c=0∨c=1∨c=2) with rfl | rfl | rfl
     ·exact (d rfl).elim
     ·exact ⟨1,by decide,rfl,rfl⟩
     ·exact ⟨3,by decide,rfl,rfl⟩
     ·exact ⟨0,by decide,rfl,rfl⟩
     ·exact (d rfl).elim
     ·exact ⟨5,by decide,rfl,rfl⟩
     ·exact ⟨2,by decide,rfl,rfl⟩
     ·exact ⟨4,by decide,rfl,rfl⟩
     ·exact (d rfl).elim
    obtain ⟨k,hk,rfl,rfl⟩:=pl
    rw [zw_at _ hk,one_at v hk,if_neg (fun q=>e ⟨by rw [q],by rw [q]⟩),cod_none]
    exact mnn _
 ·have e1:∀ y:List Int,beg 3 (fullT y) r c=none:=fun y=>by
   by_cases hi:r<3
   ·exact wts_out2 (fun k=>h ⟨hi,k⟩)
   ·exact wts_out hi
  have r1:=ro_lt hi
  have c1:=co_lt hi
  rw [e1,e1]
  unfold put
  rw [if_neg (fun k=>h ⟨by omega,by omega⟩),e1]
  exact mnn _
theorem ok_one {i:Nat} {v:Int} (hi:i<6) (hv:Fine v):OkD 3 (lesT (fullT z) (fullT (oneZ i v)))↔le way.one (ad (cod (z[oth i]?.getD 0)) (cod v)):=by
 have tt:Tops (lesT (fullT z) (fullT (oneZ i v))):=lesT_tops (full_tops tz) _
 have e:OkD 3 (lesT (fullT z) (fullT (oneZ i v)))↔way.Good (beg 3 (lesT (fullT z) (fullT (oneZ i v)))) 3:=okD_good (n:=3) (by decide) (by decide) (lesT_length _ _) tt (lesT_may hz.may (one_may hv))
 rw [e,beg_les (n:=3) (by decide) (by decide) rfl rfl (full_tops tz) (full_tops (one_tops (fine_le hv))),both_one tz hz v hi,
  put_iff (ro_lt hi) (co_lt hi) (tab_tri tz hz) (tab_pos tz hz) (fun i hi=>by rw [tab_one tz hz i hi];exact le_refl _) (fun i hi j=>wts_out hi),tab_eq tz hz (co_lt hi) (ro_lt hi),←(ro_oth hi).1,←(ro_oth hi).2,zw_at _ (oth_lt hi)]
theorem not_one {i:Nat} {x:Int} (hi:i<6) (hx:Fine x) (hn:x≠9223372036854775807):OkD 3 (lesT (fullT z) (fullT (oneZ (oth i) (1 - x))))↔x<z[i]?.getD 0:=by
 obtain ⟨_,f,n⟩:=not_is hx hn
 rw [ok_one tz hz (oth_lt hi) f,oth_oth]
 have t:=get_top tz i
 have fx:=hx.resolve_left hn
 by_cases e:z[i]?.getD 0=9223372036854775807
 ·rw [e,cod_none,none_ad]
  exact ⟨fun _=>by omega,fun _=>le_none _⟩
 ·have fz:=(six_fine hz.may i hi).resolve_left e
  rw [cod_some e,cod_some n,ad_some]
  show (1:Int)≤2*(z[i]?.getD 0 / 2+(1 - x) / 2)+min (z[i]?.getD 0 % 2) ((1 - x) % 2)↔_
  omega
theorem own_one {i:Nat} {x:Int} (hi:i<6) (hx:z[i]?.getD 0≤x) (hm:x≤9223372036854775807):lesT (fullT z) (fullT (oneZ i x))=fullT z:=by
 have lt:∀ {a b:Int},a≤b→lsr a b=a:=fun {a b} h=>by unfold lsr;split<;>omega
 have key:∀ k,k<6→lsr (z[k]?.getD 0) ((oneZ i x)[k]?.getD 0)=z[k]?.getD 0:=fun k hk=>by
  rw [one_at x hk]
  by_cases e:i=k
  ·subst e;rw [if_pos rfl];exact lt hx
  ·rw [if_neg e];exact lt (get_top tz k)
 refine list_at (lesT_length _ _) fun p hp=>?_
 have hp:p<9:=by rw [lesT_length] at hp;exact hp
 rw [lesT_at _ _ (show p<(fullT z).length from hp)]
 rcases (by omega:p=0∨p=1∨p=2∨p=3∨p=4∨p=5∨p=6∨p=7∨p=8) with rfl | rfl | rfl | rfl | rfl | rfl | rfl | rfl | rfl
 ·rfl
 ·exact key 1 (by decide)
 ·exact key 3 (by decide)
 ·exact key 0 (by decide)
 ·rfl
 ·exact key 5 (by decide)
 ·exact key 2 (by decide)
 ·exact key 4 (by decide)
 ·rfl
end
end Go.Proofs.YthmljpccbjolgaaGreatDoor.minus
namespace Go.Proofs.YthmljpccbjolgaaGreatDoor.minus
open way num rat dbm Go.Proofs.YthmljpccbjolgaaGreatDoor.tight Go.Proofs.YthmljpccbjolgaaGreatDoor.tkept Go.Proofs.YthmljpccbjolgaaGreatDoor.incl Go.Proofs.YthmljpccbjolgaaGreatDoor.zone Go.Proofs.YthmljpccbjolgaaGreatDoor.win
open bound hiding up
open Go.Proofs.YthmljpccbjolgaaGreatDoor.comp (zw may_cl six_fine)
set_option linter.unusedVariables false
set_option linter.unusedSimpArgs false
set_option linter.unusedSectionVars false
def Zo (z:List Int):Prop:=MayZ z∧Tops z∧z.length=6
theorem cut_same {z w a b:List Int} {f g:Int} (h:CutR z w a f) (k:CutR z w b g):b=a∧g=f:=by
 rcases h with ⟨n,rfl,rfl⟩ | ⟨o,m,rfl,rfl⟩ | ⟨o,m,e,rfl⟩<;>rcases k with ⟨n',rfl,rfl⟩ | ⟨o',m',rfl,rfl⟩ | ⟨o',m',e',rfl⟩
 all_goals first | exact ⟨rfl,rfl⟩ | exact ⟨e'.trans e.symm,rfl⟩ | exact (n o').elim | exact (n' o).elim | exact (m m').elim | exact (m' m).elim
theorem cut_err {z w a:List Int} {f:Int} (h:CutR z w a f):f=6∨f=8∨f=0:=by
 rcases h with ⟨_,_,e⟩ | ⟨_,_,_,e⟩ | ⟨_,_,_,e⟩
 ·exact .inl e
 ·exact .inr (.inl e)
 ·exact .inr (.inr e)
theorem cut_zo {z w x:List Int} (tz:Tops z) (hz:MayD 3 (fullT z)) (hw:MayD 3 (fullT w)) (h:CutR z w x 0):Zo x:=by
 obtain ⟨k1,k2,_⟩:=cut_good tz hz hw h
 refine ⟨k1,k2,?_⟩
 rcases h with ⟨_,_,e⟩ | ⟨_,_,_,e⟩ | ⟨_,_,e,_⟩
 ·cases e
 ·cases e
 ·rw [e];rfl
theorem full_at (z:List Int) {j:Nat} (hj:j<6):(fullT z)[ro j*3+co j]?.getD 0=z[j]?.getD 0:=by rcases six_is hj with rfl | rfl | rfl | rfl | rfl | rfl<;>rfl
theorem cut_le {a z:List Int} {i:Nat} {v:Int} (ta:Tops a) (ha:MayD 3 (fullT a)) (hv:Fine v) (hi:i<6) (h:CutR a (oneZ i v) z 0) (j:Nat) (hj:j<6):z[j]?.getD 0≤a[j]?.getD 0∧z[i]?.getD 0≤v:=by
 obtain ⟨_,_,e1,o,_⟩:=cut_good ta ha (one_may hv) h
 have key:∀ k,k<6→z[k]?.getD 0≤a[k]?.getD 0∧z[k]?.getD 0≤(oneZ i v)[k]?.getD 0:=fun k hk=>by
  have q:=closed_le (n:=3) (by decide) (by decide) (lesT_length _ _) (lesT_tops (full_tops ta) _) o.1.2.2.2 (fun k hk=>o.2.2 k (by simpa using hk)) (i:=ro k) (j:=co k) (ro_lt hk) (co_lt hk)
  rw [←show clT ((3:Nat):Int) (lesT (fullT a) (fullT (oneZ i v)))=tabs 3 (by decide) (lesT (fullT a) (fullT (oneZ i v))) 3 from clT_nat (m:=3) (by decide) _,show clT ((3:Nat):Int) (lesT (fullT a) (fullT (oneZ i v)))=fullT z from e1.symm] at q
  unfold tat at q
  have r1:=ro_lt hk
  have r2:=co_lt hk
  rw [lesT_at _ _ (show ro k*3+co k<(fullT a).length by rw [full_length];omega),full_at z hk,full_at a hk,full_at (oneZ i v) hk] at q
  exact ⟨Int.le_trans q (lsr_le _ _).1,Int.le_trans q (lsr_le _ _).2⟩
 refine ⟨(key j hj).1,?_⟩
 have:=(key i hi).2
 rwa [one_at v hi,if_pos rfl] at this
def pre (e:Int) (z:List Int):List (List Int):=if e=0 then [z] else []
def LessR (b:List Int):Nat→List Int→List (List Int)→Int→Prop
 | 0,_,out,f=>out=[]∧f=0
 | k+1,a,out,f=>
  if b[5 - k]?.getD 0=9223372036854775807 then LessR b k a out f else
   ∃ z e,CutR a (oneZ (oth (5 - k)) (1 - b[5 - k]?.getD 0)) z e∧
    ((e=8∧out=[]∧f=8)∨(e≠8∧∃ y g,CutR a (oneZ (5 - k) (b[5 - k]?.getD 0)) y g∧
     ((g=6∧out=pre e z∧f=0)∨(g=8∧out=[]∧f=8)∨(g=0∧∃ l,LessR b k y l f∧out=if f=0 then pre e z++l else []))))
theorem less_same {b:List Int}:∀ (k:Nat) {a:List Int} {o o':List (List Int)} {f f':Int},LessR b k a o f→LessR b k a o' f'→o'=o∧f'=f
 | 0,_,_,_,_,_,⟨e1,e2⟩,⟨e3,e4⟩=>⟨e3.trans e1.symm,e4.trans e2.symm⟩
 | k+1,a,o,o',f,f',h,h'=>by
  unfold LessR at h h'
  by_cases n:b[5 - k]?.getD 0=9223372036854775807
  ·rw [if_pos n] at h h'
   exact less_same k h h'
  ·rw [if_neg n] at h h'
   obtain ⟨z,e,hc,h⟩:=h
   obtain ⟨z',e',hc',h'⟩:=h'
   obtain ⟨rfl,rfl⟩:=cut_same hc hc'
   rcases h with ⟨p1,p2,p3⟩ | ⟨p1,y,g,hy,h⟩<;>rcases h' with ⟨q1,q2,q3⟩ | ⟨q1,y',g',hy',h'⟩
   ·exact ⟨q2.trans p2.symm,q3.trans p3.symm⟩
   ·exact (q1 p1).elim
   ·exact (p1 q1).elim
   ·obtain ⟨rfl,rfl⟩:=cut_same hy hy'
    rcases h with ⟨r1,r2,r3⟩ | ⟨r1,r2,r3⟩ | ⟨r1,l,r2,r3⟩<;>rcases h' with ⟨s1,s2,s3⟩ | ⟨s1,s2,s3⟩ | ⟨s1,l',s2,s3⟩
    ·exact ⟨s2.trans r2.symm,s3.trans r3.symm⟩
    ·rw [r1] at s1;exact absurd s1 (by decide)
    ·rw [r1] at s1;exact absurd s1 (by decide)
    ·rw [r1] at s1;exact absurd s1 (by decide)
    ·exact ⟨s2.trans r2.symm,s3.trans r3.symm⟩
    ·rw [r1] at s1;exact absurd s1 (by decide)
    ·rw [r1] at s1;exact absurd s1 (by decide)
    ·rw [r1] at s1;exact absurd s1 (by decide)
    ·obtain ⟨rfl,rfl⟩:=less_same k r2 s2
     exact ⟨s3.trans r3.symm,rfl⟩
theorem less_err {b:List Int}:∀ (k:Nat) {a:List Int} {o:List (List Int)} {f:Int},LessR b k a o f→(f=0∨f=8∧o=[])
 | 0,_,_,_,⟨_,e⟩=>.inl e
 | k+1,a,o,f,h=>by
  unfold LessR at h
  by_cases n:b[5 - k]?.getD 0=9223372036854775807
  ·rw [if_pos n] at h;exact less_err k h
  ·rw [if_neg n] at h
   obtain ⟨z,e,hc,h⟩:=h
   rcases h with ⟨_,p2,p3⟩ | ⟨_,y,g,hy,h⟩
   ·exact .inr ⟨p3,p2⟩
   ·rcases h with ⟨_,_,r3⟩ | ⟨_,r2,r3⟩ | ⟨_,l,r2,r3⟩
    ·exact .inl r3
    ·exact .inr ⟨r3,r2⟩
    ·rcases less_err k r2 with q | ⟨q,_⟩
     ·exact .inl q
     ·exact .inr ⟨q,by rw [r3,if_neg (by rw [q];decide)]⟩
/-! points -/
def hasB (z:List Int) (a b c d:Int):Bool:=(List.range 6).all fun i=>kb i (z[i]?.getD 0) a b c d
theorem has_kept {z:List Int} {a b c d:Int} (h:MayR a b) (k:MayR c d):hasB z a b c d=true↔keptAll 3 (fullT z) [(0,1),(a,b),(c,d)]:=by
 rw [kept_kb h k]
 unfold hasB
 rw [List.all_eq_true]
 exact ⟨fun q i hi=>q i (List.mem_range.2 hi),fun q i hi=>q i (List.mem_range.1 hi)⟩
def restB (z:List Int) (a b c d:Int):Nat→Bool
 | 0=>true
 | k+1=>kb (5 - k) (z[5 - k]?.getD 0) a b c d && restB z a b c d k
theorem rest_has (z:List Int) (a b c d:Int):restB z a b c d 6=hasB z a b c d:=by
 show (kb 0 _ a b c d && (kb 1 _ a b c d && (kb 2 _ a b c d && (kb 3 _ a b c d && (kb 4 _ a b c d && (kb 5 _ a b c d && true))))))=([0,1,2,3,4,5].all fun i=>kb i (z[i]?.getD 0) a b c d)
 simp only [List.all_cons,List.all_nil]
def cnt (l:List (List Int)) (a b c d:Int):Nat:=l.countP fun z=>hasB z a b c d
theorem cnt_app (l m:List (List Int)) (a b c d:Int):cnt (l++m) a b c d=cnt l a b c d+cnt m a b c d:=List.countP_append
theorem cnt_one (z:List Int) (a b c d:Int):cnt [z] a b c d=if hasB z a b c d=true then 1 else 0:=by
 unfold cnt
 rw [List.countP_cons,List.countP_nil,Nat.zero_add]
theorem cut_has {z x:List Int} {i:Nat} {v f a b c d:Int} (tz:Tops z) (hz:MayD 3 (fullT z)) (hi:i<6) (hv:Fine v) (m1:MayR a b) (m2:MayR c d) (h:CutR z (oneZ i v) x f) (h8:f≠8):
  cnt (pre f x) a b c d=(if (hasB z a b c d && kb i v a b c d)=true then 1 else 0)∧(f=6→(hasB z a b c d && kb i v a b c d)=false)∧(f=0→hasB x a b c d=(hasB z a b c d && kb i v a b c d)):=by
 have k1:=kept_one (x:=v) hi m1 m2
 have k2:=has_kept (z:=z) m1 m2
 rcases h with ⟨n,_,e⟩ | ⟨_,_,_,e⟩ | ⟨o,m,x1,e⟩
 ·have no:(hasB z a b c d && kb i v a b c d)=false:=by
   cases hh:(hasB z a b c d && kb i v a b c d) with
   | false=>rfl
   | true=>
    rw [Bool.and_eq_true] at hh
    exact (cut_out tz hz (one_may hv) n a b c d m1 m2 ⟨k2.1 hh.1,k1.2 hh.2⟩).elim
  rw [no]
  refine ⟨?_,fun _=>rfl,fun q=>by rw [e] at q;exact absurd q (by decide)⟩
  unfold pre
  rw [if_neg (by rw [e];decide)]
  rfl
 ·exact (h8 e).elim
 ·subst e
  obtain ⟨_,_,_,_,k5⟩:=cut_good tz hz (one_may hv) (.inr (.inr ⟨o,m,x1,rfl⟩):CutR z (oneZ i v) x 0)
  have e2:hasB x a b c d=(hasB z a b c d && kb i v a b c d):=by
   rw [Bool.eq_iff_iff,has_kept m1 m2,k5 a b c d m1 m2,Bool.and_eq_true,k2,k1]
  refine ⟨?_,fun q=>absurd q (by decide),fun _=>e2⟩
  unfold pre
  rw [if_pos rfl,cnt_one,e2]
section
variable {b:List Int} (tb:Tops b) (hb:MayZ b)
include tb hb
theorem less_zo:∀ (k:Nat) {a:List Int} {o:List (List Int)},k≤6→Zo a→LessR b k a o 0→∀ z,z ∈ o→Zo z
 | 0,_,_,_,_,⟨e,_⟩=>fun z hz=>by rw [e] at hz;cases hz
 | k+1,a,o,hk,ha,h=>by
  unfold LessR at h
  by_cases n:b[5 - k]?.getD 0=9223372036854775807
  ·rw [if_pos n] at h;exact less_zo k (by omega) ha h
  ·rw [if_neg n] at h
   have fx:=six_fine hb.may (5 - k) (by omega)
   obtain ⟨_,fn,_⟩:=not_is fx n
   obtain ⟨z,e,hc,h⟩:=h
   have hp:∀ x,x ∈ pre e z→Zo x:=fun x hx=>by
    unfold pre at hx
    by_cases q:e=0
    ·rw [if_pos q] at hx
     obtain rfl:x=z:=by simpa using hx
     rw [q] at hc
     exact cut_zo ha.2.1 ha.1.may (one_may fn) hc
    ·rw [if_neg q] at hx;cases hx
   rcases h with ⟨_,p2,_⟩ | ⟨_,y,g,hy,h⟩
   ·intro x hx;rw [p2] at hx;cases hx
   ·rcases h with ⟨_,r2,_⟩ | ⟨_,r2,r3⟩ | ⟨r1,l,r2,r3⟩
    ·rw [r2];exact hp
    ·exact absurd r3 (by decide)
    ·rw [r1] at hy
     rw [if_pos rfl] at r3
     rw [r3]
     intro x hx
     rcases List.mem_append.1 hx with q | q
     ·exact hp x q
     ·exact less_zo k (by omega) (cut_zo ha.2.1 ha.1.may (one_may fx) hy) r2 x q
theorem less_cnt {p q r s:Int} (m1:MayR p q) (m2:MayR r s):∀ (k:Nat) {a:List Int} {o:List (List Int)},k≤6→Zo a→LessR b k a o 0→cnt o p q r s=if (hasB a p q r s && !restB b p q r s k)=true then 1 else 0
 | 0,_,_,_,_,⟨e,_⟩=>by
  rw [e]
  show 0=_
  unfold restB
  rw [Bool.not_true,Bool.and_false]
  rfl
 | k+1,a,o,hk,ha,h=>by
  unfold LessR at h
  unfold restB
  by_cases n:b[5 - k]?.getD 0=9223372036854775807
  ·rw [if_pos n] at h
   rw [n,kb_none _ m1 m2,Bool.true_and]
   exact less_cnt m1 m2 k (by omega) ha h
  ·rw [if_neg n] at h
   have hi:5 - k<6:=by omega
   have fx:=six_fine hb.may (5 - k) hi
   obtain ⟨_,fn,_⟩:=not_is fx n
   obtain ⟨z,e,hc,h⟩:=h
   rcases h with ⟨_,_,p3⟩ | ⟨p1,y,g,hy,h⟩
   ·exact absurd p3 (by decide)
   ·obtain ⟨c1,_,_⟩:=cut_has ha.2.1 ha.1.may (oth_lt hi) fn m1 m2 hc p1
    rw [kb_not hi m1 m2 fx n] at c1
    rcases h with ⟨r1,r2,_⟩ | ⟨_,r2,r3⟩ | ⟨r1,l,r2,r3⟩
    ·obtain ⟨_,c2,_⟩:=cut_has ha.2.1 ha.1.may hi fx m1 m2 hy (by rw [r1];decide)
     have c2:=c2 r1
     rw [r2,c1]
     cases h1:hasB a p q r s<;>cases h2:kb (5 - k) (b[5 - k]?.getD 0) p q r s<;>cases h3:restB b p q r s k<;>simp_all
    ·exact absurd r3 (by decide)
    ·obtain ⟨_,_,c3⟩:=cut_has ha.2.1 ha.1.may hi fx m1 m2 hy (by rw [r1];decide)
     have c3:=c3 r1
     rw [r1] at hy
     rw [if_pos rfl] at r3
     have ih:=less_cnt m1 m2 k (by omega) (cut_zo ha.2.1 ha.1.may (one_may fx) hy) r2
     rw [r3,cnt_app,c1,ih,c3]
     cases h1:hasB a p q r s<;>cases h2:kb (5 - k) (b[5 - k]?.getD 0) p q r s<;>cases h3:restB b p q r s k<;>rfl
/-! what lies in what, and what shares nothing -/
theorem cut_own {a z:List Int} {i:Nat} {g:Int} (ha:Zo a) (hi:i<6) (hx:a[i]?.getD 0≤b[i]?.getD 0) (h:CutR a (oneZ i (b[i]?.getD 0)) z g):z=a∧g=0:=by
 have e:=own_one ha.2.1 ha.1 hi hx (get_top tb i)
 unfold CutR at h
 rw [e,show clT 3 (fullT a)=fullT a from ha.1.2] at h
 rcases h with ⟨n,_⟩ | ⟨_,n,_⟩ | ⟨_,_,e1,e2⟩
 ·exact (n ha.1.1).elim
 ·exact (n ha.1.may).elim
 ·exact ⟨e1.trans (short_full ha.2.2),e2⟩
end
end Go.Proofs.YthmljpccbjolgaaGreatDoor.minus
namespace Go.Proofs.YthmljpccbjolgaaGreatDoor.minus
open way num rat dbm Go.Proofs.YthmljpccbjolgaaGreatDoor.tight Go.Proofs.YthmljpccbjolgaaGreatDoor.tkept Go.Proofs.YthmljpccbjolgaaGreatDoor.incl Go.Proofs.YthmljpccbjolgaaGreatDoor.zone Go.Proofs.YthmljpccbjolgaaGreatDoor.win
open bound hiding up
set_option linter.unusedVariables false
set_option linter.unusedSimpArgs false
def StepR (b:List Int):List (List Int)→List (List Int)→List (List Int)→Int→Prop
 | [],have_,r,f=>r=have_∧f=0
 | z::zs,have_,r,f=>∃ m e,LessR b 6 z m e∧((e≠0∧r=[]∧f=e)∨(e=0∧((4096<(have_++m).length∧r=[]∧f=4)∨(¬ 4096<(have_++m).length∧StepR b zs (have_++m) r f))))
def RestR:List (List Int)→List (List Int)→List (List Int)→Int→Prop
 | [],l,r,f=>r=l∧f=0
 | b::bs,l,r,f=>∃ n e,StepR b l [] n e∧((e≠0∧r=[]∧f=e)∨(e=0∧RestR bs n r f))
theorem step_same {b:List Int}:∀ (zs:List (List Int)) {h r r':List (List Int)} {f f':Int},StepR b zs h r f→StepR b zs h r' f'→r'=r∧f'=f
 | [],_,_,_,_,_,⟨e1,e2⟩,⟨e3,e4⟩=>⟨e3.trans e1.symm,e4.trans e2.symm⟩
 | z::zs,h,r,r',f,f',hs,hs'=>by
  unfold StepR at hs hs'
  obtain ⟨m,e,hm,q⟩:=hs
  obtain ⟨m',e',hm',q'⟩:=hs'
  obtain ⟨rfl,rfl⟩:=less_same 6 hm hm'
  rcases q with ⟨p1,p2,p3⟩ | ⟨p1,⟨p2,p3,p4⟩ | ⟨p2,p3⟩⟩<;>rcases q' with ⟨q1,q2,q3⟩ | ⟨q1,⟨q2,q3,q4⟩ | ⟨q2,q3⟩⟩
  ·exact ⟨q2.trans p2.symm,q3.trans p3.symm⟩
  ·exact (p1 q1).elim
  ·exact (p1 q1).elim
  ·exact (q1 p1).elim
  ·exact ⟨q3.trans p3.symm,q4.trans p4.symm⟩
  ·exact (q2 p2).elim
  ·exact (q1 p1).elim
  ·exact (p2 q2).elim
  ·exact step_same zs p3 q3
theorem rest_same:∀ (bs:List (List Int)) {l r r':List (List Int)} {f f':Int},RestR bs l r f→RestR bs l r' f'→r'=r∧f'=f
 | [],_,_,_,_,_,⟨e1,e2⟩,⟨e3,e4⟩=>⟨e3.trans e1.symm,e4.trans e2.symm⟩
 | b::bs,l,r,r',f,f',hs,hs'=>by
  unfold RestR at hs hs'
  obtain ⟨n,e,hn,q⟩:=hs
  obtain ⟨n',e',hn',q'⟩:=hs'
  obtain ⟨rfl,rfl⟩:=step_same l hn hn'
  rcases q with ⟨p1,p2,p3⟩ | ⟨p1,p2⟩<;>rcases q' with ⟨q1,q2,q3⟩ | ⟨q1,q2⟩
  ·exact ⟨q2.trans p2.symm,q3.trans p3.symm⟩
  ·exact (p1 q1).elim
  ·exact (q1 p1).elim
  ·exact rest_same bs p2 q2
section
variable {b:List Int} (tb:Tops b) (hb:MayZ b)
include tb hb
theorem step_zo:∀ (zs:List (List Int)) {h r:List (List Int)},(∀ z,z ∈ zs→Zo z)→(∀ z,z ∈ h→Zo z)→StepR b zs h r 0→∀ z,z ∈ r→Zo z
 | [],_,_,_,hh,⟨e,_⟩=>by rw [e];exact hh
 | z::zs,h,r,hz,hh,hs=>by
  unfold StepR at hs
  obtain ⟨m,e,hm,q⟩:=hs
  rcases q with ⟨p1,_,p3⟩ | ⟨p1,⟨_,_,p4⟩ | ⟨_,p3⟩⟩
  ·exact (p1 p3.symm).elim
  ·exact absurd p4 (by decide)
  ·rw [p1] at hm
   refine step_zo zs (fun x hx=>hz x (List.mem_cons_of_mem _ hx)) (fun x hx=>?_) p3
   rcases List.mem_append.1 hx with q | q
   ·exact hh x q
   ·exact less_zo tb hb 6 (Nat.le_refl _) (hz z List.mem_cons_self) hm x q
theorem step_cnt {p q r s:Int} (m1:MayR p q) (m2:MayR r s):∀ (zs:List (List Int)) {h o:List (List Int)},(∀ z,z ∈ zs→Zo z)→StepR b zs h o 0→cnt o p q r s=cnt h p q r s+if hasB b p q r s=true then 0 else cnt zs p q r s
 | [],h,o,_,⟨e,_⟩=>by
  rw [e]
  have:cnt [] p q r s=0:=rfl
  rw [this]
  split<;>rfl
 | z::zs,h,o,hz,hs=>by
  unfold StepR at hs
  obtain ⟨m,e,hm,k⟩:=hs
  rcases k with ⟨p1,_,p3⟩ | ⟨p1,⟨_,_,p4⟩ | ⟨_,p3⟩⟩
  ·exact (p1 p3.symm).elim
  ·exact absurd p4 (by decide)
  ·rw [p1] at hm
   have ih:=step_cnt m1 m2 zs (fun x hx=>hz x (List.mem_cons_of_mem _ hx)) p3
   have e1:=less_cnt tb hb m1 m2 6 (Nat.le_refl _) (hz z List.mem_cons_self) hm
   have e2:cnt (z::zs) p q r s=cnt [z] p q r s+cnt zs p q r s:=cnt_app [z] zs p q r s
   rw [rest_has] at e1
   rw [ih,cnt_app,e1,e2,cnt_one]
   cases h1:hasB z p q r s<;>cases h2:hasB b p q r s<;>simp<;>omega
end
theorem rest_zo:∀ (bs:List (List Int)) {l r:List (List Int)},(∀ b,b ∈ bs→Zo b)→(∀ z,z ∈ l→Zo z)→RestR bs l r 0→∀ z,z ∈ r→Zo z
 | [],_,_,_,hl,⟨e,_⟩=>by rw [e];exact hl
 | b::bs,l,r,hb,hl,hs=>by
  unfold RestR at hs
  obtain ⟨n,e,hn,q⟩:=hs
  rcases q with ⟨p1,_,p3⟩ | ⟨p1,p2⟩
  ·exact (p1 p3.symm).elim
  ·rw [p1] at hn
   have zb:=hb b List.mem_cons_self
   exact rest_zo bs (fun x hx=>hb x (List.mem_cons_of_mem _ hx)) (step_zo zb.2.1 zb.1 l hl (fun x hx=>by cases hx) hn) p2
theorem rest_cnt {p q r s:Int} (m1:MayR p q) (m2:MayR r s):∀ (bs:List (List Int)) {l o:List (List Int)},(∀ b,b ∈ bs→Zo b)→(∀ z,z ∈ l→Zo z)→RestR bs l o 0→cnt o p q r s=if 0<cnt bs p q r s then 0 else cnt l p q r s
 | [],l,o,_,_,⟨e,_⟩=>by
  rw [e,if_neg (by exact Nat.lt_irrefl 0)]
 | b::bs,l,o,hb,hl,hs=>by
  unfold RestR at hs
  obtain ⟨n,e,hn,k⟩:=hs
  rcases k with ⟨p1,_,p3⟩ | ⟨p1,p2⟩
  ·exact (p1 p3.symm).elim
  ·rw [p1] at hn
   have zb:=hb b List.mem_cons_self
   have ih:=rest_cnt m1 m2 bs (fun x hx=>hb x (List.mem_cons_of_mem _ hx)) (step_zo zb.2.1 zb.1 l hl (fun x hx=>by cases hx) hn) p2
   have e1:=step_cnt zb.2.1 zb.1 m1 m2 l hl hn
   have e2:cnt (b::bs) p q r s=cnt [b] p q r s+cnt bs p q r s:=cnt_app [b] bs p q r s
   have e3:cnt [] p q r s=0:=rfl
   rw [ih,e1,e2,e3,cnt_one,Nat.zero_add]
   cases h1:hasB b p q r s
   ·simp only [Bool.false_eq_true,if_false,Nat.zero_add]
   ·rw [if_pos rfl,if_pos rfl,if_pos (show 0<1+cnt bs p q r s by omega)]
    split<;>rfl
end Go.Proofs.YthmljpccbjolgaaGreatDoor.minus
namespace Go.Proofs.YthmljpccbjolgaaGreatDoor.minus
open way num rat dbm Go.Proofs.YthmljpccbjolgaaGreatDoor.tight Go.Proofs.YthmljpccbjolgaaGreatDoor.tkept Go.Proofs.YthmljpccbjolgaaGreatDoor.incl Go.Proofs.YthmljpccbjolgaaGreatDoor.zone Go.Proofs.YthmljpccbjolgaaGreatDoor.win
open bound hiding up
open Go.Proofs.YthmljpccbjolgaaGreatDoor.comp (zw may_cl six_fine)
set_option linter.unusedVariables false
set_option linter.unusedSimpArgs false
set_option linter.unusedSectionVars false
def PcsR (b:List Int):Nat→List Int→List (List Int × Int)→Prop
 | 0,_,ys=>ys=[]
 | k+1,a,ys=>
  (a[5 - k]?.getD 0≤b[5 - k]?.getD 0∧PcsR b k a ys)∨(b[5 - k]?.getD 0<a[5 - k]?.getD 0∧a[oth (5 - k)]?.getD 0≤1 - b[5 - k]?.getD 0∧ys=[(a,0)])∨
  (b[5 - k]?.getD 0<a[5 - k]?.getD 0∧1 - b[5 - k]?.getD 0<a[oth (5 - k)]?.getD 0∧∃ z e,CutR a (oneZ (oth (5 - k)) (1 - b[5 - k]?.getD 0)) z e∧
   ((e≠0∧ys=[(z,e)])∨(e=0∧∃ y g,CutR a (oneZ (5 - k) (b[5 - k]?.getD 0)) y g∧
    ((g≠0∧ys=[(z,0),(zero6,g)])∨(g=0∧∃ l,PcsR b k y l∧ys=(z,0)::l)))))
theorem cut_ex (z w:List Int):∃ x f,CutR z w x f:=by
 by_cases o:OkD 3 (lesT (fullT z) (fullT w))
 ·by_cases m:MayD 3 (clT 3 (lesT (fullT z) (fullT w)))
  ·exact ⟨_,_,.inr (.inr ⟨o,m,rfl,rfl⟩)⟩
  ·exact ⟨_,_,.inr (.inl ⟨o,m,rfl,rfl⟩)⟩
 ·exact ⟨_,_,.inl ⟨o,rfl,rfl⟩⟩
theorem pcs_ex (b:List Int):∀ (k:Nat) (a:List Int),∃ ys,PcsR b k a ys
 | 0,_=>⟨[],rfl⟩
 | k+1,a=>by
  by_cases h1:a[5 - k]?.getD 0≤b[5 - k]?.getD 0
  ·obtain ⟨ys,h⟩:=pcs_ex b k a
   exact ⟨ys,.inl ⟨h1,h⟩⟩
  ·by_cases h2:a[oth (5 - k)]?.getD 0≤1 - b[5 - k]?.getD 0
   ·exact ⟨_,.inr (.inl ⟨by omega,h2,rfl⟩)⟩
   ·obtain ⟨z,e,hz⟩:=cut_ex a (oneZ (oth (5 - k)) (1 - b[5 - k]?.getD 0))
    obtain ⟨y,g,hy⟩:=cut_ex a (oneZ (5 - k) (b[5 - k]?.getD 0))
    by_cases he:e=0
    ·by_cases hg:g=0
     ·obtain ⟨l,h⟩:=pcs_ex b k y
      exact ⟨_,.inr (.inr ⟨by omega,by omega,z,e,hz,.inr ⟨he,y,g,hy,.inr ⟨hg,l,h,rfl⟩⟩⟩)⟩
     ·exact ⟨_,.inr (.inr ⟨by omega,by omega,z,e,hz,.inr ⟨he,y,g,hy,.inl ⟨hg,rfl⟩⟩⟩)⟩
    ·exact ⟨_,.inr (.inr ⟨by omega,by omega,z,e,hz,.inl ⟨he,rfl⟩⟩)⟩
def mkz (o:List (List Int)):List (List Int × Int):=o.map fun z=>(z,0)
def good (ys:List (List Int × Int)):List (List Int):=(ys.filter fun p=>decide (p.2=0)).map (·.1)
theorem good_cons (z:List Int) (l:List (List Int × Int)):good ((z,0)::l)=z::good l:=rfl
theorem good_bad {z:List Int} {e:Int} (h:e≠0):good [(z,e)]=[]:=by simp [good,h]
theorem good_mk (o:List (List Int)):good (mkz o)=o:=by
 induction o with
 | nil=>rfl
 | cons z o ih=>exact (good_cons z (mkz o)).trans (by rw [ih])
theorem mk_cons (z:List Int) (o:List (List Int)):mkz (z::o)=(z,0)::mkz o:=rfl
theorem less_skip {b a:List Int} {k:Nat} {o:List (List Int)} {f:Int} (tb:Tops b) (hb:MayZ b) (hk:k<6) (ha:Zo a) (hx:a[5 - k]?.getD 0≤b[5 - k]?.getD 0) (h:LessR b k a o f) (hf:f≠0→o=[]):LessR b (k+1) a o f:=by
 unfold LessR
 by_cases n:b[5 - k]?.getD 0=9223372036854775807
 ·rw [if_pos n];exact h
 ·rw [if_neg n]
  have hi:5 - k<6:=by omega
  have fx:=six_fine hb.may (5 - k) hi
  have no:¬ OkD 3 (lesT (fullT a) (fullT (oneZ (oth (5 - k)) (1 - b[5 - k]?.getD 0)))):=fun q=>by
   have:=(not_one ha.2.1 ha.1 hi fx n).1 q;omega
  obtain ⟨y,g,hy⟩:=cut_ex a (oneZ (5 - k) (b[5 - k]?.getD 0))
  obtain ⟨rfl,rfl⟩:=cut_own tb hb ha hi hx hy
  refine ⟨zero6,6,.inl ⟨no,rfl,rfl⟩,.inr ⟨by decide,_,0,hy,.inr (.inr ⟨rfl,o,h,?_⟩)⟩⟩
  by_cases q:f=0
  ·rw [if_pos q];rfl
  ·rw [if_neg q];exact hf q
section
variable {b:List Int} (tb:Tops b) (hb:MayZ b)
include tb hb
theorem pcs_less:∀ (k:Nat) {a:List Int} {ys:List (List Int × Int)},k≤6→Zo a→PcsR b k a ys→
  ∃ f,LessR b k a (if f=0 then good ys else []) f∧((f=0∧ys=mkz (good ys))∨(f=8∧∃ x,ys=mkz (good ys)++[(x,8)]))
 | 0,a,ys,_,_,h=>by
  have h:ys=[]:=h
  subst h
  exact ⟨0,⟨rfl,rfl⟩,.inl ⟨rfl,rfl⟩⟩
 | k+1,a,ys,hk,ha,h=>by
  unfold PcsR at h
  have hi:5 - k<6:=by omega
  have fx:=six_fine hb.may (5 - k) hi
  have ta:=get_top ha.2.1 (5 - k)
  rcases h with ⟨hx,h⟩ | ⟨hx,ho,h⟩ | ⟨hx,ho,z,e,hz,h⟩
  ·obtain ⟨f,h1,h2⟩:=pcs_less k (by omega) ha h
   exact ⟨f,less_skip tb hb (by omega) ha hx h1 (fun q=>by rw [if_neg q]),h2⟩
  ·have n:b[5 - k]?.getD 0≠9223372036854775807:=by omega
   obtain ⟨_,fn,nn⟩:=not_is fx n
   have fn':=fn.resolve_left nn
   obtain ⟨z,e,hz⟩:=cut_ex a (oneZ (oth (5 - k)) (1 - b[5 - k]?.getD 0))
   have q:=own_one ha.2.1 ha.1 (oth_lt hi) ho (by omega)
   have hz':=hz
   unfold CutR at hz
   rw [q,show clT 3 (fullT a)=fullT a from ha.1.2] at hz
   have ze:z=a∧e=0:=by
    rcases hz with ⟨n,_⟩ | ⟨_,n,_⟩ | ⟨_,_,e1,e2⟩
    ·exact (n ha.1.1).elim
    ·exact (n ha.1.may).elim
    ·exact ⟨e1.trans (short_full ha.2.2),e2⟩
   obtain ⟨rfl,rfl⟩:=ze
   have no:¬ OkD 3 (lesT (fullT z) (fullT (oneZ (5 - k) (b[5 - k]?.getD 0)))):=fun o=>by
    have:=(not_one ha.2.1 ha.1 (oth_lt hi) fn nn)
    rw [oth_oth,show (1:Int) - (1 - b[5 - k]?.getD 0)=b[5 - k]?.getD 0 by omega] at this
    have:=this.1 o
    omega
   subst h
   refine ⟨0,?_,.inl ⟨rfl,rfl⟩⟩
   rw [if_pos rfl]
   unfold LessR
   rw [if_neg n]
   exact ⟨z,0,hz',.inr ⟨by decide,zero6,6,.inl ⟨no,rfl,rfl⟩,.inl ⟨rfl,rfl,rfl⟩⟩⟩
  ·have n:b[5 - k]?.getD 0≠9223372036854775807:=by omega
   obtain ⟨_,fn,nn⟩:=not_is fx n
   have e6:e≠6:=fun q=>by
    have o:=(not_one ha.2.1 ha.1 hi fx n).2 hx
    rcases hz with ⟨p,_⟩ | ⟨_,_,_,p⟩ | ⟨_,_,_,p⟩
    ·exact p o
    ·rw [q] at p;exact absurd p (by decide)
    ·rw [q] at p;exact absurd p (by decide)
   rcases h with ⟨he,h⟩ | ⟨he,y,g,hy,h⟩
   ·have e8:e=8:=by rcases cut_err hz with q | q | q<;>first | exact (e6 q).elim | exact q | exact (he q).elim
    subst h
    rw [good_bad he]
    refine ⟨8,?_,.inr ⟨rfl,z,by rw [e8];rfl⟩⟩
    rw [if_neg (by decide)]
    unfold LessR
    rw [if_neg n]
    exact ⟨z,e,hz,.inl ⟨e8,rfl,rfl⟩⟩
   ·have zz:=hz
    subst he
    have g6:g≠6:=fun q=>by
     have o:=(not_one ha.2.1 ha.1 (oth_lt hi) fn nn)
     rw [oth_oth,show (1:Int) - (1 - b[5 - k]?.getD 0)=b[5 - k]?.getD 0 by omega] at o
     have o:=o.2 ho
     rcases hy with ⟨p,_⟩ | ⟨_,_,_,p⟩ | ⟨_,_,_,p⟩
     ·exact p o
     ·rw [q] at p;exact absurd p (by decide)
     ·rw [q] at p;exact absurd p (by decide)
    rcases h with ⟨hg,h⟩ | ⟨hg,l,hl,h⟩
    ·have g8:g=8:=by rcases cut_err hy with q | q | q<;>first | exact (g6 q).elim | exact q | exact (hg q).elim
     subst h
     rw [good_cons,good_bad hg]
     refine ⟨8,?_,.inr ⟨rfl,zero6,by rw [g8];rfl⟩⟩
     rw [if_neg (by decide)]
     unfold LessR
     rw [if_neg n]
     exact ⟨z,0,hz,.inr ⟨by decide,y,g,hy,.inr (.inl ⟨g8,rfl,rfl⟩)⟩⟩
    ·subst hg
     have zy:=cut_zo ha.2.1 ha.1.may (one_may fx) hy
     obtain ⟨f,h1,h2⟩:=pcs_less k (by omega) zy hl
     subst h
     rw [good_cons]
     refine ⟨f,?_,?_⟩
     ·unfold LessR
      rw [if_neg n]
      refine ⟨z,0,hz,.inr ⟨by decide,y,0,hy,.inr (.inr ⟨rfl,_,h1,?_⟩)⟩⟩
      by_cases q:f=0
      ·rw [if_pos q,if_pos q,if_pos q];rfl
      ·rw [if_neg q,if_neg q]
     ·rcases h2 with ⟨q,h2⟩ | ⟨q,x,h2⟩
      ·exact .inl ⟨q,by rw [mk_cons,←h2]⟩
      ·exact .inr ⟨q,x,by rw [mk_cons,List.cons_append,←h2]⟩
theorem pcs_good {k i:Nat} (hi:5 - k=i) (hk:k<6) {a:List Int} {ys:List (List Int × Int)} (ha:Zo a) (h:PcsR b (k+1) a ys):
  (a[i]?.getD 0≤b[i]?.getD 0∧PcsR b k a ys)∨(b[i]?.getD 0<a[i]?.getD 0∧(good ys=[]∨∃ z,Zo z∧(∀ j,j<6→z[j]?.getD 0≤a[j]?.getD 0)∧z[oth i]?.getD 0≤1 - b[i]?.getD 0∧
   (good ys=[z]∨(1 - b[i]?.getD 0<a[oth i]?.getD 0∧∃ y l,Zo y∧(∀ j,j<6→y[j]?.getD 0≤a[j]?.getD 0)∧y[i]?.getD 0≤b[i]?.getD 0∧PcsR b k y l∧good ys=z::good l)))):=by
 subst hi
 unfold PcsR at h
 have hi:5 - k<6:=by omega
 have fx:=six_fine hb.may (5 - k) hi
 have ta:=get_top ha.2.1 (5 - k)
 rcases h with ⟨hx,h⟩ | ⟨hx,ho,h⟩ | ⟨hx,ho,z,e,hz,h⟩
 ·exact .inl ⟨hx,h⟩
 ·subst h
  exact .inr ⟨hx,.inr ⟨a,ha,fun j _=>Int.le_refl _,ho,.inl rfl⟩⟩
 ·refine .inr ⟨hx,?_⟩
  have n:b[5 - k]?.getD 0≠9223372036854775807:=by omega
  obtain ⟨_,fn,nn⟩:=not_is fx n
  rcases h with ⟨he,h⟩ | ⟨he,y,g,hy,h⟩
  ·subst h;exact .inl (good_bad he)
  ·subst he
   have zz:=cut_zo ha.2.1 ha.1.may (one_may fn) hz
   have lz:=cut_le ha.2.1 ha.1.may fn (oth_lt hi) hz
   refine .inr ⟨z,zz,fun j hj=>(lz j hj).1,(lz 0 (by decide)).2,?_⟩
   rcases h with ⟨hg,h⟩ | ⟨hg,l,hl,h⟩
   ·subst h;exact .inl (by rw [good_cons,good_bad hg])
   ·subst hg
    subst h
    have ly:=cut_le ha.2.1 ha.1.may fx hi hy
    exact .inr ⟨ho,y,l,cut_zo ha.2.1 ha.1.may (one_may fx) hy,fun j hj=>(ly j hj).1,(ly 0 (by decide)).2,hl,good_cons _ _⟩
theorem pcs_all:∀ (k:Nat) {a:List Int} {ys:List (List Int × Int)},k≤6→Zo a→PcsR b k a ys→(good ys).length≤k∧∀ x,x ∈ good ys→Zo x∧∀ j,j<6→x[j]?.getD 0≤a[j]?.getD 0
 | 0,a,ys,_,_,h=>by
  have h:ys=[]:=h
  subst h
  exact ⟨Nat.le_refl _,(fun x hx=>by cases hx)⟩
 | k+1,a,ys,hk,ha,h=>by
  rcases pcs_good tb hb rfl (by omega) ha h with ⟨_,h⟩ | ⟨_,h | ⟨z,zz,lz,_,h | ⟨_,y,l,zy,ly,_,hl,h⟩⟩⟩
  ·obtain ⟨h1,h2⟩:=pcs_all k (by omega) ha h
   exact ⟨by omega,h2⟩
  ·rw [h];exact ⟨Nat.zero_le _,(fun x hx=>by cases hx)⟩
  ·rw [h]
   exact ⟨by simp,(fun x hx=>by rw [List.mem_singleton.1 hx];exact ⟨zz,lz⟩)⟩
  ·obtain ⟨h1,h2⟩:=pcs_all k (by omega) zy hl
   rw [h]
   refine ⟨by simp;omega,fun x hx=>?_⟩
   rcases List.mem_cons.1 hx with rfl | hx
   ·exact ⟨zz,lz⟩
   ·exact ⟨(h2 x hx).1,fun j hj=>Int.le_trans ((h2 x hx).2 j hj) (ly j hj)⟩
end
/-! gathered -/
def eat (h:List (List Int)):List (List Int × Int)→List (List Int) × Int
 | []=>(h,0)
 | p::ys=>if p.2=0 then if h.length=4096 then ([],4) else eat (h++[p.1]) ys else ([],p.2)
theorem eat_good {h:List (List Int)} {p:List Int × Int} {ys:List (List Int × Int)} (q:p.2=0) (l:¬ h.length=4096):eat h (p::ys)=eat (h++[p.1]) ys:=by
 rw [eat,if_pos q,if_neg l]
theorem eat_many {h:List (List Int)} {p:List Int × Int} {ys:List (List Int × Int)} (q:p.2=0) (l:h.length=4096):eat h (p::ys)=([],4):=by
 rw [eat,if_pos q,if_pos l]
theorem eat_wrong {h:List (List Int)} {p:List Int × Int} {ys:List (List Int × Int)} (q:¬ p.2=0):eat h (p::ys)=([],p.2):=by
 rw [eat,if_neg q]
theorem eat_mk (t:List (List Int × Int)):∀ (o h:List (List Int)),h.length+o.length≤4096→eat h (mkz o++t)=eat (h++o) t
 | [],h,_=>by rw [List.append_nil];rfl
 | z::o,h,q=>by
  rw [List.length_cons] at q
  rw [mk_cons,List.cons_append,eat_good rfl (by omega),eat_mk t o (h++[z]) (by rw [List.length_append,List.length_singleton];omega),List.append_assoc]
  rfl
theorem eat_zero:∀ (ys:List (List Int × Int)) (h:List (List Int)),h.length≤4096→(eat h ys).2=0→∃ o,ys=mkz o∧(eat h ys).1=h++o∧h.length+o.length≤4096
 | [],h,hl,_=>⟨[],rfl,by rw [List.append_nil];rfl,by simpa using hl⟩
 | p::ys,h,hl,e=>by
  by_cases q:p.2=0
  ·by_cases l:h.length=4096
   ·rw [eat_many q l] at e;exact absurd e (by decide)
   ·rw [eat_good q l] at e ⊢
    obtain ⟨o,h1,h2,h3⟩:=eat_zero ys (h++[p.1]) (by rw [List.length_append,List.length_singleton];omega) e
    refine ⟨p.1::o,?_,by rw [h2,List.append_assoc];rfl,?_⟩
    ·rw [mk_cons,←h1,←q]
    ·rw [List.length_append,List.length_singleton] at h3
     rw [List.length_cons]
     omega
  ·rw [eat_wrong q] at e;exact (q e).elim
theorem eat_snoc:∀ (ys:List (List Int × Int)) (h:List (List Int)) (t:List (List Int × Int)),(eat h ys).2=0→eat h (ys++t)=eat (eat h ys).1 t
 | [],h,t,_=>rfl
 | p::ys,h,t,e=>by
  rw [List.cons_append]
  by_cases q:p.2=0
  ·by_cases l:h.length=4096
   ·rw [eat_many q l] at e;exact absurd e (by decide)
   ·rw [eat_good q l] at e
    rw [eat_good q l,eat_good q l]
    exact eat_snoc ys _ t e
  ·rw [eat_wrong q] at e;exact (q e).elim
theorem eat_stop:∀ (ys:List (List Int × Int)) (h:List (List Int)) (t:List (List Int × Int)),(eat h ys).2≠0→eat h (ys++t)=eat h ys
 | [],h,t,n=>(n rfl).elim
 | p::ys,h,t,n=>by
  rw [List.cons_append]
  by_cases q:p.2=0
  ·by_cases l:h.length=4096
   ·rw [eat_many q l,eat_many q l]
   ·rw [eat_good q l] at n
    rw [eat_good q l,eat_good q l]
    exact eat_stop ys _ t n
  ·rw [eat_wrong q,eat_wrong q]
def StepP (b:List Int):List (List Int)→List (List Int)→List (List Int)→Int→Prop
 | [],h,r,f=>r=h∧f=0
 | z::zs,h,r,f=>∃ ys,PcsR b 6 z ys∧(((eat h ys).2≠0∧r=[]∧f=(eat h ys).2)∨((eat h ys).2=0∧StepP b zs (eat h ys).1 r f))
def RestP:List (List Int)→List (List Int)→List (List Int)→Int→Prop
 | [],l,r,f=>r=l∧f=0
 | b::bs,l,r,f=>∃ n e,StepP b l [] n e∧((e≠0∧r=[]∧f=e)∨(e=0∧RestP bs n r f))
section
variable {b:List Int} (tb:Tops b) (hb:MayZ b)
include tb hb
theorem stepP_ok:∀ (zs:List (List Int)) {h r:List (List Int)},(∀ z,z ∈ zs→Zo z)→h.length≤4096→StepP b zs h r 0→StepR b zs h r 0∧r.length≤4096
 | [],h,r,_,hl,q=>⟨q,by rw [q.1];exact hl⟩
 | z::zs,h,r,hz,hl,q=>by
  unfold StepP at q
  obtain ⟨ys,hp,q⟩:=q
  rcases q with ⟨q1,_,q3⟩ | ⟨q1,q2⟩
  ·exact (q1 q3.symm).elim
  ·obtain ⟨o,h1,h2,h3⟩:=eat_zero ys h hl q1
   obtain ⟨f,h4,h5⟩:=pcs_less tb hb 6 (Nat.le_refl _) (hz z List.mem_cons_self) hp
   rw [h2] at q2
   have g:good ys=o:=by rw [h1,good_mk]
   rcases h5 with ⟨h5,_⟩ | ⟨_,x,h5⟩
   ·rw [h5,if_pos rfl,g] at h4
    obtain ⟨k1,k2⟩:=stepP_ok zs (fun x hx=>hz x (List.mem_cons_of_mem _ hx)) (by rw [List.length_append];omega) q2
    exact ⟨⟨o,0,h4,.inr ⟨rfl,.inr ⟨by rw [List.length_append];omega,k1⟩⟩⟩,k2⟩
   ·exfalso
    have m:(x,(8:Int)) ∈ mkz o:=by rw [←h1,h5];simp
    unfold mkz at m
    obtain ⟨w,_,e⟩:=List.mem_map.1 m
    exact absurd (show (0:Int)=8 from congrArg Prod.snd e) (by decide)
end
theorem restP_ok:∀ (bs:List (List Int)) {l r:List (List Int)},(∀ b,b ∈ bs→Zo b)→(∀ z,z ∈ l→Zo z)→RestP bs l r 0→RestR bs l r 0
 | [],_,_,_,_,h=>h
 | b::bs,l,r,hb,hl,h=>by
  unfold RestP at h
  obtain ⟨n,e,hn,q⟩:=h
  rcases q with ⟨p1,_,p3⟩ | ⟨p1,p2⟩
  ·exact (p1 p3.symm).elim
  ·subst p1
   have zb:=hb b List.mem_cons_self
   obtain ⟨k1,k2⟩:=stepP_ok zb.2.1 zb.1 l hl (Nat.zero_le _) hn
   exact ⟨n,0,k1,.inr ⟨rfl,restP_ok bs (fun x hx=>hb x (List.mem_cons_of_mem _ hx)) (step_zo zb.2.1 zb.1 l hl ((fun x hx=>by cases hx)) k1) p2⟩⟩
end Go.Proofs.YthmljpccbjolgaaGreatDoor.minus
namespace Go.Proofs.YthmljpccbjolgaaGreatDoor.minus
open way num rat dbm Go.Proofs.YthmljpccbjolgaaGreatDoor.tight Go.Proofs.YthmljpccbjolgaaGreatDoor.tkept Go.Proofs.YthmljpccbjolgaaGreatDoor.incl Go.Proofs.YthmljpccbjolgaaGreatDoor.zone Go.Proofs.YthmljpccbjolgaaGreatDoor.win
open bound hiding up
open Go.Proofs.YthmljpccbjolgaaGreatDoor.comp (zw may_cl six_fine)
set_option linter.unusedVariables false
set_option linter.unusedSimpArgs false
set_option linter.unusedSectionVars false
abbrev Pt:=Int × Int × Int × Int
def MayQ (p:Pt):Prop:=MayR p.1 p.2.1∧MayR p.2.2.1 p.2.2.2
def hasP (z:List Int) (p:Pt):Bool:=hasB z p.1 p.2.1 p.2.2.1 p.2.2.2
def kbP (i:Nat) (x:Int) (p:Pt):Bool:=kb i x p.1 p.2.1 p.2.2.1 p.2.2.2
theorem zo_point {z:List Int} (h:Zo z):∃ p:Pt,MayQ p∧hasP z p=true:=by
 have h9:(fullT z).length=3*3:=full_length z
 have ht:Tops (fullT z):=full_tops h.2.1
 have k:=pks_kept (n:=3) (ts:=fullT z) (by decide) (by decide) h9 ht h.1.1
 obtain ⟨m,_,l⟩:=pks_may (n:=3) (ts:=fullT z) (by decide) (by decide) h9 ht h.1.1
 generalize pks 3 (fullT z)=ps at k m l
 match ps,l with
 | [x,y],_=>
  have m1:MayR x.1 x.2:=m 1 (by simp)
  have m2:MayR y.1 y.2:=m 2 (by simp)
  exact ⟨(x.1,x.2,y.1,y.2),⟨m1,m2⟩,(has_kept m1 m2).2 k⟩
def Like (B:List (List Int)) (p q:Pt):Prop:=∀ b,b ∈ B→∀ i,i<6→kbP i (b[i]?.getD 0) p=kbP i (b[i]?.getD 0) q
theorem cut_like {a z:List Int} {i:Nat} {v:Int} {p q:Pt} (ha:Zo a) (hi:i<6) (hv:Fine v) (hp:MayQ p) (hq:MayQ q) (h:CutR a (oneZ i v) z 0):hasP z p=(hasP a p && kbP i v p):=
 (cut_has ha.2.1 ha.1.may hi hv hp.1 hp.2 h (by decide)).2.2 rfl
section
variable {b:List Int} (tb:Tops b) (hb:MayZ b)
include tb hb
theorem pcs_like {p q:Pt} (hp:MayQ p) (hq:MayQ q) (hl:Like [b] p q):∀ (k:Nat) {a:List Int} {ys:List (List Int × Int)},k≤6→Zo a→PcsR b k a ys→hasP a p=hasP a q→∀ x,x ∈ good ys→hasP x p=hasP x q
 | 0,a,ys,_,_,h,_=>by
  have h:ys=[]:=h
  subst h
  intro x hx
  cases hx
 | k+1,a,ys,hk,ha,h,e=>by
  have hi:5 - k<6:=by omega
  have fx:=six_fine hb.may (5 - k) hi
  have ta:=get_top ha.2.1 (5 - k)
  have kl:=hl b List.mem_cons_self (5 - k) hi
  unfold PcsR at h
  rcases h with ⟨_,h⟩ | ⟨_,_,h⟩ | ⟨hx,_,z,f,hz,h⟩
  ·exact pcs_like hp hq hl k (by omega) ha h e
  ·subst h
   intro x hx
   rw [show good [(a,(0:Int))]=[a] from rfl] at hx
   rw [List.mem_singleton.1 hx]
   exact e
  ·have n:b[5 - k]?.getD 0≠9223372036854775807:=by omega
   obtain ⟨_,fn,nn⟩:=not_is fx n
   rcases h with ⟨hf,h⟩ | ⟨hf,y,g,hy,h⟩
   ·subst h
    intro x hx
    rw [good_bad hf] at hx
    cases hx
   ·subst hf
    have ez:hasP z p=hasP z q:=by
     rw [cut_like ha (oth_lt hi) fn hp hq hz,cut_like ha (oth_lt hi) fn hq hp hz,e]
     have n1:=kb_not hi hp.1 hp.2 fx n
     have n2:=kb_not hi hq.1 hq.2 fx n
     show (_ && kb (oth (5 - k)) (1 - b[5 - k]?.getD 0) p.1 p.2.1 p.2.2.1 p.2.2.2)=(_ && kb (oth (5 - k)) (1 - b[5 - k]?.getD 0) q.1 q.2.1 q.2.2.1 q.2.2.2)
     rw [n1,n2]
     have kl':kb (5 - k) (b[5 - k]?.getD 0) p.1 p.2.1 p.2.2.1 p.2.2.2=kb (5 - k) (b[5 - k]?.getD 0) q.1 q.2.1 q.2.2.1 q.2.2.2:=kl
     rw [kl']
    rcases h with ⟨hg,h⟩ | ⟨hg,l,hl2,h⟩
    ·subst h
     intro x hx
     rw [good_cons,good_bad hg] at hx
     rw [List.mem_singleton.1 hx]
     exact ez
    ·subst hg
     subst h
     have ey:hasP y p=hasP y q:=by
      rw [cut_like ha hi fx hp hq hy,cut_like ha hi fx hq hp hy,e,kl]
     intro x hx
     rw [good_cons] at hx
     rcases List.mem_cons.1 hx with rfl | hx
     ·exact ez
     ·exact pcs_like hp hq hl k (by omega) (cut_zo ha.2.1 ha.1.may (one_may fx) hy) hl2 ey x hx
theorem pcs_once {p:Pt} (hp:MayQ p):∀ (k:Nat) {a:List Int} {ys:List (List Int × Int)},k≤6→Zo a→PcsR b k a ys→(∀ x,x ∈ good ys→hasP x p=true→hasP a p=true)∧(good ys).Pairwise fun x y=>¬ (hasP x p=true∧hasP y p=true)
 | 0,a,ys,_,_,h=>by
  have h:ys=[]:=h
  subst h
  exact ⟨(fun x hx=>by cases hx),List.Pairwise.nil⟩
 | k+1,a,ys,hk,ha,h=>by
  have hi:5 - k<6:=by omega
  have fx:=six_fine hb.may (5 - k) hi
  have ta:=get_top ha.2.1 (5 - k)
  unfold PcsR at h
  rcases h with ⟨_,h⟩ | ⟨_,_,h⟩ | ⟨hx,_,z,f,hz,h⟩
  ·exact pcs_once hp k (by omega) ha h
  ·subst h
   rw [show good [(a,(0:Int))]=[a] from rfl]
   exact ⟨fun x hx q=>by rw [List.mem_singleton.1 hx] at q;exact q,List.pairwise_singleton _ _⟩
  ·have n:b[5 - k]?.getD 0≠9223372036854775807:=by omega
   obtain ⟨_,fn,nn⟩:=not_is fx n
   rcases h with ⟨hf,h⟩ | ⟨hf,y,g,hy,h⟩
   ·subst h
    rw [good_bad hf]
    exact ⟨(fun x hx=>by cases hx),List.Pairwise.nil⟩
   ·subst hf
    have ez:=cut_like (q:=p) ha (oth_lt hi) fn hp hp hz
    have n1:kbP (oth (5 - k)) (1 - b[5 - k]?.getD 0) p=!kbP (5 - k) (b[5 - k]?.getD 0) p:=kb_not hi hp.1 hp.2 fx n
    rcases h with ⟨hg,h⟩ | ⟨hg,l,hl2,h⟩
    ·subst h
     rw [good_cons,good_bad hg]
     refine ⟨fun x hx q=>?_,List.pairwise_singleton _ _⟩
     rw [List.mem_singleton.1 hx,ez,Bool.and_eq_true] at q
     exact q.1
    ·subst hg
     subst h
     have ey:=cut_like (q:=p) ha hi fx hp hp hy
     obtain ⟨i1,i2⟩:=pcs_once hp k (by omega) (cut_zo ha.2.1 ha.1.may (one_may fx) hy) hl2
     rw [good_cons]
     refine ⟨fun x hx q=>?_,List.pairwise_cons.2 ⟨fun x hx q=>?_,i2⟩⟩
     ·rcases List.mem_cons.1 hx with rfl | hx
      ·rw [ez,Bool.and_eq_true] at q;exact q.1
      ·have:=i1 x hx q
       rw [ey,Bool.and_eq_true] at this
       exact this.1
     ·have h1:=i1 x hx q.2
      have h2:=q.1
      rw [ey,Bool.and_eq_true] at h1
      rw [ez,n1,Bool.and_eq_true,h1.2] at h2
      exact absurd h2.2 (by decide)
end
/-! how many ways there are to keep bounds -/
def kN (n d x:Int):Bool:=if bS x then ltB n (x / 2*d) else !ltB (x / 2*d) n
theorem kN_mono {n d n' d' x:Int} (hd:0<d) (hd':0<d') (h:n*d'≤n'*d) (k:kN n' d' x=true):kN n d x=true:=by
 unfold kN at k ⊢
 have e:x / 2*d'*d=x / 2*d*d':=by rw [Int.mul_assoc,Int.mul_comm d' d,←Int.mul_assoc]
 generalize x / 2=y at k e ⊢
 by_cases s:bS x=true
 ·rw [if_pos s] at k ⊢
  unfold ltB at k ⊢
  have k1:=Int.mul_lt_mul_of_pos_right (of_decide_eq_true k) hd
  refine decide_eq_true (Int.lt_of_mul_lt_mul_right (a:=d') ?_ (Int.le_of_lt hd'))
  rw [←e]
  exact Int.lt_of_le_of_lt h k1
 ·rw [if_neg s] at k ⊢
  unfold ltB at k ⊢
  rw [Bool.not_eq_true',decide_eq_false_iff_not] at k ⊢
  have k1:=Int.mul_le_mul_of_nonneg_right (Int.not_lt.1 k) (Int.le_of_lt hd)
  refine Int.not_lt.2 (Int.le_of_mul_le_mul_right (a:=d') ?_ hd')
  rw [←e]
  exact Int.le_trans h k1
def dn (j:Nat) (p:Pt):Int:=if j=0 then p.1 else if j=1 then p.2.2.1 else p.2.2.1*p.2.1 - p.1*p.2.2.2
def dd (j:Nat) (p:Pt):Int:=if j=0 then p.2.1 else if j=1 then p.2.2.2 else p.2.2.2*p.2.1
theorem dd_pos {j:Nat} {p:Pt} (hp:MayQ p):0<dd j p:=by
 have h1:0<p.2.1:=hp.1.1
 have h2:0<p.2.2.2:=hp.2.1
 unfold dd
 split
 ·exact h1
 ·split
  ·exact h2
  ·exact Int.mul_pos h2 h1
theorem kb_up {j:Nat} {x:Int} {p:Pt} (hj:j<3) (hp:MayQ p) (hx:Fine x):kbP (2*j) x p=true↔(x=9223372036854775807∨kN (dn j p) (dd j p) x=true):=by
 rcases (by omega:j=0∨j=1∨j=2) with rfl | rfl | rfl
 ·show kpV p.1 p.2.1 0 1 x=true↔_
  rw [kp_kB hp.1 zero_may hx]
  unfold keptR kN dn dd
  simp
 ·show kpV p.2.2.1 p.2.2.2 0 1 x=true↔_
  rw [kp_kB hp.2 zero_may hx]
  unfold keptR kN dn dd
  simp
 ·show kpV p.2.2.1 p.2.2.2 p.1 p.2.1 x=true↔_
  rw [kp_kB hp.2 hp.1 hx]
  unfold keptR kN dn dd
  simp
theorem kb_down {j:Nat} {x:Int} {p:Pt} (hj:j<3) (hp:MayQ p) (hx:Fine x):kbP (2*j+1) x p=true↔(x=9223372036854775807∨kN (-(dn j p)) (dd j p) x=true):=by
 rcases (by omega:j=0∨j=1∨j=2) with rfl | rfl | rfl
 ·show kpV 0 1 p.1 p.2.1 x=true↔_
  rw [kp_kB zero_may hp.1 hx]
  unfold keptR kN dn dd
  simp
 ·show kpV 0 1 p.2.2.1 p.2.2.2 x=true↔_
  rw [kp_kB zero_may hp.2 hx]
  unfold keptR kN dn dd
  simp
 ·show kpV p.1 p.2.1 p.2.2.1 p.2.2.2 x=true↔_
  rw [kp_kB hp.1 hp.2 hx]
  unfold keptR kN dn dd
  have e:-(p.2.2.1*p.2.1 - p.1*p.2.2.2)=p.1*p.2.2.2 - p.2.2.1*p.2.1:=by omega
  have e2:p.2.1*p.2.2.2=p.2.2.2*p.2.1:=Int.mul_comm _ _
  simp [e,e2]
theorem count_same {α:Type} {f g:α→Bool}:∀ {l:List α},(∀ b,b ∈ l→f b=true→g b=true)→l.countP f=l.countP g→∀ b,b ∈ l→f b=g b
 | [],_,_,b,hb=>by cases hb
 | x::l,h,e,b,hb=>by
  have h':∀ b,b ∈ l→f b=true→g b=true:=fun b q=>h b (List.mem_cons_of_mem _ q)
  have m:=List.countP_mono_left h'
  rw [List.countP_cons,List.countP_cons] at e
  have hx:=h x List.mem_cons_self
  have ex:f x=g x:=by
   cases f1:f x<;>cases g1:g x
   ·rfl
   ·rw [f1,g1] at e;simp at e;omega
   ·exact absurd (hx f1) (by rw [g1];decide)
   ·rfl
  rcases List.mem_cons.1 hb with rfl | q
  ·exact ex
  ·rw [ex] at e
   exact count_same h' (by omega) b q
def far (j:Nat) (B:List (List Int)) (p:Pt):Nat:=(B.countP fun b=>!kbP (2*j) (b[2*j]?.getD 0) p)+B.countP fun b=>kbP (2*j+1) (b[2*j+1]?.getD 0) p
theorem far_le (j:Nat) (B:List (List Int)) (p:Pt):far j B p≤2*B.length:=by
 unfold far
 have h1:(B.countP fun b=>!kbP (2*j) (b[2*j]?.getD 0) p)≤B.length:=List.countP_le_length
 have h2:(B.countP fun b=>kbP (2*j+1) (b[2*j+1]?.getD 0) p)≤B.length:=List.countP_le_length
 omega
theorem far_same {j:Nat} {B:List (List Int)} {p q:Pt} (hj:j<3) (hB:∀ b,b ∈ B→Zo b) (hp:MayQ p) (hq:MayQ q) (h:dn j p*dd j q≤dn j q*dd j p) (e:far j B p=far j B q):
  ∀ b,b ∈ B→kbP (2*j) (b[2*j]?.getD 0) p=kbP (2*j) (b[2*j]?.getD 0) q∧kbP (2*j+1) (b[2*j+1]?.getD 0) p=kbP (2*j+1) (b[2*j+1]?.getD 0) q:=by
 have up:∀ b,b ∈ B→(!kbP (2*j) (b[2*j]?.getD 0) p)=true→(!kbP (2*j) (b[2*j]?.getD 0) q)=true:=fun b hb k=>by
  have fx:=six_fine (hB b hb).1.may (2*j) (by omega)
  rw [Bool.not_eq_true'] at k ⊢
  cases hv:kbP (2*j) (b[2*j]?.getD 0) q with
  | false=>rfl
  | true=>
   have:kbP (2*j) (b[2*j]?.getD 0) p=true:=(kb_up hj hp fx).2 (((kb_up hj hq fx).1 hv).imp_right fun r=>kN_mono (dd_pos hp) (dd_pos hq) h r)
   rw [k] at this
   cases this
 have down:∀ b,b ∈ B→kbP (2*j+1) (b[2*j+1]?.getD 0) p=true→kbP (2*j+1) (b[2*j+1]?.getD 0) q=true:=fun b hb k=>by
  have fx:=six_fine (hB b hb).1.may (2*j+1) (by omega)
  exact (kb_down hj hq fx).2 (((kb_down hj hp fx).1 k).imp_right fun r=>kN_mono (dd_pos hq) (dd_pos hp) (by rw [Int.neg_mul,Int.neg_mul];omega) r)
 have m1:=List.countP_mono_left up
 have m2:=List.countP_mono_left down
 unfold far at e
 have s1:=count_same up (by omega)
 have s2:=count_same down (by omega)
 intro b hb
 refine ⟨?_,s2 b hb⟩
 have:=s1 b hb
 cases h1:kbP (2*j) (b[2*j]?.getD 0) p<;>cases h2:kbP (2*j) (b[2*j]?.getD 0) q<;>rw [h1,h2] at this<;>first | rfl | cases this
theorem far_like {B:List (List Int)} {p q:Pt} (hB:∀ b,b ∈ B→Zo b) (hp:MayQ p) (hq:MayQ q) (e:∀ j,j<3→far j B p=far j B q):Like B p q:=by
 have key:∀ j,j<3→∀ b,b ∈ B→kbP (2*j) (b[2*j]?.getD 0) p=kbP (2*j) (b[2*j]?.getD 0) q∧kbP (2*j+1) (b[2*j+1]?.getD 0) p=kbP (2*j+1) (b[2*j+1]?.getD 0) q:=fun j hj b hb=>by
  by_cases h:dn j p*dd j q≤dn j q*dd j p
  ·exact far_same hj hB hp hq h (e j hj) b hb
  ·have:=far_same hj hB hq hp (by omega) (e j hj).symm b hb
   exact ⟨this.1.symm,this.2.symm⟩
 intro b hb i hi
 rcases six_is hi with rfl | rfl | rfl | rfl | rfl | rfl
 ·exact (key 0 (by decide) b hb).1
 ·exact (key 0 (by decide) b hb).2
 ·exact (key 1 (by decide) b hb).1
 ·exact (key 1 (by decide) b hb).2
 ·exact (key 2 (by decide) b hb).1
 ·exact (key 2 (by decide) b hb).2
theorem pig:∀ (n:Nat) (l:List Nat),(∀ x,x ∈ l→x<n)→l.Nodup→l.length≤n
 | 0,l,h,_=>by
  cases l with
  | nil=>exact Nat.le_refl _
  | cons x l=>exact absurd (h x List.mem_cons_self) (Nat.not_lt_zero _)
 | n+1,l,h,d=>by
  by_cases m:n ∈ l
  ·have d':=d.erase n
   have e:=List.length_erase_of_mem m
   have:=pig n (l.erase n) (fun x hx=>by
    obtain ⟨h1,h2⟩:=(d.mem_erase_iff).1 hx
    have:=h x h2
    omega) d'
   omega
  ·have:=pig n l (fun x hx=>by
    have:=h x hx
    have:x≠n:=fun e=>m (e ▸ hx)
    omega) d
   omega
structure Ds (B:List (List Int)) (a:List Int) (l:List (List Int)):Prop where
 zo:∀ x,x ∈ l→Zo x
 lie:∀ x,x ∈ l→∀ p,MayQ p→hasP x p=true→hasP a p=true
 like:∀ p q,MayQ p→MayQ q→Like B p q→hasP a p=true→hasP a q=true→∀ x,x ∈ l→hasP x p=hasP x q
 once:∀ p,MayQ p→l.Pairwise fun x y=>¬ (hasP x p=true∧hasP y p=true)
open Classical in
noncomputable def ptOf (x : List Int) : Pt := if h : Zo x then (zo_point h).choose else (0, 1, 0, 1)
theorem pt_of {x:List Int} (h:Zo x):MayQ (ptOf x)∧hasP x (ptOf x)=true:=by
 unfold ptOf
 rw [dif_pos h]
 exact (zo_point h).choose_spec
theorem far_up {j:Nat} {B:List (List Int)} {p q:Pt} (hj:j<3) (hB:∀ b,b ∈ B→Zo b) (hp:MayQ p) (hq:MayQ q) (h:dn j p*dd j q≤dn j q*dd j p):far j B p≤far j B q:=by
 have up:∀ b,b ∈ B→(!kbP (2*j) (b[2*j]?.getD 0) p)=true→(!kbP (2*j) (b[2*j]?.getD 0) q)=true:=fun b hb k=>by
  have fx:=six_fine (hB b hb).1.may (2*j) (by omega)
  rw [Bool.not_eq_true'] at k ⊢
  cases hv:kbP (2*j) (b[2*j]?.getD 0) q with
  | false=>rfl
  | true=>
   have:kbP (2*j) (b[2*j]?.getD 0) p=true:=(kb_up hj hp fx).2 (((kb_up hj hq fx).1 hv).imp_right fun r=>kN_mono (dd_pos hp) (dd_pos hq) h r)
   rw [k] at this
   cases this
 have down:∀ b,b ∈ B→kbP (2*j+1) (b[2*j+1]?.getD 0) p=true→kbP (2*j+1) (b[2*j+1]?.getD 0) q=true:=fun b hb k=>by
  have fx:=six_fine (hB b hb).1.may (2*j+1) (by omega)
  exact (kb_down hj hq fx).2 (((kb_down hj hp fx).1 k).imp_right fun r=>kN_mono (dd_pos hq) (dd_pos hp) (by rw [Int.neg_mul,Int.neg_mul];omega) r)
 have m1:=List.countP_mono_left up
 have m2:=List.countP_mono_left down
 unfold far
 omega
theorem far_turn {B:List (List Int)} {p q:Pt} (hB:∀ b,b ∈ B→Zo b) (hp:MayQ p) (hq:MayQ q) (h0:far 0 B p<far 0 B q) (h1:far 1 B q<far 1 B p):far 2 B q≤far 2 B p:=by
 have k0:¬ dn 0 q*dd 0 p≤dn 0 p*dd 0 q:=fun k=>by
  have:=far_up (by decide) hB hq hp k
  omega
 have k1:¬ dn 1 p*dd 1 q≤dn 1 q*dd 1 p:=fun k=>by
  have:=far_up (by decide) hB hp hq k
  omega
 refine far_up (by decide) hB hq hp ?_
 obtain ⟨a,b,c,d⟩:=p
 obtain ⟨a',b',c',d'⟩:=q
 have pb:0<b:=hp.1.1
 have pd:0<d:=hp.2.1
 have qb:0<b':=hq.1.1
 have qd:0<d':=hq.2.1
 have k0':a*b'≤a'*b:=Int.le_of_lt (Int.not_le.1 k0)
 have k1':c'*d≤c*d':=Int.le_of_lt (Int.not_le.1 k1)
 show (c'*b' - a'*d')*(d*b)≤(c*b - a*d)*(d'*b')
 have e1:(c'*b' - a'*d')*(d*b)=c'*d*(b*b') - a'*b*(d*d'):=by
  rw [Int.sub_mul]
  congr 1<;>ac_rfl
 have e2:(c*b - a*d)*(d'*b')=c*d'*(b*b') - a*b'*(d*d'):=by
  rw [Int.sub_mul]
  congr 1<;>ac_rfl
 have m1:=Int.mul_le_mul_of_nonneg_right k1' (Int.le_of_lt (Int.mul_pos pb qb))
 have m0:=Int.mul_le_mul_of_nonneg_right k0' (Int.le_of_lt (Int.mul_pos pd qd))
 rw [e1,e2]
 omega
open Classical in
noncomputable def code (B l : List (List Int)) (x : List Int) : Nat :=
  if ∃ y, y ∈ l ∧ far 0 B (ptOf y) = far 0 B (ptOf x) ∧ far 1 B (ptOf y) = far 1 B (ptOf x) ∧ far 2 B (ptOf y) < far 2 B (ptOf x) then 1369 + 73 * (far 2 B (ptOf x) - 1) + (far 0 B (ptOf x) + far 1 B (ptOf x)) else 37 * far 0 B (ptOf x) + far 1 B (ptOf x)
theorem ds_few {B l:List (List Int)} {a:List Int} (h6:B.length≤18) (hB:∀ b,b ∈ B→Zo b) (h:Ds B a l):l.length≤3997:=by
 have lk:∀ x,x ∈ l→∀ y,y ∈ l→code B l x=code B l y→∀ k,k<3→far k B (ptOf x)=far k B (ptOf y):=fun x hx y hy e=>by
  obtain ⟨m1,-⟩:=pt_of (h.zo x hx)
  obtain ⟨m2,-⟩:=pt_of (h.zo y hy)
  have b0:=far_le 0 B (ptOf x)
  have b1:=far_le 1 B (ptOf x)
  have b2:=far_le 2 B (ptOf x)
  have d0:=far_le 0 B (ptOf y)
  have d1:=far_le 1 B (ptOf y)
  have d2:=far_le 2 B (ptOf y)
  have all:far 0 B (ptOf x)=far 0 B (ptOf y)∧far 1 B (ptOf x)=far 1 B (ptOf y)∧far 2 B (ptOf x)=far 2 B (ptOf y):=by
   unfold code at e
   split at e
   ·rename_i q
    obtain ⟨x',hx',x0,x1,x2⟩:=q
    obtain ⟨m3,-⟩:=pt_of (h.zo x' hx')
    split at e
    ·rename_i q'
     obtain ⟨y',hy',y0,y1,y2⟩:=q'
     obtain ⟨m4,-⟩:=pt_of (h.zo y' hy')
     have e2:far 2 B (ptOf x)=far 2 B (ptOf y):=by omega
     have es:far 0 B (ptOf x)+far 1 B (ptOf x)=far 0 B (ptOf y)+far 1 B (ptOf y):=by omega
     rcases Nat.lt_trichotomy (far 0 B (ptOf x)) (far 0 B (ptOf y)) with k | k | k
     ·have:=far_turn hB m3 m2 (by omega) (by omega)
      omega
     ·exact ⟨k,by omega,e2⟩
     ·have:=far_turn hB m4 m1 (by omega) (by omega)
      omega
    ·omega
   ·rename_i q
    split at e
    ·omega
    ·rename_i q'
     have e0:far 0 B (ptOf x)=far 0 B (ptOf y):=by omega
     have e1:far 1 B (ptOf x)=far 1 B (ptOf y):=by omega
     have n1:¬ far 2 B (ptOf y)<far 2 B (ptOf x):=fun k=>q ⟨y,hy,e0.symm,e1.symm,k⟩
     have n2:¬ far 2 B (ptOf x)<far 2 B (ptOf y):=fun k=>q' ⟨x,hx,e0,e1,k⟩
     exact ⟨e0,e1,by omega⟩
  intro k hk
  rcases (by omega:k=0∨k=1∨k=2) with rfl | rfl | rfl
  ·exact all.1
  ·exact all.2.1
  ·exact all.2.2
 have key:(l.map (code B l)).Nodup:=by
  refine List.pairwise_iff_getElem.2 fun i j hi hj hij e=>?_
  rw [List.length_map] at hi hj
  rw [List.getElem_map,List.getElem_map] at e
  have zi:=h.zo _ (List.getElem_mem hi)
  have zj:=h.zo _ (List.getElem_mem hj)
  obtain ⟨m1,k1⟩:=pt_of zi
  obtain ⟨m2,k2⟩:=pt_of zj
  have lk:=far_like hB m1 m2 (lk _ (List.getElem_mem hi) _ (List.getElem_mem hj) e)
  have a1:=h.lie _ (List.getElem_mem hi) _ m1 k1
  have a2:=h.lie _ (List.getElem_mem hj) _ m2 k2
  have k3:=h.like _ _ m1 m2 lk a1 a2 _ (List.getElem_mem hi)
  rw [k1] at k3
  exact (List.pairwise_iff_getElem.1 (h.once _ m2)) i j hi hj hij ⟨k3.symm,k2⟩
 have:=pig 3997 (l.map (code B l)) (fun x hx=>by
  obtain ⟨y,_,rfl⟩:=List.mem_map.1 hx
  have b0:=far_le 0 B (ptOf y)
  have b1:=far_le 1 B (ptOf y)
  have b2:=far_le 2 B (ptOf y)
  unfold code
  split
  ·rename_i q
   obtain ⟨_,_,_,_,_⟩:=q
   omega
  ·omega) key
 rwa [List.length_map] at this
theorem like_left {B:List (List Int)} {b:List Int} {p q:Pt} (h:Like (B++[b]) p q):Like B p q∧Like [b] p q:=
 ⟨fun c hc=>h c (List.mem_append.2 (.inl hc)),fun c hc=>h c (List.mem_append.2 (.inr hc))⟩
theorem stepP_like {B:List (List Int)} {a b:List Int} (hb:Zo b) (hB:∀ b,b ∈ B→Zo b) (h6:B.length+1≤18):∀ (zs:List (List Int)) {h r:List (List Int)} {f:Int},Ds (B++[b]) a h→Ds B a zs→(∀ p,MayQ p→∀ x,x ∈ h→∀ y,y ∈ zs→¬ (hasP x p=true∧hasP y p=true))→StepP b zs h r f→StepR b zs h r f∧(f=0→Ds (B++[b]) a r)
 | [],h,r,f,dh,_,_,q=>⟨q,fun _=>by rw [q.1];exact dh⟩
 | z::zs,h,r,f,dh,dz,ap,q=>by
  unfold StepP at q
  obtain ⟨ys,hp,q⟩:=q
  have zz:=dz.zo z List.mem_cons_self
  obtain ⟨f',h4,h5⟩:=pcs_less hb.2.1 hb.1 6 (Nat.le_refl _) zz hp
  have pa:=(pcs_all hb.2.1 hb.1 6 (Nat.le_refl _) zz hp).2
  have on:=fun {p:Pt} (hp':MayQ p)=>pcs_once hb.2.1 hb.1 hp' 6 (Nat.le_refl _) zz hp
  have D:Ds (B++[b]) a (h++good ys):=by
   refine ⟨fun x hx=>?_,fun x hx p m k=>?_,fun p q m n lk ha hq x hx=>?_,fun p m=>?_⟩
   ·rcases List.mem_append.1 hx with k | k
    ·exact dh.zo x k
    ·exact (pa x k).1
   ·rcases List.mem_append.1 hx with k' | k'
    ·exact dh.lie x k' p m k
    ·exact dz.lie z List.mem_cons_self p m ((on m).1 x k' k)
   ·rcases List.mem_append.1 hx with k | k
    ·exact dh.like p q m n lk ha hq x k
    ·obtain ⟨l1,l2⟩:=like_left lk
     exact pcs_like hb.2.1 hb.1 m n l2 6 (Nat.le_refl _) zz hp (dz.like p q m n l1 ha hq z List.mem_cons_self) x k
   ·exact List.pairwise_append.2 ⟨dh.once p m,(on m).2,fun x hx y hy k=>ap p m x hx z List.mem_cons_self ⟨k.1,(on m).1 y hy k.2⟩⟩
  have few:=ds_few (B:=B++[b]) (by rw [List.length_append,List.length_singleton];exact h6) (fun c hc=>by
   rcases List.mem_append.1 hc with k | k
   ·exact hB c k
   ·rw [List.mem_singleton.1 k];exact hb) D
  rw [List.length_append] at few
  have dz':Ds B a zs:=⟨fun x hx=>dz.zo x (List.mem_cons_of_mem _ hx),fun x hx=>dz.lie x (List.mem_cons_of_mem _ hx),fun p q m n lk ha hq x hx=>dz.like p q m n lk ha hq x (List.mem_cons_of_mem _ hx),fun p m=>(List.pairwise_cons.1 (dz.once p m)).2⟩
  have ap':∀ p,MayQ p→∀ x,x ∈ h++good ys→∀ y,y ∈ zs→¬ (hasP x p=true∧hasP y p=true):=fun p m x hx y hy k=>by
   rcases List.mem_append.1 hx with k' | k'
   ·exact ap p m x k' y (List.mem_cons_of_mem _ hy) k
   ·exact (List.pairwise_cons.1 (dz.once p m)).1 y hy ⟨(on m).1 x k' k.1,k.2⟩
  rcases h5 with ⟨h5,hy⟩ | ⟨h5,x,hy⟩
  ·have ea:eat h ys=(h++good ys,0):=by
    have:=eat_mk [] (good ys) h (by omega)
    rw [List.append_nil,←hy] at this
    exact this
   rw [ea] at q
   rw [h5,if_pos rfl] at h4
   rcases q with ⟨q1,_,_⟩ | ⟨_,q2⟩
   ·exact (q1 rfl).elim
   ·obtain ⟨k1,k2⟩:=stepP_like hb hB h6 zs D dz' ap' q2
    exact ⟨⟨good ys,0,h4,.inr ⟨rfl,.inr ⟨by rw [List.length_append];omega,k1⟩⟩⟩,k2⟩
  ·have ea:eat h ys=([],8):=by
    have:=eat_mk [(x,8)] (good ys) h (by omega)
    rw [←hy] at this
    exact this
   rw [ea] at q
   rw [h5,if_neg (by decide)] at h4
   rcases q with ⟨_,q2,q3⟩ | ⟨q1,_⟩
   ·exact ⟨⟨[],8,h4,.inl ⟨by decide,q2,q3⟩⟩,fun q=>by rw [q3] at q;exact absurd q (by decide)⟩
   ·exact absurd q1 (by decide)
theorem restP_like {a:List Int}:∀ (bs:List (List Int)) {B l r:List (List Int)} {f:Int},(∀ b,b ∈ bs→Zo b)→(∀ b,b ∈ B→Zo b)→B.length+bs.length≤18→Ds B a l→RestP bs l r f→RestR bs l r f
 | [],_,_,_,_,_,_,_,_,h=>h
 | b::bs,B,l,r,f,hb,hB,h6,d,h=>by
  rw [List.length_cons] at h6
  unfold RestP at h
  obtain ⟨n,e,hn,q⟩:=h
  have zb:=hb b List.mem_cons_self
  obtain ⟨k1,k2⟩:=stepP_like (h:=[]) zb hB (by omega) l ⟨(fun x hx=>by cases hx),(fun x hx=>by cases hx),(fun _ _ _ _ _ _ _ x hx=>by cases hx),fun _ _=>List.Pairwise.nil⟩ d (fun _ _ x hx=>by cases hx) hn
  refine ⟨n,e,k1,?_⟩
  rcases q with q | ⟨q1,q2⟩
  ·exact .inl q
  ·refine .inr ⟨q1,restP_like bs (B:=B++[b]) (fun c hc=>hb c (List.mem_cons_of_mem _ hc)) (fun c hc=>?_) (by rw [List.length_append,List.length_singleton];omega) (k2 q1) q2⟩
   rcases List.mem_append.1 hc with k | k
   ·exact hB c k
   ·rw [List.mem_singleton.1 k];exact zb
theorem restP_few {bs:List (List Int)} {a:List Int} {r:List (List Int)} {f:Int} (h6:bs.length≤18) (hb:∀ b,b ∈ bs→Zo b) (ha:Zo a) (h:RestP bs [a] r f):RestR bs [a] r f:=by
 refine restP_like (a:=a) bs (B:=[]) hb (fun c hc=>by cases hc) (by rw [List.length_nil];omega) (⟨fun x hx=>?_,fun x hx p _ k=>?_,fun p q _ _ _ hp hq x hx=>?_,fun _ _=>List.pairwise_singleton _ _⟩:Ds [] a [a]) h
 ·rw [List.mem_singleton.1 hx];exact ha
 ·rw [List.mem_singleton.1 hx] at k;exact k
 ·rw [List.mem_singleton.1 hx,hp,hq]
end Go.Proofs.YthmljpccbjolgaaGreatDoor.minus
