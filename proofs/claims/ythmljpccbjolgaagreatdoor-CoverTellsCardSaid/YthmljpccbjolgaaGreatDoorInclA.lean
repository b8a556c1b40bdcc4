
/-
  Times of eighths, ends and times that are picked: the mathematics, and the small functions of package incl; each theorem names its conditions.
-/
import Derived.Test.YthmljpccbjolgaaGreatDoorTightA
import Derived.Test.YthmljpccbjolgaaGreatDoorTightD
import Derived.Test.YthmljpccbjolgaaGreatDoorRatC
namespace Go.Proofs.YthmljpccbjolgaaGreatDoor.way
set_option linter.unusedVariables false
set_option linter.unusedSectionVars false
def both (d e:Tab):Tab:=fun i j=>mn (d i j) (e i j)
theorem put_iff {D:Tab} {n x y:Nat} (hx:x<n) (hy:y<n) (t:Tri D n) (p:Pos D) (hd:∀ i,i<n→le (D i i) one) (o:∀ i,¬ i<n→∀ j,D i j=none) (v:B):Good (put D x y v) n↔le one (ad (D y x) v):=by
 constructor
 ·intro g
  have h1:=g n (Nat.le_refl _) x
  have h2:=good_tri g y hy x x
  have h3:le (F (put D x y v) n x y) v:=le_trans (F_le _ _ _ _) (put_at D x y v)
  have h4:le (F (put D x y v) n y x) (D y x):=le_trans (F_le _ _ _ _) (put_le D x y v y x)
  have:=le_trans h1 (le_trans h2 (ad_mono h3 h4))
  rwa [ad_comm] at this
 ·intro g
  have g':le one (ad v (D y x)):=by rwa [ad_comm] at g
  let D':Tab:=fun i j=>mn (D i j) (ad (ad (D i x) v) (D y j))
  have hr:∀ i j,le (D' i j) (ad (ad (D i x) v) (D y j)):=fun i j=>mn_right _ _
  have hl:∀ i j,le (D' i j) (D i j):=fun i j=>mn_left _ _
  have hp:∀ i j,le (D' i j) (put D x y v i j):=le_put hl (by
   have:=ad_mono (ad_mono (hd x hx) (le_refl v)) (hd y hy)
   rw [one_ad,ad_one] at this
   exact le_trans (hr x y) this)
  have ht:Tri D' n:=by
   intro m hm i j
   rcases mn_is (D i m) (ad (ad (D i x) v) (D y m)) with e | e<;>rcases mn_is (D m j) (ad (ad (D m x) v) (D y j)) with f | f<;>(show le _ (ad (mn _ _) (mn _ _)))<;>rw [e,f]
   ·exact le_trans (hl i j) (t m hm i j)
   ·refine le_trans (hr i j) ?_
    rw [←ad_assoc,←ad_assoc]
    exact ad_mono (ad_mono (t m hm i x) (le_refl _)) (le_refl _)
   ·refine le_trans (hr i j) ?_
    rw [ad_assoc (ad (D i x) v)]
    exact ad_mono (le_refl _) (t m hm y j)
   ·refine le_trans (hr i j) ?_
    rw [ad_assoc (ad (D i x) v)]
    refine ad_mono (le_refl _) ?_
    rw [←ad_assoc,←ad_assoc]
    refine le_ad_left ?_
    refine le_trans g (ad_mono (t m hm y x) (le_refl _))
  have hpos:Pos D':=by
   intro i
   show le one (mn _ _)
   refine le_mn (p i) ?_
   by_cases hi:i<n
   ·rw [ad_assoc,ad_comm,ad_assoc]
    exact le_trans g' (ad_mono (le_refl _) (t i hi y x))
   ·rw [o i hi x,none_ad,none_ad]
    exact le_none _
  exact good_mono hp (fun m hm i=>by rw [F_id ht m hm];exact hpos i)
end Go.Proofs.YthmljpccbjolgaaGreatDoor.way
namespace Go.Proofs.YthmljpccbjolgaaGreatDoor.way
set_option linter.unusedVariables false
set_option linter.unusedSectionVars false
theorem F_turn (d:Tab) (k i j:Nat):F (fun i j=>d j i) k i j=F d k j i:=by
 induction k generalizing i j with
 | zero=>rfl
 | succ k ih=>
  show mn (F (fun i j=>d j i) k i j) (ad (F (fun i j=>d j i) k i k) (F (fun i j=>d j i) k k j))=mn (F d k j i) (ad (F d k j k) (F d k k i))
  rw [ih,ih,ih,ad_comm]
theorem F_within1 {d:Tab} {M:Int} {k:Nat} (hM:0≤M) (hd:∀ i j,Wi M 1 (d i j)) (h:Good d k) {i:Nat} (hi:i<k) (j:Nat):Wi M k (F d k i j):=by
 obtain ⟨l,h1,h2,e⟩:=F_simple h i j
 rw [←e]
 have:=few k (i::l) (List.nodup_cons.2 ⟨fun hm=>(h2 i hm).2.1 rfl,h1⟩) (fun m hm=>by
  rcases List.mem_cons.1 hm with rfl | hm
  ·exact hi
  ·exact (h2 m hm).1)
 rw [List.length_cons] at this
 exact wi_more hM (by omega) (wi_way hd l i j)
def Kx (X:Nat→Int) (i j:Nat):B→Prop
 | none=>True
 | some a=>2*(X i - X j)+1≤16*(a / 2)+a % 2
theorem kx_up {X:Nat→Int} {i j:Nat} {x y:B} (h:Kx X i j x) (k:le x y):Kx X i j y:=by
 cases y with
 | none=>trivial
 | some b=>cases x with
  | none=>exact k.elim
  | some a=>
   have h1:2*(X i - X j)+1≤16*(a / 2)+a % 2:=h
   have h2:a≤b:=k
   show 2*(X i - X j)+1≤16*(b / 2)+b % 2
   omega
section
variable {d:Tab} {M T:Int} {X:Nat→Int} {n:Nat} (hM:0≤M) (hd:∀ i j,Wi M 1 (d i j)) (ho:∀ i j,¬ j<n→d i j=none) (hs:∀ i j,i<n→j<n→Kx X i j (d i j))
 (hc:∀ i,i<n→X i≤T∨T+8*(M+1)<X i)
include hM hd hs
theorem no_edge {i j:Nat} (hi:i<n) (hj:j<n) (h:T+8*(M+1)<X i) (k:X j≤T):d i j=none:=by
 have h1:=hs i j hi hj
 have h2:=hd i j
 cases e:d i j with
 | none=>rfl
 | some a=>
  rw [e] at h1 h2
  have h3:2*(X i - X j)+1≤16*(a / 2)+a % 2:=h1
  have h4:a / 2≤M*1:=h2.2
  rw [Int.mul_one] at h4
  omega
theorem up_edge {i j:Nat} (hi:i<n) (hj:j<n) (h:X i≤T) (k:T+8*(M+1)<X j) {a:Int} (e:d i j=some a):2*(X i - X j)+16<16*(a / 2):=by
 have h2:=hd i j
 rw [e] at h2
 have h4:-(M*1)≤a / 2:=h2.1
 rw [Int.mul_one] at h4
 omega
include ho hc
theorem no_way (l:List Nat):∀ i j,i<n→j<n→T+8*(M+1)<X i→X j≤T→w d i l j=none:=by
 induction l with
 | nil=>intro i j hi hj h k;exact no_edge hM hd hs hi hj h k
 | cons m l ih=>
  intro i j hi hj h k
  show ad (d i m) (w d m l j)=none
  by_cases hm:m<n
  ·rcases hc m hm with c | c
   ·rw [no_edge hM hd hs hi hm h c,none_ad]
   ·rw [ih m j hm hj c k,ad_none]
  ·rw [ho i m hm,none_ad]
theorem any_way (l:List Nat):∀ i j,i<n→j<n→∀ a,w d i l j=some a→2*(X i - X j)≤16*(a / 2)∧(X i≤T→T+8*(M+1)<X j→2*(X i - X j)+16<16*(a / 2)):=by
 induction l with
 | nil=>
  intro i j hi hj a e
  have e':d i j=some a:=e
  have h1:=hs i j hi hj
  rw [e'] at h1
  have h3:2*(X i - X j)+1≤16*(a / 2)+a % 2:=h1
  exact ⟨by omega,fun h k=>up_edge hM hd hs hi hj h k e'⟩
 | cons m l ih=>
  intro i j hi hj a e
  have e':ad (d i m) (w d m l j)=some a:=e
  cases e1:d i m with
  | none=>rw [e1,none_ad] at e';cases e'
  | some b=>cases e2:w d m l j with
   | none=>rw [e2,ad_none] at e';cases e'
   | some c=>
    rw [e1,e2,ad_some] at e'
    have e3:=Option.some.inj e'
    have hm:m<n:=Decidable.byContradiction fun h=>by rw [ho i m h] at e1;cases e1
    obtain ⟨h1,h2⟩:=ih m j hm hj c e2
    have h3:=hs i m hi hm
    rw [e1] at h3
    have h4:2*(X i - X m)+1≤16*(b / 2)+b % 2:=h3
    refine ⟨by omega,fun h k=>?_⟩
    rcases hc m hm with c' | c'
    ·have:=h2 c' k;omega
    ·have:=up_edge hM hd hs hi hm h c' e1;omega
theorem no_gap (hT:0≤T) (hp:∀ u,u<n→(∀ v,v<u→F d n u v=none)→X u≤0∨∃ v,v<u∧∃ a,F d n v u=some a∧X u≤X v - 8*(a / 2)+8):∀ u,u<n→¬ T+8*(M+1)<X u:=by
 intro u
 induction u using Nat.strongRecOn with
 | _ u ih=>
  intro hu hup
  have hlow:∀ v,v<u→X v≤T:=fun v hv=>(hc v (by omega)).resolve_right (ih v hv (by omega))
  have hno:∀ v,v<u→F d n u v=none:=fun v hv=>by
   obtain ⟨l,hl,e⟩:=F_is d n u v
   rw [←e]
   exact no_way hM hd ho hs hc l u v hu (by omega) hup (hlow v hv)
  rcases hp u hu hno with h | ⟨v,hv,a,e,h⟩
  ·omega
  ·obtain ⟨l,hl,e'⟩:=F_is d n v u
   have:=(any_way hM hd ho hs hc l v u (by omega) hu a (e'.trans e)).2 (hlow v hv) hup
   omega
end
theorem upper {d:Tab} {M:Int} {X:Nat→Int} {n:Nat} (hn:n≤4) (hM:0≤M) (hd:∀ i j,Wi M 1 (d i j)) (ho:∀ i j,¬ j<n→d i j=none) (hs:∀ i j,i<n→j<n→Kx X i j (d i j))
  (hp:∀ u,u<n→(∀ v,v<u→F d n u v=none)→X u≤0∨∃ v,v<u∧∃ a,F d n v u=some a∧X u≤X v - 8*(a / 2)+8) (u:Nat) (hu:u<n):X u≤24*(M+1):=by
 refine Decidable.byContradiction fun hlt=>?_
 have key:∀ T,0≤T→T+8*(M+1)<X u→∃ i,i<n∧T<X i∧X i≤T+8*(M+1):=fun T hT hTu=>by
  refine Classical.byContradiction fun hno=>?_
  refine no_gap (T:=T) hM hd ho hs (fun i hi=>?_) hT hp u hu hTu
  by_cases h:X i≤T
  ·exact .inl h
  ·exact .inr (Decidable.byContradiction fun h'=>hno ⟨i,hi,by omega,by omega⟩)
 have h0:X 0≤0:=by
  rcases hp 0 (by omega) (fun v hv=>absurd hv (by omega)) with h | ⟨v,hv,_⟩
  ·exact h
  ·omega
 obtain ⟨a,ha,a1,a2⟩:=key 0 (by omega) (by omega)
 obtain ⟨b,hb,b1,b2⟩:=key (8*(M+1)) (by omega) (by omega)
 obtain ⟨c,hc,c1,c2⟩:=key (16*(M+1)) (by omega) (by omega)
 have a0:a≠0:=by rintro rfl;omega
 have b0:b≠0:=by rintro rfl;omega
 have c0:c≠0:=by rintro rfl;omega
 have u0:u≠0:=by rintro rfl;omega
 have ab:a≠b:=by rintro rfl;omega
 have ac:a≠c:=by rintro rfl;omega
 have au:a≠u:=by rintro rfl;omega
 have bc:b≠c:=by rintro rfl;omega
 have bu:b≠u:=by rintro rfl;omega
 have cu:c≠u:=by rintro rfl;omega
 omega
end Go.Proofs.YthmljpccbjolgaaGreatDoor.way
namespace Go.Proofs.YthmljpccbjolgaaGreatDoor.incl
open way
set_option linter.unusedVariables false
set_option linter.unusedSectionVars false
def mnE:Option Int→Option Int→Option Int
 | none,y=>y
 | some a,none=>some a
 | some a,some b=>some (min a b)
def cand (s x:Int):B→Option Int
 | none=>none
 | some a=>some (2*(s*x)+16*(a / 2)+a % 2)
def endC (s:Int) (X:Nat→Int) (t:Nat→B):Nat→Option Int
 | 0=>none
 | k+1=>mnE (endC s X t k) (cand s (X k) (t k))
theorem endC_same {s:Int} {X Y:Nat→Int} {t r:Nat→B}:∀ k,(∀ j,j<k→X j=Y j)→(∀ j,j<k→t j=r j)→endC s X t k=endC s Y r k:=by
 intro k
 induction k with
 | zero=>intro _ _;rfl
 | succ k ih=>
  intro h h'
  show mnE _ _=mnE _ _
  rw [ih (fun j hj=>h j (by omega)) (fun j hj=>h' j (by omega)),h k (by omega),h' k (by omega)]
theorem mnE_right (x:Option Int) (b:Int):∃ e,mnE x (some b)=some e∧e≤b:=by
 cases x with
 | none=>exact ⟨b,rfl,Int.le_refl _⟩
 | some a=>exact ⟨min a b,rfl,by omega⟩
theorem mnE_left (a:Int) (y:Option Int):∃ e,mnE (some a) y=some e∧e≤a:=by
 cases y with
 | none=>exact ⟨a,rfl,Int.le_refl _⟩
 | some b=>exact ⟨min a b,rfl,by omega⟩
theorem mnE_is {x y:Option Int} {e:Int} (h:mnE x y=some e):x=some e∨y=some e:=by
 cases x with
 | none=>exact .inr h
 | some a=>cases y with
  | none=>exact .inl h
  | some b=>
   have h':some (min a b)=some e:=h
   have:=Option.some.inj h'
   by_cases k:a≤b
   ·exact .inl (by congr 1;omega)
   ·exact .inr (by congr 1;omega)
theorem endC_le {s:Int} {X:Nat→Int} {t:Nat→B}:∀ k j,j<k→∀ a,t j=some a→∃ e,endC s X t k=some e∧e≤2*(s*X j)+16*(a / 2)+a % 2:=by
 intro k
 induction k with
 | zero=>intro j hj;omega
 | succ k ih=>
  intro j hj a ha
  show ∃ e,mnE _ _=some e∧_
  by_cases h:j=k
  ·subst h
   rw [ha]
   exact mnE_right _ _
  ·obtain ⟨e,he,hle⟩:=ih j (by omega) a ha
   rw [he]
   obtain ⟨e',he',hle'⟩:=mnE_left e (cand s (X k) (t k))
   exact ⟨e',he',Int.le_trans hle' hle⟩
theorem endC_is {s:Int} {X:Nat→Int} {t:Nat→B} {e:Int}:∀ k,endC s X t k=some e→∃ j,j<k∧∃ a,t j=some a∧e=2*(s*X j)+16*(a / 2)+a % 2:=by
 intro k
 induction k with
 | zero=>intro h;cases h
 | succ k ih=>
  intro h
  rcases mnE_is h with h | h
  ·obtain ⟨j,hj,r⟩:=ih h
   exact ⟨j,by omega,r⟩
  ·cases ht:t k with
   | none=>rw [ht] at h;cases h
   | some a=>
    rw [ht] at h
    exact ⟨k,by omega,a,ht,(Option.some.inj h).symm⟩
def btw (L H:Option Int):Int:=
 match L,H with
 | some l,some h=>if l % 2=1 then -(l / 2) else if h % 2=1 then h / 2 else (-(l / 2)+h / 2) / 2
 | some l,none=>if l % 2=1 then -(l / 2) else -(l / 2)+8
 | none,some h=>if h % 2=1 then h / 2 else h / 2 - 8
 | none,none=>0
def xs (D:Tab):Nat→List Int
 | 0=>[0]
 | k+1=>xs D k++[btw (endC (-1) (fun j=>(xs D k)[j]?.getD 0) (fun j=>D j (k+1)) (k+1)) (endC 1 (fun j=>(xs D k)[j]?.getD 0) (fun j=>D (k+1) j) (k+1))]
def px (D:Tab) (j:Nat):Int:=(xs D j)[j]?.getD 0
theorem xs_length (D:Tab) (k:Nat):(xs D k).length=k+1:=by
 induction k with
 | zero=>rfl
 | succ k ih=>show (xs D k++[_]).length=_;rw [List.length_append,ih];rfl
theorem xs_at (D:Tab):∀ k j,j≤k→(xs D k)[j]?.getD 0=px D j:=by
 intro k
 induction k with
 | zero=>
  intro j hj
  obtain rfl:j=0:=by omega
  rfl
 | succ k ih=>
  intro j hj
  by_cases h:j=k+1
  ·subst h;rfl
  ·rw [←ih j (by omega)]
   show (xs D k++[_])[j]?.getD 0=_
   rw [List.getElem?_append_left (by rw [xs_length];omega)]
def lowE (D:Tab) (i:Nat):Option Int:=endC (-1) (px D) (fun j=>D j i) i
def highE (D:Tab) (i:Nat):Option Int:=endC 1 (px D) (fun j=>D i j) i
theorem px_zero (D:Tab):px D 0=0:=rfl
theorem px_succ (D:Tab) (k:Nat):px D (k+1)=btw (lowE D (k+1)) (highE D (k+1)):=by
 show (xs D k++[_])[k+1]?.getD 0=_
 rw [List.getElem?_append_right (by rw [xs_length];omega),xs_length]
 simp only [Nat.sub_self,List.getElem?_cons_zero,Option.getD_some]
 unfold lowE highE
 rw [endC_same (k+1) (fun j hj=>xs_at D k j (by omega)) (fun j hj=>rfl),endC_same (k+1) (fun j hj=>xs_at D k j (by omega)) (fun j hj=>rfl)]
theorem px_pos (D:Tab) {k:Nat} (h:0<k):px D k=btw (lowE D k) (highE D k):=by
 obtain ⟨j,rfl⟩:∃ j,k=j+1:=⟨k - 1,by omega⟩
 exact px_succ D j
theorem btw_room {L H:Option Int} (h:∀ l e,L=some l→H=some e→2≤l+e) (p:∀ l e,L=some l→H=some e→l % 2=0→e % 2=0→(l / 2) % 2=0∧(e / 2) % 2=0):
  (∀ l,L=some l→1 - l≤2*btw L H)∧(∀ e,H=some e→2*btw L H+1≤e):=by
 cases L with
 | none=>cases H with
  | none=>exact ⟨fun l h=>(by cases h),fun l h=>(by cases h)⟩
  | some b=>
   refine ⟨fun l h=>(by cases h),fun e he=>?_⟩
   cases he
   dsimp only [btw]
   split<;>omega
 | some a=>cases H with
  | none=>
   refine ⟨fun l hl=>?_,fun l h=>(by cases h)⟩
   cases hl
   dsimp only [btw]
   split<;>omega
  | some b=>
   have h1:=h a b rfl rfl
   have h2:=p a b rfl rfl
   refine ⟨fun l hl=>?_,fun e he=>?_⟩
   ·cases hl
    dsimp only [btw]
    split
    ·omega
    ·split
     ·omega
     ·have:=h2 (by omega) (by omega);omega
   ·cases he
    dsimp only [btw]
    split
    ·omega
    ·split
     ·omega
     ·have:=h2 (by omega) (by omega);omega
theorem end_dv {s:Int} {X:Nat→Int} {t:Nat→B} {k:Nat} {q:Int} (hq:q=1∨q=2∨q=4) (hs:s=1∨s=-1) (h:∀ j,j<k→X j % (2*q)=0) {e:Int} (he:endC s X t k=some e):(e / 2) % (2*q)=0:=by
 obtain ⟨j,hj,a,ha,rfl⟩:=endC_is k he
 have:=h j hj
 rcases hs with rfl | rfl<;>rcases hq with rfl | rfl | rfl<;>omega
theorem btw_dv {L H:Option Int} {q:Int} (hq:q=1∨q=2∨q=4) (hl:∀ l,L=some l→(l / 2) % (2*q)=0) (hh:∀ e,H=some e→(e / 2) % (2*q)=0):btw L H % q=0:=by
 cases L with
 | none=>cases H with
  | none=>exact Int.zero_emod _
  | some b=>
   have:=hh b rfl
   dsimp only [btw]
   split<;>rcases hq with rfl | rfl | rfl<;>omega
 | some a=>cases H with
  | none=>
   have:=hl a rfl
   dsimp only [btw]
   split<;>rcases hq with rfl | rfl | rfl<;>omega
  | some b=>
   have h1:=hl a rfl
   have h2:=hh b rfl
   dsimp only [btw]
   split
   ·rcases hq with rfl | rfl | rfl<;>omega
   ·split<;>rcases hq with rfl | rfl | rfl<;>omega
theorem px_dv (D:Tab):px D 0 % 8=0∧px D 1 % 4=0∧px D 2 % 2=0:=by
 have h0:px D 0 % 8=0:=rfl
 have hz:∀ j,j<1→px D j % 8=0:=fun j hj=>by
  obtain rfl:j=0:=by omega
  exact h0
 have h1:px D 1 % 4=0:=by
  rw [px_pos D (by decide)]
  exact btw_dv (q:=4) (by decide) (fun l hl=>end_dv (q:=4) (by decide) (by decide) hz hl) (fun l hl=>end_dv (q:=4) (by decide) (by decide) hz hl)
 have h2:∀ j,j<2→px D j % 4=0:=fun j hj=>by
  have:j=0∨j=1:=by omega
  rcases this with rfl | rfl
  ·omega
  ·exact h1
 refine ⟨h0,h1,?_⟩
 rw [px_pos D (by decide)]
 exact btw_dv (q:=2) (by decide) (fun l hl=>end_dv (q:=2) (by decide) (by decide) h2 hl) (fun l hl=>end_dv (q:=2) (by decide) (by decide) h2 hl)
theorem px_even (D:Tab) {k:Nat} (hk:k<3):px D k % 2=0:=by
 obtain ⟨h0,h1,h2⟩:=px_dv D
 have:k=0∨k=1∨k=2:=by omega
 rcases this with rfl | rfl | rfl<;>omega
section
variable {D:Tab} {n:Nat} (hn:n≤4) (ht:Tri D n) (hp:∀ i,i<n→D i i=one)
include hn ht
theorem room {i:Nat} (hi:i<n) (h:∀ a b,a<i→b<i→Kx (px D) a b (D a b)):∀ l e,lowE D i=some l→highE D i=some e→2≤l+e:=by
 intro l e hl he
 obtain ⟨j,hj,a,ha,rfl⟩:=endC_is i hl
 obtain ⟨k,hk,b,hb,rfl⟩:=endC_is i he
 have t:=ht i hi j k
 have ha':D j i=some a:=ha
 have hb':D i k=some b:=hb
 rw [ha',hb',ad_some] at t
 have K:=h j k hj hk
 cases e:D j k with
 | none=>rw [e] at t;exact t.elim
 | some c=>
  rw [e] at t K
  have t':c≤2*(a / 2+b / 2)+min (a % 2) (b % 2):=t
  have K':2*(px D j - px D k)+1≤16*(c / 2)+c % 2:=K
  omega
include hp
theorem px_kept:∀ i,i≤n→∀ a b,a<i→b<i→Kx (px D) a b (D a b):=by
 intro i
 induction i with
 | zero=>intro _ a b ha;omega
 | succ i ih=>
  intro hi a b ha hb
  have ih':=ih (by omega)
  have hown:Kx (px D) i i (D i i):=by
   rw [hp i (by omega)]
   show 2*(px D i - px D i)+1≤16*((1:Int) / 2)+1 % 2
   omega
  by_cases h0:i=0
  ·subst h0
   obtain rfl:a=0:=by omega
   obtain rfl:b=0:=by omega
   exact hown
  ·have R:=btw_room (room hn ht (by omega) ih') (fun l e hl he h1 h2=>by
    have ev:∀ j,j<i→px D j % (2*1)=0:=fun j hj=>px_even D (by omega)
    exact ⟨end_dv (q:=1) (by decide) (by decide) ev hl,end_dv (q:=1) (by decide) (by decide) ev he⟩)
   rw [←px_pos D (by omega)] at R
   by_cases ea:a=i
   ·by_cases eb:b=i
    ·subst ea;subst eb;exact hown
    ·subst ea
     cases e:D a b with
     | none=>trivial
     | some c=>
      obtain ⟨y,hy,hle⟩:=endC_le (s:=1) (X:=px D) (t:=fun j=>D a j) a b (by omega) c e
      have:=R.2 y hy
      show 2*(px D a - px D b)+1≤16*(c / 2)+c % 2
      omega
   ·by_cases eb:b=i
    ·subst eb
     cases e:D a b with
     | none=>trivial
     | some c=>
      obtain ⟨y,hy,hle⟩:=endC_le (s:=-1) (X:=px D) (t:=fun j=>D j b) b a (by omega) c e
      have:=R.1 y hy
      show 2*(px D a - px D b)+1≤16*(c / 2)+c % 2
      omega
    ·exact ih' a b (by omega) (by omega)
end
theorem px_up {D:Tab} {u:Nat} (h:∀ v,v<u→D u v=none):px D u≤0∨∃ v,v<u∧∃ a,D v u=some a∧px D u≤px D v - 8*(a / 2)+8:=by
 by_cases h0:u=0
 ·subst h0;exact .inl (Int.le_refl _)
 ·have hH:highE D u=none:=by
   cases e:highE D u with
   | none=>rfl
   | some y=>
    obtain ⟨j,hj,a,ha,_⟩:=endC_is u e
    have ha':D u j=some a:=ha
    rw [h j hj] at ha';cases ha'
  rw [px_pos D (by omega),hH]
  cases e:lowE D u with
  | none=>exact .inl (Int.le_refl _)
  | some l=>
   obtain ⟨j,hj,a,ha,rfl⟩:=endC_is u e
   refine .inr ⟨j,hj,a,ha,?_⟩
   dsimp only [btw]
   split<;>omega
theorem px_down {D:Tab} {u:Nat} (h:∀ v,v<u→D v u=none):0≤px D u∨∃ v,v<u∧∃ a,D u v=some a∧px D v+8*(a / 2) - 8≤px D u:=by
 by_cases h0:u=0
 ·subst h0;exact .inl (Int.le_refl _)
 ·have hH:lowE D u=none:=by
   cases e:lowE D u with
   | none=>rfl
   | some y=>
    obtain ⟨j,hj,a,ha,_⟩:=endC_is u e
    have ha':D j u=some a:=ha
    rw [h j hj] at ha';cases ha'
  rw [px_pos D (by omega),hH]
  cases e:highE D u with
  | none=>exact .inl (Int.le_refl _)
  | some l=>
   obtain ⟨j,hj,a,ha,rfl⟩:=endC_is u e
   refine .inr ⟨j,hj,a,ha,?_⟩
   dsimp only [btw]
   split<;>omega
theorem px_within {d:Tab} {M:Int} {n:Nat} (hn:n≤4) (hM:0≤M) (hd:∀ i j,Wi M 1 (d i j)) (h1:∀ i j,¬ i<n→d i j=none) (h2:∀ i j,¬ j<n→d i j=none) (hg:way.Good d n) (hone:∀ i,i<n→F d n i i=one) {u:Nat} (hu:u<n):
  -(24*(M+1))≤px (F d n) u∧px (F d n) u≤24*(M+1):=by
 have hk:=px_kept hn (good_tri hg) hone n (Nat.le_refl _)
 have hs:∀ i j,i<n→j<n→Kx (px (F d n)) i j (d i j):=fun i j hi hj=>kx_up (hk i j hi hj) (F_le d n i j)
 refine ⟨?_,upper hn hM hd h2 hs (fun u hu h=>px_up h) u hu⟩
 have:=upper (d:=fun i j=>d j i) (X:=fun i=>-px (F d n) i) hn hM (fun i j=>hd j i) (fun i j h=>h1 j i h) (fun i j hi hj=>?_) (fun u hu h=>?_) u hu
 ·omega
 ·have:=hs j i hj hi
  cases e:d j i with
  | none=>trivial
  | some a=>
   rw [e] at this
   have k:2*(px (F d n) j - px (F d n) i)+1≤16*(a / 2)+a % 2:=this
   show 2*(-px (F d n) i - -px (F d n) j)+1≤16*(a / 2)+a % 2
   omega
 ·rcases px_down (D:=F d n) (u:=u) (fun v hv=>by rw [←F_turn];exact h v hv) with k | ⟨v,hv,a,ha,k⟩
  ·exact .inl (by omega)
  ·exact .inr ⟨v,hv,a,by rw [F_turn];exact ha,by omega⟩
end Go.Proofs.YthmljpccbjolgaaGreatDoor.incl
namespace Go.Proofs.YthmljpccbjolgaaGreatDoor.incl
open Go.ChangeShapes Go.WideShapes Go.ChangeAt Go.RowKit num rat
open bound hiding up
set_option linter.unusedVariables false
set_option linter.unusedSimpArgs false
def p8 (X:Int):Int:=lowP X 8
def q8 (X:Int):Int:=lowQ X 8
def Near (X:Int):Prop:=(-18446744073709551614≤X∧X≤18446744073709551614)∧(X % 2=0∨(-9223372036854775807≤X∧X≤9223372036854775807))
theorem cross8 (X:Int):p8 X*8=X*q8 X:=(low_parts X 8 (by decide)).2.2.1
theorem q8_in (X:Int):1≤q8 X∧q8 X≤8:=lowQ_in X 8 (by decide)
theorem q8_even {X:Int} (h:X % 2=0):q8 X≤4:=by
 have h1:=(low_parts X 8 (by decide)).2.1
 have h2:(2:Int) ∣ gcdI X 8:=Int.dvd_coe_gcd (Int.dvd_of_emod_eq_zero h) (by decide)
 have h3:=gcd_pos X 8 (by decide)
 have h4:=Int.le_of_dvd (by omega) h2
 have h5:=q8_in X
 have h6:q8 X*gcdI X 8=8:=h1
 have h7:q8 X*2≤q8 X*gcdI X 8:=Int.mul_le_mul_of_nonneg_left h4 (by omega)
 omega
theorem q8_one (X:Int):q8 X=1∨q8 X=2∨q8 X=3∨q8 X=4∨q8 X=5∨q8 X=6∨q8 X=7∨q8 X=8:=by
 have:=q8_in X
 omega
theorem near_fits {X:Int} (h:Near X):(-9223372036854775808≤p8 X∧p8 X≤9223372036854775807)∧-9223372036854775808≤q8 X∧q8 X≤9223372036854775807:=by
 have h1:=cross8 X
 have h2:=q8_in X
 obtain ⟨⟨a1,a2⟩,h3 | ⟨b1,b2⟩⟩:=h
 ·have h4:=q8_even h3
  rcases q8_one X with e | e | e | e | e | e | e | e<;>rw [e] at h1 h4 ⊢<;>omega
 ·rcases q8_one X with e | e | e | e | e | e | e | e<;>rw [e] at h1 ⊢<;>omega
theorem near_may {X:Int} (h:Near X):MayR (p8 X) (q8 X):=by
 have h1:=cross8 X
 have h2:=q8_in X
 have h3:Int.gcd (p8 X) (q8 X)=1:=(low_parts X 8 (by decide)).2.2.2
 obtain ⟨⟨a1,a2⟩,_⟩:=h
 refine ⟨h2.1,by omega,?_,?_,h3⟩
 ·rcases q8_one X with e | e | e | e | e | e | e | e<;>rw [e] at h1 ⊢<;>omega
 ·rcases q8_one X with e | e | e | e | e | e | e | e<;>rw [e] at h1 ⊢<;>omega
theorem lowest8 {X:Int} (h:Near X):lowN X 8=p8 X∧lowD X 8=q8 X∧rat.lowE X 8=0:=low_yes ⟨(near_fits h).1.1,(near_fits h).1.2,near_may h⟩
theorem eight_zero:p8 0=0∧q8 0=1:=by decide+kernel
theorem add8 {X n:Int} (hX:Near X) (hn:May n) (h:Near (X+8*n)):partN 1 (p8 X) (q8 X) n 1=p8 (X+8*n)∧partD 1 (p8 X) (q8 X) n 1=q8 (X+8*n)∧partE 1 (p8 X) (q8 X) n 1=0:=by
 have hb:Both (p8 X) (q8 X) n 1:=⟨near_may hX,whole_may hn⟩
 unfold partN partD partE
 rw [if_pos hb,if_pos hb,if_pos hb]
 have h1:=cross8 X
 have h2:=(q8_in X).1
 have e:=lowOk_same (V:=p8 X*1+n*q8 X) (D:=q8 X*1*1) (V':=X+8*n) (D':=8) (by omega) (by decide) (by
  rw [Int.mul_one,Int.mul_one,Int.mul_one,Int.add_mul,Int.add_mul,h1]
  congr 1
  rw [Int.mul_comm (n*q8 X) 8,←Int.mul_assoc])
 rw [e.1,e.2.1,e.2.2]
 exact lowest8 h
theorem mid8 {X Y:Int} (hX:Near X) (hY:Near Y) (he:(X+Y) % 2=0) (h:Near ((X+Y) / 2)):partN 2 (p8 X) (q8 X) (p8 Y) (q8 Y)=p8 ((X+Y) / 2)∧partD 2 (p8 X) (q8 X) (p8 Y) (q8 Y)=q8 ((X+Y) / 2)∧partE 2 (p8 X) (q8 X) (p8 Y) (q8 Y)=0:=by
 have hb:Both (p8 X) (q8 X) (p8 Y) (q8 Y):=⟨near_may hX,near_may hY⟩
 unfold partN partD partE
 rw [if_pos hb,if_pos hb,if_pos hb]
 have h1:=cross8 X
 have h2:=cross8 Y
 have h3:=dens_pos hb (k:=2) (by decide)
 have e:=lowOk_same (V:=p8 X*q8 Y+p8 Y*q8 X) (D:=q8 X*q8 Y*2) (V':=(X+Y) / 2) (D':=8) h3 (by decide) (by
  generalize p8 X=p at*
  generalize q8 X=q at*
  generalize p8 Y=r at*
  generalize q8 Y=s at*
  have e1:(p*s+r*q)*8=(p*8)*s+(r*8)*q:=by
   rw [Int.add_mul]
   congr 1<;>ac_rfl
  rw [e1,h1,h2]
  have e2:X*q*s+Y*s*q=(X+Y)*(q*s):=by
   rw [Int.add_mul]
   congr 1<;>ac_rfl
  rw [e2]
  obtain ⟨m,hm⟩:∃ m,X+Y=2*m:=⟨(X+Y) / 2,by omega⟩
  have e3:(X+Y) / 2=m:=by omega
  rw [e3,hm]
  ac_rfl)
 rw [e.1,e.2.1,e.2.2]
 exact lowest8 h
theorem cmp8 {X Y:Int} (hX:Near X) (hY:Near Y):cmpV (p8 X) (q8 X) (p8 Y) (q8 Y)=cmp0 X Y∧cmpE (p8 X) (q8 X) (p8 Y) (q8 Y)=0:=by
 have hb:Both (p8 X) (q8 X) (p8 Y) (q8 Y):=⟨near_may hX,near_may hY⟩
 obtain ⟨e1,e2⟩:=cmpV_is hb
 refine ⟨e1.trans ?_,e2⟩
 have h1:=cross8 X
 have h2:=cross8 Y
 have q1:=(q8_in X).1
 have q2:=(q8_in Y).1
 refine cmp0_scale (k:=8) (j:=q8 X*q8 Y) (by decide) (Int.mul_pos (by omega) (by omega)) ?_
 generalize p8 X=p at*
 generalize q8 X=q at*
 generalize p8 Y=r at*
 generalize q8 Y=s at*
 have e3:8*(p*s)=q*s*X:=by
  rw [show 8*(p*s)=p*8*s by ac_rfl,h1];ac_rfl
 have e4:8*(r*q)=q*s*Y:=by
  rw [show 8*(r*q)=r*8*q by ac_rfl,h2];ac_rfl
 rw [e3,e4]
def endV (s:Int):Option Int→Value
 | none=>.agg #[.bool false,.int .i64 0,.int .i64 0,.bool false]
 | some e=>.agg #[.bool true,.int .i64 (p8 (s*(e / 2))),.int .i64 (q8 (s*(e / 2))),.bool (decide (e % 2=0))]
theorem whole_is (n:Int) (w:World):Calls Tryz.prog 176 #[.int .i64 n] w fun e w'=>e=.returned (.agg #[.int .i64 (n),.int .i64 (1)])∧Below w.heap.size w w':=by
 go_enter Tryz.func176,Tryz.ntmps176
 go_wp2_with fail
 exact bodyPost_ret (v:=.agg #[.int .i64 (n),.int .i64 (1)]) (by simp [results,Tryz.results176,go_sem]) rfl ⟨rfl,up1 _ _⟩
set_option maxHeartbeats 1000000 in
theorem plus_k (a b n P Q E : Int) (w : World) (a1 : -9223372036854775808 ≤ a) (a2 : a ≤ 9223372036854775807) (n1 : -9223372036854775808 ≤ n) (n2 : n ≤ 9223372036854775807) (eP : partN 1 a b n 1 = P) (eQ : partD 1 a b n 1 = Q) (eE : partE 1 a b n 1 = E) :
    Calls Tryz.prog 215 #[.agg #[.int .i64 (a), .int .i64 (b)], .int .i64 n] w fun e w' => e = .returned (.agg #[.int .i64 (P), .int .i64 (Q)]) ∧ Below w.heap.size w w' := by
  have HP := Lib.hid eP
  have HQ := Lib.hid eQ
  have HE := Lib.hid eE
  clear eP eQ eE
  have D0 := lies.on_alloc (lies.made w 45 #[.int .i64 a, .int .i64 b]) (.cells #[.int .i64 0, .int .i64 0] 45)
  have D1 := lies.made_at (w.alloc (.cells #[.int .i64 a, .int .i64 b] 45)) 45 #[.int .i64 0, .int .i64 0] (w.heap.size + 1) (World.size_alloc _ _)
  have DB := bound.up2 w (.cells #[.int .i64 a, .int .i64 b] 45) (.cells #[.int .i64 0, .int .i64 0] 45)
  go_enter Tryz.func215, Tryz.ntmps215
  go_upto_region 1 with fail
  generalize (w.alloc (.cells #[.int .i64 a, .int .i64 b] 45)).alloc (.cells #[.int .i64 0, .int .i64 0] 45) = w0 at D0 D1 DB ⊢
  go_cut [5] (fun s5 wx => ∃ g : Nat, s5 = .pointer (some ⟨g, 0, none⟩) ∧ lies.Lies wx g 45 #[.int .i64 P, .int .i64 Q] ∧ lies.Lies wx (w.heap.size + 1) 45 #[.int .i64 0, .int .i64 0] ∧ Below w.heap.size w wx)
  case first =>
    have S0 : ∀ W, Below w0.heap.size w0 W → W.cell? ⟨w.heap.size, 0, none⟩ = some (.int .i64 a) ∧ W.cell? ⟨w.heap.size, 1, none⟩ = some (.int .i64 b) := fun W hW => lies.pair (lies.on_call D0 hW)
    refine wp_region_held_drew (S := Below w0.heap.size w0) (by kernel_rfl) (dbm.drawn1 (Below.refl _ _)) (fun hHeld => ?_)
    refine tk 0 (v := ?_) rfl hHeld ?_ ?_
    rotate_left
    · intro w hSw; obtain ⟨s0, s1⟩ := S0 _ hSw; go_simp; try with_reducible rfl
    try simp only [Act.put, sA, sB, sC, sD, sE, sF]
    refine tk 1 (v := ?_) rfl hHeld ?_ ?_
    rotate_left
    · intro w hSw; obtain ⟨s0, s1⟩ := S0 _ hSw; go_simp; try with_reducible rfl
    try simp only [Act.put, sA, sB, sC, sD, sE, sF]
    refine wpAnyH_ready (rs := [2, 7]) (by kernel_rfl) (by simp) (AllReadyH.cons rfl (fun K hK => ?_) (AllReadyH.cons rfl (fun K hK => ?_) AllReadyH.nil))
    · go_simp
      refine (whole_is n _).mono ?_
      rintro e u1 ⟨rfl, hB⟩
      have B1 := hHeld.trans (hB.mono hHeld.size)
      refine hK.out _ _ B1 (fun hNew => ?_)
      clear hB
      clear hHeld hK K
      have hHeld := hNew
      clear hNew
      try simp only [Act.put, sA, sB, sC, sD, sE, sF]
      refine wpAnyH_ready (rs := [3, 7]) (by kernel_rfl) (by simp) (AllReadyH.cons rfl (fun K hK => ?_) (AllReadyH.cons rfl (fun K hK => ?_) AllReadyH.nil))
      · go_simp
        refine (add3_k a b n 1 P Q E _ a1 a2 n1 n2 HP.out HQ.out HE.out).mono ?_
        rintro e u2 ⟨rfl, hB⟩
        have B2 := hHeld.trans (hB.mono hHeld.size)
        refine hK.out _ _ B2 (fun hNew => ?_)
        clear hB
        clear hHeld hK K
        have hHeld := hNew
        clear hNew
        try simp only [Act.put, sA, sB, sC, sD, sE, sF]
        refine tk 4 (v := ?_) rfl hHeld ?_ ?_
        rotate_left
        · intro w hSw; skip; go_simp; try with_reducible rfl
        try simp only [Act.put, sA, sB, sC, sD, sE, sF]
        refine tk 5 (v := ?_) rfl hHeld ?_ ?_
        rotate_left
        · intro w hSw; skip; go_simp; try with_reducible rfl
        try simp only [Act.put, sA, sB, sC, sD, sE, sF]
        refine tk 6 (v := ?_) rfl hHeld ?_ ?_
        rotate_left
        · intro w hSw; skip; go_simp; try with_reducible rfl
        try simp only [Act.put, sA, sB, sC, sD, sE, sF]
        refine wpAnyH_ready (rs := [7]) (by kernel_rfl) (by simp) (AllReadyH.cons rfl (fun K hK => ?_) AllReadyH.nil)
        go_simp
        have G8 := lies.made u2 45 #[.int .i64 0, .int .i64 0]
        have hg := hHeld.size
        refine hK.out _ _ (hHeld.alloc hHeld.size _) (fun hNew => ?_)
        clear hHeld hK K
        have hHeld := hNew
        clear hNew
        try simp only [Act.put, sA, sB, sC, sD, sE, sF]
        generalize u2.heap.size = g at G8 hg ⊢
        generalize u2.alloc (.cells #[.int .i64 0, .int .i64 0] 45) = w8 at G8 hHeld ⊢
        have R8 := lies.on_call D1 hHeld
        have K8 := DB.trans (hHeld.mono DB.size)
        have hgw := lies.lt D1
        obtain ⟨x0, x1, x2, x3, x4⟩ := lies.two G8
        refine wpAnyH_ready (rs := [8]) (by kernel_rfl) (by simp) (AllReadyH.cons rfl (fun K hK => ?_) AllReadyH.nil)
        go_simp
        have G9 := lies.on_put (lies.on_put G8 0 (.int .i64 P)) 1 (.int .i64 Q)
        have R9 := lies.on_far (lies.on_far R8 (b := g) 0 (by omega) (.int .i64 P)) (b := g) 1 (by omega) (.int .i64 Q)
        have K9 := (K8.setCell (p := ⟨g, 0, none⟩) (by dsimp only; omega) (.int .i64 P)).setCell (p := ⟨g, 1, none⟩) (by simp; omega) (.int .i64 Q)
        refine hK.out _ _ ((hHeld.setCell (p := ⟨g, 0, none⟩) hg (.int .i64 P)).setCell (p := ⟨g, 1, none⟩) hg (.int .i64 Q)) (fun hNew => ?_)
        clear x0 x1 x2 x3 x4
        clear hHeld hK K
        have hHeld := hNew
        clear hNew
        try simp only [Act.put, sA, sB, sC, sD, sE, sF]
        refine tk 9 (v := ?_) rfl hHeld ?_ ?_
        rotate_left
        · intro w hSw; skip; go_simp; try with_reducible rfl
        try simp only [Act.put, sA, sB, sC, sD, sE, sF]
        refine wpAnyH_done (by kernel_rfl) ?_ _
        go_wp2_with fail
        go_meet
        exact ⟨_, rfl, G9, R9, K9⟩
      · go_simp
        have G8 := lies.made u1 45 #[.int .i64 0, .int .i64 0]
        have hg := hHeld.size
        refine hK.out _ _ (hHeld.alloc hHeld.size _) (fun hNew => ?_)
        clear hHeld hK K
        have hHeld := hNew
        clear hNew
        try simp only [Act.put, sA, sB, sC, sD, sE, sF]
        generalize u1.heap.size = g at G8 hg ⊢
        generalize u1.alloc (.cells #[.int .i64 0, .int .i64 0] 45) = w8 at G8 hHeld ⊢
        refine wpAnyH_ready (rs := [3]) (by kernel_rfl) (by simp) (AllReadyH.cons rfl (fun K hK => ?_) AllReadyH.nil)
        go_simp
        refine (add3_k a b n 1 P Q E _ a1 a2 n1 n2 HP.out HQ.out HE.out).mono ?_
        rintro e u2 ⟨rfl, hB⟩
        have B2 := hHeld.trans (hB.mono hHeld.size)
        replace G8 := lies.on_call G8 hB
        refine hK.out _ _ B2 (fun hNew => ?_)
        clear hB
        clear hHeld hK K
        have hHeld := hNew
        clear hNew
        try simp only [Act.put, sA, sB, sC, sD, sE, sF]
        refine tk 4 (v := ?_) rfl hHeld ?_ ?_
        rotate_left
        · intro w hSw; skip; go_simp; try with_reducible rfl
        try simp only [Act.put, sA, sB, sC, sD, sE, sF]
        refine tk 5 (v := ?_) rfl hHeld ?_ ?_
        rotate_left
        · intro w hSw; skip; go_simp; try with_reducible rfl
        try simp only [Act.put, sA, sB, sC, sD, sE, sF]
        refine tk 6 (v := ?_) rfl hHeld ?_ ?_
        rotate_left
        · intro w hSw; skip; go_simp; try with_reducible rfl
        try simp only [Act.put, sA, sB, sC, sD, sE, sF]
        have R8 := lies.on_call D1 hHeld
        have K8 := DB.trans (hHeld.mono DB.size)
        have hgw := lies.lt D1
        obtain ⟨x0, x1, x2, x3, x4⟩ := lies.two G8
        refine wpAnyH_ready (rs := [8]) (by kernel_rfl) (by simp) (AllReadyH.cons rfl (fun K hK => ?_) AllReadyH.nil)
        go_simp
        have G9 := lies.on_put (lies.on_put G8 0 (.int .i64 P)) 1 (.int .i64 Q)
        have R9 := lies.on_far (lies.on_far R8 (b := g) 0 (by omega) (.int .i64 P)) (b := g) 1 (by omega) (.int .i64 Q)
        have K9 := (K8.setCell (p := ⟨g, 0, none⟩) (by dsimp only; omega) (.int .i64 P)).setCell (p := ⟨g, 1, none⟩) (by simp; omega) (.int .i64 Q)
        refine hK.out _ _ ((hHeld.setCell (p := ⟨g, 0, none⟩) hg (.int .i64 P)).setCell (p := ⟨g, 1, none⟩) hg (.int .i64 Q)) (fun hNew => ?_)
        clear x0 x1 x2 x3 x4
        clear hHeld hK K
        have hHeld := hNew
        clear hNew
        try simp only [Act.put, sA, sB, sC, sD, sE, sF]
        refine tk 9 (v := ?_) rfl hHeld ?_ ?_
        rotate_left
        · intro w hSw; skip; go_simp; try with_reducible rfl
        try simp only [Act.put, sA, sB, sC, sD, sE, sF]
        refine wpAnyH_done (by kernel_rfl) ?_ _
        go_wp2_with fail
        go_meet
        exact ⟨_, rfl, G9, R9, K9⟩
    · go_simp
      have G8 : lies.Lies (w0.alloc (.cells #[.int .i64 0, .int .i64 0] 45)).drew w0.heap.size 45 #[.int .i64 0, .int .i64 0] := lies.made w0 45 #[.int .i64 0, .int .i64 0]
      have hg := Nat.le_refl w0.heap.size
      have hN : Below w0.heap.size w0 (w0.alloc (.cells #[.int .i64 0, .int .i64 0] 45)).drew := lies.frame_drew (bound.up1 w0 (.cells #[.int .i64 0, .int .i64 0] 45))
      refine hK.out _ _ hN (fun hNew => ?_)
      clear hHeld hK K
      have hHeld := hNew
      clear hNew
      try simp only [Act.put, sA, sB, sC, sD, sE, sF]
      generalize hgg : w0.heap.size = g at G8 hg ⊢
      generalize (w0.alloc (.cells #[.int .i64 0, .int .i64 0] 45)).drew = u1 at G8 hHeld hN ⊢
      subst hgg
      refine wpAnyH_ready (rs := [2]) (by kernel_rfl) (by simp) (AllReadyH.cons rfl (fun K hK => ?_) AllReadyH.nil)
      go_simp
      refine (whole_is n _).mono ?_
      rintro e u2 ⟨rfl, hB⟩
      have B1 := hHeld.trans (hB.mono hHeld.size)
      replace G8 := lies.on_call G8 hB
      refine hK.out _ _ B1 (fun hNew => ?_)
      clear hB
      clear hHeld hK K
      have hHeld := hNew
      clear hNew
      try simp only [Act.put, sA, sB, sC, sD, sE, sF]
      refine wpAnyH_ready (rs := [3]) (by kernel_rfl) (by simp) (AllReadyH.cons rfl (fun K hK => ?_) AllReadyH.nil)
      go_simp
      refine (add3_k a b n 1 P Q E _ a1 a2 n1 n2 HP.out HQ.out HE.out).mono ?_
      rintro e u3 ⟨rfl, hB⟩
      have B2 := hHeld.trans (hB.mono hHeld.size)
      replace G8 := lies.on_call G8 hB
      refine hK.out _ _ B2 (fun hNew => ?_)
      clear hB
      clear hHeld hK K
      have hHeld := hNew
      clear hNew
      try simp only [Act.put, sA, sB, sC, sD, sE, sF]
      refine tk 4 (v := ?_) rfl hHeld ?_ ?_
      rotate_left
      · intro w hSw; skip; go_simp; try with_reducible rfl
      try simp only [Act.put, sA, sB, sC, sD, sE, sF]
      refine tk 5 (v := ?_) rfl hHeld ?_ ?_
      rotate_left
      · intro w hSw; skip; go_simp; try with_reducible rfl
      try simp only [Act.put, sA, sB, sC, sD, sE, sF]
      refine tk 6 (v := ?_) rfl hHeld ?_ ?_
      rotate_left
      · intro w hSw; skip; go_simp; try with_reducible rfl
      try simp only [Act.put, sA, sB, sC, sD, sE, sF]
      generalize hgg : w0.heap.size = g at G8 hg ⊢
      subst hgg
      have R8 := lies.on_call D1 hHeld
      have K8 := DB.trans (hHeld.mono DB.size)
      have hgw := lies.lt D1
      obtain ⟨x0, x1, x2, x3, x4⟩ := lies.two G8
      refine wpAnyH_ready (rs := [8]) (by kernel_rfl) (by simp) (AllReadyH.cons rfl (fun K hK => ?_) AllReadyH.nil)
      go_simp
      have G9 := lies.on_put (lies.on_put G8 0 (.int .i64 P)) 1 (.int .i64 Q)
      have R9 := lies.on_far (lies.on_far R8 (b := w0.heap.size) 0 (by omega) (.int .i64 P)) (b := w0.heap.size) 1 (by omega) (.int .i64 Q)
      have K9 := (K8.setCell (p := ⟨w0.heap.size, 0, none⟩) (by dsimp only; omega) (.int .i64 P)).setCell (p := ⟨w0.heap.size, 1, none⟩) (by simp; omega) (.int .i64 Q)
      refine hK.out _ _ ((hHeld.setCell (p := ⟨w0.heap.size, 0, none⟩) hg (.int .i64 P)).setCell (p := ⟨w0.heap.size, 1, none⟩) hg (.int .i64 Q)) (fun hNew => ?_)
      clear x0 x1 x2 x3 x4
      clear hHeld hK K
      have hHeld := hNew
      clear hNew
      try simp only [Act.put, sA, sB, sC, sD, sE, sF]
      refine tk 9 (v := ?_) rfl hHeld ?_ ?_
      rotate_left
      · intro w hSw; skip; go_simp; try with_reducible rfl
      try simp only [Act.put, sA, sB, sC, sD, sE, sF]
      refine wpAnyH_done (by kernel_rfl) ?_ _
      go_wp2_with fail
      go_meet
      exact ⟨_, rfl, G9, R9, K9⟩
  case rest =>
    obtain ⟨g, rfl, hg, hr, hB⟩ := hcut
    obtain ⟨x0, x1, x2, x3, x4⟩ := lies.two hg
    obtain ⟨y0, y1, y2, y3, y4⟩ := lies.two hr
    go_wp2_with fail
    exact bodyPost_ret (v := .agg #[.int .i64 (P), .int .i64 (Q)]) (by simp [results, Tryz.results215, go_sem, y0, y1]) rfl ⟨rfl, (hB.setCell (by simp) _).setCell (by simp) _⟩
theorem plus_is {X n:Int} (w:World) (hX:Near X) (hn:May n) (h:Near (X+8*n)):
  Calls Tryz.prog 215 #[.agg #[.int .i64 (p8 X),.int .i64 (q8 X)],.int .i64 n] w fun e w'=>e=.returned (.agg #[.int .i64 (p8 (X+8*n)),.int .i64 (q8 (X+8*n))])∧Below w.heap.size w w':=by
 obtain ⟨e1,e2,e3⟩:=add8 hX hn h
 have:=near_fits hX
 exact plus_k (p8 X) (q8 X) n _ _ _ w this.1.1 this.1.2 (by have:=hn.1;omega) (by have:=hn.2;omega) e1 e2 e3
/-! the lesser of two ends -/
theorem four {W:World} {g:Nat} {t:TypeId} {a b c d:Value} (h:lies.Lies W g t #[a,b,c,d]):W.cell? ⟨g,0,none⟩=some a∧W.cell? ⟨g,1,none⟩=some b∧W.cell? ⟨g,2,none⟩=some c∧W.cell? ⟨g,3,none⟩=some d∧g<W.heap.size:=
 ⟨lies.cell h 0,lies.cell h 1,lies.cell h 2,lies.cell h 3,lies.lt h⟩
theorem fourF {W:World} {g:Nat} {t:TypeId} {a b c d:Value} (h:lies.Lies W g t #[a,b,c,d]):W.frozen? ⟨g,0,none⟩=false∧W.frozen? ⟨g,1,none⟩=false∧W.frozen? ⟨g,2,none⟩=false∧W.frozen? ⟨g,3,none⟩=false:=
 ⟨lies.free h 0,lies.free h 1,lies.free h 2,lies.free h 3⟩
theorem set4 {n:Nat} {w W:World} (h:Below n w W) {g:Nat} (hg:n≤g) (a b c d:Value):Below n w ((((W.setCell ⟨g,0,none⟩ a).setCell ⟨g,1,none⟩ b).setCell ⟨g,2,none⟩ c).setCell ⟨g,3,none⟩ d):=
 (((h.setCell (p:=⟨g,0,none⟩) hg a).setCell (p:=⟨g,1,none⟩) hg b).setCell (p:=⟨g,2,none⟩) hg c).setCell (p:=⟨g,3,none⟩) hg d
theorem or_no (a b c d:Int) (s:Bool) (u t:Bool) (k:Int) (w:World):
  Calls Tryz.prog 214 #[.agg #[.bool false,.int .i64 a,.int .i64 b,.bool s],.agg #[.bool u,.int .i64 c,.int .i64 d,.bool t],.int .i64 k] w fun e w'=>e=.returned (.agg #[.bool u,.int .i64 c,.int .i64 d,.bool t])∧Below w.heap.size w w':=by
 go_enter Tryz.func214,Tryz.ntmps214
 go_wp2_with fail
 exact bodyPost_ret (v:=.agg #[.bool u,.int .i64 c,.int .i64 d,.bool t]) (by simp [results,Tryz.results214,go_sem]) rfl ⟨rfl,bound.up3 _ _ _ _⟩
set_option maxHeartbeats 1000000 in
theorem or_k (a b c d o z:Int) (s t:Bool) (k:Int) (w:World) (a1:-9223372036854775808≤a) (a2:a≤9223372036854775807) (c1:-9223372036854775808≤c) (c2:c≤9223372036854775807) (ho:cmpV a b c d=o) (oz:IntKind.i64.wrap (o*k)=z) (hz:z=-1∨z=1∨z=0):
  Calls Tryz.prog 214 #[.agg #[.bool true,.int .i64 a,.int .i64 b,.bool s],.agg #[.bool true,.int .i64 c,.int .i64 d,.bool t],.int .i64 k] w fun e w'=>e=.returned (if z=-1 then .agg #[.bool true,.int .i64 a,.int .i64 b,.bool s] else if z=1 then .agg #[.bool true,.int .i64 c,.int .i64 d,.bool t] else .agg #[.bool true,.int .i64 a,.int .i64 b,.bool (s || t)])∧Below w.heap.size w w':=by
 have HO:=Lib.hid ho
 have DB:=bound.up3 w (.cells #[.bool true,.int .i64 a,.int .i64 b,.bool s] 204) (.cells #[.bool true,.int .i64 c,.int .i64 d,.bool t] 204) (.cells #[.bool false,.int .i64 0,.int .i64 0,.bool false] 204)
 have D0:=lies.on_alloc (lies.on_alloc (lies.made w 204 #[.bool true,.int .i64 a,.int .i64 b,.bool s]) (.cells #[.bool true,.int .i64 c,.int .i64 d,.bool t] 204)) (.cells #[.bool false,.int .i64 0,.int .i64 0,.bool false] 204)
 have D1:=lies.on_alloc (lies.made_at (w.alloc (.cells #[.bool true,.int .i64 a,.int .i64 b,.bool s] 204)) 204 #[.bool true,.int .i64 c,.int .i64 d,.bool t] (w.heap.size+1) (World.size_alloc _ _)) (.cells #[.bool false,.int .i64 0,.int .i64 0,.bool false] 204)
 have D2:=lies.made_at ((w.alloc (.cells #[.bool true,.int .i64 a,.int .i64 b,.bool s] 204)).alloc (.cells #[.bool true,.int .i64 c,.int .i64 d,.bool t] 204)) 204 #[.bool false,.int .i64 0,.int .i64 0,.bool false] (w.heap.size+1+1) (by simp)
 clear ho
 go_enter Tryz.func214,Tryz.ntmps214
 go_wp2_with fail
 generalize ((w.alloc (.cells #[.bool true,.int .i64 a,.int .i64 b,.bool s] 204)).alloc (.cells #[.bool true,.int .i64 c,.int .i64 d,.bool t] 204)).alloc (.cells #[.bool false,.int .i64 0,.int .i64 0,.bool false] 204)=w0 at D0 D1 D2 DB ⊢
 refine (cmp3_any a b c d w0 a1 a2 c1 c2).mono ?_
 rintro e w1 ⟨rfl,hB⟩
 rw [HO.out]
 replace D0:=lies.on_call D0 hB
 replace D1:=lies.on_call D1 hB
 replace D2:=lies.on_call D2 hB
 replace DB:=later DB hB
 clear hB HO
 obtain ⟨x0,x1,x2,x3,x4⟩:=four D0
 obtain ⟨y0,y1,y2,y3,y4⟩:=four D1
 obtain ⟨v0,v1,v2,v3,v4⟩:=four D2
 obtain ⟨f0,f1,f2,f3⟩:=fourF D2
 rcases hz with rfl | rfl | rfl
 ·go_wp2_with fail
  exact bodyPost_ret (v:=.agg #[.bool true,.int .i64 a,.int .i64 b,.bool s]) (by simp [results,Tryz.results214,go_sem,v0,v1,v2,v3]) rfl ⟨by simp,set4 DB (by omega) _ _ _ _⟩
 ·go_wp2_with fail
  exact bodyPost_ret (v:=.agg #[.bool true,.int .i64 c,.int .i64 d,.bool t]) (by simp [results,Tryz.results214,go_sem,v0,v1,v2,v3]) rfl ⟨by simp,set4 DB (by omega) _ _ _ _⟩
 ·cases s
  ·cases t
   ·go_wp2_with fail
    exact bodyPost_ret (v:=.agg #[.bool true,.int .i64 a,.int .i64 b,.bool false]) (by simp [results,Tryz.results214,go_sem,v0,v1,v2,v3]) rfl ⟨by simp,set4 DB (by omega) _ _ _ _⟩
   ·go_wp2_with fail
    exact bodyPost_ret (v:=.agg #[.bool true,.int .i64 a,.int .i64 b,.bool true]) (by simp [results,Tryz.results214,go_sem,v0,v1,v2,v3]) rfl ⟨by simp,set4 DB (by omega) _ _ _ _⟩
  ·go_wp2_with fail
   exact bodyPost_ret (v:=.agg #[.bool true,.int .i64 a,.int .i64 b,.bool true]) (by simp [results,Tryz.results214,go_sem,v0,v1,v2,v3]) rfl ⟨by simp,set4 DB (by omega) _ _ _ _⟩
def NearE (s:Int):Option Int→Prop
 | none=>True
 | some e=>Near (s*(e / 2))
theorem or_is {s:Int} (hs:s=1∨s=-1) (x:Option Int) (b:Int) (hx:NearE s x) (hb:NearE s (some b)) (w:World):
  Calls Tryz.prog 214 #[endV s x,endV s (some b),.int .i64 s] w fun e w'=>e=.returned (endV s (mnE x (some b)))∧Below w.heap.size w w':=by
 cases x with
 | none=>exact or_no 0 0 _ _ false true _ s w
 | some a=>
  have ha:Near (s*(a / 2)):=hx
  have hb':Near (s*(b / 2)):=hb
  obtain ⟨e1,e2⟩:=cmp8 ha hb'
  obtain ⟨a1,a2⟩:=near_fits ha
  have hz:∃ z,IntKind.i64.wrap (cmp0 (s*(a / 2)) (s*(b / 2))*s)=z∧((z=-1∧a / 2<b / 2)∨(z=1∧b / 2<a / 2)∨(z=0∧a / 2=b / 2)):=by
   rcases hs with rfl | rfl
   ·rcases cmp0_cases (1*(a / 2)) (1*(b / 2)) with ⟨h,e⟩ | ⟨h,e⟩ | ⟨h,e⟩<;>rw [e]
    ·exact ⟨1,by decide,.inr (.inl ⟨rfl,by omega⟩)⟩
    ·exact ⟨-1,by decide,.inl ⟨rfl,by omega⟩⟩
    ·exact ⟨0,by decide,.inr (.inr ⟨rfl,by omega⟩)⟩
   ·rcases cmp0_cases (-1*(a / 2)) (-1*(b / 2)) with ⟨h,e⟩ | ⟨h,e⟩ | ⟨h,e⟩<;>rw [e]
    ·exact ⟨-1,by decide,.inl ⟨rfl,by omega⟩⟩
    ·exact ⟨1,by decide,.inr (.inl ⟨rfl,by omega⟩)⟩
    ·exact ⟨0,by decide,.inr (.inr ⟨rfl,by omega⟩)⟩
  obtain ⟨z,hz,hc⟩:=hz
  obtain ⟨b1,b2⟩:=near_fits hb'
  refine (or_k (p8 (s*(a / 2))) (q8 (s*(a / 2))) (p8 (s*(b / 2))) (q8 (s*(b / 2))) _ z (decide (a % 2=0)) (decide (b % 2=0)) s w a1.1 a1.2 b1.1 b1.2 e1 hz (by rcases hc with h | h | h<;>simp [h.1])).mono ?_
  rintro e w' ⟨rfl,hB⟩
  refine ⟨?_,hB⟩
  congr 1
  show _=endV s (some (min a b))
  rcases hc with ⟨rfl,h⟩ | ⟨rfl,h⟩ | ⟨rfl,h⟩
  ·rw [if_pos rfl,show min a b=a by omega];rfl
  ·rw [if_neg (by decide),if_pos rfl,show min a b=b by omega];rfl
  ·rw [if_neg (by decide),if_neg (by decide)]
   dsimp only [endV]
   have h1:min a b / 2=a / 2:=by omega
   have h2:(decide (a % 2=0) || decide (b % 2=0))=decide (min a b % 2=0):=by
    by_cases p:a % 2=0<;>by_cases q:b % 2=0<;>simp [p,q]<;>omega
   rw [h1,h2]
/-! the time between two ends -/
theorem bt_low (a b c d:Int) (w:World) (j u:Bool):
  Calls Tryz.prog 178 #[.agg #[.bool true,.int .i64 a,.int .i64 b,.bool false],.agg #[.bool j,.int .i64 c,.int .i64 d,.bool u]] w fun e w'=>e=.returned (.agg #[.int .i64 (a),.int .i64 (b)])∧Below w.heap.size w w':=by
 go_enter Tryz.func178,Tryz.ntmps178
 go_wp2_with fail
 exact bodyPost_ret (v:=.agg #[.int .i64 (a),.int .i64 (b)]) (by simp [results,Tryz.results178,go_sem]) rfl ⟨rfl,bound.up3 _ _ _ _⟩
theorem bt_high1 (a b c d:Int) (w:World) (s:Bool):
  Calls Tryz.prog 178 #[.agg #[.bool false,.int .i64 a,.int .i64 b,.bool s],.agg #[.bool true,.int .i64 c,.int .i64 d,.bool false]] w fun e w'=>e=.returned (.agg #[.int .i64 (c),.int .i64 (d)])∧Below w.heap.size w w':=by
 go_enter Tryz.func178,Tryz.ntmps178
 go_wp2_with fail
 exact bodyPost_ret (v:=.agg #[.int .i64 (c),.int .i64 (d)]) (by simp [results,Tryz.results178,go_sem]) rfl ⟨rfl,bound.up3 _ _ _ _⟩
theorem bt_high2 (a b c d:Int) (w:World):
  Calls Tryz.prog 178 #[.agg #[.bool true,.int .i64 a,.int .i64 b,.bool true],.agg #[.bool true,.int .i64 c,.int .i64 d,.bool false]] w fun e w'=>e=.returned (.agg #[.int .i64 (c),.int .i64 (d)])∧Below w.heap.size w w':=by
 go_enter Tryz.func178,Tryz.ntmps178
 go_wp2_with fail
 exact bodyPost_ret (v:=.agg #[.int .i64 (c),.int .i64 (d)]) (by simp [results,Tryz.results178,go_sem]) rfl ⟨rfl,bound.up3 _ _ _ _⟩
set_option maxHeartbeats 1000000 in
theorem bt_mid (a b c d:Int) (w:World) (a1:-9223372036854775808≤a) (a2:a≤9223372036854775807) (c1:-9223372036854775808≤c) (c2:c≤9223372036854775807) (P Q E:Int) (eP:partN 2 a b c d=P) (eQ:partD 2 a b c d=Q) (eE:partE 2 a b c d=E):
  Calls Tryz.prog 178 #[.agg #[.bool true,.int .i64 a,.int .i64 b,.bool true],.agg #[.bool true,.int .i64 c,.int .i64 d,.bool true]] w fun e w'=>e=.returned (.agg #[.int .i64 (P),.int .i64 (Q)])∧Below w.heap.size w w':=by
 have DB:=bound.up3 w (.cells #[.bool true,.int .i64 a,.int .i64 b,.bool true] 204) (.cells #[.bool true,.int .i64 c,.int .i64 d,.bool true] 204) (.cells #[.int .i64 0,.int .i64 0] 45)
 have D0:=lies.on_alloc (lies.on_alloc (lies.made w 204 #[.bool true,.int .i64 a,.int .i64 b,.bool true]) (.cells #[.bool true,.int .i64 c,.int .i64 d,.bool true] 204)) (.cells #[.int .i64 0,.int .i64 0] 45)
 have D1:=lies.on_alloc (lies.made_at (w.alloc (.cells #[.bool true,.int .i64 a,.int .i64 b,.bool true] 204)) 204 #[.bool true,.int .i64 c,.int .i64 d,.bool true] (w.heap.size+1) (World.size_alloc _ _)) (.cells #[.int .i64 0,.int .i64 0] 45)
 have D2:=lies.made_at ((w.alloc (.cells #[.bool true,.int .i64 a,.int .i64 b,.bool true] 204)).alloc (.cells #[.bool true,.int .i64 c,.int .i64 d,.bool true] 204)) 45 #[.int .i64 0,.int .i64 0] (w.heap.size+1+1) (by simp)
 go_enter Tryz.func178,Tryz.ntmps178
 obtain ⟨x0,x1,x2,x3,x4⟩:=four D0
 obtain ⟨y0,y1,y2,y3,y4⟩:=four D1
 go_wp2_with fail
 clear x0 x1 x2 x3 x4 y0 y1 y2 y3 y4
 generalize ((w.alloc (.cells #[.bool true,.int .i64 a,.int .i64 b,.bool true] 204)).alloc (.cells #[.bool true,.int .i64 c,.int .i64 d,.bool true] 204)).alloc (.cells #[.int .i64 0,.int .i64 0] 45)=w0 at D0 D1 D2 DB ⊢
 refine (mid3_k a b c d P Q E _ a1 a2 c1 c2 eP eQ eE).mono ?_
 rintro e w1 ⟨rfl,hB⟩
 replace D2:=lies.on_call D2 hB
 replace DB:=later DB hB
 clear hB D0 D1
 obtain ⟨y0,y1,y2,y3,y4⟩:=lies.two D2
 go_wp2_with fail
 refine bodyPost_ret (v:=.agg #[.int .i64 (P),.int .i64 (Q)]) (by simp [results,Tryz.results178,go_sem,y0,y1,y4,Nat.ne_of_lt y4,Nat.ne_of_gt y4]) rfl ⟨rfl,?_⟩
 repeat (first | with_reducible exact DB | with_reducible refine lies.frame_up ?_ _ | with_reducible refine Below.setCell ?_ (by dsimp only;omega) _)
set_option maxHeartbeats 1000000 in
theorem bt_lo (a b c d:Int) (w:World) (u:Bool) (a1:-9223372036854775808≤a) (a2:a≤9223372036854775807) (P Q E:Int) (eP:partN 1 a b 1 1=P) (eQ:partD 1 a b 1 1=Q) (eE:partE 1 a b 1 1=E):
  Calls Tryz.prog 178 #[.agg #[.bool true,.int .i64 a,.int .i64 b,.bool true],.agg #[.bool false,.int .i64 c,.int .i64 d,.bool u]] w fun e w'=>e=.returned (.agg #[.int .i64 (P),.int .i64 (Q)])∧Below w.heap.size w w':=by
 have DB:=bound.up3 w (.cells #[.bool true,.int .i64 a,.int .i64 b,.bool true] 204) (.cells #[.bool false,.int .i64 c,.int .i64 d,.bool u] 204) (.cells #[.int .i64 0,.int .i64 0] 45)
 have D0:=lies.on_alloc (lies.on_alloc (lies.made w 204 #[.bool true,.int .i64 a,.int .i64 b,.bool true]) (.cells #[.bool false,.int .i64 c,.int .i64 d,.bool u] 204)) (.cells #[.int .i64 0,.int .i64 0] 45)
 have D1:=lies.on_alloc (lies.made_at (w.alloc (.cells #[.bool true,.int .i64 a,.int .i64 b,.bool true] 204)) 204 #[.bool false,.int .i64 c,.int .i64 d,.bool u] (w.heap.size+1) (World.size_alloc _ _)) (.cells #[.int .i64 0,.int .i64 0] 45)
 have D2:=lies.made_at ((w.alloc (.cells #[.bool true,.int .i64 a,.int .i64 b,.bool true] 204)).alloc (.cells #[.bool false,.int .i64 c,.int .i64 d,.bool u] 204)) 45 #[.int .i64 0,.int .i64 0] (w.heap.size+1+1) (by simp)
 go_enter Tryz.func178,Tryz.ntmps178
 obtain ⟨x0,x1,x2,x3,x4⟩:=four D0
 obtain ⟨y0,y1,y2,y3,y4⟩:=four D1
 go_wp2_with fail
 clear x0 x1 x2 x3 x4 y0 y1 y2 y3 y4
 generalize ((w.alloc (.cells #[.bool true,.int .i64 a,.int .i64 b,.bool true] 204)).alloc (.cells #[.bool false,.int .i64 c,.int .i64 d,.bool u] 204)).alloc (.cells #[.int .i64 0,.int .i64 0] 45)=w0 at D0 D1 D2 DB ⊢
 refine (plus_k a b 1 P Q E _ a1 a2 (by decide) (by decide) eP eQ eE).mono ?_
 rintro e w1 ⟨rfl,hB⟩
 replace D2:=lies.on_call D2 hB
 replace DB:=later DB hB
 clear hB D0 D1
 obtain ⟨y0,y1,y2,y3,y4⟩:=lies.two D2
 go_wp2_with fail
 refine bodyPost_ret (v:=.agg #[.int .i64 (P),.int .i64 (Q)]) (by simp [results,Tryz.results178,go_sem,y0,y1,y4,Nat.ne_of_lt y4,Nat.ne_of_gt y4]) rfl ⟨rfl,?_⟩
 repeat (first | with_reducible exact DB | with_reducible refine lies.frame_up ?_ _ | with_reducible refine Below.setCell ?_ (by dsimp only;omega) _)
set_option maxHeartbeats 1000000 in
theorem bt_hi (a b c d:Int) (w:World) (s:Bool) (c1:-9223372036854775808≤c) (c2:c≤9223372036854775807) (P Q E:Int) (eP:partN 1 c d (-1) 1=P) (eQ:partD 1 c d (-1) 1=Q) (eE:partE 1 c d (-1) 1=E):
  Calls Tryz.prog 178 #[.agg #[.bool false,.int .i64 a,.int .i64 b,.bool s],.agg #[.bool true,.int .i64 c,.int .i64 d,.bool true]] w fun e w'=>e=.returned (.agg #[.int .i64 (P),.int .i64 (Q)])∧Below w.heap.size w w':=by
 have DB:=bound.up3 w (.cells #[.bool false,.int .i64 a,.int .i64 b,.bool s] 204) (.cells #[.bool true,.int .i64 c,.int .i64 d,.bool true] 204) (.cells #[.int .i64 0,.int .i64 0] 45)
 have D0:=lies.on_alloc (lies.on_alloc (lies.made w 204 #[.bool false,.int .i64 a,.int .i64 b,.bool s]) (.cells #[.bool true,.int .i64 c,.int .i64 d,.bool true] 204)) (.cells #[.int .i64 0,.int .i64 0] 45)
 have D1:=lies.on_alloc (lies.made_at (w.alloc (.cells #[.bool false,.int .i64 a,.int .i64 b,.bool s] 204)) 204 #[.bool true,.int .i64 c,.int .i64 d,.bool true] (w.heap.size+1) (World.size_alloc _ _)) (.cells #[.int .i64 0,.int .i64 0] 45)
 have D2:=lies.made_at ((w.alloc (.cells #[.bool false,.int .i64 a,.int .i64 b,.bool s] 204)).alloc (.cells #[.bool true,.int .i64 c,.int .i64 d,.bool true] 204)) 45 #[.int .i64 0,.int .i64 0] (w.heap.size+1+1) (by simp)
 go_enter Tryz.func178,Tryz.ntmps178
 obtain ⟨x0,x1,x2,x3,x4⟩:=four D0
 obtain ⟨y0,y1,y2,y3,y4⟩:=four D1
 go_wp2_with fail
 clear x0 x1 x2 x3 x4 y0 y1 y2 y3 y4
 generalize ((w.alloc (.cells #[.bool false,.int .i64 a,.int .i64 b,.bool s] 204)).alloc (.cells #[.bool true,.int .i64 c,.int .i64 d,.bool true] 204)).alloc (.cells #[.int .i64 0,.int .i64 0] 45)=w0 at D0 D1 D2 DB ⊢
 refine (plus_k c d (-1) P Q E _ c1 c2 (by decide) (by decide) eP eQ eE).mono ?_
 rintro e w1 ⟨rfl,hB⟩
 replace D2:=lies.on_call D2 hB
 replace DB:=later DB hB
 clear hB D0 D1
 obtain ⟨y0,y1,y2,y3,y4⟩:=lies.two D2
 go_wp2_with fail
 refine bodyPost_ret (v:=.agg #[.int .i64 (P),.int .i64 (Q)]) (by simp [results,Tryz.results178,go_sem,y0,y1,y4,Nat.ne_of_lt y4,Nat.ne_of_gt y4]) rfl ⟨rfl,?_⟩
 repeat (first | with_reducible exact DB | with_reducible refine lies.frame_up ?_ _ | with_reducible refine Below.setCell ?_ (by dsimp only;omega) _)
set_option maxHeartbeats 1000000 in
theorem bt_none (a b c d:Int) (w:World) (s u:Bool):
  Calls Tryz.prog 178 #[.agg #[.bool false,.int .i64 a,.int .i64 b,.bool s],.agg #[.bool false,.int .i64 c,.int .i64 d,.bool u]] w fun e w'=>e=.returned (.agg #[.int .i64 (0),.int .i64 (1)])∧Below w.heap.size w w':=by
 have DB:=bound.up3 w (.cells #[.bool false,.int .i64 a,.int .i64 b,.bool s] 204) (.cells #[.bool false,.int .i64 c,.int .i64 d,.bool u] 204) (.cells #[.int .i64 0,.int .i64 0] 45)
 have D0:=lies.on_alloc (lies.on_alloc (lies.made w 204 #[.bool false,.int .i64 a,.int .i64 b,.bool s]) (.cells #[.bool false,.int .i64 c,.int .i64 d,.bool u] 204)) (.cells #[.int .i64 0,.int .i64 0] 45)
 have D1:=lies.on_alloc (lies.made_at (w.alloc (.cells #[.bool false,.int .i64 a,.int .i64 b,.bool s] 204)) 204 #[.bool false,.int .i64 c,.int .i64 d,.bool u] (w.heap.size+1) (World.size_alloc _ _)) (.cells #[.int .i64 0,.int .i64 0] 45)
 have D2:=lies.made_at ((w.alloc (.cells #[.bool false,.int .i64 a,.int .i64 b,.bool s] 204)).alloc (.cells #[.bool false,.int .i64 c,.int .i64 d,.bool u] 204)) 45 #[.int .i64 0,.int .i64 0] (w.heap.size+1+1) (by simp)
 go_enter Tryz.func178,Tryz.ntmps178
 obtain ⟨x0,x1,x2,x3,x4⟩:=four D0
 obtain ⟨y0,y1,y2,y3,y4⟩:=four D1
 go_wp2_with fail
 clear x0 x1 x2 x3 x4 y0 y1 y2 y3 y4
 generalize ((w.alloc (.cells #[.bool false,.int .i64 a,.int .i64 b,.bool s] 204)).alloc (.cells #[.bool false,.int .i64 c,.int .i64 d,.bool u] 204)).alloc (.cells #[.int .i64 0,.int .i64 0] 45)=w0 at D0 D1 D2 DB ⊢
 refine (whole_is 0 _).mono ?_
 rintro e w1 ⟨rfl,hB⟩
 replace D2:=lies.on_call D2 hB
 replace DB:=later DB hB
 clear hB D0 D1
 obtain ⟨y0,y1,y2,y3,y4⟩:=lies.two D2
 go_wp2_with fail
 refine bodyPost_ret (v:=.agg #[.int .i64 (0),.int .i64 (1)]) (by simp [results,Tryz.results178,go_sem,y0,y1,y4,Nat.ne_of_lt y4,Nat.ne_of_gt y4]) rfl ⟨rfl,?_⟩
 repeat (first | with_reducible exact DB | with_reducible refine lies.frame_up ?_ _ | with_reducible refine Below.setCell ?_ (by dsimp only;omega) _)
theorem between_is {L H:Option Int} (hL:NearE (-1) L) (hH:NearE 1 H) (hb:Near (btw L H)) (he:∀ l e,L=some l→H=some e→(l / 2) % 2=0∧(e / 2) % 2=0) (w:World):
  Calls Tryz.prog 178 #[endV (-1) L,endV 1 H] w fun e w'=>e=.returned (.agg #[.int .i64 (p8 (btw L H)),.int .i64 (q8 (btw L H))])∧Below w.heap.size w w':=by
 have low1:∀ l,L=some l→l % 2=1→btw L H=-1*(l / 2):=fun l h k=>by
  subst h
  cases H<;>dsimp only [btw]<;>rw [if_pos k]<;>omega
 cases L with
 | none=>cases H with
  | none=>
   have e:btw none none=0:=rfl
   rw [e,eight_zero.1,eight_zero.2]
   exact bt_none 0 0 0 0 w false false
  | some h=>
   have hH':Near (1*(h / 2)):=hH
   obtain ⟨c1,c2⟩:=near_fits hH'
   by_cases p:h % 2=1
   ·have e:btw none (some h)=1*(h / 2):=by dsimp only [btw];rw [if_pos p];omega
    rw [e]
    dsimp only [endV]
    rw [show decide (h % 2=0)=false by simp;omega]
    exact bt_high1 0 0 _ _ w false
   ·have e:btw none (some h)=1*(h / 2)+8*(-1):=by dsimp only [btw];rw [if_neg p];omega
    rw [e] at hb ⊢
    obtain ⟨k1,k2,k3⟩:=add8 hH' (show May (-1) by decide) hb
    dsimp only [endV]
    rw [show decide (h % 2=0)=true by simp;omega]
    exact bt_hi 0 0 _ _ w false c1.1 c1.2 _ _ _ k1 k2 k3
 | some l=>
  have hL':Near (-1*(l / 2)):=hL
  obtain ⟨a1,a2⟩:=near_fits hL'
  by_cases p:l % 2=1
  ·rw [low1 l rfl p]
   have:∃ j c d u,endV 1 H=.agg #[.bool j,.int .i64 c,.int .i64 d,.bool u]:=by
    cases H with
    | none=>exact ⟨_,_,_,_,rfl⟩
    | some h=>exact ⟨_,_,_,_,rfl⟩
   obtain ⟨j,c,d,u,e⟩:=this
   rw [e]
   dsimp only [endV]
   rw [show decide (l % 2=0)=false by simp;omega]
   exact bt_low _ _ c d w j u
  ·have hp:decide (l % 2=0)=true:=by simp;omega
   cases H with
   | none=>
    have e:btw (some l) none=-1*(l / 2)+8*1:=by dsimp only [btw];rw [if_neg p];omega
    rw [e] at hb ⊢
    obtain ⟨k1,k2,k3⟩:=add8 hL' (show May 1 by decide) hb
    dsimp only [endV]
    rw [hp]
    exact bt_lo _ _ 0 0 w false a1.1 a1.2 _ _ _ k1 k2 k3
   | some h=>
    have hH':Near (1*(h / 2)):=hH
    obtain ⟨c1,c2⟩:=near_fits hH'
    by_cases q:h % 2=1
    ·have e:btw (some l) (some h)=1*(h / 2):=by dsimp only [btw];rw [if_neg p,if_pos q];omega
     rw [e]
     dsimp only [endV]
     rw [hp,show decide (h % 2=0)=false by simp;omega]
     exact bt_high2 _ _ _ _ w
    ·have e:btw (some l) (some h)=(-1*(l / 2)+1*(h / 2)) / 2:=by dsimp only [btw];rw [if_neg p,if_neg q];congr 1;omega
     rw [e] at hb ⊢
     have:=he l h rfl rfl
     obtain ⟨k1,k2,k3⟩:=mid8 hL' hH' (by omega) hb
     dsimp only [endV]
     rw [hp,show decide (h % 2=0)=true by simp;omega]
     exact bt_mid _ _ _ _ w a1.1 a1.2 c1.1 c1.2 _ _ _ k1 k2 k3
end Go.Proofs.YthmljpccbjolgaaGreatDoor.incl
