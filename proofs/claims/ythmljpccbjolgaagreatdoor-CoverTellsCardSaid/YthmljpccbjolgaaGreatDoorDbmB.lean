
/-
  Ways over clocks, the closed table of weights, and what of it Close answers; each theorem names its conditions.
-/
import Derived.Test.YthmljpccbjolgaaGreatDoorBase
import Derived.Test.YthmljpccbjolgaaGreatDoorDbmA
namespace Go.Proofs.YthmljpccbjolgaaGreatDoor.way
set_option linter.unusedVariables false
abbrev B:=Option Int
def ad:B→B→B
 | some a,some b=>some (2*(a / 2+b / 2)+min (a % 2) (b % 2))
 | _,_=>none
def le:B→B→Prop
 | _,none=>True
 | none,some _=>False
 | some a,some b=>a≤b
def one:B:=some 1
instance decLe (x y:B):Decidable (le x y):=by
 cases x<;>cases y<;>unfold le<;>exact inferInstance
theorem le_none (x:B):le x none:=by cases x<;>trivial
theorem le_refl (x:B):le x x:=by
 cases x with
 | none=>trivial
 | some a=>exact Int.le_refl a
theorem le_trans {x y z:B} (h:le x y) (k:le y z):le x z:=by
 cases z with
 | none=>exact le_none x
 | some c=>cases y with
  | none=>exact k.elim
  | some b=>cases x with
   | none=>exact h.elim
   | some a=>exact Int.le_trans h k
theorem le_antisymm {x y:B} (h:le x y) (k:le y x):x=y:=by
 cases x with
 | none=>cases y with
  | none=>rfl
  | some b=>exact h.elim
 | some a=>cases y with
  | none=>exact k.elim
  | some b=>exact congrArg some (Int.le_antisymm h k)
theorem le_total (x y:B):le x y∨le y x:=by
 cases x with
 | none=>exact .inr (le_none y)
 | some a=>cases y with
  | none=>exact .inl trivial
  | some b=>exact Int.le_total a b
theorem le_of_not {x y:B} (h:¬ le x y):le y x:=(le_total x y).resolve_left h
theorem ad_none (x:B):ad x none=none:=by cases x<;>rfl
theorem none_ad (x:B):ad none x=none:=by cases x<;>rfl
theorem ad_some (a b:Int):ad (some a) (some b)=some (2*(a / 2+b / 2)+min (a % 2) (b % 2)):=rfl
theorem ad_comm (x y:B):ad x y=ad y x:=by
 cases x with
 | none=>rw [none_ad,ad_none]
 | some a=>cases y with
  | none=>rw [none_ad,ad_none]
  | some b=>rw [ad_some,ad_some];congr 1;omega
theorem ad_assoc (x y z:B):ad (ad x y) z=ad x (ad y z):=by
 cases x with
 | none=>simp only [none_ad]
 | some a=>cases y with
  | none=>simp only [none_ad,ad_none]
  | some b=>cases z with
   | none=>simp only [ad_none]
   | some c=>simp only [ad_some];congr 1;omega
theorem ad_one (x:B):ad x one=x:=by
 cases x with
 | none=>rfl
 | some a=>unfold one;rw [ad_some];congr 1;omega
theorem one_ad (x:B):ad one x=x:=by rw [ad_comm,ad_one]
theorem ad_mono {x x' y y':B} (h:le x x') (k:le y y'):le (ad x y) (ad x' y'):=by
 cases x' with
 | none=>rw [none_ad];exact le_none _
 | some a'=>cases y' with
  | none=>rw [ad_none];exact le_none _
  | some b'=>cases x with
   | none=>exact h.elim
   | some a=>cases y with
    | none=>exact k.elim
    | some b=>
     have h1:a≤a':=h
     have h2:b≤b':=k
     show 2*(a / 2+b / 2)+min (a % 2) (b % 2)≤2*(a' / 2+b' / 2)+min (a' % 2) (b' % 2)
     omega
theorem le_ad_left {x y:B} (h:le one x):le y (ad x y):=by
 have:=ad_mono h (le_refl y)
 rwa [one_ad] at this
theorem le_ad_right {x y:B} (h:le one x):le y (ad y x):=by rw [ad_comm];exact le_ad_left h
def mn (x y:B):B:=if le x y then x else y
theorem mn_left (x y:B):le (mn x y) x:=by
 unfold mn
 split
 ·exact le_refl x
 ·rename_i h;exact le_of_not h
theorem mn_right (x y:B):le (mn x y) y:=by
 unfold mn
 split
 ·rename_i h;exact h
 ·exact le_refl y
theorem mn_is (x y:B):mn x y=x∨mn x y=y:=by
 unfold mn
 split
 ·exact .inl rfl
 ·exact .inr rfl
theorem le_mn {x y z:B} (h:le z x) (k:le z y):le z (mn x y):=by
 rcases mn_is x y with e | e<;>rw [e]<;>assumption
theorem mn_mono {x x' y y':B} (h:le x x') (k:le y y'):le (mn x y) (mn x' y'):=le_mn (le_trans (mn_left x y) h) (le_trans (mn_right x y) k)
theorem mn_eq_left {x y:B} (h:le x y):mn x y=x:=if_pos h
abbrev Tab:=Nat→Nat→B
def w (d:Tab):Nat→List Nat→Nat→B
 | i,[],j=>d i j
 | i,m::l,j=>ad (d i m) (w d m l j)
theorem w_app (d:Tab) (a:List Nat):∀ (i m:Nat) (b:List Nat) (j:Nat),w d i (a++m::b) j=ad (w d i a m) (w d m b j):=by
 induction a with
 | nil=>intro i m b j;rfl
 | cons x a ih=>intro i m b j;show ad (d i x) (w d x (a++m::b) j)=_;rw [ih,←ad_assoc];rfl
def ov (D:Tab) (k:Nat):Tab:=fun i j=>mn (D i j) (ad (D i k) (D k j))
def F (d:Tab):Nat→Tab
 | 0=>d
 | k+1=>ov (F d k) k
theorem F_le (d:Tab) (k i j:Nat):le (F d k i j) (d i j):=by
 induction k generalizing i j with
 | zero=>exact le_refl _
 | succ k ih=>exact le_trans (mn_left _ _) (ih i j)
theorem F_mono {d d':Tab} (h:∀ i j,le (d i j) (d' i j)) (k i j:Nat):le (F d k i j) (F d' k i j):=by
 induction k generalizing i j with
 | zero=>exact h i j
 | succ k ih=>exact mn_mono (ih i j) (ad_mono (ih i k) (ih k j))
theorem F_is (d:Tab) (k i j:Nat):∃ l,(∀ m ∈ l,m<k)∧w d i l j=F d k i j:=by
 induction k generalizing i j with
 | zero=>exact ⟨[],by simp,rfl⟩
 | succ k ih=>
  rcases mn_is (F d k i j) (ad (F d k i k) (F d k k j)) with e | e
  ·obtain ⟨l,h,hw⟩:=ih i j
   exact ⟨l,fun m hm=>Nat.lt_succ_of_lt (h m hm),hw.trans e.symm⟩
  ·obtain ⟨l,h,hw⟩:=ih i k
   obtain ⟨l',h',hw'⟩:=ih k j
   refine ⟨l++k::l',fun m hm=>?_,?_⟩
   ·rcases List.mem_append.1 hm with hm | hm
    ·exact Nat.lt_succ_of_lt (h m hm)
    ·rcases List.mem_cons.1 hm with rfl | hm
     ·exact Nat.lt_succ_self _
     ·exact Nat.lt_succ_of_lt (h' m hm)
   ·rw [w_app,hw,hw'];exact e.symm
def Tri (D:Tab) (k:Nat):Prop:=∀ m,m<k→∀ i j,le (D i j) (ad (D i m) (D m j))
def Pos (D:Tab):Prop:=∀ i,le one (D i i)
theorem tri_ov {D:Tab} {k:Nat} (h:Tri D k) (p:Pos D):Tri (ov D k) (k+1):=by
 intro m hm i j
 have hl:∀ x y,le (ov D k x y) (ad (D x k) (D k y)):=fun x y=>mn_right _ _
 rcases Nat.lt_succ_iff_lt_or_eq.1 hm with hm | rfl
 ·rcases mn_is (D i m) (ad (D i k) (D k m)) with e | e<;>rcases mn_is (D m j) (ad (D m k) (D k j)) with f | f<;>(show le _ (ad (mn _ _) (mn _ _)))<;>rw [e,f]
  ·exact le_trans (mn_left _ _) (h m hm i j)
  ·rw [←ad_assoc];exact le_trans (hl i j) (ad_mono (h m hm i k) (le_refl _))
  ·rw [ad_assoc];exact le_trans (hl i j) (ad_mono (le_refl _) (h m hm k j))
  ·refine le_trans (hl i j) ?_
   rw [ad_assoc,←ad_assoc (D k m)]
   refine ad_mono (le_refl _) (le_ad_left ?_)
   exact le_trans (p k) (h m hm k k)
 ·rcases mn_is (D i m) (ad (D i m) (D m m)) with e | e<;>rcases mn_is (D m j) (ad (D m m) (D m j)) with f | f<;>(show le _ (ad (mn _ _) (mn _ _)))<;>rw [e,f]
  ·exact hl i j
  ·exact le_trans (hl i j) (ad_mono (le_refl _) (le_ad_left (p m)))
  ·exact le_trans (hl i j) (ad_mono (le_ad_right (p m)) (le_refl _))
  ·exact le_trans (hl i j) (ad_mono (le_ad_right (p m)) (le_ad_left (p m)))
def Good (d:Tab) (k:Nat):Prop:=∀ m,m≤k→Pos (F d m)
theorem good_tri {d:Tab} {k:Nat} (h:Good d k):Tri (F d k) k:=by
 induction k with
 | zero=>intro m hm;omega
 | succ k ih=>exact tri_ov (ih fun m hm=>h m (by omega)) (h k (by omega))
theorem F_way {d:Tab} {k:Nat} (h:Tri (F d k) k) (l:List Nat):∀ (i j:Nat),(∀ m ∈ l,m<k)→le (F d k i j) (w d i l j):=by
 induction l with
 | nil=>intro i j _;exact F_le d k i j
 | cons m l ih=>intro i j hl;exact le_trans (h m (hl m List.mem_cons_self) i j) (ad_mono (F_le d k i m) (ih m j fun x hx=>hl x (List.mem_cons_of_mem _ hx)))
theorem twice {l:List Nat} (h:¬ l.Nodup):∃ a m b c,l=a++m::(b++m::c):=by
 induction l with
 | nil=>exact (h List.nodup_nil).elim
 | cons x l ih=>
  by_cases hx:x ∈ l
  ·obtain ⟨b,c,rfl⟩:=List.append_of_mem hx
   exact ⟨[],x,b,c,rfl⟩
  ·obtain ⟨a,m,b,c,rfl⟩:=ih fun k=>h (List.nodup_cons.2 ⟨hx,k⟩)
   exact ⟨x::a,m,b,c,rfl⟩
theorem simple {d:Tab} {k:Nat} (hc:∀ l i,(∀ m ∈ l,m<k)→le one (w d i l i)):∀ (n:Nat) (l:List Nat) (i j:Nat),l.length≤n→(∀ m ∈ l,m<k)→
  ∃ l',l'.Nodup∧(∀ m ∈ l',m<k∧m≠i∧m≠j)∧le (w d i l' j) (w d i l j):=by
 intro n
 induction n with
 | zero=>
  intro l i j hn hl
  obtain rfl:l=[]:=List.eq_nil_of_length_eq_zero (by omega)
  exact ⟨[],List.nodup_nil,by simp,le_refl _⟩
 | succ n ih=>
  intro l i j hn hl
  by_cases hi:i ∈ l
  ·obtain ⟨a,b,rfl⟩:=List.append_of_mem hi
   obtain ⟨l',h1,h2,h3⟩:=ih b i j (by simp at hn;omega) (fun m hm=>hl m (by simp [hm]))
   refine ⟨l',h1,h2,le_trans h3 ?_⟩
   rw [w_app]
   exact le_ad_left (hc a i fun m hm=>hl m (by simp [hm]))
  ·by_cases hj:j ∈ l
   ·obtain ⟨a,b,rfl⟩:=List.append_of_mem hj
    obtain ⟨l',h1,h2,h3⟩:=ih a i j (by simp at hn;omega) (fun m hm=>hl m (by simp [hm]))
    refine ⟨l',h1,h2,le_trans h3 ?_⟩
    rw [w_app]
    exact le_ad_right (hc b j fun m hm=>hl m (by simp [hm]))
   ·by_cases hd:l.Nodup
    ·exact ⟨l,hd,fun m hm=>⟨hl m hm,fun e=>hi (e ▸ hm),fun e=>hj (e ▸ hm)⟩,le_refl _⟩
    ·obtain ⟨a,m,b,c,rfl⟩:=twice hd
     obtain ⟨l',h1,h2,h3⟩:=ih (a++m::c) i j (by simp at hn ⊢;omega) (fun x hx=>hl x (by simp at hx ⊢;rcases hx with h | h | h<;>simp [h]))
     refine ⟨l',h1,h2,le_trans h3 ?_⟩
     rw [w_app,w_app,w_app]
     exact ad_mono (le_refl _) (le_ad_left (hc b m fun x hx=>hl x (by simp [hx])))
theorem F_simple {d:Tab} {k:Nat} (h:Good d k) (i j:Nat):∃ l,l.Nodup∧(∀ m ∈ l,m<k∧m≠i∧m≠j)∧w d i l j=F d k i j:=by
 have ht:=good_tri h
 have hc:∀ l i,(∀ m ∈ l,m<k)→le one (w d i l i):=fun l i hl=>le_trans (h k (Nat.le_refl _) i) (F_way ht l i i hl)
 obtain ⟨l,hl,e⟩:=F_is d k i j
 obtain ⟨l',h1,h2,h3⟩:=simple hc _ l i j (Nat.le_refl _) hl
 exact ⟨l',h1,h2,le_antisymm (e ▸ h3) (F_way ht l' i j fun m hm=>(h2 m hm).1)⟩
theorem round_simple {d:Tab}:∀ (n:Nat) (l:List Nat) (i:Nat),l.length≤n→¬ le one (w d i l i)→∃ x l',(x::l').Nodup∧(∀ m ∈ x::l',m ∈ i::l)∧¬ le one (w d x l' x):=by
 intro n
 induction n with
 | zero=>
  intro l i hn h
  obtain rfl:l=[]:=List.eq_nil_of_length_eq_zero (by omega)
  exact ⟨i,[],by simp,by simp,h⟩
 | succ n ih=>
  intro l i hn h
  by_cases hi:i ∈ l
  ·obtain ⟨a,b,rfl⟩:=List.append_of_mem hi
   rw [w_app] at h
   by_cases ha:le one (w d i a i)
   ·obtain ⟨x,l',h1,h2,h3⟩:=ih b i (by simp at hn;omega) (fun k=>h (le_trans k (le_ad_left ha)))
    exact ⟨x,l',h1,fun m hm=>by have:=h2 m hm;simp at this ⊢;rcases this with h | h<;>simp [h],h3⟩
   ·obtain ⟨x,l',h1,h2,h3⟩:=ih a i (by simp at hn;omega) ha
    exact ⟨x,l',h1,fun m hm=>by have:=h2 m hm;simp at this ⊢;rcases this with h | h<;>simp [h],h3⟩
  ·by_cases hd:l.Nodup
   ·exact ⟨i,l,List.nodup_cons.2 ⟨hi,hd⟩,fun m hm=>hm,h⟩
   ·obtain ⟨a,m,b,c,rfl⟩:=twice hd
    rw [w_app,w_app] at h
    by_cases hb:le one (w d m b m)
    ·obtain ⟨x,l',h1,h2,h3⟩:=ih (a++m::c) i (by simp at hn ⊢;omega) (fun k=>h (by rw [w_app] at k;exact le_trans k (ad_mono (le_refl _) (le_ad_left hb))))
     exact ⟨x,l',h1,fun y hy=>by have:=h2 y hy;simp at this ⊢;rcases this with h | h | h | h<;>simp [h],h3⟩
    ·obtain ⟨x,l',h1,h2,h3⟩:=ih b m (by simp at hn ⊢;omega) hb
     exact ⟨x,l',h1,fun y hy=>by have:=h2 y hy;simp at this ⊢;rcases this with h | h<;>simp [h],h3⟩
theorem few:∀ (k:Nat) (l:List Nat),l.Nodup→(∀ m ∈ l,m<k)→l.length≤k:=by
 intro k
 induction k with
 | zero=>
  intro l _ h
  cases l with
  | nil=>simp
  | cons x l=>exact absurd (h x List.mem_cons_self) (by omega)
 | succ k ih=>
  intro l hd h
  by_cases hk:k ∈ l
  ·have:=ih (l.erase k) (hd.erase k) (fun m hm=>by
    have h1:=h m (List.mem_of_mem_erase hm)
    have h2:m≠k:=fun e=>by subst e;exact (List.Nodup.not_mem_erase hd) hm
    omega)
   rw [List.length_erase_of_mem hk] at this
   omega
  ·have:=ih l hd (fun m hm=>by
    have h1:=h m hm
    have h2:m≠k:=fun e=>hk (e ▸ hm)
    omega)
   omega
def Wi (M:Int) (k:Int):B→Prop
 | none=>True
 | some a=>-(M*k)≤a / 2∧a / 2≤M*k
theorem wi_ad {M k k':Int} {x y:B} (h:Wi M k x) (h':Wi M k' y):Wi M (k+k') (ad x y):=by
 cases x with
 | none=>rw [none_ad];trivial
 | some a=>cases y with
  | none=>rw [ad_none];trivial
  | some b=>
   obtain ⟨h1,h2⟩:=h
   obtain ⟨h3,h4⟩:=h'
   show -(M*(k+k'))≤(2*(a / 2+b / 2)+min (a % 2) (b % 2)) / 2∧(2*(a / 2+b / 2)+min (a % 2) (b % 2)) / 2≤M*(k+k')
   rw [Int.mul_add]
   omega
theorem wi_way {d:Tab} {M:Int} (h:∀ i j,Wi M 1 (d i j)) (l:List Nat):∀ i j,Wi M (l.length+1) (w d i l j):=by
 induction l with
 | nil=>intro i j;exact h i j
 | cons m l ih=>
  intro i j
  have:=wi_ad (h i m) (ih m j)
  show Wi M (((m::l).length:Nat)+1) (ad _ _)
  have e:(((m::l).length:Nat):Int)+1=1+(l.length+1):=by simp;omega
  rw [e];exact this
theorem wi_more {M k k':Int} (hM:0≤M) (hk:k≤k') {x:B} (h:Wi M k x):Wi M k' x:=by
 cases x with
 | none=>trivial
 | some a=>
  have:M*k≤M*k':=Int.mul_le_mul_of_nonneg_left hk hM
  obtain ⟨h1,h2⟩:=h
  exact ⟨by omega,by omega⟩
theorem F_within {d:Tab} {M:Int} {k:Nat} (hM:0≤M) (hd:∀ i j,Wi M 1 (d i j)) (h:Good d k) (i j:Nat):Wi M (k+1) (F d k i j):=by
 obtain ⟨l,h1,h2,e⟩:=F_simple h i j
 rw [←e]
 have:=few k l h1 fun m hm=>(h2 m hm).1
 exact wi_more hM (by omega) (wi_way hd l i j)
end Go.Proofs.YthmljpccbjolgaaGreatDoor.way
namespace Go.Proofs.YthmljpccbjolgaaGreatDoor.way
set_option linter.unusedVariables false
def pk (d:Tab) (tgt left i:Nat) (rec:Nat→B):Nat→B
 | 0=>d i tgt
 | k+1=>if left.testBit k=true∧k≠i∧k≠tgt then mn (pk d tgt left i rec k) (ad (d i k) (rec k)) else pk d tgt left i rec k
def pw (d:Tab) (n tgt:Nat):Nat→Nat→Nat→B
 | 0,_,i=>d i tgt
 | f+1,left,i=>pk d tgt left i (fun k=>pw d n tgt f (left - 2 ^ k) k) n
theorem bits16 (left:Nat) (hl:left<16) (k:Nat) (hk:k<4) (h:left.testBit k=true):left - 2 ^ k<left∧∀ m,m<4→((left - 2 ^ k).testBit m=true↔left.testBit m=true∧m≠k):=by
 have all:∀ left,left<16→∀ k,k<4→(left.testBit k=false∨(left - 2 ^ k<left∧∀ m,m<4→(left - 2 ^ k).testBit m=(left.testBit m && decide (m≠k)))):=by decide+kernel
 rcases all left hl k hk with e | ⟨h1,h2⟩
 ·rw [h] at e;cases e
 ·exact ⟨h1,fun m hm=>by rw [h2 m hm];simp⟩
theorem pk_skip {d:Tab} {tgt left i:Nat} {rec:Nat→B} {n:Nat} (h:∀ k,k<n→left.testBit k=false):pk d tgt left i rec n=d i tgt:=by
 induction n with
 | zero=>rfl
 | succ k ih=>
  have:=h k (Nat.lt_succ_self k)
  show (if _ then _ else _)=_
  rw [if_neg (fun e=>by rw [this] at e;exact absurd e.1 (by decide))]
  exact ih (fun m hm=>h m (by omega))
theorem pk_le {d : Tab} {tgt left i : Nat} {rec : Nat → B} {n : Nat} : ∀ {k : Nat}, k ≤ n → le (pk d tgt left i rec n) (pk d tgt left i rec k) := by
  induction n with
  | zero => intro k hk; obtain rfl : k = 0 := by omega
            exact le_refl _
  | succ n ih =>
    intro k hk
    by_cases e : k = n + 1
    · subst e; exact le_refl _
    · refine le_trans ?_ (ih (k := k) (by omega))
      show le (if _ then _ else _) _
      split
      · exact mn_left _ _
      · exact le_refl _
theorem pk_by {d:Tab} {tgt left i:Nat} {rec:Nat→B} {n k:Nat} (hk:k<n) (h1:left.testBit k=true) (h2:k≠i) (h3:k≠tgt):le (pk d tgt left i rec n) (ad (d i k) (rec k)):=by
 refine le_trans (pk_le (k:=k+1) (by omega)) ?_
 show le (if _ then _ else _) _
 rw [if_pos ⟨h1,h2,h3⟩]
 exact mn_right _ _
theorem pk_is {d:Tab} {tgt left i:Nat} {rec:Nat→B} (n:Nat):pk d tgt left i rec n=d i tgt∨∃ k,k<n∧left.testBit k=true∧k≠i∧k≠tgt∧pk d tgt left i rec n=ad (d i k) (rec k):=by
 induction n with
 | zero=>exact .inl rfl
 | succ n ih=>
  have ih':pk d tgt left i rec n=d i tgt∨∃ k,k<n+1∧left.testBit k=true∧k≠i∧k≠tgt∧pk d tgt left i rec n=ad (d i k) (rec k):=by
   rcases ih with h | ⟨k,h1,h2⟩
   ·exact .inl h
   ·exact .inr ⟨k,by omega,h2⟩
  unfold pk
  split
  ·rename_i h
   rcases mn_is (pk d tgt left i rec n) (ad (d i n) (rec n)) with e | e
   ·rw [e];exact ih'
   ·rw [e];exact .inr ⟨n,by omega,h.1,h.2.1,h.2.2,rfl⟩
  ·exact ih'
theorem pk_no {d:Tab} {tgt left i:Nat} {rec:Nat→B} {k:Nat} (h:¬ (left.testBit k=true∧k≠i∧k≠tgt)):pk d tgt left i rec (k+1)=pk d tgt left i rec k:=if_neg h
theorem pk_yes {d:Tab} {tgt left i:Nat} {rec:Nat→B} {k:Nat} (h1:left.testBit k=true) (h2:k≠i) (h3:k≠tgt):pk d tgt left i rec (k+1)=mn (pk d tgt left i rec k) (ad (d i k) (rec k)):=if_pos ⟨h1,h2,h3⟩
theorem pw_is {d:Tab} {n tgt:Nat} (hn:n≤4):∀ f left i,left≤f→left<16→∃ l,l.Nodup∧(∀ m ∈ l,m<n∧left.testBit m=true∧m≠tgt)∧pw d n tgt f left i=w d i l tgt:=by
 intro f
 induction f with
 | zero=>intro left i _ _;exact ⟨[],List.nodup_nil,by simp,rfl⟩
 | succ f ih=>
  intro left i hf hl
  rcases pk_is (d:=d) (tgt:=tgt) (left:=left) (i:=i) (rec:=fun k=>pw d n tgt f (left - 2 ^ k) k) n with e | ⟨k,hk,h1,h2,h3,e⟩
  ·exact ⟨[],List.nodup_nil,by simp,e⟩
  ·obtain ⟨hlt,hb⟩:=bits16 left hl k (by omega) h1
   obtain ⟨l,l1,l2,l3⟩:=ih (left - 2 ^ k) k (by omega) (by omega)
   refine ⟨k::l,List.nodup_cons.2 ⟨fun hm=>?_,l1⟩,fun m hm=>?_,?_⟩
   ·obtain ⟨a,b,_⟩:=l2 k hm
    exact ((hb k (by omega)).1 b).2 rfl
   ·rcases List.mem_cons.1 hm with rfl | hm
    ·exact ⟨hk,h1,h3⟩
    ·obtain ⟨a,b,c⟩:=l2 m hm
     exact ⟨a,((hb m (by omega)).1 b).1,c⟩
   ·show pk d tgt left i _ n=ad (d i k) (w d k l tgt)
    rw [e,l3]
theorem pw_le {d:Tab} {n tgt:Nat} (hn:n≤4):∀ f left i l,left≤f→left<16→l.Nodup→(∀ m ∈ l,m<n∧left.testBit m=true∧m≠tgt)→(∀ m ∈ l,m≠i)→le (pw d n tgt f left i) (w d i l tgt):=by
 intro f
 induction f with
 | zero=>
  intro left i l hf hl h1 h2 h3
  obtain rfl:left=0:=by omega
  cases l with
  | nil=>exact le_refl _
  | cons m l=>exact absurd (h2 m List.mem_cons_self).2.1 (by simp)
 | succ f ih=>
  intro left i l hf hl h1 h2 h3
  cases l with
  | nil=>exact pk_le (k:=0) (Nat.zero_le _)
  | cons k l=>
   obtain ⟨a1,a2,a3⟩:=h2 k List.mem_cons_self
   obtain ⟨hlt,hb⟩:=bits16 left hl k (by omega) a2
   obtain ⟨n1,n2⟩:=List.nodup_cons.1 h1
   have ne:∀ m ∈ l,m≠k:=fun m hm e=>n1 (e ▸ hm)
   refine le_trans (pk_by a1 a2 (h3 k List.mem_cons_self) a3) ?_
   refine ad_mono (le_refl _) (ih (left - 2 ^ k) k l (by omega) (by omega) n2 (fun m hm=>?_) ne)
   obtain ⟨b1,b2,b3⟩:=h2 m (List.mem_cons_of_mem _ hm)
   exact ⟨b1,(hb m (by omega)).2 ⟨b2,ne m hm⟩,b3⟩
theorem pw_wi {d:Tab} {n tgt:Nat} {M:Int} (hn:n≤4) (hM:0≤M) (ht:tgt<n) (hd:∀ i j,Wi M 1 (d i j)) {f left i:Nat} (hf:left≤f) (hl:left<16):Wi M n (pw d n tgt f left i):=by
 obtain ⟨l,h1,h2,e⟩:=pw_is hn f left i hf hl
 rw [e]
 have:=few n (tgt::l) (List.nodup_cons.2 ⟨fun hm=>(h2 tgt hm).2.2 rfl,h1⟩) (fun m hm=>by
  rcases List.mem_cons.1 hm with rfl | hm
  ·exact ht
  ·exact (h2 m hm).1)
 rw [List.length_cons] at this
 exact wi_more hM (by omega) (wi_way hd l i tgt)
theorem by_wi {d:Tab} {n tgt:Nat} {M:Int} (hn:n≤4) (hM:0≤M) (ht:tgt<n) (hd:∀ i j,Wi M 1 (d i j)) {f left i k:Nat} (hf:left≤f+1) (hl:left<16) (hk:k<n) (h1:left.testBit k=true) (h3:k≠tgt):Wi M n (ad (d i k) (pw d n tgt f (left - 2 ^ k) k)):=by
 obtain ⟨hlt,hb⟩:=bits16 left hl k (by omega) h1
 obtain ⟨l,l1,l2,e⟩:=pw_is (d:=d) (tgt:=tgt) hn f (left - 2 ^ k) k (by omega) (by omega)
 rw [e]
 have hkl:¬ k ∈ l:=fun hm=>((hb k (by omega)).1 (l2 k hm).2.1).2 rfl
 have:=few n (tgt::k::l) (List.nodup_cons.2 ⟨fun hm=>(List.mem_cons.1 hm).elim (fun e=>h3 e.symm) (fun hm=>(l2 tgt hm).2.2 rfl),List.nodup_cons.2 ⟨hkl,l1⟩⟩) (fun m hm=>by
  rcases List.mem_cons.1 hm with rfl | hm
  ·exact ht
  ·rcases List.mem_cons.1 hm with rfl | hm
   ·exact hk
   ·exact (l2 m hm).1)
 rw [List.length_cons,List.length_cons] at this
 exact wi_more hM (by rw [List.length_cons];omega) (wi_way hd (k::l) i tgt)
theorem w_off {d d':Tab} (h:∀ i j,i≠j→d i j=d' i j):∀ (l:List Nat) (i j:Nat),l≠[]∨i≠j→l.Nodup→(∀ m ∈ l,m≠i∧m≠j)→w d i l j=w d' i l j:=by
 intro l
 induction l with
 | nil=>
  intro i j hne _ _
  exact h i j (hne.resolve_left (fun k=>k rfl))
 | cons m l ih=>
  intro i j _ hd hm
  obtain ⟨n1,n2⟩:=List.nodup_cons.1 hd
  obtain ⟨m1,m2⟩:=hm m List.mem_cons_self
  show ad (d i m) (w d m l j)=ad (d' i m) (w d' m l j)
  rw [h i m (fun e=>m1 e.symm),ih m j (.inr m2) n2 (fun x hx=>⟨fun e=>n1 (e ▸ hx),(hm x (List.mem_cons_of_mem _ hx)).2⟩)]
def but (n i:Nat):Nat:=2 ^ n - 1 - (if i<n then 2 ^ i else 0)
theorem but16:∀ n,n≤4→∀ i,i<n→but n i<16∧(but n i).testBit i=false∧∀ m,m<n→((but n i).testBit m=true↔m≠i):=by
 intro n hn
 have:∀ n,n<5→∀ i,i<n→but n i<16∧(but n i).testBit i=false∧∀ m,m<n→((but n i).testBit m=true↔m≠i):=by decide+kernel
 exact this n (by omega)
theorem pw_F {d d':Tab} {n:Nat} (hn:n≤4) (h:∀ i j,i≠j→d i j=d' i j) (hg:Good d' n) {i j:Nat} (hi:i<n) (hj:j<n) (hij:i≠j):pw d n j 15 (but n i) i=F d' n i j:=by
 obtain ⟨b1,b2,b3⟩:=but16 n hn i hi
 refine le_antisymm ?_ ?_
 ·obtain ⟨l,l1,l2,e⟩:=F_simple hg i j
  rw [←e,←w_off h l i j (.inr hij) l1 (fun m hm=>(l2 m hm).2)]
  exact pw_le hn 15 (but n i) i l (by omega) b1 l1 (fun m hm=>⟨(l2 m hm).1,(b3 m (l2 m hm).1).2 (l2 m hm).2.1,(l2 m hm).2.2⟩) (fun m hm=>(l2 m hm).2.1)
 ·obtain ⟨l,l1,l2,e⟩:=pw_is (d:=d) (tgt:=j) hn 15 (but n i) i (by omega) b1
  rw [e,w_off h l i j (.inr hij) l1 (fun m hm=>⟨(b3 m (l2 m hm).1).1 (l2 m hm).2.1,(l2 m hm).2.2⟩)]
  exact F_way (good_tri hg) l i j (fun m hm=>(l2 m hm).1)
theorem pw_round {d d':Tab} {n:Nat} (hn:n≤4) (h:∀ i j,i≠j→d i j=d' i j) (hd:∀ i,i<n→le one (d i i)→le one (d' i i)) (hg:Good d' n) (hd':∀ i,i<n→le one (d' i i)→le one (d i i)) {i:Nat} (hi:i<n):le one (pw d n i 15 (but n i) i):=by
 obtain ⟨b1,b2,b3⟩:=but16 n hn i hi
 obtain ⟨l,l1,l2,e⟩:=pw_is (d:=d) (tgt:=i) hn 15 (but n i) i (by omega) b1
 rw [e]
 cases l with
 | nil=>exact hd' i hi (hg 0 (Nat.zero_le _) i)
 | cons m l=>
  rw [w_off h (m::l) i i (.inl (by simp)) l1 (fun x hx=>⟨(l2 x hx).2.2,(l2 x hx).2.2⟩)]
  exact le_trans (hg n (Nat.le_refl _) i) (F_way (good_tri hg) (m::l) i i (fun x hx=>(l2 x hx).1))
theorem pw_below {d d':Tab} {n:Nat} (hn:n≤4) (h:∀ i j,i≠j→d i j=d' i j) (hd:∀ i,i<n→le one (d i i)→le one (d' i i)) {k i:Nat} (hk:k≤n) (hi:i<n) (hf:¬ le one (F d' k i i)):∃ x,x<n∧¬ le one (pw d n x 15 (but n x) x):=by
 obtain ⟨l,hl,e⟩:=F_is d' k i i
 rw [←e] at hf
 obtain ⟨x,l',h1,h2,h3⟩:=round_simple _ l i (Nat.le_refl _) hf
 have hin:∀ m ∈ x::l',m<n:=fun m hm=>by
  rcases List.mem_cons.1 (h2 m hm) with rfl | hm
  ·exact hi
  ·have:=hl m hm;omega
 obtain ⟨n1,n2⟩:=List.nodup_cons.1 h1
 have hx:=hin x List.mem_cons_self
 obtain ⟨b1,b2,b3⟩:=but16 n hn x hx
 refine ⟨x,hx,fun k'=>h3 ?_⟩
 have ne:∀ m ∈ l',m≠x:=fun m hm e=>n1 (e ▸ hm)
 have hle:=pw_le (d:=d) (tgt:=x) hn 15 (but n x) x l' (by omega) b1 n2 (fun m hm=>⟨hin m (List.mem_cons_of_mem _ hm),(b3 m (hin m (List.mem_cons_of_mem _ hm))).2 (ne m hm),ne m hm⟩) ne
 have:=le_trans k' hle
 cases l' with
 | nil=>exact hd x hx this
 | cons m l'=>
  rwa [w_off h (m::l') x x (.inl (by simp)) n2 (fun y hy=>⟨ne y hy,ne y hy⟩)] at this
end Go.Proofs.YthmljpccbjolgaaGreatDoor.way
namespace Go.Proofs.YthmljpccbjolgaaGreatDoor.dbm
open num way
open bound hiding up
set_option linter.unusedVariables false
def cod (b:Int):B:=if b=9223372036854775807 then none else some b
theorem cod_none:cod 9223372036854775807=none:=if_pos rfl
theorem cod_some {b:Int} (h:b≠9223372036854775807):cod b=some b:=if_neg h
theorem cod_le {a b:Int} (ha:a≤9223372036854775807) (hb:b≤9223372036854775807):way.le (cod a) (cod b)↔a≤b:=by
 by_cases h1:b=9223372036854775807
 ·subst h1;rw [cod_none];exact ⟨fun _=>ha,fun _=>le_none _⟩
 ·rw [cod_some h1]
  by_cases h2:a=9223372036854775807
  ·subst h2;rw [cod_none];exact ⟨fun h=>h.elim,fun h=>by omega⟩
  ·rw [cod_some h2];exact Iff.rfl
theorem cod_inj {a b:Int} (h:cod a=cod b):a=b:=by
 by_cases h1:a=9223372036854775807
 ·by_cases h2:b=9223372036854775807
  ·rw [h1,h2]
  ·subst h1;rw [cod_none,cod_some h2] at h;cases h
 ·by_cases h2:b=9223372036854775807
  ·subst h2;rw [cod_none,cod_some h1] at h;cases h
  ·rw [cod_some h1,cod_some h2] at h;injection h
theorem cod_lsr {a b:Int} (ha:a≤9223372036854775807) (hb:b≤9223372036854775807):cod (lsr a b)=mn (cod a) (cod b):=by
 unfold lsr mn
 by_cases h:b<a
 ·rw [if_pos h,if_neg (fun k=>by have:=(cod_le ha hb).1 k;omega)]
 ·rw [if_neg h,if_pos ((cod_le ha hb).2 (by omega))]
def Rng (a:Int):Prop:=a=9223372036854775807∨(-1152921504606846976≤a / 2∧a / 2≤1152921504606846976)
theorem mk_sum (a b:Int):mk (a / 2+b / 2) (bS a || bS b)=2*(a / 2+b / 2)+min (a % 2) (b % 2):=by
 unfold mk bS
 by_cases h1:a % 2=0<;>by_cases h2:b % 2=0<;>simp [h1,h2]<;>omega
theorem rng_sum {a b:Int} (ha:Rng a) (hb:Rng b):cod (sumV a b)=ad (cod a) (cod b)∧sumE a b=0:=by
 have good:∀ {x:Int},Rng x→x≠9223372036854775807→May (x / 2):=fun h hn=>by
  rcases h with h | h
  ·exact (hn h).elim
  ·unfold May;omega
 have nb:∀ {x:Int},Rng x→¬ badB x:=fun h k=>k.2 (good h k.1)
 by_cases h:a=9223372036854775807∨b=9223372036854775807
 ·obtain ⟨e1,e2⟩:=sum_none (fun k=>k.elim (nb ha) (nb hb)) h
  rw [e1,cod_none]
  refine ⟨?_,e2⟩
  rcases h with rfl | rfl
  ·rw [cod_none,none_ad]
  ·rw [cod_none,ad_none]
 ·have h1:a≠9223372036854775807:=fun k=>h (.inl k)
  have h2:b≠9223372036854775807:=fun k=>h (.inr k)
  have m1:=good ha h1
  have m2:=good hb h2
  have r1:-1152921504606846976≤a / 2∧a / 2≤1152921504606846976:=ha.resolve_left h1
  have r2:-1152921504606846976≤b / 2∧b / 2≤1152921504606846976:=hb.resolve_left h2
  have m3:May (a / 2+b / 2):=by unfold May;omega
  obtain ⟨e1,e2⟩:=sum_ok m1 m2 m3
  refine ⟨?_,e2⟩
  have hlt:=may_hi (mk_may m3 (bS a || bS b))
  rw [e1,cod_some (by omega),cod_some h1,cod_some h2,ad_some,mk_sum]
theorem rng_wi {a:Int} {k:Int} (hk:k≤4) (h:Wi 288230376151711744 k (cod a)):Rng a:=by
 by_cases h1:a=9223372036854775807
 ·exact .inl h1
 ·rw [cod_some h1] at h
  obtain ⟨h2,h3⟩:=h
  exact .inr ⟨by omega,by omega⟩
def wts (n:Nat) (us:List Int):Tab:=fun i j=>if i<n∧j<n then cod (tat us n i j) else none
theorem wts_in {n:Nat} {us:List Int} {i j:Nat} (hi:i<n) (hj:j<n):wts n us i j=cod (tat us n i j):=if_pos ⟨hi,hj⟩
theorem wts_out {n:Nat} {us:List Int} {i j:Nat} (h:¬ i<n):wts n us i j=none:=if_neg fun k=>h k.1
theorem wts_out2 {n:Nat} {us:List Int} {i j:Nat} (h:¬ j<n):wts n us i j=none:=if_neg fun k=>h k.2
theorem F_out {n:Nat} {us:List Int} (k:Nat) {i j:Nat} (h:¬ i<n):F (wts n us) k i j=none:=by
 obtain ⟨l,_,e⟩:=F_is (wts n us) k i j
 rw [←e]
 cases l with
 | nil=>exact wts_out h
 | cons m l=>show ad (wts n us i m) _=none;rw [wts_out h,none_ad]
/-! places -/
theorem place_inj {n i j i' j':Nat} (hj:j<n) (hj':j'<n) (h:i*n+j=i'*n+j'):i=i'∧j=j':=by
 have e1:(i*n+j) / n=i:=by rw [Nat.mul_comm,Nat.mul_add_div (by omega),Nat.div_eq_of_lt hj];rfl
 have e2:(i'*n+j') / n=i':=by rw [Nat.mul_comm,Nat.mul_add_div (by omega),Nat.div_eq_of_lt hj'];rfl
 have e:i=i':=by rw [←e1,←e2,h]
 exact ⟨e,by subst e;omega⟩
theorem tat_set {n i j i' j':Nat} {us:List Int} {v:Int} (hl:us.length=n*n) (hn:n≤4) (hi:i<n) (hj:j<n) (hj':j'<n) (hi':i'<n):tat (us.set (i*n+j) v) n i' j'=if i=i'∧j=j' then v else tat us n i' j':=by
 unfold tat
 rw [List.getElem?_set]
 by_cases h:i*n+j=i'*n+j'
 ·rw [if_pos h,if_pos (place_inj hj hj' h),if_pos (by rw [hl];exact place_le hn hi hj)]
  rfl
 ·rw [if_neg h,if_neg (fun k=>h (by rw [k.1,k.2]))]
theorem tat_lows {n:Nat} {ts:List Int} (hl:ts.length=n*n) (hn:n≤4) (k:Nat) (hk:k≤n) {i j:Nat} (hi:i<n) (hj:j<n):tat (lows n ts k) n i j=if i=j∧i<k then lsr (tat ts n i i) 1 else tat ts n i j:=by
 induction k with
 | zero=>rw [if_neg (fun h=>by omega)];rfl
 | succ k ih=>
  have hll:(lows n ts k).length=n*n:=(lows_length n ts k).trans hl
  have ihk:tat (lows n ts k) n k k=tat ts n k k:=by
   have:∀ k'≤k,tat (lows n ts k') n k k=tat ts n k k:=by
    intro k'
    induction k' with
    | zero=>intro _;rfl
    | succ k' ih'=>
     intro h'
     show tat ((lows n ts k').set _ _) n k k=_
     rw [tat_set ((lows_length n ts k').trans hl) hn (by omega) (by omega) (by omega) (by omega),if_neg (fun e=>by omega)]
     exact ih' (by omega)
   exact this k (Nat.le_refl _)
  show tat ((lows n ts k).set (k*n+k) (lsr (tat (lows n ts k) n k k) 1)) n i j=_
  rw [tat_set hll hn (by omega) (by omega) hj hi,ihk]
  by_cases h:k=i∧k=j
  ·obtain ⟨rfl,rfl⟩:=h
   rw [if_pos ⟨rfl,rfl⟩,if_pos ⟨rfl,by omega⟩]
  ·rw [if_neg h,ih (by omega)]
   by_cases h2:i=j∧i<k
   ·rw [if_pos h2,if_pos ⟨h2.1,by omega⟩]
   ·rw [if_neg h2,if_neg (fun e=>by
     by_cases e3:i=k
     ·exact h ⟨e3.symm,by rw [←e.1];exact e3.symm⟩
     ·exact h2 ⟨e.1,by omega⟩)]
theorem nth_of {n k:Nat} (h:0<n) (hk:k<n*n):(nth n h k).1.1*n+(nth n h k).1.2=k:=by
 have:k / n<n:=(Nat.div_lt_iff_lt_mul h).2 hk
 show k / n % n*n+k % n=k
 rw [Nat.mod_eq_of_lt this,Nat.mul_comm]
 exact Nat.div_add_mod k n
theorem tat_ovl {n k:Nat} (h0:0<n) (hn:n≤4) (hk:k<n) {us:List Int} (hl:us.length=n*n) (hr:∀ i j,i<n→j<n→Rng (tat us n i j)) (h1:tat us n k k=1) {i j:Nat} (hi:i<n) (hj:j<n):
  tat (ovl n k us (upto (nth n h0) (n*n))) n i j=lsr (tat us n i j) (sumV (tat us n i k) (tat us n k j)):=by
 have rk:∀ x,Rng x→sumV x 1=x∧sumV 1 x=x:=fun x hx=>by
  have e1:=(rng_sum hx (.inr (by omega):Rng 1)).1
  have e2:=(rng_sum (.inr (by omega):Rng 1) hx).1
  have c1:cod 1=one:=cod_some (by decide)
  rw [c1,ad_one] at e1
  rw [c1,one_ad] at e2
  exact ⟨cod_inj e1,cod_inj e2⟩
 have lsr_self:∀ x:Int,lsr x x=x:=fun x=>by unfold lsr;rw [if_neg (by omega)]
 have col:∀ i,i<n→lsr (tat us n i k) (sumV (tat us n i k) (tat us n k k))=tat us n i k:=fun i hi=>by rw [h1,(rk _ (hr i k hi hk)).1,lsr_self]
 have row:∀ j,j<n→lsr (tat us n k j) (sumV (tat us n k k) (tat us n k j))=tat us n k j:=fun j hj=>by rw [h1,(rk _ (hr k j hk hj)).2,lsr_self]
 have main:∀ q,q≤n*n→∀ i j,i<n→j<n→tat (ovl n k us (upto (nth n h0) q)) n i j=if i*n+j<q then lsr (tat us n i j) (sumV (tat us n i k) (tat us n k j)) else tat us n i j:=by
  intro q
  induction q with
  | zero=>intro _ i j _ _;rw [if_neg (by omega)];rfl
  | succ q ih=>
   intro hq i j hi hj
   have ihq:=ih (by omega)
   rw [upto_succ,ovl_snoc]
   have hx1:=(nth n h0 q).2.1
   have hx2:=(nth n h0 q).2.2
   have hx3:=nth_of h0 (show q<n*n by omega)
   generalize (nth n h0 q).1=x at hx1 hx2 hx3 ⊢
   obtain ⟨a,b⟩:=x
   dsimp only at hx1 hx2 hx3
   unfold ovp
   dsimp only
   rw [tat_set ((ovl_length _ _ _ _).trans hl) hn hx1 hx2 hj hi]
   by_cases h:a=i∧b=j
   ·obtain ⟨rfl,rfl⟩:=h
    rw [if_pos ⟨rfl,rfl⟩,if_pos (by omega),ihq a b hi hj,if_neg (by omega)]
    have e1:tat (ovl n k us (upto (nth n h0) q)) n a k=tat us n a k:=by
     rw [ihq a k hi hk]
     split
     ·exact col a hi
     ·rfl
    have e2:tat (ovl n k us (upto (nth n h0) q)) n k b=tat us n k b:=by
     rw [ihq k b hk hj]
     split
     ·exact row b hj
     ·rfl
    rw [e1,e2]
   ·rw [if_neg h,ihq i j hi hj]
    by_cases h2:i*n+j<q
    ·rw [if_pos h2,if_pos (by omega)]
    ·rw [if_neg h2,if_neg (fun k'=>h (place_inj hx2 hj (by omega)))]
 rw [main (n*n) (Nat.le_refl _) i j hi hj,if_pos (place_le hn hi hj)]
def beg (n:Nat) (ts:List Int):Tab:=wts n (lows n ts n)
theorem fine_at {n:Nat} {ts:List Int} (hl:ts.length=n*n) (hn:n≤4) (hf:∀ p,p<ts.length→Fine (ts[p]?.getD 0)) {i j:Nat} (hi:i<n) (hj:j<n):Fine (tat ts n i j):=hf _ (by rw [hl];exact place_le hn hi hj)
theorem beg_at {n:Nat} {ts:List Int} (hl:ts.length=n*n) (hn:n≤4) {i j:Nat} (hi:i<n) (hj:j<n):tat (lows n ts n) n i j=if i=j then lsr (tat ts n i i) 1 else tat ts n i j:=by
 rw [tat_lows hl hn n (Nat.le_refl _) hi hj]
 by_cases h:i=j
 ·rw [if_pos ⟨h,hi⟩,if_pos h]
 ·rw [if_neg (fun k=>h k.1),if_neg h]
theorem wi_fine {b:Int} (h:Fine b):Wi 288230376151711744 1 (cod b):=by
 by_cases h1:b=9223372036854775807
 ·rw [h1,cod_none];trivial
 ·rw [cod_some h1]
  have:=h.resolve_left h1
  exact ⟨by omega,by omega⟩
theorem fine_lsr {b:Int} (h:Fine b):Fine (lsr b 1):=by
 unfold lsr
 split
 ·exact .inr (by omega)
 ·exact h
theorem beg_wi {n:Nat} {ts:List Int} (hl:ts.length=n*n) (hn:n≤4) (hf:∀ p,p<ts.length→Fine (ts[p]?.getD 0)) (i j:Nat):Wi 288230376151711744 1 (beg n ts i j):=by
 unfold beg
 by_cases hi:i<n
 ·by_cases hj:j<n
  ·rw [wts_in hi hj,beg_at hl hn hi hj]
   split
   ·exact wi_fine (fine_lsr (fine_at hl hn hf hi hi))
   ·exact wi_fine (fine_at hl hn hf hi hj)
  ·rw [wts_out2 hj];trivial
 ·rw [wts_out hi];trivial
theorem beg_one {n:Nat} {ts:List Int} (hl:ts.length=n*n) (hn:n≤4) (htop:Tops ts) {i:Nat} (hi:i<n):way.le (beg n ts i i) one:=by
 unfold beg
 rw [wts_in hi hi,beg_at hl hn hi hi,if_pos rfl]
 have h1:=lsr_le (tat ts n i i) 1
 exact (cod_le (by omega) (by omega)).2 h1.2
section
variable {n:Nat} (h0:0<n) {ts:List Int}
theorem pos_of (hn:n≤4) (htop:Tops ts) {k:Nat} (hne:¬ emp n (tabs n h0 ts k)) (he:∀ i j,i<n→j<n→cod (tat (tabs n h0 ts k) n i j)=F (beg n ts) k i j):Pos (F (beg n ts) k):=by
 intro i
 by_cases hi:i<n
 ·rw [←he i i hi hi]
  have h1:1≤tat (tabs n h0 ts k) n i i:=Decidable.byContradiction fun k'=>hne ⟨i,hi,by omega⟩
  exact (cod_le (by decide) (tat_top (tabs_tops h0 htop k) n i i)).2 h1
 ·unfold beg
  rw [F_out k hi]
  exact le_none _
theorem tabs_is (hn:n≤4) (hl:ts.length=n*n) (htop:Tops ts) (hf:∀ p,p<ts.length→Fine (ts[p]?.getD 0)):
  ∀ k,k≤n→(∀ m,m<k→¬ emp n (tabs n h0 ts m))→∀ i j,i<n→j<n→cod (tat (tabs n h0 ts k) n i j)=F (beg n ts) k i j:=by
 intro k
 induction k using Nat.strongRecOn with
 | _ k ih=>
  cases k with
  | zero=>
   intro _ _ i j hi hj
   exact (wts_in hi hj).symm
  | succ k=>
   intro hk hne i j hi hj
   have ihk:=ih k (by omega) (by omega) (fun m hm=>hne m (by omega))
   have hg:way.Good (beg n ts) k:=fun m hm=>pos_of h0 hn htop (hne m (by omega)) (ih m (by omega) (by omega) (fun m' hm'=>hne m' (by omega)))
   have hlk:(tabs n h0 ts k).length=n*n:=(tabs_length n h0 ts k).trans hl
   have hr:∀ i j,i<n→j<n→Rng (tat (tabs n h0 ts k) n i j):=fun i j hi hj=>rng_wi (k:=k+1) (by omega) (by rw [ihk i j hi hj];exact F_within (by decide) (beg_wi hl hn hf) hg i j)
   have hkk:k<n:=by omega
   have h1:tat (tabs n h0 ts k) n k k=1:=by
    have e1:way.le (cod (tat (tabs n h0 ts k) n k k)) one:=by rw [ihk k k hkk hkk];exact le_trans (F_le _ _ _ _) (beg_one hl hn htop hkk)
    have e2:way.le one (cod (tat (tabs n h0 ts k) n k k)):=by rw [ihk k k hkk hkk];exact hg k (Nat.le_refl _) k
    exact cod_inj ((le_antisymm e1 e2).trans (cod_some (by decide)).symm)
   show cod (tat (ovl n k (tabs n h0 ts k) (upto (nth n h0) (n*n))) n i j)=ov (F (beg n ts) k) k i j
   rw [tat_ovl h0 hn hkk hlk hr h1 hi hj,cod_lsr (tat_top (tabs_tops h0 htop k) n i j) (sum_top _ _),(rng_sum (hr i k hi hkk) (hr k j hkk hj)).1,ihk i j hi hj,ihk i k hi hkk,ihk k j hkk hj]
   rfl
theorem good_of (hn:n≤4) (hl:ts.length=n*n) (htop:Tops ts) (hf:∀ p,p<ts.length→Fine (ts[p]?.getD 0)) (hne:∀ k,k≤n→¬ emp n (tabs n h0 ts k)):way.Good (beg n ts) n:=fun m hm=>pos_of h0 hn htop (hne m hm) (tabs_is h0 hn hl htop hf m hm (fun m' hm'=>hne m' (by omega)))
/-! what is closed -/
theorem closed_diag (hn:n≤4) (hl:ts.length=n*n) (htop:Tops ts) (hf:∀ p,p<ts.length→Fine (ts[p]?.getD 0)) (hne:∀ k,k≤n→¬ emp n (tabs n h0 ts k)) {i:Nat} (hi:i<n):tat (tabs n h0 ts n) n i i=1:=by
 have hg:=good_of h0 hn hl htop hf hne
 have he:=tabs_is h0 hn hl htop hf n (Nat.le_refl _) (fun m hm=>hne m (by omega)) i i hi hi
 have e1:way.le (cod (tat (tabs n h0 ts n) n i i)) one:=by rw [he];exact le_trans (F_le _ _ _ _) (beg_one hl hn htop hi)
 have e2:way.le one (cod (tat (tabs n h0 ts n) n i i)):=by rw [he];exact hg n (Nat.le_refl _) i
 exact cod_inj ((le_antisymm e1 e2).trans (cod_some (by decide)).symm)
theorem closed_tri (hn:n≤4) (hl:ts.length=n*n) (htop:Tops ts) (hf:∀ p,p<ts.length→Fine (ts[p]?.getD 0)) (hne:∀ k,k≤n→¬ emp n (tabs n h0 ts k)) {i j m:Nat} (hi:i<n) (hj:j<n) (hm:m<n)
  (hs:sumE (tat (tabs n h0 ts n) n i m) (tat (tabs n h0 ts n) n m j)=0):tat (tabs n h0 ts n) n i j≤sumV (tat (tabs n h0 ts n) n i m) (tat (tabs n h0 ts n) n m j):=by
 have hg:=good_of h0 hn hl htop hf hne
 have he:=tabs_is h0 hn hl htop hf n (Nat.le_refl _) (fun m hm=>hne m (by omega))
 have ht:=good_tri hg m hm i j
 rw [←he i j hi hj,←he i m hi hm,←he m j hm hj] at ht
 have htp:=fun a b=>tat_top (tabs_tops h0 htop n) n a b
 generalize tat (tabs n h0 ts n) n i m=x at hs ht ⊢
 generalize tat (tabs n h0 ts n) n m j=y at hs ht ⊢
 rcases sum_two hs with ⟨_,_,_,e⟩ | ⟨mx,my,ms,e⟩
 ·rw [e];exact htp i j
 ·have hx:=may_hi mx
  have hy:=may_hi my
  have hlt:=may_hi (mk_may ms (bS x || bS y))
  rw [e]
  rw [cod_some (by omega:x≠9223372036854775807),cod_some (by omega:y≠9223372036854775807),ad_some,←mk_sum] at ht
  have c:some (mk (x / 2+y / 2) (bS x || bS y))=cod (mk (x / 2+y / 2) (bS x || bS y)):=(cod_some (by omega)).symm
  rw [c] at ht
  exact (cod_le (htp i j) (by omega)).1 ht
theorem closed_le (hn:n≤4) (hl:ts.length=n*n) (htop:Tops ts) (hf:∀ p,p<ts.length→Fine (ts[p]?.getD 0)) (hne:∀ k,k≤n→¬ emp n (tabs n h0 ts k)) {i j:Nat} (hi:i<n) (hj:j<n):tat (tabs n h0 ts n) n i j≤tat ts n i j:=by
 have he:=tabs_is h0 hn hl htop hf n (Nat.le_refl _) (fun m hm=>hne m (by omega)) i j hi hj
 have h1:way.le (cod (tat (tabs n h0 ts n) n i j)) (cod (tat (lows n ts n) n i j)):=by rw [he];exact le_trans (F_le _ _ _ _) (by unfold beg;rw [wts_in hi hj];exact le_refl _)
 have h2:=(cod_le (tat_top (tabs_tops h0 htop n) n i j) (tat_top (lows_tops htop n) n i j)).1 h1
 rw [beg_at hl hn hi hj] at h2
 by_cases h:i=j
 ·subst h
  rw [if_pos rfl] at h2
  exact Int.le_trans h2 (lsr_le _ _).1
 ·rwa [if_neg h] at h2
end
end Go.Proofs.YthmljpccbjolgaaGreatDoor.dbm
namespace Go.Proofs.YthmljpccbjolgaaGreatDoor.dbm
open num way
open bound hiding up
set_option linter.unusedVariables false
theorem list_ext {n:Nat} (h0:0<n) {us vs:List Int} (hu:us.length=n*n) (hv:vs.length=n*n) (h:∀ i j,i<n→j<n→tat us n i j=tat vs n i j):us=vs:=by
 refine List.ext_getElem (by rw [hu,hv]) fun p h1 h2=>?_
 have hp:p<n*n:=by rw [←hu];exact h1
 have:=h (p / n) (p % n) ((Nat.div_lt_iff_lt_mul h0).2 hp) (Nat.mod_lt _ h0)
 unfold tat at this
 have e:p / n*n+p % n=p:=by rw [Nat.mul_comm];exact Nat.div_add_mod p n
 rw [e,List.getElem?_eq_getElem h1,List.getElem?_eq_getElem h2] at this
 exact this
theorem fine_rng {b:Int} (h:Fine b):Rng b:=h.imp id fun h=>⟨by omega,by omega⟩
section
variable {n:Nat} (h0:0<n) {ts:List Int}
theorem again (hn:n≤4) (hl:ts.length=n*n) (htop:Tops ts) (hf:∀ p,p<ts.length→Fine (ts[p]?.getD 0)) (hne:∀ k,k≤n→¬ emp n (tabs n h0 ts k)) (hc:∀ p,p<(tabs n h0 ts n).length→Fine ((tabs n h0 ts n)[p]?.getD 0)):
  ∀ k,k≤n→tabs n h0 (tabs n h0 ts n) k=tabs n h0 ts n:=by
 have hlc:(tabs n h0 ts n).length=n*n:=(tabs_length n h0 ts n).trans hl
 intro k
 induction k with
 | zero=>
  intro _
  refine list_ext h0 ((lows_length n _ n).trans hlc) hlc fun i j hi hj=>?_
  show tat (lows n (tabs n h0 ts n) n) n i j=_
  rw [beg_at hlc hn hi hj]
  by_cases h:i=j
  ·subst h
   rw [if_pos rfl,closed_diag h0 hn hl htop hf hne hi]
   decide
  ·rw [if_neg h]
 | succ k ih=>
  intro hk
  have e:=ih (by omega)
  show ovl n k (tabs n h0 (tabs n h0 ts n) k) (upto (nth n h0) (n*n))=_
  rw [e]
  refine list_ext h0 ((ovl_length _ _ _ _).trans hlc) hlc fun i j hi hj=>?_
  have hr:∀ i j,i<n→j<n→Rng (tat (tabs n h0 ts n) n i j):=fun i j hi hj=>fine_rng (fine_at hlc hn hc hi hj)
  have hkk:k<n:=by omega
  rw [tat_ovl h0 hn hkk hlc hr (closed_diag h0 hn hl htop hf hne hkk) hi hj]
  have:=closed_tri h0 hn hl htop hf hne hi hj hkk (rng_sum (hr i k hi hkk) (hr k j hkk hj)).2
  unfold lsr
  rw [if_neg (by omega)]
theorem again_alive (hn:n≤4) (hl:ts.length=n*n) (htop:Tops ts) (hf:∀ p,p<ts.length→Fine (ts[p]?.getD 0)) (hne:∀ k,k≤n→¬ emp n (tabs n h0 ts k)) (hc:∀ p,p<(tabs n h0 ts n).length→Fine ((tabs n h0 ts n)[p]?.getD 0)):
  ∀ k,k≤n→¬ emp n (tabs n h0 (tabs n h0 ts n) k):=fun k hk=>by
 rw [again h0 hn hl htop hf hne hc k hk]
 rintro ⟨i,hi,h⟩
 rw [closed_diag h0 hn hl htop hf hne hi] at h
 exact absurd h (by decide)
end
end Go.Proofs.YthmljpccbjolgaaGreatDoor.dbm
namespace Go.Proofs.YthmljpccbjolgaaGreatDoor.dbm
open Go.ChangeShapes Go.WideShapes Go.ChangeAt Go.RowKit num
open bound hiding up
set_option linter.unusedVariables false
def OkD (n:Int) (ts:List Int):Prop:=MayD n ts∧∃ h0:0<n.toNat,∀ k,k≤n.toNat→¬ emp n.toNat (tabs n.toNat h0 ts k)
def clT (n:Int) (ts:List Int):List Int:=if h:0<n.toNat then tabs n.toNat h ts n.toNat else []
theorem may_nat {n:Int} {ts:List Int} (h:MayD n ts):∃ m:Nat,n=m∧0<m∧m≤4∧ts.length=m*m:=by
 obtain ⟨h1,h2,h3,_⟩:=h
 obtain ⟨m,rfl⟩:∃ m:Nat,n=m:=⟨n.toNat,by omega⟩
 refine ⟨m,rfl,by omega,by omega,?_⟩
 rw [←Int.natCast_mul] at h3
 exact Int.ofNat.inj h3
theorem clT_nat {m:Nat} (h:0<m) (ts:List Int):clT (m:Int) ts=tabs m h ts m:=by
 unfold clT
 rw [dif_pos (by simpa using h)]
 rfl
theorem clT_length {n:Int} {ts:List Int} (h:OkD n ts):(clT n ts).length=ts.length:=by
 obtain ⟨m,rfl,h0,hn,hl⟩:=may_nat h.1
 rw [clT_nat h0,tabs_length]
end Go.Proofs.YthmljpccbjolgaaGreatDoor.dbm
