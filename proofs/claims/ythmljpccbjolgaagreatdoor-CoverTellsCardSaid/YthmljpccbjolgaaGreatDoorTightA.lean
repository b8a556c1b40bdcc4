
/-
  Bounds more, put into a matrix: the weights, and what with, each and Set of package tight answer; each theorem names its conditions.
-/
import Derived.Test.YthmljpccbjolgaaGreatDoorDbmB
import Derived.Test.YthmljpccbjolgaaGreatDoorBase
import Derived.Test.YthmljpccbjolgaaGreatDoorDbmA
import Derived.Test.YthmljpccbjolgaaGreatDoorDbmE
namespace Go.Proofs.YthmljpccbjolgaaGreatDoor.way
set_option linter.unusedVariables false
theorem good_mono {d d':Tab} (h:∀ i j,le (d i j) (d' i j)) {k:Nat} (g:Good d k):Good d' k:=fun m hm i=>le_trans (g m hm i) (F_mono h m i i)
theorem F_id {D:Tab} {n:Nat} (h:Tri D n):∀ k,k≤n→∀ i j,F D k i j=D i j:=by
 intro k
 induction k with
 | zero=>intro _ i j;rfl
 | succ k ih=>
  intro hk i j
  have ih':=ih (by omega)
  show mn (F D k i j) (ad (F D k i k) (F D k k j))=_
  rw [ih',ih',ih']
  exact mn_eq_left (h k (by omega) i j)
def put (d:Tab) (x y:Nat) (v:B):Tab:=fun i j=>if i=x∧j=y then mn (d i j) v else d i j
theorem put_le (d:Tab) (x y:Nat) (v:B) (i j:Nat):le (put d x y v i j) (d i j):=by
 unfold put
 split
 ·exact mn_left _ _
 ·exact le_refl _
theorem put_at (d:Tab) (x y:Nat) (v:B):le (put d x y v x y) v:=by
 unfold put
 rw [if_pos ⟨rfl,rfl⟩]
 exact mn_right _ _
theorem le_put {d e:Tab} {x y:Nat} {v:B} (h:∀ i j,le (e i j) (d i j)) (k:le (e x y) v) (i j:Nat):le (e i j) (put d x y v i j):=by
 unfold put
 split
 ·rename_i p
  obtain ⟨rfl,rfl⟩:=p
  exact le_mn (h i j) k
 ·exact h i j
end Go.Proofs.YthmljpccbjolgaaGreatDoor.way
namespace Go.Proofs.YthmljpccbjolgaaGreatDoor.dbm
open num way
open bound hiding up
set_option linter.unusedVariables false
def lesT (ts us:List Int):List Int:=(List.range ts.length).map fun p=>lsr (ts[p]?.getD 0) (us[p]?.getD 0)
theorem lesT_length (ts us:List Int):(lesT ts us).length=ts.length:=by simp [lesT]
theorem lesT_at (ts us:List Int) {q:Nat} (hq:q<ts.length):(lesT ts us)[q]?.getD 0=lsr (ts[q]?.getD 0) (us[q]?.getD 0):=by
 unfold lesT
 rw [List.getElem?_map,List.getElem?_range hq];rfl
theorem lsr_is (a b:Int):lsr a b=a∨lsr a b=b:=by unfold lsr;split<;>simp
theorem list_at {ts us:List Int} (h:ts.length=us.length) (k:∀ p,p<ts.length→ts[p]?.getD 0=us[p]?.getD 0):ts=us:=by
 refine List.ext_getElem h fun p h1 h2=>?_
 have:=k p h1
 rwa [List.getElem?_eq_getElem h1,List.getElem?_eq_getElem h2] at this
theorem lsr_fine {a b:Int} (h:Fine a) (k:Fine b):Fine (lsr a b):=by rcases lsr_is a b with e | e<;>rw [e]<;>assumption
theorem lesT_may {n:Int} {ts us:List Int} (h:MayD n ts) (k:MayD n us):MayD n (lesT ts us):=by
 refine ⟨h.1,h.2.1,by rw [lesT_length];exact h.2.2.1,fun q hq=>?_⟩
 rw [lesT_length] at hq
 rw [lesT_at _ _ hq]
 exact lsr_fine (h.2.2.2 q hq) (k.2.2.2 q (by have:=h.2.2.1;have:=k.2.2.1;omega))
theorem tops_at {ts:List Int} (h:∀ p,p<ts.length→ts[p]?.getD 0≤9223372036854775807):Tops ts:=fun x hx=>by
 obtain ⟨p,hp,rfl⟩:=List.mem_iff_getElem.1 hx
 have:=h p hp
 rwa [List.getElem?_eq_getElem hp] at this
theorem at_top {ts:List Int} (h:Tops ts) {p:Nat} (hp:p<ts.length):ts[p]?.getD 0≤9223372036854775807:=by
 rw [List.getElem?_eq_getElem hp]
 exact h _ (List.getElem_mem hp)
theorem lesT_tops {ts:List Int} (h:Tops ts) (us:List Int):Tops (lesT ts us):=tops_at fun q hq=>by
 rw [lesT_length] at hq
 rw [lesT_at _ _ hq]
 exact Int.le_trans (lsr_le _ _).1 (at_top h hq)
theorem okD_good {n:Nat} {ts:List Int} (h0:0<n) (hn:n≤4) (hl:ts.length=n*n) (htop:Tops ts) (h:MayD n ts):OkD n ts↔way.Good (beg n ts) n:=by
 refine ⟨fun ⟨_,h0',hne⟩=>good_of h0 hn hl htop h.2.2.2 (fun k hk=>hne k (by simpa using hk)),fun g=>⟨h,by simpa using h0,fun k hk=>?_⟩⟩
 rw [show (n:Int).toNat=n from Int.toNat_natCast n] at hk
 show ¬ emp n (tabs n h0 ts k)
 induction k using Nat.strongRecOn with
 | _ k ih=>
  rintro ⟨i,hi,he⟩
  have e:=tabs_is h0 hn hl htop h.2.2.2 k hk (fun m hmk=>ih m hmk (by omega)) i i hi hi
  have:=g k hk i
  rw [←e] at this
  have:=(cod_le (by decide) (tat_top (tabs_tops h0 htop k) n i i)).1 (show le (cod 1) _ from this)
  omega
theorem beg_closed {n:Nat} {ts:List Int} (h0:0<n) (hn:n≤4) (hl:ts.length=n*n) (htop:Tops ts) (h:OkD n ts) (i j:Nat):beg n (tabs n h0 ts n) i j=F (beg n ts) n i j:=by
 have hne:∀ k,k≤n→¬ emp n (tabs n h0 ts k):=fun k hk=>h.2.2 k (by simpa using hk)
 by_cases hij:i<n∧j<n
 ·obtain ⟨hi,hj⟩:=hij
  rw [←tabs_is h0 hn hl htop h.1.2.2.2 n (Nat.le_refl _) (fun m hm=>hne m (by omega)) i j hi hj]
  have hl':(tabs n h0 ts n).length=n*n:=(tabs_length _ _ _ _).trans hl
  unfold beg
  rw [wts_in hi hj,beg_at hl' hn hi hj]
  by_cases e:i=j
  ·subst e
   rw [if_pos rfl,closed_diag h0 hn hl htop h.1.2.2.2 hne hi];rfl
  ·rw [if_neg e]
 ·have e1:beg n (tabs n h0 ts n) i j=none:=if_neg hij
  rw [e1]
  by_cases hi:i<n
  ·have hj:¬ j<n:=fun hj=>hij ⟨hi,hj⟩
   symm
   unfold beg
   generalize lows n ts n=us
   have:∀ k,∀ i,F (wts n us) k i j=none:=by
    intro k
    induction k with
    | zero=>intro i;exact wts_out2 hj
    | succ k ih=>
     intro i
     show mn (F (wts n us) k i j) (ad (F (wts n us) k i k) (F (wts n us) k k j))=none
     rw [ih,ih,ad_none];rfl
   exact this n i
  ·exact (F_out n hi).symm
theorem clT_tops {n:Int} {ts:List Int} (htop:Tops ts):Tops (clT n ts):=by
 unfold clT
 split
 ·exact tabs_tops _ htop _
 ·intro x hx;cases hx
end Go.Proofs.YthmljpccbjolgaaGreatDoor.dbm
namespace Go.Proofs.YthmljpccbjolgaaGreatDoor.tight
open Go.ChangeShapes Go.WideShapes Go.ChangeAt Go.RowKit num dbm
open bound hiding up
set_option linter.unusedVariables false
set_option linter.unusedSimpArgs false
def In (c:Int):Prop:=-288230376151711744≤c∧c≤288230376151711744
instance decIn (c:Int):Decidable (In c):=by unfold In;exact inferInstance
@[reducible] def spanV (lo:Int) (ls:Bool) (hi:Int) (hs op:Bool):Value:=.agg #[.int .i64 lo,.bool ls,.int .i64 hi,.bool hs,.bool op]
def MayS (lo hi:Int) (hs op:Bool):Prop:=In lo∧((op=true∧hi=0∧hs=false)∨(op=false∧In hi∧lo≤hi))
instance decMayS (lo hi:Int) (hs op:Bool):Decidable (MayS lo hi hs op):=by unfold MayS;exact inferInstance
end Go.Proofs.YthmljpccbjolgaaGreatDoor.tight
namespace Go.Proofs.YthmljpccbjolgaaGreatDoor.tight
open Go.ChangeShapes Go.WideShapes Go.ChangeAt Go.RowKit num dbm
open bound hiding up
set_option linter.unusedVariables false
set_option linter.unusedSimpArgs false
abbrev Mo:=Nat × Nat × Int
def Ans (n:Int) (ts:List Int) (na:Int) (us:List Int) (f:Int):Prop:=(¬ OkD n ts∧na=0∧us=[]∧f=if MayD n ts then 6 else 8)∨(OkD n ts∧na=n∧us=clT n ts∧f=0)
def Blk (n₀:Nat) (W:World) (aa:Option Addr) (la ca:Nat) (us:List Int):Prop:=(aa=none∧la=0∧ca=0∧us=[])∨∃ g,n₀≤g∧aa=some ⟨g,0,none⟩∧la=us.length∧lies.Lies W g 25 (cellsOf us)
theorem Blk.ints {n₀:Nat} {W:World} {aa:Option Addr} {la ca:Nat} {us:List Int} (h:Blk n₀ W aa la ca us):law.Ints W.heap.size W (.slice aa la ca) us:=by
 rcases h with ⟨rfl,rfl,rfl,rfl⟩ | ⟨g,hg,rfl,rfl,h⟩
 ·exact .inl ⟨⟨_,_,rfl,fun _=>rfl⟩,rfl⟩
 ·exact .inr ⟨g,0,_,rfl,lies.lt h,row_of h⟩
theorem close_g (n:Int) (sv:Value) (ts:List Int) (w:World) (hI:law.Ints w.heap.size w sv ts) (hm:ts.length≤1000000) (htop:Tops ts):
  Calls Tryz.prog 98 #[.agg #[.int .i64 n,sv]] w fun e w'=>Below w.heap.size w w'∧∃ na aa la ca us f,e=.returned (.tuple #[.agg #[.int .i64 na,.slice aa la ca],.int .i64 f])∧Ans n ts na us f∧Blk w.heap.size w' aa la ca us:=by
 by_cases h:MayD n ts
 ·obtain ⟨m,rfl,h0,hn,hl⟩:=may_nat h
  have hp:0<m*m:=Nat.mul_pos h0 h0
  rcases hI with ⟨_,rfl⟩ | ⟨b,off,cap,rfl,hb,hc⟩
  ·simp at hl;omega
  ·rw [hl]
   refine (close_ok m b off cap ts w h0 hc hb htop h hl hn).mono fun e w' ⟨hB,hor⟩=>⟨hB,?_⟩
   rcases hor with ⟨k,hk,hem,rfl⟩ | ⟨hne,g,hg,rfl,hG⟩
   ·exact ⟨0,none,0,0,[],6,rfl,.inl ⟨fun ⟨_,h0',hne⟩=>hne k (by simpa using hk) hem,rfl,rfl,by rw [if_pos h]⟩,.inl ⟨rfl,rfl,rfl,rfl⟩⟩
   ·refine ⟨m,_,_,_,tabs m h0 ts m,0,rfl,.inr ⟨⟨h,by simpa using h0,fun k hk=>hne k (by simpa using hk)⟩,rfl,(clT_nat h0 ts).symm,rfl⟩,.inr ⟨g,hg,rfl,?_,hG⟩⟩
    rw [tabs_length,hl]
 ·exact (close_bad n sv ts w hI hm htop h).mono fun e w' ⟨he,hB⟩=>⟨hB,0,none,0,0,[],8,he,.inl ⟨fun k=>h k.1,rfl,rfl,by rw [if_neg h]⟩,.inl ⟨rfl,rfl,rfl,rfl⟩⟩
end Go.Proofs.YthmljpccbjolgaaGreatDoor.tight
namespace Go.Proofs.YthmljpccbjolgaaGreatDoor.tight
open Go.ChangeShapes Go.WideShapes Go.ChangeAt Go.RowKit num dbm
open bound hiding up
set_option linter.unusedVariables false
set_option linter.unusedSimpArgs false
def Clk (n i:Int):Prop:=0≤i∧i<n
instance decClk (n i:Int):Decidable (Clk n i):=by unfold Clk;exact inferInstance
theorem own_far {w:World} {base n s:Nat} {t:TypeId} {v:Value} {xs:List Value} (h:w.ownsRow base t s v n xs) {p:Addr} (hp:p.block<base) (u:Value):(w.setCell p u).ownsRow base t s v n xs:=by
 refine h.kept (row:=some p.block) ⟨rfl,rfl,rfl,by simp,fun k hk hne=>Below.heap_setCell w p u k (fun e=>hne (by rw [e]))⟩ ?_
 cases hv:v.ownBlock with
 | none=>exact .inl rfl
 | some k=>exact .inr (fun e=>by have:=(h.lt k hv).1;have:=Option.some.inj e;omega)
theorem own_slice {W:World} {base n:Nat} {t:TypeId} {s:Nat} {v:Value} {xs:List Value} (h:W.ownsRow base t s v n xs):∃ a l c,v=.slice a l c:=by
 rcases Go.Joins.ownsRow_forms h with ⟨rfl,_⟩ | ⟨g,cap,rfl⟩
 ·exact ⟨_,_,_,rfl⟩
 ·exact ⟨_,_,_,rfl⟩
end Go.Proofs.YthmljpccbjolgaaGreatDoor.tight
