
/-
  Zones: pure mathematics, what comes in, array ==, Matrix, Cmp, Of of package zone; each theorem names its conditions.
-/
import Derived.Test.YthmljpccbjolgaaGreatDoorInclC
import Derived.Test.YthmljpccbjolgaaGreatDoorBase
import Derived.LaidMore
import Derived.MakeChecks
import Derived.FnData
import Derived.Stop.Joined
import Derived.Lib.SmallJoins
import Derived.Laws.StructEq
import Derived.Test.YthmljpccbjolgaaGreatDoorLawA
namespace Go.Proofs.YthmljpccbjolgaaGreatDoor.zone
open num dbm rat Go.Proofs.YthmljpccbjolgaaGreatDoor.tight Go.Proofs.YthmljpccbjolgaaGreatDoor.tkept Go.Proofs.YthmljpccbjolgaaGreatDoor.incl
open bound hiding up
set_option linter.unusedVariables false
set_option linter.unusedSimpArgs false
def fullT (z:List Int):List Int:=[1,z[1]?.getD 0,z[3]?.getD 0,z[0]?.getD 0,1,z[5]?.getD 0,z[2]?.getD 0,z[4]?.getD 0,1]
def shortT (t:List Int):List Int:=[t[3]?.getD 0,t[1]?.getD 0,t[6]?.getD 0,t[2]?.getD 0,t[7]?.getD 0,t[5]?.getD 0]
theorem full_length (z:List Int):(fullT z).length=9:=rfl
theorem six {z:List Int} (h:z.length=6):∃ a b c d e f,z=[a,b,c,d,e,f]:=by
 match z,h with
 | [a,b,c,d,e,f],_=>exact ⟨a,b,c,d,e,f,rfl⟩
theorem short_full {z:List Int} (h:z.length=6):shortT (fullT z)=z:=by
 obtain ⟨a,b,c,d,e,f,rfl⟩:=six h
 rfl
theorem full_short {t:List Int} (h:t.length=9) (d:∀ i,i<3→tat t 3 i i=1):fullT (shortT t)=t:=by
 match t,h,d with
 | [a,b,c,e,f,g,i,j,k],_,d=>
  have d0:a=1:=d 0 (by decide)
  have d1:f=1:=d 1 (by decide)
  have d2:k=1:=d 2 (by decide)
  subst d0 d1 d2
  rfl
theorem get_top {z:List Int} (h:Tops z) (i:Nat):z[i]?.getD 0≤9223372036854775807:=by
 have:=tat_top h 0 0 i
 unfold tat at this
 rwa [Nat.zero_mul,Nat.zero_add] at this
theorem full_tops {z:List Int} (h:Tops z):Tops (fullT z):=by
 have k0:=get_top h 0
 have k1:=get_top h 1
 have k2:=get_top h 2
 have k3:=get_top h 3
 have k4:=get_top h 4
 have k5:=get_top h 5
 intro x hx
 unfold fullT at hx
 simp only [List.mem_cons,List.not_mem_nil,or_false] at hx
 omega
theorem short_tops {t:List Int} (h:Tops t):Tops (shortT t):=by
 have k1:=get_top h 1
 have k2:=get_top h 2
 have k3:=get_top h 3
 have k5:=get_top h 5
 have k6:=get_top h 6
 have k7:=get_top h 7
 intro x hx
 unfold shortT at hx
 simp only [List.mem_cons,List.not_mem_nil,or_false] at hx
 omega
theorem one_fine:Fine 1:=.inr ⟨by decide,by decide⟩
theorem full_may {z:List Int} (h:∀ i,i<6→Fine (z[i]?.getD 0)):MayD 3 (fullT z):=by
 refine ⟨by decide,by decide,rfl,fun p hp=>?_⟩
 have hp:p<9:=hp
 have h0:=h 0 (by decide)
 have h1:=h 1 (by decide)
 have h2:=h 2 (by decide)
 have h3:=h 3 (by decide)
 have h4:=h 4 (by decide)
 have h5:=h 5 (by decide)
 rcases (by omega:p=0∨p=1∨p=2∨p=3∨p=4∨p=5∨p=6∨p=7∨p=8) with rfl | rfl | rfl | rfl | rfl | rfl | rfl | rfl | rfl
 ·exact one_fine
 ·exact h1
 ·exact h3
 ·exact h0
 ·exact one_fine
 ·exact h5
 ·exact h2
 ·exact h4
 ·exact one_fine
def MayZ (z:List Int):Prop:=OkD 3 (fullT z)∧clT 3 (fullT z)=fullT z
theorem MayZ.may {z:List Int} (h:MayZ z):MayD 3 (fullT z):=h.1.1
theorem closed_own {n:Int} {ts:List Int} (htop:Tops ts) (h:OkD n ts) (hm:MayD n (clT n ts)):OkD n (clT n ts)∧clT n (clT n ts)=clT n ts:=by
 obtain ⟨m,rfl,h0,hn,hl⟩:=may_nat h.1
 have hf:=h.1.2.2.2
 have hne:∀ k,k≤m→¬ emp m (tabs m h0 ts k):=fun k hk=>h.2.2 k (by simpa using hk)
 rw [clT_nat h0] at hm ⊢
 refine ⟨⟨hm,by simpa using h0,fun k hk=>?_⟩,?_⟩
 ·exact again_alive h0 hn hl htop hf hne hm.2.2.2 k (by simpa using hk)
 ·rw [clT_nat h0];exact again h0 hn hl htop hf hne hm.2.2.2 m (Nat.le_refl _)
theorem of_may {ts:List Int} (hl:ts.length=9) (htop:Tops ts) (h:OkD 3 ts) (hm:MayD 3 (clT 3 ts)):fullT (shortT (clT 3 ts))=clT 3 ts∧MayZ (shortT (clT 3 ts)):=by
 have e:fullT (shortT (clT 3 ts))=clT 3 ts:=full_short ((clT_length h).trans hl) fun i hi=>by
  rw [show clT 3 ts=tabs 3 (by decide) ts 3 from clT_nat (m:=3) (by decide) ts]
  exact closed_diag (by decide) (by decide) hl htop h.1.2.2.2 (fun m hm=>h.2.2 m (by simpa using hm)) hi
 refine ⟨e,?_⟩
 unfold MayZ
 rw [e]
 exact closed_own htop h hm
/-! one in another one -/
section
variable {a b:List Int} (la:a.length=6) (lb:b.length=6) (ta:Tops a) (tb:Tops b) (ha:MayZ a) (hb:MayZ b)
include ha in
include la lb ha hb in
include la ta tb ha hb in
end
/-! spans -/
abbrev Sp:=Int × Bool × Int × Bool × Bool
theorem fine_le {x:Int} (h:Fine x):x≤9223372036854775807:=by
 rcases h with h | h<;>omega
/-! times -/
theorem kp_own {a b:Int} (h:MayR a b):kpV a b a b 1=true:=by
 rw [kp_kB h h one_fine]
 refine .inr ?_
 rw [keptR_ge (by decide)]
 have e:(1:Int) / 2=0:=by decide
 rw [e,Int.zero_mul]
 omega
theorem kept_six {z:List Int} {a b c d:Int} (h:MayR a b) (k:MayR c d):keptAll 3 (fullT z) [(0,1),(a,b),(c,d)]↔
  kpV a b 0 1 (z[0]?.getD 0)=true∧kpV 0 1 a b (z[1]?.getD 0)=true∧kpV c d 0 1 (z[2]?.getD 0)=true∧kpV 0 1 c d (z[3]?.getD 0)=true∧kpV c d a b (z[4]?.getD 0)=true∧kpV a b c d (z[5]?.getD 0)=true:=by
 constructor
 ·intro q
  exact ⟨q 1 0 (by decide) (by decide),q 0 1 (by decide) (by decide),q 2 0 (by decide) (by decide),q 0 2 (by decide) (by decide),q 2 1 (by decide) (by decide),q 1 2 (by decide) (by decide)⟩
 ·rintro ⟨q0,q1,q2,q3,q4,q5⟩ i j hi hj
  rcases (by omega:i=0∨i=1∨i=2) with rfl | rfl | rfl<;>rcases (by omega:j=0∨j=1∨j=2) with rfl | rfl | rfl
  ·exact kp_own zero_may
  ·exact q1
  ·exact q3
  ·exact q0
  ·exact kp_own h
  ·exact q5
  ·exact q2
  ·exact q4
  ·exact kp_own k
theorem may_three {a b c d:Int} (h:MayR a b) (k:MayR c d):MayT [(0,1),(a,b),(c,d)]:=fun i hi=>by
 have hi:i<3:=hi
 rcases (by omega:i=0∨i=1∨i=2) with rfl | rfl | rfl
 ·exact zero_may
 ·exact h
 ·exact k
/-! which is ahead -/
def cmpL:List Int→List Int→Int
 | [],[]=>0
 | [],_::_=>-1
 | _::_,[]=>1
 | a::xs,b::ys=>if a<b then -1 else if b<a then 1 else cmpL xs ys
theorem cmp_in:∀ a b,cmpL a b=-1∨cmpL a b=0∨cmpL a b=1
 | [],[]=>by simp [cmpL]
 | [],_::_=>by simp [cmpL]
 | _::_,[]=>by simp [cmpL]
 | a::xs,b::ys=>by
  unfold cmpL
  split
  ·simp
  ·split
   ·simp
   ·exact cmp_in xs ys
theorem cmp_back:∀ a b,cmpL b a=-(cmpL a b)
 | [],[]=>rfl
 | [],_::_=>rfl
 | _::_,[]=>rfl
 | a::xs,b::ys=>by
  unfold cmpL
  by_cases h:a<b
  ·rw [if_pos h,if_neg (by omega),if_pos h];rfl
  ·rw [if_neg h]
   by_cases k:b<a
   ·rw [if_pos k,if_pos k,if_neg h]
   ·rw [if_neg k,if_neg k,if_neg h];exact cmp_back xs ys
theorem cmp_zero:∀ a b,cmpL a b=0↔a=b
 | [],[]=>by simp [cmpL]
 | [],_::_=>by simp [cmpL]
 | _::_,[]=>by simp [cmpL]
 | a::xs,b::ys=>by
  unfold cmpL
  by_cases h:a<b
  ·rw [if_pos h]
   refine ⟨fun k=>absurd k (by decide),fun k=>?_⟩
   injection k with k1 k2
   omega
  ·rw [if_neg h]
   by_cases k:b<a
   ·rw [if_pos k]
    refine ⟨fun k=>absurd k (by decide),fun j=>?_⟩
    injection j with k1 k2
    omega
   ·rw [if_neg k,cmp_zero xs ys]
    have e:a=b:=by omega
    subst e
    simp
theorem cmp_trans:∀ a b c,cmpL a b≤0→cmpL b c≤0→cmpL a c≤0
 | [],b,c,_,_=>by cases c<;>simp [cmpL]
 | _::_,[],c,h,_=>by simp [cmpL] at h
 | a::xs,b::ys,[],_,k=>by simp [cmpL] at k
 | a::xs,b::ys,c::vs,h,k=>by
  unfold cmpL at h k ⊢
  by_cases h1:a<b
  ·rw [if_pos h1] at h
   by_cases k1:b<c
   ·rw [if_pos (by omega)];decide
   ·rw [if_neg k1] at k
    by_cases k2:c<b
    ·rw [if_pos k2] at k;exact absurd k (by decide)
    ·rw [if_pos (by omega)];decide
  ·rw [if_neg h1] at h
   by_cases h2:b<a
   ·rw [if_pos h2] at h;exact absurd h (by decide)
   ·rw [if_neg h2] at h
    by_cases k1:b<c
    ·rw [if_pos (by omega)];decide
    ·rw [if_neg k1] at k
     by_cases k2:c<b
     ·rw [if_pos k2] at k;exact absurd k (by decide)
     ·rw [if_neg k2] at k
      rw [if_neg (by omega),if_neg (by omega)]
      exact cmp_trans xs ys vs h k
end Go.Proofs.YthmljpccbjolgaaGreatDoor.zone
namespace Go.Proofs.YthmljpccbjolgaaGreatDoor.zopen
open Go.Joins Go.ChangeShapes Go.WideShapes Go.ChangeAt Go.RowKit
set_option linter.unusedVariables false
set_option linter.unusedSimpArgs false
theorem array_six {α:Type} {a:Array α} (h:a.size=6):∃ c0 c1 c2 c3 c4 c5,a=#[c0,c1,c2,c3,c4,c5]:=by
 obtain ⟨l⟩:=a
 match l,h with
 | [c0,c1,c2,c3,c4,c5],_=>exact ⟨c0,c1,c2,c3,c4,c5,rfl⟩
set_option maxRecDepth 100000 in
theorem open_zone {H:Type} {enc:TypeId × Value→H} {W:World} {v:Value} {d:DataW H} {p:List MemPlace} {base:Nat}
  (hok:Value.okWide Tryz.prog W .any base 27 v) (h:DataW.Trod enc Tryz.prog W 0 (fun _=>true) true 27 v d p):
  ∃ z0 z1 z2 z3 z4 z5:Int,v=.agg #[.int .i64 z0,.int .i64 z1,.int .i64 z2,.int .i64 z3,.int .i64 z4,.int .i64 z5]∧∀ x ∈ [z0,z1,z2,z3,z4,z5],(Lit.int .i64 x).wf=true:=by
 have c1:Tryz.prog.cellsOf 25=1:=by kernel_rfl
 have c6:Tryz.prog.cellsOf 27=6:=by kernel_rfl
 simp only [Value.okWide,Tryz.underlying27] at hok
 obtain ⟨cs,rfl,hsz,_⟩:=hok
 obtain ⟨y0,y1,y2,y3,y4,y5,rfl⟩:=array_six (hsz.trans c6)
 obtain ⟨fuel,hf⟩:=h
 obtain ⟨xs,m,_,_,_,hn,hel⟩:=DataW.trod_array Tryz.underlying27 hf
 rw [c1] at hel
 match xs,hn with
 | [x0,x1,x2,x3,x4,x5],_=>
  have h0:=hel 0 (by decide)
  have h1:=hel 1 (by decide)
  have h2:=hel 2 (by decide)
  have h3:=hel 3 (by decide)
  have h4:=hel 4 (by decide)
  have h5:=hel 5 (by decide)
  simp [Value.cells] at h0 h1 h2 h3 h4 h5
  obtain ⟨a0,e0,_,w0⟩:=DataW.trod_int Tryz.underlying25 h0
  obtain ⟨a1,e1,_,w1⟩:=DataW.trod_int Tryz.underlying25 h1
  obtain ⟨a2,e2,_,w2⟩:=DataW.trod_int Tryz.underlying25 h2
  obtain ⟨a3,e3,_,w3⟩:=DataW.trod_int Tryz.underlying25 h3
  obtain ⟨a4,e4,_,w4⟩:=DataW.trod_int Tryz.underlying25 h4
  obtain ⟨a5,e5,_,w5⟩:=DataW.trod_int Tryz.underlying25 h5
  simp only [List.cons.injEq,and_true] at e0 e1 e2 e3 e4 e5
  subst e0 e1 e2 e3 e4 e5
  refine ⟨a0,a1,a2,a3,a4,a5,rfl,fun x hx=>?_⟩
  simp only [List.mem_cons,List.not_mem_nil,or_false] at hx
  rcases hx with rfl | rfl | rfl | rfl | rfl | rfl<;>assumption
/-! the listed variable -/
def places {H:Type}:List (String × DataW H):=[("rallentando/zone.places",Rows.laid_rallentando_zone_places)]
theorem gPlaces:Tryz.prog.globalNamed "rallentando/zone.places" =some 1:=by kernel_rfl
theorem tPlaces:(Tryz.prog.globals[1]?).map (·.type)=some 114:=by kernel_rfl
theorem door_met (os:Os) (args:Array Value):laidMetH Tryz.prog places ((World.doorLaid Tryz.prog 400 os).forCall (fun _ _=>0) ⟨#[],args,[]⟩).memory:=
 laidMetH_of_parts3 (fuel:=8) (laidMet_of_run' 8 (by kernel_rfl) (by kernel_rfl)) (by kernel_rfl) (by kernel_rfl)
theorem take_one {α:Type} {l:List α} {i:Nat} {c:α} (h:(l.drop (i*1)).take 1=[c]):l[i]?=some c:=by
 rw [Nat.mul_one] at h
 have:=congrArg (fun x=>x[0]?) h
 simpa using this
theorem int_cell {W:World} {cs:Array Value} {m i:Nat} {k:Int} {x:DataW Unit × List MemPlace} (hv:W.var? Tryz.prog "rallentando/zone.places" =some cs)
  (h:DataW.trod (fun _=>()) Tryz.prog W 0 (fun _=>true) false m 3 ((cs.toList.drop (i*1)).take 1)=some x) (hx:x.1=.lit (.int .i64 k)):W.cell? ⟨1,i,none⟩=some (.int .i64 k):=by
 obtain ⟨j,e1,rfl,_⟩:=DataW.trod_int Tryz.underlying3 h
 obtain rfl:j=k:=by simpa using hx
 rw [World.var?_cell gPlaces hv i,←Array.getElem?_toList]
 exact take_one e1
set_option maxRecDepth 100000 in
theorem cells_of {W:World} {cs:Array Value} {f:Nat} {p:List MemPlace} (hv0:W.var? Tryz.prog "rallentando/zone.places" =some cs) (hd0:DataW.trod (fun _=>()) Tryz.prog W 0 (fun _=>true) false f 114 cs.toList=some (Rows.laid_rallentando_zone_places,p)):W.cell? ⟨1,0,none⟩=some (.int .i64 3)∧W.cell? ⟨1,1,none⟩=some (.int .i64 1)∧W.cell? ⟨1,2,none⟩=some (.int .i64 6)∧W.cell? ⟨1,3,none⟩=some (.int .i64 2)∧W.cell? ⟨1,4,none⟩=some (.int .i64 7)∧W.cell? ⟨1,5,none⟩=some (.int .i64 5):=by
 have c1:Tryz.prog.cellsOf 3=1:=by kernel_rfl
 obtain ⟨xs,m,_,hx,_,hn,hel⟩:=DataW.trod_array Tryz.underlying114 hd0
 rw [c1] at hel
 match xs,hn with
 | [x0,x1,x2,x3,x4,x5],_=>
  have hd:(Rows.laid_rallentando_zone_places:DataW Unit)=.agg [x0.1,x1.1,x2.1,x3.1,x4.1,x5.1]:=congrArg Prod.fst hx
  unfold Rows.laid_rallentando_zone_places at hd
  injection hd with hd
  simp only [List.cons.injEq,and_true] at hd
  obtain ⟨d0,d1,d2,d3,d4,d5⟩:=hd
  exact ⟨int_cell hv0 (hel 0 (by decide)) d0.symm,int_cell hv0 (hel 1 (by decide)) d1.symm,int_cell hv0 (hel 2 (by decide)) d2.symm,int_cell hv0 (hel 3 (by decide)) d3.symm,int_cell hv0 (hel 4 (by decide)) d4.symm,int_cell hv0 (hel 5 (by decide)) d5.symm⟩
theorem of_laid {W:World} (h:laidMetH Tryz.prog places W):W.cell? ⟨1,0,none⟩=some (.int .i64 3)∧W.cell? ⟨1,1,none⟩=some (.int .i64 1)∧W.cell? ⟨1,2,none⟩=some (.int .i64 6)∧W.cell? ⟨1,3,none⟩=some (.int .i64 2)∧W.cell? ⟨1,4,none⟩=some (.int .i64 7)∧W.cell? ⟨1,5,none⟩=some (.int .i64 5):=by
 rw [MakeChecks.laidMetH_plain _ _ _ (by kernel_rfl)] at h
 obtain ⟨ps,⟨g0,t0,cs0,f0,p0,q0,hg0,ht0,hv0,hd0,_,_⟩,_,_⟩:=h
 obtain rfl:=Option.some.inj (gPlaces.symm.trans hg0)
 obtain rfl:=Option.some.inj (tPlaces.symm.trans ht0)
 exact cells_of hv0 hd0
def Pl (W:World):Prop:=1<W.heap.size∧W.cell? ⟨1,0,none⟩=some (.int .i64 3)∧W.cell? ⟨1,1,none⟩=some (.int .i64 1)∧W.cell? ⟨1,2,none⟩=some (.int .i64 6)∧W.cell? ⟨1,3,none⟩=some (.int .i64 2)∧W.cell? ⟨1,4,none⟩=some (.int .i64 7)∧W.cell? ⟨1,5,none⟩=some (.int .i64 5)
theorem Pl.below {n:Nat} {W X:World} (h:Pl W) (k:RowKit.Below n W X) (hn:1<n):Pl X:=by
 obtain ⟨h0,h1,h2,h3,h4,h5,h6⟩:=h
 exact ⟨Nat.lt_of_lt_of_le h0 k.size,(k.cell (p:=⟨1,0,none⟩) hn).trans h1,(k.cell (p:=⟨1,1,none⟩) hn).trans h2,(k.cell (p:=⟨1,2,none⟩) hn).trans h3,(k.cell (p:=⟨1,3,none⟩) hn).trans h4,(k.cell (p:=⟨1,4,none⟩) hn).trans h5,(k.cell (p:=⟨1,5,none⟩) hn).trans h6⟩
theorem Pl.on {W X:World} (h:Pl W) (k:RowKit.Below W.heap.size W X):Pl X:=h.below k h.1
theorem pl_of {W:World} (k:W.cell? ⟨1,0,none⟩=some (.int .i64 3)∧W.cell? ⟨1,1,none⟩=some (.int .i64 1)∧W.cell? ⟨1,2,none⟩=some (.int .i64 6)∧W.cell? ⟨1,3,none⟩=some (.int .i64 2)∧W.cell? ⟨1,4,none⟩=some (.int .i64 7)∧W.cell? ⟨1,5,none⟩=some (.int .i64 5)):Pl W:=by
 refine ⟨Decidable.byContradiction fun hn=>?_,k⟩
 have e:W.heap[1]?=none:=Array.getElem?_eq_none (Nat.le_of_not_lt hn)
 have:=k.1
 simp [World.cell?,e] at this
theorem laid_pl {W:World} (h:laidMetH Tryz.prog places W):Pl W:=pl_of (of_laid h)
end Go.Proofs.YthmljpccbjolgaaGreatDoor.zopen
namespace Go.Proofs.YthmljpccbjolgaaGreatDoor.zopen
open Go.ChangeShapes Go.WideShapes Go.ChangeAt Go.RowKit
set_option linter.unusedVariables false
set_option linter.unusedSimpArgs false
set_option maxRecDepth 100000 in
set_option maxHeartbeats 4000000 in
theorem eq_zone (a0 a1 a2 a3 a4 a5 b0 b1 b2 b3 b4 b5:Int) (w:World):(Op.equalIn 10000 27 (.agg #[.int .i64 a0,.int .i64 a1,.int .i64 a2,.int .i64 a3,.int .i64 a4,.int .i64 a5]) (.agg #[.int .i64 b0,.int .i64 b1,.int .i64 b2,.int .i64 b3,.int .i64 b4,.int .i64 b5])).run Tryz.prog w=.ok (decide ([a0,a1,a2,a3,a4,a5]=[b0,b1,b2,b3,b4,b5])) w:=by
 have u3:=Tryz.underlying25
 have a3':=Tryz.isAgg25
 have z3:=Tryz.sizeOf25
 rw [show (10000:Nat)=9999+1 from rfl,Op.equalIn]
 simp only [Sem.run_bind,run_underlying Tryz.underlying27,Result.andThen_ok]
 simp only [Std.Legacy.Range.forIn_eq_forIn_range',Std.Legacy.Range.size,Nat.sub_zero,Nat.add_sub_cancel,Nat.div_one,List.range'_succ,List.range'_zero,List.forIn_cons,List.forIn_nil]
 go_simp
 by_cases h0:a0=b0
 ·by_cases h1:a1=b1
  ·by_cases h2:a2=b2
   ·by_cases h3:a3=b3
    ·by_cases h4:a4=b4
     ·by_cases h5:a5=b5
      ·simp [h0,h1,h2,h3,h4,h5]
      ·simp [h0,h1,h2,h3,h4,h5]
     ·simp [h0,h1,h2,h3,h4]
    ·simp [h0,h1,h2,h3]
   ·simp [h0,h1,h2]
  ·simp [h0,h1]
 ·simp [h0]
end Go.Proofs.YthmljpccbjolgaaGreatDoor.zopen
namespace Go.Proofs.YthmljpccbjolgaaGreatDoor.zone
open Go.Joins Go.ChangeShapes Go.WideShapes Go.ChangeAt Go.RowKit num rat dbm Go.Proofs.YthmljpccbjolgaaGreatDoor.tight Go.Proofs.YthmljpccbjolgaaGreatDoor.incl Go.Proofs.YthmljpccbjolgaaGreatDoor.plaw Go.Proofs.YthmljpccbjolgaaGreatDoor.zopen
open bound hiding up
set_option linter.unusedVariables false
set_option linter.unusedSimpArgs false
theorem index_six (z0 z1 z2 z3 z4 z5:Int) (p:Nat) (hp:p<6) (W:World):(Instr.index 27 (.agg #[.int .i64 z0,.int .i64 z1,.int .i64 z2,.int .i64 z3,.int .i64 z4,.int .i64 z5]) (.int .i64 p)).run Tryz.prog W=.ok (.int .i64 ([z0,z1,z2,z3,z4,z5][p]?.getD 0)) W:=by
 rcases (by omega:p=0∨p=1∨p=2∨p=3∨p=4∨p=5) with rfl | rfl | rfl | rfl | rfl | rfl<;>kernel_rfl
theorem top3_is (w:World):Calls Tryz.prog 93 #[.int .i64 3] w fun e w'=>Below w.heap.size w w'∧∃ g,w.heap.size≤g∧e=.returned (.tuple #[.agg #[.int .i64 3,.slice (some ⟨g,0,none⟩) 9 9],.int .i64 0])∧lies.Lies w' g 25 (cellsOf [1,9223372036854775807,9223372036854775807,9223372036854775807,1,9223372036854775807,9223372036854775807,9223372036854775807,1]):=by
 refine (top_ok 3 w (by decide) (by decide)).mono fun e w' h=>?_
 obtain ⟨hB,g,hg,he,hL⟩:=h
 have e1:topT 3 (by decide)=[1,9223372036854775807,9223372036854775807,9223372036854775807,1,9223372036854775807,9223372036854775807,9223372036854775807,1]:=by decide+kernel
 rw [e1] at hL
 exact ⟨hB,g,hg,he,hL⟩
def plc (p:Nat):Nat:=[3,1,6,2,7,5][p]?.getD 0
theorem plc_lt {p:Nat} (h:p<6):plc p<9:=by
 rcases (by omega:p=0∨p=1∨p=2∨p=3∨p=4∨p=5) with rfl | rfl | rfl | rfl | rfl | rfl<;>decide
theorem pl_cell {W:World} {p:Nat} (h:Pl W) (hp:p<6):W.cell? ⟨1,p,none⟩=some (.int .i64 (plc p:Int)):=by
 obtain ⟨_,h1,h2,h3,h4,h5,h6⟩:=h
 rcases (by omega:p=0∨p=1∨p=2∨p=3∨p=4∨p=5) with rfl | rfl | rfl | rfl | rfl | rfl
 ·exact h1
 ·exact h2
 ·exact h3
 ·exact h4
 ·exact h5
 ·exact h6
def partT (z:List Int):Nat→List Int
 | 0=>[1,9223372036854775807,9223372036854775807,9223372036854775807,1,9223372036854775807,9223372036854775807,9223372036854775807,1]
 | p+1=>(partT z p).set (plc p) (z[p]?.getD 0)
theorem partT_length (z:List Int):∀ p,(partT z p).length=9
 | 0=>rfl
 | p+1=>by unfold partT;rw [List.length_set];exact partT_length z p
def MatR (z:List Int) (na:Int) (us:List Int) (f:Int):Prop:=(MayD 3 (fullT z)∧na=3∧us=fullT z∧f=0)∨(¬ MayD 3 (fullT z)∧na=0∧us=[]∧f=8)
def Mx (g T:Nat) (us:List Int) (w W:World):Prop:=
 lies.Lies W (w.heap.size+1) 81 #[.int .i64 0,.slice none 0 0]∧lies.Lies W T 81 #[.int .i64 3,.slice (some ⟨g,0,none⟩) 9 9]∧lies.Lies W g 25 (cellsOf us)∧Below w.heap.size w W∧Pl W
theorem Mx.below {g T:Nat} {us:List Int} {w W X:World} (h:Mx g T us w W) (k:Below W.heap.size W X):Mx g T us w X:=
 ⟨lies.on_call h.1 k,lies.on_call h.2.1 k,lies.on_call h.2.2.1 k,h.2.2.2.1.trans (k.mono h.2.2.2.1.size),h.2.2.2.2.on k⟩
set_option maxRecDepth 100000 in
set_option maxHeartbeats 8000000 in
theorem matrix_any (z0 z1 z2 z3 z4 z5:Int) (w:World) (hP:Pl w) (htop:Tops [z0,z1,z2,z3,z4,z5]):
  Calls Tryz.prog 53 #[.agg #[.int .i64 z0,.int .i64 z1,.int .i64 z2,.int .i64 z3,.int .i64 z4,.int .i64 z5]] w fun e w'=>Below w.heap.size w w'∧∃ na aa la ca us f,e=.returned (.tuple #[.agg #[.int .i64 na,.slice aa la ca],.int .i64 f])∧MatR [z0,z1,z2,z3,z4,z5] na us f∧Blk w.heap.size w' aa la ca us:=by
 have HT:=Lib.hid (full_tops htop)
 have DB:=bound.up2 w (.cells #[.int .i64 z0,.int .i64 z1,.int .i64 z2,.int .i64 z3,.int .i64 z4,.int .i64 z5] 27) (.cells #[.int .i64 0,.slice none 0 0] 81)
 have D1:=lies.made_at (w.alloc (.cells #[.int .i64 z0,.int .i64 z1,.int .i64 z2,.int .i64 z3,.int .i64 z4,.int .i64 z5] 27)) 81 #[.int .i64 0,.slice none 0 0] (w.heap.size+1) (by simp)
 have D0:=lies.on_alloc (lies.made w 27 #[.int .i64 z0,.int .i64 z1,.int .i64 z2,.int .i64 z3,.int .i64 z4,.int .i64 z5]) (.cells #[.int .i64 0,.slice none 0 0] 81)
 have PB:=hP.on DB
 have HP:=Lib.hid hP
 clear htop hP
 go_enter Tryz.func53,Tryz.ntmps53
 go_wp2_with fail
 refine (top3_is _).mono ?_
 rintro e w2 ⟨hB2,g,hg2,rfl,hG⟩
 have E0:=lies.on_call D0 hB2
 have E1:=lies.on_call D1 hB2
 have K2:=DB.trans (hB2.mono DB.size)
 have P2:=PB.on hB2
 have hw1:=lies.lt E1
 clear D0 D1 hB2 PB
 have f0:=lies.cell E0 0
 have f1:=lies.cell E0 1
 have f2:=lies.cell E0 2
 have f3:=lies.cell E0 3
 have f4:=lies.cell E0 4
 have f5:=lies.cell E0 5
 have f6:=lies.lt E0
 have W0:Mx g w2.heap.size (partT [z0,z1,z2,z3,z4,z5] 0) w (w2.alloc (.cells #[.int .i64 3,.slice (some ⟨g,0,none⟩) 9 9] 81)):=
  ⟨lies.on_alloc E1 _,lies.made _ _ _,lies.on_alloc hG _,K2.alloc K2.size _,P2.on (bound.up1 w2 _)⟩
 have hgT:g≠w2.heap.size:=by have:=lies.lt hG;omega
 have hg1:w.heap.size+1<g:=by simp at hg2;omega
 have hT1:w.heap.size+1<w2.heap.size:=by omega
 have hw0:1<w.heap.size:=HP.out.1
 clear E1 K2 hG hw1 DB hg2 P2
 go_wp2_with fail
 clear f0 f1 f2 f3 f4 f5 f6 E0
 generalize w2.heap.size=T at W0 hgT hT1 ⊢
 generalize w2.alloc (.cells #[.int .i64 3,.slice (some ⟨g,0,none⟩) 9 9] 81)=w3 at W0 ⊢
 go_loopw [14] (fun i wr=>∃ p:Nat,p≤6∧i=.int .i64 p∧Mx g T (partT [z0,z1,z2,z3,z4,z5] p) w wr) (fun i _=>6 - (intOf i).toNat)
 case atStart=>exact ⟨0,Nat.zero_le _,rfl,W0⟩
 case round=>
  clear W0
  obtain ⟨p,hp,rfl,hA⟩:=hrel
  by_cases hp6:p<6
  ·obtain ⟨c0,c1,c2,c3,c4⟩:=lies.two hA.2.1
   have hix:=index_six z0 z1 z2 z3 z4 z5 p hp6 wr
   have HX:=Lib.hid (show partT [z0,z1,z2,z3,z4,z5] (p+1)=(partT [z0,z1,z2,z3,z4,z5] p).set (plc p) ([z0,z1,z2,z3,z4,z5][p]?.getD 0) from rfl)
   have hln:=partT_length [z0,z1,z2,z3,z4,z5] p
   have hq9:=plc_lt hp6
   have HC:=Lib.hid (fun (W:World) (h:Pl W)=>pl_cell h hp6)
   generalize partT [z0,z1,z2,z3,z4,z5] p=us at hA hln HX
   generalize [z0,z1,z2,z3,z4,z5][p]?.getD 0=x at hix HX
   generalize plc p=q at HX hq9 HC
   have HLN:=Lib.hid hln
   have hqi:(q:Int)<9:=by omega
   clear hln
   go_wp2_with fail
   clear c0 c1 c2 c3 c4 hix
   have S0:∀ (vs:List Int) W,Mx g T vs w W→W.cell? ⟨T,1,none⟩=some (.slice (some ⟨g,0,none⟩) 9 9)∧W.cell? ⟨1,p,none⟩=some (.int .i64 q):=fun vs W hW=>⟨(lies.pair hW.2.1).2,HC.out W hW.2.2.2.2⟩
   have A3:=hA.below (dbm.drawn1 (Below.refl wr.heap.size wr))
   have HS0:=Lib.hid S0
   have hs3:=S0 _ _ A3
   have hgg:=lies.lt hA.2.2.1
   have h00:=hA.2.2.2.2.1
   clear S0
   refine wp_region_held_drew (S:=fun W=>W.cell? ⟨T,1,none⟩=some (.slice (some ⟨g,0,none⟩) 9 9)∧W.cell? ⟨1,p,none⟩=some (.int .i64 q)) (by kernel_rfl) hs3 (fun hHeld=>?_)
   clear hs3
   refine tk 0 (v:=?_) rfl hHeld ?_ ?_
   rotate_left
   ·intro w hSw;obtain ⟨s1,s2⟩:=hSw;go_simp;try with_reducible rfl
   try simp only [Act.put,sA,sB,sC,sD,sE,sF]
   refine tk 1 (v:=?_) rfl hHeld ?_ ?_
   rotate_left
   ·intro w hSw;obtain ⟨s1,s2⟩:=hSw;go_simp;try with_reducible rfl
   try simp only [Act.put,sA,sB,sC,sD,sE,sF]
   refine tk 2 (v:=?_) rfl hHeld ?_ ?_
   rotate_left
   ·intro w hSw;obtain ⟨s1,s2⟩:=hSw;go_simp;try with_reducible rfl
   try simp only [Act.put,sA,sB,sC,sD,sE,sF]
   refine tk 3 (v:=?_) rfl hHeld ?_ ?_
   rotate_left
   ·intro w hSw;obtain ⟨s1,s2⟩:=hSw;go_simp;try with_reducible rfl
   try simp only [Act.put,sA,sB,sC,sD,sE,sF]
   refine tk 4 (v:=?_) rfl hHeld ?_ ?_
   rotate_left
   ·intro w hSw;obtain ⟨s1,s2⟩:=hSw;go_simp;try with_reducible rfl
   try simp only [Act.put,sA,sB,sC,sD,sE,sF]
   refine tk 5 (v:=?_) rfl hHeld ?_ ?_
   rotate_left
   ·intro w hSw;obtain ⟨s1,s2⟩:=hSw;go_simp;try with_reducible rfl
   try simp only [Act.put,sA,sB,sC,sD,sE,sF]
   refine tk 6 (v:=?_) rfl hHeld ?_ ?_
   rotate_left
   ·intro w hSw;obtain ⟨s1,s2⟩:=hSw;go_simp;try with_reducible rfl
   try simp only [Act.put,sA,sB,sC,sD,sE,sF]
   have hcell:=(lies.cell hA.2.2.1 q).trans (cells_at us q (by rw [HLN.out];exact hq9))
   have hfree:=lies.free hA.2.2.1 q
   refine wpAnyH_ready (rs:=[7]) (by kernel_rfl) (by simp) (AllReadyH.cons rfl (fun K hK=>?_) AllReadyH.nil)
   go_simp
   have A4:Mx g T (us.set q x) w (wr.setCell ⟨g,q,none⟩ (.int .i64 x)).drew:=by
    have Pt:=lies.on_put hA.2.2.1 q (.int .i64 x)
    rw [cells_set] at Pt
    have D:=fun {bb:Nat} {t:TypeId} {cs:Array Value} (h:lies.Lies wr bb t cs) (hne:bb≠g)=>lies.on_call (lies.on_far h q hne (.int .i64 x)) (dbm.drawn1 (Below.refl _ _))
    have hBg:=hA.2.2.2.1
    exact ⟨D hA.1 (by omega),D hA.2.1 (Ne.symm hgT),lies.on_call Pt (dbm.drawn1 (Below.refl _ _)),dbm.drawn1 (hA.2.2.2.1.setCell (p:=⟨g,q,none⟩) (by dsimp only;omega) _),hA.2.2.2.2.below (dbm.drawn1 ((Below.refl w.heap.size wr).setCell (p:=⟨g,q,none⟩) (by dsimp only;omega) _)) (Nat.lt_of_lt_of_le hw0 (Nat.le_refl _))⟩
   refine hK.out _ _ (HS0.out _ _ A4) (fun hNew=>?_)
   clear hHeld hK K hNew HS0 hcell hfree hA A3
   refine wpAnyH_done (by kernel_rfl) ?_ _
   generalize (wr.setCell ⟨g,q,none⟩ (.int .i64 x)).drew=w6 at A4 ⊢
   go_wp2_with fail
   go_roundw
   case rel=>exact ⟨p+1,by omega,by go_num,by rw [HX.out];exact A4⟩
   case measure=>simp [intOf];omega
  ·obtain rfl:p=6:=by omega
   have hT6:partT [z0,z1,z2,z3,z4,z5] 6=fullT [z0,z1,z2,z3,z4,z5]:=rfl
   rw [hT6] at hA
   obtain ⟨c0,c1,c2,c3,c4⟩:=lies.two hA.2.1
   obtain ⟨x0,x1,x2,x3,x4⟩:=lies.two hA.1
   have hI:law.Ints wr.heap.size wr (.slice (some ⟨g,0,none⟩) 9 9) (fullT [z0,z1,z2,z3,z4,z5]):=dlaw.own_ints (cap:=9) hA.2.2.1
   go_wp2_with fail
   clear c0 c1 c2 c3 c4 x0 x1 x2 x3 x4
   by_cases hm:MayD 3 (fullT [z0,z1,z2,z3,z4,z5])
   ·refine (check_ok 3 _ _ _ hI HT.out hm).mono ?_
    rintro e w7 ⟨rfl,hB⟩
    have A7:=hA.below hB
    have HM:=Lib.hid hm
    clear hA hB hI hm
    obtain ⟨c0,c1,c2,c3,c4⟩:=lies.two A7.2.1
    obtain ⟨x0,x1,x2,x3,x4⟩:=lies.two A7.1
    go_wp2_with fail
    refine bodyPost_ret (v:=.tuple #[.agg #[.int .i64 3,.slice (some ⟨g,0,none⟩) 9 9],.int .i64 0]) (by simp [results,Tryz.results53,go_sem,x0,x1,x4]) rfl ⟨dref.ret_res A7.2.2.2.1 (by omega) _ _,3,some ⟨g,0,none⟩,9,9,_,0,rfl,.inl ⟨HM.out,rfl,rfl,rfl⟩,.inr ⟨g,by omega,rfl,rfl,lies.on_far (lies.on_far A7.2.2.1 (b:=w.heap.size+1) 0 (by omega) _) (b:=w.heap.size+1) 1 (by omega) _⟩⟩
   ·refine (check_no 3 _ _ _ hI (show 9≤1000000 by decide) HT.out hm).mono ?_
    rintro e w7 ⟨rfl,hB⟩
    have A7:=hA.below hB
    have HM:=Lib.hid hm
    clear hA hB hI hm
    obtain ⟨x0,x1,x2,x3,x4⟩:=lies.two A7.1
    go_wp2_with fail
    refine bodyPost_ret (v:=.tuple #[.agg #[.int .i64 0,.slice none 0 0],.int .i64 8]) (by simp [results,Tryz.results53,go_sem,x0,x1,x4]) rfl ⟨dref.ret_res A7.2.2.2.1 (by omega) _ _,0,none,0,0,_,8,rfl,.inr ⟨HM.out,rfl,rfl,rfl⟩,.inl ⟨rfl,rfl,rfl,rfl⟩⟩
end Go.Proofs.YthmljpccbjolgaaGreatDoor.zone
namespace Go.Proofs.YthmljpccbjolgaaGreatDoor.zone
open Go.Joins Go.ChangeShapes Go.WideShapes Go.ChangeAt Go.RowKit num rat dbm Go.Proofs.YthmljpccbjolgaaGreatDoor.zopen
open bound hiding up
set_option linter.unusedVariables false
set_option linter.unusedSimpArgs false
theorem nan_is (x:Int) (w:World):Calls Tryz.prog 183 #[.int .i64 x] w fun e w'=>e=.returned (.bool false)∧w=w':=by
 have t:(x !=x)=false:=by simp
 go_enter Tryz.func183,Tryz.ntmps183
 go_wp2
 go_ret
 exact ⟨rfl,rfl⟩
def cmp1 (x y:Int):Int:=if x<y then -1 else if y<x then 1 else 0
theorem compare1_is (x y:Int) (w:World):Calls Tryz.prog 131 #[.int .i64 x,.int .i64 y] w fun e w'=>e=.returned (.int .i64 (cmp1 x y))∧w=w':=by
 have c1:=Lib.hid (nan_is x w)
 have c2:=Lib.hid (nan_is y w)
 unfold cmp1
 by_cases h:x<y
 ·rw [if_pos h]
  go_enter Tryz.func131,Tryz.ntmps131
  go_wp2_with fail
  refine c1.out.mono ?_
  rintro e w' ⟨rfl,rfl⟩
  go_wp2_with fail
  refine c2.out.mono ?_
  rintro e w' ⟨rfl,rfl⟩
  go_wp2_with fail
  go_ret
  exact ⟨rfl,rfl⟩
 ·rw [if_neg h]
  by_cases k:y<x
  ·rw [if_pos k]
   go_enter Tryz.func131,Tryz.ntmps131
   go_wp2_with fail
   refine c1.out.mono ?_
   rintro e w' ⟨rfl,rfl⟩
   go_wp2_with fail
   refine c2.out.mono ?_
   rintro e w' ⟨rfl,rfl⟩
   go_wp2_with fail
   go_ret
   exact ⟨rfl,rfl⟩
  ·rw [if_neg k]
   go_enter Tryz.func131,Tryz.ntmps131
   go_wp2_with fail
   refine c1.out.mono ?_
   rintro e w' ⟨rfl,rfl⟩
   go_wp2_with fail
   refine c2.out.mono ?_
   rintro e w' ⟨rfl,rfl⟩
   go_wp2_with fail
   go_ret
   exact ⟨rfl,rfl⟩
theorem cmpL_up (ts us:List Int) (k:Nat) (h:k<ts.length) (h':k<us.length):cmpL (ts.drop k) (us.drop k)=if cmp1 (ts[k]?.getD 0) (us[k]?.getD 0)=0 then cmpL (ts.drop (k+1)) (us.drop (k+1)) else cmp1 (ts[k]?.getD 0) (us[k]?.getD 0):=by
 rw [List.drop_eq_getElem_cons h,List.drop_eq_getElem_cons h']
 simp only [List.getElem?_eq_getElem h,List.getElem?_eq_getElem h',Option.getD_some]
 unfold cmp1
 show (if _ then _ else _)=_
 split
 ·rfl
 ·split
  ·rfl
  ·rfl
set_option maxRecDepth 100000 in
set_option maxHeartbeats 2000000 in
theorem compare_is (b c:Nat) (ts us:List Int) (w:World) (hr:Row w b 0 ts) (hs:Row w c 0 us) (hb:b<w.heap.size) (hc:c<w.heap.size) (hl:ts.length=6) (hu:us.length=6):
  Calls Tryz.prog 89 #[.slice (some ⟨b,0,none⟩) 6 6,.slice (some ⟨c,0,none⟩) 6 6] w fun e w'=>e=.returned (.int .i64 (cmpL ts us))∧w=w':=by
 have HR:=Lib.hid hr
 have HS:=Lib.hid hs
 have HL:=Lib.hid hl
 have HU:=Lib.hid hu
 clear hr hs hl hu
 go_enter Tryz.func89,Tryz.ntmps89
 go_wp2_with fail
 go_loopw [11] (fun i wr=>∃ k:Nat,k≤6∧i=.int .i64 k∧wr=w∧RowKit.Hid (cmpL ts us=cmpL (ts.drop k) (us.drop k))) (fun i _=>6 - (intOf i).toNat)
 case atStart=>exact ⟨0,by decide,rfl,rfl,Lib.hid rfl⟩
 case round=>
  obtain ⟨k,hk,rfl,rfl,hA⟩:=hrel
  by_cases hk6:k<6
  ·have m1:=HR.out k (by rw [HL.out];exact hk6)
   have m2:=HS.out k (by rw [HU.out];exact hk6)
   rw [Nat.zero_add] at m1 m2
   have hup:=Lib.hid (cmpL_up ts us k (by rw [HL.out];exact hk6) (by rw [HU.out];exact hk6))
   generalize ts[k]?.getD 0=x at m1 hup
   generalize us[k]?.getD 0=y at m2 hup
   go_wp2_with fail
   refine (compare1_is x y _).mono ?_
   rintro e w' ⟨rfl,rfl⟩
   by_cases h:cmp1 x y=0
   ·have HH:=Lib.hid h
    have t:(cmp1 x y !=0)=false:=by rw [h];rfl
    generalize cmp1 x y=v at t HH hup
    clear h
    go_wp2_with fail
    go_roundw
    case rel=>exact ⟨k+1,by omega,by go_num,(by simp),Lib.hid (by rw [hA.out,hup.out,if_pos HH.out])⟩
    case measure=>simp [intOf];omega
   ·have HH:=Lib.hid h
    have t:(cmp1 x y !=0)=true:=by simpa using h
    clear h
    generalize cmp1 x y=v at t HH hup
    go_wp2_with fail
    go_ret
    exact ⟨by rw [hA.out,hup.out,if_neg HH.out];rfl,rfl⟩
  ·obtain rfl:k=6:=by omega
   go_wp2_with fail
   go_ret
   refine ⟨?_,rfl⟩
   rw [hA.out,List.drop_eq_nil_of_le (by rw [HL.out];exact Nat.le_refl _),List.drop_eq_nil_of_le (by rw [HU.out];exact Nat.le_refl _)]
   rfl
theorem row_six {W:World} {g:Nat} {t:TypeId} {a b c d e f:Int} (h:lies.Lies W g t #[.int .i64 a,.int .i64 b,.int .i64 c,.int .i64 d,.int .i64 e,.int .i64 f]):Row W g 0 [a,b,c,d,e,f]:=fun p hp=>by
 have hp:p<6:=hp
 rw [Nat.zero_add,lies.cell h p]
 rcases (by omega:p=0∨p=1∨p=2∨p=3∨p=4∨p=5) with rfl | rfl | rfl | rfl | rfl | rfl<;>rfl
end Go.Proofs.YthmljpccbjolgaaGreatDoor.zone
namespace Go.Proofs.YthmljpccbjolgaaGreatDoor.zone
open Go.Joins Go.ChangeShapes Go.WideShapes Go.ChangeAt Go.RowKit num rat dbm Go.Proofs.YthmljpccbjolgaaGreatDoor.tight Go.Proofs.YthmljpccbjolgaaGreatDoor.incl Go.Proofs.YthmljpccbjolgaaGreatDoor.plaw Go.Proofs.YthmljpccbjolgaaGreatDoor.zopen
open bound hiding up
set_option linter.unusedVariables false
set_option linter.unusedSimpArgs false
/-! Of -/
theorem six_cells {W:World} {g:Nat} {t:TypeId} {a b c d e f:Value} (h:lies.Lies W g t #[a,b,c,d,e,f]):(W.cell? ⟨g,0,none⟩=some a∧W.cell? ⟨g,1,none⟩=some b∧W.cell? ⟨g,2,none⟩=some c∧W.cell? ⟨g,3,none⟩=some d∧W.cell? ⟨g,4,none⟩=some e∧W.cell? ⟨g,5,none⟩=some f)∧
  (W.frozen? ⟨g,0,none⟩=false∧W.frozen? ⟨g,1,none⟩=false∧W.frozen? ⟨g,2,none⟩=false∧W.frozen? ⟨g,3,none⟩=false∧W.frozen? ⟨g,4,none⟩=false∧W.frozen? ⟨g,5,none⟩=false)∧g<W.heap.size:=
 ⟨⟨lies.cell h 0,lies.cell h 1,lies.cell h 2,lies.cell h 3,lies.cell h 4,lies.cell h 5⟩,⟨lies.free h 0,lies.free h 1,lies.free h 2,lies.free h 3,lies.free h 4,lies.free h 5⟩,lies.lt h⟩
theorem put_six {B g:Nat} {w W:World} (h:Below B w W) (hB:B≤g) (a b c d e f:Value):Below B w ((((((W.setCell ⟨g,0,none⟩ a).setCell ⟨g,1,none⟩ b).setCell ⟨g,2,none⟩ c).setCell ⟨g,3,none⟩ d).setCell ⟨g,4,none⟩ e).setCell ⟨g,5,none⟩ f):=
 (((((h.setCell (p:=⟨g,0,none⟩) hB _).setCell (p:=⟨g,1,none⟩) hB _).setCell (p:=⟨g,2,none⟩) hB _).setCell (p:=⟨g,3,none⟩) hB _).setCell (p:=⟨g,4,none⟩) hB _).setCell (p:=⟨g,5,none⟩) hB _
def zero6:List Int:=[0,0,0,0,0,0]
def OfR (n:Int) (ts z:List Int) (f:Int):Prop:=(¬ MayD n ts∧z=zero6∧f=8)∨(MayD n ts∧n≠3∧z=zero6∧f=40)∨(MayD n ts∧n=3∧¬ OkD 3 ts∧z=zero6∧f=6)∨(n=3∧OkD 3 ts∧¬ MayD 3 (clT 3 ts)∧z=zero6∧f=8)∨(n=3∧OkD 3 ts∧MayD 3 (clT 3 ts)∧z=shortT (clT 3 ts)∧f=0)
def Ofs (n:Int) (ts:List Int) (w:World) (e:Ending) (w':World):Prop:=Below w.heap.size w w'∧∃ z0 z1 z2 z3 z4 z5 f,e=.returned (.tuple #[.agg #[.int .i64 z0,.int .i64 z1,.int .i64 z2,.int .i64 z3,.int .i64 z4,.int .i64 z5],.int .i64 f])∧OfR n ts [z0,z1,z2,z3,z4,z5] f
theorem ans_two {n:Int} {ts:List Int} {na:Int} {us:List Int} {f:Int} (h:Ans n ts na us f) (hm:MayD n ts):(¬ OkD n ts∧na=0∧us=[]∧f=6)∨(OkD n ts∧na=n∧RowKit.Hid (us=clT n ts)∧us.length=ts.length∧Tops ts=Tops ts∧f=0):=by
 rcases h with ⟨h,e1,e2,e3⟩ | ⟨h,e1,e2,e3⟩
 ·rw [if_pos hm] at e3
  exact .inl ⟨h,e1,e2,e3⟩
 ·exact .inr ⟨h,e1,Lib.hid e2,by rw [e2];exact clT_length h,rfl,e3⟩
def partS (us:List Int):Nat→List Int
 | 0=>[0,0,0,0,0,0]
 | p+1=>(partS us p).set p (us[plc p]?.getD 0)
theorem partS_length (us:List Int):∀ p,(partS us p).length=6
 | 0=>rfl
 | p+1=>by unfold partS;rw [List.length_set];exact partS_length us p
theorem partS_six (us:List Int):partS us 6=shortT us:=rfl
theorem shortT_is (us:List Int):∃ a b c d e f,shortT us=[a,b,c,d,e,f]:=⟨_,_,_,_,_,_,rfl⟩
def Ox (g ca T Z:Nat) (us vs:List Int) (w W:World):Prop:=
 lies.Lies W (w.heap.size+1) 27 #[.int .i64 0,.int .i64 0,.int .i64 0,.int .i64 0,.int .i64 0,.int .i64 0]∧lies.Lies W T 81 #[.int .i64 3,.slice (some ⟨g,0,none⟩) 9 ca]∧lies.Lies W g 25 (cellsOf us)∧lies.Lies W Z 27 (cellsOf vs)∧Below w.heap.size w W∧Pl W
theorem Ox.below {g ca T Z:Nat} {us vs:List Int} {w W X:World} (h:Ox g ca T Z us vs w W) (k:Below W.heap.size W X):Ox g ca T Z us vs w X:=
 ⟨lies.on_call h.1 k,lies.on_call h.2.1 k,lies.on_call h.2.2.1 k,lies.on_call h.2.2.2.1 k,h.2.2.2.2.1.trans (k.mono h.2.2.2.2.1.size),h.2.2.2.2.2.on k⟩
set_option maxRecDepth 100000 in
set_option maxHeartbeats 8000000 in
theorem of_any (n:Int) (sv:Value) (ts:List Int) (w:World) (hP:Pl w) (hI:law.Ints w.heap.size w sv ts) (hm:ts.length≤1000000) (htop:Tops ts):
  Calls Tryz.prog 54 #[.agg #[.int .i64 n,sv]] w (Ofs n ts w):=by
 have DB:=bound.up2 w (.cells #[.int .i64 n,sv] 81) (.cells #[.int .i64 0,.int .i64 0,.int .i64 0,.int .i64 0,.int .i64 0,.int .i64 0] 27)
 have D0:=lies.on_alloc (lies.made w 81 #[.int .i64 n,sv]) (.cells #[.int .i64 0,.int .i64 0,.int .i64 0,.int .i64 0,.int .i64 0,.int .i64 0] 27)
 have D1:=lies.made_at (w.alloc (.cells #[.int .i64 n,sv] 81)) 27 #[.int .i64 0,.int .i64 0,.int .i64 0,.int .i64 0,.int .i64 0,.int .i64 0] (w.heap.size+1) (by simp)
 have P0:=hP.on DB
 have HI:=Lib.hid hI
 have HT:=Lib.hid htop
 have HP:=Lib.hid hP
 obtain ⟨ad,cap,rfl⟩:=ints_len hI
 clear hI htop hP
 go_enter Tryz.func54,Tryz.ntmps54
 obtain ⟨x0,x1,x2,x3,x4⟩:=lies.two D0
 go_wp2_with fail
 clear x0 x1 x2 x3 x4
 generalize (w.alloc (.cells #[.int .i64 n,.slice ad ts.length cap] 81)).alloc (.cells #[.int .i64 0,.int .i64 0,.int .i64 0,.int .i64 0,.int .i64 0,.int .i64 0] 27)=w0 at DB D0 D1 P0 ⊢
 by_cases h:MayD n ts
 ·refine (check_ok n _ ts _ ((HI.out.below DB).mono DB.size) HT.out h).mono ?_
  rintro e w1 ⟨rfl,hB⟩
  replace D0:=lies.on_call D0 hB
  replace D1:=lies.on_call D1 hB
  replace P0:=P0.on hB
  replace DB:=later DB hB
  have H:=Lib.hid h
  clear hB h
  obtain ⟨x0,x1,x2,x3,x4⟩:=lies.two D0
  by_cases h3:n=3
  ·subst h3
   go_wp2_with fail
   clear x0 x1 x2 x3 x4
   refine (close_g 3 _ ts _ ((HI.out.below DB).mono DB.size) hm HT.out).mono ?_
   rintro e w2 ⟨hB,na,aa,la,ca,us,f,rfl,hA,hK⟩
   have hwl:=lies.lt D1
   replace D1:=lies.on_call D1 hB
   replace P0:=P0.on hB
   replace DB:=later DB hB
   rcases ans_two hA H.out with ⟨hno,rfl,e2,rfl⟩ | ⟨hok,rfl,hu,hln,_,rfl⟩
   ·have HN:=Lib.hid hno
    clear hno hB hK D0 P0 e2 hA
    obtain ⟨⟨x0,x1,x2,x3,x4,x5⟩,⟨y0,y1,y2,y3,y4,y5⟩,xl⟩:=six_cells D1
    clear D1
    go_wp2_with fail
    exact bodyPost_ret (v:=.tuple #[.agg #[.int .i64 0,.int .i64 0,.int .i64 0,.int .i64 0,.int .i64 0,.int .i64 0],.int .i64 6]) (by simp [results,Tryz.results54,go_sem,x0,x1,x2,x3,x4,x5,xl]) rfl ⟨lies.frame_up (put_six DB (Nat.le_succ _) _ _ _ _ _ _) _,0,0,0,0,0,0,6,rfl,.inr (.inr (.inl ⟨H.out,rfl,HN.out,rfl,rfl⟩))⟩
   ·obtain ⟨g,rfl,rfl,hgw,hG⟩:∃ g,aa=some ⟨g,0,none⟩∧la=9∧w.heap.size+1<g∧lies.Lies w2 g 25 (cellsOf us):=by
     have hl9:us.length=9:=by
      obtain ⟨m,hm3,_,_,hl⟩:=may_nat H.out
      obtain rfl:m=3:=by omega
      exact hln.trans hl
     rcases hK with ⟨_,_,_,k⟩ | ⟨g,h1,h2,h3,h4⟩
     ·rw [k] at hl9;simp at hl9
     ·exact ⟨g,h2,h3.trans hl9,Nat.lt_of_lt_of_le hwl h1,h4⟩
    have HU:=hu
    have HO:=Lib.hid hok
    have hl9:us.length=9:=by
     obtain ⟨m,hm3,_,_,hl⟩:=may_nat H.out
     obtain rfl:m=3:=by omega
     exact hln.trans hl
    have HTU:=Lib.hid (show Tops us by rw [hu.out];exact clT_tops HT.out)
    have HP2:=P0
    have hgT:g≠w2.heap.size:=by have:=lies.lt hG;omega
    have L2:=D1
    clear D0 hK hA hok hln
    have hle:=lies.lt D1
    go_wp2_with fail
    have E1:=lies.on_alloc D1 (.cells #[.int .i64 3,.slice (some ⟨g,0,none⟩) 9 ca] 81)
    have ET:=lies.made w2 81 #[.int .i64 3,.slice (some ⟨g,0,none⟩) 9 ca]
    have EG:=lies.on_alloc hG (.cells #[.int .i64 3,.slice (some ⟨g,0,none⟩) 9 ca] 81)
    have EB:=lies.frame_up DB (.cells #[.int .i64 3,.slice (some ⟨g,0,none⟩) 9 ca] 81)
    have EP:=P0.on (bound.up1 w2 (.cells #[.int .i64 3,.slice (some ⟨g,0,none⟩) 9 ca] 81))
    clear D1 hG DB P0 hB HP2 L2
    generalize w2.heap.size=T at ET hgT hle ⊢
    generalize w2.alloc (.cells #[.int .i64 3,.slice (some ⟨g,0,none⟩) 9 ca] 81)=w3 at E1 ET EG EB EP ⊢
    have hIu:law.Ints w3.heap.size w3 (.slice (some ⟨g,0,none⟩) 9 ca) us:=by
     have:=dlaw.own_ints (cap:=ca) EG
     rwa [hl9] at this
    have HL9:=Lib.hid hl9
    by_cases hmu:MayD 3 us
    ·refine (check_ok 3 _ us _ hIu HTU.out hmu).mono ?_
     rintro e w4 ⟨rfl,hB⟩
     replace E1:=lies.on_call E1 hB
     replace ET:=lies.on_call ET hB
     replace EG:=lies.on_call EG hB
     replace EP:=EP.on hB
     replace EB:=later EB hB
     have HMU:=Lib.hid hmu
     clear hB hIu hmu hl9 hu
     have h1Z:=lies.lt E1
     have hTZ:=lies.lt ET
     have hgZ:=lies.lt EG
     have hwZ:=EB.size
     go_wp2_with fail
     have W0:Ox g ca T w4.heap.size us (partS us 0) w (w4.alloc (.cells #[.int .i64 0,.int .i64 0,.int .i64 0,.int .i64 0,.int .i64 0,.int .i64 0] 27)):=
      ⟨lies.on_alloc E1 _,lies.on_alloc ET _,lies.on_alloc EG _,lies.made _ _ _,lies.frame_up EB _,EP.on (bound.up1 w4 _)⟩
     clear E1 ET EG EB EP
     generalize w4.heap.size=Z at W0 h1Z hTZ hgZ hwZ ⊢
     generalize w4.alloc (.cells #[.int .i64 0,.int .i64 0,.int .i64 0,.int .i64 0,.int .i64 0,.int .i64 0] 27)=w5 at W0 ⊢
     go_loopw [35] (fun i wr=>∃ p:Nat,p≤6∧i=.int .i64 p∧Ox g ca T Z us (partS us p) w wr) (fun i _=>6 - (intOf i).toNat)
     case atStart=>exact ⟨0,Nat.zero_le _,rfl,W0⟩
     case round=>
      clear W0
      obtain ⟨p,hp,rfl,hA⟩:=hrel
      by_cases hp6:p<6
      ·have HX:=Lib.hid (show partS us (p+1)=(partS us p).set p (us[plc p]?.getD 0) from rfl)
       have hln:=partS_length us p
       have hq9:=plc_lt hp6
       have HC:=Lib.hid (fun (W:World) (h:Pl W)=>pl_cell h hp6)
       have HD:=Lib.hid (fun (W:World) (h:lies.Lies W g 25 (cellsOf us))=>(lies.cell h (plc p)).trans (cells_at us (plc p) (by rw [HL9.out];exact hq9)))
       generalize partS us p=vs at hA hln HX
       generalize us[plc p]?.getD 0=x at HX HD
       generalize plc p=q at HX hq9 HC HD
       have HLN:=Lib.hid hln
       have hqi:(q:Int)<9:=by omega
       have hpi:(p:Int)<6:=by omega
       clear hln
       go_wp2_with fail
       have S0:∀ (vs:List Int) W,Ox g ca T Z us vs w W→W.cell? ⟨T,1,none⟩=some (.slice (some ⟨g,0,none⟩) 9 ca)∧W.cell? ⟨1,p,none⟩=some (.int .i64 q)∧W.cell? ⟨g,q,none⟩=some (.int .i64 x):=fun vs W hW=>⟨(lies.pair hW.2.1).2,HC.out W hW.2.2.2.2.2,HD.out W hW.2.2.1⟩
       have A3:=hA.below (dbm.drawn1 (Below.refl wr.heap.size wr))
       have HS0:=Lib.hid S0
       have hs3:=S0 _ _ A3
       have h00:=hA.2.2.2.2.2.1
       clear S0
       refine wp_region_held_drew (S:=fun W=>W.cell? ⟨T,1,none⟩=some (.slice (some ⟨g,0,none⟩) 9 ca)∧W.cell? ⟨1,p,none⟩=some (.int .i64 q)∧W.cell? ⟨g,q,none⟩=some (.int .i64 x)) (by kernel_rfl) hs3 (fun hHeld=>?_)
       clear hs3
       refine tk 0 (v:=?_) rfl hHeld ?_ ?_
       rotate_left
       ·intro w hSw;obtain ⟨s1,s2,s3⟩:=hSw;go_simp;try with_reducible rfl
       try simp only [Act.put,sA,sB,sC,sD,sE,sF]
       refine tk 1 (v:=?_) rfl hHeld ?_ ?_
       rotate_left
       ·intro w hSw;obtain ⟨s1,s2,s3⟩:=hSw;go_simp;try with_reducible rfl
       try simp only [Act.put,sA,sB,sC,sD,sE,sF]
       refine tk 2 (v:=?_) rfl hHeld ?_ ?_
       rotate_left
       ·intro w hSw;obtain ⟨s1,s2,s3⟩:=hSw;go_simp;try with_reducible rfl
       try simp only [Act.put,sA,sB,sC,sD,sE,sF]
       refine tk 3 (v:=?_) rfl hHeld ?_ ?_
       rotate_left
       ·intro w hSw;obtain ⟨s1,s2,s3⟩:=hSw;go_simp;try with_reducible rfl
       try simp only [Act.put,sA,sB,sC,sD,sE,sF]
       refine tk 4 (v:=?_) rfl hHeld ?_ ?_
       rotate_left
       ·intro w hSw;obtain ⟨s1,s2,s3⟩:=hSw;go_simp;try with_reducible rfl
       try simp only [Act.put,sA,sB,sC,sD,sE,sF]
       refine tk 5 (v:=?_) rfl hHeld ?_ ?_
       rotate_left
       ·intro w hSw;obtain ⟨s1,s2,s3⟩:=hSw;go_simp;try with_reducible rfl
       try simp only [Act.put,sA,sB,sC,sD,sE,sF]
       refine tk 6 (v:=?_) rfl hHeld ?_ ?_
       rotate_left
       ·intro w hSw;obtain ⟨s1,s2,s3⟩:=hSw;go_simp;try with_reducible rfl
       try simp only [Act.put,sA,sB,sC,sD,sE,sF]
       refine tk 7 (v:=?_) rfl hHeld ?_ ?_
       rotate_left
       ·intro w hSw;obtain ⟨s1,s2,s3⟩:=hSw;go_simp;try with_reducible rfl
       try simp only [Act.put,sA,sB,sC,sD,sE,sF]
       refine tk 8 (v:=?_) rfl hHeld ?_ ?_
       rotate_left
       ·intro w hSw;obtain ⟨s1,s2,s3⟩:=hSw;go_simp;try with_reducible rfl
       try simp only [Act.put,sA,sB,sC,sD,sE,sF]
       have hcell:=(lies.cell hA.2.2.2.1 p).trans (cells_at vs p (by rw [HLN.out];exact hp6))
       have hfree:=lies.free hA.2.2.2.1 p
       refine wpAnyH_ready (rs:=[9]) (by kernel_rfl) (by simp) (AllReadyH.cons rfl (fun K hK=>?_) AllReadyH.nil)
       go_simp
       have A4:Ox g ca T Z us (vs.set p x) w (wr.setCell ⟨Z,p,none⟩ (.int .i64 x)).drew:=by
        have Pt:=lies.on_put hA.2.2.2.1 p (.int .i64 x)
        rw [cells_set] at Pt
        have D:=fun {bb:Nat} {t:TypeId} {cs:Array Value} (h:lies.Lies wr bb t cs) (hne:bb≠Z)=>lies.on_call (lies.on_far h p hne (.int .i64 x)) (dbm.drawn1 (Below.refl _ _))
        exact ⟨D hA.1 (by omega),D hA.2.1 (by omega),D hA.2.2.1 (by omega),lies.on_call Pt (dbm.drawn1 (Below.refl _ _)),dbm.drawn1 (hA.2.2.2.2.1.setCell (p:=⟨Z,p,none⟩) hwZ _),hA.2.2.2.2.2.below (dbm.drawn1 ((Below.refl w.heap.size wr).setCell (p:=⟨Z,p,none⟩) hwZ _)) HP.out.1⟩
       refine hK.out _ _ (HS0.out _ _ A4) (fun hNew=>?_)
       clear hHeld hK K hNew HS0 hcell hfree hA A3
       refine wpAnyH_done (by kernel_rfl) ?_ _
       generalize (wr.setCell ⟨Z,p,none⟩ (.int .i64 x)).drew=w6 at A4 ⊢
       go_wp2_with fail
       go_roundw
       case rel=>exact ⟨p+1,by omega,by go_num,by rw [HX.out];exact A4⟩
       case measure=>simp [intOf];omega
      ·obtain rfl:p=6:=by omega
       rw [partS_six] at hA
       obtain ⟨v0,v1,v2,v3,v4,v5,hv⟩:=shortT_is us
       have HV:=Lib.hid hv
       have hZ:lies.Lies wr Z 27 #[.int .i64 v0,.int .i64 v1,.int .i64 v2,.int .i64 v3,.int .i64 v4,.int .i64 v5]:=by rw [hv] at hA;exact hA.2.2.2.1
       obtain ⟨⟨z0,z1,z2,z3,z4,z5⟩,_,zl⟩:=six_cells hZ
       obtain ⟨⟨x0,x1,x2,x3,x4,x5⟩,⟨y0,y1,y2,y3,y4,y5⟩,xl⟩:=six_cells hA.1
       have hBB:=hA.2.2.2.2.1
       clear hA hZ hv
       go_wp2_with fail
       exact bodyPost_ret (v:=.tuple #[.agg #[.int .i64 v0,.int .i64 v1,.int .i64 v2,.int .i64 v3,.int .i64 v4,.int .i64 v5],.int .i64 0]) (by simp [results,Tryz.results54,go_sem,x0,x1,x2,x3,x4,x5,xl]) rfl ⟨put_six hBB (Nat.le_succ _) _ _ _ _ _ _,v0,v1,v2,v3,v4,v5,0,rfl,.inr (.inr (.inr (.inr ⟨rfl,HO.out,HU.out ▸ HMU.out,by rw [←HU.out];exact HV.out.symm,rfl⟩)))⟩
    ·refine (check_no 3 _ us _ hIu (by rw [hl9];decide) HTU.out hmu).mono ?_
     rintro e w4 ⟨rfl,hB⟩
     replace E1:=lies.on_call E1 hB
     replace EB:=later EB hB
     have HMU:=Lib.hid hmu
     clear hB hIu hmu hl9 hu ET EG EP
     obtain ⟨⟨x0,x1,x2,x3,x4,x5⟩,⟨y0,y1,y2,y3,y4,y5⟩,xl⟩:=six_cells E1
     go_wp2_with fail
     exact bodyPost_ret (v:=.tuple #[.agg #[.int .i64 0,.int .i64 0,.int .i64 0,.int .i64 0,.int .i64 0,.int .i64 0],.int .i64 8]) (by simp [results,Tryz.results54,go_sem,x0,x1,x2,x3,x4,x5,xl]) rfl ⟨put_six EB (Nat.le_succ _) _ _ _ _ _ _,0,0,0,0,0,0,8,rfl,.inr (.inr (.inr (.inl ⟨rfl,HO.out,fun k=>HMU.out (HU.out ▸ k),rfl,rfl⟩)))⟩
  ·have h3':(n !=3)=true:=by simpa using h3
   have H3:=Lib.hid h3
   clear h3
   obtain ⟨⟨u0,u1,u2,u3,u4,u5⟩,⟨y0,y1,y2,y3,y4,y5⟩,ul⟩:=six_cells D1
   go_wp2_with fail
   exact bodyPost_ret (v:=.tuple #[.agg #[.int .i64 0,.int .i64 0,.int .i64 0,.int .i64 0,.int .i64 0,.int .i64 0],.int .i64 40]) (by simp [results,Tryz.results54,go_sem,u0,u1,u2,u3,u4,u5,ul]) rfl ⟨put_six DB (Nat.le_succ _) _ _ _ _ _ _,0,0,0,0,0,0,40,rfl,.inr (.inl ⟨H.out,H3.out,rfl,rfl⟩)⟩
 ·refine (check_no n _ ts _ ((HI.out.below DB).mono DB.size) hm HT.out h).mono ?_
  rintro e w1 ⟨rfl,hB⟩
  replace D1:=lies.on_call D1 hB
  replace DB:=later DB hB
  have H:=Lib.hid h
  clear hB h D0 P0
  obtain ⟨⟨x0,x1,x2,x3,x4,x5⟩,⟨y0,y1,y2,y3,y4,y5⟩,xl⟩:=six_cells D1
  go_wp2_with fail
  exact bodyPost_ret (v:=.tuple #[.agg #[.int .i64 0,.int .i64 0,.int .i64 0,.int .i64 0,.int .i64 0,.int .i64 0],.int .i64 8]) (by simp [results,Tryz.results54,go_sem,x0,x1,x2,x3,x4,x5,xl]) rfl ⟨put_six DB (Nat.le_succ _) _ _ _ _ _ _,0,0,0,0,0,0,8,rfl,.inl ⟨H.out,rfl,rfl⟩⟩
end Go.Proofs.YthmljpccbjolgaaGreatDoor.zone
