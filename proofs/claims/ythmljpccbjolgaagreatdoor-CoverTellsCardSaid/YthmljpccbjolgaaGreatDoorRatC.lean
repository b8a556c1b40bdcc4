
/-
  Fractions in lowest terms and their order, and the document's own answers of layer 3; each theorem names its conditions.
-/
import Derived.Test.YthmljpccbjolgaaGreatDoorRatB
import Derived.Test.YthmljpccbjolgaaGreatDoorBase
namespace Go.Proofs.YthmljpccbjolgaaGreatDoor.rat
open rmath bound num
set_option linter.unusedVariables false
theorem mul_right_cancel {a b c:Int} (hc:c≠0) (h:a*c=b*c):a=b:=Int.eq_of_mul_eq_mul_right hc h
theorem low_parts (V D:Int) (h:1≤D):lowP V D*gcdI V D=V∧lowQ V D*gcdI V D=D∧lowP V D*D=V*lowQ V D∧Int.gcd (lowP V D) (lowQ V D)=1:=by
 have g:=gcd_pos V D h
 have a:lowP V D*gcdI V D=V:=Int.ediv_mul_cancel (Int.gcd_dvd_left V D)
 have b:lowQ V D*gcdI V D=D:=Int.ediv_mul_cancel (Int.gcd_dvd_right V D)
 refine ⟨a,b,?_,?_⟩
 ·generalize gcdI V D=G at*
  generalize lowP V D=P at*
  generalize lowQ V D=Q at*
  subst a b
  ac_rfl
 ·have e:=Int.gcd_ediv (a:=V) (b:=D) (c:=gcdI V D) (Int.gcd_dvd_left V D) (Int.gcd_dvd_right V D)
  have n:(gcdI V D).natAbs=V.gcd D:=rfl
  rw [n] at e
  refine e.trans (Nat.div_self ?_)
  unfold gcdI at g
  omega
theorem dvd_of_cross {p q p' q':Int} (h:Int.gcd p q=1) (e:p*q'=p'*q):q ∣ q':=by
 have k:q.natAbs ∣ p.natAbs*q'.natAbs:=by
  rw [←Int.natAbs_mul,e,Int.natAbs_mul]
  exact Nat.dvd_mul_left _ _
 have c:Nat.Coprime q.natAbs p.natAbs:=by
  have:Nat.gcd p.natAbs q.natAbs=1:=h
  rw [Nat.Coprime,Nat.gcd_comm]
  exact this
 exact Int.natAbs_dvd_natAbs.1 (c.dvd_of_dvd_mul_left k)
theorem low_unique {p q p' q':Int} (h:Int.gcd p q=1) (h':Int.gcd p' q'=1) (q1:1≤q) (q1':1≤q') (e:p*q'=p'*q):p=p'∧q=q':=by
 have a:=Int.le_of_dvd (by omega) (dvd_of_cross h e)
 have b:=Int.le_of_dvd (by omega) (dvd_of_cross h' e.symm)
 have c:q=q':=by omega
 subst c
 exact ⟨mul_right_cancel (by omega) e,rfl⟩
theorem low_same {V D V' D':Int} (h:1≤D) (h':1≤D') (e:V*D'=V'*D):lowP V D=lowP V' D'∧lowQ V D=lowQ V' D':=by
 obtain ⟨a1,a2,a3,a4⟩:=low_parts V D h
 obtain ⟨b1,b2,b3,b4⟩:=low_parts V' D' h'
 have c1:=(lowQ_in V D h).1
 have c2:=(lowQ_in V' D' h').1
 refine low_unique a4 b4 c1 c2 ?_
 clear a1 a2 b1 b2 a4 b4
 generalize lowP V D=p at*
 generalize lowQ V D=q at*
 generalize lowP V' D'=p' at*
 generalize lowQ V' D'=q' at*
 have z:D*D'≠0:=Int.mul_ne_zero (by omega) (by omega)
 refine mul_right_cancel z ?_
 have e1:p*q'*(D*D')=p*D*(q'*D'):=by ac_rfl
 have e2:p'*q*(D*D')=p'*D'*(q*D):=by ac_rfl
 rw [e1,e2,a3,b3]
 have e3:V*q*(q'*D')=V*D'*(q*q'):=by ac_rfl
 have e4:V'*q'*(q*D)=V'*D*(q*q'):=by ac_rfl
 rw [e3,e4,e]
theorem lowOk_same {V D V' D':Int} (h:1≤D) (h':1≤D') (e:V*D'=V'*D):lowN V D=lowN V' D'∧lowD V D=lowD V' D'∧lowE V D=lowE V' D':=by
 obtain ⟨a,b⟩:=low_same h h' e
 have c:lowOk V D↔lowOk V' D':=by unfold lowOk;rw [a,b]
 unfold lowN lowD lowE
 by_cases k:lowOk V D
 ·rw [if_pos k,if_pos k,if_pos k,if_pos (c.1 k),if_pos (c.1 k),if_pos (c.1 k)];exact ⟨a,b,rfl⟩
 ·have k':¬ lowOk V' D':=fun z=>k (c.2 z)
  rw [if_neg k,if_neg k,if_neg k,if_neg k',if_neg k',if_neg k'];exact ⟨rfl,rfl,rfl⟩
theorem whole_may {n:Int} (h:May n):MayR n 1:=by
 obtain ⟨a,b⟩:=h
 exact ⟨by omega,by omega,by omega,by omega,Int.gcd_one_right n⟩
theorem floor_may {p q:Int} (h:MayR p q):May (p / q):=((may_parts p q h.1 h.2.1).1 h).1
end Go.Proofs.YthmljpccbjolgaaGreatDoor.rat
namespace Go.Proofs.YthmljpccbjolgaaGreatDoor.rat
open rmath bound num
set_option linter.unusedVariables false
def cmp0 (x y:Int):Int:=if y<x then 1 else if x<y then -1 else 0
theorem cmpV_is {a b c d:Int} (h:Both a b c d):cmpV a b c d=cmp0 (a*d) (c*b)∧cmpE a b c d=0:=⟨if_pos h,if_pos h⟩
theorem cmp0_cases (x y:Int):(y<x∧cmp0 x y=1)∨(x<y∧cmp0 x y=-1)∨(x=y∧cmp0 x y=0):=by
 unfold cmp0
 by_cases h:y<x
 ·rw [if_pos h];exact .inl ⟨h,rfl⟩
 ·by_cases k:x<y
  ·rw [if_neg h,if_pos k];exact .inr (.inl ⟨k,rfl⟩)
  ·rw [if_neg h,if_neg k];exact .inr (.inr ⟨by omega,rfl⟩)
theorem cmp0_scale {k j x1 x2 y1 y2:Int} (hk:0<k) (hj:0<j) (e:k*x1 - k*x2=j*y1 - j*y2):cmp0 x1 x2=cmp0 y1 y2:=by
 rw [←Int.mul_sub,←Int.mul_sub] at e
 have p:0<x1 - x2↔0<y1 - y2:=by
  constructor
  ·intro h
   have:=Int.mul_pos hk h
   rw [e] at this
   exact Int.pos_of_mul_pos_right this hj
  ·intro h
   have:=Int.mul_pos hj h
   rw [←e] at this
   exact Int.pos_of_mul_pos_right this hk
 have q:0<x2 - x1↔0<y2 - y1:=by
  have e':k*(x2 - x1)=j*(y2 - y1):=by
   have:x2 - x1=-(x1 - x2):=by omega
   rw [this,show y2 - y1=-(y1 - y2) by omega,Int.mul_neg,Int.mul_neg,e]
  constructor
  ·intro h
   have:=Int.mul_pos hk h
   rw [e'] at this
   exact Int.pos_of_mul_pos_right this hj
  ·intro h
   have:=Int.mul_pos hj h
   rw [←e'] at this
   exact Int.pos_of_mul_pos_right this hk
 rcases cmp0_cases x1 x2 with ⟨a,r⟩ | ⟨a,r⟩ | ⟨a,r⟩<;>rcases cmp0_cases y1 y2 with ⟨b,s⟩ | ⟨b,s⟩ | ⟨b,s⟩<;>rw [r,s]<;>omega
theorem dens_pos {a b c d k:Int} (h:Both a b c d) (hk:1≤k):1≤b*d*k:=by
 have x:=Int.mul_le_mul_of_nonneg_right h.1.1 (show 0≤d by have:=h.2.1;omega)
 have y:=Int.mul_le_mul_of_nonneg_right (show 1≤b*d by have:=h.2.1;omega) (show 0≤k by omega)
 omega
end Go.Proofs.YthmljpccbjolgaaGreatDoor.rat
namespace Go.Proofs.YthmljpccbjolgaaGreatDoor.rref
open Go.ChangeShapes Go.WideShapes Go.ChangeAt Go.RowKit rmath bound num rat
set_option linter.unusedVariables false
theorem low_any (a b:Int) (w:World) (hb:1≤b) (hb':b≤9223372036854775807) (l:-9223372036854775808≤a) (u:a≤9223372036854775807):
  Calls Tryz.prog 161 #[.int .i64 a,.int .i64 b] w fun e w'=>e=.returned (.int .i64 (a / b))∧w=w':=by
 have t1:¬ b=0:=by omega
 have m0:=Int.emod_nonneg a t1
 have m1:=Int.emod_lt_of_pos a (show 0<b by omega)
 obtain ⟨d0,d1⟩:=ediv_in a b hb l u
 by_cases ha:0≤a
 ·have e0:=Int.ediv_nonneg ha (show 0≤b by omega)
  have t2:¬ a % b<0:=by omega
  go_enter Tryz.func161,Tryz.ntmps161
  go_wp2
  go_ret
  exact ⟨rfl,rfl⟩
 ·have d2:=Int.ediv_neg_of_neg_of_pos (show a<0 by omega) (show 0<b by omega)
  rcases tdiv_cases a b hb (by omega) with ⟨c1,c2,c3⟩ | ⟨c1,c2,c3⟩
  ·go_enter Tryz.func161,Tryz.ntmps161
   go_wp2
   go_ret
   exact ⟨rfl,rfl⟩
  ·have t2:a % b - b<0:=by omega
   go_enter Tryz.func161,Tryz.ntmps161
   go_wp2
   go_ret
   exact ⟨rfl,rfl⟩
theorem part_any (a b:Int) (w:World) (hb:1≤b) (hb':b≤9223372036854775807) (l:-9223372036854775808≤a) (u:a≤9223372036854775807):
  Calls Tryz.prog 162 #[.int .i64 a,.int .i64 b] w fun e w'=>e=.returned (.int .i64 (a % b))∧w=w':=by
 have t1:¬ b=0:=by omega
 have m0:=Int.emod_nonneg a t1
 have m1:=Int.emod_lt_of_pos a (show 0<b by omega)
 by_cases ha:0≤a
 ·have t2:¬ a % b<0:=by omega
  go_enter Tryz.func162,Tryz.ntmps162
  go_wp2
  go_ret
  exact ⟨rfl,rfl⟩
 ·rcases tdiv_cases a b hb (by omega) with ⟨c1,c2,c3⟩ | ⟨c1,c2,c3⟩
  ·clear c2
   go_enter Tryz.func162,Tryz.ntmps162
   go_wp2
   go_ret
   exact ⟨rfl,rfl⟩
  ·have t2:a % b - b<0:=by omega
   clear c2
   go_enter Tryz.func162,Tryz.ntmps162
   go_wp2
   go_ret
   exact ⟨rfl,rfl⟩
set_option maxHeartbeats 400000 in
theorem common_nat (a b:Nat) (w:World) (ha:a≤9223372036854775807) (hb:b≤9223372036854775807):
  Calls Tryz.prog 203 #[.int .i64 a,.int .i64 b] w fun e w'=>e=.returned (.int .i64 (Nat.gcd a b:Nat))∧∃ n,w'=w.drewN n:=by
 go_enter Tryz.func203,Tryz.ntmps203
 go_wp2
 go_loopw [0,1] (fun s0 s1 wr=>∃ x y:Nat,s0=.int .i64 x∧s1=.int .i64 y∧x≤9223372036854775807∧y≤9223372036854775807∧Nat.gcd x y=Nat.gcd a b∧∃ n,wr=w.drewN n) (fun _ s1 _=>(intOf s1).toNat)
 case atStart=>exact ⟨a,b,rfl,rfl,ha,hb,rfl,0,rfl⟩
 case round=>
  obtain ⟨x,y,rfl,rfl,hx,hy,hg,n,rfl⟩:=hrel
  have G:=Lib.hid hg
  clear hg
  by_cases h0:0<y
  ·have t1:¬ (y:Int)=0:=by omega
   have t2:((y:Int) !=0)=true:=by simp;omega
   go_wp2
   go_quiet (fail)
   go_wp2
   go_roundw
   case rel=>exact ⟨y,x % y,rfl,rfl,hy,by have:=Nat.mod_lt x h0;omega,by rw [←G.out,Nat.gcd_comm x y,Nat.gcd_rec y x,Nat.gcd_comm],_,by rw [World.drewN_drewN]⟩
   case measure=>have:=Nat.mod_lt x h0;simp [intOf];omega
  ·obtain rfl:y=0:=by omega
   go_wp2
   go_ret
   exact ⟨by rw [←G.out,Nat.gcd_zero_right];rfl,n,rfl⟩
theorem common_any (a b:Int) (w:World) (ha:0≤a) (ha':a≤9223372036854775807) (hb:0≤b) (hb':b≤9223372036854775807):
  Calls Tryz.prog 203 #[.int .i64 a,.int .i64 b] w fun e w'=>e=.returned (.int .i64 (gcdI a b))∧∃ n,w'=w.drewN n:=by
 obtain ⟨x,rfl⟩:=Int.eq_ofNat_of_zero_le ha
 obtain ⟨y,rfl⟩:=Int.eq_ofNat_of_zero_le hb
 exact common_nat x y w (by omega) (by omega)
set_option maxHeartbeats 1000000 in
theorem alone_k (n d g : Int) (r : Bool) (w : World) (n1 : -9223372036854775808 ≤ n) (n2 : n ≤ 9223372036854775807) (h : 1 ≤ d) (h' : d ≤ 9223372036854775807) (hg : RowKit.Hid (gcdI (n % d) d = g)) (hr : (g == 1) = r) :
    Calls Tryz.prog 160 #[.agg #[.int .i64 (n), .int .i64 (d)]] w fun e w' => e = .returned (.bool r) ∧ Below w.heap.size w w' := by
  obtain ⟨_, b, c⟩ := div_mul n d h
  have s1 := lies.made w 45 #[.int .i64 n, .int .i64 d]
  have K1 := up1 w (.cells #[.int .i64 n, .int .i64 d] 45)
  go_enter Tryz.func160, Tryz.ntmps160
  go_wp2_with fail
  go_region_held3 (fun W => W.cell? ⟨w.heap.size, 0, none⟩ = some (.int .i64 n) ∧ W.cell? ⟨w.heap.size, 1, none⟩ = some (.int .i64 d)) ((refine lies.pair (t := 45) ?_ <;> repeat (first | with_reducible exact s1 | with_reducible refine lies.on_drew ?_ | with_reducible refine lies.on_draw ?_ _)))
    (first
      | (go_at_call 162; refine (part_any _ _ _ (by omega) (by omega) (by omega) (by omega)).mono ?_; rintro e w' ⟨rfl, rfl⟩)
      | (go_at_call 203; refine (common_any _ _ _ (by omega) (by omega) (by omega) (by omega)).mono ?_; rintro e w' ⟨rfl, k, rfl⟩; rw [hg.out]))
  all_goals
    go_wp2_with fail
    go_ret
    exact ⟨rfl, drawn K1 _⟩
def mayB (n d:Int):Bool:=decide (MayR n d)
theorem mayB_yes {n d:Int} (h:MayR n d):mayB n d=true:=decide_eq_true h
theorem mayB_no {n d:Int} (h:¬ MayR n d):mayB n d=false:=decide_eq_false h
theorem may_den (n d:Int) (w:World) (h:d<1∨1048576<d):
  Calls Tryz.prog 120 #[.agg #[.int .i64 (n),.int .i64 (d)]] w fun e w'=>e=.returned (.bool false)∧Below w.heap.size w w':=by
 by_cases t1:d<1
 ·clear h
  go_enter Tryz.func120,Tryz.ntmps120
  go_wp2
  go_ret
  exact ⟨rfl,up1 _ _⟩
 ·have t2:1048576<d:=by omega
  clear h
  go_enter Tryz.func120,Tryz.ntmps120
  go_wp2
  go_ret
  exact ⟨rfl,up1 _ _⟩
set_option maxHeartbeats 2000000 in
theorem may_k (n d : Int) (al r : Bool) (w : World) (n1 : -9223372036854775808 ≤ n) (n2 : n ≤ 9223372036854775807) (h : 1 ≤ d) (h' : d ≤ 1048576) (cA : RowKit.Hid (law.Says 160 #[.agg #[.int .i64 (n),.int .i64 (d)]] (.bool al)))
  (hr : (al = false ∧ r = false) ∨ (al = true ∧ n / d < -2305843009213693952 ∧ r = false) ∨ (al = true ∧ -2305843009213693952 ≤ n / d ∧ n / d < 2305843009213693952 ∧ r = true) ∨ (al = true ∧ n / d = 2305843009213693952 ∧ n % d = 0 ∧ r = true) ∨ (al = true ∧ n / d = 2305843009213693952 ∧ (n % d == 0) = false ∧ r = false) ∨ (al = true ∧ 2305843009213693952 < n / d ∧ r = false)) :
  Calls Tryz.prog 120 #[.agg #[.int .i64 (n),.int .i64 (d)]] w fun e w' => e = .returned (.bool r) ∧ Below w.heap.size w w' := by
 have t1 : ¬ d < 1 := by omega
 have t2 : ¬ 1048576 < d := by omega
 have s := lies.made w 45 #[.int .i64 n,.int .i64 d]
 have K := up1 w (.cells #[.int .i64 n,.int .i64 d] 45)
 rcases hr with ⟨rfl,rfl⟩ | ⟨rfl,p1,rfl⟩ | ⟨rfl,p1,p2,rfl⟩ | ⟨rfl,p1,p2,rfl⟩ | ⟨rfl,p1,p2,rfl⟩ | ⟨rfl,p1,rfl⟩
 all_goals (try have p3 : ¬ n / d < -2305843009213693952 := by omega)
 all_goals (try have p4 : ¬ n / d < 2305843009213693952 := by omega)
 all_goals (try have p5 : ((n / d) == 2305843009213693952) = false := by simp; omega)
 all_goals
  go_enter Tryz.func120,Tryz.ntmps120
  go_wp2_with (first
   | ((with_reducible refine (said cA _).mono ?_); rintro e w1 ⟨rfl,hN⟩; (replace K := later K hN); (replace s := lies.on_call s hN); clear hN; obtain ⟨s0,s1,s2,s3,s4⟩ := lies.two s)
   | (go_at_call 161; refine (low_any _ _ _ (by omega) (by omega) (by omega) (by omega)).mono ?_; rintro e w' ⟨rfl,rfl⟩)
   | (go_at_call 162; refine (part_any _ _ _ (by omega) (by omega) (by omega) (by omega)).mono ?_; rintro e w' ⟨rfl,rfl⟩))
  go_ret
  first | exact ⟨rfl,K⟩ | exact ⟨by rw [decide_eq_false (show ¬ n / d < 2305843009213693952 by omega)]; rfl,K⟩
theorem may_any (n d : Int) (w : World) (n1 : -9223372036854775808 ≤ n) (n2 : n ≤ 9223372036854775807) :
  Calls Tryz.prog 120 #[.agg #[.int .i64 (n),.int .i64 (d)]] w fun e w' => e = .returned (.bool (mayB n d)) ∧ Below w.heap.size w w' := by
 by_cases h : d < 1 ∨ 1048576 < d
 ·rw [mayB_no (fun k => by unfold MayR at k; omega)]
  exact may_den n d w h
 ·have h1 : 1 ≤ d := by omega
  have h2 : d ≤ 1048576 := by omega
  obtain ⟨a,b,c⟩ := div_mul n d h1
  have k1 := le_div n d (-2305843009213693952) h1
  have k2 := le_div n d 2305843009213693952 h1
  have k3 := le_div n d 2305843009213693953 h1
  have g : gcdI (n % d) d = 1 ↔ Int.gcd n d = 1 := by
   rw [show gcdI (n % d) d = gcdI d (n % d) by unfold gcdI; rw [Int.gcd_comm],gcd_part]; unfold gcdI; omega
  have cA : RowKit.Hid (law.Says 160 #[.agg #[.int .i64 (n),.int .i64 (d)]] (.bool (gcdI (n % d) d == 1))) := Lib.hid (fun w => alone_k n d _ _ w n1 n2 h1 (by omega) (Lib.hid rfl) rfl)
  refine may_k n d _ _ w n1 n2 h1 h2 cA ?_
  by_cases e : gcdI (n % d) d = 1
  ·have e' := g.1 e
   rw [e,show ((1 : Int) == 1) = true from rfl]
   by_cases q1 : n / d < -2305843009213693952
   ·exact .inr (.inl ⟨rfl,q1,mayB_no (fun k => by have := k.2.2.1; omega)⟩)
   ·by_cases q2 : n / d < 2305843009213693952
    ·refine .inr (.inr (.inl ⟨rfl,by omega,q2,mayB_yes ⟨h1,h2,by omega,by omega,e'⟩⟩))
    ·by_cases q3 : n / d = 2305843009213693952
     ·rw [q3] at a
      by_cases q4 : n % d = 0
      ·exact .inr (.inr (.inr (.inl ⟨rfl,q3,q4,mayB_yes ⟨h1,h2,by omega,by omega,e'⟩⟩)))
      ·exact .inr (.inr (.inr (.inr (.inl ⟨rfl,q3,by simpa using q4,mayB_no (fun k => by have := k.2.2.2.1; omega)⟩))))
     ·refine .inr (.inr (.inr (.inr (.inr ⟨rfl,by omega,mayB_no (fun k => ?_)⟩))))
      have := k.2.2.2.1
      have := k3.1 (by omega)
      omega
  ·refine .inl ⟨by simpa using e,mayB_no (fun k => e (g.2 k.2.2.2.2))⟩
end Go.Proofs.YthmljpccbjolgaaGreatDoor.rref
namespace Go.Proofs.YthmljpccbjolgaaGreatDoor.rref
open Go.ChangeShapes Go.WideShapes Go.ChangeAt Go.RowKit rmath bound num rat
set_option linter.unusedVariables false
theorem part_mul {a b d:Int} (b1:1≤b) (b2:b≤1048576) (d1:1≤d) (d2:d≤1048576):0≤a % b*d∧a % b*d<b*d∧a % b*d≤1099511627776:=by
 obtain ⟨_,p,q⟩:=div_mul a b b1
 have x:=Int.mul_nonneg p (show 0≤d by omega)
 have y:=Int.mul_lt_mul_of_pos_right q (show 0<d by omega)
 obtain ⟨_,z⟩:=dens_in b1 b2 d1 d2
 omega
theorem cross (a b c d:Int) (b1:1≤b) (d1:1≤d):a*d - c*b=(a / b - c / d)*(b*d)+(a % b*d - c % d*b):=by
 obtain ⟨x,_,_⟩:=div_mul a b b1
 obtain ⟨y,_,_⟩:=div_mul c d d1
 have e1:a*d=a / b*b*d+a % b*d:=by rw [←Int.add_mul,x]
 have e2:c*b=c / d*d*b+c % d*b:=by rw [←Int.add_mul,y]
 have e3:(a / b - c / d)*(b*d)=a / b*b*d - c / d*d*b:=by rw [Int.sub_mul];congr 1<;>ac_rfl
 rw [e1,e2,e3]
 omega
theorem cross_lt {a b c d:Int} (b1:1≤b) (b2:b≤1048576) (d1:1≤d) (d2:d≤1048576) (k:Int) (h:a / b - c / d<k):a*d - c*b<k*(b*d):=by
 have e:=cross a b c d b1 d1
 obtain ⟨p1,p2,p3⟩:=part_mul (a:=a) b1 b2 d1 d2
 obtain ⟨q1,q2,q3⟩:=part_mul (a:=c) d1 d2 b1 b2
 have m:=Int.mul_le_mul_of_nonneg_right (show a / b - c / d≤k - 1 by omega) (show 0≤b*d by omega)
 rw [Int.sub_mul k 1,Int.one_mul] at m
 omega
theorem cross_gt {a b c d:Int} (b1:1≤b) (b2:b≤1048576) (d1:1≤d) (d2:d≤1048576) (k:Int) (h:k<a / b - c / d):k*(b*d)<a*d - c*b:=by
 have e:=cross a b c d b1 d1
 obtain ⟨p1,p2,p3⟩:=part_mul (a:=a) b1 b2 d1 d2
 obtain ⟨q1,q2,q3⟩:=part_mul (a:=c) d1 d2 b1 b2
 have m:=Int.mul_le_mul_of_nonneg_right (show k+1≤a / b - c / d by omega) (show 0≤b*d by omega)
 rw [Int.add_mul k 1,Int.one_mul] at m
 have z:c % d*b<b*d:=by rw [Int.mul_comm b d];exact q2
 omega
set_option maxHeartbeats 2000000 in
theorem compared_k (a b c d x y r : Int) (w : World) (a1 : -9223372036854775808 ≤ a) (a2 : a ≤ 9223372036854775807) (c1 : -9223372036854775808 ≤ c) (c2 : c ≤ 9223372036854775807) (b1 : 1 ≤ b) (b2 : b ≤ 1048576) (d1 : 1 ≤ d) (d2 : d ≤ 1048576) (x0 : 0 ≤ x) (x1 : x ≤ 1099511627776) (y0 : 0 ≤ y) (y1 : y ≤ 1099511627776) (ex : RowKit.Hid (a % b * d = x)) (ey : RowKit.Hid (c % d * b = y))
    (hr : (a / b < c / d ∧ r = -1) ∨ (c / d < a / b ∧ r = 1) ∨ (RowKit.Hid (a / b = c / d) ∧ ((x < y ∧ r = -1) ∨ (y < x ∧ r = 1) ∨ (x = y ∧ r = 0)))) :
    Calls Tryz.prog 235 #[.agg #[.int .i64 (a), .int .i64 (b)], .agg #[.int .i64 (c), .int .i64 (d)]] w fun e w' => e = .returned (.int .i64 r) ∧ Below w.heap.size w w' := by
  obtain ⟨_, p1, p2⟩ := div_mul a b b1
  obtain ⟨_, q1, q2⟩ := div_mul c d d1
  have A := lies.on_alloc (lies.made w 45 #[.int .i64 a, .int .i64 b]) (.cells #[.int .i64 c, .int .i64 d] 45)
  have C := lies.made (w.alloc (.cells #[.int .i64 a, .int .i64 b] 45)) 45 #[.int .i64 c, .int .i64 d]
  rw [World.size_alloc] at C
  have hB := up2 w (.cells #[.int .i64 a, .int .i64 b] 45) (.cells #[.int .i64 c, .int .i64 d] 45)
  rcases hr with ⟨t1, rfl⟩ | ⟨t1, rfl⟩ | ⟨t1, hr⟩
  · have t2 : ((a / b) == (c / d)) = false := by simp; omega
    go_enter Tryz.func235, Tryz.ntmps235
    go_wp2_with (go_at_call 161; refine (low_any _ _ _ (by omega) (by omega) (by omega) (by omega)).mono ?_; rintro e w' ⟨rfl, rfl⟩)
    go_ret
    exact ⟨rfl, hB⟩
  · have t2 : ((a / b) == (c / d)) = false := by simp; omega
    have t3 : ¬ a / b < c / d := by omega
    go_enter Tryz.func235, Tryz.ntmps235
    go_wp2_with (go_at_call 161; refine (low_any _ _ _ (by omega) (by omega) (by omega) (by omega)).mono ?_; rintro e w' ⟨rfl, rfl⟩)
    go_ret
    exact ⟨rfl, hB⟩
  · have t2 : ((a / b) == (c / d)) = true := by rw [beq_iff_eq]; exact t1.out
    have e1 : IntKind.i64.wrap (a % b * d) = x := by rw [ex.out]; exact IntWalk.i64_in _ (by omega)
    have e2 : IntKind.i64.wrap (c % d * b) = y := by rw [ey.out]; exact IntWalk.i64_in _ (by omega)
    go_enter Tryz.func235, Tryz.ntmps235
    go_wp2_with (go_at_call 161; refine (low_any _ _ _ (by omega) (by omega) (by omega) (by omega)).mono ?_; rintro e w' ⟨rfl, rfl⟩)
    go_region_held3 (fun W => W.cell? ⟨w.heap.size, 0, none⟩ = some (.int .i64 a) ∧ W.cell? ⟨w.heap.size, 1, none⟩ = some (.int .i64 b) ∧ W.cell? ⟨w.heap.size + 1, 0, none⟩ = some (.int .i64 c) ∧ W.cell? ⟨w.heap.size + 1, 1, none⟩ = some (.int .i64 d)) ((refine lies.four (t := 45) (s := 45) ?_ ?_ <;> repeat (first | with_reducible exact A | with_reducible exact C | with_reducible refine lies.on_drew ?_ | with_reducible refine lies.on_draw ?_ _)))
      (first | (go_at_call 162; refine (part_any _ _ _ (by omega) (by omega) (by omega) (by omega)).mono ?_; rintro e w' ⟨rfl, rfl⟩))
    go_wp2_with fail
    go_region_held3 (fun W => W.cell? ⟨w.heap.size, 0, none⟩ = some (.int .i64 a) ∧ W.cell? ⟨w.heap.size, 1, none⟩ = some (.int .i64 b) ∧ W.cell? ⟨w.heap.size + 1, 0, none⟩ = some (.int .i64 c) ∧ W.cell? ⟨w.heap.size + 1, 1, none⟩ = some (.int .i64 d)) ((refine lies.four (t := 45) (s := 45) ?_ ?_ <;> repeat (first | with_reducible exact A | with_reducible exact C | with_reducible refine lies.on_drew ?_ | with_reducible refine lies.on_draw ?_ _)))
      (first | (go_at_call 162; refine (part_any _ _ _ (by omega) (by omega) (by omega) (by omega)).mono ?_; rintro e w' ⟨rfl, rfl⟩))
    rcases hr with ⟨t3, rfl⟩ | ⟨t3, rfl⟩ | ⟨rfl, rfl⟩
    · go_wp2_with fail
      go_ret
      exact ⟨rfl, by first | exact drawn hB _ | exact lies.frame_drew (lies.frame_drew hB)⟩
    · have t4 : ¬ x < y := by omega
      go_wp2_with fail
      go_ret
      exact ⟨rfl, by first | exact drawn hB _ | exact lies.frame_drew (lies.frame_drew hB)⟩
    · go_wp2_with fail
      go_ret
      exact ⟨rfl, by first | exact drawn hB _ | exact lies.frame_drew (lies.frame_drew hB)⟩
end Go.Proofs.YthmljpccbjolgaaGreatDoor.rref
namespace Go.Proofs.YthmljpccbjolgaaGreatDoor.rref
open Go.ChangeShapes Go.WideShapes Go.ChangeAt Go.RowKit rmath bound num rat
set_option linter.unusedVariables false
theorem compared_any (a b c d:Int) (w:World) (a1:-9223372036854775808≤a) (a2:a≤9223372036854775807) (c1:-9223372036854775808≤c) (c2:c≤9223372036854775807) (h:Both a b c d):
  Calls Tryz.prog 235 #[.agg #[.int .i64 (a),.int .i64 (b)],.agg #[.int .i64 (c),.int .i64 (d)]] w fun e w'=>e=.returned (.int .i64 (cmp0 (a*d) (c*b)))∧Below w.heap.size w w':=by
 obtain ⟨⟨b1,b2,_⟩,⟨d1,d2,_⟩⟩:=h
 obtain ⟨p1,p2,p3⟩:=part_mul (a:=a) b1 b2 d1 d2
 obtain ⟨q1,q2,q3⟩:=part_mul (a:=c) d1 d2 b1 b2
 refine compared_k a b c d _ _ _ w a1 a2 c1 c2 b1 b2 d1 d2 p1 p3 q1 q3 (Lib.hid rfl) (Lib.hid rfl) ?_
 by_cases t1:a / b<c / d
 ·have k:=cross_lt b1 b2 d1 d2 0 (show a / b - c / d<0 by omega)
  rw [Int.zero_mul] at k
  exact .inl ⟨t1,by unfold cmp0;rw [if_neg (by omega),if_pos (by omega)]⟩
 ·by_cases t2:c / d<a / b
  ·have k:=cross_gt b1 b2 d1 d2 0 (show 0<a / b - c / d by omega)
   rw [Int.zero_mul] at k
   exact .inr (.inl ⟨t2,by unfold cmp0;rw [if_pos (by omega)]⟩)
  ·have t3:a / b=c / d:=by omega
   have k:=cross a b c d b1 d1
   rw [show a / b - c / d=0 by omega,Int.zero_mul] at k
   refine .inr (.inr ⟨Lib.hid t3,?_⟩)
   rcases cmp0_cases (a*d) (c*b) with ⟨z,r⟩ | ⟨z,r⟩ | ⟨z,r⟩
   ·exact .inr (.inl ⟨by omega,r⟩)
   ·exact .inl ⟨by omega,r⟩
   ·exact .inr (.inr ⟨by omega,r⟩)
end Go.Proofs.YthmljpccbjolgaaGreatDoor.rref
namespace Go.Proofs.YthmljpccbjolgaaGreatDoor.rref
open Go.ChangeShapes Go.WideShapes Go.ChangeAt Go.RowKit rmath bound num rat
set_option linter.unusedVariables false
end Go.Proofs.YthmljpccbjolgaaGreatDoor.rref
namespace Go.Proofs.YthmljpccbjolgaaGreatDoor.rref
open Go.ChangeShapes Go.WideShapes Go.ChangeAt Go.RowKit rmath bound num rat
set_option linter.unusedVariables false
set_option maxHeartbeats 4000000 in
theorem made_a (n p y g pa Q Z : Int) (m : Bool) (w : World) (n1 : 0 ≤ n) (n2 : n ≤ 2305843009213693952) (p0 : 0 ≤ p) (p1 : p < y) (y1 : 1 ≤ y) (y2 : y ≤ 2199023255552) (hg : RowKit.Hid (gcdI p y = g)) (g1 : 1 ≤ g) (g2 : g ≤ y)
    (epa : p / g = pa) (eQ : y / g = Q) (a0 : 0 ≤ pa) (a1 : pa < Q) (q1 : 1 ≤ Q) (q2 : Q ≤ 1048576) (P1 : 0 ≤ n * Q) (P2 : n * Q + pa ≤ 9223372036854775807)
    (h1 : max 0 pa = pa) (h2 : min 0 pa = 0) (h3 : ¬ (9223372036854775807 - pa) / Q < n) (eZ : (-9223372036854775808 : Int).tdiv Q = Z) (Z1 : -9223372036854775808 ≤ Z) (Z2 : Z ≤ 9223372036854775807) (h4 : ¬ n < Z)
    (cM : RowKit.Hid (law.Says 120 #[.agg #[.int .i64 (n * Q + pa), .int .i64 (Q)]] (.bool m))) :
    Calls Tryz.prog 236 #[.int .i64 n, .int .i64 p, .int .i64 y] w fun e w' => e = .returned (.tuple #[.agg #[.int .i64 (n * Q + pa), .int .i64 (Q)], .bool m]) ∧ Below w.heap.size w w' := by
  have t1 : ¬ g = 0 := by omega
  have t2 : ¬ Q = 0 := by omega
  have r0 := lies.made w 45 #[.int .i64 0, .int .i64 0]
  have K := up1 w (.cells #[.int .i64 0, .int .i64 0] 45)
  have u1 : ¬ n < 0 := by omega
  have q0 : ∀ j : Nat, lies.Lies (((w.alloc (.cells #[.int .i64 0, .int .i64 0] 45)).drewN j).alloc (.cells #[.int .i64 (n * Q + pa), .int .i64 Q] 45)) (w.heap.size + 1) 45 #[.int .i64 (n * Q + pa), .int .i64 Q] := fun j => lies.made_at _ _ _ _ (by simp)
  have Q0 := Lib.hid q0
  clear q0
  go_enter Tryz.func236, Tryz.ntmps236
  go_wp2_with (go_at_call 203; refine (common_any _ _ _ (by omega) (by omega) (by omega) (by omega)).mono ?_; rintro e w' ⟨rfl, k, rfl⟩; rw [hg.out])
  have q1' := Q0.out k
  have r1' := lies.on_alloc (lies.on_draw r0 k) (.cells #[.int .i64 (n * Q + pa), .int .i64 Q] 45)
  have K1 := up (drawn K k) (.cells #[.int .i64 (n * Q + pa), .int .i64 Q] 45)
  go_region_held3 (fun W => W.cell? ⟨w.heap.size + 1, 0, none⟩ = some (.int .i64 (n * Q + pa)) ∧ W.cell? ⟨w.heap.size + 1, 1, none⟩ = some (.int .i64 Q)) ((refine lies.pair (t := 45) ?_ <;> repeat (first | with_reducible exact q1' | with_reducible refine lies.on_drew ?_ | with_reducible refine lies.on_far ?_ _ (by omega) _ | with_reducible refine lies.on_call ?_ hN)))
    (first | ((with_reducible refine (said cM _).mono ?_); rintro e w1 ⟨rfl, hN⟩; have r2 := lies.on_call (lies.on_drew r1') hN; obtain ⟨z0, z1, z2, z3, z4⟩ := lies.two r2))
  all_goals
    go_wp2_with fail
    exact bodyPost_ret (v := .tuple #[.agg #[.int .i64 (n * Q + pa), .int .i64 (Q)], .bool m]) (by simp [results, Tryz.results236, go_sem, z0, z1]) rfl ⟨rfl, ((later (lies.frame_drew K1) hN).setCell (Nat.le_refl _) _).setCell (Nat.le_refl _) _⟩
set_option maxHeartbeats 4000000 in
theorem made_b (n p y g pa Q:Int) (w:World) (n1:0≤n) (n2:n≤2305843009213693952) (p0:0≤p) (p1:p<y) (y1:1≤y) (y2:y≤2199023255552) (hg:RowKit.Hid (gcdI p y=g)) (g1:1≤g) (g2:g≤y)
  (epa:p / g=pa) (eQ:y / g=Q) (a0:0≤pa) (a1:pa<Q) (q1:1≤Q) (q2:Q≤1048576) (h1:max 0 pa=pa) (h3:(9223372036854775807 - pa) / Q<n):
  Calls Tryz.prog 236 #[.int .i64 n,.int .i64 p,.int .i64 y] w fun e w'=>e=.returned (.tuple #[.agg #[.int .i64 (0),.int .i64 (0)],.bool false])∧Below w.heap.size w w':=by
 have t1:¬ g=0:=by omega
 have t2:¬ Q=0:=by omega
 have r0:=lies.made w 45 #[.int .i64 0,.int .i64 0]
 have K:=up1 w (.cells #[.int .i64 0,.int .i64 0] 45)
 have u1:¬ n<0:=by omega
 go_enter Tryz.func236,Tryz.ntmps236
 go_wp2_with (go_at_call 203;refine (common_any _ _ _ (by omega) (by omega) (by omega) (by omega)).mono ?_;rintro e w' ⟨rfl,k,rfl⟩;rw [hg.out])
 exact bodyPost_ret (v:=.tuple #[.agg #[.int .i64 (0),.int .i64 (0)],.bool false]) (by simp [results,Tryz.results236,go_sem]) rfl ⟨rfl,by first | exact drawn K _ | exact ((drawn K _).setCell (Nat.le_refl _) _).setCell (Nat.le_refl _) _⟩
set_option maxHeartbeats 4000000 in
theorem made_d (n p y g pa Q Z:Int) (w:World) (n1:n<0) (n2:-2305843009213693952≤n) (p0:0≤p) (p1:p<y) (y1:1≤y) (y2:y≤2199023255552) (hg:RowKit.Hid (gcdI p y=g)) (g1:1≤g) (g2:g≤y)
  (epa:p / g=pa) (eQ:y / g=Q) (a0:0≤pa) (a1:pa<Q) (q1:1≤Q) (q2:Q≤1048576) (h1:max 0 (pa - Q)=0) (h2:min 0 (pa - Q)=pa - Q) (h3:¬ 9223372036854775807 / Q<n+1) (eZ:(-9223372036854775808 - (pa - Q)).tdiv Q=Z) (Z1:-9223372036854775808≤Z) (Z2:Z≤9223372036854775807) (h4:n+1<Z):
  Calls Tryz.prog 236 #[.int .i64 n,.int .i64 p,.int .i64 y] w fun e w'=>e=.returned (.tuple #[.agg #[.int .i64 (0),.int .i64 (0)],.bool false])∧Below w.heap.size w w':=by
 have t1:¬ g=0:=by omega
 have t2:¬ Q=0:=by omega
 have r0:=lies.made w 45 #[.int .i64 0,.int .i64 0]
 have K:=up1 w (.cells #[.int .i64 0,.int .i64 0] 45)
 go_enter Tryz.func236,Tryz.ntmps236
 go_wp2_with (go_at_call 203;refine (common_any _ _ _ (by omega) (by omega) (by omega) (by omega)).mono ?_;rintro e w' ⟨rfl,k,rfl⟩;rw [hg.out])
 exact bodyPost_ret (v:=.tuple #[.agg #[.int .i64 (0),.int .i64 (0)],.bool false]) (by simp [results,Tryz.results236,go_sem]) rfl ⟨rfl,by first | exact drawn K _ | exact ((drawn K _).setCell (Nat.le_refl _) _).setCell (Nat.le_refl _) _⟩
set_option maxHeartbeats 4000000 in
theorem made_e (n p y g pa Q : Int) (w : World) (n1 : -9223372036854775807 ≤ n) (n2 : n ≤ 9223372036854775807) (p0 : 0 ≤ p) (p1 : p < y) (y1 : 1 ≤ y) (y2 : y ≤ 2199023255552) (hg : RowKit.Hid (gcdI p y = g)) (g1 : 1 ≤ g) (g2 : g ≤ y)
  (epa : p / g = pa) (eQ : y / g = Q) (a0 : 0 ≤ pa) (a1 : pa < Q) (q1 : 1 ≤ Q) (h : 1048576 < Q ∨ (Q ≤ 1048576 ∧ 2305843009213693952 < n) ∨ (Q ≤ 1048576 ∧ n < -2305843009213693952)) :
  Calls Tryz.prog 236 #[.int .i64 n,.int .i64 p,.int .i64 y] w fun e w' => e = .returned (.tuple #[.agg #[.int .i64 (0),.int .i64 (0)],.bool false]) ∧ Below w.heap.size w w' := by
 have t1 : ¬ g = 0 := by omega
 have t2 : ¬ Q = 0 := by omega
 have r0 := lies.made w 45 #[.int .i64 0,.int .i64 0]
 have K := up1 w (.cells #[.int .i64 0,.int .i64 0] 45)
 rcases h with h | ⟨h,h5⟩ | ⟨h,h5⟩
 all_goals
  go_enter Tryz.func236,Tryz.ntmps236
  go_wp2_with (go_at_call 203; refine (common_any _ _ _ (by omega) (by omega) (by omega) (by omega)).mono ?_; rintro e w' ⟨rfl,k,rfl⟩; rw [hg.out])
  exact bodyPost_ret (v := .tuple #[.agg #[.int .i64 (0),.int .i64 (0)],.bool false]) (by simp [results,Tryz.results236,go_sem]) rfl ⟨rfl,by first | exact drawn K _ | exact ((drawn K _).setCell (Nat.le_refl _) _).setCell (Nat.le_refl _) _⟩
set_option maxHeartbeats 4000000 in
theorem made_c (n p y g pa Q Z : Int) (m : Bool) (w : World) (n1 : n < 0) (n2 : -2305843009213693952 ≤ n) (p0 : 0 ≤ p) (p1 : p < y) (y1 : 1 ≤ y) (y2 : y ≤ 2199023255552) (hg : RowKit.Hid (gcdI p y = g)) (g1 : 1 ≤ g) (g2 : g ≤ y)
    (epa : p / g = pa) (eQ : y / g = Q) (a0 : 0 ≤ pa) (a1 : pa < Q) (q1 : 1 ≤ Q) (q2 : Q ≤ 1048576) (P1 : (n + 1) * Q ≤ 0) (P2 : -9223372036854775808 ≤ (n + 1) * Q + (pa - Q)) (P3 : -9223372036854775808 ≤ (n + 1) * Q)
    (h1 : max 0 (pa - Q) = 0) (h2 : min 0 (pa - Q) = pa - Q) (h3 : ¬ 9223372036854775807 / Q < n + 1) (eZ : (-9223372036854775808 - (pa - Q)).tdiv Q = Z) (Z1 : -9223372036854775808 ≤ Z) (Z2 : Z ≤ 9223372036854775807) (h4 : ¬ n + 1 < Z)
    (cM : RowKit.Hid (law.Says 120 #[.agg #[.int .i64 ((n + 1) * Q + (pa - Q)), .int .i64 (Q)]] (.bool m))) :
    Calls Tryz.prog 236 #[.int .i64 n, .int .i64 p, .int .i64 y] w fun e w' => e = .returned (.tuple #[.agg #[.int .i64 ((n + 1) * Q + (pa - Q)), .int .i64 (Q)], .bool m]) ∧ Below w.heap.size w w' := by
  have t1 : ¬ g = 0 := by omega
  have t2 : ¬ Q = 0 := by omega
  have r0 := lies.made w 45 #[.int .i64 0, .int .i64 0]
  have K := up1 w (.cells #[.int .i64 0, .int .i64 0] 45)
  have q0 : ∀ j : Nat, lies.Lies (((w.alloc (.cells #[.int .i64 0, .int .i64 0] 45)).drewN j).alloc (.cells #[.int .i64 ((n + 1) * Q + (pa - Q)), .int .i64 Q] 45)) (w.heap.size + 1) 45 #[.int .i64 ((n + 1) * Q + (pa - Q)), .int .i64 Q] := fun j => lies.made_at _ _ _ _ (by simp)
  have Q0 := Lib.hid q0
  clear q0
  go_enter Tryz.func236, Tryz.ntmps236
  go_wp2_with (go_at_call 203; refine (common_any _ _ _ (by omega) (by omega) (by omega) (by omega)).mono ?_; rintro e w' ⟨rfl, k, rfl⟩; rw [hg.out])
  have q1' := Q0.out k
  have r1' := lies.on_alloc (lies.on_draw r0 k) (.cells #[.int .i64 ((n + 1) * Q + (pa - Q)), .int .i64 Q] 45)
  have K1 := up (drawn K k) (.cells #[.int .i64 ((n + 1) * Q + (pa - Q)), .int .i64 Q] 45)
  go_region_held3 (fun W => W.cell? ⟨w.heap.size + 1, 0, none⟩ = some (.int .i64 ((n + 1) * Q + (pa - Q))) ∧ W.cell? ⟨w.heap.size + 1, 1, none⟩ = some (.int .i64 Q)) ((refine lies.pair (t := 45) ?_ <;> repeat (first | with_reducible exact q1' | with_reducible refine lies.on_drew ?_ | with_reducible refine lies.on_far ?_ _ (by omega) _ | with_reducible refine lies.on_call ?_ hN)))
    (first | ((with_reducible refine (said cM _).mono ?_); rintro e w1 ⟨rfl, hN⟩; have r2 := lies.on_call (lies.on_drew r1') hN; obtain ⟨z0, z1, z2, z3, z4⟩ := lies.two r2))
  all_goals
    go_wp2_with fail
    exact bodyPost_ret (v := .tuple #[.agg #[.int .i64 ((n + 1) * Q + (pa - Q)), .int .i64 (Q)], .bool m]) (by simp [results, Tryz.results236, go_sem, z0, z1]) rfl ⟨rfl, ((later (lies.frame_drew K1) hN).setCell (Nat.le_refl _) _).setCell (Nat.le_refl _) _⟩
end Go.Proofs.YthmljpccbjolgaaGreatDoor.rref
namespace Go.Proofs.YthmljpccbjolgaaGreatDoor.rref
open Go.ChangeShapes Go.WideShapes Go.ChangeAt Go.RowKit rmath bound num rat
set_option linter.unusedVariables false
theorem made_math (n p y:Int) (p0:0≤p) (p1:p<y) (y1:1≤y):
  gcdI p y=gcdI (n*y+p) y∧p / gcdI (n*y+p) y*gcdI (n*y+p) y=p∧lowP (n*y+p) y=n*lowQ (n*y+p) y+p / gcdI (n*y+p) y∧0≤p / gcdI (n*y+p) y∧p / gcdI (n*y+p) y<lowQ (n*y+p) y:=by
 have e:(n*y+p) % y=p:=by
  rw [Int.add_comm,Int.add_mul_emod_self_right]
  exact Int.emod_eq_of_lt p0 p1
 have g:gcdI p y=gcdI (n*y+p) y:=by
  have k:=gcd_part (n*y+p) y
  rw [e] at k
  rw [←k]
  unfold gcdI
  rw [Int.gcd_comm]
 have g1:=gcd_pos (n*y+p) y y1
 obtain ⟨a,b,_,_⟩:=low_parts (n*y+p) y y1
 have d:p / gcdI (n*y+p) y*gcdI (n*y+p) y=p:=by
  rw [←g]
  exact Int.ediv_mul_cancel (Int.gcd_dvd_left p y)
 refine ⟨g,d,?_,Int.ediv_nonneg p0 (by omega),?_⟩
 ·generalize gcdI (n*y+p) y=G at*
  generalize lowQ (n*y+p) y=Q at*
  generalize p / G=pa at*
  refine mul_right_cancel (c:=G) (by omega) ?_
  rw [a,Int.add_mul,d,Int.mul_assoc,b]
 ·generalize gcdI (n*y+p) y=G at*
  generalize lowQ (n*y+p) y=Q at*
  generalize p / G=pa at*
  exact Int.lt_of_mul_lt_mul_right (show pa*G<Q*G by omega) (by omega)
theorem tdiv_le_of (X Q k:Int) (hQ:1≤Q) (hX:X<0):(X≤k*Q→X.tdiv Q≤k)∧(k*Q<X→k<X.tdiv Q):=by
 obtain ⟨e,r0,r1⟩:=div_mul X Q hQ
 have le:=le_div X Q k hQ
 rcases tdiv_cases X Q hQ hX with ⟨c1,c2,_⟩ | ⟨c1,c2,_⟩
 ·rw [c2]
  constructor
  ·intro h
   refine Int.le_of_mul_le_mul_right (show X / Q*Q≤k*Q by omega) (by omega)
  ·intro h
   exact Int.lt_of_mul_lt_mul_right (show k*Q<X / Q*Q by omega) (by omega)
 ·rw [c2]
  constructor
  ·intro h
   have:=Int.lt_of_mul_lt_mul_right (show X / Q*Q<k*Q by omega) (show 0≤Q by omega)
   omega
  ·intro h
   have:=le.2 (by omega)
   omega
theorem tdiv_in (X Q:Int) (hQ:1≤Q) (hX:X<0) (h1:-9223372036854775808≤X):-9223372036854775808≤X.tdiv Q∧X.tdiv Q≤0:=by
 obtain ⟨d0,d1⟩:=ediv_in X Q hQ h1 (by omega)
 have d2:=Int.ediv_neg_of_neg_of_pos hX (show 0<Q by omega)
 rcases tdiv_cases X Q hQ hX with ⟨c1,c2,_⟩ | ⟨c1,c2,_⟩<;>rw [c2]<;>omega
def MadeP (V y:Int) (w:World) (e:Ending) (w':World):Prop:=
 ∃ (z1 z2:Int) (r:Bool),e=.returned (.tuple #[.agg #[.int .i64 (z1),.int .i64 (z2)],.bool r])∧((lowOk V y∧r=true∧z1=lowP V y∧z2=lowQ V y)∨(¬ lowOk V y∧r=false))∧Below w.heap.size w w'
theorem MadeP.no {V y z1 z2:Int} {w w':World} {e:Ending} (h:¬ lowOk V y) (k:e=.returned (.tuple #[.agg #[.int .i64 (z1),.int .i64 (z2)],.bool false])∧Below w.heap.size w w'):MadeP V y w e w':=⟨z1,z2,false,k.1,.inr ⟨h,rfl⟩,k.2⟩
theorem made_any (n p y : Int) (w : World) (n1 : -9223372036854775807 ≤ n) (n2 : n ≤ 9223372036854775807) (p0 : 0 ≤ p) (p1 : p < y) (y1 : 1 ≤ y) (y2 : y ≤ 2199023255552) :
  Calls Tryz.prog 236 #[.int .i64 n,.int .i64 p,.int .i64 y] w (MadeP (n * y + p) y w) := by
 obtain ⟨g0,_,eP,a0,a1⟩ := made_math n p y p0 p1 y1
 have g1 := gcd_pos (n * y + p) y y1
 have g2 := gcd_le (n * y + p) y y1
 obtain ⟨q1,q3⟩ := lowQ_in (n * y + p) y y1
 have HG := Lib.hid g0
 by_cases hE : 1048576 < lowQ (n * y + p) y ∨ (lowQ (n * y + p) y ≤ 1048576 ∧ 2305843009213693952 < n) ∨ (lowQ (n * y + p) y ≤ 1048576 ∧ n < -2305843009213693952)
 ·refine (made_e n p y (gcdI (n * y + p) y) (p / gcdI (n * y + p) y) (lowQ (n * y + p) y) w n1 n2 p0 p1 y1 y2 HG g1 g2 rfl rfl a0 a1 q1 hE).mono fun e w' k => MadeP.no (fun z => ?_) k
  obtain ⟨_,z2,z3,z4,_⟩ := z.2.2
  rw [eP] at z3 z4
  generalize lowQ (n * y + p) y = Q at *
  generalize p / gcdI (n * y + p) y = pa at *
  rcases hE with h | ⟨_,h⟩ | ⟨_,h⟩
  ·omega
  ·have := Int.mul_le_mul_of_nonneg_right (show 2305843009213693953 ≤ n by omega) (show 0 ≤ Q by omega)
   omega
  ·have := Int.mul_le_mul_of_nonneg_right (show n ≤ -2305843009213693953 by omega) (show 0 ≤ Q by omega)
   omega
 ·have q2 : lowQ (n * y + p) y ≤ 1048576 := by omega
  have m1 : -2305843009213693952 ≤ n := by omega
  have m2 : n ≤ 2305843009213693952 := by omega
  clear hE
  have fits : lowOk (n * y + p) y ↔ (-9223372036854775808 ≤ lowP (n * y + p) y ∧ lowP (n * y + p) y ≤ 9223372036854775807) ∧ MayR (lowP (n * y + p) y) (lowQ (n * y + p) y) := ⟨fun z => ⟨⟨z.1,z.2.1⟩,z.2.2⟩,fun z => ⟨z.1.1,z.1.2,z.2⟩⟩
  have fin : ∀ (e : Ending) (w' : World),-9223372036854775808 ≤ lowP (n * y + p) y → lowP (n * y + p) y ≤ 9223372036854775807 → (e = .returned (.tuple #[.agg #[.int .i64 (lowP (n * y + p) y),.int .i64 (lowQ (n * y + p) y)],.bool (mayB (lowP (n * y + p) y) (lowQ (n * y + p) y))]) ∧ Below w.heap.size w w') → MadeP (n * y + p) y w e w' := by
   rintro e w' i1 i2 ⟨k1,k2⟩
   by_cases m : MayR (lowP (n * y + p) y) (lowQ (n * y + p) y)
   ·exact ⟨_,_,true,by rw [k1,mayB_yes m],.inl ⟨fits.2 ⟨⟨i1,i2⟩,m⟩,rfl,rfl,rfl⟩,k2⟩
   ·exact ⟨_,_,false,by rw [k1,mayB_no m],.inr ⟨fun z => m (fits.1 z).2,rfl⟩,k2⟩
  by_cases hn : 0 ≤ n
  ·have P1 : 0 ≤ n * lowQ (n * y + p) y := Int.mul_nonneg hn (by omega)
   by_cases hP : n * lowQ (n * y + p) y + p / gcdI (n * y + p) y ≤ 9223372036854775807
   ·obtain ⟨Z1,Z2⟩ := tdiv_in (-9223372036854775808) _ q1 (by omega) (by omega)
    have k := made_a n p y (gcdI (n * y + p) y) (p / gcdI (n * y + p) y) (lowQ (n * y + p) y) _ (mayB (n * lowQ (n * y + p) y + p / gcdI (n * y + p) y) (lowQ (n * y + p) y)) w hn m2 p0 p1 y1 y2 HG g1 g2 rfl rfl a0 a1 q1 q2 P1 hP (by omega) (by omega) (by have := (le_div (9223372036854775807 - p / gcdI (n * y + p) y) _ n q1).2 (by omega); omega) rfl Z1 (by omega) (by omega) (Lib.hid (fun w => may_any _ _ w (by omega) hP))
    rw [← eP] at k
    exact k.mono fun e w' => fin e w' (by omega) (by omega)
   ·refine (made_b n p y (gcdI (n * y + p) y) (p / gcdI (n * y + p) y) (lowQ (n * y + p) y) w hn m2 p0 p1 y1 y2 HG g1 g2 rfl rfl a0 a1 q1 q2 (by omega) (Int.ediv_lt_of_lt_mul (by omega) (by omega))).mono fun e w' k => MadeP.no (fun z => ?_) k
    have := z.2.1
    omega
  ·have e1 : (n + 1) * lowQ (n * y + p) y + (p / gcdI (n * y + p) y - lowQ (n * y + p) y) = n * lowQ (n * y + p) y + p / gcdI (n * y + p) y := by rw [Int.add_mul,Int.one_mul]; omega
   have P1 : (n + 1) * lowQ (n * y + p) y ≤ 0 := Int.mul_nonpos_of_nonpos_of_nonneg (by omega) (by omega)
   obtain ⟨Z1,Z2⟩ := tdiv_in (-9223372036854775808 - (p / gcdI (n * y + p) y - lowQ (n * y + p) y)) _ q1 (by omega) (by omega)
   obtain ⟨T1,T2⟩ := tdiv_le_of (-9223372036854775808 - (p / gcdI (n * y + p) y - lowQ (n * y + p) y)) _ (n + 1) q1 (by omega)
   have h3 : 0 ≤ 9223372036854775807 / lowQ (n * y + p) y := Int.ediv_nonneg (by omega) (by omega)
   by_cases hP : -9223372036854775808 ≤ (n + 1) * lowQ (n * y + p) y + (p / gcdI (n * y + p) y - lowQ (n * y + p) y)
   ·have T := T1 (by omega)
    have k := made_c n p y (gcdI (n * y + p) y) (p / gcdI (n * y + p) y) (lowQ (n * y + p) y) _ (mayB ((n + 1) * lowQ (n * y + p) y + (p / gcdI (n * y + p) y - lowQ (n * y + p) y)) (lowQ (n * y + p) y)) w (by omega) m1 p0 p1 y1 y2 HG g1 g2 rfl rfl a0 a1 q1 q2 P1 hP (by omega) (by omega) (by omega) (by omega) rfl Z1 (by omega) (by omega) (Lib.hid (fun w => may_any _ _ w hP (by omega)))
    rw [e1,← eP] at k
    exact k.mono fun e w' => fin e w' (by omega) (by omega)
   ·have T := T2 (by omega)
    refine (made_d n p y (gcdI (n * y + p) y) (p / gcdI (n * y + p) y) (lowQ (n * y + p) y) _ w (by omega) m1 p0 p1 y1 y2 HG g1 g2 rfl rfl a0 a1 q1 q2 (by omega) (by omega) (by omega) rfl Z1 (by omega) T).mono fun e w' k => MadeP.no (fun z => ?_) k
    have := z.1
    omega
end Go.Proofs.YthmljpccbjolgaaGreatDoor.rref
namespace Go.Proofs.YthmljpccbjolgaaGreatDoor.rref
open Go.ChangeShapes Go.WideShapes Go.ChangeAt Go.RowKit rmath bound num rat
set_option linter.unusedVariables false
set_option maxHeartbeats 1000000 in
theorem add_no (a b c d:Int) (m n:Bool) (w:World)
  (c1:RowKit.Hid (law.Says 120 #[.agg #[.int .i64 (a),.int .i64 (b)]] (.bool m)))
  (c2:RowKit.Hid (law.Says 120 #[.agg #[.int .i64 (c),.int .i64 (d)]] (.bool n)))
  (h:m=false∨(m=true∧n=false)):
  Calls Tryz.prog 237 #[.agg #[.int .i64 (a),.int .i64 (b)],.agg #[.int .i64 (c),.int .i64 (d)]] w fun e w'=>e=.returned (.tuple #[.agg #[.int .i64 (0),.int .i64 (0)],.int .i64 8])∧Below w.heap.size w w':=by
 have A:=lies.on_alloc (lies.on_alloc (lies.made w 45 #[.int .i64 a,.int .i64 b]) (.cells #[.int .i64 c,.int .i64 d] 45)) (.cells #[.int .i64 0,.int .i64 0] 45)
 have C:=lies.on_alloc (lies.made (w.alloc (.cells #[.int .i64 a,.int .i64 b] 45)) 45 #[.int .i64 c,.int .i64 d]) (.cells #[.int .i64 0,.int .i64 0] 45)
 have R:=lies.made ((w.alloc (.cells #[.int .i64 a,.int .i64 b] 45)).alloc (.cells #[.int .i64 c,.int .i64 d] 45)) 45 #[.int .i64 0,.int .i64 0]
 rw [World.size_alloc] at C
 rw [World.size_alloc,World.size_alloc] at R
 have hB:=up3 w (.cells #[.int .i64 a,.int .i64 b] 45) (.cells #[.int .i64 c,.int .i64 d] 45) (.cells #[.int .i64 0,.int .i64 0] 45)
 rcases h with rfl | ⟨rfl,rfl⟩
 all_goals
  go_enter Tryz.func237,Tryz.ntmps237
  go_wp2_with (first
   | ((with_reducible refine (said c1 _).mono ?_);rintro e w1 ⟨rfl,hN⟩;(replace hB:=later hB hN);(replace A:=lies.on_call A hN);(replace C:=lies.on_call C hN);(replace R:=lies.on_call R hN);clear hN;obtain ⟨A0,A1,A2,A3,A4⟩:=lies.two A;obtain ⟨C0,C1,C2,C3,C4⟩:=lies.two C;obtain ⟨R0,R1,R2,R3,R4⟩:=lies.two R)
   | ((with_reducible refine (said c2 _).mono ?_);rintro e w2 ⟨rfl,hN⟩;(replace hB:=later hB hN);(replace A:=lies.on_call A hN);(replace C:=lies.on_call C hN);(replace R:=lies.on_call R hN);clear hN;obtain ⟨A0,A1,A2,A3,A4⟩:=lies.two A;obtain ⟨C0,C1,C2,C3,C4⟩:=lies.two C;obtain ⟨R0,R1,R2,R3,R4⟩:=lies.two R))
  exact bodyPost_ret (v:=.tuple #[.agg #[.int .i64 (0),.int .i64 (0)],.int .i64 8]) (by simp [results,Tryz.results237,go_sem,R0,R1]) rfl ⟨rfl,(hB.setCell (by simp;omega) _).setCell (by simp;omega) _⟩
set_option maxHeartbeats 8000000 in
theorem add_k (a b c d B x y T U q r N X Y E : Int) (w : World) (a1 : -9223372036854775808 ≤ a) (a2 : a ≤ 9223372036854775807) (c1 : -9223372036854775808 ≤ c) (c2 : c ≤ 9223372036854775807) (b1 : 1 ≤ b) (b2 : b ≤ 1048576) (d1 : 1 ≤ d) (d2 : d ≤ 1048576)
    (c1 : RowKit.Hid (law.Says 120 #[.agg #[.int .i64 (a), .int .i64 (b)]] (.bool true)))
    (c2 : RowKit.Hid (law.Says 120 #[.agg #[.int .i64 (c), .int .i64 (d)]] (.bool true)))
    (eB : b * d = B) (B1 : 1 ≤ B) (B2 : B ≤ 1099511627776) (e1 : IntKind.i64.wrap (a % b * d) = x) (e2 : IntKind.i64.wrap (c % d * b) = y) (e3 : IntKind.i64.wrap (x + y) = T) (e4 : IntKind.i64.wrap (a / b + c / d) = U) (e5 : IntKind.i64.wrap (T.tdiv B) = q) (e6 : T.tmod B = r) (e7 : IntKind.i64.wrap (U + q) = N)
    (N1 : -9223372036854775807 ≤ N) (N2 : N ≤ 9223372036854775807) (r0 : 0 ≤ r) (r1 : r < B)
    (hz : RowKit.Hid ((lowOk (N * B + r) (B) ∧ X = lowP (N * B + r) (B) ∧ Y = lowQ (N * B + r) (B) ∧ E = 0) ∨ (¬ lowOk (N * B + r) (B) ∧ X = 0 ∧ Y = 0 ∧ E = 10))) :
    Calls Tryz.prog 237 #[.agg #[.int .i64 (a), .int .i64 (b)], .agg #[.int .i64 (c), .int .i64 (d)]] w fun e w' => e = .returned (.tuple #[.agg #[.int .i64 (X), .int .i64 (Y)], .int .i64 E]) ∧ Below w.heap.size w w' := by
  obtain ⟨_, y1, y2⟩ := div_mul a b b1
  obtain ⟨_, z1, z2⟩ := div_mul c d d1
  have t1 : ¬ B = 0 := by omega
  have A := lies.on_alloc (lies.on_alloc (lies.made w 45 #[.int .i64 a, .int .i64 b]) (.cells #[.int .i64 c, .int .i64 d] 45)) (.cells #[.int .i64 0, .int .i64 0] 45)
  have C := lies.on_alloc (lies.made (w.alloc (.cells #[.int .i64 a, .int .i64 b] 45)) 45 #[.int .i64 c, .int .i64 d]) (.cells #[.int .i64 0, .int .i64 0] 45)
  have R := lies.made ((w.alloc (.cells #[.int .i64 a, .int .i64 b] 45)).alloc (.cells #[.int .i64 c, .int .i64 d] 45)) 45 #[.int .i64 0, .int .i64 0]
  rw [World.size_alloc] at C
  rw [World.size_alloc, World.size_alloc] at R
  have hB := up3 w (.cells #[.int .i64 a, .int .i64 b] 45) (.cells #[.int .i64 c, .int .i64 d] 45) (.cells #[.int .i64 0, .int .i64 0] 45)
  go_enter Tryz.func237, Tryz.ntmps237
  go_wp2_with (first
    | ((with_reducible refine (said c1 _).mono ?_); rintro e w1 ⟨rfl, hN⟩; (replace hB := later hB hN); (replace A := lies.on_call A hN); (replace C := lies.on_call C hN); (replace R := lies.on_call R hN); clear hN; obtain ⟨A0, A1, A2, A3, A4⟩ := lies.two A; obtain ⟨C0, C1, C2, C3, C4⟩ := lies.two C; obtain ⟨R0, R1, R2, R3, R4⟩ := lies.two R)
    | ((with_reducible refine (said c2 _).mono ?_); rintro e w2 ⟨rfl, hN⟩; (replace hB := later hB hN); (replace A := lies.on_call A hN); (replace C := lies.on_call C hN); (replace R := lies.on_call R hN); clear hN; obtain ⟨A0, A1, A2, A3, A4⟩ := lies.two A; obtain ⟨C0, C1, C2, C3, C4⟩ := lies.two C; obtain ⟨R0, R1, R2, R3, R4⟩ := lies.two R))
  go_region_held3 (fun W => W.cell? ⟨w.heap.size, 0, none⟩ = some (.int .i64 a) ∧ W.cell? ⟨w.heap.size, 1, none⟩ = some (.int .i64 b) ∧ W.cell? ⟨w.heap.size + 1, 0, none⟩ = some (.int .i64 c) ∧ W.cell? ⟨w.heap.size + 1, 1, none⟩ = some (.int .i64 d)) ((refine lies.four (t := 45) (s := 45) ?_ ?_ <;> repeat (first | with_reducible exact A | with_reducible exact C | with_reducible refine lies.on_drew ?_ | with_reducible refine lies.on_draw ?_ _ | with_reducible refine lies.on_alloc ?_ _ | with_reducible refine lies.on_call ?_ hN | with_reducible refine lies.on_far ?_ _ (by omega) _)))
      (first | (go_at_call 162; refine (part_any _ _ _ (by omega) (by omega) (by omega) (by omega)).mono ?_; rintro e w' ⟨rfl, rfl⟩))
  go_upto_region 5 with fail
  go_cut [8, 9] (fun s8 s9 wx => ∃ (g : Nat) (z1 z2 : Int) (rr : Bool), s8 = .pointer (some ⟨g, 0, none⟩) ∧ s9 = .bool rr ∧ lies.Lies wx g 45 #[.int .i64 z1, .int .i64 z2] ∧ lies.Lies wx (w.heap.size + 1 + 1) 45 #[.int .i64 0, .int .i64 0] ∧ Below w.heap.size w wx ∧ ((lowOk (N * B + r) (B) ∧ rr = true ∧ z1 = lowP (N * B + r) (B) ∧ z2 = lowQ (N * B + r) (B)) ∨ (¬ lowOk (N * B + r) (B) ∧ rr = false)))
  case first =>
    go_region_held3 (fun W => W.cell? ⟨w.heap.size, 0, none⟩ = some (.int .i64 a) ∧ W.cell? ⟨w.heap.size, 1, none⟩ = some (.int .i64 b) ∧ W.cell? ⟨w.heap.size + 1, 0, none⟩ = some (.int .i64 c) ∧ W.cell? ⟨w.heap.size + 1, 1, none⟩ = some (.int .i64 d)) ((refine lies.four (t := 45) (s := 45) ?_ ?_ <;> repeat (first | with_reducible exact A | with_reducible exact C | with_reducible refine lies.on_drew ?_ | with_reducible refine lies.on_draw ?_ _ | with_reducible refine lies.on_alloc ?_ _ | with_reducible refine lies.on_call ?_ hN | with_reducible refine lies.on_far ?_ _ (by omega) _)))
      (first
        | (go_at_call 161; refine (low_any _ _ _ (by omega) (by omega) (by omega) (by omega)).mono ?_; rintro e w' ⟨rfl, rfl⟩)
        | (go_at_call 236; refine (made_any N r B _ (by omega) (by omega) (by omega) (by omega) (by omega) (by omega)).mono ?_; rintro e wN ⟨v1, v2, rr, rfl, hz2, hN⟩; have HZ := Lib.hid hz2; clear hz2; (try (have M8 : lies.Lies wN w2.heap.size 45 #[.int .i64 0, .int .i64 0] := lies.on_call (lies.on_drew (lies.on_drew (lies.made w2 45 #[.int .i64 0, .int .i64 0]))) hN; obtain ⟨M0, M1, M2, M3, M4⟩ := lies.two M8))))
    all_goals
      go_wp2_with fail
      go_meet
      refine ⟨_, v1, v2, rr, rfl, rfl, ?_, ?_, ?_, HZ.out⟩
      · first | exact lies.on_put (lies.on_put M8 0 _) 1 _ | exact lies.made _ _ _
      · repeat (first | with_reducible exact R | with_reducible refine lies.on_drew ?_ | with_reducible refine lies.on_alloc ?_ _ | with_reducible refine lies.on_call ?_ hN | with_reducible refine lies.on_far ?_ _ (by omega) _)
      · have hs := hB.size
        repeat (first | with_reducible exact hB | with_reducible refine lies.frame_drew ?_ | with_reducible refine lies.frame_up ?_ _ | with_reducible refine later ?_ hN | with_reducible refine Below.setCell ?_ hs _)
  case rest =>
    obtain ⟨g, v1, v2, rr, rfl, rfl, hg, hr, hB2, hz2⟩ := hcut
    obtain ⟨s0, s1, s2, s3, s4⟩ := lies.two hg
    obtain ⟨u0, u1, u2, u3, u4⟩ := lies.two hr
    have hw : w.heap.size ≤ w.heap.size + 1 + 1 := by omega
    rcases hz2 with ⟨k, rfl, rfl, rfl⟩ | ⟨k, rfl⟩
    · rcases hz.out with ⟨_, rfl, rfl, rfl⟩ | ⟨k2, _⟩
      · clear k
        go_wp2_with fail
        exact bodyPost_ret (v := .tuple #[.agg #[.int .i64 (lowP (N * B + r) (B)), .int .i64 (lowQ (N * B + r) (B))], .int .i64 0]) (by simp [results, Tryz.results237, go_sem, u0, u1]) rfl ⟨rfl, (hB2.setCell hw _).setCell hw _⟩
      · exact absurd k k2
    · rcases hz.out with ⟨k2, _⟩ | ⟨_, rfl, rfl, rfl⟩
      · exact absurd k2 k
      · clear k
        go_wp2_with fail
        exact bodyPost_ret (v := .tuple #[.agg #[.int .i64 (0), .int .i64 (0)], .int .i64 10]) (by simp [results, Tryz.results237, go_sem, u0, u1]) rfl ⟨rfl, (hB2.setCell hw _).setCell hw _⟩
end Go.Proofs.YthmljpccbjolgaaGreatDoor.rref
namespace Go.Proofs.YthmljpccbjolgaaGreatDoor.rref
open Go.ChangeShapes Go.WideShapes Go.ChangeAt Go.RowKit rmath bound num rat
set_option linter.unusedVariables false
set_option maxHeartbeats 1000000 in
theorem mid_no (a b c d:Int) (m n:Bool) (w:World)
  (c1:RowKit.Hid (law.Says 120 #[.agg #[.int .i64 (a),.int .i64 (b)]] (.bool m)))
  (c2:RowKit.Hid (law.Says 120 #[.agg #[.int .i64 (c),.int .i64 (d)]] (.bool n)))
  (h:m=false∨(m=true∧n=false)):
  Calls Tryz.prog 224 #[.agg #[.int .i64 (a),.int .i64 (b)],.agg #[.int .i64 (c),.int .i64 (d)]] w fun e w'=>e=.returned (.tuple #[.agg #[.int .i64 (0),.int .i64 (0)],.int .i64 8])∧Below w.heap.size w w':=by
 have A:=lies.on_alloc (lies.on_alloc (lies.made w 45 #[.int .i64 a,.int .i64 b]) (.cells #[.int .i64 c,.int .i64 d] 45)) (.cells #[.int .i64 0,.int .i64 0] 45)
 have C:=lies.on_alloc (lies.made (w.alloc (.cells #[.int .i64 a,.int .i64 b] 45)) 45 #[.int .i64 c,.int .i64 d]) (.cells #[.int .i64 0,.int .i64 0] 45)
 have R:=lies.made ((w.alloc (.cells #[.int .i64 a,.int .i64 b] 45)).alloc (.cells #[.int .i64 c,.int .i64 d] 45)) 45 #[.int .i64 0,.int .i64 0]
 rw [World.size_alloc] at C
 rw [World.size_alloc,World.size_alloc] at R
 have hB:=up3 w (.cells #[.int .i64 a,.int .i64 b] 45) (.cells #[.int .i64 c,.int .i64 d] 45) (.cells #[.int .i64 0,.int .i64 0] 45)
 rcases h with rfl | ⟨rfl,rfl⟩
 all_goals
  go_enter Tryz.func224,Tryz.ntmps224
  go_wp2_with (first
   | ((with_reducible refine (said c1 _).mono ?_);rintro e w1 ⟨rfl,hN⟩;(replace hB:=later hB hN);(replace A:=lies.on_call A hN);(replace C:=lies.on_call C hN);(replace R:=lies.on_call R hN);clear hN;obtain ⟨A0,A1,A2,A3,A4⟩:=lies.two A;obtain ⟨C0,C1,C2,C3,C4⟩:=lies.two C;obtain ⟨R0,R1,R2,R3,R4⟩:=lies.two R)
   | ((with_reducible refine (said c2 _).mono ?_);rintro e w2 ⟨rfl,hN⟩;(replace hB:=later hB hN);(replace A:=lies.on_call A hN);(replace C:=lies.on_call C hN);(replace R:=lies.on_call R hN);clear hN;obtain ⟨A0,A1,A2,A3,A4⟩:=lies.two A;obtain ⟨C0,C1,C2,C3,C4⟩:=lies.two C;obtain ⟨R0,R1,R2,R3,R4⟩:=lies.two R))
  exact bodyPost_ret (v:=.tuple #[.agg #[.int .i64 (0),.int .i64 (0)],.int .i64 8]) (by simp [results,Tryz.results224,go_sem,R0,R1]) rfl ⟨rfl,(hB.setCell (by simp;omega) _).setCell (by simp;omega) _⟩
set_option maxHeartbeats 8000000 in
theorem mid_k (a b c d B D x y h h1 T U q r N X Y E : Int) (w : World) (a1 : -9223372036854775808 ≤ a) (a2 : a ≤ 9223372036854775807) (c1 : -9223372036854775808 ≤ c) (c2 : c ≤ 9223372036854775807) (b1 : 1 ≤ b) (b2 : b ≤ 1048576) (d1 : 1 ≤ d) (d2 : d ≤ 1048576)
    (c1 : RowKit.Hid (law.Says 120 #[.agg #[.int .i64 (a), .int .i64 (b)]] (.bool true)))
    (c2 : RowKit.Hid (law.Says 120 #[.agg #[.int .i64 (c), .int .i64 (d)]] (.bool true)))
    (eB : b * d = B) (B1 : 1 ≤ B) (B2 : B ≤ 1099511627776) (eD : IntKind.i64.wrap (2 * B) = D) (D1 : 1 ≤ D) (D2 : D ≤ 2199023255552) (e1 : IntKind.i64.wrap (a % b * d) = x) (e2 : IntKind.i64.wrap (c % d * b) = y) (e3 : IntKind.i64.wrap (U % 2 * B) = h) (e8 : IntKind.i64.wrap (h + x) = h1) (e9 : IntKind.i64.wrap (h1 + y) = T) (e4 : IntKind.i64.wrap (a / b + c / d) = U) (U1 : -9223372036854775808 ≤ U) (U2 : U ≤ 9223372036854775807) (e5 : IntKind.i64.wrap (T.tdiv D) = q) (e6 : T.tmod D = r) (e7 : IntKind.i64.wrap (U / 2 + q) = N)
    (N1 : -9223372036854775807 ≤ N) (N2 : N ≤ 9223372036854775807) (r0 : 0 ≤ r) (r1 : r < D)
    (hz : RowKit.Hid ((lowOk (N * D + r) (D) ∧ X = lowP (N * D + r) (D) ∧ Y = lowQ (N * D + r) (D) ∧ E = 0) ∨ (¬ lowOk (N * D + r) (D) ∧ X = 0 ∧ Y = 0 ∧ E = 10))) :
    Calls Tryz.prog 224 #[.agg #[.int .i64 (a), .int .i64 (b)], .agg #[.int .i64 (c), .int .i64 (d)]] w fun e w' => e = .returned (.tuple #[.agg #[.int .i64 (X), .int .i64 (Y)], .int .i64 E]) ∧ Below w.heap.size w w' := by
  obtain ⟨_, y1, y2⟩ := div_mul a b b1
  obtain ⟨_, z1, z2⟩ := div_mul c d d1
  have t1 : ¬ D = 0 := by omega
  have A := lies.on_alloc (lies.on_alloc (lies.made w 45 #[.int .i64 a, .int .i64 b]) (.cells #[.int .i64 c, .int .i64 d] 45)) (.cells #[.int .i64 0, .int .i64 0] 45)
  have C := lies.on_alloc (lies.made (w.alloc (.cells #[.int .i64 a, .int .i64 b] 45)) 45 #[.int .i64 c, .int .i64 d]) (.cells #[.int .i64 0, .int .i64 0] 45)
  have R := lies.made ((w.alloc (.cells #[.int .i64 a, .int .i64 b] 45)).alloc (.cells #[.int .i64 c, .int .i64 d] 45)) 45 #[.int .i64 0, .int .i64 0]
  rw [World.size_alloc] at C
  rw [World.size_alloc, World.size_alloc] at R
  have hB := up3 w (.cells #[.int .i64 a, .int .i64 b] 45) (.cells #[.int .i64 c, .int .i64 d] 45) (.cells #[.int .i64 0, .int .i64 0] 45)
  go_enter Tryz.func224, Tryz.ntmps224
  go_wp2_with (first
    | ((with_reducible refine (said c1 _).mono ?_); rintro e w1 ⟨rfl, hN⟩; (replace hB := later hB hN); (replace A := lies.on_call A hN); (replace C := lies.on_call C hN); (replace R := lies.on_call R hN); clear hN; obtain ⟨A0, A1, A2, A3, A4⟩ := lies.two A; obtain ⟨C0, C1, C2, C3, C4⟩ := lies.two C; obtain ⟨R0, R1, R2, R3, R4⟩ := lies.two R)
    | ((with_reducible refine (said c2 _).mono ?_); rintro e w2 ⟨rfl, hN⟩; (replace hB := later hB hN); (replace A := lies.on_call A hN); (replace C := lies.on_call C hN); (replace R := lies.on_call R hN); clear hN; obtain ⟨A0, A1, A2, A3, A4⟩ := lies.two A; obtain ⟨C0, C1, C2, C3, C4⟩ := lies.two C; obtain ⟨R0, R1, R2, R3, R4⟩ := lies.two R))
  go_region_held3 (fun W => W.cell? ⟨w.heap.size, 0, none⟩ = some (.int .i64 a) ∧ W.cell? ⟨w.heap.size, 1, none⟩ = some (.int .i64 b) ∧ W.cell? ⟨w.heap.size + 1, 0, none⟩ = some (.int .i64 c) ∧ W.cell? ⟨w.heap.size + 1, 1, none⟩ = some (.int .i64 d)) ((refine lies.four (t := 45) (s := 45) ?_ ?_ <;> repeat (first | with_reducible exact A | with_reducible exact C | with_reducible refine lies.on_drew ?_ | with_reducible refine lies.on_draw ?_ _ | with_reducible refine lies.on_alloc ?_ _ | with_reducible refine lies.on_call ?_ hN | with_reducible refine lies.on_far ?_ _ (by omega) _)))
      (first | (go_at_call 161; refine (low_any _ _ _ (by omega) (by omega) (by omega) (by omega)).mono ?_; rintro e w' ⟨rfl, rfl⟩))
  go_wp2_with fail
  go_region_held3 (fun W => W.cell? ⟨w.heap.size, 0, none⟩ = some (.int .i64 a) ∧ W.cell? ⟨w.heap.size, 1, none⟩ = some (.int .i64 b) ∧ W.cell? ⟨w.heap.size + 1, 0, none⟩ = some (.int .i64 c) ∧ W.cell? ⟨w.heap.size + 1, 1, none⟩ = some (.int .i64 d)) ((refine lies.four (t := 45) (s := 45) ?_ ?_ <;> repeat (first | with_reducible exact A | with_reducible exact C | with_reducible refine lies.on_drew ?_ | with_reducible refine lies.on_draw ?_ _ | with_reducible refine lies.on_alloc ?_ _ | with_reducible refine lies.on_call ?_ hN | with_reducible refine lies.on_far ?_ _ (by omega) _)))
      (first | (go_at_call 162; refine (part_any _ _ _ (by omega) (by omega) (by omega) (by omega)).mono ?_; rintro e w' ⟨rfl, rfl⟩))
  go_upto_region 6 with fail
  go_cut [9, 10] (fun s8 s9 wx => ∃ (g : Nat) (z1 z2 : Int) (rr : Bool), s8 = .pointer (some ⟨g, 0, none⟩) ∧ s9 = .bool rr ∧ lies.Lies wx g 45 #[.int .i64 z1, .int .i64 z2] ∧ lies.Lies wx (w.heap.size + 1 + 1) 45 #[.int .i64 0, .int .i64 0] ∧ Below w.heap.size w wx ∧ ((lowOk (N * D + r) (D) ∧ rr = true ∧ z1 = lowP (N * D + r) (D) ∧ z2 = lowQ (N * D + r) (D)) ∨ (¬ lowOk (N * D + r) (D) ∧ rr = false)))
  case first =>
    go_region_held3 (fun W => W.cell? ⟨w.heap.size, 0, none⟩ = some (.int .i64 a) ∧ W.cell? ⟨w.heap.size, 1, none⟩ = some (.int .i64 b) ∧ W.cell? ⟨w.heap.size + 1, 0, none⟩ = some (.int .i64 c) ∧ W.cell? ⟨w.heap.size + 1, 1, none⟩ = some (.int .i64 d)) ((refine lies.four (t := 45) (s := 45) ?_ ?_ <;> repeat (first | with_reducible exact A | with_reducible exact C | with_reducible refine lies.on_drew ?_ | with_reducible refine lies.on_draw ?_ _ | with_reducible refine lies.on_alloc ?_ _ | with_reducible refine lies.on_call ?_ hN | with_reducible refine lies.on_far ?_ _ (by omega) _)))
      (first
        | (go_at_call 161; refine (low_any _ _ _ (by omega) (by omega) (by omega) (by omega)).mono ?_; rintro e w' ⟨rfl, rfl⟩)
        | (go_at_call 236; refine (made_any N r D _ (by omega) (by omega) (by omega) (by omega) (by omega) (by omega)).mono ?_; rintro e wN ⟨v1, v2, rr, rfl, hz2, hN⟩; have HZ := Lib.hid hz2; clear hz2; (try (have M8 : lies.Lies wN w2.heap.size 45 #[.int .i64 0, .int .i64 0] := lies.on_call (lies.on_drew (lies.on_drew (lies.on_drew (lies.made w2 45 #[.int .i64 0, .int .i64 0])))) hN; obtain ⟨M0, M1, M2, M3, M4⟩ := lies.two M8))))
    all_goals
      go_wp2_with fail
      go_meet
      refine ⟨_, v1, v2, rr, rfl, rfl, ?_, ?_, ?_, HZ.out⟩
      · first | exact lies.on_put (lies.on_put M8 0 _) 1 _ | exact lies.made _ _ _
      · repeat (first | with_reducible exact R | with_reducible refine lies.on_drew ?_ | with_reducible refine lies.on_alloc ?_ _ | with_reducible refine lies.on_call ?_ hN | with_reducible refine lies.on_far ?_ _ (by omega) _)
      · have hs := hB.size
        repeat (first | with_reducible exact hB | with_reducible refine lies.frame_drew ?_ | with_reducible refine lies.frame_up ?_ _ | with_reducible refine later ?_ hN | with_reducible refine Below.setCell ?_ hs _)
  case rest =>
    obtain ⟨g, v1, v2, rr, rfl, rfl, hg, hr, hB2, hz2⟩ := hcut
    obtain ⟨s0, s1, s2, s3, s4⟩ := lies.two hg
    obtain ⟨u0, u1, u2, u3, u4⟩ := lies.two hr
    have hw : w.heap.size ≤ w.heap.size + 1 + 1 := by omega
    rcases hz2 with ⟨k, rfl, rfl, rfl⟩ | ⟨k, rfl⟩
    · rcases hz.out with ⟨_, rfl, rfl, rfl⟩ | ⟨k2, _⟩
      · clear k
        go_wp2_with fail
        exact bodyPost_ret (v := .tuple #[.agg #[.int .i64 (lowP (N * D + r) (D)), .int .i64 (lowQ (N * D + r) (D))], .int .i64 0]) (by simp [results, Tryz.results224, go_sem, u0, u1]) rfl ⟨rfl, (hB2.setCell hw _).setCell hw _⟩
      · exact absurd k k2
    · rcases hz.out with ⟨k2, _⟩ | ⟨_, rfl, rfl, rfl⟩
      · exact absurd k2 k
      · clear k
        go_wp2_with fail
        exact bodyPost_ret (v := .tuple #[.agg #[.int .i64 (0), .int .i64 (0)], .int .i64 10]) (by simp [results, Tryz.results224, go_sem, u0, u1]) rfl ⟨rfl, (hB2.setCell hw _).setCell hw _⟩
end Go.Proofs.YthmljpccbjolgaaGreatDoor.rref
namespace Go.Proofs.YthmljpccbjolgaaGreatDoor.rref
open Go.ChangeShapes Go.WideShapes Go.ChangeAt Go.RowKit rmath bound num rat
set_option linter.unusedVariables false
theorem sum_parts (a b c d:Int) (b1:1≤b) (d1:1≤d):(a / b+c / d)*(b*d)+(a % b*d+c % d*b)=a*d+c*b:=by
 obtain ⟨x,_,_⟩:=div_mul a b b1
 obtain ⟨y,_,_⟩:=div_mul c d d1
 have e1:a*d=a / b*b*d+a % b*d:=by rw [←Int.add_mul,x]
 have e2:c*b=c / d*d*b+c % d*b:=by rw [←Int.add_mul,y]
 have e3:(a / b+c / d)*(b*d)=a / b*b*d+c / d*d*b:=by rw [Int.add_mul];congr 1<;>ac_rfl
 rw [e1,e2,e3]
 omega
theorem low_told {V D V' D':Int} (e:V=V') (f:D=D'):(lowOk V D∧lowN V' D'=lowP V D∧lowD V' D'=lowQ V D∧lowE V' D'=0)∨(¬ lowOk V D∧lowN V' D'=0∧lowD V' D'=0∧lowE V' D'=10):=by
 subst e f
 by_cases k:lowOk V D
 ·exact .inl ⟨k,low_yes k⟩
 ·exact .inr ⟨k,low_not k⟩
theorem add_any (a b c d:Int) (w:World) (a1:-9223372036854775808≤a) (a2:a≤9223372036854775807) (c1:-9223372036854775808≤c) (c2:c≤9223372036854775807):
  Calls Tryz.prog 237 #[.agg #[.int .i64 (a),.int .i64 (b)],.agg #[.int .i64 (c),.int .i64 (d)]] w fun e w'=>e=.returned (.tuple #[.agg #[.int .i64 (partN 1 a b c d),.int .i64 (partD 1 a b c d)],.int .i64 (partE 1 a b c d)])∧Below w.heap.size w w':=by
 have k1:RowKit.Hid (law.Says 120 #[.agg #[.int .i64 (a),.int .i64 (b)]] (.bool (mayB a b))):=Lib.hid (fun w=>may_any a b w a1 a2)
 have k2:RowKit.Hid (law.Says 120 #[.agg #[.int .i64 (c),.int .i64 (d)]] (.bool (mayB c d))):=Lib.hid (fun w=>may_any c d w c1 c2)
 unfold partN partD partE
 by_cases g:Both a b c d
 ·rw [if_pos g,if_pos g,if_pos g]
  rw [mayB_yes g.1] at k1
  rw [mayB_yes g.2] at k2
  obtain ⟨f1,f2⟩:=floor_may g.1
  obtain ⟨f3,f4⟩:=floor_may g.2
  obtain ⟨⟨b1,b2,_⟩,⟨d1,d2,_⟩⟩:=g
  obtain ⟨p1,p2,p3⟩:=part_mul (a:=a) b1 b2 d1 d2
  obtain ⟨q1,q2,q3⟩:=part_mul (a:=c) d1 d2 b1 b2
  obtain ⟨B1,B2⟩:=dens_in b1 b2 d1 d2
  have sp:=sum_parts a b c d b1 d1
  obtain ⟨t1,t2,t3⟩:=div_mul (a % b*d+c % d*b) (b*d) B1
  have t4:=Int.ediv_nonneg (show 0≤a % b*d+c % d*b by omega) (show 0≤b*d by omega)
  have t5:=Int.ediv_le_self (b*d) (show 0≤a % b*d+c % d*b by omega)
  refine add_k a b c d (b*d) (a % b*d) (c % d*b) (a % b*d+c % d*b) (a / b+c / d) ((a % b*d+c % d*b) / (b*d)) ((a % b*d+c % d*b) % (b*d)) (a / b+c / d+(a % b*d+c % d*b) / (b*d)) _ _ _ w a1 a2 c1 c2 b1 b2 d1 d2 k1 k2 rfl B1 B2 (IntWalk.i64_in _ (by omega)) (IntWalk.i64_in _ (by omega)) (IntWalk.i64_in _ (by omega)) (IntWalk.i64_in _ (by omega)) ?_ (Int.tmod_eq_emod_of_nonneg (by omega)) (IntWalk.i64_in _ (by omega)) (by omega) (by omega) t2 t3 (Lib.hid (low_told ?_ (Int.mul_one _).symm))
  ·rw [Int.tdiv_eq_ediv_of_nonneg (by omega)];exact IntWalk.i64_in _ (by omega)
  ·rw [Int.add_mul,Int.add_assoc,t1,sp]
 ·rw [if_neg g,if_neg g,if_neg g]
  refine add_no a b c d _ _ w k1 k2 ?_
  by_cases p:MayR a b
  ·exact .inr ⟨mayB_yes p,mayB_no (fun q=>g ⟨p,q⟩)⟩
  ·exact .inl (mayB_no p)
theorem mid_any (a b c d:Int) (w:World) (a1:-9223372036854775808≤a) (a2:a≤9223372036854775807) (c1:-9223372036854775808≤c) (c2:c≤9223372036854775807):
  Calls Tryz.prog 224 #[.agg #[.int .i64 (a),.int .i64 (b)],.agg #[.int .i64 (c),.int .i64 (d)]] w fun e w'=>e=.returned (.tuple #[.agg #[.int .i64 (partN 2 a b c d),.int .i64 (partD 2 a b c d)],.int .i64 (partE 2 a b c d)])∧Below w.heap.size w w':=by
 have k1:RowKit.Hid (law.Says 120 #[.agg #[.int .i64 (a),.int .i64 (b)]] (.bool (mayB a b))):=Lib.hid (fun w=>may_any a b w a1 a2)
 have k2:RowKit.Hid (law.Says 120 #[.agg #[.int .i64 (c),.int .i64 (d)]] (.bool (mayB c d))):=Lib.hid (fun w=>may_any c d w c1 c2)
 unfold partN partD partE
 by_cases g:Both a b c d
 ·rw [if_pos g,if_pos g,if_pos g]
  rw [mayB_yes g.1] at k1
  rw [mayB_yes g.2] at k2
  obtain ⟨f1,f2⟩:=floor_may g.1
  obtain ⟨f3,f4⟩:=floor_may g.2
  obtain ⟨⟨b1,b2,_⟩,⟨d1,d2,_⟩⟩:=g
  obtain ⟨p1,p2,p3⟩:=part_mul (a:=a) b1 b2 d1 d2
  obtain ⟨q1,q2,q3⟩:=part_mul (a:=c) d1 d2 b1 b2
  obtain ⟨B1,B2⟩:=dens_in b1 b2 d1 d2
  have sp:=sum_parts a b c d b1 d1
  have h0:0≤(a / b+c / d) % 2*(b*d):=Int.mul_nonneg (by omega) (by omega)
  have h1:(a / b+c / d) % 2*(b*d)≤1*(b*d):=Int.mul_le_mul_of_nonneg_right (by omega) (by omega)
  obtain ⟨t1,t2,t3⟩:=div_mul ((a / b+c / d) % 2*(b*d)+a % b*d+c % d*b) (2*(b*d)) (by omega)
  have t4:=Int.ediv_nonneg (show 0≤(a / b+c / d) % 2*(b*d)+a % b*d+c % d*b by omega) (show 0≤2*(b*d) by omega)
  have t5:=Int.ediv_le_self (2*(b*d)) (show 0≤(a / b+c / d) % 2*(b*d)+a % b*d+c % d*b by omega)
  refine mid_k a b c d (b*d) (2*(b*d)) (a % b*d) (c % d*b) ((a / b+c / d) % 2*(b*d)) ((a / b+c / d) % 2*(b*d)+a % b*d) ((a / b+c / d) % 2*(b*d)+a % b*d+c % d*b) (a / b+c / d) (((a / b+c / d) % 2*(b*d)+a % b*d+c % d*b) / (2*(b*d))) (((a / b+c / d) % 2*(b*d)+a % b*d+c % d*b) % (2*(b*d))) ((a / b+c / d) / 2+((a / b+c / d) % 2*(b*d)+a % b*d+c % d*b) / (2*(b*d))) _ _ _ w a1 a2 c1 c2 b1 b2 d1 d2 k1 k2 rfl B1 B2 (IntWalk.i64_in _ (by omega)) (by omega) (by omega) (IntWalk.i64_in _ (by omega)) (IntWalk.i64_in _ (by omega)) (IntWalk.i64_in _ (by omega)) (IntWalk.i64_in _ (by omega)) (IntWalk.i64_in _ (by omega)) (IntWalk.i64_in _ (by omega)) (by omega) (by omega) ?_ (Int.tmod_eq_emod_of_nonneg (by omega)) (IntWalk.i64_in _ (by omega)) (by omega) (by omega) t2 t3 (Lib.hid (low_told ?_ (Int.mul_comm _ _)))
  ·rw [Int.tdiv_eq_ediv_of_nonneg (by omega)];exact IntWalk.i64_in _ (by omega)
  ·rw [Int.add_mul,Int.add_assoc,t1,←sp]
   have e1:(a / b+c / d) / 2*(2*(b*d))+(a / b+c / d) % 2*(b*d)=(a / b+c / d)*(b*d):=by
    rw [←Int.mul_assoc,←Int.add_mul]
    congr 1
    omega
   generalize (a / b+c / d) / 2*(2*(b*d))=M1 at*
   generalize (a / b+c / d) % 2*(b*d)=M2 at*
   generalize (a / b+c / d)*(b*d)=M3 at*
   omega
 ·rw [if_neg g,if_neg g,if_neg g]
  refine mid_no a b c d _ _ w k1 k2 ?_
  by_cases p:MayR a b
  ·exact .inr ⟨mayB_yes p,mayB_no (fun q=>g ⟨p,q⟩)⟩
  ·exact .inl (mayB_no p)
end Go.Proofs.YthmljpccbjolgaaGreatDoor.rref
