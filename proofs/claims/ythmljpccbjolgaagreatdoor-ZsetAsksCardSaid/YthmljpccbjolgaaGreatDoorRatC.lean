
/-
  Fractions in lowest terms and their order, and the document's own answers of layer 3; each theorem names its conditions.
-/
import Derived.Test.YthmljpccbjolgaaGreatDoorRatB
import Derived.Test.YthmljpccbjolgaaGreatDoorBase
namespace Go.Proofs.YthmljpccbjolgaaGreatDoor.rat
open rmath bound num
set_option linter.unusedVariables false
theorem low_parts (V D:Int) (h:1≤D):lowP V D*gcdI V D=V∧lowQ V D*gcdI V D=D∧lowP V D*D=V*lowQ V D∧Int.gcd (lowP V D) (lowQ V D)=1:=by
 have g:=gcd_pos V D h
 have a:lowP V D*gcdI V D=V:=Int.ediv_mul_cancel (Int.gcd_dvd_left V D)
 have b:lowQ V D*gcdI V D=D:=Int.ediv_mul_cancel (Int.gcd_dvd_right V D)
 refine ⟨a,b,?_,?_⟩
 ·generalize gcdI V D=G at*
  generalize lowP V D=P at*
  generalize lowQ V D=Q at*
  subst a b
  ac_rfl
 ·have e:=Int.gcd_ediv (a:=V) (b:=D) (c:=gcdI V D) (Int.gcd_dvd_left V D) (Int.gcd_dvd_right V D)
  have n:(gcdI V D).natAbs=V.gcd D:=rfl
  rw [n] at e
  refine e.trans (Nat.div_self ?_)
  unfold gcdI at g
  omega
theorem floor_may {p q:Int} (h:MayR p q):May (p / q):=((may_parts p q h.1 h.2.1).1 h).1
end Go.Proofs.YthmljpccbjolgaaGreatDoor.rat
namespace Go.Proofs.YthmljpccbjolgaaGreatDoor.rat
open rmath bound num
set_option linter.unusedVariables false
end Go.Proofs.YthmljpccbjolgaaGreatDoor.rat
namespace Go.Proofs.YthmljpccbjolgaaGreatDoor.rref
open Go.ChangeShapes Go.WideShapes Go.ChangeAt Go.RowKit rmath bound num rat
set_option linter.unusedVariables false
theorem low_any (a b:Int) (w:World) (hb:1≤b) (hb':b≤9223372036854775807) (l:-9223372036854775808≤a) (u:a≤9223372036854775807):
  Calls Tryz.prog 161 #[.int .i64 a,.int .i64 b] w fun e w'=>e=.returned (.int .i64 (a / b))∧w=w':=by
 have t1:¬ b=0:=by omega
 have m0:=Int.emod_nonneg a t1
 have m1:=Int.emod_lt_of_pos a (show 0<b by omega)
 obtain ⟨d0,d1⟩:=ediv_in a b hb l u
 by_cases ha:0≤a
 ·have e0:=Int.ediv_nonneg ha (show 0≤b by omega)
  have t2:¬ a % b<0:=by omega
  go_enter Tryz.func161,Tryz.ntmps161
  go_wp2
  go_ret
  exact ⟨rfl,rfl⟩
 ·have d2:=Int.ediv_neg_of_neg_of_pos (show a<0 by omega) (show 0<b by omega)
  rcases tdiv_cases a b hb (by omega) with ⟨c1,c2,c3⟩ | ⟨c1,c2,c3⟩
  ·go_enter Tryz.func161,Tryz.ntmps161
   go_wp2
   go_ret
   exact ⟨rfl,rfl⟩
  ·have t2:a % b - b<0:=by omega
   go_enter Tryz.func161,Tryz.ntmps161
   go_wp2
   go_ret
   exact ⟨rfl,rfl⟩
theorem part_any (a b:Int) (w:World) (hb:1≤b) (hb':b≤9223372036854775807) (l:-9223372036854775808≤a) (u:a≤9223372036854775807):
  Calls Tryz.prog 162 #[.int .i64 a,.int .i64 b] w fun e w'=>e=.returned (.int .i64 (a % b))∧w=w':=by
 have t1:¬ b=0:=by omega
 have m0:=Int.emod_nonneg a t1
 have m1:=Int.emod_lt_of_pos a (show 0<b by omega)
 by_cases ha:0≤a
 ·have t2:¬ a % b<0:=by omega
  go_enter Tryz.func162,Tryz.ntmps162
  go_wp2
  go_ret
  exact ⟨rfl,rfl⟩
 ·rcases tdiv_cases a b hb (by omega) with ⟨c1,c2,c3⟩ | ⟨c1,c2,c3⟩
  ·clear c2
   go_enter Tryz.func162,Tryz.ntmps162
   go_wp2
   go_ret
   exact ⟨rfl,rfl⟩
  ·have t2:a % b - b<0:=by omega
   clear c2
   go_enter Tryz.func162,Tryz.ntmps162
   go_wp2
   go_ret
   exact ⟨rfl,rfl⟩
set_option maxHeartbeats 400000 in
theorem common_nat (a b:Nat) (w:World) (ha:a≤9223372036854775807) (hb:b≤9223372036854775807):
  Calls Tryz.prog 203 #[.int .i64 a,.int .i64 b] w fun e w'=>e=.returned (.int .i64 (Nat.gcd a b:Nat))∧∃ n,w'=w.drewN n:=by
 go_enter Tryz.func203,Tryz.ntmps203
 go_wp2
 go_loopw [0,1] (fun s0 s1 wr=>∃ x y:Nat,s0=.int .i64 x∧s1=.int .i64 y∧x≤9223372036854775807∧y≤9223372036854775807∧Nat.gcd x y=Nat.gcd a b∧∃ n,wr=w.drewN n) (fun _ s1 _=>(intOf s1).toNat)
 case atStart=>exact ⟨a,b,rfl,rfl,ha,hb,rfl,0,rfl⟩
 case round=>
  obtain ⟨x,y,rfl,rfl,hx,hy,hg,n,rfl⟩:=hrel
  have G:=Lib.hid hg
  clear hg
  by_cases h0:0<y
  ·have t1:¬ (y:Int)=0:=by omega
   have t2:((y:Int) !=0)=true:=by simp;omega
   go_wp2
   go_quiet (fail)
   go_wp2
   go_roundw
   case rel=>exact ⟨y,x % y,rfl,rfl,hy,by have:=Nat.mod_lt x h0;omega,by rw [←G.out,Nat.gcd_comm x y,Nat.gcd_rec y x,Nat.gcd_comm],_,by rw [World.drewN_drewN]⟩
   case measure=>have:=Nat.mod_lt x h0;simp [intOf];omega
  ·obtain rfl:y=0:=by omega
   go_wp2
   go_ret
   exact ⟨by rw [←G.out,Nat.gcd_zero_right];rfl,n,rfl⟩
theorem common_any (a b:Int) (w:World) (ha:0≤a) (ha':a≤9223372036854775807) (hb:0≤b) (hb':b≤9223372036854775807):
  Calls Tryz.prog 203 #[.int .i64 a,.int .i64 b] w fun e w'=>e=.returned (.int .i64 (gcdI a b))∧∃ n,w'=w.drewN n:=by
 obtain ⟨x,rfl⟩:=Int.eq_ofNat_of_zero_le ha
 obtain ⟨y,rfl⟩:=Int.eq_ofNat_of_zero_le hb
 exact common_nat x y w (by omega) (by omega)
set_option maxHeartbeats 1000000 in
theorem alone_k (n d g : Int) (r : Bool) (w : World) (n1 : -9223372036854775808 ≤ n) (n2 : n ≤ 9223372036854775807) (h : 1 ≤ d) (h' : d ≤ 9223372036854775807) (hg : RowKit.Hid (gcdI (n % d) d = g)) (hr : (g == 1) = r) :
    Calls Tryz.prog 160 #[.agg #[.int .i64 (n), .int .i64 (d)]] w fun e w' => e = .returned (.bool r) ∧ Below w.heap.size w w' := by
  obtain ⟨_, b, c⟩ := div_mul n d h
  have s1 := lies.made w 45 #[.int .i64 n, .int .i64 d]
  have K1 := up1 w (.cells #[.int .i64 n, .int .i64 d] 45)
  go_enter Tryz.func160, Tryz.ntmps160
  go_wp2_with fail
  go_region_held3 (fun W => W.cell? ⟨w.heap.size, 0, none⟩ = some (.int .i64 n) ∧ W.cell? ⟨w.heap.size, 1, none⟩ = some (.int .i64 d)) ((refine lies.pair (t := 45) ?_ <;> repeat (first | with_reducible exact s1 | with_reducible refine lies.on_drew ?_ | with_reducible refine lies.on_draw ?_ _)))
    (first
      | (go_at_call 162; refine (part_any _ _ _ (by omega) (by omega) (by omega) (by omega)).mono ?_; rintro e w' ⟨rfl, rfl⟩)
      | (go_at_call 203; refine (common_any _ _ _ (by omega) (by omega) (by omega) (by omega)).mono ?_; rintro e w' ⟨rfl, k, rfl⟩; rw [hg.out]))
  all_goals
    go_wp2_with fail
    go_ret
    exact ⟨rfl, drawn K1 _⟩
def mayB (n d:Int):Bool:=decide (MayR n d)
theorem mayB_yes {n d:Int} (h:MayR n d):mayB n d=true:=decide_eq_true h
theorem mayB_no {n d:Int} (h:¬ MayR n d):mayB n d=false:=decide_eq_false h
theorem may_den (n d:Int) (w:World) (h:d<1∨1048576<d):
  Calls Tryz.prog 120 #[.agg #[.int .i64 (n),.int .i64 (d)]] w fun e w'=>e=.returned (.bool false)∧Below w.heap.size w w':=by
 by_cases t1:d<1
 ·clear h
  go_enter Tryz.func120,Tryz.ntmps120
  go_wp2
  go_ret
  exact ⟨rfl,up1 _ _⟩
 ·have t2:1048576<d:=by omega
  clear h
  go_enter Tryz.func120,Tryz.ntmps120
  go_wp2
  go_ret
  exact ⟨rfl,up1 _ _⟩
set_option maxHeartbeats 2000000 in
theorem may_k (n d : Int) (al r : Bool) (w : World) (n1 : -9223372036854775808 ≤ n) (n2 : n ≤ 9223372036854775807) (h : 1 ≤ d) (h' : d ≤ 1048576) (cA : RowKit.Hid (law.Says 160 #[.agg #[.int .i64 (n),.int .i64 (d)]] (.bool al)))
  (hr : (al = false ∧ r = false) ∨ (al = true ∧ n / d < -2305843009213693952 ∧ r = false) ∨ (al = true ∧ -2305843009213693952 ≤ n / d ∧ n / d < 2305843009213693952 ∧ r = true) ∨ (al = true ∧ n / d = 2305843009213693952 ∧ n % d = 0 ∧ r = true) ∨ (al = true ∧ n / d = 2305843009213693952 ∧ (n % d == 0) = false ∧ r = false) ∨ (al = true ∧ 2305843009213693952 < n / d ∧ r = false)) :
  Calls Tryz.prog 120 #[.agg #[.int .i64 (n),.int .i64 (d)]] w fun e w' => e = .returned (.bool r) ∧ Below w.heap.size w w' := by
 have t1 : ¬ d < 1 := by omega
 have t2 : ¬ 1048576 < d := by omega
 have s := lies.made w 45 #[.int .i64 n,.int .i64 d]
 have K := up1 w (.cells #[.int .i64 n,.int .i64 d] 45)
 rcases hr with ⟨rfl,rfl⟩ | ⟨rfl,p1,rfl⟩ | ⟨rfl,p1,p2,rfl⟩ | ⟨rfl,p1,p2,rfl⟩ | ⟨rfl,p1,p2,rfl⟩ | ⟨rfl,p1,rfl⟩
 all_goals (try have p3 : ¬ n / d < -2305843009213693952 := by omega)
 all_goals (try have p4 : ¬ n / d < 2305843009213693952 := by omega)
 all_goals (try have p5 : ((n / d) == 2305843009213693952) = false := by simp; omega)
 all_goals
  go_enter Tryz.func120,Tryz.ntmps120
  go_wp2_with (first
   | ((with_reducible refine (said cA _).mono ?_); rintro e w1 ⟨rfl,hN⟩; (replace K := later K hN); (replace s := lies.on_call s hN); clear hN; obtain ⟨s0,s1,s2,s3,s4⟩ := lies.two s)
   | (go_at_call 161; refine (low_any _ _ _ (by omega) (by omega) (by omega) (by omega)).mono ?_; rintro e w' ⟨rfl,rfl⟩)
   | (go_at_call 162; refine (part_any _ _ _ (by omega) (by omega) (by omega) (by omega)).mono ?_; rintro e w' ⟨rfl,rfl⟩))
  go_ret
  first | exact ⟨rfl,K⟩ | exact ⟨by rw [decide_eq_false (show ¬ n / d < 2305843009213693952 by omega)]; rfl,K⟩
theorem may_any (n d : Int) (w : World) (n1 : -9223372036854775808 ≤ n) (n2 : n ≤ 9223372036854775807) :
  Calls Tryz.prog 120 #[.agg #[.int .i64 (n),.int .i64 (d)]] w fun e w' => e = .returned (.bool (mayB n d)) ∧ Below w.heap.size w w' := by
 by_cases h : d < 1 ∨ 1048576 < d
 ·rw [mayB_no (fun k => by unfold MayR at k; omega)]
  exact may_den n d w h
 ·have h1 : 1 ≤ d := by omega
  have h2 : d ≤ 1048576 := by omega
  obtain ⟨a,b,c⟩ := div_mul n d h1
  have k1 := le_div n d (-2305843009213693952) h1
  have k2 := le_div n d 2305843009213693952 h1
  have k3 := le_div n d 2305843009213693953 h1
  have g : gcdI (n % d) d = 1 ↔ Int.gcd n d = 1 := by
   rw [show gcdI (n % d) d = gcdI d (n % d) by unfold gcdI; rw [Int.gcd_comm],gcd_part]; unfold gcdI; omega
  have cA : RowKit.Hid (law.Says 160 #[.agg #[.int .i64 (n),.int .i64 (d)]] (.bool (gcdI (n % d) d == 1))) := Lib.hid (fun w => alone_k n d _ _ w n1 n2 h1 (by omega) (Lib.hid rfl) rfl)
  refine may_k n d _ _ w n1 n2 h1 h2 cA ?_
  by_cases e : gcdI (n % d) d = 1
  ·have e' := g.1 e
   rw [e,show ((1 : Int) == 1) = true from rfl]
   by_cases q1 : n / d < -2305843009213693952
   ·exact .inr (.inl ⟨rfl,q1,mayB_no (fun k => by have := k.2.2.1; omega)⟩)
   ·by_cases q2 : n / d < 2305843009213693952
    ·refine .inr (.inr (.inl ⟨rfl,by omega,q2,mayB_yes ⟨h1,h2,by omega,by omega,e'⟩⟩))
    ·by_cases q3 : n / d = 2305843009213693952
     ·rw [q3] at a
      by_cases q4 : n % d = 0
      ·exact .inr (.inr (.inr (.inl ⟨rfl,q3,q4,mayB_yes ⟨h1,h2,by omega,by omega,e'⟩⟩)))
      ·exact .inr (.inr (.inr (.inr (.inl ⟨rfl,q3,by simpa using q4,mayB_no (fun k => by have := k.2.2.2.1; omega)⟩))))
     ·refine .inr (.inr (.inr (.inr (.inr ⟨rfl,by omega,mayB_no (fun k => ?_)⟩))))
      have := k.2.2.2.1
      have := k3.1 (by omega)
      omega
  ·refine .inl ⟨by simpa using e,mayB_no (fun k => e (g.2 k.2.2.2.2))⟩
end Go.Proofs.YthmljpccbjolgaaGreatDoor.rref
namespace Go.Proofs.YthmljpccbjolgaaGreatDoor.rref
open Go.ChangeShapes Go.WideShapes Go.ChangeAt Go.RowKit rmath bound num rat
set_option linter.unusedVariables false
theorem part_mul {a b d:Int} (b1:1≤b) (b2:b≤1048576) (d1:1≤d) (d2:d≤1048576):0≤a % b*d∧a % b*d<b*d∧a % b*d≤1099511627776:=by
 obtain ⟨_,p,q⟩:=div_mul a b b1
 have x:=Int.mul_nonneg p (show 0≤d by omega)
 have y:=Int.mul_lt_mul_of_pos_right q (show 0<d by omega)
 obtain ⟨_,z⟩:=dens_in b1 b2 d1 d2
 omega
theorem cross (a b c d:Int) (b1:1≤b) (d1:1≤d):a*d - c*b=(a / b - c / d)*(b*d)+(a % b*d - c % d*b):=by
 obtain ⟨x,_,_⟩:=div_mul a b b1
 obtain ⟨y,_,_⟩:=div_mul c d d1
 have e1:a*d=a / b*b*d+a % b*d:=by rw [←Int.add_mul,x]
 have e2:c*b=c / d*d*b+c % d*b:=by rw [←Int.add_mul,y]
 have e3:(a / b - c / d)*(b*d)=a / b*b*d - c / d*d*b:=by rw [Int.sub_mul];congr 1<;>ac_rfl
 rw [e1,e2,e3]
 omega
theorem cross_lt {a b c d:Int} (b1:1≤b) (b2:b≤1048576) (d1:1≤d) (d2:d≤1048576) (k:Int) (h:a / b - c / d<k):a*d - c*b<k*(b*d):=by
 have e:=cross a b c d b1 d1
 obtain ⟨p1,p2,p3⟩:=part_mul (a:=a) b1 b2 d1 d2
 obtain ⟨q1,q2,q3⟩:=part_mul (a:=c) d1 d2 b1 b2
 have m:=Int.mul_le_mul_of_nonneg_right (show a / b - c / d≤k - 1 by omega) (show 0≤b*d by omega)
 rw [Int.sub_mul k 1,Int.one_mul] at m
 omega
theorem cross_gt {a b c d:Int} (b1:1≤b) (b2:b≤1048576) (d1:1≤d) (d2:d≤1048576) (k:Int) (h:k<a / b - c / d):k*(b*d)<a*d - c*b:=by
 have e:=cross a b c d b1 d1
 obtain ⟨p1,p2,p3⟩:=part_mul (a:=a) b1 b2 d1 d2
 obtain ⟨q1,q2,q3⟩:=part_mul (a:=c) d1 d2 b1 b2
 have m:=Int.mul_le_mul_of_nonneg_right (show k+1≤a / b - c / d by omega) (show 0≤b*d by omega)
 rw [Int.add_mul k 1,Int.one_mul] at m
 have z:c % d*b<b*d:=by rw [Int.mul_comm b d];exact q2
 omega
end Go.Proofs.YthmljpccbjolgaaGreatDoor.rref
namespace Go.Proofs.YthmljpccbjolgaaGreatDoor.rref
open Go.ChangeShapes Go.WideShapes Go.ChangeAt Go.RowKit rmath bound num rat
set_option linter.unusedVariables false
theorem kept_none (a b c d:Int) (w:World):
  Calls Tryz.prog 204 #[.agg #[.int .i64 (a),.int .i64 (b)],.agg #[.int .i64 (c),.int .i64 (d)],.int .i64 9223372036854775807] w fun e w'=>e=.returned (.bool true)∧Below w.heap.size w w':=by
 go_enter Tryz.func204,Tryz.ntmps204
 go_wp2
 go_ret
 exact ⟨rfl,up2 _ _ _⟩
end Go.Proofs.YthmljpccbjolgaaGreatDoor.rref
namespace Go.Proofs.YthmljpccbjolgaaGreatDoor.rref
open Go.ChangeShapes Go.WideShapes Go.ChangeAt Go.RowKit rmath bound num rat
set_option linter.unusedVariables false
theorem strict_k (x:Int) (u:Bool) (w:World) (h:bS x=u):
  Calls Tryz.prog 220 #[.int .i64 x] w fun e w'=>e=.returned (.bool u)∧w=w':=h ▸ strict_any x w
set_option maxHeartbeats 4000000 in
theorem kept_k (a b c d x p q N : Int) (u r : Bool) (w : World) (a1 : -9223372036854775808 ≤ a) (a2 : a ≤ 9223372036854775807) (c1 : -9223372036854775808 ≤ c) (c2 : c ≤ 9223372036854775807) (b1 : 1 ≤ b) (b2 : b ≤ 1048576) (d1 : 1 ≤ d) (d2 : d ≤ 1048576) (x1 : -9223372036854775808 ≤ x) (x2 : x < 9223372036854775807) (N1 : -4611686018427387904 ≤ N) (N2 : N ≤ 4611686018427387904)
    (p0 : 0 ≤ p) (p1 : p ≤ 1099511627776) (q0 : 0 ≤ q) (q1 : q ≤ 1099511627776) (ep : RowKit.Hid (a % b * d = p)) (eq : RowKit.Hid (c % d * b = q)) (eN : RowKit.Hid (a / b - c / d = N)) (hu : RowKit.Hid (bS x = u))
    (hr : (N < x / 2 ∧ r = true) ∨ (x / 2 < N ∧ r = false) ∨ (RowKit.Hid (N = x / 2) ∧ ((p < q ∧ r = true) ∨ (q < p ∧ r = false) ∨ (p = q ∧ r = !u)))) :
    Calls Tryz.prog 204 #[.agg #[.int .i64 (a), .int .i64 (b)], .agg #[.int .i64 (c), .int .i64 (d)], .int .i64 x] w fun e w' => e = .returned (.bool r) ∧ Below w.heap.size w w' := by
  obtain ⟨_, y1, y2⟩ := div_mul a b b1
  obtain ⟨_, z1, z2⟩ := div_mul c d d1
  have t0 : (x == 9223372036854775807) = false := by simp; omega
  have e0 : IntKind.i64.wrap (a / b - c / d) = N := by rw [eN.out]; exact IntWalk.i64_in _ (by omega)
  have A := lies.on_alloc (lies.made w 45 #[.int .i64 a, .int .i64 b]) (.cells #[.int .i64 c, .int .i64 d] 45)
  have C := lies.made (w.alloc (.cells #[.int .i64 a, .int .i64 b] 45)) 45 #[.int .i64 c, .int .i64 d]
  rw [World.size_alloc] at C
  have hB := up2 w (.cells #[.int .i64 a, .int .i64 b] 45) (.cells #[.int .i64 c, .int .i64 d] 45)
  rcases hr with ⟨t1, rfl⟩ | ⟨t1, rfl⟩ | ⟨t1, hr⟩
  · have t2 : (N != x / 2) = true := by simp; omega
    go_enter Tryz.func204, Tryz.ntmps204
    go_wp2_with (go_at_call 189; refine (number_any _ _ (by omega) (by omega)).mono ?_; rintro e w' ⟨rfl, rfl⟩)
    go_region_held3 (fun W => W.cell? ⟨w.heap.size, 0, none⟩ = some (.int .i64 a) ∧ W.cell? ⟨w.heap.size, 1, none⟩ = some (.int .i64 b) ∧ W.cell? ⟨w.heap.size + 1, 0, none⟩ = some (.int .i64 c) ∧ W.cell? ⟨w.heap.size + 1, 1, none⟩ = some (.int .i64 d)) ((refine lies.four (t := 45) (s := 45) ?_ ?_ <;> repeat (first | with_reducible exact A | with_reducible exact C | with_reducible refine lies.on_drew ?_ | with_reducible refine lies.on_draw ?_ _)))
      (first | (go_at_call 161; refine (low_any _ _ _ (by omega) (by omega) (by omega) (by omega)).mono ?_; rintro e w' ⟨rfl, rfl⟩))
    go_wp2_with fail
    go_ret
    exact ⟨rfl, by first | exact drawn hB _ | exact lies.frame_drew hB | exact lies.frame_drew (lies.frame_drew hB) | exact lies.frame_drew (lies.frame_drew (lies.frame_drew hB))⟩
  · have t2 : (N != x / 2) = true := by simp; omega
    have t3 : decide (N < x / 2) = false := by simp; omega
    go_enter Tryz.func204, Tryz.ntmps204
    go_wp2_with (go_at_call 189; refine (number_any _ _ (by omega) (by omega)).mono ?_; rintro e w' ⟨rfl, rfl⟩)
    go_region_held3 (fun W => W.cell? ⟨w.heap.size, 0, none⟩ = some (.int .i64 a) ∧ W.cell? ⟨w.heap.size, 1, none⟩ = some (.int .i64 b) ∧ W.cell? ⟨w.heap.size + 1, 0, none⟩ = some (.int .i64 c) ∧ W.cell? ⟨w.heap.size + 1, 1, none⟩ = some (.int .i64 d)) ((refine lies.four (t := 45) (s := 45) ?_ ?_ <;> repeat (first | with_reducible exact A | with_reducible exact C | with_reducible refine lies.on_drew ?_ | with_reducible refine lies.on_draw ?_ _)))
      (first | (go_at_call 161; refine (low_any _ _ _ (by omega) (by omega) (by omega) (by omega)).mono ?_; rintro e w' ⟨rfl, rfl⟩))
    go_wp2_with fail
    go_ret
    exact ⟨rfl, by first | exact drawn hB _ | exact lies.frame_drew hB | exact lies.frame_drew (lies.frame_drew hB) | exact lies.frame_drew (lies.frame_drew (lies.frame_drew hB))⟩
  · have t2 : (N != x / 2) = false := by simp; exact t1.out
    have e1 : IntKind.i64.wrap (a % b * d) = p := by rw [ep.out]; exact IntWalk.i64_in _ (by omega)
    have e2 : IntKind.i64.wrap (c % d * b) = q := by rw [eq.out]; exact IntWalk.i64_in _ (by omega)
    go_enter Tryz.func204, Tryz.ntmps204
    go_wp2_with (go_at_call 189; refine (number_any _ _ (by omega) (by omega)).mono ?_; rintro e w' ⟨rfl, rfl⟩)
    go_region_held3 (fun W => W.cell? ⟨w.heap.size, 0, none⟩ = some (.int .i64 a) ∧ W.cell? ⟨w.heap.size, 1, none⟩ = some (.int .i64 b) ∧ W.cell? ⟨w.heap.size + 1, 0, none⟩ = some (.int .i64 c) ∧ W.cell? ⟨w.heap.size + 1, 1, none⟩ = some (.int .i64 d)) ((refine lies.four (t := 45) (s := 45) ?_ ?_ <;> repeat (first | with_reducible exact A | with_reducible exact C | with_reducible refine lies.on_drew ?_ | with_reducible refine lies.on_draw ?_ _)))
      (first | (go_at_call 161; refine (low_any _ _ _ (by omega) (by omega) (by omega) (by omega)).mono ?_; rintro e w' ⟨rfl, rfl⟩))
    go_wp2_with fail
    go_region_held3 (fun W => W.cell? ⟨w.heap.size, 0, none⟩ = some (.int .i64 a) ∧ W.cell? ⟨w.heap.size, 1, none⟩ = some (.int .i64 b) ∧ W.cell? ⟨w.heap.size + 1, 0, none⟩ = some (.int .i64 c) ∧ W.cell? ⟨w.heap.size + 1, 1, none⟩ = some (.int .i64 d)) ((refine lies.four (t := 45) (s := 45) ?_ ?_ <;> repeat (first | with_reducible exact A | with_reducible exact C | with_reducible refine lies.on_drew ?_ | with_reducible refine lies.on_draw ?_ _)))
      (first | (go_at_call 162; refine (part_any _ _ _ (by omega) (by omega) (by omega) (by omega)).mono ?_; rintro e w' ⟨rfl, rfl⟩))
    go_wp2_with fail
    go_region_held3 (fun W => W.cell? ⟨w.heap.size, 0, none⟩ = some (.int .i64 a) ∧ W.cell? ⟨w.heap.size, 1, none⟩ = some (.int .i64 b) ∧ W.cell? ⟨w.heap.size + 1, 0, none⟩ = some (.int .i64 c) ∧ W.cell? ⟨w.heap.size + 1, 1, none⟩ = some (.int .i64 d)) ((refine lies.four (t := 45) (s := 45) ?_ ?_ <;> repeat (first | with_reducible exact A | with_reducible exact C | with_reducible refine lies.on_drew ?_ | with_reducible refine lies.on_draw ?_ _)))
      (first | (go_at_call 162; refine (part_any _ _ _ (by omega) (by omega) (by omega) (by omega)).mono ?_; rintro e w' ⟨rfl, rfl⟩))
    rcases hr with ⟨t3, rfl⟩ | ⟨t3, rfl⟩ | ⟨rfl, rfl⟩
    · go_wp2_with (go_at_call 220; refine (strict_k _ _ _ hu.out).mono ?_; rintro e w' ⟨rfl, rfl⟩)
      go_ret
      exact ⟨rfl, by first | exact drawn hB _ | exact lies.frame_drew hB | exact lies.frame_drew (lies.frame_drew hB) | exact lies.frame_drew (lies.frame_drew (lies.frame_drew hB))⟩
    · have t4 : ¬ p < q := by omega
      have t5 : (p == q) = false := by simp; omega
      go_wp2_with (go_at_call 220; refine (strict_k _ _ _ hu.out).mono ?_; rintro e w' ⟨rfl, rfl⟩)
      go_ret
      exact ⟨rfl, by first | exact drawn hB _ | exact lies.frame_drew hB | exact lies.frame_drew (lies.frame_drew hB) | exact lies.frame_drew (lies.frame_drew (lies.frame_drew hB))⟩
    · cases u
      · go_wp2_with (go_at_call 220; refine (strict_k _ _ _ hu.out).mono ?_; rintro e w' ⟨rfl, rfl⟩)
        go_ret
        exact ⟨rfl, by first | exact drawn hB _ | exact lies.frame_drew hB | exact lies.frame_drew (lies.frame_drew hB) | exact lies.frame_drew (lies.frame_drew (lies.frame_drew hB))⟩
      · go_wp2_with (go_at_call 220; refine (strict_k _ _ _ hu.out).mono ?_; rintro e w' ⟨rfl, rfl⟩)
        go_ret
        exact ⟨rfl, by first | exact drawn hB _ | exact lies.frame_drew hB | exact lies.frame_drew (lies.frame_drew hB) | exact lies.frame_drew (lies.frame_drew (lies.frame_drew hB))⟩
theorem kept_any (a b c d x:Int) (w:World) (a1:-9223372036854775808≤a) (a2:a≤9223372036854775807) (c1:-9223372036854775808≤c) (c2:c≤9223372036854775807) (h:Both a b c d) (x1:-9223372036854775808≤x) (x2:x<9223372036854775807):
  Calls Tryz.prog 204 #[.agg #[.int .i64 (a),.int .i64 (b)],.agg #[.int .i64 (c),.int .i64 (d)],.int .i64 x] w fun e w'=>e=.returned (.bool (keptR a b c d x))∧Below w.heap.size w w':=by
 obtain ⟨f1,f2⟩:=floor_may h.1
 obtain ⟨g1,g2⟩:=floor_may h.2
 obtain ⟨⟨b1,b2,_⟩,⟨d1,d2,_⟩⟩:=h
 obtain ⟨p1,p2,p3⟩:=part_mul (a:=a) b1 b2 d1 d2
 obtain ⟨q1,q2,q3⟩:=part_mul (a:=c) d1 d2 b1 b2
 refine kept_k a b c d x _ _ _ (bS x) _ w a1 a2 c1 c2 b1 b2 d1 d2 x1 x2 (by omega) (by omega) p1 p3 q1 q3 (Lib.hid rfl) (Lib.hid rfl) (Lib.hid rfl) (Lib.hid rfl) ?_
 unfold keptR
 by_cases t1:a / b - c / d<x / 2
 ·have k:=cross_lt b1 b2 d1 d2 (x / 2) t1
  refine .inl ⟨t1,?_⟩
  rw [ltB_yes k,ltB_no (by omega)]
  cases bS x<;>rfl
 ·by_cases t2:x / 2<a / b - c / d
  ·have k:=cross_gt b1 b2 d1 d2 (x / 2) t2
   refine .inr (.inl ⟨t2,?_⟩)
   rw [ltB_no (show ¬ a*d - c*b<x / 2*(b*d) by omega),ltB_yes k]
   cases bS x<;>rfl
  ·have t3:a / b - c / d=x / 2:=by omega
   have k:=cross a b c d b1 d1
   rw [t3] at k
   refine .inr (.inr ⟨Lib.hid t3,?_⟩)
   rcases Int.lt_trichotomy (a % b*d) (c % d*b) with z | z | z
   ·refine .inl ⟨z,?_⟩
    rw [ltB_yes (show a*d - c*b<x / 2*(b*d) by omega),ltB_no (show ¬ x / 2*(b*d)<a*d - c*b by omega)]
    cases bS x<;>rfl
   ·refine .inr (.inr ⟨z,?_⟩)
    rw [ltB_no (show ¬ a*d - c*b<x / 2*(b*d) by omega),ltB_no (show ¬ x / 2*(b*d)<a*d - c*b by omega)]
    cases bS x<;>rfl
   ·refine .inr (.inl ⟨z,?_⟩)
    rw [ltB_no (show ¬ a*d - c*b<x / 2*(b*d) by omega),ltB_yes (show x / 2*(b*d)<a*d - c*b by omega)]
    cases bS x<;>rfl
end Go.Proofs.YthmljpccbjolgaaGreatDoor.rref
namespace Go.Proofs.YthmljpccbjolgaaGreatDoor.rref
open Go.ChangeShapes Go.WideShapes Go.ChangeAt Go.RowKit rmath bound num rat
set_option linter.unusedVariables false
end Go.Proofs.YthmljpccbjolgaaGreatDoor.rref
namespace Go.Proofs.YthmljpccbjolgaaGreatDoor.rref
open Go.ChangeShapes Go.WideShapes Go.ChangeAt Go.RowKit rmath bound num rat
set_option linter.unusedVariables false
end Go.Proofs.YthmljpccbjolgaaGreatDoor.rref
namespace Go.Proofs.YthmljpccbjolgaaGreatDoor.rref
open Go.ChangeShapes Go.WideShapes Go.ChangeAt Go.RowKit rmath bound num rat
set_option linter.unusedVariables false
end Go.Proofs.YthmljpccbjolgaaGreatDoor.rref
namespace Go.Proofs.YthmljpccbjolgaaGreatDoor.rref
open Go.ChangeShapes Go.WideShapes Go.ChangeAt Go.RowKit rmath bound num rat
set_option linter.unusedVariables false
end Go.Proofs.YthmljpccbjolgaaGreatDoor.rref
namespace Go.Proofs.YthmljpccbjolgaaGreatDoor.rref
open Go.ChangeShapes Go.WideShapes Go.ChangeAt Go.RowKit rmath bound num rat
set_option linter.unusedVariables false
end Go.Proofs.YthmljpccbjolgaaGreatDoor.rref
