
/-
  What the words of package rat answer: a division of two words, two words' sums and products, whether a fraction may be; each theorem names its conditions.
-/
import Derived.Test.YthmljpccbjolgaaGreatDoorRows
import Derived.Test.YthmljpccbjolgaaGreatDoorShelf
import Derived.Test.YthmljpccbjolgaaGreatDoorBase
import Derived.Laws.Bits64b
import Derived.Lib.BitFns
import Derived.Deep.DeepCutAuto
import Derived.Deep.CutBlock
import Derived.IntWalk
import Derived.Laws.Externs
namespace Go.Proofs.YthmljpccbjolgaaGreatDoor.rmath
set_option linter.unusedVariables false
end Go.Proofs.YthmljpccbjolgaaGreatDoor.rmath
namespace Go.Proofs.YthmljpccbjolgaaGreatDoor.rat
open Go.ChangeShapes Go.WideShapes Go.ChangeAt Go.RowKit rmath bound
set_option linter.unusedVariables false
end Go.Proofs.YthmljpccbjolgaaGreatDoor.rat
namespace Go.Proofs.YthmljpccbjolgaaGreatDoor.rat
open Go.ChangeShapes Go.WideShapes Go.ChangeAt Go.RowKit rmath bound
set_option linter.unusedVariables false
theorem tdiv_cases (a b:Int) (hb:1≤b) (ha:a<0):(a % b=0∧a.tdiv b=a / b∧a.tmod b=0)∨(1≤a % b∧a.tdiv b=a / b+1∧a.tmod b=a % b - b):=by
 have h0:=Int.emod_nonneg a (show b≠0 by omega)
 have h1:=Int.mul_tdiv_add_tmod a b
 have h2:=Int.mul_ediv_add_emod a b
 have e:a.tdiv b=a / b+(if 0≤a∨b ∣ a then 0 else b.sign):=Int.tdiv_eq_ediv
 by_cases hd:b ∣ a
 ·rw [if_pos (.inr hd)] at e
  have z:=Int.emod_eq_zero_of_dvd hd
  refine .inl ⟨z,by omega,?_⟩
  rw [e,Int.add_zero] at h1
  omega
 ·rw [if_neg (fun h=>h.elim (fun h=>by omega) hd),Int.sign_eq_one_of_pos (by omega)] at e
  have z:a % b≠0:=fun h=>hd (Int.dvd_of_emod_eq_zero h)
  refine .inr ⟨by omega,e,?_⟩
  rw [e,Int.mul_add,Int.mul_one] at h1
  omega
theorem ediv_in (a b:Int) (hb:1≤b) (l:-9223372036854775808≤a) (u:a≤9223372036854775807):-9223372036854775808≤a / b∧a / b≤9223372036854775807:=by
 constructor
 ·exact Int.le_ediv_of_mul_le (by omega) (by omega)
 ·have:=Int.ediv_le_self b (a:=a)
  by_cases h:0≤a
  ·have:=this h;omega
  ·have:=Int.ediv_neg_of_neg_of_pos (show a<0 by omega) (show 0<b by omega);omega
theorem split_any (a b:Int) (w:World) (hb:1≤b) (hb':b≤9223372036854775807) (l:-9223372036854775808≤a) (u:a≤9223372036854775807):
  Calls Tryz.prog 195 #[.int .i64 a,.int .i64 b] w fun e w'=>e=.returned (.tuple #[.int .i64 (a / b),.int .i64 (a % b)])∧∃ n,w'=w.drewN n:=by
 have t1:¬ b=0:=by omega
 have m0:=Int.emod_nonneg a t1
 have m1:=Int.emod_lt_of_pos a (show 0<b by omega)
 obtain ⟨d0,d1⟩:=ediv_in a b hb l u
 by_cases ha:0≤a
 ·have e0:=Int.ediv_nonneg ha (show 0≤b by omega)
  go_enter Tryz.func195,Tryz.ntmps195
  go_wp2
  go_quiet (fail)
  go_wp2
  go_ret2
  exact ⟨rfl,_,rfl⟩
 ·have d2:=Int.ediv_neg_of_neg_of_pos (show a<0 by omega) (show 0<b by omega)
  rcases tdiv_cases a b hb (by omega) with ⟨c1,c2,c3⟩ | ⟨c1,c2,c3⟩
  ·go_enter Tryz.func195,Tryz.ntmps195
   go_wp2
   go_quiet (fail)
   go_wp2
   go_ret2
   exact ⟨by rw [c1];rfl,_,rfl⟩
  ·go_enter Tryz.func195,Tryz.ntmps195
   go_wp2
   go_quiet (fail)
   go_wp2
   go_ret2
   exact ⟨rfl,_,rfl⟩
set_option maxHeartbeats 400000 in
theorem divisor_nat (a b:Nat) (w:World) (ha:a≤9223372036854775807) (hb:b≤9223372036854775807):
  Calls Tryz.prog 196 #[.int .i64 a,.int .i64 b] w fun e w'=>e=.returned (.int .i64 (Nat.gcd a b:Nat))∧∃ n,w'=w.drewN n:=by
 go_enter Tryz.func196,Tryz.ntmps196
 go_wp2
 go_loopw [0,1] (fun s0 s1 wr=>∃ x y:Nat,s0=.int .i64 x∧s1=.int .i64 y∧x≤9223372036854775807∧y≤9223372036854775807∧Nat.gcd x y=Nat.gcd a b∧∃ n,wr=w.drewN n) (fun _ s1 _=>(intOf s1).toNat)
 case atStart=>exact ⟨a,b,rfl,rfl,ha,hb,rfl,0,rfl⟩
 case round=>
  obtain ⟨x,y,rfl,rfl,hx,hy,hg,n,rfl⟩:=hrel
  have G:=Lib.hid hg
  clear hg
  by_cases h0:0<y
  ·have t1:¬ (y:Int)=0:=by omega
   go_wp2
   go_quiet (fail)
   go_wp2
   go_roundw
   case rel=>exact ⟨y,x % y,rfl,rfl,hy,by have:=Nat.mod_lt x h0;omega,by rw [←G.out,Nat.gcd_comm x y,Nat.gcd_rec y x,Nat.gcd_comm],_,by rw [World.drewN_drewN]⟩
   case measure=>have:=Nat.mod_lt x h0;simp [intOf];omega
  ·obtain rfl:y=0:=by omega
   go_wp2
   go_ret
   exact ⟨by rw [←G.out,Nat.gcd_zero_right];rfl,n,rfl⟩
def gcdI (a b:Int):Int:=(Int.gcd a b:Int)
theorem divisor_any (a b:Int) (w:World) (ha:0≤a) (ha':a≤9223372036854775807) (hb:0≤b) (hb':b≤9223372036854775807):
  Calls Tryz.prog 196 #[.int .i64 a,.int .i64 b] w fun e w'=>e=.returned (.int .i64 (gcdI a b))∧∃ n,w'=w.drewN n:=by
 obtain ⟨x,rfl⟩:=Int.eq_ofNat_of_zero_le ha
 obtain ⟨y,rfl⟩:=Int.eq_ofNat_of_zero_le hb
 exact divisor_nat x y w (by omega) (by omega)
theorem mul64_k (x y H L:Int) (w:World) (hx:0≤x) (hx':x≤18446744073709551615) (hy:0≤y) (hy':y≤18446744073709551615) (hH:RowKit.Hid (x*y / 18446744073709551616=H)) (hL:RowKit.Hid (x*y % 18446744073709551616=L)):
  Calls Tryz.prog 229 #[.int .u64 x,.int .u64 y] w fun e w'=>e=.returned (.tuple #[.int .u64 H,.int .u64 L])∧w=w':=by
 obtain ⟨a,rfl⟩:=Int.eq_ofNat_of_zero_le hx
 obtain ⟨b,rfl⟩:=Int.eq_ofNat_of_zero_le hy
 refine (Tryz.bits_Mul64 a b (by omega) (by omega) w).mono ?_
 rintro e w' ⟨rfl,rfl⟩
 refine ⟨?_,rfl⟩
 rw [←hH.out,←hL.out,Int.natCast_ediv,Int.natCast_emod,Int.natCast_mul]
 rfl
theorem mul_in {a b:Int} (h1:-9223372036854775808≤a) (h2:a≤9223372036854775807) (h3:1≤b) (h4:b≤9223372036854775807):-85070591730234615856620279821087277056≤a*b∧a*b≤85070591730234615847396907784232501249:=by
 constructor
 ·have:=Int.mul_le_mul_of_nonneg_right h1 (show 0≤b by omega)
  have e:(-9223372036854775808:Int)*b≥-9223372036854775808*9223372036854775807:=by omega
  omega
 ·have:=Int.mul_le_mul_of_nonneg_right h2 (show 0≤b by omega)
  have e:(9223372036854775807:Int)*b≤9223372036854775807*9223372036854775807:=by omega
  omega
theorem times_eq (a b:Int) (w:World) (h1:-9223372036854775808≤a) (h2:a≤9223372036854775807) (h3:1≤b) (h4:b≤9223372036854775807):
  Calls Tryz.prog 198 #[.int .i64 a,.int .i64 b] w fun e w'=>e=.returned (.agg #[.int .i64 ((a*b) / 18446744073709551616),.int .u64 ((a*b) % 18446744073709551616)])∧w'=w.alloc (.cells #[.int .i64 (a*b / 18446744073709551616),.int .u64 (a*b % 18446744073709551616)] 227):=by
 obtain ⟨p1,p2⟩:=mul_in h1 h2 h3 h4
 by_cases ha:0≤a
 ·have p0:0≤a*b:=Int.mul_nonneg ha (by omega)
  have q1:0≤a*b / 18446744073709551616:=by omega
  have q2:a*b / 18446744073709551616≤4611686018427387904:=by omega
  have r1:0≤a*b % 18446744073709551616:=by omega
  have r2:a*b % 18446744073709551616≤18446744073709551615:=by omega
  have HH:=Lib.hid (Eq.refl (a*b / 18446744073709551616))
  have HL:=Lib.hid (Eq.refl (a*b % 18446744073709551616))
  clear p0 p1 p2
  generalize hH:a*b / 18446744073709551616=H at HH q1 q2 ⊢
  generalize hL:a*b % 18446744073709551616=L at HL r1 r2 ⊢
  have KH:=Lib.hid hH
  have KL:=Lib.hid hL
  clear hH hL HH HL
  go_enter Tryz.func198,Tryz.ntmps198
  go_wp2_with (go_at_call 229;refine (mul64_k a b H L _ (by omega) (by omega) (by omega) (by omega) KH KL).mono ?_;rintro e w' ⟨rfl,rfl⟩)
  exact bodyPost_ret (v:=.agg #[.int .i64 H,.int .u64 L]) (by simp [results,Tryz.results198,go_sem]) rfl ⟨rfl,rfl⟩
 ·have e:(a+18446744073709551616)*b=a*b+b*18446744073709551616:=by rw [Int.add_mul,Int.mul_comm b]
  have q1:-4611686018427387904≤a*b / 18446744073709551616:=by omega
  have q2:a*b / 18446744073709551616≤4611686018427387904:=by omega
  have r1:0≤a*b % 18446744073709551616:=by omega
  have r2:a*b % 18446744073709551616≤18446744073709551615:=by omega
  have kh:(a+18446744073709551616)*b / 18446744073709551616=a*b / 18446744073709551616+b:=by rw [e];omega
  have kl:(a+18446744073709551616)*b % 18446744073709551616=a*b % 18446744073709551616:=by rw [e];omega
  clear e p1 p2
  generalize a*b / 18446744073709551616=H at*
  generalize a*b % 18446744073709551616=L at*
  have KH:=Lib.hid kh
  have KL:=Lib.hid kl
  clear kh kl
  have e1:IntKind.u64.wrap a=a+18446744073709551616:=by rw [IntKind.wrap_u64];omega
  have e2:wrap64 (IntKind.u64.wrap H)=H:=by rw [IntKind.wrap_u64];unfold wrap64;omega
  go_enter Tryz.func198,Tryz.ntmps198
  go_wp2_with (go_at_call 229;refine (mul64_k (a+18446744073709551616) b (H+b) L _ (by omega) (by omega) (by omega) (by omega) KH KL).mono ?_;rintro e w' ⟨rfl,rfl⟩)
  exact bodyPost_ret (v:=.agg #[.int .i64 H,.int .u64 L]) (by simp [results,Tryz.results198,go_sem]) rfl ⟨rfl,rfl⟩
theorem times_any (a b:Int) (w:World) (h1:-9223372036854775808≤a) (h2:a≤9223372036854775807) (h3:1≤b) (h4:b≤9223372036854775807):
  Calls Tryz.prog 198 #[.int .i64 a,.int .i64 b] w fun e w'=>e=.returned (.agg #[.int .i64 ((a*b) / 18446744073709551616),.int .u64 ((a*b) % 18446744073709551616)])∧Below w.heap.size w w':=
 (times_eq a b w h1 h2 h3 h4).mono fun _ _ ⟨x,y⟩=>⟨x,y ▸ up1 _ _⟩
theorem run_sub_nat (x y:Nat) (w:World):
  (callFunc 230 #[.int .u64 x,.int .u64 y,.int .u64 0]).run Tryz.prog w=.ok (.value (.tuple #[.int .u64 (Int.ofNat ((x+2 ^ 64 - y - 0) % 2 ^ 64)),.int .u64 (Int.ofNat (if x<y+0 then 1 else 0))])) w:=by
 rw [run_callFunc_extern (e:=(Extern.MathBitsCarry.rows[1]'(by decide)).2) Tryz.func230 (by kernel_rfl) (by kernel_rfl) (by kernel_rfl) (by kernel_rfl)]
 rfl
theorem run_sub (x y:Int) (hx:0≤x) (hx':x≤18446744073709551615) (hy:0≤y) (hy':y≤18446744073709551615) (w:World):
  (callFunc 230 #[.int .u64 x,.int .u64 y,.int .u64 0]).run Tryz.prog w=.ok (.value (.tuple #[.int .u64 ((x - y) % 18446744073709551616),.int .u64 (-((x - y) / 18446744073709551616))])) w:=by
 obtain ⟨a,rfl⟩:=Int.eq_ofNat_of_zero_le hx
 obtain ⟨b,rfl⟩:=Int.eq_ofNat_of_zero_le hy
 rw [run_sub_nat]
 have e1:Int.ofNat ((a+2 ^ 64 - b - 0) % 2 ^ 64)=((a:Int) - b) % 18446744073709551616:=by simp only [Int.ofNat_eq_natCast];omega
 have e2:Int.ofNat (if a<b+0 then 1 else 0)=-(((a:Int) - b) / 18446744073709551616):=by
  split
  ·simp only [Int.ofNat_eq_natCast];omega
  ·simp only [Int.ofNat_eq_natCast];omega
 rw [e1,e2]
def Fits (V:Int):Prop:=-1298074214633706907132624082305024≤V∧V≤1298074214633706907132624082305024
theorem minus_raw (h1 l1 h2 l2:Int) (w:World) (a1:-70368744177664≤h1) (a2:h1≤70368744177664) (b1:-70368744177664≤h2) (b2:h2≤70368744177664) (c1:0≤l1) (c2:l1≤18446744073709551615) (d1:0≤l2) (d2:l2≤18446744073709551615):
  Calls Tryz.prog 199 #[.agg #[.int .i64 h1,.int .u64 l1],.agg #[.int .i64 h2,.int .u64 l2]] w fun e w'=>e=.returned (.agg #[.int .i64 (h1 - h2 - -((l1 - l2) / 18446744073709551616)),.int .u64 ((l1 - l2) % 18446744073709551616)])∧w'=((w.alloc (.cells #[.int .i64 h1,.int .u64 l1] 227)).alloc (.cells #[.int .i64 h2,.int .u64 l2] 227)).alloc (.cells #[.int .i64 (h1 - h2 - -((l1 - l2) / 18446744073709551616)),.int .u64 ((l1 - l2) % 18446744073709551616)] 227):=by
 have q1:0≤-((l1 - l2) / 18446744073709551616):=by omega
 have q2:-((l1 - l2) / 18446744073709551616)≤1:=by omega
 have hr:=run_sub l1 l2 c1 c2 d1 d2
 generalize -((l1 - l2) / 18446744073709551616)=Z at*
 go_enter Tryz.func199,Tryz.ntmps199
 go_wp2
 exact bodyPost_ret (v:=.agg #[.int .i64 (h1 - h2 - Z),.int .u64 ((l1 - l2) % 18446744073709551616)]) (by simp [results,Tryz.results199,go_sem]) rfl ⟨rfl,rfl⟩
theorem minus_eq (V X:Int) (w:World) (hV:Fits V) (hX:Fits X):
  Calls Tryz.prog 199 #[.agg #[.int .i64 ((V) / 18446744073709551616),.int .u64 ((V) % 18446744073709551616)],.agg #[.int .i64 ((X) / 18446744073709551616),.int .u64 ((X) % 18446744073709551616)]] w fun e w'=>e=.returned (.agg #[.int .i64 ((V - X) / 18446744073709551616),.int .u64 ((V - X) % 18446744073709551616)])∧w'=((w.alloc (.cells #[.int .i64 (V / 18446744073709551616),.int .u64 (V % 18446744073709551616)] 227)).alloc (.cells #[.int .i64 (X / 18446744073709551616),.int .u64 (X % 18446744073709551616)] 227)).alloc (.cells #[.int .i64 ((V - X) / 18446744073709551616),.int .u64 ((V - X) % 18446744073709551616)] 227):=by
 obtain ⟨v1,v2⟩:=hV
 obtain ⟨x1,x2⟩:=hX
 refine (minus_raw _ _ _ _ w (by omega) (by omega) (by omega) (by omega) (by omega) (by omega) (by omega) (by omega)).mono ?_
 rintro e w' ⟨rfl,rfl⟩
 have hh:V / 18446744073709551616 - X / 18446744073709551616 - -((V % 18446744073709551616 - X % 18446744073709551616) / 18446744073709551616)=(V - X) / 18446744073709551616:=by omega
 have hl:(V % 18446744073709551616 - X % 18446744073709551616) % 18446744073709551616=(V - X) % 18446744073709551616:=by omega
 rw [hh,hl]
 exact ⟨rfl,rfl⟩
theorem less_raw (h1 l1 h2 l2:Int) (w:World) (r:Bool) (hr:(h1<h2∨(h1=h2∧l1<l2))↔r=true):
  Calls Tryz.prog 201 #[.agg #[.int .i64 h1,.int .u64 l1],.agg #[.int .i64 h2,.int .u64 l2]] w fun e w'=>e=.returned (.bool r)∧Below w.heap.size w w':=by
 by_cases t1:h1<h2
 ·obtain rfl:r=true:=hr.1 (.inl t1)
  clear hr
  go_enter Tryz.func201,Tryz.ntmps201
  go_wp2
  go_ret
  exact ⟨rfl,up2 _ _ _⟩
 ·by_cases t2:h1=h2
  ·subst t2
   by_cases t3:l1<l2
   ·obtain rfl:r=true:=hr.1 (.inr ⟨rfl,t3⟩)
    clear hr t1
    go_enter Tryz.func201,Tryz.ntmps201
    go_wp2
    go_ret
    exact ⟨rfl,up2 _ _ _⟩
   ·obtain rfl:r=false:=by cases r;rfl;exact (hr.2 rfl).elim (fun h=>absurd h t1) (fun h=>absurd h.2 t3)
    clear hr t1
    go_enter Tryz.func201,Tryz.ntmps201
    go_wp2
    go_ret
    exact ⟨rfl,up2 _ _ _⟩
  ·obtain rfl:r=false:=by cases r;rfl;exact (hr.2 rfl).elim (fun h=>absurd h t1) (fun h=>absurd h.1 t2)
   clear hr
   go_enter Tryz.func201,Tryz.ntmps201
   go_wp2
   go_ret
   exact ⟨rfl,up2 _ _ _⟩
def ltB (a b:Int):Bool:=decide (a<b)
theorem less_any2 (V X:Int) (w:World):
  Calls Tryz.prog 201 #[.agg #[.int .i64 ((V) / 18446744073709551616),.int .u64 ((V) % 18446744073709551616)],.agg #[.int .i64 ((X) / 18446744073709551616),.int .u64 ((X) % 18446744073709551616)]] w fun e w'=>e=.returned (.bool (ltB V X))∧Below w.heap.size w w':=
 less_raw _ _ _ _ w _ (by unfold ltB;rw [decide_eq_true_iff];omega)
end Go.Proofs.YthmljpccbjolgaaGreatDoor.rat
namespace Go.Proofs.YthmljpccbjolgaaGreatDoor.rat
open Go.ChangeShapes Go.WideShapes Go.ChangeAt Go.RowKit rmath bound num
set_option linter.unusedVariables false
def MayR (n d:Int):Prop:=1≤d∧d≤1048576∧-(2305843009213693952*d)≤n∧n≤2305843009213693952*d∧Int.gcd n d=1
instance (n d:Int):Decidable (MayR n d):=inferInstanceAs (Decidable (_∧_∧_∧_∧_))
def above (n d:Int):Int:=if 0<n % d then n / d+1 else n / d
theorem gcd_part (n d:Int):gcdI d (n % d)=gcdI n d:=by
 unfold gcdI
 have h:=Int.gcd_add_mul_left_right d (n % d) (n / d)
 rw [Int.emod_add_mul_ediv] at h
 rw [←h,Int.gcd_comm]
theorem div_mul (n d:Int) (h:1≤d):n / d*d+n % d=n∧0≤n % d∧n % d<d:=by
 have a:=Int.mul_ediv_add_emod n d
 rw [Int.mul_comm] at a
 exact ⟨a,Int.emod_nonneg n (by omega),Int.emod_lt_of_pos n (by omega)⟩
theorem le_div (n d c:Int) (h:1≤d):c≤n / d↔c*d≤n:=Int.le_ediv_iff_mul_le (by omega)
theorem may_parts (n d:Int) (h:1≤d) (h':d≤1048576):MayR n d↔(May (n / d)∧May (above n d)∧gcdI d (n % d)=1):=by
 obtain ⟨a,b,c⟩:=div_mul n d h
 have k1:=le_div n d (-2305843009213693952) h
 have k2:=le_div n d 2305843009213693952 h
 have k3:=le_div n d 2305843009213693953 h
 have g:gcdI d (n % d)=1↔Int.gcd n d=1:=by rw [gcd_part];unfold gcdI;omega
 unfold MayR May above
 rw [g]
 generalize Int.gcd n d=G at*
 constructor
 ·rintro ⟨h1,h2,h3,h4,h5⟩
  refine ⟨⟨by omega,by omega⟩,?_,h5⟩
  split
  ·refine ⟨by omega,?_⟩
   rcases Int.lt_or_le (n / d) 2305843009213693952 with q | q
   ·omega
   ·have:=k2.1 q
    have e:n / d=2305843009213693952:=by omega
    rw [e] at a
    omega
  ·exact ⟨by omega,by omega⟩
 ·rintro ⟨⟨h1,h2⟩,h3,h5⟩
  refine ⟨h,h',by omega,?_,h5⟩
  split at h3
  ·have:=Int.mul_le_mul_of_nonneg_right (show n / d+1≤2305843009213693952 by omega) (show 0≤d by omega)
   rw [Int.add_mul] at this
   omega
  ·have:=Int.mul_le_mul_of_nonneg_right (show n / d≤2305843009213693952 by omega) (show 0≤d by omega)
   omega
theorem check3_den (n d:Int) (w:World) (h:d<1∨1048576<d):
  Calls Tryz.prog 158 #[.agg #[.int .i64 (n),.int .i64 (d)]] w fun e w'=>e=.returned (.int .i64 8)∧Below w.heap.size w w':=by
 by_cases t1:d<1
 ·clear h
  go_enter Tryz.func158,Tryz.ntmps158
  go_wp2
  go_ret
  exact ⟨rfl,up1 _ _⟩
 ·have t2:1048576<d:=by omega
  clear h
  go_enter Tryz.func158,Tryz.ntmps158
  go_wp2
  go_ret
  exact ⟨rfl,up1 _ _⟩
set_option maxHeartbeats 1000000 in
theorem check3_raw (n d g r:Int) (w:World) (n1:-9223372036854775808≤n) (n2:n≤9223372036854775807) (h:1≤d) (h':d≤1048576) (hg:RowKit.Hid (gcdI d (n % d)=g))
  (hr:(May (n / d)∧May (above n d)∧g=1∧r=0)∨(r=8∧((May (n / d)∧May (above n d)∧¬ g=1)∨(May (n / d)∧¬ May (above n d))∨¬ May (n / d)))):
  Calls Tryz.prog 158 #[.agg #[.int .i64 (n),.int .i64 (d)]] w fun e w'=>e=.returned (.int .i64 r)∧Below w.heap.size w w':=by
 obtain ⟨a,b,c⟩:=div_mul n d h
 clear a
 obtain ⟨d0,d1⟩:=ediv_in n d h n1 n2
 have t1:¬ d<1:=by omega
 have t2:¬ 1048576<d:=by omega
 have d2:0<n % d→n / d+1≤9223372036854775807:=fun _=>by
  have:=Int.ediv_le_iff_le_mul (x:=n) (y:=9223372036854775806) (show 0<d by omega)
  have:n / d≤9223372036854775806:=this.2 (by omega)
  omega
 unfold above at hr
 by_cases t3:0<n % d
 ·rw [if_pos t3] at hr
  have d3:=d2 t3
  clear d2
  rcases hr with ⟨p1,p2,p3,rfl⟩ | ⟨rfl,⟨p1,p2,p3⟩ | ⟨p1,p2⟩ | p1⟩
  ·subst p3
   go_enter Tryz.func158,Tryz.ntmps158
   go_wp2_with (first | (go_at_call 195;refine (split_any _ _ _ (by omega) (by omega) (by omega) (by omega)).mono ?_;rintro e w1 ⟨rfl,n1,rfl⟩) | (go_at_call 193;refine (check_ok _ _ (by assumption)).mono ?_;rintro e w' ⟨rfl,rfl⟩) | (go_at_call 196;refine (divisor_any _ _ _ (by omega) (by omega) (by omega) (by omega)).mono ?_;rintro e w1 ⟨rfl,n2,rfl⟩;rw [hg.out]))
   go_ret
   exact ⟨rfl,drawn (up1 _ _) _⟩
  ·go_enter Tryz.func158,Tryz.ntmps158
   go_wp2_with (first | (go_at_call 195;refine (split_any _ _ _ (by omega) (by omega) (by omega) (by omega)).mono ?_;rintro e w1 ⟨rfl,n1,rfl⟩) | (go_at_call 193;refine (check_ok _ _ (by assumption)).mono ?_;rintro e w' ⟨rfl,rfl⟩) | (go_at_call 196;refine (divisor_any _ _ _ (by omega) (by omega) (by omega) (by omega)).mono ?_;rintro e w1 ⟨rfl,n2,rfl⟩;rw [hg.out]))
   go_ret
   exact ⟨rfl,drawn (up1 _ _) _⟩
  ·have P:=Lib.hid p2
   clear p2
   go_enter Tryz.func158,Tryz.ntmps158
   go_wp2_with (first | (go_at_call 195;refine (split_any _ _ _ (by omega) (by omega) (by omega) (by omega)).mono ?_;rintro e w1 ⟨rfl,n1,rfl⟩) | (go_at_call 193;refine (check_ok _ _ (by assumption)).mono ?_;rintro e w' ⟨rfl,rfl⟩) | (go_at_call 193;refine (check_no _ _ P.out).mono ?_;rintro e w' ⟨rfl,rfl⟩))
   go_ret
   exact ⟨rfl,drawn (up1 _ _) _⟩
  ·have P:=Lib.hid p1
   clear p1
   go_enter Tryz.func158,Tryz.ntmps158
   go_wp2_with (first | (go_at_call 195;refine (split_any _ _ _ (by omega) (by omega) (by omega) (by omega)).mono ?_;rintro e w1 ⟨rfl,n1,rfl⟩) | (go_at_call 193;refine (check_no _ _ P.out).mono ?_;rintro e w' ⟨rfl,rfl⟩))
   go_ret
   exact ⟨rfl,drawn (up1 _ _) _⟩
 ·rw [if_neg t3] at hr
  clear d2
  rcases hr with ⟨p1,p2,p3,rfl⟩ | ⟨rfl,⟨p1,p2,p3⟩ | ⟨p1,p2⟩ | p1⟩
  ·subst p3
   clear p2
   go_enter Tryz.func158,Tryz.ntmps158
   go_wp2_with (first | (go_at_call 195;refine (split_any _ _ _ (by omega) (by omega) (by omega) (by omega)).mono ?_;rintro e w1 ⟨rfl,n1,rfl⟩) | (go_at_call 193;refine (check_ok _ _ (by assumption)).mono ?_;rintro e w' ⟨rfl,rfl⟩) | (go_at_call 196;refine (divisor_any _ _ _ (by omega) (by omega) (by omega) (by omega)).mono ?_;rintro e w1 ⟨rfl,n2,rfl⟩;rw [hg.out]))
   go_ret
   exact ⟨rfl,drawn (up1 _ _) _⟩
  ·clear p2
   go_enter Tryz.func158,Tryz.ntmps158
   go_wp2_with (first | (go_at_call 195;refine (split_any _ _ _ (by omega) (by omega) (by omega) (by omega)).mono ?_;rintro e w1 ⟨rfl,n1,rfl⟩) | (go_at_call 193;refine (check_ok _ _ (by assumption)).mono ?_;rintro e w' ⟨rfl,rfl⟩) | (go_at_call 196;refine (divisor_any _ _ _ (by omega) (by omega) (by omega) (by omega)).mono ?_;rintro e w1 ⟨rfl,n2,rfl⟩;rw [hg.out]))
   go_ret
   exact ⟨rfl,drawn (up1 _ _) _⟩
  ·exact absurd p1 p2
  ·have P:=Lib.hid p1
   clear p1
   go_enter Tryz.func158,Tryz.ntmps158
   go_wp2_with (first | (go_at_call 195;refine (split_any _ _ _ (by omega) (by omega) (by omega) (by omega)).mono ?_;rintro e w1 ⟨rfl,n1,rfl⟩) | (go_at_call 193;refine (check_no _ _ P.out).mono ?_;rintro e w' ⟨rfl,rfl⟩))
   go_ret
   exact ⟨rfl,drawn (up1 _ _) _⟩
def rchk (n d:Int):Int:=if MayR n d then 0 else 8
theorem rchk_ok {n d:Int} (h:MayR n d):rchk n d=0:=if_pos h
theorem rchk_no {n d:Int} (h:¬ MayR n d):rchk n d=8:=if_neg h
theorem check3_any (n d:Int) (w:World) (n1:-9223372036854775808≤n) (n2:n≤9223372036854775807):
  Calls Tryz.prog 158 #[.agg #[.int .i64 (n),.int .i64 (d)]] w fun e w'=>e=.returned (.int .i64 (rchk n d))∧Below w.heap.size w w':=by
 by_cases h:d<1∨1048576<d
 ·rw [rchk_no (fun k=>by unfold MayR at k;omega)]
  exact check3_den n d w h
 ·have h1:1≤d:=by omega
  have h2:d≤1048576:=by omega
  have k:=may_parts n d h1 h2
  refine check3_raw n d _ _ w n1 n2 h1 h2 (Lib.hid rfl) ?_
  by_cases m:MayR n d
  ·obtain ⟨a,b,c⟩:=k.1 m
   exact .inl ⟨a,b,c,rchk_ok m⟩
  ·refine .inr ⟨rchk_no m,?_⟩
   by_cases a:May (n / d)
   ·by_cases b:May (above n d)
    ·exact .inl ⟨a,b,fun c=>m (k.2 ⟨a,b,c⟩)⟩
    ·exact .inr (.inl ⟨a,b⟩)
   ·exact .inr (.inr a)
theorem check3_ok (n d:Int) (w:World) (n1:-9223372036854775808≤n) (n2:n≤9223372036854775807) (m:MayR n d):
  Calls Tryz.prog 158 #[.agg #[.int .i64 (n),.int .i64 (d)]] w fun e w'=>e=.returned (.int .i64 0)∧Below w.heap.size w w':=by
 have:=check3_any n d w n1 n2
 rw [rchk_ok m] at this
 exact this
theorem check3_no (n d:Int) (w:World) (n1:-9223372036854775808≤n) (n2:n≤9223372036854775807) (m:¬ MayR n d):
  Calls Tryz.prog 158 #[.agg #[.int .i64 (n),.int .i64 (d)]] w fun e w'=>e=.returned (.int .i64 8)∧Below w.heap.size w w':=by
 have:=check3_any n d w n1 n2
 rw [rchk_no m] at this
 exact this
end Go.Proofs.YthmljpccbjolgaaGreatDoor.rat
