
/-
  What the words of package rat answer: a division of two words, two words' sums and products, whether a fraction may be; each theorem names its conditions.
-/
import Derived.Test.YthmljpccbjolgaaGreatDoorRows
import Derived.Test.YthmljpccbjolgaaGreatDoorShelf
import Derived.Test.YthmljpccbjolgaaGreatDoorBase
import Derived.Laws.Bits64b
import Derived.Lib.BitFns
import Derived.Deep.DeepCutAuto
import Derived.Deep.CutBlock
import Derived.IntWalk
import Derived.Laws.Externs
namespace Go.Proofs.YthmljpccbjolgaaGreatDoor.rmath
set_option linter.unusedVariables false
theorem kn_more {U Y l q r y1 y0:Int} (hY:Y=y1*4294967296+y0) (hp:0<Y) (inv:q*y1+r=U) (h:4294967296*r+l<q*y0):(U*4294967296+l) / Y≤q - 1:=by
 have e:q*Y=q*y1*4294967296+q*y0:=by rw [hY,Int.mul_add,Int.mul_assoc]
 have k:U*4294967296+l<q*Y:=by rw [e];generalize q*y1=A at*;generalize q*y0=C at*;omega
 have:=Int.ediv_lt_of_lt_mul hp k
 omega
theorem kn_most {U Y l q r y1 y0:Int} (hY:Y=y1*4294967296+y0) (hp:0<Y) (inv:q*y1+r=U) (h:q*y0≤4294967296*r+l):q≤(U*4294967296+l) / Y:=by
 have e:q*Y=q*y1*4294967296+q*y0:=by rw [hY,Int.mul_add,Int.mul_assoc]
 refine Int.le_ediv_of_mul_le hp ?_
 rw [e];generalize q*y1=A at*;generalize q*y0=C at*;omega
theorem kn_big {U Y l:Int} (hp:0<Y) (hU:U<Y) (hl:l<4294967296):(U*4294967296+l) / Y<4294967296:=by
 refine Int.ediv_lt_of_lt_mul hp ?_
 omega
theorem kn_pos {U Y l:Int} (hp:0<Y) (hU:0≤U) (hl:0≤l):0≤(U*4294967296+l) / Y:=Int.ediv_nonneg (by omega) (by omega)
theorem kn_first {U Y l y1 y0:Int} (hY:Y=y1*4294967296+y0) (h1:2147483648≤y1) (h0:0≤y0) (h0':y0<4294967296) (hU0:0≤U) (hU:U<Y) (hl:l<4294967296):
  U / y1*y1+(U - U / y1*y1)=U∧0≤U - U / y1*y1∧U - U / y1*y1<y1∧(U*4294967296+l) / Y≤U / y1∧0≤U / y1∧U / y1≤4294967297:=by
 have hp:0<Y:=by omega
 have a:=Int.mul_ediv_add_emod U y1
 have b:=Int.emod_nonneg U (show y1≠0 by omega)
 have c:=Int.emod_lt_of_pos U (show 0<y1 by omega)
 rw [Int.mul_comm] at a
 have q0:0≤U / y1:=Int.ediv_nonneg hU0 (by omega)
 refine ⟨by omega,by omega,by omega,?_,q0,?_⟩
 ·have e:(U / y1+1)*Y=U / y1*y1*4294967296+y1*4294967296+(U / y1+1)*y0:=by
   have e1:(U / y1+1)*Y=(U / y1+1)*y1*4294967296+(U / y1+1)*y0:=by rw [hY,Int.mul_add,Int.mul_assoc]
   rw [e1,Int.add_mul (U / y1) 1 y1,Int.one_mul,Int.add_mul]
  have z:0≤(U / y1+1)*y0:=Int.mul_nonneg (by omega) h0
  have k:U*4294967296+l<(U / y1+1)*Y:=by rw [e];omega
  have:=Int.ediv_lt_of_lt_mul hp k
  omega
 ·have k:U<4294967298*y1:=by omega
  have:=Int.ediv_lt_of_lt_mul (show 0<y1 by omega) k
  omega
theorem kn_exit {U Y l q r y1 y0:Int} (hY:Y=y1*4294967296+y0) (hp:0<Y) (inv:q*y1+r=U) (hq:0≤q) (hq2:q≤4294967296) (h0:0≤y0) (h0':y0<4294967296) (hr:4294967296≤r) (hl:0≤l) (hQ:(U*4294967296+l) / Y≤q):q=(U*4294967296+l) / Y:=by
 have k:q*y0≤4294967296*4294967296:=Int.mul_le_mul hq2 (by omega) h0 (by omega)
 have:=kn_most hY hp inv (l:=l) (by omega)
 omega
theorem kn_left {U Y l:Int} (hp:0<Y) (hY:Y≤18446744073709551616):
  ((U*4294967296 % 18446744073709551616+l) % 18446744073709551616 - (U*4294967296+l) / Y*Y % 18446744073709551616) % 18446744073709551616=(U*4294967296+l) % Y:=by
 have a:=Int.mul_ediv_add_emod (U*4294967296+l) Y
 have b:=Int.emod_nonneg (U*4294967296+l) (show Y≠0 by omega)
 have c:=Int.emod_lt_of_pos (U*4294967296+l) hp
 rw [Int.mul_comm] at a
 generalize (U*4294967296+l) / Y*Y=M at*
 generalize (U*4294967296+l) % Y=R at*
 omega
theorem kn_both {U Y l1 l0:Int} (hp:0<Y):
  (U*4294967296+l1) / Y*4294967296+((U*4294967296+l1) % Y*4294967296+l0) / Y=(U*18446744073709551616+(l1*4294967296+l0)) / Y∧
  ((U*4294967296+l1) % Y*4294967296+l0) % Y=(U*18446744073709551616+(l1*4294967296+l0)) % Y:=by
 have a:=Int.mul_ediv_add_emod (U*4294967296+l1) Y
 have e:U*18446744073709551616+(l1*4294967296+l0)=((U*4294967296+l1) % Y*4294967296+l0)+Y*((U*4294967296+l1) / Y*4294967296):=by
  have:Y*((U*4294967296+l1) / Y*4294967296)=Y*((U*4294967296+l1) / Y)*4294967296:=by rw [Int.mul_assoc]
  rw [this]
  generalize Y*((U*4294967296+l1) / Y)=M at*
  omega
 rw [e,Int.add_mul_ediv_left _ _ (by omega),Int.add_mul_emod_self_left]
 exact ⟨Int.add_comm _ _,rfl⟩
theorem kn_shift {N y S:Int} (hS:0<S) (hy:0<y):N*S / (y*S)=N / y∧N*S % (y*S) / S=N % y:=by
 refine ⟨Int.mul_ediv_mul_of_pos_left _ _ hS,?_⟩
 have:N*S % (y*S)=N % y*S:=by rw [Int.mul_comm N S,Int.mul_comm y S,Int.mul_emod_mul_of_pos _ _ hS,Int.mul_comm]
 rw [this,Int.mul_ediv_cancel _ (by omega)]
end Go.Proofs.YthmljpccbjolgaaGreatDoor.rmath
namespace Go.Proofs.YthmljpccbjolgaaGreatDoor.rat
open Go.ChangeShapes Go.WideShapes Go.ChangeAt Go.RowKit rmath bound
set_option linter.unusedVariables false
theorem div64_low (l y:Int) (w:World) (hl:0≤l) (hl':l≤18446744073709551615) (hy:1≤y) (hy':y≤9223372036854775807):
  Calls Tryz.prog 247 #[.int .u64 0,.int .u64 l,.int .u64 y] w fun e w'=>e=.returned (.tuple #[.int .u64 (l / y),.int .u64 (l % y)])∧∃ n,w'=w.drewN n:=by
 have t1:(y==0)=false:=by simp;omega
 have t2:¬ y≤0:=by omega
 have t3:¬ y=0:=by omega
 go_enter Tryz.func247,Tryz.ntmps247
 go_wp2
 go_quiet (fail)
 go_wp2
 go_ret2
 exact ⟨rfl,_,rfl⟩
theorem bitLen_spec:∀ x:Nat,0<x→x<2 ^ 64→∃ k,Lib.bitLen x=k+1∧2 ^ k≤x∧x<2 ^ (k+1):=by
 intro x
 induction x using Nat.strongRecOn with
 | ind x ih=>
  intro h0 h1
  by_cases hx:x=1
  ·subst hx;exact ⟨0,by decide,by decide,by decide⟩
  ·obtain ⟨k,hk,ha,hb⟩:=ih (x / 2) (by omega) (by omega) (by omega)
   refine ⟨k+1,?_,?_,?_⟩
   ·rw [Lib.bitLen_half x (by omega) h1,hk];omega
   ·rw [Nat.pow_succ];omega
   ·rw [Nat.pow_succ];omega
theorem shift_facts (h l y:Int) (hl:0≤l) (hl':l≤18446744073709551615) (hy':y≤9223372036854775807) (h0:1≤h) (hhy:h<y):
  ∃ (s:Nat) (Y U L:Int),1≤s∧s≤63∧64 - (Lib.bitLen y.toNat:Int)=s∧IntKind.u64.wrap (y*2 ^ s)=Y∧Y=y*2 ^ s∧9223372036854775808≤Y∧Y≤18446744073709551615∧
   bits .or .u64 (IntKind.u64.wrap (h*2 ^ s)) (l / 2 ^ (64 - s))=U∧0≤U∧U<Y∧IntKind.u64.wrap (l*2 ^ s)=L∧0≤L∧L≤18446744073709551615∧
   U*18446744073709551616+L=(h*18446744073709551616+l)*2 ^ s:=by
 obtain ⟨a,rfl⟩:=Int.eq_ofNat_of_zero_le (show 0≤h by omega)
 obtain ⟨b,rfl⟩:=Int.eq_ofNat_of_zero_le hl
 obtain ⟨c,rfl⟩:=Int.eq_ofNat_of_zero_le (show 0≤y by omega)
 obtain ⟨k,hk,hk1,hk2⟩:=bitLen_spec c (by omega) (by omega)
 have hk62:k<63:=by
  refine Decidable.byContradiction fun hn=>?_
  have:=Nat.pow_le_pow_right (n:=2) (by omega) (show 63≤k by omega)
  omega
 have e1:2 ^ k*2 ^ (63 - k)=2 ^ 63:=by rw [←Nat.pow_add];congr 1;omega
 have e2:2 ^ (k+1)*2 ^ (63 - k)=2 ^ 64:=by rw [←Nat.pow_add];congr 1;omega
 have e3:2 ^ (64 - (63 - k))*2 ^ (63 - k)=2 ^ 64:=by rw [←Nat.pow_add];congr 1;omega
 have sp:0<2 ^ (63 - k):=Nat.two_pow_pos _
 have f1:2 ^ 63≤c*2 ^ (63 - k):=by rw [←e1];exact Nat.mul_le_mul_right _ hk1
 have f2:c*2 ^ (63 - k)<2 ^ 64:=by rw [←e2];exact Nat.mul_lt_mul_of_pos_right hk2 sp
 have f3:a*2 ^ (63 - k)+2 ^ (63 - k)≤c*2 ^ (63 - k):=by rw [←Nat.succ_mul];exact Nat.mul_le_mul_right _ (by omega)
 have f4:b / 2 ^ (64 - (63 - k))<2 ^ (63 - k):=by
  rw [Nat.div_lt_iff_lt_mul (Nat.two_pow_pos _),Nat.mul_comm,e3];omega
 have hc:∀ n:Nat,n<18446744073709551616→IntKind.u64.wrap (n:Int)=(n:Int):=fun n hn=>by rw [IntKind.wrap_u64];omega
 have hp:∀ n:Nat,(n:Int)*2 ^ (63 - k)=((n*2 ^ (63 - k):Nat):Int):=fun n=>by rw [Int.natCast_mul,Int.natCast_pow];rfl
 have hd:(b:Int) / 2 ^ (64 - (63 - k))=((b / 2 ^ (64 - (63 - k)):Nat):Int):=by rw [Int.natCast_ediv,Int.natCast_pow];rfl
 refine ⟨63 - k,((c*2 ^ (63 - k):Nat):Int),((a*2 ^ (63 - k)+b / 2 ^ (64 - (63 - k)):Nat):Int),((b*2 ^ (63 - k) % 18446744073709551616:Nat):Int),by omega,by omega,?_,?_,?_,by omega,by omega,?_,Int.natCast_nonneg _,Int.ofNat_lt.2 (by omega),?_,by omega,by omega,?_⟩
 ·simp only [Int.toNat_natCast,hk];omega
 ·rw [hp];exact hc _ (by omega)
 ·exact (hp c).symm
 ·rw [hp,hc _ (by omega),hd,bits_or_u64_nat _ _ (by omega) (by omega)]
  congr 1
  rw [Nat.mul_comm a,Nat.two_pow_add_eq_or_of_lt f4]
 ·rw [hp,IntKind.wrap_u64];omega
 ·have g1:b*2 ^ (63 - k) / 18446744073709551616=b / 2 ^ (64 - (63 - k)):=by
   rw [show (18446744073709551616:Nat)=2 ^ (64 - (63 - k))*2 ^ (63 - k) from e3.symm]
   exact Nat.mul_div_mul_right _ _ sp
  have g2:=Nat.div_add_mod (b*2 ^ (63 - k)) 18446744073709551616
  rw [g1] at g2
  have g3:((a:Int)*18446744073709551616+b)*2 ^ (63 - k)=(((a*18446744073709551616+b)*2 ^ (63 - k):Nat):Int):=by
   rw [←hp];rfl
  rw [g3,Nat.add_mul,Nat.mul_right_comm]
  generalize a*2 ^ (63 - k)=A at*
  generalize b*2 ^ (63 - k)=D at*
  generalize b / 2 ^ (64 - (63 - k))=E at*
  omega
theorem mask32 (a:Int) (h0:0≤a) (h1:a≤18446744073709551615):bits .and .u64 a 4294967295=a % 4294967296:=by
 obtain ⟨n,rfl⟩:=Int.eq_ofNat_of_zero_le h0
 have h:=bits_and_u64_nat n 4294967295 (by omega) (by omega)
 rw [Nat.and_two_pow_sub_one_eq_mod n 32] at h
 refine h.trans ?_
 omega
theorem lz64 (y:Int) (s:Nat) (w:World) (h0:0≤y) (h1:y≤18446744073709551615) (hs:64 - (Lib.bitLen y.toNat:Int)=s):
  Calls Tryz.prog 248 #[.int .u64 y] w fun e w'=>e=.returned (.int .i64 s)∧w=w':=
 (Tryz.bits_LeadingZeros64 y w h0 h1).mono fun _ _ ⟨a,b⟩=>⟨by rw [a,hs],b.symm⟩
def Kn (U Y l a b:Int):Prop:=a*(Y / 4294967296)+b=U∧0≤b∧b<4294967296∧(U*4294967296+l) / Y≤a∧0≤a∧a≤4294967297
theorem Kn.back {U Y l a b:Int} (hY:9223372036854775808≤Y) (hY':Y≤18446744073709551615) (hU:0≤U) (hU':U<Y) (hl:0≤l) (hl':l<4294967296) (k:Kn U Y l a b)
  (h:4294967296≤a∨4294967296*b+l<a*(Y % 4294967296)):(U*4294967296+l) / Y≤a - 1∧1≤a∧(a - 1)*(Y / 4294967296)+(b+Y / 4294967296)=U:=by
 obtain ⟨k1,k2,k3,k4,k5,k6⟩:=k
 have p:=kn_pos (U:=U) (Y:=Y) (l:=l) (by omega) hU hl
 have q:(U*4294967296+l) / Y≤a - 1:=by
  rcases h with h | h
  ·have:=kn_big (U:=U) (Y:=Y) (l:=l) (by omega) hU' hl'
   omega
  ·exact kn_more (by omega) (by omega) k1 h
 refine ⟨q,by omega,?_⟩
 rw [Int.sub_mul]
 generalize a*(Y / 4294967296)=A at*
 omega
theorem Kn.next {U Y l a b:Int} (hY:9223372036854775808≤Y) (hY':Y≤18446744073709551615) (hU:0≤U) (hU':U<Y) (hl:0≤l) (hl':l<4294967296) (k:Kn U Y l a b)
  (h:4294967296≤a∨4294967296*b+l<a*(Y % 4294967296)) (hb:b+Y / 4294967296<4294967296):Kn U Y l (a - 1) (b+Y / 4294967296):=by
 obtain ⟨q,p,e⟩:=k.back hY hY' hU hU' hl hl' h
 obtain ⟨k1,k2,k3,k4,k5,k6⟩:=k
 exact ⟨e,by omega,hb,q,by omega,by omega⟩
theorem Kn.over {U Y l a b:Int} (hY:9223372036854775808≤Y) (hY':Y≤18446744073709551615) (hU:0≤U) (hU':U<Y) (hl:0≤l) (hl':l<4294967296) (k:Kn U Y l a b)
  (h:4294967296≤a∨4294967296*b+l<a*(Y % 4294967296)) (hb:4294967296≤b+Y / 4294967296):a - 1=(U*4294967296+l) / Y:=by
 obtain ⟨q,p,e⟩:=k.back hY hY' hU hU' hl hl' h
 obtain ⟨k1,k2,k3,k4,k5,k6⟩:=k
 exact kn_exit (show Y=Y / 4294967296*4294967296+Y % 4294967296 by omega) (by omega) e (by omega) (by omega) (by omega) (by omega) hb hl q
theorem Kn.done {U Y l a b:Int} (hY:9223372036854775808≤Y) (k:Kn U Y l a b) (h:a*(Y % 4294967296)≤4294967296*b+l):a=(U*4294967296+l) / Y:=by
 obtain ⟨k1,k2,k3,k4,k5,k6⟩:=k
 have:=kn_most (show Y=Y / 4294967296*4294967296+Y % 4294967296 by omega) (by omega) k1 h
 omega
theorem Kn.start {U Y l:Int} (hY:9223372036854775808≤Y) (hY':Y≤18446744073709551615) (hU:0≤U) (hU':U<Y) (hl':l<4294967296):Kn U Y l (U / (Y / 4294967296)) (U - U / (Y / 4294967296)*(Y / 4294967296)):=by
 obtain ⟨a,b,c,d,e,f⟩:=kn_first (l:=l) (show Y=Y / 4294967296*4294967296+Y % 4294967296 by omega) (by omega) (by omega) (by omega) hU hU' hl'
 exact ⟨a,b,by omega,d,e,f⟩
theorem kn_wrap {U Y:Int} (hY:9223372036854775808≤Y) (hY':Y≤18446744073709551615) (hU:0≤U) (hU':U<Y):
  IntKind.u64.wrap (U - IntKind.u64.wrap (U / (Y / 4294967296)*(Y / 4294967296)))=U - U / (Y / 4294967296)*(Y / 4294967296):=by
 obtain ⟨a,b,c,d,e,f⟩:=kn_first (l:=0) (show Y=Y / 4294967296*4294967296+Y % 4294967296 by omega) (by omega) (by omega) (by omega) hU hU' (by omega)
 have g:0≤U / (Y / 4294967296)*(Y / 4294967296):=Int.mul_nonneg e (by omega)
 rw [IntKind.wrap_u64,IntKind.wrap_u64]
 generalize U / (Y / 4294967296)*(Y / 4294967296)=A at*
 omega
theorem kn_prod {a Y:Int} (h0:0≤a) (h1:a<4294967296):IntKind.u64.wrap (a*(Y % 4294967296))=a*(Y % 4294967296)∧0≤a*(Y % 4294967296)∧a*(Y % 4294967296)≤18446744073709551615:=by
 have g:0≤a*(Y % 4294967296):=Int.mul_nonneg h0 (by omega)
 have k:a*(Y % 4294967296)≤4294967295*4294967295:=Int.mul_le_mul (by omega) (by omega) (by omega) (by omega)
 refine ⟨?_,g,by omega⟩
 rw [IntKind.wrap_u64]
 omega
set_option maxRecDepth 100000 in
set_option maxHeartbeats 1000000 in
theorem div64_core (h l y Y U L : Int) (s : Nat) (w : World) (hl : 0 ≤ l) (hl' : l ≤ 18446744073709551615) (hy' : y ≤ 9223372036854775807) (h0 : 1 ≤ h) (hhy : h < y)
    (s1 : 1 ≤ s) (s2 : s ≤ 63) (hz : RowKit.Hid (64 - (Lib.bitLen y.toNat : Int) = s)) (eY : IntKind.u64.wrap (y * 2 ^ s) = Y) (Y1 : 9223372036854775808 ≤ Y) (Y2 : Y ≤ 18446744073709551615)
    (eU : bits .or .u64 (IntKind.u64.wrap (h * 2 ^ s)) (l / 2 ^ (64 - s)) = U) (U1 : 0 ≤ U) (U2 : U < Y) (eL : IntKind.u64.wrap (l * 2 ^ s) = L) (L1 : 0 ≤ L) (L2 : L ≤ 18446744073709551615) :
    Calls Tryz.prog 247 #[.int .u64 h, .int .u64 l, .int .u64 y] w fun e w' => e = .returned (.tuple #[.int .u64 ((U * 18446744073709551616 + L) / Y), .int .u64 ((U * 18446744073709551616 + L) % Y / 2 ^ s)]) ∧ w = w' := by
  have t1 : ¬ y = 0 := by omega
  have t2 : ¬ y ≤ h := by omega
  have t3 : ¬ h = 0 := by omega
  have m1 := mask32 Y (by omega) (by omega)
  have m2 := mask32 L (by omega) (by omega)
  have m3 : min s 64 = s := by omega
  have m4 : (IntKind.u64.wrap (64 - (s : Int))).toNat = 64 - s := by rw [IntKind.wrap_u64]; omega
  have m5 : min (64 - s) 64 = 64 - s := by omega
  have m6 := kn_wrap Y1 Y2 U1 U2
  have ks := Lib.hid (Kn.start (l := L / 4294967296) Y1 Y2 U1 U2 (by omega))
  go_enter Tryz.func247, Tryz.ntmps247
  go_upto_block 0 with (go_at_call 248; refine (lz64 _ s _ (by omega) (by omega) hz.out).mono ?_; rintro e w' ⟨rfl, rfl⟩)
  clear m4 m5 m6 eU eL eY m1 m2
  go_cut [15, 16] (fun s15 s16 wx => s15 = .int .u64 ((U * 4294967296 + L / 4294967296) / Y) ∧ w = wx)
  case first =>
    go_wp2_with fail
    go_loop [15, 16] (fun q r => ∃ a b : Int, q = .int .u64 a ∧ r = .int .u64 b ∧ Kn U Y (L / 4294967296) a b) (fun q _ => (intOf q).toNat)
    case atStart => exact ⟨_, _, rfl, rfl, ks.out⟩
    case round =>
      obtain ⟨a, b, rfl, rfl, k⟩ := hrel
      obtain ⟨k1, k2, k3, k4, k5, k6⟩ := id k
      have K := Lib.hid k
      have yl : 2147483648 ≤ Y / 4294967296 := by omega
      have yh : Y / 4294967296 ≤ 4294967295 := by omega
      have ll : 0 ≤ L / 4294967296 := by omega
      have lh : L / 4294967296 ≤ 4294967295 := by omega
      clear k k1 k4
      by_cases ha : 4294967296 ≤ a
      · have NX := Lib.hid (Kn.next Y1 Y2 U1 U2 (by omega) (by omega) K.out (.inl ha))
        have OV := Lib.hid (Kn.over Y1 Y2 U1 U2 (by omega) (by omega) K.out (.inl ha))
        by_cases hb : 4294967296 ≤ b + Y / 4294967296
        · go_wp2
          go_meet
          exact ⟨by rw [OV.out hb], rfl⟩
        · go_wp2
          go_round
          case rel => exact ⟨a - 1, _, rfl, rfl, NX.out (by omega)⟩
          case measure => simp [intOf]; omega
      · obtain ⟨p1, p2, p3⟩ := kn_prod (a := a) (Y := Y) k5 (by omega)
        by_cases hc : 4294967296 * b + L / 4294967296 < a * (Y % 4294967296)
        · have NX := Lib.hid (Kn.next Y1 Y2 U1 U2 (by omega) (by omega) K.out (.inr hc))
          have OV := Lib.hid (Kn.over Y1 Y2 U1 U2 (by omega) (by omega) K.out (.inr hc))
          have BK := (Kn.back Y1 Y2 U1 U2 (by omega) (by omega) K.out (.inr hc)).2.1
          by_cases hb : 4294967296 ≤ b + Y / 4294967296
          · go_wp2
            go_meet
            exact ⟨by rw [OV.out hb], rfl⟩
          · go_wp2
            go_round
            case rel => exact ⟨a - 1, _, rfl, rfl, NX.out (by omega)⟩
            case measure => simp [intOf]; omega
        · have DN := Lib.hid (Kn.done Y1 K.out (by omega))
          go_wp2
          go_meet
          exact ⟨by rw [← DN.out], rfl⟩
  case rest =>
    obtain ⟨rfl, rfl⟩ := hcut
    have KL := kn_left (U := U) (l := L / 4294967296) (show 0 < Y by omega) (by omega)
    have R1 := Int.emod_nonneg (U * 4294967296 + L / 4294967296) (show Y ≠ 0 by omega)
    have R2 := Int.emod_lt_of_pos (U * 4294967296 + L / 4294967296) (show 0 < Y by omega)
    have Q1 := kn_big (U := U) (Y := Y) (l := L / 4294967296) (by omega) U2 (by omega)
    have Q2 := kn_pos (U := U) (Y := Y) (l := L / 4294967296) (by omega) U1 (by omega)
    have BT := Lib.hid (kn_both (U := U) (Y := Y) (l1 := L / 4294967296) (l0 := L % 4294967296) (by omega))
    have e0 : L / 4294967296 * 4294967296 + L % 4294967296 = L := by omega
    rw [e0] at BT
    clear e0
    generalize (U * 4294967296 + L / 4294967296) / Y = Q at *
    generalize (U * 4294967296 + L / 4294967296) % Y = R at *
    have eR : IntKind.u64.wrap (IntKind.u64.wrap (IntKind.u64.wrap (U * 4294967296) + L / 4294967296) - IntKind.u64.wrap (Q * Y)) = R := by
      simp only [IntKind.wrap_u64]; exact KL
    clear KL
    have m6 := kn_wrap Y1 Y2 R1 R2
    have ks := Lib.hid (Kn.start (l := L % 4294967296) Y1 Y2 R1 R2 (by omega))
    go_upto_block 2 with fail
    clear m6 eR
    go_cut [18, 16] (fun s18 s16 wx => s18 = .int .u64 ((R * 4294967296 + L % 4294967296) / Y) ∧ w = wx)
    case first =>
      go_wp2_with fail
      go_loop [18, 16] (fun q r => ∃ a b : Int, q = .int .u64 a ∧ r = .int .u64 b ∧ Kn R Y (L % 4294967296) a b) (fun q _ => (intOf q).toNat)
      case atStart => exact ⟨_, _, rfl, rfl, ks.out⟩
      case round =>
        obtain ⟨a, b, rfl, rfl, k⟩ := hrel
        obtain ⟨k1, k2, k3, k4, k5, k6⟩ := id k
        have K := Lib.hid k
        have yl : 2147483648 ≤ Y / 4294967296 := by omega
        have yh : Y / 4294967296 ≤ 4294967295 := by omega
        have ll : 0 ≤ L % 4294967296 := by omega
        have lh : L % 4294967296 ≤ 4294967295 := by omega
        clear k k1 k4
        by_cases ha : 4294967296 ≤ a
        · have NX := Lib.hid (Kn.next Y1 Y2 R1 R2 (by omega) (by omega) K.out (.inl ha))
          have OV := Lib.hid (Kn.over Y1 Y2 R1 R2 (by omega) (by omega) K.out (.inl ha))
          by_cases hb : 4294967296 ≤ b + Y / 4294967296
          · go_wp2
            go_meet
            exact ⟨by rw [OV.out hb], rfl⟩
          · go_wp2
            go_round
            case rel => exact ⟨a - 1, _, rfl, rfl, NX.out (by omega)⟩
            case measure => simp [intOf]; omega
        · obtain ⟨p1, p2, p3⟩ := kn_prod (a := a) (Y := Y) k5 (by omega)
          by_cases hc : 4294967296 * b + L % 4294967296 < a * (Y % 4294967296)
          · have NX := Lib.hid (Kn.next Y1 Y2 R1 R2 (by omega) (by omega) K.out (.inr hc))
            have OV := Lib.hid (Kn.over Y1 Y2 R1 R2 (by omega) (by omega) K.out (.inr hc))
            have BK := (Kn.back Y1 Y2 R1 R2 (by omega) (by omega) K.out (.inr hc)).2.1
            by_cases hb : 4294967296 ≤ b + Y / 4294967296
            · go_wp2
              go_meet
              exact ⟨by rw [OV.out hb], rfl⟩
            · go_wp2
              go_round
              case rel => exact ⟨a - 1, _, rfl, rfl, NX.out (by omega)⟩
              case measure => simp [intOf]; omega
          · have DN := Lib.hid (Kn.done Y1 K.out (by omega))
            go_wp2
            go_meet
            exact ⟨by rw [← DN.out], rfl⟩
    case rest =>
      obtain ⟨rfl, rfl⟩ := hcut
      have KL := kn_left (U := R) (l := L % 4294967296) (show 0 < Y by omega) (by omega)
      have P1 := kn_big (U := R) (Y := Y) (l := L % 4294967296) (by omega) R2 (by omega)
      have P2 := kn_pos (U := R) (Y := Y) (l := L % 4294967296) (by omega) R1 (by omega)
      have eT : IntKind.u64.wrap (IntKind.u64.wrap (IntKind.u64.wrap (R * 4294967296) + L % 4294967296) - IntKind.u64.wrap ((R * 4294967296 + L % 4294967296) / Y * Y)) = (R * 4294967296 + L % 4294967296) % Y := by
        simp only [IntKind.wrap_u64]; exact KL
      have T1 := Int.emod_nonneg (R * 4294967296 + L % 4294967296) (show Y ≠ 0 by omega)
      have T2 := Int.emod_lt_of_pos (R * 4294967296 + L % 4294967296) (show 0 < Y by omega)
      clear KL ks
      generalize (R * 4294967296 + L % 4294967296) / Y = Z at *
      generalize (R * 4294967296 + L % 4294967296) % Y = T at *
      go_wp2
      go_ret2
      obtain ⟨b1, b2⟩ := BT.out
      exact ⟨by rw [← b1, ← b2]; rfl, rfl⟩
theorem div64_any (h l y:Int) (w:World) (hl:0≤l) (hl':l≤18446744073709551615) (hy':y≤9223372036854775807) (h0:0≤h) (hhy:h<y):
  Calls Tryz.prog 247 #[.int .u64 h,.int .u64 l,.int .u64 y] w fun e w'=>e=.returned (.tuple #[.int .u64 ((h*18446744073709551616+l) / y),.int .u64 ((h*18446744073709551616+l) % y)])∧∃ n,w'=w.drewN n:=by
 by_cases hh:h=0
 ·subst hh
  have:=div64_low l y w hl hl' (by omega) hy'
  rw [Int.zero_mul,Int.zero_add]
  exact this
 ·obtain ⟨s,Y,U,L,s1,s2,hz,eY,eY2,Y1,Y2,eU,U1,U2,eL,L1,L2,eN⟩:=shift_facts h l y hl hl' hy' (by omega) hhy
  refine (div64_core h l y Y U L s w hl hl' hy' (by omega) hhy s1 s2 (Lib.hid hz) eY Y1 Y2 eU U1 U2 eL L1 L2).mono ?_
  rintro e w' ⟨rfl,rfl⟩
  have hS:(0:Int)<2 ^ s:=Int.pow_pos (by omega)
  obtain ⟨c1,c2⟩:=kn_shift (N:=h*18446744073709551616+l) (y:=y) hS (by omega)
  refine ⟨?_,0,rfl⟩
  rw [eN,eY2,c1,c2]
end Go.Proofs.YthmljpccbjolgaaGreatDoor.rat
namespace Go.Proofs.YthmljpccbjolgaaGreatDoor.rat
open Go.ChangeShapes Go.WideShapes Go.ChangeAt Go.RowKit rmath bound
set_option linter.unusedVariables false
theorem tdiv_cases (a b:Int) (hb:1≤b) (ha:a<0):(a % b=0∧a.tdiv b=a / b∧a.tmod b=0)∨(1≤a % b∧a.tdiv b=a / b+1∧a.tmod b=a % b - b):=by
 have h0:=Int.emod_nonneg a (show b≠0 by omega)
 have h1:=Int.mul_tdiv_add_tmod a b
 have h2:=Int.mul_ediv_add_emod a b
 have e:a.tdiv b=a / b+(if 0≤a∨b ∣ a then 0 else b.sign):=Int.tdiv_eq_ediv
 by_cases hd:b ∣ a
 ·rw [if_pos (.inr hd)] at e
  have z:=Int.emod_eq_zero_of_dvd hd
  refine .inl ⟨z,by omega,?_⟩
  rw [e,Int.add_zero] at h1
  omega
 ·rw [if_neg (fun h=>h.elim (fun h=>by omega) hd),Int.sign_eq_one_of_pos (by omega)] at e
  have z:a % b≠0:=fun h=>hd (Int.dvd_of_emod_eq_zero h)
  refine .inr ⟨by omega,e,?_⟩
  rw [e,Int.mul_add,Int.mul_one] at h1
  omega
theorem ediv_in (a b:Int) (hb:1≤b) (l:-9223372036854775808≤a) (u:a≤9223372036854775807):-9223372036854775808≤a / b∧a / b≤9223372036854775807:=by
 constructor
 ·exact Int.le_ediv_of_mul_le (by omega) (by omega)
 ·have:=Int.ediv_le_self b (a:=a)
  by_cases h:0≤a
  ·have:=this h;omega
  ·have:=Int.ediv_neg_of_neg_of_pos (show a<0 by omega) (show 0<b by omega);omega
theorem split_any (a b:Int) (w:World) (hb:1≤b) (hb':b≤9223372036854775807) (l:-9223372036854775808≤a) (u:a≤9223372036854775807):
  Calls Tryz.prog 195 #[.int .i64 a,.int .i64 b] w fun e w'=>e=.returned (.tuple #[.int .i64 (a / b),.int .i64 (a % b)])∧∃ n,w'=w.drewN n:=by
 have t1:¬ b=0:=by omega
 have m0:=Int.emod_nonneg a t1
 have m1:=Int.emod_lt_of_pos a (show 0<b by omega)
 obtain ⟨d0,d1⟩:=ediv_in a b hb l u
 by_cases ha:0≤a
 ·have e0:=Int.ediv_nonneg ha (show 0≤b by omega)
  go_enter Tryz.func195,Tryz.ntmps195
  go_wp2
  go_quiet (fail)
  go_wp2
  go_ret2
  exact ⟨rfl,_,rfl⟩
 ·have d2:=Int.ediv_neg_of_neg_of_pos (show a<0 by omega) (show 0<b by omega)
  rcases tdiv_cases a b hb (by omega) with ⟨c1,c2,c3⟩ | ⟨c1,c2,c3⟩
  ·go_enter Tryz.func195,Tryz.ntmps195
   go_wp2
   go_quiet (fail)
   go_wp2
   go_ret2
   exact ⟨by rw [c1];rfl,_,rfl⟩
  ·go_enter Tryz.func195,Tryz.ntmps195
   go_wp2
   go_quiet (fail)
   go_wp2
   go_ret2
   exact ⟨rfl,_,rfl⟩
set_option maxHeartbeats 400000 in
theorem divisor_nat (a b:Nat) (w:World) (ha:a≤9223372036854775807) (hb:b≤9223372036854775807):
  Calls Tryz.prog 196 #[.int .i64 a,.int .i64 b] w fun e w'=>e=.returned (.int .i64 (Nat.gcd a b:Nat))∧∃ n,w'=w.drewN n:=by
 go_enter Tryz.func196,Tryz.ntmps196
 go_wp2
 go_loopw [0,1] (fun s0 s1 wr=>∃ x y:Nat,s0=.int .i64 x∧s1=.int .i64 y∧x≤9223372036854775807∧y≤9223372036854775807∧Nat.gcd x y=Nat.gcd a b∧∃ n,wr=w.drewN n) (fun _ s1 _=>(intOf s1).toNat)
 case atStart=>exact ⟨a,b,rfl,rfl,ha,hb,rfl,0,rfl⟩
 case round=>
  obtain ⟨x,y,rfl,rfl,hx,hy,hg,n,rfl⟩:=hrel
  have G:=Lib.hid hg
  clear hg
  by_cases h0:0<y
  ·have t1:¬ (y:Int)=0:=by omega
   go_wp2
   go_quiet (fail)
   go_wp2
   go_roundw
   case rel=>exact ⟨y,x % y,rfl,rfl,hy,by have:=Nat.mod_lt x h0;omega,by rw [←G.out,Nat.gcd_comm x y,Nat.gcd_rec y x,Nat.gcd_comm],_,by rw [World.drewN_drewN]⟩
   case measure=>have:=Nat.mod_lt x h0;simp [intOf];omega
  ·obtain rfl:y=0:=by omega
   go_wp2
   go_ret
   exact ⟨by rw [←G.out,Nat.gcd_zero_right];rfl,n,rfl⟩
def gcdI (a b:Int):Int:=(Int.gcd a b:Int)
theorem divisor_any (a b:Int) (w:World) (ha:0≤a) (ha':a≤9223372036854775807) (hb:0≤b) (hb':b≤9223372036854775807):
  Calls Tryz.prog 196 #[.int .i64 a,.int .i64 b] w fun e w'=>e=.returned (.int .i64 (gcdI a b))∧∃ n,w'=w.drewN n:=by
 obtain ⟨x,rfl⟩:=Int.eq_ofNat_of_zero_le ha
 obtain ⟨y,rfl⟩:=Int.eq_ofNat_of_zero_le hb
 exact divisor_nat x y w (by omega) (by omega)
theorem mul64_k (x y H L:Int) (w:World) (hx:0≤x) (hx':x≤18446744073709551615) (hy:0≤y) (hy':y≤18446744073709551615) (hH:RowKit.Hid (x*y / 18446744073709551616=H)) (hL:RowKit.Hid (x*y % 18446744073709551616=L)):
  Calls Tryz.prog 229 #[.int .u64 x,.int .u64 y] w fun e w'=>e=.returned (.tuple #[.int .u64 H,.int .u64 L])∧w=w':=by
 obtain ⟨a,rfl⟩:=Int.eq_ofNat_of_zero_le hx
 obtain ⟨b,rfl⟩:=Int.eq_ofNat_of_zero_le hy
 refine (Tryz.bits_Mul64 a b (by omega) (by omega) w).mono ?_
 rintro e w' ⟨rfl,rfl⟩
 refine ⟨?_,rfl⟩
 rw [←hH.out,←hL.out,Int.natCast_ediv,Int.natCast_emod,Int.natCast_mul]
 rfl
theorem mul_in {a b:Int} (h1:-9223372036854775808≤a) (h2:a≤9223372036854775807) (h3:1≤b) (h4:b≤9223372036854775807):-85070591730234615856620279821087277056≤a*b∧a*b≤85070591730234615847396907784232501249:=by
 constructor
 ·have:=Int.mul_le_mul_of_nonneg_right h1 (show 0≤b by omega)
  have e:(-9223372036854775808:Int)*b≥-9223372036854775808*9223372036854775807:=by omega
  omega
 ·have:=Int.mul_le_mul_of_nonneg_right h2 (show 0≤b by omega)
  have e:(9223372036854775807:Int)*b≤9223372036854775807*9223372036854775807:=by omega
  omega
theorem times_eq (a b:Int) (w:World) (h1:-9223372036854775808≤a) (h2:a≤9223372036854775807) (h3:1≤b) (h4:b≤9223372036854775807):
  Calls Tryz.prog 198 #[.int .i64 a,.int .i64 b] w fun e w'=>e=.returned (.agg #[.int .i64 ((a*b) / 18446744073709551616),.int .u64 ((a*b) % 18446744073709551616)])∧w'=w.alloc (.cells #[.int .i64 (a*b / 18446744073709551616),.int .u64 (a*b % 18446744073709551616)] 227):=by
 obtain ⟨p1,p2⟩:=mul_in h1 h2 h3 h4
 by_cases ha:0≤a
 ·have p0:0≤a*b:=Int.mul_nonneg ha (by omega)
  have q1:0≤a*b / 18446744073709551616:=by omega
  have q2:a*b / 18446744073709551616≤4611686018427387904:=by omega
  have r1:0≤a*b % 18446744073709551616:=by omega
  have r2:a*b % 18446744073709551616≤18446744073709551615:=by omega
  have HH:=Lib.hid (Eq.refl (a*b / 18446744073709551616))
  have HL:=Lib.hid (Eq.refl (a*b % 18446744073709551616))
  clear p0 p1 p2
  generalize hH:a*b / 18446744073709551616=H at HH q1 q2 ⊢
  generalize hL:a*b % 18446744073709551616=L at HL r1 r2 ⊢
  have KH:=Lib.hid hH
  have KL:=Lib.hid hL
  clear hH hL HH HL
  go_enter Tryz.func198,Tryz.ntmps198
  go_wp2_with (go_at_call 229;refine (mul64_k a b H L _ (by omega) (by omega) (by omega) (by omega) KH KL).mono ?_;rintro e w' ⟨rfl,rfl⟩)
  exact bodyPost_ret (v:=.agg #[.int .i64 H,.int .u64 L]) (by simp [results,Tryz.results198,go_sem]) rfl ⟨rfl,rfl⟩
 ·have e:(a+18446744073709551616)*b=a*b+b*18446744073709551616:=by rw [Int.add_mul,Int.mul_comm b]
  have q1:-4611686018427387904≤a*b / 18446744073709551616:=by omega
  have q2:a*b / 18446744073709551616≤4611686018427387904:=by omega
  have r1:0≤a*b % 18446744073709551616:=by omega
  have r2:a*b % 18446744073709551616≤18446744073709551615:=by omega
  have kh:(a+18446744073709551616)*b / 18446744073709551616=a*b / 18446744073709551616+b:=by rw [e];omega
  have kl:(a+18446744073709551616)*b % 18446744073709551616=a*b % 18446744073709551616:=by rw [e];omega
  clear e p1 p2
  generalize a*b / 18446744073709551616=H at*
  generalize a*b % 18446744073709551616=L at*
  have KH:=Lib.hid kh
  have KL:=Lib.hid kl
  clear kh kl
  have e1:IntKind.u64.wrap a=a+18446744073709551616:=by rw [IntKind.wrap_u64];omega
  have e2:wrap64 (IntKind.u64.wrap H)=H:=by rw [IntKind.wrap_u64];unfold wrap64;omega
  go_enter Tryz.func198,Tryz.ntmps198
  go_wp2_with (go_at_call 229;refine (mul64_k (a+18446744073709551616) b (H+b) L _ (by omega) (by omega) (by omega) (by omega) KH KL).mono ?_;rintro e w' ⟨rfl,rfl⟩)
  exact bodyPost_ret (v:=.agg #[.int .i64 H,.int .u64 L]) (by simp [results,Tryz.results198,go_sem]) rfl ⟨rfl,rfl⟩
theorem run_add (x y:Int) (hx:0≤x) (hy:0≤y) (w:World):
  (callFunc 244 #[.int .u64 x,.int .u64 y,.int .u64 0]).run Tryz.prog w=.ok (.value (.tuple #[.int .u64 ((x+y) % 18446744073709551616),.int .u64 ((x+y) / 18446744073709551616)])) w:=by
 rw [run_callFunc_extern (e:=add64Entry) Tryz.func244 (by kernel_rfl) (by kernel_rfl) (by kernel_rfl) (by kernel_rfl),run_add64 x y 0 hx hy (by omega) (by omega),Int.add_zero]
 rfl
def Fits (V:Int):Prop:=-1298074214633706907132624082305024≤V∧V≤1298074214633706907132624082305024
theorem plus_raw (h1 l1 h2 l2:Int) (w:World) (a1:-70368744177664≤h1) (a2:h1≤70368744177664) (b1:-70368744177664≤h2) (b2:h2≤70368744177664) (c1:0≤l1) (c2:l1≤18446744073709551615) (d1:0≤l2) (d2:l2≤18446744073709551615):
  Calls Tryz.prog 242 #[.agg #[.int .i64 h1,.int .u64 l1],.agg #[.int .i64 h2,.int .u64 l2]] w fun e w'=>e=.returned (.agg #[.int .i64 (h1+h2+(l1+l2) / 18446744073709551616),.int .u64 ((l1+l2) % 18446744073709551616)])∧w'=((w.alloc (.cells #[.int .i64 h1,.int .u64 l1] 227)).alloc (.cells #[.int .i64 h2,.int .u64 l2] 227)).alloc (.cells #[.int .i64 (h1+h2+(l1+l2) / 18446744073709551616),.int .u64 ((l1+l2) % 18446744073709551616)] 227):=by
 have q1:0≤(l1+l2) / 18446744073709551616:=by omega
 have q2:(l1+l2) / 18446744073709551616≤1:=by omega
 have hr:=run_add l1 l2 c1 d1
 go_enter Tryz.func242,Tryz.ntmps242
 go_wp2
 exact bodyPost_ret (v:=.agg #[.int .i64 (h1+h2+(l1+l2) / 18446744073709551616),.int .u64 ((l1+l2) % 18446744073709551616)]) (by simp [results,Tryz.results242,go_sem]) rfl ⟨rfl,rfl⟩
theorem plus_eq (V X:Int) (w:World) (hV:Fits V) (hX:Fits X):
  Calls Tryz.prog 242 #[.agg #[.int .i64 ((V) / 18446744073709551616),.int .u64 ((V) % 18446744073709551616)],.agg #[.int .i64 ((X) / 18446744073709551616),.int .u64 ((X) % 18446744073709551616)]] w fun e w'=>e=.returned (.agg #[.int .i64 ((V+X) / 18446744073709551616),.int .u64 ((V+X) % 18446744073709551616)])∧w'=((w.alloc (.cells #[.int .i64 (V / 18446744073709551616),.int .u64 (V % 18446744073709551616)] 227)).alloc (.cells #[.int .i64 (X / 18446744073709551616),.int .u64 (X % 18446744073709551616)] 227)).alloc (.cells #[.int .i64 ((V+X) / 18446744073709551616),.int .u64 ((V+X) % 18446744073709551616)] 227):=by
 obtain ⟨v1,v2⟩:=hV
 obtain ⟨x1,x2⟩:=hX
 refine (plus_raw _ _ _ _ w (by omega) (by omega) (by omega) (by omega) (by omega) (by omega) (by omega) (by omega)).mono ?_
 rintro e w' ⟨rfl,rfl⟩
 have hh:V / 18446744073709551616+X / 18446744073709551616+(V % 18446744073709551616+X % 18446744073709551616) / 18446744073709551616=(V+X) / 18446744073709551616:=by omega
 have hl:(V % 18446744073709551616+X % 18446744073709551616) % 18446744073709551616=(V+X) % 18446744073709551616:=by omega
 rw [hh,hl]
 exact ⟨rfl,rfl⟩
theorem less_raw (h1 l1 h2 l2:Int) (w:World) (r:Bool) (hr:(h1<h2∨(h1=h2∧l1<l2))↔r=true):
  Calls Tryz.prog 201 #[.agg #[.int .i64 h1,.int .u64 l1],.agg #[.int .i64 h2,.int .u64 l2]] w fun e w'=>e=.returned (.bool r)∧Below w.heap.size w w':=by
 by_cases t1:h1<h2
 ·obtain rfl:r=true:=hr.1 (.inl t1)
  clear hr
  go_enter Tryz.func201,Tryz.ntmps201
  go_wp2
  go_ret
  exact ⟨rfl,up2 _ _ _⟩
 ·by_cases t2:h1=h2
  ·subst t2
   by_cases t3:l1<l2
   ·obtain rfl:r=true:=hr.1 (.inr ⟨rfl,t3⟩)
    clear hr t1
    go_enter Tryz.func201,Tryz.ntmps201
    go_wp2
    go_ret
    exact ⟨rfl,up2 _ _ _⟩
   ·obtain rfl:r=false:=by cases r;rfl;exact (hr.2 rfl).elim (fun h=>absurd h t1) (fun h=>absurd h.2 t3)
    clear hr t1
    go_enter Tryz.func201,Tryz.ntmps201
    go_wp2
    go_ret
    exact ⟨rfl,up2 _ _ _⟩
  ·obtain rfl:r=false:=by cases r;rfl;exact (hr.2 rfl).elim (fun h=>absurd h t1) (fun h=>absurd h.1 t2)
   clear hr
   go_enter Tryz.func201,Tryz.ntmps201
   go_wp2
   go_ret
   exact ⟨rfl,up2 _ _ _⟩
def ltB (a b:Int):Bool:=decide (a<b)
theorem less_any2 (V X:Int) (w:World):
  Calls Tryz.prog 201 #[.agg #[.int .i64 ((V) / 18446744073709551616),.int .u64 ((V) % 18446744073709551616)],.agg #[.int .i64 ((X) / 18446744073709551616),.int .u64 ((X) % 18446744073709551616)]] w fun e w'=>e=.returned (.bool (ltB V X))∧Below w.heap.size w w':=
 less_raw _ _ _ _ w _ (by unfold ltB;rw [decide_eq_true_iff];omega)
theorem by_raw (h l b Q R:Int) (w:World) (hb:1≤b) (hb':b≤9223372036854775807) (h1:-9223372036854775808≤h) (h2:h≤9223372036854775807) (l1:0≤l) (l2:l≤18446744073709551615)
  (eQ:RowKit.Hid ((h % b*18446744073709551616+l) / b=Q)) (eR:RowKit.Hid ((h % b*18446744073709551616+l) % b=R)) (q1:0≤Q) (q2:Q≤18446744073709551615) (r1:0≤R) (r2:R<b):
  Calls Tryz.prog 245 #[.agg #[.int .i64 h,.int .u64 l],.int .i64 b] w fun e w'=>e=.returned (.tuple #[.agg #[.int .i64 (h / b),.int .u64 Q],.int .i64 R])∧Below w.heap.size w w':=by
 have m0:=Int.emod_nonneg h (show b≠0 by omega)
 have m1:=Int.emod_lt_of_pos h (show 0<b by omega)
 obtain ⟨d0,d1⟩:=ediv_in h b hb h1 h2
 go_enter Tryz.func245,Tryz.ntmps245
 go_wp2_with (first | (go_at_call 195;refine (split_any _ _ _ hb hb' h1 h2).mono ?_;rintro e w1 ⟨rfl,n1,rfl⟩) | (go_at_call 247;refine (div64_any _ _ _ _ (by omega) (by omega) (by omega) (by omega) (by omega)).mono ?_;rintro e w2 ⟨rfl,n2,rfl⟩;rw [eQ.out,eR.out]))
 exact bodyPost_ret (v:=.tuple #[.agg #[.int .i64 (h / b),.int .u64 Q],.int .i64 R]) (by simp [results,Tryz.results245,go_sem]) rfl ⟨rfl,((drawn (up2 _ _ _) _).setCell (by simp) _).setCell (by simp) _⟩
theorem by_math (V b : Int) (hb : 1 ≤ b) : (V / 18446744073709551616 % b * 18446744073709551616 + V % 18446744073709551616) / b = V / b % 18446744073709551616 ∧ (V / 18446744073709551616 % b * 18446744073709551616 + V % 18446744073709551616) % b = V % b ∧ V / 18446744073709551616 / b = V / b / 18446744073709551616 := by
  have a := Int.mul_ediv_add_emod (V / 18446744073709551616) b
  have m0 := Int.emod_nonneg (V / 18446744073709551616) (show b ≠ 0 by omega)
  have m1 := Int.emod_lt_of_pos (V / 18446744073709551616) (show 0 < b by omega)
  have e : V = (V / 18446744073709551616 % b * 18446744073709551616 + V % 18446744073709551616) + b * (V / 18446744073709551616 / b * 18446744073709551616) := by
    rw [← Int.mul_assoc]
    generalize b * (V / 18446744073709551616 / b) = M at *
    omega
  generalize hX : V / 18446744073709551616 % b * 18446744073709551616 + V % 18446744073709551616 = X at *
  generalize V / 18446744073709551616 / b = H at *
  have x0 : 0 ≤ X := by omega
  have x1 : X < b * 18446744073709551616 := by omega
  have q0 : 0 ≤ X / b := Int.ediv_nonneg x0 (by omega)
  have q1 : X / b < 18446744073709551616 := Int.ediv_lt_of_lt_mul (by omega) (by omega)
  have ev : V / b = X / b + H * 18446744073709551616 := by conv => lhs; rw [e]
                                                           rw [Int.add_mul_ediv_left _ _ (by omega)]
  have em : V % b = X % b := by conv => lhs; rw [e]
                                rw [Int.add_mul_emod_self_left]
  rw [ev, em]
  refine ⟨by omega, rfl, by omega⟩
theorem by_any (V b:Int) (w:World) (hb:1≤b) (hb':b≤9223372036854775807) (v1:-170141183460469231731687303715884105728≤V) (v2:V≤170141183460469231731687303715884105727):
  Calls Tryz.prog 245 #[.agg #[.int .i64 ((V) / 18446744073709551616),.int .u64 ((V) % 18446744073709551616)],.int .i64 b] w fun e w'=>e=.returned (.tuple #[.agg #[.int .i64 ((V / b) / 18446744073709551616),.int .u64 ((V / b) % 18446744073709551616)],.int .i64 (V % b)])∧Below w.heap.size w w':=by
 obtain ⟨e1,e2,e3⟩:=by_math V b hb
 have m0:=Int.emod_nonneg V (show b≠0 by omega)
 have m1:=Int.emod_lt_of_pos V (show 0<b by omega)
 have:=by_raw (V / 18446744073709551616) (V % 18446744073709551616) b (V / b % 18446744073709551616) (V % b) w hb hb' (by omega) (by omega) (by omega) (by omega) (Lib.hid e1) (Lib.hid e2) (by omega) (by omega) m0 m1
 rw [e3] at this
 exact this
theorem number_raw (h l n:Int) (r:Bool) (w:World) (hn:wrap64 l=n) (l1:0≤l) (l2:l≤18446744073709551615) (hr:(n<0∧(h==-1)=r)∨(0≤n∧(h==0)=r)):
  Calls Tryz.prog 246 #[.agg #[.int .i64 h,.int .u64 l]] w fun e w'=>e=.returned (.tuple #[.int .i64 n,.bool r])∧Below w.heap.size w w':=by
 subst hn
 rcases hr with ⟨t1,t2⟩ | ⟨t1,t2⟩
 ·go_enter Tryz.func246,Tryz.ntmps246
  go_wp2
  go_quiet (fail)
  go_wp2
  go_ret2
  exact ⟨rfl,drawn (up1 _ _) _⟩
 ·have t3:¬ wrap64 l<0:=by omega
  go_enter Tryz.func246,Tryz.ntmps246
  go_wp2
  go_quiet (fail)
  go_wp2
  go_ret2
  exact ⟨rfl,drawn (up1 _ _) _⟩
theorem number_ok (V:Int) (w:World) (v1:-9223372036854775808≤V) (v2:V≤9223372036854775807):
  Calls Tryz.prog 246 #[.agg #[.int .i64 ((V) / 18446744073709551616),.int .u64 ((V) % 18446744073709551616)]] w fun e w'=>e=.returned (.tuple #[.int .i64 V,.bool true])∧Below w.heap.size w w':=by
 refine number_raw _ _ _ _ w (by unfold wrap64;omega) (by omega) (by omega) ?_
 by_cases h:V<0
 ·exact .inl ⟨h,by rw [beq_iff_eq];omega⟩
 ·exact .inr ⟨by omega,by rw [beq_iff_eq];omega⟩
theorem number_no (V:Int) (w:World) (v:¬ (-9223372036854775808≤V∧V≤9223372036854775807)):
  Calls Tryz.prog 246 #[.agg #[.int .i64 ((V) / 18446744073709551616),.int .u64 ((V) % 18446744073709551616)]] w fun e w'=>e=.returned (.tuple #[.int .i64 (wrap64 (V % 18446744073709551616)),.bool false])∧Below w.heap.size w w':=by
 refine number_raw _ _ _ _ w rfl (by omega) (by omega) ?_
 by_cases h:wrap64 (V % 18446744073709551616)<0
 ·refine .inl ⟨h,?_⟩
  rw [beq_eq_false_iff_ne]
  unfold wrap64 at h
  omega
 ·refine .inr ⟨by omega,?_⟩
  rw [beq_eq_false_iff_ne]
  unfold wrap64 at h
  omega
end Go.Proofs.YthmljpccbjolgaaGreatDoor.rat
namespace Go.Proofs.YthmljpccbjolgaaGreatDoor.rat
open Go.ChangeShapes Go.WideShapes Go.ChangeAt Go.RowKit rmath bound num
set_option linter.unusedVariables false
def MayR (n d:Int):Prop:=1≤d∧d≤1048576∧-(2305843009213693952*d)≤n∧n≤2305843009213693952*d∧Int.gcd n d=1
instance (n d:Int):Decidable (MayR n d):=inferInstanceAs (Decidable (_∧_∧_∧_∧_))
def above (n d:Int):Int:=if 0<n % d then n / d+1 else n / d
theorem gcd_part (n d:Int):gcdI d (n % d)=gcdI n d:=by
 unfold gcdI
 have h:=Int.gcd_add_mul_left_right d (n % d) (n / d)
 rw [Int.emod_add_mul_ediv] at h
 rw [←h,Int.gcd_comm]
theorem div_mul (n d:Int) (h:1≤d):n / d*d+n % d=n∧0≤n % d∧n % d<d:=by
 have a:=Int.mul_ediv_add_emod n d
 rw [Int.mul_comm] at a
 exact ⟨a,Int.emod_nonneg n (by omega),Int.emod_lt_of_pos n (by omega)⟩
theorem le_div (n d c:Int) (h:1≤d):c≤n / d↔c*d≤n:=Int.le_ediv_iff_mul_le (by omega)
theorem may_parts (n d:Int) (h:1≤d) (h':d≤1048576):MayR n d↔(May (n / d)∧May (above n d)∧gcdI d (n % d)=1):=by
 obtain ⟨a,b,c⟩:=div_mul n d h
 have k1:=le_div n d (-2305843009213693952) h
 have k2:=le_div n d 2305843009213693952 h
 have k3:=le_div n d 2305843009213693953 h
 have g:gcdI d (n % d)=1↔Int.gcd n d=1:=by rw [gcd_part];unfold gcdI;omega
 unfold MayR May above
 rw [g]
 generalize Int.gcd n d=G at*
 constructor
 ·rintro ⟨h1,h2,h3,h4,h5⟩
  refine ⟨⟨by omega,by omega⟩,?_,h5⟩
  split
  ·refine ⟨by omega,?_⟩
   rcases Int.lt_or_le (n / d) 2305843009213693952 with q | q
   ·omega
   ·have:=k2.1 q
    have e:n / d=2305843009213693952:=by omega
    rw [e] at a
    omega
  ·exact ⟨by omega,by omega⟩
 ·rintro ⟨⟨h1,h2⟩,h3,h5⟩
  refine ⟨h,h',by omega,?_,h5⟩
  split at h3
  ·have:=Int.mul_le_mul_of_nonneg_right (show n / d+1≤2305843009213693952 by omega) (show 0≤d by omega)
   rw [Int.add_mul] at this
   omega
  ·have:=Int.mul_le_mul_of_nonneg_right (show n / d≤2305843009213693952 by omega) (show 0≤d by omega)
   omega
theorem check3_den (n d:Int) (w:World) (h:d<1∨1048576<d):
  Calls Tryz.prog 158 #[.agg #[.int .i64 (n),.int .i64 (d)]] w fun e w'=>e=.returned (.int .i64 8)∧Below w.heap.size w w':=by
 by_cases t1:d<1
 ·clear h
  go_enter Tryz.func158,Tryz.ntmps158
  go_wp2
  go_ret
  exact ⟨rfl,up1 _ _⟩
 ·have t2:1048576<d:=by omega
  clear h
  go_enter Tryz.func158,Tryz.ntmps158
  go_wp2
  go_ret
  exact ⟨rfl,up1 _ _⟩
set_option maxHeartbeats 1000000 in
theorem check3_raw (n d g r:Int) (w:World) (n1:-9223372036854775808≤n) (n2:n≤9223372036854775807) (h:1≤d) (h':d≤1048576) (hg:RowKit.Hid (gcdI d (n % d)=g))
  (hr:(May (n / d)∧May (above n d)∧g=1∧r=0)∨(r=8∧((May (n / d)∧May (above n d)∧¬ g=1)∨(May (n / d)∧¬ May (above n d))∨¬ May (n / d)))):
  Calls Tryz.prog 158 #[.agg #[.int .i64 (n),.int .i64 (d)]] w fun e w'=>e=.returned (.int .i64 r)∧Below w.heap.size w w':=by
 obtain ⟨a,b,c⟩:=div_mul n d h
 clear a
 obtain ⟨d0,d1⟩:=ediv_in n d h n1 n2
 have t1:¬ d<1:=by omega
 have t2:¬ 1048576<d:=by omega
 have d2:0<n % d→n / d+1≤9223372036854775807:=fun _=>by
  have:=Int.ediv_le_iff_le_mul (x:=n) (y:=9223372036854775806) (show 0<d by omega)
  have:n / d≤9223372036854775806:=this.2 (by omega)
  omega
 unfold above at hr
 by_cases t3:0<n % d
 ·rw [if_pos t3] at hr
  have d3:=d2 t3
  clear d2
  rcases hr with ⟨p1,p2,p3,rfl⟩ | ⟨rfl,⟨p1,p2,p3⟩ | ⟨p1,p2⟩ | p1⟩
  ·subst p3
   go_enter Tryz.func158,Tryz.ntmps158
   go_wp2_with (first | (go_at_call 195;refine (split_any _ _ _ (by omega) (by omega) (by omega) (by omega)).mono ?_;rintro e w1 ⟨rfl,n1,rfl⟩) | (go_at_call 193;refine (check_ok _ _ (by assumption)).mono ?_;rintro e w' ⟨rfl,rfl⟩) | (go_at_call 196;refine (divisor_any _ _ _ (by omega) (by omega) (by omega) (by omega)).mono ?_;rintro e w1 ⟨rfl,n2,rfl⟩;rw [hg.out]))
   go_ret
   exact ⟨rfl,drawn (up1 _ _) _⟩
  ·go_enter Tryz.func158,Tryz.ntmps158
   go_wp2_with (first | (go_at_call 195;refine (split_any _ _ _ (by omega) (by omega) (by omega) (by omega)).mono ?_;rintro e w1 ⟨rfl,n1,rfl⟩) | (go_at_call 193;refine (check_ok _ _ (by assumption)).mono ?_;rintro e w' ⟨rfl,rfl⟩) | (go_at_call 196;refine (divisor_any _ _ _ (by omega) (by omega) (by omega) (by omega)).mono ?_;rintro e w1 ⟨rfl,n2,rfl⟩;rw [hg.out]))
   go_ret
   exact ⟨rfl,drawn (up1 _ _) _⟩
  ·have P:=Lib.hid p2
   clear p2
   go_enter Tryz.func158,Tryz.ntmps158
   go_wp2_with (first | (go_at_call 195;refine (split_any _ _ _ (by omega) (by omega) (by omega) (by omega)).mono ?_;rintro e w1 ⟨rfl,n1,rfl⟩) | (go_at_call 193;refine (check_ok _ _ (by assumption)).mono ?_;rintro e w' ⟨rfl,rfl⟩) | (go_at_call 193;refine (check_no _ _ P.out).mono ?_;rintro e w' ⟨rfl,rfl⟩))
   go_ret
   exact ⟨rfl,drawn (up1 _ _) _⟩
  ·have P:=Lib.hid p1
   clear p1
   go_enter Tryz.func158,Tryz.ntmps158
   go_wp2_with (first | (go_at_call 195;refine (split_any _ _ _ (by omega) (by omega) (by omega) (by omega)).mono ?_;rintro e w1 ⟨rfl,n1,rfl⟩) | (go_at_call 193;refine (check_no _ _ P.out).mono ?_;rintro e w' ⟨rfl,rfl⟩))
   go_ret
   exact ⟨rfl,drawn (up1 _ _) _⟩
 ·rw [if_neg t3] at hr
  clear d2
  rcases hr with ⟨p1,p2,p3,rfl⟩ | ⟨rfl,⟨p1,p2,p3⟩ | ⟨p1,p2⟩ | p1⟩
  ·subst p3
   clear p2
   go_enter Tryz.func158,Tryz.ntmps158
   go_wp2_with (first | (go_at_call 195;refine (split_any _ _ _ (by omega) (by omega) (by omega) (by omega)).mono ?_;rintro e w1 ⟨rfl,n1,rfl⟩) | (go_at_call 193;refine (check_ok _ _ (by assumption)).mono ?_;rintro e w' ⟨rfl,rfl⟩) | (go_at_call 196;refine (divisor_any _ _ _ (by omega) (by omega) (by omega) (by omega)).mono ?_;rintro e w1 ⟨rfl,n2,rfl⟩;rw [hg.out]))
   go_ret
   exact ⟨rfl,drawn (up1 _ _) _⟩
  ·clear p2
   go_enter Tryz.func158,Tryz.ntmps158
   go_wp2_with (first | (go_at_call 195;refine (split_any _ _ _ (by omega) (by omega) (by omega) (by omega)).mono ?_;rintro e w1 ⟨rfl,n1,rfl⟩) | (go_at_call 193;refine (check_ok _ _ (by assumption)).mono ?_;rintro e w' ⟨rfl,rfl⟩) | (go_at_call 196;refine (divisor_any _ _ _ (by omega) (by omega) (by omega) (by omega)).mono ?_;rintro e w1 ⟨rfl,n2,rfl⟩;rw [hg.out]))
   go_ret
   exact ⟨rfl,drawn (up1 _ _) _⟩
  ·exact absurd p1 p2
  ·have P:=Lib.hid p1
   clear p1
   go_enter Tryz.func158,Tryz.ntmps158
   go_wp2_with (first | (go_at_call 195;refine (split_any _ _ _ (by omega) (by omega) (by omega) (by omega)).mono ?_;rintro e w1 ⟨rfl,n1,rfl⟩) | (go_at_call 193;refine (check_no _ _ P.out).mono ?_;rintro e w' ⟨rfl,rfl⟩))
   go_ret
   exact ⟨rfl,drawn (up1 _ _) _⟩
def rchk (n d:Int):Int:=if MayR n d then 0 else 8
theorem rchk_ok {n d:Int} (h:MayR n d):rchk n d=0:=if_pos h
theorem rchk_no {n d:Int} (h:¬ MayR n d):rchk n d=8:=if_neg h
theorem check3_any (n d:Int) (w:World) (n1:-9223372036854775808≤n) (n2:n≤9223372036854775807):
  Calls Tryz.prog 158 #[.agg #[.int .i64 (n),.int .i64 (d)]] w fun e w'=>e=.returned (.int .i64 (rchk n d))∧Below w.heap.size w w':=by
 by_cases h:d<1∨1048576<d
 ·rw [rchk_no (fun k=>by unfold MayR at k;omega)]
  exact check3_den n d w h
 ·have h1:1≤d:=by omega
  have h2:d≤1048576:=by omega
  have k:=may_parts n d h1 h2
  refine check3_raw n d _ _ w n1 n2 h1 h2 (Lib.hid rfl) ?_
  by_cases m:MayR n d
  ·obtain ⟨a,b,c⟩:=k.1 m
   exact .inl ⟨a,b,c,rchk_ok m⟩
  ·refine .inr ⟨rchk_no m,?_⟩
   by_cases a:May (n / d)
   ·by_cases b:May (above n d)
    ·exact .inl ⟨a,b,fun c=>m (k.2 ⟨a,b,c⟩)⟩
    ·exact .inr (.inl ⟨a,b⟩)
   ·exact .inr (.inr a)
theorem check3_ok (n d:Int) (w:World) (n1:-9223372036854775808≤n) (n2:n≤9223372036854775807) (m:MayR n d):
  Calls Tryz.prog 158 #[.agg #[.int .i64 (n),.int .i64 (d)]] w fun e w'=>e=.returned (.int .i64 0)∧Below w.heap.size w w':=by
 have:=check3_any n d w n1 n2
 rw [rchk_ok m] at this
 exact this
theorem check3_no (n d:Int) (w:World) (n1:-9223372036854775808≤n) (n2:n≤9223372036854775807) (m:¬ MayR n d):
  Calls Tryz.prog 158 #[.agg #[.int .i64 (n),.int .i64 (d)]] w fun e w'=>e=.returned (.int .i64 8)∧Below w.heap.size w w':=by
 have:=check3_any n d w n1 n2
 rw [rchk_no m] at this
 exact this
end Go.Proofs.YthmljpccbjolgaaGreatDoor.rat
