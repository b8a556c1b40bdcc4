
/-
  In and Apart, what the answers of package incl mean, and what the laws of layer 6 share; each theorem names its conditions.
-/
import Derived.Test.YthmljpccbjolgaaGreatDoorInclA
import Derived.Test.YthmljpccbjolgaaGreatDoorInclB
import Derived.OpenShut
import Derived.Test.YthmljpccbjolgaaGreatDoorTightD
namespace Go.Proofs.YthmljpccbjolgaaGreatDoor.incl
open Go.ChangeShapes Go.WideShapes Go.ChangeAt Go.RowKit num rat dbm way
open bound hiding up
set_option linter.unusedVariables false
set_option linter.unusedSimpArgs false
def Tell (V:Prop) (w:World) (e:Ending) (w':World):Prop:=Below w.heap.size w w'∧∃ r:Bool,e=.returned (.bool r)∧(r=true↔V)
end Go.Proofs.YthmljpccbjolgaaGreatDoor.incl
namespace Go.Proofs.YthmljpccbjolgaaGreatDoor.ilaw
open Go.Joins Go.ChangeShapes Go.WideShapes Go.ChangeAt Go.RowKit num dbm way Go.Proofs.YthmljpccbjolgaaGreatDoor.incl Go.Proofs.YthmljpccbjolgaaGreatDoor.tlaw
open bound hiding up
set_option linter.unusedVariables false
set_option linter.unusedSimpArgs false
/-! answers of which all is told -/
end Go.Proofs.YthmljpccbjolgaaGreatDoor.ilaw
namespace Go.Proofs.YthmljpccbjolgaaGreatDoor.incl
open num rat dbm way Go.Proofs.YthmljpccbjolgaaGreatDoor.tight Go.Proofs.YthmljpccbjolgaaGreatDoor.tkept
open bound hiding up
set_option linter.unusedVariables false
set_option linter.unusedSectionVars false
section
variable {n:Nat} {ts us:List Int} (h0:0<n) (hn:n≤4) (hl:ts.length=n*n) (hu:us.length=n*n) (htop:Tops ts) (hto:Tops us)
include h0 hn hl hu htop hto
theorem beg_le_cod (i j:Nat) (hi:i<n) (hj:j<n):way.le (beg n us i j) (cod (tat us n i j)):=by
 unfold beg
 rw [wts_in hi hj]
 refine (cod_le (tat_top (lows_tops hto n) n i j) (tat_top hto n i j)).2 ?_
 rw [beg_at hu hn hi hj]
 by_cases e:i=j
 ·subst e;rw [if_pos rfl];exact (lsr_le _ _).1
 ·rw [if_neg e];exact Int.le_refl _
theorem beg_les:beg n (lesT ts us)=both (beg n ts) (beg n us):=by
 have hll:(lesT ts us).length=n*n:=(lesT_length _ _).trans hl
 funext i j
 show _=mn _ _
 by_cases hij:i<n∧j<n
 ·obtain ⟨hi,hj⟩:=hij
  unfold beg
  rw [wts_in hi hj,wts_in hi hj,wts_in hi hj,←cod_lsr (tat_top (lows_tops htop n) n i j) (tat_top (lows_tops hto n) n i j)]
  congr 1
  rw [beg_at hll hn hi hj,beg_at hl hn hi hj,beg_at hu hn hi hj]
  have e:∀ i j,i<n→j<n→tat (lesT ts us) n i j=lsr (tat ts n i j) (tat us n i j):=fun i j hi hj=>lesT_at _ _ (by rw [hl];exact place_le hn hi hj)
  by_cases h:i=j
  ·subst h
   rw [if_pos rfl,if_pos rfl,if_pos rfl,e i i hi hi]
   unfold lsr
   repeat' split<;>omega
  ·rw [if_neg h,if_neg h,if_neg h,e i j hi hj]
 ·have e1:beg n (lesT ts us) i j=none:=if_neg hij
  have e2:beg n ts i j=none:=if_neg hij
  have e3:beg n us i j=none:=if_neg hij
  rw [e1,e2,e3]
  rfl
end
/-! times that are picked keep the matrix -/
theorem keptR8 {X Y x:Int} (h:2*(X - Y)+1≤16*(x / 2)+x % 2):keptR (p8 X) (q8 X) (p8 Y) (q8 Y) x=true:=by
 have h1:=cross8 X
 have h2:=cross8 Y
 have q1:=(q8_in X).1
 have q2:=(q8_in Y).1
 have hm:0<q8 X*q8 Y:=Int.mul_pos (by omega) (by omega)
 generalize p8 X=p at*
 generalize q8 X=q at*
 generalize p8 Y=r at*
 generalize q8 Y=s at*
 have e1:8*(p*s)=X*(q*s):=by
  rw [show 8*(p*s)=p*8*s by ac_rfl,h1];ac_rfl
 have e2:8*(r*q)=Y*(q*s):=by
  rw [show 8*(r*q)=r*8*q by ac_rfl,h2];ac_rfl
 have e3:8*(p*s - r*q)=(X - Y)*(q*s):=by rw [Int.mul_sub,e1,e2,Int.sub_mul]
 by_cases hs:bS x=true
 ·rw [keptR_lt hs]
  generalize q*s=m at*
  generalize p*s - r*q=u at*
  have hs':x % 2=0:=by unfold bS at hs;exact of_decide_eq_true hs
  have h3:(X - Y)*m<8*(x / 2)*m:=Int.mul_lt_mul_of_pos_right (by omega) hm
  rw [Int.mul_assoc] at h3
  omega
 ·rw [keptR_ge hs]
  generalize q*s=m at*
  generalize p*s - r*q=u at*
  have h3:(X - Y)*m≤8*(x / 2)*m:=Int.mul_le_mul_of_nonneg_right (by omega) (by omega)
  rw [Int.mul_assoc] at h3
  omega
section
variable {n:Nat} {ts:List Int} (h0:0<n) (hn:n≤4) (hl:ts.length=n*n) (htop:Tops ts) (h:OkD n ts)
include h0 hn hl htop h
theorem all_pks:(0,1)::pks n ts=rsOf (wts n (clT n ts)) (n - 1):=by
 have hlen:0<(rsOf (wts n (clT n ts)) (n - 1)).length:=by rw [rsOf_length];omega
 have h1:=rsOf_at (wts n (clT n ts)) (Nat.zero_le (n - 1))
 rw [px_zero,eight_zero.1,eight_zero.2] at h1
 unfold pks
 generalize rsOf (wts n (clT n ts)) (n - 1)=l at*
 cases l with
 | nil=>simp at hlen
 | cons a l=>
  have:a=(0,1):=by simpa [pr] using h1
  rw [this]
  rfl
theorem pks_may:MayT ((0,1)::pks n ts)∧IntsR ((0,1)::pks n ts)∧((0,1)::pks n ts).length=n:=by
 rw [all_pks h0 hn hl htop h]
 refine ⟨fun k hk=>?_,fun k hk=>?_,by rw [rsOf_length];omega⟩
 ·rw [rsOf_length] at hk
  rw [rsOf_at _ (by omega)]
  exact near_may (clo_near h0 hn hl htop h (by omega))
 ·rw [rsOf_length] at hk
  rw [rsOf_at _ (by omega)]
  exact near_fits (clo_near h0 hn hl htop h (by omega))
theorem pks_all {us:List Int} (hu:us.length=n*n) (hm:MayD n us) (hk:∀ i j,i<n→j<n→way.le (F (beg n ts) n i j) (cod (tat us n i j))):keptAll n us ((0,1)::pks n ts):=fun i j hi hj=>by
 obtain ⟨k1,k2,k3⟩:=pks_may h0 hn hl htop h
 unfold kp
 rw [kp_kB (k1 i (by omega)) (k1 j (by omega)) (fine_at hu hn hm.2.2.2 hi hj),all_pks h0 hn hl htop h,rsOf_at _ (by omega),rsOf_at _ (by omega)]
 by_cases hz:tat us n i j=9223372036854775807
 ·exact .inl hz
 ·refine .inr (keptR8 ?_)
  have hg:=good_tri (clo_good h0 hn hl htop h)
  have:=kx_up (px_kept hn hg (clo_one h0 hn hl htop h) n (Nat.le_refl _) i j hi hj) (hk i j hi hj)
  rw [←wts_closed h0 hn hl htop h,cod_some hz] at this
  exact this
theorem pks_kept:keptAll n ts ((0,1)::pks n ts):=pks_all h0 hn hl htop h hl h.1 fun i j hi hj=>le_trans (F_le _ _ _ _) (beg_le_cod h0 hn hl hl htop htop i j hi hj)
end
end Go.Proofs.YthmljpccbjolgaaGreatDoor.incl
namespace Go.Proofs.YthmljpccbjolgaaGreatDoor.incl
open Go.Joins Go.ChangeShapes Go.WideShapes Go.ChangeAt Go.RowKit num rat dbm way Go.Proofs.YthmljpccbjolgaaGreatDoor.tight Go.Proofs.YthmljpccbjolgaaGreatDoor.tkept
open bound hiding up
set_option linter.unusedVariables false
set_option linter.unusedSectionVars false
section
variable {n:Int} {ts us vs:List Int} (ht:MayD n ts) (hu:MayD n us) (hv:MayD n vs) (tt:Tops ts) (tu:Tops us) (tv:Tops vs)
include ht hu tt tu
include hv tv
end
section
variable {n:Int} {ts us vs:List Int} (ht:MayD n ts) (hu:MayD n us) (tt:Tops ts) (tu:Tops us)
include ht hu tt tu
end
end Go.Proofs.YthmljpccbjolgaaGreatDoor.incl
namespace Go.Proofs.YthmljpccbjolgaaGreatDoor.ilaw
open Go.Joins Go.ChangeShapes Go.WideShapes Go.ChangeAt Go.RowKit num dbm Go.Proofs.YthmljpccbjolgaaGreatDoor.tlaw
open bound hiding up
set_option linter.unusedVariables false
end Go.Proofs.YthmljpccbjolgaaGreatDoor.ilaw
