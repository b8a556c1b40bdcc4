
/-
  What the laws of layer 5 share: calls at told matrices, boxes, a span that comes in, times that keep a matrix with bounds more; each theorem names its conditions.
-/
import Derived.Test.YthmljpccbjolgaaGreatDoorTightB
import Derived.Lib.SmallJoins
import Derived.Test.YthmljpccbjolgaaGreatDoorDbmD
import Derived.Test.YthmljpccbjolgaaGreatDoorRatC
namespace Go.Proofs.YthmljpccbjolgaaGreatDoor.tlaw
open Go.Joins Go.ChangeShapes Go.WideShapes Go.ChangeAt Go.RowKit num dbm Go.Proofs.YthmljpccbjolgaaGreatDoor.tight
open bound hiding up
set_option linter.unusedVariables false
set_option linter.unusedSimpArgs false
abbrev Bx:=Nat × Int × Value × List Int
end Go.Proofs.YthmljpccbjolgaaGreatDoor.tlaw
namespace Go.Proofs.YthmljpccbjolgaaGreatDoor.tlaw
open Go.Joins Go.Deep Go.ChangeShapes Go.WideShapes Go.ChangeAt Go.RowKit num dbm Go.Proofs.YthmljpccbjolgaaGreatDoor.tight
open bound hiding up
set_option linter.unusedVariables false
set_option linter.unusedSimpArgs false
section
variable {H:Type} {enc:TypeId × Value→H} {P:Program} {w:World} {base:Nat} {spare:Nat→Bool} {held:Bool}
end
end Go.Proofs.YthmljpccbjolgaaGreatDoor.tlaw
namespace Go.Proofs.YthmljpccbjolgaaGreatDoor.tkept
open num dbm rat Go.Proofs.YthmljpccbjolgaaGreatDoor.tight
open bound hiding up
set_option linter.unusedVariables false
theorem kpV_lsr {a b c d u v:Int} (h:MayR a b) (h':MayR c d) (hu:Fine u) (hv:Fine v):kpV a b c d (lsr u v)=true↔kpV a b c d u=true∧kpV a b c d v=true:=by
 rw [kp_kB h h' (lsr_fine hu hv),kp_kB h h' hu,kp_kB h h' hv]
 have hb:0<b:=by have:=h.1;omega
 have hd:0<d:=by have:=h'.1;omega
 have hl:=lsr_le u v
 have tu:u≤9223372036854775807:=by rcases hu with h | h<;>omega
 have tv:v≤9223372036854775807:=by rcases hv with h | h<;>omega
 constructor
 ·rintro (k | k)
  ·exact ⟨.inl (by omega),.inl (by omega)⟩
  ·exact ⟨.inr (keptR_up hb hd k hl.1),.inr (keptR_up hb hd k hl.2)⟩
 ·rintro ⟨k1,k2⟩
  rcases lsr_is u v with e | e<;>rw [e]<;>assumption
theorem kept_les {n:Nat} {ts us:List Int} {qs:List (Int × Int)} (hn:n≤4) (hl:ts.length=n*n) (hu:us.length=n*n) (ht:MayD n ts) (hm:MayD n us) (hq:MayT qs) (hqn:qs.length=n):
  keptAll n (lesT ts us) qs↔keptAll n ts qs∧keptAll n us qs:=by
 have key:∀ i j,i<n→j<n→(kp n (lesT ts us) qs i j=true↔kp n ts qs i j=true∧kp n us qs i j=true):=fun i j hi hj=>by
  have e:tat (lesT ts us) n i j=lsr (tat ts n i j) (tat us n i j):=lesT_at _ _ (by rw [hl];exact place_le hn hi hj)
  unfold kp
  rw [e]
  exact kpV_lsr (hq i (by omega)) (hq j (by omega)) (fine_at hl hn ht.2.2.2 hi hj) (fine_at hu hn hm.2.2.2 hi hj)
 exact ⟨fun h=>⟨fun i j hi hj=>((key i j hi hj).1 (h i j hi hj)).1,fun i j hi hj=>((key i j hi hj).1 (h i j hi hj)).2⟩,fun h i j hi hj=>(key i j hi hj).2 ⟨h.1 i j hi hj,h.2 i j hi hj⟩⟩
theorem kept_cl {n:Nat} {L:List Int} {qs:List (Int × Int)} (h0:0<n) (hn:n≤4) (hl:L.length=n*n) (htop:Tops L) (hok:OkD n L) (hc:MayD n (clT n L)) (hq:MayT qs) (hqn:qs.length=n):keptAll n (clT n L) qs↔keptAll n L qs:=by
 have hC:clT n L=tabs n h0 L n:=clT_nat h0 L
 rw [hC] at hc ⊢
 have hlc:(tabs n h0 L n).length=n*n:=(tabs_length _ _ _ _).trans hl
 exact (kept_same h0 hn hl htop hok.1.2.2.2 hq hqn (fun k hk=>hok.2.2 k (by simpa using hk)) (fun i j hi hj=>fine_at hlc hn hc.2.2.2 hi hj)).symm
theorem kept_no {n:Nat} {L:List Int} {qs:List (Int × Int)} (h0:0<n) (hn:n≤4) (hl:L.length=n*n) (htop:Tops L) (hm:MayD n L) (hok:¬ OkD n L) (hq:MayT qs) (hqn:qs.length=n):¬ keptAll n L qs:=fun h=>by
 have:=kept_closed h0 hn hl htop hm.2.2.2 hq hqn h
 exact hok ⟨hm,by simpa using h0,fun k hk=>this k (by simpa using hk)⟩
end Go.Proofs.YthmljpccbjolgaaGreatDoor.tkept
namespace Go.Proofs.YthmljpccbjolgaaGreatDoor.tkept
open num dbm rat Go.Proofs.YthmljpccbjolgaaGreatDoor.tight
open bound hiding up
set_option linter.unusedVariables false
def inl (lo:Int) (ls:Bool) (a b:Int):Bool:=if ls then decide (lo*b<a) else decide (lo*b≤a)
theorem zero_may:MayR 0 1:=⟨by decide,by decide,by decide,by decide,by decide⟩
end Go.Proofs.YthmljpccbjolgaaGreatDoor.tkept
