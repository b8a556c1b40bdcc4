
/-
  Zones in windows, pure: cuts, windows, a wider window, zones so much later; each theorem names its conditions.
-/
import Derived.Test.YthmljpccbjolgaaGreatDoorZoneA
import Derived.Test.YthmljpccbjolgaaGreatDoorProjA
import Derived.Test.YthmljpccbjolgaaGreatDoorCompA
namespace Go.Proofs.YthmljpccbjolgaaGreatDoor.way
set_option linter.unusedVariables false
set_option linter.unusedSimpArgs false
end Go.Proofs.YthmljpccbjolgaaGreatDoor.way
namespace Go.Proofs.YthmljpccbjolgaaGreatDoor.win
open way num rat dbm Go.Proofs.YthmljpccbjolgaaGreatDoor.tight Go.Proofs.YthmljpccbjolgaaGreatDoor.tkept Go.Proofs.YthmljpccbjolgaaGreatDoor.incl Go.Proofs.YthmljpccbjolgaaGreatDoor.zone
open bound hiding up
set_option linter.unusedVariables false
set_option linter.unusedSimpArgs false
set_option linter.unusedSectionVars false
section
variable {n:Int} {ts us vs:List Int} (ht:MayD n ts) (hu:MayD n us) (hv:MayD n vs) (tt:Tops ts) (tu:Tops us) (tv:Tops vs)
include ht hu hv tt tu tv
end
/-! what is cut out of a zone -/
section
variable {z w:List Int} (tz:Tops z) (hz:MayD 3 (fullT z)) (hw:MayD 3 (fullT w))
include tz hz hw
theorem cut_kept {m:List Int} (ho:OkD 3 (lesT (fullT z) (fullT w))) (hm:MayD 3 (clT 3 (lesT (fullT z) (fullT w)))) (e:m=shortT (clT 3 (lesT (fullT z) (fullT w)))):
  MayZ m∧Tops m∧∀ x y u v,MayR x y→MayR u v→(keptAll 3 (fullT m) [(0,1),(x,y),(u,v)]↔keptAll 3 (fullT z) [(0,1),(x,y),(u,v)]∧keptAll 3 (fullT w) [(0,1),(x,y),(u,v)]):=by
 have tl:=lesT_tops (full_tops tz) (fullT w)
 obtain ⟨e1,e2⟩:=of_may (lesT_length _ _) tl ho hm
 rw [←e] at e1 e2
 refine ⟨e2,?_,fun x y u v hx hu=>?_⟩
 ·rw [e];exact short_tops (clT_tops tl)
 ·have hq:=may_three hx hu
  have k1:=tkept.kept_cl (n:=3) (L:=lesT (fullT z) (fullT w)) (by decide) (by decide) (lesT_length _ _) tl ho hm hq rfl
  have k2:=tkept.kept_les (n:=3) (ts:=fullT z) (us:=fullT w) (by decide) rfl rfl hz hw hq rfl
  rw [e1]
  exact k1.trans k2
theorem cut_out (ho:¬ OkD 3 (lesT (fullT z) (fullT w))):∀ x y u v,MayR x y→MayR u v→¬ (keptAll 3 (fullT z) [(0,1),(x,y),(u,v)]∧keptAll 3 (fullT w) [(0,1),(x,y),(u,v)]):=fun x y u v hx hu h=>by
 have hq:=may_three hx hu
 exact tkept.kept_no (n:=3) (L:=lesT (fullT z) (fullT w)) (by decide) (by decide) (lesT_length _ _) (lesT_tops (full_tops tz) _) (lesT_may hz hw) ho hq rfl ((tkept.kept_les (n:=3) (ts:=fullT z) (us:=fullT w) (by decide) rfl rfl hz hw hq rfl).2 h)
end
theorem none_fine:Fine 9223372036854775807:=.inl rfl
theorem kp_none {a b c d:Int} (h:MayR a b) (k:MayR c d):kpV a b c d 9223372036854775807=true:=(kp_kB h k none_fine).2 (.inl rfl)
def CutR (z w out:List Int) (f:Int):Prop:=
 (¬ OkD 3 (lesT (fullT z) (fullT w))∧out=zero6∧f=6)∨(OkD 3 (lesT (fullT z) (fullT w))∧¬ MayD 3 (clT 3 (lesT (fullT z) (fullT w)))∧out=zero6∧f=8)∨
  (OkD 3 (lesT (fullT z) (fullT w))∧MayD 3 (clT 3 (lesT (fullT z) (fullT w)))∧out=shortT (clT 3 (lesT (fullT z) (fullT w)))∧f=0)
theorem cut_good {z w out:List Int} (tz:Tops z) (hz:MayD 3 (fullT z)) (hw:MayD 3 (fullT w)) (h:CutR z w out 0):
  MayZ out∧Tops out∧fullT out=clT 3 (lesT (fullT z) (fullT w))∧OkD 3 (lesT (fullT z) (fullT w))∧∀ x y u v,MayR x y→MayR u v→(keptAll 3 (fullT out) [(0,1),(x,y),(u,v)]↔keptAll 3 (fullT z) [(0,1),(x,y),(u,v)]∧keptAll 3 (fullT w) [(0,1),(x,y),(u,v)]):=by
 rcases h with ⟨_,_,e⟩ | ⟨_,_,_,e⟩ | ⟨ho,hm,e,_⟩
 ·cases e
 ·cases e
 ·obtain ⟨a,b,c⟩:=cut_kept tz hz hw ho hm e
  refine ⟨a,b,?_,ho,c⟩
  rw [e]
  exact (of_may (lesT_length _ _) (lesT_tops (full_tops tz) _) ho hm).1
end Go.Proofs.YthmljpccbjolgaaGreatDoor.win
namespace Go.Proofs.YthmljpccbjolgaaGreatDoor.way
set_option linter.unusedVariables false
set_option linter.unusedSimpArgs false
end Go.Proofs.YthmljpccbjolgaaGreatDoor.way
namespace Go.Proofs.YthmljpccbjolgaaGreatDoor.win
open way num rat dbm Go.Proofs.YthmljpccbjolgaaGreatDoor.tight Go.Proofs.YthmljpccbjolgaaGreatDoor.tkept Go.Proofs.YthmljpccbjolgaaGreatDoor.incl Go.Proofs.YthmljpccbjolgaaGreatDoor.zone Go.Proofs.YthmljpccbjolgaaGreatDoor.comp
open bound hiding up
set_option linter.unusedVariables false
set_option linter.unusedSimpArgs false
set_option linter.unusedSectionVars false
end Go.Proofs.YthmljpccbjolgaaGreatDoor.win
namespace Go.Proofs.YthmljpccbjolgaaGreatDoor.way
set_option linter.unusedVariables false
set_option linter.unusedSimpArgs false
section
variable {D:Tab} (t:Tri D 3) (p:Pos D) (hd:∀ i,i<3→D i i=one) (o:∀ i,¬ i<3→∀ j,D i j=none)
include t p hd o
end
end Go.Proofs.YthmljpccbjolgaaGreatDoor.way
