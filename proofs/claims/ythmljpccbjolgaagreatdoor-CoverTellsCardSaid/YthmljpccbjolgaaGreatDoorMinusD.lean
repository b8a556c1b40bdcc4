
/-
  minus.with, one text for each place; what a round of the iterator keeps.
-/
import Derived.Test.YthmljpccbjolgaaGreatDoorMinusZ
import Derived.Test.YthmljpccbjolgaaGreatDoorMinusA
import Derived.Test.YthmljpccbjolgaaGreatDoorZoneI
import Derived.Test.YthmljpccbjolgaaGreatDoorZoneR
import Derived.Test.YthmljpccbjolgaaGreatDoorMine
import Derived.RangeFuncLeaves
import Derived.RangeFuncCalls
import Derived.OwnWalkIn
import Derived.TacticsInMore
import Derived.LoopIn
import Derived.WalkKit
namespace Go.Proofs.YthmljpccbjolgaaGreatDoor.minus
open Go.Joins Go.ChangeShapes Go.WideShapes Go.ChangeAt Go.RowKit num rat dbm Go.Proofs.YthmljpccbjolgaaGreatDoor.tight Go.Proofs.YthmljpccbjolgaaGreatDoor.plaw Go.Proofs.YthmljpccbjolgaaGreatDoor.zopen Go.Proofs.YthmljpccbjolgaaGreatDoor.zone Go.Proofs.YthmljpccbjolgaaGreatDoor.win
open bound hiding up
set_option linter.unusedVariables false
set_option linter.unusedSimpArgs false
theorem set_les {z:List Int} (tz:Tops z) (hl:z.length=6) {i:Nat} {v:Int} (hi:i<6) (hv:v≤z[i]?.getD 0):fullT (z.set i v)=lesT (fullT z) (fullT (oneZ i v)):=by
 have key:∀ k,k<6→(z.set i v)[k]?.getD 0=lsr (z[k]?.getD 0) ((oneZ i v)[k]?.getD 0):=fun k hk=>by
  rw [one_at v hk]
  by_cases e:i=k
  ·subst e
   rw [if_pos rfl,List.getElem?_set_self (by omega)]
   unfold lsr
   show v=_
   split<;>omega
  ·rw [if_neg e,List.getElem?_set_ne e]
   have:=get_top tz k
   unfold lsr
   split<;>omega
 refine (list_at ((lesT_length _ _).trans (show (fullT z).length=(fullT (z.set i v)).length from rfl)) fun p hp=>?_).symm
 have hp:p<9:=by rw [lesT_length] at hp;exact hp
 rw [lesT_at _ _ (show p<(fullT z).length from hp)]
 rcases (by omega:p=0∨p=1∨p=2∨p=3∨p=4∨p=5∨p=6∨p=7∨p=8) with rfl | rfl | rfl | rfl | rfl | rfl | rfl | rfl | rfl
 ·rfl
 ·exact (key 1 (by decide)).symm
 ·exact (key 3 (by decide)).symm
 ·exact (key 0 (by decide)).symm
 ·rfl
 ·exact (key 5 (by decide)).symm
 ·exact (key 2 (by decide)).symm
 ·exact (key 4 (by decide)).symm
 ·rfl
def Wth (z:List Int) (w:World) (e:Ending) (w':World):Prop:=Below w.heap.size w w'∧∃ y0 y1 y2 y3 y4 y5 f,e=.returned (.tuple #[.agg #[.int .i64 y0,.int .i64 y1,.int .i64 y2,.int .i64 y3,.int .i64 y4,.int .i64 y5],.int .i64 f])∧OfR 3 (fullT z) [y0,y1,y2,y3,y4,y5] f
set_option maxRecDepth 100000 in
set_option maxHeartbeats 8000000 in
theorem with_0 (z0 z1 z2 z3 z4 z5 v:Int) (w:World) (hP:Pl w) (htop:Tops [v,z1,z2,z3,z4,z5]) (hm:MayD 3 (fullT [v,z1,z2,z3,z4,z5])):
  Calls Tryz.prog 212 #[.agg #[.int .i64 z0,.int .i64 z1,.int .i64 z2,.int .i64 z3,.int .i64 z4,.int .i64 z5],.int .i64 0,.int .i64 v] w (Wth [v,z1,z2,z3,z4,z5] w):=by
 have HT:=Lib.hid htop
 have HM:=Lib.hid hm
 have HP:=Lib.hid hP
 clear htop hm hP
 go_enter Tryz.func212,Tryz.ntmps212
 go_wp2_with fail
 have DB:=bound.up2 w (.cells #[.int .i64 v,.int .i64 z1,.int .i64 z2,.int .i64 z3,.int .i64 z4,.int .i64 z5] 27) (.cells #[.int .i64 0,.int .i64 0,.int .i64 0,.int .i64 0,.int .i64 0,.int .i64 0] 27)
 have D1:=lies.made_at (w.alloc (.cells #[.int .i64 v,.int .i64 z1,.int .i64 z2,.int .i64 z3,.int .i64 z4,.int .i64 z5] 27)) 27 #[.int .i64 0,.int .i64 0,.int .i64 0,.int .i64 0,.int .i64 0,.int .i64 0] (w.heap.size+1) (by simp)
 have P0:=HP.out.on DB
 have hR:w.heap.size≤w.heap.size+1:=by omega
 generalize (w.alloc (.cells #[.int .i64 v,.int .i64 z1,.int .i64 z2,.int .i64 z3,.int .i64 z4,.int .i64 z5] 27)).alloc (.cells #[.int .i64 0,.int .i64 0,.int .i64 0,.int .i64 0,.int .i64 0,.int .i64 0] 27)=w0 at DB D1 P0 ⊢
 refine (matrix_any v z1 z2 z3 z4 z5 w0 P0 HT.out).mono ?_
 rintro e w1 ⟨hB,na,aa,la,ca,us,f,rfl,hRR,hK⟩
 replace D1:=lies.on_call D1 hB
 replace P0:=P0.on hB
 replace DB:=later DB hB
 clear hB
 rcases hRR with ⟨_,rfl,hus,rfl⟩ | ⟨no,_⟩
 ·have hI:=hK.ints
  subst hus
  clear hK
  have hgl:=lies.lt D1
  go_wp2_with fail
  have hA:=bound.up1 w1 (.cells #[.int .i64 3,.slice aa la ca] 81)
  replace D1:=lies.on_call D1 hA
  replace P0:=P0.on hA
  replace DB:=later DB hA
  replace hI:=(hI.below hA).mono hA.size
  generalize w1.heap.size=TB
  generalize w1.alloc (.cells #[.int .i64 3,.slice aa la ca] 81)=w2 at D1 P0 DB hI ⊢
  clear hA hgl
  refine (zone.of_any 3 _ _ w2 P0 hI (by show (9:Nat)≤1000000;decide) (full_tops HT.out)).mono ?_
  rintro e w3 ⟨hB,y0,y1,y2,y3,y4,y5,f,rfl,hO⟩
  replace D1:=lies.on_call D1 hB
  replace DB:=later DB hB
  have HO:=Lib.hid hO
  clear hB hO hI P0
  obtain ⟨⟨x0,x1,x2,x3,x4,x5⟩,⟨q0,q1,q2,q3,q4,q5⟩,xl⟩:=six_cells D1
  clear D1
  go_wp2_with fail
  exact bodyPost_ret (v:=.tuple #[.agg #[.int .i64 y0,.int .i64 y1,.int .i64 y2,.int .i64 y3,.int .i64 y4,.int .i64 y5],.int .i64 f]) (by simp [results,Tryz.results212,go_sem,x0,x1,x2,x3,x4,x5,xl]) rfl ⟨put_six DB hR _ _ _ _ _ _,y0,y1,y2,y3,y4,y5,f,rfl,HO.out⟩
 ·exact (no HM.out).elim
set_option maxRecDepth 100000 in
set_option maxHeartbeats 8000000 in
theorem with_1 (z0 z1 z2 z3 z4 z5 v:Int) (w:World) (hP:Pl w) (htop:Tops [z0,v,z2,z3,z4,z5]) (hm:MayD 3 (fullT [z0,v,z2,z3,z4,z5])):
  Calls Tryz.prog 212 #[.agg #[.int .i64 z0,.int .i64 z1,.int .i64 z2,.int .i64 z3,.int .i64 z4,.int .i64 z5],.int .i64 1,.int .i64 v] w (Wth [z0,v,z2,z3,z4,z5] w):=by
 have HT:=Lib.hid htop
 have HM:=Lib.hid hm
 have HP:=Lib.hid hP
 clear htop hm hP
 go_enter Tryz.func212,Tryz.ntmps212
 go_wp2_with fail
 have DB:=bound.up2 w (.cells #[.int .i64 z0,.int .i64 v,.int .i64 z2,.int .i64 z3,.int .i64 z4,.int .i64 z5] 27) (.cells #[.int .i64 0,.int .i64 0,.int .i64 0,.int .i64 0,.int .i64 0,.int .i64 0] 27)
 have D1:=lies.made_at (w.alloc (.cells #[.int .i64 z0,.int .i64 v,.int .i64 z2,.int .i64 z3,.int .i64 z4,.int .i64 z5] 27)) 27 #[.int .i64 0,.int .i64 0,.int .i64 0,.int .i64 0,.int .i64 0,.int .i64 0] (w.heap.size+1) (by simp)
 have P0:=HP.out.on DB
 have hR:w.heap.size≤w.heap.size+1:=by omega
 generalize (w.alloc (.cells #[.int .i64 z0,.int .i64 v,.int .i64 z2,.int .i64 z3,.int .i64 z4,.int .i64 z5] 27)).alloc (.cells #[.int .i64 0,.int .i64 0,.int .i64 0,.int .i64 0,.int .i64 0,.int .i64 0] 27)=w0 at DB D1 P0 ⊢
 refine (matrix_any z0 v z2 z3 z4 z5 w0 P0 HT.out).mono ?_
 rintro e w1 ⟨hB,na,aa,la,ca,us,f,rfl,hRR,hK⟩
 replace D1:=lies.on_call D1 hB
 replace P0:=P0.on hB
 replace DB:=later DB hB
 clear hB
 rcases hRR with ⟨_,rfl,hus,rfl⟩ | ⟨no,_⟩
 ·have hI:=hK.ints
  subst hus
  clear hK
  have hgl:=lies.lt D1
  go_wp2_with fail
  have hA:=bound.up1 w1 (.cells #[.int .i64 3,.slice aa la ca] 81)
  replace D1:=lies.on_call D1 hA
  replace P0:=P0.on hA
  replace DB:=later DB hA
  replace hI:=(hI.below hA).mono hA.size
  generalize w1.heap.size=TB
  generalize w1.alloc (.cells #[.int .i64 3,.slice aa la ca] 81)=w2 at D1 P0 DB hI ⊢
  clear hA hgl
  refine (zone.of_any 3 _ _ w2 P0 hI (by show (9:Nat)≤1000000;decide) (full_tops HT.out)).mono ?_
  rintro e w3 ⟨hB,y0,y1,y2,y3,y4,y5,f,rfl,hO⟩
  replace D1:=lies.on_call D1 hB
  replace DB:=later DB hB
  have HO:=Lib.hid hO
  clear hB hO hI P0
  obtain ⟨⟨x0,x1,x2,x3,x4,x5⟩,⟨q0,q1,q2,q3,q4,q5⟩,xl⟩:=six_cells D1
  clear D1
  go_wp2_with fail
  exact bodyPost_ret (v:=.tuple #[.agg #[.int .i64 y0,.int .i64 y1,.int .i64 y2,.int .i64 y3,.int .i64 y4,.int .i64 y5],.int .i64 f]) (by simp [results,Tryz.results212,go_sem,x0,x1,x2,x3,x4,x5,xl]) rfl ⟨put_six DB hR _ _ _ _ _ _,y0,y1,y2,y3,y4,y5,f,rfl,HO.out⟩
 ·exact (no HM.out).elim
set_option maxRecDepth 100000 in
set_option maxHeartbeats 8000000 in
theorem with_2 (z0 z1 z2 z3 z4 z5 v:Int) (w:World) (hP:Pl w) (htop:Tops [z0,z1,v,z3,z4,z5]) (hm:MayD 3 (fullT [z0,z1,v,z3,z4,z5])):
  Calls Tryz.prog 212 #[.agg #[.int .i64 z0,.int .i64 z1,.int .i64 z2,.int .i64 z3,.int .i64 z4,.int .i64 z5],.int .i64 2,.int .i64 v] w (Wth [z0,z1,v,z3,z4,z5] w):=by
 have HT:=Lib.hid htop
 have HM:=Lib.hid hm
 have HP:=Lib.hid hP
 clear htop hm hP
 go_enter Tryz.func212,Tryz.ntmps212
 go_wp2_with fail
 have DB:=bound.up2 w (.cells #[.int .i64 z0,.int .i64 z1,.int .i64 v,.int .i64 z3,.int .i64 z4,.int .i64 z5] 27) (.cells #[.int .i64 0,.int .i64 0,.int .i64 0,.int .i64 0,.int .i64 0,.int .i64 0] 27)
 have D1:=lies.made_at (w.alloc (.cells #[.int .i64 z0,.int .i64 z1,.int .i64 v,.int .i64 z3,.int .i64 z4,.int .i64 z5] 27)) 27 #[.int .i64 0,.int .i64 0,.int .i64 0,.int .i64 0,.int .i64 0,.int .i64 0] (w.heap.size+1) (by simp)
 have P0:=HP.out.on DB
 have hR:w.heap.size≤w.heap.size+1:=by omega
 generalize (w.alloc (.cells #[.int .i64 z0,.int .i64 z1,.int .i64 v,.int .i64 z3,.int .i64 z4,.int .i64 z5] 27)).alloc (.cells #[.int .i64 0,.int .i64 0,.int .i64 0,.int .i64 0,.int .i64 0,.int .i64 0] 27)=w0 at DB D1 P0 ⊢
 refine (matrix_any z0 z1 v z3 z4 z5 w0 P0 HT.out).mono ?_
 rintro e w1 ⟨hB,na,aa,la,ca,us,f,rfl,hRR,hK⟩
 replace D1:=lies.on_call D1 hB
 replace P0:=P0.on hB
 replace DB:=later DB hB
 clear hB
 rcases hRR with ⟨_,rfl,hus,rfl⟩ | ⟨no,_⟩
 ·have hI:=hK.ints
  subst hus
  clear hK
  have hgl:=lies.lt D1
  go_wp2_with fail
  have hA:=bound.up1 w1 (.cells #[.int .i64 3,.slice aa la ca] 81)
  replace D1:=lies.on_call D1 hA
  replace P0:=P0.on hA
  replace DB:=later DB hA
  replace hI:=(hI.below hA).mono hA.size
  generalize w1.heap.size=TB
  generalize w1.alloc (.cells #[.int .i64 3,.slice aa la ca] 81)=w2 at D1 P0 DB hI ⊢
  clear hA hgl
  refine (zone.of_any 3 _ _ w2 P0 hI (by show (9:Nat)≤1000000;decide) (full_tops HT.out)).mono ?_
  rintro e w3 ⟨hB,y0,y1,y2,y3,y4,y5,f,rfl,hO⟩
  replace D1:=lies.on_call D1 hB
  replace DB:=later DB hB
  have HO:=Lib.hid hO
  clear hB hO hI P0
  obtain ⟨⟨x0,x1,x2,x3,x4,x5⟩,⟨q0,q1,q2,q3,q4,q5⟩,xl⟩:=six_cells D1
  clear D1
  go_wp2_with fail
  exact bodyPost_ret (v:=.tuple #[.agg #[.int .i64 y0,.int .i64 y1,.int .i64 y2,.int .i64 y3,.int .i64 y4,.int .i64 y5],.int .i64 f]) (by simp [results,Tryz.results212,go_sem,x0,x1,x2,x3,x4,x5,xl]) rfl ⟨put_six DB hR _ _ _ _ _ _,y0,y1,y2,y3,y4,y5,f,rfl,HO.out⟩
 ·exact (no HM.out).elim
set_option maxRecDepth 100000 in
set_option maxHeartbeats 8000000 in
theorem with_3 (z0 z1 z2 z3 z4 z5 v:Int) (w:World) (hP:Pl w) (htop:Tops [z0,z1,z2,v,z4,z5]) (hm:MayD 3 (fullT [z0,z1,z2,v,z4,z5])):
  Calls Tryz.prog 212 #[.agg #[.int .i64 z0,.int .i64 z1,.int .i64 z2,.int .i64 z3,.int .i64 z4,.int .i64 z5],.int .i64 3,.int .i64 v] w (Wth [z0,z1,z2,v,z4,z5] w):=by
 have HT:=Lib.hid htop
 have HM:=Lib.hid hm
 have HP:=Lib.hid hP
 clear htop hm hP
 go_enter Tryz.func212,Tryz.ntmps212
 go_wp2_with fail
 have DB:=bound.up2 w (.cells #[.int .i64 z0,.int .i64 z1,.int .i64 z2,.int .i64 v,.int .i64 z4,.int .i64 z5] 27) (.cells #[.int .i64 0,.int .i64 0,.int .i64 0,.int .i64 0,.int .i64 0,.int .i64 0] 27)
 have D1:=lies.made_at (w.alloc (.cells #[.int .i64 z0,.int .i64 z1,.int .i64 z2,.int .i64 v,.int .i64 z4,.int .i64 z5] 27)) 27 #[.int .i64 0,.int .i64 0,.int .i64 0,.int .i64 0,.int .i64 0,.int .i64 0] (w.heap.size+1) (by simp)
 have P0:=HP.out.on DB
 have hR:w.heap.size≤w.heap.size+1:=by omega
 generalize (w.alloc (.cells #[.int .i64 z0,.int .i64 z1,.int .i64 z2,.int .i64 v,.int .i64 z4,.int .i64 z5] 27)).alloc (.cells #[.int .i64 0,.int .i64 0,.int .i64 0,.int .i64 0,.int .i64 0,.int .i64 0] 27)=w0 at DB D1 P0 ⊢
 refine (matrix_any z0 z1 z2 v z4 z5 w0 P0 HT.out).mono ?_
 rintro e w1 ⟨hB,na,aa,la,ca,us,f,rfl,hRR,hK⟩
 replace D1:=lies.on_call D1 hB
 replace P0:=P0.on hB
 replace DB:=later DB hB
 clear hB
 rcases hRR with ⟨_,rfl,hus,rfl⟩ | ⟨no,_⟩
 ·have hI:=hK.ints
  subst hus
  clear hK
  have hgl:=lies.lt D1
  go_wp2_with fail
  have hA:=bound.up1 w1 (.cells #[.int .i64 3,.slice aa la ca] 81)
  replace D1:=lies.on_call D1 hA
  replace P0:=P0.on hA
  replace DB:=later DB hA
  replace hI:=(hI.below hA).mono hA.size
  generalize w1.heap.size=TB
  generalize w1.alloc (.cells #[.int .i64 3,.slice aa la ca] 81)=w2 at D1 P0 DB hI ⊢
  clear hA hgl
  refine (zone.of_any 3 _ _ w2 P0 hI (by show (9:Nat)≤1000000;decide) (full_tops HT.out)).mono ?_
  rintro e w3 ⟨hB,y0,y1,y2,y3,y4,y5,f,rfl,hO⟩
  replace D1:=lies.on_call D1 hB
  replace DB:=later DB hB
  have HO:=Lib.hid hO
  clear hB hO hI P0
  obtain ⟨⟨x0,x1,x2,x3,x4,x5⟩,⟨q0,q1,q2,q3,q4,q5⟩,xl⟩:=six_cells D1
  clear D1
  go_wp2_with fail
  exact bodyPost_ret (v:=.tuple #[.agg #[.int .i64 y0,.int .i64 y1,.int .i64 y2,.int .i64 y3,.int .i64 y4,.int .i64 y5],.int .i64 f]) (by simp [results,Tryz.results212,go_sem,x0,x1,x2,x3,x4,x5,xl]) rfl ⟨put_six DB hR _ _ _ _ _ _,y0,y1,y2,y3,y4,y5,f,rfl,HO.out⟩
 ·exact (no HM.out).elim
set_option maxRecDepth 100000 in
set_option maxHeartbeats 8000000 in
theorem with_4 (z0 z1 z2 z3 z4 z5 v:Int) (w:World) (hP:Pl w) (htop:Tops [z0,z1,z2,z3,v,z5]) (hm:MayD 3 (fullT [z0,z1,z2,z3,v,z5])):
  Calls Tryz.prog 212 #[.agg #[.int .i64 z0,.int .i64 z1,.int .i64 z2,.int .i64 z3,.int .i64 z4,.int .i64 z5],.int .i64 4,.int .i64 v] w (Wth [z0,z1,z2,z3,v,z5] w):=by
 have HT:=Lib.hid htop
 have HM:=Lib.hid hm
 have HP:=Lib.hid hP
 clear htop hm hP
 go_enter Tryz.func212,Tryz.ntmps212
 go_wp2_with fail
 have DB:=bound.up2 w (.cells #[.int .i64 z0,.int .i64 z1,.int .i64 z2,.int .i64 z3,.int .i64 v,.int .i64 z5] 27) (.cells #[.int .i64 0,.int .i64 0,.int .i64 0,.int .i64 0,.int .i64 0,.int .i64 0] 27)
 have D1:=lies.made_at (w.alloc (.cells #[.int .i64 z0,.int .i64 z1,.int .i64 z2,.int .i64 z3,.int .i64 v,.int .i64 z5] 27)) 27 #[.int .i64 0,.int .i64 0,.int .i64 0,.int .i64 0,.int .i64 0,.int .i64 0] (w.heap.size+1) (by simp)
 have P0:=HP.out.on DB
 have hR:w.heap.size≤w.heap.size+1:=by omega
 generalize (w.alloc (.cells #[.int .i64 z0,.int .i64 z1,.int .i64 z2,.int .i64 z3,.int .i64 v,.int .i64 z5] 27)).alloc (.cells #[.int .i64 0,.int .i64 0,.int .i64 0,.int .i64 0,.int .i64 0,.int .i64 0] 27)=w0 at DB D1 P0 ⊢
 refine (matrix_any z0 z1 z2 z3 v z5 w0 P0 HT.out).mono ?_
 rintro e w1 ⟨hB,na,aa,la,ca,us,f,rfl,hRR,hK⟩
 replace D1:=lies.on_call D1 hB
 replace P0:=P0.on hB
 replace DB:=later DB hB
 clear hB
 rcases hRR with ⟨_,rfl,hus,rfl⟩ | ⟨no,_⟩
 ·have hI:=hK.ints
  subst hus
  clear hK
  have hgl:=lies.lt D1
  go_wp2_with fail
  have hA:=bound.up1 w1 (.cells #[.int .i64 3,.slice aa la ca] 81)
  replace D1:=lies.on_call D1 hA
  replace P0:=P0.on hA
  replace DB:=later DB hA
  replace hI:=(hI.below hA).mono hA.size
  generalize w1.heap.size=TB
  generalize w1.alloc (.cells #[.int .i64 3,.slice aa la ca] 81)=w2 at D1 P0 DB hI ⊢
  clear hA hgl
  refine (zone.of_any 3 _ _ w2 P0 hI (by show (9:Nat)≤1000000;decide) (full_tops HT.out)).mono ?_
  rintro e w3 ⟨hB,y0,y1,y2,y3,y4,y5,f,rfl,hO⟩
  replace D1:=lies.on_call D1 hB
  replace DB:=later DB hB
  have HO:=Lib.hid hO
  clear hB hO hI P0
  obtain ⟨⟨x0,x1,x2,x3,x4,x5⟩,⟨q0,q1,q2,q3,q4,q5⟩,xl⟩:=six_cells D1
  clear D1
  go_wp2_with fail
  exact bodyPost_ret (v:=.tuple #[.agg #[.int .i64 y0,.int .i64 y1,.int .i64 y2,.int .i64 y3,.int .i64 y4,.int .i64 y5],.int .i64 f]) (by simp [results,Tryz.results212,go_sem,x0,x1,x2,x3,x4,x5,xl]) rfl ⟨put_six DB hR _ _ _ _ _ _,y0,y1,y2,y3,y4,y5,f,rfl,HO.out⟩
 ·exact (no HM.out).elim
set_option maxRecDepth 100000 in
set_option maxHeartbeats 8000000 in
theorem with_5 (z0 z1 z2 z3 z4 z5 v:Int) (w:World) (hP:Pl w) (htop:Tops [z0,z1,z2,z3,z4,v]) (hm:MayD 3 (fullT [z0,z1,z2,z3,z4,v])):
  Calls Tryz.prog 212 #[.agg #[.int .i64 z0,.int .i64 z1,.int .i64 z2,.int .i64 z3,.int .i64 z4,.int .i64 z5],.int .i64 5,.int .i64 v] w (Wth [z0,z1,z2,z3,z4,v] w):=by
 have HT:=Lib.hid htop
 have HM:=Lib.hid hm
 have HP:=Lib.hid hP
 clear htop hm hP
 go_enter Tryz.func212,Tryz.ntmps212
 go_wp2_with fail
 have DB:=bound.up2 w (.cells #[.int .i64 z0,.int .i64 z1,.int .i64 z2,.int .i64 z3,.int .i64 z4,.int .i64 v] 27) (.cells #[.int .i64 0,.int .i64 0,.int .i64 0,.int .i64 0,.int .i64 0,.int .i64 0] 27)
 have D1:=lies.made_at (w.alloc (.cells #[.int .i64 z0,.int .i64 z1,.int .i64 z2,.int .i64 z3,.int .i64 z4,.int .i64 v] 27)) 27 #[.int .i64 0,.int .i64 0,.int .i64 0,.int .i64 0,.int .i64 0,.int .i64 0] (w.heap.size+1) (by simp)
 have P0:=HP.out.on DB
 have hR:w.heap.size≤w.heap.size+1:=by omega
 generalize (w.alloc (.cells #[.int .i64 z0,.int .i64 z1,.int .i64 z2,.int .i64 z3,.int .i64 z4,.int .i64 v] 27)).alloc (.cells #[.int .i64 0,.int .i64 0,.int .i64 0,.int .i64 0,.int .i64 0,.int .i64 0] 27)=w0 at DB D1 P0 ⊢
 refine (matrix_any z0 z1 z2 z3 z4 v w0 P0 HT.out).mono ?_
 rintro e w1 ⟨hB,na,aa,la,ca,us,f,rfl,hRR,hK⟩
 replace D1:=lies.on_call D1 hB
 replace P0:=P0.on hB
 replace DB:=later DB hB
 clear hB
 rcases hRR with ⟨_,rfl,hus,rfl⟩ | ⟨no,_⟩
 ·have hI:=hK.ints
  subst hus
  clear hK
  have hgl:=lies.lt D1
  go_wp2_with fail
  have hA:=bound.up1 w1 (.cells #[.int .i64 3,.slice aa la ca] 81)
  replace D1:=lies.on_call D1 hA
  replace P0:=P0.on hA
  replace DB:=later DB hA
  replace hI:=(hI.below hA).mono hA.size
  generalize w1.heap.size=TB
  generalize w1.alloc (.cells #[.int .i64 3,.slice aa la ca] 81)=w2 at D1 P0 DB hI ⊢
  clear hA hgl
  refine (zone.of_any 3 _ _ w2 P0 hI (by show (9:Nat)≤1000000;decide) (full_tops HT.out)).mono ?_
  rintro e w3 ⟨hB,y0,y1,y2,y3,y4,y5,f,rfl,hO⟩
  replace D1:=lies.on_call D1 hB
  replace DB:=later DB hB
  have HO:=Lib.hid hO
  clear hB hO hI P0
  obtain ⟨⟨x0,x1,x2,x3,x4,x5⟩,⟨q0,q1,q2,q3,q4,q5⟩,xl⟩:=six_cells D1
  clear D1
  go_wp2_with fail
  exact bodyPost_ret (v:=.tuple #[.agg #[.int .i64 y0,.int .i64 y1,.int .i64 y2,.int .i64 y3,.int .i64 y4,.int .i64 y5],.int .i64 f]) (by simp [results,Tryz.results212,go_sem,x0,x1,x2,x3,x4,x5,xl]) rfl ⟨put_six DB hR _ _ _ _ _ _,y0,y1,y2,y3,y4,y5,f,rfl,HO.out⟩
 ·exact (no HM.out).elim
end Go.Proofs.YthmljpccbjolgaaGreatDoor.minus
namespace Go.Proofs.YthmljpccbjolgaaGreatDoor.minus
open Go.Joins Go.ChangeShapes Go.WideShapes Go.ChangeAt Go.RowKit Go.Shelf num rat dbm Go.Proofs.YthmljpccbjolgaaGreatDoor.tight Go.Proofs.YthmljpccbjolgaaGreatDoor.plaw Go.Proofs.YthmljpccbjolgaaGreatDoor.zopen Go.Proofs.YthmljpccbjolgaaGreatDoor.zone Go.Proofs.YthmljpccbjolgaaGreatDoor.win
open bound hiding up
attribute [local go_sem] Oper.semAt_some
set_option linter.unusedVariables false
set_option linter.unusedSimpArgs false
def rowAt (Bl:Nat) (X:World) (k:Nat):Prop:=∃ v,X.cell? ⟨Bl,0,none⟩=some v∧v.ownBlock=some k
def Kp (Bl:Nat) (X Y:World):Prop:=
 X.heap.size≤Y.heap.size∧(∀ k t cs,k≠Bl→¬ rowAt Bl X k→lies.Lies X k t cs→lies.Lies Y k t cs)∧(∀ k,rowAt Bl Y k→rowAt Bl X k∨(X.heap.size≤k∧k<Y.heap.size))∧(Pl X→Pl Y)
theorem kp_trans {Bl:Nat} {X Y Z:World} (h:Kp Bl X Y) (k:Kp Bl Y Z):Kp Bl X Z:=by
 obtain ⟨h1,h2,h3,h4⟩:=h
 obtain ⟨k1,k2,k3,k4⟩:=k
 refine ⟨Nat.le_trans h1 k1,fun q t cs hq hr hl=>k2 q t cs hq (fun n=>?_) (h2 q t cs hq hr hl),fun q hq=>?_,fun p=>k4 (h4 p)⟩
 ·rcases h3 q n with e | ⟨e,_⟩
  ·exact hr e
  ·have:=lies.lt hl;omega
 ·rcases k3 q hq with e | ⟨e1,e2⟩
  ·rcases h3 q e with f | ⟨f1,f2⟩
   ·exact .inl f
   ·exact .inr ⟨f1,by omega⟩
  ·exact .inr ⟨by omega,e2⟩
theorem cell_far {X Y:World} {q i:Nat} (h:Y.heap[q]?=X.heap[q]?):Y.cell? ⟨q,i,none⟩=X.cell? ⟨q,i,none⟩:=World.cell?_of_block h
theorem row_far {Bl:Nat} {X Y:World} (h:Y.heap[Bl]?=X.heap[Bl]?) (k:Nat):rowAt Bl Y k↔rowAt Bl X k:=by
 unfold rowAt
 rw [cell_far h]
theorem pl_far {X Y:World} (h:Y.heap[1]?=X.heap[1]?) (hs:X.heap.size≤Y.heap.size) (k:Pl X):Pl Y:=by
 obtain ⟨h0,h1,h2,h3,h4,h5,h6⟩:=k
 exact ⟨Nat.lt_of_lt_of_le h0 hs,(cell_far h).trans h1,(cell_far h).trans h2,(cell_far h).trans h3,(cell_far h).trans h4,(cell_far h).trans h5,(cell_far h).trans h6⟩
theorem kp_put {Bl n:Nat} (hn:Bl<n) (hG:1<n) (W:World) (l:Nat) (o o':Obj) (hl:n≤l) (h:W.heap[l]?=some o) (hc:o.isCells=false):Kp Bl W (W.putObj l o'):=by
 have hs:(W.putObj l o').heap.size=W.heap.size:=by simp [World.putObj]
 refine ⟨by omega,fun k t cs hk hr hL=>?_,fun k hk=>.inl ((row_far (World.putObj_heap_other (by omega)) k).1 hk),fun p=>pl_far (World.putObj_heap_other (by omega)) (by omega) p⟩
 have e:k≠l:=fun e=>by
  have hL':W.heap[k]?=some (.cells cs t (0,0)):=hL
  rw [e,h] at hL'
  cases hL'
  cases hc
 show (W.putObj l o').heap[k]?=some (.cells cs t (0,0))
 exact (World.putObj_heap_other e).trans hL
theorem grown_of {X Y:World} (k:Below X.heap.size X Y):X.grownBy Y none:=⟨k.os,k.tape,k.output,k.size,fun i hi _=>k.block i hi⟩
def It (Bl R:Nat) (r0 r1 r2 r3 r4 r5:Int) (X:World):Prop:=
 lies.Lies X R 27 #[.int .i64 r0,.int .i64 r1,.int .i64 r2,.int .i64 r3,.int .i64 r4,.int .i64 r5]∧Pl X∧¬ rowAt Bl X R∧(∀ q,rowAt Bl X q→q<X.heap.size)∧Bl<X.heap.size∧R≠Bl
theorem It.below {Bl R:Nat} {r0 r1 r2 r3 r4 r5:Int} {X Y:World} (h:It Bl R r0 r1 r2 r3 r4 r5 X) (k:Below X.heap.size X Y):It Bl R r0 r1 r2 r3 r4 r5 Y:=by
 obtain ⟨h1,h2,h3,h4,h5,h6⟩:=h
 have e:=k.block Bl h5
 exact ⟨lies.on_call h1 k,h2.on k,fun n=>h3 ((row_far e R).1 n),fun q hq=>Nat.lt_of_lt_of_le (h4 q ((row_far e q).1 hq)) k.size,Nat.lt_of_lt_of_le h5 k.size,h6⟩
theorem It.round {Bl R:Nat} {r0 r1 r2 r3 r4 r5:Int} {X Y:World} (h:It Bl R r0 r1 r2 r3 r4 r5 X) (k:Kp Bl X Y):It Bl R r0 r1 r2 r3 r4 r5 Y:=by
 obtain ⟨h1,h2,h3,h4,h5,h6⟩:=h
 obtain ⟨k1,k2,k3,k4⟩:=k
 refine ⟨k2 R _ _ h6 h3 h1,k4 h2,fun n=>?_,fun q hq=>?_,Nat.lt_of_lt_of_le h5 k1,h6⟩
 ·rcases k3 R n with e | ⟨e,_⟩
  ·exact h3 e
  ·have:=lies.lt h1;omega
 ·rcases k3 q hq with e | ⟨_,e⟩
  ·exact Nat.lt_of_lt_of_le (h4 q e) k1
  ·exact e
theorem grown_six (X:World) (g:Nat) (a b c d e f:Value):X.grownBy ((((((X.setCell ⟨g,0,none⟩ a).setCell ⟨g,1,none⟩ b).setCell ⟨g,2,none⟩ c).setCell ⟨g,3,none⟩ d).setCell ⟨g,4,none⟩ e).setCell ⟨g,5,none⟩ f) (some g):=
 grown_set (grown_set (grown_set (grown_set (grown_set (grown_set (grown_refl X (some g)) _ _) _ _) _ _) _ _) _ _) _ _
theorem It.put {Bl R:Nat} (hR:R≠1) {r0 r1 r2 r3 r4 r5:Int} {X:World} (h:It Bl R r0 r1 r2 r3 r4 r5 X) (y0 y1 y2 y3 y4 y5:Int):It Bl R y0 y1 y2 y3 y4 y5 ((((((X.setCell ⟨R,0,none⟩ (.int .i64 y0)).setCell ⟨R,1,none⟩ (.int .i64 y1)).setCell ⟨R,2,none⟩ (.int .i64 y2)).setCell ⟨R,3,none⟩ (.int .i64 y3)).setCell ⟨R,4,none⟩ (.int .i64 y4)).setCell ⟨R,5,none⟩ (.int .i64 y5)):=by
 obtain ⟨h1,h2,h3,h4,h5,h6⟩:=h
 have g:=grown_six X R (.int .i64 y0) (.int .i64 y1) (.int .i64 y2) (.int .i64 y3) (.int .i64 y4) (.int .i64 y5)
 have e:=g.block Bl h5 (fun e=>h6 (by cases e;rfl))
 refine ⟨Go.Proofs.YthmljpccbjolgaaGreatDoor.zref.put_sixL h1 _ _ _ _ _ _,?_,fun n=>h3 ((row_far e R).1 n),fun q hq=>Nat.lt_of_lt_of_le (h4 q ((row_far e q).1 hq)) g.size,Nat.lt_of_lt_of_le h5 g.size,h6⟩
 exact pl_far (g.block 1 h2.1 (fun e=>hR (by cases e;rfl))) g.size h2
theorem may_set {z:List Int} {i:Nat} {v:Int} (h:MayD 3 (fullT z)) (hl:z.length=6) (hv:Fine v):MayD 3 (fullT (z.set i v)):=full_may fun k hk=>by
 by_cases e:i=k
 ·subst e
  rw [List.getElem?_set_self (by omega)]
  exact hv
 ·rw [List.getElem?_set_ne e]
  exact comp.six_fine h k hk
theorem tops_set {z:List Int} {i:Nat} {v:Int} (h:Tops z) (hv:v≤9223372036854775807):Tops (z.set i v):=fun x hx=>by
 rcases List.mem_or_eq_of_mem_set hx with q | q
 ·exact h x q
 ·omega
theorem cut_from {z w out:List Int} {f:Int} (hz:MayD 3 (fullT z)) (hw:MayD 3 (fullT w)) (h:OfR 3 (lesT (fullT z) (fullT w)) out f):CutR z w out f:=by
 have hm:=lesT_may hz hw
 rcases h with q | q | q | q | q
 ·exact (q.1 hm).elim
 ·exact (q.2.1 rfl).elim
 ·exact .inl ⟨q.2.2.1,q.2.2.2⟩
 ·exact .inr (.inl ⟨q.2.1,q.2.2.1,q.2.2.2⟩)
 ·exact .inr (.inr ⟨q.2.1,q.2.2.1,q.2.2.2⟩)
theorem with_cut {z out:List Int} {i:Nat} {v f:Int} (hz:Zo z) (hi:i<6) (hv:Fine v) (hle:v≤z[i]?.getD 0) (h:OfR 3 (fullT (z.set i v)) out f):CutR z (oneZ i v) out f:=by
 rw [set_les hz.2.1 hz.2.2 hi hle] at h
 exact cut_from hz.1.may (one_may hv) h
theorem cut_eight {a z:List Int} {i:Nat} {v f:Int} (ha:Zo a) (hi:i<6) (hv:Fine v) (hn:v≠9223372036854775807) (hlt:1 - v<a[oth i]?.getD 0) (h:CutR a (oneZ i v) z f):f=8∨f=0:=by
 obtain ⟨_,fn,nn⟩:=not_is hv hn
 have o:=(not_one ha.2.1 ha.1 (oth_lt hi) fn nn).2 hlt
 rw [oth_oth,show (1:Int) - (1 - v)=v by omega] at o
 rcases h with ⟨q,_⟩ | ⟨_,_,_,q⟩ | ⟨_,_,_,q⟩
 ·exact (q o).elim
 ·exact .inl q
 ·exact .inr q
theorem pcs_go {b a z:List Int} {k:Nat} (h1:b[5 - k]?.getD 0<a[5 - k]?.getD 0) (h2:1 - b[5 - k]?.getD 0<a[oth (5 - k)]?.getD 0) (h:CutR a (oneZ (oth (5 - k)) (1 - b[5 - k]?.getD 0)) z 0):∃ t,PcsR b (k+1) a ((z,0)::t):=by
 obtain ⟨y,g,hy⟩:=cut_ex a (oneZ (5 - k) (b[5 - k]?.getD 0))
 by_cases hg:g=0
 ·obtain ⟨l,hl⟩:=pcs_ex b k y
  exact ⟨l,.inr (.inr ⟨h1,h2,z,0,h,.inr ⟨rfl,y,g,hy,.inr ⟨hg,l,hl,rfl⟩⟩⟩)⟩
 ·exact ⟨[(zero6,g)],.inr (.inr ⟨h1,h2,z,0,h,.inr ⟨rfl,y,g,hy,.inl ⟨hg,rfl⟩⟩⟩)⟩
abbrev encs (x:List Int × Int):Array Value:=#[mz.zval x.1,.int .i64 x.2]
end Go.Proofs.YthmljpccbjolgaaGreatDoor.minus
