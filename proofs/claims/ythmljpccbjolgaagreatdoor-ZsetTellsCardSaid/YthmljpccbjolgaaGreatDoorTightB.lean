
/-
  What Meet and Between of package tight answer, at any arguments; each theorem names its conditions.
-/
import Derived.Test.YthmljpccbjolgaaGreatDoorTightA
namespace Go.Proofs.YthmljpccbjolgaaGreatDoor.tight
open Go.ChangeShapes Go.WideShapes Go.ChangeAt Go.RowKit num dbm
open bound hiding up
set_option linter.unusedVariables false
set_option linter.unusedSimpArgs false
def meetQ (n m:Int) (ts us:List Int):Option (List Int):=if MayD n ts∧MayD m us∧n=m then some (lesT ts us) else none
def meetE (n m:Int) (ts us:List Int):Int:=if MayD n ts∧MayD m us then 40 else 8
theorem box3 (n m:Int) (sv tv:Value) (w:World):Below w.heap.size w (((w.alloc (.cells #[.int .i64 n,sv] 81)).alloc (.cells #[.int .i64 m,tv] 81)).alloc (.cells #[.int .i64 0,.slice none 0 0] 81))∧lies.Lies (((w.alloc (.cells #[.int .i64 n,sv] 81)).alloc (.cells #[.int .i64 m,tv] 81)).alloc (.cells #[.int .i64 0,.slice none 0 0] 81)) w.heap.size 81 #[.int .i64 n,sv]∧lies.Lies (((w.alloc (.cells #[.int .i64 n,sv] 81)).alloc (.cells #[.int .i64 m,tv] 81)).alloc (.cells #[.int .i64 0,.slice none 0 0] 81)) (w.heap.size+1) 81 #[.int .i64 m,tv]∧lies.Lies (((w.alloc (.cells #[.int .i64 n,sv] 81)).alloc (.cells #[.int .i64 m,tv] 81)).alloc (.cells #[.int .i64 0,.slice none 0 0] 81)) (w.heap.size+1+1) 81 #[.int .i64 0,.slice none 0 0]:=
 ⟨bound.up3 _ _ _ _,lies.on_alloc (lies.on_alloc (lies.made w _ _) _) _,lies.on_alloc (lies.made_at _ _ _ _ (World.size_alloc _ _)) _,lies.made_at _ _ _ _ (by simp)⟩
theorem ret3 {B:Nat} {w W:World} (h:Below B w W) (hB:B≤w.heap.size+1+1) (u v:Value):Below B w ((W.setCell ⟨w.heap.size+1+1,0,none⟩ u).setCell ⟨w.heap.size+1+1,1,none⟩ v):=
 (h.setCell (p:=⟨w.heap.size+1+1,0,none⟩) hB _).setCell (p:=⟨w.heap.size+1+1,1,none⟩) hB _
set_option maxRecDepth 100000 in
set_option maxHeartbeats 2000000 in
theorem meet_bad1 (n m:Int) (sv tv:Value) (ts us:List Int) (w:World) (hI:law.Ints w.heap.size w sv ts) (hJ:law.Ints w.heap.size w tv us) (hm:ts.length≤1000000) (htop:Tops ts) (h:¬ MayD n ts):
  Calls Tryz.prog 105 #[.agg #[.int .i64 n,sv],.agg #[.int .i64 m,tv]] w (Tells n none 8 w):=by
 obtain ⟨DB,D0,D1,D2⟩:=box3 n m sv tv w
 have C:=Lib.hid (check_no n sv ts _ ((hI.below DB).mono DB.size) hm htop h)
 obtain ⟨ad,cap,rfl⟩:=ints_len hI
 obtain ⟨bd,dap,rfl⟩:=ints_len hJ
 clear hI hJ htop h
 go_enter Tryz.func105,Tryz.ntmps105
 go_wp2_with fail
 refine C.out.mono ?_
 rintro e w1 ⟨rfl,hB1⟩
 have E1:=lies.on_call D2 hB1
 have EB:=DB.trans (hB1.mono DB.size)
 clear D0 D1 D2 DB hB1 C
 obtain ⟨x0,x1,x2,x3,x4⟩:=lies.two E1
 go_wp2_with fail
 exact bodyPost_ret (v:=.tuple #[.agg #[.int .i64 0,.slice none 0 0],.int .i64 8]) (by simp [results,Tryz.results105,go_sem,x0,x1]) rfl (Tells.err (ret3 EB (by omega) _ _))
set_option maxRecDepth 100000 in
set_option maxHeartbeats 2000000 in
theorem meet_bad2 (n m:Int) (sv tv:Value) (ts us:List Int) (w:World) (hI:law.Ints w.heap.size w sv ts) (hJ:law.Ints w.heap.size w tv us) (hm:ts.length≤1000000) (hm2:us.length≤1000000) (htop:Tops ts) (hto:Tops us) (h:MayD n ts) (k:¬ MayD m us):
  Calls Tryz.prog 105 #[.agg #[.int .i64 n,sv],.agg #[.int .i64 m,tv]] w (Tells n none 8 w):=by
 obtain ⟨DB,D0,D1,D2⟩:=box3 n m sv tv w
 have C:=Lib.hid (check_ok n sv ts _ ((hI.below DB).mono DB.size) htop h)
 have HJ:=Lib.hid hJ
 have HT:=Lib.hid hto
 have HK:=Lib.hid k
 obtain ⟨ad,cap,rfl⟩:=ints_len hI
 obtain ⟨bd,dap,rfl⟩:=ints_len hJ
 clear hI hJ htop h hto k
 go_enter Tryz.func105,Tryz.ntmps105
 go_wp2_with fail
 refine C.out.mono ?_
 rintro e w1 ⟨rfl,hB1⟩
 have E1:=lies.on_call D1 hB1
 have E2:=lies.on_call D2 hB1
 have EB:=DB.trans (hB1.mono DB.size)
 clear D0 D1 D2 DB hB1 C
 obtain ⟨x0,x1,x2,x3,x4⟩:=lies.two E1
 go_wp2_with fail
 refine (check_no m _ us _ ((HJ.out.below EB).mono EB.size) hm2 HT.out HK.out).mono ?_
 rintro e w2 ⟨rfl,hB2⟩
 have F2:=lies.on_call E2 hB2
 have FB:=EB.trans (hB2.mono EB.size)
 clear E1 E2 EB hB2 x0 x1 x2 x3 x4
 obtain ⟨x0,x1,x2,x3,x4⟩:=lies.two F2
 go_wp2_with fail
 exact bodyPost_ret (v:=.tuple #[.agg #[.int .i64 0,.slice none 0 0],.int .i64 8]) (by simp [results,Tryz.results105,go_sem,x0,x1]) rfl (Tells.err (ret3 FB (by omega) _ _))
set_option maxRecDepth 100000 in
set_option maxHeartbeats 2000000 in
theorem meet_dim (n m:Int) (sv tv:Value) (ts us:List Int) (w:World) (hI:law.Ints w.heap.size w sv ts) (hJ:law.Ints w.heap.size w tv us) (htop:Tops ts) (hto:Tops us) (h:MayD n ts) (k:MayD m us) (hnm:n≠m):
  Calls Tryz.prog 105 #[.agg #[.int .i64 n,sv],.agg #[.int .i64 m,tv]] w (Tells n none 40 w):=by
 obtain ⟨DB,D0,D1,D2⟩:=box3 n m sv tv w
 have C:=Lib.hid (check_ok n sv ts _ ((hI.below DB).mono DB.size) htop h)
 have HJ:=Lib.hid hJ
 have HT:=Lib.hid hto
 have HK:=Lib.hid k
 have t1:(n !=m)=true:=by simpa using hnm
 have t2:(n==m)=false:=by simpa using hnm
 obtain ⟨ad,cap,rfl⟩:=ints_len hI
 obtain ⟨bd,dap,rfl⟩:=ints_len hJ
 clear hI hJ htop h hto k
 go_enter Tryz.func105,Tryz.ntmps105
 go_wp2_with fail
 refine C.out.mono ?_
 rintro e w1 ⟨rfl,hB1⟩
 have E0:=lies.on_call D0 hB1
 have E1:=lies.on_call D1 hB1
 have E2:=lies.on_call D2 hB1
 have EB:=DB.trans (hB1.mono DB.size)
 clear D0 D1 D2 DB hB1 C
 obtain ⟨x0,x1,x2,x3,x4⟩:=lies.two E1
 go_wp2_with fail
 refine (check_ok m _ us _ ((HJ.out.below EB).mono EB.size) HT.out HK.out).mono ?_
 rintro e w2 ⟨rfl,hB2⟩
 have F0:=lies.on_call E0 hB2
 have F1:=lies.on_call E1 hB2
 have F2:=lies.on_call E2 hB2
 have FB:=EB.trans (hB2.mono EB.size)
 clear E0 E1 E2 EB hB2 x0 x1 x2 x3 x4
 obtain ⟨x0,x1,x2,x3,x4⟩:=lies.two F0
 obtain ⟨y0,y1,y2,y3,y4⟩:=lies.two F1
 obtain ⟨z0,z1,z2,z3,z4⟩:=lies.two F2
 go_wp2_with fail
 exact bodyPost_ret (v:=.tuple #[.agg #[.int .i64 0,.slice none 0 0],.int .i64 40]) (by simp [results,Tryz.results105,go_sem,z0,z1]) rfl (Tells.err (ret3 FB (by omega) _ _))
set_option maxRecDepth 100000 in
set_option maxHeartbeats 4000000 in
theorem meet_ok (n b off cap c pff dap:Nat) (ts us:List Int) (w:World) (h0:0<n) (hn:n≤4) (hr:Row w b off ts) (hb:b<w.heap.size) (hs:Row w c pff us) (hc:c<w.heap.size) (htop:Tops ts) (hto:Tops us) (h:MayD n ts) (k:MayD n us) (hl:ts.length=n*n) (hu:us.length=n*n):
  Calls Tryz.prog 105 #[.agg #[.int .i64 n,.slice (some ⟨b,off,none⟩) (n*n) cap],.agg #[.int .i64 n,.slice (some ⟨c,pff,none⟩) (n*n) dap]] w (Tells n (some (lesT ts us)) 8 w):=by
 have hpp:0<n*n:=Nat.mul_pos h0 h0
 have hsq:=sq_le hn
 obtain ⟨DB,D0,D1,D2⟩:=box3 n n (.slice (some ⟨b,off,none⟩) (n*n) cap) (.slice (some ⟨c,pff,none⟩) (n*n) dap) w
 have hI:law.Ints w.heap.size w (.slice (some ⟨b,off,none⟩) (n*n) cap) ts:=.inr ⟨b,off,cap,by rw [hl],hb,hr⟩
 have hJ:law.Ints w.heap.size w (.slice (some ⟨c,pff,none⟩) (n*n) dap) us:=.inr ⟨c,pff,dap,by rw [hu],hc,hs⟩
 have C:=Lib.hid (check_ok n _ ts _ ((hI.below DB).mono DB.size) htop h)
 have HJ:=Lib.hid hJ
 have HT:=Lib.hid htop
 have HU:=Lib.hid hto
 have HK:=Lib.hid k
 have HL:=Lib.hid hl
 have HLU:=Lib.hid hu
 have HR:=Lib.hid hr
 have HS:=Lib.hid hs
 clear hI hJ htop h hto k hl hu hr hs
 go_enter Tryz.func105,Tryz.ntmps105
 go_wp2_with fail
 refine C.out.mono ?_
 rintro e w1 ⟨rfl,hB1⟩
 have E0:=lies.on_call D0 hB1
 have E1:=lies.on_call D1 hB1
 have E2:=lies.on_call D2 hB1
 have EB:=DB.trans (hB1.mono DB.size)
 clear D0 D1 D2 DB hB1 C
 obtain ⟨x0,x1,x2,x3,x4⟩:=lies.two E1
 go_wp2_with fail
 refine (check_ok n _ us _ ((HJ.out.below EB).mono EB.size) HU.out HK.out).mono ?_
 rintro e w2 ⟨rfl,hB2⟩
 have F0:=lies.on_call E0 hB2
 have F1:=lies.on_call E1 hB2
 have F2:=lies.on_call E2 hB2
 have FB:=EB.trans (hB2.mono EB.size)
 clear E0 E1 E2 EB hB2 x0 x1 x2 x3 x4
 obtain ⟨x0,x1,x2,x3,x4⟩:=lies.two F0
 obtain ⟨y0,y1,y2,y3,y4⟩:=lies.two F1
 go_wp2_with fail
 have K3:=FB.alloc FB.size (.cells #[.slice none 0 0] 175)
 have G0:=lies.on_alloc F0 (.cells #[.slice none 0 0] 175)
 have G2:=lies.on_alloc F2 (.cells #[.slice none 0 0] 175)
 have GB:=lies.made w2 175 #[.slice none 0 0]
 have hw2:=FB.size
 have hlt:=lies.lt F2
 clear F0 F1 F2 FB x0 x1 x2 x3 x4 y0 y1 y2 y3 y4
 generalize w2.heap.size=B at GB hw2 hlt ⊢
 generalize w2.alloc (.cells #[.slice none 0 0] 175)=w3 at K3 G0 G2 GB ⊢
 refine (each_any n c pff dap B us w3 h0 hn (HS.out.below K3 hc) (Nat.lt_of_lt_of_le hc K3.size) HLU.out GB (by omega)).mono ?_
 rintro e w4 ⟨rfl,v,hB4,hO⟩
 obtain ⟨g,cc,rfl⟩:∃ g cc,v=.slice (some ⟨g,0,none⟩) (n*n) cc:=by
  rcases Go.Joins.ownsRow_forms hO with ⟨_,h⟩ | ⟨g,cc,rfl⟩
  ·omega
  ·exact ⟨g,cc,rfl⟩
 have hgl:=(hO.lt g rfl).2
 have hM:=own_rowM hO ((moOf_length n us).trans HLU.out)
 have H0:=lies.on_call (lies.on_far G0 (b:=B) 0 (by omega) (.slice (some ⟨g,0,none⟩) (n*n) cc)) (hB4.mono (by simp))
 have H2:=lies.on_call (lies.on_far G2 (b:=B) 0 (by omega) (.slice (some ⟨g,0,none⟩) (n*n) cc)) (hB4.mono (by simp))
 have HB:=lies.on_call (lies.on_put GB 0 (.slice (some ⟨g,0,none⟩) (n*n) cc)) (hB4.mono (by simp))
 have K4:Below w.heap.size w w4:=(K3.setCell (p:=⟨B,0,none⟩) hw2 _).trans (hB4.mono K3.size)
 have HMM:=Lib.hid hM
 clear G0 G2 GB hB4 hO K3 hM
 replace HB:lies.Lies w4 B 175 #[.slice (some ⟨g,0,none⟩) (n*n) cc]:=HB
 have y0:=lies.cell HB 0
 have y1:=lies.lt HB
 obtain ⟨x0,x1,x2,x3,x4⟩:=lies.two H0
 go_wp2_with fail
 refine (with_any n b off cap g 0 (n*n) cc ts (moOf n us) w4 h0 hn (HR.out.below K4 hb) (Nat.lt_of_lt_of_le hb K4.size) HT.out HL.out HMM.out hgl ((moOf_length n us).trans HLU.out) (by omega) (fun k hk=>by
  rw [moOf_at n us (by rw [HLU.out];exact hk)]
  exact ⟨Nat.div_lt_of_lt_mul hk,Nat.mod_lt _ h0⟩)).mono ?_
 rintro e w5 ⟨hB5,na,aa,la,ca,vs,f,rfl,hA,hK⟩
 rw [setAll_of h0 (HL.out.trans HLU.out.symm)] at hA
 have L2:=lies.on_call H2 hB5
 have LB:=K4.trans (hB5.mono K4.size)
 have hs4:=lies.lt H2
 have hs5:=K4.size
 clear H0 H2 HB K4 hB5 x0 x1 x2 x3 x4 y0 y1
 obtain ⟨x0,x1,x2,x3,x4⟩:=lies.two L2
 go_wp2_with fail
 refine bodyPost_ret (v:=.tuple #[.agg #[.int .i64 na,.slice aa la ca],.int .i64 f]) (by simp [results,Tryz.results105,go_sem,x0,x1]) rfl ⟨ret3 LB (by omega) _ _,na,aa,la,ca,vs,f,rfl,.inr ⟨_,rfl,hA⟩,?_⟩
 exact ((hK.far hs4 0 _).far hs4 1 _).mono hs5
theorem meet_any (n m:Int) (sv tv:Value) (ts us:List Int) (w:World) (hI:law.Ints w.heap.size w sv ts) (hJ:law.Ints w.heap.size w tv us) (hm:ts.length≤1000000) (hm2:us.length≤1000000) (htop:Tops ts) (hto:Tops us):
  Calls Tryz.prog 105 #[.agg #[.int .i64 n,sv],.agg #[.int .i64 m,tv]] w (Tells n (meetQ n m ts us) (meetE n m ts us) w):=by
 by_cases h:MayD n ts
 ·by_cases k:MayD m us
  ·have e1:meetE n m ts us=40:=if_pos ⟨h,k⟩
   by_cases hnm:n=m
   ·subst hnm
    have e2:meetQ n n ts us=some (lesT ts us):=if_pos ⟨h,k,rfl⟩
    rw [e1,e2]
    obtain ⟨q,rfl,h0,hn,hl⟩:=may_nat h
    have hpp:0<q*q:=Nat.mul_pos h0 h0
    have hu:us.length=q*q:=by
     have:=k.2.2.1
     rw [←Int.natCast_mul] at this
     exact Int.ofNat.inj this
    rcases hI with ⟨_,rfl⟩ | ⟨b,off,cap,rfl,hb,hr⟩
    ·simp at hl;omega
    ·rcases hJ with ⟨_,rfl⟩ | ⟨c,pff,dap,rfl,hc,hs⟩
     ·simp at hu;omega
     ·rw [hl,hu]
      refine (meet_ok q b off cap c pff dap ts us w h0 hn hr hb hs hc htop hto h k hl hu).mono ?_
      rintro e w' ⟨hB,na,aa,la,ca,vs,f,rfl,hR,hK⟩
      refine ⟨hB,na,aa,la,ca,vs,f,rfl,?_,hK⟩
      rcases hR with ⟨h,_⟩ | h
      ·cases h
      ·exact .inr h
   ·have e2:meetQ n m ts us=none:=if_neg (fun x=>hnm x.2.2)
    rw [e1,e2]
    exact meet_dim n m sv tv ts us w hI hJ htop hto h k hnm
  ·have e1:meetE n m ts us=8:=if_neg (fun x=>k x.2)
   have e2:meetQ n m ts us=none:=if_neg (fun x=>k x.2.1)
   rw [e1,e2]
   exact meet_bad2 n m sv tv ts us w hI hJ hm hm2 htop hto h k
 ·have e1:meetE n m ts us=8:=if_neg (fun x=>h x.1)
  have e2:meetQ n m ts us=none:=if_neg (fun x=>h x.1)
  rw [e1,e2]
  exact meet_bad1 n m sv tv ts us w hI hJ hm htop h
end Go.Proofs.YthmljpccbjolgaaGreatDoor.tight
namespace Go.Proofs.YthmljpccbjolgaaGreatDoor.tight
open Go.ChangeShapes Go.WideShapes Go.ChangeAt Go.RowKit num dbm
open bound hiding up
set_option linter.unusedVariables false
set_option linter.unusedSimpArgs false
end Go.Proofs.YthmljpccbjolgaaGreatDoor.tight
