
/-
  What Meet and Between of package tight answer, at any arguments; each theorem names its conditions.
-/
import Derived.Test.YthmljpccbjolgaaGreatDoorTightA
namespace Go.Proofs.YthmljpccbjolgaaGreatDoor.tight
open Go.ChangeShapes Go.WideShapes Go.ChangeAt Go.RowKit num dbm
open bound hiding up
set_option linter.unusedVariables false
set_option linter.unusedSimpArgs false
def meetQ (n m:Int) (ts us:List Int):Option (List Int):=if MayD n ts∧MayD m us∧n=m then some (lesT ts us) else none
def meetE (n m:Int) (ts us:List Int):Int:=if MayD n ts∧MayD m us then 40 else 8
theorem box3 (n m:Int) (sv tv:Value) (w:World):Below w.heap.size w (((w.alloc (.cells #[.int .i64 n,sv] 81)).alloc (.cells #[.int .i64 m,tv] 81)).alloc (.cells #[.int .i64 0,.slice none 0 0] 81))∧lies.Lies (((w.alloc (.cells #[.int .i64 n,sv] 81)).alloc (.cells #[.int .i64 m,tv] 81)).alloc (.cells #[.int .i64 0,.slice none 0 0] 81)) w.heap.size 81 #[.int .i64 n,sv]∧lies.Lies (((w.alloc (.cells #[.int .i64 n,sv] 81)).alloc (.cells #[.int .i64 m,tv] 81)).alloc (.cells #[.int .i64 0,.slice none 0 0] 81)) (w.heap.size+1) 81 #[.int .i64 m,tv]∧lies.Lies (((w.alloc (.cells #[.int .i64 n,sv] 81)).alloc (.cells #[.int .i64 m,tv] 81)).alloc (.cells #[.int .i64 0,.slice none 0 0] 81)) (w.heap.size+1+1) 81 #[.int .i64 0,.slice none 0 0]:=
 ⟨bound.up3 _ _ _ _,lies.on_alloc (lies.on_alloc (lies.made w _ _) _) _,lies.on_alloc (lies.made_at _ _ _ _ (World.size_alloc _ _)) _,lies.made_at _ _ _ _ (by simp)⟩
theorem ret3 {B:Nat} {w W:World} (h:Below B w W) (hB:B≤w.heap.size+1+1) (u v:Value):Below B w ((W.setCell ⟨w.heap.size+1+1,0,none⟩ u).setCell ⟨w.heap.size+1+1,1,none⟩ v):=
 (h.setCell (p:=⟨w.heap.size+1+1,0,none⟩) hB _).setCell (p:=⟨w.heap.size+1+1,1,none⟩) hB _
set_option maxRecDepth 100000 in
set_option maxHeartbeats 2000000 in
theorem meet_bad1 (n m:Int) (sv tv:Value) (ts us:List Int) (w:World) (hI:law.Ints w.heap.size w sv ts) (hJ:law.Ints w.heap.size w tv us) (hm:ts.length≤1000000) (htop:Tops ts) (h:¬ MayD n ts):
  Calls Tryz.prog 105 #[.agg #[.int .i64 n,sv],.agg #[.int .i64 m,tv]] w (Tells n none 8 w):=by
 obtain ⟨DB,D0,D1,D2⟩:=box3 n m sv tv w
 have C:=Lib.hid (check_no n sv ts _ ((hI.below DB).mono DB.size) hm htop h)
 obtain ⟨ad,cap,rfl⟩:=ints_len hI
 obtain ⟨bd,dap,rfl⟩:=ints_len hJ
 clear hI hJ htop h
 go_enter Tryz.func105,Tryz.ntmps105
 go_wp2_with fail
 refine C.out.mono ?_
 rintro e w1 ⟨rfl,hB1⟩
 have E1:=lies.on_call D2 hB1
 have EB:=DB.trans (hB1.mono DB.size)
 clear D0 D1 D2 DB hB1 C
 obtain ⟨x0,x1,x2,x3,x4⟩:=lies.two E1
 go_wp2_with fail
 exact bodyPost_ret (v:=.tuple #[.agg #[.int .i64 0,.slice none 0 0],.int .i64 8]) (by simp [results,Tryz.results105,go_sem,x0,x1]) rfl (Tells.err (ret3 EB (by omega) _ _))
set_option maxRecDepth 100000 in
set_option maxHeartbeats 2000000 in
theorem meet_bad2 (n m:Int) (sv tv:Value) (ts us:List Int) (w:World) (hI:law.Ints w.heap.size w sv ts) (hJ:law.Ints w.heap.size w tv us) (hm:ts.length≤1000000) (hm2:us.length≤1000000) (htop:Tops ts) (hto:Tops us) (h:MayD n ts) (k:¬ MayD m us):
  Calls Tryz.prog 105 #[.agg #[.int .i64 n,sv],.agg #[.int .i64 m,tv]] w (Tells n none 8 w):=by
 obtain ⟨DB,D0,D1,D2⟩:=box3 n m sv tv w
 have C:=Lib.hid (check_ok n sv ts _ ((hI.below DB).mono DB.size) htop h)
 have HJ:=Lib.hid hJ
 have HT:=Lib.hid hto
 have HK:=Lib.hid k
 obtain ⟨ad,cap,rfl⟩:=ints_len hI
 obtain ⟨bd,dap,rfl⟩:=ints_len hJ
 clear hI hJ htop h hto k
 go_enter Tryz.func105,Tryz.ntmps105
 go_wp2_with fail
 refine C.out.mono ?_
 rintro e w1 ⟨rfl,hB1⟩
 have E1:=lies.on_call D1 hB1
 have E2:=lies.on_call D2 hB1
 have EB:=DB.trans (hB1.mono DB.size)
 clear D0 D1 D2 DB hB1 C
 obtain ⟨x0,x1,x2,x3,x4⟩:=lies.two E1
 go_wp2_with fail
 refine (check_no m _ us _ ((HJ.out.below EB).mono EB.size) hm2 HT.out HK.out).mono ?_
 rintro e w2 ⟨rfl,hB2⟩
 have F2:=lies.on_call E2 hB2
 have FB:=EB.trans (hB2.mono EB.size)
 clear E1 E2 EB hB2 x0 x1 x2 x3 x4
 obtain ⟨x0,x1,x2,x3,x4⟩:=lies.two F2
 go_wp2_with fail
 exact bodyPost_ret (v:=.tuple #[.agg #[.int .i64 0,.slice none 0 0],.int .i64 8]) (by simp [results,Tryz.results105,go_sem,x0,x1]) rfl (Tells.err (ret3 FB (by omega) _ _))
set_option maxRecDepth 100000 in
set_option maxHeartbeats 2000000 in
theorem meet_dim (n m:Int) (sv tv:Value) (ts us:List Int) (w:World) (hI:law.Ints w.heap.size w sv ts) (hJ:law.Ints w.heap.size w tv us) (htop:Tops ts) (hto:Tops us) (h:MayD n ts) (k:MayD m us) (hnm:n≠m):
  Calls Tryz.prog 105 #[.agg #[.int .i64 n,sv],.agg #[.int .i64 m,tv]] w (Tells n none 40 w):=by
 obtain ⟨DB,D0,D1,D2⟩:=box3 n m sv tv w
 have C:=Lib.hid (check_ok n sv ts _ ((hI.below DB).mono DB.size) htop h)
 have HJ:=Lib.hid hJ
 have HT:=Lib.hid hto
 have HK:=Lib.hid k
 have t1:(n !=m)=true:=by simpa using hnm
 have t2:(n==m)=false:=by simpa using hnm
 obtain ⟨ad,cap,rfl⟩:=ints_len hI
 obtain ⟨bd,dap,rfl⟩:=ints_len hJ
 clear hI hJ htop h hto k
 go_enter Tryz.func105,Tryz.ntmps105
 go_wp2_with fail
 refine C.out.mono ?_
 rintro e w1 ⟨rfl,hB1⟩
 have E0:=lies.on_call D0 hB1
 have E1:=lies.on_call D1 hB1
 have E2:=lies.on_call D2 hB1
 have EB:=DB.trans (hB1.mono DB.size)
 clear D0 D1 D2 DB hB1 C
 obtain ⟨x0,x1,x2,x3,x4⟩:=lies.two E1
 go_wp2_with fail
 refine (check_ok m _ us _ ((HJ.out.below EB).mono EB.size) HT.out HK.out).mono ?_
 rintro e w2 ⟨rfl,hB2⟩
 have F0:=lies.on_call E0 hB2
 have F1:=lies.on_call E1 hB2
 have F2:=lies.on_call E2 hB2
 have FB:=EB.trans (hB2.mono EB.size)
 clear E0 E1 E2 EB hB2 x0 x1 x2 x3 x4
 obtain ⟨x0,x1,x2,x3,x4⟩:=lies.two F0
 obtain ⟨y0,y1,y2,y3,y4⟩:=lies.two F1
 obtain ⟨z0,z1,z2,z3,z4⟩:=lies.two F2
 go_wp2_with fail
 exact bodyPost_ret (v:=.tuple #[.agg #[.int .i64 0,.slice none 0 0],.int .i64 40]) (by simp [results,Tryz.results105,go_sem,z0,z1]) rfl (Tells.err (ret3 FB (by omega) _ _))
set_option maxRecDepth 100000 in
set_option maxHeartbeats 4000000 in
theorem meet_ok (n b off cap c pff dap:Nat) (ts us:List Int) (w:World) (h0:0<n) (hn:n≤4) (hr:Row w b off ts) (hb:b<w.heap.size) (hs:Row w c pff us) (hc:c<w.heap.size) (htop:Tops ts) (hto:Tops us) (h:MayD n ts) (k:MayD n us) (hl:ts.length=n*n) (hu:us.length=n*n):
  Calls Tryz.prog 105 #[.agg #[.int .i64 n,.slice (some ⟨b,off,none⟩) (n*n) cap],.agg #[.int .i64 n,.slice (some ⟨c,pff,none⟩) (n*n) dap]] w (Tells n (some (lesT ts us)) 8 w):=by
 have hpp:0<n*n:=Nat.mul_pos h0 h0
 have hsq:=sq_le hn
 obtain ⟨DB,D0,D1,D2⟩:=box3 n n (.slice (some ⟨b,off,none⟩) (n*n) cap) (.slice (some ⟨c,pff,none⟩) (n*n) dap) w
 have hI:law.Ints w.heap.size w (.slice (some ⟨b,off,none⟩) (n*n) cap) ts:=.inr ⟨b,off,cap,by rw [hl],hb,hr⟩
 have hJ:law.Ints w.heap.size w (.slice (some ⟨c,pff,none⟩) (n*n) dap) us:=.inr ⟨c,pff,dap,by rw [hu],hc,hs⟩
 have C:=Lib.hid (check_ok n _ ts _ ((hI.below DB).mono DB.size) htop h)
 have HJ:=Lib.hid hJ
 have HT:=Lib.hid htop
 have HU:=Lib.hid hto
 have HK:=Lib.hid k
 have HL:=Lib.hid hl
 have HLU:=Lib.hid hu
 have HR:=Lib.hid hr
 have HS:=Lib.hid hs
 clear hI hJ htop h hto k hl hu hr hs
 go_enter Tryz.func105,Tryz.ntmps105
 go_wp2_with fail
 refine C.out.mono ?_
 rintro e w1 ⟨rfl,hB1⟩
 have E0:=lies.on_call D0 hB1
 have E1:=lies.on_call D1 hB1
 have E2:=lies.on_call D2 hB1
 have EB:=DB.trans (hB1.mono DB.size)
 clear D0 D1 D2 DB hB1 C
 obtain ⟨x0,x1,x2,x3,x4⟩:=lies.two E1
 go_wp2_with fail
 refine (check_ok n _ us _ ((HJ.out.below EB).mono EB.size) HU.out HK.out).mono ?_
 rintro e w2 ⟨rfl,hB2⟩
 have F0:=lies.on_call E0 hB2
 have F1:=lies.on_call E1 hB2
 have F2:=lies.on_call E2 hB2
 have FB:=EB.trans (hB2.mono EB.size)
 clear E0 E1 E2 EB hB2 x0 x1 x2 x3 x4
 obtain ⟨x0,x1,x2,x3,x4⟩:=lies.two F0
 obtain ⟨y0,y1,y2,y3,y4⟩:=lies.two F1
 go_wp2_with fail
 have K3:=FB.alloc FB.size (.cells #[.slice none 0 0] 175)
 have G0:=lies.on_alloc F0 (.cells #[.slice none 0 0] 175)
 have G2:=lies.on_alloc F2 (.cells #[.slice none 0 0] 175)
 have GB:=lies.made w2 175 #[.slice none 0 0]
 have hw2:=FB.size
 have hlt:=lies.lt F2
 clear F0 F1 F2 FB x0 x1 x2 x3 x4 y0 y1 y2 y3 y4
 generalize w2.heap.size=B at GB hw2 hlt ⊢
 generalize w2.alloc (.cells #[.slice none 0 0] 175)=w3 at K3 G0 G2 GB ⊢
 refine (each_any n c pff dap B us w3 h0 hn (HS.out.below K3 hc) (Nat.lt_of_lt_of_le hc K3.size) HLU.out GB (by omega)).mono ?_
 rintro e w4 ⟨rfl,v,hB4,hO⟩
 obtain ⟨g,cc,rfl⟩:∃ g cc,v=.slice (some ⟨g,0,none⟩) (n*n) cc:=by
  rcases Go.Joins.ownsRow_forms hO with ⟨_,h⟩ | ⟨g,cc,rfl⟩
  ·omega
  ·exact ⟨g,cc,rfl⟩
 have hgl:=(hO.lt g rfl).2
 have hM:=own_rowM hO ((moOf_length n us).trans HLU.out)
 have H0:=lies.on_call (lies.on_far G0 (b:=B) 0 (by omega) (.slice (some ⟨g,0,none⟩) (n*n) cc)) (hB4.mono (by simp))
 have H2:=lies.on_call (lies.on_far G2 (b:=B) 0 (by omega) (.slice (some ⟨g,0,none⟩) (n*n) cc)) (hB4.mono (by simp))
 have HB:=lies.on_call (lies.on_put GB 0 (.slice (some ⟨g,0,none⟩) (n*n) cc)) (hB4.mono (by simp))
 have K4:Below w.heap.size w w4:=(K3.setCell (p:=⟨B,0,none⟩) hw2 _).trans (hB4.mono K3.size)
 have HMM:=Lib.hid hM
 clear G0 G2 GB hB4 hO K3 hM
 replace HB:lies.Lies w4 B 175 #[.slice (some ⟨g,0,none⟩) (n*n) cc]:=HB
 have y0:=lies.cell HB 0
 have y1:=lies.lt HB
 obtain ⟨x0,x1,x2,x3,x4⟩:=lies.two H0
 go_wp2_with fail
 refine (with_any n b off cap g 0 (n*n) cc ts (moOf n us) w4 h0 hn (HR.out.below K4 hb) (Nat.lt_of_lt_of_le hb K4.size) HT.out HL.out HMM.out hgl ((moOf_length n us).trans HLU.out) (by omega) (fun k hk=>by
  rw [moOf_at n us (by rw [HLU.out];exact hk)]
  exact ⟨Nat.div_lt_of_lt_mul hk,Nat.mod_lt _ h0⟩)).mono ?_
 rintro e w5 ⟨hB5,na,aa,la,ca,vs,f,rfl,hA,hK⟩
 rw [setAll_of h0 (HL.out.trans HLU.out.symm)] at hA
 have L2:=lies.on_call H2 hB5
 have LB:=K4.trans (hB5.mono K4.size)
 have hs4:=lies.lt H2
 have hs5:=K4.size
 clear H0 H2 HB K4 hB5 x0 x1 x2 x3 x4 y0 y1
 obtain ⟨x0,x1,x2,x3,x4⟩:=lies.two L2
 go_wp2_with fail
 refine bodyPost_ret (v:=.tuple #[.agg #[.int .i64 na,.slice aa la ca],.int .i64 f]) (by simp [results,Tryz.results105,go_sem,x0,x1]) rfl ⟨ret3 LB (by omega) _ _,na,aa,la,ca,vs,f,rfl,.inr ⟨_,rfl,hA⟩,?_⟩
 exact ((hK.far hs4 0 _).far hs4 1 _).mono hs5
theorem meet_any (n m:Int) (sv tv:Value) (ts us:List Int) (w:World) (hI:law.Ints w.heap.size w sv ts) (hJ:law.Ints w.heap.size w tv us) (hm:ts.length≤1000000) (hm2:us.length≤1000000) (htop:Tops ts) (hto:Tops us):
  Calls Tryz.prog 105 #[.agg #[.int .i64 n,sv],.agg #[.int .i64 m,tv]] w (Tells n (meetQ n m ts us) (meetE n m ts us) w):=by
 by_cases h:MayD n ts
 ·by_cases k:MayD m us
  ·have e1:meetE n m ts us=40:=if_pos ⟨h,k⟩
   by_cases hnm:n=m
   ·subst hnm
    have e2:meetQ n n ts us=some (lesT ts us):=if_pos ⟨h,k,rfl⟩
    rw [e1,e2]
    obtain ⟨q,rfl,h0,hn,hl⟩:=may_nat h
    have hpp:0<q*q:=Nat.mul_pos h0 h0
    have hu:us.length=q*q:=by
     have:=k.2.2.1
     rw [←Int.natCast_mul] at this
     exact Int.ofNat.inj this
    rcases hI with ⟨_,rfl⟩ | ⟨b,off,cap,rfl,hb,hr⟩
    ·simp at hl;omega
    ·rcases hJ with ⟨_,rfl⟩ | ⟨c,pff,dap,rfl,hc,hs⟩
     ·simp at hu;omega
     ·rw [hl,hu]
      refine (meet_ok q b off cap c pff dap ts us w h0 hn hr hb hs hc htop hto h k hl hu).mono ?_
      rintro e w' ⟨hB,na,aa,la,ca,vs,f,rfl,hR,hK⟩
      refine ⟨hB,na,aa,la,ca,vs,f,rfl,?_,hK⟩
      rcases hR with ⟨h,_⟩ | h
      ·cases h
      ·exact .inr h
   ·have e2:meetQ n m ts us=none:=if_neg (fun x=>hnm x.2.2)
    rw [e1,e2]
    exact meet_dim n m sv tv ts us w hI hJ htop hto h k hnm
  ·have e1:meetE n m ts us=8:=if_neg (fun x=>k x.2)
   have e2:meetQ n m ts us=none:=if_neg (fun x=>k x.2.1)
   rw [e1,e2]
   exact meet_bad2 n m sv tv ts us w hI hJ hm hm2 htop hto h k
 ·have e1:meetE n m ts us=8:=if_neg (fun x=>h x.1)
  have e2:meetQ n m ts us=none:=if_neg (fun x=>h x.1)
  rw [e1,e2]
  exact meet_bad1 n m sv tv ts us w hI hJ hm htop h
end Go.Proofs.YthmljpccbjolgaaGreatDoor.tight
namespace Go.Proofs.YthmljpccbjolgaaGreatDoor.tight
open Go.ChangeShapes Go.WideShapes Go.ChangeAt Go.RowKit num dbm
open bound hiding up
set_option linter.unusedVariables false
set_option linter.unusedSimpArgs false
def hiB (hi:Int) (hs op:Bool):Int:=if op then 9223372036854775807 else mk hi hs
def btwL (n:Nat) (ts:List Int) (i:Nat) (lo:Int) (ls:Bool) (hi:Int) (hs op:Bool):List Int:=setAll n ts [(0,i,mk (-lo) ls),(i,0,hiB hi hs op)]
def btwQ (n:Int) (ts:List Int) (i lo:Int) (ls:Bool) (hi:Int) (hs op:Bool):Option (List Int):=if MayD n ts∧Clk n i∧MayS lo hi hs op then some (btwL n.toNat ts i.toNat lo ls hi hs op) else none
def btwE (n:Int) (ts:List Int) (i:Int):Int:=if MayD n ts∧¬ Clk n i then 2 else 8
theorem boxS (n lo hi:Int) (sv:Value) (ls hs op:Bool) (w:World):Below w.heap.size w (((w.alloc (.cells #[.int .i64 n,sv] 81)).alloc (.cells #[.int .i64 lo,.bool ls,.int .i64 hi,.bool hs,.bool op] 35)).alloc (.cells #[.int .i64 0,.slice none 0 0] 81))∧lies.Lies (((w.alloc (.cells #[.int .i64 n,sv] 81)).alloc (.cells #[.int .i64 lo,.bool ls,.int .i64 hi,.bool hs,.bool op] 35)).alloc (.cells #[.int .i64 0,.slice none 0 0] 81)) w.heap.size 81 #[.int .i64 n,sv]∧lies.Lies (((w.alloc (.cells #[.int .i64 n,sv] 81)).alloc (.cells #[.int .i64 lo,.bool ls,.int .i64 hi,.bool hs,.bool op] 35)).alloc (.cells #[.int .i64 0,.slice none 0 0] 81)) (w.heap.size+1) 35 #[.int .i64 lo,.bool ls,.int .i64 hi,.bool hs,.bool op]∧lies.Lies (((w.alloc (.cells #[.int .i64 n,sv] 81)).alloc (.cells #[.int .i64 lo,.bool ls,.int .i64 hi,.bool hs,.bool op] 35)).alloc (.cells #[.int .i64 0,.slice none 0 0] 81)) (w.heap.size+1+1) 81 #[.int .i64 0,.slice none 0 0]:=
 ⟨bound.up3 _ _ _ _,lies.on_alloc (lies.on_alloc (lies.made w _ _) _) _,lies.on_alloc (lies.made_at _ _ _ _ (World.size_alloc _ _)) _,lies.made_at _ _ _ _ (by simp)⟩
theorem five {W:World} {g:Nat} {t:TypeId} {a b c d e:Value} (h:lies.Lies W g t #[a,b,c,d,e]):W.cell? ⟨g,0,none⟩=some a∧W.cell? ⟨g,1,none⟩=some b∧W.cell? ⟨g,2,none⟩=some c∧W.cell? ⟨g,3,none⟩=some d∧W.cell? ⟨g,4,none⟩=some e∧g<W.heap.size:=
 ⟨lies.cell h 0,lies.cell h 1,lies.cell h 2,lies.cell h 3,lies.cell h 4,lies.lt h⟩
set_option maxRecDepth 100000 in
set_option maxHeartbeats 2000000 in
theorem btw_bad (n i lo hi:Int) (ls hs op:Bool) (sv:Value) (ts:List Int) (w:World) (hI:law.Ints w.heap.size w sv ts) (hm:ts.length≤1000000) (htop:Tops ts) (h:¬ MayD n ts):
  Calls Tryz.prog 96 #[.agg #[.int .i64 n,sv],.int .i64 i,.agg #[.int .i64 lo,.bool ls,.int .i64 hi,.bool hs,.bool op]] w (Tells n none 8 w):=by
 obtain ⟨DB,D0,D1,D2⟩:=boxS n lo hi sv ls hs op w
 have C:=Lib.hid (check_no n sv ts _ ((hI.below DB).mono DB.size) hm htop h)
 obtain ⟨ad,cap,rfl⟩:=ints_len hI
 clear hI htop h
 go_enter Tryz.func96,Tryz.ntmps96
 go_wp2_with fail
 refine C.out.mono ?_
 rintro e w1 ⟨rfl,hB1⟩
 have E1:=lies.on_call D2 hB1
 have EB:=DB.trans (hB1.mono DB.size)
 clear D0 D1 D2 DB hB1 C
 obtain ⟨x0,x1,x2,x3,x4⟩:=lies.two E1
 go_wp2_with fail
 exact bodyPost_ret (v:=.tuple #[.agg #[.int .i64 0,.slice none 0 0],.int .i64 8]) (by simp [results,Tryz.results96,go_sem,x0,x1]) rfl (Tells.err (ret3 EB (by omega) _ _))
set_option maxRecDepth 100000 in
set_option maxHeartbeats 2000000 in
theorem btw_clock (n i lo hi:Int) (ls hs op:Bool) (sv:Value) (ts:List Int) (w:World) (hI:law.Ints w.heap.size w sv ts) (htop:Tops ts) (h:MayD n ts) (hc:¬ Clk n i):
  Calls Tryz.prog 96 #[.agg #[.int .i64 n,sv],.int .i64 i,.agg #[.int .i64 lo,.bool ls,.int .i64 hi,.bool hs,.bool op]] w (Tells n none 2 w):=by
 obtain ⟨DB,D0,D1,D2⟩:=boxS n lo hi sv ls hs op w
 have C:=Lib.hid (check_ok n sv ts _ ((hI.below DB).mono DB.size) htop h)
 obtain ⟨ad,cap,rfl⟩:=ints_len hI
 have HC:=Lib.hid hc
 clear hI htop h hc
 go_enter Tryz.func96,Tryz.ntmps96
 go_wp2_with fail
 refine C.out.mono ?_
 rintro e w1 ⟨rfl,hB1⟩
 have E0:=lies.on_call D0 hB1
 have E1:=lies.on_call D2 hB1
 have EB:=DB.trans (hB1.mono DB.size)
 clear D0 D1 D2 DB hB1 C
 obtain ⟨x0,x1,x2,x3,x4⟩:=lies.two E0
 go_wp2_with fail
 refine (clock_no HC.out _ _).mono ?_
 rintro e w2 ⟨rfl,hB2⟩
 have F1:=lies.on_call E1 hB2
 have FB:=EB.trans (hB2.mono EB.size)
 clear E0 E1 EB hB2 x0 x1 x2 x3 x4
 obtain ⟨x0,x1,x2,x3,x4⟩:=lies.two F1
 go_wp2_with fail
 exact bodyPost_ret (v:=.tuple #[.agg #[.int .i64 0,.slice none 0 0],.int .i64 2]) (by simp [results,Tryz.results96,go_sem,x0,x1]) rfl (Tells.err (ret3 FB (by omega) _ _))
theorem span_yes {lo hi:Int} {hs op:Bool} (h:MayS lo hi hs op) (ls:Bool) (w:World):Calls Tryz.prog 137 #[.agg #[.int .i64 lo,.bool ls,.int .i64 hi,.bool hs,.bool op]] w fun e w'=>e=.returned (.int .i64 0)∧Below w.heap.size w w':=by
 have:=span_any lo ls hi hs op w
 rwa [if_pos h] at this
theorem span_no {lo hi:Int} {hs op:Bool} (h:¬ MayS lo hi hs op) (ls:Bool) (w:World):Calls Tryz.prog 137 #[.agg #[.int .i64 lo,.bool ls,.int .i64 hi,.bool hs,.bool op]] w fun e w'=>e=.returned (.int .i64 8)∧Below w.heap.size w w':=by
 have:=span_any lo ls hi hs op w
 rwa [if_neg h] at this
set_option maxRecDepth 100000 in
set_option maxHeartbeats 2000000 in
theorem btw_span (n i lo hi:Int) (ls hs op:Bool) (sv:Value) (ts:List Int) (w:World) (hI:law.Ints w.heap.size w sv ts) (htop:Tops ts) (h:MayD n ts) (hc:Clk n i) (hsp:¬ MayS lo hi hs op):
  Calls Tryz.prog 96 #[.agg #[.int .i64 n,sv],.int .i64 i,.agg #[.int .i64 lo,.bool ls,.int .i64 hi,.bool hs,.bool op]] w (Tells n none 8 w):=by
 obtain ⟨DB,D0,D1,D2⟩:=boxS n lo hi sv ls hs op w
 have C:=Lib.hid (check_ok n sv ts _ ((hI.below DB).mono DB.size) htop h)
 obtain ⟨ad,cap,rfl⟩:=ints_len hI
 have HC:=Lib.hid hc
 have HS:=Lib.hid hsp
 clear hI htop h hc hsp
 go_enter Tryz.func96,Tryz.ntmps96
 go_wp2_with fail
 refine C.out.mono ?_
 rintro e w1 ⟨rfl,hB1⟩
 have E0:=lies.on_call D0 hB1
 have E1:=lies.on_call D1 hB1
 have E2:=lies.on_call D2 hB1
 have EB:=DB.trans (hB1.mono DB.size)
 clear D0 D1 D2 DB hB1 C
 obtain ⟨x0,x1,x2,x3,x4⟩:=lies.two E0
 go_wp2_with fail
 refine (clock_yes HC.out _ _).mono ?_
 rintro e w2 ⟨rfl,hB2⟩
 have F1:=lies.on_call E1 hB2
 have F2:=lies.on_call E2 hB2
 have FB:=EB.trans (hB2.mono EB.size)
 clear E0 E1 E2 EB hB2 x0 x1 x2 x3 x4
 obtain ⟨x0,x1,x2,x3,x4,x5⟩:=five F1
 go_wp2_with fail
 refine (span_no HS.out _ _).mono ?_
 rintro e w3 ⟨rfl,hB3⟩
 have G2:=lies.on_call F2 hB3
 have GB:=FB.trans (hB3.mono FB.size)
 clear F1 F2 FB hB3 x0 x1 x2 x3 x4 x5
 obtain ⟨x0,x1,x2,x3,x4⟩:=lies.two G2
 go_wp2_with fail
 exact bodyPost_ret (v:=.tuple #[.agg #[.int .i64 0,.slice none 0 0],.int .i64 8]) (by simp [results,Tryz.results96,go_sem,x0,x1]) rfl (Tells.err (ret3 GB (by omega) _ _))
theorem row_two {W:World} {g:Nat} {t:TypeId} {i:Nat} {x y:Int} (h:lies.Lies W g t #[.int .i64 0,.int .i64 (i:Int),.int .i64 x,.int .i64 (i:Int),.int .i64 0,.int .i64 y]):RowM W g 0 [(0,i,x),(i,0,y)]:=fun k hk=>by
 have:k=0∨k=1:=by have:k<2:=hk;omega
 rcases this with rfl | rfl
 ·exact ⟨lies.cell h 0,lies.cell h 1,lies.cell h 2⟩
 ·exact ⟨lies.cell h 3,lies.cell h 4,lies.cell h 5⟩
theorem two_in {n i:Nat} {x y:Int} (h0:0<n) (hi:i<n) (k:Nat) (hk:k<2):(mo [(0,i,x),(i,0,y)] k).1<n∧(mo [(0,i,x),(i,0,y)] k).2.1<n:=by
 have:k=0∨k=1:=by omega
 rcases this with rfl | rfl
 ·exact ⟨h0,hi⟩
 ·exact ⟨hi,h0⟩
set_option maxRecDepth 100000 in
set_option maxHeartbeats 4000000 in
theorem btw_ok (n i:Nat) (lo hi:Int) (ls hs op:Bool) (b off cap:Nat) (ts:List Int) (w:World) (h0:0<n) (hn:n≤4) (hr:Row w b off ts) (hb:b<w.heap.size) (htop:Tops ts) (h:MayD n ts) (hl:ts.length=n*n) (hi':i<n) (hsp:MayS lo hi hs op):
  Calls Tryz.prog 96 #[.agg #[.int .i64 n,.slice (some ⟨b,off,none⟩) (n*n) cap],.int .i64 i,.agg #[.int .i64 lo,.bool ls,.int .i64 hi,.bool hs,.bool op]] w (Tells n (some (btwL n ts i lo ls hi hs op)) 8 w):=by
 have hpp:0<n*n:=Nat.mul_pos h0 h0
 have hsq:=sq_le hn
 obtain ⟨DB,D0,D1,D2⟩:=boxS n lo hi (.slice (some ⟨b,off,none⟩) (n*n) cap) ls hs op w
 have hI:law.Ints w.heap.size w (.slice (some ⟨b,off,none⟩) (n*n) cap) ts:=.inr ⟨b,off,cap,by rw [hl],hb,hr⟩
 have C:=Lib.hid (check_ok n _ ts _ ((hI.below DB).mono DB.size) htop h)
 have HC:=Lib.hid (show Clk n i from ⟨by omega,by omega⟩)
 have HS:=Lib.hid hsp
 have HT:=Lib.hid htop
 have HL:=Lib.hid hl
 have HR:=Lib.hid hr
 have q1:wrap64 (-lo)=-lo:=by have:=hsp.1;unfold In at this;exact IntWalk.wrap64_in _ ⟨by omega,by omega⟩
 have q2:IntKind.i64.wrap (-lo)=-lo:=(IntWalk.i64_left _).trans q1
 have HLO:=Lib.hid (show In (-lo) by have:=hsp.1;unfold In at this ⊢;omega)
 clear hI htop h hsp hl hr
 go_enter Tryz.func96,Tryz.ntmps96
 go_wp2_with fail
 refine C.out.mono ?_
 rintro e w1 ⟨rfl,hB1⟩
 have E0:=lies.on_call D0 hB1
 have E1:=lies.on_call D1 hB1
 have E2:=lies.on_call D2 hB1
 have EB:=DB.trans (hB1.mono DB.size)
 clear D0 D1 D2 DB hB1 C
 obtain ⟨x0,x1,x2,x3,x4⟩:=lies.two E0
 go_wp2_with fail
 refine (clock_yes HC.out _ _).mono ?_
 rintro e w2 ⟨rfl,hB2⟩
 have F0:=lies.on_call E0 hB2
 have F1:=lies.on_call E1 hB2
 have F2:=lies.on_call E2 hB2
 have FB:=EB.trans (hB2.mono EB.size)
 clear E0 E1 E2 EB hB2 x0 x1 x2 x3 x4
 obtain ⟨x0,x1,x2,x3,x4,x5⟩:=five F1
 go_wp2_with fail
 refine (span_yes HS.out _ _).mono ?_
 rintro e w3 ⟨rfl,hB3⟩
 have G0:=lies.on_call F0 hB3
 have G1:=lies.on_call F1 hB3
 have G2:=lies.on_call F2 hB3
 have GB:=FB.trans (hB3.mono FB.size)
 clear F0 F1 F2 FB hB3 x0 x1 x2 x3 x4 x5
 obtain ⟨x0,x1,x2,x3,x4,x5⟩:=five G1
 go_wp2_with fail
 refine (end_any (-lo) ls _ HLO.out).mono ?_
 rintro e w4 ⟨rfl,hB4⟩
 have H0:=lies.on_call G0 hB4
 have H1:=lies.on_call G1 hB4
 have H2:=lies.on_call G2 hB4
 have HB:=GB.trans (hB4.mono GB.size)
 clear G0 G1 G2 GB hB4 x0 x1 x2 x3 x4 x5
 generalize hlb:mk (-lo) ls=lb
 have HLB:=Lib.hid hlb
 clear hlb
 have y0:w.heap.size+1<w4.heap.size:=lies.lt H1
 have y1:w.heap.size<w4.heap.size:=lies.lt H0
 have y3:=lies.cell H0 0
 have y4:=lies.cell H0 1
 have y5:w.heap.size<w4.heap.size+1:=by omega
 have y6:¬ w.heap.size=w4.heap.size+1:=by omega
 have y2:w.heap.size+1+1<w4.heap.size:=lies.lt H2
 cases op with
 | true=>
  obtain ⟨x0,x1,x2,x3,x4,x5⟩:=five H1
  go_wp2_with fail
  have K:=((HB.alloc HB.size (.cells #[.int .i64 0,.int .i64 i,.int .i64 lb] 164)).alloc (by have:=HB.size;simp;omega) (.cells #[.int .i64 i,.int .i64 0,.int .i64 9223372036854775807] 164)).alloc (by have:=HB.size;simp;omega) (.cells #[.int .i64 0,.int .i64 i,.int .i64 lb,.int .i64 i,.int .i64 0,.int .i64 9223372036854775807] 164)
  have M:=lies.made_at ((w4.alloc (.cells #[.int .i64 0,.int .i64 i,.int .i64 lb] 164)).alloc (.cells #[.int .i64 i,.int .i64 0,.int .i64 9223372036854775807] 164)) 164 #[.int .i64 0,.int .i64 i,.int .i64 lb,.int .i64 i,.int .i64 0,.int .i64 9223372036854775807] (w4.heap.size+1+1) (by simp)
  have J2:=lies.on_alloc (lies.on_alloc (lies.on_alloc H2 (.cells #[.int .i64 0,.int .i64 i,.int .i64 lb] 164)) (.cells #[.int .i64 i,.int .i64 0,.int .i64 9223372036854775807] 164)) (.cells #[.int .i64 0,.int .i64 i,.int .i64 lb,.int .i64 i,.int .i64 0,.int .i64 9223372036854775807] 164)
  generalize (((w4.alloc (.cells #[.int .i64 0,.int .i64 i,.int .i64 lb] 164)).alloc (.cells #[.int .i64 i,.int .i64 0,.int .i64 9223372036854775807] 164)).alloc (.cells #[.int .i64 0,.int .i64 i,.int .i64 lb,.int .i64 i,.int .i64 0,.int .i64 9223372036854775807] 164))=w5 at K M J2 ⊢
  clear H0 H1 H2 HB x0 x1 x2 x3 x4 x5 y0 y1 y2 y3 y4 y5 y6
  refine (with_any n b off cap (w4.heap.size+1+1) 0 2 2 ts [(0,i,lb),(i,0,9223372036854775807)] w5 h0 hn (HR.out.below K hb) (Nat.lt_of_lt_of_le hb K.size) HT.out HL.out (row_two M) (lies.lt M) rfl (by omega) (two_in h0 hi')).mono ?_
  rintro e w6 ⟨hB6,na,aa,la,ca,vs,f,rfl,hA,hK⟩
  have L2:=lies.on_call J2 hB6
  have LB:=K.trans (hB6.mono K.size)
  have hs4:=lies.lt J2
  have hs5:=K.size
  clear J2 M K hB6
  obtain ⟨x0,x1,x2,x3,x4⟩:=lies.two L2
  go_wp2_with fail
  refine bodyPost_ret (v:=.tuple #[.agg #[.int .i64 na,.slice aa la ca],.int .i64 f]) (by simp [results,Tryz.results96,go_sem,x0,x1]) rfl ⟨ret3 LB (by omega) _ _,na,aa,la,ca,vs,f,rfl,.inr ⟨_,rfl,by unfold btwL hiB;rw [HLB.out];exact hA⟩,?_⟩
  exact ((hK.far hs4 0 _).far hs4 1 _).mono hs5
 | false=>
  have HHI:=Lib.hid (show In hi by rcases HS.out.2 with h | h;exact absurd h.1 (by decide);exact h.2.1)
  obtain ⟨x0,x1,x2,x3,x4,x5⟩:=five H1
  go_wp2_with fail
  have K:=(HB.alloc HB.size (.cells #[.int .i64 0,.int .i64 i,.int .i64 lb] 164)).alloc (by have:=HB.size;simp;omega) (.cells #[.int .i64 i,.int .i64 0,.int .i64 9223372036854775807] 164)
  have N0:=lies.on_alloc (lies.made w4 164 #[.int .i64 0,.int .i64 i,.int .i64 lb]) (.cells #[.int .i64 i,.int .i64 0,.int .i64 9223372036854775807] 164)
  have N1:=lies.made_at (w4.alloc (.cells #[.int .i64 0,.int .i64 i,.int .i64 lb] 164)) 164 #[.int .i64 i,.int .i64 0,.int .i64 9223372036854775807] (w4.heap.size+1) (World.size_alloc _ _)
  have J0:=lies.on_alloc (lies.on_alloc H0 (.cells #[.int .i64 0,.int .i64 i,.int .i64 lb] 164)) (.cells #[.int .i64 i,.int .i64 0,.int .i64 9223372036854775807] 164)
  have J2:=lies.on_alloc (lies.on_alloc H2 (.cells #[.int .i64 0,.int .i64 i,.int .i64 lb] 164)) (.cells #[.int .i64 i,.int .i64 0,.int .i64 9223372036854775807] 164)
  clear H0 H1 H2 HB x0 x1 x2 x3 x4 x5 y3 y4 y5 y6
  generalize w4.heap.size=A at N0 N1 y0 y1 y2 ⊢
  generalize (w4.alloc (.cells #[.int .i64 0,.int .i64 i,.int .i64 lb] 164)).alloc (.cells #[.int .i64 i,.int .i64 0,.int .i64 9223372036854775807] 164)=w5 at N0 N1 J0 J2 K ⊢
  refine (end_any hi hs _ HHI.out).mono ?_
  rintro e w6 ⟨rfl,hB6⟩
  replace N0:=lies.on_call N0 hB6
  replace N1:=lies.on_call N1 hB6
  replace J0:=lies.on_call J0 hB6
  replace J2:=lies.on_call J2 hB6
  replace K:=K.trans (hB6.mono K.size)
  clear hB6
  generalize hhb:mk hi hs=hb'
  have HHB:=Lib.hid hhb
  clear hhb
  have a0:=lies.cell N0 0
  have a1:=lies.cell N0 1
  have a2:=lies.cell N0 2
  have b0:=lies.cell N1 0
  have b1:=lies.cell N1 1
  have b2:=lies.cell N1 2
  have b3:=lies.free N1 2
  have b4:=lies.lt N1
  have d0:=lies.cell J0 0
  have d1:=lies.cell J0 1
  go_wp2_with fail
  have K7:=(K.setCell (p:=⟨A+1,2,none⟩) (show w.heap.size≤A+1 by omega) (.int .i64 hb')).alloc (by have:=K.size;simp;omega) (.cells #[.int .i64 0,.int .i64 i,.int .i64 lb,.int .i64 i,.int .i64 0,.int .i64 hb'] 164)
  have M:=lies.made_at (w6.setCell ⟨A+1,2,none⟩ (.int .i64 hb')) 164 #[.int .i64 0,.int .i64 i,.int .i64 lb,.int .i64 i,.int .i64 0,.int .i64 hb'] w6.heap.size (by simp)
  have J3:=lies.on_alloc (lies.on_far J2 (b:=A+1) 2 (by omega) (.int .i64 hb')) (.cells #[.int .i64 0,.int .i64 i,.int .i64 lb,.int .i64 i,.int .i64 0,.int .i64 hb'] 164)
  clear N0 N1 J0 J2 K a0 a1 a2 b0 b1 b2 b3 b4 d0 d1
  generalize (w6.setCell ⟨A+1,2,none⟩ (.int .i64 hb')).alloc (.cells #[.int .i64 0,.int .i64 i,.int .i64 lb,.int .i64 i,.int .i64 0,.int .i64 hb'] 164)=w7 at K7 M J3 ⊢
  refine (with_any n b off cap w6.heap.size 0 2 2 ts [(0,i,lb),(i,0,hb')] w7 h0 hn (HR.out.below K7 hb) (Nat.lt_of_lt_of_le hb K7.size) HT.out HL.out (row_two M) (lies.lt M) rfl (by omega) (two_in h0 hi')).mono ?_
  rintro e w8 ⟨hB8,na,aa,la,ca,vs,f,rfl,hA,hK⟩
  have L2:=lies.on_call J3 hB8
  have LB:=K7.trans (hB8.mono K7.size)
  have hs4:=lies.lt J3
  have hs5:=K7.size
  clear J3 M K7 hB8
  obtain ⟨x0,x1,x2,x3,x4⟩:=lies.two L2
  go_wp2_with fail
  refine bodyPost_ret (v:=.tuple #[.agg #[.int .i64 na,.slice aa la ca],.int .i64 f]) (by simp [results,Tryz.results96,go_sem,x0,x1]) rfl ⟨ret3 LB (by omega) _ _,na,aa,la,ca,vs,f,rfl,.inr ⟨_,rfl,by unfold btwL hiB;rw [HLB.out,if_neg (by decide),HHB.out];exact hA⟩,?_⟩
  exact ((hK.far hs4 0 _).far hs4 1 _).mono hs5
theorem btw_any (n i lo hi:Int) (ls hs op:Bool) (sv:Value) (ts:List Int) (w:World) (hI:law.Ints w.heap.size w sv ts) (hm:ts.length≤1000000) (htop:Tops ts):
  Calls Tryz.prog 96 #[.agg #[.int .i64 n,sv],.int .i64 i,.agg #[.int .i64 lo,.bool ls,.int .i64 hi,.bool hs,.bool op]] w (Tells n (btwQ n ts i lo ls hi hs op) (btwE n ts i) w):=by
 by_cases h:MayD n ts
 ·by_cases hc:Clk n i
  ·have e1:btwE n ts i=8:=if_neg (fun x=>x.2 hc)
   by_cases hsp:MayS lo hi hs op
   ·have e2:btwQ n ts i lo ls hi hs op=some (btwL n.toNat ts i.toNat lo ls hi hs op):=if_pos ⟨h,hc,hsp⟩
    rw [e1,e2]
    obtain ⟨m,rfl,h0,hn,hl⟩:=may_nat h
    obtain ⟨p,rfl⟩:∃ p:Nat,i=p:=⟨i.toNat,by have:=hc.1;omega⟩
    have hpp:0<m*m:=Nat.mul_pos h0 h0
    rcases hI with ⟨_,rfl⟩ | ⟨b,off,cap,rfl,hb,hr⟩
    ·simp at hl;omega
    ·rw [hl]
     exact btw_ok m p lo hi ls hs op b off cap ts w h0 hn hr hb htop h hl (by have:=hc.2;omega) hsp
   ·have e2:btwQ n ts i lo ls hi hs op=none:=if_neg (fun x=>hsp x.2.2)
    rw [e1,e2]
    exact btw_span n i lo hi ls hs op sv ts w hI htop h hc hsp
  ·have e1:btwE n ts i=2:=if_pos ⟨h,hc⟩
   have e2:btwQ n ts i lo ls hi hs op=none:=if_neg (fun x=>hc x.2.1)
   rw [e1,e2]
   exact btw_clock n i lo hi ls hs op sv ts w hI htop h hc
 ·have e1:btwE n ts i=8:=if_neg (fun x=>h x.1)
  have e2:btwQ n ts i lo ls hi hs op=none:=if_neg (fun x=>h x.1)
  rw [e1,e2]
  exact btw_bad n i lo hi ls hs op sv ts w hI hm htop h
end Go.Proofs.YthmljpccbjolgaaGreatDoor.tight
