
/-
  ZsetPoints answers true (the walk) for every two sets, and point; the listed variables read as the program lays them.
-/
import Derived.Test.YthmljpccbjolgaaGreatDoorZsetL
import Derived.BigQuiet
namespace Go.Proofs.YthmljpccbjolgaaGreatDoor.zsetPoints
open Go.Joins Go.ChangeShapes Go.WideShapes Go.ChangeAt Go.RowKit num rat dbm Go.Proofs.YthmljpccbjolgaaGreatDoor.tight Go.Proofs.YthmljpccbjolgaaGreatDoor.incl Go.Proofs.YthmljpccbjolgaaGreatDoor.plaw Go.Proofs.YthmljpccbjolgaaGreatDoor.zopen Go.Proofs.YthmljpccbjolgaaGreatDoor.zone Go.Proofs.YthmljpccbjolgaaGreatDoor.zlaw Go.Proofs.YthmljpccbjolgaaGreatDoor.comp Go.Proofs.YthmljpccbjolgaaGreatDoor.win Go.Proofs.YthmljpccbjolgaaGreatDoor.minus Go.Proofs.YthmljpccbjolgaaGreatDoor.mz Go.Proofs.YthmljpccbjolgaaGreatDoor.mlaw Go.Proofs.YthmljpccbjolgaaGreatDoor.cover Go.Proofs.YthmljpccbjolgaaGreatDoor.claw Go.Proofs.YthmljpccbjolgaaGreatDoor.zset Go.Proofs.YthmljpccbjolgaaGreatDoor.slaw
open bound hiding up
set_option linter.unusedVariables false
set_option linter.unusedSimpArgs false
theorem points_or {a b r:List (List Int)} {p:Pt} {x y u:Bool} {i:Int} (ha:Six a) (hb:Six b) (la:a.length≤4) (lb:b.length≤4) (hx:HasX a p x 0) (hy:HasX b p y 0) (h:OrX RestP a b r 0) (hu:HasX r p u i):(i=0∧u=(x || y))∧(∀ z,z ∈ r→Zo z)∧r.length≤18∧Srt r∧∀ z,z ∈ r→cover.Own r z:=by
 obtain ⟨_,_,k1,k2,k3,k4,k5⟩:=or_fine ha hb h
 obtain ⟨m,x1⟩:=has_told hx
 obtain ⟨_,y1⟩:=has_told hy
 obtain ⟨e,u1⟩:=has_fine k1 (by omega) m hu
 refine ⟨⟨e,?_⟩,k1,by omega,k3,k4⟩
 rw [Bool.eq_iff_iff,u1,k5 p m,Bool.or_eq_true,x1,y1]
theorem points_and {a b r:List (List Int)} {p:Pt} {x y u:Bool} {i:Int} (ha:Six a) (hb:Six b) (la:a.length≤4) (lb:b.length≤4) (hx:HasX a p x 0) (hy:HasX b p y 0) (h:BothX RestP MetT a b r 0) (hu:HasX r p u i):(i=0∧u=(x && y))∧(∀ z,z ∈ r→Zo z)∧r.length≤18∧Srt r∧∀ z,z ∈ r→cover.Own r z:=by
 obtain ⟨_,_,k1,k2,k3,k4⟩:=both_fine meet_zo ha hb h
 have k2:r.length≤4*4:=Nat.le_trans k2 (Nat.mul_le_mul la lb)
 obtain ⟨m,x1⟩:=has_told hx
 obtain ⟨_,y1⟩:=has_told hy
 obtain ⟨e,u1⟩:=has_fine k1 (by omega) m hu
 refine ⟨⟨e,?_⟩,k1,by omega,k3,k4⟩
 rw [Bool.eq_iff_iff,u1,both_has (Q:=fun y z p=>hasP y p=true∧hasP z p=true) m meet_zo (meet_p0 m) (meet_p6 m) ha hb h,Bool.and_eq_true,x1,y1]
 exact ⟨fun ⟨y,hy,z,hz,k,j⟩=>⟨⟨y,hy,k⟩,z,hz,j⟩,fun ⟨⟨y,hy,k⟩,z,hz,j⟩=>⟨y,hy,z,hz,k,j⟩⟩
set_option maxRecDepth 100000 in
set_option maxHeartbeats 32000000 in
theorem walk (v:Value) (l:List (List Int)) (u:Value) (b:List (List Int)) (pa pb pc pd:Int) (w:World) (hp:∀ x ∈ [pa,pb,pc,pd],-9223372036854775808≤x∧x≤9223372036854775807) (hwf:Wf6 l) (hI:Zs w.heap.size w v l) (hm:l.length≤maxLen) (hc:∀ a l c,v=.slice a l c→l≤c) (hwg:Wf6 b) (hJ:Zs w.heap.size w u b) (hn:b.length≤maxLen) (hd:∀ a l c,u=.slice a l c→l≤c) (hP:Pl w) (hA:Pa w):Calls Tryz.prog 7 #[v,u,.agg #[.int .i64 pa,.int .i64 pb,.int .i64 pc,.int .i64 pd]] w fun e w'=>e=.returned (.bool true)∧Below w.heap.size w w':=by
 have HF:=Lib.hid hp
 clear hp
 obtain ⟨aa,ca,rfl⟩:=zs_len hI
 have H6a:=Lib.hid (show Six l from fun z hz=>⟨(hwf z hz).1,hwf.tops hz⟩)
 have HVa:=Lib.hid hI
 clear hwf hI hm hc
 obtain ⟨na,hna⟩:∃ n,n=l.length:=⟨_,rfl⟩
 have HLa:=Lib.hid hna.symm
 rw [←hna] at HVa ⊢
 clear hna
 obtain ⟨ab,cb,rfl⟩:=zs_len hJ
 have H6b:=Lib.hid (show Six b from fun z hz=>⟨(hwg z hz).1,hwg.tops hz⟩)
 have HVb:=Lib.hid hJ
 clear hwg hJ hn hd
 obtain ⟨nb,hnb⟩:∃ n,n=b.length:=⟨_,rfl⟩
 have HLb:=Lib.hid hnb.symm
 rw [←hnb] at HVb ⊢
 clear hnb
 have X:∃ w0,w0=w.alloc (.cells #[.int .i64 pa,.int .i64 pb,.int .i64 pc,.int .i64 pd] 47):=⟨_,rfl⟩
 obtain ⟨w0,hX⟩:=X
 have DB:Below w.heap.size w w0:=by rw [hX];exact bound.up1 w _
 have DP:lies.Lies w0 w.heap.size 47 #[.int .i64 pa,.int .i64 pb,.int .i64 pc,.int .i64 pd]:=by rw [hX];exact lies.made _ _ _
 have P0:=hP.on DB
 have PA:=hA.on DB
 replace HVa:=Lib.hid ((HVa.out.below DB).mono DB.size)
 replace HVb:=Lib.hid ((HVb.out.below DB).mono DB.size)
 clear hP hA
 go_enter Tryz.func7,Tryz.ntmps7
 go_wp2_with fail
 rw [←hX]
 clear hX
 refine (slaw.alive_yes w0 P0).mono ?_
 rintro e w1 ⟨rfl,hB⟩
 replace PA:=PA.on hB
 replace DP:=lies.on_call DP hB
 replace HVa:=Lib.hid ((HVa.out.below hB).mono hB.size)
 replace HVb:=Lib.hid ((HVb.out.below hB).mono hB.size)
 replace P0:=P0.on hB
 replace DB:=later DB hB
 clear hB
 by_cases ha:na≤4
 case neg=>
  have hai:(4:Int)<(na:Int):=by omega
  go_wp2_with fail
  go_ret
  exact ⟨rfl,DB⟩
 have hai:¬ (4:Int)<(na:Int):=by omega
 by_cases hb:nb≤4
 case neg=>
  have hbi:(4:Int)<(nb:Int):=by omega
  go_wp2_with fail
  go_ret
  exact ⟨rfl,DB⟩
 have hbi:¬ (4:Int)<(nb:Int):=by omega
 obtain ⟨⟨kDP_0,kDP_1,kDP_2,kDP_3⟩,-⟩:=four_cells DP
 have kDP_l:=lies.lt DP
 go_wp2_with fail
 clear kDP_0 kDP_1 kDP_2 kDP_3 kDP_l
 refine (zhas_gen aa na ca l pa pb pc pd w1 P0 PA (fun _=>⟨HVa.out,H6a.out⟩) HLa.out HF.out).mono ?_
 rintro e w2 ⟨hB,qx,ex,rfl,hR⟩
 have HRx:=Lib.hid hR
 replace PA:=PA.on hB
 replace DP:=lies.on_call DP hB
 replace HVa:=Lib.hid ((HVa.out.below hB).mono hB.size)
 replace HVb:=Lib.hid ((HVb.out.below hB).mono hB.size)
 replace P0:=P0.on hB
 replace DB:=later DB hB
 clear hB hR
 obtain ⟨⟨kDP_0,kDP_1,kDP_2,kDP_3⟩,-⟩:=four_cells DP
 have kDP_l:=lies.lt DP
 go_wp2_with fail
 clear kDP_0 kDP_1 kDP_2 kDP_3 kDP_l
 refine (zhas_gen ab nb cb b pa pb pc pd w2 P0 PA (fun _=>⟨HVb.out,H6b.out⟩) HLb.out HF.out).mono ?_
 rintro e w3 ⟨hB,qy,ey,rfl,hR⟩
 have HRy:=Lib.hid hR
 replace PA:=PA.on hB
 replace DP:=lies.on_call DP hB
 replace HVa:=Lib.hid ((HVa.out.below hB).mono hB.size)
 replace HVb:=Lib.hid ((HVb.out.below hB).mono hB.size)
 replace P0:=P0.on hB
 replace DB:=later DB hB
 clear hB hR
 by_cases kx:ex=0
 case neg=>
  have kb:(ex==0)=false:=beq_eq_false_iff_ne.2 kx
  go_wp2_with fail
  go_ret
  exact ⟨rfl,DB⟩
 subst kx
 by_cases ky:ey=0
 case neg=>
  have kb:(ey==0)=false:=beq_eq_false_iff_ne.2 ky
  go_wp2_with fail
  go_ret
  exact ⟨rfl,DB⟩
 subst ky
 go_wp2_with fail
 refine (or_gen aa na ca l ab nb cb b w3 P0 (fun _ _=>⟨⟨HVa.out,H6a.out⟩,HVb.out,H6b.out⟩) HLa.out HLb.out).mono ?_
 rintro e w4 ⟨hB,vr,r,er,rfl,hR,hO⟩
 obtain ⟨ar,cr,rfl⟩:=zs_len (zs_own hO)
 have HVr:=Lib.hid (zs_own hO)
 have HRr:=Lib.hid hR
 replace PA:=PA.on hB
 replace DP:=lies.on_call DP hB
 replace HVa:=Lib.hid ((HVa.out.below hB).mono hB.size)
 replace HVb:=Lib.hid ((HVb.out.below hB).mono hB.size)
 replace P0:=P0.on hB
 replace DB:=later DB hB
 clear hB hR hO
 have hsx:=or_six H6a.out H6b.out HRr.out
 have H6r:=Lib.hid hsx.1
 have HSr:=Lib.hid hsx.2
 clear hsx
 generalize hn:r.length=nr at HVr ⊢
 have HLr:=Lib.hid hn
 clear hn
 go_wp2_with fail
 refine (and_gen aa na ca l ab nb cb b w4 P0 (fun _ _=>⟨⟨HVa.out,H6a.out⟩,HVb.out,H6b.out⟩) HLa.out HLb.out).mono ?_
 rintro e w5 ⟨hB,vd,rd,ed,rfl,hR,hO⟩
 obtain ⟨ad,cd,rfl⟩:=zs_len (zs_own hO)
 have HVd:=Lib.hid (zs_own hO)
 have HRd:=Lib.hid hR
 replace PA:=PA.on hB
 replace DP:=lies.on_call DP hB
 replace HVa:=Lib.hid ((HVa.out.below hB).mono hB.size)
 replace HVb:=Lib.hid ((HVb.out.below hB).mono hB.size)
 replace HVr:=Lib.hid ((HVr.out.below hB).mono hB.size)
 replace P0:=P0.on hB
 replace DB:=later DB hB
 clear hB hR hO
 have hsx:=both_six meet_zo H6a.out H6b.out HRd.out
 have H6d:=Lib.hid hsx.1
 have HSd:=Lib.hid hsx.2
 clear hsx
 generalize hn:rd.length=nd at HVd ⊢
 have HLd:=Lib.hid hn
 clear hn
 obtain ⟨⟨kDP_0,kDP_1,kDP_2,kDP_3⟩,-⟩:=four_cells DP
 have kDP_l:=lies.lt DP
 go_wp2_with fail
 clear kDP_0 kDP_1 kDP_2 kDP_3 kDP_l
 refine (zhas_gen ar nr cr r pa pb pc pd w5 P0 PA (fun _=>⟨HVr.out,H6r.out⟩) HLr.out HF.out).mono ?_
 rintro e w6 ⟨hB,qu,eu,rfl,hR⟩
 have HRu:=Lib.hid hR
 replace PA:=PA.on hB
 replace DP:=lies.on_call DP hB
 replace HVa:=Lib.hid ((HVa.out.below hB).mono hB.size)
 replace HVb:=Lib.hid ((HVb.out.below hB).mono hB.size)
 replace HVr:=Lib.hid ((HVr.out.below hB).mono hB.size)
 replace HVd:=Lib.hid ((HVd.out.below hB).mono hB.size)
 replace P0:=P0.on hB
 replace DB:=later DB hB
 clear hB hR
 obtain ⟨⟨kDP_0,kDP_1,kDP_2,kDP_3⟩,-⟩:=four_cells DP
 have kDP_l:=lies.lt DP
 go_wp2_with fail
 clear kDP_0 kDP_1 kDP_2 kDP_3 kDP_l
 refine (zhas_gen ad nd cd rd pa pb pc pd w6 P0 PA (fun _=>⟨HVd.out,H6d.out⟩) HLd.out HF.out).mono ?_
 rintro e w7 ⟨hB,qt,et,rfl,hR⟩
 have HRt:=Lib.hid hR
 replace PA:=PA.on hB
 replace DP:=lies.on_call DP hB
 replace HVa:=Lib.hid ((HVa.out.below hB).mono hB.size)
 replace HVb:=Lib.hid ((HVb.out.below hB).mono hB.size)
 replace HVr:=Lib.hid ((HVr.out.below hB).mono hB.size)
 replace HVd:=Lib.hid ((HVd.out.below hB).mono hB.size)
 replace P0:=P0.on hB
 replace DB:=later DB hB
 clear hB hR
 clear DP
 clear PA
 have hla:l.length≤4:=by rw [HLa.out];exact ha
 have hlb:b.length≤4:=by rw [HLb.out];exact hb
 clear HVa HVb
 cases qx<;>cases qy
 all_goals
  by_cases kr:er=0
  ·subst kr
   obtain ⟨⟨rfl,hu⟩,hz,h18,hsr,how⟩:=points_or H6a.out H6b.out hla hlb HRx.out HRy.out HRr.out HRu.out
   have HZ:=Lib.hid hz
   have HSR:=Lib.hid hsr
   have HOW:=Lib.hid how
   clear hz hsr how
   simp only [Bool.or_true,Bool.or_false,Bool.true_or,Bool.false_or,Bool.or_self] at hu
   subst hu
   go_wp2_with fail
   refine (wanted_any ar nr cr r w7 P0 HVr.out HLr.out HZ.out h18 HSR.out HOW.out).mono ?_
   rintro e w8 ⟨rfl,hB⟩
   replace HVr:=Lib.hid ((HVr.out.below hB).mono hB.size)
   replace HVd:=Lib.hid ((HVd.out.below hB).mono hB.size)
   replace P0:=P0.on hB
   replace DB:=later DB hB
   clear hB
   clear HZ HSR HOW h18
   by_cases ks:ed=0
   ·subst ks
    obtain ⟨⟨rfl,hu⟩,hz,h18,hsr,how⟩:=points_and H6a.out H6b.out hla hlb HRx.out HRy.out HRd.out HRt.out
    have HZ:=Lib.hid hz
    have HSR:=Lib.hid hsr
    have HOW:=Lib.hid how
    clear hz hsr how
    simp only [Bool.and_true,Bool.and_false,Bool.true_and,Bool.false_and,Bool.and_self] at hu
    subst hu
    go_wp2_with fail
    refine (wanted_any ad nd cd rd w8 P0 HVd.out HLd.out HZ.out h18 HSR.out HOW.out).mono ?_
    rintro e w9 ⟨rfl,hB⟩
    replace HVr:=Lib.hid ((HVr.out.below hB).mono hB.size)
    replace HVd:=Lib.hid ((HVd.out.below hB).mono hB.size)
    replace P0:=P0.on hB
    replace DB:=later DB hB
    clear hB
    go_wp2_with fail
    go_ret
    exact ⟨rfl,DB⟩
   ·skip
    have kb:(ed==0)=false:=beq_eq_false_iff_ne.2 ks
    go_wp2_with fail
    go_ret
    exact ⟨rfl,DB⟩
  ·skip
   have kc:(er==0)=false:=beq_eq_false_iff_ne.2 kr
   by_cases ks:ed=0
   ·subst ks
    obtain ⟨⟨rfl,hu⟩,hz,h18,hsr,how⟩:=points_and H6a.out H6b.out hla hlb HRx.out HRy.out HRd.out HRt.out
    have HZ:=Lib.hid hz
    have HSR:=Lib.hid hsr
    have HOW:=Lib.hid how
    clear hz hsr how
    simp only [Bool.and_true,Bool.and_false,Bool.true_and,Bool.false_and,Bool.and_self] at hu
    subst hu
    go_wp2_with fail
    refine (wanted_any ad nd cd rd w7 P0 HVd.out HLd.out HZ.out h18 HSR.out HOW.out).mono ?_
    rintro e w8 ⟨rfl,hB⟩
    replace HVr:=Lib.hid ((HVr.out.below hB).mono hB.size)
    replace HVd:=Lib.hid ((HVd.out.below hB).mono hB.size)
    replace P0:=P0.on hB
    replace DB:=later DB hB
    clear hB
    go_wp2_with fail
    go_ret
    exact ⟨rfl,DB⟩
   ·skip
    have kb:(ed==0)=false:=beq_eq_false_iff_ne.2 ks
    go_wp2_with fail
    go_ret
    exact ⟨rfl,DB⟩
end Go.Proofs.YthmljpccbjolgaaGreatDoor.zsetPoints
