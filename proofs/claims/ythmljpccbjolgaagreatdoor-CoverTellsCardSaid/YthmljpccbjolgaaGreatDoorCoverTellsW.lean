
/-
  CoverTells answers true (the walk) for every zone, and two lists of zones; the listed variable reads as the program lays it.
-/
import Derived.Test.YthmljpccbjolgaaGreatDoorCoverL
import Derived.Test.YthmljpccbjolgaaGreatDoorCoverV
import Derived.Test.YthmljpccbjolgaaGreatDoorCoverR
import Derived.BigQuiet
namespace Go.Proofs.YthmljpccbjolgaaGreatDoor.coverTells
open Go.Joins Go.ChangeShapes Go.WideShapes Go.ChangeAt Go.RowKit num rat dbm Go.Proofs.YthmljpccbjolgaaGreatDoor.tight Go.Proofs.YthmljpccbjolgaaGreatDoor.incl Go.Proofs.YthmljpccbjolgaaGreatDoor.plaw Go.Proofs.YthmljpccbjolgaaGreatDoor.zopen Go.Proofs.YthmljpccbjolgaaGreatDoor.zone Go.Proofs.YthmljpccbjolgaaGreatDoor.zlaw Go.Proofs.YthmljpccbjolgaaGreatDoor.win Go.Proofs.YthmljpccbjolgaaGreatDoor.minus Go.Proofs.YthmljpccbjolgaaGreatDoor.mz Go.Proofs.YthmljpccbjolgaaGreatDoor.mlaw Go.Proofs.YthmljpccbjolgaaGreatDoor.cover Go.Proofs.YthmljpccbjolgaaGreatDoor.claw dref mref cref
open bound hiding up
set_option linter.unusedVariables false
set_option linter.unusedSimpArgs false
theorem pru_small {l r:List (List Int)} {f:Int} (hl:Six l) (l6:l.length≤6) (h:PruX RestP l r f):r.length≤1000000∧∀ z,z ∈ r→z.length=6:=by
 by_cases e:f=0
 ·subst e
  obtain ⟨_,zr,lr,_⟩:=pru_ok hl l6 h
  exact ⟨by omega,fun z hz=>(zr z hz).2.2⟩
 ·rw [pru_err hl l6 h e]
  exact ⟨Nat.zero_le _,fun z hz=>by cases hz⟩
theorem pru_one {l r r':List (List Int)} {f f':Int} (hl:Six l) (l6:l.length≤6) (h:PruX RestP l r f) (k:PruX RestR l r' f'):(r'=r∧f'=f)∧r.length≤1000000∧∀ z,z ∈ r→z.length=6:=
 ⟨pru_same (pru_six hl (by have:=srt_len l;omega) h) k,pru_small hl l6 h⟩
def Bump (W:World) (v:Value) (n:Nat):Prop:=∀ k,k<n→∃ g cap cur,v=.slice (some ⟨g,0,none⟩) n cap∧W.heap[g]?=some (.cells cur 27 (0,0))∧∀ j,j<n→∃ x:Int,cur[j*6]?=some (.int .i64 x)
theorem bump_of {W:World} {base:Nat} {v:Value} {zs:List (List Int)} (h:W.ownsRow base 27 6 v zs.length (flatZ zs)):Bump W v zs.length:=fun k hk=>by
 have hx:=h.1
 rcases h.2 with ⟨_,h0⟩ | ⟨g,cap,cur,rfl,h1,h2,h3,h4,h5,h6⟩
 ·omega
 ·refine ⟨g,cap,cur,rfl,h2,fun j hj=>⟨(zat zs j)[0]?.getD 0,?_⟩⟩
  have e:=flatZ_at zs j 0 hj (by decide)
  rw [←h6,List.getElem?_take,if_pos (by omega),Nat.add_zero,Array.getElem?_toList] at e
  exact e
theorem bump_put {W:World} {g n cap k:Nat} {cur:Array Value} {x:Int} (h:W.heap[g]?=some (.cells cur 27 (0,0))) (hc:∀ j,j<n→∃ x:Int,cur[j*6]?=some (.int .i64 x)):Bump (W.setCell ⟨g,k*6,none⟩ (.int .i64 x)) (.slice (some ⟨g,0,none⟩) n cap) n:=fun m hm=>by
 have h':lies.Lies W g 27 cur:=h
 refine ⟨g,cap,_,rfl,lies.on_put h' (k*6) (.int .i64 x),fun j hj=>?_⟩
 obtain ⟨y,hy⟩:=hc j hj
 have hlt:=(Array.getElem?_eq_some_iff.1 hy).1
 by_cases e:k*6=j*6
 ·exact ⟨x,by rw [e,Array.getElem?_setIfInBounds_self_of_lt hlt]⟩
 ·exact ⟨y,by rw [Array.getElem?_setIfInBounds_ne e];exact hy⟩
theorem cell_is {W:World} {g i:Nat} {cur:Array Value} {t:TypeId} {u:Value} (h:W.heap[g]?=some (.cells cur t (0,0))) (hi:cur[i]?=some u):W.cell? ⟨g,i,none⟩=some u∧W.frozen? ⟨g,i,none⟩=false∧g<W.heap.size:=by
 refine ⟨by simp [World.cell?,h,hi],by simp [World.frozen?,h],(Array.getElem?_eq_some_iff.1 h).1⟩
set_option maxRecDepth 100000 in
set_option maxHeartbeats 32000000 in
theorem walk (a0 a1 a2 a3 a4 a5:Int) (v:Value) (l:List (List Int)) (u:Value) (b:List (List Int)) (w:World) (ha:∀ x ∈ [a0,a1,a2,a3,a4,a5],-9223372036854775808≤x∧x≤9223372036854775807) (hwf:Wf6 l) (hI:Zs w.heap.size w v l) (hm:l.length≤maxLen) (hc:∀ a l c,v=.slice a l c→l≤c) (hwg:Wf6 b) (hJ:Zs w.heap.size w u b) (hn:b.length≤maxLen) (hd:∀ a l c,u=.slice a l c→l≤c) (hP:Pl w):Calls Tryz.prog 11 #[.agg #[.int .i64 a0,.int .i64 a1,.int .i64 a2,.int .i64 a3,.int .i64 a4,.int .i64 a5],v,u] w fun e w'=>e=.returned (.bool true)∧Below w.heap.size w w':=by
 obtain ⟨ao,cap,rfl⟩:=zs_len hI
 obtain ⟨bo,capb,rfl⟩:=zs_len hJ
 have TA:=Lib.hid (show Tops [a0,a1,a2,a3,a4,a5] from fun x hx=>(ha x hx).2)
 have LA:=Lib.hid (show Low [a0,a1,a2,a3,a4,a5] from fun x hx=>(ha x hx).1)
 have H6:=Lib.hid (show Six l from fun z hz=>⟨(hwf z hz).1,hwf.tops hz⟩)
 have HLO:=Lib.hid (show ∀ z,z ∈ l→Low z from fun z hz x hx=>((hwf z hz).2 x hx).1)
 have H66:=Lib.hid (show ∀ z,z ∈ l→z.length=6 from fun z hz=>(hwf z hz).1)
 have H6B:=Lib.hid (show Six b from fun z hz=>⟨(hwg z hz).1,hwg.tops hz⟩)
 have HLB:=Lib.hid (show ∀ z,z ∈ b→Low z from fun z hz x hx=>((hwg z hz).2 x hx).1)
 have X:∃ w0,w0=w.alloc (.cells #[.int .i64 a0,.int .i64 a1,.int .i64 a2,.int .i64 a3,.int .i64 a4,.int .i64 a5] 27):=⟨_,rfl⟩
 obtain ⟨w0,hX⟩:=X
 have DB:Below w.heap.size w w0:=by rw [hX];exact bound.up1 w _
 have D0:lies.Lies w0 (w.heap.size) 27 #[.int .i64 a0,.int .i64 a1,.int .i64 a2,.int .i64 a3,.int .i64 a4,.int .i64 a5]:=by rw [hX];exact lies.made _ _ _
 have P0:=hP.on DB
 have HI:=Lib.hid ((hI.below DB).mono DB.size)
 have HJ:=Lib.hid ((hJ.below DB).mono DB.size)
 clear hP ha hwf hwg hI hJ hc hm hd hn
 by_cases h5:l.length≤6∧b.length≤6
 ·skip
  obtain ⟨h5,h7⟩:=h5
  have h5i:¬ (6:Int)<(l.length:Int):=by omega
  have h7i:¬ (6:Int)<(b.length:Int):=by omega
  have h5m:l.length≤1000000:=by omega
  have h7m:b.length≤1000000:=by omega
  have H5:=Lib.hid h5
  have H7:=Lib.hid h7
  obtain ⟨vq,wq,hrun,hown,hgrow,-⟩:=app_zones w0.heap.size 29 (.slice none 0 0) (.slice ao l.length cap) 0 _ [] l _ (World.ownsRow_nil _ _ _ _) HI.out (by omega) (Nat.le_refl _)
  rw [Nat.zero_add,List.nil_append] at hown
  have hBq:Below w0.heap.size w0 wq:=⟨hgrow.os,hgrow.tape,hgrow.output,hgrow.size,fun k hk=>hgrow.block k hk (fun e=>by cases e)⟩
  obtain ⟨vw,cw,rfl⟩:=zs_len (zs_own hown)
  have HW:=Lib.hid (zs_own hown)
  rw [hX] at hrun
  have HRUN:=Lib.hid hrun
  clear hrun hown hgrow h5 h7
  replace D0:=lies.on_call D0 hBq
  replace HI:=Lib.hid ((HI.out.below hBq).mono hBq.size)
  replace HJ:=Lib.hid ((HJ.out.below hBq).mono hBq.size)
  replace P0:=P0.on hBq
  replace DB:=later DB hBq
  clear hBq
  go_enter Tryz.func11,Tryz.ntmps11
  obtain ⟨⟨kD0_0,kD0_1,kD0_2,kD0_3,kD0_4,kD0_5⟩,-⟩:=six_cells D0
  have kD0_l:=lies.lt D0
  go_wp2_with (at_builtin;refine dref.append_run2 rfl (.const (.slice none 0 0)) (.tmp 34) 29 rfl _ _ _ _ rfl rfl HRUN.out ?_;clear HRUN)
  clear hX h5i h7i kD0_0 kD0_1 kD0_2 kD0_3 kD0_4 kD0_5 kD0_l
  refine (cover.in_any a0 a1 a2 a3 a4 a5 vw l.length cw l wq P0 TA.out HW.out H6.out rfl h5m).mono ?_
  rintro e w1 ⟨hB,i1,f1,rfl,hR⟩
  have HR1:=Lib.hid hR
  clear hR
  replace D0:=lies.on_call D0 hB
  replace HI:=Lib.hid ((HI.out.below hB).mono hB.size)
  replace HJ:=Lib.hid ((HJ.out.below hB).mono hB.size)
  replace HW:=Lib.hid ((HW.out.below hB).mono hB.size)
  replace P0:=P0.on hB
  replace DB:=later DB hB
  clear hB
  obtain ⟨⟨kD0_0,kD0_1,kD0_2,kD0_3,kD0_4,kD0_5⟩,-⟩:=six_cells D0
  have kD0_l:=lies.lt D0
  go_wp2_with fail
  clear kD0_0 kD0_1 kD0_2 kD0_3 kD0_4 kD0_5 kD0_l
  refine (rin_any a0 a1 a2 a3 a4 a5 ao l.length cap l w1 LA.out TA.out HI.out H6.out HLO.out rfl h5m).mono ?_
  rintro e w2 ⟨hB,i2,f2,rfl,hR⟩
  obtain ⟨rfl,rfl⟩:=in_same (in_six rfl TA.out H6.out H5.out HR1.out) hR
  clear hR HR1
  replace D0:=lies.on_call D0 hB
  replace HI:=Lib.hid ((HI.out.below hB).mono hB.size)
  replace HJ:=Lib.hid ((HJ.out.below hB).mono hB.size)
  replace HW:=Lib.hid ((HW.out.below hB).mono hB.size)
  replace P0:=P0.on hB
  replace DB:=later DB hB
  clear hB
  go_wp2_with fail
  refine (cover.all_any vw l.length cw l bo b.length capb b w2 P0 HW.out H6.out rfl h5m HJ.out H6B.out rfl h7m).mono ?_
  rintro e w3 ⟨hB,i3,f3,rfl,hR⟩
  have HR1:=Lib.hid hR
  clear hR
  replace D0:=lies.on_call D0 hB
  replace HI:=Lib.hid ((HI.out.below hB).mono hB.size)
  replace HJ:=Lib.hid ((HJ.out.below hB).mono hB.size)
  replace HW:=Lib.hid ((HW.out.below hB).mono hB.size)
  replace P0:=P0.on hB
  replace DB:=later DB hB
  clear hB
  go_wp2_with fail
  refine (rall_any ao l.length cap bo b.length capb l b w3 HI.out HJ.out H6.out H6B.out HLO.out HLB.out rfl rfl h5m h7m).mono ?_
  rintro e w4 ⟨hB,i4,f4,rfl,hR⟩
  obtain ⟨rfl,rfl⟩:=all_same (all_six H6.out H6B.out H7.out HR1.out) hR
  clear hR HR1
  replace D0:=lies.on_call D0 hB
  replace HI:=Lib.hid ((HI.out.below hB).mono hB.size)
  replace HJ:=Lib.hid ((HJ.out.below hB).mono hB.size)
  replace HW:=Lib.hid ((HW.out.below hB).mono hB.size)
  replace P0:=P0.on hB
  replace DB:=later DB hB
  clear hB
  go_wp2_with fail
  obtain ⟨WB,hWB⟩:∃ WB,WB=w4:=⟨_,rfl⟩
  have HWB:=HW
  rw [←hWB] at HWB
  have HIB:=HI
  rw [←hWB] at HIB
  have hwb:=DB.size
  rw [←hWB] at hwb
  refine (cover.prune_any vw l.length cw l w4 P0 HW.out H6.out rfl h5m).mono ?_
  rintro e w5 ⟨hB,v5,r5,f5,rfl,hR,hO⟩
  have hBB:=hB
  rw [←hWB] at hBB hO
  have HBB:=Lib.hid hBB
  have hZ:=zs_own hO
  obtain ⟨p3,q3,rfl⟩:=zs_len hZ
  have HV3:=Lib.hid hZ
  have HR3:=Lib.hid hR
  have HO3:=Lib.hid hO
  clear hZ hO hR hBB
  replace D0:=lies.on_call D0 hB
  replace HI:=Lib.hid ((HI.out.below hB).mono hB.size)
  replace HJ:=Lib.hid ((HJ.out.below hB).mono hB.size)
  replace HW:=Lib.hid ((HW.out.below hB).mono hB.size)
  replace P0:=P0.on hB
  replace DB:=later DB hB
  clear hB
  go_wp2_with fail
  refine (rprune_any ao l.length cap l w5 HI.out H6.out HLO.out rfl h5m).mono ?_
  rintro e w6 ⟨hB,v6,r6,f6,rfl,hR,hO⟩
  replace HBB:=Lib.hid (HBB.out.trans (hB.mono HBB.out.size))
  replace HO3:=Lib.hid (incl.own_call HO3.out hB)
  obtain ⟨⟨rfl,rfl⟩,kl3,k6⟩:=pru_one H6.out H5.out HR3.out hR
  have hZ:=zs_own hO
  obtain ⟨p4,q4,rfl⟩:=zs_len hZ
  have HV4:=Lib.hid hZ
  have HK63:=Lib.hid k6
  clear hZ hO hR HR3 k6
  replace D0:=lies.on_call D0 hB
  replace HI:=Lib.hid ((HI.out.below hB).mono hB.size)
  replace HJ:=Lib.hid ((HJ.out.below hB).mono hB.size)
  replace HW:=Lib.hid ((HW.out.below hB).mono hB.size)
  replace HV3:=Lib.hid ((HV3.out.below hB).mono hB.size)
  replace P0:=P0.on hB
  replace DB:=later DB hB
  clear hB
  obtain ⟨⟨kD0_0,kD0_1,kD0_2,kD0_3,kD0_4,kD0_5⟩,-⟩:=six_cells D0
  have kD0_l:=lies.lt D0
  go_wp2_with fail
  clear kD0_0 kD0_1 kD0_2 kD0_3 kD0_4 kD0_5 kD0_l
  refine (cover.witness_any a0 a1 a2 a3 a4 a5 vw l.length cw l w6 P0 TA.out HW.out H6.out rfl h5m).mono ?_
  rintro e w7 ⟨hB,pa,pb,pc,pd,f7,rfl,hR⟩
  replace HBB:=Lib.hid (HBB.out.trans (hB.mono HBB.out.size))
  replace HO3:=Lib.hid (incl.own_call HO3.out hB)
  have HR1:=Lib.hid hR
  clear hR
  replace D0:=lies.on_call D0 hB
  replace HI:=Lib.hid ((HI.out.below hB).mono hB.size)
  replace HJ:=Lib.hid ((HJ.out.below hB).mono hB.size)
  replace HW:=Lib.hid ((HW.out.below hB).mono hB.size)
  replace HV3:=Lib.hid ((HV3.out.below hB).mono hB.size)
  replace HV4:=Lib.hid ((HV4.out.below hB).mono hB.size)
  replace P0:=P0.on hB
  replace DB:=later DB hB
  clear hB
  obtain ⟨⟨kD0_0,kD0_1,kD0_2,kD0_3,kD0_4,kD0_5⟩,-⟩:=six_cells D0
  have kD0_l:=lies.lt D0
  go_wp2_with fail
  clear kD0_0 kD0_1 kD0_2 kD0_3 kD0_4 kD0_5 kD0_l
  have hA:=bound.up1 w7 (.cells #[.int .i64 pa,.int .i64 pb,.int .i64 pc,.int .i64 pd] 47)
  have D5:=lies.made w7 47 #[.int .i64 pa,.int .i64 pb,.int .i64 pc,.int .i64 pd]
  replace HBB:=Lib.hid (HBB.out.trans (hA.mono HBB.out.size))
  replace HO3:=Lib.hid (incl.own_call HO3.out hA)
  replace D0:=lies.on_call D0 hA
  replace HI:=Lib.hid ((HI.out.below hA).mono hA.size)
  replace HJ:=Lib.hid ((HJ.out.below hA).mono hA.size)
  replace HW:=Lib.hid ((HW.out.below hA).mono hA.size)
  replace HV3:=Lib.hid ((HV3.out.below hA).mono hA.size)
  replace HV4:=Lib.hid ((HV4.out.below hA).mono hA.size)
  replace P0:=P0.on hA
  replace DB:=later DB hA
  clear hA
  generalize w7.heap.size=XD5 at D5 ⊢
  generalize w7.alloc (.cells #[.int .i64 pa,.int .i64 pb,.int .i64 pc,.int .i64 pd] 47)=v89 at D0 D5 HI HJ HW HV3 HV4 HBB HO3 P0 DB ⊢
  refine (rwit_any a0 a1 a2 a3 a4 a5 ao l.length cap l v89 LA.out TA.out HI.out H6.out HLO.out rfl h5m).mono ?_
  rintro e w9 ⟨hB,pa2,pb2,pc2,pd2,f8,rfl,hR⟩
  replace HBB:=Lib.hid (HBB.out.trans (hB.mono HBB.out.size))
  replace HO3:=Lib.hid (incl.own_call HO3.out hB)
  obtain ⟨hpp,rfl⟩:=wit_same (wit_six rfl TA.out H6.out H5.out HR1.out) hR
  cases hpp
  clear hR HR1
  replace D0:=lies.on_call D0 hB
  replace D5:=lies.on_call D5 hB
  replace HI:=Lib.hid ((HI.out.below hB).mono hB.size)
  replace HJ:=Lib.hid ((HJ.out.below hB).mono hB.size)
  replace HW:=Lib.hid ((HW.out.below hB).mono hB.size)
  replace HV3:=Lib.hid ((HV3.out.below hB).mono hB.size)
  replace HV4:=Lib.hid ((HV4.out.below hB).mono hB.size)
  replace P0:=P0.on hB
  replace DB:=later DB hB
  clear hB
  go_wp2_with fail
  have hA:=bound.up1 w9 (.cells #[.int .i64 pa,.int .i64 pb,.int .i64 pc,.int .i64 pd] 47)
  have D6:=lies.made w9 47 #[.int .i64 pa,.int .i64 pb,.int .i64 pc,.int .i64 pd]
  replace HBB:=Lib.hid (HBB.out.trans (hA.mono HBB.out.size))
  replace HO3:=Lib.hid (incl.own_call HO3.out hA)
  replace D0:=lies.on_call D0 hA
  replace D5:=lies.on_call D5 hA
  replace HI:=Lib.hid ((HI.out.below hA).mono hA.size)
  replace HJ:=Lib.hid ((HJ.out.below hA).mono hA.size)
  replace HW:=Lib.hid ((HW.out.below hA).mono hA.size)
  replace HV3:=Lib.hid ((HV3.out.below hA).mono hA.size)
  replace HV4:=Lib.hid ((HV4.out.below hA).mono hA.size)
  replace P0:=P0.on hA
  replace DB:=later DB hA
  clear hA
  generalize w9.heap.size=XD6 at D6 ⊢
  generalize w9.alloc (.cells #[.int .i64 pa,.int .i64 pb,.int .i64 pc,.int .i64 pd] 47)=v109 at D0 D5 D6 HI HJ HW HV3 HV4 HBB HO3 P0 DB ⊢
  clear D0
  go_wp2_with fail
  refine (same_yes p3 p4 r6.length q3 q4 r6 v109 HV3.out HV4.out rfl kl3 HK63.out).mono ?_
  rintro e w11 ⟨rfl,hB⟩
  replace HBB:=Lib.hid (HBB.out.trans (hB.mono HBB.out.size))
  replace HO3:=Lib.hid (incl.own_call HO3.out hB)
  replace D5:=lies.on_call D5 hB
  replace D6:=lies.on_call D6 hB
  replace HI:=Lib.hid ((HI.out.below hB).mono hB.size)
  replace HJ:=Lib.hid ((HJ.out.below hB).mono hB.size)
  replace HW:=Lib.hid ((HW.out.below hB).mono hB.size)
  replace HV3:=Lib.hid ((HV3.out.below hB).mono hB.size)
  replace HV4:=Lib.hid ((HV4.out.below hB).mono hB.size)
  replace P0:=P0.on hB
  replace DB:=later DB hB
  clear hB
  obtain ⟨⟨kD5_0,kD5_1,kD5_2,kD5_3⟩,-⟩:=four_cells D5
  have kD5_l:=lies.lt D5
  obtain ⟨⟨kD6_0,kD6_1,kD6_2,kD6_3⟩,-⟩:=four_cells D6
  have kD6_l:=lies.lt D6
  have hbump:=bump_of HO3.out
  have hline:∀ g,(Value.slice p3 r6.length q3).ownBlock=some g→WB.heap.size≤g:=fun g e=>(HO3.out.lt g e).1
  have HBU:=Lib.hid hbump
  have HLI:=Lib.hid hline
  have hBB:=HBB.out
  clear hbump hline HO3 HBB HV3 HV4 HI HJ HW
  go_wp2_with fail
  clear D5 D6 kD5_0 kD5_1 kD5_2 kD5_3 kD5_l kD6_0 kD6_1 kD6_2 kD6_3 kD6_l
  go_loopw [25] (fun i wr=>∃ k:Nat,k≤r6.length∧i=.int .i64 k∧Below WB.heap.size WB wr∧Below w.heap.size w wr∧Bump wr (.slice p3 r6.length q3) r6.length) (fun i _=>r6.length - (intOf i).toNat)
  case atStart=>exact ⟨0,Nat.zero_le _,rfl,hBB,DB,HBU.out⟩
  case round=>
   clear hBB DB P0 HBU
   obtain ⟨k,hk,rfl,hBB,DB,hbu⟩:=hrel
   by_cases hkn:k<r6.length
   ·skip
    obtain ⟨g,c3,cur,e3,hgc,hcc⟩:=hbu k hkn
    cases e3
    obtain ⟨x,hx⟩:=hcc k hkn
    obtain ⟨k0,k1,k2⟩:=cell_is hgc hx
    have hgl:=HLI.out g rfl
    have HGC:=Lib.hid hgc
    have HCC:=Lib.hid hcc
    clear hgc hcc hx hbu
    have DB0:=DB
    have hBB0:=hBB
    go_wp2_with fail
    have d0:wr.drew.cell? ⟨g,k*6,none⟩=some (.int .i64 x):=k0
    have d1:wr.drew.frozen? ⟨g,k*6,none⟩=false:=k1
    have d2:g<wr.drew.heap.size:=k2
    refine wp_region_held_drew (S:=Below WB.heap.size WB) (by kernel_rfl) (dbm.drawn1 hBB0) (fun hHeld=>?_)
    refine tk 0 (v:=?_) rfl hHeld ?_ ?_
    rotate_left
    ·intro w hSw;skip;go_simp;try with_reducible rfl
    try simp only [Act.put,sA,sB,sC,sD,sE,sF]
    refine tk 1 (v:=?_) rfl hHeld ?_ ?_
    rotate_left
    ·intro w hSw;skip;go_simp;try with_reducible rfl
    try simp only [Act.put,sA,sB,sC,sD,sE,sF]
    refine tk 2 (v:=?_) rfl hHeld ?_ ?_
    rotate_left
    ·intro w hSw;skip;go_simp;try with_reducible rfl
    try simp only [Act.put,sA,sB,sC,sD,sE,sF]
    refine tk 3 (v:=?_) rfl hHeld ?_ ?_
    rotate_left
    ·intro w hSw;skip;go_simp;try with_reducible rfl
    try simp only [Act.put,sA,sB,sC,sD,sE,sF]
    refine tk 6 (v:=?_) rfl hHeld ?_ ?_
    rotate_left
    ·intro w hSw;skip;go_simp;try with_reducible rfl
    try simp only [Act.put,sA,sB,sC,sD,sE,sF]
    refine wpAnyH_ready (rs:=[4]) (by kernel_rfl) (by simp) (AllReadyH.cons rfl (fun K hK=>?_) AllReadyH.nil)
    go_simp
    refine hK.out _ _ hHeld (fun hNew=>?_)
    clear hHeld hK K
    have hHeld:=hNew
    clear hNew
    try simp only [Act.put,sA,sB,sC,sD,sE,sF]
    refine tk 5 (v:=?_) rfl hHeld ?_ ?_
    rotate_left
    ·intro w hSw;skip;go_simp;try with_reducible rfl
    try simp only [Act.put,sA,sB,sC,sD,sE,sF]
    refine tk 7 (v:=?_) rfl hHeld ?_ ?_
    rotate_left
    ·intro w hSw;skip;go_simp;try with_reducible rfl
    try simp only [Act.put,sA,sB,sC,sD,sE,sF]
    refine wpAnyH_ready (rs:=[8]) (by kernel_rfl) (by simp) (AllReadyH.cons rfl (fun K hK=>?_) AllReadyH.nil)
    go_simp
    refine hK.out _ _ (hHeld.setCell (p:=⟨g,k*6,none⟩) hgl _) (fun hNew=>?_)
    clear hHeld hK K
    have hHeld:=hNew
    clear hNew
    try simp only [Act.put,sA,sB,sC,sD,sE,sF]
    refine wpAnyH_done (by kernel_rfl) ?_ _
    have DB2:=dbm.drawn1 (DB0.setCell (p:=⟨g,k*6,none⟩) (Nat.le_trans hwb hgl) (.int .i64 (IntKind.i64.wrap (x+1))))
    have hbu2:Bump (wr.setCell ⟨g,k*6,none⟩ (.int .i64 (IntKind.i64.wrap (x+1)))).drew (.slice (some ⟨g,0,none⟩) r6.length q3) r6.length:=bump_put (W:=wr) (k:=k) (cap:=q3) (x:=IntKind.i64.wrap (x+1)) HGC.out HCC.out
    generalize (wr.setCell ⟨g,k*6,none⟩ (.int .i64 (IntKind.i64.wrap (x+1)))).drew=wZ at hHeld DB2 hbu2 ⊢
    clear d0 d1 d2 k0 k1 k2 DB DB0 hBB hBB0
    go_wp2_with fail
    go_roundw
    case rel=>exact ⟨k+1,by omega,by go_num,hHeld,DB2,hbu2⟩
    case measure=>simp [intOf];omega
   ·skip
    have hke:k=r6.length:=by omega
    have hkn2:¬ (k:Int)<(r6.length:Int):=by omega
    clear hbu
    have HI2:=Lib.hid ((HIB.out.below hBB).mono hBB.size)
    have HW2:=Lib.hid ((HWB.out.below hBB).mono hBB.size)
    clear hBB HIB HWB
    go_wp2_with fail
    refine (same_yes vw ao l.length cw cap l wr HW2.out HI2.out rfl h5m H66.out).mono ?_
    rintro e w12 ⟨rfl,hB⟩
    replace DB:=later DB hB
    clear hB
    go_wp2_with fail
    go_ret
    exact ⟨rfl,DB⟩
 ·skip
  by_cases h6:l.length≤6
  ·skip
   have h5i:¬ (6:Int)<(l.length:Int):=by omega
   have h7i:(6:Int)<(b.length:Int):=by omega
   clear h5 h6
   go_enter Tryz.func11,Tryz.ntmps11
   go_wp2_with fail
   go_ret
   exact ⟨rfl,hX ▸ DB⟩
  ·skip
   have h5i:(6:Int)<(l.length:Int):=by omega
   clear h5 h6
   go_enter Tryz.func11,Tryz.ntmps11
   go_wp2_with fail
   go_ret
   exact ⟨rfl,hX ▸ DB⟩
end Go.Proofs.YthmljpccbjolgaaGreatDoor.coverTells
