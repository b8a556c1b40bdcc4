import Derived.Test.YthmljpccbjolgaaGreatDoorZsetL
import Derived.Test.YthmljpccbjolgaaGreatDoorZsetV
import Derived.BigQuiet
import Derived.Test.YthmljpccbjolgaaGreatDoorZsetTellsF
import Derived.Test.YthmljpccbjolgaaGreatDoorCards
import Derived.Test.YthmljpccbjolgaaGreatDoorTie
namespace Go.Proofs.YthmljpccbjolgaaGreatDoor.zsetTells
open Go.Joins Go.ChangeShapes Go.WideShapes Go.ChangeAt Go.RowKit num rat dbm Go.Proofs.YthmljpccbjolgaaGreatDoor.tight Go.Proofs.YthmljpccbjolgaaGreatDoor.incl Go.Proofs.YthmljpccbjolgaaGreatDoor.plaw Go.Proofs.YthmljpccbjolgaaGreatDoor.zopen Go.Proofs.YthmljpccbjolgaaGreatDoor.zone Go.Proofs.YthmljpccbjolgaaGreatDoor.zlaw Go.Proofs.YthmljpccbjolgaaGreatDoor.comp Go.Proofs.YthmljpccbjolgaaGreatDoor.win Go.Proofs.YthmljpccbjolgaaGreatDoor.minus Go.Proofs.YthmljpccbjolgaaGreatDoor.mz Go.Proofs.YthmljpccbjolgaaGreatDoor.mlaw Go.Proofs.YthmljpccbjolgaaGreatDoor.cover Go.Proofs.YthmljpccbjolgaaGreatDoor.claw Go.Proofs.YthmljpccbjolgaaGreatDoor.zset Go.Proofs.YthmljpccbjolgaaGreatDoor.slaw dref Go.Proofs.YthmljpccbjolgaaGreatDoor.mref Go.Proofs.YthmljpccbjolgaaGreatDoor.cref Go.Proofs.YthmljpccbjolgaaGreatDoor.sref
open bound hiding up
set_option linter.unusedVariables false
set_option linter.unusedSimpArgs false
def Bump (W:World) (v:Value) (n:Nat):Prop:=∀ k,k<n→∃ g cap cur,v=.slice (some ⟨g,0,none⟩) n cap∧W.heap[g]?=some (.cells cur 27 (0,0))∧∀ j,j<n→∃ x:Int,cur[j*6]?=some (.int .i64 x)
theorem bump_of {W:World} {base:Nat} {v:Value} {zs:List (List Int)} (h:W.ownsRow base 27 6 v zs.length (flatZ zs)):Bump W v zs.length:=fun k hk=>by
 have hx:=h.1
 rcases h.2 with ⟨_,h0⟩ | ⟨g,cap,cur,rfl,h1,h2,h3,h4,h5,h6⟩
 ·omega
 ·refine ⟨g,cap,cur,rfl,h2,fun j hj=>⟨(zat zs j)[0]?.getD 0,?_⟩⟩
  have e:=flatZ_at zs j 0 hj (by decide)
  rw [←h6,List.getElem?_take,if_pos (by omega),Nat.add_zero,Array.getElem?_toList] at e
  exact e
theorem bump_put {W:World} {g n cap k:Nat} {cur:Array Value} {x:Int} (h:W.heap[g]?=some (.cells cur 27 (0,0))) (hc:∀ j,j<n→∃ x:Int,cur[j*6]?=some (.int .i64 x)):Bump (W.setCell ⟨g,k*6,none⟩ (.int .i64 x)) (.slice (some ⟨g,0,none⟩) n cap) n:=fun m hm=>by
 have h':lies.Lies W g 27 cur:=h
 refine ⟨g,cap,_,rfl,lies.on_put h' (k*6) (.int .i64 x),fun j hj=>?_⟩
 obtain ⟨y,hy⟩:=hc j hj
 have hlt:=(Array.getElem?_eq_some_iff.1 hy).1
 by_cases e:k*6=j*6
 ·exact ⟨x,by rw [e,Array.getElem?_setIfInBounds_self_of_lt hlt]⟩
 ·exact ⟨y,by rw [Array.getElem?_setIfInBounds_ne e];exact hy⟩
theorem cell_is {W:World} {g i:Nat} {cur:Array Value} {t:TypeId} {u:Value} (h:W.heap[g]?=some (.cells cur t (0,0))) (hi:cur[i]?=some u):W.cell? ⟨g,i,none⟩=some u∧W.frozen? ⟨g,i,none⟩=false∧g<W.heap.size:=by
 refine ⟨by simp [World.cell?,h,hi],by simp [World.frozen?,h],(Array.getElem?_eq_some_iff.1 h).1⟩
theorem len16 {a b:List (List Int)} (la:a.length≤4) (lb:b.length≤4):a.length*b.length≤18:=by
 have:=Nat.mul_le_mul la lb
 omega
set_option maxRecDepth 100000 in
set_option maxHeartbeats 32000000 in
theorem walk (v:Value) (l:List (List Int)) (u:Value) (b:List (List Int)) (w:World) (hwf:Wf6 l) (hI:Zs w.heap.size w v l) (hm:l.length≤maxLen) (hc:∀ a l c,v=.slice a l c→l≤c) (hwg:Wf6 b) (hJ:Zs w.heap.size w u b) (hn:b.length≤maxLen) (hd:∀ a l c,u=.slice a l c→l≤c) (hP:Pl w):Calls Tryz.prog 4 #[v,u] w fun e w'=>e=.returned (.bool true)∧Below w.heap.size w w':=by
 have P0:=hP
 have DB:=Below.refl w.heap.size w
 clear hP
 obtain ⟨aa,ca,rfl⟩:=zs_len hI
 have H6a:=Lib.hid (show Six l from fun z hz=>⟨(hwf z hz).1,hwf.tops hz⟩)
 have HLOa:=Lib.hid (show ∀ z,z ∈ l→Low z from fun z hz x hx=>((hwf z hz).2 x hx).1)
 have HVa:=Lib.hid hI
 clear hwf hI hm hc
 obtain ⟨na,hna⟩:∃ n,n=l.length:=⟨_,rfl⟩
 have HLa:=Lib.hid hna.symm
 rw [←hna] at HVa ⊢
 clear hna
 obtain ⟨ab,cb,rfl⟩:=zs_len hJ
 have H6b:=Lib.hid (show Six b from fun z hz=>⟨(hwg z hz).1,hwg.tops hz⟩)
 have HLOb:=Lib.hid (show ∀ z,z ∈ b→Low z from fun z hz x hx=>((hwg z hz).2 x hx).1)
 have HVb:=Lib.hid hJ
 clear hwg hJ hn hd
 obtain ⟨nb,hnb⟩:∃ n,n=b.length:=⟨_,rfl⟩
 have HLb:=Lib.hid hnb.symm
 rw [←hnb] at HVb ⊢
 clear hnb
 by_cases ha:na≤4
 case neg=>
  have hai:(4:Int)<(na:Int):=by omega
  go_enter Tryz.func4,Tryz.ntmps4
  go_wp2_with fail
  go_ret
  exact ⟨rfl,DB⟩
 have hai:¬ (4:Int)<(na:Int):=by omega
 by_cases hb:nb≤4
 case neg=>
  have hbi:(4:Int)<(nb:Int):=by omega
  go_enter Tryz.func4,Tryz.ntmps4
  go_wp2_with fail
  go_ret
  exact ⟨rfl,DB⟩
 have hbi:¬ (4:Int)<(nb:Int):=by omega
 have hla:l.length≤4:=by rw [HLa.out];exact ha
 have hlb:b.length≤4:=by rw [HLb.out];exact hb
 have hmm:=len16 hla hlb
 obtain ⟨vq,wq,hrun,hown,hgrow,-⟩:=app_zones w.heap.size 29 (.slice none 0 0) (.slice aa na ca) 0 _ [] l _ (World.ownsRow_nil _ _ _ _) HVa.out (by omega) (Nat.le_refl _)
 rw [Nat.zero_add,List.nil_append] at hown
 have hBq:Below w.heap.size w wq:=⟨hgrow.os,hgrow.tape,hgrow.output,hgrow.size,fun k hk=>hgrow.block k hk (fun e=>by cases e)⟩
 obtain ⟨aw,cw,rfl⟩:=zs_len (zs_own hown)
 rw [HLa.out] at hrun hown
 have HVw:=Lib.hid (zs_own hown)
 have HRUN:=Lib.hid hrun
 clear hrun hown hgrow
 replace HVa:=Lib.hid ((HVa.out.below hBq).mono hBq.size)
 replace HVb:=Lib.hid ((HVb.out.below hBq).mono hBq.size)
 replace P0:=P0.on hBq
 replace DB:=later DB hBq
 clear hBq
 have HLw:=HLa
 have H6w:=H6a
 go_enter Tryz.func4,Tryz.ntmps4
 go_wp2_with (at_builtin;refine dref.append_run2 rfl (.const (.slice none 0 0)) (.tmp 33) 29 rfl _ _ _ _ rfl rfl HRUN.out ?_;clear HRUN)
 clear hai hbi
 obtain ⟨WB,hWB⟩:∃ WB,WB=wq:=⟨_,rfl⟩
 have HWW:=HVw
 have HWA:=HVa
 rw [←hWB] at HWW HWA
 have hwb:=DB.size
 rw [←hWB] at hwb
 refine (or_gen aw na cw l ab nb cb b wq P0 (fun _ _=>⟨⟨HVw.out,H6w.out⟩,HVb.out,H6b.out⟩) HLw.out HLb.out).mono ?_
 rintro e w1 ⟨hB,vc,rc,ec,rfl,hR,hO⟩
 obtain ⟨ac,cc,rfl⟩:=zs_len (zs_own hO)
 have HVc:=Lib.hid (zs_own hO)
 have HRc:=Lib.hid hR
 have HO3:=Lib.hid hO
 replace HVa:=Lib.hid ((HVa.out.below hB).mono hB.size)
 replace HVb:=Lib.hid ((HVb.out.below hB).mono hB.size)
 replace HVw:=Lib.hid ((HVw.out.below hB).mono hB.size)
 replace P0:=P0.on hB
 replace DB:=later DB hB
 have HBB:=Lib.hid hB
 clear hB hR hO
 have hsx:=or_six H6a.out H6b.out HRc.out
 have HSc:=Lib.hid (show rc.length≤1000000∧∀ z,z ∈ rc→z.length=6 from ⟨by have:=HLa.out;have:=HLb.out;omega,fun z hz=>(hsx.1 z hz).1⟩)
 clear hsx
 rw [←hWB] at HBB HO3
 clear hWB
 go_wp2_with fail
 refine (ror_any aa na ca l ab nb cb b w1 HVa.out HVb.out H6a.out H6b.out HLOa.out HLOb.out HLa.out HLb.out (by omega) (by omega)).mono ?_
 rintro e w2 ⟨hB,vd,rc2,ed,rfl,hR,hO⟩
 obtain ⟨rfl,rfl⟩:=or_one (or_few H6a.out H6b.out (by omega) HRc.out) hR
 obtain ⟨ad,cd,rfl⟩:=zs_len (zs_own hO)
 have HVd:=Lib.hid (zs_own hO)
 replace HBB:=Lib.hid (HBB.out.trans (hB.mono HBB.out.size))
 replace HO3:=Lib.hid (incl.own_call HO3.out hB)
 replace HVa:=Lib.hid ((HVa.out.below hB).mono hB.size)
 replace HVb:=Lib.hid ((HVb.out.below hB).mono hB.size)
 replace HVw:=Lib.hid ((HVw.out.below hB).mono hB.size)
 replace HVc:=Lib.hid ((HVc.out.below hB).mono hB.size)
 replace P0:=P0.on hB
 replace DB:=later DB hB
 clear hB hR hO
 clear HRc
 go_wp2_with fail
 refine (and_gen aw na cw l ab nb cb b w2 P0 (fun _ _=>⟨⟨HVw.out,H6w.out⟩,HVb.out,H6b.out⟩) HLw.out HLb.out).mono ?_
 rintro e w3 ⟨hB,vg,rg,eg,rfl,hR,hO⟩
 obtain ⟨ag,cg,rfl⟩:=zs_len (zs_own hO)
 have HVg:=Lib.hid (zs_own hO)
 have HRg:=Lib.hid hR
 replace HBB:=Lib.hid (HBB.out.trans (hB.mono HBB.out.size))
 replace HO3:=Lib.hid (incl.own_call HO3.out hB)
 replace HVa:=Lib.hid ((HVa.out.below hB).mono hB.size)
 replace HVb:=Lib.hid ((HVb.out.below hB).mono hB.size)
 replace HVw:=Lib.hid ((HVw.out.below hB).mono hB.size)
 replace HVc:=Lib.hid ((HVc.out.below hB).mono hB.size)
 replace HVd:=Lib.hid ((HVd.out.below hB).mono hB.size)
 replace P0:=P0.on hB
 replace DB:=later DB hB
 clear hB hR hO
 have hsx:=both_six meet_zo H6a.out H6b.out HRg.out
 have HSg:=Lib.hid (show rg.length≤1000000∧∀ z,z ∈ rg→z.length=6 from ⟨by have:=HLa.out;have:=HLb.out;omega,fun z hz=>(hsx.1 z hz).1⟩)
 clear hsx
 go_wp2_with fail
 refine (rmeet13_any aa na ca l ab nb cb b w3 HVa.out HVb.out H6a.out H6b.out HLOa.out HLOb.out HLa.out HLb.out (by omega) (by omega)).mono ?_
 rintro e w4 ⟨hB,vi,rg2,ei,rfl,hR,hO⟩
 obtain ⟨rfl,rfl⟩:=both_one' meet_one' (both_few meet_zo H6a.out H6b.out hmm HRg.out) hR
 obtain ⟨ai,ci,rfl⟩:=zs_len (zs_own hO)
 have HVi:=Lib.hid (zs_own hO)
 replace HBB:=Lib.hid (HBB.out.trans (hB.mono HBB.out.size))
 replace HO3:=Lib.hid (incl.own_call HO3.out hB)
 replace HVa:=Lib.hid ((HVa.out.below hB).mono hB.size)
 replace HVb:=Lib.hid ((HVb.out.below hB).mono hB.size)
 replace HVw:=Lib.hid ((HVw.out.below hB).mono hB.size)
 replace HVc:=Lib.hid ((HVc.out.below hB).mono hB.size)
 replace HVd:=Lib.hid ((HVd.out.below hB).mono hB.size)
 replace HVg:=Lib.hid ((HVg.out.below hB).mono hB.size)
 replace P0:=P0.on hB
 replace DB:=later DB hB
 clear hB hR hO
 clear HRg
 go_wp2_with fail
 refine (zcomp_gen aw na cw l ab nb cb b w4 P0 (fun _ _=>⟨⟨HVw.out,H6w.out⟩,HVb.out,H6b.out⟩) HLw.out HLb.out).mono ?_
 rintro e w5 ⟨hB,vk,rk,ek,rfl,hR,hO⟩
 obtain ⟨ak,ck,rfl⟩:=zs_len (zs_own hO)
 have HVk:=Lib.hid (zs_own hO)
 have HRk:=Lib.hid hR
 replace HBB:=Lib.hid (HBB.out.trans (hB.mono HBB.out.size))
 replace HO3:=Lib.hid (incl.own_call HO3.out hB)
 replace HVa:=Lib.hid ((HVa.out.below hB).mono hB.size)
 replace HVb:=Lib.hid ((HVb.out.below hB).mono hB.size)
 replace HVw:=Lib.hid ((HVw.out.below hB).mono hB.size)
 replace HVc:=Lib.hid ((HVc.out.below hB).mono hB.size)
 replace HVd:=Lib.hid ((HVd.out.below hB).mono hB.size)
 replace HVg:=Lib.hid ((HVg.out.below hB).mono hB.size)
 replace HVi:=Lib.hid ((HVi.out.below hB).mono hB.size)
 replace P0:=P0.on hB
 replace DB:=later DB hB
 clear hB hR hO
 have hsx:=both_six comp_zo H6a.out H6b.out HRk.out
 have HSk:=Lib.hid (show rk.length≤1000000∧∀ z,z ∈ rk→z.length=6 from ⟨by have:=HLa.out;have:=HLb.out;omega,fun z hz=>(hsx.1 z hz).1⟩)
 clear hsx
 go_wp2_with fail
 refine (rcomp13_any aa na ca l ab nb cb b w5 HVa.out HVb.out H6a.out H6b.out HLOa.out HLOb.out HLa.out HLb.out (by omega) (by omega)).mono ?_
 rintro e w6 ⟨hB,vm,rk2,em,rfl,hR,hO⟩
 obtain ⟨rfl,rfl⟩:=both_one' comp_one' (both_few comp_zo H6a.out H6b.out hmm HRk.out) hR
 obtain ⟨am,cm,rfl⟩:=zs_len (zs_own hO)
 have HVm:=Lib.hid (zs_own hO)
 replace HBB:=Lib.hid (HBB.out.trans (hB.mono HBB.out.size))
 replace HO3:=Lib.hid (incl.own_call HO3.out hB)
 replace HVa:=Lib.hid ((HVa.out.below hB).mono hB.size)
 replace HVb:=Lib.hid ((HVb.out.below hB).mono hB.size)
 replace HVw:=Lib.hid ((HVw.out.below hB).mono hB.size)
 replace HVc:=Lib.hid ((HVc.out.below hB).mono hB.size)
 replace HVd:=Lib.hid ((HVd.out.below hB).mono hB.size)
 replace HVg:=Lib.hid ((HVg.out.below hB).mono hB.size)
 replace HVi:=Lib.hid ((HVi.out.below hB).mono hB.size)
 replace HVk:=Lib.hid ((HVk.out.below hB).mono hB.size)
 replace P0:=P0.on hB
 replace DB:=later DB hB
 clear hB hR hO
 clear HRk
 go_wp2_with fail
 refine (of_any aw na cw l w6 P0 HVw.out H6w.out HLw.out).mono ?_
 rintro e w7 ⟨hB,vo,ro,eo,rfl,hR,hO⟩
 obtain ⟨ao,co,rfl⟩:=zs_len (zs_own hO)
 have HVo:=Lib.hid (zs_own hO)
 have HRo:=Lib.hid hR
 replace HBB:=Lib.hid (HBB.out.trans (hB.mono HBB.out.size))
 replace HO3:=Lib.hid (incl.own_call HO3.out hB)
 replace HVa:=Lib.hid ((HVa.out.below hB).mono hB.size)
 replace HVb:=Lib.hid ((HVb.out.below hB).mono hB.size)
 replace HVw:=Lib.hid ((HVw.out.below hB).mono hB.size)
 replace HVc:=Lib.hid ((HVc.out.below hB).mono hB.size)
 replace HVd:=Lib.hid ((HVd.out.below hB).mono hB.size)
 replace HVg:=Lib.hid ((HVg.out.below hB).mono hB.size)
 replace HVi:=Lib.hid ((HVi.out.below hB).mono hB.size)
 replace HVk:=Lib.hid ((HVk.out.below hB).mono hB.size)
 replace HVm:=Lib.hid ((HVm.out.below hB).mono hB.size)
 replace P0:=P0.on hB
 replace DB:=later DB hB
 clear hB hR hO
 have hsx:=pru_six' H6a.out HRo.out
 have HSo:=Lib.hid (show ro.length≤1000000∧∀ z,z ∈ ro→z.length=6 from ⟨by have:=HLa.out;have:=HLb.out;omega,fun z hz=>(hsx.1 z hz).1⟩)
 clear hsx
 go_wp2_with fail
 refine (rof13_any aa na ca l w7 HVa.out H6a.out HLOa.out HLa.out (by omega)).mono ?_
 rintro e w8 ⟨hB,vq,ro2,eq,rfl,hR,hO⟩
 obtain ⟨rfl,rfl⟩:=pru_same (pru_few H6a.out (by have:=srt_len l;omega) HRo.out) hR
 obtain ⟨aq,cq,rfl⟩:=zs_len (zs_own hO)
 have HVq:=Lib.hid (zs_own hO)
 replace HBB:=Lib.hid (HBB.out.trans (hB.mono HBB.out.size))
 replace HO3:=Lib.hid (incl.own_call HO3.out hB)
 replace HVa:=Lib.hid ((HVa.out.below hB).mono hB.size)
 replace HVb:=Lib.hid ((HVb.out.below hB).mono hB.size)
 replace HVw:=Lib.hid ((HVw.out.below hB).mono hB.size)
 replace HVc:=Lib.hid ((HVc.out.below hB).mono hB.size)
 replace HVd:=Lib.hid ((HVd.out.below hB).mono hB.size)
 replace HVg:=Lib.hid ((HVg.out.below hB).mono hB.size)
 replace HVi:=Lib.hid ((HVi.out.below hB).mono hB.size)
 replace HVk:=Lib.hid ((HVk.out.below hB).mono hB.size)
 replace HVm:=Lib.hid ((HVm.out.below hB).mono hB.size)
 replace HVo:=Lib.hid ((HVo.out.below hB).mono hB.size)
 replace P0:=P0.on hB
 replace DB:=later DB hB
 clear hB hR hO
 clear HRo
 go_wp2_with fail
 refine (same_yes ac ad rc2.length cc cd rc2 w8 HVc.out HVd.out rfl HSc.out.1 HSc.out.2).mono ?_
 rintro e w9 ⟨rfl,hB⟩
 replace HBB:=Lib.hid (HBB.out.trans (hB.mono HBB.out.size))
 replace HO3:=Lib.hid (incl.own_call HO3.out hB)
 replace HVa:=Lib.hid ((HVa.out.below hB).mono hB.size)
 replace HVb:=Lib.hid ((HVb.out.below hB).mono hB.size)
 replace HVw:=Lib.hid ((HVw.out.below hB).mono hB.size)
 replace HVc:=Lib.hid ((HVc.out.below hB).mono hB.size)
 replace HVd:=Lib.hid ((HVd.out.below hB).mono hB.size)
 replace HVg:=Lib.hid ((HVg.out.below hB).mono hB.size)
 replace HVi:=Lib.hid ((HVi.out.below hB).mono hB.size)
 replace HVk:=Lib.hid ((HVk.out.below hB).mono hB.size)
 replace HVm:=Lib.hid ((HVm.out.below hB).mono hB.size)
 replace HVo:=Lib.hid ((HVo.out.below hB).mono hB.size)
 replace HVq:=Lib.hid ((HVq.out.below hB).mono hB.size)
 replace P0:=P0.on hB
 replace DB:=later DB hB
 clear hB
 go_wp2_with fail
 refine (same_yes ag ai rg2.length cg ci rg2 w9 HVg.out HVi.out rfl HSg.out.1 HSg.out.2).mono ?_
 rintro e w10 ⟨rfl,hB⟩
 replace HBB:=Lib.hid (HBB.out.trans (hB.mono HBB.out.size))
 replace HO3:=Lib.hid (incl.own_call HO3.out hB)
 replace HVa:=Lib.hid ((HVa.out.below hB).mono hB.size)
 replace HVb:=Lib.hid ((HVb.out.below hB).mono hB.size)
 replace HVw:=Lib.hid ((HVw.out.below hB).mono hB.size)
 replace HVc:=Lib.hid ((HVc.out.below hB).mono hB.size)
 replace HVd:=Lib.hid ((HVd.out.below hB).mono hB.size)
 replace HVg:=Lib.hid ((HVg.out.below hB).mono hB.size)
 replace HVi:=Lib.hid ((HVi.out.below hB).mono hB.size)
 replace HVk:=Lib.hid ((HVk.out.below hB).mono hB.size)
 replace HVm:=Lib.hid ((HVm.out.below hB).mono hB.size)
 replace HVo:=Lib.hid ((HVo.out.below hB).mono hB.size)
 replace HVq:=Lib.hid ((HVq.out.below hB).mono hB.size)
 replace P0:=P0.on hB
 replace DB:=later DB hB
 clear hB
 go_wp2_with fail
 refine (same_yes ak am rk2.length ck cm rk2 w10 HVk.out HVm.out rfl HSk.out.1 HSk.out.2).mono ?_
 rintro e w11 ⟨rfl,hB⟩
 replace HBB:=Lib.hid (HBB.out.trans (hB.mono HBB.out.size))
 replace HO3:=Lib.hid (incl.own_call HO3.out hB)
 replace HVa:=Lib.hid ((HVa.out.below hB).mono hB.size)
 replace HVb:=Lib.hid ((HVb.out.below hB).mono hB.size)
 replace HVw:=Lib.hid ((HVw.out.below hB).mono hB.size)
 replace HVc:=Lib.hid ((HVc.out.below hB).mono hB.size)
 replace HVd:=Lib.hid ((HVd.out.below hB).mono hB.size)
 replace HVg:=Lib.hid ((HVg.out.below hB).mono hB.size)
 replace HVi:=Lib.hid ((HVi.out.below hB).mono hB.size)
 replace HVk:=Lib.hid ((HVk.out.below hB).mono hB.size)
 replace HVm:=Lib.hid ((HVm.out.below hB).mono hB.size)
 replace HVo:=Lib.hid ((HVo.out.below hB).mono hB.size)
 replace HVq:=Lib.hid ((HVq.out.below hB).mono hB.size)
 replace P0:=P0.on hB
 replace DB:=later DB hB
 clear hB
 go_wp2_with fail
 refine (same_yes ao aq ro2.length co cq ro2 w11 HVo.out HVq.out rfl HSo.out.1 HSo.out.2).mono ?_
 rintro e w12 ⟨rfl,hB⟩
 replace HBB:=Lib.hid (HBB.out.trans (hB.mono HBB.out.size))
 replace HO3:=Lib.hid (incl.own_call HO3.out hB)
 replace HVa:=Lib.hid ((HVa.out.below hB).mono hB.size)
 replace HVb:=Lib.hid ((HVb.out.below hB).mono hB.size)
 replace HVw:=Lib.hid ((HVw.out.below hB).mono hB.size)
 replace HVc:=Lib.hid ((HVc.out.below hB).mono hB.size)
 replace HVd:=Lib.hid ((HVd.out.below hB).mono hB.size)
 replace HVg:=Lib.hid ((HVg.out.below hB).mono hB.size)
 replace HVi:=Lib.hid ((HVi.out.below hB).mono hB.size)
 replace HVk:=Lib.hid ((HVk.out.below hB).mono hB.size)
 replace HVm:=Lib.hid ((HVm.out.below hB).mono hB.size)
 replace HVo:=Lib.hid ((HVo.out.below hB).mono hB.size)
 replace HVq:=Lib.hid ((HVq.out.below hB).mono hB.size)
 replace P0:=P0.on hB
 replace DB:=later DB hB
 clear hB
 go_wp2_with fail
 refine (mays_any aw na cw l w12 P0 HVw.out H6w.out HLw.out (by omega)).mono ?_
 rintro e w13 ⟨hB,f1,rfl,hR⟩
 replace HBB:=Lib.hid (HBB.out.trans (hB.mono HBB.out.size))
 replace HO3:=Lib.hid (incl.own_call HO3.out hB)
 have HR1:=Lib.hid hR
 clear hR
 replace HVa:=Lib.hid ((HVa.out.below hB).mono hB.size)
 replace HVb:=Lib.hid ((HVb.out.below hB).mono hB.size)
 replace HVw:=Lib.hid ((HVw.out.below hB).mono hB.size)
 replace HVc:=Lib.hid ((HVc.out.below hB).mono hB.size)
 replace HVd:=Lib.hid ((HVd.out.below hB).mono hB.size)
 replace HVg:=Lib.hid ((HVg.out.below hB).mono hB.size)
 replace HVi:=Lib.hid ((HVi.out.below hB).mono hB.size)
 replace HVk:=Lib.hid ((HVk.out.below hB).mono hB.size)
 replace HVm:=Lib.hid ((HVm.out.below hB).mono hB.size)
 replace HVo:=Lib.hid ((HVo.out.below hB).mono hB.size)
 replace HVq:=Lib.hid ((HVq.out.below hB).mono hB.size)
 replace P0:=P0.on hB
 replace DB:=later DB hB
 clear hB
 go_wp2_with fail
 refine (rmays_any aa na ca l w13 HVa.out H6a.out HLOa.out HLa.out (by omega)).mono ?_
 rintro e w14 ⟨hB,f2,rfl,hR⟩
 replace HBB:=Lib.hid (HBB.out.trans (hB.mono HBB.out.size))
 replace HO3:=Lib.hid (incl.own_call HO3.out hB)
 obtain rfl:=mays_one (mays_few H6a.out (by omega) HR1.out) hR
 clear hR HR1
 replace HVa:=Lib.hid ((HVa.out.below hB).mono hB.size)
 replace HVb:=Lib.hid ((HVb.out.below hB).mono hB.size)
 replace HVw:=Lib.hid ((HVw.out.below hB).mono hB.size)
 replace HVc:=Lib.hid ((HVc.out.below hB).mono hB.size)
 replace HVd:=Lib.hid ((HVd.out.below hB).mono hB.size)
 replace HVg:=Lib.hid ((HVg.out.below hB).mono hB.size)
 replace HVi:=Lib.hid ((HVi.out.below hB).mono hB.size)
 replace HVk:=Lib.hid ((HVk.out.below hB).mono hB.size)
 replace HVm:=Lib.hid ((HVm.out.below hB).mono hB.size)
 replace HVo:=Lib.hid ((HVo.out.below hB).mono hB.size)
 replace HVq:=Lib.hid ((HVq.out.below hB).mono hB.size)
 replace P0:=P0.on hB
 replace DB:=later DB hB
 clear hB
 have hkl:=HSc.out.1
 have hbump:=bump_of HO3.out
 have hline:∀ g,(Value.slice ac rc2.length cc).ownBlock=some g→WB.heap.size≤g:=fun g e=>(HO3.out.lt g e).1
 have HBU:=Lib.hid hbump
 have HLI:=Lib.hid hline
 have hBB:=HBB.out
 clear hbump hline HO3 HBB HVa HVb HVw HVc HVd HVg HVi HVk HVm HVo HVq
 go_wp2_with fail
 go_loopw [24] (fun i wr=>∃ k:Nat,k≤rc2.length∧i=.int .i64 k∧Below WB.heap.size WB wr∧Below w.heap.size w wr∧Bump wr (.slice ac rc2.length cc) rc2.length) (fun i _=>rc2.length - (intOf i).toNat)
 case atStart=>exact ⟨0,Nat.zero_le _,rfl,hBB,DB,HBU.out⟩
 case round=>
  clear hBB DB P0 HBU
  obtain ⟨k,hk,rfl,hBB,DB,hbu⟩:=hrel
  by_cases hkn:k<rc2.length
  ·skip
   obtain ⟨g,c3,cur,e3,hgc,hcc⟩:=hbu k hkn
   cases e3
   obtain ⟨x,hx⟩:=hcc k hkn
   obtain ⟨k0,k1,k2⟩:=cell_is hgc hx
   have hgl:=HLI.out g rfl
   have HGC:=Lib.hid hgc
   have HCC:=Lib.hid hcc
   clear hgc hcc hx hbu
   have DB0:=DB
   have hBB0:=hBB
   go_wp2_with fail
   have d0:wr.drew.cell? ⟨g,k*6,none⟩=some (.int .i64 x):=k0
   have d1:wr.drew.frozen? ⟨g,k*6,none⟩=false:=k1
   have d2:g<wr.drew.heap.size:=k2
   refine wp_region_held_drew (S:=Below WB.heap.size WB) (by kernel_rfl) (dbm.drawn1 hBB0) (fun hHeld=>?_)
   refine tk 0 (v:=?_) rfl hHeld ?_ ?_
   rotate_left
   ·intro w hSw;skip;go_simp;try with_reducible rfl
   try simp only [Act.put,sA,sB,sC,sD,sE,sF]
   refine tk 1 (v:=?_) rfl hHeld ?_ ?_
   rotate_left
   ·intro w hSw;skip;go_simp;try with_reducible rfl
   try simp only [Act.put,sA,sB,sC,sD,sE,sF]
   refine tk 2 (v:=?_) rfl hHeld ?_ ?_
   rotate_left
   ·intro w hSw;skip;go_simp;try with_reducible rfl
   try simp only [Act.put,sA,sB,sC,sD,sE,sF]
   refine tk 3 (v:=?_) rfl hHeld ?_ ?_
   rotate_left
   ·intro w hSw;skip;go_simp;try with_reducible rfl
   try simp only [Act.put,sA,sB,sC,sD,sE,sF]
   refine tk 6 (v:=?_) rfl hHeld ?_ ?_
   rotate_left
   ·intro w hSw;skip;go_simp;try with_reducible rfl
   try simp only [Act.put,sA,sB,sC,sD,sE,sF]
   refine wpAnyH_ready (rs:=[4]) (by kernel_rfl) (by simp) (AllReadyH.cons rfl (fun K hK=>?_) AllReadyH.nil)
   go_simp
   refine hK.out _ _ hHeld (fun hNew=>?_)
   clear hHeld hK K
   have hHeld:=hNew
   clear hNew
   try simp only [Act.put,sA,sB,sC,sD,sE,sF]
   refine tk 5 (v:=?_) rfl hHeld ?_ ?_
   rotate_left
   ·intro w hSw;skip;go_simp;try with_reducible rfl
   try simp only [Act.put,sA,sB,sC,sD,sE,sF]
   refine tk 7 (v:=?_) rfl hHeld ?_ ?_
   rotate_left
   ·intro w hSw;skip;go_simp;try with_reducible rfl
   try simp only [Act.put,sA,sB,sC,sD,sE,sF]
   refine wpAnyH_ready (rs:=[8]) (by kernel_rfl) (by simp) (AllReadyH.cons rfl (fun K hK=>?_) AllReadyH.nil)
   go_simp
   refine hK.out _ _ (hHeld.setCell (p:=⟨g,k*6,none⟩) hgl _) (fun hNew=>?_)
   clear hHeld hK K
   have hHeld:=hNew
   clear hNew
   try simp only [Act.put,sA,sB,sC,sD,sE,sF]
   refine wpAnyH_done (by kernel_rfl) ?_ _
   have DB2:=dbm.drawn1 (DB0.setCell (p:=⟨g,k*6,none⟩) (Nat.le_trans hwb hgl) (.int .i64 (IntKind.i64.wrap (x+1))))
   have hbu2:Bump (wr.setCell ⟨g,k*6,none⟩ (.int .i64 (IntKind.i64.wrap (x+1)))).drew (.slice (some ⟨g,0,none⟩) rc2.length cc) rc2.length:=bump_put (W:=wr) (k:=k) (cap:=cc) (x:=IntKind.i64.wrap (x+1)) HGC.out HCC.out
   generalize (wr.setCell ⟨g,k*6,none⟩ (.int .i64 (IntKind.i64.wrap (x+1)))).drew=wZ at hHeld DB2 hbu2 ⊢
   clear d0 d1 d2 k0 k1 k2 DB DB0 hBB hBB0
   go_wp2_with fail
   go_roundw
   case rel=>exact ⟨k+1,by omega,by go_num,hHeld,DB2,hbu2⟩
   case measure=>simp [intOf];omega
  ·skip
   have hke:k=rc2.length:=by omega
   have hkn2:¬ (k:Int)<(rc2.length:Int):=by omega
   clear hbu
   have HI2:=Lib.hid ((HWA.out.below hBB).mono hBB.size)
   have HW2:=Lib.hid ((HWW.out.below hBB).mono hBB.size)
   have H66:=Lib.hid (show ∀ z,z ∈ l→z.length=6 from fun z hz=>(H6a.out z hz).1)
   clear hBB HWA HWW
   go_wp2_with fail
   refine (same_yes aw aa na cw ca l wr HW2.out HI2.out HLa.out (by omega) H66.out).mono ?_
   rintro e w15 ⟨rfl,hB⟩
   replace DB:=later DB hB
   clear hB
   go_wp2_with fail
   go_ret
   exact ⟨rfl,DB⟩
end Go.Proofs.YthmljpccbjolgaaGreatDoor.zsetTells
namespace Go.Proofs.YthmljpccbjolgaaGreatDoor.zsetTells
open Go.Joins Go.ChangeShapes Go.WideShapes Go.ChangeAt Go.RowKit num rat dbm Go.Proofs.YthmljpccbjolgaaGreatDoor.tight Go.Proofs.YthmljpccbjolgaaGreatDoor.incl Go.Proofs.YthmljpccbjolgaaGreatDoor.plaw Go.Proofs.YthmljpccbjolgaaGreatDoor.zopen Go.Proofs.YthmljpccbjolgaaGreatDoor.zone Go.Proofs.YthmljpccbjolgaaGreatDoor.zlaw Go.Proofs.YthmljpccbjolgaaGreatDoor.comp Go.Proofs.YthmljpccbjolgaaGreatDoor.win Go.Proofs.YthmljpccbjolgaaGreatDoor.minus Go.Proofs.YthmljpccbjolgaaGreatDoor.mz Go.Proofs.YthmljpccbjolgaaGreatDoor.mlaw Go.Proofs.YthmljpccbjolgaaGreatDoor.cover Go.Proofs.YthmljpccbjolgaaGreatDoor.claw Go.Proofs.YthmljpccbjolgaaGreatDoor.zset Go.Proofs.YthmljpccbjolgaaGreatDoor.slaw dref Go.Proofs.YthmljpccbjolgaaGreatDoor.mref Go.Proofs.YthmljpccbjolgaaGreatDoor.cref Go.Proofs.YthmljpccbjolgaaGreatDoor.sref
open bound hiding up
set_option linter.unusedVariables false
set_option linter.unusedSimpArgs false
set_option maxRecDepth 100000 in
theorem lifted (os:Os) (started:os.Started) (H:Type) (enc:TypeId × Value→H):
  ReturnsInHanded {} Tryz.checked os 4 .any (fun w args=>(Rows.zsetTellsSpec.pre enc Tryz.prog Tryz.f4 [] false w args∧laidMetH Tryz.prog zopen.places w)∧sizedMet enc Tryz.prog Tryz.f4 (OpenSpec.ofChange Rows.zsetTellsSpec) false w args) (Rows.zsetTellsSpec.post enc Tryz.prog Tryz.f4 false true false false):=by
 refine returnsInHanded_of_change_and (C:=Tryz.checked) (X:=fun w _=>laidMetH Tryz.prog zopen.places w) (fun _ _ _ hh h=>h.of_heap hh) law.own started (by kernel_rfl) Tryz.func4
  (ChangeSpec.witness_shaped (enc:=enc) (C:=Tryz.checked) (os:=os) (X:=fun w _=>laidMetH Tryz.prog zopen.places w) false (World.doorLaid Tryz.prog 400 os) #[.slice none 0 0,.slice none 0 0] 8 rfl (World.shaped_of_RefB (by kernel_rfl) (by kernel_rfl)) (by kernel_rfl) (by kernel_rfl) (by kernel_rfl) (zopen.door_met os _)) ?_
 intro W base args ds gs before hval0 hW _ _ hL _
 have hval:∀ (j:Nat) t v,Tryz.f4.params[j]?=some t→args[j]?=some v→Value.okWide Tryz.prog W .any base t v:=hval0
 have hW':=hW
 obtain ⟨p,q,hA0,hV,rfl,_,_⟩:=hW
 have hA:DataW.TrodAll enc Tryz.prog W 0 (fun _=>true) true Tryz.f4.params.toList args.toList ds p:=hA0
 rw [Tryz.params4] at hA hval
 obtain ⟨v0,vs0,d0,ds0,p0,q0,hargs,rfl,rfl,h0,r0⟩:=trodAll_cons hA
 obtain ⟨v1,vs1,d1,ds1,p1,q1,rfl,rfl,rfl,h1,r1⟩:=trodAll_cons r0
 obtain ⟨rfl,rfl,rfl⟩:=trodAll_nil r1
 obtain rfl:args=#[v0,v1]:=by cases args;simp_all
 obtain ⟨l0,x0,hI0,m0,c0⟩:=mz.open_zones (hval 0 29 v0 rfl rfl) h0
 obtain ⟨l1,x1,hI1,m1,c1⟩:=mz.open_zones (hval 1 29 v1 rfl rfl) h1
 refine (walk v0 l0 v1 l1 W x0 hI0 m0 c0 x1 hI1 m1 c1 (zopen.laid_pl hL)).mono fun e W' ⟨he,hB⟩=>?_
 subst he
 exact ⟨_,rfl,law.post_true law.laidOut (by kernel_rfl) rfl Tryz.underlying4 rfl hW' (fun h=>by subst h;rfl) hB⟩
theorem proved:Rows.ZsetTellsSaid:=
 OpenClaim.holds_of_wide 4 Tryz.f4 rfl rfl rfl rfl rfl rfl rfl ⟨rfl,rfl,rfl,rfl,rfl⟩ rfl rfl rfl rfl rfl (by kernel_rfl) Tryz.func4 Go.Proofs.YthmljpccbjolgaaGreatDoor.closedZsetTells.closed
  (of_decide_eq_true (by kernel_rfl)) (by unfold Func.isWrapper;first | (rw [if_pos (by decide+kernel)];kernel_rfl) | (rw [if_neg (by decide+kernel)];exact ⟨rfl,rfl⟩))
  (fun os started H enc _=>lifted os started H enc)
theorem card:Rows.ZsetTellsCardSaid:=
 Claim7.holds_tied_plain_at .later [] [.data] true (true, "dedfc36a848b7b0b3590d744953335447f29621c2f89cc141b977538f7b15672") false
  proved (fun _ h=>by cases h) Go.Proofs.YthmljpccbjolgaaGreatDoor.closedZsetTells.wfText (fun _ h=>by cases h) zsetTells_row_tie rfl ⟨rfl,rfl⟩ Go.Proofs.YthmljpccbjolgaaGreatDoor.closedZsetTells.isMain rfl
  (fun f fn hf hfn=>by
   obtain rfl:f=4:=Option.some.inj (Go.Proofs.YthmljpccbjolgaaGreatDoor.closedZsetTells.isNamed.symm.trans hf) |>.symm
   obtain rfl:fn=Tryz.f4:=(Option.some.inj (Tryz.func4.symm.trans hfn)).symm
   exact ⟨Go.Proofs.YthmljpccbjolgaaGreatDoor.closedZsetTells.noLooks,fun j t ht=>by
    rw [Tryz.params4] at ht
    have hm:t ∈ [29,29]:=by simpa using Array.mem_of_getElem? ht
    have hall:([29,29].all fun u=>!Tryz.prog.wantsStandIn u)=true:=(by have q:=Go.Proofs.YthmljpccbjolgaaGreatDoor.closedZsetTells.noStands;rw [Tryz.params4] at q;exact q)
    exact (show Tryz.prog.wantsStandIn t=false by simpa using List.all_eq_true.1 hall t hm)⟩)
  Go.Proofs.YthmljpccbjolgaaGreatDoor.closedZsetTells.goes
#print axioms card
end Go.Proofs.YthmljpccbjolgaaGreatDoor.zsetTells
