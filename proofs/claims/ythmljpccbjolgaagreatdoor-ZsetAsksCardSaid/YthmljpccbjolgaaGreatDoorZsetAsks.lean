import Derived.Test.YthmljpccbjolgaaGreatDoorZsetL
import Derived.Test.YthmljpccbjolgaaGreatDoorZsetR
import Derived.BigQuiet
import Derived.Test.YthmljpccbjolgaaGreatDoorZsetAsksF
import Derived.Test.YthmljpccbjolgaaGreatDoorCards
import Derived.Test.YthmljpccbjolgaaGreatDoorTie
namespace Go.Proofs.YthmljpccbjolgaaGreatDoor.zsetAsks
open Go.Joins Go.ChangeShapes Go.WideShapes Go.ChangeAt Go.RowKit num rat dbm Go.Proofs.YthmljpccbjolgaaGreatDoor.tight Go.Proofs.YthmljpccbjolgaaGreatDoor.incl Go.Proofs.YthmljpccbjolgaaGreatDoor.plaw Go.Proofs.YthmljpccbjolgaaGreatDoor.zopen Go.Proofs.YthmljpccbjolgaaGreatDoor.zone Go.Proofs.YthmljpccbjolgaaGreatDoor.zlaw Go.Proofs.YthmljpccbjolgaaGreatDoor.comp Go.Proofs.YthmljpccbjolgaaGreatDoor.win Go.Proofs.YthmljpccbjolgaaGreatDoor.minus Go.Proofs.YthmljpccbjolgaaGreatDoor.mz Go.Proofs.YthmljpccbjolgaaGreatDoor.mlaw Go.Proofs.YthmljpccbjolgaaGreatDoor.cover Go.Proofs.YthmljpccbjolgaaGreatDoor.claw Go.Proofs.YthmljpccbjolgaaGreatDoor.zset Go.Proofs.YthmljpccbjolgaaGreatDoor.slaw dref Go.Proofs.YthmljpccbjolgaaGreatDoor.mref Go.Proofs.YthmljpccbjolgaaGreatDoor.cref Go.Proofs.YthmljpccbjolgaaGreatDoor.sref
open bound hiding up
set_option linter.unusedVariables false
set_option linter.unusedSimpArgs false
theorem span_eq {s:Sp} {l r r':List (List Int)} {f f':Int} (hl:Six l) (h5:l.length≤5) (h:∃ c,SpC s c∧EachX RestP (WinT s) c l r f) (k:∃ c,SpC s c∧EachX RestR (WinT s) c l r' f'):r'=r∧f'=f:=by
 obtain ⟨c,h1,h2⟩:=h
 obtain ⟨d,k1,k2⟩:=k
 obtain rfl:=spc_one h1 k1
 exact each_one within_one' (each_few within_zo hl (by omega) h2) k2
theorem late_eq {x y:Int} {l r r':List (List Int)} {f f':Int} (hl:Six l) (h5:l.length≤5) (h:∃ c,NuC x y c∧EachX RestP (LatT x y) c l r f) (k:∃ c,NuC x y c∧EachX RestR (LatT x y) c l r' f'):r'=r∧f'=f:=by
 obtain ⟨c,h1,h2⟩:=h
 obtain ⟨d,k1,k2⟩:=k
 obtain rfl:=nuc_one h1 k1
 exact each_one window_one' (each_few window_zo hl (by omega) h2) k2
set_option maxRecDepth 100000 in
set_option maxHeartbeats 32000000 in
theorem walk (v:Value) (l:List (List Int)) (u:Value) (b:List (List Int)) (lo:Int) (ls:Bool) (hi:Int) (hs op:Bool) (fr tt pa pb pc pd:Int) (w:World) (hp:∀ x ∈ [pa,pb,pc,pd],-9223372036854775808≤x∧x≤9223372036854775807) (hfr:-9223372036854775808≤fr∧fr≤9223372036854775807) (htt:-9223372036854775808≤tt∧tt≤9223372036854775807) (hwf:Wf6 l) (hI:Zs w.heap.size w v l) (hm:l.length≤maxLen) (hc:∀ a l c,v=.slice a l c→l≤c) (hwg:Wf6 b) (hJ:Zs w.heap.size w u b) (hn:b.length≤maxLen) (hd:∀ a l c,u=.slice a l c→l≤c) (hP:Pl w) (hA:Pa w):Calls Tryz.prog 5 #[v,u,.agg #[.int .i64 lo,.bool ls,.int .i64 hi,.bool hs,.bool op],.int .i64 fr,.int .i64 tt,.agg #[.int .i64 pa,.int .i64 pb,.int .i64 pc,.int .i64 pd]] w fun e w'=>e=.returned (.bool true)∧Below w.heap.size w w':=by
 have HF:=Lib.hid hp
 clear hp
 have HFR:=Lib.hid hfr
 have HTT:=Lib.hid htt
 clear hfr htt
 obtain ⟨aa,ca,rfl⟩:=zs_len hI
 have H6a:=Lib.hid (show Six l from fun z hz=>⟨(hwf z hz).1,hwf.tops hz⟩)
 have HLOa:=Lib.hid (show ∀ z,z ∈ l→Low z from fun z hz x hx=>((hwf z hz).2 x hx).1)
 have HVa:=Lib.hid hI
 clear hwf hI hm hc
 obtain ⟨na,hna⟩:∃ n,n=l.length:=⟨_,rfl⟩
 have HLa:=Lib.hid hna.symm
 rw [←hna] at HVa ⊢
 clear hna
 obtain ⟨ab,cb,rfl⟩:=zs_len hJ
 have H6b:=Lib.hid (show Six b from fun z hz=>⟨(hwg z hz).1,hwg.tops hz⟩)
 have HLOb:=Lib.hid (show ∀ z,z ∈ b→Low z from fun z hz x hx=>((hwg z hz).2 x hx).1)
 have HVb:=Lib.hid hJ
 clear hwg hJ hn hd
 obtain ⟨nb,hnb⟩:∃ n,n=b.length:=⟨_,rfl⟩
 have HLb:=Lib.hid hnb.symm
 rw [←hnb] at HVb ⊢
 clear hnb
 have X:∃ w0,w0=(w.alloc (.cells #[.int .i64 lo,.bool ls,.int .i64 hi,.bool hs,.bool op] 35)).alloc (.cells #[.int .i64 pa,.int .i64 pb,.int .i64 pc,.int .i64 pd] 47):=⟨_,rfl⟩
 obtain ⟨w0,hX⟩:=X
 have DB:Below w.heap.size w w0:=by rw [hX];exact bound.up2 w _ _
 have DS:lies.Lies w0 w.heap.size 35 #[.int .i64 lo,.bool ls,.int .i64 hi,.bool hs,.bool op]:=by rw [hX];exact lies.on_alloc (lies.made _ _ _) _
 have DP:lies.Lies w0 (w.heap.size+1) 47 #[.int .i64 pa,.int .i64 pb,.int .i64 pc,.int .i64 pd]:=by rw [hX];exact lies.made_at _ _ _ _ (by simp)
 have P0:=hP.on DB
 have PA:=hA.on DB
 replace HVa:=Lib.hid ((HVa.out.below DB).mono DB.size)
 replace HVb:=Lib.hid ((HVb.out.below DB).mono DB.size)
 clear hP hA
 by_cases ha:na≤5
 case neg=>
  have hai:(5:Int)<(na:Int):=by omega
  go_enter Tryz.func5,Tryz.ntmps5
  go_wp2_with fail
  go_ret
  exact ⟨rfl,hX ▸ DB⟩
 have hai:¬ (5:Int)<(na:Int):=by omega
 by_cases hb:nb≤5
 case neg=>
  have hbi:(5:Int)<(nb:Int):=by omega
  go_enter Tryz.func5,Tryz.ntmps5
  go_wp2_with fail
  go_ret
  exact ⟨rfl,hX ▸ DB⟩
 have hbi:¬ (5:Int)<(nb:Int):=by omega
 have hla:l.length≤5:=by rw [HLa.out];exact ha
 have hlb:b.length≤5:=by rw [HLb.out];exact hb
 go_enter Tryz.func5,Tryz.ntmps5
 obtain ⟨⟨kS_0,kS_1,kS_2,kS_3,kS_4⟩,-⟩:=five_cells DS
 have kS_l:=lies.lt DS
 rw [hX] at kS_0 kS_1 kS_2 kS_3 kS_4 kS_l
 go_wp2_with fail
 rw [←hX]
 clear hX hai hbi kS_l kS_0 kS_1 kS_2 kS_3 kS_4
 refine (within_gen aa na ca l lo ls hi hs op w0 P0 PA (fun _=>⟨HVa.out,H6a.out⟩) HLa.out).mono ?_
 rintro e w1 ⟨hB,vc,rc,ec,rfl,hR,hO⟩
 obtain ⟨ac,cc,rfl⟩:=zs_len (zs_own hO)
 have HVc:=Lib.hid (zs_own hO)
 have HRc:=Lib.hid hR
 replace PA:=PA.on hB
 replace DS:=lies.on_call DS hB
 replace DP:=lies.on_call DP hB
 replace HVa:=Lib.hid ((HVa.out.below hB).mono hB.size)
 replace HVb:=Lib.hid ((HVb.out.below hB).mono hB.size)
 replace P0:=P0.on hB
 replace DB:=later DB hB
 clear hB hR hO
 have hsx:=(HRc.out.elim fun c h=>each_six within_zo H6a.out h.2)
 have HSc:=Lib.hid (show rc.length≤1000000∧∀ z,z ∈ rc→z.length=6 from ⟨by omega,fun z hz=>(hsx.1 z hz).1⟩)
 clear hsx
 obtain ⟨⟨kDS_0,kDS_1,kDS_2,kDS_3,kDS_4⟩,-⟩:=five_cells DS
 have kDS_l:=lies.lt DS
 go_wp2_with fail
 clear kDS_0 kDS_1 kDS_2 kDS_3 kDS_4 kDS_l
 refine (rwithin13_any aa na ca l lo ls hi hs op w1 HVa.out H6a.out HLOa.out HLa.out (by omega)).mono ?_
 rintro e w2 ⟨hB,vd,rc2,ed,rfl,hR,hO⟩
 obtain ⟨rfl,rfl⟩:=span_eq H6a.out hla HRc.out hR
 obtain ⟨ad,cd,rfl⟩:=zs_len (zs_own hO)
 have HVd:=Lib.hid (zs_own hO)
 replace PA:=PA.on hB
 replace DS:=lies.on_call DS hB
 replace DP:=lies.on_call DP hB
 replace HVa:=Lib.hid ((HVa.out.below hB).mono hB.size)
 replace HVb:=Lib.hid ((HVb.out.below hB).mono hB.size)
 replace HVc:=Lib.hid ((HVc.out.below hB).mono hB.size)
 replace P0:=P0.on hB
 replace DB:=later DB hB
 clear hB hR hO
 clear HRc DS
 go_wp2_with fail
 refine (window_gen aa na ca l fr tt w2 P0 PA (fun _=>⟨HVa.out,H6a.out⟩) HLa.out).mono ?_
 rintro e w3 ⟨hB,vg,rg,eg,rfl,hR,hO⟩
 obtain ⟨ag,cg,rfl⟩:=zs_len (zs_own hO)
 have HVg:=Lib.hid (zs_own hO)
 have HRg:=Lib.hid hR
 replace PA:=PA.on hB
 replace DP:=lies.on_call DP hB
 replace HVa:=Lib.hid ((HVa.out.below hB).mono hB.size)
 replace HVb:=Lib.hid ((HVb.out.below hB).mono hB.size)
 replace HVc:=Lib.hid ((HVc.out.below hB).mono hB.size)
 replace HVd:=Lib.hid ((HVd.out.below hB).mono hB.size)
 replace P0:=P0.on hB
 replace DB:=later DB hB
 clear hB hR hO
 have hsx:=(HRg.out.elim fun c h=>each_six window_zo H6a.out h.2)
 have HSg:=Lib.hid (show rg.length≤1000000∧∀ z,z ∈ rg→z.length=6 from ⟨by omega,fun z hz=>(hsx.1 z hz).1⟩)
 clear hsx
 go_wp2_with fail
 refine (rwindow13_any aa na ca l fr tt w3 HVa.out H6a.out HLOa.out HLa.out (by omega) HFR.out HTT.out).mono ?_
 rintro e w4 ⟨hB,vi,rg2,ei,rfl,hR,hO⟩
 obtain ⟨rfl,rfl⟩:=late_eq H6a.out hla HRg.out hR
 obtain ⟨ai,ci,rfl⟩:=zs_len (zs_own hO)
 have HVi:=Lib.hid (zs_own hO)
 replace PA:=PA.on hB
 replace DP:=lies.on_call DP hB
 replace HVa:=Lib.hid ((HVa.out.below hB).mono hB.size)
 replace HVb:=Lib.hid ((HVb.out.below hB).mono hB.size)
 replace HVc:=Lib.hid ((HVc.out.below hB).mono hB.size)
 replace HVd:=Lib.hid ((HVd.out.below hB).mono hB.size)
 replace HVg:=Lib.hid ((HVg.out.below hB).mono hB.size)
 replace P0:=P0.on hB
 replace DB:=later DB hB
 clear hB hR hO
 clear HRg
 go_wp2_with fail
 refine (zin_any aa na ca l ab nb cb b w4 P0 HVa.out H6a.out HLa.out (by omega) HVb.out H6b.out HLb.out (by omega)).mono ?_
 rintro e w5 ⟨hB,qx,ex,rfl,hR⟩
 have HRx:=Lib.hid hR
 replace PA:=PA.on hB
 replace DP:=lies.on_call DP hB
 replace HVa:=Lib.hid ((HVa.out.below hB).mono hB.size)
 replace HVb:=Lib.hid ((HVb.out.below hB).mono hB.size)
 replace HVc:=Lib.hid ((HVc.out.below hB).mono hB.size)
 replace HVd:=Lib.hid ((HVd.out.below hB).mono hB.size)
 replace HVg:=Lib.hid ((HVg.out.below hB).mono hB.size)
 replace HVi:=Lib.hid ((HVi.out.below hB).mono hB.size)
 replace P0:=P0.on hB
 replace DB:=later DB hB
 clear hB hR
 go_wp2_with fail
 refine (rin13_any aa na ca l ab nb cb b w5 HVa.out HVb.out H6a.out H6b.out HLOa.out HLOb.out HLa.out HLb.out (by omega) (by omega)).mono ?_
 rintro e w6 ⟨hB,y6,f6,rfl,hR⟩
 obtain ⟨rfl,rfl⟩:=all_same (all_few H6a.out H6b.out (by omega) HRx.out) hR
 replace PA:=PA.on hB
 replace DP:=lies.on_call DP hB
 replace HVa:=Lib.hid ((HVa.out.below hB).mono hB.size)
 replace HVb:=Lib.hid ((HVb.out.below hB).mono hB.size)
 replace HVc:=Lib.hid ((HVc.out.below hB).mono hB.size)
 replace HVd:=Lib.hid ((HVd.out.below hB).mono hB.size)
 replace HVg:=Lib.hid ((HVg.out.below hB).mono hB.size)
 replace HVi:=Lib.hid ((HVi.out.below hB).mono hB.size)
 replace P0:=P0.on hB
 replace DB:=later DB hB
 clear hB
 clear hR HRx
 go_wp2_with fail
 refine (zsame_any aa na ca l ab nb cb b w6 P0 HVa.out H6a.out HLa.out (by omega) HVb.out H6b.out HLb.out (by omega)).mono ?_
 rintro e w7 ⟨hB,qx,ex,rfl,hR⟩
 have HRx:=Lib.hid hR
 replace PA:=PA.on hB
 replace DP:=lies.on_call DP hB
 replace HVa:=Lib.hid ((HVa.out.below hB).mono hB.size)
 replace HVb:=Lib.hid ((HVb.out.below hB).mono hB.size)
 replace HVc:=Lib.hid ((HVc.out.below hB).mono hB.size)
 replace HVd:=Lib.hid ((HVd.out.below hB).mono hB.size)
 replace HVg:=Lib.hid ((HVg.out.below hB).mono hB.size)
 replace HVi:=Lib.hid ((HVi.out.below hB).mono hB.size)
 replace P0:=P0.on hB
 replace DB:=later DB hB
 clear hB hR
 go_wp2_with fail
 refine (rsame13_any aa na ca l ab nb cb b w7 HVa.out HVb.out H6a.out H6b.out HLOa.out HLOb.out HLa.out HLb.out (by omega) (by omega)).mono ?_
 rintro e w8 ⟨hB,y8,f8,rfl,hR⟩
 obtain ⟨rfl,rfl⟩:=same_one (same_few H6a.out H6b.out (by omega) (by omega) HRx.out) hR
 replace PA:=PA.on hB
 replace DP:=lies.on_call DP hB
 replace HVa:=Lib.hid ((HVa.out.below hB).mono hB.size)
 replace HVb:=Lib.hid ((HVb.out.below hB).mono hB.size)
 replace HVc:=Lib.hid ((HVc.out.below hB).mono hB.size)
 replace HVd:=Lib.hid ((HVd.out.below hB).mono hB.size)
 replace HVg:=Lib.hid ((HVg.out.below hB).mono hB.size)
 replace HVi:=Lib.hid ((HVi.out.below hB).mono hB.size)
 replace P0:=P0.on hB
 replace DB:=later DB hB
 clear hB
 clear hR HRx
 obtain ⟨⟨kDP_0,kDP_1,kDP_2,kDP_3⟩,-⟩:=four_cells DP
 have kDP_l:=lies.lt DP
 go_wp2_with fail
 clear kDP_0 kDP_1 kDP_2 kDP_3 kDP_l
 refine (zhas_gen aa na ca l pa pb pc pd w8 P0 PA (fun _=>⟨HVa.out,H6a.out⟩) HLa.out HF.out).mono ?_
 rintro e w9 ⟨hB,qx,ex,rfl,hR⟩
 have HRx:=Lib.hid hR
 replace PA:=PA.on hB
 replace DP:=lies.on_call DP hB
 replace HVa:=Lib.hid ((HVa.out.below hB).mono hB.size)
 replace HVb:=Lib.hid ((HVb.out.below hB).mono hB.size)
 replace HVc:=Lib.hid ((HVc.out.below hB).mono hB.size)
 replace HVd:=Lib.hid ((HVd.out.below hB).mono hB.size)
 replace HVg:=Lib.hid ((HVg.out.below hB).mono hB.size)
 replace HVi:=Lib.hid ((HVi.out.below hB).mono hB.size)
 replace P0:=P0.on hB
 replace DB:=later DB hB
 clear hB hR
 obtain ⟨⟨kDP_0,kDP_1,kDP_2,kDP_3⟩,-⟩:=four_cells DP
 have kDP_l:=lies.lt DP
 go_wp2_with fail
 clear kDP_0 kDP_1 kDP_2 kDP_3 kDP_l
 refine (rhas13_any aa na ca l pa pb pc pd w9 HVa.out H6a.out HLOa.out HLa.out (by omega) HF.out).mono ?_
 rintro e w10 ⟨hB,y9,f9,rfl,hR⟩
 obtain ⟨rfl,rfl⟩:=has_one' HRx.out hR
 replace PA:=PA.on hB
 replace DP:=lies.on_call DP hB
 replace HVa:=Lib.hid ((HVa.out.below hB).mono hB.size)
 replace HVb:=Lib.hid ((HVb.out.below hB).mono hB.size)
 replace HVc:=Lib.hid ((HVc.out.below hB).mono hB.size)
 replace HVd:=Lib.hid ((HVd.out.below hB).mono hB.size)
 replace HVg:=Lib.hid ((HVg.out.below hB).mono hB.size)
 replace HVi:=Lib.hid ((HVi.out.below hB).mono hB.size)
 replace P0:=P0.on hB
 replace DB:=later DB hB
 clear hB
 clear hR HRx DP
 go_wp2_with fail
 refine (same_yes ac ad rc2.length cc cd rc2 w10 HVc.out HVd.out rfl HSc.out.1 HSc.out.2).mono ?_
 rintro e w11 ⟨rfl,hB⟩
 replace PA:=PA.on hB
 replace HVa:=Lib.hid ((HVa.out.below hB).mono hB.size)
 replace HVb:=Lib.hid ((HVb.out.below hB).mono hB.size)
 replace HVc:=Lib.hid ((HVc.out.below hB).mono hB.size)
 replace HVd:=Lib.hid ((HVd.out.below hB).mono hB.size)
 replace HVg:=Lib.hid ((HVg.out.below hB).mono hB.size)
 replace HVi:=Lib.hid ((HVi.out.below hB).mono hB.size)
 replace P0:=P0.on hB
 replace DB:=later DB hB
 clear hB
 go_wp2_with fail
 refine (same_yes ag ai rg2.length cg ci rg2 w11 HVg.out HVi.out rfl HSg.out.1 HSg.out.2).mono ?_
 rintro e w12 ⟨rfl,hB⟩
 replace PA:=PA.on hB
 replace HVa:=Lib.hid ((HVa.out.below hB).mono hB.size)
 replace HVb:=Lib.hid ((HVb.out.below hB).mono hB.size)
 replace HVc:=Lib.hid ((HVc.out.below hB).mono hB.size)
 replace HVd:=Lib.hid ((HVd.out.below hB).mono hB.size)
 replace HVg:=Lib.hid ((HVg.out.below hB).mono hB.size)
 replace HVi:=Lib.hid ((HVi.out.below hB).mono hB.size)
 replace P0:=P0.on hB
 replace DB:=later DB hB
 clear hB
 go_wp2_with fail
 go_ret
 exact ⟨rfl,DB⟩
end Go.Proofs.YthmljpccbjolgaaGreatDoor.zsetAsks
namespace Go.Proofs.YthmljpccbjolgaaGreatDoor.zsetAsks
open Go.Joins Go.ChangeShapes Go.WideShapes Go.ChangeAt Go.RowKit num rat dbm Go.Proofs.YthmljpccbjolgaaGreatDoor.tight Go.Proofs.YthmljpccbjolgaaGreatDoor.incl Go.Proofs.YthmljpccbjolgaaGreatDoor.plaw Go.Proofs.YthmljpccbjolgaaGreatDoor.zopen Go.Proofs.YthmljpccbjolgaaGreatDoor.zone Go.Proofs.YthmljpccbjolgaaGreatDoor.zlaw Go.Proofs.YthmljpccbjolgaaGreatDoor.comp Go.Proofs.YthmljpccbjolgaaGreatDoor.win Go.Proofs.YthmljpccbjolgaaGreatDoor.minus Go.Proofs.YthmljpccbjolgaaGreatDoor.mz Go.Proofs.YthmljpccbjolgaaGreatDoor.mlaw Go.Proofs.YthmljpccbjolgaaGreatDoor.cover Go.Proofs.YthmljpccbjolgaaGreatDoor.claw Go.Proofs.YthmljpccbjolgaaGreatDoor.zset Go.Proofs.YthmljpccbjolgaaGreatDoor.slaw dref Go.Proofs.YthmljpccbjolgaaGreatDoor.mref Go.Proofs.YthmljpccbjolgaaGreatDoor.cref Go.Proofs.YthmljpccbjolgaaGreatDoor.sref
open bound hiding up
set_option linter.unusedVariables false
set_option linter.unusedSimpArgs false
set_option maxRecDepth 100000 in
theorem lifted (os:Os) (started:os.Started) (H:Type) (enc:TypeId × Value→H):
  ReturnsInHanded {} Tryz.checked os 5 .any (fun w args=>(Rows.zsetAsksSpec.pre enc Tryz.prog Tryz.f5 [] false w args∧laidMetH Tryz.prog slaw.both w)∧sizedMet enc Tryz.prog Tryz.f5 (OpenSpec.ofChange Rows.zsetAsksSpec) false w args) (Rows.zsetAsksSpec.post enc Tryz.prog Tryz.f5 false true false false):=by
 refine returnsInHanded_of_change_and (C:=Tryz.checked) (X:=fun w _=>laidMetH Tryz.prog slaw.both w) (fun _ _ _ hh h=>h.of_heap hh) law.own started (by kernel_rfl) Tryz.func5
  (ChangeSpec.witness_shaped (enc:=enc) (C:=Tryz.checked) (os:=os) (X:=fun w _=>laidMetH Tryz.prog slaw.both w) false (World.doorLaid Tryz.prog 400 os) #[.slice none 0 0,.slice none 0 0,.agg #[.int .i64 0,.bool false,.int .i64 0,.bool false,.bool false],.int .i64 0,.int .i64 0,.agg #[.int .i64 0,.int .i64 0,.int .i64 0,.int .i64 0]] 8 rfl (World.shaped_of_RefB (by kernel_rfl) (by kernel_rfl)) (by kernel_rfl) (by kernel_rfl) (by kernel_rfl) (slaw.door_both os _)) ?_
 intro W base args ds gs before hval0 hW _ _ hL _
 have hval:∀ (j:Nat) t v,Tryz.f5.params[j]?=some t→args[j]?=some v→Value.okWide Tryz.prog W .any base t v:=hval0
 have hW':=hW
 obtain ⟨p,q,hA0,hV,rfl,_,_⟩:=hW
 have hA:DataW.TrodAll enc Tryz.prog W 0 (fun _=>true) true Tryz.f5.params.toList args.toList ds p:=hA0
 rw [Tryz.params5] at hA hval
 obtain ⟨v0,vs0,d0,ds0,p0,q0,hargs,rfl,rfl,h0,r0⟩:=trodAll_cons hA
 obtain ⟨v1,vs1,d1,ds1,p1,q1,rfl,rfl,rfl,h1,r1⟩:=trodAll_cons r0
 obtain ⟨v2,vs2,d2,ds2,p2,q2,rfl,rfl,rfl,h2,r2⟩:=trodAll_cons r1
 obtain ⟨v3,vs3,d3,ds3,p3,q3,rfl,rfl,rfl,h3,r3⟩:=trodAll_cons r2
 obtain ⟨v4,vs4,d4,ds4,p4,q4,rfl,rfl,rfl,h4,r4⟩:=trodAll_cons r3
 obtain ⟨v5,vs5,d5,ds5,p5,q5,rfl,rfl,rfl,h5,r5⟩:=trodAll_cons r4
 obtain ⟨rfl,rfl,rfl⟩:=trodAll_nil r5
 obtain rfl:args=#[v0,v1,v2,v3,v4,v5]:=by cases args;simp_all
 obtain ⟨l0,x0,hI0,m0,c0⟩:=mz.open_zones (hval 0 29 v0 rfl rfl) h0
 obtain ⟨l1,x1,hI1,m1,c1⟩:=mz.open_zones (hval 1 29 v1 rfl rfl) h1
 obtain ⟨lo2,ls2,hi2,hs2,op2,rfl⟩:=tlaw.open_span (hval 2 35 v2 rfl rfl) h2
 obtain ⟨m3,rfl,rfl,rfl,x3⟩:=open_int Tryz.underlying3 (hval 3 3 v3 rfl rfl) h3
 obtain ⟨m4,rfl,rfl,rfl,x4⟩:=open_int Tryz.underlying3 (hval 4 3 v4 rfl rfl) h4
 obtain ⟨a5,b5,c5,e5,rfl,w5⟩:=zopen.open_point (hval 5 47 v5 rfl rfl) h5
 refine (walk v0 l0 v1 l1 lo2 ls2 hi2 hs2 op2 m3 m4 a5 b5 c5 e5 W (fun x hx=>⟨law.wf_lo (w5 x hx),law.wf_hi (w5 x hx)⟩) ⟨law.wf_lo x3,law.wf_hi x3⟩ ⟨law.wf_lo x4,law.wf_hi x4⟩ x0 hI0 m0 c0 x1 hI1 m1 c1 (slaw.laid_two hL).1 (slaw.laid_two hL).2).mono fun e W' ⟨he,hB⟩=>?_
 subst he
 exact ⟨_,rfl,law.post_true law.laidOut (by kernel_rfl) rfl Tryz.underlying4 rfl hW' (fun h=>by subst h;rfl) hB⟩
theorem proved:Rows.ZsetAsksSaid:=
 OpenClaim.holds_of_wide 5 Tryz.f5 rfl rfl rfl rfl rfl rfl rfl ⟨rfl,rfl,rfl,rfl,rfl⟩ rfl rfl rfl rfl rfl (by kernel_rfl) Tryz.func5 Go.Proofs.YthmljpccbjolgaaGreatDoor.closedZsetAsks.closed
  (of_decide_eq_true (by kernel_rfl)) (by unfold Func.isWrapper;first | (rw [if_pos (by decide+kernel)];kernel_rfl) | (rw [if_neg (by decide+kernel)];exact ⟨rfl,rfl⟩))
  (fun os started H enc _=>lifted os started H enc)
theorem card:Rows.ZsetAsksCardSaid:=
 Claim7.holds_tied_plain_at .later [] [.data,.data] true (true, "dedfc36a848b7b0b3590d744953335447f29621c2f89cc141b977538f7b15672") false
  proved (fun _ h=>by cases h) Go.Proofs.YthmljpccbjolgaaGreatDoor.closedZsetAsks.wfText (fun _ h=>by cases h) zsetAsks_row_tie rfl ⟨rfl,rfl⟩ Go.Proofs.YthmljpccbjolgaaGreatDoor.closedZsetAsks.isMain rfl
  (fun f fn hf hfn=>by
   obtain rfl:f=5:=Option.some.inj (Go.Proofs.YthmljpccbjolgaaGreatDoor.closedZsetAsks.isNamed.symm.trans hf) |>.symm
   obtain rfl:fn=Tryz.f5:=(Option.some.inj (Tryz.func5.symm.trans hfn)).symm
   exact ⟨Go.Proofs.YthmljpccbjolgaaGreatDoor.closedZsetAsks.noLooks,fun j t ht=>by
    rw [Tryz.params5] at ht
    have hm:t ∈ [29,29,35,3,3,47]:=by simpa using Array.mem_of_getElem? ht
    have hall:([29,29,35,3,3,47].all fun u=>!Tryz.prog.wantsStandIn u)=true:=(by have q:=Go.Proofs.YthmljpccbjolgaaGreatDoor.closedZsetAsks.noStands;rw [Tryz.params5] at q;exact q)
    exact (show Tryz.prog.wantsStandIn t=false by simpa using List.all_eq_true.1 hall t hm)⟩)
  Go.Proofs.YthmljpccbjolgaaGreatDoor.closedZsetAsks.goes
#print axioms card
end Go.Proofs.YthmljpccbjolgaaGreatDoor.zsetAsks
