
/-
  The chapter's example of sets, in numbers; law 13's own calls; each theorem names its conditions.
-/
import Derived.Test.YthmljpccbjolgaaGreatDoorCoverL
import Derived.Test.YthmljpccbjolgaaGreatDoorZsetD
namespace Go.Proofs.YthmljpccbjolgaaGreatDoor.slaw
open Go.Joins Go.ChangeShapes Go.WideShapes Go.ChangeAt Go.RowKit num rat dbm Go.Proofs.YthmljpccbjolgaaGreatDoor.tight Go.Proofs.YthmljpccbjolgaaGreatDoor.incl Go.Proofs.YthmljpccbjolgaaGreatDoor.plaw Go.Proofs.YthmljpccbjolgaaGreatDoor.zopen Go.Proofs.YthmljpccbjolgaaGreatDoor.zone Go.Proofs.YthmljpccbjolgaaGreatDoor.zlaw Go.Proofs.YthmljpccbjolgaaGreatDoor.comp Go.Proofs.YthmljpccbjolgaaGreatDoor.win Go.Proofs.YthmljpccbjolgaaGreatDoor.minus Go.Proofs.YthmljpccbjolgaaGreatDoor.mz Go.Proofs.YthmljpccbjolgaaGreatDoor.mlaw Go.Proofs.YthmljpccbjolgaaGreatDoor.cover Go.Proofs.YthmljpccbjolgaaGreatDoor.claw Go.Proofs.YthmljpccbjolgaaGreatDoor.zset
open bound hiding up
set_option linter.unusedVariables false
set_option linter.unusedSimpArgs false
theorem zo_m:Zo [3,-1,9,-2,7,0]:=by
 obtain ⟨k1,k2⟩:=tlaw.ok_cl (m:=3) (by decide) (ts:=[1,-1,-2,3,1,0,9,7,1]) (us:=[1,-1,-2,3,1,0,9,7,1]) (by decide+kernel) (by decide+kernel)
 exact ⟨⟨k1,k2⟩,by unfold Tops;decide,rfl⟩
theorem zo_c:Zo [3,1,9,-2,9,0]:=by
 obtain ⟨k1,k2⟩:=tlaw.ok_cl (m:=3) (by decide) (ts:=[1,1,-2,3,1,0,9,9,1]) (us:=[1,1,-2,3,1,0,9,9,1]) (by decide+kernel) (by decide+kernel)
 exact ⟨⟨k1,k2⟩,by unfold Tops;decide,rfl⟩
theorem meet_pq:MeetR [3,1,9,0,9,0] [8,-1,9,-2,7,0] [3,-1,9,-2,7,0] 0:=by
 obtain ⟨k1,k2⟩:=tlaw.ok_cl (m:=3) (by decide) (ts:=[1,-1,-2,3,1,0,9,7,1]) (us:=[1,-1,-2,3,1,0,9,7,1]) (by decide+kernel) (by decide+kernel)
 have e:lesT (fullT [3,1,9,0,9,0]) (fullT [8,-1,9,-2,7,0])=[1,-1,-2,3,1,0,9,7,1]:=by decide+kernel
 have k1:OkD 3 [1,-1,-2,3,1,0,9,7,1]:=k1
 have k2:clT 3 [1,-1,-2,3,1,0,9,7,1]=[1,-1,-2,3,1,0,9,7,1]:=k2
 refine .inr (.inr (.inr ⟨zo_p.1,zo_q.1,by rw [e];exact k1,by rw [e,k2];exact k1.1,by rw [e,k2];rfl,rfl⟩))
theorem comp_pq:CompR [3,1,9,0,9,0] [8,-1,9,-2,7,0] [3,1,9,-2,9,0] 0:=by
 obtain ⟨k1,k2⟩:=tlaw.ok_cl (m:=4) (by decide) (ts:=[1,1,-1,-2,3,1,0,9223372036854775807,8,9,1,0,9,9223372036854775807,7,1]) (us:=[1,1,-1,-2,3,1,0,0,8,8,1,0,9,9,7,1]) (by decide+kernel) (by decide+kernel)
 have e:bothT [3,1,9,0,9,0] [8,-1,9,-2,7,0]=[1,1,-1,-2,3,1,0,9223372036854775807,8,9,1,0,9,9223372036854775807,7,1]:=by decide+kernel
 have k1:OkD 4 [1,1,-1,-2,3,1,0,9223372036854775807,8,9,1,0,9,9223372036854775807,7,1]:=k1
 have k2:clT ((4:Nat):Int) [1,1,-1,-2,3,1,0,9223372036854775807,8,9,1,0,9,9223372036854775807,7,1]=[1,1,-1,-2,3,1,0,0,8,8,1,0,9,9,7,1]:=k2
 have ec:compT [3,1,9,0,9,0] [8,-1,9,-2,7,0]=[3,1,9,-2,9,0]:=by
  unfold compT proj.dropT
  rw [e,k2]
  decide+kernel
 refine .inr (.inr (.inr ⟨zo_p.1,zo_q.1,by rw [e];exact k1,by rw [ec];exact zo_c.1,ec.symm,rfl⟩))
theorem make_c:MakeR (0,false,1,false,false) (1,true,4,false,false) (0,true,0,false,true) [3,1,9,-2,9,0] 0:=by
 have h0:MayP (0,false,1,false,false):=⟨⟨by decide,by decide⟩,.inr ⟨rfl,⟨by decide,by decide⟩,by decide⟩⟩
 have h1:MayP (1,true,4,false,false):=⟨⟨by decide,by decide⟩,.inr ⟨rfl,⟨by decide,by decide⟩,by decide⟩⟩
 have h2:MayP (0,true,0,false,true):=⟨⟨by decide,by decide⟩,.inl ⟨rfl,rfl,rfl⟩⟩
 have e:fullT (spanZ (0,false,1,false,false) (1,true,4,false,false) (0,true,0,false,true))=[1,1,-2,3,1,0,9,9223372036854775807,1]:=by decide+kernel
 obtain ⟨k1,k2⟩:=tlaw.ok_cl (m:=3) (by decide) (ts:=[1,1,-2,3,1,0,9,9223372036854775807,1]) (us:=[1,1,-2,3,1,0,9,9,1]) (by decide+kernel) (by decide+kernel)
 have k1:OkD 3 [1,1,-2,3,1,0,9,9223372036854775807,1]:=k1
 have k2:clT 3 [1,1,-2,3,1,0,9,9223372036854775807,1]=[1,1,-2,3,1,0,9,9,1]:=k2
 unfold MakeR
 rw [e,k2]
 exact .inr (.inr (.inr ⟨h0,h1,h2,k1,by decide,rfl,rfl⟩))
theorem make_m:MakeR (1,false,1,false,false) (0,false,4,false,false) (0,true,0,false,true) [3,-1,9,-2,7,0] 0:=by
 have h0:MayP (1,false,1,false,false):=⟨⟨by decide,by decide⟩,.inr ⟨rfl,⟨by decide,by decide⟩,by decide⟩⟩
 have h1:MayP (0,false,4,false,false):=⟨⟨by decide,by decide⟩,.inr ⟨rfl,⟨by decide,by decide⟩,by decide⟩⟩
 have h2:MayP (0,true,0,false,true):=⟨⟨by decide,by decide⟩,.inl ⟨rfl,rfl,rfl⟩⟩
 have e:fullT (spanZ (1,false,1,false,false) (0,false,4,false,false) (0,true,0,false,true))=[1,-1,1,3,1,0,9,9223372036854775807,1]:=by decide+kernel
 obtain ⟨k1,k2⟩:=tlaw.ok_cl (m:=3) (by decide) (ts:=[1,-1,1,3,1,0,9,9223372036854775807,1]) (us:=[1,-1,-2,3,1,0,9,7,1]) (by decide+kernel) (by decide+kernel)
 have k1:OkD 3 [1,-1,1,3,1,0,9,9223372036854775807,1]:=k1
 have k2:clT 3 [1,-1,1,3,1,0,9,9223372036854775807,1]=[1,-1,-2,3,1,0,9,7,1]:=k2
 unfold MakeR
 rw [e,k2]
 exact .inr (.inr (.inr ⟨h0,h1,h2,k1,by decide,rfl,rfl⟩))
theorem less_pz:LessR [8,1,9,0,9,0] 6 [3,1,9,0,9,0] [] 0:=by
 refine pcs_is zo_p zo_z ?_
 exact .inl ⟨by decide,.inl ⟨by decide,.inl ⟨by decide,.inl ⟨by decide,.inl ⟨by decide,.inl ⟨by decide,rfl⟩⟩⟩⟩⟩⟩
theorem less_qz:LessR [8,1,9,0,9,0] 6 [8,-1,9,-2,7,0] [] 0:=by
 refine pcs_is zo_q zo_z ?_
 exact .inl ⟨by decide,.inl ⟨by decide,.inl ⟨by decide,.inl ⟨by decide,.inl ⟨by decide,.inl ⟨by decide,rfl⟩⟩⟩⟩⟩⟩
theorem rest_pz:RestR [[8,1,9,0,9,0]] [[3,1,9,0,9,0]] [] 0:=rest_one less_pz (by decide)
theorem rest_qz:RestR [[8,1,9,0,9,0]] [[8,-1,9,-2,7,0]] [] 0:=rest_one less_qz (by decide)
theorem want_one (z:List Int):Want RestR 1 [z] [z] 0:=⟨[z],0,⟨rfl,rfl⟩,.inr ⟨rfl,.inr ⟨(fun h=>by cases h),rfl,rfl⟩⟩⟩
theorem pru_one {z:List Int} (hz:Zo z):PruX RestR [z] [z] 0:=⟨0,chk_zero (by show 1≤4096;decide) (by decide) (all_one hz) (fun x hx=>by cases hx),.inr ⟨rfl,want_one z⟩⟩
theorem pru_none:PruX RestR [] [] 0:=⟨0,chk_zero (by decide) (by decide) (fun x hx=>by cases hx) (fun x hx=>by cases hx),.inr ⟨rfl,rfl,rfl⟩⟩
theorem or_pqz {r:List (List Int)} {f:Int} (h:OrX RestP [[3,1,9,0,9,0],[8,-1,9,-2,7,0]] [[8,1,9,0,9,0]] r f):r=[[3,1,9,0,9,0],[8,-1,9,-2,7,0]]∧f=0:=by
 refine or_one (f:=0) ⟨0,chk_zero (by decide) (by decide) (all_two zo_p zo_q) (all_one zo_z),.inr ⟨rfl,0,chk_zero (by decide) (by decide) (all_three zo_p zo_q zo_z) (fun x hx=>by cases hx),.inr ⟨rfl,?_⟩⟩⟩ (or_few (zos_six (all_two zo_p zo_q)) (zos_six (all_one zo_z)) (by decide) h)
 rw [show srt ([[3,1,9,0,9,0],[8,-1,9,-2,7,0]]++[[8,1,9,0,9,0]])=[[3,1,9,0,9,0],[8,-1,9,-2,7,0],[8,1,9,0,9,0]] from by decide]
 exact want_pqz
theorem and_pq {r:List (List Int)} {f:Int} (h:BothX RestP MetT [[3,1,9,0,9,0]] [[8,-1,9,-2,7,0]] r f):r=[[3,-1,9,-2,7,0]]∧f=0:=
 both_one' (f:=0) (fun y z o e o' e'=>meet_one' y z o e o' e') ⟨0,chk_zero (by decide) (by decide) (all_one zo_p) (all_one zo_q),.inr ⟨rfl,[[3,-1,9,-2,7,0]],0,⟨_,0,meet_pq,.inr (.inr ⟨rfl,rfl,rfl⟩)⟩,.inr ⟨rfl,_,0,pru_one zo_m,.inr ⟨rfl,rfl,rfl⟩⟩⟩⟩ (both_few (fun y hy z hz o=>meet_zo y hy z hz o) (zos_six (all_one zo_p)) (zos_six (all_one zo_q)) (by decide) h)
theorem comp_pq' {r:List (List Int)} {f:Int} (h:BothX RestP ComT [[3,1,9,0,9,0]] [[8,-1,9,-2,7,0]] r f):r=[[3,1,9,-2,9,0]]∧f=0:=
 both_one' (f:=0) (fun y z o e o' e'=>comp_one' y z o e o' e') ⟨0,chk_zero (by decide) (by decide) (all_one zo_p) (all_one zo_q),.inr ⟨rfl,[[3,1,9,-2,9,0]],0,⟨_,0,comp_pq,.inr (.inr ⟨rfl,rfl,rfl⟩)⟩,.inr ⟨rfl,_,0,pru_one zo_c,.inr ⟨rfl,rfl,rfl⟩⟩⟩⟩ (both_few (fun y hy z hz o=>comp_zo y hy z hz o) (zos_six (all_one zo_p)) (zos_six (all_one zo_q)) (by decide) h)
theorem same_zpq {is:Bool} {f:Int} (h:SameX RestP [[8,1,9,0,9,0]] [[3,1,9,0,9,0],[8,-1,9,-2,7,0]] is f):is=true∧f=0:=by
 refine same_one (f:=0) (is:=true) ⟨true,0,⟨0,chk_zero (by decide) (by decide) (all_one zo_z) (all_two zo_p zo_q),.inr ⟨rfl,_,0,rest_zpq,.inr ⟨rfl,.inr ⟨rfl,rfl,rfl⟩⟩⟩⟩,.inr ⟨rfl,0,chk_zero (by decide) (by decide) (all_two zo_p zo_q) (all_one zo_z),.inr ⟨rfl,_,0,rest_pz,.inr ⟨rfl,.inr ⟨rfl,_,0,rest_qz,.inr ⟨rfl,.inr ⟨rfl,rfl,rfl⟩⟩⟩⟩⟩⟩⟩ (same_few (zos_six (all_one zo_z)) (zos_six (all_two zo_p zo_q)) (by decide) (by decide) h)
theorem mays_pz {f:Int} (h:MayS RestP [[3,1,9,0,9,0],[8,1,9,0,9,0]] f):f=8:=by
 refine mays_one (f:=8) ⟨[[8,1,9,0,9,0]],0,⟨0,chk_zero (by decide) (by decide) (all_two zo_p zo_z) (fun x hx=>by cases hx),.inr ⟨rfl,?_⟩⟩,by decide⟩ (mays_few (zos_six (all_two zo_p zo_z)) (by decide) h)
 rw [show srt [[3,1,9,0,9,0],[8,1,9,0,9,0]]=[[3,1,9,0,9,0],[8,1,9,0,9,0]] from by decide]
 exact ⟨_,0,rest_zp,.inr ⟨rfl,.inr ⟨by decide,_,0,rest_pz,.inr ⟨rfl,.inl ⟨rfl,rfl,rfl⟩⟩⟩⟩⟩
theorem mays_none {f:Int} (h:MayS RestP [] f):f=0:=mays_one (f:=0) ⟨[],0,pru_none,by decide⟩ (mays_few six_nil (by decide) h)
/-! the two variables that a law's row may list -/
def both {H:Type}:List (String × DataW H):=[("rallentando/zone.places",Rows.laid_rallentando_zone_places),("rallentando/zset.all",Rows.laid_rallentando_zset_all)]
theorem door_both (os:Os) (args:Array Value):laidMetH Tryz.prog both ((World.doorLaid Tryz.prog 400 os).forCall (fun _ _=>0) ⟨#[],args,[]⟩).memory:=
 laidMetH_of_parts3 (fuel:=8) (laidMet_of_run' 8 (by kernel_rfl) (by kernel_rfl)) (by kernel_rfl) (by kernel_rfl)
theorem gAll:Tryz.prog.globalNamed "rallentando/zset.all" =some 0:=by kernel_rfl
theorem tAll:(Tryz.prog.globals[0]?).map (·.type)=some 27:=by kernel_rfl
theorem all_cell {W:World} {cs:Array Value} {m i:Nat} {k:Int} {x:DataW Unit × List MemPlace} (hv:W.var? Tryz.prog "rallentando/zset.all" =some cs)
  (h:DataW.trod (fun _=>()) Tryz.prog W 0 (fun _=>true) false m 25 ((cs.toList.drop (i*1)).take 1)=some x) (hx:x.1=.lit (.int .i64 k)):W.cell? ⟨0,i,none⟩=some (.int .i64 k):=by
 obtain ⟨j,e1,rfl,_⟩:=DataW.trod_int Tryz.underlying25 h
 obtain rfl:j=k:=by simpa using hx
 rw [World.var?_cell gAll hv i,←Array.getElem?_toList]
 exact zopen.take_one e1
set_option maxRecDepth 100000 in
theorem all_cells {W:World} {cs:Array Value} {f:Nat} {p:List MemPlace} (hv0:W.var? Tryz.prog "rallentando/zset.all" =some cs) (hd0:DataW.trod (fun _=>()) Tryz.prog W 0 (fun _=>true) false f 27 cs.toList=some (Rows.laid_rallentando_zset_all,p)):W.cell? ⟨0,0,none⟩=some (.int .i64 9223372036854775807)∧W.cell? ⟨0,1,none⟩=some (.int .i64 9223372036854775807)∧W.cell? ⟨0,2,none⟩=some (.int .i64 9223372036854775807)∧W.cell? ⟨0,3,none⟩=some (.int .i64 9223372036854775807)∧W.cell? ⟨0,4,none⟩=some (.int .i64 9223372036854775807)∧W.cell? ⟨0,5,none⟩=some (.int .i64 9223372036854775807):=by
 have c1:Tryz.prog.cellsOf 25=1:=by kernel_rfl
 obtain ⟨xs,m,_,hx,_,hn,hel⟩:=DataW.trod_array Tryz.underlying27 hd0
 rw [c1] at hel
 match xs,hn with
 | [x0,x1,x2,x3,x4,x5],_=>
  have hd:(Rows.laid_rallentando_zset_all:DataW Unit)=.agg [x0.1,x1.1,x2.1,x3.1,x4.1,x5.1]:=congrArg Prod.fst hx
  unfold Rows.laid_rallentando_zset_all at hd
  injection hd with hd
  simp only [List.cons.injEq,and_true] at hd
  obtain ⟨d0,d1,d2,d3,d4,d5⟩:=hd
  exact ⟨all_cell hv0 (hel 0 (by decide)) d0.symm,all_cell hv0 (hel 1 (by decide)) d1.symm,all_cell hv0 (hel 2 (by decide)) d2.symm,all_cell hv0 (hel 3 (by decide)) d3.symm,all_cell hv0 (hel 4 (by decide)) d4.symm,all_cell hv0 (hel 5 (by decide)) d5.symm⟩
theorem laid_two {W:World} (h:laidMetH Tryz.prog both W):Pl W∧Pa W:=by
 rw [MakeChecks.laidMetH_plain _ _ _ (by kernel_rfl)] at h
 obtain ⟨ps,⟨g0,t0,cs0,f0,p0,q0,hg0,ht0,hv0,hd0,⟨g1,t1,cs1,f1,p1,q1,hg1,ht1,hv1,hd1,_,_⟩,_⟩,_,_⟩:=h
 obtain rfl:=Option.some.inj (zopen.gPlaces.symm.trans hg0)
 obtain rfl:=Option.some.inj (zopen.tPlaces.symm.trans ht0)
 obtain rfl:=Option.some.inj (gAll.symm.trans hg1)
 obtain rfl:=Option.some.inj (tAll.symm.trans ht1)
 have k:=all_cells hv1 hd1
 refine ⟨zopen.pl_of (zopen.cells_of hv0 hd0),Decidable.byContradiction fun hn=>?_,k⟩
 have e:W.heap[0]?=none:=Array.getElem?_eq_none (Nat.le_of_not_lt hn)
 have:=k.1
 simp [World.cell?,e] at this
set_option maxRecDepth 100000 in
set_option maxHeartbeats 2000000 in
theorem of_is (lo hi:Int) (m0 m1 m2 m3 m4 m5:Int) (w:World) (hP:Pl w) (hM:MakeR (lo,false,hi,false,false) (0,false,4,false,false) (0,true,0,false,true) [m0,m1,m2,m3,m4,m5] 0):
  Calls Tryz.prog 15 #[.int .i64 lo,.int .i64 hi] w fun e w'=>e=.returned (.agg #[.int .i64 m0,.int .i64 m1,.int .i64 m2,.int .i64 m3,.int .i64 m4,.int .i64 m5])∧Below w.heap.size w w':=by
 have DB:=bound.up1 w (.cells #[.int .i64 0,.int .i64 0,.int .i64 0,.int .i64 0,.int .i64 0,.int .i64 0] 27)
 have D0:=lies.made w 27 #[.int .i64 0,.int .i64 0,.int .i64 0,.int .i64 0,.int .i64 0,.int .i64 0]
 have P0:=hP.on DB
 have HM:=Lib.hid hM
 have hR:w.heap.size≤w.heap.size:=Nat.le_refl _
 clear hP hM
 go_enter Tryz.func15,Tryz.ntmps15
 go_wp2_with fail
 generalize w.alloc (.cells #[.int .i64 0,.int .i64 0,.int .i64 0,.int .i64 0,.int .i64 0,.int .i64 0] 27)=w0 at D0 DB P0 ⊢
 refine (make_any lo false hi false false 0 false 4 false false 0 true 0 false true w0 P0).mono ?_
 rintro e w1 ⟨hB,z0,z1,z2,z3,z4,z5,f,rfl,hM⟩
 obtain ⟨e1,rfl⟩:=zlaw.make_one HM.out hM
 injection e1 with e0 e1
 injection e1 with e1 e2
 injection e2 with e2 e3
 injection e3 with e3 e4
 injection e4 with e4 e5
 injection e5 with e5 _
 subst e0 e1 e2 e3 e4 e5
 replace D0:=lies.on_call D0 hB
 replace DB:=later DB hB
 clear hB hM P0
 have hgl:=lies.lt D0
 obtain ⟨⟨x0,x1,x2,x3,x4,x5⟩,⟨y0,y1,y2,y3,y4,y5⟩,xl⟩:=six_cells D0
 clear D0
 go_wp2_with fail
 exact bodyPost_ret (v:=.agg #[.int .i64 z0,.int .i64 z1,.int .i64 z2,.int .i64 z3,.int .i64 z4,.int .i64 z5]) (by simp [results,Tryz.results15,go_sem,x0,x1,x2,x3,x4,x5,xl]) rfl ⟨rfl,lies.frame_up (put_six DB hR _ _ _ _ _ _) _⟩
theorem or_six {a b r:List (List Int)} {f:Int} (ha:Six a) (hb:Six b) (h:OrX RestP a b r f):Six r∧r.length≤a.length+b.length:=by
 by_cases e:f=0
 ·subst e
  obtain ⟨_,_,k1,k2,_⟩:=or_fine ha hb h
  exact ⟨six_zo k1,k2⟩
 ·rw [or_err h e]
  exact ⟨six_nil,Nat.zero_le _⟩
theorem both_six {T:List Int→To} {a b r:List (List Int)} {f:Int} (hT:∀ y,Zo y→∀ z,Zo z→∀ o,T y z o 0→Zo o) (ha:Six a) (hb:Six b) (h:BothX RestP T a b r f):Six r∧r.length≤a.length*b.length:=by
 by_cases e:f=0
 ·subst e
  obtain ⟨_,_,k1,k2,_⟩:=both_fine hT ha hb h
  exact ⟨six_zo k1,k2⟩
 ·rw [both_err h e]
  exact ⟨six_nil,Nat.zero_le _⟩
theorem each_six {T:To} {c:Int} {l r:List (List Int)} {f:Int} (hT:∀ y,Zo y→∀ o,T y o 0→Zo o) (hl:Six l) (h:EachX RestP T c l r f):Six r∧r.length≤l.length:=by
 by_cases e:f=0
 ·subst e
  obtain ⟨_,k1,k2,_⟩:=each_fine hT hl h
  exact ⟨six_zo k1,k2⟩
 ·rw [each_err h e]
  exact ⟨six_nil,Nat.zero_le _⟩
theorem has_told {l:List (List Int)} {p:Pt} {is:Bool} (h:HasX l p is 0):MayQ p∧(is=true↔∃ z,z ∈ l∧hasP z p=true):=by
 obtain ⟨c,hc,q⟩:=h
 rcases q with ⟨q,_,q2⟩ | ⟨q,⟨_,_,q2⟩ | ⟨q1,_,q2⟩⟩
 ·exact (q q2.symm).elim
 ·exact absurd q2 (by decide)
 ·exact ⟨q1,q2⟩
theorem has_fine {l:List (List Int)} {p:Pt} {is:Bool} {f:Int} (hz:∀ z,z ∈ l→Zo z) (hl:l.length≤4096) (m:MayQ p) (h:HasX l p is f):f=0∧(is=true↔∃ z,z ∈ l∧hasP z p=true):=by
 obtain ⟨c,hc,q⟩:=h
 obtain rfl:=chk_same (chk_zero hl (by decide) hz (fun x hx=>by cases hx)) hc
 rcases q with ⟨q,_⟩ | ⟨_,⟨q,_⟩ | ⟨_,q1,q2⟩⟩
 ·exact (q rfl).elim
 ·exact (q m).elim
 ·exact ⟨q1,q2⟩
set_option maxRecDepth 100000 in
set_option maxHeartbeats 8000000 in
theorem wanted_any (ao:Option Addr) (len cap:Nat) (l:List (List Int)) (w:World) (hP:Pl w) (hI:Zs w.heap.size w (.slice ao len cap) l) (hl:l.length=len) (hz:∀ x,x ∈ l→Zo x) (h18:l.length≤18) (hs:Srt l) (ho:∀ x,x ∈ l→cover.Own l x):
  Calls Tryz.prog 38 #[.slice ao len cap] w fun e w'=>e=.returned (.bool true)∧Below w.heap.size w w':=by
 have c:=of_any ao len cap l w hP hI (six_zo hz) hl
 have HI:=Lib.hid hI
 have HZ:=Lib.hid hz
 have HL:=Lib.hid hl
 have HSO:=Lib.hid (show l.length≤18∧Srt l∧∀ x,x ∈ l→cover.Own l x from ⟨h18,hs,ho⟩)
 have hlen:len≤18:=by rw [←hl];exact h18
 have HP:=Lib.hid hP
 clear hI hz hl h18 hs ho hP
 go_enter Tryz.func38,Tryz.ntmps38
 go_wp2_with fail
 refine Calls.mono c ?_
 rintro e w1 ⟨hB,v,r,g,rfl,hR,hO⟩
 clear c
 obtain ⟨av,cv,rfl⟩:=zs_len (zs_own hO)
 have HR:=Lib.hid hR
 clear hR hO
 by_cases hg:g=0
 ·subst hg
  go_wp2_with fail
  refine (mays_any ao len cap l w1 (HP.out.on hB) (HI.out.on hB) (six_zo HZ.out) HL.out (by omega)).mono ?_
  rintro e w2 ⟨hB2,f,rfl,hM⟩
  replace hB:=later hB hB2
  have hf:f=0:=by
   rcases mays_yes HZ.out HSO.out.1 HSO.out.2.1 HSO.out.2.2 HR.out hM with k | k
   ·exact (k rfl).elim
   ·exact k
  subst hf
  clear hB2 hM
  go_wp2_with fail
  exact bodyPost_ret (v:=.bool true) (by simp [results,Tryz.results38,go_sem]) rfl ⟨rfl,hB⟩
 ·have hgb:(g==0)=false:=beq_eq_false_iff_ne.2 hg
  go_wp2_with fail
  exact bodyPost_ret (v:=.bool true) (by simp [results,Tryz.results38,go_sem]) rfl ⟨rfl,hB⟩
set_option maxRecDepth 100000 in
set_option maxHeartbeats 16000000 in
theorem alive_yes (w:World) (hP:Pl w):Calls Tryz.prog 19 #[] w fun e w'=>e=.returned (.bool true)∧Below w.heap.size w w':=by
 have P0:=hP
 have DB:=Below.refl w.heap.size w
 clear hP
 go_enter Tryz.func19,Tryz.ntmps19
 go_wp2_with fail
 refine (of_is 0 1 3 1 9 0 9 0 w P0 make_p).mono ?_
 rintro e w1 ⟨rfl,hB⟩
 replace P0:=P0.on hB
 replace DB:=later DB hB
 clear hB
 go_wp2_with fail
 refine (of_is 1 4 8 (-1) 9 (-2) 7 0 w1 P0 make_q).mono ?_
 rintro e w2 ⟨rfl,hB⟩
 replace P0:=P0.on hB
 replace DB:=later DB hB
 clear hB
 go_wp2_with fail
 have hA:=bound.up1 w2 (.cells #[.int .i64 3,.int .i64 1,.int .i64 9,.int .i64 0,.int .i64 9,.int .i64 0,.int .i64 8,.int .i64 (-1),.int .i64 9,.int .i64 (-2),.int .i64 7,.int .i64 0] 27)
 have D0:=lies.made w2 27 #[.int .i64 3,.int .i64 1,.int .i64 9,.int .i64 0,.int .i64 9,.int .i64 0,.int .i64 8,.int .i64 (-1),.int .i64 9,.int .i64 (-2),.int .i64 7,.int .i64 0]
 replace P0:=P0.on hA
 replace DB:=later DB hA
 clear hA
 generalize w2.heap.size=XD0 at D0 ⊢
 generalize w2.alloc (.cells #[.int .i64 3,.int .i64 1,.int .i64 9,.int .i64 0,.int .i64 9,.int .i64 0,.int .i64 8,.int .i64 (-1),.int .i64 9,.int .i64 (-2),.int .i64 7,.int .i64 0] 27)=v2 at D0 P0 DB ⊢
 refine (of_is 0 4 8 1 9 0 9 0 v2 P0 make_z).mono ?_
 rintro e w3 ⟨rfl,hB⟩
 replace D0:=lies.on_call D0 hB
 replace P0:=P0.on hB
 replace DB:=later DB hB
 clear hB
 go_wp2_with fail
 have hA:=bound.up1 w3 (.cells #[.int .i64 8,.int .i64 1,.int .i64 9,.int .i64 0,.int .i64 9,.int .i64 0] 27)
 have D1:=lies.made w3 27 #[.int .i64 8,.int .i64 1,.int .i64 9,.int .i64 0,.int .i64 9,.int .i64 0]
 replace D0:=lies.on_call D0 hA
 replace P0:=P0.on hA
 replace DB:=later DB hA
 clear hA
 generalize w3.heap.size=XD1 at D1 ⊢
 generalize w3.alloc (.cells #[.int .i64 8,.int .i64 1,.int .i64 9,.int .i64 0,.int .i64 9,.int .i64 0] 27)=v3 at D1 D0 P0 DB ⊢
 refine (or_gen (some ⟨XD0,0,none⟩) 2 2 [[3,1,9,0,9,0],[8,-1,9,-2,7,0]] (some ⟨XD1,0,none⟩) 1 1 [[8,1,9,0,9,0]] v3 P0 (fun _ _=>⟨⟨zs_box2 D0,zos_six (all_two zo_p zo_q)⟩,zs_box D1,zos_six (all_one zo_z)⟩) rfl rfl).mono ?_
 rintro e w4 ⟨hB,vp,r1,f1,rfl,hR1,hO1⟩
 replace P0:=P0.on hB
 replace DB:=later DB hB
 clear hB D0 D1
 obtain ⟨rfl,rfl⟩:=or_pqz hR1
 have hV:w4.ownsRow _ 27 6 vp 2 (flatZ [[3,1,9,0,9,0],[8,-1,9,-2,7,0]]):=hO1
 obtain ⟨b1,cp,rfl,-⟩:=own2 hV
 have HV1:=Lib.hid (show Zs w4.heap.size w4 (.slice (some ⟨b1,0,none⟩) 2 cp) [[3,1,9,0,9,0],[8,-1,9,-2,7,0]] from zs_own hV)
 clear hR1 hO1 hV
 go_wp2_with fail
 refine (of_is 0 1 3 1 9 0 9 0 w4 P0 make_p).mono ?_
 rintro e w5 ⟨rfl,hB⟩
 replace P0:=P0.on hB
 replace DB:=later DB hB
 replace HV1:=Lib.hid (HV1.out.on hB)
 clear hB
 go_wp2_with fail
 have hA:=bound.up1 w5 (.cells #[.int .i64 3,.int .i64 1,.int .i64 9,.int .i64 0,.int .i64 9,.int .i64 0] 27)
 have D0:=lies.made w5 27 #[.int .i64 3,.int .i64 1,.int .i64 9,.int .i64 0,.int .i64 9,.int .i64 0]
 replace P0:=P0.on hA
 replace DB:=later DB hA
 replace HV1:=Lib.hid (HV1.out.on hA)
 clear hA
 generalize w5.heap.size=XD0 at D0 ⊢
 generalize w5.alloc (.cells #[.int .i64 3,.int .i64 1,.int .i64 9,.int .i64 0,.int .i64 9,.int .i64 0] 27)=v5 at D0 P0 DB HV1 ⊢
 refine (of_is 1 4 8 (-1) 9 (-2) 7 0 v5 P0 make_q).mono ?_
 rintro e w6 ⟨rfl,hB⟩
 replace D0:=lies.on_call D0 hB
 replace P0:=P0.on hB
 replace DB:=later DB hB
 replace HV1:=Lib.hid (HV1.out.on hB)
 clear hB
 go_wp2_with fail
 have hA:=bound.up1 w6 (.cells #[.int .i64 8,.int .i64 (-1),.int .i64 9,.int .i64 (-2),.int .i64 7,.int .i64 0] 27)
 have D1:=lies.made w6 27 #[.int .i64 8,.int .i64 (-1),.int .i64 9,.int .i64 (-2),.int .i64 7,.int .i64 0]
 replace D0:=lies.on_call D0 hA
 replace P0:=P0.on hA
 replace DB:=later DB hA
 replace HV1:=Lib.hid (HV1.out.on hA)
 clear hA
 generalize w6.heap.size=XD1 at D1 ⊢
 generalize w6.alloc (.cells #[.int .i64 8,.int .i64 (-1),.int .i64 9,.int .i64 (-2),.int .i64 7,.int .i64 0] 27)=v6 at D1 D0 P0 DB HV1 ⊢
 refine (and_gen (some ⟨XD0,0,none⟩) 1 1 [[3,1,9,0,9,0]] (some ⟨XD1,0,none⟩) 1 1 [[8,-1,9,-2,7,0]] v6 P0 (fun _ _=>⟨⟨zs_box D0,zos_six (all_one zo_p)⟩,zs_box D1,zos_six (all_one zo_q)⟩) rfl rfl).mono ?_
 rintro e w7 ⟨hB,vp,r2,f2,rfl,hR1,hO1⟩
 replace P0:=P0.on hB
 replace DB:=later DB hB
 replace HV1:=Lib.hid (HV1.out.on hB)
 clear hB D0 D1
 obtain ⟨rfl,rfl⟩:=and_pq hR1
 have hV:w7.ownsRow _ 27 6 vp 1 (flatZ [[3,-1,9,-2,7,0]]):=hO1
 obtain ⟨b2,cp2,rfl,hb2,-⟩:=own1 hV
 have HV2:=Lib.hid (show Zs w7.heap.size w7 (.slice (some ⟨b2,0,none⟩) 1 cp2) [[3,-1,9,-2,7,0]] from zs_own hV)
 clear hR1 hO1 hV
 have hb1:b1<w7.heap.size:=by
  obtain ⟨b,f,e,_,hb,_⟩:=zs_at HV1.out (k:=0) (by decide)
  cases e
  exact hb
 have HC1:=Lib.hid (show ∀ W,Below w7.heap.size w7 W→W.cell? ⟨b1,0,none⟩=some (.int .i64 3)∧W.cell? ⟨b1,1,none⟩=some (.int .i64 1)∧W.cell? ⟨b1,2,none⟩=some (.int .i64 9)∧W.cell? ⟨b1,3,none⟩=some (.int .i64 0)∧W.cell? ⟨b1,4,none⟩=some (.int .i64 9)∧W.cell? ⟨b1,5,none⟩=some (.int .i64 0)∧W.cell? ⟨b1,6,none⟩=some (.int .i64 8)∧W.cell? ⟨b1,7,none⟩=some (.int .i64 (-1))∧W.cell? ⟨b1,8,none⟩=some (.int .i64 9)∧W.cell? ⟨b1,9,none⟩=some (.int .i64 (-2))∧W.cell? ⟨b1,10,none⟩=some (.int .i64 7)∧W.cell? ⟨b1,11,none⟩=some (.int .i64 0) from fun W q=>by
  obtain ⟨b,off,e0,_,_,c0,c1,c2,c3,c4,c5⟩:=zs_at (HV1.out.below q) (k:=0) (by decide)
  cases e0
  obtain ⟨b,off,e1,_,_,d0,d1,d2,d3,d4,d5⟩:=zs_at (HV1.out.below q) (k:=1) (by decide)
  cases e1
  exact ⟨c0,c1,c2,c3,c4,c5,d0,d1,d2,d3,d4,d5⟩)
 have HC2:=Lib.hid (show ∀ W,Below w7.heap.size w7 W→W.cell? ⟨b2,0,none⟩=some (.int .i64 3)∧W.cell? ⟨b2,1,none⟩=some (.int .i64 (-1))∧W.cell? ⟨b2,2,none⟩=some (.int .i64 9)∧W.cell? ⟨b2,3,none⟩=some (.int .i64 (-2))∧W.cell? ⟨b2,4,none⟩=some (.int .i64 7)∧W.cell? ⟨b2,5,none⟩=some (.int .i64 0) from fun W q=>by
  obtain ⟨b,off,e0,_,_,c0,c1,c2,c3,c4,c5⟩:=zs_at (HV2.out.below q) (k:=0) (by decide)
  cases e0
  exact ⟨c0,c1,c2,c3,c4,c5⟩)
 clear HV1 HV2
 have hq1:∀ W,(Op.equalIn 10000 27 (.agg #[.int .i64 3,.int .i64 1,.int .i64 9,.int .i64 0,.int .i64 9,.int .i64 0]) (.agg #[.int .i64 3,.int .i64 1,.int .i64 9,.int .i64 0,.int .i64 9,.int .i64 0])).run Tryz.prog W=.ok true W:=fun W=>by rw [eq_zone];simp
 have hq2:∀ W,(Op.equalIn 10000 27 (.agg #[.int .i64 8,.int .i64 (-1),.int .i64 9,.int .i64 (-2),.int .i64 7,.int .i64 0]) (.agg #[.int .i64 8,.int .i64 (-1),.int .i64 9,.int .i64 (-2),.int .i64 7,.int .i64 0])).run Tryz.prog W=.ok true W:=fun W=>by rw [eq_zone];simp
 have hq3:∀ W,(Op.equalIn 10000 27 (.agg #[.int .i64 3,.int .i64 (-1),.int .i64 9,.int .i64 (-2),.int .i64 7,.int .i64 0]) (.agg #[.int .i64 3,.int .i64 (-1),.int .i64 9,.int .i64 (-2),.int .i64 7,.int .i64 0])).run Tryz.prog W=.ok true W:=fun W=>by rw [eq_zone];simp
 go_wp2_with fail
 refine wp_region_held_drew (S:=Below w7.heap.size w7) (by kernel_rfl) (dbm.drawn1 (Below.refl _ _)) (fun hHeld=>?_)
 generalize w7.drew=wD at hHeld ⊢
 refine tk 0 (v:=?_) rfl hHeld ?_ ?_
 rotate_left
 ·intro w hSw;skip;go_simp;try with_reducible rfl
 try simp only [Act.put,sA,sB,sC,sD,sE,sF]
 refine tk 1 (v:=?_) rfl hHeld ?_ ?_
 rotate_left
 ·intro w hSw;skip;go_simp;try with_reducible rfl
 try simp only [Act.put,sA,sB,sC,sD,sE,sF]
 refine tk 2 (v:=?_) rfl hHeld ?_ ?_
 rotate_left
 ·intro w hSw;skip;go_simp;try with_reducible rfl
 try simp only [Act.put,sA,sB,sC,sD,sE,sF]
 refine tk 3 (v:=?_) rfl hHeld ?_ ?_
 rotate_left
 ·intro w hSw;skip;go_simp;try with_reducible rfl
 try simp only [Act.put,sA,sB,sC,sD,sE,sF]
 refine tk 4 (v:=?_) rfl hHeld ?_ ?_
 rotate_left
 ·intro w hSw;skip;go_simp;try with_reducible rfl
 try simp only [Act.put,sA,sB,sC,sD,sE,sF]
 refine tk 5 (v:=?_) rfl hHeld ?_ ?_
 rotate_left
 ·intro w hSw;skip;go_simp;try with_reducible rfl
 try simp only [Act.put,sA,sB,sC,sD,sE,sF]
 refine tk 6 (v:=?_) rfl hHeld ?_ ?_
 rotate_left
 ·intro w hSw;skip;go_simp;try with_reducible rfl
 try simp only [Act.put,sA,sB,sC,sD,sE,sF]
 refine tk 7 (v:=?_) rfl hHeld ?_ ?_
 rotate_left
 ·intro w hSw;skip;go_simp;try with_reducible rfl
 try simp only [Act.put,sA,sB,sC,sD,sE,sF]
 refine tk 8 (v:=?_) rfl hHeld ?_ ?_
 rotate_left
 ·intro w hSw;skip;go_simp;try with_reducible rfl
 try simp only [Act.put,sA,sB,sC,sD,sE,sF]
 refine tk 9 (v:=?_) rfl hHeld ?_ ?_
 rotate_left
 ·intro w hSw;skip;go_simp;try with_reducible rfl
 try simp only [Act.put,sA,sB,sC,sD,sE,sF]
 refine tk 10 (v:=?_) rfl hHeld ?_ ?_
 rotate_left
 ·intro w hSw;obtain ⟨c0,c1,c2,c3,c4,c5,c6,c7,c8,c9,c10,c11⟩:=HC1.out _ hSw;go_simp;try with_reducible rfl
 try simp only [Act.put,sA,sB,sC,sD,sE,sF]
 refine wpAnyH_ready (rs:=[11]) (by kernel_rfl) (by simp) (AllReadyH.cons rfl (fun K hK=>?_) AllReadyH.nil)
 go_simp
 refine (of_is 0 1 3 1 9 0 9 0 _ (P0.on (hHeld)) make_p).mono ?_
 rintro e u1 ⟨rfl,hB⟩
 refine hK.out _ _ (hHeld.trans (hB.mono hHeld.size)) (fun hNew=>?_)
 clear hB
 clear hHeld hK K
 have hHeld:=hNew
 clear hNew
 try simp only [Act.put,sA,sB,sC,sD,sE,sF]
 refine tk 12 (v:=?_) rfl hHeld ?_ ?_
 rotate_left
 ·intro w hSw;skip;go_simp;try with_reducible rfl
 try simp only [Act.put,sA,sB,sC,sD,sE,sF]
 refine tk 13 (v:=?_) rfl hHeld ?_ ?_
 rotate_left
 ·intro w hSw;skip;go_simp;try with_reducible rfl
 try simp only [Act.put,sA,sB,sC,sD,sE,sF]
 refine tk 14 (v:=?_) rfl hHeld ?_ ?_
 rotate_left
 ·intro w hSw;skip;go_simp;try with_reducible rfl
 try simp only [Act.put,sA,sB,sC,sD,sE,sF]
 refine tk 15 (v:=?_) rfl hHeld ?_ ?_
 rotate_left
 ·intro w hSw;skip;go_simp;try with_reducible rfl
 try simp only [Act.put,sA,sB,sC,sD,sE,sF]
 refine tk 16 (v:=?_) rfl hHeld ?_ ?_
 rotate_left
 ·intro w hSw;skip;go_simp;try with_reducible rfl
 try simp only [Act.put,sA,sB,sC,sD,sE,sF]
 refine tk 17 (v:=?_) rfl hHeld ?_ ?_
 rotate_left
 ·intro w hSw;obtain ⟨c0,c1,c2,c3,c4,c5,c6,c7,c8,c9,c10,c11⟩:=HC1.out _ hSw;go_simp;try with_reducible rfl
 try simp only [Act.put,sA,sB,sC,sD,sE,sF]
 refine wpAnyH_ready (rs:=[18]) (by kernel_rfl) (by simp) (AllReadyH.cons rfl (fun K hK=>?_) AllReadyH.nil)
 go_simp
 refine (of_is 1 4 8 (-1) 9 (-2) 7 0 _ (P0.on (hHeld)) make_q).mono ?_
 rintro e u2 ⟨rfl,hB⟩
 refine hK.out _ _ (hHeld.trans (hB.mono hHeld.size)) (fun hNew=>?_)
 clear hB
 clear hHeld hK K
 have hHeld:=hNew
 clear hNew
 try simp only [Act.put,sA,sB,sC,sD,sE,sF]
 refine tk 19 (v:=?_) rfl hHeld ?_ ?_
 rotate_left
 ·intro w hSw;skip;go_simp;try with_reducible rfl
 try simp only [Act.put,sA,sB,sC,sD,sE,sF]
 refine tk 20 (v:=?_) rfl hHeld ?_ ?_
 rotate_left
 ·intro w hSw;skip;go_simp;try with_reducible rfl
 try simp only [Act.put,sA,sB,sC,sD,sE,sF]
 refine tk 21 (v:=?_) rfl hHeld ?_ ?_
 rotate_left
 ·intro w hSw;skip;go_simp;try with_reducible rfl
 try simp only [Act.put,sA,sB,sC,sD,sE,sF]
 refine tk 22 (v:=?_) rfl hHeld ?_ ?_
 rotate_left
 ·intro w hSw;skip;go_simp;try with_reducible rfl
 try simp only [Act.put,sA,sB,sC,sD,sE,sF]
 refine tk 23 (v:=?_) rfl hHeld ?_ ?_
 rotate_left
 ·intro w hSw;skip;go_simp;try with_reducible rfl
 try simp only [Act.put,sA,sB,sC,sD,sE,sF]
 refine tk 24 (v:=?_) rfl hHeld ?_ ?_
 rotate_left
 ·intro w hSw;skip;go_simp;try with_reducible rfl
 try simp only [Act.put,sA,sB,sC,sD,sE,sF]
 refine tk 25 (v:=?_) rfl hHeld ?_ ?_
 rotate_left
 ·intro w hSw;skip;go_simp;try with_reducible rfl
 try simp only [Act.put,sA,sB,sC,sD,sE,sF]
 refine tk 26 (v:=?_) rfl hHeld ?_ ?_
 rotate_left
 ·intro w hSw;skip;go_simp;try with_reducible rfl
 try simp only [Act.put,sA,sB,sC,sD,sE,sF]
 refine tk 27 (v:=?_) rfl hHeld ?_ ?_
 rotate_left
 ·intro w hSw;skip;go_simp;try with_reducible rfl
 try simp only [Act.put,sA,sB,sC,sD,sE,sF]
 refine tk 28 (v:=?_) rfl hHeld ?_ ?_
 rotate_left
 ·intro w hSw;skip;go_simp;try with_reducible rfl
 try simp only [Act.put,sA,sB,sC,sD,sE,sF]
 refine tk 29 (v:=?_) rfl hHeld ?_ ?_
 rotate_left
 ·intro w hSw;skip;go_simp;try with_reducible rfl
 try simp only [Act.put,sA,sB,sC,sD,sE,sF]
 refine tk 30 (v:=?_) rfl hHeld ?_ ?_
 rotate_left
 ·intro w hSw;skip;go_simp;try with_reducible rfl
 try simp only [Act.put,sA,sB,sC,sD,sE,sF]
 refine tk 31 (v:=?_) rfl hHeld ?_ ?_
 rotate_left
 ·intro w hSw;skip;go_simp;try with_reducible rfl
 try simp only [Act.put,sA,sB,sC,sD,sE,sF]
 refine tk 32 (v:=?_) rfl hHeld ?_ ?_
 rotate_left
 ·intro w hSw;skip;go_simp;try with_reducible rfl
 try simp only [Act.put,sA,sB,sC,sD,sE,sF]
 refine tk 33 (v:=?_) rfl hHeld ?_ ?_
 rotate_left
 ·intro w hSw;obtain ⟨c0,c1,c2,c3,c4,c5⟩:=HC2.out _ hSw;go_simp;try with_reducible rfl
 try simp only [Act.put,sA,sB,sC,sD,sE,sF]
 refine wpAnyH_ready (rs:=[34]) (by kernel_rfl) (by simp) (AllReadyH.cons rfl (fun K hK=>?_) AllReadyH.nil)
 go_simp
 refine (of_is 1 1 3 (-1) 9 (-2) 7 0 _ (P0.on (hHeld)) make_m).mono ?_
 rintro e u3 ⟨rfl,hB⟩
 refine hK.out _ _ (hHeld.trans (hB.mono hHeld.size)) (fun hNew=>?_)
 clear hB
 clear hHeld hK K
 have hHeld:=hNew
 clear hNew
 try simp only [Act.put,sA,sB,sC,sD,sE,sF]
 refine tk 35 (v:=?_) rfl hHeld ?_ ?_
 rotate_left
 ·intro w hSw;skip;go_simp;try with_reducible rfl
 try simp only [Act.put,sA,sB,sC,sD,sE,sF]
 refine tk 36 (v:=?_) rfl hHeld ?_ ?_
 rotate_left
 ·intro w hSw;skip;go_simp;try with_reducible rfl
 try simp only [Act.put,sA,sB,sC,sD,sE,sF]
 refine tk 37 (v:=?_) rfl hHeld ?_ ?_
 rotate_left
 ·intro w hSw;skip;go_simp;try with_reducible rfl
 try simp only [Act.put,sA,sB,sC,sD,sE,sF]
 refine wpAnyH_done (by kernel_rfl) ?_ _
 clear HC1 HC2 hq1 hq2 hq3
 replace DB:=later DB hHeld
 clear hHeld
 go_wp2_with fail
 go_ret
 exact ⟨rfl,DB⟩
end Go.Proofs.YthmljpccbjolgaaGreatDoor.slaw
