
/-
  ZsetNames answers true (the walk); the listed variables read as the program lays them.
-/
import Derived.Test.YthmljpccbjolgaaGreatDoorZsetL
import Derived.BigQuiet
namespace Go.Proofs.YthmljpccbjolgaaGreatDoor.zsetNames
open Go.Joins Go.ChangeShapes Go.WideShapes Go.ChangeAt Go.RowKit num rat dbm Go.Proofs.YthmljpccbjolgaaGreatDoor.tight Go.Proofs.YthmljpccbjolgaaGreatDoor.incl Go.Proofs.YthmljpccbjolgaaGreatDoor.plaw Go.Proofs.YthmljpccbjolgaaGreatDoor.zopen Go.Proofs.YthmljpccbjolgaaGreatDoor.zone Go.Proofs.YthmljpccbjolgaaGreatDoor.zlaw Go.Proofs.YthmljpccbjolgaaGreatDoor.comp Go.Proofs.YthmljpccbjolgaaGreatDoor.win Go.Proofs.YthmljpccbjolgaaGreatDoor.minus Go.Proofs.YthmljpccbjolgaaGreatDoor.mz Go.Proofs.YthmljpccbjolgaaGreatDoor.mlaw Go.Proofs.YthmljpccbjolgaaGreatDoor.cover Go.Proofs.YthmljpccbjolgaaGreatDoor.claw Go.Proofs.YthmljpccbjolgaaGreatDoor.zset Go.Proofs.YthmljpccbjolgaaGreatDoor.slaw
open bound hiding up
set_option linter.unusedVariables false
set_option linter.unusedSimpArgs false
set_option maxRecDepth 100000 in
set_option maxHeartbeats 16000000 in
theorem walk (w:World) (hP:Pl w):Calls Tryz.prog 3 #[] w fun e w'=>e=.returned (.bool true)∧Below w.heap.size w w':=by
 have P0:=hP
 have DB:=Below.refl w.heap.size w
 clear hP
 go_enter Tryz.func3,Tryz.ntmps3
 go_wp2_with fail
 refine (slaw.of_is 0 4 8 1 9 0 9 0 w P0 make_z).mono ?_
 rintro e w1 ⟨rfl,hB⟩
 replace P0:=P0.on hB
 replace DB:=later DB hB
 clear hB
 go_wp2_with fail
 have hA:=bound.up1 w1 (.cells #[.int .i64 8,.int .i64 1,.int .i64 9,.int .i64 0,.int .i64 9,.int .i64 0] 27)
 have D0:=lies.made w1 27 #[.int .i64 8,.int .i64 1,.int .i64 9,.int .i64 0,.int .i64 9,.int .i64 0]
 replace P0:=P0.on hA
 replace DB:=later DB hA
 clear hA
 generalize w1.heap.size=XD0 at D0 ⊢
 generalize w1.alloc (.cells #[.int .i64 8,.int .i64 1,.int .i64 9,.int .i64 0,.int .i64 9,.int .i64 0] 27)=v1 at D0 P0 DB ⊢
 refine (slaw.of_is 0 1 3 1 9 0 9 0 v1 P0 make_p).mono ?_
 rintro e w2 ⟨rfl,hB⟩
 replace D0:=lies.on_call D0 hB
 replace P0:=P0.on hB
 replace DB:=later DB hB
 clear hB
 go_wp2_with fail
 refine (slaw.of_is 1 4 8 (-1) 9 (-2) 7 0 w2 P0 make_q).mono ?_
 rintro e w3 ⟨rfl,hB⟩
 replace D0:=lies.on_call D0 hB
 replace P0:=P0.on hB
 replace DB:=later DB hB
 clear hB
 go_wp2_with fail
 have hA:=bound.up1 w3 (.cells #[.int .i64 3,.int .i64 1,.int .i64 9,.int .i64 0,.int .i64 9,.int .i64 0,.int .i64 8,.int .i64 (-1),.int .i64 9,.int .i64 (-2),.int .i64 7,.int .i64 0] 27)
 have D1:=lies.made w3 27 #[.int .i64 3,.int .i64 1,.int .i64 9,.int .i64 0,.int .i64 9,.int .i64 0,.int .i64 8,.int .i64 (-1),.int .i64 9,.int .i64 (-2),.int .i64 7,.int .i64 0]
 replace D0:=lies.on_call D0 hA
 replace P0:=P0.on hA
 replace DB:=later DB hA
 clear hA
 generalize w3.heap.size=XD1 at D1 ⊢
 generalize w3.alloc (.cells #[.int .i64 3,.int .i64 1,.int .i64 9,.int .i64 0,.int .i64 9,.int .i64 0,.int .i64 8,.int .i64 (-1),.int .i64 9,.int .i64 (-2),.int .i64 7,.int .i64 0] 27)=v3 at D1 D0 P0 DB ⊢
 refine (zsame_any (some ⟨XD0,0,none⟩) 1 1 [[8,1,9,0,9,0]] (some ⟨XD1,0,none⟩) 2 2 [[3,1,9,0,9,0],[8,-1,9,-2,7,0]] v3 P0 (zs_box D0) (zos_six (all_one zo_z)) rfl (by decide) (zs_box2 D1) (zos_six (all_two zo_p zo_q)) rfl (by decide)).mono ?_
 rintro e w4 ⟨hB,is,f,rfl,hR⟩
 obtain ⟨rfl,rfl⟩:=same_zpq hR
 replace P0:=P0.on hB
 replace DB:=later DB hB
 clear hB hR D0 D1
 go_wp2_with fail
 refine (slaw.of_is 0 1 3 1 9 0 9 0 w4 P0 make_p).mono ?_
 rintro e w5 ⟨rfl,hB⟩
 replace P0:=P0.on hB
 replace DB:=later DB hB
 clear hB
 go_wp2_with fail
 have hA:=bound.up1 w5 (.cells #[.int .i64 3,.int .i64 1,.int .i64 9,.int .i64 0,.int .i64 9,.int .i64 0] 27)
 have D0:=lies.made w5 27 #[.int .i64 3,.int .i64 1,.int .i64 9,.int .i64 0,.int .i64 9,.int .i64 0]
 replace P0:=P0.on hA
 replace DB:=later DB hA
 clear hA
 generalize w5.heap.size=XD0 at D0 ⊢
 generalize w5.alloc (.cells #[.int .i64 3,.int .i64 1,.int .i64 9,.int .i64 0,.int .i64 9,.int .i64 0] 27)=v5 at D0 P0 DB ⊢
 refine (slaw.of_is 1 4 8 (-1) 9 (-2) 7 0 v5 P0 make_q).mono ?_
 rintro e w6 ⟨rfl,hB⟩
 replace D0:=lies.on_call D0 hB
 replace P0:=P0.on hB
 replace DB:=later DB hB
 clear hB
 go_wp2_with fail
 have hA:=bound.up1 w6 (.cells #[.int .i64 8,.int .i64 (-1),.int .i64 9,.int .i64 (-2),.int .i64 7,.int .i64 0] 27)
 have D1:=lies.made w6 27 #[.int .i64 8,.int .i64 (-1),.int .i64 9,.int .i64 (-2),.int .i64 7,.int .i64 0]
 replace D0:=lies.on_call D0 hA
 replace P0:=P0.on hA
 replace DB:=later DB hA
 clear hA
 generalize w6.heap.size=XD1 at D1 ⊢
 generalize w6.alloc (.cells #[.int .i64 8,.int .i64 (-1),.int .i64 9,.int .i64 (-2),.int .i64 7,.int .i64 0] 27)=v6 at D1 D0 P0 DB ⊢
 refine (zcomp_gen (some ⟨XD0,0,none⟩) 1 1 [[3,1,9,0,9,0]] (some ⟨XD1,0,none⟩) 1 1 [[8,-1,9,-2,7,0]] v6 P0 (fun _ _=>⟨⟨zs_box D0,zos_six (all_one zo_p)⟩,zs_box D1,zos_six (all_one zo_q)⟩) rfl rfl).mono ?_
 rintro e w7 ⟨hB,vp,r2,f2,rfl,hR1,hO1⟩
 replace P0:=P0.on hB
 replace DB:=later DB hB
 clear hB D0 D1
 obtain ⟨rfl,rfl⟩:=comp_pq' hR1
 have hV:w7.ownsRow _ 27 6 vp 1 (flatZ [[3,1,9,-2,9,0]]):=hO1
 obtain ⟨b1,cp,rfl,hb1,-⟩:=own1 hV
 have HVl:=Lib.hid (show Zs w7.heap.size w7 (.slice (some ⟨b1,0,none⟩) 1 cp) [[3,1,9,-2,9,0]] from zs_own hV)
 clear hR1 hO1 hV
 go_wp2_with fail
 refine (make_any 0 false 1 false false 1 true 4 false false 0 true 0 false true w7 P0).mono ?_
 rintro e w8 ⟨hB,z0,z1,z2,z3,z4,z5,f,rfl,hM⟩
 obtain ⟨e1,rfl⟩:=zlaw.make_one slaw.make_c hM
 cases e1
 replace P0:=P0.on hB
 replace HVl:=Lib.hid (HVl.out.on hB)
 replace DB:=later DB hB
 clear hB hM hb1
 go_wp2_with fail
 have hA:=bound.up1 w8 (.cells #[.int .i64 3,.int .i64 1,.int .i64 9,.int .i64 (-2),.int .i64 9,.int .i64 0] 27)
 have DC:=lies.made w8 27 #[.int .i64 3,.int .i64 1,.int .i64 9,.int .i64 (-2),.int .i64 9,.int .i64 0]
 replace P0:=P0.on hA
 replace DB:=later DB hA
 replace HVl:=Lib.hid (HVl.out.on hA)
 clear hA
 generalize w8.heap.size=XDC at DC ⊢
 generalize w8.alloc (.cells #[.int .i64 3,.int .i64 1,.int .i64 9,.int .i64 (-2),.int .i64 9,.int .i64 0] 27)=v8 at DC P0 DB HVl ⊢
 refine (slaw.of_is 0 1 3 1 9 0 9 0 v8 P0 make_p).mono ?_
 rintro e w9 ⟨rfl,hB⟩
 replace DC:=lies.on_call DC hB
 replace P0:=P0.on hB
 replace DB:=later DB hB
 replace HVl:=Lib.hid (HVl.out.on hB)
 clear hB
 go_wp2_with fail
 refine (slaw.of_is 0 4 8 1 9 0 9 0 w9 P0 make_z).mono ?_
 rintro e w10 ⟨rfl,hB⟩
 replace DC:=lies.on_call DC hB
 replace P0:=P0.on hB
 replace DB:=later DB hB
 replace HVl:=Lib.hid (HVl.out.on hB)
 clear hB
 go_wp2_with fail
 have hA:=bound.up1 w10 (.cells #[.int .i64 3,.int .i64 1,.int .i64 9,.int .i64 0,.int .i64 9,.int .i64 0,.int .i64 8,.int .i64 1,.int .i64 9,.int .i64 0,.int .i64 9,.int .i64 0] 27)
 have D0:=lies.made w10 27 #[.int .i64 3,.int .i64 1,.int .i64 9,.int .i64 0,.int .i64 9,.int .i64 0,.int .i64 8,.int .i64 1,.int .i64 9,.int .i64 0,.int .i64 9,.int .i64 0]
 replace DC:=lies.on_call DC hA
 replace P0:=P0.on hA
 replace DB:=later DB hA
 replace HVl:=Lib.hid (HVl.out.on hA)
 clear hA
 generalize w10.heap.size=XD0 at D0 ⊢
 generalize w10.alloc (.cells #[.int .i64 3,.int .i64 1,.int .i64 9,.int .i64 0,.int .i64 9,.int .i64 0,.int .i64 8,.int .i64 1,.int .i64 9,.int .i64 0,.int .i64 9,.int .i64 0] 27)=v10 at D0 DC P0 DB HVl ⊢
 refine (mays_any (some ⟨XD0,0,none⟩) 2 2 [[3,1,9,0,9,0],[8,1,9,0,9,0]] v10 P0 (zs_box2 D0) (zos_six (all_two zo_p zo_z)) rfl (by decide)).mono ?_
 rintro e w11 ⟨hB,f,rfl,hR⟩
 obtain rfl:=mays_pz hR
 replace P0:=P0.on hB
 replace DC:=lies.on_call DC hB
 replace HVl:=Lib.hid (HVl.out.on hB)
 replace DB:=later DB hB
 clear hB hR D0
 have hq:∀ W,(Op.equalIn 10000 27 (.agg #[.int .i64 3,.int .i64 1,.int .i64 9,.int .i64 (-2),.int .i64 9,.int .i64 0]) (.agg #[.int .i64 3,.int .i64 1,.int .i64 9,.int .i64 (-2),.int .i64 9,.int .i64 0])).run Tryz.prog W=.ok true W:=fun W=>by rw [eq_zone];simp
 have HC:=Lib.hid (show ∀ W,Below w11.heap.size w11 W→W.cell? ⟨b1,0,none⟩=some (.int .i64 3)∧W.cell? ⟨b1,1,none⟩=some (.int .i64 1)∧W.cell? ⟨b1,2,none⟩=some (.int .i64 9)∧W.cell? ⟨b1,3,none⟩=some (.int .i64 (-2))∧W.cell? ⟨b1,4,none⟩=some (.int .i64 9)∧W.cell? ⟨b1,5,none⟩=some (.int .i64 0) from fun W q=>by
  obtain ⟨b,off,e0,_,_,c0,c1,c2,c3,c4,c5⟩:=zs_at (HVl.out.below q) (k:=0) (by decide)
  cases e0
  exact ⟨c0,c1,c2,c3,c4,c5⟩)
 go_wp2_with fail
 refine wp_region_held_drew (S:=Below w11.heap.size w11) (by kernel_rfl) (dbm.drawn1 (Below.refl _ _)) (fun hHeld=>?_)
 generalize w11.drew=wD at hHeld ⊢
 refine wpAnyH_ready (rs:=[0]) (by kernel_rfl) (by simp) (AllReadyH.cons rfl (fun K hK=>?_) AllReadyH.nil)
 go_simp
 refine (slaw.alive_yes _ (P0.on hHeld)).mono ?_
 rintro e u1 ⟨rfl,hB⟩
 refine hK.out _ _ (hHeld.trans (hB.mono hHeld.size)) (fun hNew=>?_)
 clear hB
 clear hHeld hK K
 have hHeld:=hNew
 clear hNew
 try simp only [Act.put,sA,sB,sC,sD,sE,sF]
 refine tk 1 (v:=?_) rfl hHeld ?_ ?_
 rotate_left
 ·intro w hSw;skip;go_simp;try with_reducible rfl
 try simp only [Act.put,sA,sB,sC,sD,sE,sF]
 refine tk 2 (v:=?_) rfl hHeld ?_ ?_
 rotate_left
 ·intro w hSw;skip;go_simp;try with_reducible rfl
 try simp only [Act.put,sA,sB,sC,sD,sE,sF]
 refine tk 3 (v:=?_) rfl hHeld ?_ ?_
 rotate_left
 ·intro w hSw;skip;go_simp;try with_reducible rfl
 try simp only [Act.put,sA,sB,sC,sD,sE,sF]
 refine tk 4 (v:=?_) rfl hHeld ?_ ?_
 rotate_left
 ·intro w hSw;skip;go_simp;try with_reducible rfl
 try simp only [Act.put,sA,sB,sC,sD,sE,sF]
 refine tk 5 (v:=?_) rfl hHeld ?_ ?_
 rotate_left
 ·intro w hSw;skip;go_simp;try with_reducible rfl
 try simp only [Act.put,sA,sB,sC,sD,sE,sF]
 refine tk 6 (v:=?_) rfl hHeld ?_ ?_
 rotate_left
 ·intro w hSw;skip;go_simp;try with_reducible rfl
 try simp only [Act.put,sA,sB,sC,sD,sE,sF]
 refine tk 7 (v:=?_) rfl hHeld ?_ ?_
 rotate_left
 ·intro w hSw;skip;go_simp;try with_reducible rfl
 try simp only [Act.put,sA,sB,sC,sD,sE,sF]
 refine tk 8 (v:=?_) rfl hHeld ?_ ?_
 rotate_left
 ·intro w hSw;skip;go_simp;try with_reducible rfl
 try simp only [Act.put,sA,sB,sC,sD,sE,sF]
 refine tk 9 (v:=?_) rfl hHeld ?_ ?_
 rotate_left
 ·intro w hSw;skip;go_simp;try with_reducible rfl
 try simp only [Act.put,sA,sB,sC,sD,sE,sF]
 refine tk 10 (v:=?_) rfl hHeld ?_ ?_
 rotate_left
 ·intro w hSw;skip;go_simp;try with_reducible rfl
 try simp only [Act.put,sA,sB,sC,sD,sE,sF]
 refine tk 11 (v:=?_) rfl hHeld ?_ ?_
 rotate_left
 ·intro w hSw;skip;go_simp;try with_reducible rfl
 try simp only [Act.put,sA,sB,sC,sD,sE,sF]
 refine tk 12 (v:=?_) rfl hHeld ?_ ?_
 rotate_left
 ·intro w hSw;skip;go_simp;try with_reducible rfl
 try simp only [Act.put,sA,sB,sC,sD,sE,sF]
 refine tk 13 (v:=?_) rfl hHeld ?_ ?_
 rotate_left
 ·intro w hSw;skip;go_simp;try with_reducible rfl
 try simp only [Act.put,sA,sB,sC,sD,sE,sF]
 refine tk 14 (v:=?_) rfl hHeld ?_ ?_
 rotate_left
 ·intro w hSw;skip;go_simp;try with_reducible rfl
 try simp only [Act.put,sA,sB,sC,sD,sE,sF]
 refine tk 15 (v:=?_) rfl hHeld ?_ ?_
 rotate_left
 ·intro w hSw;skip;go_simp;try with_reducible rfl
 try simp only [Act.put,sA,sB,sC,sD,sE,sF]
 refine tk 16 (v:=?_) rfl hHeld ?_ ?_
 rotate_left
 ·intro w hSw;skip;go_simp;try with_reducible rfl
 try simp only [Act.put,sA,sB,sC,sD,sE,sF]
 refine tk 17 (v:=?_) rfl hHeld ?_ ?_
 rotate_left
 ·intro w hSw;skip;go_simp;try with_reducible rfl
 try simp only [Act.put,sA,sB,sC,sD,sE,sF]
 refine tk 18 (v:=?_) rfl hHeld ?_ ?_
 rotate_left
 ·intro w hSw;skip;go_simp;try with_reducible rfl
 try simp only [Act.put,sA,sB,sC,sD,sE,sF]
 refine tk 19 (v:=?_) rfl hHeld ?_ ?_
 rotate_left
 ·intro w hSw;skip;go_simp;try with_reducible rfl
 try simp only [Act.put,sA,sB,sC,sD,sE,sF]
 refine tk 20 (v:=?_) rfl hHeld ?_ ?_
 rotate_left
 ·intro w hSw;skip;go_simp;try with_reducible rfl
 try simp only [Act.put,sA,sB,sC,sD,sE,sF]
 refine tk 21 (v:=?_) rfl hHeld ?_ ?_
 rotate_left
 ·intro w hSw;skip;go_simp;try with_reducible rfl
 try simp only [Act.put,sA,sB,sC,sD,sE,sF]
 refine tk 22 (v:=?_) rfl hHeld ?_ ?_
 rotate_left
 ·intro w hSw;skip;go_simp;try with_reducible rfl
 try simp only [Act.put,sA,sB,sC,sD,sE,sF]
 refine tk 23 (v:=?_) rfl hHeld ?_ ?_
 rotate_left
 ·intro w hSw;skip;go_simp;try with_reducible rfl
 try simp only [Act.put,sA,sB,sC,sD,sE,sF]
 refine tk 24 (v:=?_) rfl hHeld ?_ ?_
 rotate_left
 ·intro w hSw;obtain ⟨c0,c1,c2,c3,c4,c5⟩:=HC.out _ hSw;obtain ⟨⟨x0,x1,x2,x3,x4,x5⟩,-,xl⟩:=six_cells (lies.on_call DC hSw);go_simp;try with_reducible rfl
 try simp only [Act.put,sA,sB,sC,sD,sE,sF]
 refine tk 25 (v:=?_) rfl hHeld ?_ ?_
 rotate_left
 ·intro w hSw;obtain ⟨c0,c1,c2,c3,c4,c5⟩:=HC.out _ hSw;obtain ⟨⟨x0,x1,x2,x3,x4,x5⟩,-,xl⟩:=six_cells (lies.on_call DC hSw);go_simp;try with_reducible rfl
 try simp only [Act.put,sA,sB,sC,sD,sE,sF]
 refine tk 26 (v:=?_) rfl hHeld ?_ ?_
 rotate_left
 ·intro w hSw;skip;go_simp;try with_reducible rfl
 try simp only [Act.put,sA,sB,sC,sD,sE,sF]
 refine tk 27 (v:=?_) rfl hHeld ?_ ?_
 rotate_left
 ·intro w hSw;skip;go_simp;try with_reducible rfl
 try simp only [Act.put,sA,sB,sC,sD,sE,sF]
 refine tk 28 (v:=?_) rfl hHeld ?_ ?_
 rotate_left
 ·intro w hSw;skip;go_simp;try with_reducible rfl
 try simp only [Act.put,sA,sB,sC,sD,sE,sF]
 refine tk 29 (v:=?_) rfl hHeld ?_ ?_
 rotate_left
 ·intro w hSw;skip;go_simp;try with_reducible rfl
 try simp only [Act.put,sA,sB,sC,sD,sE,sF]
 refine tk 30 (v:=?_) rfl hHeld ?_ ?_
 rotate_left
 ·intro w hSw;skip;go_simp;try with_reducible rfl
 try simp only [Act.put,sA,sB,sC,sD,sE,sF]
 refine tk 31 (v:=?_) rfl hHeld ?_ ?_
 rotate_left
 ·intro w hSw;skip;go_simp;try with_reducible rfl
 try simp only [Act.put,sA,sB,sC,sD,sE,sF]
 refine tk 32 (v:=?_) rfl hHeld ?_ ?_
 rotate_left
 ·intro w hSw;skip;go_simp;try with_reducible rfl
 try simp only [Act.put,sA,sB,sC,sD,sE,sF]
 refine wpAnyH_ready (rs:=[33]) (by kernel_rfl) (by simp) (AllReadyH.cons rfl (fun K hK=>?_) AllReadyH.nil)
 go_simp
 refine (mays_any none 0 0 [] _ (P0.on hHeld) (.inl ⟨⟨none,0,rfl,fun _=>rfl⟩,rfl⟩) six_nil rfl (by decide)).mono ?_
 rintro e u2 ⟨hB,f,rfl,hR⟩
 obtain rfl:=mays_none hR
 clear hR
 refine hK.out _ _ (hHeld.trans (hB.mono hHeld.size)) (fun hNew=>?_)
 clear hB
 clear hHeld hK K
 have hHeld:=hNew
 clear hNew
 try simp only [Act.put,sA,sB,sC,sD,sE,sF]
 refine tk 34 (v:=?_) rfl hHeld ?_ ?_
 rotate_left
 ·intro w hSw;skip;go_simp;try with_reducible rfl
 try simp only [Act.put,sA,sB,sC,sD,sE,sF]
 refine tk 35 (v:=?_) rfl hHeld ?_ ?_
 rotate_left
 ·intro w hSw;skip;go_simp;try with_reducible rfl
 try simp only [Act.put,sA,sB,sC,sD,sE,sF]
 refine tk 36 (v:=?_) rfl hHeld ?_ ?_
 rotate_left
 ·intro w hSw;skip;go_simp;try with_reducible rfl
 try simp only [Act.put,sA,sB,sC,sD,sE,sF]
 refine wpAnyH_done (by kernel_rfl) ?_ _
 clear hq DC HVl HC
 replace DB:=later DB hHeld
 clear hHeld
 go_wp2_with fail
 go_ret
 exact ⟨rfl,DB⟩
end Go.Proofs.YthmljpccbjolgaaGreatDoor.zsetNames
