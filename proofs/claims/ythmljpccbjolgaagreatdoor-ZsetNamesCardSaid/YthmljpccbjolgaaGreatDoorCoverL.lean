
/-
  The chapter's example, in numbers; law 12's own calls; each theorem names its conditions.
-/
import Derived.Test.YthmljpccbjolgaaGreatDoorCoverD
import Derived.Test.YthmljpccbjolgaaGreatDoorMinusF
namespace Go.Proofs.YthmljpccbjolgaaGreatDoor.claw
open Go.Joins Go.ChangeShapes Go.WideShapes Go.ChangeAt Go.RowKit num rat dbm Go.Proofs.YthmljpccbjolgaaGreatDoor.tight Go.Proofs.YthmljpccbjolgaaGreatDoor.incl Go.Proofs.YthmljpccbjolgaaGreatDoor.plaw Go.Proofs.YthmljpccbjolgaaGreatDoor.zopen Go.Proofs.YthmljpccbjolgaaGreatDoor.zone Go.Proofs.YthmljpccbjolgaaGreatDoor.zlaw Go.Proofs.YthmljpccbjolgaaGreatDoor.win Go.Proofs.YthmljpccbjolgaaGreatDoor.minus Go.Proofs.YthmljpccbjolgaaGreatDoor.mz Go.Proofs.YthmljpccbjolgaaGreatDoor.mlaw Go.Proofs.YthmljpccbjolgaaGreatDoor.cover
open bound hiding up
set_option linter.unusedVariables false
set_option linter.unusedSimpArgs false
theorem make_z:MakeR (0,false,4,false,false) (0,false,4,false,false) (0,true,0,false,true) [8,1,9,0,9,0] 0:=by
 have h0:MayP (0,false,4,false,false):=⟨⟨by decide,by decide⟩,.inr ⟨rfl,⟨by decide,by decide⟩,by decide⟩⟩
 have h1:MayP (0,false,4,false,false):=⟨⟨by decide,by decide⟩,.inr ⟨rfl,⟨by decide,by decide⟩,by decide⟩⟩
 have h2:MayP (0,true,0,false,true):=⟨⟨by decide,by decide⟩,.inl ⟨rfl,rfl,rfl⟩⟩
 have e:fullT (spanZ (0,false,4,false,false) (0,false,4,false,false) (0,true,0,false,true))=[1,1,1,9,1,0,9,9223372036854775807,1]:=by decide+kernel
 obtain ⟨k1,k2⟩:=tlaw.ok_cl (m:=3) (by decide) (ts:=[1,1,1,9,1,0,9,9223372036854775807,1]) (us:=[1,1,0,8,1,0,9,9,1]) (by decide+kernel) (by decide+kernel)
 have k1:OkD 3 [1,1,1,9,1,0,9,9223372036854775807,1]:=k1
 have k2:clT 3 [1,1,1,9,1,0,9,9223372036854775807,1]=[1,1,0,8,1,0,9,9,1]:=k2
 unfold MakeR
 rw [e,k2]
 exact .inr (.inr (.inr ⟨h0,h1,h2,k1,by decide,rfl,rfl⟩))
theorem make_p:MakeR (0,false,1,false,false) (0,false,4,false,false) (0,true,0,false,true) [3,1,9,0,9,0] 0:=by
 have h0:MayP (0,false,1,false,false):=⟨⟨by decide,by decide⟩,.inr ⟨rfl,⟨by decide,by decide⟩,by decide⟩⟩
 have h1:MayP (0,false,4,false,false):=⟨⟨by decide,by decide⟩,.inr ⟨rfl,⟨by decide,by decide⟩,by decide⟩⟩
 have h2:MayP (0,true,0,false,true):=⟨⟨by decide,by decide⟩,.inl ⟨rfl,rfl,rfl⟩⟩
 have e:fullT (spanZ (0,false,1,false,false) (0,false,4,false,false) (0,true,0,false,true))=[1,1,1,3,1,0,9,9223372036854775807,1]:=by decide+kernel
 obtain ⟨k1,k2⟩:=tlaw.ok_cl (m:=3) (by decide) (ts:=[1,1,1,3,1,0,9,9223372036854775807,1]) (us:=[1,1,0,3,1,0,9,9,1]) (by decide+kernel) (by decide+kernel)
 have k1:OkD 3 [1,1,1,3,1,0,9,9223372036854775807,1]:=k1
 have k2:clT 3 [1,1,1,3,1,0,9,9223372036854775807,1]=[1,1,0,3,1,0,9,9,1]:=k2
 unfold MakeR
 rw [e,k2]
 exact .inr (.inr (.inr ⟨h0,h1,h2,k1,by decide,rfl,rfl⟩))
theorem make_q:MakeR (1,false,4,false,false) (0,false,4,false,false) (0,true,0,false,true) [8,-1,9,-2,7,0] 0:=by
 have h0:MayP (1,false,4,false,false):=⟨⟨by decide,by decide⟩,.inr ⟨rfl,⟨by decide,by decide⟩,by decide⟩⟩
 have h1:MayP (0,false,4,false,false):=⟨⟨by decide,by decide⟩,.inr ⟨rfl,⟨by decide,by decide⟩,by decide⟩⟩
 have h2:MayP (0,true,0,false,true):=⟨⟨by decide,by decide⟩,.inl ⟨rfl,rfl,rfl⟩⟩
 have e:fullT (spanZ (1,false,4,false,false) (0,false,4,false,false) (0,true,0,false,true))=[1,-1,1,9,1,0,9,9223372036854775807,1]:=by decide+kernel
 obtain ⟨k1,k2⟩:=tlaw.ok_cl (m:=3) (by decide) (ts:=[1,-1,1,9,1,0,9,9223372036854775807,1]) (us:=[1,-1,-2,8,1,0,9,7,1]) (by decide+kernel) (by decide+kernel)
 have k1:OkD 3 [1,-1,1,9,1,0,9,9223372036854775807,1]:=k1
 have k2:clT 3 [1,-1,1,9,1,0,9,9223372036854775807,1]=[1,-1,-2,8,1,0,9,7,1]:=k2
 unfold MakeR
 rw [e,k2]
 exact .inr (.inr (.inr ⟨h0,h1,h2,k1,by decide,rfl,rfl⟩))
theorem zo_z:Zo [8,1,9,0,9,0]:=by
 obtain ⟨k1,k2⟩:=tlaw.ok_cl (m:=3) (by decide) (ts:=[1,1,0,8,1,0,9,9,1]) (us:=[1,1,0,8,1,0,9,9,1]) (by decide+kernel) (by decide+kernel)
 exact ⟨⟨k1,k2⟩,by unfold Tops;decide,rfl⟩
theorem zo_p:Zo [3,1,9,0,9,0]:=by
 obtain ⟨k1,k2⟩:=tlaw.ok_cl (m:=3) (by decide) (ts:=[1,1,0,3,1,0,9,9,1]) (us:=[1,1,0,3,1,0,9,9,1]) (by decide+kernel) (by decide+kernel)
 exact ⟨⟨k1,k2⟩,by unfold Tops;decide,rfl⟩
theorem zo_q:Zo [8,-1,9,-2,7,0]:=by
 obtain ⟨k1,k2⟩:=tlaw.ok_cl (m:=3) (by decide) (ts:=[1,-1,-2,8,1,0,9,7,1]) (us:=[1,-1,-2,8,1,0,9,7,1]) (by decide+kernel) (by decide+kernel)
 exact ⟨⟨k1,k2⟩,by unfold Tops;decide,rfl⟩
theorem zo_x:Zo [8,-2,9,-2,6,0]:=by
 obtain ⟨k1,k2⟩:=tlaw.ok_cl (m:=3) (by decide) (ts:=[1,-2,-2,8,1,0,9,6,1]) (us:=[1,-2,-2,8,1,0,9,6,1]) (by decide+kernel) (by decide+kernel)
 exact ⟨⟨k1,k2⟩,by unfold Tops;decide,rfl⟩
theorem cut_zx:CutR [8,1,9,0,9,0] (oneZ 1 (-2)) [8,-2,9,-2,6,0] 0:=cut_told (ts:=[1,-2,0,8,1,0,9,9,1]) (us:=[1,-2,-2,8,1,0,9,6,1]) (by decide+kernel) (tlaw.ok_cl (m:=3) (by decide) (by decide+kernel) (by decide+kernel)) (by decide+kernel) rfl
theorem cut_zp:CutR [8,1,9,0,9,0] (oneZ 0 (3)) [3,1,9,0,9,0] 0:=cut_told (ts:=[1,1,0,3,1,0,9,9,1]) (us:=[1,1,0,3,1,0,9,9,1]) (by decide+kernel) (tlaw.ok_cl (m:=3) (by decide) (by decide+kernel) (by decide+kernel)) (by decide+kernel) rfl
theorem cut_qx:CutR [8,-1,9,-2,7,0] (oneZ 1 (-2)) [8,-2,9,-2,6,0] 0:=cut_told (ts:=[1,-2,-2,8,1,0,9,7,1]) (us:=[1,-2,-2,8,1,0,9,6,1]) (by decide+kernel) (tlaw.ok_cl (m:=3) (by decide) (by decide+kernel) (by decide+kernel)) (by decide+kernel) rfl
theorem cut_qr:CutR [8,-1,9,-2,7,0] (oneZ 0 (3)) [3,-1,9,-2,7,0] 0:=cut_told (ts:=[1,-1,-2,3,1,0,9,7,1]) (us:=[1,-1,-2,3,1,0,9,7,1]) (by decide+kernel) (tlaw.ok_cl (m:=3) (by decide) (by decide+kernel) (by decide+kernel)) (by decide+kernel) rfl
theorem cut_py:CutR [3,1,9,0,9,0] (oneZ 0 (2)) [2,1,9,0,9,0] 0:=cut_told (ts:=[1,1,0,2,1,0,9,9,1]) (us:=[1,1,0,2,1,0,9,9,1]) (by decide+kernel) (tlaw.ok_cl (m:=3) (by decide) (by decide+kernel) (by decide+kernel)) (by decide+kernel) rfl
theorem cut_pr:CutR [3,1,9,0,9,0] (oneZ 1 (-1)) [3,-1,9,-2,7,0] 0:=cut_told (ts:=[1,-1,0,3,1,0,9,9,1]) (us:=[1,-1,-2,3,1,0,9,7,1]) (by decide+kernel) (tlaw.ok_cl (m:=3) (by decide) (by decide+kernel) (by decide+kernel)) (by decide+kernel) rfl
theorem less_zp:LessR [3,1,9,0,9,0] 6 [8,1,9,0,9,0] [[8,-2,9,-2,6,0]] 0:=by
 refine pcs_is zo_z zo_p ?_
 refine .inr (.inr ⟨by decide,by decide,_,0,cut_zx,.inr ⟨rfl,_,0,cut_zp,.inr ⟨rfl,[],?_,rfl⟩⟩⟩)
 exact .inl ⟨by decide,.inl ⟨by decide,.inl ⟨by decide,.inl ⟨by decide,.inl ⟨by decide,rfl⟩⟩⟩⟩⟩
theorem less_xq:LessR [8,-1,9,-2,7,0] 6 [8,-2,9,-2,6,0] [] 0:=by
 refine pcs_is zo_x zo_q ?_
 exact .inl ⟨by decide,.inl ⟨by decide,.inl ⟨by decide,.inl ⟨by decide,.inl ⟨by decide,.inl ⟨by decide,rfl⟩⟩⟩⟩⟩⟩
theorem less_qp:LessR [3,1,9,0,9,0] 6 [8,-1,9,-2,7,0] [[8,-2,9,-2,6,0]] 0:=by
 refine pcs_is zo_q zo_p ?_
 refine .inr (.inr ⟨by decide,by decide,_,0,cut_qx,.inr ⟨rfl,_,0,cut_qr,.inr ⟨rfl,[],?_,rfl⟩⟩⟩)
 exact .inl ⟨by decide,.inl ⟨by decide,.inl ⟨by decide,.inl ⟨by decide,.inl ⟨by decide,rfl⟩⟩⟩⟩⟩
theorem less_pq:LessR [8,-1,9,-2,7,0] 6 [3,1,9,0,9,0] [[2,1,9,0,9,0]] 0:=by
 refine pcs_is zo_p zo_q ?_
 refine .inl ⟨by decide,.inr (.inr ⟨by decide,by decide,_,0,cut_py,.inr ⟨rfl,_,0,cut_pr,.inr ⟨rfl,[],?_,rfl⟩⟩⟩)⟩
 exact .inl ⟨by decide,.inl ⟨by decide,.inl ⟨by decide,.inl ⟨by decide,rfl⟩⟩⟩⟩
theorem step_one {b a:List Int} {o:List (List Int)} (h:LessR b 6 a o 0) (k:o.length≤4096):StepR b [a] [] o 0:=⟨o,0,h,.inr ⟨rfl,.inr ⟨by rw [List.nil_append];omega,rfl,rfl⟩⟩⟩
theorem rest_one {b a:List Int} {o:List (List Int)} (h:LessR b 6 a o 0) (k:o.length≤4096):RestR [b] [a] o 0:=⟨o,0,step_one h k,.inr ⟨rfl,rfl,rfl⟩⟩
theorem rest_zpq:RestR [[3,1,9,0,9,0],[8,-1,9,-2,7,0]] [[8,1,9,0,9,0]] [] 0:=⟨_,0,step_one less_zp (by decide),.inr ⟨rfl,_,0,step_one less_xq (by decide),.inr ⟨rfl,rfl,rfl⟩⟩⟩
theorem rest_zp:RestR [[3,1,9,0,9,0]] [[8,1,9,0,9,0]] [[8,-2,9,-2,6,0]] 0:=rest_one less_zp (by decide)
theorem rest_qp:RestR [[3,1,9,0,9,0]] [[8,-1,9,-2,7,0]] [[8,-2,9,-2,6,0]] 0:=rest_one less_qp (by decide)
theorem rest_pq:RestR [[8,-1,9,-2,7,0]] [[3,1,9,0,9,0]] [[2,1,9,0,9,0]] 0:=rest_one less_pq (by decide)
theorem chk_zero {a b:List (List Int)} (la:a.length≤4096) (lb:b.length≤4096) (ha:∀ x,x ∈ a→Zo x) (hb:∀ x,x ∈ b→Zo x):ChkR a b 0:=.inr (.inr ⟨la,lb,fun x hx=>(ha x hx).1,fun x hx=>(hb x hx).1,rfl⟩)
theorem all_one {a:List Int} (h:Zo a):∀ x,x ∈ [a]→Zo x:=fun x hx=>by rw [List.mem_singleton.1 hx];exact h
theorem all_two {a b:List Int} (h:Zo a) (k:Zo b):∀ x,x ∈ [a,b]→Zo x:=fun x hx=>by
 rcases List.mem_cons.1 hx with e | e
 ·rw [e];exact h
 ·exact all_one k x e
theorem all_three {a b c:List Int} (h:Zo a) (k:Zo b) (j:Zo c):∀ x,x ∈ [a,b,c]→Zo x:=fun x hx=>by
 rcases List.mem_cons.1 hx with e | e
 ·rw [e];exact h
 ·exact all_two k j x e
theorem zos_six {l:List (List Int)} (h:∀ x,x ∈ l→Zo x):Six l:=fun x hx=>⟨(h x hx).2.2,(h x hx).2.1⟩
theorem in_told {z:List Int} {l n:List (List Int)} {is:Bool} {f:Int} (hz:Zo z) (hl:∀ x,x ∈ l→Zo x) (h6:l.length≤6) (h:RestR l [z] n 0) (k:InX RestP z l is f):is=decide ((0:Int)=0∧n=[])∧f=0:=
 in_same (f:=0) (is:=decide ((0:Int)=0∧n=[])) ⟨0,chk_zero (by omega) (by show 1≤4096;decide) hl (all_one hz),.inr ⟨rfl,n,h,rfl⟩⟩ (in_six hz.2.2 hz.2.1 (zos_six hl) h6 k)
theorem in_yes {is:Bool} {f:Int} (k:InX RestP [8,1,9,0,9,0] [[3,1,9,0,9,0],[8,-1,9,-2,7,0]] is f):is=true∧f=0:=in_told zo_z (all_two zo_p zo_q) (by decide) rest_zpq k
theorem in_no {is:Bool} {f:Int} (k:InX RestP [8,1,9,0,9,0] [[3,1,9,0,9,0]] is f):is=false∧f=0:=in_told zo_z (all_one zo_p) (by decide) rest_zp k
theorem want_pqz:Want RestR 3 [[3,1,9,0,9,0],[8,-1,9,-2,7,0],[8,1,9,0,9,0]] [[3,1,9,0,9,0],[8,-1,9,-2,7,0]] 0:=⟨[],0,rest_zpq,.inr ⟨rfl,.inl ⟨rfl,⟨_,0,rest_qp,.inr ⟨rfl,.inr ⟨by decide,⟨_,0,rest_pq,.inr ⟨rfl,.inr ⟨by decide,rfl,rfl⟩⟩⟩⟩⟩⟩⟩⟩⟩
set_option maxRecDepth 100000 in
set_option maxHeartbeats 2000000 in
theorem of_is (lo hi:Int) (m0 m1 m2 m3 m4 m5:Int) (w:World) (hP:Pl w) (hM:MakeR (lo,false,hi,false,false) (0,false,4,false,false) (0,true,0,false,true) [m0,m1,m2,m3,m4,m5] 0):
  Calls Tryz.prog 88 #[.int .i64 lo,.int .i64 hi] w fun e w'=>e=.returned (.agg #[.int .i64 m0,.int .i64 m1,.int .i64 m2,.int .i64 m3,.int .i64 m4,.int .i64 m5])∧Below w.heap.size w w':=by
 have DB:=bound.up1 w (.cells #[.int .i64 0,.int .i64 0,.int .i64 0,.int .i64 0,.int .i64 0,.int .i64 0] 27)
 have D0:=lies.made w 27 #[.int .i64 0,.int .i64 0,.int .i64 0,.int .i64 0,.int .i64 0,.int .i64 0]
 have P0:=hP.on DB
 have HM:=Lib.hid hM
 have hR:w.heap.size≤w.heap.size:=Nat.le_refl _
 clear hP hM
 go_enter Tryz.func88,Tryz.ntmps88
 go_wp2_with fail
 generalize w.alloc (.cells #[.int .i64 0,.int .i64 0,.int .i64 0,.int .i64 0,.int .i64 0,.int .i64 0] 27)=w0 at D0 DB P0 ⊢
 refine (make_any lo false hi false false 0 false 4 false false 0 true 0 false true w0 P0).mono ?_
 rintro e w1 ⟨hB,z0,z1,z2,z3,z4,z5,f,rfl,hM⟩
 obtain ⟨e1,rfl⟩:=zlaw.make_one HM.out hM
 injection e1 with e0 e1
 injection e1 with e1 e2
 injection e2 with e2 e3
 injection e3 with e3 e4
 injection e4 with e4 e5
 injection e5 with e5 _
 subst e0 e1 e2 e3 e4 e5
 replace D0:=lies.on_call D0 hB
 replace DB:=later DB hB
 clear hB hM P0
 have hgl:=lies.lt D0
 obtain ⟨⟨x0,x1,x2,x3,x4,x5⟩,⟨y0,y1,y2,y3,y4,y5⟩,xl⟩:=six_cells D0
 clear D0
 go_wp2_with fail
 exact bodyPost_ret (v:=.agg #[.int .i64 z0,.int .i64 z1,.int .i64 z2,.int .i64 z3,.int .i64 z4,.int .i64 z5]) (by simp [results,Tryz.results88,go_sem,x0,x1,x2,x3,x4,x5,xl]) rfl ⟨rfl,lies.frame_up (put_six DB hR _ _ _ _ _ _) _⟩
set_option maxRecDepth 100000 in
set_option maxHeartbeats 2000000 in
theorem alive_yes (w:World) (hP:Pl w):Calls Tryz.prog 47 #[] w fun e w'=>e=.returned (.bool true)∧Below w.heap.size w w':=by
 have P0:=hP
 have DB:=Below.refl w.heap.size w
 clear hP
 go_enter Tryz.func47,Tryz.ntmps47
 go_wp2_with fail
 refine (of_is 0 4 8 1 9 0 9 0 w P0 make_z).mono ?_
 rintro e w1 ⟨rfl,hB⟩
 replace P0:=P0.on hB
 replace DB:=later DB hB
 clear hB
 go_wp2_with fail
 refine (of_is 0 1 3 1 9 0 9 0 w1 P0 make_p).mono ?_
 rintro e w2 ⟨rfl,hB⟩
 replace P0:=P0.on hB
 replace DB:=later DB hB
 clear hB
 go_wp2_with fail
 refine (of_is 1 4 8 (-1) 9 (-2) 7 0 w2 P0 make_q).mono ?_
 rintro e w3 ⟨rfl,hB⟩
 replace P0:=P0.on hB
 replace DB:=later DB hB
 clear hB
 go_wp2_with fail
 have hA:=bound.up1 w3 (.cells #[.int .i64 3,.int .i64 1,.int .i64 9,.int .i64 0,.int .i64 9,.int .i64 0,.int .i64 8,.int .i64 (-1),.int .i64 9,.int .i64 (-2),.int .i64 7,.int .i64 0] 27)
 have D0:=lies.made w3 27 #[.int .i64 3,.int .i64 1,.int .i64 9,.int .i64 0,.int .i64 9,.int .i64 0,.int .i64 8,.int .i64 (-1),.int .i64 9,.int .i64 (-2),.int .i64 7,.int .i64 0]
 replace P0:=P0.on hA
 replace DB:=later DB hA
 clear hA
 generalize w3.heap.size=XD0 at D0 ⊢
 generalize w3.alloc (.cells #[.int .i64 3,.int .i64 1,.int .i64 9,.int .i64 0,.int .i64 9,.int .i64 0,.int .i64 8,.int .i64 (-1),.int .i64 9,.int .i64 (-2),.int .i64 7,.int .i64 0] 27)=v4 at D0 P0 DB ⊢
 refine (cover.in_any 8 1 9 0 9 0 _ 2 2 [[3,1,9,0,9,0],[8,-1,9,-2,7,0]] v4 P0 zo_z.2.1 (zs_box2 D0) (zos_six (all_two zo_p zo_q)) rfl (by decide)).mono ?_
 rintro e w5 ⟨hB,i1,f1,rfl,hR1⟩
 obtain ⟨rfl,rfl⟩:=in_yes hR1
 replace D0:=lies.on_call D0 hB
 replace P0:=P0.on hB
 replace DB:=later DB hB
 clear hB
 clear hR1 D0
 go_wp2_with fail
 refine (of_is 0 4 8 1 9 0 9 0 w5 P0 make_z).mono ?_
 rintro e w6 ⟨rfl,hB⟩
 replace P0:=P0.on hB
 replace DB:=later DB hB
 clear hB
 go_wp2_with fail
 refine (of_is 0 1 3 1 9 0 9 0 w6 P0 make_p).mono ?_
 rintro e w7 ⟨rfl,hB⟩
 replace P0:=P0.on hB
 replace DB:=later DB hB
 clear hB
 go_wp2_with fail
 have hA:=bound.up1 w7 (.cells #[.int .i64 3,.int .i64 1,.int .i64 9,.int .i64 0,.int .i64 9,.int .i64 0] 27)
 have D0:=lies.made w7 27 #[.int .i64 3,.int .i64 1,.int .i64 9,.int .i64 0,.int .i64 9,.int .i64 0]
 replace P0:=P0.on hA
 replace DB:=later DB hA
 clear hA
 generalize w7.heap.size=XD0 at D0 ⊢
 generalize w7.alloc (.cells #[.int .i64 3,.int .i64 1,.int .i64 9,.int .i64 0,.int .i64 9,.int .i64 0] 27)=v8 at D0 P0 DB ⊢
 refine (cover.in_any 8 1 9 0 9 0 _ 1 1 [[3,1,9,0,9,0]] v8 P0 zo_z.2.1 (zs_box D0) (zos_six (all_one zo_p)) rfl (by decide)).mono ?_
 rintro e w9 ⟨hB,i1,f1,rfl,hR1⟩
 obtain ⟨rfl,rfl⟩:=in_no hR1
 replace D0:=lies.on_call D0 hB
 replace P0:=P0.on hB
 replace DB:=later DB hB
 clear hB
 clear hR1 D0
 go_wp2_with fail
 go_ret
 exact ⟨rfl,DB⟩
def AmoR (zs:List (List Int)) (pa pb pc pd:Int) (is ok:Bool):Prop:=(ok=true→is=decide (0<cnt zs pa pb pc pd)∧(zs=[]∨(MayR pa pb∧MayR pc pd)))∧(MayR pa pb→MayR pc pd→ok=true)
set_option maxRecDepth 100000 in
set_option maxHeartbeats 8000000 in
theorem among_any (ao:Option Addr) (len cap:Nat) (zs:List (List Int)) (pa pb pc pd:Int) (w:World) (hP:Pl w) (hI:Zs w.heap.size w (.slice ao len cap) zs) (hl:zs.length=len) (hm:len≤1000000) (hz:∀ z,z ∈ zs→Zo z) (hF:zone.Fit [pa,pb,pc,pd]):
  Calls Tryz.prog 48 #[.slice ao len cap,.agg #[.int .i64 pa,.int .i64 pb,.int .i64 pc,.int .i64 pd]] w fun e w'=>Below w.heap.size w w'∧∃ is ok:Bool,e=.returned (.tuple #[.bool is,.bool ok])∧AmoR zs pa pb pc pd is ok:=by
 have D0:=lies.made w 47 #[.int .i64 pa,.int .i64 pb,.int .i64 pc,.int .i64 pd]
 have DB:=bound.up1 w (.cells #[.int .i64 pa,.int .i64 pb,.int .i64 pc,.int .i64 pd] 47)
 have P0:=hP.on DB
 have HI:=Lib.hid hI
 have HZ:=Lib.hid hz
 have HL:=Lib.hid hl
 have HF:=Lib.hid hF
 clear hP hI hz hl hF
 go_enter Tryz.func48,Tryz.ntmps48
 go_wp2_with fail
 generalize w.alloc (.cells #[.int .i64 pa,.int .i64 pb,.int .i64 pc,.int .i64 pd] 47)=w0 at D0 DB P0 ⊢
 go_loopw [7,6] (fun i n wr=>∃ (k:Nat) (bi:Bool),k≤len∧i=.int .i64 k∧n=.bool bi∧RowKit.Hid (bi=decide (0<cnt (zs.take k) pa pb pc pd))∧RowKit.Hid (k=0∨(MayR pa pb∧MayR pc pd))∧lies.Lies wr w.heap.size 47 #[.int .i64 pa,.int .i64 pb,.int .i64 pc,.int .i64 pd]∧Below w.heap.size w wr∧Pl wr) (fun i _ _=>len - (intOf i).toNat)
 case atStart=>exact ⟨0,false,Nat.zero_le _,rfl,rfl,Lib.hid rfl,Lib.hid (.inl rfl),D0,DB,P0⟩
 case round=>
  clear D0 DB P0
  obtain ⟨k,bi,hk,rfl,rfl,HBI,HM,D0,DB,P0⟩:=hrel
  by_cases hkn:k<len
  ·have hkz:k<zs.length:=by rw [HL.out];exact hkn
   have hzk:=HZ.out _ (zat_mem hkz)
   obtain ⟨bq,off,z0,z1,z2,z3,z4,z5,rfl,hb,ez⟩:=zs_six (HI.out.below DB) hkz hzk.2.2
   have hbr:bq<wr.heap.size:=Nat.lt_of_lt_of_le hb DB.size
   have hcu:=cnt_take (pa:=pa) (pb:=pb) (pc:=pc) (pd:=pd) hkz
   rw [ez] at hzk hcu
   have HCU:=Lib.hid hcu
   have HEZ:=Lib.hid ez
   have HZK:=Lib.hid hzk
   have HKZ:=Lib.hid hkz
   have HB:=Lib.hid hb
   clear hcu ez hzk hkz hb
   go_wp2_with fail
   refine wp_region_held_drew (S:=Below wr.heap.size wr) (by kernel_rfl) (dbm.drawn1 (Below.refl _ _)) (fun hHeld=>?_)
   refine tk 0 (v:=?_) rfl hHeld ?_ ?_
   rotate_left
   ·intro w hSw;obtain ⟨c0,c1,c2,c3,c4,c5⟩:=zs_cells (HI.out.below (later DB hSw)) HKZ.out HEZ.out;obtain ⟨⟨x0,x1,x2,x3⟩,_⟩:=four_cells (lies.on_call D0 hSw);go_simp;try with_reducible rfl
   try simp only [Act.put,sA,sB,sC,sD,sE,sF]
   refine tk 1 (v:=?_) rfl hHeld ?_ ?_
   rotate_left
   ·intro w hSw;obtain ⟨c0,c1,c2,c3,c4,c5⟩:=zs_cells (HI.out.below (later DB hSw)) HKZ.out HEZ.out;obtain ⟨⟨x0,x1,x2,x3⟩,_⟩:=four_cells (lies.on_call D0 hSw);go_simp;try with_reducible rfl
   try simp only [Act.put,sA,sB,sC,sD,sE,sF]
   refine tk 2 (v:=?_) rfl hHeld ?_ ?_
   rotate_left
   ·intro w hSw;obtain ⟨c0,c1,c2,c3,c4,c5⟩:=zs_cells (HI.out.below (later DB hSw)) HKZ.out HEZ.out;obtain ⟨⟨x0,x1,x2,x3⟩,_⟩:=four_cells (lies.on_call D0 hSw);go_simp;try with_reducible rfl
   try simp only [Act.put,sA,sB,sC,sD,sE,sF]
   refine tk 3 (v:=?_) rfl hHeld ?_ ?_
   rotate_left
   ·intro w hSw;obtain ⟨c0,c1,c2,c3,c4,c5⟩:=zs_cells (HI.out.below (later DB hSw)) HKZ.out HEZ.out;obtain ⟨⟨x0,x1,x2,x3⟩,_⟩:=four_cells (lies.on_call D0 hSw);go_simp;try with_reducible rfl
   try simp only [Act.put,sA,sB,sC,sD,sE,sF]
   refine tk 4 (v:=?_) rfl hHeld ?_ ?_
   rotate_left
   ·intro w hSw;obtain ⟨c0,c1,c2,c3,c4,c5⟩:=zs_cells (HI.out.below (later DB hSw)) HKZ.out HEZ.out;obtain ⟨⟨x0,x1,x2,x3⟩,_⟩:=four_cells (lies.on_call D0 hSw);go_simp;try with_reducible rfl
   try simp only [Act.put,sA,sB,sC,sD,sE,sF]
   refine wpAnyH_ready (rs:=[5]) (by kernel_rfl) (by simp) (AllReadyH.cons rfl (fun K hK=>?_) AllReadyH.nil)
   go_simp
   refine (has_any z0 z1 z2 z3 z4 z5 pa pb pc pd _ (P0.on hHeld) HZK.out.2.1 HF.out).mono ?_
   rintro e u1 ⟨hB,it,f,rfl,hR⟩
   have HR:=Lib.hid hR
   clear hR
   refine hK.out _ _ (hHeld.trans (hB.mono hHeld.size)) (fun hNew=>?_)
   clear hB
   clear hHeld hK K
   have hHeld:=hNew
   clear hNew
   try simp only [Act.put,sA,sB,sC,sD,sE,sF]
   refine tk 6 (v:=?_) rfl hHeld ?_ ?_
   rotate_left
   ·intro w hSw;skip;go_simp;try with_reducible rfl
   try simp only [Act.put,sA,sB,sC,sD,sE,sF]
   refine tk 7 (v:=?_) rfl hHeld ?_ ?_
   rotate_left
   ·intro w hSw;skip;go_simp;try with_reducible rfl
   try simp only [Act.put,sA,sB,sC,sD,sE,sF]
   refine tk 8 (v:=?_) rfl hHeld ?_ ?_
   rotate_left
   ·intro w hSw;skip;go_simp;try with_reducible rfl
   try simp only [Act.put,sA,sB,sC,sD,sE,sF]
   refine tk 9 (v:=?_) rfl hHeld ?_ ?_
   rotate_left
   ·intro w hSw;skip;go_simp;try with_reducible rfl
   try simp only [Act.put,sA,sB,sC,sD,sE,sF]
   refine tk 10 (v:=?_) rfl hHeld ?_ ?_
   rotate_left
   ·intro w hSw;skip;go_simp;try with_reducible rfl
   try simp only [Act.put,sA,sB,sC,sD,sE,sF]
   refine wpAnyH_done (by kernel_rfl) ?_ _
   replace D0:=lies.on_call D0 hHeld
   replace DB:=later DB hHeld
   replace P0:=P0.on hHeld
   clear hHeld
   by_cases hf:f=0
   ·subst hf
    have hit:(MayR pa pb∧MayR pc pd)∧it=hasB [z0,z1,z2,z3,z4,z5] pa pb pc pd:=by
     rcases HR.out with ⟨_,_,n⟩ | ⟨_,p,q,_,r⟩
     ·exact absurd n (by decide)
     ·exact ⟨⟨p,q⟩,by rw [Bool.eq_iff_iff,r,has_kept p q]⟩
    have HIT:=Lib.hid hit
    clear hit HR
    cases bi with
    | true=>
     have hb2:0<cnt (zs.take k) pa pb pc pd:=of_decide_eq_true HBI.out.symm
     have HB2:=Lib.hid hb2
     clear hb2
     go_wp2_with fail
     go_roundw
     case rel=>exact ⟨k+1,true,by omega,by go_num,rfl,Lib.hid (by rw [HCU.out,decide_eq_true (Nat.lt_of_lt_of_le HB2.out (Nat.le_add_right _ _))]),Lib.hid (.inr HIT.out.1),D0,DB,P0⟩
     case measure=>simp [intOf];omega
    | false=>
     have hb2:cnt (zs.take k) pa pb pc pd=0:=by
      have:=of_decide_eq_false HBI.out.symm
      omega
     have HB2:=Lib.hid hb2
     clear hb2
     go_wp2_with fail
     go_roundw
     case rel=>exact ⟨k+1,it,by omega,by go_num,rfl,Lib.hid (by
      rw [HCU.out,HB2.out,←HIT.out.2]
      cases it<;>rfl),Lib.hid (.inr HIT.out.1),D0,DB,P0⟩
     case measure=>simp [intOf];omega
   ·have hnm:¬ (MayR pa pb∧MayR pc pd):=fun q=>by
     rcases HR.out with ⟨n,_,_⟩ | ⟨_,_,_,e,_⟩
     ·exact n ⟨HZK.out.1,q.1,q.2⟩
     ·exact hf e
    have HNM:=Lib.hid hnm
    have hbf:(f==0)=false:=by simpa using hf
    have hnf:(f !=0)=true:=by simpa using hf
    clear hf hnm HR
    go_wp2_with fail
    exact bodyPost_ret (v:=.tuple #[.bool false,.bool false]) (by simp [results,Tryz.results48,go_sem]) rfl ⟨DB,false,false,rfl,fun q=>absurd q (by decide),fun p q=>(HNM.out ⟨p,q⟩).elim⟩
  ·obtain rfl:len=k:=by omega
   have e:zs.take len=zs:=by rw [←HL.out];exact List.take_length
   rw [e] at HBI
   clear e
   go_wp2_with fail
   exact bodyPost_ret (v:=.tuple #[.bool bi,.bool true]) (by simp [results,Tryz.results48,go_sem]) rfl ⟨DB,bi,true,rfl,fun _=>⟨HBI.out,HM.out.imp (fun e=>List.eq_nil_of_length_eq_zero (by rw [HL.out];exact e)) id⟩,fun _ _=>rfl⟩
end Go.Proofs.YthmljpccbjolgaaGreatDoor.claw
