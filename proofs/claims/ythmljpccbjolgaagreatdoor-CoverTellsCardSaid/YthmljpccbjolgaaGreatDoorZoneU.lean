
/-
  The document's own calls of zones, but Made and Make; each theorem names its conditions.
-/
import Derived.Test.YthmljpccbjolgaaGreatDoorZoneR
import Derived.Test.YthmljpccbjolgaaGreatDoorInclD
import Derived.Test.YthmljpccbjolgaaGreatDoorDbmE
import Derived.Test.YthmljpccbjolgaaGreatDoorZoneA
namespace Go.Proofs.YthmljpccbjolgaaGreatDoor.zref
open Go.Joins Go.ChangeShapes Go.WideShapes Go.ChangeAt Go.RowKit num rat dbm Go.Proofs.YthmljpccbjolgaaGreatDoor.tight Go.Proofs.YthmljpccbjolgaaGreatDoor.incl Go.Proofs.YthmljpccbjolgaaGreatDoor.plaw Go.Proofs.YthmljpccbjolgaaGreatDoor.zopen Go.Proofs.YthmljpccbjolgaaGreatDoor.zone dref
open bound hiding up
set_option linter.unusedVariables false
set_option linter.unusedSimpArgs false
set_option maxRecDepth 100000 in
set_option maxHeartbeats 4000000 in
theorem rmay_any (z0 z1 z2 z3 z4 z5:Int) (w:World) (hlo:Low [z0,z1,z2,z3,z4,z5]) (htop:Tops [z0,z1,z2,z3,z4,z5]):Calls Tryz.prog 103 #[.agg #[.int .i64 z0,.int .i64 z1,.int .i64 z2,.int .i64 z3,.int .i64 z4,.int .i64 z5]] w (Tell (MayZ [z0,z1,z2,z3,z4,z5]) w):=by
 have DB:=bound.up1 w (.cells #[.int .i64 z0,.int .i64 z1,.int .i64 z2,.int .i64 z3,.int .i64 z4,.int .i64 z5] 27)
 have D0:=lies.made w 27 #[.int .i64 z0,.int .i64 z1,.int .i64 z2,.int .i64 z3,.int .i64 z4,.int .i64 z5]
 have HL:=Lib.hid (full_low hlo)
 have HT:=Lib.hid (full_tops htop)
 clear hlo htop
 go_enter Tryz.func103,Tryz.ntmps103
 obtain ⟨⟨x0,x1,x2,x3,x4,x5⟩,⟨y0,y1,y2,y3,y4,y5⟩,xl⟩:=six_cells D0
 go_wp2_with fail
 clear x0 x1 x2 x3 x4 x5 y0 y1 y2 y3 y4 y5 xl D0
 generalize w.alloc (.cells #[.int .i64 z0,.int .i64 z1,.int .i64 z2,.int .i64 z3,.int .i64 z4,.int .i64 z5] 27)=w0 at DB ⊢
 refine (full_is z0 z1 z2 z3 z4 z5 w0).mono ?_
 rintro e w1 ⟨hB,g,hg,rfl,hG⟩
 replace DB:=later DB hB
 clear hB hg
 go_wp2_with fail
 have D1:=lies.made w1 81 #[.int .i64 3,.slice (some ⟨g,0,none⟩) 9 9]
 have G1:=lies.on_alloc hG (.cells #[.int .i64 3,.slice (some ⟨g,0,none⟩) 9 9] 81)
 have B1:=lies.frame_up DB (.cells #[.int .i64 3,.slice (some ⟨g,0,none⟩) 9 9] 81)
 clear hG DB
 generalize w1.heap.size=T at D1 ⊢
 generalize w1.alloc (.cells #[.int .i64 3,.slice (some ⟨g,0,none⟩) 9 9] 81)=w2 at D1 G1 B1 ⊢
 generalize hFZ:fullT [z0,z1,z2,z3,z4,z5]=fz at HL HT G1
 have hfl:fz.length=9:=by rw [←hFZ];rfl
 have HF:=Lib.hid hFZ
 have hIz:law.Ints w2.heap.size w2 (.slice (some ⟨g,0,none⟩) 9 9) fz:=by
  have:=dlaw.own_ints (cap:=9) G1
  rwa [hfl] at this
 clear hFZ
 have HML:=Lib.hid hfl
 obtain ⟨t0,t1,t2,t3,t4⟩:=lies.two D1
 by_cases h:MayD 3 fz
 ·have C1:=Lib.hid (tref.may_yes (n:=3) hIz (by omega) HL.out HT.out h)
  have H:=Lib.hid h
  clear hIz hfl h
  go_wp2_with fail
  refine C1.out.mono ?_
  rintro e w3 ⟨rfl,hB⟩
  replace D1:=lies.on_call D1 hB
  replace G1:=lies.on_call G1 hB
  replace B1:=later B1 hB
  clear C1 hB t0 t1 t2 t3 t4
  obtain ⟨t0,t1,t2,t3,t4⟩:=lies.two D1
  have hM2:MatI 3 g 0 fz w3:=⟨fun p hp=>by rw [Nat.zero_add];exact (lies.cell G1 p).trans (cells_at _ p hp),lies.lt G1⟩
  have C:=Lib.hid (tref.closed_g 3 g 9 fz w3 (by decide) (by decide) HML.out HT.out H.out hM2)
  clear hM2
  go_wp2_with fail
  refine C.out.mono ?_
  rintro e w4 ⟨hB,⟨hno,rfl⟩ | ⟨hok,a,l,c,rfl,hO⟩⟩
  ·replace B1:=later B1 hB
   have HN:=Lib.hid hno
   clear C hB t0 t1 t2 t3 t4 D1 G1 hno
   have B2:=lies.frame_up B1 (.cells #[.int .i64 0,.slice none 0 0] 81)
   go_wp2_with fail
   go_ret
   exact ⟨B2,false,rfl,⟨fun k=>by simp at k,fun k=>(HN.out (HF.out ▸ k.1)).elim⟩⟩
  ·replace D1:=lies.on_call D1 hB
   replace G1:=lies.on_call G1 hB
   replace B1:=later B1 hB
   clear C hB t0 t1 t2 t3 t4
   have hIc:law.Ints w4.heap.size w4 (.slice a l c) (clT 3 fz):=ints_row hO (by simp)
   generalize hcz:clT 3 fz=cz at hIc
   have HCZ:=Lib.hid hcz
   have HOK:=Lib.hid hok
   have hcl:cz.length=9:=by rw [←hcz];exact (clT_length hok).trans HML.out
   clear hO hcz hok
   obtain ⟨t0,t1,t2,t3,t4⟩:=lies.two D1
   have Bx:=bound.up1 w4 (.cells #[.int .i64 3,.slice a l c] 81)
   have hIz:law.Ints w4.heap.size w4 (.slice (some ⟨g,0,none⟩) 9 9) fz:=by
    have:=dlaw.own_ints (cap:=9) G1
    rwa [HML.out] at this
   have C2:=Lib.hid (same_any 3 3 (.slice a l c) (.slice (some ⟨g,0,none⟩) 9 9) cz fz _ ((hIc.below Bx).mono Bx.size) ((hIz.below Bx).mono Bx.size) (by omega))
   have B2:=lies.frame_up B1 (.cells #[.int .i64 3,.slice a l c] 81)
   have hTl:=lies.lt D1
   clear hIc hIz hcl Bx G1
   go_wp2_with fail
   refine C2.out.mono ?_
   rintro e w5 ⟨rfl,hB⟩
   replace B2:=later B2 hB
   clear C2 hB t0 t1 t2 t3 t4
   have HE:=Lib.hid (show (decide (cz=fz)=true↔MayZ [z0,z1,z2,z3,z4,z5]) from by
    rw [decide_eq_true_eq]
    unfold MayZ
    rw [HF.out,HCZ.out]
    exact ⟨fun k=>⟨HOK.out,k⟩,fun k=>k.2⟩)
   go_wp2_with fail
   go_ret
   exact ⟨B2,decide (cz=fz),rfl,HE.out⟩
 ·have C1:=Lib.hid (tref.may_no (n:=3) hIz (by omega) HL.out HT.out h)
  have H:=Lib.hid h
  clear hIz hfl h
  go_wp2_with fail
  refine C1.out.mono ?_
  rintro e w3 ⟨rfl,hB⟩
  replace B1:=later B1 hB
  clear C1 hB t0 t1 t2 t3 t4 D1 G1
  go_wp2_with fail
  go_ret
  exact ⟨B1,false,rfl,⟨fun k=>by simp at k,fun k=>(H.out (HF.out ▸ k.may)).elim⟩⟩
end Go.Proofs.YthmljpccbjolgaaGreatDoor.zref
namespace Go.Proofs.YthmljpccbjolgaaGreatDoor.zref
open Go.Joins Go.ChangeShapes Go.WideShapes Go.ChangeAt Go.RowKit num rat dbm Go.Proofs.YthmljpccbjolgaaGreatDoor.tight Go.Proofs.YthmljpccbjolgaaGreatDoor.incl Go.Proofs.YthmljpccbjolgaaGreatDoor.plaw Go.Proofs.YthmljpccbjolgaaGreatDoor.zopen Go.Proofs.YthmljpccbjolgaaGreatDoor.zone dref
open bound hiding up
set_option linter.unusedVariables false
set_option linter.unusedSimpArgs false
end Go.Proofs.YthmljpccbjolgaaGreatDoor.zref
namespace Go.Proofs.YthmljpccbjolgaaGreatDoor.zref
open Go.Joins Go.ChangeShapes Go.WideShapes Go.ChangeAt Go.RowKit num rat dbm Go.Proofs.YthmljpccbjolgaaGreatDoor.tight Go.Proofs.YthmljpccbjolgaaGreatDoor.incl Go.Proofs.YthmljpccbjolgaaGreatDoor.plaw Go.Proofs.YthmljpccbjolgaaGreatDoor.zopen Go.Proofs.YthmljpccbjolgaaGreatDoor.zone dref
open bound hiding up
set_option linter.unusedVariables false
set_option linter.unusedSimpArgs false
end Go.Proofs.YthmljpccbjolgaaGreatDoor.zref
namespace Go.Proofs.YthmljpccbjolgaaGreatDoor.zref
open Go.Joins Go.ChangeShapes Go.WideShapes Go.ChangeAt Go.RowKit num rat dbm Go.Proofs.YthmljpccbjolgaaGreatDoor.tight Go.Proofs.YthmljpccbjolgaaGreatDoor.incl Go.Proofs.YthmljpccbjolgaaGreatDoor.plaw Go.Proofs.YthmljpccbjolgaaGreatDoor.zopen Go.Proofs.YthmljpccbjolgaaGreatDoor.zone dref
open bound hiding up
set_option linter.unusedVariables false
set_option linter.unusedSimpArgs false
end Go.Proofs.YthmljpccbjolgaaGreatDoor.zref
namespace Go.Proofs.YthmljpccbjolgaaGreatDoor.zref
open Go.Joins Go.ChangeShapes Go.WideShapes Go.ChangeAt Go.RowKit num rat dbm Go.Proofs.YthmljpccbjolgaaGreatDoor.tight Go.Proofs.YthmljpccbjolgaaGreatDoor.incl Go.Proofs.YthmljpccbjolgaaGreatDoor.plaw Go.Proofs.YthmljpccbjolgaaGreatDoor.zopen Go.Proofs.YthmljpccbjolgaaGreatDoor.zone dref
open bound hiding up
set_option linter.unusedVariables false
set_option linter.unusedSimpArgs false
theorem put_fourL {W:World} {g:Nat} {t:TypeId} {z0 z1 z2 z3:Value} (h:lies.Lies W g t #[z0,z1,z2,z3]) (a b c d:Value):lies.Lies ((((W.setCell ⟨g,0,none⟩ a).setCell ⟨g,1,none⟩ b).setCell ⟨g,2,none⟩ c).setCell ⟨g,3,none⟩ d) g t #[a,b,c,d]:=by
 have h0:lies.Lies (W.setCell ⟨g,0,none⟩ a) g t #[a,z1,z2,z3]:=by simpa using lies.on_put h 0 a
 have h1:lies.Lies ((W.setCell ⟨g,0,none⟩ a).setCell ⟨g,1,none⟩ b) g t #[a,b,z2,z3]:=by simpa using lies.on_put h0 1 b
 have h2:lies.Lies (((W.setCell ⟨g,0,none⟩ a).setCell ⟨g,1,none⟩ b).setCell ⟨g,2,none⟩ c) g t #[a,b,c,z3]:=by simpa using lies.on_put h1 2 c
 simpa using lies.on_put h2 3 d
set_option maxRecDepth 100000 in
set_option maxHeartbeats 4000000 in
theorem rpicked_any (z0 z1 z2 z3 z4 z5:Int) (w:World) (hz:MayZ [z0,z1,z2,z3,z4,z5]) (htop:Tops [z0,z1,z2,z3,z4,z5]):Calls Tryz.prog 87 #[.agg #[.int .i64 z0,.int .i64 z1,.int .i64 z2,.int .i64 z3,.int .i64 z4,.int .i64 z5]] w fun e w'=>Below w.heap.size w w'∧∃ a b c d:Int,e=.returned (.agg #[.int .i64 a,.int .i64 b,.int .i64 c,.int .i64 d])∧pks 3 (fullT [z0,z1,z2,z3,z4,z5])=[(a,b),(c,d)]:=by
 have DB:=bound.up2 w (.cells #[.int .i64 z0,.int .i64 z1,.int .i64 z2,.int .i64 z3,.int .i64 z4,.int .i64 z5] 27) (.cells #[.int .i64 0,.int .i64 0,.int .i64 0,.int .i64 0] 47)
 have D0:=lies.on_alloc (lies.made w 27 #[.int .i64 z0,.int .i64 z1,.int .i64 z2,.int .i64 z3,.int .i64 z4,.int .i64 z5]) (.cells #[.int .i64 0,.int .i64 0,.int .i64 0,.int .i64 0] 47)
 have D1:=lies.made_at (w.alloc (.cells #[.int .i64 z0,.int .i64 z1,.int .i64 z2,.int .i64 z3,.int .i64 z4,.int .i64 z5] 27)) 47 #[.int .i64 0,.int .i64 0,.int .i64 0,.int .i64 0] (w.heap.size+1) (by simp)
 have HT:=Lib.hid htop
 have HM:=Lib.hid hz
 clear htop hz
 go_enter Tryz.func87,Tryz.ntmps87
 obtain ⟨⟨c0,c1,c2,c3,c4,c5⟩,_⟩:=six_cells D0
 have cl:=lies.lt D0
 go_wp2_with fail
 clear c0 c1 c2 c3 c4 c5 cl D0
 generalize (w.alloc (.cells #[.int .i64 z0,.int .i64 z1,.int .i64 z2,.int .i64 z3,.int .i64 z4,.int .i64 z5] 27)).alloc (.cells #[.int .i64 0,.int .i64 0,.int .i64 0,.int .i64 0] 47)=w0 at DB D1 ⊢
 refine (full_is z0 z1 z2 z3 z4 z5 w0).mono ?_
 rintro e w1 ⟨hB,g,hg,rfl,hG⟩
 replace D1:=lies.on_call D1 hB
 replace DB:=later DB hB
 clear hB hg
 have hr:Row w1 g 0 (clT ((3:Nat):Int) (fullT [z0,z1,z2,z3,z4,z5])):=by
  have e:clT ((3:Nat):Int) (fullT [z0,z1,z2,z3,z4,z5])=fullT [z0,z1,z2,z3,z4,z5]:=HM.out.2
  rw [e]
  exact row_of hG
 have C:=Lib.hid (iref.picked_is 3 g 9 (fullT [z0,z1,z2,z3,z4,z5]) w1 (by decide) (by decide) rfl (full_tops HT.out) HM.out.1 hr (lies.lt hG))
 clear hr hG
 go_wp2_with fail
 refine C.out.mono ?_
 rintro e w2 ⟨hB,v,rfl,hR⟩
 replace D1:=lies.on_call D1 hB
 replace DB:=later DB hB
 clear hB C
 have hln:=pks_length 3 (fullT [z0,z1,z2,z3,z4,z5])
 have hmay:=(pks_may (n:=3) (by decide) (by decide) rfl (full_tops HT.out) HM.out.1).1
 have hR:Rats w2.heap.size w2 v (pks 3 (fullT [z0,z1,z2,z3,z4,z5])):=hR
 generalize hps:pks 3 (fullT [z0,z1,z2,z3,z4,z5])=ps at hR hln hmay
 obtain ⟨a,b,c,d,rfl⟩:=two_times hln
 have hb1:1≤b:=(hmay 1 (show 1<3 by decide)).1
 clear hmay
 have HPS:=Lib.hid hps
 clear hps
 rcases hR with ⟨_,k⟩ | ⟨tb,toff,tcap,hv,htb,hc⟩
 ·cases k
 ·have hv:v=.slice (some ⟨tb,toff,none⟩) 2 tcap:=hv
  subst hv
  obtain ⟨r0,r1⟩:=hc 0 (show 0<2 by decide)
  obtain ⟨r2,r3⟩:=hc 1 (show 1<2 by decide)
  have hne:tb≠w.heap.size+1:=by
   rintro rfl
   have:=(lies.cell D1 (toff+0*2+1)).symm.trans r1
   rcases (by omega:toff+0*2+1=1∨toff+0*2+1=2∨toff+0*2+1=3∨4≤toff+0*2+1) with k | k | k | k
   ·rw [k] at this;simp at this;have this:(0:Int)=b:=this;omega
   ·rw [k] at this;simp at this;have this:(0:Int)=b:=this;omega
   ·rw [k] at this;simp at this;have this:(0:Int)=b:=this;omega
   ·rw [Array.getElem?_eq_none (by simpa using k)] at this;cases this
  rw [Nat.zero_mul,Nat.add_zero] at r0 r1
  rw [Nat.one_mul] at r2 r3
  have r0:w2.cell? ⟨tb,toff,none⟩=some (.int .i64 a):=r0
  have r1:w2.cell? ⟨tb,toff+1,none⟩=some (.int .i64 b):=r1
  have r2:w2.cell? ⟨tb,toff+2,none⟩=some (.int .i64 c):=r2
  have r3:w2.cell? ⟨tb,toff+2+1,none⟩=some (.int .i64 d):=r3
  have hb1':=Lib.hid hb1
  clear hc hln htb hb1
  go_wp2_with fail
  have DP:=D1
  obtain ⟨⟨x0,x1,x2,x3⟩,⟨y0,y1,y2,y3⟩,xl⟩:=four_cells D1
  clear D1
  generalize hRX:w.heap.size+1=RX at x0 x1 x2 x3 y0 y1 y2 y3 xl hne DP ⊢
  have hRw:w.heap.size≤RX:=by omega
  refine wp_region_held_drew (S:=fun W=>W.cell? ⟨tb,toff,none⟩=some (.int .i64 a)∧W.cell? ⟨tb,toff+1,none⟩=some (.int .i64 b)∧W.cell? ⟨tb,toff+2,none⟩=some (.int .i64 c)∧W.cell? ⟨tb,toff+2+1,none⟩=some (.int .i64 d)) (by kernel_rfl) ⟨r0,r1,r2,r3⟩ (fun hHeld=>?_)
  refine tk 0 (v:=?_) rfl hHeld ?_ ?_
  rotate_left
  ·intro w hSw;obtain ⟨s0,s1,s2,s3⟩:=hSw;go_simp;try with_reducible rfl
  try simp only [Act.put,sA,sB,sC,sD,sE,sF]
  refine tk 1 (v:=?_) rfl hHeld ?_ ?_
  rotate_left
  ·intro w hSw;obtain ⟨s0,s1,s2,s3⟩:=hSw;go_simp;try with_reducible rfl
  try simp only [Act.put,sA,sB,sC,sD,sE,sF]
  refine tk 2 (v:=?_) rfl hHeld ?_ ?_
  rotate_left
  ·intro w hSw;obtain ⟨s0,s1,s2,s3⟩:=hSw;go_simp;try with_reducible rfl
  try simp only [Act.put,sA,sB,sC,sD,sE,sF]
  refine tk 3 (v:=?_) rfl hHeld ?_ ?_
  rotate_left
  ·intro w hSw;obtain ⟨s0,s1,s2,s3⟩:=hSw;go_simp;try with_reducible rfl
  try simp only [Act.put,sA,sB,sC,sD,sE,sF]
  refine tk 4 (v:=?_) rfl hHeld ?_ ?_
  rotate_left
  ·intro w hSw;obtain ⟨s0,s1,s2,s3⟩:=hSw;go_simp;try with_reducible rfl
  try simp only [Act.put,sA,sB,sC,sD,sE,sF]
  refine tk 5 (v:=?_) rfl hHeld ?_ ?_
  rotate_left
  ·intro w hSw;obtain ⟨s0,s1,s2,s3⟩:=hSw;go_simp;try with_reducible rfl
  try simp only [Act.put,sA,sB,sC,sD,sE,sF]
  refine tk 6 (v:=?_) rfl hHeld ?_ ?_
  rotate_left
  ·intro w hSw;obtain ⟨s0,s1,s2,s3⟩:=hSw;go_simp;try with_reducible rfl
  try simp only [Act.put,sA,sB,sC,sD,sE,sF]
  refine wpAnyH_ready (rs:=[7]) (by kernel_rfl) (by simp) (AllReadyH.cons rfl (fun K hK=>?_) AllReadyH.nil)
  go_simp
  refine hK.out _ _ ⟨(cell_far hne _ _ _).trans ((cell_far hne _ _ _).trans ((cell_far hne _ _ _).trans ((cell_far hne _ _ _).trans r0))),(cell_far hne _ _ _).trans ((cell_far hne _ _ _).trans ((cell_far hne _ _ _).trans ((cell_far hne _ _ _).trans r1))),(cell_far hne _ _ _).trans ((cell_far hne _ _ _).trans ((cell_far hne _ _ _).trans ((cell_far hne _ _ _).trans r2))),(cell_far hne _ _ _).trans ((cell_far hne _ _ _).trans ((cell_far hne _ _ _).trans ((cell_far hne _ _ _).trans r3)))⟩ (fun hNew=>?_)
  clear hHeld hK K hNew r0 r1 r2 r3 x0 x1 x2 x3 y0 y1 y2 y3
  refine wpAnyH_done (by kernel_rfl) ?_ _
  have KZ:=dbm.drawn1 (put_four DB hRw (.int .i64 a) (.int .i64 b) (.int .i64 c) (.int .i64 d))
  have KP:=six_drew (put_fourL DP (.int .i64 a) (.int .i64 b) (.int .i64 c) (.int .i64 d))
  obtain ⟨⟨x0,x1,x2,x3⟩,_,xl⟩:=four_cells KP
  clear KP DP
  go_wp2_with fail
  exact bodyPost_ret (v:=.agg #[.int .i64 a,.int .i64 b,.int .i64 c,.int .i64 d]) (by simp [results,Tryz.results87,go_sem,x0,x1,x2,x3,xl]) rfl ⟨KZ,a,b,c,d,rfl,HPS.out⟩
end Go.Proofs.YthmljpccbjolgaaGreatDoor.zref
namespace Go.Proofs.YthmljpccbjolgaaGreatDoor.zref
open Go.Joins Go.ChangeShapes Go.WideShapes Go.ChangeAt Go.RowKit num rat dbm Go.Proofs.YthmljpccbjolgaaGreatDoor.tight Go.Proofs.YthmljpccbjolgaaGreatDoor.incl Go.Proofs.YthmljpccbjolgaaGreatDoor.plaw Go.Proofs.YthmljpccbjolgaaGreatDoor.zopen Go.Proofs.YthmljpccbjolgaaGreatDoor.zone dref
open bound hiding up
set_option linter.unusedVariables false
set_option linter.unusedSimpArgs false
theorem cmpL_lt {ts us:List Int} {k:Nat} (h:k<ts.length) (h':k<us.length) (hl:ts[k]?.getD 0<us[k]?.getD 0):cmpL (ts.drop k) (us.drop k)=-1:=by
 rw [cmpL_up ts us k h h']
 have e:cmp1 (ts[k]?.getD 0) (us[k]?.getD 0)=-1:=by unfold cmp1;rw [if_pos hl]
 rw [e]
 rfl
theorem cmpL_gt {ts us:List Int} {k:Nat} (h:k<ts.length) (h':k<us.length) (hl:us[k]?.getD 0<ts[k]?.getD 0):cmpL (ts.drop k) (us.drop k)=1:=by
 rw [cmpL_up ts us k h h']
 have e:cmp1 (ts[k]?.getD 0) (us[k]?.getD 0)=1:=by unfold cmp1;rw [if_neg (by omega),if_pos hl]
 rw [e]
 rfl
theorem cmpL_eq {ts us:List Int} {k:Nat} (h:k<ts.length) (h':k<us.length) (h1:¬ ts[k]?.getD 0<us[k]?.getD 0) (h2:¬ us[k]?.getD 0<ts[k]?.getD 0):cmpL (ts.drop k) (us.drop k)=cmpL (ts.drop (k+1)) (us.drop (k+1)):=by
 rw [cmpL_up ts us k h h']
 have e:cmp1 (ts[k]?.getD 0) (us[k]?.getD 0)=0:=by unfold cmp1;rw [if_neg h1,if_neg h2]
 rw [e]
 rfl
def Cx (A B:Nat) (ts us:List Int) (w W:World):Prop:=Row W A 0 ts∧Row W B 0 us∧A<W.heap.size∧B<W.heap.size∧Below w.heap.size w W
theorem Cx.below {A B:Nat} {ts us:List Int} {w W X:World} (h:Cx A B ts us w W) (k:Below W.heap.size W X):Cx A B ts us w X:=
 ⟨h.1.below k h.2.2.1,h.2.1.below k h.2.2.2.1,Nat.lt_of_lt_of_le h.2.2.1 k.size,Nat.lt_of_lt_of_le h.2.2.2.1 k.size,h.2.2.2.2.trans (k.mono h.2.2.2.2.size)⟩
set_option maxRecDepth 100000 in
set_option maxHeartbeats 4000000 in
theorem rcmp_any (a0 a1 a2 a3 a4 a5 b0 b1 b2 b3 b4 b5:Int) (w:World):Calls Tryz.prog 174 #[.agg #[.int .i64 a0,.int .i64 a1,.int .i64 a2,.int .i64 a3,.int .i64 a4,.int .i64 a5],.agg #[.int .i64 b0,.int .i64 b1,.int .i64 b2,.int .i64 b3,.int .i64 b4,.int .i64 b5]] w fun e w'=>e=.returned (.int .i64 (cmpL [a0,a1,a2,a3,a4,a5] [b0,b1,b2,b3,b4,b5]))∧Below w.heap.size w w':=by
 have DB:=bound.up2 w (.cells #[.int .i64 a0,.int .i64 a1,.int .i64 a2,.int .i64 a3,.int .i64 a4,.int .i64 a5] 27) (.cells #[.int .i64 b0,.int .i64 b1,.int .i64 b2,.int .i64 b3,.int .i64 b4,.int .i64 b5] 27)
 have D0:=lies.on_alloc (lies.made w 27 #[.int .i64 a0,.int .i64 a1,.int .i64 a2,.int .i64 a3,.int .i64 a4,.int .i64 a5]) (.cells #[.int .i64 b0,.int .i64 b1,.int .i64 b2,.int .i64 b3,.int .i64 b4,.int .i64 b5] 27)
 have D1:=lies.made_at (w.alloc (.cells #[.int .i64 a0,.int .i64 a1,.int .i64 a2,.int .i64 a3,.int .i64 a4,.int .i64 a5] 27)) 27 #[.int .i64 b0,.int .i64 b1,.int .i64 b2,.int .i64 b3,.int .i64 b4,.int .i64 b5] (w.heap.size+1) (by simp)
 obtain ⟨ts,hts⟩:∃ ts,ts=[a0,a1,a2,a3,a4,a5]:=⟨_,rfl⟩
 obtain ⟨us,hus⟩:∃ us,us=[b0,b1,b2,b3,b4,b5]:=⟨_,rfl⟩
 have W0:Cx w.heap.size (w.heap.size+1) ts us w ((w.alloc (.cells #[.int .i64 a0,.int .i64 a1,.int .i64 a2,.int .i64 a3,.int .i64 a4,.int .i64 a5] 27)).alloc (.cells #[.int .i64 b0,.int .i64 b1,.int .i64 b2,.int .i64 b3,.int .i64 b4,.int .i64 b5] 27)):=⟨hts ▸ row_six D0,hus ▸ row_six D1,lies.lt D0,lies.lt D1,DB⟩
 have HL:=Lib.hid (show ts.length=6 by rw [hts];rfl)
 have HU:=Lib.hid (show us.length=6 by rw [hus];rfl)
 have HTS:=Lib.hid hts
 have HUS:=Lib.hid hus
 clear DB D0 D1 hts hus
 go_enter Tryz.func174,Tryz.ntmps174
 go_wp2_with fail
 generalize (w.alloc (.cells #[.int .i64 a0,.int .i64 a1,.int .i64 a2,.int .i64 a3,.int .i64 a4,.int .i64 a5] 27)).alloc (.cells #[.int .i64 b0,.int .i64 b1,.int .i64 b2,.int .i64 b3,.int .i64 b4,.int .i64 b5] 27)=w0 at W0 ⊢
 generalize w.heap.size+1=B at W0 ⊢
 generalize w.heap.size=A at W0 ⊢
 go_loopw [5] (fun i wr=>∃ k:Nat,k≤6∧i=.int .i64 k∧Cx A B ts us w wr∧RowKit.Hid (cmpL ts us=cmpL (ts.drop k) (us.drop k))) (fun i _=>6 - (intOf i).toNat)
 case atStart=>exact ⟨0,by decide,rfl,W0,Lib.hid rfl⟩
 case round=>
  clear W0
  obtain ⟨k,hk,rfl,hC,hA⟩:=hrel
  by_cases hk6:k<6
  ·have hpi:(k:Int)<6:=by omega
   have h1:k<ts.length:=by rw [HL.out];exact hk6
   have h2:k<us.length:=by rw [HU.out];exact hk6
   have M1:=Lib.hid (fun (W:World) (h:Cx A B ts us w W)=>h.1 k h1)
   have M2:=Lib.hid (fun (W:World) (h:Cx A B ts us w W)=>h.2.1 k h2)
   have LT:=Lib.hid (cmpL_lt h1 h2)
   have GT:=Lib.hid (cmpL_gt h1 h2)
   have EQ:=Lib.hid (cmpL_eq h1 h2)
   simp only [Nat.zero_add] at M1 M2
   generalize ts[k]?.getD 0=x at M1 LT GT EQ
   generalize us[k]?.getD 0=y at M2 LT GT EQ
   have ha:=hC.2.2.1
   have hb:=hC.2.2.2.1
   have m1:=M1.out wr hC
   have m2:=M2.out wr hC
   clear h1 h2
   go_wp2_with fail
   refine wp_region_held_drew (S:=Below wr.heap.size wr) (by kernel_rfl) (dbm.drawn1 (Below.refl _ _)) (fun hHeld=>?_)
   generalize wr.drew=w1 at hHeld ⊢
   refine tk 0 (v:=?_) rfl hHeld ?_ ?_
   rotate_left
   ·intro w hSw;have s0:=(hSw.cell (p:=⟨A,k,none⟩) ha).trans m1;have s1:=(hSw.cell (p:=⟨B,k,none⟩) hb).trans m2;go_simp;try with_reducible rfl
   try simp only [Act.put,sA,sB,sC,sD,sE,sF]
   refine tk 1 (v:=?_) rfl hHeld ?_ ?_
   rotate_left
   ·intro w hSw;have s0:=(hSw.cell (p:=⟨A,k,none⟩) ha).trans m1;have s1:=(hSw.cell (p:=⟨B,k,none⟩) hb).trans m2;go_simp;try with_reducible rfl
   try simp only [Act.put,sA,sB,sC,sD,sE,sF]
   refine tk 2 (v:=?_) rfl hHeld ?_ ?_
   rotate_left
   ·intro w hSw;have s0:=(hSw.cell (p:=⟨A,k,none⟩) ha).trans m1;have s1:=(hSw.cell (p:=⟨B,k,none⟩) hb).trans m2;go_simp;try with_reducible rfl
   try simp only [Act.put,sA,sB,sC,sD,sE,sF]
   refine tk 3 (v:=?_) rfl hHeld ?_ ?_
   rotate_left
   ·intro w hSw;have s0:=(hSw.cell (p:=⟨A,k,none⟩) ha).trans m1;have s1:=(hSw.cell (p:=⟨B,k,none⟩) hb).trans m2;go_simp;try with_reducible rfl
   try simp only [Act.put,sA,sB,sC,sD,sE,sF]
   refine tk 4 (v:=?_) rfl hHeld ?_ ?_
   rotate_left
   ·intro w hSw;have s0:=(hSw.cell (p:=⟨A,k,none⟩) ha).trans m1;have s1:=(hSw.cell (p:=⟨B,k,none⟩) hb).trans m2;go_simp;try with_reducible rfl
   try simp only [Act.put,sA,sB,sC,sD,sE,sF]
   refine tk 5 (v:=?_) rfl hHeld ?_ ?_
   rotate_left
   ·intro w hSw;have s0:=(hSw.cell (p:=⟨A,k,none⟩) ha).trans m1;have s1:=(hSw.cell (p:=⟨B,k,none⟩) hb).trans m2;go_simp;try with_reducible rfl
   try simp only [Act.put,sA,sB,sC,sD,sE,sF]
   refine tk 6 (v:=?_) rfl hHeld ?_ ?_
   rotate_left
   ·intro w hSw;have s0:=(hSw.cell (p:=⟨A,k,none⟩) ha).trans m1;have s1:=(hSw.cell (p:=⟨B,k,none⟩) hb).trans m2;go_simp;try with_reducible rfl
   try simp only [Act.put,sA,sB,sC,sD,sE,sF]
   refine wpAnyH_done (by kernel_rfl) ?_ _
   replace hC:=hC.below hHeld
   clear hHeld ha hb m1 m2
   by_cases hxy:x<y
   ·go_wp2_with fail
    go_ret
    exact ⟨by rw [←HTS.out,←HUS.out,hA.out,LT.out hxy];rfl,hC.2.2.2.2⟩
   ·have ha:=hC.2.2.1
    have hb:=hC.2.2.2.1
    have m1:=M1.out w1 hC
    have m2:=M2.out w1 hC
    go_wp2_with fail
    refine wp_region_held_drew (S:=Below w1.heap.size w1) (by kernel_rfl) (dbm.drawn1 (Below.refl _ _)) (fun hHeld=>?_)
    generalize w1.drew=w2 at hHeld ⊢
    refine tk 0 (v:=?_) rfl hHeld ?_ ?_
    rotate_left
    ·intro w hSw;have s0:=(hSw.cell (p:=⟨A,k,none⟩) ha).trans m1;have s1:=(hSw.cell (p:=⟨B,k,none⟩) hb).trans m2;go_simp;try with_reducible rfl
    try simp only [Act.put,sA,sB,sC,sD,sE,sF]
    refine tk 1 (v:=?_) rfl hHeld ?_ ?_
    rotate_left
    ·intro w hSw;have s0:=(hSw.cell (p:=⟨A,k,none⟩) ha).trans m1;have s1:=(hSw.cell (p:=⟨B,k,none⟩) hb).trans m2;go_simp;try with_reducible rfl
    try simp only [Act.put,sA,sB,sC,sD,sE,sF]
    refine tk 2 (v:=?_) rfl hHeld ?_ ?_
    rotate_left
    ·intro w hSw;have s0:=(hSw.cell (p:=⟨A,k,none⟩) ha).trans m1;have s1:=(hSw.cell (p:=⟨B,k,none⟩) hb).trans m2;go_simp;try with_reducible rfl
    try simp only [Act.put,sA,sB,sC,sD,sE,sF]
    refine tk 3 (v:=?_) rfl hHeld ?_ ?_
    rotate_left
    ·intro w hSw;have s0:=(hSw.cell (p:=⟨A,k,none⟩) ha).trans m1;have s1:=(hSw.cell (p:=⟨B,k,none⟩) hb).trans m2;go_simp;try with_reducible rfl
    try simp only [Act.put,sA,sB,sC,sD,sE,sF]
    refine tk 4 (v:=?_) rfl hHeld ?_ ?_
    rotate_left
    ·intro w hSw;have s0:=(hSw.cell (p:=⟨A,k,none⟩) ha).trans m1;have s1:=(hSw.cell (p:=⟨B,k,none⟩) hb).trans m2;go_simp;try with_reducible rfl
    try simp only [Act.put,sA,sB,sC,sD,sE,sF]
    refine tk 5 (v:=?_) rfl hHeld ?_ ?_
    rotate_left
    ·intro w hSw;have s0:=(hSw.cell (p:=⟨A,k,none⟩) ha).trans m1;have s1:=(hSw.cell (p:=⟨B,k,none⟩) hb).trans m2;go_simp;try with_reducible rfl
    try simp only [Act.put,sA,sB,sC,sD,sE,sF]
    refine tk 6 (v:=?_) rfl hHeld ?_ ?_
    rotate_left
    ·intro w hSw;have s0:=(hSw.cell (p:=⟨A,k,none⟩) ha).trans m1;have s1:=(hSw.cell (p:=⟨B,k,none⟩) hb).trans m2;go_simp;try with_reducible rfl
    try simp only [Act.put,sA,sB,sC,sD,sE,sF]
    refine wpAnyH_done (by kernel_rfl) ?_ _
    replace hC:=hC.below hHeld
    clear hHeld ha hb m1 m2
    by_cases hyx:y<x
    ·go_wp2_with fail
     go_ret
     exact ⟨by rw [←HTS.out,←HUS.out,hA.out,GT.out hyx];rfl,hC.2.2.2.2⟩
    ·have HN:=Lib.hid (hA.out.trans (EQ.out (by omega) (by omega)))
     go_wp2_with fail
     clear hxy hyx
     go_roundw
     case rel=>exact ⟨k+1,by omega,by go_num,hC,HN⟩
     case measure=>simp [intOf];omega
  ·obtain rfl:k=6:=by omega
   go_wp2_with fail
   go_ret
   refine ⟨?_,hC.2.2.2.2⟩
   rw [←HTS.out,←HUS.out,hA.out,List.drop_eq_nil_of_le (by rw [HL.out];exact Nat.le_refl _),List.drop_eq_nil_of_le (by rw [HU.out];exact Nat.le_refl _)]
   rfl
end Go.Proofs.YthmljpccbjolgaaGreatDoor.zref
