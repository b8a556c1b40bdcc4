
/-
  The document's own calls of zones, but Made and Make; each theorem names its conditions.
-/
import Derived.Test.YthmljpccbjolgaaGreatDoorZoneR
import Derived.Test.YthmljpccbjolgaaGreatDoorInclD
import Derived.Test.YthmljpccbjolgaaGreatDoorDbmE
import Derived.Test.YthmljpccbjolgaaGreatDoorZoneA
namespace Go.Proofs.YthmljpccbjolgaaGreatDoor.zref
open Go.Joins Go.ChangeShapes Go.WideShapes Go.ChangeAt Go.RowKit num rat dbm Go.Proofs.YthmljpccbjolgaaGreatDoor.tight Go.Proofs.YthmljpccbjolgaaGreatDoor.incl Go.Proofs.YthmljpccbjolgaaGreatDoor.plaw Go.Proofs.YthmljpccbjolgaaGreatDoor.zopen Go.Proofs.YthmljpccbjolgaaGreatDoor.zone dref
open bound hiding up
set_option linter.unusedVariables false
set_option linter.unusedSimpArgs false
set_option maxRecDepth 100000 in
set_option maxHeartbeats 4000000 in
theorem rmay_any (z0 z1 z2 z3 z4 z5:Int) (w:World) (hlo:Low [z0,z1,z2,z3,z4,z5]) (htop:Tops [z0,z1,z2,z3,z4,z5]):Calls Tryz.prog 103 #[.agg #[.int .i64 z0,.int .i64 z1,.int .i64 z2,.int .i64 z3,.int .i64 z4,.int .i64 z5]] w (Tell (MayZ [z0,z1,z2,z3,z4,z5]) w):=by
 have DB:=bound.up1 w (.cells #[.int .i64 z0,.int .i64 z1,.int .i64 z2,.int .i64 z3,.int .i64 z4,.int .i64 z5] 27)
 have D0:=lies.made w 27 #[.int .i64 z0,.int .i64 z1,.int .i64 z2,.int .i64 z3,.int .i64 z4,.int .i64 z5]
 have HL:=Lib.hid (full_low hlo)
 have HT:=Lib.hid (full_tops htop)
 clear hlo htop
 go_enter Tryz.func103,Tryz.ntmps103
 obtain ⟨⟨x0,x1,x2,x3,x4,x5⟩,⟨y0,y1,y2,y3,y4,y5⟩,xl⟩:=six_cells D0
 go_wp2_with fail
 clear x0 x1 x2 x3 x4 x5 y0 y1 y2 y3 y4 y5 xl D0
 generalize w.alloc (.cells #[.int .i64 z0,.int .i64 z1,.int .i64 z2,.int .i64 z3,.int .i64 z4,.int .i64 z5] 27)=w0 at DB ⊢
 refine (full_is z0 z1 z2 z3 z4 z5 w0).mono ?_
 rintro e w1 ⟨hB,g,hg,rfl,hG⟩
 replace DB:=later DB hB
 clear hB hg
 go_wp2_with fail
 have D1:=lies.made w1 81 #[.int .i64 3,.slice (some ⟨g,0,none⟩) 9 9]
 have G1:=lies.on_alloc hG (.cells #[.int .i64 3,.slice (some ⟨g,0,none⟩) 9 9] 81)
 have B1:=lies.frame_up DB (.cells #[.int .i64 3,.slice (some ⟨g,0,none⟩) 9 9] 81)
 clear hG DB
 generalize w1.heap.size=T at D1 ⊢
 generalize w1.alloc (.cells #[.int .i64 3,.slice (some ⟨g,0,none⟩) 9 9] 81)=w2 at D1 G1 B1 ⊢
 generalize hFZ:fullT [z0,z1,z2,z3,z4,z5]=fz at HL HT G1
 have hfl:fz.length=9:=by rw [←hFZ];rfl
 have HF:=Lib.hid hFZ
 have hIz:law.Ints w2.heap.size w2 (.slice (some ⟨g,0,none⟩) 9 9) fz:=by
  have:=dlaw.own_ints (cap:=9) G1
  rwa [hfl] at this
 clear hFZ
 have HML:=Lib.hid hfl
 obtain ⟨t0,t1,t2,t3,t4⟩:=lies.two D1
 by_cases h:MayD 3 fz
 ·have C1:=Lib.hid (tref.may_yes (n:=3) hIz (by omega) HL.out HT.out h)
  have H:=Lib.hid h
  clear hIz hfl h
  go_wp2_with fail
  refine C1.out.mono ?_
  rintro e w3 ⟨rfl,hB⟩
  replace D1:=lies.on_call D1 hB
  replace G1:=lies.on_call G1 hB
  replace B1:=later B1 hB
  clear C1 hB t0 t1 t2 t3 t4
  obtain ⟨t0,t1,t2,t3,t4⟩:=lies.two D1
  have hM2:MatI 3 g 0 fz w3:=⟨fun p hp=>by rw [Nat.zero_add];exact (lies.cell G1 p).trans (cells_at _ p hp),lies.lt G1⟩
  have C:=Lib.hid (tref.closed_g 3 g 9 fz w3 (by decide) (by decide) HML.out HT.out H.out hM2)
  clear hM2
  go_wp2_with fail
  refine C.out.mono ?_
  rintro e w4 ⟨hB,⟨hno,rfl⟩ | ⟨hok,a,l,c,rfl,hO⟩⟩
  ·replace B1:=later B1 hB
   have HN:=Lib.hid hno
   clear C hB t0 t1 t2 t3 t4 D1 G1 hno
   have B2:=lies.frame_up B1 (.cells #[.int .i64 0,.slice none 0 0] 81)
   go_wp2_with fail
   go_ret
   exact ⟨B2,false,rfl,⟨fun k=>by simp at k,fun k=>(HN.out (HF.out ▸ k.1)).elim⟩⟩
  ·replace D1:=lies.on_call D1 hB
   replace G1:=lies.on_call G1 hB
   replace B1:=later B1 hB
   clear C hB t0 t1 t2 t3 t4
   have hIc:law.Ints w4.heap.size w4 (.slice a l c) (clT 3 fz):=ints_row hO (by simp)
   generalize hcz:clT 3 fz=cz at hIc
   have HCZ:=Lib.hid hcz
   have HOK:=Lib.hid hok
   have hcl:cz.length=9:=by rw [←hcz];exact (clT_length hok).trans HML.out
   clear hO hcz hok
   obtain ⟨t0,t1,t2,t3,t4⟩:=lies.two D1
   have Bx:=bound.up1 w4 (.cells #[.int .i64 3,.slice a l c] 81)
   have hIz:law.Ints w4.heap.size w4 (.slice (some ⟨g,0,none⟩) 9 9) fz:=by
    have:=dlaw.own_ints (cap:=9) G1
    rwa [HML.out] at this
   have C2:=Lib.hid (same_any 3 3 (.slice a l c) (.slice (some ⟨g,0,none⟩) 9 9) cz fz _ ((hIc.below Bx).mono Bx.size) ((hIz.below Bx).mono Bx.size) (by omega))
   have B2:=lies.frame_up B1 (.cells #[.int .i64 3,.slice a l c] 81)
   have hTl:=lies.lt D1
   clear hIc hIz hcl Bx G1
   go_wp2_with fail
   refine C2.out.mono ?_
   rintro e w5 ⟨rfl,hB⟩
   replace B2:=later B2 hB
   clear C2 hB t0 t1 t2 t3 t4
   have HE:=Lib.hid (show (decide (cz=fz)=true↔MayZ [z0,z1,z2,z3,z4,z5]) from by
    rw [decide_eq_true_eq]
    unfold MayZ
    rw [HF.out,HCZ.out]
    exact ⟨fun k=>⟨HOK.out,k⟩,fun k=>k.2⟩)
   go_wp2_with fail
   go_ret
   exact ⟨B2,decide (cz=fz),rfl,HE.out⟩
 ·have C1:=Lib.hid (tref.may_no (n:=3) hIz (by omega) HL.out HT.out h)
  have H:=Lib.hid h
  clear hIz hfl h
  go_wp2_with fail
  refine C1.out.mono ?_
  rintro e w3 ⟨rfl,hB⟩
  replace B1:=later B1 hB
  clear C1 hB t0 t1 t2 t3 t4 D1 G1
  go_wp2_with fail
  go_ret
  exact ⟨B1,false,rfl,⟨fun k=>by simp at k,fun k=>(H.out (HF.out ▸ k.may)).elim⟩⟩
end Go.Proofs.YthmljpccbjolgaaGreatDoor.zref
namespace Go.Proofs.YthmljpccbjolgaaGreatDoor.zref
open Go.Joins Go.ChangeShapes Go.WideShapes Go.ChangeAt Go.RowKit num rat dbm Go.Proofs.YthmljpccbjolgaaGreatDoor.tight Go.Proofs.YthmljpccbjolgaaGreatDoor.incl Go.Proofs.YthmljpccbjolgaaGreatDoor.plaw Go.Proofs.YthmljpccbjolgaaGreatDoor.zopen Go.Proofs.YthmljpccbjolgaaGreatDoor.zone dref
open bound hiding up
set_option linter.unusedVariables false
set_option linter.unusedSimpArgs false
set_option maxRecDepth 100000 in
set_option maxHeartbeats 4000000 in
theorem rpoint_any (a b c d:Int) (w:World) (hF:zone.Fit [a,b,c,d]):Calls Tryz.prog 73 #[.agg #[.int .i64 a,.int .i64 b,.int .i64 c,.int .i64 d]] w (Tell (MayR a b∧MayR c d) w):=by
 have ha:=hF a (by simp)
 have hc:=hF c (by simp)
 have DB:=bound.up1 w (.cells #[.int .i64 a,.int .i64 b,.int .i64 c,.int .i64 d] 47)
 have D0:=lies.made w 47 #[.int .i64 a,.int .i64 b,.int .i64 c,.int .i64 d]
 have hw:=lies.lt D0
 clear hF
 go_enter Tryz.func73,Tryz.ntmps73
 have p0:=lies.cell D0 0
 have p1:=lies.cell D0 1
 go_wp2_with fail
 clear p0 p1
 generalize w.alloc (.cells #[.int .i64 a,.int .i64 b,.int .i64 c,.int .i64 d] 47)=w0 at DB D0 hw ⊢
 refine (rref.may_any a b w0 ha.1 ha.2).mono ?_
 rintro e w1 ⟨rfl,hB⟩
 replace D0:=lies.on_call D0 hB
 replace DB:=later DB hB
 clear hB ha hw
 have p2:=lies.cell D0 2
 have p3:=lies.cell D0 3
 have pl:=lies.lt D0
 by_cases h:MayR a b
 ·have H:=Lib.hid h
  rw [rref.mayB_yes h]
  clear h
  go_wp2_with fail
  refine (rref.may_any c d w1 hc.1 hc.2).mono ?_
  rintro e w2 ⟨rfl,hB⟩
  replace DB:=later DB hB
  clear hB hc p2 p3 pl D0
  have HE:=Lib.hid (show (rref.mayB c d=true↔MayR a b∧MayR c d) from by
   unfold rref.mayB
   rw [decide_eq_true_eq]
   exact ⟨fun k=>⟨H.out,k⟩,fun k=>k.2⟩)
  generalize rref.mayB c d=r at HE ⊢
  go_wp2_with fail
  go_ret
  exact ⟨DB,r,rfl,HE.out⟩
 ·have H:=Lib.hid h
  rw [rref.mayB_no h]
  clear h hc
  go_wp2_with fail
  go_ret
  exact ⟨DB,false,rfl,⟨fun k=>by simp at k,fun k=>(H.out k.1).elim⟩⟩
set_option maxRecDepth 100000 in
set_option maxHeartbeats 4000000 in
theorem rinside_any (z0 z1 z2 z3 z4 z5 a b c d:Int) (w:World) (hz:MayZ [z0,z1,z2,z3,z4,z5]) (hF:zone.Fit [a,b,c,d]) (ha:MayR a b) (hc:MayR c d):Calls Tryz.prog 121 #[.agg #[.int .i64 z0,.int .i64 z1,.int .i64 z2,.int .i64 z3,.int .i64 z4,.int .i64 z5],.agg #[.int .i64 a,.int .i64 b,.int .i64 c,.int .i64 d]] w (Tell (keptAll 3 (fullT [z0,z1,z2,z3,z4,z5]) [(0,1),(a,b),(c,d)]) w):=by
 have DB:=bound.up2 w (.cells #[.int .i64 z0,.int .i64 z1,.int .i64 z2,.int .i64 z3,.int .i64 z4,.int .i64 z5] 27) (.cells #[.int .i64 a,.int .i64 b,.int .i64 c,.int .i64 d] 47)
 have D0:=lies.on_alloc (lies.made w 27 #[.int .i64 z0,.int .i64 z1,.int .i64 z2,.int .i64 z3,.int .i64 z4,.int .i64 z5]) (.cells #[.int .i64 a,.int .i64 b,.int .i64 c,.int .i64 d] 47)
 have D1:=lies.made_at (w.alloc (.cells #[.int .i64 z0,.int .i64 z1,.int .i64 z2,.int .i64 z3,.int .i64 z4,.int .i64 z5] 27)) 47 #[.int .i64 a,.int .i64 b,.int .i64 c,.int .i64 d] (w.heap.size+1) (by simp)
 have HZ:=Lib.hid hz
 have HF:=Lib.hid hF
 have HP:=Lib.hid (And.intro ha hc)
 clear hz hF ha hc
 go_enter Tryz.func121,Tryz.ntmps121
 go_wp2_with fail
 generalize (w.alloc (.cells #[.int .i64 z0,.int .i64 z1,.int .i64 z2,.int .i64 z3,.int .i64 z4,.int .i64 z5] 27)).alloc (.cells #[.int .i64 a,.int .i64 b,.int .i64 c,.int .i64 d] 47)=w0 at DB D0 D1 ⊢
 obtain ⟨⟨c0,c1,c2,c3,c4,c5⟩,_⟩:=six_cells D0
 have cl:=lies.lt D0
 have p0:=lies.cell D1 0
 have p1:=lies.cell D1 1
 have p2:=lies.cell D1 2
 have p3:=lies.cell D1 3
 have pl:=lies.lt D1
 generalize w.heap.size+1=PX at p0 p1 p2 p3 pl ⊢
 clear D0 D1
 generalize w.heap.size=ZX at c0 c1 c2 c3 c4 c5 cl ⊢
 refine wp_region_held_drew (S:=Below w0.heap.size w0) (by kernel_rfl) (dbm.drawn1 (Below.refl _ _)) (fun hHeld=>?_)
 generalize w0.drew=wD at hHeld ⊢
 refine tk 0 (v:=?_) rfl hHeld ?_ ?_
 rotate_left
 ·intro w hSw;have s0:=(hSw.cell (p:=⟨ZX,0,none⟩) cl).trans c0;have s1:=(hSw.cell (p:=⟨ZX,1,none⟩) cl).trans c1;have s2:=(hSw.cell (p:=⟨ZX,2,none⟩) cl).trans c2;have s3:=(hSw.cell (p:=⟨ZX,3,none⟩) cl).trans c3;have s4:=(hSw.cell (p:=⟨ZX,4,none⟩) cl).trans c4;have s5:=(hSw.cell (p:=⟨ZX,5,none⟩) cl).trans c5;go_simp;try with_reducible rfl
 try simp only [Act.put,sA,sB,sC,sD,sE,sF]
 refine tk 2 (v:=?_) rfl hHeld ?_ ?_
 rotate_left
 ·intro w hSw;have t0:=(hSw.cell (p:=⟨PX,0,none⟩) pl).trans p0;have t1:=(hSw.cell (p:=⟨PX,1,none⟩) pl).trans p1;have t2:=(hSw.cell (p:=⟨PX,2,none⟩) pl).trans p2;have t3:=(hSw.cell (p:=⟨PX,3,none⟩) pl).trans p3;go_simp;try with_reducible rfl
 try simp only [Act.put,sA,sB,sC,sD,sE,sF]
 refine tk 3 (v:=?_) rfl hHeld ?_ ?_
 rotate_left
 ·intro w hSw;have t0:=(hSw.cell (p:=⟨PX,0,none⟩) pl).trans p0;have t1:=(hSw.cell (p:=⟨PX,1,none⟩) pl).trans p1;have t2:=(hSw.cell (p:=⟨PX,2,none⟩) pl).trans p2;have t3:=(hSw.cell (p:=⟨PX,3,none⟩) pl).trans p3;go_simp;try with_reducible rfl
 try simp only [Act.put,sA,sB,sC,sD,sE,sF]
 refine tk 4 (v:=?_) rfl hHeld ?_ ?_
 rotate_left
 ·intro w hSw;have t0:=(hSw.cell (p:=⟨PX,0,none⟩) pl).trans p0;have t1:=(hSw.cell (p:=⟨PX,1,none⟩) pl).trans p1;have t2:=(hSw.cell (p:=⟨PX,2,none⟩) pl).trans p2;have t3:=(hSw.cell (p:=⟨PX,3,none⟩) pl).trans p3;go_simp;try with_reducible rfl
 try simp only [Act.put,sA,sB,sC,sD,sE,sF]
 refine tk 5 (v:=?_) rfl hHeld ?_ ?_
 rotate_left
 ·intro w hSw;have t0:=(hSw.cell (p:=⟨PX,0,none⟩) pl).trans p0;have t1:=(hSw.cell (p:=⟨PX,1,none⟩) pl).trans p1;have t2:=(hSw.cell (p:=⟨PX,2,none⟩) pl).trans p2;have t3:=(hSw.cell (p:=⟨PX,3,none⟩) pl).trans p3;go_simp;try with_reducible rfl
 try simp only [Act.put,sA,sB,sC,sD,sE,sF]
 clear c0 c1 c2 c3 c4 c5 cl p0 p1 p2 p3 pl
 refine wpAnyH_ready (rs:=[1,6]) (by kernel_rfl) (by simp) (AllReadyH.cons rfl (fun K hK=>?_) (AllReadyH.cons rfl (fun K hK=>?_) AllReadyH.nil))
 ·go_simp
  refine (full_is z0 z1 z2 z3 z4 z5 wD).mono ?_
  rintro e w1 ⟨hB,g,hg,rfl,hG⟩
  refine hK.out _ _ (hHeld.trans (hB.mono hHeld.size)) (fun hNew=>?_)
  clear hB
  clear hHeld hK K
  have hHeld:=hNew
  clear hNew
  try simp only [Act.put,sA,sB,sC,sD,sE,sF]
  refine wpAnyH_ready (rs:=[6]) (by kernel_rfl) (by simp) (AllReadyH.cons rfl (fun K hK=>?_) AllReadyH.nil)
  go_simp
  have R:=lies.made w1 45 #[.int .i64 a,.int .i64 b,.int .i64 c,.int .i64 d]
  have G1:=lies.on_alloc hG (.cells #[.int .i64 a,.int .i64 b,.int .i64 c,.int .i64 d] 45)
  refine hK.out _ _ (hHeld.trans ((bound.up1 w1 (.cells #[.int .i64 a,.int .i64 b,.int .i64 c,.int .i64 d] 45)).mono hHeld.size)) (fun hNew=>?_)
  clear hHeld hK K
  have hHeld:=hNew
  clear hNew
  try simp only [Act.put,sA,sB,sC,sD,sE,sF]
  generalize w1.heap.size=Q at R ⊢
  generalize w1.alloc (.cells #[.int .i64 a,.int .i64 b,.int .i64 c,.int .i64 d] 45)=w2 at R G1 hHeld ⊢
  refine wpAnyH_ready (rs:=[7]) (by kernel_rfl) (by simp) (AllReadyH.cons rfl (fun K hK=>?_) AllReadyH.nil)
  go_simp
  refine (kept_is 3 g 0 9 2 2 (some ⟨Q,0,none⟩) (fullT [z0,z1,z2,z3,z4,z5]) [(a,b),(c,d)] w2 (by decide) (by decide) rfl HZ.out.may.2.2.2 ⟨row_of G1,lies.lt G1⟩ (rats_two R) rfl (ints_two HF.out) (may_two.2 HP.out) rfl).mono ?_
  rintro e w3 ⟨hB,r,rfl,hr⟩
  have HR:=Lib.hid hr
  refine hK.out _ _ (hHeld.trans (hB.mono hHeld.size)) (fun hNew=>?_)
  clear hB hr R G1
  clear hHeld hK K
  have hHeld:=hNew
  clear hNew
  try simp only [Act.put,sA,sB,sC,sD,sE,sF]
  refine tk 8 (v:=?_) rfl hHeld ?_ ?_
  rotate_left
  ·intro w hSw;skip;go_simp;try with_reducible rfl
  try simp only [Act.put,sA,sB,sC,sD,sE,sF]
  refine wpAnyH_done (by kernel_rfl) ?_ _
  have KZ:=DB.trans (hHeld.mono DB.size)
  clear hHeld
  go_wp2_with fail
  go_ret
  exact ⟨KZ,r,rfl,HR.out⟩
 ·go_simp
  have R:=lies.made wD 45 #[.int .i64 a,.int .i64 b,.int .i64 c,.int .i64 d]
  refine hK.out _ _ (hHeld.trans ((bound.up1 wD (.cells #[.int .i64 a,.int .i64 b,.int .i64 c,.int .i64 d] 45)).mono hHeld.size)) (fun hNew=>?_)
  clear hHeld hK K
  have hHeld:=hNew
  clear hNew
  try simp only [Act.put,sA,sB,sC,sD,sE,sF]
  generalize wD.heap.size=Q at R ⊢
  generalize wD.alloc (.cells #[.int .i64 a,.int .i64 b,.int .i64 c,.int .i64 d] 45)=w1 at R hHeld ⊢
  refine wpAnyH_ready (rs:=[1]) (by kernel_rfl) (by simp) (AllReadyH.cons rfl (fun K hK=>?_) AllReadyH.nil)
  go_simp
  refine (full_is z0 z1 z2 z3 z4 z5 w1).mono ?_
  rintro e w2 ⟨hB,g,hg,rfl,hG⟩
  replace R:=lies.on_call R hB
  refine hK.out _ _ (hHeld.trans (hB.mono hHeld.size)) (fun hNew=>?_)
  clear hB
  clear hHeld hK K
  have hHeld:=hNew
  clear hNew
  try simp only [Act.put,sA,sB,sC,sD,sE,sF]
  refine wpAnyH_ready (rs:=[7]) (by kernel_rfl) (by simp) (AllReadyH.cons rfl (fun K hK=>?_) AllReadyH.nil)
  go_simp
  refine (kept_is 3 g 0 9 2 2 (some ⟨Q,0,none⟩) (fullT [z0,z1,z2,z3,z4,z5]) [(a,b),(c,d)] w2 (by decide) (by decide) rfl HZ.out.may.2.2.2 ⟨row_of hG,lies.lt hG⟩ (rats_two R) rfl (ints_two HF.out) (may_two.2 HP.out) rfl).mono ?_
  rintro e w3 ⟨hB,r,rfl,hr⟩
  have HR:=Lib.hid hr
  refine hK.out _ _ (hHeld.trans (hB.mono hHeld.size)) (fun hNew=>?_)
  clear hB hr R hG
  clear hHeld hK K
  have hHeld:=hNew
  clear hNew
  try simp only [Act.put,sA,sB,sC,sD,sE,sF]
  refine tk 8 (v:=?_) rfl hHeld ?_ ?_
  rotate_left
  ·intro w hSw;skip;go_simp;try with_reducible rfl
  try simp only [Act.put,sA,sB,sC,sD,sE,sF]
  refine wpAnyH_done (by kernel_rfl) ?_ _
  have KZ:=DB.trans (hHeld.mono DB.size)
  clear hHeld
  go_wp2_with fail
  go_ret
  exact ⟨KZ,r,rfl,HR.out⟩
end Go.Proofs.YthmljpccbjolgaaGreatDoor.zref
namespace Go.Proofs.YthmljpccbjolgaaGreatDoor.zref
open Go.Joins Go.ChangeShapes Go.WideShapes Go.ChangeAt Go.RowKit num rat dbm Go.Proofs.YthmljpccbjolgaaGreatDoor.tight Go.Proofs.YthmljpccbjolgaaGreatDoor.incl Go.Proofs.YthmljpccbjolgaaGreatDoor.plaw Go.Proofs.YthmljpccbjolgaaGreatDoor.zopen Go.Proofs.YthmljpccbjolgaaGreatDoor.zone dref
open bound hiding up
set_option linter.unusedVariables false
set_option linter.unusedSimpArgs false
end Go.Proofs.YthmljpccbjolgaaGreatDoor.zref
namespace Go.Proofs.YthmljpccbjolgaaGreatDoor.zref
open Go.Joins Go.ChangeShapes Go.WideShapes Go.ChangeAt Go.RowKit num rat dbm Go.Proofs.YthmljpccbjolgaaGreatDoor.tight Go.Proofs.YthmljpccbjolgaaGreatDoor.incl Go.Proofs.YthmljpccbjolgaaGreatDoor.plaw Go.Proofs.YthmljpccbjolgaaGreatDoor.zopen Go.Proofs.YthmljpccbjolgaaGreatDoor.zone dref
open bound hiding up
set_option linter.unusedVariables false
set_option linter.unusedSimpArgs false
end Go.Proofs.YthmljpccbjolgaaGreatDoor.zref
namespace Go.Proofs.YthmljpccbjolgaaGreatDoor.zref
open Go.Joins Go.ChangeShapes Go.WideShapes Go.ChangeAt Go.RowKit num rat dbm Go.Proofs.YthmljpccbjolgaaGreatDoor.tight Go.Proofs.YthmljpccbjolgaaGreatDoor.incl Go.Proofs.YthmljpccbjolgaaGreatDoor.plaw Go.Proofs.YthmljpccbjolgaaGreatDoor.zopen Go.Proofs.YthmljpccbjolgaaGreatDoor.zone dref
open bound hiding up
set_option linter.unusedVariables false
set_option linter.unusedSimpArgs false
end Go.Proofs.YthmljpccbjolgaaGreatDoor.zref
namespace Go.Proofs.YthmljpccbjolgaaGreatDoor.zref
open Go.Joins Go.ChangeShapes Go.WideShapes Go.ChangeAt Go.RowKit num rat dbm Go.Proofs.YthmljpccbjolgaaGreatDoor.tight Go.Proofs.YthmljpccbjolgaaGreatDoor.incl Go.Proofs.YthmljpccbjolgaaGreatDoor.plaw Go.Proofs.YthmljpccbjolgaaGreatDoor.zopen Go.Proofs.YthmljpccbjolgaaGreatDoor.zone dref
open bound hiding up
set_option linter.unusedVariables false
set_option linter.unusedSimpArgs false
theorem cmpL_lt {ts us:List Int} {k:Nat} (h:k<ts.length) (h':k<us.length) (hl:ts[k]?.getD 0<us[k]?.getD 0):cmpL (ts.drop k) (us.drop k)=-1:=by
 rw [cmpL_up ts us k h h']
 have e:cmp1 (ts[k]?.getD 0) (us[k]?.getD 0)=-1:=by unfold cmp1;rw [if_pos hl]
 rw [e]
 rfl
theorem cmpL_gt {ts us:List Int} {k:Nat} (h:k<ts.length) (h':k<us.length) (hl:us[k]?.getD 0<ts[k]?.getD 0):cmpL (ts.drop k) (us.drop k)=1:=by
 rw [cmpL_up ts us k h h']
 have e:cmp1 (ts[k]?.getD 0) (us[k]?.getD 0)=1:=by unfold cmp1;rw [if_neg (by omega),if_pos hl]
 rw [e]
 rfl
theorem cmpL_eq {ts us:List Int} {k:Nat} (h:k<ts.length) (h':k<us.length) (h1:¬ ts[k]?.getD 0<us[k]?.getD 0) (h2:¬ us[k]?.getD 0<ts[k]?.getD 0):cmpL (ts.drop k) (us.drop k)=cmpL (ts.drop (k+1)) (us.drop (k+1)):=by
 rw [cmpL_up ts us k h h']
 have e:cmp1 (ts[k]?.getD 0) (us[k]?.getD 0)=0:=by unfold cmp1;rw [if_neg h1,if_neg h2]
 rw [e]
 rfl
def Cx (A B:Nat) (ts us:List Int) (w W:World):Prop:=Row W A 0 ts∧Row W B 0 us∧A<W.heap.size∧B<W.heap.size∧Below w.heap.size w W
theorem Cx.below {A B:Nat} {ts us:List Int} {w W X:World} (h:Cx A B ts us w W) (k:Below W.heap.size W X):Cx A B ts us w X:=
 ⟨h.1.below k h.2.2.1,h.2.1.below k h.2.2.2.1,Nat.lt_of_lt_of_le h.2.2.1 k.size,Nat.lt_of_lt_of_le h.2.2.2.1 k.size,h.2.2.2.2.trans (k.mono h.2.2.2.2.size)⟩
set_option maxRecDepth 100000 in
set_option maxHeartbeats 4000000 in
theorem rcmp_any (a0 a1 a2 a3 a4 a5 b0 b1 b2 b3 b4 b5:Int) (w:World):Calls Tryz.prog 174 #[.agg #[.int .i64 a0,.int .i64 a1,.int .i64 a2,.int .i64 a3,.int .i64 a4,.int .i64 a5],.agg #[.int .i64 b0,.int .i64 b1,.int .i64 b2,.int .i64 b3,.int .i64 b4,.int .i64 b5]] w fun e w'=>e=.returned (.int .i64 (cmpL [a0,a1,a2,a3,a4,a5] [b0,b1,b2,b3,b4,b5]))∧Below w.heap.size w w':=by
 have DB:=bound.up2 w (.cells #[.int .i64 a0,.int .i64 a1,.int .i64 a2,.int .i64 a3,.int .i64 a4,.int .i64 a5] 27) (.cells #[.int .i64 b0,.int .i64 b1,.int .i64 b2,.int .i64 b3,.int .i64 b4,.int .i64 b5] 27)
 have D0:=lies.on_alloc (lies.made w 27 #[.int .i64 a0,.int .i64 a1,.int .i64 a2,.int .i64 a3,.int .i64 a4,.int .i64 a5]) (.cells #[.int .i64 b0,.int .i64 b1,.int .i64 b2,.int .i64 b3,.int .i64 b4,.int .i64 b5] 27)
 have D1:=lies.made_at (w.alloc (.cells #[.int .i64 a0,.int .i64 a1,.int .i64 a2,.int .i64 a3,.int .i64 a4,.int .i64 a5] 27)) 27 #[.int .i64 b0,.int .i64 b1,.int .i64 b2,.int .i64 b3,.int .i64 b4,.int .i64 b5] (w.heap.size+1) (by simp)
 obtain ⟨ts,hts⟩:∃ ts,ts=[a0,a1,a2,a3,a4,a5]:=⟨_,rfl⟩
 obtain ⟨us,hus⟩:∃ us,us=[b0,b1,b2,b3,b4,b5]:=⟨_,rfl⟩
 have W0:Cx w.heap.size (w.heap.size+1) ts us w ((w.alloc (.cells #[.int .i64 a0,.int .i64 a1,.int .i64 a2,.int .i64 a3,.int .i64 a4,.int .i64 a5] 27)).alloc (.cells #[.int .i64 b0,.int .i64 b1,.int .i64 b2,.int .i64 b3,.int .i64 b4,.int .i64 b5] 27)):=⟨hts ▸ row_six D0,hus ▸ row_six D1,lies.lt D0,lies.lt D1,DB⟩
 have HL:=Lib.hid (show ts.length=6 by rw [hts];rfl)
 have HU:=Lib.hid (show us.length=6 by rw [hus];rfl)
 have HTS:=Lib.hid hts
 have HUS:=Lib.hid hus
 clear DB D0 D1 hts hus
 go_enter Tryz.func174,Tryz.ntmps174
 go_wp2_with fail
 generalize (w.alloc (.cells #[.int .i64 a0,.int .i64 a1,.int .i64 a2,.int .i64 a3,.int .i64 a4,.int .i64 a5] 27)).alloc (.cells #[.int .i64 b0,.int .i64 b1,.int .i64 b2,.int .i64 b3,.int .i64 b4,.int .i64 b5] 27)=w0 at W0 ⊢
 generalize w.heap.size+1=B at W0 ⊢
 generalize w.heap.size=A at W0 ⊢
 go_loopw [5] (fun i wr=>∃ k:Nat,k≤6∧i=.int .i64 k∧Cx A B ts us w wr∧RowKit.Hid (cmpL ts us=cmpL (ts.drop k) (us.drop k))) (fun i _=>6 - (intOf i).toNat)
 case atStart=>exact ⟨0,by decide,rfl,W0,Lib.hid rfl⟩
 case round=>
  clear W0
  obtain ⟨k,hk,rfl,hC,hA⟩:=hrel
  by_cases hk6:k<6
  ·have hpi:(k:Int)<6:=by omega
   have h1:k<ts.length:=by rw [HL.out];exact hk6
   have h2:k<us.length:=by rw [HU.out];exact hk6
   have M1:=Lib.hid (fun (W:World) (h:Cx A B ts us w W)=>h.1 k h1)
   have M2:=Lib.hid (fun (W:World) (h:Cx A B ts us w W)=>h.2.1 k h2)
   have LT:=Lib.hid (cmpL_lt h1 h2)
   have GT:=Lib.hid (cmpL_gt h1 h2)
   have EQ:=Lib.hid (cmpL_eq h1 h2)
   simp only [Nat.zero_add] at M1 M2
   generalize ts[k]?.getD 0=x at M1 LT GT EQ
   generalize us[k]?.getD 0=y at M2 LT GT EQ
   have ha:=hC.2.2.1
   have hb:=hC.2.2.2.1
   have m1:=M1.out wr hC
   have m2:=M2.out wr hC
   clear h1 h2
   go_wp2_with fail
   refine wp_region_held_drew (S:=Below wr.heap.size wr) (by kernel_rfl) (dbm.drawn1 (Below.refl _ _)) (fun hHeld=>?_)
   generalize wr.drew=w1 at hHeld ⊢
   refine tk 0 (v:=?_) rfl hHeld ?_ ?_
   rotate_left
   ·intro w hSw;have s0:=(hSw.cell (p:=⟨A,k,none⟩) ha).trans m1;have s1:=(hSw.cell (p:=⟨B,k,none⟩) hb).trans m2;go_simp;try with_reducible rfl
   try simp only [Act.put,sA,sB,sC,sD,sE,sF]
   refine tk 1 (v:=?_) rfl hHeld ?_ ?_
   rotate_left
   ·intro w hSw;have s0:=(hSw.cell (p:=⟨A,k,none⟩) ha).trans m1;have s1:=(hSw.cell (p:=⟨B,k,none⟩) hb).trans m2;go_simp;try with_reducible rfl
   try simp only [Act.put,sA,sB,sC,sD,sE,sF]
   refine tk 2 (v:=?_) rfl hHeld ?_ ?_
   rotate_left
   ·intro w hSw;have s0:=(hSw.cell (p:=⟨A,k,none⟩) ha).trans m1;have s1:=(hSw.cell (p:=⟨B,k,none⟩) hb).trans m2;go_simp;try with_reducible rfl
   try simp only [Act.put,sA,sB,sC,sD,sE,sF]
   refine tk 3 (v:=?_) rfl hHeld ?_ ?_
   rotate_left
   ·intro w hSw;have s0:=(hSw.cell (p:=⟨A,k,none⟩) ha).trans m1;have s1:=(hSw.cell (p:=⟨B,k,none⟩) hb).trans m2;go_simp;try with_reducible rfl
   try simp only [Act.put,sA,sB,sC,sD,sE,sF]
   refine tk 4 (v:=?_) rfl hHeld ?_ ?_
   rotate_left
   ·intro w hSw;have s0:=(hSw.cell (p:=⟨A,k,none⟩) ha).trans m1;have s1:=(hSw.cell (p:=⟨B,k,none⟩) hb).trans m2;go_simp;try with_reducible rfl
   try simp only [Act.put,sA,sB,sC,sD,sE,sF]
   refine tk 5 (v:=?_) rfl hHeld ?_ ?_
   rotate_left
   ·intro w hSw;have s0:=(hSw.cell (p:=⟨A,k,none⟩) ha).trans m1;have s1:=(hSw.cell (p:=⟨B,k,none⟩) hb).trans m2;go_simp;try with_reducible rfl
   try simp only [Act.put,sA,sB,sC,sD,sE,sF]
   refine tk 6 (v:=?_) rfl hHeld ?_ ?_
   rotate_left
   ·intro w hSw;have s0:=(hSw.cell (p:=⟨A,k,none⟩) ha).trans m1;have s1:=(hSw.cell (p:=⟨B,k,none⟩) hb).trans m2;go_simp;try with_reducible rfl
   try simp only [Act.put,sA,sB,sC,sD,sE,sF]
   refine wpAnyH_done (by kernel_rfl) ?_ _
   replace hC:=hC.below hHeld
   clear hHeld ha hb m1 m2
   by_cases hxy:x<y
   ·go_wp2_with fail
    go_ret
    exact ⟨by rw [←HTS.out,←HUS.out,hA.out,LT.out hxy];rfl,hC.2.2.2.2⟩
   ·have ha:=hC.2.2.1
    have hb:=hC.2.2.2.1
    have m1:=M1.out w1 hC
    have m2:=M2.out w1 hC
    go_wp2_with fail
    refine wp_region_held_drew (S:=Below w1.heap.size w1) (by kernel_rfl) (dbm.drawn1 (Below.refl _ _)) (fun hHeld=>?_)
    generalize w1.drew=w2 at hHeld ⊢
    refine tk 0 (v:=?_) rfl hHeld ?_ ?_
    rotate_left
    ·intro w hSw;have s0:=(hSw.cell (p:=⟨A,k,none⟩) ha).trans m1;have s1:=(hSw.cell (p:=⟨B,k,none⟩) hb).trans m2;go_simp;try with_reducible rfl
    try simp only [Act.put,sA,sB,sC,sD,sE,sF]
    refine tk 1 (v:=?_) rfl hHeld ?_ ?_
    rotate_left
    ·intro w hSw;have s0:=(hSw.cell (p:=⟨A,k,none⟩) ha).trans m1;have s1:=(hSw.cell (p:=⟨B,k,none⟩) hb).trans m2;go_simp;try with_reducible rfl
    try simp only [Act.put,sA,sB,sC,sD,sE,sF]
    refine tk 2 (v:=?_) rfl hHeld ?_ ?_
    rotate_left
    ·intro w hSw;have s0:=(hSw.cell (p:=⟨A,k,none⟩) ha).trans m1;have s1:=(hSw.cell (p:=⟨B,k,none⟩) hb).trans m2;go_simp;try with_reducible rfl
    try simp only [Act.put,sA,sB,sC,sD,sE,sF]
    refine tk 3 (v:=?_) rfl hHeld ?_ ?_
    rotate_left
    ·intro w hSw;have s0:=(hSw.cell (p:=⟨A,k,none⟩) ha).trans m1;have s1:=(hSw.cell (p:=⟨B,k,none⟩) hb).trans m2;go_simp;try with_reducible rfl
    try simp only [Act.put,sA,sB,sC,sD,sE,sF]
    refine tk 4 (v:=?_) rfl hHeld ?_ ?_
    rotate_left
    ·intro w hSw;have s0:=(hSw.cell (p:=⟨A,k,none⟩) ha).trans m1;have s1:=(hSw.cell (p:=⟨B,k,none⟩) hb).trans m2;go_simp;try with_reducible rfl
    try simp only [Act.put,sA,sB,sC,sD,sE,sF]
    refine tk 5 (v:=?_) rfl hHeld ?_ ?_
    rotate_left
    ·intro w hSw;have s0:=(hSw.cell (p:=⟨A,k,none⟩) ha).trans m1;have s1:=(hSw.cell (p:=⟨B,k,none⟩) hb).trans m2;go_simp;try with_reducible rfl
    try simp only [Act.put,sA,sB,sC,sD,sE,sF]
    refine tk 6 (v:=?_) rfl hHeld ?_ ?_
    rotate_left
    ·intro w hSw;have s0:=(hSw.cell (p:=⟨A,k,none⟩) ha).trans m1;have s1:=(hSw.cell (p:=⟨B,k,none⟩) hb).trans m2;go_simp;try with_reducible rfl
    try simp only [Act.put,sA,sB,sC,sD,sE,sF]
    refine wpAnyH_done (by kernel_rfl) ?_ _
    replace hC:=hC.below hHeld
    clear hHeld ha hb m1 m2
    by_cases hyx:y<x
    ·go_wp2_with fail
     go_ret
     exact ⟨by rw [←HTS.out,←HUS.out,hA.out,GT.out hyx];rfl,hC.2.2.2.2⟩
    ·have HN:=Lib.hid (hA.out.trans (EQ.out (by omega) (by omega)))
     go_wp2_with fail
     clear hxy hyx
     go_roundw
     case rel=>exact ⟨k+1,by omega,by go_num,hC,HN⟩
     case measure=>simp [intOf];omega
  ·obtain rfl:k=6:=by omega
   go_wp2_with fail
   go_ret
   refine ⟨?_,hC.2.2.2.2⟩
   rw [←HTS.out,←HUS.out,hA.out,List.drop_eq_nil_of_le (by rw [HL.out];exact Nat.le_refl _),List.drop_eq_nil_of_le (by rw [HU.out];exact Nat.le_refl _)]
   rfl
end Go.Proofs.YthmljpccbjolgaaGreatDoor.zref
