
/-
  rallentandoref11: the document own answers of minus.
-/
import Derived.Test.YthmljpccbjolgaaGreatDoorMinusF
import Derived.Test.YthmljpccbjolgaaGreatDoorZoneU
namespace Go.Proofs.YthmljpccbjolgaaGreatDoor.mref
open Go.Joins Go.ChangeShapes Go.WideShapes Go.ChangeAt Go.RowKit num rat dbm dref Go.Proofs.YthmljpccbjolgaaGreatDoor.tight Go.Proofs.YthmljpccbjolgaaGreatDoor.incl Go.Proofs.YthmljpccbjolgaaGreatDoor.plaw Go.Proofs.YthmljpccbjolgaaGreatDoor.zopen Go.Proofs.YthmljpccbjolgaaGreatDoor.zone Go.Proofs.YthmljpccbjolgaaGreatDoor.win Go.Proofs.YthmljpccbjolgaaGreatDoor.minus Go.Proofs.YthmljpccbjolgaaGreatDoor.mz Go.Proofs.YthmljpccbjolgaaGreatDoor.mlaw Go.Proofs.YthmljpccbjolgaaGreatDoor.zref
open bound hiding up
set_option linter.unusedVariables false
set_option linter.unusedSimpArgs false
theorem none_is (w:World):Calls Tryz.prog 219 #[] w fun e w'=>e=.returned (.agg #[.int .i64 9223372036854775807,.int .i64 9223372036854775807,.int .i64 9223372036854775807,.int .i64 9223372036854775807,.int .i64 9223372036854775807,.int .i64 9223372036854775807])∧Below w.heap.size w w':=by
 go_enter Tryz.func219,Tryz.ntmps219
 go_wp2_with fail
 exact bodyPost_ret (v:=.agg #[.int .i64 9223372036854775807,.int .i64 9223372036854775807,.int .i64 9223372036854775807,.int .i64 9223372036854775807,.int .i64 9223372036854775807,.int .i64 9223372036854775807]) (by simp [results,Tryz.results219,go_sem]) rfl ⟨rfl,bound.up1 _ _⟩
theorem oth_is (i:Nat) (hi:i<6) (w:World):Calls Tryz.prog 180 #[.int .i64 i] w fun e w'=>e=.returned (.int .i64 (oth i:Nat))∧w=w':=by
 rcases minus.six_is hi with rfl | rfl | rfl | rfl | rfl | rfl
 all_goals
  go_enter Tryz.func180,Tryz.ntmps180
  go_wp2_with fail
  go_ret
  exact ⟨rfl,rfl⟩
theorem one_set {i:Nat} {v:Int} (hi:i<6):∃ o0 o1 o2 o3 o4 o5:Int,[o0,o1,o2,o3,o4,o5]=oneZ i v∧([.int .i64 9223372036854775807,.int .i64 9223372036854775807,.int .i64 9223372036854775807,.int .i64 9223372036854775807,.int .i64 9223372036854775807,.int .i64 9223372036854775807].set i (Value.int .i64 v)).toArray=#[.int .i64 o0,.int .i64 o1,.int .i64 o2,.int .i64 o3,.int .i64 o4,.int .i64 o5]:=by
 rcases minus.six_is hi with rfl | rfl | rfl | rfl | rfl | rfl
 all_goals exact ⟨_,_,_,_,_,_,rfl,rfl⟩
theorem own_put {W:World} {base n s q i:Nat} {t:TypeId} {v u:Value} {xs:List Value} (h:W.ownsRow base t s v n xs) (hne:∀ g,v.ownBlock=some g→g≠q):(W.setCell ⟨q,i,none⟩ u).ownsRow base t s v n xs:=by
 refine ⟨h.1,?_⟩
 rcases h.2 with k | ⟨g,cap,cur,rfl,h1,h2,h3⟩
 ·exact .inl k
 ·exact .inr ⟨g,cap,cur,rfl,h1,(Below.heap_setCell W ⟨q,i,none⟩ u g (hne g rfl)).trans h2,h3⟩
theorem own_type {W:World} {base n s q:Nat} {t t':TypeId} {v:Value} {xs:List Value} {cs:Array Value} (h:W.ownsRow base t s v n xs) (k:lies.Lies W q t' cs) (ht:t≠t'):∀ g,v.ownBlock=some g→g≠q:=fun g e hg=>by
 rcases h.2 with ⟨rfl,_⟩ | ⟨g',cap,cur,rfl,_,h2,_⟩
 ·cases e
 ·cases e
  have hg:g'=q:=hg
  rw [hg] at h2
  have k:W.heap[q]?=some (.cells cs t' (0,0)):=k
  rw [h2] at k
  cases k
  exact ht rfl
theorem own_low {W:World} {base base' n s:Nat} {t:TypeId} {v:Value} {xs:List Value} (h:W.ownsRow base t s v n xs) (hb:base'≤base):W.ownsRow base' t s v n xs:=by
 refine ⟨h.1,?_⟩
 rcases h.2 with k | ⟨g,cap,cur,rfl,h1,h2⟩
 ·exact .inl k
 ·exact .inr ⟨g,cap,cur,rfl,Nat.le_trans hb h1,h2⟩
def Wd (R:List Int→Int→Prop) (w:World) (e:Ending) (w':World):Prop:=Below w.heap.size w w'∧∃ y0 y1 y2 y3 y4 y5 f,e=.returned (.tuple #[.agg #[.int .i64 y0,.int .i64 y1,.int .i64 y2,.int .i64 y3,.int .i64 y4,.int .i64 y5],.int .i64 f])∧R [y0,y1,y2,y3,y4,y5] f
set_option maxRecDepth 100000 in
set_option maxHeartbeats 16000000 in
theorem with_any (z0 z1 z2 z3 z4 z5:Int) (i:Nat) (v:Int) (w:World) (hi:i<6) (ha:MayZ [z0,z1,z2,z3,z4,z5]) (ta:Tops [z0,z1,z2,z3,z4,z5]) (hv:Fine v):Calls Tryz.prog 179 #[.agg #[.int .i64 z0,.int .i64 z1,.int .i64 z2,.int .i64 z3,.int .i64 z4,.int .i64 z5],.int .i64 i,.int .i64 v] w (Wd (CutR [z0,z1,z2,z3,z4,z5] (oneZ i v)) w):=by
 have HA:=Lib.hid ha
 have HT:=Lib.hid ta
 have HV:=Lib.hid hv
 have HTF:=Lib.hid (full_tops ta)
 have HML:=Lib.hid (lesT_may ha.may (one_may (i:=i) hv))
 have HTL:=Lib.hid (lesT_tops (full_tops ta) (fullT (oneZ i v)))
 have X:∃ w0,w0=(w.alloc (.cells #[.int .i64 z0,.int .i64 z1,.int .i64 z2,.int .i64 z3,.int .i64 z4,.int .i64 z5] 27)).alloc (.cells #[.int .i64 0,.int .i64 0,.int .i64 0,.int .i64 0,.int .i64 0,.int .i64 0] 27):=⟨_,rfl⟩
 obtain ⟨w0,hX⟩:=X
 have DB:Below w.heap.size w w0:=by rw [hX];exact bound.up2 _ _ _
 have D0:lies.Lies w0 w.heap.size 27 #[.int .i64 z0,.int .i64 z1,.int .i64 z2,.int .i64 z3,.int .i64 z4,.int .i64 z5]:=by rw [hX];exact lies.on_alloc (lies.made _ _ _) _
 have D2:lies.Lies w0 (w.heap.size+1) 27 #[.int .i64 0,.int .i64 0,.int .i64 0,.int .i64 0,.int .i64 0,.int .i64 0]:=by rw [hX];exact lies.made_at _ _ _ _ (by simp)
 have hR:w.heap.size≤w.heap.size+1:=by omega
 clear ha ta hv
 go_enter Tryz.func179,Tryz.ntmps179
 go_wp2_with fail
 rw [←hX]
 clear hX
 refine (none_is w0).mono ?_
 rintro e w1 ⟨rfl,hB⟩
 replace D0:=lies.on_call D0 hB
 replace D2:=lies.on_call D2 hB
 replace DB:=later DB hB
 clear hB
 obtain ⟨o0,o1,o2,o3,o4,o5,hOE,hset⟩:=one_set (v:=v) hi
 go_upto_region 3 with fail
 clear hset
 have HOE:=Lib.hid hOE
 have hlt:=lies.lt D2
 have hA:=bound.up1 w1 (.cells #[.int .i64 o0,.int .i64 o1,.int .i64 o2,.int .i64 o3,.int .i64 o4,.int .i64 o5] 27)
 have D8:=lies.made w1 27 #[.int .i64 o0,.int .i64 o1,.int .i64 o2,.int .i64 o3,.int .i64 o4,.int .i64 o5]
 replace D0:=lies.on_call D0 hA
 replace D2:=lies.on_call D2 hA
 replace DB:=later DB hA
 clear hA
 generalize w1.heap.size=X8 at D8 hlt ⊢
 generalize w1.alloc (.cells #[.int .i64 o0,.int .i64 o1,.int .i64 o2,.int .i64 o3,.int .i64 o4,.int .i64 o5] 27)=w8 at D0 D2 D8 DB ⊢
 have HML2:RowKit.Hid (MayD 3 (lesT (fullT [z0,z1,z2,z3,z4,z5]) (fullT [o0,o1,o2,o3,o4,o5]))):=by rw [hOE];exact HML
 clear hOE
 go_cut [9,10] from 11 (fun s9 s10 wx=>∃ (T:Nat) (na:Int) (a:Option Addr) (l c:Nat) (us:List Int) (bl:Bool),s9=.pointer (some ⟨T,0,none⟩)∧s10=.bool bl∧lies.Lies wx T 81 #[.int .i64 na,.slice a l c]∧lies.Lies wx (w.heap.size+1) 27 #[.int .i64 0,.int .i64 0,.int .i64 0,.int .i64 0,.int .i64 0,.int .i64 0]∧Below w.heap.size w wx∧wx.ownsRow w.heap.size 25 1 (.slice a l c) us.length (us.map (Value.int .i64))∧RowKit.Hid (tref.CommR 3 (lesT (fullT [z0,z1,z2,z3,z4,z5]) (fullT [o0,o1,o2,o3,o4,o5])) na us bl))
 case first=>
  have hDr:=dbm.drawn1 (Below.refl w8.heap.size w8)
  replace D0:=lies.on_call D0 hDr
  replace D2:=lies.on_call D2 hDr
  replace D8:=lies.on_call D8 hDr
  replace DB:=later DB hDr
  clear hDr
  refine wp_region_held_drew (S:=fun W=>lies.Lies W w.heap.size 27 #[.int .i64 z0,.int .i64 z1,.int .i64 z2,.int .i64 z3,.int .i64 z4,.int .i64 z5]∧lies.Lies W X8 27 #[.int .i64 o0,.int .i64 o1,.int .i64 o2,.int .i64 o3,.int .i64 o4,.int .i64 o5]) (by kernel_rfl) ⟨D0,D8⟩ (fun hHeld=>?_)
  generalize w8.drew=wD at D0 D2 D8 DB hHeld ⊢
  refine tk 0 (v:=?_) rfl hHeld ?_ ?_
  rotate_left
  ·intro w hSw;obtain ⟨⟨c0,c1,c2,c3,c4,c5⟩,_⟩:=six_cells hSw.1;obtain ⟨⟨d0,d1,d2,d3,d4,d5⟩,_⟩:=six_cells hSw.2;go_simp;try with_reducible rfl
  try simp only [Act.put,sA,sB,sC,sD,sE,sF]
  refine tk 2 (v:=?_) rfl hHeld ?_ ?_
  rotate_left
  ·intro w hSw;obtain ⟨⟨c0,c1,c2,c3,c4,c5⟩,_⟩:=six_cells hSw.1;obtain ⟨⟨d0,d1,d2,d3,d4,d5⟩,_⟩:=six_cells hSw.2;go_simp;try with_reducible rfl
  try simp only [Act.put,sA,sB,sC,sD,sE,sF]
  refine wpAnyH_ready (rs:=[1,8]) (by kernel_rfl) (by simp) (AllReadyH.cons rfl (fun K hK=>?_) (AllReadyH.cons rfl (fun K hK=>?_) AllReadyH.nil))
  ·go_simp
   refine (full_is z0 z1 z2 z3 z4 z5 wD).mono ?_
   rintro e u2 ⟨hB,g1,hg,rfl,G1⟩
   replace D0:=lies.on_call D0 hB
   replace D2:=lies.on_call D2 hB
   replace D8:=lies.on_call D8 hB
   replace DB:=later DB hB
   clear hB
   clear hg
   refine hK.out _ _ ⟨D0,D8⟩ (fun hNew=>?_)
   clear hHeld hK K
   have hHeld:=hNew
   clear hNew
   try simp only [Act.put,sA,sB,sC,sD,sE,sF]
   refine wpAnyH_ready (rs:=[3,8]) (by kernel_rfl) (by simp) (AllReadyH.cons rfl (fun K hK=>?_) (AllReadyH.cons rfl (fun K hK=>?_) AllReadyH.nil))
   ·go_simp
    refine (full_is o0 o1 o2 o3 o4 o5 u2).mono ?_
    rintro e u3 ⟨hB,g2,hg,rfl,G2⟩
    replace D0:=lies.on_call D0 hB
    replace D2:=lies.on_call D2 hB
    replace D8:=lies.on_call D8 hB
    replace G1:=lies.on_call G1 hB
    replace DB:=later DB hB
    clear hB
    clear hg
    refine hK.out _ _ ⟨D0,D8⟩ (fun hNew=>?_)
    clear hHeld hK K
    have hHeld:=hNew
    clear hNew
    try simp only [Act.put,sA,sB,sC,sD,sE,sF]
    refine wpAnyH_ready (rs:=[4,8]) (by kernel_rfl) (by simp) (AllReadyH.cons rfl (fun K hK=>?_) (AllReadyH.cons rfl (fun K hK=>?_) AllReadyH.nil))
    ·go_simp
     refine (tref.common_is 3 (.slice (some ⟨g1,0,none⟩) 9 9) g2 0 9 (fullT [z0,z1,z2,z3,z4,z5]) (fullT [o0,o1,o2,o3,o4,o5]) u3 (by decide) (by decide) (dlaw.own_ints (cap:=9) G1) (row_of G2) (lies.lt G2) rfl rfl HTF.out HML2.out).mono ?_
     intro e u4 hC
     obtain ⟨hB,na,a,l,c,us,bl,rfl,hR2,hO⟩:=tref.comm_one hC
     skip
     have HOW:=Lib.hid (own_low hO DB.size)
     have HR2:=Lib.hid hR2
     clear hO hR2 hC
     replace D0:=lies.on_call D0 hB
     replace D2:=lies.on_call D2 hB
     replace D8:=lies.on_call D8 hB
     replace G1:=lies.on_call G1 hB
     replace G2:=lies.on_call G2 hB
     replace DB:=later DB hB
     clear hB
     clear G1 G2
     refine hK.out _ _ ⟨D0,D8⟩ (fun hNew=>?_)
     clear hHeld hK K
     have hHeld:=hNew
     clear hNew
     try simp only [Act.put,sA,sB,sC,sD,sE,sF]
     refine tk 5 (v:=?_) rfl hHeld ?_ ?_
     rotate_left
     ·intro w hSw;skip;go_simp;try with_reducible rfl
     try simp only [Act.put,sA,sB,sC,sD,sE,sF]
     refine tk 6 (v:=?_) rfl hHeld ?_ ?_
     rotate_left
     ·intro w hSw;skip;go_simp;try with_reducible rfl
     try simp only [Act.put,sA,sB,sC,sD,sE,sF]
     refine tk 7 (v:=?_) rfl hHeld ?_ ?_
     rotate_left
     ·intro w hSw;skip;go_simp;try with_reducible rfl
     try simp only [Act.put,sA,sB,sC,sD,sE,sF]
     refine wpAnyH_ready (rs:=[8]) (by kernel_rfl) (by simp) (AllReadyH.cons rfl (fun K hK=>?_) AllReadyH.nil)
     go_simp
     have HSZ:=DB.size
     have hA:=bound.up1 u4 (.cells #[.int .i64 0,.slice none 0 0] 81)
     have DT:=lies.made u4 81 #[.int .i64 0,.slice none 0 0]
     replace D0:=lies.on_call D0 hA
     replace D2:=lies.on_call D2 hA
     replace D8:=lies.on_call D8 hA
     replace DB:=later DB hA
     replace HOW:=Lib.hid (incl.own_call HOW.out hA)
     clear hA
     refine hK.out _ _ ⟨D0,D8⟩ (fun hNew=>?_)
     clear hHeld hK K
     have hHeld:=hNew
     clear hNew
     try simp only [Act.put,sA,sB,sC,sD,sE,sF]
     have hXw:w.heap.size≤(World.heap u4).size:=HSZ
     generalize (World.heap u4).size=XDT at DT hXw ⊢
     generalize World.alloc u4 (.cells #[.int .i64 0,.slice none 0 0] 81)=u5 at D0 D2 D8 DT HOW DB hHeld ⊢
     have hne:=own_type HOW.out DT (by decide)
     have hT2:=ne_type DT D2 (by decide)
     obtain ⟨t0,t1,t2,t3,t4⟩:=lies.two DT
     refine wpAnyH_ready (rs:=[9]) (by kernel_rfl) (by simp) (AllReadyH.cons rfl (fun K hK=>?_) AllReadyH.nil)
     go_simp
     replace HOW:=Lib.hid (own_put (i:=1) (u:=(.slice a l c)) (own_put (i:=0) (u:=(.int .i64 na)) HOW.out hne) hne)
     replace D2:=lies.on_far (lies.on_far D2 (b:=XDT) 0 hT2.symm (.int .i64 na)) (b:=XDT) 1 hT2.symm (.slice a l c)
     have k0:=ne_type DT D0 (by decide)
     have k8:=ne_type DT D8 (by decide)
     replace D0:=lies.on_far (lies.on_far D0 (b:=XDT) 0 k0.symm (.int .i64 na)) (b:=XDT) 1 k0.symm (.slice a l c)
     replace D8:=lies.on_far (lies.on_far D8 (b:=XDT) 0 k8.symm (.int .i64 na)) (b:=XDT) 1 k8.symm (.slice a l c)
     replace DB:=(DB.setCell (p:=⟨XDT,0,none⟩) hXw (.int .i64 na)).setCell (p:=⟨XDT,1,none⟩) hXw (.slice a l c)
     replace DT:=put_two DT (.int .i64 na) (.slice a l c)
     refine hK.out _ _ ⟨D0,D8⟩ (fun hNew=>?_)
     clear t0 t1 t2 t3 t4
     clear hHeld hK K
     have hHeld:=hNew
     clear hNew
     try simp only [Act.put,sA,sB,sC,sD,sE,sF]
     refine tk 10 (v:=?_) rfl hHeld ?_ ?_
     rotate_left
     ·intro w hSw;skip;go_simp;try with_reducible rfl
     try simp only [Act.put,sA,sB,sC,sD,sE,sF]
     refine wpAnyH_done (by kernel_rfl) ?_ _
     clear hHeld D0 D8
     go_wp2_with fail
     go_meet
     exact ⟨_,_,_,_,_,_,_,rfl,rfl,DT,D2,DB,HOW.out,HR2⟩
    ·go_simp
     have HSZ:=DB.size
     have hA:=bound.up1 u3 (.cells #[.int .i64 0,.slice none 0 0] 81)
     have DT:=lies.made u3 81 #[.int .i64 0,.slice none 0 0]
     replace D0:=lies.on_call D0 hA
     replace D2:=lies.on_call D2 hA
     replace D8:=lies.on_call D8 hA
     replace G1:=lies.on_call G1 hA
     replace G2:=lies.on_call G2 hA
     replace DB:=later DB hA
     clear hA
     refine hK.out _ _ ⟨D0,D8⟩ (fun hNew=>?_)
     clear hHeld hK K
     have hHeld:=hNew
     clear hNew
     try simp only [Act.put,sA,sB,sC,sD,sE,sF]
     have hXw:w.heap.size≤(World.heap u3).size:=HSZ
     generalize (World.heap u3).size=XDT at DT hXw ⊢
     generalize World.alloc u3 (.cells #[.int .i64 0,.slice none 0 0] 81)=u4 at D0 D2 D8 G1 G2 DT DB hHeld ⊢
     refine wpAnyH_ready (rs:=[4]) (by kernel_rfl) (by simp) (AllReadyH.cons rfl (fun K hK=>?_) AllReadyH.nil)
     go_simp
     refine (tref.common_is 3 (.slice (some ⟨g1,0,none⟩) 9 9) g2 0 9 (fullT [z0,z1,z2,z3,z4,z5]) (fullT [o0,o1,o2,o3,o4,o5]) u4 (by decide) (by decide) (dlaw.own_ints (cap:=9) G1) (row_of G2) (lies.lt G2) rfl rfl HTF.out HML2.out).mono ?_
     intro e u5 hC
     obtain ⟨hB,na,a,l,c,us,bl,rfl,hR2,hO⟩:=tref.comm_one hC
     skip
     have HOW:=Lib.hid (own_low hO DB.size)
     have HR2:=Lib.hid hR2
     clear hO hR2 hC
     replace D0:=lies.on_call D0 hB
     replace D2:=lies.on_call D2 hB
     replace D8:=lies.on_call D8 hB
     replace G1:=lies.on_call G1 hB
     replace G2:=lies.on_call G2 hB
     replace DT:=lies.on_call DT hB
     replace DB:=later DB hB
     clear hB
     clear G1 G2
     refine hK.out _ _ ⟨D0,D8⟩ (fun hNew=>?_)
     clear hHeld hK K
     have hHeld:=hNew
     clear hNew
     try simp only [Act.put,sA,sB,sC,sD,sE,sF]
     refine tk 5 (v:=?_) rfl hHeld ?_ ?_
     rotate_left
     ·intro w hSw;skip;go_simp;try with_reducible rfl
     try simp only [Act.put,sA,sB,sC,sD,sE,sF]
     refine tk 6 (v:=?_) rfl hHeld ?_ ?_
     rotate_left
     ·intro w hSw;skip;go_simp;try with_reducible rfl
     try simp only [Act.put,sA,sB,sC,sD,sE,sF]
     refine tk 7 (v:=?_) rfl hHeld ?_ ?_
     rotate_left
     ·intro w hSw;skip;go_simp;try with_reducible rfl
     try simp only [Act.put,sA,sB,sC,sD,sE,sF]
     have hne:=own_type HOW.out DT (by decide)
     have hT2:=ne_type DT D2 (by decide)
     obtain ⟨t0,t1,t2,t3,t4⟩:=lies.two DT
     refine wpAnyH_ready (rs:=[9]) (by kernel_rfl) (by simp) (AllReadyH.cons rfl (fun K hK=>?_) AllReadyH.nil)
     go_simp
     replace HOW:=Lib.hid (own_put (i:=1) (u:=(.slice a l c)) (own_put (i:=0) (u:=(.int .i64 na)) HOW.out hne) hne)
     replace D2:=lies.on_far (lies.on_far D2 (b:=XDT) 0 hT2.symm (.int .i64 na)) (b:=XDT) 1 hT2.symm (.slice a l c)
     have k0:=ne_type DT D0 (by decide)
     have k8:=ne_type DT D8 (by decide)
     replace D0:=lies.on_far (lies.on_far D0 (b:=XDT) 0 k0.symm (.int .i64 na)) (b:=XDT) 1 k0.symm (.slice a l c)
     replace D8:=lies.on_far (lies.on_far D8 (b:=XDT) 0 k8.symm (.int .i64 na)) (b:=XDT) 1 k8.symm (.slice a l c)
     replace DB:=(DB.setCell (p:=⟨XDT,0,none⟩) hXw (.int .i64 na)).setCell (p:=⟨XDT,1,none⟩) hXw (.slice a l c)
     replace DT:=put_two DT (.int .i64 na) (.slice a l c)
     refine hK.out _ _ ⟨D0,D8⟩ (fun hNew=>?_)
     clear t0 t1 t2 t3 t4
     clear hHeld hK K
     have hHeld:=hNew
     clear hNew
     try simp only [Act.put,sA,sB,sC,sD,sE,sF]
     refine tk 10 (v:=?_) rfl hHeld ?_ ?_
     rotate_left
     ·intro w hSw;skip;go_simp;try with_reducible rfl
     try simp only [Act.put,sA,sB,sC,sD,sE,sF]
     refine wpAnyH_done (by kernel_rfl) ?_ _
     clear hHeld D0 D8
     go_wp2_with fail
     go_meet
     exact ⟨_,_,_,_,_,_,_,rfl,rfl,DT,D2,DB,HOW.out,HR2⟩
   ·go_simp
    have HSZ:=DB.size
    have hA:=bound.up1 u2 (.cells #[.int .i64 0,.slice none 0 0] 81)
    have DT:=lies.made u2 81 #[.int .i64 0,.slice none 0 0]
    replace D0:=lies.on_call D0 hA
    replace D2:=lies.on_call D2 hA
    replace D8:=lies.on_call D8 hA
    replace G1:=lies.on_call G1 hA
    replace DB:=later DB hA
    clear hA
    refine hK.out _ _ ⟨D0,D8⟩ (fun hNew=>?_)
    clear hHeld hK K
    have hHeld:=hNew
    clear hNew
    try simp only [Act.put,sA,sB,sC,sD,sE,sF]
    have hXw:w.heap.size≤(World.heap u2).size:=HSZ
    generalize (World.heap u2).size=XDT at DT hXw ⊢
    generalize World.alloc u2 (.cells #[.int .i64 0,.slice none 0 0] 81)=u3 at D0 D2 D8 G1 DT DB hHeld ⊢
    refine wpAnyH_ready (rs:=[3]) (by kernel_rfl) (by simp) (AllReadyH.cons rfl (fun K hK=>?_) AllReadyH.nil)
    go_simp
    refine (full_is o0 o1 o2 o3 o4 o5 u3).mono ?_
    rintro e u4 ⟨hB,g2,hg,rfl,G2⟩
    replace D0:=lies.on_call D0 hB
    replace D2:=lies.on_call D2 hB
    replace D8:=lies.on_call D8 hB
    replace G1:=lies.on_call G1 hB
    replace DT:=lies.on_call DT hB
    replace DB:=later DB hB
    clear hB
    clear hg
    refine hK.out _ _ ⟨D0,D8⟩ (fun hNew=>?_)
    clear hHeld hK K
    have hHeld:=hNew
    clear hNew
    try simp only [Act.put,sA,sB,sC,sD,sE,sF]
    refine wpAnyH_ready (rs:=[4]) (by kernel_rfl) (by simp) (AllReadyH.cons rfl (fun K hK=>?_) AllReadyH.nil)
    go_simp
    refine (tref.common_is 3 (.slice (some ⟨g1,0,none⟩) 9 9) g2 0 9 (fullT [z0,z1,z2,z3,z4,z5]) (fullT [o0,o1,o2,o3,o4,o5]) u4 (by decide) (by decide) (dlaw.own_ints (cap:=9) G1) (row_of G2) (lies.lt G2) rfl rfl HTF.out HML2.out).mono ?_
    intro e u5 hC
    obtain ⟨hB,na,a,l,c,us,bl,rfl,hR2,hO⟩:=tref.comm_one hC
    skip
    have HOW:=Lib.hid (own_low hO DB.size)
    have HR2:=Lib.hid hR2
    clear hO hR2 hC
    replace D0:=lies.on_call D0 hB
    replace D2:=lies.on_call D2 hB
    replace D8:=lies.on_call D8 hB
    replace G1:=lies.on_call G1 hB
    replace DT:=lies.on_call DT hB
    replace G2:=lies.on_call G2 hB
    replace DB:=later DB hB
    clear hB
    clear G1 G2
    refine hK.out _ _ ⟨D0,D8⟩ (fun hNew=>?_)
    clear hHeld hK K
    have hHeld:=hNew
    clear hNew
    try simp only [Act.put,sA,sB,sC,sD,sE,sF]
    refine tk 5 (v:=?_) rfl hHeld ?_ ?_
    rotate_left
    ·intro w hSw;skip;go_simp;try with_reducible rfl
    try simp only [Act.put,sA,sB,sC,sD,sE,sF]
    refine tk 6 (v:=?_) rfl hHeld ?_ ?_
    rotate_left
    ·intro w hSw;skip;go_simp;try with_reducible rfl
    try simp only [Act.put,sA,sB,sC,sD,sE,sF]
    refine tk 7 (v:=?_) rfl hHeld ?_ ?_
    rotate_left
    ·intro w hSw;skip;go_simp;try with_reducible rfl
    try simp only [Act.put,sA,sB,sC,sD,sE,sF]
    have hne:=own_type HOW.out DT (by decide)
    have hT2:=ne_type DT D2 (by decide)
    obtain ⟨t0,t1,t2,t3,t4⟩:=lies.two DT
    refine wpAnyH_ready (rs:=[9]) (by kernel_rfl) (by simp) (AllReadyH.cons rfl (fun K hK=>?_) AllReadyH.nil)
    go_simp
    replace HOW:=Lib.hid (own_put (i:=1) (u:=(.slice a l c)) (own_put (i:=0) (u:=(.int .i64 na)) HOW.out hne) hne)
    replace D2:=lies.on_far (lies.on_far D2 (b:=XDT) 0 hT2.symm (.int .i64 na)) (b:=XDT) 1 hT2.symm (.slice a l c)
    have k0:=ne_type DT D0 (by decide)
    have k8:=ne_type DT D8 (by decide)
    replace D0:=lies.on_far (lies.on_far D0 (b:=XDT) 0 k0.symm (.int .i64 na)) (b:=XDT) 1 k0.symm (.slice a l c)
    replace D8:=lies.on_far (lies.on_far D8 (b:=XDT) 0 k8.symm (.int .i64 na)) (b:=XDT) 1 k8.symm (.slice a l c)
    replace DB:=(DB.setCell (p:=⟨XDT,0,none⟩) hXw (.int .i64 na)).setCell (p:=⟨XDT,1,none⟩) hXw (.slice a l c)
    replace DT:=put_two DT (.int .i64 na) (.slice a l c)
    refine hK.out _ _ ⟨D0,D8⟩ (fun hNew=>?_)
    clear t0 t1 t2 t3 t4
    clear hHeld hK K
    have hHeld:=hNew
    clear hNew
    try simp only [Act.put,sA,sB,sC,sD,sE,sF]
    refine tk 10 (v:=?_) rfl hHeld ?_ ?_
    rotate_left
    ·intro w hSw;skip;go_simp;try with_reducible rfl
    try simp only [Act.put,sA,sB,sC,sD,sE,sF]
    refine wpAnyH_done (by kernel_rfl) ?_ _
    clear hHeld D0 D8
    go_wp2_with fail
    go_meet
    exact ⟨_,_,_,_,_,_,_,rfl,rfl,DT,D2,DB,HOW.out,HR2⟩
  ·go_simp
   have HSZ:=DB.size
   have hA:=bound.up1 wD (.cells #[.int .i64 0,.slice none 0 0] 81)
   have DT:=lies.made wD 81 #[.int .i64 0,.slice none 0 0]
   replace D0:=lies.on_call D0 hA
   replace D2:=lies.on_call D2 hA
   replace D8:=lies.on_call D8 hA
   replace DB:=later DB hA
   clear hA
   refine hK.out _ _ ⟨D0,D8⟩ (fun hNew=>?_)
   clear hHeld hK K
   have hHeld:=hNew
   clear hNew
   try simp only [Act.put,sA,sB,sC,sD,sE,sF]
   have hXw:w.heap.size≤(World.heap wD).size:=HSZ
   generalize (World.heap wD).size=XDT at DT hXw ⊢
   generalize World.alloc wD (.cells #[.int .i64 0,.slice none 0 0] 81)=u2 at D0 D2 D8 DT DB hHeld ⊢
   refine wpAnyH_ready (rs:=[1]) (by kernel_rfl) (by simp) (AllReadyH.cons rfl (fun K hK=>?_) AllReadyH.nil)
   go_simp
   refine (full_is z0 z1 z2 z3 z4 z5 u2).mono ?_
   rintro e u3 ⟨hB,g1,hg,rfl,G1⟩
   replace D0:=lies.on_call D0 hB
   replace D2:=lies.on_call D2 hB
   replace D8:=lies.on_call D8 hB
   replace DT:=lies.on_call DT hB
   replace DB:=later DB hB
   clear hB
   clear hg
   refine hK.out _ _ ⟨D0,D8⟩ (fun hNew=>?_)
   clear hHeld hK K
   have hHeld:=hNew
   clear hNew
   try simp only [Act.put,sA,sB,sC,sD,sE,sF]
   refine wpAnyH_ready (rs:=[3]) (by kernel_rfl) (by simp) (AllReadyH.cons rfl (fun K hK=>?_) AllReadyH.nil)
   go_simp
   refine (full_is o0 o1 o2 o3 o4 o5 u3).mono ?_
   rintro e u4 ⟨hB,g2,hg,rfl,G2⟩
   replace D0:=lies.on_call D0 hB
   replace D2:=lies.on_call D2 hB
   replace D8:=lies.on_call D8 hB
   replace DT:=lies.on_call DT hB
   replace G1:=lies.on_call G1 hB
   replace DB:=later DB hB
   clear hB
   clear hg
   refine hK.out _ _ ⟨D0,D8⟩ (fun hNew=>?_)
   clear hHeld hK K
   have hHeld:=hNew
   clear hNew
   try simp only [Act.put,sA,sB,sC,sD,sE,sF]
   refine wpAnyH_ready (rs:=[4]) (by kernel_rfl) (by simp) (AllReadyH.cons rfl (fun K hK=>?_) AllReadyH.nil)
   go_simp
   refine (tref.common_is 3 (.slice (some ⟨g1,0,none⟩) 9 9) g2 0 9 (fullT [z0,z1,z2,z3,z4,z5]) (fullT [o0,o1,o2,o3,o4,o5]) u4 (by decide) (by decide) (dlaw.own_ints (cap:=9) G1) (row_of G2) (lies.lt G2) rfl rfl HTF.out HML2.out).mono ?_
   intro e u5 hC
   obtain ⟨hB,na,a,l,c,us,bl,rfl,hR2,hO⟩:=tref.comm_one hC
   skip
   have HOW:=Lib.hid (own_low hO DB.size)
   have HR2:=Lib.hid hR2
   clear hO hR2 hC
   replace D0:=lies.on_call D0 hB
   replace D2:=lies.on_call D2 hB
   replace D8:=lies.on_call D8 hB
   replace DT:=lies.on_call DT hB
   replace G1:=lies.on_call G1 hB
   replace G2:=lies.on_call G2 hB
   replace DB:=later DB hB
   clear hB
   clear G1 G2
   refine hK.out _ _ ⟨D0,D8⟩ (fun hNew=>?_)
   clear hHeld hK K
   have hHeld:=hNew
   clear hNew
   try simp only [Act.put,sA,sB,sC,sD,sE,sF]
   refine tk 5 (v:=?_) rfl hHeld ?_ ?_
   rotate_left
   ·intro w hSw;skip;go_simp;try with_reducible rfl
   try simp only [Act.put,sA,sB,sC,sD,sE,sF]
   refine tk 6 (v:=?_) rfl hHeld ?_ ?_
   rotate_left
   ·intro w hSw;skip;go_simp;try with_reducible rfl
   try simp only [Act.put,sA,sB,sC,sD,sE,sF]
   refine tk 7 (v:=?_) rfl hHeld ?_ ?_
   rotate_left
   ·intro w hSw;skip;go_simp;try with_reducible rfl
   try simp only [Act.put,sA,sB,sC,sD,sE,sF]
   have hne:=own_type HOW.out DT (by decide)
   have hT2:=ne_type DT D2 (by decide)
   obtain ⟨t0,t1,t2,t3,t4⟩:=lies.two DT
   refine wpAnyH_ready (rs:=[9]) (by kernel_rfl) (by simp) (AllReadyH.cons rfl (fun K hK=>?_) AllReadyH.nil)
   go_simp
   replace HOW:=Lib.hid (own_put (i:=1) (u:=(.slice a l c)) (own_put (i:=0) (u:=(.int .i64 na)) HOW.out hne) hne)
   replace D2:=lies.on_far (lies.on_far D2 (b:=XDT) 0 hT2.symm (.int .i64 na)) (b:=XDT) 1 hT2.symm (.slice a l c)
   have k0:=ne_type DT D0 (by decide)
   have k8:=ne_type DT D8 (by decide)
   replace D0:=lies.on_far (lies.on_far D0 (b:=XDT) 0 k0.symm (.int .i64 na)) (b:=XDT) 1 k0.symm (.slice a l c)
   replace D8:=lies.on_far (lies.on_far D8 (b:=XDT) 0 k8.symm (.int .i64 na)) (b:=XDT) 1 k8.symm (.slice a l c)
   replace DB:=(DB.setCell (p:=⟨XDT,0,none⟩) hXw (.int .i64 na)).setCell (p:=⟨XDT,1,none⟩) hXw (.slice a l c)
   replace DT:=put_two DT (.int .i64 na) (.slice a l c)
   refine hK.out _ _ ⟨D0,D8⟩ (fun hNew=>?_)
   clear t0 t1 t2 t3 t4
   clear hHeld hK K
   have hHeld:=hNew
   clear hNew
   try simp only [Act.put,sA,sB,sC,sD,sE,sF]
   refine tk 10 (v:=?_) rfl hHeld ?_ ?_
   rotate_left
   ·intro w hSw;skip;go_simp;try with_reducible rfl
   try simp only [Act.put,sA,sB,sC,sD,sE,sF]
   refine wpAnyH_done (by kernel_rfl) ?_ _
   clear hHeld D0 D8
   go_wp2_with fail
   go_meet
   exact ⟨_,_,_,_,_,_,_,rfl,rfl,DT,D2,DB,HOW.out,HR2⟩
 case rest=>
  skip
  obtain ⟨T,na,a,l,c,us,bl,rfl,rfl,DT,D2,DB,hO,hR2⟩:=hcut
  rcases hR2.out with ⟨hno,rfl,rfl,rfl⟩ | ⟨hok,rfl,hu,rfl⟩
  ·have HN:=Lib.hid (show ¬ OkD 3 (lesT (fullT [z0,z1,z2,z3,z4,z5]) (fullT (oneZ i v))) from HOE.out ▸ hno)
   clear hno hO hR2
   obtain ⟨⟨x0,x1,x2,x3,x4,x5⟩,⟨y0,y1,y2,y3,y4,y5⟩,xl⟩:=six_cells D2
   clear D2 DT
   go_wp2_with fail
   exact bodyPost_ret (v:=.tuple #[.agg #[.int .i64 0,.int .i64 0,.int .i64 0,.int .i64 0,.int .i64 0,.int .i64 0],.int .i64 6]) (by simp [results,Tryz.results179,go_sem,x0,x1,x2,x3,x4,x5,xl]) rfl ⟨put_six DB hR _ _ _ _ _ _,0,0,0,0,0,0,6,rfl,.inl ⟨HN.out,rfl,rfl⟩⟩
  ·rw [HOE.out] at hok hu
   have h9:us.length=9:=by rw [hu];exact (clT_length hok).trans (lesT_length _ _)
   have hlo:Low us:=by rw [hu];exact cl_low (n:=3) (by decide) (by decide) (lesT_length _ _) HTL.out hok
   have hto:Tops us:=by rw [hu];exact clT_tops HTL.out
   obtain ⟨g,rfl,rfl⟩:∃ g,a=some ⟨g,0,none⟩∧l=9:=by
    rcases ownsRow_forms hO with ⟨_,h0⟩ | ⟨g,cap,hv⟩
    ·omega
    ·injection hv with h1 h2 h3
     exact ⟨g,h1,h2.trans h9⟩
   have HU:=Lib.hid hu
   have HOK:=Lib.hid hok
   have HO:=Lib.hid hO
   have HLO:=Lib.hid hlo
   have HTO:=Lib.hid hto
   have H9:=Lib.hid h9
   clear hu hok hO hlo hto h9 hR2
   obtain ⟨t0,t1,t2,t3,t4⟩:=lies.two DT
   go_wp2_with fail
   clear t0 t1 t2 t3 t4
   refine (dref.may_any 3 _ us _ (ints_row HO.out rfl) (by rw [H9.out];decide) HLO.out HTO.out).mono ?_
   rintro e v1 ⟨rfl,hB⟩
   replace DT:=lies.on_call DT hB
   replace D2:=lies.on_call D2 hB
   replace DB:=later DB hB
   replace HO:=Lib.hid (incl.own_call HO.out hB)
   clear hB
   by_cases hm:MayD 3 us
   ·have HM:=Lib.hid hm
    rw [decide_eq_true hm]
    clear hm
    obtain ⟨t0,t1,t2,t3,t4⟩:=lies.two DT
    go_wp2_with fail
    clear t0 t1 t2 t3 t4
    refine (short_is 3 g c us v1 (tref.own_row (by have:=HO.out;rw [H9.out] at this;exact this) H9.out) (HO.out.lt g rfl).2 H9.out).mono ?_
    rintro e v2 ⟨hB,y0,y1,y2,y3,y4,y5,rfl,hV⟩
    replace D2:=lies.on_call D2 hB
    replace DB:=later DB hB
    have HV2:=Lib.hid hV
    clear hB hV DT HO
    obtain ⟨⟨x0,x1,x2,x3,x4,x5⟩,⟨q0,q1,q2,q3,q4,q5⟩,xl⟩:=six_cells D2
    clear D2
    go_wp2_with fail
    exact bodyPost_ret (v:=.tuple #[.agg #[.int .i64 y0,.int .i64 y1,.int .i64 y2,.int .i64 y3,.int .i64 y4,.int .i64 y5],.int .i64 0]) (by simp [results,Tryz.results179,go_sem,x0,x1,x2,x3,x4,x5,xl]) rfl ⟨put_six DB hR _ _ _ _ _ _,y0,y1,y2,y3,y4,y5,0,rfl,.inr (.inr ⟨HOK.out,HU.out ▸ HM.out,by rw [←HU.out];exact HV2.out,rfl⟩)⟩
   ·have HM:=Lib.hid hm
    rw [decide_eq_false hm]
    clear hm DT HO
    obtain ⟨⟨x0,x1,x2,x3,x4,x5⟩,⟨y0,y1,y2,y3,y4,y5⟩,xl⟩:=six_cells D2
    clear D2
    go_wp2_with fail
    exact bodyPost_ret (v:=.tuple #[.agg #[.int .i64 0,.int .i64 0,.int .i64 0,.int .i64 0,.int .i64 0,.int .i64 0],.int .i64 8]) (by simp [results,Tryz.results179,go_sem,x0,x1,x2,x3,x4,x5,xl]) rfl ⟨put_six DB hR _ _ _ _ _ _,0,0,0,0,0,0,8,rfl,.inr (.inl ⟨HOK.out,fun q=>HM.out (HU.out ▸ q),rfl,rfl⟩)⟩
end Go.Proofs.YthmljpccbjolgaaGreatDoor.mref
namespace Go.Proofs.YthmljpccbjolgaaGreatDoor.mref
open Go.Joins Go.ChangeShapes Go.WideShapes Go.ChangeAt Go.RowKit num rat dbm dref Go.Proofs.YthmljpccbjolgaaGreatDoor.tight Go.Proofs.YthmljpccbjolgaaGreatDoor.incl Go.Proofs.YthmljpccbjolgaaGreatDoor.plaw Go.Proofs.YthmljpccbjolgaaGreatDoor.zopen Go.Proofs.YthmljpccbjolgaaGreatDoor.zone Go.Proofs.YthmljpccbjolgaaGreatDoor.win Go.Proofs.YthmljpccbjolgaaGreatDoor.minus Go.Proofs.YthmljpccbjolgaaGreatDoor.mz Go.Proofs.YthmljpccbjolgaaGreatDoor.mlaw Go.Proofs.YthmljpccbjolgaaGreatDoor.zref
open bound hiding up
set_option linter.unusedVariables false
set_option linter.unusedSimpArgs false
theorem far6 {W:World} {g R:Nat} {t:TypeId} {cs:Array Value} (h:lies.Lies W g t cs) (k:g≠R) (a b c d e f:Value):lies.Lies ((((((W.setCell ⟨R,0,none⟩ a).setCell ⟨R,1,none⟩ b).setCell ⟨R,2,none⟩ c).setCell ⟨R,3,none⟩ d).setCell ⟨R,4,none⟩ e).setCell ⟨R,5,none⟩ f) g t cs:=
 lies.on_far (lies.on_far (lies.on_far (lies.on_far (lies.on_far (lies.on_far h 0 k a) 1 k b) 2 k c) 3 k d) 4 k e) 5 k f
theorem at6 {W:World} {g k:Nat} {t:TypeId} {b0 b1 b2 b3 b4 b5 x:Int} (h:lies.Lies W g t #[.int .i64 b0,.int .i64 b1,.int .i64 b2,.int .i64 b3,.int .i64 b4,.int .i64 b5]) (hk:k<6) (hx:[b0,b1,b2,b3,b4,b5][k]?.getD 0=x):W.cell? ⟨g,k,none⟩=some (.int .i64 x):=by
 subst hx
 rcases minus.six_is hk with rfl | rfl | rfl | rfl | rfl | rfl
 ·exact lies.cell h 0
 ·exact lies.cell h 1
 ·exact lies.cell h 2
 ·exact lies.cell h 3
 ·exact lies.cell h 4
 ·exact lies.cell h 5
theorem less_at {b a:List Int} {k:Nat} {o:List (List Int)} {f:Int} (hk:k<6):LessR b (6 - k) a o f↔(if b[k]?.getD 0=9223372036854775807 then LessR b (6 - (k+1)) a o f else
   ∃ z e,CutR a (oneZ (oth k) (1 - b[k]?.getD 0)) z e∧
    ((e=8∧o=[]∧f=8)∨(e≠8∧∃ y g,CutR a (oneZ k (b[k]?.getD 0)) y g∧
     ((g=6∧o=pre e z∧f=0)∨(g=8∧o=[]∧f=8)∨(g=0∧∃ l,LessR b (6 - (k+1)) y l f∧o=if f=0 then pre e z++l else []))))):=by
 rw [show 6 - k=(5 - k)+1 by omega]
 conv=>lhs;unfold LessR
 rw [show 5 - (5 - k)=k by omega,show 6 - (k+1)=5 - k by omega]
theorem other_is (x:Int) (w:World) (hx:Fine x) (hn:x≠9223372036854775807):Calls Tryz.prog 181 #[.int .i64 x] w fun e w'=>e=.returned (.int .i64 (1 - x))∧w=w':=by
 have h:=hx.resolve_left hn
 have hm:May (x / 2):=by unfold May;omega
 have e:mk (-(x / 2)) (!bS x)=1 - x:=by
  rw [←(not_is hx hn).1]
  unfold notV
  rw [if_pos hm]
 rw [←e]
 exact other_ok x w hm
def Ll (w:World) (c0 c1 c2 c3 c4 c5 b0 b1 b2 b3 b4 b5:Int) (v:Value) (out:List (List Int)) (W:World):Prop:=
 lies.Lies W w.heap.size 27 #[.int .i64 c0,.int .i64 c1,.int .i64 c2,.int .i64 c3,.int .i64 c4,.int .i64 c5]∧lies.Lies W (w.heap.size+1) 27 #[.int .i64 b0,.int .i64 b1,.int .i64 b2,.int .i64 b3,.int .i64 b4,.int .i64 b5]∧W.ownsRow (w.heap.size+1+1) 27 6 v out.length (flatZ out)∧Below w.heap.size w W
theorem Ll.below {w:World} {c0 c1 c2 c3 c4 c5 b0 b1 b2 b3 b4 b5:Int} {v:Value} {out:List (List Int)} {X Y:World} (h:Ll w c0 c1 c2 c3 c4 c5 b0 b1 b2 b3 b4 b5 v out X) (k:Below X.heap.size X Y):Ll w c0 c1 c2 c3 c4 c5 b0 b1 b2 b3 b4 b5 v out Y:=⟨lies.on_call h.1 k,lies.on_call h.2.1 k,incl.own_call h.2.2.1 k,later h.2.2.2 k⟩
theorem Ll.far {w:World} {c0 c1 c2 c3 c4 c5 b0 b1 b2 b3 b4 b5:Int} {v:Value} {out:List (List Int)} {X:World} {T:Nat} (h:Ll w c0 c1 c2 c3 c4 c5 b0 b1 b2 b3 b4 b5 v out X) (hT:w.heap.size+1<T) (hv:∀ g,v.ownBlock=some g→g≠T) (p0 p1 p2 p3 p4 p5:Value):
  Ll w c0 c1 c2 c3 c4 c5 b0 b1 b2 b3 b4 b5 v out ((((((X.setCell ⟨T,0,none⟩ p0).setCell ⟨T,1,none⟩ p1).setCell ⟨T,2,none⟩ p2).setCell ⟨T,3,none⟩ p3).setCell ⟨T,4,none⟩ p4).setCell ⟨T,5,none⟩ p5):=
 ⟨far6 h.1 (by omega) _ _ _ _ _ _,far6 h.2.1 (by omega) _ _ _ _ _ _,own_put (own_put (own_put (own_put (own_put (own_put h.2.2.1 hv) hv) hv) hv) hv) hv,put_six h.2.2.2 (by omega) _ _ _ _ _ _⟩
theorem Ll.own {w:World} {c0 c1 c2 c3 c4 c5 b0 b1 b2 b3 b4 b5:Int} {v:Value} {out:List (List Int)} {X:World} (h:Ll w c0 c1 c2 c3 c4 c5 b0 b1 b2 b3 b4 b5 v out X) (y0 y1 y2 y3 y4 y5:Int):
  Ll w y0 y1 y2 y3 y4 y5 b0 b1 b2 b3 b4 b5 v out ((((((X.setCell ⟨w.heap.size,0,none⟩ (.int .i64 y0)).setCell ⟨w.heap.size,1,none⟩ (.int .i64 y1)).setCell ⟨w.heap.size,2,none⟩ (.int .i64 y2)).setCell ⟨w.heap.size,3,none⟩ (.int .i64 y3)).setCell ⟨w.heap.size,4,none⟩ (.int .i64 y4)).setCell ⟨w.heap.size,5,none⟩ (.int .i64 y5)):=by
 have hv:∀ g,v.ownBlock=some g→g≠w.heap.size:=fun g e=>by have:=(h.2.2.1.lt g e).1;omega
 exact ⟨put_sixL h.1 _ _ _ _ _ _,far6 h.2.1 (by omega) _ _ _ _ _ _,own_put (own_put (own_put (own_put (own_put (own_put h.2.2.1 hv) hv) hv) hv) hv) hv,put_six h.2.2.2 (Nat.le_refl _) _ _ _ _ _ _⟩
theorem Ll.new {w:World} {c0 c1 c2 c3 c4 c5 b0 b1 b2 b3 b4 b5:Int} {v:Value} {out:List (List Int)} {X:World} (h:Ll w c0 c1 c2 c3 c4 c5 b0 b1 b2 b3 b4 b5 v out X):w.heap.size+1<X.heap.size∧∀ g,v.ownBlock=some g→g≠X.heap.size:=
 ⟨lies.lt h.2.1,fun g e=>by have:=(h.2.2.1.lt g e).2;omega⟩
set_option maxRecDepth 100000 in
set_option maxHeartbeats 32000000 in
theorem less_any (a0 a1 a2 a3 a4 a5 b0 b1 b2 b3 b4 b5:Int) (w:World) (za:Zo [a0,a1,a2,a3,a4,a5]) (zb:Zo [b0,b1,b2,b3,b4,b5]):Calls Tryz.prog 129 #[.agg #[.int .i64 a0,.int .i64 a1,.int .i64 a2,.int .i64 a3,.int .i64 a4,.int .i64 a5],.agg #[.int .i64 b0,.int .i64 b1,.int .i64 b2,.int .i64 b3,.int .i64 b4,.int .i64 b5]] w (Zans (LessR [b0,b1,b2,b3,b4,b5] 6 [a0,a1,a2,a3,a4,a5]) w):=by
 have HB:=Lib.hid zb
 have HA:=Lib.hid za
 have X:∃ w0,w0=(w.alloc (.cells #[.int .i64 a0,.int .i64 a1,.int .i64 a2,.int .i64 a3,.int .i64 a4,.int .i64 a5] 27)).alloc (.cells #[.int .i64 b0,.int .i64 b1,.int .i64 b2,.int .i64 b3,.int .i64 b4,.int .i64 b5] 27):=⟨_,rfl⟩
 obtain ⟨w0,hX⟩:=X
 have L0:Ll w a0 a1 a2 a3 a4 a5 b0 b1 b2 b3 b4 b5 (.slice none 0 0) [] w0:=⟨by rw [hX];exact lies.on_alloc (lies.made _ _ _) _,by rw [hX];exact lies.made_at _ _ _ _ (by simp),World.ownsRow_nil _ _ _ _,by rw [hX];exact bound.up2 _ _ _⟩
 clear za zb
 go_enter Tryz.func129,Tryz.ntmps129
 go_wp2_with fail
 rw [←hX]
 clear hX
 go_loopw [7,6] (fun i v wr=>∃ (k:Nat) (c0 c1 c2 c3 c4 c5:Int) (out:List (List Int)),k≤6∧i=.int .i64 k∧Ll w c0 c1 c2 c3 c4 c5 b0 b1 b2 b3 b4 b5 v out wr∧out.length≤k∧RowKit.Hid (Zo [c0,c1,c2,c3,c4,c5])∧RowKit.Hid (∀ o f,LessR [b0,b1,b2,b3,b4,b5] (6 - k) [c0,c1,c2,c3,c4,c5] o f→LessR [b0,b1,b2,b3,b4,b5] 6 [a0,a1,a2,a3,a4,a5] (if f=0 then out++o else []) f)) (fun i _ _=>6 - (intOf i).toNat)
 case atStart=>exact ⟨0,a0,a1,a2,a3,a4,a5,[],Nat.zero_le _,rfl,L0,Nat.le_refl _,HA,Lib.hid (fun o f h=>by
  by_cases e:f=0
  ·rw [if_pos e];exact h
  ·rw [if_neg e]
   rcases less_err 6 h with q | ⟨_,q⟩
   ·exact (e q).elim
   ·rw [←q];exact h)⟩
 case round=>
  clear L0
  obtain ⟨k,c0,c1,c2,c3,c4,c5,out,hk,rfl,hL,hlen,HC,HK⟩:=hrel
  obtain ⟨ov,oc,rfl⟩:=zs_len (zs_own hL.2.2.1)
  by_cases hk6:k<6
  ·skip
   obtain ⟨x,hx⟩:∃ x,[b0,b1,b2,b3,b4,b5][k]?.getD 0=x:=⟨_,rfl⟩
   have hfx:Fine x:=by rw [←hx];exact comp.six_fine HB.out.1.may k hk6
   have cx:=at6 hL.2.1 hk6 hx
   have hbl:=lies.lt hL.2.1
   have HX:=Lib.hid hx
   have HFX:=Lib.hid hfx
   clear hx hfx
   by_cases hn:x=9223372036854775807
   ·skip
    subst hn
    go_wp2_with fail
    go_roundw
    case rel=>exact ⟨k+1,c0,c1,c2,c3,c4,c5,out,by omega,by go_num,hL,by omega,HC,Lib.hid (fun o f h=>HK.out o f ((less_at hk6).2 (by rw [HX.out,if_pos rfl];exact h)))⟩
    case measure=>simp [intOf];omega
   ·skip
    have hnb:(x==9223372036854775807)=false:=by simpa using hn
    obtain ⟨_,fn,nn⟩:=not_is HFX.out hn
    have HFN:=Lib.hid fn
    have HNN:=Lib.hid nn
    clear fn nn
    go_upto_region 6 with fail
    try clear cx
    go_cut [8,9,56] from 12 (fun s8 s9 s56 wx=>∃ (WX:World) (T:Nat) (y0 y1 y2 y3 y4 y5 e:Int),s56=undef∧WX=wx∧s8=.pointer (some ⟨T,0,none⟩)∧s9=.int .i64 e∧lies.Lies wx T 27 #[.int .i64 y0,.int .i64 y1,.int .i64 y2,.int .i64 y3,.int .i64 y4,.int .i64 y5]∧Ll w c0 c1 c2 c3 c4 c5 b0 b1 b2 b3 b4 b5 (.slice ov out.length oc) out wx∧RowKit.Hid (CutR [c0,c1,c2,c3,c4,c5] (oneZ (oth k) (1 - x)) [y0,y1,y2,y3,y4,y5] e))
    case first=>
     have hDr:=dbm.drawn1 (Below.refl wr.heap.size wr)
     replace hL:=hL.below hDr
     clear hDr
     refine wp_region_held_drew (S:=fun W=>lies.Lies W w.heap.size 27 #[.int .i64 c0,.int .i64 c1,.int .i64 c2,.int .i64 c3,.int .i64 c4,.int .i64 c5]∧lies.Lies W (w.heap.size+1) 27 #[.int .i64 b0,.int .i64 b1,.int .i64 b2,.int .i64 b3,.int .i64 b4,.int .i64 b5]) (by kernel_rfl) ⟨hL.1,hL.2.1⟩ (fun hHeld=>?_)
     generalize wr.drew=wD at hL hHeld ⊢
     refine tk 0 (v:=?_) rfl hHeld ?_ ?_
     rotate_left
     ·intro w hSw;obtain ⟨⟨p0,p1,p2,p3,p4,p5⟩,_⟩:=six_cells hSw.1;have cx:=at6 hSw.2 hk6 HX.out;go_simp;try with_reducible rfl
     try simp only [Act.put,sA,sB,sC,sD,sE,sF]
     refine tk 1 (v:=?_) rfl hHeld ?_ ?_
     rotate_left
     ·intro w hSw;obtain ⟨⟨p0,p1,p2,p3,p4,p5⟩,_⟩:=six_cells hSw.1;have cx:=at6 hSw.2 hk6 HX.out;go_simp;try with_reducible rfl
     try simp only [Act.put,sA,sB,sC,sD,sE,sF]
     refine tk 3 (v:=?_) rfl hHeld ?_ ?_
     rotate_left
     ·intro w hSw;obtain ⟨⟨p0,p1,p2,p3,p4,p5⟩,_⟩:=six_cells hSw.1;have cx:=at6 hSw.2 hk6 HX.out;go_simp;try with_reducible rfl
     try simp only [Act.put,sA,sB,sC,sD,sE,sF]
     refine tk 4 (v:=?_) rfl hHeld ?_ ?_
     rotate_left
     ·intro w hSw;obtain ⟨⟨p0,p1,p2,p3,p4,p5⟩,_⟩:=six_cells hSw.1;have cx:=at6 hSw.2 hk6 HX.out;go_simp;try with_reducible rfl
     try simp only [Act.put,sA,sB,sC,sD,sE,sF]
     refine tk 5 (v:=?_) rfl hHeld ?_ ?_
     rotate_left
     ·intro w hSw;obtain ⟨⟨p0,p1,p2,p3,p4,p5⟩,_⟩:=six_cells hSw.1;have cx:=at6 hSw.2 hk6 HX.out;go_simp;try with_reducible rfl
     try simp only [Act.put,sA,sB,sC,sD,sE,sF]
     refine wpAnyH_ready (rs:=[2,11]) (by kernel_rfl) (by simp) (AllReadyH.cons rfl (fun K hK=>?_) (AllReadyH.cons rfl (fun K hK=>?_) AllReadyH.nil))
     ·go_simp
      refine (oth_is k hk6 wD).mono ?_
      rintro e wN ⟨rfl,hw⟩
      subst hw
      refine hK.out _ _ ⟨hL.1,hL.2.1⟩ (fun hNew=>?_)
      clear hHeld hK K
      have hHeld:=hNew
      clear hNew
      try simp only [Act.put,sA,sB,sC,sD,sE,sF]
      refine wpAnyH_ready (rs:=[6,11]) (by kernel_rfl) (by simp) (AllReadyH.cons rfl (fun K hK=>?_) (AllReadyH.cons rfl (fun K hK=>?_) AllReadyH.nil))
      ·go_simp
       refine (other_is x wD HFX.out hn).mono ?_
       rintro e wN ⟨rfl,hw⟩
       subst hw
       refine hK.out _ _ ⟨hL.1,hL.2.1⟩ (fun hNew=>?_)
       clear hHeld hK K
       have hHeld:=hNew
       clear hNew
       try simp only [Act.put,sA,sB,sC,sD,sE,sF]
       refine wpAnyH_ready (rs:=[7,11]) (by kernel_rfl) (by simp) (AllReadyH.cons rfl (fun K hK=>?_) (AllReadyH.cons rfl (fun K hK=>?_) AllReadyH.nil))
       ·go_simp
        refine (with_any c0 c1 c2 c3 c4 c5 (oth k) (1 - x) wD (oth_lt hk6) HC.out.1 HC.out.2.1 HFN.out).mono ?_
        rintro e wc3 ⟨hB,y0,y1,y2,y3,y4,y5,e,rfl,hcut⟩
        have HCUT:=Lib.hid hcut
        clear hcut
        replace hL:=hL.below hB
        clear hB
        refine hK.out _ _ ⟨hL.1,hL.2.1⟩ (fun hNew=>?_)
        clear hHeld hK K
        have hHeld:=hNew
        clear hNew
        try simp only [Act.put,sA,sB,sC,sD,sE,sF]
        refine tk 8 (v:=?_) rfl hHeld ?_ ?_
        rotate_left
        ·intro w hSw;skip;go_simp;try with_reducible rfl
        try simp only [Act.put,sA,sB,sC,sD,sE,sF]
        refine tk 9 (v:=?_) rfl hHeld ?_ ?_
        rotate_left
        ·intro w hSw;skip;go_simp;try with_reducible rfl
        try simp only [Act.put,sA,sB,sC,sD,sE,sF]
        refine tk 10 (v:=?_) rfl hHeld ?_ ?_
        rotate_left
        ·intro w hSw;skip;go_simp;try with_reducible rfl
        try simp only [Act.put,sA,sB,sC,sD,sE,sF]
        refine wpAnyH_ready (rs:=[11]) (by kernel_rfl) (by simp) (AllReadyH.cons rfl (fun K hK=>?_) AllReadyH.nil)
        go_simp
        have hA:=bound.up1 wc3 (.cells #[.int .i64 0,.int .i64 0,.int .i64 0,.int .i64 0,.int .i64 0,.int .i64 0] 27)
        have DT:=lies.made wc3 27 #[.int .i64 0,.int .i64 0,.int .i64 0,.int .i64 0,.int .i64 0,.int .i64 0]
        obtain ⟨hT1,hT2⟩:=hL.new
        replace hL:=hL.below hA
        clear hA
        refine hK.out _ _ ⟨hL.1,hL.2.1⟩ (fun hNew=>?_)
        clear hHeld hK K
        have hHeld:=hNew
        clear hNew
        try simp only [Act.put,sA,sB,sC,sD,sE,sF]
        generalize (World.heap wc3).size=T at DT hT1 hT2 ⊢
        generalize World.alloc wc3 (.cells #[.int .i64 0,.int .i64 0,.int .i64 0,.int .i64 0,.int .i64 0,.int .i64 0] 27)=wa4 at DT hL hHeld ⊢
        obtain ⟨⟨q0,q1,q2,q3,q4,q5⟩,⟨r0,r1,r2,r3,r4,r5⟩,ql⟩:=six_cells DT
        refine wpAnyH_ready (rs:=[12]) (by kernel_rfl) (by simp) (AllReadyH.cons rfl (fun K hK=>?_) AllReadyH.nil)
        go_simp
        replace hL:=hL.far hT1 hT2 (.int .i64 y0) (.int .i64 y1) (.int .i64 y2) (.int .i64 y3) (.int .i64 y4) (.int .i64 y5)
        replace DT:=put_sixL DT (.int .i64 y0) (.int .i64 y1) (.int .i64 y2) (.int .i64 y3) (.int .i64 y4) (.int .i64 y5)
        refine hK.out _ _ ⟨hL.1,hL.2.1⟩ (fun hNew=>?_)
        clear q0 q1 q2 q3 q4 q5 r0 r1 r2 r3 r4 r5 ql
        clear hHeld hK K
        have hHeld:=hNew
        clear hNew
        try simp only [Act.put,sA,sB,sC,sD,sE,sF]
        generalize World.setCell (World.setCell (World.setCell (World.setCell (World.setCell (World.setCell (wa4) ⟨T,0,none⟩ (.int .i64 y0)) ⟨T,1,none⟩ (.int .i64 y1)) ⟨T,2,none⟩ (.int .i64 y2)) ⟨T,3,none⟩ (.int .i64 y3)) ⟨T,4,none⟩ (.int .i64 y4)) ⟨T,5,none⟩ (.int .i64 y5)=wS at DT hL hHeld ⊢
        refine tk 13 (v:=?_) rfl hHeld ?_ ?_
        rotate_left
        ·intro w hSw;skip;go_simp;try with_reducible rfl
        try simp only [Act.put,sA,sB,sC,sD,sE,sF]
        refine wpAnyH_done (by kernel_rfl) ?_ _
        clear hHeld
        go_wp2_with fail
        go_meet
        exact ⟨_,_,_,_,_,_,_,_,_,rfl,rfl,rfl,rfl,DT,hL,HCUT⟩
       ·go_simp
        have hA:=bound.up1 wD (.cells #[.int .i64 0,.int .i64 0,.int .i64 0,.int .i64 0,.int .i64 0,.int .i64 0] 27)
        have DT:=lies.made wD 27 #[.int .i64 0,.int .i64 0,.int .i64 0,.int .i64 0,.int .i64 0,.int .i64 0]
        obtain ⟨hT1,hT2⟩:=hL.new
        replace hL:=hL.below hA
        clear hA
        refine hK.out _ _ ⟨hL.1,hL.2.1⟩ (fun hNew=>?_)
        clear hHeld hK K
        have hHeld:=hNew
        clear hNew
        try simp only [Act.put,sA,sB,sC,sD,sE,sF]
        generalize (World.heap wD).size=T at DT hT1 hT2 ⊢
        generalize World.alloc wD (.cells #[.int .i64 0,.int .i64 0,.int .i64 0,.int .i64 0,.int .i64 0,.int .i64 0] 27)=wa5 at DT hL hHeld ⊢
        refine wpAnyH_ready (rs:=[7]) (by kernel_rfl) (by simp) (AllReadyH.cons rfl (fun K hK=>?_) AllReadyH.nil)
        go_simp
        refine (with_any c0 c1 c2 c3 c4 c5 (oth k) (1 - x) wa5 (oth_lt hk6) HC.out.1 HC.out.2.1 HFN.out).mono ?_
        rintro e wc6 ⟨hB,y0,y1,y2,y3,y4,y5,e,rfl,hcut⟩
        have HCUT:=Lib.hid hcut
        clear hcut
        replace hL:=hL.below hB
        replace DT:=lies.on_call DT hB
        clear hB
        refine hK.out _ _ ⟨hL.1,hL.2.1⟩ (fun hNew=>?_)
        clear hHeld hK K
        have hHeld:=hNew
        clear hNew
        try simp only [Act.put,sA,sB,sC,sD,sE,sF]
        refine tk 8 (v:=?_) rfl hHeld ?_ ?_
        rotate_left
        ·intro w hSw;skip;go_simp;try with_reducible rfl
        try simp only [Act.put,sA,sB,sC,sD,sE,sF]
        refine tk 9 (v:=?_) rfl hHeld ?_ ?_
        rotate_left
        ·intro w hSw;skip;go_simp;try with_reducible rfl
        try simp only [Act.put,sA,sB,sC,sD,sE,sF]
        refine tk 10 (v:=?_) rfl hHeld ?_ ?_
        rotate_left
        ·intro w hSw;skip;go_simp;try with_reducible rfl
        try simp only [Act.put,sA,sB,sC,sD,sE,sF]
        obtain ⟨⟨q0,q1,q2,q3,q4,q5⟩,⟨r0,r1,r2,r3,r4,r5⟩,ql⟩:=six_cells DT
        refine wpAnyH_ready (rs:=[12]) (by kernel_rfl) (by simp) (AllReadyH.cons rfl (fun K hK=>?_) AllReadyH.nil)
        go_simp
        replace hL:=hL.far hT1 hT2 (.int .i64 y0) (.int .i64 y1) (.int .i64 y2) (.int .i64 y3) (.int .i64 y4) (.int .i64 y5)
        replace DT:=put_sixL DT (.int .i64 y0) (.int .i64 y1) (.int .i64 y2) (.int .i64 y3) (.int .i64 y4) (.int .i64 y5)
        refine hK.out _ _ ⟨hL.1,hL.2.1⟩ (fun hNew=>?_)
        clear q0 q1 q2 q3 q4 q5 r0 r1 r2 r3 r4 r5 ql
        clear hHeld hK K
        have hHeld:=hNew
        clear hNew
        try simp only [Act.put,sA,sB,sC,sD,sE,sF]
        generalize World.setCell (World.setCell (World.setCell (World.setCell (World.setCell (World.setCell (wc6) ⟨T,0,none⟩ (.int .i64 y0)) ⟨T,1,none⟩ (.int .i64 y1)) ⟨T,2,none⟩ (.int .i64 y2)) ⟨T,3,none⟩ (.int .i64 y3)) ⟨T,4,none⟩ (.int .i64 y4)) ⟨T,5,none⟩ (.int .i64 y5)=wS at DT hL hHeld ⊢
        refine tk 13 (v:=?_) rfl hHeld ?_ ?_
        rotate_left
        ·intro w hSw;skip;go_simp;try with_reducible rfl
        try simp only [Act.put,sA,sB,sC,sD,sE,sF]
        refine wpAnyH_done (by kernel_rfl) ?_ _
        clear hHeld
        go_wp2_with fail
        go_meet
        exact ⟨_,_,_,_,_,_,_,_,_,rfl,rfl,rfl,rfl,DT,hL,HCUT⟩
      ·go_simp
       have hA:=bound.up1 wD (.cells #[.int .i64 0,.int .i64 0,.int .i64 0,.int .i64 0,.int .i64 0,.int .i64 0] 27)
       have DT:=lies.made wD 27 #[.int .i64 0,.int .i64 0,.int .i64 0,.int .i64 0,.int .i64 0,.int .i64 0]
       obtain ⟨hT1,hT2⟩:=hL.new
       replace hL:=hL.below hA
       clear hA
       refine hK.out _ _ ⟨hL.1,hL.2.1⟩ (fun hNew=>?_)
       clear hHeld hK K
       have hHeld:=hNew
       clear hNew
       try simp only [Act.put,sA,sB,sC,sD,sE,sF]
       generalize (World.heap wD).size=T at DT hT1 hT2 ⊢
       generalize World.alloc wD (.cells #[.int .i64 0,.int .i64 0,.int .i64 0,.int .i64 0,.int .i64 0,.int .i64 0] 27)=wa7 at DT hL hHeld ⊢
       refine wpAnyH_ready (rs:=[6]) (by kernel_rfl) (by simp) (AllReadyH.cons rfl (fun K hK=>?_) AllReadyH.nil)
       go_simp
       refine (other_is x wa7 HFX.out hn).mono ?_
       rintro e wN ⟨rfl,hw⟩
       subst hw
       refine hK.out _ _ ⟨hL.1,hL.2.1⟩ (fun hNew=>?_)
       clear hHeld hK K
       have hHeld:=hNew
       clear hNew
       try simp only [Act.put,sA,sB,sC,sD,sE,sF]
       refine wpAnyH_ready (rs:=[7]) (by kernel_rfl) (by simp) (AllReadyH.cons rfl (fun K hK=>?_) AllReadyH.nil)
       go_simp
       refine (with_any c0 c1 c2 c3 c4 c5 (oth k) (1 - x) wa7 (oth_lt hk6) HC.out.1 HC.out.2.1 HFN.out).mono ?_
       rintro e wc9 ⟨hB,y0,y1,y2,y3,y4,y5,e,rfl,hcut⟩
       have HCUT:=Lib.hid hcut
       clear hcut
       replace hL:=hL.below hB
       replace DT:=lies.on_call DT hB
       clear hB
       refine hK.out _ _ ⟨hL.1,hL.2.1⟩ (fun hNew=>?_)
       clear hHeld hK K
       have hHeld:=hNew
       clear hNew
       try simp only [Act.put,sA,sB,sC,sD,sE,sF]
       refine tk 8 (v:=?_) rfl hHeld ?_ ?_
       rotate_left
       ·intro w hSw;skip;go_simp;try with_reducible rfl
       try simp only [Act.put,sA,sB,sC,sD,sE,sF]
       refine tk 9 (v:=?_) rfl hHeld ?_ ?_
       rotate_left
       ·intro w hSw;skip;go_simp;try with_reducible rfl
       try simp only [Act.put,sA,sB,sC,sD,sE,sF]
       refine tk 10 (v:=?_) rfl hHeld ?_ ?_
       rotate_left
       ·intro w hSw;skip;go_simp;try with_reducible rfl
       try simp only [Act.put,sA,sB,sC,sD,sE,sF]
       obtain ⟨⟨q0,q1,q2,q3,q4,q5⟩,⟨r0,r1,r2,r3,r4,r5⟩,ql⟩:=six_cells DT
       refine wpAnyH_ready (rs:=[12]) (by kernel_rfl) (by simp) (AllReadyH.cons rfl (fun K hK=>?_) AllReadyH.nil)
       go_simp
       replace hL:=hL.far hT1 hT2 (.int .i64 y0) (.int .i64 y1) (.int .i64 y2) (.int .i64 y3) (.int .i64 y4) (.int .i64 y5)
       replace DT:=put_sixL DT (.int .i64 y0) (.int .i64 y1) (.int .i64 y2) (.int .i64 y3) (.int .i64 y4) (.int .i64 y5)
       refine hK.out _ _ ⟨hL.1,hL.2.1⟩ (fun hNew=>?_)
       clear q0 q1 q2 q3 q4 q5 r0 r1 r2 r3 r4 r5 ql
       clear hHeld hK K
       have hHeld:=hNew
       clear hNew
       try simp only [Act.put,sA,sB,sC,sD,sE,sF]
       generalize World.setCell (World.setCell (World.setCell (World.setCell (World.setCell (World.setCell (wc9) ⟨T,0,none⟩ (.int .i64 y0)) ⟨T,1,none⟩ (.int .i64 y1)) ⟨T,2,none⟩ (.int .i64 y2)) ⟨T,3,none⟩ (.int .i64 y3)) ⟨T,4,none⟩ (.int .i64 y4)) ⟨T,5,none⟩ (.int .i64 y5)=wS at DT hL hHeld ⊢
       refine tk 13 (v:=?_) rfl hHeld ?_ ?_
       rotate_left
       ·intro w hSw;skip;go_simp;try with_reducible rfl
       try simp only [Act.put,sA,sB,sC,sD,sE,sF]
       refine wpAnyH_done (by kernel_rfl) ?_ _
       clear hHeld
       go_wp2_with fail
       go_meet
       exact ⟨_,_,_,_,_,_,_,_,_,rfl,rfl,rfl,rfl,DT,hL,HCUT⟩
     ·go_simp
      have hA:=bound.up1 wD (.cells #[.int .i64 0,.int .i64 0,.int .i64 0,.int .i64 0,.int .i64 0,.int .i64 0] 27)
      have DT:=lies.made wD 27 #[.int .i64 0,.int .i64 0,.int .i64 0,.int .i64 0,.int .i64 0,.int .i64 0]
      obtain ⟨hT1,hT2⟩:=hL.new
      replace hL:=hL.below hA
      clear hA
      refine hK.out _ _ ⟨hL.1,hL.2.1⟩ (fun hNew=>?_)
      clear hHeld hK K
      have hHeld:=hNew
      clear hNew
      try simp only [Act.put,sA,sB,sC,sD,sE,sF]
      generalize (World.heap wD).size=T at DT hT1 hT2 ⊢
      generalize World.alloc wD (.cells #[.int .i64 0,.int .i64 0,.int .i64 0,.int .i64 0,.int .i64 0,.int .i64 0] 27)=wa10 at DT hL hHeld ⊢
      refine wpAnyH_ready (rs:=[2]) (by kernel_rfl) (by simp) (AllReadyH.cons rfl (fun K hK=>?_) AllReadyH.nil)
      go_simp
      refine (oth_is k hk6 wa10).mono ?_
      rintro e wN ⟨rfl,hw⟩
      subst hw
      refine hK.out _ _ ⟨hL.1,hL.2.1⟩ (fun hNew=>?_)
      clear hHeld hK K
      have hHeld:=hNew
      clear hNew
      try simp only [Act.put,sA,sB,sC,sD,sE,sF]
      refine wpAnyH_ready (rs:=[6]) (by kernel_rfl) (by simp) (AllReadyH.cons rfl (fun K hK=>?_) AllReadyH.nil)
      go_simp
      refine (other_is x wa10 HFX.out hn).mono ?_
      rintro e wN ⟨rfl,hw⟩
      subst hw
      refine hK.out _ _ ⟨hL.1,hL.2.1⟩ (fun hNew=>?_)
      clear hHeld hK K
      have hHeld:=hNew
      clear hNew
      try simp only [Act.put,sA,sB,sC,sD,sE,sF]
      refine wpAnyH_ready (rs:=[7]) (by kernel_rfl) (by simp) (AllReadyH.cons rfl (fun K hK=>?_) AllReadyH.nil)
      go_simp
      refine (with_any c0 c1 c2 c3 c4 c5 (oth k) (1 - x) wa10 (oth_lt hk6) HC.out.1 HC.out.2.1 HFN.out).mono ?_
      rintro e wc13 ⟨hB,y0,y1,y2,y3,y4,y5,e,rfl,hcut⟩
      have HCUT:=Lib.hid hcut
      clear hcut
      replace hL:=hL.below hB
      replace DT:=lies.on_call DT hB
      clear hB
      refine hK.out _ _ ⟨hL.1,hL.2.1⟩ (fun hNew=>?_)
      clear hHeld hK K
      have hHeld:=hNew
      clear hNew
      try simp only [Act.put,sA,sB,sC,sD,sE,sF]
      refine tk 8 (v:=?_) rfl hHeld ?_ ?_
      rotate_left
      ·intro w hSw;skip;go_simp;try with_reducible rfl
      try simp only [Act.put,sA,sB,sC,sD,sE,sF]
      refine tk 9 (v:=?_) rfl hHeld ?_ ?_
      rotate_left
      ·intro w hSw;skip;go_simp;try with_reducible rfl
      try simp only [Act.put,sA,sB,sC,sD,sE,sF]
      refine tk 10 (v:=?_) rfl hHeld ?_ ?_
      rotate_left
      ·intro w hSw;skip;go_simp;try with_reducible rfl
      try simp only [Act.put,sA,sB,sC,sD,sE,sF]
      obtain ⟨⟨q0,q1,q2,q3,q4,q5⟩,⟨r0,r1,r2,r3,r4,r5⟩,ql⟩:=six_cells DT
      refine wpAnyH_ready (rs:=[12]) (by kernel_rfl) (by simp) (AllReadyH.cons rfl (fun K hK=>?_) AllReadyH.nil)
      go_simp
      replace hL:=hL.far hT1 hT2 (.int .i64 y0) (.int .i64 y1) (.int .i64 y2) (.int .i64 y3) (.int .i64 y4) (.int .i64 y5)
      replace DT:=put_sixL DT (.int .i64 y0) (.int .i64 y1) (.int .i64 y2) (.int .i64 y3) (.int .i64 y4) (.int .i64 y5)
      refine hK.out _ _ ⟨hL.1,hL.2.1⟩ (fun hNew=>?_)
      clear q0 q1 q2 q3 q4 q5 r0 r1 r2 r3 r4 r5 ql
      clear hHeld hK K
      have hHeld:=hNew
      clear hNew
      try simp only [Act.put,sA,sB,sC,sD,sE,sF]
      generalize World.setCell (World.setCell (World.setCell (World.setCell (World.setCell (World.setCell (wc13) ⟨T,0,none⟩ (.int .i64 y0)) ⟨T,1,none⟩ (.int .i64 y1)) ⟨T,2,none⟩ (.int .i64 y2)) ⟨T,3,none⟩ (.int .i64 y3)) ⟨T,4,none⟩ (.int .i64 y4)) ⟨T,5,none⟩ (.int .i64 y5)=wS at DT hL hHeld ⊢
      refine tk 13 (v:=?_) rfl hHeld ?_ ?_
      rotate_left
      ·intro w hSw;skip;go_simp;try with_reducible rfl
      try simp only [Act.put,sA,sB,sC,sD,sE,sF]
      refine wpAnyH_done (by kernel_rfl) ?_ _
      clear hHeld
      go_wp2_with fail
      go_meet
      exact ⟨_,_,_,_,_,_,_,_,_,rfl,rfl,rfl,rfl,DT,hL,HCUT⟩
    case rest=>
     skip
     obtain ⟨WX,T,y0,y1,y2,y3,y4,y5,e,rfl,rfl,rfl,rfl,DT,hL,HCUT⟩:=hcut
     rcases cut_err HCUT.out with rfl | rfl | rfl
     ·skip
      have HCU1:=HCUT
      clear HCUT
      clear DT
      have hn2:=hn
      have cx:=at6 hL.2.1 hk6 HX.out
      go_upto_region 11 with fail
      try clear cx
      go_cut [10,11,56] from 12 (fun s10 s11 s56 wx=>∃ (WX:World) (T:Nat) (x0 x1 x2 x3 x4 x5 e:Int),s56=undef∧WX=wx∧s10=.pointer (some ⟨T,0,none⟩)∧s11=.int .i64 e∧lies.Lies wx T 27 #[.int .i64 x0,.int .i64 x1,.int .i64 x2,.int .i64 x3,.int .i64 x4,.int .i64 x5]∧Ll w c0 c1 c2 c3 c4 c5 b0 b1 b2 b3 b4 b5 (.slice ov out.length oc) out wx∧RowKit.Hid (CutR [c0,c1,c2,c3,c4,c5] (oneZ k x) [x0,x1,x2,x3,x4,x5] e))
      case first=>
       have hDr:=dbm.drawn1 (Below.refl WX.heap.size WX)
       replace hL:=hL.below hDr
       clear hDr
       refine wp_region_held_drew (S:=fun W=>lies.Lies W w.heap.size 27 #[.int .i64 c0,.int .i64 c1,.int .i64 c2,.int .i64 c3,.int .i64 c4,.int .i64 c5]∧lies.Lies W (w.heap.size+1) 27 #[.int .i64 b0,.int .i64 b1,.int .i64 b2,.int .i64 b3,.int .i64 b4,.int .i64 b5]) (by kernel_rfl) ⟨hL.1,hL.2.1⟩ (fun hHeld=>?_)
       generalize WX.drew=wD at hL hHeld ⊢
       refine tk 0 (v:=?_) rfl hHeld ?_ ?_
       rotate_left
       ·intro w hSw;obtain ⟨⟨p0,p1,p2,p3,p4,p5⟩,_⟩:=six_cells hSw.1;have cx:=at6 hSw.2 hk6 HX.out;go_simp;try with_reducible rfl
       try simp only [Act.put,sA,sB,sC,sD,sE,sF]
       refine tk 1 (v:=?_) rfl hHeld ?_ ?_
       rotate_left
       ·intro w hSw;obtain ⟨⟨p0,p1,p2,p3,p4,p5⟩,_⟩:=six_cells hSw.1;have cx:=at6 hSw.2 hk6 HX.out;go_simp;try with_reducible rfl
       try simp only [Act.put,sA,sB,sC,sD,sE,sF]
       refine tk 2 (v:=?_) rfl hHeld ?_ ?_
       rotate_left
       ·intro w hSw;obtain ⟨⟨p0,p1,p2,p3,p4,p5⟩,_⟩:=six_cells hSw.1;have cx:=at6 hSw.2 hk6 HX.out;go_simp;try with_reducible rfl
       try simp only [Act.put,sA,sB,sC,sD,sE,sF]
       refine tk 3 (v:=?_) rfl hHeld ?_ ?_
       rotate_left
       ·intro w hSw;obtain ⟨⟨p0,p1,p2,p3,p4,p5⟩,_⟩:=six_cells hSw.1;have cx:=at6 hSw.2 hk6 HX.out;go_simp;try with_reducible rfl
       try simp only [Act.put,sA,sB,sC,sD,sE,sF]
       refine tk 4 (v:=?_) rfl hHeld ?_ ?_
       rotate_left
       ·intro w hSw;obtain ⟨⟨p0,p1,p2,p3,p4,p5⟩,_⟩:=six_cells hSw.1;have cx:=at6 hSw.2 hk6 HX.out;go_simp;try with_reducible rfl
       try simp only [Act.put,sA,sB,sC,sD,sE,sF]
       refine wpAnyH_ready (rs:=[5,9]) (by kernel_rfl) (by simp) (AllReadyH.cons rfl (fun K hK=>?_) (AllReadyH.cons rfl (fun K hK=>?_) AllReadyH.nil))
       ·go_simp
        refine (with_any c0 c1 c2 c3 c4 c5 k x wD hk6 HC.out.1 HC.out.2.1 HFX.out).mono ?_
        rintro e wc1 ⟨hB,x0,x1,x2,x3,x4,x5,e,rfl,hcut⟩
        have HCUT:=Lib.hid hcut
        clear hcut
        replace hL:=hL.below hB
        clear hB
        refine hK.out _ _ ⟨hL.1,hL.2.1⟩ (fun hNew=>?_)
        clear hHeld hK K
        have hHeld:=hNew
        clear hNew
        try simp only [Act.put,sA,sB,sC,sD,sE,sF]
        refine tk 6 (v:=?_) rfl hHeld ?_ ?_
        rotate_left
        ·intro w hSw;skip;go_simp;try with_reducible rfl
        try simp only [Act.put,sA,sB,sC,sD,sE,sF]
        refine tk 7 (v:=?_) rfl hHeld ?_ ?_
        rotate_left
        ·intro w hSw;skip;go_simp;try with_reducible rfl
        try simp only [Act.put,sA,sB,sC,sD,sE,sF]
        refine tk 8 (v:=?_) rfl hHeld ?_ ?_
        rotate_left
        ·intro w hSw;skip;go_simp;try with_reducible rfl
        try simp only [Act.put,sA,sB,sC,sD,sE,sF]
        refine wpAnyH_ready (rs:=[9]) (by kernel_rfl) (by simp) (AllReadyH.cons rfl (fun K hK=>?_) AllReadyH.nil)
        go_simp
        have hA:=bound.up1 wc1 (.cells #[.int .i64 0,.int .i64 0,.int .i64 0,.int .i64 0,.int .i64 0,.int .i64 0] 27)
        have DT:=lies.made wc1 27 #[.int .i64 0,.int .i64 0,.int .i64 0,.int .i64 0,.int .i64 0,.int .i64 0]
        obtain ⟨hT1,hT2⟩:=hL.new
        replace hL:=hL.below hA
        clear hA
        refine hK.out _ _ ⟨hL.1,hL.2.1⟩ (fun hNew=>?_)
        clear hHeld hK K
        have hHeld:=hNew
        clear hNew
        try simp only [Act.put,sA,sB,sC,sD,sE,sF]
        generalize (World.heap wc1).size=T at DT hT1 hT2 ⊢
        generalize World.alloc wc1 (.cells #[.int .i64 0,.int .i64 0,.int .i64 0,.int .i64 0,.int .i64 0,.int .i64 0] 27)=wa2 at DT hL hHeld ⊢
        obtain ⟨⟨q0,q1,q2,q3,q4,q5⟩,⟨r0,r1,r2,r3,r4,r5⟩,ql⟩:=six_cells DT
        refine wpAnyH_ready (rs:=[10]) (by kernel_rfl) (by simp) (AllReadyH.cons rfl (fun K hK=>?_) AllReadyH.nil)
        go_simp
        replace hL:=hL.far hT1 hT2 (.int .i64 x0) (.int .i64 x1) (.int .i64 x2) (.int .i64 x3) (.int .i64 x4) (.int .i64 x5)
        replace DT:=put_sixL DT (.int .i64 x0) (.int .i64 x1) (.int .i64 x2) (.int .i64 x3) (.int .i64 x4) (.int .i64 x5)
        refine hK.out _ _ ⟨hL.1,hL.2.1⟩ (fun hNew=>?_)
        clear q0 q1 q2 q3 q4 q5 r0 r1 r2 r3 r4 r5 ql
        clear hHeld hK K
        have hHeld:=hNew
        clear hNew
        try simp only [Act.put,sA,sB,sC,sD,sE,sF]
        generalize World.setCell (World.setCell (World.setCell (World.setCell (World.setCell (World.setCell (wa2) ⟨T,0,none⟩ (.int .i64 x0)) ⟨T,1,none⟩ (.int .i64 x1)) ⟨T,2,none⟩ (.int .i64 x2)) ⟨T,3,none⟩ (.int .i64 x3)) ⟨T,4,none⟩ (.int .i64 x4)) ⟨T,5,none⟩ (.int .i64 x5)=wS at DT hL hHeld ⊢
        refine tk 11 (v:=?_) rfl hHeld ?_ ?_
        rotate_left
        ·intro w hSw;skip;go_simp;try with_reducible rfl
        try simp only [Act.put,sA,sB,sC,sD,sE,sF]
        refine wpAnyH_done (by kernel_rfl) ?_ _
        clear hHeld
        go_wp2_with fail
        go_meet
        exact ⟨_,_,_,_,_,_,_,_,_,rfl,rfl,rfl,rfl,DT,hL,HCUT⟩
       ·go_simp
        have hA:=bound.up1 wD (.cells #[.int .i64 0,.int .i64 0,.int .i64 0,.int .i64 0,.int .i64 0,.int .i64 0] 27)
        have DT:=lies.made wD 27 #[.int .i64 0,.int .i64 0,.int .i64 0,.int .i64 0,.int .i64 0,.int .i64 0]
        obtain ⟨hT1,hT2⟩:=hL.new
        replace hL:=hL.below hA
        clear hA
        refine hK.out _ _ ⟨hL.1,hL.2.1⟩ (fun hNew=>?_)
        clear hHeld hK K
        have hHeld:=hNew
        clear hNew
        try simp only [Act.put,sA,sB,sC,sD,sE,sF]
        generalize (World.heap wD).size=T at DT hT1 hT2 ⊢
        generalize World.alloc wD (.cells #[.int .i64 0,.int .i64 0,.int .i64 0,.int .i64 0,.int .i64 0,.int .i64 0] 27)=wa3 at DT hL hHeld ⊢
        refine wpAnyH_ready (rs:=[5]) (by kernel_rfl) (by simp) (AllReadyH.cons rfl (fun K hK=>?_) AllReadyH.nil)
        go_simp
        refine (with_any c0 c1 c2 c3 c4 c5 k x wa3 hk6 HC.out.1 HC.out.2.1 HFX.out).mono ?_
        rintro e wc4 ⟨hB,x0,x1,x2,x3,x4,x5,e,rfl,hcut⟩
        have HCUT:=Lib.hid hcut
        clear hcut
        replace hL:=hL.below hB
        replace DT:=lies.on_call DT hB
        clear hB
        refine hK.out _ _ ⟨hL.1,hL.2.1⟩ (fun hNew=>?_)
        clear hHeld hK K
        have hHeld:=hNew
        clear hNew
        try simp only [Act.put,sA,sB,sC,sD,sE,sF]
        refine tk 6 (v:=?_) rfl hHeld ?_ ?_
        rotate_left
        ·intro w hSw;skip;go_simp;try with_reducible rfl
        try simp only [Act.put,sA,sB,sC,sD,sE,sF]
        refine tk 7 (v:=?_) rfl hHeld ?_ ?_
        rotate_left
        ·intro w hSw;skip;go_simp;try with_reducible rfl
        try simp only [Act.put,sA,sB,sC,sD,sE,sF]
        refine tk 8 (v:=?_) rfl hHeld ?_ ?_
        rotate_left
        ·intro w hSw;skip;go_simp;try with_reducible rfl
        try simp only [Act.put,sA,sB,sC,sD,sE,sF]
        obtain ⟨⟨q0,q1,q2,q3,q4,q5⟩,⟨r0,r1,r2,r3,r4,r5⟩,ql⟩:=six_cells DT
        refine wpAnyH_ready (rs:=[10]) (by kernel_rfl) (by simp) (AllReadyH.cons rfl (fun K hK=>?_) AllReadyH.nil)
        go_simp
        replace hL:=hL.far hT1 hT2 (.int .i64 x0) (.int .i64 x1) (.int .i64 x2) (.int .i64 x3) (.int .i64 x4) (.int .i64 x5)
        replace DT:=put_sixL DT (.int .i64 x0) (.int .i64 x1) (.int .i64 x2) (.int .i64 x3) (.int .i64 x4) (.int .i64 x5)
        refine hK.out _ _ ⟨hL.1,hL.2.1⟩ (fun hNew=>?_)
        clear q0 q1 q2 q3 q4 q5 r0 r1 r2 r3 r4 r5 ql
        clear hHeld hK K
        have hHeld:=hNew
        clear hNew
        try simp only [Act.put,sA,sB,sC,sD,sE,sF]
        generalize World.setCell (World.setCell (World.setCell (World.setCell (World.setCell (World.setCell (wc4) ⟨T,0,none⟩ (.int .i64 x0)) ⟨T,1,none⟩ (.int .i64 x1)) ⟨T,2,none⟩ (.int .i64 x2)) ⟨T,3,none⟩ (.int .i64 x3)) ⟨T,4,none⟩ (.int .i64 x4)) ⟨T,5,none⟩ (.int .i64 x5)=wS at DT hL hHeld ⊢
        refine tk 11 (v:=?_) rfl hHeld ?_ ?_
        rotate_left
        ·intro w hSw;skip;go_simp;try with_reducible rfl
        try simp only [Act.put,sA,sB,sC,sD,sE,sF]
        refine wpAnyH_done (by kernel_rfl) ?_ _
        clear hHeld
        go_wp2_with fail
        go_meet
        exact ⟨_,_,_,_,_,_,_,_,_,rfl,rfl,rfl,rfl,DT,hL,HCUT⟩
      case rest=>
       obtain ⟨WY,T2,x0,x1,x2,x3,x4,x5,g,rfl,rfl,rfl,rfl,DT,hL,HCUZ⟩:=hcut
       rcases cut_err HCUZ.out with rfl | rfl | rfl
       ·skip
        have hB0:=hL.2.2.2
        have hO:=own_low hL.2.2.1 (show w.heap.size≤w.heap.size+1+1 by omega)
        have HO:=Lib.hid hO
        clear DT hL hO
        go_wp2_with fail
        have h6:=HK.out _ 0 ((less_at hk6).2 (by rw [HX.out,if_neg hn];exact ⟨_,6,HCU1.out,.inr ⟨by decide,_,_,HCUZ.out,.inl ⟨rfl,rfl,rfl⟩⟩⟩))
        rw [if_pos rfl] at h6
        have e6:out++pre 6 [y0,y1,y2,y3,y4,y5]=out:=by unfold pre;simp
        rw [e6] at h6
        exact bodyPost_ret (v:=.tuple #[.slice ov out.length oc,.int .i64 0]) (by simp [results,Tryz.results129,go_sem]) rfl ⟨hB0,_,out,0,rfl,h6,HO.out⟩
       ·skip
        have hB0:=hL.2.2.2
        clear DT hL
        go_wp2_with fail
        exact bodyPost_ret (v:=.tuple #[.slice none 0 0,.int .i64 8]) (by simp [results,Tryz.results129,go_sem]) rfl ⟨hB0,_,[],8,rfl,HK.out [] 8 ((less_at hk6).2 (by rw [HX.out,if_neg hn];exact ⟨_,6,HCU1.out,.inr ⟨by decide,_,_,HCUZ.out,.inr (.inl ⟨rfl,rfl,rfl⟩)⟩⟩)),World.ownsRow_nil _ _ _ _⟩
       ·skip
        have hz2:=cut_zo HC.out.2.1 HC.out.1.may (one_may HFX.out) HCUZ.out
        have HZ2:=Lib.hid hz2
        obtain ⟨⟨q0,q1,q2,q3,q4,q5⟩,-,ql⟩:=six_cells DT
        obtain ⟨⟨r0,r1,r2,r3,r4,r5⟩,⟨t0,t1,t2,t3,t4,t5⟩,rl⟩:=six_cells hL.1
        have hL5:=hL.own x0 x1 x2 x3 x4 x5
        clear hz2 hL DT
        go_wp2_with fail
        go_roundw
        case rel=>exact ⟨k+1,x0,x1,x2,x3,x4,x5,out,by omega,by go_num,hL5,by omega,HZ2,Lib.hid (fun o f h=>by
         have h6:=HK.out _ f ((less_at hk6).2 (by rw [HX.out,if_neg hn];exact ⟨_,6,HCU1.out,.inr ⟨by decide,_,_,HCUZ.out,.inr (.inr ⟨rfl,o,h,rfl⟩)⟩⟩))
         by_cases e:f=0
         ·rw [if_pos e,if_pos e] at h6
          rw [if_pos e]
          have e6:out++(pre 6 [y0,y1,y2,y3,y4,y5]++o)=out++o:=by unfold pre;simp
          rw [e6] at h6
          exact h6
         ·rw [if_neg e] at h6 ⊢
          exact h6)⟩
        case measure=>simp [intOf];omega
     ·skip
      have hB0:=hL.2.2.2
      clear DT hL
      go_wp2_with fail
      exact bodyPost_ret (v:=.tuple #[.slice none 0 0,.int .i64 8]) (by simp [results,Tryz.results129,go_sem]) rfl ⟨hB0,_,[],8,rfl,HK.out [] 8 ((less_at hk6).2 (by rw [HX.out,if_neg hn];exact ⟨_,8,HCUT.out,.inl ⟨rfl,rfl,rfl⟩⟩)),World.ownsRow_nil _ _ _ _⟩
     ·skip
      have HCU1:=HCUT
      clear HCUT
      obtain ⟨⟨p0,p1,p2,p3,p4,p5⟩,-,pl⟩:=six_cells DT
      have hA:=bound.up1 WX (.cells #[.int .i64 y0,.int .i64 y1,.int .i64 y2,.int .i64 y3,.int .i64 y4,.int .i64 y5] 27)
      have hbox:=zs_box (lies.made WX 27 #[.int .i64 y0,.int .i64 y1,.int .i64 y2,.int .i64 y3,.int .i64 y4,.int .i64 y5])
      obtain ⟨vq,wq,hrun,hown2,hgrow2,-⟩:=app_zones (w.heap.size+1+1) 29 (.slice ov out.length oc) _ _ _ _ [[y0,y1,y2,y3,y4,y5]] _ (incl.own_call hL.2.2.1 hA) hbox (by rw [List.length_singleton];omega) (by have h1:=lies.lt hL.2.1;have h2:=hA.size;omega)
      have hl2:=hL.below hA
      have hown3:wq.ownsRow (w.heap.size+1+1) 27 6 vq (out++[[y0,y1,y2,y3,y4,y5]]).length (flatZ (out++[[y0,y1,y2,y3,y4,y5]])):=by
       rw [List.length_append,flatZ_app];exact hown2
      have hrw:∀ q,q<w.heap.size+1+1→some q≠(Value.slice ov out.length oc).ownBlock:=fun q hq e=>by have:=(hL.2.2.1.lt q e.symm).1;omega
      have L3:Ll w c0 c1 c2 c3 c4 c5 b0 b1 b2 b3 b4 b5 vq (out++[[y0,y1,y2,y3,y4,y5]]) wq:=⟨(hgrow2.block _ (lies.lt hl2.1) (hrw _ (by omega))).trans hl2.1,(hgrow2.block _ (lies.lt hl2.2.1) (hrw _ (by omega))).trans hl2.2.1,hown3,hl2.2.2.2.grown hgrow2 hl2.2.2.2.size (fun q e=>by have:=(hL.2.2.1.lt q e).1;omega)⟩
      obtain ⟨vv,vc,eq3⟩:=zs_len (zs_own hown3)
      rw [List.length_append,List.length_singleton] at eq3
      subst eq3
      have HRUN:=Lib.hid hrun
      clear hrun hown2 hown3 hgrow2 hbox hA hl2 hL hrw
      have hln:(out++[[y0,y1,y2,y3,y4,y5]]).length=out.length+1:=by rw [List.length_append,List.length_singleton]
      have hL:=L3
      clear L3
      have cx:=at6 hL.2.1 hk6 HX.out
      have hn2:=hn
      have cx:=at6 hL.2.1 hk6 HX.out
      go_upto_region 11 with (at_builtin;refine dref.append_run2 rfl (.tmp 36) (.tmp 38) 29 rfl _ _ _ _ rfl rfl HRUN.out ?_;clear HRUN p0 p1 p2 p3 p4 p5 pl DT)
      try clear cx
      go_cut [10,11,56] from 12 (fun s10 s11 s56 wx=>∃ (WX:World) (T:Nat) (x0 x1 x2 x3 x4 x5 e:Int),s56=undef∧WX=wx∧s10=.pointer (some ⟨T,0,none⟩)∧s11=.int .i64 e∧lies.Lies wx T 27 #[.int .i64 x0,.int .i64 x1,.int .i64 x2,.int .i64 x3,.int .i64 x4,.int .i64 x5]∧Ll w c0 c1 c2 c3 c4 c5 b0 b1 b2 b3 b4 b5 (.slice vv (out.length+1) vc) (out++[[y0,y1,y2,y3,y4,y5]]) wx∧RowKit.Hid (CutR [c0,c1,c2,c3,c4,c5] (oneZ k x) [x0,x1,x2,x3,x4,x5] e))
      case first=>
       have hDr:=dbm.drawn1 (Below.refl wq.heap.size wq)
       replace hL:=hL.below hDr
       clear hDr
       refine wp_region_held_drew (S:=fun W=>lies.Lies W w.heap.size 27 #[.int .i64 c0,.int .i64 c1,.int .i64 c2,.int .i64 c3,.int .i64 c4,.int .i64 c5]∧lies.Lies W (w.heap.size+1) 27 #[.int .i64 b0,.int .i64 b1,.int .i64 b2,.int .i64 b3,.int .i64 b4,.int .i64 b5]) (by kernel_rfl) ⟨hL.1,hL.2.1⟩ (fun hHeld=>?_)
       generalize wq.drew=wD at hL hHeld ⊢
       refine tk 0 (v:=?_) rfl hHeld ?_ ?_
       rotate_left
       ·intro w hSw;obtain ⟨⟨p0,p1,p2,p3,p4,p5⟩,_⟩:=six_cells hSw.1;have cx:=at6 hSw.2 hk6 HX.out;go_simp;try with_reducible rfl
       try simp only [Act.put,sA,sB,sC,sD,sE,sF]
       refine tk 1 (v:=?_) rfl hHeld ?_ ?_
       rotate_left
       ·intro w hSw;obtain ⟨⟨p0,p1,p2,p3,p4,p5⟩,_⟩:=six_cells hSw.1;have cx:=at6 hSw.2 hk6 HX.out;go_simp;try with_reducible rfl
       try simp only [Act.put,sA,sB,sC,sD,sE,sF]
       refine tk 2 (v:=?_) rfl hHeld ?_ ?_
       rotate_left
       ·intro w hSw;obtain ⟨⟨p0,p1,p2,p3,p4,p5⟩,_⟩:=six_cells hSw.1;have cx:=at6 hSw.2 hk6 HX.out;go_simp;try with_reducible rfl
       try simp only [Act.put,sA,sB,sC,sD,sE,sF]
       refine tk 3 (v:=?_) rfl hHeld ?_ ?_
       rotate_left
       ·intro w hSw;obtain ⟨⟨p0,p1,p2,p3,p4,p5⟩,_⟩:=six_cells hSw.1;have cx:=at6 hSw.2 hk6 HX.out;go_simp;try with_reducible rfl
       try simp only [Act.put,sA,sB,sC,sD,sE,sF]
       refine tk 4 (v:=?_) rfl hHeld ?_ ?_
       rotate_left
       ·intro w hSw;obtain ⟨⟨p0,p1,p2,p3,p4,p5⟩,_⟩:=six_cells hSw.1;have cx:=at6 hSw.2 hk6 HX.out;go_simp;try with_reducible rfl
       try simp only [Act.put,sA,sB,sC,sD,sE,sF]
       refine wpAnyH_ready (rs:=[5,9]) (by kernel_rfl) (by simp) (AllReadyH.cons rfl (fun K hK=>?_) (AllReadyH.cons rfl (fun K hK=>?_) AllReadyH.nil))
       ·go_simp
        refine (with_any c0 c1 c2 c3 c4 c5 k x wD hk6 HC.out.1 HC.out.2.1 HFX.out).mono ?_
        rintro e wc1 ⟨hB,x0,x1,x2,x3,x4,x5,e,rfl,hcut⟩
        have HCUT:=Lib.hid hcut
        clear hcut
        replace hL:=hL.below hB
        clear hB
        refine hK.out _ _ ⟨hL.1,hL.2.1⟩ (fun hNew=>?_)
        clear hHeld hK K
        have hHeld:=hNew
        clear hNew
        try simp only [Act.put,sA,sB,sC,sD,sE,sF]
        refine tk 6 (v:=?_) rfl hHeld ?_ ?_
        rotate_left
        ·intro w hSw;skip;go_simp;try with_reducible rfl
        try simp only [Act.put,sA,sB,sC,sD,sE,sF]
        refine tk 7 (v:=?_) rfl hHeld ?_ ?_
        rotate_left
        ·intro w hSw;skip;go_simp;try with_reducible rfl
        try simp only [Act.put,sA,sB,sC,sD,sE,sF]
        refine tk 8 (v:=?_) rfl hHeld ?_ ?_
        rotate_left
        ·intro w hSw;skip;go_simp;try with_reducible rfl
        try simp only [Act.put,sA,sB,sC,sD,sE,sF]
        refine wpAnyH_ready (rs:=[9]) (by kernel_rfl) (by simp) (AllReadyH.cons rfl (fun K hK=>?_) AllReadyH.nil)
        go_simp
        have hA:=bound.up1 wc1 (.cells #[.int .i64 0,.int .i64 0,.int .i64 0,.int .i64 0,.int .i64 0,.int .i64 0] 27)
        have DT:=lies.made wc1 27 #[.int .i64 0,.int .i64 0,.int .i64 0,.int .i64 0,.int .i64 0,.int .i64 0]
        obtain ⟨hT1,hT2⟩:=hL.new
        replace hL:=hL.below hA
        clear hA
        refine hK.out _ _ ⟨hL.1,hL.2.1⟩ (fun hNew=>?_)
        clear hHeld hK K
        have hHeld:=hNew
        clear hNew
        try simp only [Act.put,sA,sB,sC,sD,sE,sF]
        generalize (World.heap wc1).size=T at DT hT1 hT2 ⊢
        generalize World.alloc wc1 (.cells #[.int .i64 0,.int .i64 0,.int .i64 0,.int .i64 0,.int .i64 0,.int .i64 0] 27)=wa2 at DT hL hHeld ⊢
        obtain ⟨⟨q0,q1,q2,q3,q4,q5⟩,⟨r0,r1,r2,r3,r4,r5⟩,ql⟩:=six_cells DT
        refine wpAnyH_ready (rs:=[10]) (by kernel_rfl) (by simp) (AllReadyH.cons rfl (fun K hK=>?_) AllReadyH.nil)
        go_simp
        replace hL:=hL.far hT1 hT2 (.int .i64 x0) (.int .i64 x1) (.int .i64 x2) (.int .i64 x3) (.int .i64 x4) (.int .i64 x5)
        replace DT:=put_sixL DT (.int .i64 x0) (.int .i64 x1) (.int .i64 x2) (.int .i64 x3) (.int .i64 x4) (.int .i64 x5)
        refine hK.out _ _ ⟨hL.1,hL.2.1⟩ (fun hNew=>?_)
        clear q0 q1 q2 q3 q4 q5 r0 r1 r2 r3 r4 r5 ql
        clear hHeld hK K
        have hHeld:=hNew
        clear hNew
        try simp only [Act.put,sA,sB,sC,sD,sE,sF]
        generalize World.setCell (World.setCell (World.setCell (World.setCell (World.setCell (World.setCell (wa2) ⟨T,0,none⟩ (.int .i64 x0)) ⟨T,1,none⟩ (.int .i64 x1)) ⟨T,2,none⟩ (.int .i64 x2)) ⟨T,3,none⟩ (.int .i64 x3)) ⟨T,4,none⟩ (.int .i64 x4)) ⟨T,5,none⟩ (.int .i64 x5)=wS at DT hL hHeld ⊢
        refine tk 11 (v:=?_) rfl hHeld ?_ ?_
        rotate_left
        ·intro w hSw;skip;go_simp;try with_reducible rfl
        try simp only [Act.put,sA,sB,sC,sD,sE,sF]
        refine wpAnyH_done (by kernel_rfl) ?_ _
        clear hHeld
        go_wp2_with fail
        go_meet
        exact ⟨_,_,_,_,_,_,_,_,_,rfl,rfl,rfl,rfl,DT,hL,HCUT⟩
       ·go_simp
        have hA:=bound.up1 wD (.cells #[.int .i64 0,.int .i64 0,.int .i64 0,.int .i64 0,.int .i64 0,.int .i64 0] 27)
        have DT:=lies.made wD 27 #[.int .i64 0,.int .i64 0,.int .i64 0,.int .i64 0,.int .i64 0,.int .i64 0]
        obtain ⟨hT1,hT2⟩:=hL.new
        replace hL:=hL.below hA
        clear hA
        refine hK.out _ _ ⟨hL.1,hL.2.1⟩ (fun hNew=>?_)
        clear hHeld hK K
        have hHeld:=hNew
        clear hNew
        try simp only [Act.put,sA,sB,sC,sD,sE,sF]
        generalize (World.heap wD).size=T at DT hT1 hT2 ⊢
        generalize World.alloc wD (.cells #[.int .i64 0,.int .i64 0,.int .i64 0,.int .i64 0,.int .i64 0,.int .i64 0] 27)=wa3 at DT hL hHeld ⊢
        refine wpAnyH_ready (rs:=[5]) (by kernel_rfl) (by simp) (AllReadyH.cons rfl (fun K hK=>?_) AllReadyH.nil)
        go_simp
        refine (with_any c0 c1 c2 c3 c4 c5 k x wa3 hk6 HC.out.1 HC.out.2.1 HFX.out).mono ?_
        rintro e wc4 ⟨hB,x0,x1,x2,x3,x4,x5,e,rfl,hcut⟩
        have HCUT:=Lib.hid hcut
        clear hcut
        replace hL:=hL.below hB
        replace DT:=lies.on_call DT hB
        clear hB
        refine hK.out _ _ ⟨hL.1,hL.2.1⟩ (fun hNew=>?_)
        clear hHeld hK K
        have hHeld:=hNew
        clear hNew
        try simp only [Act.put,sA,sB,sC,sD,sE,sF]
        refine tk 6 (v:=?_) rfl hHeld ?_ ?_
        rotate_left
        ·intro w hSw;skip;go_simp;try with_reducible rfl
        try simp only [Act.put,sA,sB,sC,sD,sE,sF]
        refine tk 7 (v:=?_) rfl hHeld ?_ ?_
        rotate_left
        ·intro w hSw;skip;go_simp;try with_reducible rfl
        try simp only [Act.put,sA,sB,sC,sD,sE,sF]
        refine tk 8 (v:=?_) rfl hHeld ?_ ?_
        rotate_left
        ·intro w hSw;skip;go_simp;try with_reducible rfl
        try simp only [Act.put,sA,sB,sC,sD,sE,sF]
        obtain ⟨⟨q0,q1,q2,q3,q4,q5⟩,⟨r0,r1,r2,r3,r4,r5⟩,ql⟩:=six_cells DT
        refine wpAnyH_ready (rs:=[10]) (by kernel_rfl) (by simp) (AllReadyH.cons rfl (fun K hK=>?_) AllReadyH.nil)
        go_simp
        replace hL:=hL.far hT1 hT2 (.int .i64 x0) (.int .i64 x1) (.int .i64 x2) (.int .i64 x3) (.int .i64 x4) (.int .i64 x5)
        replace DT:=put_sixL DT (.int .i64 x0) (.int .i64 x1) (.int .i64 x2) (.int .i64 x3) (.int .i64 x4) (.int .i64 x5)
        refine hK.out _ _ ⟨hL.1,hL.2.1⟩ (fun hNew=>?_)
        clear q0 q1 q2 q3 q4 q5 r0 r1 r2 r3 r4 r5 ql
        clear hHeld hK K
        have hHeld:=hNew
        clear hNew
        try simp only [Act.put,sA,sB,sC,sD,sE,sF]
        generalize World.setCell (World.setCell (World.setCell (World.setCell (World.setCell (World.setCell (wc4) ⟨T,0,none⟩ (.int .i64 x0)) ⟨T,1,none⟩ (.int .i64 x1)) ⟨T,2,none⟩ (.int .i64 x2)) ⟨T,3,none⟩ (.int .i64 x3)) ⟨T,4,none⟩ (.int .i64 x4)) ⟨T,5,none⟩ (.int .i64 x5)=wS at DT hL hHeld ⊢
        refine tk 11 (v:=?_) rfl hHeld ?_ ?_
        rotate_left
        ·intro w hSw;skip;go_simp;try with_reducible rfl
        try simp only [Act.put,sA,sB,sC,sD,sE,sF]
        refine wpAnyH_done (by kernel_rfl) ?_ _
        clear hHeld
        go_wp2_with fail
        go_meet
        exact ⟨_,_,_,_,_,_,_,_,_,rfl,rfl,rfl,rfl,DT,hL,HCUT⟩
      case rest=>
       obtain ⟨WY,T2,x0,x1,x2,x3,x4,x5,g,rfl,rfl,rfl,rfl,DT,hL,HCUZ⟩:=hcut
       rcases cut_err HCUZ.out with rfl | rfl | rfl
       ·skip
        have hB0:=hL.2.2.2
        have hO:=own_low hL.2.2.1 (show w.heap.size≤w.heap.size+1+1 by omega)
        have HO:=Lib.hid hO
        clear DT hL hO
        go_wp2_with fail
        have h6:=HK.out _ 0 ((less_at hk6).2 (by rw [HX.out,if_neg hn];exact ⟨_,0,HCU1.out,.inr ⟨by decide,_,_,HCUZ.out,.inl ⟨rfl,rfl,rfl⟩⟩⟩))
        rw [if_pos rfl] at h6
        have e6:out++pre 0 [y0,y1,y2,y3,y4,y5]=(out++[[y0,y1,y2,y3,y4,y5]]):=by unfold pre;simp
        rw [e6] at h6
        exact bodyPost_ret (v:=.tuple #[.slice vv (out.length+1) vc,.int .i64 0]) (by simp [results,Tryz.results129,go_sem]) rfl ⟨hB0,_,(out++[[y0,y1,y2,y3,y4,y5]]),0,rfl,h6,HO.out⟩
       ·skip
        have hB0:=hL.2.2.2
        clear DT hL
        go_wp2_with fail
        exact bodyPost_ret (v:=.tuple #[.slice none 0 0,.int .i64 8]) (by simp [results,Tryz.results129,go_sem]) rfl ⟨hB0,_,[],8,rfl,HK.out [] 8 ((less_at hk6).2 (by rw [HX.out,if_neg hn];exact ⟨_,0,HCU1.out,.inr ⟨by decide,_,_,HCUZ.out,.inr (.inl ⟨rfl,rfl,rfl⟩)⟩⟩)),World.ownsRow_nil _ _ _ _⟩
       ·skip
        have hz2:=cut_zo HC.out.2.1 HC.out.1.may (one_may HFX.out) HCUZ.out
        have HZ2:=Lib.hid hz2
        obtain ⟨⟨q0,q1,q2,q3,q4,q5⟩,-,ql⟩:=six_cells DT
        obtain ⟨⟨r0,r1,r2,r3,r4,r5⟩,⟨t0,t1,t2,t3,t4,t5⟩,rl⟩:=six_cells hL.1
        have hL5:=hL.own x0 x1 x2 x3 x4 x5
        clear hz2 hL DT
        go_wp2_with fail
        go_roundw
        case rel=>exact ⟨k+1,x0,x1,x2,x3,x4,x5,(out++[[y0,y1,y2,y3,y4,y5]]),by omega,by go_num,hL5,by rw [hln];omega,HZ2,Lib.hid (fun o f h=>by
         have h6:=HK.out _ f ((less_at hk6).2 (by rw [HX.out,if_neg hn];exact ⟨_,0,HCU1.out,.inr ⟨by decide,_,_,HCUZ.out,.inr (.inr ⟨rfl,o,h,rfl⟩)⟩⟩))
         by_cases e:f=0
         ·rw [if_pos e,if_pos e] at h6
          rw [if_pos e]
          have e6:out++(pre 0 [y0,y1,y2,y3,y4,y5]++o)=(out++[[y0,y1,y2,y3,y4,y5]])++o:=by unfold pre;simp
          rw [e6] at h6
          exact h6
         ·rw [if_neg e] at h6 ⊢
          exact h6)⟩
        case measure=>simp [intOf];omega
  ·skip
   obtain rfl:k=6:=by omega
   have hB0:=hL.2.2.2
   have HO:=Lib.hid (own_low hL.2.2.1 (show w.heap.size≤w.heap.size+1+1 by omega))
   clear hL
   go_wp2_with fail
   have h6:=HK.out [] 0 ⟨rfl,rfl⟩
   rw [if_pos rfl,List.append_nil] at h6
   exact bodyPost_ret (v:=.tuple #[.slice ov out.length oc,.int .i64 0]) (by simp [results,Tryz.results129,go_sem]) rfl ⟨hB0,_,out,0,rfl,h6,HO.out⟩
end Go.Proofs.YthmljpccbjolgaaGreatDoor.mref
namespace Go.Proofs.YthmljpccbjolgaaGreatDoor.mref
open Go.Joins Go.ChangeShapes Go.WideShapes Go.ChangeAt Go.RowKit num rat dbm dref Go.Proofs.YthmljpccbjolgaaGreatDoor.tight Go.Proofs.YthmljpccbjolgaaGreatDoor.incl Go.Proofs.YthmljpccbjolgaaGreatDoor.plaw Go.Proofs.YthmljpccbjolgaaGreatDoor.zopen Go.Proofs.YthmljpccbjolgaaGreatDoor.zone Go.Proofs.YthmljpccbjolgaaGreatDoor.win Go.Proofs.YthmljpccbjolgaaGreatDoor.minus Go.Proofs.YthmljpccbjolgaaGreatDoor.mz Go.Proofs.YthmljpccbjolgaaGreatDoor.mlaw Go.Proofs.YthmljpccbjolgaaGreatDoor.zref
open bound hiding up
set_option linter.unusedVariables false
set_option linter.unusedSimpArgs false
theorem less_len {a b:List Int} {o:List (List Int)} {f:Int} (ha:Zo a) (hb:Zo b) (h:LessR b 6 a o f):o.length≤6:=by
 obtain ⟨ys,hy⟩:=pcs_ex b 6 a
 obtain ⟨f',h1,_⟩:=pcs_less hb.2.1 hb.1 6 (Nat.le_refl _) ha hy
 obtain ⟨e1,e2⟩:=less_same 6 h1 h
 rw [e1]
 split
 ·exact (pcs_all hb.2.1 hb.1 6 (Nat.le_refl _) ha hy).1
 ·exact Nat.zero_le _
def Lr (w:World) (v:Value) (cur:List (List Int)) (W:World):Prop:=Below w.heap.size w W∧W.ownsRow w.heap.size 27 6 v cur.length (flatZ cur)∧(∀ z,z ∈ cur→Zo z)∧cur.length≤4096
set_option maxRecDepth 100000 in
set_option maxHeartbeats 16000000 in
theorem rest_any (a0 a1 a2 a3 a4 a5:Int) (ao:Option Addr) (len cap:Nat) (l:List (List Int)) (w:World) (za:Zo [a0,a1,a2,a3,a4,a5]) (hI:Zs w.heap.size w (.slice ao len cap) l) (hz:∀ z,z ∈ l→Zo z) (hl:l.length=len) (hm:len≤1000000):Calls Tryz.prog 86 #[.agg #[.int .i64 a0,.int .i64 a1,.int .i64 a2,.int .i64 a3,.int .i64 a4,.int .i64 a5],.slice ao len cap] w (Zans (RestR l [[a0,a1,a2,a3,a4,a5]]) w):=by
 have HI:=Lib.hid hI
 have HZ:=Lib.hid hz
 have HL:=Lib.hid hl
 have X:∃ w0,w0=(w.alloc (.cells #[.int .i64 a0,.int .i64 a1,.int .i64 a2,.int .i64 a3,.int .i64 a4,.int .i64 a5] 27)).alloc (.cells #[.int .i64 a0,.int .i64 a1,.int .i64 a2,.int .i64 a3,.int .i64 a4,.int .i64 a5] 27):=⟨_,rfl⟩
 obtain ⟨w0,hX⟩:=X
 have DB:Below w.heap.size w w0:=by rw [hX];exact bound.up2 _ _ _
 have L0:Lr w (.slice (some ⟨w.heap.size+1,0,none⟩) 1 1) [[a0,a1,a2,a3,a4,a5]] w0:=⟨DB,by
   have h:=World.ownsRow_lit (w.alloc (.cells #[.int .i64 a0,.int .i64 a1,.int .i64 a2,.int .i64 a3,.int .i64 a4,.int .i64 a5] 27)) (e:=27) (size:=6) #[.int .i64 a0,.int .i64 a1,.int .i64 a2,.int .i64 a3,.int .i64 a4,.int .i64 a5] 1 (Nat.le_refl _) (by decide) rfl
   rw [World.size_alloc] at h
   rw [hX]
   exact own_far h (by omega) (fun _ _ _ q=>q),fun z hz=>by rw [List.mem_singleton.1 hz];exact za,by show 1≤4096;decide⟩
 clear hI hz hl za DB
 go_enter Tryz.func86,Tryz.ntmps86
 go_wp2_with fail
 rw [←hX]
 clear hX
 go_loopw [7,6] (fun i v wr=>∃ (k:Nat) (cur:List (List Int)),k≤len∧i=.int .i64 k∧Lr w v cur wr∧RowKit.Hid (∀ r f,RestR (l.drop k) cur r f→RestR l [[a0,a1,a2,a3,a4,a5]] r f)) (fun i _ _=>len - (intOf i).toNat)
 case atStart=>exact ⟨0,[[a0,a1,a2,a3,a4,a5]],Nat.zero_le _,rfl,L0,Lib.hid (fun r f q=>q)⟩
 case round=>
  clear L0
  obtain ⟨k,cur,hk,rfl,hL,HC⟩:=hrel
  obtain ⟨av,cv,rfl⟩:=zs_len (zs_own hL.2.1)
  by_cases hkn:k<len
  ·skip
   have hkz:k<l.length:=by rw [HL.out];exact hkn
   have hzk:=HZ.out _ (zat_mem hkz)
   have hdrop:l.drop k=zat l k::l.drop (k+1):=by
    rw [List.drop_eq_getElem_cons hkz]
    unfold zat
    rw [List.getElem?_eq_getElem hkz]
    rfl
   obtain ⟨bq,off,z0,z1,z2,z3,z4,z5,rfl,hb,ez⟩:=zs_six (HI.out.below hL.1) hkz hzk.2.2
   rw [ez] at hzk hdrop
   have HEZ:=Lib.hid ez
   have HZK:=Lib.hid hzk
   have HDR:=Lib.hid hdrop
   have HKZ:=Lib.hid hkz
   have HLL:=Lib.hid hL
   have hb0:=hL.1
   have hcl:=hL.2.2.2
   obtain ⟨WO,hWO⟩:∃ WO,WO=wr:=⟨_,rfl⟩
   rw [←hWO] at HLL
   have HWO:=Lib.hid hWO
   clear ez hzk hdrop hL hWO
   go_wp2_with fail
   go_loopw [9,8] (fun i v wq=>∃ (j:Nat) (nx:List (List Int)),j≤cur.length∧i=.int .i64 j∧Below WO.heap.size WO wq∧Below w.heap.size w wq∧wq.ownsRow w.heap.size 27 6 v nx.length (flatZ nx)∧(∀ g,v.ownBlock=some g→WO.heap.size≤g)∧nx.length≤4096∧(∀ z,z ∈ nx→Zo z)∧RowKit.Hid (∀ r f,StepR [z0,z1,z2,z3,z4,z5] (cur.drop j) nx r f→StepR [z0,z1,z2,z3,z4,z5] cur [] r f)) (fun i _ _=>cur.length - (intOf i).toNat)
   case atStart=>exact ⟨0,[],Nat.zero_le _,rfl,by rw [HWO.out];exact Below.refl _ _,hb0,World.ownsRow_nil _ _ _ _,(fun g e=>by cases e),Nat.zero_le _,(fun z hz=>by cases hz),Lib.hid (fun r f q=>q)⟩
   case round=>
    clear hb0
    obtain ⟨j,nx,hj,rfl,hBO,hBw,hown,hog,hnl,hnz,HN⟩:=hrel
    have hV:=(zs_own HLL.out.2.1).below hBO
    by_cases hjn:j<cur.length
    ·skip
     have hzj:=HLL.out.2.2.1 _ (zat_mem hjn)
     obtain ⟨bj,offj,y0,y1,y2,y3,y4,y5,rfl,hb2,ej⟩:=zs_six hV hjn hzj.2.2
     have hdj:cur.drop j=zat cur j::cur.drop (j+1):=by
      rw [List.drop_eq_getElem_cons hjn]
      unfold zat
      rw [List.getElem?_eq_getElem hjn]
      rfl
     rw [ej] at hzj hdj
     have hrq:bq<wr.heap.size:=Nat.lt_of_lt_of_le hb hBw.size
     have hrj:bj<wr.heap.size:=Nat.lt_of_lt_of_le hb2 hBO.size
     have HEJ:=Lib.hid ej
     have HZJ:=Lib.hid hzj
     have HDJ:=Lib.hid hdj
     have HV:=Lib.hid hV
     have HOG:=Lib.hid hog
     have HNZ:=Lib.hid hnz
     have HOWN:=Lib.hid hown
     obtain ⟨nv,nc,rfl⟩:=zs_len (zs_own HOWN.out)
     clear ej hzj hdj hV hog hnz hown
     go_wp2_with fail
     refine wp_region_held_drew (S:=Below wr.heap.size wr) (by kernel_rfl) (dbm.drawn1 (Below.refl _ _)) (fun hHeld=>?_)
     refine tk 0 (v:=?_) rfl hHeld ?_ ?_
     rotate_left
     ·intro w hSw;obtain ⟨c0,c1,c2,c3,c4,c5⟩:=zs_cells (HI.out.below (later hBw hSw)) HKZ.out HEZ.out;obtain ⟨d0,d1,d2,d3,d4,d5⟩:=zs_cells ((zs_own HLL.out.2.1).below (hBO.trans (hSw.mono hBO.size))) hjn HEJ.out;go_simp;try with_reducible rfl
     try simp only [Act.put,sA,sB,sC,sD,sE,sF]
     refine tk 1 (v:=?_) rfl hHeld ?_ ?_
     rotate_left
     ·intro w hSw;obtain ⟨c0,c1,c2,c3,c4,c5⟩:=zs_cells (HI.out.below (later hBw hSw)) HKZ.out HEZ.out;obtain ⟨d0,d1,d2,d3,d4,d5⟩:=zs_cells ((zs_own HLL.out.2.1).below (hBO.trans (hSw.mono hBO.size))) hjn HEJ.out;go_simp;try with_reducible rfl
     try simp only [Act.put,sA,sB,sC,sD,sE,sF]
     refine tk 2 (v:=?_) rfl hHeld ?_ ?_
     rotate_left
     ·intro w hSw;obtain ⟨c0,c1,c2,c3,c4,c5⟩:=zs_cells (HI.out.below (later hBw hSw)) HKZ.out HEZ.out;obtain ⟨d0,d1,d2,d3,d4,d5⟩:=zs_cells ((zs_own HLL.out.2.1).below (hBO.trans (hSw.mono hBO.size))) hjn HEJ.out;go_simp;try with_reducible rfl
     try simp only [Act.put,sA,sB,sC,sD,sE,sF]
     refine tk 3 (v:=?_) rfl hHeld ?_ ?_
     rotate_left
     ·intro w hSw;obtain ⟨c0,c1,c2,c3,c4,c5⟩:=zs_cells (HI.out.below (later hBw hSw)) HKZ.out HEZ.out;obtain ⟨d0,d1,d2,d3,d4,d5⟩:=zs_cells ((zs_own HLL.out.2.1).below (hBO.trans (hSw.mono hBO.size))) hjn HEJ.out;go_simp;try with_reducible rfl
     try simp only [Act.put,sA,sB,sC,sD,sE,sF]
     refine tk 4 (v:=?_) rfl hHeld ?_ ?_
     rotate_left
     ·intro w hSw;obtain ⟨c0,c1,c2,c3,c4,c5⟩:=zs_cells (HI.out.below (later hBw hSw)) HKZ.out HEZ.out;obtain ⟨d0,d1,d2,d3,d4,d5⟩:=zs_cells ((zs_own HLL.out.2.1).below (hBO.trans (hSw.mono hBO.size))) hjn HEJ.out;go_simp;try with_reducible rfl
     try simp only [Act.put,sA,sB,sC,sD,sE,sF]
     refine tk 5 (v:=?_) rfl hHeld ?_ ?_
     rotate_left
     ·intro w hSw;obtain ⟨c0,c1,c2,c3,c4,c5⟩:=zs_cells (HI.out.below (later hBw hSw)) HKZ.out HEZ.out;obtain ⟨d0,d1,d2,d3,d4,d5⟩:=zs_cells ((zs_own HLL.out.2.1).below (hBO.trans (hSw.mono hBO.size))) hjn HEJ.out;go_simp;try with_reducible rfl
     try simp only [Act.put,sA,sB,sC,sD,sE,sF]
     refine tk 6 (v:=?_) rfl hHeld ?_ ?_
     rotate_left
     ·intro w hSw;obtain ⟨c0,c1,c2,c3,c4,c5⟩:=zs_cells (HI.out.below (later hBw hSw)) HKZ.out HEZ.out;obtain ⟨d0,d1,d2,d3,d4,d5⟩:=zs_cells ((zs_own HLL.out.2.1).below (hBO.trans (hSw.mono hBO.size))) hjn HEJ.out;go_simp;try with_reducible rfl
     try simp only [Act.put,sA,sB,sC,sD,sE,sF]
     refine tk 7 (v:=?_) rfl hHeld ?_ ?_
     rotate_left
     ·intro w hSw;obtain ⟨c0,c1,c2,c3,c4,c5⟩:=zs_cells (HI.out.below (later hBw hSw)) HKZ.out HEZ.out;obtain ⟨d0,d1,d2,d3,d4,d5⟩:=zs_cells ((zs_own HLL.out.2.1).below (hBO.trans (hSw.mono hBO.size))) hjn HEJ.out;go_simp;try with_reducible rfl
     try simp only [Act.put,sA,sB,sC,sD,sE,sF]
     refine wpAnyH_ready (rs:=[8]) (by kernel_rfl) (by simp) (AllReadyH.cons rfl (fun K hK=>?_) AllReadyH.nil)
     go_simp
     refine (mref.less_any y0 y1 y2 y3 y4 y5 z0 z1 z2 z3 z4 z5 _ HZJ.out HZK.out).mono ?_
     rintro e u5 ⟨hB,vx,rx,fx,rfl,hR,hO⟩
     have hO:=zs_own hO
     obtain ⟨ax,cx,rfl⟩:=zs_len hO
     have HX:=Lib.hid hO
     have HR:=Lib.hid hR
     clear hR hO
     refine hK.out _ _ (hHeld.trans (hB.mono hHeld.size)) (fun hNew=>?_)
     clear hB
     clear hHeld hK K
     have hHeld:=hNew
     clear hNew
     try simp only [Act.put,sA,sB,sC,sD,sE,sF]
     refine tk 9 (v:=?_) rfl hHeld ?_ ?_
     rotate_left
     ·intro w hSw;skip;go_simp;try with_reducible rfl
     try simp only [Act.put,sA,sB,sC,sD,sE,sF]
     refine tk 10 (v:=?_) rfl hHeld ?_ ?_
     rotate_left
     ·intro w hSw;skip;go_simp;try with_reducible rfl
     try simp only [Act.put,sA,sB,sC,sD,sE,sF]
     refine tk 11 (v:=?_) rfl hHeld ?_ ?_
     rotate_left
     ·intro w hSw;skip;go_simp;try with_reducible rfl
     try simp only [Act.put,sA,sB,sC,sD,sE,sF]
     refine tk 12 (v:=?_) rfl hHeld ?_ ?_
     rotate_left
     ·intro w hSw;skip;go_simp;try with_reducible rfl
     try simp only [Act.put,sA,sB,sC,sD,sE,sF]
     refine tk 13 (v:=?_) rfl hHeld ?_ ?_
     rotate_left
     ·intro w hSw;skip;go_simp;try with_reducible rfl
     try simp only [Act.put,sA,sB,sC,sD,sE,sF]
     refine wpAnyH_done (by kernel_rfl) ?_ _
     replace hBO:=hBO.trans (hHeld.mono hBO.size)
     replace hBw:=later hBw hHeld
     have hown:=incl.own_call HOWN.out hHeld
     clear hHeld HOWN HV
     by_cases hf:fx=0
     ·skip
      subst hf
      have hxl:=less_len HZJ.out HZK.out HR.out
      have hxz:=less_zo HZK.out.2.1 HZK.out.1 6 (Nat.le_refl _) HZJ.out HR.out
      obtain ⟨vq,wq,hrun,hown2,hgrow2,hbl⟩:=app_zones w.heap.size 29 (.slice nv nx.length nc) (.slice ax rx.length cx) _ _ _ _ _ hown HX.out (by omega) hBw.size
      have hBO2:Below WO.heap.size WO wq:=hBO.grown hgrow2 hBO.size (fun g e=>HOG.out g e)
      have hBw2:Below w.heap.size w wq:=held_grown hBw hBw.size hown (Nat.le_refl _) hgrow2
      have hog2:∀ g,vq.ownBlock=some g→WO.heap.size≤g:=fun g e=>by
       rcases hbl with q | q
       ·exact HOG.out g (q.symm.trans e)
       ·rw [q] at e;cases e;exact hBO.size
      have hown3:wq.ownsRow w.heap.size 27 6 vq (nx++rx).length (flatZ (nx++rx)):=by
       rw [List.length_append,flatZ_app];exact hown2
      obtain ⟨uv,uc,eq3⟩:=zs_len (zs_own hown3)
      rw [List.length_append] at eq3
      subst eq3
      have hln:(nx++rx).length=nx.length+rx.length:=List.length_append
      have HO3:=Lib.hid hown3
      have HG2:=Lib.hid hog2
      have HXZ:=Lib.hid hxz
      have HRUN:=Lib.hid hrun
      have HLN:=Lib.hid hln
      clear hown hown2 hown3 hog2 hgrow2 hbl hxz hrun hln HX hBO hBw
      by_cases h4:nx.length+rx.length≤4096
      ·skip
       have h4i:¬ (4096:Int)<((nx.length+rx.length:Nat):Int):=by omega
       have h4j:¬ (4096:Int)<(nx.length:Int)+(rx.length:Int):=by omega
       go_wp2_with (at_builtin;refine dref.append_run2 rfl (.tmp 41) (.tmp 42) 29 rfl _ _ _ _ rfl rfl HRUN.out ?_;clear HRUN)
       go_roundw
       case rel=>exact ⟨j+1,nx++rx,by omega,by go_num,hBO2,hBw2,HO3.out,HG2.out,by rw [HLN.out];exact h4,fun z hz=>by
        rcases List.mem_append.1 hz with q | q
        ·exact HNZ.out z q
        ·exact HXZ.out z q,Lib.hid (fun r f q=>HN.out r f (by rw [HDJ.out];exact ⟨rx,0,HR.out,.inr ⟨rfl,.inr ⟨by rw [HLN.out];omega,q⟩⟩⟩))⟩
       case measure=>simp [intOf];omega
      ·skip
       have h4i:(4096:Int)<((nx.length+rx.length:Nat):Int):=by omega
       have h4j:(4096:Int)<(nx.length:Int)+(rx.length:Int):=by omega
       have H4:=Lib.hid h4
       clear h4
       go_wp2_with (at_builtin;refine dref.append_run2 rfl (.tmp 41) (.tmp 42) 29 rfl _ _ _ _ rfl rfl HRUN.out ?_;clear HRUN)
       exact bodyPost_ret (v:=.tuple #[.slice none 0 0,.int .i64 4]) (by simp [results,Tryz.results86,go_sem]) rfl ⟨hBw2,_,[],4,rfl,HC.out [] 4 (by rw [HDR.out];exact ⟨[],4,HN.out [] 4 (by rw [HDJ.out];exact ⟨rx,0,HR.out,.inr ⟨rfl,.inl ⟨by rw [HLN.out];have:=H4.out;omega,rfl,rfl⟩⟩⟩),.inl ⟨by decide,rfl,rfl⟩⟩),World.ownsRow_nil _ _ _ _⟩
     ·skip
      have hfb:(fx==0)=false:=by simpa using hf
      have hfn:(fx !=0)=true:=by simpa using hf
      have HF:=Lib.hid hf
      clear hf hown HX
      go_wp2_with fail
      exact bodyPost_ret (v:=.tuple #[.slice none 0 0,.int .i64 fx]) (by simp [results,Tryz.results86,go_sem]) rfl ⟨hBw,_,[],fx,rfl,HC.out [] fx (by rw [HDR.out];exact ⟨[],fx,HN.out [] fx (by rw [HDJ.out];exact ⟨rx,fx,HR.out,.inl ⟨HF.out,rfl,rfl⟩⟩),.inl ⟨HF.out,rfl,rfl⟩⟩),World.ownsRow_nil _ _ _ _⟩
    ·skip
     obtain rfl:j=cur.length:=by omega
     have hst:=HN.out nx 0 (by rw [List.drop_length];exact ⟨rfl,rfl⟩)
     have HST:=Lib.hid hst
     obtain ⟨nv,nc,rfl⟩:=zs_len (zs_own hown)
     have HL3:Lr w (.slice nv nx.length nc) nx wr:=⟨hBw,hown,hnz,hnl⟩
     clear hst hBO hBw hown hog hnl hnz hV
     go_wp2_with fail
     go_roundw
     case rel=>exact ⟨k+1,nx,by omega,by go_num,HL3,Lib.hid (fun r f q=>HC.out r f (by rw [HDR.out];exact ⟨nx,0,HST.out,.inr ⟨rfl,q⟩⟩))⟩
     case measure=>simp [intOf];omega
  ·skip
   obtain rfl:len=k:=by omega
   have HLL:=Lib.hid hL
   clear hL
   go_wp2_with fail
   exact bodyPost_ret (v:=.tuple #[.slice av cur.length cv,.int .i64 0]) (by simp [results,Tryz.results86,go_sem]) rfl ⟨HLL.out.1,_,cur,0,rfl,HC.out cur 0 (by rw [←HL.out,List.drop_length];exact ⟨rfl,rfl⟩),HLL.out.2.1⟩
end Go.Proofs.YthmljpccbjolgaaGreatDoor.mref
