
/-
  The document's own Within, Window and Shift, each in one form; each theorem names its conditions.
-/
import Derived.Test.YthmljpccbjolgaaGreatDoorZoneU
import Derived.Test.YthmljpccbjolgaaGreatDoorWinD
namespace Go.Proofs.YthmljpccbjolgaaGreatDoor.wref
open Go.Joins Go.ChangeShapes Go.WideShapes Go.ChangeAt Go.RowKit num rat dbm Go.Proofs.YthmljpccbjolgaaGreatDoor.tight Go.Proofs.YthmljpccbjolgaaGreatDoor.incl Go.Proofs.YthmljpccbjolgaaGreatDoor.plaw Go.Proofs.YthmljpccbjolgaaGreatDoor.zopen Go.Proofs.YthmljpccbjolgaaGreatDoor.zone Go.Proofs.YthmljpccbjolgaaGreatDoor.zref Go.Proofs.YthmljpccbjolgaaGreatDoor.win dref
open bound hiding up
open Go.Proofs.YthmljpccbjolgaaGreatDoor.comp (five_cells six_fine)
set_option linter.unusedVariables false
set_option linter.unusedSimpArgs false
/-! told -/
set_option maxRecDepth 100000 in
set_option maxHeartbeats 2000000 in
theorem told_no (n:Int) (sv:Value) (w:World):Calls Tryz.prog 112 #[.agg #[.int .i64 n,sv],.bool false] w fun e w'=>Below w.heap.size w w'∧e=.returned (.tuple #[.agg #[.int .i64 0,.int .i64 0,.int .i64 0,.int .i64 0,.int .i64 0,.int .i64 0],.int .i64 6]):=by
 have DB:=bound.up2 w (.cells #[.int .i64 n,sv] 81) (.cells #[.int .i64 0,.int .i64 0,.int .i64 0,.int .i64 0,.int .i64 0,.int .i64 0] 27)
 have D1:=lies.made_at (w.alloc (.cells #[.int .i64 n,sv] 81)) 27 #[.int .i64 0,.int .i64 0,.int .i64 0,.int .i64 0,.int .i64 0,.int .i64 0] (w.heap.size+1) (by simp)
 go_enter Tryz.func112,Tryz.ntmps112
 go_wp2_with fail
 generalize (w.alloc (.cells #[.int .i64 n,sv] 81)).alloc (.cells #[.int .i64 0,.int .i64 0,.int .i64 0,.int .i64 0,.int .i64 0,.int .i64 0] 27)=w0 at DB D1 ⊢
 obtain ⟨⟨x0,x1,x2,x3,x4,x5⟩,⟨y0,y1,y2,y3,y4,y5⟩,xl⟩:=six_cells D1
 go_wp2_with fail
 exact bodyPost_ret (v:=.tuple #[.agg #[.int .i64 0,.int .i64 0,.int .i64 0,.int .i64 0,.int .i64 0,.int .i64 0],.int .i64 6]) (by simp [results,Tryz.results112,go_sem,x0,x1,x2,x3,x4,x5,xl]) rfl ⟨DB,rfl⟩
set_option maxRecDepth 100000 in
set_option maxHeartbeats 2000000 in
theorem told_yes (g c:Nat) (us:List Int) (w:World) (hI:law.Ints w.heap.size w (.slice (some ⟨g,0,none⟩) 9 c) us) (hr:Row w g 0 us) (hg:g<w.heap.size) (hl:us.length=9) (hlo:Low us) (htop:Tops us) (h:MayD 3 us):Calls Tryz.prog 112 #[.agg #[.int .i64 3,.slice (some ⟨g,0,none⟩) 9 c],.bool true] w fun e w'=>Below w.heap.size w w'∧∃ v0 v1 v2 v3 v4 v5,e=.returned (.tuple #[.agg #[.int .i64 v0,.int .i64 v1,.int .i64 v2,.int .i64 v3,.int .i64 v4,.int .i64 v5],.int .i64 0])∧[v0,v1,v2,v3,v4,v5]=shortT us:=by
 have DB:=bound.up2 w (.cells #[.int .i64 3,.slice (some ⟨g,0,none⟩) 9 c] 81) (.cells #[.int .i64 0,.int .i64 0,.int .i64 0,.int .i64 0,.int .i64 0,.int .i64 0] 27)
 have D0:=lies.on_alloc (lies.made w 81 #[.int .i64 3,.slice (some ⟨g,0,none⟩) 9 c]) (.cells #[.int .i64 0,.int .i64 0,.int .i64 0,.int .i64 0,.int .i64 0,.int .i64 0] 27)
 have D1:=lies.made_at (w.alloc (.cells #[.int .i64 3,.slice (some ⟨g,0,none⟩) 9 c] 81)) 27 #[.int .i64 0,.int .i64 0,.int .i64 0,.int .i64 0,.int .i64 0,.int .i64 0] (w.heap.size+1) (by simp)
 have C1:=Lib.hid (tref.may_yes (n:=3) ((hI.below DB).mono DB.size) (by omega) hlo htop h)
 have R0:=hr.below DB hg
 have hgw:=Nat.lt_of_lt_of_le hg DB.size
 have HL:=Lib.hid hl
 clear hI hr hl hlo htop h
 go_enter Tryz.func112,Tryz.ntmps112
 go_wp2_with fail
 generalize (w.alloc (.cells #[.int .i64 3,.slice (some ⟨g,0,none⟩) 9 c] 81)).alloc (.cells #[.int .i64 0,.int .i64 0,.int .i64 0,.int .i64 0,.int .i64 0,.int .i64 0] 27)=w0 at DB D0 D1 C1 R0 hgw ⊢
 obtain ⟨x0,x1,x2,x3,x4⟩:=lies.two D0
 go_wp2_with fail
 refine C1.out.mono ?_
 rintro e w1 ⟨rfl,hB⟩
 have E0:=lies.on_call D0 hB
 have E1:=lies.on_call D1 hB
 have R1:=R0.below hB hgw
 have EB:=later DB hB
 have hg1:=Nat.lt_of_lt_of_le hgw hB.size
 clear DB D0 D1 C1 R0 hgw hB x0 x1 x2 x3 x4
 obtain ⟨x0,x1,x2,x3,x4⟩:=lies.two E0
 go_wp2_with fail
 refine (short_is 3 g c us w1 R1 hg1 HL.out).mono ?_
 rintro e w2 ⟨hB,v0,v1,v2,v3,v4,v5,rfl,hV⟩
 have F1:=lies.on_call E1 hB
 have FB:=later EB hB
 clear EB E0 E1 R1 hB x0 x1 x2 x3 x4
 have HV:=Lib.hid hV
 clear hV
 obtain ⟨⟨x0,x1,x2,x3,x4,x5⟩,⟨y0,y1,y2,y3,y4,y5⟩,xl⟩:=six_cells F1
 go_wp2_with fail
 exact bodyPost_ret (v:=.tuple #[.agg #[.int .i64 v0,.int .i64 v1,.int .i64 v2,.int .i64 v3,.int .i64 v4,.int .i64 v5],.int .i64 0]) (by simp [results,Tryz.results112,go_sem,x0,x1,x2,x3,x4,x5,xl]) rfl ⟨put_six FB (by omega) _ _ _ _ _ _,v0,v1,v2,v3,v4,v5,rfl,HV.out⟩
set_option maxRecDepth 100000 in
set_option maxHeartbeats 2000000 in
theorem told_bad (sv:Value) (us:List Int) (w:World) (hI:law.Ints w.heap.size w sv us) (hl:us.length=9) (hlo:Low us) (htop:Tops us) (h:¬ MayD 3 us):Calls Tryz.prog 112 #[.agg #[.int .i64 3,sv],.bool true] w fun e w'=>Below w.heap.size w w'∧e=.returned (.tuple #[.agg #[.int .i64 0,.int .i64 0,.int .i64 0,.int .i64 0,.int .i64 0,.int .i64 0],.int .i64 8]):=by
 have DB:=bound.up2 w (.cells #[.int .i64 3,sv] 81) (.cells #[.int .i64 0,.int .i64 0,.int .i64 0,.int .i64 0,.int .i64 0,.int .i64 0] 27)
 have D0:=lies.on_alloc (lies.made w 81 #[.int .i64 3,sv]) (.cells #[.int .i64 0,.int .i64 0,.int .i64 0,.int .i64 0,.int .i64 0,.int .i64 0] 27)
 have D1:=lies.made_at (w.alloc (.cells #[.int .i64 3,sv] 81)) 27 #[.int .i64 0,.int .i64 0,.int .i64 0,.int .i64 0,.int .i64 0,.int .i64 0] (w.heap.size+1) (by simp)
 have C1:=Lib.hid (tref.may_no (n:=3) ((hI.below DB).mono DB.size) (by omega) hlo htop h)
 clear hI hl hlo htop h
 go_enter Tryz.func112,Tryz.ntmps112
 go_wp2_with fail
 generalize (w.alloc (.cells #[.int .i64 3,sv] 81)).alloc (.cells #[.int .i64 0,.int .i64 0,.int .i64 0,.int .i64 0,.int .i64 0,.int .i64 0] 27)=w0 at DB D0 D1 C1 ⊢
 obtain ⟨x0,x1,x2,x3,x4⟩:=lies.two D0
 go_wp2_with fail
 refine C1.out.mono ?_
 rintro e w1 ⟨rfl,hB⟩
 have E1:=lies.on_call D1 hB
 have EB:=later DB hB
 clear DB D0 D1 C1 hB x0 x1 x2 x3 x4
 obtain ⟨⟨x0,x1,x2,x3,x4,x5⟩,⟨y0,y1,y2,y3,y4,y5⟩,xl⟩:=six_cells E1
 go_wp2_with fail
 exact bodyPost_ret (v:=.tuple #[.agg #[.int .i64 0,.int .i64 0,.int .i64 0,.int .i64 0,.int .i64 0,.int .i64 0],.int .i64 8]) (by simp [results,Tryz.results112,go_sem,x0,x1,x2,x3,x4,x5,xl]) rfl ⟨put_six EB (by omega) _ _ _ _ _ _,rfl⟩
theorem told_any {L us:List Int} {na:Int} {bl:Bool} (hC:tref.CommR 3 L na us bl) (hm:MayD 3 L) (hl:L.length=9) (htop:Tops L) (a:Option Addr) (l c base:Nat) (w:World) (hO:w.ownsRow base 25 1 (.slice a l c) us.length (us.map (Value.int .i64))):
  Calls Tryz.prog 112 #[.agg #[.int .i64 na,.slice a l c],.bool bl] w (Ofs 3 L w):=by
 rcases hC with ⟨hno,rfl,rfl,rfl⟩ | ⟨hok,rfl,hu,rfl⟩
 ·refine (told_no 0 _ w).mono ?_
  rintro e w' ⟨hB,rfl⟩
  exact ⟨hB,0,0,0,0,0,0,6,rfl,.inr (.inr (.inl ⟨hm,rfl,hno,rfl,rfl⟩))⟩
 ·have hlo:Low us:=by rw [hu];exact cl_low (n:=3) (by decide) (by decide) hl htop hok
  have hto:Tops us:=by rw [hu];exact clT_tops htop
  have h9:us.length=9:=by rw [hu];exact (clT_length hok).trans hl
  have HU:=Lib.hid hu
  clear hu
  obtain ⟨g,rfl,rfl⟩:∃ g,a=some ⟨g,0,none⟩∧l=9:=by
   rcases ownsRow_forms hO with ⟨_,h0⟩ | ⟨g,cap,hv⟩
   ·omega
   ·injection hv with h1 h2 h3
    exact ⟨g,h1,h2.trans h9⟩
  have hI:=ints_row hO rfl
  by_cases h:MayD 3 us
  ·refine (told_yes g c us w hI (tref.own_row (by rw [h9] at hO;exact hO) h9) (hO.lt g rfl).2 h9 hlo hto h).mono ?_
   rintro e w' ⟨hB,v0,v1,v2,v3,v4,v5,rfl,hV⟩
   exact ⟨hB,v0,v1,v2,v3,v4,v5,0,rfl,.inr (.inr (.inr (.inr ⟨rfl,hok,HU.out ▸ h,by rw [←HU.out];exact hV,rfl⟩)))⟩
  ·refine (told_bad _ us w hI h9 hlo hto h).mono ?_
   rintro e w' ⟨hB,rfl⟩
   exact ⟨hB,0,0,0,0,0,0,8,rfl,.inr (.inr (.inr (.inl ⟨rfl,hok,fun k=>h (HU.out ▸ k),rfl,rfl⟩)))⟩
set_option maxRecDepth 100000 in
set_option maxHeartbeats 8000000 in
theorem spanned_any (a0 a1 a2 a3 a4 a5 lo:Int) (ls:Bool) (hi:Int) (hs op:Bool) (w:World) (ha:MayZ [a0,a1,a2,a3,a4,a5]) (ta:Tops [a0,a1,a2,a3,a4,a5]) (hp:MayP (lo,ls,hi,hs,op)):Calls Tryz.prog 66 #[.agg #[.int .i64 a0,.int .i64 a1,.int .i64 a2,.int .i64 a3,.int .i64 a4,.int .i64 a5],.agg #[.int .i64 lo,.bool ls,.int .i64 hi,.bool hs,.bool op]] w (Zs (CutR [a0,a1,a2,a3,a4,a5] (diffZ (lo,ls,hi,hs,op))) w):=by
 have HA:=Lib.hid ha
 have HTF:=Lib.hid (full_tops ta)
 obtain ⟨H,hH⟩:∃ H,H=hiB hi hs op:=⟨_,rfl⟩
 obtain ⟨L,hL⟩:∃ L,L=bound.mk (-lo) ls:=⟨_,rfl⟩
 have HMW:=Lib.hid (diff_may hp)
 have HDW:RowKit.Hid (fullT (diffZ (lo,ls,hi,hs,op))=(fullT [9223372036854775807,9223372036854775807,9223372036854775807,9223372036854775807,H,L])):=Lib.hid (by rw [hH,hL];rfl)
 have HML:RowKit.Hid (MayD 3 (lesT (fullT [a0,a1,a2,a3,a4,a5]) (fullT [9223372036854775807,9223372036854775807,9223372036854775807,9223372036854775807,H,L]))):=Lib.hid (by rw [←HDW.out];exact lesT_may ha.may (diff_may hp))
 have HTL:=Lib.hid (lesT_tops HTF.out (fullT [9223372036854775807,9223372036854775807,9223372036854775807,9223372036854775807,H,L]))
 have CA:RowKit.Hid (∀ W,Calls Tryz.prog 110 #[.agg #[.int .i64 lo,.bool ls,.int .i64 hi,.bool hs,.bool op]] W fun e w'=>e=.returned (.int .i64 H)∧Below W.heap.size W w'):=Lib.hid (by rw [hH];exact fun W=>tref.above_any lo ls hi hs op W (hi_in (s:=(lo,ls,hi,hs,op)) hp))
 have CB:RowKit.Hid (∀ W,Calls Tryz.prog 111 #[.agg #[.int .i64 lo,.bool ls,.int .i64 hi,.bool hs,.bool op]] W fun e w'=>e=.returned (.int .i64 L)∧Below W.heap.size W w'):=Lib.hid (by rw [hL];exact fun W=>tref.below_any lo ls hi hs op W hp.1)
 clear ha ta hp hH hL
 have X:∃ w0,w0=((w.alloc (.cells #[.int .i64 a0,.int .i64 a1,.int .i64 a2,.int .i64 a3,.int .i64 a4,.int .i64 a5] 27)).alloc (.cells #[.int .i64 lo,.bool ls,.int .i64 hi,.bool hs,.bool op] 35)).alloc (.cells #[.int .i64 0,.int .i64 0,.int .i64 0,.int .i64 0,.int .i64 0,.int .i64 0] 27):=⟨_,rfl⟩
 obtain ⟨w0,hX⟩:=X
 have DB:Below w.heap.size w w0:=by rw [hX];exact bound.up3 _ _ _ _
 have D0:lies.Lies w0 w.heap.size 27 #[.int .i64 a0,.int .i64 a1,.int .i64 a2,.int .i64 a3,.int .i64 a4,.int .i64 a5]:=by rw [hX];exact lies.on_alloc (lies.on_alloc (lies.made _ _ _) _) _
 have D1:lies.Lies w0 (w.heap.size+1) 35 #[.int .i64 lo,.bool ls,.int .i64 hi,.bool hs,.bool op]:=by rw [hX];exact lies.on_alloc (lies.made_at _ _ _ _ (by simp)) _
 have D2:lies.Lies w0 (w.heap.size+1+1) 27 #[.int .i64 0,.int .i64 0,.int .i64 0,.int .i64 0,.int .i64 0,.int .i64 0]:=by rw [hX];exact lies.made_at _ _ _ _ (by simp)
 have hR:w.heap.size≤w.heap.size+1+1:=by omega
 go_enter Tryz.func66,Tryz.ntmps66
 go_wp2_with fail
 rw [←hX]
 clear hX
 have hDr:=dbm.drawn1 (Below.refl w0.heap.size w0)
 replace D0:=lies.on_call D0 hDr
 replace D1:=lies.on_call D1 hDr
 replace D2:=lies.on_call D2 hDr
 replace DB:=later DB hDr
 clear hDr
 refine wp_region_held_drew (S:=fun W=>lies.Lies W (w.heap.size+1) 35 #[.int .i64 lo,.bool ls,.int .i64 hi,.bool hs,.bool op]) (by kernel_rfl) D1 (fun hHeld=>?_)
 generalize w0.drew=wD at D0 D1 D2 DB hHeld ⊢
 refine tk 0 (v:=?_) rfl hHeld ?_ ?_
 rotate_left
 ·intro w hSw;obtain ⟨⟨c0,c1,c2,c3,c4⟩,_⟩:=five_cells hSw;go_simp;try with_reducible rfl
 try simp only [Act.put,sA,sB,sC,sD,sE,sF]
 refine tk 2 (v:=?_) rfl hHeld ?_ ?_
 rotate_left
 ·intro w hSw;obtain ⟨⟨c0,c1,c2,c3,c4⟩,_⟩:=five_cells hSw;go_simp;try with_reducible rfl
 try simp only [Act.put,sA,sB,sC,sD,sE,sF]
 refine wpAnyH_ready (rs:=[1,6]) (by kernel_rfl) (by simp) (AllReadyH.cons rfl (fun K hK=>?_) (AllReadyH.cons rfl (fun K hK=>?_) AllReadyH.nil))
 ·go_simp
  refine (CA.out wD).mono ?_
  rintro e u1 ⟨rfl,hB⟩
  replace D0:=lies.on_call D0 hB
  replace D1:=lies.on_call D1 hB
  replace D2:=lies.on_call D2 hB
  replace DB:=later DB hB
  clear hB
  refine hK.out _ _ D1 (fun hNew=>?_)
  clear hHeld hK K
  have hHeld:=hNew
  clear hNew
  try simp only [Act.put,sA,sB,sC,sD,sE,sF]
  refine wpAnyH_ready (rs:=[3,6]) (by kernel_rfl) (by simp) (AllReadyH.cons rfl (fun K hK=>?_) (AllReadyH.cons rfl (fun K hK=>?_) AllReadyH.nil))
  ·go_simp
   refine (CB.out u1).mono ?_
   rintro e u2 ⟨rfl,hB⟩
   replace D0:=lies.on_call D0 hB
   replace D1:=lies.on_call D1 hB
   replace D2:=lies.on_call D2 hB
   replace DB:=later DB hB
   clear hB
   refine hK.out _ _ D1 (fun hNew=>?_)
   clear hHeld hK K
   have hHeld:=hNew
   clear hNew
   try simp only [Act.put,sA,sB,sC,sD,sE,sF]
   refine tk 4 (v:=?_) rfl hHeld ?_ ?_
   rotate_left
   ·intro w hSw;skip;go_simp;try with_reducible rfl
   try simp only [Act.put,sA,sB,sC,sD,sE,sF]
   refine wpAnyH_ready (rs:=[5,6]) (by kernel_rfl) (by simp) (AllReadyH.cons rfl (fun K hK=>?_) (AllReadyH.cons rfl (fun K hK=>?_) AllReadyH.nil))
   ·go_simp
    refine (full_is 9223372036854775807 9223372036854775807 9223372036854775807 9223372036854775807 H L u2).mono ?_
    rintro e u3 ⟨hB,g,hg,rfl,GG⟩
    replace D0:=lies.on_call D0 hB
    replace D1:=lies.on_call D1 hB
    replace D2:=lies.on_call D2 hB
    replace DB:=later DB hB
    clear hB
    clear hg
    refine hK.out _ _ D1 (fun hNew=>?_)
    clear hHeld hK K
    have hHeld:=hNew
    clear hNew
    try simp only [Act.put,sA,sB,sC,sD,sE,sF]
    refine wpAnyH_ready (rs:=[6]) (by kernel_rfl) (by simp) (AllReadyH.cons rfl (fun K hK=>?_) AllReadyH.nil)
    go_simp
    have HSZ:=DB.size
    have hA:=bound.up1 u3 (.cells #[.int .i64 0,.slice none 0 0] 81)
    have DT:=lies.made u3 81 #[.int .i64 0,.slice none 0 0]
    replace D0:=lies.on_call D0 hA
    replace D1:=lies.on_call D1 hA
    replace D2:=lies.on_call D2 hA
    replace GG:=lies.on_call GG hA
    replace DB:=later DB hA
    clear hA
    refine hK.out _ _ D1 (fun hNew=>?_)
    clear hHeld hK K
    have hHeld:=hNew
    clear hNew
    try simp only [Act.put,sA,sB,sC,sD,sE,sF]
    have hXw:w.heap.size≤(World.heap u3).size:=HSZ
    generalize (World.heap u3).size=XDT at DT hXw ⊢
    generalize World.alloc u3 (.cells #[.int .i64 0,.slice none 0 0] 81)=u4 at D0 D1 D2 GG DT DB hHeld ⊢
    obtain ⟨t0,t1,t2,t3,t4⟩:=lies.two DT
    have hgT:=ne_type GG DT (by decide)
    have k0:=ne_type D0 DT (by decide)
    have k1:=ne_type D1 DT (by decide)
    have k2:=ne_type D2 DT (by decide)
    skip
    refine wpAnyH_ready (rs:=[7]) (by kernel_rfl) (by simp) (AllReadyH.cons rfl (fun K hK=>?_) AllReadyH.nil)
    go_simp
    replace D0:=lies.on_far (lies.on_far D0 (b:=XDT) 0 k0 (.int .i64 3)) (b:=XDT) 1 k0 (.slice (some ⟨g,0,none⟩) 9 9)
    replace D1:=lies.on_far (lies.on_far D1 (b:=XDT) 0 k1 (.int .i64 3)) (b:=XDT) 1 k1 (.slice (some ⟨g,0,none⟩) 9 9)
    replace D2:=lies.on_far (lies.on_far D2 (b:=XDT) 0 k2 (.int .i64 3)) (b:=XDT) 1 k2 (.slice (some ⟨g,0,none⟩) 9 9)
    replace GG:=lies.on_far (lies.on_far GG (b:=XDT) 0 hgT (.int .i64 3)) (b:=XDT) 1 hgT (.slice (some ⟨g,0,none⟩) 9 9)
    replace DB:=(DB.setCell (p:=⟨XDT,0,none⟩) hXw (.int .i64 3)).setCell (p:=⟨XDT,1,none⟩) hXw (.slice (some ⟨g,0,none⟩) 9 9)
    replace DT:=put_two DT (.int .i64 3) (.slice (some ⟨g,0,none⟩) 9 9)
    refine hK.out _ _ D1 (fun hNew=>?_)
    clear t0 t1 t2 t3 t4
    clear hHeld hK K
    have hHeld:=hNew
    clear hNew
    try simp only [Act.put,sA,sB,sC,sD,sE,sF]
    generalize World.setCell (World.setCell u4 ⟨XDT,0,none⟩ (.int .i64 3)) ⟨XDT,1,none⟩ (.slice (some ⟨g,0,none⟩) 9 9)=wO at D0 D1 D2 DT GG DB hHeld ⊢
    refine wpAnyH_done (by kernel_rfl) ?_ _
    clear hHeld D1
    go_wp2_with fail
    have hDr:=dbm.drawn1 (Below.refl wO.heap.size wO)
    replace D0:=lies.on_call D0 hDr
    replace D2:=lies.on_call D2 hDr
    replace GG:=lies.on_call GG hDr
    replace DT:=lies.on_call DT hDr
    replace DB:=later DB hDr
    clear hDr
    refine wp_region_held_drew (S:=fun W=>lies.Lies W w.heap.size 27 #[.int .i64 a0,.int .i64 a1,.int .i64 a2,.int .i64 a3,.int .i64 a4,.int .i64 a5]∧lies.Lies W XDT 81 #[.int .i64 3,.slice (some ⟨g,0,none⟩) 9 9]) (by kernel_rfl) ⟨D0,DT⟩ (fun hHeld=>?_)
    generalize wO.drew=wP at D0 D2 GG DT DB hHeld ⊢
    clear D0 DT
    refine tk 0 (v:=?_) rfl hHeld ?_ ?_
    rotate_left
    ·intro w hSw;obtain ⟨⟨c0,c1,c2,c3,c4,c5⟩,_⟩:=six_cells hSw.1;obtain ⟨d0,d1,_⟩:=lies.two hSw.2;go_simp;try with_reducible rfl
    try simp only [Act.put,sA,sB,sC,sD,sE,sF]
    refine tk 2 (v:=?_) rfl hHeld ?_ ?_
    rotate_left
    ·intro w hSw;obtain ⟨⟨c0,c1,c2,c3,c4,c5⟩,_⟩:=six_cells hSw.1;obtain ⟨d0,d1,_⟩:=lies.two hSw.2;go_simp;try with_reducible rfl
    try simp only [Act.put,sA,sB,sC,sD,sE,sF]
    refine wpAnyH_ready (rs:=[1]) (by kernel_rfl) (by simp) (AllReadyH.cons rfl (fun K hK=>?_) AllReadyH.nil)
    go_simp
    refine (full_is a0 a1 a2 a3 a4 a5 wP).mono ?_
    rintro e wQ1 ⟨hB,g1,hg,rfl,hG1⟩
    replace D2:=lies.on_call D2 hB
    replace GG:=lies.on_call GG hB
    replace DB:=later DB hB
    refine hK.out _ _ ⟨lies.on_call hHeld.1 hB,lies.on_call hHeld.2 hB⟩ (fun hNew=>?_)
    clear hB hg
    clear hHeld hK K
    have hHeld:=hNew
    clear hNew
    try simp only [Act.put,sA,sB,sC,sD,sE,sF]
    refine wpAnyH_ready (rs:=[3]) (by kernel_rfl) (by simp) (AllReadyH.cons rfl (fun K hK=>?_) AllReadyH.nil)
    go_simp
    refine (tref.common_is 3 (.slice (some ⟨g1,0,none⟩) 9 9) g 0 9 (fullT [a0,a1,a2,a3,a4,a5]) (fullT [9223372036854775807,9223372036854775807,9223372036854775807,9223372036854775807,H,L]) wQ1 (by decide) (by decide) (dlaw.own_ints (cap:=9) hG1) (row_of GG) (lies.lt GG) rfl rfl HTF.out HML.out).mono ?_
    intro e wQ2 hC
    obtain ⟨hB,na,a,l,c,us,bl,rfl,hR2,hO⟩:=tref.comm_one hC
    replace D2:=lies.on_call D2 hB
    replace GG:=lies.on_call GG hB
    replace DB:=later DB hB
    refine hK.out _ _ ⟨lies.on_call hHeld.1 hB,lies.on_call hHeld.2 hB⟩ (fun hNew=>?_)
    have TD:=Lib.hid (told_any hR2 HML.out (lesT_length _ _) HTL.out a l c _ wQ2 hO)
    clear hB hC hR2 hO GG hG1
    clear hHeld hK K
    have hHeld:=hNew
    clear hNew
    try simp only [Act.put,sA,sB,sC,sD,sE,sF]
    refine tk 4 (v:=?_) rfl hHeld ?_ ?_
    rotate_left
    ·intro w hSw;skip;go_simp;try with_reducible rfl
    try simp only [Act.put,sA,sB,sC,sD,sE,sF]
    refine tk 5 (v:=?_) rfl hHeld ?_ ?_
    rotate_left
    ·intro w hSw;skip;go_simp;try with_reducible rfl
    try simp only [Act.put,sA,sB,sC,sD,sE,sF]
    refine wpAnyH_ready (rs:=[6]) (by kernel_rfl) (by simp) (AllReadyH.cons rfl (fun K hK=>?_) AllReadyH.nil)
    go_simp
    refine TD.out.mono ?_
    rintro e wQ3 ⟨hB,v0,v1,v2,v3,v4,v5,f,rfl,hR2⟩
    replace D2:=lies.on_call D2 hB
    replace DB:=later DB hB
    refine hK.out _ _ ⟨lies.on_call hHeld.1 hB,lies.on_call hHeld.2 hB⟩ (fun hNew=>?_)
    have HC:RowKit.Hid (CutR [a0,a1,a2,a3,a4,a5] (diffZ (lo,ls,hi,hs,op)) [v0,v1,v2,v3,v4,v5] f):=Lib.hid (cut_of HA.out.may HMW.out (by rw [HDW.out];exact hR2))
    clear hB hR2 TD
    clear hHeld hK K
    have hHeld:=hNew
    clear hNew
    try simp only [Act.put,sA,sB,sC,sD,sE,sF]
    refine tk 7 (v:=?_) rfl hHeld ?_ ?_
    rotate_left
    ·intro w hSw;skip;go_simp;try with_reducible rfl
    try simp only [Act.put,sA,sB,sC,sD,sE,sF]
    refine tk 8 (v:=?_) rfl hHeld ?_ ?_
    rotate_left
    ·intro w hSw;skip;go_simp;try with_reducible rfl
    try simp only [Act.put,sA,sB,sC,sD,sE,sF]
    obtain ⟨⟨x0,x1,x2,x3,x4,x5⟩,⟨y0,y1,y2,y3,y4,y5⟩,xl⟩:=six_cells D2
    refine wpAnyH_ready (rs:=[9]) (by kernel_rfl) (by simp) (AllReadyH.cons rfl (fun K hK=>?_) AllReadyH.nil)
    go_simp
    replace DB:=put_six DB hR (.int .i64 v0) (.int .i64 v1) (.int .i64 v2) (.int .i64 v3) (.int .i64 v4) (.int .i64 v5)
    replace D2:=put_sixL D2 (.int .i64 v0) (.int .i64 v1) (.int .i64 v2) (.int .i64 v3) (.int .i64 v4) (.int .i64 v5)
    refine hK.out _ _ ⟨far_six hHeld.1 (by omega) _ _ _ _ _ _,far_six hHeld.2 (by omega) _ _ _ _ _ _⟩ (fun hNew=>?_)
    clear x0 x1 x2 x3 x4 x5 y0 y1 y2 y3 y4 y5 xl
    clear hHeld hK K
    have hHeld:=hNew
    clear hNew
    try simp only [Act.put,sA,sB,sC,sD,sE,sF]
    generalize World.setCell (World.setCell (World.setCell (World.setCell (World.setCell (World.setCell (wQ3) ⟨w.heap.size+1+1,0,none⟩ (.int .i64 v0)) ⟨w.heap.size+1+1,1,none⟩ (.int .i64 v1)) ⟨w.heap.size+1+1,2,none⟩ (.int .i64 v2)) ⟨w.heap.size+1+1,3,none⟩ (.int .i64 v3)) ⟨w.heap.size+1+1,4,none⟩ (.int .i64 v4)) ⟨w.heap.size+1+1,5,none⟩ (.int .i64 v5)=wQ4 at D2 DB hHeld ⊢
    refine tk 10 (v:=?_) rfl hHeld ?_ ?_
    rotate_left
    ·intro w hSw;skip;go_simp;try with_reducible rfl
    try simp only [Act.put,sA,sB,sC,sD,sE,sF]
    refine wpAnyH_done (by kernel_rfl) ?_ _
    clear hHeld
    obtain ⟨⟨x0,x1,x2,x3,x4,x5⟩,⟨y0,y1,y2,y3,y4,y5⟩,xl⟩:=six_cells D2
    clear D2
    go_wp2_with fail
    exact bodyPost_ret (v:=.tuple #[.agg #[.int .i64 v0,.int .i64 v1,.int .i64 v2,.int .i64 v3,.int .i64 v4,.int .i64 v5],.int .i64 f]) (by simp [results,Tryz.results66,go_sem,x0,x1,x2,x3,x4,x5,xl]) rfl ⟨DB,v0,v1,v2,v3,v4,v5,f,rfl,HC.out⟩
   ·go_simp
    have HSZ:=DB.size
    have hA:=bound.up1 u2 (.cells #[.int .i64 0,.slice none 0 0] 81)
    have DT:=lies.made u2 81 #[.int .i64 0,.slice none 0 0]
    replace D0:=lies.on_call D0 hA
    replace D1:=lies.on_call D1 hA
    replace D2:=lies.on_call D2 hA
    replace DB:=later DB hA
    clear hA
    refine hK.out _ _ D1 (fun hNew=>?_)
    clear hHeld hK K
    have hHeld:=hNew
    clear hNew
    try simp only [Act.put,sA,sB,sC,sD,sE,sF]
    have hXw:w.heap.size≤(World.heap u2).size:=HSZ
    generalize (World.heap u2).size=XDT at DT hXw ⊢
    generalize World.alloc u2 (.cells #[.int .i64 0,.slice none 0 0] 81)=u3 at D0 D1 D2 DT DB hHeld ⊢
    refine wpAnyH_ready (rs:=[5]) (by kernel_rfl) (by simp) (AllReadyH.cons rfl (fun K hK=>?_) AllReadyH.nil)
    go_simp
    refine (full_is 9223372036854775807 9223372036854775807 9223372036854775807 9223372036854775807 H L u3).mono ?_
    rintro e u4 ⟨hB,g,hg,rfl,GG⟩
    replace D0:=lies.on_call D0 hB
    replace D1:=lies.on_call D1 hB
    replace D2:=lies.on_call D2 hB
    replace DT:=lies.on_call DT hB
    replace DB:=later DB hB
    clear hB
    clear hg
    refine hK.out _ _ D1 (fun hNew=>?_)
    clear hHeld hK K
    have hHeld:=hNew
    clear hNew
    try simp only [Act.put,sA,sB,sC,sD,sE,sF]
    obtain ⟨t0,t1,t2,t3,t4⟩:=lies.two DT
    have hgT:=ne_type GG DT (by decide)
    have k0:=ne_type D0 DT (by decide)
    have k1:=ne_type D1 DT (by decide)
    have k2:=ne_type D2 DT (by decide)
    skip
    refine wpAnyH_ready (rs:=[7]) (by kernel_rfl) (by simp) (AllReadyH.cons rfl (fun K hK=>?_) AllReadyH.nil)
    go_simp
    replace D0:=lies.on_far (lies.on_far D0 (b:=XDT) 0 k0 (.int .i64 3)) (b:=XDT) 1 k0 (.slice (some ⟨g,0,none⟩) 9 9)
    replace D1:=lies.on_far (lies.on_far D1 (b:=XDT) 0 k1 (.int .i64 3)) (b:=XDT) 1 k1 (.slice (some ⟨g,0,none⟩) 9 9)
    replace D2:=lies.on_far (lies.on_far D2 (b:=XDT) 0 k2 (.int .i64 3)) (b:=XDT) 1 k2 (.slice (some ⟨g,0,none⟩) 9 9)
    replace GG:=lies.on_far (lies.on_far GG (b:=XDT) 0 hgT (.int .i64 3)) (b:=XDT) 1 hgT (.slice (some ⟨g,0,none⟩) 9 9)
    replace DB:=(DB.setCell (p:=⟨XDT,0,none⟩) hXw (.int .i64 3)).setCell (p:=⟨XDT,1,none⟩) hXw (.slice (some ⟨g,0,none⟩) 9 9)
    replace DT:=put_two DT (.int .i64 3) (.slice (some ⟨g,0,none⟩) 9 9)
    refine hK.out _ _ D1 (fun hNew=>?_)
    clear t0 t1 t2 t3 t4
    clear hHeld hK K
    have hHeld:=hNew
    clear hNew
    try simp only [Act.put,sA,sB,sC,sD,sE,sF]
    generalize World.setCell (World.setCell u4 ⟨XDT,0,none⟩ (.int .i64 3)) ⟨XDT,1,none⟩ (.slice (some ⟨g,0,none⟩) 9 9)=wO at D0 D1 D2 DT GG DB hHeld ⊢
    refine wpAnyH_done (by kernel_rfl) ?_ _
    clear hHeld D1
    go_wp2_with fail
    have hDr:=dbm.drawn1 (Below.refl wO.heap.size wO)
    replace D0:=lies.on_call D0 hDr
    replace D2:=lies.on_call D2 hDr
    replace DT:=lies.on_call DT hDr
    replace GG:=lies.on_call GG hDr
    replace DB:=later DB hDr
    clear hDr
    refine wp_region_held_drew (S:=fun W=>lies.Lies W w.heap.size 27 #[.int .i64 a0,.int .i64 a1,.int .i64 a2,.int .i64 a3,.int .i64 a4,.int .i64 a5]∧lies.Lies W XDT 81 #[.int .i64 3,.slice (some ⟨g,0,none⟩) 9 9]) (by kernel_rfl) ⟨D0,DT⟩ (fun hHeld=>?_)
    generalize wO.drew=wP at D0 D2 DT GG DB hHeld ⊢
    clear D0 DT
    refine tk 0 (v:=?_) rfl hHeld ?_ ?_
    rotate_left
    ·intro w hSw;obtain ⟨⟨c0,c1,c2,c3,c4,c5⟩,_⟩:=six_cells hSw.1;obtain ⟨d0,d1,_⟩:=lies.two hSw.2;go_simp;try with_reducible rfl
    try simp only [Act.put,sA,sB,sC,sD,sE,sF]
    refine tk 2 (v:=?_) rfl hHeld ?_ ?_
    rotate_left
    ·intro w hSw;obtain ⟨⟨c0,c1,c2,c3,c4,c5⟩,_⟩:=six_cells hSw.1;obtain ⟨d0,d1,_⟩:=lies.two hSw.2;go_simp;try with_reducible rfl
    try simp only [Act.put,sA,sB,sC,sD,sE,sF]
    refine wpAnyH_ready (rs:=[1]) (by kernel_rfl) (by simp) (AllReadyH.cons rfl (fun K hK=>?_) AllReadyH.nil)
    go_simp
    refine (full_is a0 a1 a2 a3 a4 a5 wP).mono ?_
    rintro e wQ1 ⟨hB,g1,hg,rfl,hG1⟩
    replace D2:=lies.on_call D2 hB
    replace GG:=lies.on_call GG hB
    replace DB:=later DB hB
    refine hK.out _ _ ⟨lies.on_call hHeld.1 hB,lies.on_call hHeld.2 hB⟩ (fun hNew=>?_)
    clear hB hg
    clear hHeld hK K
    have hHeld:=hNew
    clear hNew
    try simp only [Act.put,sA,sB,sC,sD,sE,sF]
    refine wpAnyH_ready (rs:=[3]) (by kernel_rfl) (by simp) (AllReadyH.cons rfl (fun K hK=>?_) AllReadyH.nil)
    go_simp
    refine (tref.common_is 3 (.slice (some ⟨g1,0,none⟩) 9 9) g 0 9 (fullT [a0,a1,a2,a3,a4,a5]) (fullT [9223372036854775807,9223372036854775807,9223372036854775807,9223372036854775807,H,L]) wQ1 (by decide) (by decide) (dlaw.own_ints (cap:=9) hG1) (row_of GG) (lies.lt GG) rfl rfl HTF.out HML.out).mono ?_
    intro e wQ2 hC
    obtain ⟨hB,na,a,l,c,us,bl,rfl,hR2,hO⟩:=tref.comm_one hC
    replace D2:=lies.on_call D2 hB
    replace GG:=lies.on_call GG hB
    replace DB:=later DB hB
    refine hK.out _ _ ⟨lies.on_call hHeld.1 hB,lies.on_call hHeld.2 hB⟩ (fun hNew=>?_)
    have TD:=Lib.hid (told_any hR2 HML.out (lesT_length _ _) HTL.out a l c _ wQ2 hO)
    clear hB hC hR2 hO GG hG1
    clear hHeld hK K
    have hHeld:=hNew
    clear hNew
    try simp only [Act.put,sA,sB,sC,sD,sE,sF]
    refine tk 4 (v:=?_) rfl hHeld ?_ ?_
    rotate_left
    ·intro w hSw;skip;go_simp;try with_reducible rfl
    try simp only [Act.put,sA,sB,sC,sD,sE,sF]
    refine tk 5 (v:=?_) rfl hHeld ?_ ?_
    rotate_left
    ·intro w hSw;skip;go_simp;try with_reducible rfl
    try simp only [Act.put,sA,sB,sC,sD,sE,sF]
    refine wpAnyH_ready (rs:=[6]) (by kernel_rfl) (by simp) (AllReadyH.cons rfl (fun K hK=>?_) AllReadyH.nil)
    go_simp
    refine TD.out.mono ?_
    rintro e wQ3 ⟨hB,v0,v1,v2,v3,v4,v5,f,rfl,hR2⟩
    replace D2:=lies.on_call D2 hB
    replace DB:=later DB hB
    refine hK.out _ _ ⟨lies.on_call hHeld.1 hB,lies.on_call hHeld.2 hB⟩ (fun hNew=>?_)
    have HC:RowKit.Hid (CutR [a0,a1,a2,a3,a4,a5] (diffZ (lo,ls,hi,hs,op)) [v0,v1,v2,v3,v4,v5] f):=Lib.hid (cut_of HA.out.may HMW.out (by rw [HDW.out];exact hR2))
    clear hB hR2 TD
    clear hHeld hK K
    have hHeld:=hNew
    clear hNew
    try simp only [Act.put,sA,sB,sC,sD,sE,sF]
    refine tk 7 (v:=?_) rfl hHeld ?_ ?_
    rotate_left
    ·intro w hSw;skip;go_simp;try with_reducible rfl
    try simp only [Act.put,sA,sB,sC,sD,sE,sF]
    refine tk 8 (v:=?_) rfl hHeld ?_ ?_
    rotate_left
    ·intro w hSw;skip;go_simp;try with_reducible rfl
    try simp only [Act.put,sA,sB,sC,sD,sE,sF]
    obtain ⟨⟨x0,x1,x2,x3,x4,x5⟩,⟨y0,y1,y2,y3,y4,y5⟩,xl⟩:=six_cells D2
    refine wpAnyH_ready (rs:=[9]) (by kernel_rfl) (by simp) (AllReadyH.cons rfl (fun K hK=>?_) AllReadyH.nil)
    go_simp
    replace DB:=put_six DB hR (.int .i64 v0) (.int .i64 v1) (.int .i64 v2) (.int .i64 v3) (.int .i64 v4) (.int .i64 v5)
    replace D2:=put_sixL D2 (.int .i64 v0) (.int .i64 v1) (.int .i64 v2) (.int .i64 v3) (.int .i64 v4) (.int .i64 v5)
    refine hK.out _ _ ⟨far_six hHeld.1 (by omega) _ _ _ _ _ _,far_six hHeld.2 (by omega) _ _ _ _ _ _⟩ (fun hNew=>?_)
    clear x0 x1 x2 x3 x4 x5 y0 y1 y2 y3 y4 y5 xl
    clear hHeld hK K
    have hHeld:=hNew
    clear hNew
    try simp only [Act.put,sA,sB,sC,sD,sE,sF]
    generalize World.setCell (World.setCell (World.setCell (World.setCell (World.setCell (World.setCell (wQ3) ⟨w.heap.size+1+1,0,none⟩ (.int .i64 v0)) ⟨w.heap.size+1+1,1,none⟩ (.int .i64 v1)) ⟨w.heap.size+1+1,2,none⟩ (.int .i64 v2)) ⟨w.heap.size+1+1,3,none⟩ (.int .i64 v3)) ⟨w.heap.size+1+1,4,none⟩ (.int .i64 v4)) ⟨w.heap.size+1+1,5,none⟩ (.int .i64 v5)=wQ4 at D2 DB hHeld ⊢
    refine tk 10 (v:=?_) rfl hHeld ?_ ?_
    rotate_left
    ·intro w hSw;skip;go_simp;try with_reducible rfl
    try simp only [Act.put,sA,sB,sC,sD,sE,sF]
    refine wpAnyH_done (by kernel_rfl) ?_ _
    clear hHeld
    obtain ⟨⟨x0,x1,x2,x3,x4,x5⟩,⟨y0,y1,y2,y3,y4,y5⟩,xl⟩:=six_cells D2
    clear D2
    go_wp2_with fail
    exact bodyPost_ret (v:=.tuple #[.agg #[.int .i64 v0,.int .i64 v1,.int .i64 v2,.int .i64 v3,.int .i64 v4,.int .i64 v5],.int .i64 f]) (by simp [results,Tryz.results66,go_sem,x0,x1,x2,x3,x4,x5,xl]) rfl ⟨DB,v0,v1,v2,v3,v4,v5,f,rfl,HC.out⟩
  ·go_simp
   have HSZ:=DB.size
   have hA:=bound.up1 u1 (.cells #[.int .i64 0,.slice none 0 0] 81)
   have DT:=lies.made u1 81 #[.int .i64 0,.slice none 0 0]
   replace D0:=lies.on_call D0 hA
   replace D1:=lies.on_call D1 hA
   replace D2:=lies.on_call D2 hA
   replace DB:=later DB hA
   clear hA
   refine hK.out _ _ D1 (fun hNew=>?_)
   clear hHeld hK K
   have hHeld:=hNew
   clear hNew
   try simp only [Act.put,sA,sB,sC,sD,sE,sF]
   have hXw:w.heap.size≤(World.heap u1).size:=HSZ
   generalize (World.heap u1).size=XDT at DT hXw ⊢
   generalize World.alloc u1 (.cells #[.int .i64 0,.slice none 0 0] 81)=u2 at D0 D1 D2 DT DB hHeld ⊢
   refine wpAnyH_ready (rs:=[3]) (by kernel_rfl) (by simp) (AllReadyH.cons rfl (fun K hK=>?_) AllReadyH.nil)
   go_simp
   refine (CB.out u2).mono ?_
   rintro e u3 ⟨rfl,hB⟩
   replace D0:=lies.on_call D0 hB
   replace D1:=lies.on_call D1 hB
   replace D2:=lies.on_call D2 hB
   replace DT:=lies.on_call DT hB
   replace DB:=later DB hB
   clear hB
   refine hK.out _ _ D1 (fun hNew=>?_)
   clear hHeld hK K
   have hHeld:=hNew
   clear hNew
   try simp only [Act.put,sA,sB,sC,sD,sE,sF]
   refine tk 4 (v:=?_) rfl hHeld ?_ ?_
   rotate_left
   ·intro w hSw;skip;go_simp;try with_reducible rfl
   try simp only [Act.put,sA,sB,sC,sD,sE,sF]
   refine wpAnyH_ready (rs:=[5]) (by kernel_rfl) (by simp) (AllReadyH.cons rfl (fun K hK=>?_) AllReadyH.nil)
   go_simp
   refine (full_is 9223372036854775807 9223372036854775807 9223372036854775807 9223372036854775807 H L u3).mono ?_
   rintro e u4 ⟨hB,g,hg,rfl,GG⟩
   replace D0:=lies.on_call D0 hB
   replace D1:=lies.on_call D1 hB
   replace D2:=lies.on_call D2 hB
   replace DT:=lies.on_call DT hB
   replace DB:=later DB hB
   clear hB
   clear hg
   refine hK.out _ _ D1 (fun hNew=>?_)
   clear hHeld hK K
   have hHeld:=hNew
   clear hNew
   try simp only [Act.put,sA,sB,sC,sD,sE,sF]
   obtain ⟨t0,t1,t2,t3,t4⟩:=lies.two DT
   have hgT:=ne_type GG DT (by decide)
   have k0:=ne_type D0 DT (by decide)
   have k1:=ne_type D1 DT (by decide)
   have k2:=ne_type D2 DT (by decide)
   skip
   refine wpAnyH_ready (rs:=[7]) (by kernel_rfl) (by simp) (AllReadyH.cons rfl (fun K hK=>?_) AllReadyH.nil)
   go_simp
   replace D0:=lies.on_far (lies.on_far D0 (b:=XDT) 0 k0 (.int .i64 3)) (b:=XDT) 1 k0 (.slice (some ⟨g,0,none⟩) 9 9)
   replace D1:=lies.on_far (lies.on_far D1 (b:=XDT) 0 k1 (.int .i64 3)) (b:=XDT) 1 k1 (.slice (some ⟨g,0,none⟩) 9 9)
   replace D2:=lies.on_far (lies.on_far D2 (b:=XDT) 0 k2 (.int .i64 3)) (b:=XDT) 1 k2 (.slice (some ⟨g,0,none⟩) 9 9)
   replace GG:=lies.on_far (lies.on_far GG (b:=XDT) 0 hgT (.int .i64 3)) (b:=XDT) 1 hgT (.slice (some ⟨g,0,none⟩) 9 9)
   replace DB:=(DB.setCell (p:=⟨XDT,0,none⟩) hXw (.int .i64 3)).setCell (p:=⟨XDT,1,none⟩) hXw (.slice (some ⟨g,0,none⟩) 9 9)
   replace DT:=put_two DT (.int .i64 3) (.slice (some ⟨g,0,none⟩) 9 9)
   refine hK.out _ _ D1 (fun hNew=>?_)
   clear t0 t1 t2 t3 t4
   clear hHeld hK K
   have hHeld:=hNew
   clear hNew
   try simp only [Act.put,sA,sB,sC,sD,sE,sF]
   generalize World.setCell (World.setCell u4 ⟨XDT,0,none⟩ (.int .i64 3)) ⟨XDT,1,none⟩ (.slice (some ⟨g,0,none⟩) 9 9)=wO at D0 D1 D2 DT GG DB hHeld ⊢
   refine wpAnyH_done (by kernel_rfl) ?_ _
   clear hHeld D1
   go_wp2_with fail
   have hDr:=dbm.drawn1 (Below.refl wO.heap.size wO)
   replace D0:=lies.on_call D0 hDr
   replace D2:=lies.on_call D2 hDr
   replace DT:=lies.on_call DT hDr
   replace GG:=lies.on_call GG hDr
   replace DB:=later DB hDr
   clear hDr
   refine wp_region_held_drew (S:=fun W=>lies.Lies W w.heap.size 27 #[.int .i64 a0,.int .i64 a1,.int .i64 a2,.int .i64 a3,.int .i64 a4,.int .i64 a5]∧lies.Lies W XDT 81 #[.int .i64 3,.slice (some ⟨g,0,none⟩) 9 9]) (by kernel_rfl) ⟨D0,DT⟩ (fun hHeld=>?_)
   generalize wO.drew=wP at D0 D2 DT GG DB hHeld ⊢
   clear D0 DT
   refine tk 0 (v:=?_) rfl hHeld ?_ ?_
   rotate_left
   ·intro w hSw;obtain ⟨⟨c0,c1,c2,c3,c4,c5⟩,_⟩:=six_cells hSw.1;obtain ⟨d0,d1,_⟩:=lies.two hSw.2;go_simp;try with_reducible rfl
   try simp only [Act.put,sA,sB,sC,sD,sE,sF]
   refine tk 2 (v:=?_) rfl hHeld ?_ ?_
   rotate_left
   ·intro w hSw;obtain ⟨⟨c0,c1,c2,c3,c4,c5⟩,_⟩:=six_cells hSw.1;obtain ⟨d0,d1,_⟩:=lies.two hSw.2;go_simp;try with_reducible rfl
   try simp only [Act.put,sA,sB,sC,sD,sE,sF]
   refine wpAnyH_ready (rs:=[1]) (by kernel_rfl) (by simp) (AllReadyH.cons rfl (fun K hK=>?_) AllReadyH.nil)
   go_simp
   refine (full_is a0 a1 a2 a3 a4 a5 wP).mono ?_
   rintro e wQ1 ⟨hB,g1,hg,rfl,hG1⟩
   replace D2:=lies.on_call D2 hB
   replace GG:=lies.on_call GG hB
   replace DB:=later DB hB
   refine hK.out _ _ ⟨lies.on_call hHeld.1 hB,lies.on_call hHeld.2 hB⟩ (fun hNew=>?_)
   clear hB hg
   clear hHeld hK K
   have hHeld:=hNew
   clear hNew
   try simp only [Act.put,sA,sB,sC,sD,sE,sF]
   refine wpAnyH_ready (rs:=[3]) (by kernel_rfl) (by simp) (AllReadyH.cons rfl (fun K hK=>?_) AllReadyH.nil)
   go_simp
   refine (tref.common_is 3 (.slice (some ⟨g1,0,none⟩) 9 9) g 0 9 (fullT [a0,a1,a2,a3,a4,a5]) (fullT [9223372036854775807,9223372036854775807,9223372036854775807,9223372036854775807,H,L]) wQ1 (by decide) (by decide) (dlaw.own_ints (cap:=9) hG1) (row_of GG) (lies.lt GG) rfl rfl HTF.out HML.out).mono ?_
   intro e wQ2 hC
   obtain ⟨hB,na,a,l,c,us,bl,rfl,hR2,hO⟩:=tref.comm_one hC
   replace D2:=lies.on_call D2 hB
   replace GG:=lies.on_call GG hB
   replace DB:=later DB hB
   refine hK.out _ _ ⟨lies.on_call hHeld.1 hB,lies.on_call hHeld.2 hB⟩ (fun hNew=>?_)
   have TD:=Lib.hid (told_any hR2 HML.out (lesT_length _ _) HTL.out a l c _ wQ2 hO)
   clear hB hC hR2 hO GG hG1
   clear hHeld hK K
   have hHeld:=hNew
   clear hNew
   try simp only [Act.put,sA,sB,sC,sD,sE,sF]
   refine tk 4 (v:=?_) rfl hHeld ?_ ?_
   rotate_left
   ·intro w hSw;skip;go_simp;try with_reducible rfl
   try simp only [Act.put,sA,sB,sC,sD,sE,sF]
   refine tk 5 (v:=?_) rfl hHeld ?_ ?_
   rotate_left
   ·intro w hSw;skip;go_simp;try with_reducible rfl
   try simp only [Act.put,sA,sB,sC,sD,sE,sF]
   refine wpAnyH_ready (rs:=[6]) (by kernel_rfl) (by simp) (AllReadyH.cons rfl (fun K hK=>?_) AllReadyH.nil)
   go_simp
   refine TD.out.mono ?_
   rintro e wQ3 ⟨hB,v0,v1,v2,v3,v4,v5,f,rfl,hR2⟩
   replace D2:=lies.on_call D2 hB
   replace DB:=later DB hB
   refine hK.out _ _ ⟨lies.on_call hHeld.1 hB,lies.on_call hHeld.2 hB⟩ (fun hNew=>?_)
   have HC:RowKit.Hid (CutR [a0,a1,a2,a3,a4,a5] (diffZ (lo,ls,hi,hs,op)) [v0,v1,v2,v3,v4,v5] f):=Lib.hid (cut_of HA.out.may HMW.out (by rw [HDW.out];exact hR2))
   clear hB hR2 TD
   clear hHeld hK K
   have hHeld:=hNew
   clear hNew
   try simp only [Act.put,sA,sB,sC,sD,sE,sF]
   refine tk 7 (v:=?_) rfl hHeld ?_ ?_
   rotate_left
   ·intro w hSw;skip;go_simp;try with_reducible rfl
   try simp only [Act.put,sA,sB,sC,sD,sE,sF]
   refine tk 8 (v:=?_) rfl hHeld ?_ ?_
   rotate_left
   ·intro w hSw;skip;go_simp;try with_reducible rfl
   try simp only [Act.put,sA,sB,sC,sD,sE,sF]
   obtain ⟨⟨x0,x1,x2,x3,x4,x5⟩,⟨y0,y1,y2,y3,y4,y5⟩,xl⟩:=six_cells D2
   refine wpAnyH_ready (rs:=[9]) (by kernel_rfl) (by simp) (AllReadyH.cons rfl (fun K hK=>?_) AllReadyH.nil)
   go_simp
   replace DB:=put_six DB hR (.int .i64 v0) (.int .i64 v1) (.int .i64 v2) (.int .i64 v3) (.int .i64 v4) (.int .i64 v5)
   replace D2:=put_sixL D2 (.int .i64 v0) (.int .i64 v1) (.int .i64 v2) (.int .i64 v3) (.int .i64 v4) (.int .i64 v5)
   refine hK.out _ _ ⟨far_six hHeld.1 (by omega) _ _ _ _ _ _,far_six hHeld.2 (by omega) _ _ _ _ _ _⟩ (fun hNew=>?_)
   clear x0 x1 x2 x3 x4 x5 y0 y1 y2 y3 y4 y5 xl
   clear hHeld hK K
   have hHeld:=hNew
   clear hNew
   try simp only [Act.put,sA,sB,sC,sD,sE,sF]
   generalize World.setCell (World.setCell (World.setCell (World.setCell (World.setCell (World.setCell (wQ3) ⟨w.heap.size+1+1,0,none⟩ (.int .i64 v0)) ⟨w.heap.size+1+1,1,none⟩ (.int .i64 v1)) ⟨w.heap.size+1+1,2,none⟩ (.int .i64 v2)) ⟨w.heap.size+1+1,3,none⟩ (.int .i64 v3)) ⟨w.heap.size+1+1,4,none⟩ (.int .i64 v4)) ⟨w.heap.size+1+1,5,none⟩ (.int .i64 v5)=wQ4 at D2 DB hHeld ⊢
   refine tk 10 (v:=?_) rfl hHeld ?_ ?_
   rotate_left
   ·intro w hSw;skip;go_simp;try with_reducible rfl
   try simp only [Act.put,sA,sB,sC,sD,sE,sF]
   refine wpAnyH_done (by kernel_rfl) ?_ _
   clear hHeld
   obtain ⟨⟨x0,x1,x2,x3,x4,x5⟩,⟨y0,y1,y2,y3,y4,y5⟩,xl⟩:=six_cells D2
   clear D2
   go_wp2_with fail
   exact bodyPost_ret (v:=.tuple #[.agg #[.int .i64 v0,.int .i64 v1,.int .i64 v2,.int .i64 v3,.int .i64 v4,.int .i64 v5],.int .i64 f]) (by simp [results,Tryz.results66,go_sem,x0,x1,x2,x3,x4,x5,xl]) rfl ⟨DB,v0,v1,v2,v3,v4,v5,f,rfl,HC.out⟩
 ·go_simp
  have HSZ:=DB.size
  have hA:=bound.up1 wD (.cells #[.int .i64 0,.slice none 0 0] 81)
  have DT:=lies.made wD 81 #[.int .i64 0,.slice none 0 0]
  replace D0:=lies.on_call D0 hA
  replace D1:=lies.on_call D1 hA
  replace D2:=lies.on_call D2 hA
  replace DB:=later DB hA
  clear hA
  refine hK.out _ _ D1 (fun hNew=>?_)
  clear hHeld hK K
  have hHeld:=hNew
  clear hNew
  try simp only [Act.put,sA,sB,sC,sD,sE,sF]
  have hXw:w.heap.size≤(World.heap wD).size:=HSZ
  generalize (World.heap wD).size=XDT at DT hXw ⊢
  generalize World.alloc wD (.cells #[.int .i64 0,.slice none 0 0] 81)=u1 at D0 D1 D2 DT DB hHeld ⊢
  refine wpAnyH_ready (rs:=[1]) (by kernel_rfl) (by simp) (AllReadyH.cons rfl (fun K hK=>?_) AllReadyH.nil)
  go_simp
  refine (CA.out u1).mono ?_
  rintro e u2 ⟨rfl,hB⟩
  replace D0:=lies.on_call D0 hB
  replace D1:=lies.on_call D1 hB
  replace D2:=lies.on_call D2 hB
  replace DT:=lies.on_call DT hB
  replace DB:=later DB hB
  clear hB
  refine hK.out _ _ D1 (fun hNew=>?_)
  clear hHeld hK K
  have hHeld:=hNew
  clear hNew
  try simp only [Act.put,sA,sB,sC,sD,sE,sF]
  refine wpAnyH_ready (rs:=[3]) (by kernel_rfl) (by simp) (AllReadyH.cons rfl (fun K hK=>?_) AllReadyH.nil)
  go_simp
  refine (CB.out u2).mono ?_
  rintro e u3 ⟨rfl,hB⟩
  replace D0:=lies.on_call D0 hB
  replace D1:=lies.on_call D1 hB
  replace D2:=lies.on_call D2 hB
  replace DT:=lies.on_call DT hB
  replace DB:=later DB hB
  clear hB
  refine hK.out _ _ D1 (fun hNew=>?_)
  clear hHeld hK K
  have hHeld:=hNew
  clear hNew
  try simp only [Act.put,sA,sB,sC,sD,sE,sF]
  refine tk 4 (v:=?_) rfl hHeld ?_ ?_
  rotate_left
  ·intro w hSw;skip;go_simp;try with_reducible rfl
  try simp only [Act.put,sA,sB,sC,sD,sE,sF]
  refine wpAnyH_ready (rs:=[5]) (by kernel_rfl) (by simp) (AllReadyH.cons rfl (fun K hK=>?_) AllReadyH.nil)
  go_simp
  refine (full_is 9223372036854775807 9223372036854775807 9223372036854775807 9223372036854775807 H L u3).mono ?_
  rintro e u4 ⟨hB,g,hg,rfl,GG⟩
  replace D0:=lies.on_call D0 hB
  replace D1:=lies.on_call D1 hB
  replace D2:=lies.on_call D2 hB
  replace DT:=lies.on_call DT hB
  replace DB:=later DB hB
  clear hB
  clear hg
  refine hK.out _ _ D1 (fun hNew=>?_)
  clear hHeld hK K
  have hHeld:=hNew
  clear hNew
  try simp only [Act.put,sA,sB,sC,sD,sE,sF]
  obtain ⟨t0,t1,t2,t3,t4⟩:=lies.two DT
  have hgT:=ne_type GG DT (by decide)
  have k0:=ne_type D0 DT (by decide)
  have k1:=ne_type D1 DT (by decide)
  have k2:=ne_type D2 DT (by decide)
  skip
  refine wpAnyH_ready (rs:=[7]) (by kernel_rfl) (by simp) (AllReadyH.cons rfl (fun K hK=>?_) AllReadyH.nil)
  go_simp
  replace D0:=lies.on_far (lies.on_far D0 (b:=XDT) 0 k0 (.int .i64 3)) (b:=XDT) 1 k0 (.slice (some ⟨g,0,none⟩) 9 9)
  replace D1:=lies.on_far (lies.on_far D1 (b:=XDT) 0 k1 (.int .i64 3)) (b:=XDT) 1 k1 (.slice (some ⟨g,0,none⟩) 9 9)
  replace D2:=lies.on_far (lies.on_far D2 (b:=XDT) 0 k2 (.int .i64 3)) (b:=XDT) 1 k2 (.slice (some ⟨g,0,none⟩) 9 9)
  replace GG:=lies.on_far (lies.on_far GG (b:=XDT) 0 hgT (.int .i64 3)) (b:=XDT) 1 hgT (.slice (some ⟨g,0,none⟩) 9 9)
  replace DB:=(DB.setCell (p:=⟨XDT,0,none⟩) hXw (.int .i64 3)).setCell (p:=⟨XDT,1,none⟩) hXw (.slice (some ⟨g,0,none⟩) 9 9)
  replace DT:=put_two DT (.int .i64 3) (.slice (some ⟨g,0,none⟩) 9 9)
  refine hK.out _ _ D1 (fun hNew=>?_)
  clear t0 t1 t2 t3 t4
  clear hHeld hK K
  have hHeld:=hNew
  clear hNew
  try simp only [Act.put,sA,sB,sC,sD,sE,sF]
  generalize World.setCell (World.setCell u4 ⟨XDT,0,none⟩ (.int .i64 3)) ⟨XDT,1,none⟩ (.slice (some ⟨g,0,none⟩) 9 9)=wO at D0 D1 D2 DT GG DB hHeld ⊢
  refine wpAnyH_done (by kernel_rfl) ?_ _
  clear hHeld D1
  go_wp2_with fail
  have hDr:=dbm.drawn1 (Below.refl wO.heap.size wO)
  replace D0:=lies.on_call D0 hDr
  replace D2:=lies.on_call D2 hDr
  replace DT:=lies.on_call DT hDr
  replace GG:=lies.on_call GG hDr
  replace DB:=later DB hDr
  clear hDr
  refine wp_region_held_drew (S:=fun W=>lies.Lies W w.heap.size 27 #[.int .i64 a0,.int .i64 a1,.int .i64 a2,.int .i64 a3,.int .i64 a4,.int .i64 a5]∧lies.Lies W XDT 81 #[.int .i64 3,.slice (some ⟨g,0,none⟩) 9 9]) (by kernel_rfl) ⟨D0,DT⟩ (fun hHeld=>?_)
  generalize wO.drew=wP at D0 D2 DT GG DB hHeld ⊢
  clear D0 DT
  refine tk 0 (v:=?_) rfl hHeld ?_ ?_
  rotate_left
  ·intro w hSw;obtain ⟨⟨c0,c1,c2,c3,c4,c5⟩,_⟩:=six_cells hSw.1;obtain ⟨d0,d1,_⟩:=lies.two hSw.2;go_simp;try with_reducible rfl
  try simp only [Act.put,sA,sB,sC,sD,sE,sF]
  refine tk 2 (v:=?_) rfl hHeld ?_ ?_
  rotate_left
  ·intro w hSw;obtain ⟨⟨c0,c1,c2,c3,c4,c5⟩,_⟩:=six_cells hSw.1;obtain ⟨d0,d1,_⟩:=lies.two hSw.2;go_simp;try with_reducible rfl
  try simp only [Act.put,sA,sB,sC,sD,sE,sF]
  refine wpAnyH_ready (rs:=[1]) (by kernel_rfl) (by simp) (AllReadyH.cons rfl (fun K hK=>?_) AllReadyH.nil)
  go_simp
  refine (full_is a0 a1 a2 a3 a4 a5 wP).mono ?_
  rintro e wQ1 ⟨hB,g1,hg,rfl,hG1⟩
  replace D2:=lies.on_call D2 hB
  replace GG:=lies.on_call GG hB
  replace DB:=later DB hB
  refine hK.out _ _ ⟨lies.on_call hHeld.1 hB,lies.on_call hHeld.2 hB⟩ (fun hNew=>?_)
  clear hB hg
  clear hHeld hK K
  have hHeld:=hNew
  clear hNew
  try simp only [Act.put,sA,sB,sC,sD,sE,sF]
  refine wpAnyH_ready (rs:=[3]) (by kernel_rfl) (by simp) (AllReadyH.cons rfl (fun K hK=>?_) AllReadyH.nil)
  go_simp
  refine (tref.common_is 3 (.slice (some ⟨g1,0,none⟩) 9 9) g 0 9 (fullT [a0,a1,a2,a3,a4,a5]) (fullT [9223372036854775807,9223372036854775807,9223372036854775807,9223372036854775807,H,L]) wQ1 (by decide) (by decide) (dlaw.own_ints (cap:=9) hG1) (row_of GG) (lies.lt GG) rfl rfl HTF.out HML.out).mono ?_
  intro e wQ2 hC
  obtain ⟨hB,na,a,l,c,us,bl,rfl,hR2,hO⟩:=tref.comm_one hC
  replace D2:=lies.on_call D2 hB
  replace GG:=lies.on_call GG hB
  replace DB:=later DB hB
  refine hK.out _ _ ⟨lies.on_call hHeld.1 hB,lies.on_call hHeld.2 hB⟩ (fun hNew=>?_)
  have TD:=Lib.hid (told_any hR2 HML.out (lesT_length _ _) HTL.out a l c _ wQ2 hO)
  clear hB hC hR2 hO GG hG1
  clear hHeld hK K
  have hHeld:=hNew
  clear hNew
  try simp only [Act.put,sA,sB,sC,sD,sE,sF]
  refine tk 4 (v:=?_) rfl hHeld ?_ ?_
  rotate_left
  ·intro w hSw;skip;go_simp;try with_reducible rfl
  try simp only [Act.put,sA,sB,sC,sD,sE,sF]
  refine tk 5 (v:=?_) rfl hHeld ?_ ?_
  rotate_left
  ·intro w hSw;skip;go_simp;try with_reducible rfl
  try simp only [Act.put,sA,sB,sC,sD,sE,sF]
  refine wpAnyH_ready (rs:=[6]) (by kernel_rfl) (by simp) (AllReadyH.cons rfl (fun K hK=>?_) AllReadyH.nil)
  go_simp
  refine TD.out.mono ?_
  rintro e wQ3 ⟨hB,v0,v1,v2,v3,v4,v5,f,rfl,hR2⟩
  replace D2:=lies.on_call D2 hB
  replace DB:=later DB hB
  refine hK.out _ _ ⟨lies.on_call hHeld.1 hB,lies.on_call hHeld.2 hB⟩ (fun hNew=>?_)
  have HC:RowKit.Hid (CutR [a0,a1,a2,a3,a4,a5] (diffZ (lo,ls,hi,hs,op)) [v0,v1,v2,v3,v4,v5] f):=Lib.hid (cut_of HA.out.may HMW.out (by rw [HDW.out];exact hR2))
  clear hB hR2 TD
  clear hHeld hK K
  have hHeld:=hNew
  clear hNew
  try simp only [Act.put,sA,sB,sC,sD,sE,sF]
  refine tk 7 (v:=?_) rfl hHeld ?_ ?_
  rotate_left
  ·intro w hSw;skip;go_simp;try with_reducible rfl
  try simp only [Act.put,sA,sB,sC,sD,sE,sF]
  refine tk 8 (v:=?_) rfl hHeld ?_ ?_
  rotate_left
  ·intro w hSw;skip;go_simp;try with_reducible rfl
  try simp only [Act.put,sA,sB,sC,sD,sE,sF]
  obtain ⟨⟨x0,x1,x2,x3,x4,x5⟩,⟨y0,y1,y2,y3,y4,y5⟩,xl⟩:=six_cells D2
  refine wpAnyH_ready (rs:=[9]) (by kernel_rfl) (by simp) (AllReadyH.cons rfl (fun K hK=>?_) AllReadyH.nil)
  go_simp
  replace DB:=put_six DB hR (.int .i64 v0) (.int .i64 v1) (.int .i64 v2) (.int .i64 v3) (.int .i64 v4) (.int .i64 v5)
  replace D2:=put_sixL D2 (.int .i64 v0) (.int .i64 v1) (.int .i64 v2) (.int .i64 v3) (.int .i64 v4) (.int .i64 v5)
  refine hK.out _ _ ⟨far_six hHeld.1 (by omega) _ _ _ _ _ _,far_six hHeld.2 (by omega) _ _ _ _ _ _⟩ (fun hNew=>?_)
  clear x0 x1 x2 x3 x4 x5 y0 y1 y2 y3 y4 y5 xl
  clear hHeld hK K
  have hHeld:=hNew
  clear hNew
  try simp only [Act.put,sA,sB,sC,sD,sE,sF]
  generalize World.setCell (World.setCell (World.setCell (World.setCell (World.setCell (World.setCell (wQ3) ⟨w.heap.size+1+1,0,none⟩ (.int .i64 v0)) ⟨w.heap.size+1+1,1,none⟩ (.int .i64 v1)) ⟨w.heap.size+1+1,2,none⟩ (.int .i64 v2)) ⟨w.heap.size+1+1,3,none⟩ (.int .i64 v3)) ⟨w.heap.size+1+1,4,none⟩ (.int .i64 v4)) ⟨w.heap.size+1+1,5,none⟩ (.int .i64 v5)=wQ4 at D2 DB hHeld ⊢
  refine tk 10 (v:=?_) rfl hHeld ?_ ?_
  rotate_left
  ·intro w hSw;skip;go_simp;try with_reducible rfl
  try simp only [Act.put,sA,sB,sC,sD,sE,sF]
  refine wpAnyH_done (by kernel_rfl) ?_ _
  clear hHeld
  obtain ⟨⟨x0,x1,x2,x3,x4,x5⟩,⟨y0,y1,y2,y3,y4,y5⟩,xl⟩:=six_cells D2
  clear D2
  go_wp2_with fail
  exact bodyPost_ret (v:=.tuple #[.agg #[.int .i64 v0,.int .i64 v1,.int .i64 v2,.int .i64 v3,.int .i64 v4,.int .i64 v5],.int .i64 f]) (by simp [results,Tryz.results66,go_sem,x0,x1,x2,x3,x4,x5,xl]) rfl ⟨DB,v0,v1,v2,v3,v4,v5,f,rfl,HC.out⟩
end Go.Proofs.YthmljpccbjolgaaGreatDoor.wref
namespace Go.Proofs.YthmljpccbjolgaaGreatDoor.wref
open Go.Joins Go.ChangeShapes Go.WideShapes Go.ChangeAt Go.RowKit num rat dbm Go.Proofs.YthmljpccbjolgaaGreatDoor.tight Go.Proofs.YthmljpccbjolgaaGreatDoor.incl Go.Proofs.YthmljpccbjolgaaGreatDoor.plaw Go.Proofs.YthmljpccbjolgaaGreatDoor.zopen Go.Proofs.YthmljpccbjolgaaGreatDoor.zone Go.Proofs.YthmljpccbjolgaaGreatDoor.zref Go.Proofs.YthmljpccbjolgaaGreatDoor.win dref
open bound hiding up
open Go.Proofs.YthmljpccbjolgaaGreatDoor.comp (five_cells six_fine)
set_option linter.unusedVariables false
set_option linter.unusedSimpArgs false
set_option maxRecDepth 100000 in
set_option maxHeartbeats 8000000 in
theorem windowed_any (a0 a1 a2 a3 a4 a5 fr tt:Int) (w:World) (ha:MayZ [a0,a1,a2,a3,a4,a5]) (ta:Tops [a0,a1,a2,a3,a4,a5]) (hw:MayW fr tt):Calls Tryz.prog 69 #[.agg #[.int .i64 a0,.int .i64 a1,.int .i64 a2,.int .i64 a3,.int .i64 a4,.int .i64 a5],.int .i64 fr,.int .i64 tt] w (Zs (CutR [a0,a1,a2,a3,a4,a5] (lateZ (winS fr tt))) w):=by
 have HA:=Lib.hid ha
 have HTF:=Lib.hid (full_tops ta)
 obtain ⟨H,hH⟩:∃ H,H=bound.mk tt false:=⟨_,rfl⟩
 obtain ⟨L,hL⟩:∃ L,L=bound.mk (-fr) true:=⟨_,rfl⟩
 have hp:=win_may hw.1 hw.2.1 (Int.le_of_lt hw.2.2)
 have HMW:=Lib.hid (late_may hp)
 have HDW:RowKit.Hid (fullT (lateZ (winS fr tt))=(fullT [9223372036854775807,9223372036854775807,H,L,9223372036854775807,9223372036854775807])):=Lib.hid (by rw [hH,hL];rfl)
 have HML:RowKit.Hid (MayD 3 (lesT (fullT [a0,a1,a2,a3,a4,a5]) (fullT [9223372036854775807,9223372036854775807,H,L,9223372036854775807,9223372036854775807]))):=Lib.hid (by rw [←HDW.out];exact lesT_may ha.may (late_may hp))
 have HTL:=Lib.hid (lesT_tops HTF.out (fullT [9223372036854775807,9223372036854775807,H,L,9223372036854775807,9223372036854775807]))
 have CA:RowKit.Hid (∀ W,Calls Tryz.prog 117 #[.int .i64 tt,.bool false] W fun e w'=>e=.returned (.int .i64 H)∧W=w'):=Lib.hid (by rw [hH];exact fun W=>bound.made_any tt false W (in_may hw.2.1))
 have CB:RowKit.Hid (∀ W,Calls Tryz.prog 117 #[.int .i64 (-fr),.bool true] W fun e w'=>e=.returned (.int .i64 L)∧W=w'):=Lib.hid (by rw [hL];exact fun W=>bound.made_any (-fr) true W (in_may (in_neg hw.1)))
 have q1:wrap64 (-fr)=-fr:=by have:=hw.1;unfold In at this;exact IntWalk.wrap64_in _ ⟨by omega,by omega⟩
 have q2:IntKind.i64.wrap (-fr)=-fr:=(IntWalk.i64_left _).trans q1
 have q3:IntKind.i64.wrap (0 - fr)=-fr:=by rw [Int.zero_sub];exact q2
 clear ha ta hp hH hL hw
 have X:∃ w0,w0=(w.alloc (.cells #[.int .i64 a0,.int .i64 a1,.int .i64 a2,.int .i64 a3,.int .i64 a4,.int .i64 a5] 27)).alloc (.cells #[.int .i64 0,.int .i64 0,.int .i64 0,.int .i64 0,.int .i64 0,.int .i64 0] 27):=⟨_,rfl⟩
 obtain ⟨w0,hX⟩:=X
 have DB:Below w.heap.size w w0:=by rw [hX];exact bound.up2 _ _ _
 have D0:lies.Lies w0 w.heap.size 27 #[.int .i64 a0,.int .i64 a1,.int .i64 a2,.int .i64 a3,.int .i64 a4,.int .i64 a5]:=by rw [hX];exact lies.on_alloc (lies.made _ _ _) _
 have D2:lies.Lies w0 (w.heap.size+1) 27 #[.int .i64 0,.int .i64 0,.int .i64 0,.int .i64 0,.int .i64 0,.int .i64 0]:=by rw [hX];exact lies.made_at _ _ _ _ (by simp)
 have hR:w.heap.size≤w.heap.size+1:=by omega
 go_enter Tryz.func69,Tryz.ntmps69
 go_wp2_with fail
 rw [←hX]
 clear hX
 refine (CA.out w0).mono ?_
 rintro e wN ⟨rfl,hw⟩
 subst hw
 go_wp2_with fail
 refine (CB.out w0).mono ?_
 rintro e wN ⟨rfl,hw⟩
 subst hw
 clear q1 q2 q3
 go_wp2_with fail
 refine (full_is 9223372036854775807 9223372036854775807 H L 9223372036854775807 9223372036854775807 w0).mono ?_
 rintro e w1 ⟨hB,g,hg,rfl,GG⟩
 have hg2:w.heap.size+1<g:=Nat.lt_of_lt_of_le (lies.lt D2) hg
 replace D0:=lies.on_call D0 hB
 replace D2:=lies.on_call D2 hB
 replace DB:=later DB hB
 clear hB
 go_wp2_with fail
 have hT2:w.heap.size+1<w1.heap.size:=lies.lt D2
 have hA:=bound.up1 w1 (.cells #[.int .i64 3,.slice (some ⟨g,0,none⟩) 9 9] 81)
 have DT:=lies.made w1 81 #[.int .i64 3,.slice (some ⟨g,0,none⟩) 9 9]
 replace D0:=lies.on_call D0 hA
 replace D2:=lies.on_call D2 hA
 replace GG:=lies.on_call GG hA
 replace DB:=later DB hA
 clear hA
 clear hg hg2
 generalize w1.heap.size=XDT at DT hT2 ⊢
 generalize w1.alloc (.cells #[.int .i64 3,.slice (some ⟨g,0,none⟩) 9 9] 81)=w2 at D0 D2 GG DT DB ⊢
 have hDr:=dbm.drawn1 (Below.refl w2.heap.size w2)
 replace D0:=lies.on_call D0 hDr
 replace D2:=lies.on_call D2 hDr
 replace GG:=lies.on_call GG hDr
 replace DT:=lies.on_call DT hDr
 replace DB:=later DB hDr
 clear hDr
 refine wp_region_held_drew (S:=fun W=>lies.Lies W w.heap.size 27 #[.int .i64 a0,.int .i64 a1,.int .i64 a2,.int .i64 a3,.int .i64 a4,.int .i64 a5]∧lies.Lies W XDT 81 #[.int .i64 3,.slice (some ⟨g,0,none⟩) 9 9]) (by kernel_rfl) ⟨D0,DT⟩ (fun hHeld=>?_)
 generalize w2.drew=wP at D0 D2 GG DT DB hHeld ⊢
 clear D0 DT
 refine tk 0 (v:=?_) rfl hHeld ?_ ?_
 rotate_left
 ·intro w hSw;obtain ⟨⟨c0,c1,c2,c3,c4,c5⟩,_⟩:=six_cells hSw.1;obtain ⟨d0,d1,_⟩:=lies.two hSw.2;go_simp;try with_reducible rfl
 try simp only [Act.put,sA,sB,sC,sD,sE,sF]
 refine tk 2 (v:=?_) rfl hHeld ?_ ?_
 rotate_left
 ·intro w hSw;obtain ⟨⟨c0,c1,c2,c3,c4,c5⟩,_⟩:=six_cells hSw.1;obtain ⟨d0,d1,_⟩:=lies.two hSw.2;go_simp;try with_reducible rfl
 try simp only [Act.put,sA,sB,sC,sD,sE,sF]
 refine wpAnyH_ready (rs:=[1]) (by kernel_rfl) (by simp) (AllReadyH.cons rfl (fun K hK=>?_) AllReadyH.nil)
 go_simp
 refine (full_is a0 a1 a2 a3 a4 a5 wP).mono ?_
 rintro e wQ1 ⟨hB,g1,hg,rfl,hG1⟩
 replace D2:=lies.on_call D2 hB
 replace GG:=lies.on_call GG hB
 replace DB:=later DB hB
 refine hK.out _ _ ⟨lies.on_call hHeld.1 hB,lies.on_call hHeld.2 hB⟩ (fun hNew=>?_)
 clear hB hg
 clear hHeld hK K
 have hHeld:=hNew
 clear hNew
 try simp only [Act.put,sA,sB,sC,sD,sE,sF]
 refine wpAnyH_ready (rs:=[3]) (by kernel_rfl) (by simp) (AllReadyH.cons rfl (fun K hK=>?_) AllReadyH.nil)
 go_simp
 refine (tref.common_is 3 (.slice (some ⟨g1,0,none⟩) 9 9) g 0 9 (fullT [a0,a1,a2,a3,a4,a5]) (fullT [9223372036854775807,9223372036854775807,H,L,9223372036854775807,9223372036854775807]) wQ1 (by decide) (by decide) (dlaw.own_ints (cap:=9) hG1) (row_of GG) (lies.lt GG) rfl rfl HTF.out HML.out).mono ?_
 intro e wQ2 hC
 obtain ⟨hB,na,a,l,c,us,bl,rfl,hR2,hO⟩:=tref.comm_one hC
 replace D2:=lies.on_call D2 hB
 replace GG:=lies.on_call GG hB
 replace DB:=later DB hB
 refine hK.out _ _ ⟨lies.on_call hHeld.1 hB,lies.on_call hHeld.2 hB⟩ (fun hNew=>?_)
 have TD:=Lib.hid (told_any hR2 HML.out (lesT_length _ _) HTL.out a l c _ wQ2 hO)
 clear hB hC hR2 hO GG hG1
 clear hHeld hK K
 have hHeld:=hNew
 clear hNew
 try simp only [Act.put,sA,sB,sC,sD,sE,sF]
 refine tk 4 (v:=?_) rfl hHeld ?_ ?_
 rotate_left
 ·intro w hSw;skip;go_simp;try with_reducible rfl
 try simp only [Act.put,sA,sB,sC,sD,sE,sF]
 refine tk 5 (v:=?_) rfl hHeld ?_ ?_
 rotate_left
 ·intro w hSw;skip;go_simp;try with_reducible rfl
 try simp only [Act.put,sA,sB,sC,sD,sE,sF]
 refine wpAnyH_ready (rs:=[6]) (by kernel_rfl) (by simp) (AllReadyH.cons rfl (fun K hK=>?_) AllReadyH.nil)
 go_simp
 refine TD.out.mono ?_
 rintro e wQ3 ⟨hB,v0,v1,v2,v3,v4,v5,f,rfl,hR2⟩
 replace D2:=lies.on_call D2 hB
 replace DB:=later DB hB
 refine hK.out _ _ ⟨lies.on_call hHeld.1 hB,lies.on_call hHeld.2 hB⟩ (fun hNew=>?_)
 have HC:RowKit.Hid (CutR [a0,a1,a2,a3,a4,a5] (lateZ (winS fr tt)) [v0,v1,v2,v3,v4,v5] f):=Lib.hid (cut_of HA.out.may HMW.out (by rw [HDW.out];exact hR2))
 clear hB hR2 TD
 clear hHeld hK K
 have hHeld:=hNew
 clear hNew
 try simp only [Act.put,sA,sB,sC,sD,sE,sF]
 refine tk 7 (v:=?_) rfl hHeld ?_ ?_
 rotate_left
 ·intro w hSw;skip;go_simp;try with_reducible rfl
 try simp only [Act.put,sA,sB,sC,sD,sE,sF]
 refine tk 8 (v:=?_) rfl hHeld ?_ ?_
 rotate_left
 ·intro w hSw;skip;go_simp;try with_reducible rfl
 try simp only [Act.put,sA,sB,sC,sD,sE,sF]
 obtain ⟨⟨x0,x1,x2,x3,x4,x5⟩,⟨y0,y1,y2,y3,y4,y5⟩,xl⟩:=six_cells D2
 refine wpAnyH_ready (rs:=[9]) (by kernel_rfl) (by simp) (AllReadyH.cons rfl (fun K hK=>?_) AllReadyH.nil)
 go_simp
 replace DB:=put_six DB hR (.int .i64 v0) (.int .i64 v1) (.int .i64 v2) (.int .i64 v3) (.int .i64 v4) (.int .i64 v5)
 replace D2:=put_sixL D2 (.int .i64 v0) (.int .i64 v1) (.int .i64 v2) (.int .i64 v3) (.int .i64 v4) (.int .i64 v5)
 refine hK.out _ _ ⟨far_six hHeld.1 (by omega) _ _ _ _ _ _,far_six hHeld.2 (by omega) _ _ _ _ _ _⟩ (fun hNew=>?_)
 clear x0 x1 x2 x3 x4 x5 y0 y1 y2 y3 y4 y5 xl
 clear hHeld hK K
 have hHeld:=hNew
 clear hNew
 try simp only [Act.put,sA,sB,sC,sD,sE,sF]
 generalize World.setCell (World.setCell (World.setCell (World.setCell (World.setCell (World.setCell (wQ3) ⟨w.heap.size+1,0,none⟩ (.int .i64 v0)) ⟨w.heap.size+1,1,none⟩ (.int .i64 v1)) ⟨w.heap.size+1,2,none⟩ (.int .i64 v2)) ⟨w.heap.size+1,3,none⟩ (.int .i64 v3)) ⟨w.heap.size+1,4,none⟩ (.int .i64 v4)) ⟨w.heap.size+1,5,none⟩ (.int .i64 v5)=wQ4 at D2 DB hHeld ⊢
 refine tk 10 (v:=?_) rfl hHeld ?_ ?_
 rotate_left
 ·intro w hSw;skip;go_simp;try with_reducible rfl
 try simp only [Act.put,sA,sB,sC,sD,sE,sF]
 refine wpAnyH_done (by kernel_rfl) ?_ _
 clear hHeld
 obtain ⟨⟨x0,x1,x2,x3,x4,x5⟩,⟨y0,y1,y2,y3,y4,y5⟩,xl⟩:=six_cells D2
 clear D2
 go_wp2_with fail
 exact bodyPost_ret (v:=.tuple #[.agg #[.int .i64 v0,.int .i64 v1,.int .i64 v2,.int .i64 v3,.int .i64 v4,.int .i64 v5],.int .i64 f]) (by simp [results,Tryz.results69,go_sem,x0,x1,x2,x3,x4,x5,xl]) rfl ⟨DB,v0,v1,v2,v3,v4,v5,f,rfl,HC.out⟩
end Go.Proofs.YthmljpccbjolgaaGreatDoor.wref
