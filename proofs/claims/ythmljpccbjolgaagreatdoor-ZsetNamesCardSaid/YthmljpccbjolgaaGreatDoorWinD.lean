
/-
  Package win: what Within, Window and Shift answer, each in one form; each theorem names its conditions.
-/
import Derived.Test.YthmljpccbjolgaaGreatDoorZoneF
import Derived.Test.YthmljpccbjolgaaGreatDoorWinA
import Derived.Test.YthmljpccbjolgaaGreatDoorZoneI
import Derived.Test.YthmljpccbjolgaaGreatDoorZoneR
import Derived.Test.YthmljpccbjolgaaGreatDoorTill
namespace Go.Proofs.YthmljpccbjolgaaGreatDoor.win
open Go.Joins Go.ChangeShapes Go.WideShapes Go.ChangeAt Go.RowKit num rat dbm Go.Proofs.YthmljpccbjolgaaGreatDoor.tight Go.Proofs.YthmljpccbjolgaaGreatDoor.plaw Go.Proofs.YthmljpccbjolgaaGreatDoor.zopen Go.Proofs.YthmljpccbjolgaaGreatDoor.zone
open bound hiding up
set_option linter.unusedVariables false
set_option linter.unusedSimpArgs false
theorem beyond_no (c : Int) (w : World) (h : In c) : Calls Tryz.prog 114 #[.int .i64 c] w fun e w' => e = .returned (.bool false) ∧ w = w' := by
 obtain ⟨h1,h2⟩ := h
 have t1 : ¬ c < -288230376151711744 := by omega
 have t2 : ¬ 288230376151711744 < c := by omega
 go_enter Tryz.func114,Tryz.ntmps114
 go_wp2_with fail
 go_ret
 exact ⟨rfl,rfl⟩
theorem beyond_yes (c : Int) (w : World) (h : ¬ In c) : Calls Tryz.prog 114 #[.int .i64 c] w fun e w' => e = .returned (.bool true) ∧ w = w' := by
 by_cases h1 : c < -288230376151711744
 ·clear h
  go_enter Tryz.func114,Tryz.ntmps114
  go_wp2_with fail
  go_ret
  exact ⟨rfl,rfl⟩
 ·have h2 : 288230376151711744 < c := by unfold In at h; omega
  clear h
  go_enter Tryz.func114,Tryz.ntmps114
  go_wp2_with fail
  go_ret
  exact ⟨rfl,rfl⟩
def Mo2 (W:World) (g:Nat) (a H b L:Int):Prop:=W.cell? ⟨g,0,none⟩=some (.int .i64 a)∧W.cell? ⟨g,1,none⟩=some (.int .i64 H)∧W.cell? ⟨g,2,none⟩=some (.int .i64 b)∧W.cell? ⟨g,3,none⟩=some (.int .i64 L)
theorem Mo2.below {n:Nat} {W X:World} {g:Nat} {a H b L:Int} (h:Mo2 W g a H b L) (k:Below n W X) (hg:g<n):Mo2 X g a H b L:=
 ⟨(k.cell (p:=⟨g,0,none⟩) hg).trans h.1,(k.cell (p:=⟨g,1,none⟩) hg).trans h.2.1,(k.cell (p:=⟨g,2,none⟩) hg).trans h.2.2.1,(k.cell (p:=⟨g,3,none⟩) hg).trans h.2.2.2⟩
def Wz (c:Array Value) (w W:World):Prop:=lies.Lies W w.heap.size 27 c∧lies.Lies W (w.heap.size+1) 27 #[.int .i64 0,.int .i64 0,.int .i64 0,.int .i64 0,.int .i64 0,.int .i64 0]∧Below w.heap.size w W
theorem Wz.below {c:Array Value} {w W X:World} (h:Wz c w W) (k:Below W.heap.size W X):Wz c w X:=
 ⟨lies.on_call h.1 k,lies.on_call h.2.1 k,later h.2.2 k⟩
set_option maxRecDepth 100000 in
set_option maxHeartbeats 8000000 in
theorem with_d (z0 z1 z2 z3 z4 z5 H L:Int) (gl:Nat) (w:World) (hP:Pl w) (hq:Mo2 w gl 4 H 5 L) (hg:gl<w.heap.size) (ht:Tops [z0,z1,z2,z3,(lsr z4 H),(lsr z5 L)]) (hf:MayD 3 (fullT [z0,z1,z2,z3,(lsr z4 H),(lsr z5 L)])):
  Calls Tryz.prog 108 #[.agg #[.int .i64 z0,.int .i64 z1,.int .i64 z2,.int .i64 z3,.int .i64 z4,.int .i64 z5],.slice (some ⟨gl,0,none⟩) 2 2] w (Ofs 3 (fullT [z0,z1,z2,z3,(lsr z4 H),(lsr z5 L)]) w):=by
 have HF:=Lib.hid hf
 have HP:=Lib.hid hP
 clear hf
 have X:∃ w0,w0=(w.alloc (.cells #[.int .i64 z0,.int .i64 z1,.int .i64 z2,.int .i64 z3,.int .i64 z4,.int .i64 z5] 27)).alloc (.cells #[.int .i64 0,.int .i64 0,.int .i64 0,.int .i64 0,.int .i64 0,.int .i64 0] 27):=⟨_,rfl⟩
 obtain ⟨w0,hX⟩:=X
 have DB:Below w.heap.size w w0:=by rw [hX];exact bound.up2 _ _ _
 have W0:Wz #[.int .i64 z0,.int .i64 z1,.int .i64 z2,.int .i64 z3,.int .i64 z4,.int .i64 z5] w w0:=by rw [hX];exact ⟨lies.on_alloc (lies.made _ _ _) _,lies.made_at _ _ _ _ (by simp),bound.up2 _ _ _⟩
 have HQ:=Lib.hid hq
 have HG:=Lib.hid hg
 have HT:=Lib.hid (show Tops [z0,z1,z2,z3,(lsr z4 H),(lsr z5 L)] from ht)
 clear hP hq hg ht DB
 go_enter Tryz.func108,Tryz.ntmps108
 go_wp2_with fail
 rw [←hX]
 clear hX
 go_loopw [12] (fun i wr=>(i=.int .i64 0∧Wz #[.int .i64 z0,.int .i64 z1,.int .i64 z2,.int .i64 z3,.int .i64 z4,.int .i64 z5] w wr)∨(i=.int .i64 1∧Wz #[.int .i64 z0,.int .i64 z1,.int .i64 z2,.int .i64 z3,.int .i64 (lsr z4 H),.int .i64 z5] w wr)∨(i=.int .i64 2∧Wz #[.int .i64 z0,.int .i64 z1,.int .i64 z2,.int .i64 z3,.int .i64 (lsr z4 H),.int .i64 (lsr z5 L)] w wr)) (fun i _=>2 - (intOf i).toNat)
 case atStart=>exact .inl ⟨rfl,W0⟩
 case round=>
  clear W0
  rcases hrel with ⟨rfl,hA⟩ | ⟨rfl,hA⟩ | ⟨rfl,hA⟩
  ·skip
   obtain ⟨q0,q1,q2,q3⟩:=HQ.out.below hA.2.2 HG.out
   have gl1:=Nat.lt_of_lt_of_le HG.out hA.2.2.size
   have dl:=lies.lt hA.1
   go_wp2_with fail
   clear q0 q1 q2 q3 gl1 dl
   have hU:=bound.up1 wr (.cells #[.int .i64 4,.int .i64 H] 127)
   replace hA:=hA.below hU
   have M:=lies.made wr 127 #[.int .i64 4,.int .i64 H]
   clear hU
   have hne:w.heap.size≠wr.heap.size:=fun e=>ne_type hA.1 M (by decide) e
   generalize wr.heap.size=T at M hne ⊢
   generalize wr.alloc (.cells #[.int .i64 4,.int .i64 H] 127)=wA at hA M ⊢
   obtain ⟨⟨c0,c1,c2,c3,c4,c5⟩,⟨f0,f1,f2,f3,f4,f5⟩,cl⟩:=six_cells hA.1
   have S0:∀ W,Below wA.heap.size wA W→W.cell? ⟨T,0,none⟩=some (.int .i64 4)∧W.cell? ⟨T,1,none⟩=some (.int .i64 H):=fun W hW=>⟨lies.cell (lies.on_call M hW) 0,lies.cell (lies.on_call M hW) 1⟩
   refine wp_region_held_drew (S:=fun W=>W.cell? ⟨T,0,none⟩=some (.int .i64 4)∧W.cell? ⟨T,1,none⟩=some (.int .i64 H)) (by kernel_rfl) (S0 _ (dbm.drawn1 (Below.refl _ _))) (fun hHeld=>?_)
   refine tk 0 (v:=?_) rfl hHeld ?_ ?_
   rotate_left
   ·intro w hSw;obtain ⟨s0,s1⟩:=hSw;go_simp;try with_reducible rfl
   try simp only [Act.put,sA,sB,sC,sD,sE,sF]
   refine tk 1 (v:=?_) rfl hHeld ?_ ?_
   rotate_left
   ·intro w hSw;obtain ⟨s0,s1⟩:=hSw;go_simp;try with_reducible rfl
   try simp only [Act.put,sA,sB,sC,sD,sE,sF]
   refine tk 2 (v:=?_) rfl hHeld ?_ ?_
   rotate_left
   ·intro w hSw;obtain ⟨s0,s1⟩:=hSw;go_simp;try with_reducible rfl
   try simp only [Act.put,sA,sB,sC,sD,sE,sF]
   refine tk 3 (v:=?_) rfl hHeld ?_ ?_
   rotate_left
   ·intro w hSw;obtain ⟨s0,s1⟩:=hSw;go_simp;try with_reducible rfl
   try simp only [Act.put,sA,sB,sC,sD,sE,sF]
   refine tk 4 (v:=?_) rfl hHeld ?_ ?_
   rotate_left
   ·intro w hSw;obtain ⟨s0,s1⟩:=hSw;go_simp;try with_reducible rfl
   try simp only [Act.put,sA,sB,sC,sD,sE,sF]
   refine tk 6 (v:=?_) rfl hHeld ?_ ?_
   rotate_left
   ·intro w hSw;obtain ⟨s0,s1⟩:=hSw;go_simp;try with_reducible rfl
   try simp only [Act.put,sA,sB,sC,sD,sE,sF]
   refine tk 7 (v:=?_) rfl hHeld ?_ ?_
   rotate_left
   ·intro w hSw;obtain ⟨s0,s1⟩:=hSw;go_simp;try with_reducible rfl
   try simp only [Act.put,sA,sB,sC,sD,sE,sF]
   refine wpAnyH_ready (rs:=[5]) (by kernel_rfl) (by simp) (AllReadyH.cons rfl (fun K hK=>?_) AllReadyH.nil)
   go_simp
   refine hK.out _ _ (S0 _ (dbm.drawn1 (Below.refl _ _))) (fun hNew=>?_)
   clear hHeld hK K
   have hHeld:=hNew
   clear hNew
   try simp only [Act.put,sA,sB,sC,sD,sE,sF]
   refine wpAnyH_ready (rs:=[8]) (by kernel_rfl) (by simp) (AllReadyH.cons rfl (fun K hK=>?_) AllReadyH.nil)
   go_simp
   first | rw [min_lsr z4 H] | rw [if_lsr z4 H]
   refine hK.out _ _ (S0 _ (dbm.drawn1 (Below.refl _ _))) (fun hNew=>?_)
   clear hHeld hK K
   have hHeld:=hNew
   clear hNew
   try simp only [Act.put,sA,sB,sC,sD,sE,sF]
   refine tk 9 (v:=?_) rfl hHeld ?_ ?_
   rotate_left
   ·intro w hSw;skip;go_simp;try with_reducible rfl
   try simp only [Act.put,sA,sB,sC,sD,sE,sF]
   refine wpAnyH_ready (rs:=[10]) (by kernel_rfl) (by simp) (AllReadyH.cons rfl (fun K hK=>?_) AllReadyH.nil)
   go_simp
   have A2:Wz #[.int .i64 z0,.int .i64 z1,.int .i64 z2,.int .i64 z3,.int .i64 (lsr z4 H),.int .i64 z5] w (wA.setCell ⟨w.heap.size,4,none⟩ (.int .i64 (lsr z4 H))).drew∧lies.Lies (wA.setCell ⟨w.heap.size,4,none⟩ (.int .i64 (lsr z4 H))).drew T 127 #[.int .i64 4,.int .i64 H]:=by
    have dr:∀ {bb:Nat} {t:TypeId} {cs:Array Value} {W:World},lies.Lies W bb t cs→lies.Lies W.drew bb t cs:=fun h=>lies.on_call h (dbm.drawn1 (Below.refl _ _))
    exact ⟨⟨dr (lies.on_put hA.1 4 _),dr (lies.on_far hA.2.1 4 (by omega) _),dbm.drawn1 (hA.2.2.setCell (p:=⟨w.heap.size,4,none⟩) (Nat.le_refl _) _)⟩,dr (lies.on_far M 4 (Ne.symm hne) _)⟩
   refine hK.out _ _ ⟨lies.cell A2.2 0,lies.cell A2.2 1⟩ (fun hNew=>?_)
   clear hHeld hK K hNew S0
   refine wpAnyH_done (by kernel_rfl) ?_ _
   replace A2:=A2.1
   clear hA M c0 c1 c2 c3 c4 c5 f0 f1 f2 f3 f4 f5 cl
   generalize (wA.setCell ⟨w.heap.size,4,none⟩ (.int .i64 (lsr z4 H))).drew=wB at A2 ⊢
   go_wp2_with fail
   go_roundw
   case rel=>exact .inr (.inl ⟨by go_num,A2⟩)
   case measure=>simp [intOf]
  ·skip
   obtain ⟨q0,q1,q2,q3⟩:=HQ.out.below hA.2.2 HG.out
   have gl1:=Nat.lt_of_lt_of_le HG.out hA.2.2.size
   have dl:=lies.lt hA.1
   go_wp2_with fail
   clear q0 q1 q2 q3 gl1 dl
   have hU:=bound.up1 wr (.cells #[.int .i64 5,.int .i64 L] 127)
   replace hA:=hA.below hU
   have M:=lies.made wr 127 #[.int .i64 5,.int .i64 L]
   clear hU
   have hne:w.heap.size≠wr.heap.size:=fun e=>ne_type hA.1 M (by decide) e
   generalize wr.heap.size=T at M hne ⊢
   generalize wr.alloc (.cells #[.int .i64 5,.int .i64 L] 127)=wA at hA M ⊢
   obtain ⟨⟨c0,c1,c2,c3,c4,c5⟩,⟨f0,f1,f2,f3,f4,f5⟩,cl⟩:=six_cells hA.1
   have S0:∀ W,Below wA.heap.size wA W→W.cell? ⟨T,0,none⟩=some (.int .i64 5)∧W.cell? ⟨T,1,none⟩=some (.int .i64 L):=fun W hW=>⟨lies.cell (lies.on_call M hW) 0,lies.cell (lies.on_call M hW) 1⟩
   refine wp_region_held_drew (S:=fun W=>W.cell? ⟨T,0,none⟩=some (.int .i64 5)∧W.cell? ⟨T,1,none⟩=some (.int .i64 L)) (by kernel_rfl) (S0 _ (dbm.drawn1 (Below.refl _ _))) (fun hHeld=>?_)
   refine tk 0 (v:=?_) rfl hHeld ?_ ?_
   rotate_left
   ·intro w hSw;obtain ⟨s0,s1⟩:=hSw;go_simp;try with_reducible rfl
   try simp only [Act.put,sA,sB,sC,sD,sE,sF]
   refine tk 1 (v:=?_) rfl hHeld ?_ ?_
   rotate_left
   ·intro w hSw;obtain ⟨s0,s1⟩:=hSw;go_simp;try with_reducible rfl
   try simp only [Act.put,sA,sB,sC,sD,sE,sF]
   refine tk 2 (v:=?_) rfl hHeld ?_ ?_
   rotate_left
   ·intro w hSw;obtain ⟨s0,s1⟩:=hSw;go_simp;try with_reducible rfl
   try simp only [Act.put,sA,sB,sC,sD,sE,sF]
   refine tk 3 (v:=?_) rfl hHeld ?_ ?_
   rotate_left
   ·intro w hSw;obtain ⟨s0,s1⟩:=hSw;go_simp;try with_reducible rfl
   try simp only [Act.put,sA,sB,sC,sD,sE,sF]
   refine tk 4 (v:=?_) rfl hHeld ?_ ?_
   rotate_left
   ·intro w hSw;obtain ⟨s0,s1⟩:=hSw;go_simp;try with_reducible rfl
   try simp only [Act.put,sA,sB,sC,sD,sE,sF]
   refine tk 6 (v:=?_) rfl hHeld ?_ ?_
   rotate_left
   ·intro w hSw;obtain ⟨s0,s1⟩:=hSw;go_simp;try with_reducible rfl
   try simp only [Act.put,sA,sB,sC,sD,sE,sF]
   refine tk 7 (v:=?_) rfl hHeld ?_ ?_
   rotate_left
   ·intro w hSw;obtain ⟨s0,s1⟩:=hSw;go_simp;try with_reducible rfl
   try simp only [Act.put,sA,sB,sC,sD,sE,sF]
   refine wpAnyH_ready (rs:=[5]) (by kernel_rfl) (by simp) (AllReadyH.cons rfl (fun K hK=>?_) AllReadyH.nil)
   go_simp
   refine hK.out _ _ (S0 _ (dbm.drawn1 (Below.refl _ _))) (fun hNew=>?_)
   clear hHeld hK K
   have hHeld:=hNew
   clear hNew
   try simp only [Act.put,sA,sB,sC,sD,sE,sF]
   refine wpAnyH_ready (rs:=[8]) (by kernel_rfl) (by simp) (AllReadyH.cons rfl (fun K hK=>?_) AllReadyH.nil)
   go_simp
   first | rw [min_lsr z5 L] | rw [if_lsr z5 L]
   refine hK.out _ _ (S0 _ (dbm.drawn1 (Below.refl _ _))) (fun hNew=>?_)
   clear hHeld hK K
   have hHeld:=hNew
   clear hNew
   try simp only [Act.put,sA,sB,sC,sD,sE,sF]
   refine tk 9 (v:=?_) rfl hHeld ?_ ?_
   rotate_left
   ·intro w hSw;skip;go_simp;try with_reducible rfl
   try simp only [Act.put,sA,sB,sC,sD,sE,sF]
   refine wpAnyH_ready (rs:=[10]) (by kernel_rfl) (by simp) (AllReadyH.cons rfl (fun K hK=>?_) AllReadyH.nil)
   go_simp
   have A2:Wz #[.int .i64 z0,.int .i64 z1,.int .i64 z2,.int .i64 z3,.int .i64 (lsr z4 H),.int .i64 (lsr z5 L)] w (wA.setCell ⟨w.heap.size,5,none⟩ (.int .i64 (lsr z5 L))).drew∧lies.Lies (wA.setCell ⟨w.heap.size,5,none⟩ (.int .i64 (lsr z5 L))).drew T 127 #[.int .i64 5,.int .i64 L]:=by
    have dr:∀ {bb:Nat} {t:TypeId} {cs:Array Value} {W:World},lies.Lies W bb t cs→lies.Lies W.drew bb t cs:=fun h=>lies.on_call h (dbm.drawn1 (Below.refl _ _))
    exact ⟨⟨dr (lies.on_put hA.1 5 _),dr (lies.on_far hA.2.1 5 (by omega) _),dbm.drawn1 (hA.2.2.setCell (p:=⟨w.heap.size,5,none⟩) (Nat.le_refl _) _)⟩,dr (lies.on_far M 5 (Ne.symm hne) _)⟩
   refine hK.out _ _ ⟨lies.cell A2.2 0,lies.cell A2.2 1⟩ (fun hNew=>?_)
   clear hHeld hK K hNew S0
   refine wpAnyH_done (by kernel_rfl) ?_ _
   replace A2:=A2.1
   clear hA M c0 c1 c2 c3 c4 c5 f0 f1 f2 f3 f4 f5 cl
   generalize (wA.setCell ⟨w.heap.size,5,none⟩ (.int .i64 (lsr z5 L))).drew=wB at A2 ⊢
   go_wp2_with fail
   go_roundw
   case rel=>exact .inr (.inr ⟨by go_num,A2⟩)
   case measure=>simp [intOf]
  ·skip
   obtain ⟨⟨c0,c1,c2,c3,c4,c5⟩,-,cl⟩:=six_cells hA.1
   go_wp2_with fail
   clear c0 c1 c2 c3 c4 c5 cl
   refine (matrix_any z0 z1 z2 z3 (lsr z4 H) (lsr z5 L) wr (HP.out.on hA.2.2) HT.out).mono ?_
   rintro e w1 ⟨hB,na,aa,la,ca,us,f,rfl,hR,hK⟩
   replace hA:=hA.below hB
   clear hB
   go_wp2_with fail
   have hU:=bound.up1 w1 (.cells #[.int .i64 na,.slice aa la ca] 81)
   replace hA:=hA.below hU
   replace hK:=(hK.below (hU.mono (Nat.le_refl _))).ints
   clear hU
   generalize w1.alloc (.cells #[.int .i64 na,.slice aa la ca] 81)=w2 at hA hK ⊢
   obtain ⟨hm,rfl,hu,rfl⟩:MayD 3 (fullT [z0,z1,z2,z3,(lsr z4 H),(lsr z5 L)])∧na=3∧us=fullT [z0,z1,z2,z3,(lsr z4 H),(lsr z5 L)]∧f=0:=by
    rcases hR with h | ⟨h,_⟩
    ·exact h
    ·exact (h (HF.out)).elim
   subst hu
   refine (of_any 3 _ _ w2 (HP.out.on hA.2.2) hK (by rw [full_length];decide) (full_tops HT.out)).mono ?_
   rintro e w3 ⟨hB,v0,v1,v2,v3,v4,v5,f,rfl,hF⟩
   replace hA:=hA.below hB
   have HO:=Lib.hid hF
   clear hB hF hR hK hm
   obtain ⟨⟨x0,x1,x2,x3,x4,x5⟩,⟨y0,y1,y2,y3,y4,y5⟩,xl⟩:=six_cells hA.2.1
   have KB:=hA.2.2
   clear hA
   go_wp2_with fail
   exact bodyPost_ret (v:=.tuple #[.agg #[.int .i64 v0,.int .i64 v1,.int .i64 v2,.int .i64 v3,.int .i64 v4,.int .i64 v5],.int .i64 f]) (by simp [results,Tryz.results108,go_sem,x0,x1,x2,x3,x4,x5,xl]) rfl ⟨put_six KB (by omega) _ _ _ _ _ _,v0,v1,v2,v3,v4,v5,f,rfl,HO.out⟩
set_option maxRecDepth 100000 in
set_option maxHeartbeats 8000000 in
theorem with_u (z0 z1 z2 z3 z4 z5 H L:Int) (gl:Nat) (w:World) (hP:Pl w) (hq:Mo2 w gl 2 H 3 L) (hg:gl<w.heap.size) (ht:Tops [z0,z1,(lsr z2 H),(lsr z3 L),z4,z5]) (hf:MayD 3 (fullT [z0,z1,(lsr z2 H),(lsr z3 L),z4,z5])):
  Calls Tryz.prog 108 #[.agg #[.int .i64 z0,.int .i64 z1,.int .i64 z2,.int .i64 z3,.int .i64 z4,.int .i64 z5],.slice (some ⟨gl,0,none⟩) 2 2] w (Ofs 3 (fullT [z0,z1,(lsr z2 H),(lsr z3 L),z4,z5]) w):=by
 have HF:=Lib.hid hf
 have HP:=Lib.hid hP
 clear hf
 have X:∃ w0,w0=(w.alloc (.cells #[.int .i64 z0,.int .i64 z1,.int .i64 z2,.int .i64 z3,.int .i64 z4,.int .i64 z5] 27)).alloc (.cells #[.int .i64 0,.int .i64 0,.int .i64 0,.int .i64 0,.int .i64 0,.int .i64 0] 27):=⟨_,rfl⟩
 obtain ⟨w0,hX⟩:=X
 have DB:Below w.heap.size w w0:=by rw [hX];exact bound.up2 _ _ _
 have W0:Wz #[.int .i64 z0,.int .i64 z1,.int .i64 z2,.int .i64 z3,.int .i64 z4,.int .i64 z5] w w0:=by rw [hX];exact ⟨lies.on_alloc (lies.made _ _ _) _,lies.made_at _ _ _ _ (by simp),bound.up2 _ _ _⟩
 have HQ:=Lib.hid hq
 have HG:=Lib.hid hg
 have HT:=Lib.hid (show Tops [z0,z1,(lsr z2 H),(lsr z3 L),z4,z5] from ht)
 clear hP hq hg ht DB
 go_enter Tryz.func108,Tryz.ntmps108
 go_wp2_with fail
 rw [←hX]
 clear hX
 go_loopw [12] (fun i wr=>(i=.int .i64 0∧Wz #[.int .i64 z0,.int .i64 z1,.int .i64 z2,.int .i64 z3,.int .i64 z4,.int .i64 z5] w wr)∨(i=.int .i64 1∧Wz #[.int .i64 z0,.int .i64 z1,.int .i64 (lsr z2 H),.int .i64 z3,.int .i64 z4,.int .i64 z5] w wr)∨(i=.int .i64 2∧Wz #[.int .i64 z0,.int .i64 z1,.int .i64 (lsr z2 H),.int .i64 (lsr z3 L),.int .i64 z4,.int .i64 z5] w wr)) (fun i _=>2 - (intOf i).toNat)
 case atStart=>exact .inl ⟨rfl,W0⟩
 case round=>
  clear W0
  rcases hrel with ⟨rfl,hA⟩ | ⟨rfl,hA⟩ | ⟨rfl,hA⟩
  ·skip
   obtain ⟨q0,q1,q2,q3⟩:=HQ.out.below hA.2.2 HG.out
   have gl1:=Nat.lt_of_lt_of_le HG.out hA.2.2.size
   have dl:=lies.lt hA.1
   go_wp2_with fail
   clear q0 q1 q2 q3 gl1 dl
   have hU:=bound.up1 wr (.cells #[.int .i64 2,.int .i64 H] 127)
   replace hA:=hA.below hU
   have M:=lies.made wr 127 #[.int .i64 2,.int .i64 H]
   clear hU
   have hne:w.heap.size≠wr.heap.size:=fun e=>ne_type hA.1 M (by decide) e
   generalize wr.heap.size=T at M hne ⊢
   generalize wr.alloc (.cells #[.int .i64 2,.int .i64 H] 127)=wA at hA M ⊢
   obtain ⟨⟨c0,c1,c2,c3,c4,c5⟩,⟨f0,f1,f2,f3,f4,f5⟩,cl⟩:=six_cells hA.1
   have S0:∀ W,Below wA.heap.size wA W→W.cell? ⟨T,0,none⟩=some (.int .i64 2)∧W.cell? ⟨T,1,none⟩=some (.int .i64 H):=fun W hW=>⟨lies.cell (lies.on_call M hW) 0,lies.cell (lies.on_call M hW) 1⟩
   refine wp_region_held_drew (S:=fun W=>W.cell? ⟨T,0,none⟩=some (.int .i64 2)∧W.cell? ⟨T,1,none⟩=some (.int .i64 H)) (by kernel_rfl) (S0 _ (dbm.drawn1 (Below.refl _ _))) (fun hHeld=>?_)
   refine tk 0 (v:=?_) rfl hHeld ?_ ?_
   rotate_left
   ·intro w hSw;obtain ⟨s0,s1⟩:=hSw;go_simp;try with_reducible rfl
   try simp only [Act.put,sA,sB,sC,sD,sE,sF]
   refine tk 1 (v:=?_) rfl hHeld ?_ ?_
   rotate_left
   ·intro w hSw;obtain ⟨s0,s1⟩:=hSw;go_simp;try with_reducible rfl
   try simp only [Act.put,sA,sB,sC,sD,sE,sF]
   refine tk 2 (v:=?_) rfl hHeld ?_ ?_
   rotate_left
   ·intro w hSw;obtain ⟨s0,s1⟩:=hSw;go_simp;try with_reducible rfl
   try simp only [Act.put,sA,sB,sC,sD,sE,sF]
   refine tk 3 (v:=?_) rfl hHeld ?_ ?_
   rotate_left
   ·intro w hSw;obtain ⟨s0,s1⟩:=hSw;go_simp;try with_reducible rfl
   try simp only [Act.put,sA,sB,sC,sD,sE,sF]
   refine tk 4 (v:=?_) rfl hHeld ?_ ?_
   rotate_left
   ·intro w hSw;obtain ⟨s0,s1⟩:=hSw;go_simp;try with_reducible rfl
   try simp only [Act.put,sA,sB,sC,sD,sE,sF]
   refine tk 6 (v:=?_) rfl hHeld ?_ ?_
   rotate_left
   ·intro w hSw;obtain ⟨s0,s1⟩:=hSw;go_simp;try with_reducible rfl
   try simp only [Act.put,sA,sB,sC,sD,sE,sF]
   refine tk 7 (v:=?_) rfl hHeld ?_ ?_
   rotate_left
   ·intro w hSw;obtain ⟨s0,s1⟩:=hSw;go_simp;try with_reducible rfl
   try simp only [Act.put,sA,sB,sC,sD,sE,sF]
   refine wpAnyH_ready (rs:=[5]) (by kernel_rfl) (by simp) (AllReadyH.cons rfl (fun K hK=>?_) AllReadyH.nil)
   go_simp
   refine hK.out _ _ (S0 _ (dbm.drawn1 (Below.refl _ _))) (fun hNew=>?_)
   clear hHeld hK K
   have hHeld:=hNew
   clear hNew
   try simp only [Act.put,sA,sB,sC,sD,sE,sF]
   refine wpAnyH_ready (rs:=[8]) (by kernel_rfl) (by simp) (AllReadyH.cons rfl (fun K hK=>?_) AllReadyH.nil)
   go_simp
   first | rw [min_lsr z2 H] | rw [if_lsr z2 H]
   refine hK.out _ _ (S0 _ (dbm.drawn1 (Below.refl _ _))) (fun hNew=>?_)
   clear hHeld hK K
   have hHeld:=hNew
   clear hNew
   try simp only [Act.put,sA,sB,sC,sD,sE,sF]
   refine tk 9 (v:=?_) rfl hHeld ?_ ?_
   rotate_left
   ·intro w hSw;skip;go_simp;try with_reducible rfl
   try simp only [Act.put,sA,sB,sC,sD,sE,sF]
   refine wpAnyH_ready (rs:=[10]) (by kernel_rfl) (by simp) (AllReadyH.cons rfl (fun K hK=>?_) AllReadyH.nil)
   go_simp
   have A2:Wz #[.int .i64 z0,.int .i64 z1,.int .i64 (lsr z2 H),.int .i64 z3,.int .i64 z4,.int .i64 z5] w (wA.setCell ⟨w.heap.size,2,none⟩ (.int .i64 (lsr z2 H))).drew∧lies.Lies (wA.setCell ⟨w.heap.size,2,none⟩ (.int .i64 (lsr z2 H))).drew T 127 #[.int .i64 2,.int .i64 H]:=by
    have dr:∀ {bb:Nat} {t:TypeId} {cs:Array Value} {W:World},lies.Lies W bb t cs→lies.Lies W.drew bb t cs:=fun h=>lies.on_call h (dbm.drawn1 (Below.refl _ _))
    exact ⟨⟨dr (lies.on_put hA.1 2 _),dr (lies.on_far hA.2.1 2 (by omega) _),dbm.drawn1 (hA.2.2.setCell (p:=⟨w.heap.size,2,none⟩) (Nat.le_refl _) _)⟩,dr (lies.on_far M 2 (Ne.symm hne) _)⟩
   refine hK.out _ _ ⟨lies.cell A2.2 0,lies.cell A2.2 1⟩ (fun hNew=>?_)
   clear hHeld hK K hNew S0
   refine wpAnyH_done (by kernel_rfl) ?_ _
   replace A2:=A2.1
   clear hA M c0 c1 c2 c3 c4 c5 f0 f1 f2 f3 f4 f5 cl
   generalize (wA.setCell ⟨w.heap.size,2,none⟩ (.int .i64 (lsr z2 H))).drew=wB at A2 ⊢
   go_wp2_with fail
   go_roundw
   case rel=>exact .inr (.inl ⟨by go_num,A2⟩)
   case measure=>simp [intOf]
  ·skip
   obtain ⟨q0,q1,q2,q3⟩:=HQ.out.below hA.2.2 HG.out
   have gl1:=Nat.lt_of_lt_of_le HG.out hA.2.2.size
   have dl:=lies.lt hA.1
   go_wp2_with fail
   clear q0 q1 q2 q3 gl1 dl
   have hU:=bound.up1 wr (.cells #[.int .i64 3,.int .i64 L] 127)
   replace hA:=hA.below hU
   have M:=lies.made wr 127 #[.int .i64 3,.int .i64 L]
   clear hU
   have hne:w.heap.size≠wr.heap.size:=fun e=>ne_type hA.1 M (by decide) e
   generalize wr.heap.size=T at M hne ⊢
   generalize wr.alloc (.cells #[.int .i64 3,.int .i64 L] 127)=wA at hA M ⊢
   obtain ⟨⟨c0,c1,c2,c3,c4,c5⟩,⟨f0,f1,f2,f3,f4,f5⟩,cl⟩:=six_cells hA.1
   have S0:∀ W,Below wA.heap.size wA W→W.cell? ⟨T,0,none⟩=some (.int .i64 3)∧W.cell? ⟨T,1,none⟩=some (.int .i64 L):=fun W hW=>⟨lies.cell (lies.on_call M hW) 0,lies.cell (lies.on_call M hW) 1⟩
   refine wp_region_held_drew (S:=fun W=>W.cell? ⟨T,0,none⟩=some (.int .i64 3)∧W.cell? ⟨T,1,none⟩=some (.int .i64 L)) (by kernel_rfl) (S0 _ (dbm.drawn1 (Below.refl _ _))) (fun hHeld=>?_)
   refine tk 0 (v:=?_) rfl hHeld ?_ ?_
   rotate_left
   ·intro w hSw;obtain ⟨s0,s1⟩:=hSw;go_simp;try with_reducible rfl
   try simp only [Act.put,sA,sB,sC,sD,sE,sF]
   refine tk 1 (v:=?_) rfl hHeld ?_ ?_
   rotate_left
   ·intro w hSw;obtain ⟨s0,s1⟩:=hSw;go_simp;try with_reducible rfl
   try simp only [Act.put,sA,sB,sC,sD,sE,sF]
   refine tk 2 (v:=?_) rfl hHeld ?_ ?_
   rotate_left
   ·intro w hSw;obtain ⟨s0,s1⟩:=hSw;go_simp;try with_reducible rfl
   try simp only [Act.put,sA,sB,sC,sD,sE,sF]
   refine tk 3 (v:=?_) rfl hHeld ?_ ?_
   rotate_left
   ·intro w hSw;obtain ⟨s0,s1⟩:=hSw;go_simp;try with_reducible rfl
   try simp only [Act.put,sA,sB,sC,sD,sE,sF]
   refine tk 4 (v:=?_) rfl hHeld ?_ ?_
   rotate_left
   ·intro w hSw;obtain ⟨s0,s1⟩:=hSw;go_simp;try with_reducible rfl
   try simp only [Act.put,sA,sB,sC,sD,sE,sF]
   refine tk 6 (v:=?_) rfl hHeld ?_ ?_
   rotate_left
   ·intro w hSw;obtain ⟨s0,s1⟩:=hSw;go_simp;try with_reducible rfl
   try simp only [Act.put,sA,sB,sC,sD,sE,sF]
   refine tk 7 (v:=?_) rfl hHeld ?_ ?_
   rotate_left
   ·intro w hSw;obtain ⟨s0,s1⟩:=hSw;go_simp;try with_reducible rfl
   try simp only [Act.put,sA,sB,sC,sD,sE,sF]
   refine wpAnyH_ready (rs:=[5]) (by kernel_rfl) (by simp) (AllReadyH.cons rfl (fun K hK=>?_) AllReadyH.nil)
   go_simp
   refine hK.out _ _ (S0 _ (dbm.drawn1 (Below.refl _ _))) (fun hNew=>?_)
   clear hHeld hK K
   have hHeld:=hNew
   clear hNew
   try simp only [Act.put,sA,sB,sC,sD,sE,sF]
   refine wpAnyH_ready (rs:=[8]) (by kernel_rfl) (by simp) (AllReadyH.cons rfl (fun K hK=>?_) AllReadyH.nil)
   go_simp
   first | rw [min_lsr z3 L] | rw [if_lsr z3 L]
   refine hK.out _ _ (S0 _ (dbm.drawn1 (Below.refl _ _))) (fun hNew=>?_)
   clear hHeld hK K
   have hHeld:=hNew
   clear hNew
   try simp only [Act.put,sA,sB,sC,sD,sE,sF]
   refine tk 9 (v:=?_) rfl hHeld ?_ ?_
   rotate_left
   ·intro w hSw;skip;go_simp;try with_reducible rfl
   try simp only [Act.put,sA,sB,sC,sD,sE,sF]
   refine wpAnyH_ready (rs:=[10]) (by kernel_rfl) (by simp) (AllReadyH.cons rfl (fun K hK=>?_) AllReadyH.nil)
   go_simp
   have A2:Wz #[.int .i64 z0,.int .i64 z1,.int .i64 (lsr z2 H),.int .i64 (lsr z3 L),.int .i64 z4,.int .i64 z5] w (wA.setCell ⟨w.heap.size,3,none⟩ (.int .i64 (lsr z3 L))).drew∧lies.Lies (wA.setCell ⟨w.heap.size,3,none⟩ (.int .i64 (lsr z3 L))).drew T 127 #[.int .i64 3,.int .i64 L]:=by
    have dr:∀ {bb:Nat} {t:TypeId} {cs:Array Value} {W:World},lies.Lies W bb t cs→lies.Lies W.drew bb t cs:=fun h=>lies.on_call h (dbm.drawn1 (Below.refl _ _))
    exact ⟨⟨dr (lies.on_put hA.1 3 _),dr (lies.on_far hA.2.1 3 (by omega) _),dbm.drawn1 (hA.2.2.setCell (p:=⟨w.heap.size,3,none⟩) (Nat.le_refl _) _)⟩,dr (lies.on_far M 3 (Ne.symm hne) _)⟩
   refine hK.out _ _ ⟨lies.cell A2.2 0,lies.cell A2.2 1⟩ (fun hNew=>?_)
   clear hHeld hK K hNew S0
   refine wpAnyH_done (by kernel_rfl) ?_ _
   replace A2:=A2.1
   clear hA M c0 c1 c2 c3 c4 c5 f0 f1 f2 f3 f4 f5 cl
   generalize (wA.setCell ⟨w.heap.size,3,none⟩ (.int .i64 (lsr z3 L))).drew=wB at A2 ⊢
   go_wp2_with fail
   go_roundw
   case rel=>exact .inr (.inr ⟨by go_num,A2⟩)
   case measure=>simp [intOf]
  ·skip
   obtain ⟨⟨c0,c1,c2,c3,c4,c5⟩,-,cl⟩:=six_cells hA.1
   go_wp2_with fail
   clear c0 c1 c2 c3 c4 c5 cl
   refine (matrix_any z0 z1 (lsr z2 H) (lsr z3 L) z4 z5 wr (HP.out.on hA.2.2) HT.out).mono ?_
   rintro e w1 ⟨hB,na,aa,la,ca,us,f,rfl,hR,hK⟩
   replace hA:=hA.below hB
   clear hB
   go_wp2_with fail
   have hU:=bound.up1 w1 (.cells #[.int .i64 na,.slice aa la ca] 81)
   replace hA:=hA.below hU
   replace hK:=(hK.below (hU.mono (Nat.le_refl _))).ints
   clear hU
   generalize w1.alloc (.cells #[.int .i64 na,.slice aa la ca] 81)=w2 at hA hK ⊢
   obtain ⟨hm,rfl,hu,rfl⟩:MayD 3 (fullT [z0,z1,(lsr z2 H),(lsr z3 L),z4,z5])∧na=3∧us=fullT [z0,z1,(lsr z2 H),(lsr z3 L),z4,z5]∧f=0:=by
    rcases hR with h | ⟨h,_⟩
    ·exact h
    ·exact (h (HF.out)).elim
   subst hu
   refine (of_any 3 _ _ w2 (HP.out.on hA.2.2) hK (by rw [full_length];decide) (full_tops HT.out)).mono ?_
   rintro e w3 ⟨hB,v0,v1,v2,v3,v4,v5,f,rfl,hF⟩
   replace hA:=hA.below hB
   have HO:=Lib.hid hF
   clear hB hF hR hK hm
   obtain ⟨⟨x0,x1,x2,x3,x4,x5⟩,⟨y0,y1,y2,y3,y4,y5⟩,xl⟩:=six_cells hA.2.1
   have KB:=hA.2.2
   clear hA
   go_wp2_with fail
   exact bodyPost_ret (v:=.tuple #[.agg #[.int .i64 v0,.int .i64 v1,.int .i64 v2,.int .i64 v3,.int .i64 v4,.int .i64 v5],.int .i64 f]) (by simp [results,Tryz.results108,go_sem,x0,x1,x2,x3,x4,x5,xl]) rfl ⟨put_six KB (by omega) _ _ _ _ _ _,v0,v1,v2,v3,v4,v5,f,rfl,HO.out⟩
end Go.Proofs.YthmljpccbjolgaaGreatDoor.win
namespace Go.Proofs.YthmljpccbjolgaaGreatDoor.win
open Go.Joins Go.ChangeShapes Go.WideShapes Go.ChangeAt Go.RowKit num rat dbm Go.Proofs.YthmljpccbjolgaaGreatDoor.tight Go.Proofs.YthmljpccbjolgaaGreatDoor.plaw Go.Proofs.YthmljpccbjolgaaGreatDoor.zopen Go.Proofs.YthmljpccbjolgaaGreatDoor.zone
open bound hiding up
open Go.Proofs.YthmljpccbjolgaaGreatDoor.comp (five_cells put_five)
set_option linter.unusedVariables false
set_option linter.unusedSimpArgs false
theorem lsr_top {a:Int} (h:a≤9223372036854775807):lsr a 9223372036854775807=a:=by unfold lsr;split<;>omega
theorem full_d {z0 z1 z2 z3 z4 z5:Int} (t:Tops [z0,z1,z2,z3,z4,z5]) (s:Sp):fullT [z0,z1,z2,z3,lsr z4 (hiS s),lsr z5 (loS s)]=lesT (fullT [z0,z1,z2,z3,z4,z5]) (fullT (diffZ s)):=by
 have k:=fun i=>get_top t i
 have k0:z0≤9223372036854775807:=k 0
 have k1:z1≤9223372036854775807:=k 1
 have k2:z2≤9223372036854775807:=k 2
 have k3:z3≤9223372036854775807:=k 3
 refine list_at rfl fun p hp=>?_
 have hp:p<9:=hp
 rw [lesT_at _ _ (show p<(fullT [z0,z1,z2,z3,z4,z5]).length from hp)]
 rcases (by omega:p=0∨p=1∨p=2∨p=3∨p=4∨p=5∨p=6∨p=7∨p=8) with rfl | rfl | rfl | rfl | rfl | rfl | rfl | rfl | rfl
 ·rfl
 ·exact (lsr_top k1).symm
 ·exact (lsr_top k3).symm
 ·exact (lsr_top k0).symm
 ·rfl
 ·rfl
 ·exact (lsr_top k2).symm
 ·rfl
 ·rfl
theorem full_u {z0 z1 z2 z3 z4 z5:Int} (t:Tops [z0,z1,z2,z3,z4,z5]) (s:Sp):fullT [z0,z1,lsr z2 (hiS s),lsr z3 (loS s),z4,z5]=lesT (fullT [z0,z1,z2,z3,z4,z5]) (fullT (lateZ s)):=by
 have k:=fun i=>get_top t i
 have k0:z0≤9223372036854775807:=k 0
 have k1:z1≤9223372036854775807:=k 1
 have k4:z4≤9223372036854775807:=k 4
 have k5:z5≤9223372036854775807:=k 5
 refine list_at rfl fun p hp=>?_
 have hp:p<9:=hp
 rw [lesT_at _ _ (show p<(fullT [z0,z1,z2,z3,z4,z5]).length from hp)]
 rcases (by omega:p=0∨p=1∨p=2∨p=3∨p=4∨p=5∨p=6∨p=7∨p=8) with rfl | rfl | rfl | rfl | rfl | rfl | rfl | rfl | rfl
 ·rfl
 ·exact (lsr_top k1).symm
 ·rfl
 ·exact (lsr_top k0).symm
 ·rfl
 ·exact (lsr_top k5).symm
 ·rfl
 ·exact (lsr_top k4).symm
 ·rfl
theorem cut_of {z w out:List Int} {f:Int} (hz:MayD 3 (fullT z)) (hw:MayD 3 (fullT w)) (h:OfR 3 (lesT (fullT z) (fullT w)) out f):CutR z w out f:=by
 have hm:=lesT_may hz hw
 rcases h with q | q | q | q | q
 ·exact (q.1 hm).elim
 ·exact (q.2.1 rfl).elim
 ·exact .inl ⟨q.2.2.1,q.2.2.2⟩
 ·exact .inr (.inl ⟨q.2.1,q.2.2.1,q.2.2.2⟩)
 ·exact .inr (.inr ⟨q.2.1,q.2.2.1,q.2.2.2⟩)
theorem six_tops {z0 z1 z2 z3 z4 z5 a b:Int} (t:Tops [z0,z1,z2,z3,z4,z5]):Tops [z0,z1,z2,z3,lsr z4 a,lsr z5 b]∧Tops [z0,z1,lsr z2 a,lsr z3 b,z4,z5]:=by
 have k:=fun i=>get_top t i
 have k0:z0≤9223372036854775807:=k 0
 have k1:z1≤9223372036854775807:=k 1
 have k2:z2≤9223372036854775807:=k 2
 have k3:z3≤9223372036854775807:=k 3
 have k4:z4≤9223372036854775807:=k 4
 have k5:z5≤9223372036854775807:=k 5
 have l2:=(lsr_le z2 a).1
 have l3:=(lsr_le z3 b).1
 have l4:=(lsr_le z4 a).1
 have l5:=(lsr_le z5 b).1
 constructor<;>intro x hx<;>simp only [List.mem_cons,List.not_mem_nil,or_false] at hx<;>omega
theorem ok_p {z:List Int} {s:Sp} (tz:Tops z) (hz:MayD 3 (fullT z)) (hs:MayP s) (h:OkD 3 (lesT (fullT z) (fullT (diffZ s)))):OkP s:=by
 have hp:=pair_ok (n:=3) (i:=2) (j:=1) (by decide) (by decide) (lesT_length _ _) (lesT_tops (full_tops tz) _) h (by decide) (by decide)
 have e1:tat (lesT (fullT z) (fullT (diffZ s))) 3 2 1=lsr (z[4]?.getD 0) (hiS s):=lesT_at (fullT z) (fullT (diffZ s)) (q:=7) (by rw [full_length];decide)
 have e2:tat (lesT (fullT z) (fullT (diffZ s))) 3 1 2=lsr (z[5]?.getD 0) (loS s):=lesT_at (fullT z) (fullT (diffZ s)) (q:=5) (by rw [full_length];decide)
 rw [e1,e2] at hp
 have t4:=get_top tz 4
 have t5:=get_top tz 5
 have c1:=fine_le (hi_fine hs)
 have c2:=fine_le (lo_fine hs)
 refine (two_ok (hi_fine hs) (lo_fine hs) (way.le_trans hp (way.ad_mono ?_ ?_))).1
 ·exact (cod_le (Int.le_trans (lsr_le _ _).1 t4) c1).2 (lsr_le _ _).2
 ·exact (cod_le (Int.le_trans (lsr_le _ _).1 t5) c2).2 (lsr_le _ _).2
def line4:List Int:=[9223372036854775807,9223372036854775807,9223372036854775807,9223372036854775807]
theorem line4_tops:Tops line4:=by unfold Tops line4;decide
theorem line4_may:MayD 2 line4:=⟨by decide,by decide,rfl,fun p hp=>by
 have hp:p<4:=hp
 rcases (by omega:p=0∨p=1∨p=2∨p=3) with rfl | rfl | rfl | rfl<;>exact .inl rfl⟩
theorem line4_like {s:Sp} (h:MayP s):Like ((2:Nat):Int) [9223372036854775807,loS s,hiS s,9223372036854775807] (twoT (hiS s) (loS s)):=by
 have f1:=hi_fine h
 have f2:=lo_fine h
 refine like_of (n:=2) (by decide) (by decide) rfl rfl ⟨by decide,by decide,rfl,fun p hp=>?_⟩ (two_may f1 f2) fun i j hi hj=>?_
 ·have hp:p<4:=hp
  rcases (by omega:p=0∨p=1∨p=2∨p=3) with rfl | rfl | rfl | rfl
  ·exact .inl rfl
  ·exact f2
  ·exact f1
  ·exact .inl rfl
 ·rcases (by omega:i=0∨i=1) with rfl | rfl<;>rcases (by omega:j=0∨j=1) with rfl | rfl<;>rfl
theorem line_is {s:Sp} {na:Int} {us:List Int} {f:Int} (h:Res 2 (btwQ 2 line4 1 s.1 s.2.1 s.2.2.1 s.2.2.2.1 s.2.2.2.2) (btwE 2 line4 1) na us f):
  (¬ MayP s∧f=8)∨(MayP s∧¬ OkP s∧f=6)∨(MayP s∧OkP s∧na=2∧us=[1,loS s,hiS s,1]∧f=0):=by
 by_cases hm:MayP s
 ·have e:btwQ 2 line4 1 s.1 s.2.1 s.2.2.1 s.2.2.2.1 s.2.2.2.2=some [9223372036854775807,loS s,hiS s,9223372036854775807]:=by
   unfold btwQ
   rw [if_pos ⟨line4_may,⟨by decide,by decide⟩,hm⟩]
   have e1:=lsr_of (fine_le (lo_fine hm))
   have e2:=lsr_of (fine_le (hi_fine hm))
   show some [9223372036854775807,lsr 9223372036854775807 (loS s),lsr 9223372036854775807 (hiS s),9223372036854775807]=_
   rw [e1,e2]
  rw [e] at h
  obtain ⟨l1,_,l3,l4⟩:=line4_like hm
  have l3:OkD 2 [9223372036854775807,loS s,hiS s,9223372036854775807]↔OkP s:=l3
  rcases h with ⟨h,_⟩ | ⟨ts,h,k⟩
  ·cases h
  ·injection h with h
   rw [←h] at k
   rcases ans_two k l1 with ⟨k,_,_,e3⟩ | ⟨k,e1,e2,e3,_,e4⟩
   ·exact .inr (.inl ⟨hm,fun q=>k (l3.2 q),e3⟩)
   ·refine .inr (.inr ⟨hm,l3.1 k,e1,?_,e4⟩)
    have l4:clT 2 [9223372036854775807,loS s,hiS s,9223372036854775807]=clT 2 (twoT (hiS s) (loS s)):=l4 k
    rw [e2.out,l4,two_cl hm (l3.1 k)]
    rfl
 ·have e:btwQ 2 line4 1 s.1 s.2.1 s.2.2.1 s.2.2.2.1 s.2.2.2.2=none:=if_neg fun k=>hm k.2.2
  rw [e] at h
  rcases h with ⟨_,_,_,e⟩ | ⟨ts,h,_⟩
  ·refine .inl ⟨hm,?_⟩
   rw [e]
   unfold btwE
   rw [if_neg (fun k=>k.2 ⟨by decide,by decide⟩)]
  ·cases h
theorem far_six {W:World} {g R:Nat} {t:TypeId} {cs:Array Value} (h:lies.Lies W g t cs) (k:g≠R) (a b c d e f:Value):lies.Lies ((((((W.setCell ⟨R,0,none⟩ a).setCell ⟨R,1,none⟩ b).setCell ⟨R,2,none⟩ c).setCell ⟨R,3,none⟩ d).setCell ⟨R,4,none⟩ e).setCell ⟨R,5,none⟩ f) g t cs:=
 lies.on_far (lies.on_far (lies.on_far (lies.on_far (lies.on_far (lies.on_far h 0 k a) 1 k b) 2 k c) 3 k d) 4 k e) 5 k f
def Zs (R:List Int→Int→Prop) (w:World) (e:Ending) (w':World):Prop:=Below w.heap.size w w'∧∃ z0 z1 z2 z3 z4 z5 f,e=.returned (.tuple #[.agg #[.int .i64 z0,.int .i64 z1,.int .i64 z2,.int .i64 z3,.int .i64 z4,.int .i64 z5],.int .i64 f])∧R [z0,z1,z2,z3,z4,z5] f
def WithinR (z:List Int) (s:Sp) (out:List Int) (f:Int):Prop:=(¬ MayZ z∧out=zero6∧f=8)∨(MayZ z∧¬ MayP s∧out=zero6∧f=8)∨(MayZ z∧MayP s∧CutR z (diffZ s) out f)
def MayW (a b:Int):Prop:=In a∧In b∧a<b
def WindowR (z:List Int) (a b:Int) (out:List Int) (f:Int):Prop:=(¬ MayZ z∧out=zero6∧f=8)∨(MayZ z∧¬ MayW a b∧out=zero6∧f=2)∨(MayZ z∧MayW a b∧CutR z (lateZ (winS a b)) out f)
set_option maxRecDepth 100000 in
set_option maxHeartbeats 8000000 in
theorem within_any (a0 a1 a2 a3 a4 a5 lo:Int) (ls:Bool) (hi:Int) (hs op:Bool) (w:World) (hP:Pl w) (ta:Tops [a0,a1,a2,a3,a4,a5]):Calls Tryz.prog 64 #[.agg #[.int .i64 a0,.int .i64 a1,.int .i64 a2,.int .i64 a3,.int .i64 a4,.int .i64 a5],.agg #[.int .i64 lo,.bool ls,.int .i64 hi,.bool hs,.bool op]] w (Zs (WithinR [a0,a1,a2,a3,a4,a5] (lo,ls,hi,hs,op)) w):=by
 have X:∃ w0,w0=((w.alloc (.cells #[.int .i64 a0,.int .i64 a1,.int .i64 a2,.int .i64 a3,.int .i64 a4,.int .i64 a5] 27)).alloc (.cells #[.int .i64 lo,.bool ls,.int .i64 hi,.bool hs,.bool op] 35)).alloc (.cells #[.int .i64 0,.int .i64 0,.int .i64 0,.int .i64 0,.int .i64 0,.int .i64 0] 27):=⟨_,rfl⟩
 obtain ⟨w0,hX⟩:=X
 have DB:Below w.heap.size w w0:=by rw [hX];exact bound.up3 _ _ _ _
 have D0:lies.Lies w0 w.heap.size 27 #[.int .i64 a0,.int .i64 a1,.int .i64 a2,.int .i64 a3,.int .i64 a4,.int .i64 a5]:=by rw [hX];exact lies.on_alloc (lies.on_alloc (lies.made _ _ _) _) _
 have D1:lies.Lies w0 (w.heap.size+1) 35 #[.int .i64 lo,.bool ls,.int .i64 hi,.bool hs,.bool op]:=by rw [hX];exact lies.on_alloc (lies.made_at _ _ _ _ (by simp)) _
 have D2:lies.Lies w0 (w.heap.size+1+1) 27 #[.int .i64 0,.int .i64 0,.int .i64 0,.int .i64 0,.int .i64 0,.int .i64 0]:=by rw [hX];exact lies.made_at _ _ _ _ (by simp)
 have hR:w.heap.size≤w.heap.size+1+1:=by omega
 have P0:=hP.on DB
 have HP:=Lib.hid hP
 have HTA:=Lib.hid ta
 clear hP ta
 go_enter Tryz.func64,Tryz.ntmps64
 obtain ⟨⟨kD0_0,kD0_1,kD0_2,kD0_3,kD0_4,kD0_5⟩,-⟩:=six_cells D0
 have kD0_l:=lies.lt D0
 go_wp2_with fail
 clear kD0_0 kD0_1 kD0_2 kD0_3 kD0_4 kD0_5 kD0_l
 rw [←hX]
 clear hX
 refine (zone.check_any a0 a1 a2 a3 a4 a5 w0 P0 HTA.out).mono ?_
 rintro e w1 ⟨hB,f,rfl,hc⟩
 replace D0:=lies.on_call D0 hB
 replace D1:=lies.on_call D1 hB
 replace D2:=lies.on_call D2 hB
 replace P0:=P0.on hB
 replace DB:=later DB hB
 clear hB
 rcases hc with ⟨hma,rfl⟩ | ⟨hma,rfl⟩
 ·have HA:=Lib.hid hma
  clear hma
  obtain ⟨⟨kD1_0,kD1_1,kD1_2,kD1_3,kD1_4⟩,-⟩:=five_cells D1
  have kD1_l:=lies.lt D1
  have hg1:w.heap.size+1+1<w1.heap.size:=lies.lt D2
  have hg0:=lies.lt D0
  go_wp2_with fail
  clear hg0 kD1_0 kD1_1 kD1_2 kD1_3 kD1_4 kD1_l
  have X:∃ x0,x0=(w1.alloc (.cells #[.int .i64 9223372036854775807,.int .i64 9223372036854775807,.int .i64 9223372036854775807,.int .i64 9223372036854775807] 25)).alloc (.cells #[.int .i64 2,.slice (some ⟨w1.heap.size,0,none⟩) 4 4] 81):=⟨_,rfl⟩
  obtain ⟨w2,hX⟩:=X
  have hA:Below w1.heap.size w1 w2:=by rw [hX];exact bound.up2 _ _ _
  have G:lies.Lies w2 w1.heap.size 25 (cellsOf line4):=by rw [hX];exact lies.on_alloc (lies.made _ _ _) _
  have DT:lies.Lies w2 (w1.heap.size+1) 81 #[.int .i64 2,.slice (some ⟨w1.heap.size,0,none⟩) 4 4]:=by rw [hX];exact lies.made_at _ _ _ _ (by simp)
  replace D0:=lies.on_call D0 hA
  replace D1:=lies.on_call D1 hA
  replace D2:=lies.on_call D2 hA
  replace P0:=P0.on hA
  replace DB:=later DB hA
  clear hA
  rw [←hX]
  clear hX
  have hT2:w.heap.size+1+1<w1.heap.size+1:=by omega
  clear hg1
  generalize w1.heap.size+1=XT at DT hT2 ⊢
  generalize w1.heap.size=XG at DT G ⊢
  refine (tight.btw_any 2 1 lo hi ls hs op _ line4 w2 (dlaw.own_ints (cap:=4) G) (by decide) line4_tops).mono ?_
  rintro e w3 ⟨hB,na,aa,la,ca,us,f,rfl,hR2,hK⟩
  have hTlt:=lies.lt DT
  replace D0:=lies.on_call D0 hB
  replace D1:=lies.on_call D1 hB
  replace D2:=lies.on_call D2 hB
  replace DT:=lies.on_call DT hB
  replace P0:=P0.on hB
  replace DB:=later DB hB
  clear hB
  have HR:=Lib.hid (line_is (s:=(lo,ls,hi,hs,op)) hR2)
  clear hR2 G
  obtain ⟨t0,t1,t2,t3,t4⟩:=lies.two DT
  have hne1:XT≠w.heap.size+1+1:=by omega
  have hne2:w.heap.size+1+1≠XT:=by omega
  have hTw:w.heap.size≤XT:=by omega
  rcases HR.out with ⟨hm,rfl⟩ | ⟨hm,hno,rfl⟩ | ⟨hm,hok,rfl,hu,rfl⟩
  ·have HM:=Lib.hid hm
   clear hm hK HR D0 D1 DT
   obtain ⟨⟨x0,x1,x2,x3,x4,x5⟩,⟨y0,y1,y2,y3,y4,y5⟩,xl⟩:=six_cells D2
   clear D2
   have ZB:=((DB.setCell (p:=⟨XT,0,none⟩) hTw (.int .i64 na)).setCell (p:=⟨XT,1,none⟩) hTw (.slice aa la ca))
   clear DB
   go_wp2_with fail
   exact bodyPost_ret (v:=.tuple #[.agg #[.int .i64 0,.int .i64 0,.int .i64 0,.int .i64 0,.int .i64 0,.int .i64 0],.int .i64 8]) (by simp [results,Tryz.results64,go_sem,x0,x1,x2,x3,x4,x5,xl]) rfl ⟨put_six ZB hR _ _ _ _ _ _,0,0,0,0,0,0,8,rfl,.inr (.inl ⟨HA.out,HM.out,rfl,rfl⟩)⟩
  ·have HM:=Lib.hid hm
   have HN:=Lib.hid hno
   clear hno
   clear hm hK HR D0 D1 DT
   obtain ⟨⟨x0,x1,x2,x3,x4,x5⟩,⟨y0,y1,y2,y3,y4,y5⟩,xl⟩:=six_cells D2
   clear D2
   have ZB:=((DB.setCell (p:=⟨XT,0,none⟩) hTw (.int .i64 na)).setCell (p:=⟨XT,1,none⟩) hTw (.slice aa la ca))
   clear DB
   go_wp2_with fail
   exact bodyPost_ret (v:=.tuple #[.agg #[.int .i64 0,.int .i64 0,.int .i64 0,.int .i64 0,.int .i64 0,.int .i64 0],.int .i64 6]) (by simp [results,Tryz.results64,go_sem,x0,x1,x2,x3,x4,x5,xl]) rfl ⟨put_six ZB hR _ _ _ _ _ _,0,0,0,0,0,0,6,rfl,.inr (.inr ⟨HA.out,HM.out,.inl ⟨fun q=>HN.out (ok_p HTA.out HA.out.may HM.out q),rfl,rfl⟩⟩)⟩
  ·have HM:=Lib.hid hm
   have HO:=Lib.hid hok
   clear hm hok HR
   obtain ⟨q,rfl,rfl,hqT,hG⟩:∃ q,aa=some ⟨q,0,none⟩∧la=4∧XT<q∧lies.Lies w3 q 25 (cellsOf [1,loS (lo,ls,hi,hs,op),hiS (lo,ls,hi,hs,op),1]):=by
    subst hu
    rcases hK with ⟨_,_,_,k⟩ | ⟨q,q1,q2,q3,q4⟩
    ·cases k
    ·exact ⟨q,q2,q3,Nat.lt_of_lt_of_le hTlt q1,q4⟩
   clear hK hu
   have ZB:=(DB.setCell (p:=⟨XT,0,none⟩) hTw (.int .i64 2)).setCell (p:=⟨XT,1,none⟩) hTw (.slice (some ⟨q,0,none⟩) 4 ca)
   have ZT:=put_two DT (.int .i64 2) (.slice (some ⟨q,0,none⟩) 4 ca)
   have ZG:=lies.on_far (lies.on_far hG (b:=XT) 0 (by omega) (.int .i64 2)) (b:=XT) 1 (by omega) (.slice (some ⟨q,0,none⟩) 4 ca)
   have Z0:=lies.on_far (lies.on_far D0 (b:=XT) 0 (by omega) (.int .i64 2)) (b:=XT) 1 (by omega) (.slice (some ⟨q,0,none⟩) 4 ca)
   have Z2:=lies.on_far (lies.on_far D2 (b:=XT) 0 (by omega) (.int .i64 2)) (b:=XT) 1 (by omega) (.slice (some ⟨q,0,none⟩) 4 ca)
   have HFD:=Lib.hid (full_d HTA.out (lo,ls,hi,hs,op))
   have HMD:=Lib.hid (diff_may HM.out)
   have HFW:=Lib.hid (And.intro HM.out HO.out)
   clear HM HO
   generalize hH:hiS (lo,ls,hi,hs,op)=H at ZG HFD ⊢
   generalize hL:loS (lo,ls,hi,hs,op)=L at ZG HFD ⊢
   have ZG:lies.Lies _ q 25 #[.int .i64 1,.int .i64 L,.int .i64 H,.int .i64 1]:=ZG
   clear hH hL
   clear hG DB DT D0 D1 D2 P0
   go_wp2_with fail
   clear t0 t1 t2 t3 t4 hne1 hne2
   generalize (w3.setCell ⟨XT,0,none⟩ (.int .i64 2)).setCell ⟨XT,1,none⟩ (.slice (some ⟨q,0,none⟩) 4 ca)=w4 at ZB ZG ZT Z0 Z2 ⊢
   have hDr:=dbm.drawn1 (Below.refl w4.heap.size w4)
   replace Z2:=lies.on_call Z2 hDr
   replace ZB:=later ZB hDr
   refine wp_region_held_drew (S:=fun W=>lies.Lies W w.heap.size 27 #[.int .i64 a0,.int .i64 a1,.int .i64 a2,.int .i64 a3,.int .i64 a4,.int .i64 a5]∧lies.Lies W XT 81 #[.int .i64 2,.slice (some ⟨q,0,none⟩) 4 ca]∧lies.Lies W q 25 #[.int .i64 1,.int .i64 L,.int .i64 H,.int .i64 1]) (by kernel_rfl) ⟨lies.on_call Z0 hDr,lies.on_call ZT hDr,lies.on_call ZG hDr⟩ (fun hHeld=>?_)
   clear hDr Z0 ZT ZG
   generalize w4.drew=wD at Z2 ZB hHeld ⊢
   refine tk 0 (v:=?_) rfl hHeld ?_ ?_
   rotate_left
   ·intro w hSw;obtain ⟨⟨e0,e1,e2,e3,e4,e5⟩,_⟩:=six_cells hSw.1;obtain ⟨d0,d1,_⟩:=lies.two hSw.2.1;obtain ⟨⟨g0,g1,g2,g3⟩,_⟩:=four_cells hSw.2.2;go_simp;try with_reducible rfl
   try simp only [Act.put,sA,sB,sC,sD,sE,sF]
   refine tk 1 (v:=?_) rfl hHeld ?_ ?_
   rotate_left
   ·intro w hSw;obtain ⟨⟨e0,e1,e2,e3,e4,e5⟩,_⟩:=six_cells hSw.1;obtain ⟨d0,d1,_⟩:=lies.two hSw.2.1;obtain ⟨⟨g0,g1,g2,g3⟩,_⟩:=four_cells hSw.2.2;go_simp;try with_reducible rfl
   try simp only [Act.put,sA,sB,sC,sD,sE,sF]
   refine tk 2 (v:=?_) rfl hHeld ?_ ?_
   rotate_left
   ·intro w hSw;obtain ⟨⟨e0,e1,e2,e3,e4,e5⟩,_⟩:=six_cells hSw.1;obtain ⟨d0,d1,_⟩:=lies.two hSw.2.1;obtain ⟨⟨g0,g1,g2,g3⟩,_⟩:=four_cells hSw.2.2;go_simp;try with_reducible rfl
   try simp only [Act.put,sA,sB,sC,sD,sE,sF]
   refine tk 3 (v:=?_) rfl hHeld ?_ ?_
   rotate_left
   ·intro w hSw;obtain ⟨⟨e0,e1,e2,e3,e4,e5⟩,_⟩:=six_cells hSw.1;obtain ⟨d0,d1,_⟩:=lies.two hSw.2.1;obtain ⟨⟨g0,g1,g2,g3⟩,_⟩:=four_cells hSw.2.2;go_simp;try with_reducible rfl
   try simp only [Act.put,sA,sB,sC,sD,sE,sF]
   refine tk 4 (v:=?_) rfl hHeld ?_ ?_
   rotate_left
   ·intro w hSw;obtain ⟨⟨e0,e1,e2,e3,e4,e5⟩,_⟩:=six_cells hSw.1;obtain ⟨d0,d1,_⟩:=lies.two hSw.2.1;obtain ⟨⟨g0,g1,g2,g3⟩,_⟩:=four_cells hSw.2.2;go_simp;try with_reducible rfl
   try simp only [Act.put,sA,sB,sC,sD,sE,sF]
   refine tk 5 (v:=?_) rfl hHeld ?_ ?_
   rotate_left
   ·intro w hSw;obtain ⟨⟨e0,e1,e2,e3,e4,e5⟩,_⟩:=six_cells hSw.1;obtain ⟨d0,d1,_⟩:=lies.two hSw.2.1;obtain ⟨⟨g0,g1,g2,g3⟩,_⟩:=four_cells hSw.2.2;go_simp;try with_reducible rfl
   try simp only [Act.put,sA,sB,sC,sD,sE,sF]
   refine tk 6 (v:=?_) rfl hHeld ?_ ?_
   rotate_left
   ·intro w hSw;obtain ⟨⟨e0,e1,e2,e3,e4,e5⟩,_⟩:=six_cells hSw.1;obtain ⟨d0,d1,_⟩:=lies.two hSw.2.1;obtain ⟨⟨g0,g1,g2,g3⟩,_⟩:=four_cells hSw.2.2;go_simp;try with_reducible rfl
   try simp only [Act.put,sA,sB,sC,sD,sE,sF]
   refine tk 7 (v:=?_) rfl hHeld ?_ ?_
   rotate_left
   ·intro w hSw;obtain ⟨⟨e0,e1,e2,e3,e4,e5⟩,_⟩:=six_cells hSw.1;obtain ⟨d0,d1,_⟩:=lies.two hSw.2.1;obtain ⟨⟨g0,g1,g2,g3⟩,_⟩:=four_cells hSw.2.2;go_simp;try with_reducible rfl
   try simp only [Act.put,sA,sB,sC,sD,sE,sF]
   refine tk 8 (v:=?_) rfl hHeld ?_ ?_
   rotate_left
   ·intro w hSw;obtain ⟨⟨e0,e1,e2,e3,e4,e5⟩,_⟩:=six_cells hSw.1;obtain ⟨d0,d1,_⟩:=lies.two hSw.2.1;obtain ⟨⟨g0,g1,g2,g3⟩,_⟩:=four_cells hSw.2.2;go_simp;try with_reducible rfl
   try simp only [Act.put,sA,sB,sC,sD,sE,sF]
   refine tk 9 (v:=?_) rfl hHeld ?_ ?_
   rotate_left
   ·intro w hSw;obtain ⟨⟨e0,e1,e2,e3,e4,e5⟩,_⟩:=six_cells hSw.1;obtain ⟨d0,d1,_⟩:=lies.two hSw.2.1;obtain ⟨⟨g0,g1,g2,g3⟩,_⟩:=four_cells hSw.2.2;go_simp;try with_reducible rfl
   try simp only [Act.put,sA,sB,sC,sD,sE,sF]
   refine tk 10 (v:=?_) rfl hHeld ?_ ?_
   rotate_left
   ·intro w hSw;obtain ⟨⟨e0,e1,e2,e3,e4,e5⟩,_⟩:=six_cells hSw.1;obtain ⟨d0,d1,_⟩:=lies.two hSw.2.1;obtain ⟨⟨g0,g1,g2,g3⟩,_⟩:=four_cells hSw.2.2;go_simp;try with_reducible rfl
   try simp only [Act.put,sA,sB,sC,sD,sE,sF]
   refine wpAnyH_ready (rs:=[11]) (by kernel_rfl) (by simp) (AllReadyH.cons rfl (fun K hK=>?_) AllReadyH.nil)
   go_simp
   have hA:=bound.up1 wD (.cells #[.int .i64 4,.int .i64 H,.int .i64 5,.int .i64 L] 127)
   have M:=lies.made wD 127 #[.int .i64 4,.int .i64 H,.int .i64 5,.int .i64 L]
   replace Z2:=lies.on_call Z2 hA
   replace ZB:=later ZB hA
   refine hK.out _ _ ⟨lies.on_call hHeld.1 hA,lies.on_call hHeld.2.1 hA,lies.on_call hHeld.2.2 hA⟩ (fun hNew=>?_)
   clear hA
   clear hHeld hK K
   have hHeld:=hNew
   clear hNew
   try simp only [Act.put,sA,sB,sC,sD,sE,sF]
   generalize wD.heap.size=XM at M ⊢
   generalize wD.alloc (.cells #[.int .i64 4,.int .i64 H,.int .i64 5,.int .i64 L] 127)=wE at M Z2 ZB hHeld ⊢
   obtain ⟨⟨m0,m1,m2,m3⟩,_⟩:=four_cells M
   refine wpAnyH_ready (rs:=[12]) (by kernel_rfl) (by simp) (AllReadyH.cons rfl (fun K hK=>?_) AllReadyH.nil)
   go_simp
   refine (with_d a0 a1 a2 a3 a4 a5 H L XM wE (HP.out.on ZB) ⟨m0,m1,m2,m3⟩ (lies.lt M) (six_tops HTA.out).1 (by rw [HFD.out];exact lesT_may HA.out.may HMD.out)).mono ?_
   rintro e wF ⟨hB,v0,v1,v2,v3,v4,v5,f,rfl,hF⟩
   replace Z2:=lies.on_call Z2 hB
   replace ZB:=later ZB hB
   have HC:RowKit.Hid (CutR [a0,a1,a2,a3,a4,a5] (diffZ (lo,ls,hi,hs,op)) [v0,v1,v2,v3,v4,v5] f):=Lib.hid (by rw [HFD.out] at hF;exact cut_of HA.out.may HMD.out hF)
   refine hK.out _ _ ⟨lies.on_call hHeld.1 hB,lies.on_call hHeld.2.1 hB,lies.on_call hHeld.2.2 hB⟩ (fun hNew=>?_)
   clear hB hF m0 m1 m2 m3 M
   clear hHeld hK K
   have hHeld:=hNew
   clear hNew
   try simp only [Act.put,sA,sB,sC,sD,sE,sF]
   refine tk 13 (v:=?_) rfl hHeld ?_ ?_
   rotate_left
   ·intro w hSw;skip;go_simp;try with_reducible rfl
   try simp only [Act.put,sA,sB,sC,sD,sE,sF]
   refine tk 14 (v:=?_) rfl hHeld ?_ ?_
   rotate_left
   ·intro w hSw;skip;go_simp;try with_reducible rfl
   try simp only [Act.put,sA,sB,sC,sD,sE,sF]
   obtain ⟨⟨x0,x1,x2,x3,x4,x5⟩,⟨y0,y1,y2,y3,y4,y5⟩,xl⟩:=six_cells Z2
   refine wpAnyH_ready (rs:=[15]) (by kernel_rfl) (by simp) (AllReadyH.cons rfl (fun K hK=>?_) AllReadyH.nil)
   go_simp
   replace ZB:=put_six ZB hR (.int .i64 v0) (.int .i64 v1) (.int .i64 v2) (.int .i64 v3) (.int .i64 v4) (.int .i64 v5)
   replace Z2:=zref.put_sixL Z2 (.int .i64 v0) (.int .i64 v1) (.int .i64 v2) (.int .i64 v3) (.int .i64 v4) (.int .i64 v5)
   refine hK.out _ _ ⟨far_six hHeld.1 (by omega) _ _ _ _ _ _,far_six hHeld.2.1 (by omega) _ _ _ _ _ _,far_six hHeld.2.2 (by omega) _ _ _ _ _ _⟩ (fun hNew=>?_)
   clear x0 x1 x2 x3 x4 x5 y0 y1 y2 y3 y4 y5 xl
   clear hHeld hK K
   have hHeld:=hNew
   clear hNew
   try simp only [Act.put,sA,sB,sC,sD,sE,sF]
   generalize World.setCell (World.setCell (World.setCell (World.setCell (World.setCell (World.setCell (wF) ⟨w.heap.size+1+1,0,none⟩ (.int .i64 v0)) ⟨w.heap.size+1+1,1,none⟩ (.int .i64 v1)) ⟨w.heap.size+1+1,2,none⟩ (.int .i64 v2)) ⟨w.heap.size+1+1,3,none⟩ (.int .i64 v3)) ⟨w.heap.size+1+1,4,none⟩ (.int .i64 v4)) ⟨w.heap.size+1+1,5,none⟩ (.int .i64 v5)=wG at Z2 ZB hHeld ⊢
   refine tk 16 (v:=?_) rfl hHeld ?_ ?_
   rotate_left
   ·intro w hSw;skip;go_simp;try with_reducible rfl
   try simp only [Act.put,sA,sB,sC,sD,sE,sF]
   refine wpAnyH_done (by kernel_rfl) ?_ _
   clear hHeld
   obtain ⟨⟨x0,x1,x2,x3,x4,x5⟩,⟨y0,y1,y2,y3,y4,y5⟩,xl⟩:=six_cells Z2
   clear Z2
   go_wp2_with fail
   exact bodyPost_ret (v:=.tuple #[.agg #[.int .i64 v0,.int .i64 v1,.int .i64 v2,.int .i64 v3,.int .i64 v4,.int .i64 v5],.int .i64 f]) (by simp [results,Tryz.results64,go_sem,x0,x1,x2,x3,x4,x5,xl]) rfl ⟨ZB,v0,v1,v2,v3,v4,v5,f,rfl,.inr (.inr ⟨HA.out,HFW.out.1,HC.out⟩)⟩
 ·have HA:=Lib.hid hma
  clear hma
  clear D0 D1
  obtain ⟨⟨x0,x1,x2,x3,x4,x5⟩,⟨y0,y1,y2,y3,y4,y5⟩,xl⟩:=six_cells D2
  clear D2
  go_wp2_with fail
  exact bodyPost_ret (v:=.tuple #[.agg #[.int .i64 0,.int .i64 0,.int .i64 0,.int .i64 0,.int .i64 0,.int .i64 0],.int .i64 8]) (by simp [results,Tryz.results64,go_sem,x0,x1,x2,x3,x4,x5,xl]) rfl ⟨put_six DB hR _ _ _ _ _ _,0,0,0,0,0,0,8,rfl,.inl ⟨HA.out,rfl,rfl⟩⟩
set_option maxRecDepth 100000 in
set_option maxHeartbeats 8000000 in
theorem window_any (a0 a1 a2 a3 a4 a5 fr tt:Int) (w:World) (hP:Pl w) (ta:Tops [a0,a1,a2,a3,a4,a5]):Calls Tryz.prog 68 #[.agg #[.int .i64 a0,.int .i64 a1,.int .i64 a2,.int .i64 a3,.int .i64 a4,.int .i64 a5],.int .i64 fr,.int .i64 tt] w (Zs (WindowR [a0,a1,a2,a3,a4,a5] fr tt) w):=by
 have X:∃ w0,w0=(w.alloc (.cells #[.int .i64 a0,.int .i64 a1,.int .i64 a2,.int .i64 a3,.int .i64 a4,.int .i64 a5] 27)).alloc (.cells #[.int .i64 0,.int .i64 0,.int .i64 0,.int .i64 0,.int .i64 0,.int .i64 0] 27):=⟨_,rfl⟩
 obtain ⟨w0,hX⟩:=X
 have DB:Below w.heap.size w w0:=by rw [hX];exact bound.up2 _ _ _
 have D0:lies.Lies w0 w.heap.size 27 #[.int .i64 a0,.int .i64 a1,.int .i64 a2,.int .i64 a3,.int .i64 a4,.int .i64 a5]:=by rw [hX];exact lies.on_alloc (lies.made _ _ _) _
 have D2:lies.Lies w0 (w.heap.size+1) 27 #[.int .i64 0,.int .i64 0,.int .i64 0,.int .i64 0,.int .i64 0,.int .i64 0]:=by rw [hX];exact lies.made_at _ _ _ _ (by simp)
 have hR:w.heap.size≤w.heap.size+1:=by omega
 have P0:=hP.on DB
 have HP:=Lib.hid hP
 have HTA:=Lib.hid ta
 clear hP ta
 go_enter Tryz.func68,Tryz.ntmps68
 obtain ⟨⟨kD0_0,kD0_1,kD0_2,kD0_3,kD0_4,kD0_5⟩,-⟩:=six_cells D0
 have kD0_l:=lies.lt D0
 go_wp2_with fail
 clear kD0_0 kD0_1 kD0_2 kD0_3 kD0_4 kD0_5 kD0_l
 rw [←hX]
 clear hX
 refine (zone.check_any a0 a1 a2 a3 a4 a5 w0 P0 HTA.out).mono ?_
 rintro e w1 ⟨hB,f,rfl,hc⟩
 replace D0:=lies.on_call D0 hB
 replace D2:=lies.on_call D2 hB
 replace P0:=P0.on hB
 replace DB:=later DB hB
 clear hB
 rcases hc with ⟨hma,rfl⟩ | ⟨hma,rfl⟩
 ·have HA:=Lib.hid hma
  clear hma
  go_wp2_with fail
  by_cases hfr:In fr
  ·have HIfr:=Lib.hid hfr
   refine (beyond_no fr _ hfr).mono ?_
   rintro e wN ⟨rfl,hw⟩
   subst hw
   clear hfr
   go_wp2_with fail
   by_cases htt:In tt
   ·have HItt:=Lib.hid htt
    refine (beyond_no tt _ htt).mono ?_
    rintro e wN ⟨rfl,hw⟩
    subst hw
    clear htt
    by_cases hlt:fr<tt
    ·have HLT:=Lib.hid hlt
     have hnb:¬ tt≤fr:=by omega
     have HMF:=Lib.hid (show num.May (-fr) from by have:=HIfr.out;unfold In at this;unfold May;omega)
     have HMT:=Lib.hid (show num.May tt from by have:=HItt.out;unfold In at this;unfold May;omega)
     have q1:wrap64 (-fr)=-fr:=by have:=HIfr.out;unfold In at this;exact IntWalk.wrap64_in _ ⟨by omega,by omega⟩
     have q2:IntKind.i64.wrap (-fr)=-fr:=(IntWalk.i64_left _).trans q1
     clear hlt
     go_wp2_with fail
     refine (bound.most_ok tt w1 HMT.out).mono ?_
     rintro e w2 ⟨rfl,hB⟩
     replace D0:=lies.on_call D0 hB
     replace D2:=lies.on_call D2 hB
     replace P0:=P0.on hB
     replace DB:=later DB hB
     clear hB
     go_wp2_with fail
     refine (bound.less_ok (-fr) w2 HMF.out).mono ?_
     rintro e w3 ⟨rfl,hB⟩
     replace D0:=lies.on_call D0 hB
     replace D2:=lies.on_call D2 hB
     replace P0:=P0.on hB
     replace DB:=later DB hB
     clear hB
     clear hnb q1 q2
     have HMP:=Lib.hid (win_may HIfr.out HItt.out (Int.le_of_lt HLT.out))
     have HFU:=Lib.hid (full_u HTA.out (winS fr tt))
     have HMD:=Lib.hid (late_may HMP.out)
     have eH:hiS (winS fr tt)=bound.mk tt false:=rfl
     have eL:loS (winS fr tt)=bound.mk (-fr) true:=rfl
     rw [eH,eL] at HFU
     clear eH eL
     generalize bound.mk tt false=H at HFU ⊢
     generalize bound.mk (-fr) true=L at HFU ⊢
     obtain ⟨⟨kD0_0,kD0_1,kD0_2,kD0_3,kD0_4,kD0_5⟩,-⟩:=six_cells D0
     have kD0_l:=lies.lt D0
     go_wp2_with fail
     clear kD0_0 kD0_1 kD0_2 kD0_3 kD0_4 kD0_5 kD0_l
     have hA:=bound.up1 w3 (.cells #[.int .i64 2,.int .i64 H,.int .i64 3,.int .i64 L] 127)
     have M:=lies.made w3 127 #[.int .i64 2,.int .i64 H,.int .i64 3,.int .i64 L]
     replace D0:=lies.on_call D0 hA
     replace D2:=lies.on_call D2 hA
     replace P0:=P0.on hA
     replace DB:=later DB hA
     clear hA
     generalize w3.heap.size=XM at M ⊢
     generalize w3.alloc (.cells #[.int .i64 2,.int .i64 H,.int .i64 3,.int .i64 L] 127)=w4 at D0 D2 P0 DB M ⊢
     obtain ⟨⟨m0,m1,m2,m3⟩,_⟩:=four_cells M
     refine (with_u a0 a1 a2 a3 a4 a5 H L XM w4 P0 ⟨m0,m1,m2,m3⟩ (lies.lt M) (six_tops HTA.out).2 (by rw [HFU.out];exact lesT_may HA.out.may HMD.out)).mono ?_
     rintro e w5 ⟨hB,v0,v1,v2,v3,v4,v5,f,rfl,hF⟩
     have HC:RowKit.Hid (CutR [a0,a1,a2,a3,a4,a5] (lateZ (winS fr tt)) [v0,v1,v2,v3,v4,v5] f):=Lib.hid (by rw [HFU.out] at hF;exact cut_of HA.out.may HMD.out hF)
     clear m0 m1 m2 m3 M hF
     replace D0:=lies.on_call D0 hB
     replace D2:=lies.on_call D2 hB
     replace P0:=P0.on hB
     replace DB:=later DB hB
     clear hB
     clear D0
     obtain ⟨⟨x0,x1,x2,x3,x4,x5⟩,⟨y0,y1,y2,y3,y4,y5⟩,xl⟩:=six_cells D2
     clear D2
     go_wp2_with fail
     exact bodyPost_ret (v:=.tuple #[.agg #[.int .i64 v0,.int .i64 v1,.int .i64 v2,.int .i64 v3,.int .i64 v4,.int .i64 v5],.int .i64 f]) (by simp [results,Tryz.results68,go_sem,x0,x1,x2,x3,x4,x5,xl]) rfl ⟨put_six DB hR _ _ _ _ _ _,v0,v1,v2,v3,v4,v5,f,rfl,.inr (.inr ⟨HA.out,⟨HIfr.out,HItt.out,HLT.out⟩,HC.out⟩)⟩
    ·have HN:=Lib.hid hlt
     have hnb:tt≤fr:=by omega
     clear hlt
     clear D0
     obtain ⟨⟨x0,x1,x2,x3,x4,x5⟩,⟨y0,y1,y2,y3,y4,y5⟩,xl⟩:=six_cells D2
     clear D2
     go_wp2_with fail
     exact bodyPost_ret (v:=.tuple #[.agg #[.int .i64 0,.int .i64 0,.int .i64 0,.int .i64 0,.int .i64 0,.int .i64 0],.int .i64 2]) (by simp [results,Tryz.results68,go_sem,x0,x1,x2,x3,x4,x5,xl]) rfl ⟨put_six DB hR _ _ _ _ _ _,0,0,0,0,0,0,2,rfl,.inr (.inl ⟨HA.out,fun q=>absurd q.2.2 (Int.not_lt.2 HN.out),rfl,rfl⟩)⟩
   ·have HN:=Lib.hid htt
    refine (beyond_yes tt _ htt).mono ?_
    rintro e wN ⟨rfl,hw⟩
    subst hw
    clear htt
    clear D0
    obtain ⟨⟨x0,x1,x2,x3,x4,x5⟩,⟨y0,y1,y2,y3,y4,y5⟩,xl⟩:=six_cells D2
    clear D2
    go_wp2_with fail
    exact bodyPost_ret (v:=.tuple #[.agg #[.int .i64 0,.int .i64 0,.int .i64 0,.int .i64 0,.int .i64 0,.int .i64 0],.int .i64 2]) (by simp [results,Tryz.results68,go_sem,x0,x1,x2,x3,x4,x5,xl]) rfl ⟨put_six DB hR _ _ _ _ _ _,0,0,0,0,0,0,2,rfl,.inr (.inl ⟨HA.out,fun q=>HN.out q.2.1,rfl,rfl⟩)⟩
  ·have HN:=Lib.hid hfr
   refine (beyond_yes fr _ hfr).mono ?_
   rintro e wN ⟨rfl,hw⟩
   subst hw
   clear hfr
   clear D0
   obtain ⟨⟨x0,x1,x2,x3,x4,x5⟩,⟨y0,y1,y2,y3,y4,y5⟩,xl⟩:=six_cells D2
   clear D2
   go_wp2_with fail
   exact bodyPost_ret (v:=.tuple #[.agg #[.int .i64 0,.int .i64 0,.int .i64 0,.int .i64 0,.int .i64 0,.int .i64 0],.int .i64 2]) (by simp [results,Tryz.results68,go_sem,x0,x1,x2,x3,x4,x5,xl]) rfl ⟨put_six DB hR _ _ _ _ _ _,0,0,0,0,0,0,2,rfl,.inr (.inl ⟨HA.out,fun q=>HN.out q.1,rfl,rfl⟩)⟩
 ·have HA:=Lib.hid hma
  clear hma
  clear D0
  obtain ⟨⟨x0,x1,x2,x3,x4,x5⟩,⟨y0,y1,y2,y3,y4,y5⟩,xl⟩:=six_cells D2
  clear D2
  go_wp2_with fail
  exact bodyPost_ret (v:=.tuple #[.agg #[.int .i64 0,.int .i64 0,.int .i64 0,.int .i64 0,.int .i64 0,.int .i64 0],.int .i64 8]) (by simp [results,Tryz.results68,go_sem,x0,x1,x2,x3,x4,x5,xl]) rfl ⟨put_six DB hR _ _ _ _ _ _,0,0,0,0,0,0,8,rfl,.inl ⟨HA.out,rfl,rfl⟩⟩
end Go.Proofs.YthmljpccbjolgaaGreatDoor.win
namespace Go.Proofs.YthmljpccbjolgaaGreatDoor.win
open Go.Joins Go.ChangeShapes Go.WideShapes Go.ChangeAt Go.RowKit num rat dbm Go.Proofs.YthmljpccbjolgaaGreatDoor.tight Go.Proofs.YthmljpccbjolgaaGreatDoor.plaw Go.Proofs.YthmljpccbjolgaaGreatDoor.zopen Go.Proofs.YthmljpccbjolgaaGreatDoor.zone
open bound hiding up
open Go.Proofs.YthmljpccbjolgaaGreatDoor.comp (five_cells put_five six_fine)
set_option linter.unusedVariables false
set_option linter.unusedSimpArgs false
end Go.Proofs.YthmljpccbjolgaaGreatDoor.win
