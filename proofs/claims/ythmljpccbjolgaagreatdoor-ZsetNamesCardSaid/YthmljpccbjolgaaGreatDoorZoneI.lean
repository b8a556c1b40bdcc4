
/-
  What Make of package zone answers, and what the laws of layer 8 share; each theorem names its conditions.
-/
import Derived.Test.YthmljpccbjolgaaGreatDoorZoneF
import Derived.Test.YthmljpccbjolgaaGreatDoorZoneA
import Derived.Test.YthmljpccbjolgaaGreatDoorRatC
namespace Go.Proofs.YthmljpccbjolgaaGreatDoor.zone
open Go.Joins Go.ChangeShapes Go.WideShapes Go.ChangeAt Go.RowKit num rat dbm Go.Proofs.YthmljpccbjolgaaGreatDoor.tight Go.Proofs.YthmljpccbjolgaaGreatDoor.incl Go.Proofs.YthmljpccbjolgaaGreatDoor.plaw Go.Proofs.YthmljpccbjolgaaGreatDoor.zopen
open bound hiding up
set_option linter.unusedVariables false
set_option linter.unusedSimpArgs false
theorem top2_is (w:World):Calls Tryz.prog 93 #[.int .i64 2] w fun e w'=>Below w.heap.size w w'∧∃ g,w.heap.size≤g∧e=.returned (.tuple #[.agg #[.int .i64 2,.slice (some ⟨g,0,none⟩) 4 4],.int .i64 0])∧lies.Lies w' g 25 (cellsOf lineT):=by
 refine (top_ok 2 w (by decide) (by decide)).mono fun e w' h=>?_
 obtain ⟨hB,g,hg,he,hL⟩:=h
 have e1:topT 2 (by decide)=lineT:=by decide+kernel
 rw [e1] at hL
 exact ⟨hB,g,hg,he,hL⟩
def OkP (s:Sp):Prop:=OkD 2 (twoT (hiS s) (loS s))
def EndR (s:Sp) (hi lo f:Int):Prop:=(¬ MayP s∧hi=0∧lo=0∧f=8)∨(MayP s∧¬ OkP s∧hi=0∧lo=0∧f=6)∨(MayP s∧OkP s∧hi=hiS s∧lo=loS s∧f=0)
def Ends (s:Sp) (w:World) (e:Ending) (w':World):Prop:=Below w.heap.size w w'∧∃ hi lo f:Int,e=.returned (.tuple #[.int .i64 hi,.int .i64 lo,.int .i64 f])∧EndR s hi lo f
theorem line_tops:Tops lineT:=two_tops (a:=9223372036854775807) (b:=9223372036854775807) (.inl rfl) (.inl rfl)
theorem end_cases {s:Sp} {na:Int} {us:List Int} {f:Int} (h:Res 2 (btwQ 2 lineT 1 s.1 s.2.1 s.2.2.1 s.2.2.2.1 s.2.2.2.2) (btwE 2 lineT 1) na us f):
  (¬ MayP s∧f=8)∨(MayP s∧¬ OkP s∧f=6)∨(MayP s∧OkP s∧na=2∧us=[1,loS s,hiS s,1]∧f=0):=by
 by_cases hm:MayP s
 ·rw [btw_line hm] at h
  rcases h with ⟨h,_⟩ | ⟨ts,h,k⟩
  ·cases h
  ·injection h with h
   rw [←h] at k
   rcases ans_two k (two_may (hi_fine hm) (lo_fine hm)) with ⟨k,_,_,e3⟩ | ⟨k,e1,e2,e3,_,e4⟩
   ·exact .inr (.inl ⟨hm,k,e3⟩)
   ·refine .inr (.inr ⟨hm,k,e1,?_,e4⟩)
    rw [e2.out,two_cl hm k]
    rfl
 ·rw [btw_not hm] at h
  rcases h with ⟨_,_,_,e⟩ | ⟨ts,h,_⟩
  ·refine .inl ⟨hm,?_⟩
   rw [e]
   unfold btwE
   rw [if_neg (fun k=>k.2 ⟨by decide,by decide⟩)]
  ·cases h
set_option maxRecDepth 100000 in
set_option maxHeartbeats 4000000 in
theorem ends_any (lo:Int) (ls:Bool) (hi:Int) (hs op:Bool) (w:World):Calls Tryz.prog 52 #[.agg #[.int .i64 lo,.bool ls,.int .i64 hi,.bool hs,.bool op]] w (Ends (lo,ls,hi,hs,op) w):=by
 have DB:=bound.up1 w (.cells #[.int .i64 lo,.bool ls,.int .i64 hi,.bool hs,.bool op] 35)
 have D0:=lies.made w 35 #[.int .i64 lo,.bool ls,.int .i64 hi,.bool hs,.bool op]
 go_enter Tryz.func52,Tryz.ntmps52
 go_wp2_with fail
 generalize w.alloc (.cells #[.int .i64 lo,.bool ls,.int .i64 hi,.bool hs,.bool op] 35)=w0 at DB D0 ⊢
 refine (top2_is _).mono ?_
 rintro e w1 ⟨hB,g,hg,rfl,hG⟩
 have EB:=later DB hB
 have E0:=lies.on_call D0 hB
 clear hB DB D0
 have hl:=lies.lt E0
 obtain ⟨d0,d1,d2,d3,d4,d5⟩:=five E0
 go_wp2_with fail
 clear d0 d1 d2 d3 d4 d5
 have hT:=lies.made w1 81 #[.int .i64 2,.slice (some ⟨g,0,none⟩) 4 4]
 have G1:=lies.on_alloc hG (.cells #[.int .i64 2,.slice (some ⟨g,0,none⟩) 4 4] 81)
 have FB:=lies.frame_up EB (.cells #[.int .i64 2,.slice (some ⟨g,0,none⟩) 4 4] 81)
 have hTw:w.heap.size≤w1.heap.size:=EB.size
 clear EB E0 hG hl hg
 generalize w1.heap.size=T at hT hTw ⊢
 generalize w1.alloc (.cells #[.int .i64 2,.slice (some ⟨g,0,none⟩) 4 4] 81)=w2 at hT G1 FB ⊢
 refine (tight.btw_any 2 1 lo hi ls hs op _ lineT w2 (dlaw.own_ints (cap:=4) G1) (by decide) line_tops).mono ?_
 rintro e w3 ⟨hB,na,aa,la,ca,us,f,rfl,hR,hK⟩
 have HR:=Lib.hid (end_cases (s:=(lo,ls,hi,hs,op)) hR)
 have KB:=later FB hB
 have KT:=lies.on_call hT hB
 have htl:=lies.lt hT
 clear hR hB FB hT G1
 obtain ⟨x0,x1,x2,x3,x4⟩:=lies.two KT
 rcases HR.out with ⟨hm,rfl⟩ | ⟨hm,hno,rfl⟩ | ⟨hm,hok,rfl,hu,rfl⟩
 ·have HM:=Lib.hid hm
  clear hm hK
  have ZB:=(KB.setCell (p:=⟨T,0,none⟩) hTw (.int .i64 na)).setCell (p:=⟨T,1,none⟩) hTw (.slice aa la ca)
  go_wp2_with fail
  exact bodyPost_ret (v:=.tuple #[.int .i64 0,.int .i64 0,.int .i64 8]) (by simp [results,Tryz.results52,go_sem]) rfl ⟨ZB,0,0,8,rfl,.inl ⟨HM.out,rfl,rfl,rfl⟩⟩
 ·have HM:=Lib.hid hm
  have HN:=Lib.hid hno
  clear hm hno hK
  have ZB:=(KB.setCell (p:=⟨T,0,none⟩) hTw (.int .i64 na)).setCell (p:=⟨T,1,none⟩) hTw (.slice aa la ca)
  go_wp2_with fail
  exact bodyPost_ret (v:=.tuple #[.int .i64 0,.int .i64 0,.int .i64 6]) (by simp [results,Tryz.results52,go_sem]) rfl ⟨ZB,0,0,6,rfl,.inr (.inl ⟨HM.out,HN.out,rfl,rfl,rfl⟩)⟩
 ·have HM:=Lib.hid hm
  have HO:=Lib.hid hok
  clear hm hok
  obtain ⟨q,rfl,rfl,hqT,hG⟩:∃ q,aa=some ⟨q,0,none⟩∧la=4∧T<q∧lies.Lies w3 q 25 (cellsOf [1,loS (lo,ls,hi,hs,op),hiS (lo,ls,hi,hs,op),1]):=by
   subst hu
   rcases hK with ⟨_,_,_,k⟩ | ⟨q,q1,q2,q3,q4⟩
   ·cases k
   ·exact ⟨q,q2,q3,Nat.lt_of_lt_of_le htl q1,q4⟩
  clear hK hu
  have ZB:=(KB.setCell (p:=⟨T,0,none⟩) hTw (.int .i64 2)).setCell (p:=⟨T,1,none⟩) hTw (.slice (some ⟨q,0,none⟩) 4 ca)
  have ZT:=put_two KT (.int .i64 2) (.slice (some ⟨q,0,none⟩) 4 ca)
  have ZG:=lies.on_far (lies.on_far hG (b:=T) 0 (by omega) (.int .i64 2)) (b:=T) 1 (by omega) (.slice (some ⟨q,0,none⟩) 4 ca)
  generalize hL:loS (lo,ls,hi,hs,op)=L at ZG ⊢
  generalize hH:hiS (lo,ls,hi,hs,op)=H at ZG ⊢
  have HL:=Lib.hid hL
  have HH:=Lib.hid hH
  have g1:=lies.cell ZG 1
  have g2:=lies.cell ZG 2
  have gl:=lies.lt ZG
  have t1:=lies.cell ZT 1
  have tl:=lies.lt ZT
  clear hG KB KT ZG ZT hL hH
  go_wp2_with fail
  clear x0 x1 x2 x3 x4
  generalize (w3.setCell ⟨T,0,none⟩ (.int .i64 2)).setCell ⟨T,1,none⟩ (.slice (some ⟨q,0,none⟩) 4 ca)=w4 at ZB g1 g2 gl t1 tl ⊢
  have g1:w4.cell? ⟨q,1,none⟩=some (.int .i64 L):=g1
  have g2:w4.cell? ⟨q,2,none⟩=some (.int .i64 H):=g2
  have t1:w4.cell? ⟨T,1,none⟩=some (.slice (some ⟨q,0,none⟩) 4 ca):=t1
  refine wp_region_held_drew (S:=Below w4.heap.size w4) (by kernel_rfl) (dbm.drawn1 (Below.refl _ _)) (fun hHeld=>?_)
  refine tk 0 (v:=?_) rfl hHeld ?_ ?_
  rotate_left
  ·intro w hSw;have s0:=(hSw.cell (p:=⟨q,1,none⟩) gl).trans g1;have s1:=(hSw.cell (p:=⟨q,2,none⟩) gl).trans g2;have s2:=(hSw.cell (p:=⟨T,1,none⟩) tl).trans t1;go_simp;try with_reducible rfl
  try simp only [Act.put,sA,sB,sC,sD,sE,sF]
  refine tk 1 (v:=?_) rfl hHeld ?_ ?_
  rotate_left
  ·intro w hSw;have s0:=(hSw.cell (p:=⟨q,1,none⟩) gl).trans g1;have s1:=(hSw.cell (p:=⟨q,2,none⟩) gl).trans g2;have s2:=(hSw.cell (p:=⟨T,1,none⟩) tl).trans t1;go_simp;try with_reducible rfl
  try simp only [Act.put,sA,sB,sC,sD,sE,sF]
  refine tk 2 (v:=?_) rfl hHeld ?_ ?_
  rotate_left
  ·intro w hSw;have s0:=(hSw.cell (p:=⟨q,1,none⟩) gl).trans g1;have s1:=(hSw.cell (p:=⟨q,2,none⟩) gl).trans g2;have s2:=(hSw.cell (p:=⟨T,1,none⟩) tl).trans t1;go_simp;try with_reducible rfl
  try simp only [Act.put,sA,sB,sC,sD,sE,sF]
  refine tk 3 (v:=?_) rfl hHeld ?_ ?_
  rotate_left
  ·intro w hSw;have s0:=(hSw.cell (p:=⟨q,1,none⟩) gl).trans g1;have s1:=(hSw.cell (p:=⟨q,2,none⟩) gl).trans g2;have s2:=(hSw.cell (p:=⟨T,1,none⟩) tl).trans t1;go_simp;try with_reducible rfl
  try simp only [Act.put,sA,sB,sC,sD,sE,sF]
  refine tk 4 (v:=?_) rfl hHeld ?_ ?_
  rotate_left
  ·intro w hSw;have s0:=(hSw.cell (p:=⟨q,1,none⟩) gl).trans g1;have s1:=(hSw.cell (p:=⟨q,2,none⟩) gl).trans g2;have s2:=(hSw.cell (p:=⟨T,1,none⟩) tl).trans t1;go_simp;try with_reducible rfl
  try simp only [Act.put,sA,sB,sC,sD,sE,sF]
  refine tk 5 (v:=?_) rfl hHeld ?_ ?_
  rotate_left
  ·intro w hSw;have s0:=(hSw.cell (p:=⟨q,1,none⟩) gl).trans g1;have s1:=(hSw.cell (p:=⟨q,2,none⟩) gl).trans g2;have s2:=(hSw.cell (p:=⟨T,1,none⟩) tl).trans t1;go_simp;try with_reducible rfl
  try simp only [Act.put,sA,sB,sC,sD,sE,sF]
  refine tk 6 (v:=?_) rfl hHeld ?_ ?_
  rotate_left
  ·intro w hSw;have s0:=(hSw.cell (p:=⟨q,1,none⟩) gl).trans g1;have s1:=(hSw.cell (p:=⟨q,2,none⟩) gl).trans g2;have s2:=(hSw.cell (p:=⟨T,1,none⟩) tl).trans t1;go_simp;try with_reducible rfl
  try simp only [Act.put,sA,sB,sC,sD,sE,sF]
  refine tk 7 (v:=?_) rfl hHeld ?_ ?_
  rotate_left
  ·intro w hSw;have s0:=(hSw.cell (p:=⟨q,1,none⟩) gl).trans g1;have s1:=(hSw.cell (p:=⟨q,2,none⟩) gl).trans g2;have s2:=(hSw.cell (p:=⟨T,1,none⟩) tl).trans t1;go_simp;try with_reducible rfl
  try simp only [Act.put,sA,sB,sC,sD,sE,sF]
  refine tk 8 (v:=?_) rfl hHeld ?_ ?_
  rotate_left
  ·intro w hSw;have s0:=(hSw.cell (p:=⟨q,1,none⟩) gl).trans g1;have s1:=(hSw.cell (p:=⟨q,2,none⟩) gl).trans g2;have s2:=(hSw.cell (p:=⟨T,1,none⟩) tl).trans t1;go_simp;try with_reducible rfl
  try simp only [Act.put,sA,sB,sC,sD,sE,sF]
  refine tk 9 (v:=?_) rfl hHeld ?_ ?_
  rotate_left
  ·intro w hSw;have s0:=(hSw.cell (p:=⟨q,1,none⟩) gl).trans g1;have s1:=(hSw.cell (p:=⟨q,2,none⟩) gl).trans g2;have s2:=(hSw.cell (p:=⟨T,1,none⟩) tl).trans t1;go_simp;try with_reducible rfl
  try simp only [Act.put,sA,sB,sC,sD,sE,sF]
  refine tk 10 (v:=?_) rfl hHeld ?_ ?_
  rotate_left
  ·intro w hSw;have s0:=(hSw.cell (p:=⟨q,1,none⟩) gl).trans g1;have s1:=(hSw.cell (p:=⟨q,2,none⟩) gl).trans g2;have s2:=(hSw.cell (p:=⟨T,1,none⟩) tl).trans t1;go_simp;try with_reducible rfl
  try simp only [Act.put,sA,sB,sC,sD,sE,sF]
  refine wpAnyH_done (by kernel_rfl) ?_ _
  have KZ:=later ZB hHeld
  clear hHeld ZB g1 g2 gl t1 tl
  go_wp2_with fail
  exact bodyPost_ret (v:=.tuple #[.int .i64 H,.int .i64 L,.int .i64 0]) (by simp [results,Tryz.results52,go_sem]) rfl ⟨KZ,H,L,0,rfl,.inr (.inr ⟨HM.out,HO.out,HH.out.symm,HL.out.symm,rfl⟩)⟩
/-! Make -/
def sf3 (s t d:Sp) (k:Nat):Sp:=if k=0 then s else if k=1 then t else d
def MakeR (s t d:Sp) (z:List Int) (f:Int):Prop:=(¬ (MayP s∧MayP t∧MayP d)∧z=zero6∧f=8)∨(MayP s∧MayP t∧MayP d∧¬ OkD 3 (fullT (spanZ s t d))∧z=zero6∧f=6)∨(MayP s∧MayP t∧MayP d∧OkD 3 (fullT (spanZ s t d))∧¬ MayD 3 (clT 3 (fullT (spanZ s t d)))∧z=zero6∧f=8)∨
 (MayP s∧MayP t∧MayP d∧OkD 3 (fullT (spanZ s t d))∧MayD 3 (clT 3 (fullT (spanZ s t d)))∧z=shortT (clT 3 (fullT (spanZ s t d)))∧f=0)
def Makes (s t d:Sp) (w:World) (e:Ending) (w':World):Prop:=Below w.heap.size w w'∧∃ z0 z1 z2 z3 z4 z5 f,e=.returned (.tuple #[.agg #[.int .i64 z0,.int .i64 z1,.int .i64 z2,.int .i64 z3,.int .i64 z4,.int .i64 z5],.int .i64 f])∧MakeR s t d [z0,z1,z2,z3,z4,z5] f
theorem of_spans {s t d:Sp} {z:List Int} {f:Int} (h:MayP s) (k:MayP t) (l:MayP d) (ho:OfR 3 (fullT (spanZ s t d)) z f):MakeR s t d z f:=by
 have hm:=span_may h k l
 generalize hL:fullT (spanZ s t d)=L at ho hm
 unfold MakeR
 rw [hL]
 rcases ho with q | q | q | q | q
 ·exact (q.1 hm).elim
 ·exact (q.2.1 rfl).elim
 ·exact .inr (.inl ⟨h,k,l,q.2.2.1,q.2.2.2⟩)
 ·exact .inr (.inr (.inl ⟨h,k,l,q.2.1,q.2.2.1,q.2.2.2⟩))
 ·exact .inr (.inr (.inr ⟨h,k,l,q.2.1,q.2.2.1,q.2.2.2⟩))
def mkZ (sf:Nat→Sp):Nat→List Int
 | 0=>[0,0,0,0,0,0]
 | k+1=>((mkZ sf k).set (2*k) (hiS (sf k))).set (2*k+1) (loS (sf k))
theorem index_span (lo0:Int) (ls0:Bool) (hi0:Int) (hs0 op0:Bool) (lo1:Int) (ls1:Bool) (hi1:Int) (hs1 op1:Bool) (lo2:Int) (ls2:Bool) (hi2:Int) (hs2 op2:Bool) (k:Nat) (hk:k<3) (W:World):
  (Instr.index 76 (.agg #[.int .i64 lo0,.bool ls0,.int .i64 hi0,.bool hs0,.bool op0,.int .i64 lo1,.bool ls1,.int .i64 hi1,.bool hs1,.bool op1,.int .i64 lo2,.bool ls2,.int .i64 hi2,.bool hs2,.bool op2]) (.int .i64 k)).run Tryz.prog W=
   .ok (.agg #[.int .i64 (sf3 (lo0,ls0,hi0,hs0,op0) (lo1,ls1,hi1,hs1,op1) (lo2,ls2,hi2,hs2,op2) k).1,.bool (sf3 (lo0,ls0,hi0,hs0,op0) (lo1,ls1,hi1,hs1,op1) (lo2,ls2,hi2,hs2,op2) k).2.1,.int .i64 (sf3 (lo0,ls0,hi0,hs0,op0) (lo1,ls1,hi1,hs1,op1) (lo2,ls2,hi2,hs2,op2) k).2.2.1,.bool (sf3 (lo0,ls0,hi0,hs0,op0) (lo1,ls1,hi1,hs1,op1) (lo2,ls2,hi2,hs2,op2) k).2.2.2.1,.bool (sf3 (lo0,ls0,hi0,hs0,op0) (lo1,ls1,hi1,hs1,op1) (lo2,ls2,hi2,hs2,op2) k).2.2.2.2]) W:=by
 rcases (by omega:k=0∨k=1∨k=2) with rfl | rfl | rfl<;>kernel_rfl
def Kx (Z:Nat) (vs:List Int) (w W:World):Prop:=lies.Lies W (w.heap.size+1+1+1) 27 #[.int .i64 0,.int .i64 0,.int .i64 0,.int .i64 0,.int .i64 0,.int .i64 0]∧lies.Lies W Z 27 (cellsOf vs)∧Below w.heap.size w W∧Pl W
theorem Kx.below {Z:Nat} {vs:List Int} {w W X:World} (h:Kx Z vs w W) (k:Below W.heap.size W X):Kx Z vs w X:=⟨lies.on_call h.1 k,lies.on_call h.2.1 k,h.2.2.1.trans (k.mono h.2.2.1.size),h.2.2.2.on k⟩
def Ky (sf:Nat→Sp) (k:Nat) (b:Bool) (vs:List Int):Prop:=vs.length=6∧(∀ j,j<k→MayP (sf j))∧((b=true∧∃ j,j<k∧¬ OkP (sf j))∨(b=false∧vs=mkZ sf k))
theorem sf3_all {P:Sp→Prop} {s t d:Sp} (h:P s∧P t∧P d) (k:Nat):P (sf3 s t d k):=by
 unfold sf3
 split
 ·exact h.1
 ·split
  ·exact h.2.1
  ·exact h.2.2
theorem Ky.none {sf:Nat→Sp} {k:Nat} {b:Bool} {vs:List Int} (h:Ky sf k b vs) (hm:MayP (sf k)) (hn:¬ OkP (sf k)):Ky sf (k+1) true vs:=by
 refine ⟨h.1,fun j hj=>?_,.inl ⟨rfl,k,Nat.lt_succ_self k,hn⟩⟩
 by_cases e:j<k
 ·exact h.2.1 j e
 ·obtain rfl:j=k:=by omega
  exact hm
theorem Ky.some {sf:Nat→Sp} {k:Nat} {b:Bool} {vs:List Int} {hi lo:Int} (h:Ky sf k b vs) (hm:MayP (sf k)) (ho:OkP (sf k)) (hh:hi=hiS (sf k)) (hl:lo=loS (sf k)):Ky sf (k+1) b ((vs.set (2*k) hi).set (2*k+1) lo):=by
 refine ⟨by rw [List.length_set,List.length_set];exact h.1,fun j hj=>?_,?_⟩
 ·by_cases e:j<k
  ·exact h.2.1 j e
  ·obtain rfl:j=k:=by omega
   exact hm
 ·rcases h.2.2 with ⟨e,j,hj,hn⟩ | ⟨e,hv⟩
  ·exact .inl ⟨e,j,by omega,hn⟩
  ·refine .inr ⟨e,?_⟩
   rw [hv,hh,hl]
   rfl
set_option maxRecDepth 100000 in
set_option maxHeartbeats 8000000 in
theorem make_any (lo0:Int) (ls0:Bool) (hi0:Int) (hs0 op0:Bool) (lo1:Int) (ls1:Bool) (hi1:Int) (hs1 op1:Bool) (lo2:Int) (ls2:Bool) (hi2:Int) (hs2 op2:Bool) (w:World) (hP:Pl w):
  Calls Tryz.prog 17 #[.agg #[.int .i64 lo0,.bool ls0,.int .i64 hi0,.bool hs0,.bool op0],.agg #[.int .i64 lo1,.bool ls1,.int .i64 hi1,.bool hs1,.bool op1],.agg #[.int .i64 lo2,.bool ls2,.int .i64 hi2,.bool hs2,.bool op2]] w (Makes (lo0,ls0,hi0,hs0,op0) (lo1,ls1,hi1,hs1,op1) (lo2,ls2,hi2,hs2,op2) w):=by
 have HIX:=Lib.hid (index_span lo0 ls0 hi0 hs0 op0 lo1 ls1 hi1 hs1 op1 lo2 ls2 hi2 hs2 op2)
 generalize hSP:(lo0,ls0,hi0,hs0,op0)=S0 at HIX ⊢
 generalize hSQ:(lo1,ls1,hi1,hs1,op1)=S1 at HIX ⊢
 generalize hSR:(lo2,ls2,hi2,hs2,op2)=S2 at HIX ⊢
 clear hSP hSQ hSR
 have hw0:=hP.1
 have X:∃ w0,w0=((((w.alloc (.cells #[.int .i64 lo0,.bool ls0,.int .i64 hi0,.bool hs0,.bool op0] 35)).alloc (.cells #[.int .i64 lo1,.bool ls1,.int .i64 hi1,.bool hs1,.bool op1] 35)).alloc (.cells #[.int .i64 lo2,.bool ls2,.int .i64 hi2,.bool hs2,.bool op2] 35)).alloc (.cells #[.int .i64 0,.int .i64 0,.int .i64 0,.int .i64 0,.int .i64 0,.int .i64 0] 27)).alloc (.cells #[.int .i64 0,.int .i64 0,.int .i64 0,.int .i64 0,.int .i64 0,.int .i64 0] 27):=⟨_,rfl⟩
 obtain ⟨w0,hX⟩:=X
 have W0:Kx (w.heap.size+1+1+1+1) [0,0,0,0,0,0] w w0:=by
  have DB:Below w.heap.size w w0:=by rw [hX];exact lies.frame_up (lies.frame_up (bound.up3 _ _ _ _) _) _
  refine ⟨?_,?_,DB,hP.on DB⟩
  ·rw [hX];exact lies.on_alloc (lies.made_at _ _ _ _ (by simp)) _
  ·rw [hX];exact lies.made_at _ _ _ _ (by simp)
 clear hP
 go_enter Tryz.func17,Tryz.ntmps17
 go_wp2_with fail
 rw [←hX]
 clear hX
 generalize hZ:w.heap.size+1+1+1+1=Z at W0 ⊢
 have hZw:w.heap.size≤Z:=by omega
 have hZR:w.heap.size+1+1+1≠Z:=by omega
 have hRw:w.heap.size≤w.heap.size+1+1+1:=by omega
 clear hZ
 go_loopw [21,9] (fun i b wr=>∃ (k:Nat) (bb:Bool) (vs:List Int),k≤3∧i=.int .i64 k∧b=.bool bb∧Kx Z vs w wr∧RowKit.Hid (Ky (sf3 S0 S1 S2) k bb vs)) (fun i _ _=>3 - (intOf i).toNat)
 case atStart=>exact ⟨0,false,_,Nat.zero_le _,rfl,rfl,W0,Lib.hid ⟨rfl,fun j hj=>absurd hj (Nat.not_lt_zero j),.inr ⟨rfl,rfl⟩⟩⟩
 case round=>
  clear W0
  obtain ⟨k,bb,vs,hk,rfl,rfl,hA,HY⟩:=hrel
  by_cases hk3:k<3
  ·have hix:=HIX.out k hk3 wr
   generalize hsf:sf3 S0 S1 S2 k=s at hix
   obtain ⟨lo,ls,hi,hs,op⟩:=s
   have hix:(Instr.index 76 (.agg #[.int .i64 lo0,.bool ls0,.int .i64 hi0,.bool hs0,.bool op0,.int .i64 lo1,.bool ls1,.int .i64 hi1,.bool hs1,.bool op1,.int .i64 lo2,.bool ls2,.int .i64 hi2,.bool hs2,.bool op2]) (.int .i64 k)).run Tryz.prog wr=.ok (.agg #[.int .i64 lo,.bool ls,.int .i64 hi,.bool hs,.bool op]) wr:=hix
   have HSF:=Lib.hid hsf
   clear hsf
   go_wp2_with fail
   clear hix
   have A1:=hA.below (bound.up1 wr (.cells #[.int .i64 lo,.bool ls,.int .i64 hi,.bool hs,.bool op] 35))
   clear hA
   generalize wr.heap.size=SB at ⊢
   generalize wr.alloc (.cells #[.int .i64 lo,.bool ls,.int .i64 hi,.bool hs,.bool op] 35)=w1 at A1 ⊢
   refine (ends_any lo ls hi hs op w1).mono ?_
   rintro e w2 ⟨hB,h,l,f,rfl,hE⟩
   have A2:=A1.below hB
   rw [←HSF.out] at hE
   have HE:=Lib.hid hE
   clear hB A1 hE
   rcases HE.out with ⟨hm,_,_,rfl⟩ | ⟨hm,hno,_,_,rfl⟩ | ⟨hm,hok,hh,hl,rfl⟩
   ·have HM:=Lib.hid hm
    clear hm
    obtain ⟨⟨x0,x1,x2,x3,x4,x5⟩,⟨y0,y1,y2,y3,y4,y5⟩,xl⟩:=six_cells A2.1
    go_wp2_with fail
    exact bodyPost_ret (v:=.tuple #[.agg #[.int .i64 0,.int .i64 0,.int .i64 0,.int .i64 0,.int .i64 0,.int .i64 0],.int .i64 8]) (by simp [results,Tryz.results17,go_sem,x0,x1,x2,x3,x4,x5,xl]) rfl ⟨put_six A2.2.2.1 hRw _ _ _ _ _ _,0,0,0,0,0,0,8,rfl,.inl ⟨fun q=>HM.out (sf3_all q k),rfl,rfl⟩⟩
   ·have HM:=Lib.hid hm
    have HN:=Lib.hid hno
    clear hm hno
    go_wp2_with fail
    go_roundw
    case rel=>exact ⟨k+1,true,vs,by omega,by go_num,rfl,A2,Lib.hid (HY.out.none HM.out HN.out)⟩
    case measure=>simp [intOf];omega
   ·have HM:=Lib.hid hm
    have HO:=Lib.hid hok
    have HH:=Lib.hid hh
    have HL:=Lib.hid hl
    clear hm hok hh hl
    have hl6:=HY.out.1
    obtain ⟨v0,v1,v2,v3,v4,v5,rfl⟩:=six hl6
    clear hl6
    obtain ⟨⟨x0,x1,x2,x3,x4,x5⟩,⟨y0,y1,y2,y3,y4,y5⟩,xl⟩:=six_cells (show lies.Lies w2 Z 27 #[.int .i64 v0,.int .i64 v1,.int .i64 v2,.int .i64 v3,.int .i64 v4,.int .i64 v5] from A2.2.1)
    have A3:∀ p,Kx Z (([v0,v1,v2,v3,v4,v5].set p h).set (p+1) l) w ((w2.setCell ⟨Z,p,none⟩ (.int .i64 h)).setCell ⟨Z,p+1,none⟩ (.int .i64 l)):=fun p=>by
     have P2:=lies.on_put (lies.on_put A2.2.1 p (.int .i64 h)) (p+1) (.int .i64 l)
     rw [cells_set,cells_set] at P2
     have B2:Below w.heap.size w2 ((w2.setCell ⟨Z,p,none⟩ (.int .i64 h)).setCell ⟨Z,p+1,none⟩ (.int .i64 l)):=((Below.refl w.heap.size w2).setCell (p:=⟨Z,p,none⟩) hZw _).setCell (p:=⟨Z,p+1,none⟩) hZw _
     exact ⟨lies.on_far (lies.on_far A2.1 (b:=Z) p hZR _) (b:=Z) (p+1) hZR _,P2,A2.2.2.1.trans B2,A2.2.2.2.below B2 hw0⟩
    have HA3:=Lib.hid A3
    clear A3 A2
    have HUP:=Lib.hid (HY.out.some HM.out HO.out HH.out HL.out)
    rcases (by omega:k=0∨k=1∨k=2) with rfl | rfl | rfl
    ·go_wp2_with fail
     go_roundw
     case rel=>exact ⟨1,bb,_,by omega,by go_num,rfl,HA3.out 0,HUP⟩
     case measure=>simp [intOf]
    ·go_wp2_with fail
     go_roundw
     case rel=>exact ⟨2,bb,_,by omega,by go_num,rfl,HA3.out 2,HUP⟩
     case measure=>simp [intOf]
    ·go_wp2_with fail
     go_roundw
     case rel=>exact ⟨3,bb,_,by omega,by go_num,rfl,HA3.out 4,HUP⟩
     case measure=>simp [intOf]
  ·obtain rfl:k=3:=by omega
   obtain ⟨_,hmay,hcase⟩:=HY.out
   have hm0:MayP S0:=hmay 0 (by decide)
   have hm1:MayP S1:=hmay 1 (by decide)
   have hm2:MayP S2:=hmay 2 (by decide)
   clear hmay
   rcases hcase with ⟨rfl,j,hj,hn⟩ | ⟨rfl,hv⟩
   ·have HN:=Lib.hid (show ¬ OkD 3 (fullT (spanZ S0 S1 S2)) from fun q=>hn (sf3_all (span_two hm0 hm1 hm2 q) j))
    have H0:=Lib.hid hm0
    have H1:=Lib.hid hm1
    have H2:=Lib.hid hm2
    clear hm0 hm1 hm2 hn hj
    obtain ⟨⟨x0,x1,x2,x3,x4,x5⟩,⟨y0,y1,y2,y3,y4,y5⟩,xl⟩:=six_cells hA.1
    go_wp2_with fail
    exact bodyPost_ret (v:=.tuple #[.agg #[.int .i64 0,.int .i64 0,.int .i64 0,.int .i64 0,.int .i64 0,.int .i64 0],.int .i64 6]) (by simp [results,Tryz.results17,go_sem,x0,x1,x2,x3,x4,x5,xl]) rfl ⟨put_six hA.2.2.1 hRw _ _ _ _ _ _,0,0,0,0,0,0,6,rfl,.inr (.inl ⟨H0.out,H1.out,H2.out,HN.out,rfl,rfl⟩)⟩
   ·have hZ0:lies.Lies wr Z 27 #[.int .i64 (hiS S0),.int .i64 (loS S0),.int .i64 (hiS S1),.int .i64 (loS S1),.int .i64 (hiS S2),.int .i64 (loS S2)]:=by
     have:=hA.2.1
     rw [hv] at this
     exact this
    have HSZ:=Lib.hid (show spanZ S0 S1 S2=[hiS S0,loS S0,hiS S1,loS S1,hiS S2,loS S2] from rfl)
    have HT:=Lib.hid (show Tops [hiS S0,loS S0,hiS S1,loS S1,hiS S2,loS S2] from span_tops hm0 hm1 hm2)
    have H0:=Lib.hid hm0
    have H1:=Lib.hid hm1
    have H2:=Lib.hid hm2
    have R0:=hA.1
    have BB:=hA.2.2.1
    have PP:=hA.2.2.2
    clear hm0 hm1 hm2 hv hA
    generalize hiS S0=z0 at hZ0 HSZ HT
    generalize loS S0=z1 at hZ0 HSZ HT
    generalize hiS S1=z2 at hZ0 HSZ HT
    generalize loS S1=z3 at hZ0 HSZ HT
    generalize hiS S2=z4 at hZ0 HSZ HT
    generalize loS S2=z5 at hZ0 HSZ HT
    obtain ⟨⟨x0,x1,x2,x3,x4,x5⟩,⟨y0,y1,y2,y3,y4,y5⟩,xl⟩:=six_cells hZ0
    go_wp2_with fail
    clear x0 x1 x2 x3 x4 x5 y0 y1 y2 y3 y4 y5 xl hZ0
    refine (matrix_any z0 z1 z2 z3 z4 z5 wr PP HT.out).mono ?_
    rintro e w4 ⟨hB,na,aa,la,ca,us,f,rfl,hR,hK⟩
    have R1:=lies.on_call R0 hB
    have BB1:=later BB hB
    have PP1:=PP.on hB
    have hmm:=span_may H0.out H1.out H2.out
    rw [HSZ.out] at hmm
    rcases hR with ⟨_,rfl,hus,rfl⟩ | ⟨hno,_⟩
    ·have HUS:=Lib.hid hus
     have hI:=hK.ints
     clear hB hK R0 BB PP hmm hus
     go_wp2_with fail
     have R2:=lies.on_alloc R1 (.cells #[.int .i64 3,.slice aa la ca] 81)
     have BB2:=lies.frame_up BB1 (.cells #[.int .i64 3,.slice aa la ca] 81)
     have bb:=bound.up1 w4 (.cells #[.int .i64 3,.slice aa la ca] 81)
     have PP2:=PP1.on bb
     have I2:=(hI.below bb).mono bb.size
     clear R1 BB1 PP1 hI bb
     generalize w4.heap.size=MX at ⊢
     generalize w4.alloc (.cells #[.int .i64 3,.slice aa la ca] 81)=w5 at R2 BB2 PP2 I2 ⊢
     refine (of_any 3 _ us w5 PP2 I2 (by rw [HUS.out];exact (show 9≤1000000 by decide)) (by rw [HUS.out];exact full_tops HT.out)).mono ?_
     rintro e w6 ⟨hB,m0,m1,m2,m3,m4,m5,f,rfl,hof⟩
     have HOF:=Lib.hid (show OfR 3 (fullT (spanZ S0 S1 S2)) [m0,m1,m2,m3,m4,m5] f by rw [HSZ.out,←HUS.out];exact hof)
     have R3:=lies.on_call R2 hB
     have BB3:=later BB2 hB
     clear hB hof R2 BB2 PP2 I2
     obtain ⟨⟨x0,x1,x2,x3,x4,x5⟩,⟨y0,y1,y2,y3,y4,y5⟩,xl⟩:=six_cells R3
     go_wp2_with fail
     exact bodyPost_ret (v:=.tuple #[.agg #[.int .i64 m0,.int .i64 m1,.int .i64 m2,.int .i64 m3,.int .i64 m4,.int .i64 m5],.int .i64 f]) (by simp [results,Tryz.results17,go_sem,x0,x1,x2,x3,x4,x5,xl]) rfl ⟨put_six BB3 hRw _ _ _ _ _ _,m0,m1,m2,m3,m4,m5,f,rfl,of_spans H0.out H1.out H2.out HOF.out⟩
    ·exact (hno hmm).elim
end Go.Proofs.YthmljpccbjolgaaGreatDoor.zone
namespace Go.Proofs.YthmljpccbjolgaaGreatDoor.zlaw
open Go.Joins Go.ChangeShapes Go.WideShapes Go.ChangeAt Go.RowKit num rat dbm Go.Proofs.YthmljpccbjolgaaGreatDoor.tight Go.Proofs.YthmljpccbjolgaaGreatDoor.incl Go.Proofs.YthmljpccbjolgaaGreatDoor.plaw Go.Proofs.YthmljpccbjolgaaGreatDoor.zopen Go.Proofs.YthmljpccbjolgaaGreatDoor.zone
open bound hiding up
set_option linter.unusedVariables false
set_option linter.unusedSimpArgs false
theorem make_one {s t d:Sp} {z z':List Int} {f f':Int} (h:MakeR s t d z f) (k:MakeR s t d z' f'):z'=z∧f'=f:=by
 rcases h with ⟨a,rfl,rfl⟩ | ⟨a,b,c,g,rfl,rfl⟩ | ⟨a,b,c,g,m,rfl,rfl⟩ | ⟨a,b,c,g,m,hz,rfl⟩<;>rcases k with ⟨a',rfl,rfl⟩ | ⟨a',b',c',g',rfl,rfl⟩ | ⟨a',b',c',g',m',rfl,rfl⟩ | ⟨a',b',c',g',m',hz',rfl⟩
 all_goals first | exact ⟨rfl,rfl⟩ | exact (a ⟨a',b',c'⟩).elim | exact (a' ⟨a,b,c⟩).elim | exact (g g').elim | exact (g' g).elim | exact (m m').elim | exact (m' m).elim | exact ⟨hz'.trans hz.symm,rfl⟩
end Go.Proofs.YthmljpccbjolgaaGreatDoor.zlaw
