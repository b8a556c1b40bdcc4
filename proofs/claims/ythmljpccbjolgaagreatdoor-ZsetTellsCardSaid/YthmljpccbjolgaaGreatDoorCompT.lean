
/-
  The document's own compositions, and what it says of one zone: the other way round, and its firsts; each theorem names its conditions.
-/
import Derived.Test.YthmljpccbjolgaaGreatDoorCompA
import Derived.Test.YthmljpccbjolgaaGreatDoorZoneU
namespace Go.Proofs.YthmljpccbjolgaaGreatDoor.cref
open Go.Joins Go.ChangeShapes Go.WideShapes Go.ChangeAt Go.RowKit num rat dbm Go.Proofs.YthmljpccbjolgaaGreatDoor.tight Go.Proofs.YthmljpccbjolgaaGreatDoor.incl Go.Proofs.YthmljpccbjolgaaGreatDoor.plaw Go.Proofs.YthmljpccbjolgaaGreatDoor.zopen Go.Proofs.YthmljpccbjolgaaGreatDoor.zone Go.Proofs.YthmljpccbjolgaaGreatDoor.zref Go.Proofs.YthmljpccbjolgaaGreatDoor.comp dref
open bound hiding up
set_option linter.unusedVariables false
set_option linter.unusedSimpArgs false
theorem field_is (n:Int) (v:Value) (W:World):(Instr.field 81 (.agg #[.int .i64 n,v]) 1).run Tryz.prog W=.ok v W:=by kernel_rfl
theorem nine_cells {W:World} {g:Nat} {t:TypeId} {a b c d e f h i j:Value} (k:lies.Lies W g t #[a,b,c,d,e,f,h,i,j]):W.cell? ⟨g,0,none⟩=some a∧W.cell? ⟨g,1,none⟩=some b∧W.cell? ⟨g,2,none⟩=some c∧W.cell? ⟨g,3,none⟩=some d∧W.cell? ⟨g,4,none⟩=some e∧W.cell? ⟨g,5,none⟩=some f∧W.cell? ⟨g,6,none⟩=some h∧W.cell? ⟨g,7,none⟩=some i∧W.cell? ⟨g,8,none⟩=some j:=
 ⟨lies.cell k 0,lies.cell k 1,lies.cell k 2,lies.cell k 3,lies.cell k 4,lies.cell k 5,lies.cell k 6,lies.cell k 7,lies.cell k 8⟩
set_option maxRecDepth 100000 in
set_option maxHeartbeats 8000000 in
theorem both_is (a0 a1 a2 a3 a4 a5 b0 b1 b2 b3 b4 b5:Int) (w:World):Calls Tryz.prog 154 #[.agg #[.int .i64 a0,.int .i64 a1,.int .i64 a2,.int .i64 a3,.int .i64 a4,.int .i64 a5],.agg #[.int .i64 b0,.int .i64 b1,.int .i64 b2,.int .i64 b3,.int .i64 b4,.int .i64 b5]] w fun e w'=>Below w.heap.size w w'∧∃ g,w.heap.size≤g∧e=.returned (.agg #[.int .i64 4,.slice (some ⟨g,0,none⟩) 16 16])∧lies.Lies w' g 25 (cellsOf (bothT [a0,a1,a2,a3,a4,a5] [b0,b1,b2,b3,b4,b5])):=by
 have X:∃ w0,w0=((w.alloc (.cells #[.int .i64 a0,.int .i64 a1,.int .i64 a2,.int .i64 a3,.int .i64 a4,.int .i64 a5] 27)).alloc (.cells #[.int .i64 b0,.int .i64 b1,.int .i64 b2,.int .i64 b3,.int .i64 b4,.int .i64 b5] 27)).alloc (.cells #[.int .i64 0,.slice none 0 0] 81):=⟨_,rfl⟩
 obtain ⟨w0,hX⟩:=X
 have DB:Below w.heap.size w w0:=by rw [hX];exact bound.up3 _ _ _ _
 have D0:lies.Lies w0 w.heap.size 27 #[.int .i64 a0,.int .i64 a1,.int .i64 a2,.int .i64 a3,.int .i64 a4,.int .i64 a5]:=by rw [hX];exact lies.on_alloc (lies.on_alloc (lies.made _ _ _) _) _
 have D1:lies.Lies w0 (w.heap.size+1) 27 #[.int .i64 b0,.int .i64 b1,.int .i64 b2,.int .i64 b3,.int .i64 b4,.int .i64 b5]:=by rw [hX];exact lies.on_alloc (lies.made_at _ _ _ _ (by simp)) _
 have D2:lies.Lies w0 (w.heap.size+1+1) 81 #[.int .i64 0,.slice none 0 0]:=by rw [hX];exact lies.made_at _ _ _ _ (by simp)
 go_enter Tryz.func154,Tryz.ntmps154
 obtain ⟨⟨e0,e1,e2,e3,e4,e5⟩,-⟩:=six_cells D0
 have el:=lies.lt D0
 go_wp2_with fail
 clear e0 e1 e2 e3 e4 e5 el
 rw [←hX]
 clear hX
 refine (full_is a0 a1 a2 a3 a4 a5 w0).mono ?_
 rintro e w1 ⟨hB,ga,hga,rfl,hG⟩
 have hgaR:w.heap.size+1+1<ga:=Nat.lt_of_lt_of_le (lies.lt D2) hga
 replace D0:=lies.on_call D0 hB
 replace D1:=lies.on_call D1 hB
 replace D2:=lies.on_call D2 hB
 replace DB:=later DB hB
 clear hB
 have GA:lies.Lies w1 ga 25 #[.int .i64 1,.int .i64 a1,.int .i64 a3,.int .i64 a0,.int .i64 1,.int .i64 a5,.int .i64 a2,.int .i64 a4,.int .i64 1]:=hG
 clear hG hga
 have hf1:=field_is 3 (.slice (some ⟨ga,0,none⟩) 9 9) w1
 obtain ⟨⟨kD1_0,kD1_1,kD1_2,kD1_3,kD1_4,kD1_5⟩,-⟩:=six_cells D1
 have kD1_l:=lies.lt D1
 go_wp2_with fail
 clear kD1_0 kD1_1 kD1_2 kD1_3 kD1_4 kD1_5 kD1_l
 refine (full_is b0 b1 b2 b3 b4 b5 w1).mono ?_
 rintro e w2 ⟨hB,gb,hgb,rfl,hG⟩
 have hgbR:w.heap.size+1+1<gb:=Nat.lt_of_lt_of_le (lies.lt D2) hgb
 replace D0:=lies.on_call D0 hB
 replace D1:=lies.on_call D1 hB
 replace D2:=lies.on_call D2 hB
 replace GA:=lies.on_call GA hB
 replace DB:=later DB hB
 clear hB
 have GB:lies.Lies w2 gb 25 #[.int .i64 1,.int .i64 b1,.int .i64 b3,.int .i64 b0,.int .i64 1,.int .i64 b5,.int .i64 b2,.int .i64 b4,.int .i64 1]:=hG
 clear hG hgb
 have hf2:=field_is 3 (.slice (some ⟨gb,0,none⟩) 9 9) w2
 clear hf1
 clear D0 D1
 go_wp2_with fail
 clear hf2
 have hDr:=dbm.drawn1 (Below.refl w2.heap.size w2)
 replace D2:=lies.on_call D2 hDr
 replace GA:=lies.on_call GA hDr
 replace GB:=lies.on_call GB hDr
 replace DB:=later DB hDr
 clear hDr
 refine wp_region_held_drew (S:=fun W=>lies.Lies W ga 25 #[.int .i64 1,.int .i64 a1,.int .i64 a3,.int .i64 a0,.int .i64 1,.int .i64 a5,.int .i64 a2,.int .i64 a4,.int .i64 1]∧lies.Lies W gb 25 #[.int .i64 1,.int .i64 b1,.int .i64 b3,.int .i64 b0,.int .i64 1,.int .i64 b5,.int .i64 b2,.int .i64 b4,.int .i64 1]) (by kernel_rfl) ⟨GA,GB⟩ (fun hHeld=>?_)
 generalize w2.drew=wA at D2 GA GB DB hHeld ⊢
 refine tk 0 (v:=?_) rfl hHeld ?_ ?_
 rotate_left
 ·intro w hSw;obtain ⟨x0,x1,x2,x3,x4,x5,x6,x7,x8⟩:=nine_cells hSw.1;obtain ⟨y0,y1,y2,y3,y4,y5,y6,y7,y8⟩:=nine_cells hSw.2;go_simp;try with_reducible rfl
 try simp only [Act.put,sA,sB,sC,sD,sE,sF]
 refine tk 1 (v:=?_) rfl hHeld ?_ ?_
 rotate_left
 ·intro w hSw;obtain ⟨x0,x1,x2,x3,x4,x5,x6,x7,x8⟩:=nine_cells hSw.1;obtain ⟨y0,y1,y2,y3,y4,y5,y6,y7,y8⟩:=nine_cells hSw.2;go_simp;try with_reducible rfl
 try simp only [Act.put,sA,sB,sC,sD,sE,sF]
 refine tk 2 (v:=?_) rfl hHeld ?_ ?_
 rotate_left
 ·intro w hSw;obtain ⟨x0,x1,x2,x3,x4,x5,x6,x7,x8⟩:=nine_cells hSw.1;obtain ⟨y0,y1,y2,y3,y4,y5,y6,y7,y8⟩:=nine_cells hSw.2;go_simp;try with_reducible rfl
 try simp only [Act.put,sA,sB,sC,sD,sE,sF]
 refine tk 3 (v:=?_) rfl hHeld ?_ ?_
 rotate_left
 ·intro w hSw;obtain ⟨x0,x1,x2,x3,x4,x5,x6,x7,x8⟩:=nine_cells hSw.1;obtain ⟨y0,y1,y2,y3,y4,y5,y6,y7,y8⟩:=nine_cells hSw.2;go_simp;try with_reducible rfl
 try simp only [Act.put,sA,sB,sC,sD,sE,sF]
 refine tk 4 (v:=?_) rfl hHeld ?_ ?_
 rotate_left
 ·intro w hSw;obtain ⟨x0,x1,x2,x3,x4,x5,x6,x7,x8⟩:=nine_cells hSw.1;obtain ⟨y0,y1,y2,y3,y4,y5,y6,y7,y8⟩:=nine_cells hSw.2;go_simp;try with_reducible rfl
 try simp only [Act.put,sA,sB,sC,sD,sE,sF]
 refine tk 5 (v:=?_) rfl hHeld ?_ ?_
 rotate_left
 ·intro w hSw;obtain ⟨x0,x1,x2,x3,x4,x5,x6,x7,x8⟩:=nine_cells hSw.1;obtain ⟨y0,y1,y2,y3,y4,y5,y6,y7,y8⟩:=nine_cells hSw.2;go_simp;try with_reducible rfl
 try simp only [Act.put,sA,sB,sC,sD,sE,sF]
 refine wpAnyH_ready (rs:=[6]) (by kernel_rfl) (by simp) (AllReadyH.cons rfl (fun K hK=>?_) AllReadyH.nil)
 go_simp
 first | rw [min_lsr a2 b0] | rw [if_lsr a2 b0]
 refine hK.out _ _ hHeld (fun hNew=>?_)
 clear hHeld hK K
 have hHeld:=hNew
 clear hNew
 try simp only [Act.put,sA,sB,sC,sD,sE,sF]
 refine tk 7 (v:=?_) rfl hHeld ?_ ?_
 rotate_left
 ·intro w hSw;skip;go_simp;try with_reducible rfl
 try simp only [Act.put,sA,sB,sC,sD,sE,sF]
 refine wpAnyH_done (by kernel_rfl) ?_ _
 clear hHeld
 go_wp2_with fail
 have hDr:=dbm.drawn1 (Below.refl wA.heap.size wA)
 replace D2:=lies.on_call D2 hDr
 replace GA:=lies.on_call GA hDr
 replace GB:=lies.on_call GB hDr
 replace DB:=later DB hDr
 clear hDr
 refine wp_region_held_drew (S:=fun W=>lies.Lies W ga 25 #[.int .i64 1,.int .i64 a1,.int .i64 a3,.int .i64 a0,.int .i64 1,.int .i64 a5,.int .i64 a2,.int .i64 a4,.int .i64 1]∧lies.Lies W gb 25 #[.int .i64 1,.int .i64 b1,.int .i64 b3,.int .i64 b0,.int .i64 1,.int .i64 b5,.int .i64 b2,.int .i64 b4,.int .i64 1]) (by kernel_rfl) ⟨GA,GB⟩ (fun hHeld=>?_)
 generalize wA.drew=wB at D2 GA GB DB hHeld ⊢
 refine tk 0 (v:=?_) rfl hHeld ?_ ?_
 rotate_left
 ·intro w hSw;obtain ⟨x0,x1,x2,x3,x4,x5,x6,x7,x8⟩:=nine_cells hSw.1;obtain ⟨y0,y1,y2,y3,y4,y5,y6,y7,y8⟩:=nine_cells hSw.2;go_simp;try with_reducible rfl
 try simp only [Act.put,sA,sB,sC,sD,sE,sF]
 refine tk 1 (v:=?_) rfl hHeld ?_ ?_
 rotate_left
 ·intro w hSw;obtain ⟨x0,x1,x2,x3,x4,x5,x6,x7,x8⟩:=nine_cells hSw.1;obtain ⟨y0,y1,y2,y3,y4,y5,y6,y7,y8⟩:=nine_cells hSw.2;go_simp;try with_reducible rfl
 try simp only [Act.put,sA,sB,sC,sD,sE,sF]
 refine tk 2 (v:=?_) rfl hHeld ?_ ?_
 rotate_left
 ·intro w hSw;obtain ⟨x0,x1,x2,x3,x4,x5,x6,x7,x8⟩:=nine_cells hSw.1;obtain ⟨y0,y1,y2,y3,y4,y5,y6,y7,y8⟩:=nine_cells hSw.2;go_simp;try with_reducible rfl
 try simp only [Act.put,sA,sB,sC,sD,sE,sF]
 refine tk 3 (v:=?_) rfl hHeld ?_ ?_
 rotate_left
 ·intro w hSw;obtain ⟨x0,x1,x2,x3,x4,x5,x6,x7,x8⟩:=nine_cells hSw.1;obtain ⟨y0,y1,y2,y3,y4,y5,y6,y7,y8⟩:=nine_cells hSw.2;go_simp;try with_reducible rfl
 try simp only [Act.put,sA,sB,sC,sD,sE,sF]
 refine tk 4 (v:=?_) rfl hHeld ?_ ?_
 rotate_left
 ·intro w hSw;obtain ⟨x0,x1,x2,x3,x4,x5,x6,x7,x8⟩:=nine_cells hSw.1;obtain ⟨y0,y1,y2,y3,y4,y5,y6,y7,y8⟩:=nine_cells hSw.2;go_simp;try with_reducible rfl
 try simp only [Act.put,sA,sB,sC,sD,sE,sF]
 refine tk 5 (v:=?_) rfl hHeld ?_ ?_
 rotate_left
 ·intro w hSw;obtain ⟨x0,x1,x2,x3,x4,x5,x6,x7,x8⟩:=nine_cells hSw.1;obtain ⟨y0,y1,y2,y3,y4,y5,y6,y7,y8⟩:=nine_cells hSw.2;go_simp;try with_reducible rfl
 try simp only [Act.put,sA,sB,sC,sD,sE,sF]
 refine wpAnyH_ready (rs:=[6]) (by kernel_rfl) (by simp) (AllReadyH.cons rfl (fun K hK=>?_) AllReadyH.nil)
 go_simp
 first | rw [min_lsr a3 b1] | rw [if_lsr a3 b1]
 refine hK.out _ _ hHeld (fun hNew=>?_)
 clear hHeld hK K
 have hHeld:=hNew
 clear hNew
 try simp only [Act.put,sA,sB,sC,sD,sE,sF]
 refine tk 7 (v:=?_) rfl hHeld ?_ ?_
 rotate_left
 ·intro w hSw;skip;go_simp;try with_reducible rfl
 try simp only [Act.put,sA,sB,sC,sD,sE,sF]
 refine wpAnyH_done (by kernel_rfl) ?_ _
 clear hHeld
 go_wp2_with fail
 have hDr:=dbm.drawn1 (Below.refl wB.heap.size wB)
 replace D2:=lies.on_call D2 hDr
 replace GA:=lies.on_call GA hDr
 replace GB:=lies.on_call GB hDr
 replace DB:=later DB hDr
 clear hDr
 refine wp_region_held_drew (S:=fun W=>lies.Lies W ga 25 #[.int .i64 1,.int .i64 a1,.int .i64 a3,.int .i64 a0,.int .i64 1,.int .i64 a5,.int .i64 a2,.int .i64 a4,.int .i64 1]∧lies.Lies W gb 25 #[.int .i64 1,.int .i64 b1,.int .i64 b3,.int .i64 b0,.int .i64 1,.int .i64 b5,.int .i64 b2,.int .i64 b4,.int .i64 1]) (by kernel_rfl) ⟨GA,GB⟩ (fun hHeld=>?_)
 generalize wB.drew=wC at D2 GA GB DB hHeld ⊢
 refine tk 0 (v:=?_) rfl hHeld ?_ ?_
 rotate_left
 ·intro w hSw;obtain ⟨x0,x1,x2,x3,x4,x5,x6,x7,x8⟩:=nine_cells hSw.1;obtain ⟨y0,y1,y2,y3,y4,y5,y6,y7,y8⟩:=nine_cells hSw.2;go_simp;try with_reducible rfl
 try simp only [Act.put,sA,sB,sC,sD,sE,sF]
 refine tk 1 (v:=?_) rfl hHeld ?_ ?_
 rotate_left
 ·intro w hSw;obtain ⟨x0,x1,x2,x3,x4,x5,x6,x7,x8⟩:=nine_cells hSw.1;obtain ⟨y0,y1,y2,y3,y4,y5,y6,y7,y8⟩:=nine_cells hSw.2;go_simp;try with_reducible rfl
 try simp only [Act.put,sA,sB,sC,sD,sE,sF]
 refine tk 2 (v:=?_) rfl hHeld ?_ ?_
 rotate_left
 ·intro w hSw;obtain ⟨x0,x1,x2,x3,x4,x5,x6,x7,x8⟩:=nine_cells hSw.1;obtain ⟨y0,y1,y2,y3,y4,y5,y6,y7,y8⟩:=nine_cells hSw.2;go_simp;try with_reducible rfl
 try simp only [Act.put,sA,sB,sC,sD,sE,sF]
 refine tk 3 (v:=?_) rfl hHeld ?_ ?_
 rotate_left
 ·intro w hSw;obtain ⟨x0,x1,x2,x3,x4,x5,x6,x7,x8⟩:=nine_cells hSw.1;obtain ⟨y0,y1,y2,y3,y4,y5,y6,y7,y8⟩:=nine_cells hSw.2;go_simp;try with_reducible rfl
 try simp only [Act.put,sA,sB,sC,sD,sE,sF]
 refine tk 4 (v:=?_) rfl hHeld ?_ ?_
 rotate_left
 ·intro w hSw;obtain ⟨x0,x1,x2,x3,x4,x5,x6,x7,x8⟩:=nine_cells hSw.1;obtain ⟨y0,y1,y2,y3,y4,y5,y6,y7,y8⟩:=nine_cells hSw.2;go_simp;try with_reducible rfl
 try simp only [Act.put,sA,sB,sC,sD,sE,sF]
 refine tk 5 (v:=?_) rfl hHeld ?_ ?_
 rotate_left
 ·intro w hSw;obtain ⟨x0,x1,x2,x3,x4,x5,x6,x7,x8⟩:=nine_cells hSw.1;obtain ⟨y0,y1,y2,y3,y4,y5,y6,y7,y8⟩:=nine_cells hSw.2;go_simp;try with_reducible rfl
 try simp only [Act.put,sA,sB,sC,sD,sE,sF]
 refine tk 6 (v:=?_) rfl hHeld ?_ ?_
 rotate_left
 ·intro w hSw;obtain ⟨x0,x1,x2,x3,x4,x5,x6,x7,x8⟩:=nine_cells hSw.1;obtain ⟨y0,y1,y2,y3,y4,y5,y6,y7,y8⟩:=nine_cells hSw.2;go_simp;try with_reducible rfl
 try simp only [Act.put,sA,sB,sC,sD,sE,sF]
 refine tk 7 (v:=?_) rfl hHeld ?_ ?_
 rotate_left
 ·intro w hSw;obtain ⟨x0,x1,x2,x3,x4,x5,x6,x7,x8⟩:=nine_cells hSw.1;obtain ⟨y0,y1,y2,y3,y4,y5,y6,y7,y8⟩:=nine_cells hSw.2;go_simp;try with_reducible rfl
 try simp only [Act.put,sA,sB,sC,sD,sE,sF]
 refine tk 8 (v:=?_) rfl hHeld ?_ ?_
 rotate_left
 ·intro w hSw;obtain ⟨x0,x1,x2,x3,x4,x5,x6,x7,x8⟩:=nine_cells hSw.1;obtain ⟨y0,y1,y2,y3,y4,y5,y6,y7,y8⟩:=nine_cells hSw.2;go_simp;try with_reducible rfl
 try simp only [Act.put,sA,sB,sC,sD,sE,sF]
 refine tk 9 (v:=?_) rfl hHeld ?_ ?_
 rotate_left
 ·intro w hSw;obtain ⟨x0,x1,x2,x3,x4,x5,x6,x7,x8⟩:=nine_cells hSw.1;obtain ⟨y0,y1,y2,y3,y4,y5,y6,y7,y8⟩:=nine_cells hSw.2;go_simp;try with_reducible rfl
 try simp only [Act.put,sA,sB,sC,sD,sE,sF]
 refine tk 10 (v:=?_) rfl hHeld ?_ ?_
 rotate_left
 ·intro w hSw;obtain ⟨x0,x1,x2,x3,x4,x5,x6,x7,x8⟩:=nine_cells hSw.1;obtain ⟨y0,y1,y2,y3,y4,y5,y6,y7,y8⟩:=nine_cells hSw.2;go_simp;try with_reducible rfl
 try simp only [Act.put,sA,sB,sC,sD,sE,sF]
 refine tk 11 (v:=?_) rfl hHeld ?_ ?_
 rotate_left
 ·intro w hSw;obtain ⟨x0,x1,x2,x3,x4,x5,x6,x7,x8⟩:=nine_cells hSw.1;obtain ⟨y0,y1,y2,y3,y4,y5,y6,y7,y8⟩:=nine_cells hSw.2;go_simp;try with_reducible rfl
 try simp only [Act.put,sA,sB,sC,sD,sE,sF]
 refine tk 12 (v:=?_) rfl hHeld ?_ ?_
 rotate_left
 ·intro w hSw;obtain ⟨x0,x1,x2,x3,x4,x5,x6,x7,x8⟩:=nine_cells hSw.1;obtain ⟨y0,y1,y2,y3,y4,y5,y6,y7,y8⟩:=nine_cells hSw.2;go_simp;try with_reducible rfl
 try simp only [Act.put,sA,sB,sC,sD,sE,sF]
 refine tk 13 (v:=?_) rfl hHeld ?_ ?_
 rotate_left
 ·intro w hSw;obtain ⟨x0,x1,x2,x3,x4,x5,x6,x7,x8⟩:=nine_cells hSw.1;obtain ⟨y0,y1,y2,y3,y4,y5,y6,y7,y8⟩:=nine_cells hSw.2;go_simp;try with_reducible rfl
 try simp only [Act.put,sA,sB,sC,sD,sE,sF]
 refine tk 14 (v:=?_) rfl hHeld ?_ ?_
 rotate_left
 ·intro w hSw;obtain ⟨x0,x1,x2,x3,x4,x5,x6,x7,x8⟩:=nine_cells hSw.1;obtain ⟨y0,y1,y2,y3,y4,y5,y6,y7,y8⟩:=nine_cells hSw.2;go_simp;try with_reducible rfl
 try simp only [Act.put,sA,sB,sC,sD,sE,sF]
 refine tk 15 (v:=?_) rfl hHeld ?_ ?_
 rotate_left
 ·intro w hSw;obtain ⟨x0,x1,x2,x3,x4,x5,x6,x7,x8⟩:=nine_cells hSw.1;obtain ⟨y0,y1,y2,y3,y4,y5,y6,y7,y8⟩:=nine_cells hSw.2;go_simp;try with_reducible rfl
 try simp only [Act.put,sA,sB,sC,sD,sE,sF]
 refine tk 16 (v:=?_) rfl hHeld ?_ ?_
 rotate_left
 ·intro w hSw;obtain ⟨x0,x1,x2,x3,x4,x5,x6,x7,x8⟩:=nine_cells hSw.1;obtain ⟨y0,y1,y2,y3,y4,y5,y6,y7,y8⟩:=nine_cells hSw.2;go_simp;try with_reducible rfl
 try simp only [Act.put,sA,sB,sC,sD,sE,sF]
 refine tk 17 (v:=?_) rfl hHeld ?_ ?_
 rotate_left
 ·intro w hSw;obtain ⟨x0,x1,x2,x3,x4,x5,x6,x7,x8⟩:=nine_cells hSw.1;obtain ⟨y0,y1,y2,y3,y4,y5,y6,y7,y8⟩:=nine_cells hSw.2;go_simp;try with_reducible rfl
 try simp only [Act.put,sA,sB,sC,sD,sE,sF]
 refine tk 18 (v:=?_) rfl hHeld ?_ ?_
 rotate_left
 ·intro w hSw;obtain ⟨x0,x1,x2,x3,x4,x5,x6,x7,x8⟩:=nine_cells hSw.1;obtain ⟨y0,y1,y2,y3,y4,y5,y6,y7,y8⟩:=nine_cells hSw.2;go_simp;try with_reducible rfl
 try simp only [Act.put,sA,sB,sC,sD,sE,sF]
 refine tk 19 (v:=?_) rfl hHeld ?_ ?_
 rotate_left
 ·intro w hSw;obtain ⟨x0,x1,x2,x3,x4,x5,x6,x7,x8⟩:=nine_cells hSw.1;obtain ⟨y0,y1,y2,y3,y4,y5,y6,y7,y8⟩:=nine_cells hSw.2;go_simp;try with_reducible rfl
 try simp only [Act.put,sA,sB,sC,sD,sE,sF]
 refine tk 20 (v:=?_) rfl hHeld ?_ ?_
 rotate_left
 ·intro w hSw;obtain ⟨x0,x1,x2,x3,x4,x5,x6,x7,x8⟩:=nine_cells hSw.1;obtain ⟨y0,y1,y2,y3,y4,y5,y6,y7,y8⟩:=nine_cells hSw.2;go_simp;try with_reducible rfl
 try simp only [Act.put,sA,sB,sC,sD,sE,sF]
 refine tk 21 (v:=?_) rfl hHeld ?_ ?_
 rotate_left
 ·intro w hSw;obtain ⟨x0,x1,x2,x3,x4,x5,x6,x7,x8⟩:=nine_cells hSw.1;obtain ⟨y0,y1,y2,y3,y4,y5,y6,y7,y8⟩:=nine_cells hSw.2;go_simp;try with_reducible rfl
 try simp only [Act.put,sA,sB,sC,sD,sE,sF]
 refine tk 22 (v:=?_) rfl hHeld ?_ ?_
 rotate_left
 ·intro w hSw;obtain ⟨x0,x1,x2,x3,x4,x5,x6,x7,x8⟩:=nine_cells hSw.1;obtain ⟨y0,y1,y2,y3,y4,y5,y6,y7,y8⟩:=nine_cells hSw.2;go_simp;try with_reducible rfl
 try simp only [Act.put,sA,sB,sC,sD,sE,sF]
 refine tk 23 (v:=?_) rfl hHeld ?_ ?_
 rotate_left
 ·intro w hSw;obtain ⟨x0,x1,x2,x3,x4,x5,x6,x7,x8⟩:=nine_cells hSw.1;obtain ⟨y0,y1,y2,y3,y4,y5,y6,y7,y8⟩:=nine_cells hSw.2;go_simp;try with_reducible rfl
 try simp only [Act.put,sA,sB,sC,sD,sE,sF]
 refine tk 24 (v:=?_) rfl hHeld ?_ ?_
 rotate_left
 ·intro w hSw;obtain ⟨x0,x1,x2,x3,x4,x5,x6,x7,x8⟩:=nine_cells hSw.1;obtain ⟨y0,y1,y2,y3,y4,y5,y6,y7,y8⟩:=nine_cells hSw.2;go_simp;try with_reducible rfl
 try simp only [Act.put,sA,sB,sC,sD,sE,sF]
 refine tk 25 (v:=?_) rfl hHeld ?_ ?_
 rotate_left
 ·intro w hSw;obtain ⟨x0,x1,x2,x3,x4,x5,x6,x7,x8⟩:=nine_cells hSw.1;obtain ⟨y0,y1,y2,y3,y4,y5,y6,y7,y8⟩:=nine_cells hSw.2;go_simp;try with_reducible rfl
 try simp only [Act.put,sA,sB,sC,sD,sE,sF]
 refine wpAnyH_ready (rs:=[26]) (by kernel_rfl) (by simp) (AllReadyH.cons rfl (fun K hK=>?_) AllReadyH.nil)
 go_simp
 have hA:=bound.up1 wC (.cells #[.int .i64 1,.int .i64 a1,.int .i64 (lsr a3 b1),.int .i64 b3,.int .i64 a0,.int .i64 1,.int .i64 a5,.int .i64 9223372036854775807,.int .i64 (lsr a2 b0),.int .i64 a4,.int .i64 1,.int .i64 b5,.int .i64 b2,.int .i64 9223372036854775807,.int .i64 b4,.int .i64 1] 25)
 have G:=lies.made wC 25 #[.int .i64 1,.int .i64 a1,.int .i64 (lsr a3 b1),.int .i64 b3,.int .i64 a0,.int .i64 1,.int .i64 a5,.int .i64 9223372036854775807,.int .i64 (lsr a2 b0),.int .i64 a4,.int .i64 1,.int .i64 b5,.int .i64 b2,.int .i64 9223372036854775807,.int .i64 b4,.int .i64 1]
 have hgR:w.heap.size+1+1<wC.heap.size:=lies.lt D2
 replace D2:=lies.on_call D2 hA
 replace GA:=lies.on_call GA hA
 replace GB:=lies.on_call GB hA
 replace DB:=later DB hA
 clear hA
 refine hK.out _ _ ⟨GA,GB⟩ (fun hNew=>?_)
 clear hHeld hK K
 have hHeld:=hNew
 clear hNew
 try simp only [Act.put,sA,sB,sC,sD,sE,sF]
 generalize wC.heap.size=g at G hgR ⊢
 generalize wC.alloc (.cells #[.int .i64 1,.int .i64 a1,.int .i64 (lsr a3 b1),.int .i64 b3,.int .i64 a0,.int .i64 1,.int .i64 a5,.int .i64 9223372036854775807,.int .i64 (lsr a2 b0),.int .i64 a4,.int .i64 1,.int .i64 b5,.int .i64 b2,.int .i64 9223372036854775807,.int .i64 b4,.int .i64 1] 25)=wD at GA GB D2 DB G hHeld ⊢
 refine tk 27 (v:=?_) rfl hHeld ?_ ?_
 rotate_left
 ·intro w hSw;skip;go_simp;try with_reducible rfl
 try simp only [Act.put,sA,sB,sC,sD,sE,sF]
 obtain ⟨r0,r1,f0,f1,rl⟩:=lies.two D2
 refine wpAnyH_ready (rs:=[28]) (by kernel_rfl) (by simp) (AllReadyH.cons rfl (fun K hK=>?_) AllReadyH.nil)
 go_simp
 have hGA:lies.Lies (World.setCell (World.setCell wD ⟨w.heap.size+1+1,0,none⟩ (.int .i64 4)) ⟨w.heap.size+1+1,1,none⟩ (.slice (some ⟨g,0,none⟩) 16 16)) ga 25 #[.int .i64 1,.int .i64 a1,.int .i64 a3,.int .i64 a0,.int .i64 1,.int .i64 a5,.int .i64 a2,.int .i64 a4,.int .i64 1]:=lies.on_far (lies.on_far GA (b:=w.heap.size+1+1) 0 (by omega) _) (b:=w.heap.size+1+1) 1 (by omega) _
 have hGB:lies.Lies (World.setCell (World.setCell wD ⟨w.heap.size+1+1,0,none⟩ (.int .i64 4)) ⟨w.heap.size+1+1,1,none⟩ (.slice (some ⟨g,0,none⟩) 16 16)) gb 25 #[.int .i64 1,.int .i64 b1,.int .i64 b3,.int .i64 b0,.int .i64 1,.int .i64 b5,.int .i64 b2,.int .i64 b4,.int .i64 1]:=lies.on_far (lies.on_far GB (b:=w.heap.size+1+1) 0 (by omega) _) (b:=w.heap.size+1+1) 1 (by omega) _
 have hG:lies.Lies (World.setCell (World.setCell wD ⟨w.heap.size+1+1,0,none⟩ (.int .i64 4)) ⟨w.heap.size+1+1,1,none⟩ (.slice (some ⟨g,0,none⟩) 16 16)) g 25 #[.int .i64 1,.int .i64 a1,.int .i64 (lsr a3 b1),.int .i64 b3,.int .i64 a0,.int .i64 1,.int .i64 a5,.int .i64 9223372036854775807,.int .i64 (lsr a2 b0),.int .i64 a4,.int .i64 1,.int .i64 b5,.int .i64 b2,.int .i64 9223372036854775807,.int .i64 b4,.int .i64 1]:=lies.on_far (lies.on_far G (b:=w.heap.size+1+1) 0 (by omega) _) (b:=w.heap.size+1+1) 1 (by omega) _
 have hD2:=put_two D2 (.int .i64 4) (.slice (some ⟨g,0,none⟩) 16 16)
 have hDB:=(DB.setCell (p:=⟨w.heap.size+1+1,0,none⟩) (show w.heap.size≤w.heap.size+1+1 by omega) (.int .i64 4)).setCell (p:=⟨w.heap.size+1+1,1,none⟩) (show w.heap.size≤w.heap.size+1+1 by omega) (.slice (some ⟨g,0,none⟩) 16 16)
 refine hK.out _ _ ⟨hGA,hGB⟩ (fun hNew=>?_)
 clear hHeld hK K hNew GA GB G D2 DB r0 r1 f0 f1 rl hGA hGB
 refine wpAnyH_done (by kernel_rfl) ?_ _
 generalize World.setCell (World.setCell wD ⟨w.heap.size+1+1,0,none⟩ (.int .i64 4)) ⟨w.heap.size+1+1,1,none⟩ (.slice (some ⟨g,0,none⟩) 16 16)=wE at hG hD2 hDB ⊢
 obtain ⟨r0,r1,f0,f1,rl⟩:=lies.two hD2
 go_wp2_with fail
 exact bodyPost_ret (v:=.agg #[.int .i64 4,.slice (some ⟨g,0,none⟩) 16 16]) (by simp [results,Tryz.results154,go_sem,r0,r1]) rfl ⟨hDB,g,by omega,rfl,hG⟩
def nineT (l:List Int):List Int:=[l[0]?.getD 0,l[1]?.getD 0,l[3]?.getD 0,l[4]?.getD 0,l[5]?.getD 0,l[7]?.getD 0,l[12]?.getD 0,l[13]?.getD 0,l[15]?.getD 0]
theorem nine_is (l:List Int):proj.laidT 4 3 (proj.sk 2) l=nineT l:=rfl
theorem drop_nine (a b:List Int):proj.dropT 4 2 (bothT a b)=nineT (clT 4 (bothT a b)):=nine_is _
set_option maxRecDepth 100000 in
set_option maxHeartbeats 8000000 in
theorem rcomp_any (a0 a1 a2 a3 a4 a5 b0 b1 b2 b3 b4 b5:Int) (w:World) (la:Low [a0,a1,a2,a3,a4,a5]) (lb:Low [b0,b1,b2,b3,b4,b5]) (ta:Tops [a0,a1,a2,a3,a4,a5]) (tb:Tops [b0,b1,b2,b3,b4,b5]):Calls Tryz.prog 107 #[.agg #[.int .i64 a0,.int .i64 a1,.int .i64 a2,.int .i64 a3,.int .i64 a4,.int .i64 a5],.agg #[.int .i64 b0,.int .i64 b1,.int .i64 b2,.int .i64 b3,.int .i64 b4,.int .i64 b5]] w (Comps [a0,a1,a2,a3,a4,a5] [b0,b1,b2,b3,b4,b5] w):=by
 have X:∃ w0,w0=((w.alloc (.cells #[.int .i64 a0,.int .i64 a1,.int .i64 a2,.int .i64 a3,.int .i64 a4,.int .i64 a5] 27)).alloc (.cells #[.int .i64 b0,.int .i64 b1,.int .i64 b2,.int .i64 b3,.int .i64 b4,.int .i64 b5] 27)).alloc (.cells #[.int .i64 0,.int .i64 0,.int .i64 0,.int .i64 0,.int .i64 0,.int .i64 0] 27):=⟨_,rfl⟩
 obtain ⟨w0,hX⟩:=X
 have DB:Below w.heap.size w w0:=by rw [hX];exact bound.up3 _ _ _ _
 have D0:lies.Lies w0 w.heap.size 27 #[.int .i64 a0,.int .i64 a1,.int .i64 a2,.int .i64 a3,.int .i64 a4,.int .i64 a5]:=by rw [hX];exact lies.on_alloc (lies.on_alloc (lies.made _ _ _) _) _
 have D1:lies.Lies w0 (w.heap.size+1) 27 #[.int .i64 b0,.int .i64 b1,.int .i64 b2,.int .i64 b3,.int .i64 b4,.int .i64 b5]:=by rw [hX];exact lies.on_alloc (lies.made_at _ _ _ _ (by simp)) _
 have D2:lies.Lies w0 (w.heap.size+1+1) 27 #[.int .i64 0,.int .i64 0,.int .i64 0,.int .i64 0,.int .i64 0,.int .i64 0]:=by rw [hX];exact lies.made_at _ _ _ _ (by simp)
 have HTA:=Lib.hid ta
 have HTB:=Lib.hid tb
 have HLA:=Lib.hid la
 have HLB:=Lib.hid lb
 have hR:w.heap.size≤w.heap.size+1+1:=by omega
 clear ta tb la lb
 go_enter Tryz.func107,Tryz.ntmps107
 obtain ⟨⟨kD0_0,kD0_1,kD0_2,kD0_3,kD0_4,kD0_5⟩,-⟩:=six_cells D0
 have kD0_l:=lies.lt D0
 go_wp2_with fail
 clear kD0_0 kD0_1 kD0_2 kD0_3 kD0_4 kD0_5 kD0_l
 rw [←hX]
 clear hX
 refine (rmay_any a0 a1 a2 a3 a4 a5 w0 HLA.out HTA.out).mono ?_
 rintro e w1 ⟨hB,r1,rfl,h1⟩
 replace D0:=lies.on_call D0 hB
 replace D1:=lies.on_call D1 hB
 replace D2:=lies.on_call D2 hB
 replace DB:=later DB hB
 clear hB
 cases r1 with
 | false=>
  have HA:=Lib.hid (show ¬ MayZ [a0,a1,a2,a3,a4,a5] from fun q=>absurd (h1.2 q) (by decide))
  clear h1 D0 D1
  obtain ⟨⟨x0,x1,x2,x3,x4,x5⟩,⟨y0,y1,y2,y3,y4,y5⟩,xl⟩:=six_cells D2
  clear D2
  go_wp2_with fail
  exact bodyPost_ret (v:=.tuple #[.agg #[.int .i64 0,.int .i64 0,.int .i64 0,.int .i64 0,.int .i64 0,.int .i64 0],.int .i64 8]) (by simp [results,Tryz.results107,go_sem,x0,x1,x2,x3,x4,x5,xl]) rfl ⟨put_six DB hR _ _ _ _ _ _,0,0,0,0,0,0,8,rfl,.inl ⟨fun q=>HA.out q.1,rfl,rfl⟩⟩
 | true=>
  have HA:=Lib.hid (h1.1 rfl)
  clear h1
  obtain ⟨⟨kD1_0,kD1_1,kD1_2,kD1_3,kD1_4,kD1_5⟩,-⟩:=six_cells D1
  have kD1_l:=lies.lt D1
  go_wp2_with fail
  clear kD1_0 kD1_1 kD1_2 kD1_3 kD1_4 kD1_5 kD1_l
  refine (rmay_any b0 b1 b2 b3 b4 b5 w1 HLB.out HTB.out).mono ?_
  rintro e w2 ⟨hB,r2,rfl,h2⟩
  replace D0:=lies.on_call D0 hB
  replace D1:=lies.on_call D1 hB
  replace D2:=lies.on_call D2 hB
  replace DB:=later DB hB
  clear hB
  cases r2 with
  | false=>
   have HB:=Lib.hid (show ¬ MayZ [b0,b1,b2,b3,b4,b5] from fun q=>absurd (h2.2 q) (by decide))
   clear h2 D0 D1
   obtain ⟨⟨x0,x1,x2,x3,x4,x5⟩,⟨y0,y1,y2,y3,y4,y5⟩,xl⟩:=six_cells D2
   clear D2
   go_wp2_with fail
   exact bodyPost_ret (v:=.tuple #[.agg #[.int .i64 0,.int .i64 0,.int .i64 0,.int .i64 0,.int .i64 0,.int .i64 0],.int .i64 8]) (by simp [results,Tryz.results107,go_sem,x0,x1,x2,x3,x4,x5,xl]) rfl ⟨put_six DB hR _ _ _ _ _ _,0,0,0,0,0,0,8,rfl,.inl ⟨fun q=>HB.out q.2,rfl,rfl⟩⟩
  | true=>
   have HB:=Lib.hid (h2.1 rfl)
   clear h2
   obtain ⟨⟨kD0_0,kD0_1,kD0_2,kD0_3,kD0_4,kD0_5⟩,-⟩:=six_cells D0
   have kD0_l:=lies.lt D0
   obtain ⟨⟨kD1_0,kD1_1,kD1_2,kD1_3,kD1_4,kD1_5⟩,-⟩:=six_cells D1
   have kD1_l:=lies.lt D1
   go_wp2_with fail
   clear kD0_0 kD0_1 kD0_2 kD0_3 kD0_4 kD0_5 kD0_l kD1_0 kD1_1 kD1_2 kD1_3 kD1_4 kD1_5 kD1_l
   refine (both_is a0 a1 a2 a3 a4 a5 b0 b1 b2 b3 b4 b5 w2).mono ?_
   rintro e w3 ⟨hB,g,hg,rfl,hG⟩
   replace D0:=lies.on_call D0 hB
   replace D1:=lies.on_call D1 hB
   replace D2:=lies.on_call D2 hB
   replace DB:=later DB hB
   clear hB
   have hM:MatI 4 g 0 (bothT [a0,a1,a2,a3,a4,a5] [b0,b1,b2,b3,b4,b5]) w3:=⟨fun p hp=>by rw [Nat.zero_add];exact (lies.cell hG p).trans (cells_at _ p hp),lies.lt hG⟩
   have C:=Lib.hid (tref.closed_g 4 g 16 (bothT [a0,a1,a2,a3,a4,a5] [b0,b1,b2,b3,b4,b5]) w3 (by decide) (by decide) rfl (both_tops HTA.out HTB.out) (both_may HA.out.may HB.out.may) hM)
   clear hM hG hg D0 D1
   go_wp2_with fail
   refine C.out.mono ?_
   rintro e w9 ⟨hB,⟨hno,rfl⟩ | ⟨hok,la,ll,lc,rfl,hO⟩⟩
   ·have HN:=Lib.hid hno
    replace D2:=lies.on_call D2 hB
    replace DB:=later DB hB
    clear hB
    clear hno C
    obtain ⟨⟨x0,x1,x2,x3,x4,x5⟩,⟨y0,y1,y2,y3,y4,y5⟩,xl⟩:=six_cells D2
    clear D2
    go_wp2_with fail
    exact bodyPost_ret (v:=.tuple #[.agg #[.int .i64 0,.int .i64 0,.int .i64 0,.int .i64 0,.int .i64 0,.int .i64 0],.int .i64 6]) (by simp [results,Tryz.results107,go_sem,x0,x1,x2,x3,x4,x5,xl]) rfl ⟨lies.frame_up (put_six DB hR _ _ _ _ _ _) _,0,0,0,0,0,0,6,rfl,.inr (.inl ⟨HA.out,HB.out,HN.out,rfl,rfl⟩)⟩
   ·have HO:=Lib.hid hok
    replace D2:=lies.on_call D2 hB
    replace DB:=later DB hB
    clear hB
    clear C hok
    have hcl:(clT 4 (bothT [a0,a1,a2,a3,a4,a5] [b0,b1,b2,b3,b4,b5])).length=16:=(clT_length HO.out).trans rfl
    have hLW:dref.Low (clT 4 (bothT [a0,a1,a2,a3,a4,a5] [b0,b1,b2,b3,b4,b5])):=cl_low (n:=4) (by decide) (by decide) rfl (both_tops HTA.out HTB.out) HO.out
    have hTP:Tops (clT 4 (bothT [a0,a1,a2,a3,a4,a5] [b0,b1,b2,b3,b4,b5])):=clT_tops (both_tops HTA.out HTB.out)
    have HCF:=Lib.hid (comp_full HTA.out HTB.out HO.out)
    have HDN:=Lib.hid (drop_nine [a0,a1,a2,a3,a4,a5] [b0,b1,b2,b3,b4,b5])
    have HCM:=Lib.hid (fun q=>comp_may HTA.out HTB.out HO.out q)
    generalize hK:clT 4 (bothT [a0,a1,a2,a3,a4,a5] [b0,b1,b2,b3,b4,b5])=cl at hO hcl hLW hTP HDN
    obtain ⟨q,ec⟩:∃ q,Value.slice la ll lc=.slice (some ⟨q,0,none⟩) 16 lc:=by
     rcases ownsRow_forms hO with ⟨_,h0⟩ | ⟨q,cap,e⟩
     ·omega
     ·injection e with e1 e2 e3;rw [hcl] at e2;exact ⟨q,by rw [e1,e2]⟩
    injection ec with e1 e2 e3
    subst e1 e2
    clear e3 hK
    rw [hcl] at hO
    have hc:∀ k,k<16→w9.cell? ⟨q,k,none⟩=some (.int .i64 (cl[k]?.getD 0)):=fun k hk=>by
     have:=hO.cellAt k (by omega)
     rw [List.getElem?_map,List.getElem?_eq_getElem (by omega)] at this
     rw [List.getElem?_eq_getElem (by omega)]
     exact this
    have hqw:=(hO.lt q rfl).2
    have hl9:dref.Low (nineT cl)∧Tops (nineT cl):=by
     have hg:∀ k,k<16→cl[k]?.getD 0 ∈ cl:=fun k hk=>by rw [List.getElem?_eq_getElem (by omega)];exact List.getElem_mem _
     constructor
     ·intro x hx;unfold nineT at hx;simp only [List.mem_cons,List.not_mem_nil,or_false] at hx;rcases hx with rfl | rfl | rfl | rfl | rfl | rfl | rfl | rfl | rfl<;>exact hLW _ (hg _ (by decide))
     ·intro x hx;unfold nineT at hx;simp only [List.mem_cons,List.not_mem_nil,or_false] at hx;rcases hx with rfl | rfl | rfl | rfl | rfl | rfl | rfl | rfl | rfl<;>exact hTP _ (hg _ (by decide))
    have c0:=hc 0 (by decide)
    have c1:=hc 1 (by decide)
    have c2:=hc 3 (by decide)
    have c3:=hc 4 (by decide)
    have c4:=hc 5 (by decide)
    have c5:=hc 7 (by decide)
    have c6:=hc 12 (by decide)
    have c7:=hc 13 (by decide)
    have c8:=hc 15 (by decide)
    have HNN:=Lib.hid (show nineT cl=[cl[0]?.getD 0,cl[1]?.getD 0,cl[3]?.getD 0,cl[4]?.getD 0,cl[5]?.getD 0,cl[7]?.getD 0,cl[12]?.getD 0,cl[13]?.getD 0,cl[15]?.getD 0] from rfl)
    rw [HNN.out] at hl9
    generalize cl[0]?.getD 0=n0 at HNN hl9 c0
    generalize cl[1]?.getD 0=n1 at HNN hl9 c1
    generalize cl[3]?.getD 0=n2 at HNN hl9 c2
    generalize cl[4]?.getD 0=n3 at HNN hl9 c3
    generalize cl[5]?.getD 0=n4 at HNN hl9 c4
    generalize cl[7]?.getD 0=n5 at HNN hl9 c5
    generalize cl[12]?.getD 0=n6 at HNN hl9 c6
    generalize cl[13]?.getD 0=n7 at HNN hl9 c7
    generalize cl[15]?.getD 0=n8 at HNN hl9 c8
    have HLT:=Lib.hid hl9
    clear hl9 hc hO hLW hTP hcl
    have HDR:RowKit.Hid (proj.dropT 4 2 (bothT [a0,a1,a2,a3,a4,a5] [b0,b1,b2,b3,b4,b5])=[n0,n1,n2,n3,n4,n5,n6,n7,n8]):=Lib.hid (HDN.out.trans HNN.out)
    clear HDN HNN
    go_wp2_with fail
    have hA:=bound.up1 w9 (.cells #[.int .i64 4,.slice (some ⟨q,0,none⟩) 16 lc] 81)
    replace c0:=(hA.cell (p:=⟨q,0,none⟩) hqw).trans c0
    replace c1:=(hA.cell (p:=⟨q,1,none⟩) hqw).trans c1
    replace c2:=(hA.cell (p:=⟨q,3,none⟩) hqw).trans c2
    replace c3:=(hA.cell (p:=⟨q,4,none⟩) hqw).trans c3
    replace c4:=(hA.cell (p:=⟨q,5,none⟩) hqw).trans c4
    replace c5:=(hA.cell (p:=⟨q,7,none⟩) hqw).trans c5
    replace c6:=(hA.cell (p:=⟨q,12,none⟩) hqw).trans c6
    replace c7:=(hA.cell (p:=⟨q,13,none⟩) hqw).trans c7
    replace c8:=(hA.cell (p:=⟨q,15,none⟩) hqw).trans c8
    replace hqw:=Nat.lt_of_lt_of_le hqw hA.size
    replace D2:=lies.on_call D2 hA
    replace DB:=later DB hA
    clear hA
    generalize w9.alloc (.cells #[.int .i64 4,.slice (some ⟨q,0,none⟩) 16 lc] 81)=wS at D2 DB c0 c1 c2 c3 c4 c5 c6 c7 c8 hqw ⊢
    have HC:=Lib.hid (fun (W:World) (h:Below wS.heap.size wS W)=>And.intro ((h.cell (p:=⟨q,0,none⟩) hqw).trans c0) (And.intro ((h.cell (p:=⟨q,1,none⟩) hqw).trans c1) (And.intro ((h.cell (p:=⟨q,3,none⟩) hqw).trans c2) (And.intro ((h.cell (p:=⟨q,4,none⟩) hqw).trans c3) (And.intro ((h.cell (p:=⟨q,5,none⟩) hqw).trans c4) (And.intro ((h.cell (p:=⟨q,7,none⟩) hqw).trans c5) (And.intro ((h.cell (p:=⟨q,12,none⟩) hqw).trans c6) (And.intro ((h.cell (p:=⟨q,13,none⟩) hqw).trans c7) ((h.cell (p:=⟨q,15,none⟩) hqw).trans c8)))))))))
    clear c0 c1 c2 c3 c4 c5 c6 c7 c8 hqw
    refine wp_region_held_drew (S:=Below wS.heap.size wS) (by kernel_rfl) (dbm.drawn1 (Below.refl _ _)) (fun hHeld=>?_)
    generalize wS.drew=wD at hHeld ⊢
    refine tk 0 (v:=?_) rfl hHeld ?_ ?_
    rotate_left
    ·intro w hSw;obtain ⟨q0,q1,q2,q3,q4,q5,q6,q7,q8⟩:=HC.out _ hSw;go_simp;try with_reducible rfl
    try simp only [Act.put,sA,sB,sC,sD,sE,sF]
    refine tk 1 (v:=?_) rfl hHeld ?_ ?_
    rotate_left
    ·intro w hSw;obtain ⟨q0,q1,q2,q3,q4,q5,q6,q7,q8⟩:=HC.out _ hSw;go_simp;try with_reducible rfl
    try simp only [Act.put,sA,sB,sC,sD,sE,sF]
    refine tk 2 (v:=?_) rfl hHeld ?_ ?_
    rotate_left
    ·intro w hSw;obtain ⟨q0,q1,q2,q3,q4,q5,q6,q7,q8⟩:=HC.out _ hSw;go_simp;try with_reducible rfl
    try simp only [Act.put,sA,sB,sC,sD,sE,sF]
    refine tk 3 (v:=?_) rfl hHeld ?_ ?_
    rotate_left
    ·intro w hSw;obtain ⟨q0,q1,q2,q3,q4,q5,q6,q7,q8⟩:=HC.out _ hSw;go_simp;try with_reducible rfl
    try simp only [Act.put,sA,sB,sC,sD,sE,sF]
    refine tk 4 (v:=?_) rfl hHeld ?_ ?_
    rotate_left
    ·intro w hSw;obtain ⟨q0,q1,q2,q3,q4,q5,q6,q7,q8⟩:=HC.out _ hSw;go_simp;try with_reducible rfl
    try simp only [Act.put,sA,sB,sC,sD,sE,sF]
    refine tk 5 (v:=?_) rfl hHeld ?_ ?_
    rotate_left
    ·intro w hSw;obtain ⟨q0,q1,q2,q3,q4,q5,q6,q7,q8⟩:=HC.out _ hSw;go_simp;try with_reducible rfl
    try simp only [Act.put,sA,sB,sC,sD,sE,sF]
    refine tk 6 (v:=?_) rfl hHeld ?_ ?_
    rotate_left
    ·intro w hSw;obtain ⟨q0,q1,q2,q3,q4,q5,q6,q7,q8⟩:=HC.out _ hSw;go_simp;try with_reducible rfl
    try simp only [Act.put,sA,sB,sC,sD,sE,sF]
    refine tk 7 (v:=?_) rfl hHeld ?_ ?_
    rotate_left
    ·intro w hSw;obtain ⟨q0,q1,q2,q3,q4,q5,q6,q7,q8⟩:=HC.out _ hSw;go_simp;try with_reducible rfl
    try simp only [Act.put,sA,sB,sC,sD,sE,sF]
    refine tk 8 (v:=?_) rfl hHeld ?_ ?_
    rotate_left
    ·intro w hSw;obtain ⟨q0,q1,q2,q3,q4,q5,q6,q7,q8⟩:=HC.out _ hSw;go_simp;try with_reducible rfl
    try simp only [Act.put,sA,sB,sC,sD,sE,sF]
    refine tk 9 (v:=?_) rfl hHeld ?_ ?_
    rotate_left
    ·intro w hSw;obtain ⟨q0,q1,q2,q3,q4,q5,q6,q7,q8⟩:=HC.out _ hSw;go_simp;try with_reducible rfl
    try simp only [Act.put,sA,sB,sC,sD,sE,sF]
    refine tk 10 (v:=?_) rfl hHeld ?_ ?_
    rotate_left
    ·intro w hSw;obtain ⟨q0,q1,q2,q3,q4,q5,q6,q7,q8⟩:=HC.out _ hSw;go_simp;try with_reducible rfl
    try simp only [Act.put,sA,sB,sC,sD,sE,sF]
    refine tk 11 (v:=?_) rfl hHeld ?_ ?_
    rotate_left
    ·intro w hSw;obtain ⟨q0,q1,q2,q3,q4,q5,q6,q7,q8⟩:=HC.out _ hSw;go_simp;try with_reducible rfl
    try simp only [Act.put,sA,sB,sC,sD,sE,sF]
    refine tk 12 (v:=?_) rfl hHeld ?_ ?_
    rotate_left
    ·intro w hSw;obtain ⟨q0,q1,q2,q3,q4,q5,q6,q7,q8⟩:=HC.out _ hSw;go_simp;try with_reducible rfl
    try simp only [Act.put,sA,sB,sC,sD,sE,sF]
    refine tk 13 (v:=?_) rfl hHeld ?_ ?_
    rotate_left
    ·intro w hSw;obtain ⟨q0,q1,q2,q3,q4,q5,q6,q7,q8⟩:=HC.out _ hSw;go_simp;try with_reducible rfl
    try simp only [Act.put,sA,sB,sC,sD,sE,sF]
    refine tk 14 (v:=?_) rfl hHeld ?_ ?_
    rotate_left
    ·intro w hSw;obtain ⟨q0,q1,q2,q3,q4,q5,q6,q7,q8⟩:=HC.out _ hSw;go_simp;try with_reducible rfl
    try simp only [Act.put,sA,sB,sC,sD,sE,sF]
    refine tk 15 (v:=?_) rfl hHeld ?_ ?_
    rotate_left
    ·intro w hSw;obtain ⟨q0,q1,q2,q3,q4,q5,q6,q7,q8⟩:=HC.out _ hSw;go_simp;try with_reducible rfl
    try simp only [Act.put,sA,sB,sC,sD,sE,sF]
    refine tk 16 (v:=?_) rfl hHeld ?_ ?_
    rotate_left
    ·intro w hSw;obtain ⟨q0,q1,q2,q3,q4,q5,q6,q7,q8⟩:=HC.out _ hSw;go_simp;try with_reducible rfl
    try simp only [Act.put,sA,sB,sC,sD,sE,sF]
    refine tk 17 (v:=?_) rfl hHeld ?_ ?_
    rotate_left
    ·intro w hSw;obtain ⟨q0,q1,q2,q3,q4,q5,q6,q7,q8⟩:=HC.out _ hSw;go_simp;try with_reducible rfl
    try simp only [Act.put,sA,sB,sC,sD,sE,sF]
    refine tk 18 (v:=?_) rfl hHeld ?_ ?_
    rotate_left
    ·intro w hSw;obtain ⟨q0,q1,q2,q3,q4,q5,q6,q7,q8⟩:=HC.out _ hSw;go_simp;try with_reducible rfl
    try simp only [Act.put,sA,sB,sC,sD,sE,sF]
    refine tk 19 (v:=?_) rfl hHeld ?_ ?_
    rotate_left
    ·intro w hSw;obtain ⟨q0,q1,q2,q3,q4,q5,q6,q7,q8⟩:=HC.out _ hSw;go_simp;try with_reducible rfl
    try simp only [Act.put,sA,sB,sC,sD,sE,sF]
    refine tk 20 (v:=?_) rfl hHeld ?_ ?_
    rotate_left
    ·intro w hSw;obtain ⟨q0,q1,q2,q3,q4,q5,q6,q7,q8⟩:=HC.out _ hSw;go_simp;try with_reducible rfl
    try simp only [Act.put,sA,sB,sC,sD,sE,sF]
    refine tk 21 (v:=?_) rfl hHeld ?_ ?_
    rotate_left
    ·intro w hSw;obtain ⟨q0,q1,q2,q3,q4,q5,q6,q7,q8⟩:=HC.out _ hSw;go_simp;try with_reducible rfl
    try simp only [Act.put,sA,sB,sC,sD,sE,sF]
    refine tk 22 (v:=?_) rfl hHeld ?_ ?_
    rotate_left
    ·intro w hSw;obtain ⟨q0,q1,q2,q3,q4,q5,q6,q7,q8⟩:=HC.out _ hSw;go_simp;try with_reducible rfl
    try simp only [Act.put,sA,sB,sC,sD,sE,sF]
    refine tk 23 (v:=?_) rfl hHeld ?_ ?_
    rotate_left
    ·intro w hSw;obtain ⟨q0,q1,q2,q3,q4,q5,q6,q7,q8⟩:=HC.out _ hSw;go_simp;try with_reducible rfl
    try simp only [Act.put,sA,sB,sC,sD,sE,sF]
    refine tk 24 (v:=?_) rfl hHeld ?_ ?_
    rotate_left
    ·intro w hSw;obtain ⟨q0,q1,q2,q3,q4,q5,q6,q7,q8⟩:=HC.out _ hSw;go_simp;try with_reducible rfl
    try simp only [Act.put,sA,sB,sC,sD,sE,sF]
    refine tk 25 (v:=?_) rfl hHeld ?_ ?_
    rotate_left
    ·intro w hSw;obtain ⟨q0,q1,q2,q3,q4,q5,q6,q7,q8⟩:=HC.out _ hSw;go_simp;try with_reducible rfl
    try simp only [Act.put,sA,sB,sC,sD,sE,sF]
    refine tk 26 (v:=?_) rfl hHeld ?_ ?_
    rotate_left
    ·intro w hSw;obtain ⟨q0,q1,q2,q3,q4,q5,q6,q7,q8⟩:=HC.out _ hSw;go_simp;try with_reducible rfl
    try simp only [Act.put,sA,sB,sC,sD,sE,sF]
    clear HC
    refine wpAnyH_ready (rs:=[27,29]) (by kernel_rfl) (by simp) (AllReadyH.cons rfl (fun K hK=>?_) (AllReadyH.cons rfl (fun K hK=>?_) AllReadyH.nil))
    ·go_simp
     have hG9:=hHeld.size
     have G9:=lies.made wD 25 #[.int .i64 n0,.int .i64 n1,.int .i64 n2,.int .i64 n3,.int .i64 n4,.int .i64 n5,.int .i64 n6,.int .i64 n7,.int .i64 n8]
     have hAl:=hHeld.trans ((bound.up1 wD (.cells #[.int .i64 n0,.int .i64 n1,.int .i64 n2,.int .i64 n3,.int .i64 n4,.int .i64 n5,.int .i64 n6,.int .i64 n7,.int .i64 n8] 25)).mono hHeld.size)
     refine hK.out _ _ hAl (fun hNew=>?_)
     clear hAl
     clear hHeld hK K
     have hHeld:=hNew
     clear hNew
     try simp only [Act.put,sA,sB,sC,sD,sE,sF]
     generalize (World.heap wD).size=XG9 at hG9 G9 ⊢
     generalize World.alloc wD (.cells #[.int .i64 n0,.int .i64 n1,.int .i64 n2,.int .i64 n3,.int .i64 n4,.int .i64 n5,.int .i64 n6,.int .i64 n7,.int .i64 n8] 25)=wA at G9 hHeld ⊢
     refine tk 28 (v:=?_) rfl hHeld ?_ ?_
     rotate_left
     ·intro w hSw;skip;go_simp;try with_reducible rfl
     try simp only [Act.put,sA,sB,sC,sD,sE,sF]
     refine wpAnyH_ready (rs:=[29]) (by kernel_rfl) (by simp) (AllReadyH.cons rfl (fun K hK=>?_) AllReadyH.nil)
     go_simp
     have hBX:=hHeld.size
     have BX:=lies.made wA 81 #[.int .i64 0,.slice none 0 0]
     replace G9:=lies.on_alloc G9 (.cells #[.int .i64 0,.slice none 0 0] 81)
     have hAl:=hHeld.trans ((bound.up1 wA (.cells #[.int .i64 0,.slice none 0 0] 81)).mono hHeld.size)
     refine hK.out _ _ hAl (fun hNew=>?_)
     clear hAl
     clear hHeld hK K
     have hHeld:=hNew
     clear hNew
     try simp only [Act.put,sA,sB,sC,sD,sE,sF]
     generalize (World.heap wA).size=XBX at hBX BX ⊢
     generalize World.alloc wA (.cells #[.int .i64 0,.slice none 0 0] 81)=wB at BX G9 hHeld ⊢
     obtain ⟨b0,b1,g0,g1,bl⟩:=lies.two BX
     have hne:=ne_type G9 BX (by decide)
     refine wpAnyH_ready (rs:=[30]) (by kernel_rfl) (by simp) (AllReadyH.cons rfl (fun K hK=>?_) AllReadyH.nil)
     go_simp
     replace G9:=lies.on_far (lies.on_far G9 (b:=XBX) 0 hne (.int .i64 3)) (b:=XBX) 1 hne (.slice (some ⟨XG9,0,none⟩) 9 9)
     replace BX:=put_two BX (.int .i64 3) (.slice (some ⟨XG9,0,none⟩) 9 9)
     replace hHeld:=(hHeld.setCell (p:=⟨XBX,0,none⟩) hBX (.int .i64 3)).setCell (p:=⟨XBX,1,none⟩) hBX (.slice (some ⟨XG9,0,none⟩) 9 9)
     clear b0 b1 g0 g1 bl
     refine hK.out _ _ hHeld (fun hNew=>?_)
     clear hK K hNew
     refine wpAnyH_done (by kernel_rfl) ?_ _
     generalize World.setCell (World.setCell wB ⟨XBX,0,none⟩ (.int .i64 3)) ⟨XBX,1,none⟩ (.slice (some ⟨XG9,0,none⟩) 9 9)=wE at G9 BX hHeld ⊢
     replace D2:=lies.on_call D2 hHeld
     replace DB:=later DB hHeld
     clear hHeld hBX hG9 hne
     obtain ⟨t0,t1,-,-,tl⟩:=lies.two BX
     go_wp2_with fail
     clear t0 t1 tl
     refine (dref.may_any 3 _ [n0,n1,n2,n3,n4,n5,n6,n7,n8] wE (dlaw.own_ints (cap:=9) G9) (show 9≤1000000 by decide) HLT.out.1 HLT.out.2).mono ?_
     rintro e wF ⟨rfl,hB⟩
     replace D2:=lies.on_call D2 hB
     replace BX:=lies.on_call BX hB
     replace G9:=lies.on_call G9 hB
     replace DB:=later DB hB
     clear hB
     by_cases hm:MayD 3 [n0,n1,n2,n3,n4,n5,n6,n7,n8]
     ·rw [decide_eq_true hm]
      have HM:=Lib.hid hm
      clear hm
      obtain ⟨t0,t1,-,-,tl⟩:=lies.two BX
      go_wp2_with fail
      clear t0 t1 tl
      refine (short_is 3 XG9 9 [n0,n1,n2,n3,n4,n5,n6,n7,n8] wF (row_of G9) (lies.lt G9) rfl).mono ?_
      rintro e wG ⟨hB,v0,v1,v2,v3,v4,v5,rfl,hv⟩
      replace D2:=lies.on_call D2 hB
      replace DB:=later DB hB
      clear hB BX G9
      have HV:RowKit.Hid (CompR [a0,a1,a2,a3,a4,a5] [b0,b1,b2,b3,b4,b5] [v0,v1,v2,v3,v4,v5] 0):=Lib.hid (.inr (.inr (.inr ⟨HA.out,HB.out,HO.out,HCM.out (by rw [HDR.out];exact HM.out),by rw [hv];unfold compT;rw [HDR.out],rfl⟩)))
      clear hv
      obtain ⟨⟨x0,x1,x2,x3,x4,x5⟩,⟨y0,y1,y2,y3,y4,y5⟩,xl⟩:=six_cells D2
      clear D2
      go_wp2_with fail
      exact bodyPost_ret (v:=.tuple #[.agg #[.int .i64 v0,.int .i64 v1,.int .i64 v2,.int .i64 v3,.int .i64 v4,.int .i64 v5],.int .i64 0]) (by simp [results,Tryz.results107,go_sem,x0,x1,x2,x3,x4,x5,xl]) rfl ⟨put_six DB hR _ _ _ _ _ _,v0,v1,v2,v3,v4,v5,0,rfl,HV.out⟩
     ·rw [decide_eq_false hm]
      have HM:=Lib.hid hm
      clear hm BX G9
      obtain ⟨⟨x0,x1,x2,x3,x4,x5⟩,⟨y0,y1,y2,y3,y4,y5⟩,xl⟩:=six_cells D2
      clear D2
      go_wp2_with fail
      exact bodyPost_ret (v:=.tuple #[.agg #[.int .i64 0,.int .i64 0,.int .i64 0,.int .i64 0,.int .i64 0,.int .i64 0],.int .i64 8]) (by simp [results,Tryz.results107,go_sem,x0,x1,x2,x3,x4,x5,xl]) rfl ⟨put_six DB hR _ _ _ _ _ _,0,0,0,0,0,0,8,rfl,.inr (.inr (.inl ⟨HA.out,HB.out,HO.out,by rw [HCF.out,HDR.out];exact HM.out,rfl,rfl⟩))⟩
    ·go_simp
     have hBX:=hHeld.size
     have BX:=lies.made wD 81 #[.int .i64 0,.slice none 0 0]
     have hAl:=hHeld.trans ((bound.up1 wD (.cells #[.int .i64 0,.slice none 0 0] 81)).mono hHeld.size)
     refine hK.out _ _ hAl (fun hNew=>?_)
     clear hAl
     clear hHeld hK K
     have hHeld:=hNew
     clear hNew
     try simp only [Act.put,sA,sB,sC,sD,sE,sF]
     generalize (World.heap wD).size=XBX at hBX BX ⊢
     generalize World.alloc wD (.cells #[.int .i64 0,.slice none 0 0] 81)=wA at BX hHeld ⊢
     refine wpAnyH_ready (rs:=[27]) (by kernel_rfl) (by simp) (AllReadyH.cons rfl (fun K hK=>?_) AllReadyH.nil)
     go_simp
     have hG9:=hHeld.size
     have G9:=lies.made wA 25 #[.int .i64 n0,.int .i64 n1,.int .i64 n2,.int .i64 n3,.int .i64 n4,.int .i64 n5,.int .i64 n6,.int .i64 n7,.int .i64 n8]
     replace BX:=lies.on_alloc BX (.cells #[.int .i64 n0,.int .i64 n1,.int .i64 n2,.int .i64 n3,.int .i64 n4,.int .i64 n5,.int .i64 n6,.int .i64 n7,.int .i64 n8] 25)
     have hAl:=hHeld.trans ((bound.up1 wA (.cells #[.int .i64 n0,.int .i64 n1,.int .i64 n2,.int .i64 n3,.int .i64 n4,.int .i64 n5,.int .i64 n6,.int .i64 n7,.int .i64 n8] 25)).mono hHeld.size)
     refine hK.out _ _ hAl (fun hNew=>?_)
     clear hAl
     clear hHeld hK K
     have hHeld:=hNew
     clear hNew
     try simp only [Act.put,sA,sB,sC,sD,sE,sF]
     generalize (World.heap wA).size=XG9 at hG9 G9 ⊢
     generalize World.alloc wA (.cells #[.int .i64 n0,.int .i64 n1,.int .i64 n2,.int .i64 n3,.int .i64 n4,.int .i64 n5,.int .i64 n6,.int .i64 n7,.int .i64 n8] 25)=wB at G9 BX hHeld ⊢
     refine tk 28 (v:=?_) rfl hHeld ?_ ?_
     rotate_left
     ·intro w hSw;skip;go_simp;try with_reducible rfl
     try simp only [Act.put,sA,sB,sC,sD,sE,sF]
     obtain ⟨b0,b1,g0,g1,bl⟩:=lies.two BX
     have hne:=ne_type G9 BX (by decide)
     refine wpAnyH_ready (rs:=[30]) (by kernel_rfl) (by simp) (AllReadyH.cons rfl (fun K hK=>?_) AllReadyH.nil)
     go_simp
     replace G9:=lies.on_far (lies.on_far G9 (b:=XBX) 0 hne (.int .i64 3)) (b:=XBX) 1 hne (.slice (some ⟨XG9,0,none⟩) 9 9)
     replace BX:=put_two BX (.int .i64 3) (.slice (some ⟨XG9,0,none⟩) 9 9)
     replace hHeld:=(hHeld.setCell (p:=⟨XBX,0,none⟩) hBX (.int .i64 3)).setCell (p:=⟨XBX,1,none⟩) hBX (.slice (some ⟨XG9,0,none⟩) 9 9)
     clear b0 b1 g0 g1 bl
     refine hK.out _ _ hHeld (fun hNew=>?_)
     clear hK K hNew
     refine wpAnyH_done (by kernel_rfl) ?_ _
     generalize World.setCell (World.setCell wB ⟨XBX,0,none⟩ (.int .i64 3)) ⟨XBX,1,none⟩ (.slice (some ⟨XG9,0,none⟩) 9 9)=wE at G9 BX hHeld ⊢
     replace D2:=lies.on_call D2 hHeld
     replace DB:=later DB hHeld
     clear hHeld hBX hG9 hne
     obtain ⟨t0,t1,-,-,tl⟩:=lies.two BX
     go_wp2_with fail
     clear t0 t1 tl
     refine (dref.may_any 3 _ [n0,n1,n2,n3,n4,n5,n6,n7,n8] wE (dlaw.own_ints (cap:=9) G9) (show 9≤1000000 by decide) HLT.out.1 HLT.out.2).mono ?_
     rintro e wF ⟨rfl,hB⟩
     replace D2:=lies.on_call D2 hB
     replace BX:=lies.on_call BX hB
     replace G9:=lies.on_call G9 hB
     replace DB:=later DB hB
     clear hB
     by_cases hm:MayD 3 [n0,n1,n2,n3,n4,n5,n6,n7,n8]
     ·rw [decide_eq_true hm]
      have HM:=Lib.hid hm
      clear hm
      obtain ⟨t0,t1,-,-,tl⟩:=lies.two BX
      go_wp2_with fail
      clear t0 t1 tl
      refine (short_is 3 XG9 9 [n0,n1,n2,n3,n4,n5,n6,n7,n8] wF (row_of G9) (lies.lt G9) rfl).mono ?_
      rintro e wG ⟨hB,v0,v1,v2,v3,v4,v5,rfl,hv⟩
      replace D2:=lies.on_call D2 hB
      replace DB:=later DB hB
      clear hB BX G9
      have HV:RowKit.Hid (CompR [a0,a1,a2,a3,a4,a5] [b0,b1,b2,b3,b4,b5] [v0,v1,v2,v3,v4,v5] 0):=Lib.hid (.inr (.inr (.inr ⟨HA.out,HB.out,HO.out,HCM.out (by rw [HDR.out];exact HM.out),by rw [hv];unfold compT;rw [HDR.out],rfl⟩)))
      clear hv
      obtain ⟨⟨x0,x1,x2,x3,x4,x5⟩,⟨y0,y1,y2,y3,y4,y5⟩,xl⟩:=six_cells D2
      clear D2
      go_wp2_with fail
      exact bodyPost_ret (v:=.tuple #[.agg #[.int .i64 v0,.int .i64 v1,.int .i64 v2,.int .i64 v3,.int .i64 v4,.int .i64 v5],.int .i64 0]) (by simp [results,Tryz.results107,go_sem,x0,x1,x2,x3,x4,x5,xl]) rfl ⟨put_six DB hR _ _ _ _ _ _,v0,v1,v2,v3,v4,v5,0,rfl,HV.out⟩
     ·rw [decide_eq_false hm]
      have HM:=Lib.hid hm
      clear hm BX G9
      obtain ⟨⟨x0,x1,x2,x3,x4,x5⟩,⟨y0,y1,y2,y3,y4,y5⟩,xl⟩:=six_cells D2
      clear D2
      go_wp2_with fail
      exact bodyPost_ret (v:=.tuple #[.agg #[.int .i64 0,.int .i64 0,.int .i64 0,.int .i64 0,.int .i64 0,.int .i64 0],.int .i64 8]) (by simp [results,Tryz.results107,go_sem,x0,x1,x2,x3,x4,x5,xl]) rfl ⟨put_six DB hR _ _ _ _ _ _,0,0,0,0,0,0,8,rfl,.inr (.inr (.inl ⟨HA.out,HB.out,HO.out,by rw [HCF.out,HDR.out];exact HM.out,rfl,rfl⟩))⟩
end Go.Proofs.YthmljpccbjolgaaGreatDoor.cref
namespace Go.Proofs.YthmljpccbjolgaaGreatDoor.cref
open Go.Joins Go.ChangeShapes Go.WideShapes Go.ChangeAt Go.RowKit num rat dbm Go.Proofs.YthmljpccbjolgaaGreatDoor.tight Go.Proofs.YthmljpccbjolgaaGreatDoor.incl Go.Proofs.YthmljpccbjolgaaGreatDoor.plaw Go.Proofs.YthmljpccbjolgaaGreatDoor.zopen Go.Proofs.YthmljpccbjolgaaGreatDoor.zone Go.Proofs.YthmljpccbjolgaaGreatDoor.zref Go.Proofs.YthmljpccbjolgaaGreatDoor.comp dref
open bound hiding up
set_option linter.unusedVariables false
set_option linter.unusedSimpArgs false
end Go.Proofs.YthmljpccbjolgaaGreatDoor.cref
