
/-
  What rallentandoref06 answers; each theorem names its conditions.
-/
import Derived.Test.YthmljpccbjolgaaGreatDoorInclC
import Derived.Test.YthmljpccbjolgaaGreatDoorTightC
namespace Go.Proofs.YthmljpccbjolgaaGreatDoor.iref
open Go.ChangeShapes Go.WideShapes Go.ChangeAt Go.RowKit num rat dbm way Go.Proofs.YthmljpccbjolgaaGreatDoor.tight Go.Proofs.YthmljpccbjolgaaGreatDoor.incl Go.Proofs.YthmljpccbjolgaaGreatDoor.tref
open bound hiding up
set_option linter.unusedVariables false
set_option linter.unusedSimpArgs false
set_option linter.unusedSectionVars false
section
variable {n:Nat} {ts us:List Int} (h0:0<n) (hn:n≤4) (hl:ts.length=n*n) (hu:us.length=n*n) (htop:Tops ts) (hto:Tops us) (ht:MayD n ts) (hm:MayD n us)
include h0 hn hl hu htop hto ht hm
end
end Go.Proofs.YthmljpccbjolgaaGreatDoor.iref
namespace Go.Proofs.YthmljpccbjolgaaGreatDoor.iref
open Go.ChangeShapes Go.WideShapes Go.ChangeAt Go.RowKit num rat dbm way Go.Proofs.YthmljpccbjolgaaGreatDoor.tight Go.Proofs.YthmljpccbjolgaaGreatDoor.incl Go.Proofs.YthmljpccbjolgaaGreatDoor.tref Go.Proofs.YthmljpccbjolgaaGreatDoor.tlaw
open bound hiding up
set_option linter.unusedVariables false
set_option linter.unusedSimpArgs false
end Go.Proofs.YthmljpccbjolgaaGreatDoor.iref
namespace Go.Proofs.YthmljpccbjolgaaGreatDoor.iref
open Go.ChangeShapes Go.WideShapes Go.ChangeAt Go.RowKit num rat dbm way Go.Proofs.YthmljpccbjolgaaGreatDoor.tight Go.Proofs.YthmljpccbjolgaaGreatDoor.incl Go.Proofs.YthmljpccbjolgaaGreatDoor.tref Go.Proofs.YthmljpccbjolgaaGreatDoor.tlaw
open bound hiding up
set_option linter.unusedVariables false
set_option linter.unusedSimpArgs false
/-! a time and a number more -/
set_option maxHeartbeats 1000000 in
theorem shift_k (a b n P Q E:Int) (w:World) (a1:-9223372036854775808≤a) (a2:a≤9223372036854775807) (n1:-9223372036854775808≤n) (n2:n≤9223372036854775807) (eP:partN 1 a b n 1=P) (eQ:partD 1 a b n 1=Q) (eE:partE 1 a b n 1=E):
  Calls Tryz.prog 225 #[.agg #[.int .i64 (a),.int .i64 (b)],.int .i64 n] w fun e w'=>e=.returned (.agg #[.int .i64 (P),.int .i64 (Q)])∧Below w.heap.size w w':=by
 have C:=Lib.hid (fun W=>rref.add_any a b n 1 W a1 a2 n1 n2)
 rw [eP,eQ,eE] at C
 have D1:=lies.made_at (w.alloc (.cells #[.int .i64 a,.int .i64 b] 45)) 45 #[.int .i64 0,.int .i64 0] (w.heap.size+1) (World.size_alloc _ _)
 have DB:=bound.up2 w (.cells #[.int .i64 a,.int .i64 b] 45) (.cells #[.int .i64 0,.int .i64 0] 45)
 clear eP eQ eE
 go_enter Tryz.func225,Tryz.ntmps225
 go_wp2_with fail
 generalize (w.alloc (.cells #[.int .i64 a,.int .i64 b] 45)).alloc (.cells #[.int .i64 0,.int .i64 0] 45)=w0 at D1 DB ⊢
 refine (C.out _).mono ?_
 rintro e w1 ⟨rfl,hB⟩
 replace D1:=lies.on_call D1 hB
 replace DB:=later DB hB
 clear hB C
 obtain ⟨y0,y1,y2,y3,y4⟩:=lies.two D1
 go_wp2_with fail
 refine bodyPost_ret (v:=.agg #[.int .i64 (P),.int .i64 (Q)]) (by simp [results,Tryz.results225,go_sem,y0,y1,y4,Nat.ne_of_lt y4,Nat.ne_of_gt y4]) rfl ⟨rfl,?_⟩
 repeat (first | with_reducible exact DB | with_reducible refine lies.frame_up ?_ _ | with_reducible refine Below.setCell ?_ (by dsimp only;omega) _)
theorem shift_is {X n:Int} (w:World) (hX:Near X) (hn:May n) (h:Near (X+8*n)):
  Calls Tryz.prog 225 #[.agg #[.int .i64 (p8 X),.int .i64 (q8 X)],.int .i64 n] w fun e w'=>e=.returned (.agg #[.int .i64 (p8 (X+8*n)),.int .i64 (q8 (X+8*n))])∧Below w.heap.size w w':=by
 obtain ⟨e1,e2,e3⟩:=add8 hX hn h
 have:=near_fits hX
 exact shift_k (p8 X) (q8 X) n _ _ _ w this.1.1 this.1.2 (by have:=hn.1;omega) (by have:=hn.2;omega) e1 e2 e3
/-! the times the other way round -/
theorem p8_neg (X:Int):p8 (-X)=-(p8 X)∧q8 (-X)=q8 X:=by
 have h1:=low_parts X 8 (by decide)
 have h2:=low_parts (-X) 8 (by decide)
 have h3:=cross8 X
 have h4:=cross8 (-X)
 refine low_unique (p:=p8 (-X)) (q:=q8 (-X)) (p':=-(p8 X)) (q':=q8 X) h2.2.2.2 (by rw [Int.neg_gcd];exact h1.2.2.2) (q8_in _).1 (q8_in _).1 ?_
 have e1:(p8 (-X)*q8 X)*8=(-X*q8 (-X))*q8 X:=by rw [←h4];ac_rfl
 have e2:(-(p8 X)*q8 (-X))*8=-(X*q8 X)*q8 (-X):=by rw [←h3];rw [Int.neg_mul,Int.neg_mul,Int.neg_mul];congr 1;ac_rfl
 have e3:-X*q8 (-X)*q8 X=-(X*q8 X)*q8 (-X):=by rw [Int.neg_mul,Int.neg_mul,Int.neg_mul];congr 1;ac_rfl
 omega
theorem near_neg {X:Int} (h:Near X):Near (-X):=by
 obtain ⟨⟨h1,h2⟩,h3⟩:=h
 refine ⟨⟨by omega,by omega⟩,?_⟩
 rcases h3 with h | h
 ·exact .inl (by omega)
 ·exact .inr (by omega)
theorem endC_neg {X:Nat→Int} {t:Nat→B}:∀ k,endC (-1) (fun j=>-(X j)) t k=endC 1 X t k:=by
 intro k
 induction k with
 | zero=>rfl
 | succ k ih=>
  show mnE _ _=mnE _ _
  rw [ih]
  congr 1
  unfold cand
  cases t k with
  | none=>rfl
  | some a=>
   show some (2*(-1*-(X k))+16*(a / 2)+a % 2)=some (2*(1*X k)+16*(a / 2)+a % 2)
   congr 1
   omega
end Go.Proofs.YthmljpccbjolgaaGreatDoor.iref
namespace Go.Proofs.YthmljpccbjolgaaGreatDoor.iref
open Go.ChangeShapes Go.WideShapes Go.ChangeAt Go.RowKit num rat dbm way Go.Proofs.YthmljpccbjolgaaGreatDoor.tight Go.Proofs.YthmljpccbjolgaaGreatDoor.incl Go.Proofs.YthmljpccbjolgaaGreatDoor.tlaw
open bound hiding up
set_option linter.unusedVariables false
set_option linter.unusedSimpArgs false
def negs (X:Nat→Int) (k:Nat):List (Int × Int):=(List.range k).map fun j=>(p8 (-(X j)),q8 (-(X j)))
theorem negs_length (X:Nat→Int) (k:Nat):(negs X k).length=k:=by simp [negs]
theorem negs_at (X:Nat→Int) {k j:Nat} (h:j<k):pr (negs X k) j=(p8 (-(X j)),q8 (-(X j))):=by
 unfold pr negs
 rw [List.getElem?_map,List.getElem?_range h]
 rfl
theorem flat_negs (X:Nat→Int) (k:Nat):flat (negs X (k+1))=flat (negs X k)++[.int .i64 (p8 (-(X k))),.int .i64 (q8 (-(X k)))]:=by
 unfold negs
 rw [List.range_succ,List.map_append]
 simp [flat,List.flatMap_append]
set_option maxRecDepth 100000 in
set_option maxHeartbeats 4000000 in
theorem turned_is (tb toff tcap k:Nat) (X:Nat→Int) (rs:List (Int × Int)) (w:World) (hk:k≤4) (hR:RowR w tb toff rs) (htb:tb<w.heap.size) (hrs:rs.length=k) (hpr:∀ j,j<k→pr rs j=(p8 (X j),q8 (X j))) (hne:∀ j,j<k→Near (X j)):
  Calls Tryz.prog 223 #[.slice (some ⟨tb,toff,none⟩) k tcap] w fun e w'=>Below w.heap.size w w'∧∃ v,e=.returned v∧w'.ownsRow w.heap.size 45 2 v k (flat (negs X k)):=by
 obtain ⟨i0,hi,hz0,hz1,hz2⟩:=info_parts info_r
 have HIN:=Lib.hid (And.intro hi (And.intro hz0 (And.intro hz1 hz2)))
 have HR:=Lib.hid hR
 have HRS:=Lib.hid hrs
 have HPR:=Lib.hid hpr
 have HNE:=Lib.hid hne
 clear hi hz0 hz1 hz2 hR hrs hpr hne
 go_enter Tryz.func223,Tryz.ntmps223
 go_wp2_with fail
 go_loopw [3,4] (fun v iv wr=>∃ j:Nat,j≤k∧iv=.int .i64 j∧Below w.heap.size w wr∧wr.ownsRow w.heap.size 45 2 v j (flat (negs X j))) (fun v iv _=>k - (intOf iv).toNat)
 case atStart=>exact ⟨0,Nat.zero_le _,rfl,Below.refl _ _,World.ownsRow_nil _ _ _ _⟩
 case round=>
  obtain ⟨j,hj,rfl,hA,hO⟩:=hrel
  by_cases hjk:j<k
  ·obtain ⟨m1,m2⟩:=(HR.out.below hA htb) j (by rw [HRS.out];exact hjk)
   rw [HPR.out j hjk] at m1 m2
   have hn:=HNE.out j hjk
   have hnn:=near_fits (near_neg hn)
   have hna:=near_fits hn
   have hng:=p8_neg (X j)
   rw [hng.1,hng.2] at hnn
   have hup:=flat_negs X j
   rw [hng.1,hng.2] at hup
   dsimp only at m1 m2
   generalize p8 (X j)=a at m1 hnn hna hup
   generalize q8 (X j)=b at m2 hnn hna hup
   have g1:IntKind.i64.wrap (0 - a)=-a:=by rw [Int.zero_sub];exact IntWalk.i64_in _ (by omega)
   have g2:IntKind.i64.wrap (-a)=-a:=IntWalk.i64_in _ (by omega)
   have wj:wrap64 ((j:Int)+1)=(j:Int)+1:=IntWalk.wrap64_in _ ⟨by omega,by omega⟩
   obtain ⟨va,vl,vc,rfl⟩:=own_slice hO
   have HUP:=Lib.hid hup
   have S0:∀ W,Below w.heap.size w W→W.cell? ⟨tb,toff+j*2,none⟩=some (.int .i64 a)∧W.cell? ⟨tb,toff+j*2+1,none⟩=some (.int .i64 b):=fun W hW=>by
    have h1:=(hW.cell (p:=⟨tb,toff+j*2,none⟩) htb)
    have h2:=(hW.cell (p:=⟨tb,toff+j*2+1,none⟩) htb)
    have h3:=(hA.cell (p:=⟨tb,toff+j*2,none⟩) htb)
    have h4:=(hA.cell (p:=⟨tb,toff+j*2+1,none⟩) htb)
    exact ⟨h1.trans (h3.symm.trans m1),h2.trans (h4.symm.trans m2)⟩
   have HS0:=Lib.hid S0
   clear hup hnn hna hng hn S0 m1 m2
   go_wp2_with fail
   refine wp_region_held_drew (S:=Below w.heap.size w) (by kernel_rfl) (lies.frame_drew hA) (fun hHeld=>?_)
   refine tk 0 (v:=?_) rfl hHeld ?_ ?_
   rotate_left
   ·intro w hSw;obtain ⟨s0,s1⟩:=HS0.out _ hSw;go_simp;try with_reducible rfl
   try simp only [Act.put,sA,sB,sC,sD,sE,sF]
   refine tk 1 (v:=?_) rfl hHeld ?_ ?_
   rotate_left
   ·intro w hSw;obtain ⟨s0,s1⟩:=HS0.out _ hSw;go_simp;try with_reducible rfl
   try simp only [Act.put,sA,sB,sC,sD,sE,sF]
   refine tk 2 (v:=?_) rfl hHeld ?_ ?_
   rotate_left
   ·intro w hSw;obtain ⟨s0,s1⟩:=HS0.out _ hSw;go_simp;try with_reducible rfl
   try simp only [Act.put,sA,sB,sC,sD,sE,sF]
   refine tk 3 (v:=?_) rfl hHeld ?_ ?_
   rotate_left
   ·intro w hSw;obtain ⟨s0,s1⟩:=HS0.out _ hSw;go_simp;try with_reducible rfl
   try simp only [Act.put,sA,sB,sC,sD,sE,sF]
   refine tk 4 (v:=?_) rfl hHeld ?_ ?_
   rotate_left
   ·intro w hSw;obtain ⟨s0,s1⟩:=HS0.out _ hSw;go_simp;try with_reducible rfl
   try simp only [Act.put,sA,sB,sC,sD,sE,sF]
   refine tk 5 (v:=?_) rfl hHeld ?_ ?_
   rotate_left
   ·intro w hSw;obtain ⟨s0,s1⟩:=HS0.out _ hSw;go_simp;try with_reducible rfl
   try simp only [Act.put,sA,sB,sC,sD,sE,sF]
   refine tk 6 (v:=?_) rfl hHeld ?_ ?_
   rotate_left
   ·intro w hSw;obtain ⟨s0,s1⟩:=HS0.out _ hSw;go_simp;try with_reducible rfl
   try simp only [Act.put,sA,sB,sC,sD,sE,sF]
   refine tk 7 (v:=?_) rfl hHeld ?_ ?_
   rotate_left
   ·intro w hSw;obtain ⟨s0,s1⟩:=HS0.out _ hSw;go_simp;try with_reducible rfl
   try simp only [Act.put,sA,sB,sC,sD,sE,sF]
   refine tk 8 (v:=?_) rfl hHeld ?_ ?_
   rotate_left
   ·intro w hSw;obtain ⟨s0,s1⟩:=HS0.out _ hSw;go_simp;try with_reducible rfl
   try simp only [Act.put,sA,sB,sC,sD,sE,sF]
   refine tk 9 (v:=?_) rfl hHeld ?_ ?_
   rotate_left
   ·intro w hSw;obtain ⟨s0,s1⟩:=HS0.out _ hSw;go_simp;try with_reducible rfl
   try simp only [Act.put,sA,sB,sC,sD,sE,sF]
   refine tk 10 (v:=?_) rfl hHeld ?_ ?_
   rotate_left
   ·intro w hSw;obtain ⟨s0,s1⟩:=HS0.out _ hSw;go_simp;try with_reducible rfl
   try simp only [Act.put,sA,sB,sC,sD,sE,sF]
   refine tk 11 (v:=?_) rfl hHeld ?_ ?_
   rotate_left
   ·intro w hSw;obtain ⟨s0,s1⟩:=HS0.out _ hSw;go_simp;try with_reducible rfl
   try simp only [Act.put,sA,sB,sC,sD,sE,sF]
   refine tk 12 (v:=?_) rfl hHeld ?_ ?_
   rotate_left
   ·intro w hSw;obtain ⟨s0,s1⟩:=HS0.out _ hSw;go_simp;try with_reducible rfl
   try simp only [Act.put,sA,sB,sC,sD,sE,sF]
   refine wpAnyH_ready (rs:=[13]) (by kernel_rfl) (by simp) (AllReadyH.cons rfl (fun K hK=>?_) AllReadyH.nil)
   go_simp
   have M7:=lies.made wr.drew 45 #[.int .i64 (-a),.int .i64 b]
   have O7:=(World.ownsRow.drew hO).alloc (.cells #[.int .i64 (-a),.int .i64 b] 45)
   have hsb:=hA.size
   refine hK.out _ _ (lies.frame_up hHeld _) (fun hNew=>?_)
   clear hHeld hK K
   have hHeld:=hNew
   clear hNew
   try simp only [Act.put,sA,sB,sC,sD,sE,sF]
   refine wpAnyH_ready (rs:=[14]) (by kernel_rfl) (by simp) (AllReadyH.cons rfl (fun K hK=>?_) AllReadyH.nil)
   rw [if_pos (by rfl)]
   refine wp_append_own _ (.tmp 11) (.tmp 24) 138 rfl w.heap.size 45 i0 (.agg #[.int .i64 (0),.int .i64 (0)]) 2 16 Tryz.underlying138 HIN.out.1 HIN.out.2.1 HIN.out.2.2.1 HIN.out.2.2.2 rfl (by decide) _ _ _ rfl O7 ⟨wr.heap.size,0,none⟩ 1 1 [.int .i64 (-a),.int .i64 b] rfl rfl (two_new M7) (by simp [Value.oneCell']) (by unfold maxLen;omega) (by omega) (by simp;omega) ?_
   intro v' w8 hown' hgrow _
   have B8:Below w.heap.size w w8:=hHeld.grown hgrow (by simp;omega) (fun q e=>(hO.lt q e).1)
   obtain ⟨wa,wl,wc,rfl⟩:=own_slice hown'
   have HO8:=Lib.hid hown'
   refine hK.out _ _ B8 (fun hNew=>?_)
   clear hown' hgrow O7 M7 hO
   clear hHeld hK K
   have hHeld:=hNew
   clear hNew
   try simp only [Act.put,sA,sB,sC,sD,sE,sF]
   refine tk 15 (v:=?_) rfl hHeld ?_ ?_
   rotate_left
   ·intro w hSw;skip;go_simp;try with_reducible rfl
   try simp only [Act.put,sA,sB,sC,sD,sE,sF]
   refine wpAnyH_done (by kernel_rfl) ?_ _
   go_wp2_with fail
   go_roundw
   case rel=>exact ⟨j+1,by omega,by go_num,B8,by rw [HUP.out];exact HO8.out⟩
   case measure=>simp [intOf];omega
  ·obtain rfl:j=k:=by omega
   obtain ⟨va,vl,vc,rfl⟩:=own_slice hO
   have HO:=Lib.hid hO
   clear hO
   go_wp2_with fail
   go_ret
   exact ⟨hA,_,rfl,HO.out⟩
/-! the matrix of the times the other way round -/
def trT (n:Nat) (us:List Int) (k:Nat):List Int:=(List.range k).map fun p=>us[(p % n)*n+p / n]?.getD 0
theorem trT_up (n:Nat) (us:List Int) (k:Nat):(trT n us (k+1)).map (Value.int .i64)=(trT n us k).map (Value.int .i64)++[.int .i64 (us[(k % n)*n+k / n]?.getD 0)]:=by
 unfold trT
 rw [List.range_succ,List.map_append,List.map_append]
 rfl
theorem trT_length (n:Nat) (us:List Int) (k:Nat):(trT n us k).length=k:=by simp [trT]
theorem trT_at (n:Nat) (us:List Int) {k p:Nat} (h:p<k):(trT n us k)[p]?.getD 0=us[(p % n)*n+p / n]?.getD 0:=by
 unfold trT
 rw [List.getElem?_map,List.getElem?_range h]
 rfl
theorem trT_tat {n:Nat} (us:List Int) (hn:n≤4) {i j:Nat} (hi:i<n) (hj:j<n):tat (trT n us (n*n)) n i j=tat us n j i:=by
 have h0:0<n:=by omega
 have e1:(i*n+j) % n=j:=by rw [Nat.add_comm,Nat.add_mul_mod_self_right];exact Nat.mod_eq_of_lt hj
 have e2:(i*n+j) / n=i:=by rw [Nat.add_comm,Nat.add_mul_div_right _ _ h0,Nat.div_eq_of_lt hj];omega
 unfold tat
 rw [trT_at n us (place_le hn hi hj),e1,e2]
def OI (n b off cap:Nat) (us:List Int) (k:Nat) (w W:World):Prop:=∃ v,lies.Lies W w.heap.size 81 #[.int .i64 n,.slice (some ⟨b,off,none⟩) (n*n) cap]∧lies.Lies W (w.heap.size+1) 81 #[.int .i64 0,.slice none 0 0]∧lies.Lies W (w.heap.size+1+1) 81 #[.int .i64 n,v]∧W.ownsRow (w.heap.size+1+1+1) 25 1 v k ((trT n us k).map (Value.int .i64))∧Below w.heap.size w W
set_option maxRecDepth 100000 in
set_option maxHeartbeats 8000000 in
theorem other_is (n b off cap:Nat) (us:List Int) (w:World) (h0:0<n) (hn:n≤4) (hr:Row w b off us) (hb:b<w.heap.size) (hu:us.length=n*n):
  Calls Tryz.prog 222 #[.agg #[.int .i64 n,.slice (some ⟨b,off,none⟩) (n*n) cap]] w fun e w'=>Below w.heap.size w w'∧∃ g cc,e=.returned (.agg #[.int .i64 n,.slice (some ⟨g,0,none⟩) (n*n) cc])∧Row w' g 0 (trT n us (n*n))∧g<w'.heap.size:=by
 obtain ⟨i0,hi,hz0,hz1,hz2⟩:=info_parts info_b
 have HIN:=Lib.hid (And.intro hi (And.intro hz0 (And.intro hz1 hz2)))
 have hsq:=sq_le hn
 have hpp:0<n*n:=Nat.mul_pos h0 h0
 have HR:=Lib.hid hr
 have HU:=Lib.hid hu
 clear hi hz0 hz1 hz2 hr hu
 have E0:=lies.on_alloc (lies.on_alloc (lies.made w 81 #[.int .i64 n,.slice (some ⟨b,off,none⟩) (n*n) cap]) (.cells #[.int .i64 0,.slice none 0 0] 81)) (.cells #[.int .i64 n,.slice none 0 0] 81)
 have E1:=lies.on_alloc (lies.made_at (w.alloc (.cells #[.int .i64 n,.slice (some ⟨b,off,none⟩) (n*n) cap] 81)) 81 #[.int .i64 0,.slice none 0 0] (w.heap.size+1) (World.size_alloc _ _)) (.cells #[.int .i64 n,.slice none 0 0] 81)
 have E2:=lies.made_at ((w.alloc (.cells #[.int .i64 n,.slice (some ⟨b,off,none⟩) (n*n) cap] 81)).alloc (.cells #[.int .i64 0,.slice none 0 0] 81)) 81 #[.int .i64 n,.slice none 0 0] (w.heap.size+1+1) (by simp)
 have EB:=bound.up3 w (.cells #[.int .i64 n,.slice (some ⟨b,off,none⟩) (n*n) cap] 81) (.cells #[.int .i64 0,.slice none 0 0] 81) (.cells #[.int .i64 n,.slice none 0 0] 81)
 have I0:OI n b off cap us 0 w _:=⟨_,E0,E1,E2,World.ownsRow_nil _ _ _ _,EB⟩
 clear E0 E1 E2 EB
 go_enter Tryz.func222,Tryz.ntmps222
 go_wp2_with fail
 generalize ((w.alloc (.cells #[.int .i64 n,.slice (some ⟨b,off,none⟩) (n*n) cap] 81)).alloc (.cells #[.int .i64 0,.slice none 0 0] 81)).alloc (.cells #[.int .i64 n,.slice none 0 0] 81)=w0 at I0 ⊢
 go_loopw [4] (fun iv wr=>∃ i:Nat,i≤n∧iv=.int .i64 i∧OI n b off cap us (i*n) w wr) (fun iv _=>n - (intOf iv).toNat)
 case atStart=>exact ⟨0,Nat.zero_le _,rfl,by rw [Nat.zero_mul];exact I0⟩
 case round=>
  clear I0
  obtain ⟨i,hi,rfl,hA⟩:=hrel
  by_cases hin:i<n
  ·obtain ⟨y0,y1,y2,y3,y4⟩:=lies.two hA.choose_spec.1
   go_wp2_with fail
   clear y0 y1 y2 y3 y4
   go_loopw [5] (fun jv wr=>∃ j:Nat,j≤n∧jv=.int .i64 j∧OI n b off cap us (i*n+j) w wr) (fun jv _=>n - (intOf jv).toNat)
   case atStart=>exact ⟨0,Nat.zero_le _,rfl,hA⟩
   case round=>
    clear hA
    obtain ⟨j,hj,rfl,v,L0',L1',L2',hO,LB'⟩:=hrel
    obtain ⟨y0,y1,y2,y3,y4⟩:=lies.two L0'
    by_cases hjn:j<n
    ·obtain ⟨q1,q2,q3,q4,q5,q6,q7⟩:=dref.place_int hn hjn hin
     have hpl:=place_le hn hjn hin
     have hpk:=place_le hn hin hjn
     have hz:=(HR.out.below LB' hb) (j*n+i) (by rw [HU.out];exact hpl)
     have e1:(i*n+j) % n=j:=by rw [Nat.add_comm,Nat.add_mul_mod_self_right];exact Nat.mod_eq_of_lt hjn
     have e2:(i*n+j) / n=i:=by rw [Nat.add_comm,Nat.add_mul_div_right _ _ h0,Nat.div_eq_of_lt hjn];omega
     have hup:=trT_up n us (i*n+j)
     rw [e1,e2] at hup
     generalize us[j*n+i]?.getD 0=z at hz hup
     have HUP:=Lib.hid hup
     obtain ⟨va,vl,vc,rfl⟩:=tight.own_slice hO
     have hS:∀ W,lies.Lies W w.heap.size 81 #[.int .i64 n,.slice (some ⟨b,off,none⟩) (n*n) cap]→Below w.heap.size w W→(W.cell? ⟨w.heap.size,0,none⟩=some (.int .i64 n)∧W.cell? ⟨w.heap.size,1,none⟩=some (.slice (some ⟨b,off,none⟩) (n*n) cap))∧W.cell? ⟨b,off+(j*n+i),none⟩=some (.int .i64 z):=fun W h k=>
      ⟨lies.pair h,(k.cell (p:=⟨b,off+(j*n+i),none⟩) hb).trans ((LB'.cell (p:=⟨b,off+(j*n+i),none⟩) hb).symm.trans hz)⟩
     have HS:=Lib.hid hS
     clear hS hup e1 e2
     go_wp2_with fail
     clear y0 y1 y2 y3 y4 hz
     have L0:lies.Lies wr.drew w.heap.size 81 #[.int .i64 n,.slice (some ⟨b,off,none⟩) (n*n) cap]:=L0'
     have L1:lies.Lies wr.drew (w.heap.size+1) 81 #[.int .i64 0,.slice none 0 0]:=L1'
     have L2:lies.Lies wr.drew (w.heap.size+1+1) 81 #[.int .i64 n,.slice va vl vc]:=L2'
     have LB:Below w.heap.size w wr.drew:=lies.frame_drew LB'
     have hsz:=LB'.size
     have hlt2:=lies.lt L2'
     clear L0' L1' LB'
     have wj:wrap64 ((j:Int)+1)=(j:Int)+1:=IntWalk.wrap64_in _ ⟨by omega,by omega⟩
     refine wp_region_held_drew (S:=fun W=>(W.cell? ⟨w.heap.size,0,none⟩=some (.int .i64 n)∧W.cell? ⟨w.heap.size,1,none⟩=some (.slice (some ⟨b,off,none⟩) (n*n) cap))∧W.cell? ⟨b,off+(j*n+i),none⟩=some (.int .i64 z)) (by kernel_rfl) (HS.out _ L0 LB) (fun hHeld=>?_)
     refine tk 0 (v:=?_) rfl hHeld ?_ ?_
     rotate_left
     ·intro w hSw;skip;go_simp;try with_reducible rfl
     try simp only [Act.put,sA,sB,sC,sD,sE,sF]
     refine tk 2 (v:=?_) rfl hHeld ?_ ?_
     rotate_left
     ·intro w hSw;obtain ⟨⟨s0,s1⟩,s2⟩:=hSw;go_simp;try with_reducible rfl
     try simp only [Act.put,sA,sB,sC,sD,sE,sF]
     refine tk 3 (v:=?_) rfl hHeld ?_ ?_
     rotate_left
     ·intro w hSw;obtain ⟨⟨s0,s1⟩,s2⟩:=hSw;go_simp;try with_reducible rfl
     try simp only [Act.put,sA,sB,sC,sD,sE,sF]
     refine tk 4 (v:=?_) rfl hHeld ?_ ?_
     rotate_left
     ·intro w hSw;obtain ⟨⟨s0,s1⟩,s2⟩:=hSw;go_simp;try with_reducible rfl
     try simp only [Act.put,sA,sB,sC,sD,sE,sF]
     refine tk 5 (v:=?_) rfl hHeld ?_ ?_
     rotate_left
     ·intro w hSw;obtain ⟨⟨s0,s1⟩,s2⟩:=hSw;go_simp;try with_reducible rfl
     try simp only [Act.put,sA,sB,sC,sD,sE,sF]
     refine tk 6 (v:=?_) rfl hHeld ?_ ?_
     rotate_left
     ·intro w hSw;obtain ⟨⟨s0,s1⟩,s2⟩:=hSw;go_simp;try with_reducible rfl
     try simp only [Act.put,sA,sB,sC,sD,sE,sF]
     refine tk 7 (v:=?_) rfl hHeld ?_ ?_
     rotate_left
     ·intro w hSw;obtain ⟨⟨s0,s1⟩,s2⟩:=hSw;go_simp;try with_reducible rfl
     try simp only [Act.put,sA,sB,sC,sD,sE,sF]
     refine tk 8 (v:=?_) rfl hHeld ?_ ?_
     rotate_left
     ·intro w hSw;obtain ⟨⟨s0,s1⟩,s2⟩:=hSw;go_simp;try with_reducible rfl
     try simp only [Act.put,sA,sB,sC,sD,sE,sF]
     refine tk 9 (v:=?_) rfl hHeld ?_ ?_
     rotate_left
     ·intro w hSw;obtain ⟨⟨s0,s1⟩,s2⟩:=hSw;go_simp;try with_reducible rfl
     try simp only [Act.put,sA,sB,sC,sD,sE,sF]
     refine tk 10 (v:=?_) rfl hHeld ?_ ?_
     rotate_left
     ·intro w hSw;obtain ⟨⟨s0,s1⟩,s2⟩:=hSw;go_simp;try with_reducible rfl
     try simp only [Act.put,sA,sB,sC,sD,sE,sF]
     refine tk 11 (v:=?_) rfl hHeld ?_ ?_
     rotate_left
     ·intro w hSw;obtain ⟨⟨s0,s1⟩,s2⟩:=hSw;go_simp;try with_reducible rfl
     try simp only [Act.put,sA,sB,sC,sD,sE,sF]
     clear q1 q2 q3 q4 q5 q6 q7
     refine wpAnyH_ready (rs:=[1,12]) (by kernel_rfl) (by simp) (AllReadyH.cons rfl (fun K hK=>?_) (AllReadyH.cons rfl (fun K hK=>?_) AllReadyH.nil))
     ·obtain ⟨x0,x1,x2,x3,x4⟩:=lies.two L2'
      go_simp
      refine hK.out _ _ hHeld (fun hNew=>?_)
      clear x0 x1 x2 x3 x4
      clear hHeld hK K
      have hHeld:=hNew
      clear hNew
      try simp only [Act.put,sA,sB,sC,sD,sE,sF]
      clear L2'
      refine wpAnyH_ready (rs:=[12]) (by kernel_rfl) (by simp) (AllReadyH.cons rfl (fun K hK=>?_) AllReadyH.nil)
      go_simp
      have M7:=lies.made wr.drew 25 #[.int .i64 z]
      have O7:=(World.ownsRow.drew hO).alloc (.cells #[.int .i64 z] 25)
      have P0:=lies.on_alloc L0 (.cells #[.int .i64 z] 25)
      have P1:=lies.on_alloc L1 (.cells #[.int .i64 z] 25)
      have P2:=lies.on_alloc L2 (.cells #[.int .i64 z] 25)
      have PB:=lies.frame_up LB (.cells #[.int .i64 z] 25)
      refine hK.out _ _ (HS.out _ P0 PB) (fun hNew=>?_)
      clear hHeld hK K
      have hHeld:=hNew
      clear hNew
      try simp only [Act.put,sA,sB,sC,sD,sE,sF]
      refine wpAnyH_ready (rs:=[13]) (by kernel_rfl) (by simp) (AllReadyH.cons rfl (fun K hK=>?_) AllReadyH.nil)
      rw [if_pos (by rfl)]
      refine wp_append_own _ (.tmp 22) (.tmp 33) 79 rfl (w.heap.size+1+1+1) 25 i0 (.int .i64 0) 1 8 Tryz.underlying79 HIN.out.1 HIN.out.2.1 HIN.out.2.2.1 HIN.out.2.2.2 rfl (by decide) _ _ _ rfl O7 ⟨wr.heap.size,0,none⟩ 1 1 [.int .i64 z] rfl rfl (cell_one_new _ _ _) (by simp [Value.oneCell']) (by unfold maxLen;omega) (by omega) (by simp;omega) ?_
      intro v' w8 hown' hgrow _
      have hbk:∀ q,(Value.slice va vl vc).ownBlock=some q→w.heap.size+1+1+1≤q:=fun q e=>(hO.lt q e).1
      have Q0:=(World.grownBy.block hgrow _ (lies.lt P0) (fun e=>by have:=hbk _ e.symm;omega)).trans P0
      have Q1:=(World.grownBy.block hgrow _ (lies.lt P1) (fun e=>by have:=hbk _ e.symm;omega)).trans P1
      have Q2:=(World.grownBy.block hgrow _ (lies.lt P2) (fun e=>by have:=hbk _ e.symm;omega)).trans P2
      have QB:=PB.grown hgrow (by simp;omega) (fun q e=>by have:=hbk q e;omega)
      replace Q0:lies.Lies w8 w.heap.size 81 #[.int .i64 n,.slice (some ⟨b,off,none⟩) (n*n) cap]:=Q0
      replace Q1:lies.Lies w8 (w.heap.size+1) 81 #[.int .i64 0,.slice none 0 0]:=Q1
      replace Q2:lies.Lies w8 (w.heap.size+1+1) 81 #[.int .i64 n,.slice va vl vc]:=Q2
      obtain ⟨wa,wl,wc,rfl⟩:=tight.own_slice hown'
      have HO8:=Lib.hid hown'
      refine hK.out _ _ (HS.out _ Q0 QB) (fun hNew=>?_)
      clear hown' hgrow O7 M7 hO L0 L1 L2 LB P0 P1 P2 PB hbk
      clear hHeld hK K
      have hHeld:=hNew
      clear hNew
      try simp only [Act.put,sA,sB,sC,sD,sE,sF]
      refine tk 14 (v:=?_) rfl hHeld ?_ ?_
      rotate_left
      ·intro w hSw;skip;go_simp;try with_reducible rfl
      try simp only [Act.put,sA,sB,sC,sD,sE,sF]
      obtain ⟨x0,x1,x2,x3,x4⟩:=lies.two Q2
      refine wpAnyH_ready (rs:=[15]) (by kernel_rfl) (by simp) (AllReadyH.cons rfl (fun K hK=>?_) AllReadyH.nil)
      go_simp
      have R0:=lies.on_far Q0 (b:=w.heap.size+1+1) 1 (by omega) (.slice wa wl wc)
      have R1:=lies.on_far Q1 (b:=w.heap.size+1+1) 1 (by omega) (.slice wa wl wc)
      have R2:=lies.on_put Q2 1 (.slice wa wl wc)
      have RB:=QB.setCell (p:=⟨w.heap.size+1+1,1,none⟩) (by dsimp only;omega) (.slice wa wl wc)
      have RO:=tight.own_far HO8.out (p:=⟨w.heap.size+1+1,1,none⟩) (by dsimp only;omega) (.slice wa wl wc)
      refine hK.out _ _ (HS.out _ R0 RB) (fun hNew=>?_)
      clear x0 x1 x2 x3 x4 Q0 Q1 Q2 QB hHeld hK K hNew
      refine wpAnyH_done (by kernel_rfl) ?_ _
      have HRO:=Lib.hid RO
      clear RO HO8
      go_wp2_with fail
      go_roundw
      case rel=>exact ⟨j+1,by omega,by go_num,.slice wa wl wc,R0,R1,R2,by rw [←Nat.add_assoc,HUP.out];exact HRO.out,RB⟩
      case measure=>simp [intOf];omega
     ·go_simp
      have M7:=lies.made wr.drew 25 #[.int .i64 z]
      have O7:=(World.ownsRow.drew hO).alloc (.cells #[.int .i64 z] 25)
      have P0:=lies.on_alloc L0 (.cells #[.int .i64 z] 25)
      have P1:=lies.on_alloc L1 (.cells #[.int .i64 z] 25)
      have P2:=lies.on_alloc L2 (.cells #[.int .i64 z] 25)
      have PB:=lies.frame_up LB (.cells #[.int .i64 z] 25)
      refine hK.out _ _ (HS.out _ P0 PB) (fun hNew=>?_)
      clear hHeld hK K
      have hHeld:=hNew
      clear hNew
      try simp only [Act.put,sA,sB,sC,sD,sE,sF]
      obtain ⟨x0,x1,x2,x3,x4⟩:=lies.two L2'
      refine wpAnyH_ready (rs:=[1]) (by kernel_rfl) (by simp) (AllReadyH.cons rfl (fun K hK=>?_) AllReadyH.nil)
      go_simp
      refine hK.out _ _ hHeld (fun hNew=>?_)
      clear x0 x1 x2 x3 x4
      clear hHeld hK K
      have hHeld:=hNew
      clear hNew
      try simp only [Act.put,sA,sB,sC,sD,sE,sF]
      refine wpAnyH_ready (rs:=[13]) (by kernel_rfl) (by simp) (AllReadyH.cons rfl (fun K hK=>?_) AllReadyH.nil)
      rw [if_pos (by rfl)]
      refine wp_append_own _ (.tmp 22) (.tmp 33) 79 rfl (w.heap.size+1+1+1) 25 i0 (.int .i64 0) 1 8 Tryz.underlying79 HIN.out.1 HIN.out.2.1 HIN.out.2.2.1 HIN.out.2.2.2 rfl (by decide) _ _ _ rfl O7 ⟨wr.heap.size,0,none⟩ 1 1 [.int .i64 z] rfl rfl (cell_one_new _ _ _) (by simp [Value.oneCell']) (by unfold maxLen;omega) (by omega) (by simp;omega) ?_
      intro v' w8 hown' hgrow _
      have hbk:∀ q,(Value.slice va vl vc).ownBlock=some q→w.heap.size+1+1+1≤q:=fun q e=>(hO.lt q e).1
      have Q0:=(World.grownBy.block hgrow _ (lies.lt P0) (fun e=>by have:=hbk _ e.symm;omega)).trans P0
      have Q1:=(World.grownBy.block hgrow _ (lies.lt P1) (fun e=>by have:=hbk _ e.symm;omega)).trans P1
      have Q2:=(World.grownBy.block hgrow _ (lies.lt P2) (fun e=>by have:=hbk _ e.symm;omega)).trans P2
      have QB:=PB.grown hgrow (by simp;omega) (fun q e=>by have:=hbk q e;omega)
      replace Q0:lies.Lies w8 w.heap.size 81 #[.int .i64 n,.slice (some ⟨b,off,none⟩) (n*n) cap]:=Q0
      replace Q1:lies.Lies w8 (w.heap.size+1) 81 #[.int .i64 0,.slice none 0 0]:=Q1
      replace Q2:lies.Lies w8 (w.heap.size+1+1) 81 #[.int .i64 n,.slice va vl vc]:=Q2
      obtain ⟨wa,wl,wc,rfl⟩:=tight.own_slice hown'
      have HO8:=Lib.hid hown'
      refine hK.out _ _ (HS.out _ Q0 QB) (fun hNew=>?_)
      clear hown' hgrow O7 M7 hO L0 L1 L2 LB P0 P1 P2 PB hbk
      clear hHeld hK K
      have hHeld:=hNew
      clear hNew
      try simp only [Act.put,sA,sB,sC,sD,sE,sF]
      refine tk 14 (v:=?_) rfl hHeld ?_ ?_
      rotate_left
      ·intro w hSw;skip;go_simp;try with_reducible rfl
      try simp only [Act.put,sA,sB,sC,sD,sE,sF]
      obtain ⟨x0,x1,x2,x3,x4⟩:=lies.two Q2
      refine wpAnyH_ready (rs:=[15]) (by kernel_rfl) (by simp) (AllReadyH.cons rfl (fun K hK=>?_) AllReadyH.nil)
      go_simp
      have R0:=lies.on_far Q0 (b:=w.heap.size+1+1) 1 (by omega) (.slice wa wl wc)
      have R1:=lies.on_far Q1 (b:=w.heap.size+1+1) 1 (by omega) (.slice wa wl wc)
      have R2:=lies.on_put Q2 1 (.slice wa wl wc)
      have RB:=QB.setCell (p:=⟨w.heap.size+1+1,1,none⟩) (by dsimp only;omega) (.slice wa wl wc)
      have RO:=tight.own_far HO8.out (p:=⟨w.heap.size+1+1,1,none⟩) (by dsimp only;omega) (.slice wa wl wc)
      refine hK.out _ _ (HS.out _ R0 RB) (fun hNew=>?_)
      clear x0 x1 x2 x3 x4 Q0 Q1 Q2 QB hHeld hK K hNew
      refine wpAnyH_done (by kernel_rfl) ?_ _
      have HRO:=Lib.hid RO
      clear RO HO8
      go_wp2_with fail
      go_roundw
      case rel=>exact ⟨j+1,by omega,by go_num,.slice wa wl wc,R0,R1,R2,by rw [←Nat.add_assoc,HUP.out];exact HRO.out,RB⟩
      case measure=>simp [intOf];omega
    ·obtain rfl:j=n:=by omega
     have wi:wrap64 ((i:Int)+1)=(i:Int)+1:=IntWalk.wrap64_in _ ⟨by omega,by omega⟩
     go_wp2_with fail
     go_roundw
     case rel=>exact ⟨i+1,by omega,by go_num,v,L0',L1',L2',by rw [Nat.add_mul,Nat.one_mul];exact hO,LB'⟩
     case measure=>simp [intOf];omega
  ·obtain rfl:i=n:=by omega
   obtain ⟨v,L0,L1,L2,hO,LB⟩:=hA
   obtain ⟨g,gc,rfl⟩:∃ g gc,v=.slice (some ⟨g,0,none⟩) (i*i) gc:=by
    rcases Go.Joins.ownsRow_forms hO with ⟨_,h⟩ | ⟨g,gc,h⟩
    ·omega
    ·exact ⟨g,gc,h⟩
   have hgl:=hO.lt g rfl
   have hrow:=tref.own_row hO (trT_length i us (i*i))
   have HRW:=Lib.hid hrow
   obtain ⟨y0,y1,y2,y3,y4⟩:=lies.two L0
   obtain ⟨z0,z1,z2,z3,z4⟩:=lies.two L1
   obtain ⟨x0,x1,x2,x3,x4⟩:=lies.two L2
   clear hO hrow
   go_wp2_with fail
   have hne1:g≠w.heap.size+1:=by omega
   refine bodyPost_ret (v:=.agg #[.int .i64 i,.slice (some ⟨g,0,none⟩) (i*i) gc]) (by simp [results,Tryz.results222,go_sem,z0,z1]) rfl ⟨(LB.setCell (p:=⟨w.heap.size+1,0,none⟩) (by dsimp only;omega) _).setCell (p:=⟨w.heap.size+1,1,none⟩) (by dsimp only;omega) _,g,gc,rfl,?_,by simp;omega⟩
   intro p hp
   have h1:=HRW.out p hp
   have h2:=World.cell?_of_block (a:=⟨g,0+p,none⟩) (Below.heap_setCell (wr.setCell ⟨w.heap.size+1,0,none⟩ (.int .i64 i)) ⟨w.heap.size+1,1,none⟩ (.slice (some ⟨g,0,none⟩) (i*i) gc) g hne1)
   have h3:=World.cell?_of_block (a:=⟨g,0+p,none⟩) (Below.heap_setCell wr ⟨w.heap.size+1,0,none⟩ (.int .i64 i) g hne1)
   exact h2.trans (h3.trans h1)
end Go.Proofs.YthmljpccbjolgaaGreatDoor.iref
namespace Go.Proofs.YthmljpccbjolgaaGreatDoor.iref
open Go.ChangeShapes Go.WideShapes Go.ChangeAt Go.RowKit num rat dbm way Go.Proofs.YthmljpccbjolgaaGreatDoor.tight Go.Proofs.YthmljpccbjolgaaGreatDoor.incl Go.Proofs.YthmljpccbjolgaaGreatDoor.tlaw
open bound hiding up
set_option linter.unusedVariables false
set_option linter.unusedSimpArgs false
def lowT:Option Int→Bool × Int × Int × Bool
 | none=>(false,0,1,false)
 | some e=>(true,p8 (-1*(e / 2)),q8 (-1*(e / 2)),decide (e % 2=0))
def LI (n b off cap:Nat) (A B:Int) (w W:World):Prop:=lies.Lies W w.heap.size 81 #[.int .i64 n,.slice (some ⟨b,off,none⟩) (n*n) cap]∧lies.Lies W (w.heap.size+1) 45 #[.int .i64 0,.int .i64 0]∧lies.Lies W (w.heap.size+1+1) 45 #[.int .i64 A,.int .i64 B]∧Below w.heap.size w W
theorem LI.below {n b off cap:Nat} {A B:Int} {w W X:World} (h:LI n b off cap A B w W) (k:Below W.heap.size W X):LI n b off cap A B w X:=⟨lies.on_call h.1 k,lies.on_call h.2.1 k,lies.on_call h.2.2.1 k,h.2.2.2.trans (k.mono h.2.2.2.size)⟩
theorem LI.far {n b off cap:Nat} {A B:Int} {w W:World} (h:LI n b off cap A B w W) {g:Nat} (hg:w.heap.size+1+1<g) (i:Nat) (u:Value):LI n b off cap A B w (W.setCell ⟨g,i,none⟩ u):=⟨lies.on_far h.1 (b:=g) i (by omega) u,lies.on_far h.2.1 (b:=g) i (by omega) u,lies.on_far h.2.2.1 (b:=g) i (by omega) u,h.2.2.2.setCell (p:=⟨g,i,none⟩) (by dsimp only;omega) u⟩
theorem LI.put {n b off cap:Nat} {A B:Int} {w W:World} (h:LI n b off cap A B w W) (P Q:Int):LI n b off cap P Q w ((W.setCell ⟨w.heap.size+1+1,0,none⟩ (.int .i64 P)).setCell ⟨w.heap.size+1+1,1,none⟩ (.int .i64 Q)):=
 ⟨lies.on_far (lies.on_far h.1 (b:=w.heap.size+1+1) 0 (by omega) _) (b:=w.heap.size+1+1) 1 (by omega) _,lies.on_far (lies.on_far h.2.1 (b:=w.heap.size+1+1) 0 (by omega) _) (b:=w.heap.size+1+1) 1 (by omega) _,lies.on_put (lies.on_put h.2.2.1 0 (.int .i64 P)) 1 (.int .i64 Q),(h.2.2.2.setCell (p:=⟨w.heap.size+1+1,0,none⟩) (by dsimp only;omega) _).setCell (p:=⟨w.heap.size+1+1,1,none⟩) (by dsimp only;omega) _⟩
def lowY:Option Int→Int
 | none=>0
 | some e=>-1*(e / 2)
theorem lowT_near {o:Option Int} (h:NearE (-1) o):Near (lowY o)∧(lowT o).2.1=p8 (lowY o)∧(lowT o).2.2.1=q8 (lowY o):=by
 cases o with
 | none=>exact ⟨⟨by decide,by decide⟩,eight_zero.1.symm,eight_zero.2.symm⟩
 | some e=>exact ⟨h,rfl,rfl⟩
set_option maxRecDepth 100000 in
set_option maxHeartbeats 16000000 in
theorem low_is (n i b off cap tb toff tcap:Nat) (X:Nat→Int) (ts:List Int) (rs:List (Int × Int)) (w:World) (hn:n≤4) (hi:i<n) (hr:Row w b off ts) (hb:b<w.heap.size) (hl:ts.length=n*n)
  (hR:RowR w tb toff rs) (htb:tb<w.heap.size) (hrs:rs.length=i) (hpr:∀ j,j<i→pr rs j=(p8 (X j),q8 (X j))) (hfit:∀ j,j<i→Fit (-1) (X j) (ts[j*n+i]?.getD 0)):
  Calls Tryz.prog 221 #[.agg #[.int .i64 n,.slice (some ⟨b,off,none⟩) (n*n) cap],.slice (some ⟨tb,toff,none⟩) i tcap] w fun e w'=>Below w.heap.size w w'∧e=.returned (.tuple #[.bool (lowT (endC (-1) X (fun j=>cod (ts[j*n+i]?.getD 0)) i)).1,.agg #[.int .i64 ((lowT (endC (-1) X (fun j=>cod (ts[j*n+i]?.getD 0)) i)).2.1),.int .i64 ((lowT (endC (-1) X (fun j=>cod (ts[j*n+i]?.getD 0)) i)).2.2.1)],.bool (lowT (endC (-1) X (fun j=>cod (ts[j*n+i]?.getD 0)) i)).2.2.2]):=by
 have hnear:=endC_near (.inr rfl) (X:=X) (t:=fun j=>ts[j*n+i]?.getD 0) (k:=i) (fun j hj=>(hfit j hj).imp id fun h=>h.2.2)
 obtain ⟨zi,hzi⟩:∃ z,(lowT (endC (-1) X (fun j=>cod (ts[j*n+i]?.getD 0)) i)).1=z:=⟨_,rfl⟩
 obtain ⟨zp,hzp⟩:∃ z,(lowT (endC (-1) X (fun j=>cod (ts[j*n+i]?.getD 0)) i)).2.1=z:=⟨_,rfl⟩
 obtain ⟨zq,hzq⟩:∃ z,(lowT (endC (-1) X (fun j=>cod (ts[j*n+i]?.getD 0)) i)).2.2.1=z:=⟨_,rfl⟩
 obtain ⟨zs,hzs⟩:∃ z,(lowT (endC (-1) X (fun j=>cod (ts[j*n+i]?.getD 0)) i)).2.2.2=z:=⟨_,rfl⟩
 rw [hzi,hzp,hzq,hzs]
 have HZ:=Lib.hid (And.intro hzi (And.intro hzp (And.intro hzq hzs)))
 have HNE:=Lib.hid hnear
 have HR:=Lib.hid hr
 have HL:=Lib.hid hl
 have HRR:=Lib.hid hR
 have HRS:=Lib.hid hrs
 have HPR:=Lib.hid hpr
 have HFI:=Lib.hid hfit
 clear hzi hzp hzq hzs hnear hr hl hR hrs hpr hfit
 have E0:=lies.on_alloc (lies.on_alloc (lies.made w 81 #[.int .i64 n,.slice (some ⟨b,off,none⟩) (n*n) cap]) (.cells #[.int .i64 0,.int .i64 0] 45)) (.cells #[.int .i64 0,.int .i64 1] 45)
 have E1:=lies.on_alloc (lies.made_at (w.alloc (.cells #[.int .i64 n,.slice (some ⟨b,off,none⟩) (n*n) cap] 81)) 45 #[.int .i64 0,.int .i64 0] (w.heap.size+1) (World.size_alloc _ _)) (.cells #[.int .i64 0,.int .i64 1] 45)
 have E2:=lies.made_at ((w.alloc (.cells #[.int .i64 n,.slice (some ⟨b,off,none⟩) (n*n) cap] 81)).alloc (.cells #[.int .i64 0,.int .i64 0] 45)) 45 #[.int .i64 0,.int .i64 1] (w.heap.size+1+1) (by simp)
 have EB:=bound.up3 w (.cells #[.int .i64 n,.slice (some ⟨b,off,none⟩) (n*n) cap] 81) (.cells #[.int .i64 0,.int .i64 0] 45) (.cells #[.int .i64 0,.int .i64 1] 45)
 have I0:LI n b off cap 0 1 w _:=⟨E0,E1,E2,EB⟩
 clear E0 E1 E2 EB
 go_enter Tryz.func221,Tryz.ntmps221
 go_wp2_with fail
 generalize ((w.alloc (.cells #[.int .i64 n,.slice (some ⟨b,off,none⟩) (n*n) cap] 81)).alloc (.cells #[.int .i64 0,.int .i64 0] 45)).alloc (.cells #[.int .i64 0,.int .i64 1] 45)=w0 at I0 ⊢
 go_loopw [8,9,11] (fun isv stv iv wr=>∃ (j:Nat) (A B:Int) (is st:Bool),j≤i∧iv=.int .i64 j∧isv=.bool is∧stv=.bool st∧lowT (endC (-1) X (fun j=>cod (ts[j*n+i]?.getD 0)) j)=(is,A,B,st)∧LI n b off cap A B w wr) (fun isv stv iv _=>i - (intOf iv).toNat)
 case atStart=>exact ⟨0,0,1,false,false,Nat.zero_le _,rfl,rfl,rfl,rfl,I0⟩
 case round=>
  clear I0
  obtain ⟨j,A,B,is,st,hj,rfl,rfl,rfl,hT,hLI'⟩:=hrel
  by_cases hji:j<i
  ·have hjn:j<n:=by omega
   have hpl:=place_le hn hjn hi
   have hz:=(HR.out.below hLI'.2.2.2 hb) (j*n+i) (by rw [HL.out];exact hpl)
   have hbl:=Nat.lt_of_lt_of_le hb hLI'.2.2.2.size
   have hup:endC (-1) X (fun j=>cod (ts[j*n+i]?.getD 0)) (j+1)=mnE (endC (-1) X (fun j=>cod (ts[j*n+i]?.getD 0)) j) (cand (-1) (X j) (cod (ts[j*n+i]?.getD 0))):=rfl
   have hft:=HFI.out j hji
   have hnj:=HNE.out j (by omega)
   generalize ts[j*n+i]?.getD 0=z at hz hup hft
   generalize endC (-1) X (fun j=>cod (ts[j*n+i]?.getD 0)) j=eo at hT hup hnj
   have HUP:=Lib.hid hup
   have HTT:=Lib.hid hT
   have HNJ:=Lib.hid hnj
   obtain ⟨y0,y1,y2,y3,y4⟩:=lies.two hLI'.1
   have wj:wrap64 ((j:Int)+1)=(j:Int)+1:=IntWalk.wrap64_in _ ⟨by omega,by omega⟩
   clear hup hT hnj
   rcases hft with rfl | ⟨hmz,hNX,hNS⟩
   ·obtain ⟨q1,q2,q3,q4,q5,q6,q7⟩:=dref.place_int hn hjn hi
    go_wp2_with fail
    clear q1 q2 q3 q4 q5 q6 q7
    go_roundw
    case rel=>exact ⟨j+1,A,B,is,st,by omega,by go_num,rfl,rfl,by rw [HUP.out];cases eo<;>exact HTT.out,hLI'⟩
    case measure=>simp [intOf];omega
   ·have hzn:z≠9223372036854775807:=by have:=hmz.2;omega
    have hz1:-9223372036854775808≤z:=by have:=hmz.1;omega
    have hz2:z≤9223372036854775807:=by have:=hmz.2;omega
    have u1:(z==9223372036854775807)=false:=by simpa using hzn
    obtain ⟨m1,m2⟩:=(HRR.out.below hLI'.2.2.2 htb) j (by rw [HRS.out];exact hji)
    rw [HPR.out j hji] at m1 m2
    dsimp only at m1 m2
    have S0:∀ W,Below w.heap.size w W→W.cell? ⟨tb,toff+j*2,none⟩=some (.int .i64 (p8 (X j)))∧W.cell? ⟨tb,toff+j*2+1,none⟩=some (.int .i64 (q8 (X j))):=fun W hW=>
     ⟨(hW.cell (p:=⟨tb,toff+j*2,none⟩) htb).trans ((hLI'.2.2.2.cell (p:=⟨tb,toff+j*2,none⟩) htb).symm.trans m1),(hW.cell (p:=⟨tb,toff+j*2+1,none⟩) htb).trans ((hLI'.2.2.2.cell (p:=⟨tb,toff+j*2+1,none⟩) htb).symm.trans m2)⟩
    have HS0:=Lib.hid S0
    have ez:-1*(z / 2)=-(z / 2):=by omega
    rw [ez] at hNS
    have hmz':May (-(z / 2)):=by have:=hmz.1;have:=hmz.2;exact ⟨by omega,by omega⟩
    have g1:IntKind.i64.wrap (0 - z / 2)=-(z / 2):=by rw [Int.zero_sub];exact IntWalk.i64_in _ (by have:=hmz.1;have:=hmz.2;omega)
    have g2:IntKind.i64.wrap (-(z / 2))=-(z / 2):=IntWalk.i64_in _ (by have:=hmz.1;have:=hmz.2;omega)
    have hN:=near_fits hNS
    obtain ⟨bc,hbc⟩:∃ bc:Int,bc=2*(-1*X j)+16*(z / 2)+z % 2:=⟨_,rfl⟩
    have hcand:cand (-1) (X j) (cod z)=some bc:=by rw [cod_some hzn,hbc];rfl
    have hbv:-1*(bc / 2)=X j+8*-(z / 2):=by rw [hbc];omega
    have hbs:decide (bc % 2=0)=bS z:=by unfold bS;congr 1;rw [hbc];apply propext;omega
    have hTb:lowT (some bc)=(true,p8 (X j+8*-(z / 2)),q8 (X j+8*-(z / 2)),bS z):=by
     show (true,p8 (-1*(bc / 2)),q8 (-1*(bc / 2)),decide (bc % 2=0))=_
     rw [hbv,hbs]
    have HC:=Lib.hid (And.intro hcand (And.intro hbv hTb))
    obtain ⟨hY,hYA,hYB⟩:=lowT_near HNJ.out
    generalize hYY:lowY eo=Y at hY hYA hYB
    have HYY:=Lib.hid hYY
    rw [HTT.out] at hYA hYB
    dsimp only at hYA hYB
    have hYf:=near_fits hY
    have hcmp:∀ W,Calls Tryz.prog 235 #[.agg #[.int .i64 (p8 (X j+8*-(z / 2))),.int .i64 (q8 (X j+8*-(z / 2)))],.agg #[.int .i64 (A),.int .i64 (B)]] W fun e w'=>e=.returned (.int .i64 (cmp0 (X j+8*-(z / 2)) Y))∧Below W.heap.size W w':=fun W=>by
     rw [hYA,hYB]
     have:=rref.compared_any (p8 (X j+8*-(z / 2))) (q8 (X j+8*-(z / 2))) (p8 Y) (q8 Y) W hN.1.1 hN.1.2 hYf.1.1 hYf.1.2 ⟨near_may hNS,near_may hY⟩
     rw [←(cmpV_is ⟨near_may hNS,near_may hY⟩).1,(cmp8 hNS hY).1] at this
     exact this
    have HCMP:=Lib.hid hcmp
    have HYA:=Lib.hid (And.intro hYA hYB)
    clear hYY S0 ez hcand hbv hbs hTb hcmp hYf hYA hYB hbc m1 m2
    generalize hPP:p8 (X j+8*-(z / 2))=P at HCMP HC
    generalize hQQ:q8 (X j+8*-(z / 2))=Q at HCMP HC
    have HPQ:=Lib.hid (And.intro hPP hQQ)
    clear hN
    obtain ⟨q1,q2,q3,q4,q5,q6,q7⟩:=dref.place_int hn hjn hi
    go_upto_region 10 with fail
    clear q1 q2 q3 q4 q5 q6 q7 y0 y1 y2 y3 y4 hz hbl
    go_cut [13,64,65,66] from 18 (fun s13 s64 s65 s66 wx=>(s64=undef∧s65=undef∧s66=undef)∧∃ g:Nat,s13=.pointer (some ⟨g,0,none⟩)∧lies.Lies wx g 45 #[.int .i64 P,.int .i64 Q]∧LI n b off cap A B w wx∧w.heap.size+1+1<g)
    case first=>
     have hLI:LI n b off cap A B w wr.drew:=hLI'.below (dbm.drawn1 (Below.refl _ _))
     clear hLI' HCMP HC HPQ HYA
     refine wp_region_held_drew (S:=Below w.heap.size w) (by kernel_rfl) hLI.2.2.2 (fun hHeld=>?_)
     refine tk 0 (v:=?_) rfl hHeld ?_ ?_
     rotate_left
     ·intro w hSw;obtain ⟨s0,s1⟩:=HS0.out _ hSw;go_simp;try with_reducible rfl
     try simp only [Act.put,sA,sB,sC,sD,sE,sF]
     refine tk 1 (v:=?_) rfl hHeld ?_ ?_
     rotate_left
     ·intro w hSw;obtain ⟨s0,s1⟩:=HS0.out _ hSw;go_simp;try with_reducible rfl
     try simp only [Act.put,sA,sB,sC,sD,sE,sF]
     refine tk 2 (v:=?_) rfl hHeld ?_ ?_
     rotate_left
     ·intro w hSw;obtain ⟨s0,s1⟩:=HS0.out _ hSw;go_simp;try with_reducible rfl
     try simp only [Act.put,sA,sB,sC,sD,sE,sF]
     refine tk 3 (v:=?_) rfl hHeld ?_ ?_
     rotate_left
     ·intro w hSw;obtain ⟨s0,s1⟩:=HS0.out _ hSw;go_simp;try with_reducible rfl
     try simp only [Act.put,sA,sB,sC,sD,sE,sF]
     refine tk 4 (v:=?_) rfl hHeld ?_ ?_
     rotate_left
     ·intro w hSw;obtain ⟨s0,s1⟩:=HS0.out _ hSw;go_simp;try with_reducible rfl
     try simp only [Act.put,sA,sB,sC,sD,sE,sF]
     refine wpAnyH_ready (rs:=[5,8]) (by kernel_rfl) (by simp) (AllReadyH.cons rfl (fun K hK=>?_) (AllReadyH.cons rfl (fun K hK=>?_) AllReadyH.nil))
     ·go_simp
      refine (number_any z _ hz1 hz2).mono ?_
      rintro e v1 ⟨rfl,rfl⟩
      refine hK.out _ _ hHeld (fun hNew=>?_)
      clear hHeld hK K
      have hHeld:=hNew
      clear hNew
      try simp only [Act.put,sA,sB,sC,sD,sE,sF]
      refine tk 6 (v:=?_) rfl hHeld ?_ ?_
      rotate_left
      ·intro w hSw;skip;go_simp;try with_reducible rfl
      try simp only [Act.put,sA,sB,sC,sD,sE,sF]
      refine wpAnyH_ready (rs:=[7,8]) (by kernel_rfl) (by simp) (AllReadyH.cons rfl (fun K hK=>?_) (AllReadyH.cons rfl (fun K hK=>?_) AllReadyH.nil))
      ·go_simp
       refine (shift_is _ hNX hmz' hNS).mono ?_
       rintro e v2 ⟨rfl,hB⟩
       rw [hPP,hQQ]
       replace hLI:=hLI.below hB
       refine hK.out _ _ hLI.2.2.2 (fun hNew=>?_)
       clear hB
       clear hHeld hK K
       have hHeld:=hNew
       clear hNew
       try simp only [Act.put,sA,sB,sC,sD,sE,sF]
       refine wpAnyH_ready (rs:=[8]) (by kernel_rfl) (by simp) (AllReadyH.cons rfl (fun K hK=>?_) AllReadyH.nil)
       go_simp
       have G8:lies.Lies (v2.alloc (.cells #[.int .i64 0,.int .i64 0] 45)) v2.heap.size 45 #[.int .i64 0,.int .i64 0]:=lies.made v2 45 #[.int .i64 0,.int .i64 0]
       have hg:w.heap.size+1+1<v2.heap.size:=lies.lt hLI.2.2.1
       replace hLI:=hLI.below (bound.up1 v2 (.cells #[.int .i64 0,.int .i64 0] 45))
       refine hK.out _ _ hLI.2.2.2 (fun hNew=>?_)
       clear hHeld hK K
       have hHeld:=hNew
       clear hNew
       try simp only [Act.put,sA,sB,sC,sD,sE,sF]
       generalize v2.heap.size=g at G8 hg ⊢
       generalize v2.alloc (.cells #[.int .i64 0,.int .i64 0] 45)=w8 at G8 hLI hHeld ⊢
       obtain ⟨x0,x1,x2,x3,x4⟩:=lies.two G8
       refine wpAnyH_ready (rs:=[9]) (by kernel_rfl) (by simp) (AllReadyH.cons rfl (fun K hK=>?_) AllReadyH.nil)
       go_simp
       have G9:=lies.on_put (lies.on_put G8 0 (.int .i64 P)) 1 (.int .i64 Q)
       have L9:=(hLI.far (g:=g) (by omega) 0 (.int .i64 P)).far (g:=g) (by omega) 1 (.int .i64 Q)
       refine hK.out _ _ L9.2.2.2 (fun hNew=>?_)
       clear x0 x1 x2 x3 x4
       clear hHeld hK K hNew
       refine wpAnyH_done (by kernel_rfl) ?_ _
       go_wp2_with fail
       go_meet
       exact ⟨⟨rfl,rfl,rfl⟩,g,rfl,G9,L9,hg⟩
      ·go_simp
       have G8:lies.Lies (wr.drew.alloc (.cells #[.int .i64 0,.int .i64 0] 45)) wr.heap.size 45 #[.int .i64 0,.int .i64 0]:=lies.made wr.drew 45 #[.int .i64 0,.int .i64 0]
       have hg:w.heap.size+1+1<wr.heap.size:=lies.lt hLI.2.2.1
       replace hLI:=hLI.below (bound.up1 wr.drew (.cells #[.int .i64 0,.int .i64 0] 45))
       refine hK.out _ _ hLI.2.2.2 (fun hNew=>?_)
       clear hHeld hK K
       have hHeld:=hNew
       clear hNew
       try simp only [Act.put,sA,sB,sC,sD,sE,sF]
       refine wpAnyH_ready (rs:=[7]) (by kernel_rfl) (by simp) (AllReadyH.cons rfl (fun K hK=>?_) AllReadyH.nil)
       go_simp
       refine (shift_is _ hNX hmz' hNS).mono ?_
       rintro e v2 ⟨rfl,hB⟩
       rw [hPP,hQQ]
       replace hLI:=hLI.below hB
       replace G8:=lies.on_call G8 hB
       refine hK.out _ _ hLI.2.2.2 (fun hNew=>?_)
       clear hB
       clear hHeld hK K
       have hHeld:=hNew
       clear hNew
       try simp only [Act.put,sA,sB,sC,sD,sE,sF]
       obtain ⟨x0,x1,x2,x3,x4⟩:=lies.two G8
       refine wpAnyH_ready (rs:=[9]) (by kernel_rfl) (by simp) (AllReadyH.cons rfl (fun K hK=>?_) AllReadyH.nil)
       go_simp
       have G9:=lies.on_put (lies.on_put G8 0 (.int .i64 P)) 1 (.int .i64 Q)
       have L9:=(hLI.far (g:=wr.heap.size) (by omega) 0 (.int .i64 P)).far (g:=wr.heap.size) (by omega) 1 (.int .i64 Q)
       refine hK.out _ _ L9.2.2.2 (fun hNew=>?_)
       clear x0 x1 x2 x3 x4
       clear hHeld hK K hNew
       refine wpAnyH_done (by kernel_rfl) ?_ _
       go_wp2_with fail
       go_meet
       exact ⟨⟨rfl,rfl,rfl⟩,wr.heap.size,rfl,G9,L9,hg⟩
     ·go_simp
      have G8:lies.Lies (wr.drew.alloc (.cells #[.int .i64 0,.int .i64 0] 45)) wr.heap.size 45 #[.int .i64 0,.int .i64 0]:=lies.made wr.drew 45 #[.int .i64 0,.int .i64 0]
      have hg:w.heap.size+1+1<wr.heap.size:=lies.lt hLI.2.2.1
      replace hLI:=hLI.below (bound.up1 wr.drew (.cells #[.int .i64 0,.int .i64 0] 45))
      refine hK.out _ _ hLI.2.2.2 (fun hNew=>?_)
      clear hHeld hK K
      have hHeld:=hNew
      clear hNew
      try simp only [Act.put,sA,sB,sC,sD,sE,sF]
      refine wpAnyH_ready (rs:=[5]) (by kernel_rfl) (by simp) (AllReadyH.cons rfl (fun K hK=>?_) AllReadyH.nil)
      go_simp
      refine (number_any z _ hz1 hz2).mono ?_
      rintro e v1 ⟨rfl,rfl⟩
      refine hK.out _ _ hHeld (fun hNew=>?_)
      clear hHeld hK K
      have hHeld:=hNew
      clear hNew
      try simp only [Act.put,sA,sB,sC,sD,sE,sF]
      refine tk 6 (v:=?_) rfl hHeld ?_ ?_
      rotate_left
      ·intro w hSw;skip;go_simp;try with_reducible rfl
      try simp only [Act.put,sA,sB,sC,sD,sE,sF]
      refine wpAnyH_ready (rs:=[7]) (by kernel_rfl) (by simp) (AllReadyH.cons rfl (fun K hK=>?_) AllReadyH.nil)
      go_simp
      refine (shift_is _ hNX hmz' hNS).mono ?_
      rintro e v2 ⟨rfl,hB⟩
      rw [hPP,hQQ]
      replace hLI:=hLI.below hB
      replace G8:=lies.on_call G8 hB
      refine hK.out _ _ hLI.2.2.2 (fun hNew=>?_)
      clear hB
      clear hHeld hK K
      have hHeld:=hNew
      clear hNew
      try simp only [Act.put,sA,sB,sC,sD,sE,sF]
      obtain ⟨x0,x1,x2,x3,x4⟩:=lies.two G8
      refine wpAnyH_ready (rs:=[9]) (by kernel_rfl) (by simp) (AllReadyH.cons rfl (fun K hK=>?_) AllReadyH.nil)
      go_simp
      have G9:=lies.on_put (lies.on_put G8 0 (.int .i64 P)) 1 (.int .i64 Q)
      have L9:=(hLI.far (g:=wr.heap.size) (by omega) 0 (.int .i64 P)).far (g:=wr.heap.size) (by omega) 1 (.int .i64 Q)
      refine hK.out _ _ L9.2.2.2 (fun hNew=>?_)
      clear x0 x1 x2 x3 x4
      clear hHeld hK K hNew
      refine wpAnyH_done (by kernel_rfl) ?_ _
      go_wp2_with fail
      go_meet
      exact ⟨⟨rfl,rfl,rfl⟩,wr.heap.size,rfl,G9,L9,hg⟩
    case rest=>
     obtain ⟨⟨e64,e65,e66⟩,g,rfl,hG,hLI,hg⟩:=hcut
     subst e64 e65 e66
     clear hLI'
     obtain ⟨x0,x1,x2,x3,x4⟩:=lies.two hG
     obtain ⟨y0,y1,y2,y3,y4⟩:=lies.two hLI.2.2.1
     go_wp2_with fail
     clear x0 x1 x2 x3 x4 y0 y1 y2 y3 y4
     refine (HCMP.out _).mono ?_
     rintro e w3 ⟨rfl,hB⟩
     replace hG:=lies.on_call hG hB
     replace hLI:=hLI.below hB
     clear hB
     obtain ⟨x0,x1,x2,x3,x4⟩:=lies.two hG
     obtain ⟨y0,y1,y2,y3,y4⟩:=lies.two hLI.2.2.1
     have hput:=hLI.put P Q
     obtain ⟨hc1,hc2,hc3⟩:=HC.out
     generalize hXX:X j+8*-(z / 2)=XX at hc2 HCMP ⊢
     cases eo with
     | none=>
      have hTv:=HTT.out
      simp only [lowT,Prod.mk.injEq] at hTv
      obtain ⟨e1,e2,e3,e4⟩:=hTv
      subst e1 e2 e3 e4
      have HP:=Lib.hid hput
      have HC3:=Lib.hid hc3
      have HC1:=Lib.hid hc1
      clear hput hc1 hc2 hc3 HC HCMP HYY HYA HTT HNJ
      generalize cmp0 XX Y=cc
      go_wp2_with fail
      refine (strict_any z _).mono ?_
      rintro e w4 ⟨rfl,rfl⟩
      go_wp2_with fail
      go_roundw
      case rel=>exact ⟨j+1,P,Q,true,bS z,by omega,by go_num,rfl,by simp,by rw [HUP.out,HC1.out];exact HC3.out,HP.out⟩
      case measure=>simp [intOf];omega
     | some a=>
      have hTv:=HTT.out
      simp only [lowT,Prod.mk.injEq] at hTv
      obtain ⟨e1,e2,e3,e4⟩:=hTv
      have hYv:=HYY.out
      simp only [lowY] at hYv
      have hmin:lowT (endC (-1) X (fun j=>cod (ts[j*n+i]?.getD 0)) (j+1))=lowT (some (min a bc)):=by
       rw [HUP.out,hc1]
       rfl
      have HMIN:=Lib.hid hmin
      have HP:=Lib.hid hput
      have HC3:=Lib.hid hc3
      rcases cmp0_cases XX Y with ⟨hlt,hcv⟩ | ⟨hlt,hcv⟩ | ⟨heq,hcv⟩
      ·have hm:min a bc=bc:=by omega
       have HMM:=Lib.hid hm
       have e1':=e1
       subst e1
       rw [hcv]
       clear hput hc1 hc2 hc3 HC HCMP HYY HYA HTT HNJ hmin hlt hcv hm e2 e3 e4 hYv hXX e1'
       go_wp2_with fail
       refine (strict_any z _).mono ?_
       rintro e w4 ⟨rfl,rfl⟩
       go_wp2_with fail
       go_roundw
       case rel=>exact ⟨j+1,P,Q,true,bS z,by omega,by go_num,rfl,by simp,by rw [HMIN.out,HMM.out];exact HC3.out,HP.out⟩
       case measure=>simp [intOf];omega
      ·have hm:min a bc=a:=by omega
       have hTa:lowT (some a)=(is,A,B,st):=HTT.out
       have HMM:=Lib.hid hm
       have HTA:=Lib.hid hTa
       subst e1
       rw [hcv]
       clear hput hc1 hc2 hc3 HC HCMP HYY HYA HTT HNJ hmin hlt hcv hm e2 e3 e4 hYv hXX hTa HP
       go_wp2_with fail
       go_roundw
       case rel=>exact ⟨j+1,A,B,true,st,by omega,by go_num,rfl,rfl,by rw [HMIN.out,HMM.out];exact HTA.out,hLI⟩
       case measure=>simp [intOf];omega
      ·have hab:a / 2=bc / 2:=by omega
       have hm2:min a bc / 2=a / 2:=by omega
       have hbq:bS z=decide (bc % 2=0):=by
        have:=hc3
        simp only [lowT,Prod.mk.injEq] at this
        exact this.2.2.2.symm
       have hTm:lowT (some (min a bc))=(true,A,B,(st || bS z)):=by
        show (true,p8 (-1*(min a bc / 2)),q8 (-1*(min a bc / 2)),decide (min a bc % 2=0))=_
        rw [hm2,e2,e3,hbq,←e4]
        have:decide (min a bc % 2=0)=(decide (a % 2=0) || decide (bc % 2=0)):=by
         by_cases p:a % 2=0<;>by_cases q:bc % 2=0<;>simp [p,q]<;>omega
        rw [this]
       have HTM:=Lib.hid hTm
       subst e1
       rw [hcv]
       clear hput hc1 hc2 hc3 HC HCMP HYY HYA HTT HNJ hmin heq hcv e2 e3 e4 hYv hXX hab hm2 hbq hTm HP
       cases st with
       | true=>
        go_wp2_with fail
        go_roundw
        case rel=>exact ⟨j+1,A,B,true,true,by omega,by go_num,rfl,rfl,by rw [HMIN.out];exact HTM.out,hLI⟩
        case measure=>simp [intOf];omega
       | false=>
        go_wp2_with fail
        refine (strict_any z _).mono ?_
        rintro e w4 ⟨rfl,rfl⟩
        go_wp2_with fail
        go_roundw
        case rel=>exact ⟨j+1,A,B,true,bS z,by omega,by go_num,rfl,by simp,by rw [HMIN.out];exact HTM.out,hLI⟩
        case measure=>simp [intOf];omega
  ·obtain rfl:j=i:=by omega
   obtain ⟨hz1,hz2,hz3,hz4⟩:=HZ.out
   rw [hT] at hz1 hz2 hz3 hz4
   dsimp only at hz1 hz2 hz3 hz4
   subst hz1 hz2 hz3 hz4
   clear HZ hT HNE HR HL HRR HRS HPR HFI
   go_wp2_with fail
   have L0:LI n b off cap A B w wr.drew:=hLI'.below (dbm.drawn1 (Below.refl _ _))
   refine wp_region_held_drew (S:=fun W=>W.cell? ⟨w.heap.size+1+1,0,none⟩=some (.int .i64 A)∧W.cell? ⟨w.heap.size+1+1,1,none⟩=some (.int .i64 B)) (by kernel_rfl) (lies.pair L0.2.2.1) (fun hHeld=>?_)
   refine tk 0 (v:=?_) rfl hHeld ?_ ?_
   rotate_left
   ·intro w hSw;obtain ⟨s0,s1⟩:=hSw;go_simp;try with_reducible rfl
   try simp only [Act.put,sA,sB,sC,sD,sE,sF]
   refine tk 1 (v:=?_) rfl hHeld ?_ ?_
   rotate_left
   ·intro w hSw;obtain ⟨s0,s1⟩:=hSw;go_simp;try with_reducible rfl
   try simp only [Act.put,sA,sB,sC,sD,sE,sF]
   refine tk 2 (v:=?_) rfl hHeld ?_ ?_
   rotate_left
   ·intro w hSw;obtain ⟨s0,s1⟩:=hSw;go_simp;try with_reducible rfl
   try simp only [Act.put,sA,sB,sC,sD,sE,sF]
   refine tk 3 (v:=?_) rfl hHeld ?_ ?_
   rotate_left
   ·intro w hSw;obtain ⟨s0,s1⟩:=hSw;go_simp;try with_reducible rfl
   try simp only [Act.put,sA,sB,sC,sD,sE,sF]
   obtain ⟨x0,x1,x2,x3,x4⟩:=lies.two hLI'.2.1
   refine wpAnyH_ready (rs:=[4]) (by kernel_rfl) (by simp) (AllReadyH.cons rfl (fun K hK=>?_) AllReadyH.nil)
   go_simp
   have G2:=lies.on_far (lies.on_far L0.2.2.1 (b:=w.heap.size+1) 0 (by omega) (.int .i64 A)) (b:=w.heap.size+1) 1 (by omega) (.int .i64 B)
   have G1:=lies.on_put (lies.on_put L0.2.1 0 (.int .i64 A)) 1 (.int .i64 B)
   have GB:=(L0.2.2.2.setCell (p:=⟨w.heap.size+1,0,none⟩) (by dsimp only;omega) (.int .i64 A)).setCell (p:=⟨w.heap.size+1,1,none⟩) (by dsimp only;omega) (.int .i64 B)
   refine hK.out _ _ (lies.pair G2) (fun hNew=>?_)
   clear x0 x1 x2 x3 x4
   clear hHeld hK K
   have hHeld:=hNew
   clear hNew
   try simp only [Act.put,sA,sB,sC,sD,sE,sF]
   refine tk 5 (v:=?_) rfl hHeld ?_ ?_
   rotate_left
   ·intro w hSw;skip;go_simp;try with_reducible rfl
   try simp only [Act.put,sA,sB,sC,sD,sE,sF]
   refine wpAnyH_done (by kernel_rfl) ?_ _
   replace G1:lies.Lies ((wr.drew.setCell ⟨w.heap.size+1,0,none⟩ (.int .i64 A)).setCell ⟨w.heap.size+1,1,none⟩ (.int .i64 B)) (w.heap.size+1) 45 #[.int .i64 A,.int .i64 B]:=G1
   clear G1
   go_wp2_with fail
   obtain ⟨c0,c1,c2,c3,c4⟩:=lies.two hLI'.2.1
   exact bodyPost_ret (v:=.tuple #[.bool is,.agg #[.int .i64 (A),.int .i64 (B)],.bool st]) (by simp [results,Tryz.results221,go_sem,c0,c1]) rfl ⟨GB,rfl⟩
end Go.Proofs.YthmljpccbjolgaaGreatDoor.iref
namespace Go.Proofs.YthmljpccbjolgaaGreatDoor.iref
open Go.ChangeShapes Go.WideShapes Go.ChangeAt Go.RowKit num rat dbm way Go.Proofs.YthmljpccbjolgaaGreatDoor.tight Go.Proofs.YthmljpccbjolgaaGreatDoor.incl Go.Proofs.YthmljpccbjolgaaGreatDoor.tlaw
open bound hiding up
set_option linter.unusedVariables false
set_option linter.unusedSimpArgs false
theorem fit_neg {x z:Int} (h:Fit 1 x z):Fit (-1) (-x) z:=by
 rcases h with h | ⟨h1,h2,h3⟩
 ·exact .inl h
 ·refine .inr ⟨h1,near_neg h2,?_⟩
  have:=near_neg h3
  rw [show -(x+8*(1*(z / 2)))=-x+8*(-1*(z / 2)) by omega] at this
  exact this
set_option maxRecDepth 100000 in
set_option maxHeartbeats 16000000 in
theorem pick_is (n i b off cap tb toff tcap:Nat) (X:Nat→Int) (ts:List Int) (rs:List (Int × Int)) (w:World) (hn:n≤4) (h1:0<i) (hi:i<n) (hr:Row w b off ts) (hb:b<w.heap.size) (hl:ts.length=n*n)
  (hR:RowR w tb toff rs) (htb:tb<w.heap.size) (hrs:rs.length=i) (hpr:∀ j,j<i→pr rs j=(p8 (X j),q8 (X j))) (hnX:∀ j,j<i→Near (X j)) (hlo:∀ j,j<i→Fit (-1) (X j) (ts[j*n+i]?.getD 0)) (hhi:∀ j,j<i→Fit 1 (X j) (ts[i*n+j]?.getD 0))
  (L H:Option Int) (hL:endC (-1) X (fun j=>cod (ts[j*n+i]?.getD 0)) i=L) (hH:endC 1 X (fun j=>cod (ts[i*n+j]?.getD 0)) i=H) (hbt:Near (btw L H)) (he:∀ l e,L=some l→H=some e→(l / 2) % 2=0∧(e / 2) % 2=0):
  Calls Tryz.prog 182 #[.agg #[.int .i64 n,.slice (some ⟨b,off,none⟩) (n*n) cap],.slice (some ⟨tb,toff,none⟩) i tcap] w fun e w'=>Below w.heap.size w w'∧e=.returned (.agg #[.int .i64 (p8 (btw L H)),.int .i64 (q8 (btw L H))]):=by
 have h0:0<n:=by omega
 have nlo:=endC_near (s:=-1) (.inr rfl) (X:=X) (t:=fun j=>ts[j*n+i]?.getD 0) (k:=i) (fun j hj=>(hlo j hj).imp id fun h=>h.2.2) i (Nat.le_refl _)
 have nhi:=endC_near (s:=1) (.inl rfl) (X:=X) (t:=fun j=>ts[i*n+j]?.getD 0) (k:=i) (fun j hj=>(hhi j hj).imp id fun h=>h.2.2) i (Nat.le_refl _)
 rw [hL] at nlo
 rw [hH] at nhi
 have hH2:endC (-1) (fun j=>-(X j)) (fun j=>cod ((trT n ts (n*n))[j*n+i]?.getD 0)) i=H:=by
  rw [←hH,←endC_neg]
  exact endC_same i (fun _ _=>rfl) (fun j hj=>congrArg cod (trT_tat ts hn (by omega) hi))
 have hfit2:∀ j,j<i→Fit (-1) (-(X j)) ((trT n ts (n*n))[j*n+i]?.getD 0):=fun j hj=>by
  have e:(trT n ts (n*n))[j*n+i]?.getD 0=ts[i*n+j]?.getD 0:=trT_tat ts hn (by omega) hi
  rw [e]
  exact fit_neg (hhi j hj)
 obtain ⟨zp,hzp⟩:∃ z,p8 (btw L H)=z:=⟨_,rfl⟩
 obtain ⟨zq,hzq⟩:∃ z,q8 (btw L H)=z:=⟨_,rfl⟩
 rw [hzp,hzq]
 have HZ:=Lib.hid (And.intro hzp hzq)
 have HNL:=Lib.hid nlo
 have HNH:=Lib.hid nhi
 have HLL:=Lib.hid hL
 have HH2:=Lib.hid hH2
 have HF2:=Lib.hid hfit2
 have HR:=Lib.hid hr
 have HL:=Lib.hid hl
 have HRR:=Lib.hid hR
 have HRS:=Lib.hid hrs
 have HPR:=Lib.hid hpr
 have HNX:=Lib.hid hnX
 have HLO:=Lib.hid hlo
 have HBT:=Lib.hid hbt
 have HHE:=Lib.hid he
 clear hzp hzq nlo nhi hL hH hH2 hfit2 hr hl hR hrs hpr hnX hlo hhi hbt he
 have L0:=lies.on_alloc (lies.made w 81 #[.int .i64 n,.slice (some ⟨b,off,none⟩) (n*n) cap]) (.cells #[.int .i64 0,.int .i64 0] 45)
 have LR:=lies.made_at (w.alloc (.cells #[.int .i64 n,.slice (some ⟨b,off,none⟩) (n*n) cap] 81)) 45 #[.int .i64 0,.int .i64 0] (w.heap.size+1) (World.size_alloc _ _)
 have LB:=bound.up2 w (.cells #[.int .i64 n,.slice (some ⟨b,off,none⟩) (n*n) cap] 81) (.cells #[.int .i64 0,.int .i64 0] 45)
 go_enter Tryz.func182,Tryz.ntmps182
 go_wp2_with fail
 generalize (w.alloc (.cells #[.int .i64 n,.slice (some ⟨b,off,none⟩) (n*n) cap] 81)).alloc (.cells #[.int .i64 0,.int .i64 0] 45)=w0 at L0 LR LB ⊢
 refine (low_is n i b off cap tb toff tcap X ts rs w0 hn hi (HR.out.below LB hb) (Nat.lt_of_lt_of_le hb LB.size) HL.out (HRR.out.below LB htb) (Nat.lt_of_lt_of_le htb LB.size) HRS.out HPR.out HLO.out).mono ?_
 rintro e w1 ⟨hB,rfl⟩
 rw [HLL.out]
 generalize hT1:lowT L=T1
 obtain ⟨a,A,B,one⟩:=T1
 dsimp only
 have HT1:=Lib.hid hT1
 have hlt:=lies.lt LR
 have hs1:=hB.size
 replace L0:=lies.on_call L0 hB
 replace LR:=lies.on_alloc (lies.on_call LR hB) (.cells #[.int .i64 A,.int .i64 B] 45)
 have LF:=lies.made w1 45 #[.int .i64 A,.int .i64 B]
 replace LB:=lies.frame_up (later LB hB) (.cells #[.int .i64 A,.int .i64 B] 45)
 obtain ⟨x0,x1,x2,x3,x4⟩:=lies.two L0
 clear hT1 hB L0
 go_wp2_with fail
 clear x0 x1 x2 x3 x4
 have hFX:w.heap.size+1<w1.heap.size:=by omega
 generalize w1.heap.size=FX at LF hFX ⊢
 generalize w1.alloc (.cells #[.int .i64 A,.int .i64 B] 45)=w1' at LF LR LB ⊢
 clear hs1 hlt
 refine (other_is n b off cap ts w1' h0 hn (HR.out.below LB hb) (Nat.lt_of_lt_of_le hb LB.size) HL.out).mono ?_
 rintro e w2 ⟨hB,g,gc,rfl,hrow,hgl⟩
 replace LF:=lies.on_call LF hB
 replace LR:=lies.on_call LR hB
 replace LB:=later LB hB
 have HROW:=Lib.hid hrow
 clear hB hrow
 go_wp2_with fail
 refine (turned_is tb toff tcap i X rs w2 (by omega) (HRR.out.below LB htb) (Nat.lt_of_lt_of_le htb LB.size) HRS.out HPR.out HNX.out).mono ?_
 rintro e w3 ⟨hB,v,rfl,hO⟩
 replace LF:=lies.on_call LF hB
 replace LR:=lies.on_call LR hB
 replace LB:=later LB hB
 have hrow3:=HROW.out.below hB hgl
 have hgl3:=Nat.lt_of_lt_of_le hgl hB.size
 obtain ⟨g2,c2,rfl⟩:∃ g2 c2,v=.slice (some ⟨g2,0,none⟩) i c2:=by
  rcases Go.Joins.ownsRow_forms hO with ⟨_,h⟩ | ⟨g2,c2,h⟩
  ·omega
  ·exact ⟨g2,c2,h⟩
 have hg2:=(hO.lt g2 rfl).2
 have hrat:=own_rowR hO
 have HROW3:=Lib.hid hrow3
 have HRAT:=Lib.hid hrat
 clear hB hO hrow3 hrat HROW hgl
 go_wp2_with fail
 refine (low_is n i g 0 gc g2 0 c2 (fun j=>-(X j)) (trT n ts (n*n)) (negs X i) w3 hn hi HROW3.out hgl3 (trT_length _ _ _) HRAT.out hg2 (negs_length _ _) (fun j hj=>negs_at X hj) HF2.out).mono ?_
 rintro e w4 ⟨hB,rfl⟩
 rw [HH2.out]
 have hnC:NearE (-1) H:=by
  have:=HNH.out
  cases H with
  | none=>trivial
  | some h=>
   have h':Near (1*(h / 2)):=this
   have:=near_neg h'
   rw [show -(1*(h / 2))=-1*(h / 2) by omega] at this
   exact this
 obtain ⟨hc1,hc2,hc3⟩:=lowT_near hnC
 generalize hT2:lowT H=T2 at hc2 hc3
 obtain ⟨a2,C,D,two⟩:=T2
 dsimp only at hc2 hc3 ⊢
 have hcn:=near_fits (near_neg hc1)
 have hpn:=p8_neg (lowY H)
 rw [hpn.1,hpn.2,←hc2,←hc3] at hcn
 have g1:IntKind.i64.wrap (0 - C)=-C:=by rw [Int.zero_sub];exact IntWalk.i64_in _ (by omega)
 have g2':IntKind.i64.wrap (-C)=-C:=IntWalk.i64_in _ (by omega)
 have hlt:=lies.lt LR
 have hltF:=lies.lt LF
 have hs4:=hB.size
 replace LF:=lies.on_alloc (lies.on_alloc (lies.on_call LF hB) (.cells #[.int .i64 C,.int .i64 D] 45)) (.cells #[.int .i64 (-C),.int .i64 D] 45)
 replace LR:=lies.on_alloc (lies.on_alloc (lies.on_call LR hB) (.cells #[.int .i64 C,.int .i64 D] 45)) (.cells #[.int .i64 (-C),.int .i64 D] 45)
 have LT:=lies.made_at (w4.alloc (.cells #[.int .i64 C,.int .i64 D] 45)) 45 #[.int .i64 (-C),.int .i64 D] (w4.heap.size+1) (World.size_alloc _ _)
 replace LB:=lies.frame_up (lies.frame_up (later LB hB) (.cells #[.int .i64 C,.int .i64 D] 45)) (.cells #[.int .i64 (-C),.int .i64 D] 45)
 have HT2:=Lib.hid hT2
 clear hB hT2 hc1 hc2 hc3 hcn hpn HROW3 HRAT HF2 HLO HNX HPR HRS HRR HR HL HLL HH2
 go_upto_region 4 with fail
 clear g1 g2'
 have hTX:w.heap.size+1<w4.heap.size+1:=by omega
 generalize w4.heap.size+1=TX at LT hTX ⊢
 generalize (w4.alloc (.cells #[.int .i64 C,.int .i64 D] 45)).alloc (.cells #[.int .i64 (-C),.int .i64 D] 45)=w5 at LF LR LT LB ⊢
 clear hs4 hlt hltF hgl3 hg2
 have low1:∀ l,L=some l→l % 2=1→btw L H=-1*(l / 2):=fun l h k=>by
  subst h
  cases H<;>dsimp only [btw]<;>rw [if_pos k]<;>omega
 cases L with
 | none=>
  have e1:=HT1.out
  simp only [lowT,Prod.mk.injEq] at e1
  obtain ⟨e1,e2,e3,e4⟩:=e1
  subst e1 e2 e3 e4
  cases H with
  | none=>
   have e1:=HT2.out
   simp only [lowT,Prod.mk.injEq] at e1
   obtain ⟨e1,e2,e3,e4⟩:=e1
   subst e1 e2 e3 e4
   have HV:=Lib.hid (show 0=zp∧1=zq from ⟨eight_zero.1.symm.trans HZ.out.1,eight_zero.2.symm.trans HZ.out.2⟩)
   clear low1 HT1 HT2 HZ HNL HNH HBT HHE hnC
   obtain ⟨f0,f1,f2,f3,f4⟩:=lies.two LF
   obtain ⟨t0,t1,t2,t3,t4⟩:=lies.two LT
   obtain ⟨r0,r1,r2,r3,r4⟩:=lies.two LR
   clear LF LT LR
   go_wp2_with fail
   refine bodyPost_ret (v:=.agg #[.int .i64 (0),.int .i64 (1)]) (by simp [results,Tryz.results182,go_sem,r0,r1,r4,Nat.ne_of_lt r4,Nat.ne_of_gt r4]) rfl ⟨?_,by rw [HV.out.1,HV.out.2]⟩
   repeat (first | with_reducible exact LB | with_reducible refine lies.frame_up ?_ _ | with_reducible refine Below.setCell ?_ (by dsimp only;omega) _)
  | some h=>
   have hH':Near (1*(h / 2)):=HNH.out
   have hto:=p8_neg (1*(h / 2))
   rw [show -(1*(h / 2))=-1*(h / 2) by omega] at hto
   have e1:=HT2.out
   simp only [lowT,Prod.mk.injEq] at e1
   obtain ⟨e1,e2,e3,e4⟩:=e1
   have eC:-C=p8 (1*(h / 2)):=by rw [←e2,hto.1,Int.neg_neg]
   have eD:D=q8 (1*(h / 2)):=by rw [←e3,hto.2]
   rw [eC,eD] at LT
   subst e1
   obtain ⟨c1,c2⟩:=near_fits hH'
   by_cases p:h % 2=1
   ·have e:btw none (some h)=1*(h / 2):=by dsimp only [btw];rw [if_pos p];omega
    have hV:=HZ.out
    rw [e] at hV
    have HV:=Lib.hid hV
    obtain rfl:two=false:=by rw [←e4];simp;omega
    clear low1 HT1 HT2 HZ HNL HNH HBT HHE hnC hto e2 e3 e4 eC eD hV e c1 c2 hH'
    generalize p8 (1*(h / 2))=P at LT HV
    generalize q8 (1*(h / 2))=Q at LT HV
    obtain ⟨f0,f1,f2,f3,f4⟩:=lies.two LF
    obtain ⟨t0,t1,t2,t3,t4⟩:=lies.two LT
    obtain ⟨r0,r1,r2,r3,r4⟩:=lies.two LR
    clear LF LT LR
    go_wp2_with fail
    refine bodyPost_ret (v:=.agg #[.int .i64 (P),.int .i64 (Q)]) (by simp [results,Tryz.results182,go_sem,r0,r1,r4,Nat.ne_of_lt r4,Nat.ne_of_gt r4]) rfl ⟨?_,by rw [HV.out.1,HV.out.2]⟩
    repeat (first | with_reducible exact LB | with_reducible refine lies.frame_up ?_ _ | with_reducible refine Below.setCell ?_ (by dsimp only;omega) _)
   ·have e:btw none (some h)=1*(h / 2)+8*(-1):=by dsimp only [btw];rw [if_neg p];omega
    have hV:=HZ.out
    have hb':=HBT.out
    rw [e] at hV hb'
    have HV:=Lib.hid hV
    have HSH:=Lib.hid (fun W=>shift_is W hH' (show May (-1) by decide) hb')
    obtain rfl:two=true:=by rw [←e4];simp;omega
    clear low1 HT1 HT2 HZ HNL HNH HBT HHE hnC hto e2 e3 e4 eC eD hV e c1 c2 hH' hb'
    generalize p8 (1*(h / 2))=P0 at LT HSH
    generalize q8 (1*(h / 2))=Q0 at LT HSH
    generalize p8 (1*(h / 2)+8*-1)=P at HV HSH
    generalize q8 (1*(h / 2)+8*-1)=Q at HV HSH
    obtain ⟨f0,f1,f2,f3,f4⟩:=lies.two LF
    obtain ⟨t0,t1,t2,t3,t4⟩:=lies.two LT
    go_wp2_with fail
    clear f0 f1 f2 f3 f4 t0 t1 t2 t3 t4
    refine (HSH.out _).mono ?_
    rintro e w6 ⟨rfl,hB⟩
    replace LR:=lies.on_call LR hB
    replace LB:=later LB hB
    clear hB LF LT
    obtain ⟨r0,r1,r2,r3,r4⟩:=lies.two LR
    go_wp2_with fail
    refine bodyPost_ret (v:=.agg #[.int .i64 (P),.int .i64 (Q)]) (by simp [results,Tryz.results182,go_sem,r0,r1,r4,Nat.ne_of_lt r4,Nat.ne_of_gt r4]) rfl ⟨?_,by rw [HV.out.1,HV.out.2]⟩
    repeat (first | with_reducible exact LB | with_reducible refine lies.frame_up ?_ _ | with_reducible refine Below.setCell ?_ (by dsimp only;omega) _)
 | some l=>
  have hL':Near (-1*(l / 2)):=HNL.out
  obtain ⟨b1,b2⟩:=near_fits hL'
  have e1:=HT1.out
  simp only [lowT,Prod.mk.injEq] at e1
  obtain ⟨e1,e2,e3,e4⟩:=e1
  subst e1
  by_cases p:l % 2=1
  ·have hV:=HZ.out
   rw [low1 l rfl p,e2,e3] at hV
   have HV:=Lib.hid hV
   obtain rfl:one=false:=by rw [←e4];simp;omega
   clear low1 HT1 HT2 HZ HNL HNH HBT HHE hnC e2 e3 e4 hV b1 b2 hL'
   obtain ⟨f0,f1,f2,f3,f4⟩:=lies.two LF
   obtain ⟨t0,t1,t2,t3,t4⟩:=lies.two LT
   obtain ⟨r0,r1,r2,r3,r4⟩:=lies.two LR
   clear LF LT LR
   go_wp2_with fail
   refine bodyPost_ret (v:=.agg #[.int .i64 (A),.int .i64 (B)]) (by simp [results,Tryz.results182,go_sem,r0,r1,r4,Nat.ne_of_lt r4,Nat.ne_of_gt r4]) rfl ⟨?_,by rw [HV.out.1,HV.out.2]⟩
   repeat (first | with_reducible exact LB | with_reducible refine lies.frame_up ?_ _ | with_reducible refine Below.setCell ?_ (by dsimp only;omega) _)
  ·obtain rfl:one=true:=by rw [←e4];simp;omega
   rw [←e2,←e3] at LF
   cases H with
   | none=>
    have f1:=HT2.out
    simp only [lowT,Prod.mk.injEq] at f1
    obtain ⟨f1,f2,f3,f4⟩:=f1
    subst f1 f4
    have e:btw (some l) none=-1*(l / 2)+8*1:=by dsimp only [btw];rw [if_neg p];omega
    have hV:=HZ.out
    have hb':=HBT.out
    rw [e] at hV hb'
    have HV:=Lib.hid hV
    have HSH:=Lib.hid (fun W=>shift_is W hL' (show May 1 by decide) hb')
    clear low1 HT1 HT2 HZ HNL HNH HBT HHE hnC e2 e3 e4 f2 f3 hV e b1 b2 hL' hb'
    generalize p8 (-1*(l / 2))=P0 at LF HSH
    generalize q8 (-1*(l / 2))=Q0 at LF HSH
    generalize p8 (-1*(l / 2)+8*1)=P at HV HSH
    generalize q8 (-1*(l / 2)+8*1)=Q at HV HSH
    obtain ⟨f0,f1,f2,f3,f4⟩:=lies.two LF
    obtain ⟨t0,t1,t2,t3,t4⟩:=lies.two LT
    go_wp2_with fail
    clear f0 f1 f2 f3 f4 t0 t1 t2 t3 t4
    refine (HSH.out _).mono ?_
    rintro e w6 ⟨rfl,hB⟩
    replace LR:=lies.on_call LR hB
    replace LB:=later LB hB
    clear hB LF LT
    obtain ⟨r0,r1,r2,r3,r4⟩:=lies.two LR
    go_wp2_with fail
    refine bodyPost_ret (v:=.agg #[.int .i64 (P),.int .i64 (Q)]) (by simp [results,Tryz.results182,go_sem,r0,r1,r4,Nat.ne_of_lt r4,Nat.ne_of_gt r4]) rfl ⟨?_,by rw [HV.out.1,HV.out.2]⟩
    repeat (first | with_reducible exact LB | with_reducible refine lies.frame_up ?_ _ | with_reducible refine Below.setCell ?_ (by dsimp only;omega) _)
   | some h=>
    have hH':Near (1*(h / 2)):=HNH.out
    have hto:=p8_neg (1*(h / 2))
    rw [show -(1*(h / 2))=-1*(h / 2) by omega] at hto
    have f1:=HT2.out
    simp only [lowT,Prod.mk.injEq] at f1
    obtain ⟨f1,f2,f3,f4⟩:=f1
    have eC:-C=p8 (1*(h / 2)):=by rw [←f2,hto.1,Int.neg_neg]
    have eD:D=q8 (1*(h / 2)):=by rw [←f3,hto.2]
    rw [eC,eD] at LT
    subst f1
    obtain ⟨c1,c2⟩:=near_fits hH'
    by_cases q:h % 2=1
    ·have e:btw (some l) (some h)=1*(h / 2):=by dsimp only [btw];rw [if_neg p,if_pos q];omega
     have hV:=HZ.out
     rw [e] at hV
     have HV:=Lib.hid hV
     obtain rfl:two=false:=by rw [←f4];simp;omega
     clear low1 HT1 HT2 HZ HNL HNH HBT HHE hnC hto e2 e3 e4 f2 f3 f4 eC eD hV e b1 b2 c1 c2 hH' hL'
     generalize p8 (1*(h / 2))=P at LT HV
     generalize q8 (1*(h / 2))=Q at LT HV
     generalize p8 (-1*(l / 2))=P0 at LF
     generalize q8 (-1*(l / 2))=Q0 at LF
     obtain ⟨f0,f1,f2,f3,f4⟩:=lies.two LF
     obtain ⟨t0,t1,t2,t3,t4⟩:=lies.two LT
     obtain ⟨r0,r1,r2,r3,r4⟩:=lies.two LR
     clear LF LT LR
     go_wp2_with fail
     refine bodyPost_ret (v:=.agg #[.int .i64 (P),.int .i64 (Q)]) (by simp [results,Tryz.results182,go_sem,r0,r1,r4,Nat.ne_of_lt r4,Nat.ne_of_gt r4]) rfl ⟨?_,by rw [HV.out.1,HV.out.2]⟩
     repeat (first | with_reducible exact LB | with_reducible refine lies.frame_up ?_ _ | with_reducible refine Below.setCell ?_ (by dsimp only;omega) _)
    ·have e:btw (some l) (some h)=(-1*(l / 2)+1*(h / 2)) / 2:=by dsimp only [btw];rw [if_neg p,if_neg q];congr 1;omega
     have hV:=HZ.out
     have hb':=HBT.out
     have hev:=HHE.out l h rfl rfl
     rw [e] at hV hb'
     have HV:=Lib.hid hV
     obtain ⟨m1,m2,m3⟩:=mid8 hL' hH' (by omega) hb'
     have hmid:=fun W=>rref.mid_any (p8 (-1*(l / 2))) (q8 (-1*(l / 2))) (p8 (1*(h / 2))) (q8 (1*(h / 2))) W b1.1 b1.2 c1.1 c1.2
     rw [m1,m2,m3] at hmid
     have HSH:=Lib.hid hmid
     obtain rfl:two=true:=by rw [←f4];simp;omega
     clear low1 HT1 HT2 HZ HNL HNH HBT HHE hnC hto e2 e3 e4 f2 f3 f4 eC eD hV e b1 b2 c1 c2 hH' hL' hb' hev m1 m2 m3 hmid
     generalize p8 (1*(h / 2))=P1 at LT HSH
     generalize q8 (1*(h / 2))=Q1 at LT HSH
     generalize p8 (-1*(l / 2))=P0 at LF HSH
     generalize q8 (-1*(l / 2))=Q0 at LF HSH
     generalize p8 ((-1*(l / 2)+1*(h / 2)) / 2)=P at HV HSH
     generalize q8 ((-1*(l / 2)+1*(h / 2)) / 2)=Q at HV HSH
     obtain ⟨f0,f1,f2,f3,f4⟩:=lies.two LF
     obtain ⟨t0,t1,t2,t3,t4⟩:=lies.two LT
     go_wp2_with fail
     clear f0 f1 f2 f3 f4 t0 t1 t2 t3 t4
     refine (HSH.out _).mono ?_
     rintro e w6 ⟨rfl,hB⟩
     replace LR:=lies.on_call LR hB
     replace LB:=later LB hB
     clear hB LF LT
     obtain ⟨r0,r1,r2,r3,r4⟩:=lies.two LR
     go_wp2_with fail
     refine bodyPost_ret (v:=.agg #[.int .i64 (P),.int .i64 (Q)]) (by simp [results,Tryz.results182,go_sem,r0,r1,r4,Nat.ne_of_lt r4,Nat.ne_of_gt r4]) rfl ⟨?_,by rw [HV.out.1,HV.out.2]⟩
     repeat (first | with_reducible exact LB | with_reducible refine lies.frame_up ?_ _ | with_reducible refine Below.setCell ?_ (by dsimp only;omega) _)
end Go.Proofs.YthmljpccbjolgaaGreatDoor.iref
namespace Go.Proofs.YthmljpccbjolgaaGreatDoor.iref
open Go.ChangeShapes Go.WideShapes Go.ChangeAt Go.RowKit num rat dbm way Go.Proofs.YthmljpccbjolgaaGreatDoor.tight Go.Proofs.YthmljpccbjolgaaGreatDoor.incl Go.Proofs.YthmljpccbjolgaaGreatDoor.tlaw
open bound hiding up
set_option linter.unusedVariables false
set_option linter.unusedSimpArgs false
def Pr (n CB cg cc base:Nat) (us:List Int) (D:Tab) (k:Nat) (v:Value) (w W:World):Prop:=
 lies.Lies W CB 81 #[.int .i64 n,.slice (some ⟨cg,0,none⟩) (n*n) cc]∧Row W cg 0 us∧Below w.heap.size w W∧W.ownsRow base 45 2 v (k+1) (flat (rsOf D k))∧base≤W.heap.size
theorem Pr.below {n CB cg cc base:Nat} {us:List Int} {D:Tab} {k:Nat} {v:Value} {w W X:World} (h:Pr n CB cg cc base us D k v w W) (hcg:cg<base) (q:Below W.heap.size W X):Pr n CB cg cc base us D k v w X:=
 ⟨lies.on_call h.1 q,h.2.1.below q (Nat.lt_of_lt_of_le hcg h.2.2.2.2),h.2.2.1.trans (q.mono h.2.2.1.size),incl.own_call h.2.2.2.1 q,Nat.le_trans h.2.2.2.2 q.size⟩
theorem Pr.push {n CB cg cc base:Nat} {us:List Int} {D:Tab} {k:Nat} {v v':Value} {w W W':World} {o:Obj} (h:Pr n CB cg cc base us D k v w W) (hwb:w.heap.size≤base) (hcb:CB<base) (hcg:cg<base)
  (hown:W'.ownsRow base 45 2 v' (k+1+1) (flat (rsOf D k)++[.int .i64 (p8 (px D (k+1))),.int .i64 (q8 (px D (k+1)))])) (hgrow:(W.alloc o).grownBy W' v.ownBlock):Pr n CB cg cc base us D (k+1) v' w W':=by
 obtain ⟨h1,h2,h3,h4,h5⟩:=h
 have hb:∀ q,v.ownBlock=some q→base≤q:=fun q e=>(h4.lt q e).1
 have hBB:Below base W W':=((bound.up1 W o).mono h5).grown hgrow (by simp;omega) hb
 refine ⟨?_,h2.below hBB hcg,(lies.frame_up h3 o).grown hgrow (by have:=h3.size;simp;omega) (fun q e=>Nat.le_trans hwb (hb q e)),?_,?_⟩
 ·exact (hBB.block CB hcb).trans h1
 ·rw [flat_up1];exact hown
 ·have:=hgrow.size;simp at this;omega
set_option maxRecDepth 100000 in
set_option maxHeartbeats 4000000 in
theorem picked_is (n cg cc:Nat) (ts:List Int) (w:World) (h0:0<n) (hn:n≤4) (hl:ts.length=n*n) (htop:Tops ts) (h:OkD n ts) (hr:Row w cg 0 (clT n ts)) (hcg:cg<w.heap.size):
  Calls Tryz.prog 130 #[.agg #[.int .i64 n,.slice (some ⟨cg,0,none⟩) (n*n) cc]] w fun e w'=>Below w.heap.size w w'∧∃ v,e=.returned v∧Rats w'.heap.size w' v (pks n ts):=by
 have hsq:=sq_le hn
 have hus:(clT n ts).length=n*n:=(clT_length h).trans hl
 have hfits:=fun (s:Int) (hs:s=1∨s=-1) (i j k:Nat) hi hj hk hkn=>clo_fit h0 hn hl htop h (s:=s) hs (i:=i) (j:=j) (k:=k) hi hj hk hkn
 have hnears:=fun (u:Nat) (hu:u<n)=>clo_near h0 hn hl htop h hu
 obtain ⟨i0,hi,hz0,hz1,hz2⟩:=info_parts info_r
 have HIN:=Lib.hid (And.intro hi (And.intro hz0 (And.intro hz1 hz2)))
 have HUS:=Lib.hid hus
 have HFI:=Lib.hid hfits
 have HNE:=Lib.hid hnears
 have E0:=lies.on_alloc (lies.made w 81 #[.int .i64 n,.slice (some ⟨cg,0,none⟩) (n*n) cc]) (.cells #[.int .i64 0,.int .i64 1] 45)
 have EB:=bound.up2 w (.cells #[.int .i64 n,.slice (some ⟨cg,0,none⟩) (n*n) cc] 81) (.cells #[.int .i64 0,.int .i64 1] 45)
 have hown:=World.ownsRow_lit (base:=w.heap.size+1) (e:=45) (size:=2) (w.alloc (.cells #[.int .i64 n,.slice (some ⟨cg,0,none⟩) (n*n) cc] 81)) #[.int .i64 0,.int .i64 1] 1 (by simp) (by decide) rfl
 rw [World.size_alloc] at hown
 have P0:Pr n w.heap.size cg cc (w.heap.size+1) (clT n ts) (wts n (clT n ts)) 0 (.slice (some ⟨w.heap.size+1,0,none⟩) 1 1) w _:=⟨E0,hr.below EB hcg,EB,by
  have e:flat (rsOf (wts n (clT n ts)) 0)=[.int .i64 0,.int .i64 1]:=by
   show [Value.int .i64 (p8 0),Value.int .i64 (q8 0)]=_
   rw [eight_zero.1,eight_zero.2]
  rw [e]
  exact hown,by simp⟩
 have hcgb:cg<w.heap.size+1:=by omega
 clear hl htop h hr hus hfits hnears hi hz0 hz1 hz2 E0 EB hown
 go_enter Tryz.func130,Tryz.ntmps130
 go_wp2_with fail
 generalize (w.alloc (.cells #[.int .i64 n,.slice (some ⟨cg,0,none⟩) (n*n) cc] 81)).alloc (.cells #[.int .i64 0,.int .i64 1] 45)=w4 at P0 ⊢
 go_loopw [3,4] (fun tv iv wr=>∃ k:Nat,k+1≤n∧iv=.int .i64 ((k+1:Nat):Int)∧Pr n w.heap.size cg cc (w.heap.size+1) (clT n ts) (wts n (clT n ts)) k tv w wr) (fun tv iv _=>n - (intOf iv).toNat)
 case atStart=>exact ⟨0,by omega,rfl,P0⟩
 case round=>
  clear P0
  obtain ⟨k,hk,rfl,hA⟩:=hrel
  obtain ⟨g,gcap,rfl⟩:∃ g gcap,u3=.slice (some ⟨g,0,none⟩) (k+1) gcap:=by
   rcases Go.Joins.ownsRow_forms hA.2.2.2.1 with ⟨_,h⟩ | ⟨g,gcap,h⟩
   ·omega
   ·exact ⟨g,gcap,h⟩
  have hgl:=(hA.2.2.2.1.lt g rfl).2
  by_cases hkn:k+1<n
  ·have hup:=px_succ (wts n (clT n ts)) k
   have hlo:∀ j,j<k+1→Fit (-1) (px (wts n (clT n ts)) j) ((clT n ts)[j*n+(k+1)]?.getD 0):=fun j hj=>HFI.out (-1) (.inr rfl) j (k+1) j (by omega) hkn (by omega) (by omega)
   have hhi:∀ j,j<k+1→Fit 1 (px (wts n (clT n ts)) j) ((clT n ts)[(k+1)*n+j]?.getD 0):=fun j hj=>HFI.out 1 (.inl rfl) (k+1) j j hkn (by omega) (by omega) (by omega)
   have elo:endC (-1) (px (wts n (clT n ts))) (fun j=>cod ((clT n ts)[j*n+(k+1)]?.getD 0)) (k+1)=lowE (wts n (clT n ts)) (k+1):=endC_same (k+1) (fun _ _=>rfl) (fun j hj=>(wts_in (by omega) hkn).symm)
   have ehi:endC 1 (px (wts n (clT n ts))) (fun j=>cod ((clT n ts)[(k+1)*n+j]?.getD 0)) (k+1)=highE (wts n (clT n ts)) (k+1):=endC_same (k+1) (fun _ _=>rfl) (fun j hj=>(wts_in hkn (by omega)).symm)
   have hev:∀ j,j<k+1→px (wts n (clT n ts)) j % (2*1)=0:=fun j hj=>px_even _ (by omega)
   have hn':=HNE.out (k+1) hkn
   have HB:=pick_is n (k+1) cg 0 cc g 0 gcap (px (wts n (clT n ts))) (clT n ts) (rsOf (wts n (clT n ts)) k) wr hn (by omega) hkn hA.2.1 (Nat.lt_of_lt_of_le hcg hA.2.2.1.size) HUS.out (own_rowR hA.2.2.2.1) hgl (rsOf_length _ _) (fun j hj=>rsOf_at _ (by omega)) (fun j hj=>HNE.out j (by omega)) hlo hhi _ _ elo ehi (by rw [←hup];exact hn') (fun l e hl he=>⟨end_dv (q:=1) (by decide) (by decide) hev hl,end_dv (q:=1) (by decide) (by decide) hev he⟩)
   rw [←hup] at HB
   have HCB:=Lib.hid HB
   have HPU:=Lib.hid (fun (v':Value) (W W':World) (o:Obj) (h:Pr n w.heap.size cg cc (w.heap.size+1) (clT n ts) (wts n (clT n ts)) k (.slice (some ⟨g,0,none⟩) (k+1) gcap) w W) h1 h2=>h.push (v':=v') (W':=W') (o:=o) (Nat.le_succ _) (Nat.lt_succ_self _) hcgb h1 h2)
   clear hup hlo hhi elo ehi hev hn' HB
   generalize p8 (px (wts n (clT n ts)) (k+1))=P at HCB HPU
   generalize q8 (px (wts n (clT n ts)) (k+1))=Q at HCB HPU
   obtain ⟨x0,x1,x2,x3,x4⟩:=lies.two hA.1
   go_wp2_with fail
   refine HCB.out.mono ?_
   rintro e w7 ⟨hB,rfl⟩
   have A7:=hA.below hcgb hB
   have O7:=A7.2.2.2.1.alloc (.cells #[.int .i64 P,.int .i64 Q] 45)
   have M7:=lies.made w7 45 #[.int .i64 P,.int .i64 Q]
   have hsb:=A7.2.2.2.2
   clear hB hA HCB x0 x1 x2 x3 x4
   go_wp2_with (at_builtin;refine wpList_append_own _ rfl (.tmp 13) (.tmp 17) 138 rfl (w.heap.size+1) 45 i0 (.agg #[.int .i64 (0),.int .i64 (0)]) 2 16 Tryz.underlying138 HIN.out.1 HIN.out.2.1 HIN.out.2.2.1 HIN.out.2.2.2 rfl (by decide) _ _ _ rfl O7 ⟨w7.heap.size,0,none⟩ 1 1 [.int .i64 P,.int .i64 Q] rfl rfl (two_new M7) (by simp [Value.oneCell']) (by unfold maxLen;omega) (by omega) (by simp;omega) ?_;intro v' w8 hown' hgrow _;have A8:=HPU.out v' w7 w8 _ A7 hown' hgrow)
   clear A7 O7 M7 hown' hgrow
   go_roundw
   case rel=>exact ⟨k+1,by omega,by go_num,A8⟩
   case measure=>simp [intOf];omega
  ·have hnk:(n:Int)=((k+1:Nat):Int):=by omega
   have hnk2:¬ (((k+1:Nat):Int)<(n:Int)):=by omega
   obtain ⟨x0,x1,x2,x3,x4⟩:=lies.two hA.1
   clear HFI HNE
   have HC:=Lib.hid (own_cap hA.2.2.2.1)
   have hr:RowR wr g 2 (pks n ts):=pks_row (by
    have e:n - 1=k:=by omega
    rw [e]
    exact own_rowR hA.2.2.2.1)
   have HRR:=Lib.hid hr
   have hKB:=hA.2.2.1
   have e2:k+1=n:=by omega
   clear hA hr
   go_wp2_with fail
   ·have hc:=HC.out
    rename_i hg1
    have hn1:n=1:=by omega
    exact bodyPost_ret (v:=.slice (some ⟨g,0,none⟩) (n - 1) 0) (by simp [results,Tryz.results130,go_sem]) rfl ⟨hKB,_,rfl,.inl ⟨⟨some ⟨g,0,none⟩,0,by rw [show n - 1=0 by omega],fun _=>rfl⟩,List.eq_nil_of_length_eq_zero (by rw [pks_length];omega)⟩⟩
   ·exact bodyPost_ret (v:=.slice (some ⟨g,2,none⟩) (n - 1) (gcap - 1)) (by simp [results,Tryz.results130,go_sem]) rfl ⟨hKB,_,rfl,.inr ⟨g,2,gcap - 1,by rw [pks_length],hgl,HRR.out⟩⟩
end Go.Proofs.YthmljpccbjolgaaGreatDoor.iref
