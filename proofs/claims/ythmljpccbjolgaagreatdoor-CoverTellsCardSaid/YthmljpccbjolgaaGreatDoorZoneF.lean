
/-
  What matrices, Check, In, Has, Pick, Meet of package zone answer; each theorem names its conditions.
-/
import Derived.Test.YthmljpccbjolgaaGreatDoorZoneA
namespace Go.Proofs.YthmljpccbjolgaaGreatDoor.zone
open Go.Joins Go.ChangeShapes Go.WideShapes Go.ChangeAt Go.RowKit num rat dbm Go.Proofs.YthmljpccbjolgaaGreatDoor.tight Go.Proofs.YthmljpccbjolgaaGreatDoor.incl Go.Proofs.YthmljpccbjolgaaGreatDoor.plaw Go.Proofs.YthmljpccbjolgaaGreatDoor.zopen
open bound hiding up
set_option linter.unusedVariables false
set_option linter.unusedSimpArgs false
theorem info_d:(Tryz.prog.info? 81).map (fun i=>(i.zero,i.size,i.bytes))=some (some (.agg #[.int .i64 0,.slice none 0 0]),2,32):=by kernel_rfl
theorem app_dbm (base:Nat) (ty:TypeId) (v:Value) (n g:Nat) (x y:Value) (xs:List Value) (W:World) (hown:W.ownsRow base 81 2 v n xs) (h:lies.Lies W g 81 #[x,y]) (h1:x.oneCell'=true) (h2:y.oneCell'=true) (hm:n≤1000) (hb:base≤W.heap.size):
  ∃ v' w',(Builtin.append_ #[120,120] ty #[v,.slice (some ⟨g,0,none⟩) 1 1]).run Tryz.prog W=.ok v' w'∧w'.ownsRow base 81 2 v' (n+1) (xs++[x,y])∧W.grownBy w' v.ownBlock:=by
 obtain ⟨i,hi,hz,hs,hby⟩:=info_parts info_d
 obtain ⟨v',w',hr,a,b,_⟩:=run_append_own_at (P:=Tryz.prog) (w:=W) base 120 ty 81 i _ 2 32 Tryz.underlying120 hi hz hs hby rfl (by decide) v n xs hown ⟨g,0,none⟩ 1 1 [x,y] rfl (two_new h) (fun u hu=>by
  simp only [List.mem_cons,List.not_mem_nil,or_false] at hu
  rcases hu with rfl | rfl<;>assumption) (by unfold maxLen;omega) (by omega) hb
 exact ⟨v',w',hr,a,b⟩
def RowZ (W:World) (b n:Nat) (zf:Nat→List Int):Prop:=∀ k,k<n→∀ j,j<6→W.cell? ⟨b,k*6+j,none⟩=some (.int .i64 ((zf k)[j]?.getD 0))
theorem RowZ.below {W X:World} {b n m:Nat} {zf:Nat→List Int} (h:RowZ W b n zf) (k:Below m W X) (hb:b<m):RowZ X b n zf:=fun i hi j hj=>(k.cell (p:=⟨b,i*6+j,none⟩) hb).trans (h i hi j hj)
abbrev gc (gs:List (Nat × Nat)) (j:Nat):Nat × Nat:=gs[j]?.getD (0,0)
def flatD (gs:List (Nat × Nat)):List Value:=gs.flatMap fun g=>[.int .i64 3,.slice (some ⟨g.1,0,none⟩) 9 g.2]
theorem flatD_up (gs:List (Nat × Nat)) (g c:Nat):flatD (gs++[(g,c)])=flatD gs++[.int .i64 3,.slice (some ⟨g,0,none⟩) 9 c]:=by simp [flatD]
def NI (n₀ n b:Nat) (zf:Nat→List Int) (k:Nat) (v:Value) (w W:World):Prop:=
 ∃ gs:List (Nat × Nat),gs.length=k∧W.ownsRow n₀ 81 2 v k (flatD gs)∧(∀ j,j<k→n₀≤(gc gs j).1∧lies.Lies W (gc gs j).1 25 (cellsOf (fullT (zf j))))∧RowZ W b n zf∧Below n₀ w W∧Pl W∧n₀≤W.heap.size
theorem NI.below {n₀ n b:Nat} {zf:Nat→List Int} {k:Nat} {v:Value} {w W X:World} (h:NI n₀ n b zf k v w W) (hb:b<n₀) (q:Below W.heap.size W X):NI n₀ n b zf k v w X:=by
 obtain ⟨gs,h1,h2,h3,h4,h5,h6,h7⟩:=h
 exact ⟨gs,h1,own_call h2 q,fun j hj=>⟨(h3 j hj).1,lies.on_call (h3 j hj).2 q⟩,h4.below q (Nat.lt_of_lt_of_le hb h7),h5.trans (q.mono h7),h6.on q,Nat.le_trans h7 q.size⟩
theorem own_ne {W:World} {base n g:Nat} {v:Value} {xs:List Value} {cs:Array Value} (h:W.ownsRow base 81 2 v n xs) (k:lies.Lies W g 25 cs):some g≠v.ownBlock:=by
 intro e
 rcases h.2 with ⟨rfl,_⟩ | ⟨g',cap,cur,rfl,_,h3,_⟩
 ·simp [Value.ownBlock] at e
 ·simp [Value.ownBlock] at e
  subst e
  have k':W.heap[g]?=some (.cells cs 25 (0,0)):=k
  rw [h3] at k'
  simp at k'
theorem NI.push {n₀ n b g c:Nat} {zf:Nat→List Int} {k:Nat} {v v':Value} {w W W':World} {gs:List (Nat × Nat)} (h1:gs.length=k) (h2:W.ownsRow n₀ 81 2 v k (flatD gs)) (h3:∀ j,j<k→n₀≤(gc gs j).1∧lies.Lies W (gc gs j).1 25 (cellsOf (fullT (zf j)))) (h4:RowZ W b n zf) (h5:Below n₀ w W) (h6:Pl W) (h7:n₀≤W.heap.size) (hb:b<n₀) (hw0:1<n₀) (hg:n₀≤g) (hG:lies.Lies W g 25 (cellsOf (fullT (zf k))))
  (ho:W'.ownsRow n₀ 81 2 v' (k+1) (flatD gs++[.int .i64 3,.slice (some ⟨g,0,none⟩) 9 c])) (hgr:W.grownBy W' v.ownBlock):NI n₀ n b zf (k+1) v' w W':=by
 have hB:Below n₀ W W':=held_grown (Below.refl _ _) h7 h2 (Nat.le_refl _) hgr
 refine ⟨gs++[(g,c)],by simp [h1],?_,fun j hj=>?_,h4.below hB hb,h5.trans hB,h6.below hB hw0,Nat.le_trans h7 hB.size⟩
 ·rw [flatD_up];exact ho
 ·by_cases e:j<k
  ·have e1:gc (gs++[(g,c)]) j=gc gs j:=by unfold gc;rw [List.getElem?_append_left (by omega)]
   rw [e1]
   exact ⟨(h3 j e).1,grown_lies (h3 j e).2 hgr (own_ne h2 (h3 j e).2)⟩
  ·obtain rfl:j=k:=by omega
   have e1:gc (gs++[(g,c)]) j=(g,c):=by unfold gc;rw [←h1];simp
   rw [e1]
   exact ⟨hg,grown_lies hG hgr (own_ne h2 hG)⟩
def Mats (n₀ n:Nat) (zf:Nat→List Int) (w':World) (e:Ending):Prop:=
 ((∀ k,k<n→MayZ (zf k))∧∃ v gs,e=.returned (.tuple #[v,.int .i64 0])∧gs.length=n∧w'.ownsRow n₀ 81 2 v n (flatD gs)∧(∀ j,j<n→n₀≤(gc gs j).1∧lies.Lies w' (gc gs j).1 25 (cellsOf (fullT (zf j)))))∨
 ((∃ k,k<n∧¬ MayZ (zf k))∧e=.returned (.tuple #[.slice none 0 0,.int .i64 8]))
theorem six_is {z:List Int} (h:z.length=6):z=[z[0]?.getD 0,z[1]?.getD 0,z[2]?.getD 0,z[3]?.getD 0,z[4]?.getD 0,z[5]?.getD 0]:=by
 obtain ⟨a,b,c,d,e,f,rfl⟩:=six h
 rfl
set_option maxRecDepth 100000 in
set_option maxHeartbeats 8000000 in
theorem matrices_any (b n:Nat) (zf:Nat→List Int) (w:World) (hP:Pl w) (hR:RowZ w b n zf) (hb:b<w.heap.size) (hn:n≤100) (h6:∀ k,k<n→(zf k).length=6) (htop:∀ k,k<n→Tops (zf k)):
  Calls Tryz.prog 104 #[.slice (some ⟨b,0,none⟩) n n] w fun e w'=>Below w.heap.size w w'∧Mats w.heap.size n zf w' e:=by
 have H6:=Lib.hid h6
 have HT:=Lib.hid htop
 have hw0:=hP.1
 have W0:NI w.heap.size n b zf 0 (.slice none 0 0) w w:=⟨[],rfl,World.ownsRow_nil _ _ _ _,fun j hj=>absurd hj (Nat.not_lt_zero j),hR,Below.refl _ _,hP,Nat.le_refl _⟩
 clear h6 htop hP hR
 go_enter Tryz.func104,Tryz.ntmps104
 go_wp2_with fail
 go_loopw [13,4] (fun i v wr=>∃ k:Nat,k≤n∧i=.int .i64 k∧NI w.heap.size n b zf k v w wr∧∀ j,j<k→MayZ (zf j)) (fun i _ _=>n - (intOf i).toNat)
 case atStart=>exact ⟨0,Nat.zero_le _,rfl,W0,fun j hj=>absurd hj (Nat.not_lt_zero j)⟩
 case round=>
  clear W0
  obtain ⟨k,hk,rfl,hA,hM⟩:=hrel
  have HM:=Lib.hid hM
  clear hM
  by_cases hkn:k<n
  ·have hz:=six_is (H6.out k hkn)
   have ht:=HT.out k hkn
   have hRk:∀ j,j<6→wr.cell? ⟨b,k*6+j,none⟩=some (.int .i64 ((zf k)[j]?.getD 0)):=by
    obtain ⟨gs,_,_,_,h4,_⟩:=hA
    exact h4 k hkn
   have c0:=hRk 0 (by decide)
   have c1:=hRk 1 (by decide)
   have c2:=hRk 2 (by decide)
   have c3:=hRk 3 (by decide)
   have c4:=hRk 4 (by decide)
   have c5:=hRk 5 (by decide)
   rw [Nat.add_zero] at c0
   rw [hz] at ht
   have HZ:=Lib.hid hz
   clear hRk hz
   generalize (zf k)[0]?.getD 0=z0 at c0 HZ ht
   generalize (zf k)[1]?.getD 0=z1 at c1 HZ ht
   generalize (zf k)[2]?.getD 0=z2 at c2 HZ ht
   generalize (zf k)[3]?.getD 0=z3 at c3 HZ ht
   generalize (zf k)[4]?.getD 0=z4 at c4 HZ ht
   generalize (zf k)[5]?.getD 0=z5 at c5 HZ ht
   have HTZ:=Lib.hid ht
   clear ht
   go_wp2_with fail
   clear c0 c1 c2 c3 c4 c5
   have A1:=hA.below hb (bound.up1 wr (.cells #[.int .i64 z0,.int .i64 z1,.int .i64 z2,.int .i64 z3,.int .i64 z4,.int .i64 z5] 27))
   have Z1:=lies.made wr 27 #[.int .i64 z0,.int .i64 z1,.int .i64 z2,.int .i64 z3,.int .i64 z4,.int .i64 z5]
   clear hA
   generalize wr.heap.size=ZB at Z1 ⊢
   generalize wr.alloc (.cells #[.int .i64 z0,.int .i64 z1,.int .i64 z2,.int .i64 z3,.int .i64 z4,.int .i64 z5] 27)=w1 at A1 Z1 ⊢
   have hP1:Pl w1:=by obtain ⟨_,_,_,_,_,_,h,_⟩:=A1;exact h
   have hn1:w.heap.size≤w1.heap.size:=by obtain ⟨_,_,_,_,_,_,_,h⟩:=A1;exact h
   refine (matrix_any z0 z1 z2 z3 z4 z5 w1 hP1 HTZ.out).mono ?_
   rintro e w2 ⟨hB,na,aa,la,ca,us,f,rfl,hRR,hK⟩
   have A2:=A1.below hb hB
   clear A1 Z1 hP1
   rcases hRR with ⟨hmd,rfl,hus,rfl⟩ | ⟨hno,rfl,hus,rfl⟩
   ·obtain ⟨g,rfl,rfl,hgw,hG⟩:∃ g,aa=some ⟨g,0,none⟩∧la=9∧w.heap.size≤g∧lies.Lies w2 g 25 (cellsOf (fullT [z0,z1,z2,z3,z4,z5])):=by
     subst hus
     rcases hK with ⟨_,_,_,q⟩ | ⟨g,q1,q2,q3,q4⟩
     ·cases q
     ·exact ⟨g,q2,q3,Nat.le_trans hn1 q1,q4⟩
    clear hK hus hB
    have HMD:=Lib.hid hmd
    clear hmd
    go_wp2_with fail
    have A3:=A2.below hb (bound.up1 w2 (.cells #[.int .i64 3,.slice (some ⟨g,0,none⟩) 9 ca] 81))
    have D3:=lies.made w2 81 #[.int .i64 3,.slice (some ⟨g,0,none⟩) 9 ca]
    have G3:=lies.on_alloc hG (.cells #[.int .i64 3,.slice (some ⟨g,0,none⟩) 9 ca] 81)
    clear A2 hG
    generalize w2.heap.size=DX at D3 ⊢
    generalize w2.alloc (.cells #[.int .i64 3,.slice (some ⟨g,0,none⟩) 9 ca] 81)=w3 at A3 D3 G3 ⊢
    refine (close_g 3 _ (fullT [z0,z1,z2,z3,z4,z5]) w3 (dlaw.own_ints (cap:=ca) G3) (show 9≤1000000 by decide) (full_tops HTZ.out)).mono ?_
    rintro e w4 ⟨hB,na,aa,la,cb,us,f,rfl,hAns,hK⟩
    have hmz:(decide ((3:Int)=na∧fullT [z0,z1,z2,z3,z4,z5]=us)=true↔MayZ [z0,z1,z2,z3,z4,z5]):=by
     rw [decide_eq_true_eq]
     rcases ans_two hAns HMD.out with ⟨q,e1,_,_⟩ | ⟨q,e1,e2,_⟩
     ·constructor
      ·rintro ⟨h,_⟩
       rw [e1] at h
       exact absurd h (by decide)
      ·intro h
       exact (q h.1).elim
     ·have e2:=e2.out
      constructor
      ·rintro ⟨_,h⟩
       exact ⟨q,by rw [←e2];exact h.symm⟩
      ·intro h
       exact ⟨e1.symm,by rw [e2];exact h.2.symm⟩
    have HMZ:=Lib.hid hmz
    clear hAns hmz
    have A4:=A3.below hb hB
    have D4:=lies.on_call D3 hB
    have G4:=lies.on_call G3 hB
    have hI4:=hK.ints
    clear A3 D3 G3 hB hK
    obtain ⟨x0,x1,x2,x3,x4⟩:=lies.two D4
    go_wp2_with fail
    clear x0 x1 x2 x3 x4
    have A5:=A4.below hb (bound.up1 w4 (.cells #[.int .i64 na,.slice aa la cb] 81))
    have D5:=lies.on_alloc D4 (.cells #[.int .i64 na,.slice aa la cb] 81)
    have G5:=lies.on_alloc G4 (.cells #[.int .i64 na,.slice aa la cb] 81)
    have I5:=(hI4.below (bound.up1 w4 (.cells #[.int .i64 na,.slice aa la cb] 81))).mono (bound.up1 w4 (.cells #[.int .i64 na,.slice aa la cb] 81)).size
    clear A4 D4 G4 hI4
    generalize w4.heap.size=CX at ⊢
    generalize w4.alloc (.cells #[.int .i64 na,.slice aa la cb] 81)=w5 at A5 D5 G5 I5 ⊢
    refine (same4_any 3 na _ _ (fullT [z0,z1,z2,z3,z4,z5]) us w5 (dlaw.own_ints (cap:=ca) G5) I5 (show 9≤1000000 by decide)).mono ?_
    rintro e w6 ⟨rfl,hB⟩
    have A6:=A5.below hb hB
    have D6:=lies.on_call D5 hB
    have G6:=lies.on_call G5 hB
    clear A5 D5 G5 I5 hB
    generalize decide ((3:Int)=na∧fullT [z0,z1,z2,z3,z4,z5]=us)=r at HMZ ⊢
    cases r with
    | false=>
     have hB6:Below w.heap.size w w6:=by obtain ⟨_,_,_,_,_,h,_⟩:=A6;exact h
     clear A6 D6 G6
     go_wp2_with fail
     exact bodyPost_ret (v:=.tuple #[.slice none 0 0,.int .i64 8]) (by simp [results,Tryz.results104,go_sem]) rfl ⟨hB6,.inr ⟨⟨k,hkn,fun h=>by rw [HZ.out] at h;have:=HMZ.out.2 h;cases this⟩,rfl⟩⟩
    | true=>
     have D7:=lies.made w6 81 #[.int .i64 3,.slice (some ⟨g,0,none⟩) 9 ca]
     have A7:=A6.below hb (bound.up1 w6 (.cells #[.int .i64 3,.slice (some ⟨g,0,none⟩) 9 ca] 81))
     have G7:=lies.on_alloc G6 (.cells #[.int .i64 3,.slice (some ⟨g,0,none⟩) 9 ca] 81)
     obtain ⟨gs0,q1,hO7,q3,q4,q5,q6,hs7⟩:=A7
     obtain ⟨v',w8,hrun,hown,hgr⟩:=app_dbm w.heap.size 120 _ k w6.heap.size (.int .i64 3) (.slice (some ⟨g,0,none⟩) 9 ca) (flatD gs0) _ hO7 D7 rfl rfl (by omega) hs7
     have HRUN:=Lib.hid hrun
     have A8:=NI.push (c:=ca) (v':=v') q1 hO7 q3 q4 q5 q6 hs7 hb hw0 hgw (by rw [HZ.out];exact G7) hown hgr
     clear hrun hown hO7 q1 q3 q4 q5 q6 D7 A6 G7 G6 hs7 hgr
     obtain ⟨x0,x1,x2,x3,x4⟩:=lies.two D6
     go_wp2_with (at_builtin;refine dref.append_run2 rfl (.tmp 34) (.tmp 36) 120 rfl _ _ _ _ rfl rfl HRUN.out ?_;clear HRUN)
     go_roundw
     case rel=>exact ⟨k+1,by omega,by go_num,A8,fun j hj=>by
      by_cases e:j<k
      ·exact HM.out j e
      ·obtain rfl:j=k:=by omega
       rw [HZ.out]
       exact HMZ.out.1 trivial⟩
     case measure=>simp [intOf];omega
   ·have hB2:Below w.heap.size w w2:=by obtain ⟨_,_,_,_,_,h,_⟩:=A2;exact h
    have HNO:=Lib.hid hno
    clear A2 hno hus hB hK
    go_wp2_with fail
    exact bodyPost_ret (v:=.tuple #[.slice none 0 0,.int .i64 8]) (by simp [results,Tryz.results104,go_sem]) rfl ⟨lies.frame_up hB2 _,.inr ⟨⟨k,hkn,fun h=>by rw [HZ.out] at h;exact HNO.out h.1.1⟩,rfl⟩⟩
  ·obtain rfl:k=n:=by omega
   obtain ⟨gs,e0,hO,hg,_,hBB,_⟩:=hA
   go_wp2_with fail
   exact bodyPost_ret (v:=.tuple #[_,.int .i64 0]) (by simp [results,Tryz.results104,go_sem]) rfl ⟨hBB,.inl ⟨HM.out,_,gs,rfl,e0,hO,hg⟩⟩
end Go.Proofs.YthmljpccbjolgaaGreatDoor.zone
namespace Go.Proofs.YthmljpccbjolgaaGreatDoor.zone
open Go.Joins Go.ChangeShapes Go.WideShapes Go.ChangeAt Go.RowKit num rat dbm Go.Proofs.YthmljpccbjolgaaGreatDoor.tight Go.Proofs.YthmljpccbjolgaaGreatDoor.incl Go.Proofs.YthmljpccbjolgaaGreatDoor.plaw Go.Proofs.YthmljpccbjolgaaGreatDoor.zopen
open bound hiding up
set_option linter.unusedVariables false
set_option linter.unusedSimpArgs false
theorem row_z1 {W:World} {B:Nat} {t:TypeId} {a b c d e f:Int} (h:lies.Lies W B t #[.int .i64 a,.int .i64 b,.int .i64 c,.int .i64 d,.int .i64 e,.int .i64 f]):RowZ W B 1 (fun _=>[a,b,c,d,e,f]):=fun k hk j hj=>by
 obtain rfl:k=0:=by omega
 rw [Nat.zero_mul,Nat.zero_add,lies.cell h j]
 rcases (by omega:j=0∨j=1∨j=2∨j=3∨j=4∨j=5) with rfl | rfl | rfl | rfl | rfl | rfl<;>rfl
def One (n₀:Nat) (W:World) (q o:Nat) (z:List Int):Prop:=∃ g c,n₀≤g∧n₀≤q∧q<W.heap.size∧W.cell? ⟨q,o,none⟩=some (.int .i64 3)∧W.cell? ⟨q,o+1,none⟩=some (.slice (some ⟨g,0,none⟩) 9 c)∧lies.Lies W g 25 (cellsOf (fullT z))
theorem mats_one {n₀:Nat} {zf:Nat→List Int} {w':World} {e:Ending} (h:Mats n₀ 1 zf w' e):(MayZ (zf 0)∧∃ q cap,e=.returned (.tuple #[.slice (some ⟨q,0,none⟩) 1 cap,.int .i64 0])∧One n₀ w' q 0 (zf 0))∨(¬ MayZ (zf 0)∧e=.returned (.tuple #[.slice none 0 0,.int .i64 8])):=by
 rcases h with ⟨hm,v,gs,he,hl,hO,hg⟩ | ⟨⟨k,hk,hn⟩,he⟩
 ·refine .inl ⟨hm 0 (by decide),?_⟩
  match gs,hl with
  | [(g,c)],_=>
   rcases ownsRow_forms hO with ⟨_,h0⟩ | ⟨q,cap,rfl⟩
   ·exact absurd h0 (by decide)
   ·have hlt:=hO.lt q rfl
    obtain ⟨h1,h2⟩:=hg 0 (by decide)
    exact ⟨q,cap,he,g,c,h1,hlt.1,hlt.2,hO.cellAt 0 (by decide),hO.cellAt 1 (by decide),h2⟩
 ·obtain rfl:k=0:=by omega
  exact .inr ⟨hn,he⟩
def ChkZ (z:List Int) (w:World) (e:Ending) (w':World):Prop:=Below w.heap.size w w'∧∃ f:Int,e=.returned (.int .i64 f)∧((MayZ z∧f=0)∨(¬ MayZ z∧f=8))
set_option maxRecDepth 100000 in
set_option maxHeartbeats 4000000 in
theorem check_any (z0 z1 z2 z3 z4 z5:Int) (w:World) (hP:Pl w) (htop:Tops [z0,z1,z2,z3,z4,z5]):
  Calls Tryz.prog 92 #[.agg #[.int .i64 z0,.int .i64 z1,.int .i64 z2,.int .i64 z3,.int .i64 z4,.int .i64 z5]] w (ChkZ [z0,z1,z2,z3,z4,z5] w):=by
 have DB:=bound.up2 w (.cells #[.int .i64 z0,.int .i64 z1,.int .i64 z2,.int .i64 z3,.int .i64 z4,.int .i64 z5] 27) (.cells #[.int .i64 z0,.int .i64 z1,.int .i64 z2,.int .i64 z3,.int .i64 z4,.int .i64 z5] 27)
 have D1:=lies.made_at (w.alloc (.cells #[.int .i64 z0,.int .i64 z1,.int .i64 z2,.int .i64 z3,.int .i64 z4,.int .i64 z5] 27)) 27 #[.int .i64 z0,.int .i64 z1,.int .i64 z2,.int .i64 z3,.int .i64 z4,.int .i64 z5] (w.heap.size+1) (by simp)
 have P0:=hP.on DB
 have HT:=Lib.hid htop
 clear hP htop
 go_enter Tryz.func92,Tryz.ntmps92
 go_wp2_with fail
 generalize (w.alloc (.cells #[.int .i64 z0,.int .i64 z1,.int .i64 z2,.int .i64 z3,.int .i64 z4,.int .i64 z5] 27)).alloc (.cells #[.int .i64 z0,.int .i64 z1,.int .i64 z2,.int .i64 z3,.int .i64 z4,.int .i64 z5] 27)=w0 at DB D1 P0 ⊢
 refine (matrices_any (w.heap.size+1) 1 (fun _=>[z0,z1,z2,z3,z4,z5]) w0 P0 (row_z1 D1) (lies.lt D1) (by decide) (fun _ _=>rfl) (fun _ _=>HT.out)).mono ?_
 rintro e w1 ⟨hB,hM⟩
 have EB:=later DB hB
 clear hB DB D1 P0
 rcases mats_one hM with ⟨hm,q,cap,rfl,_⟩ | ⟨hm,rfl⟩
 ·have HM:=Lib.hid hm
  clear hm hM
  go_wp2_with fail
  go_ret
  exact ⟨EB,0,rfl,.inl ⟨HM.out,rfl⟩⟩
 ·have HM:=Lib.hid hm
  clear hm hM
  go_wp2_with fail
  go_ret
  exact ⟨EB,8,rfl,.inr ⟨HM.out,rfl⟩⟩
end Go.Proofs.YthmljpccbjolgaaGreatDoor.zone
namespace Go.Proofs.YthmljpccbjolgaaGreatDoor.zone
open Go.Joins Go.ChangeShapes Go.WideShapes Go.ChangeAt Go.RowKit num rat dbm Go.Proofs.YthmljpccbjolgaaGreatDoor.tight Go.Proofs.YthmljpccbjolgaaGreatDoor.incl Go.Proofs.YthmljpccbjolgaaGreatDoor.plaw Go.Proofs.YthmljpccbjolgaaGreatDoor.zopen
open bound hiding up
set_option linter.unusedVariables false
set_option linter.unusedSimpArgs false
def PickR (z:List Int) (a b c d f:Int):Prop:=(¬ MayZ z∧a=0∧b=0∧c=0∧d=0∧f=8)∨(MayZ z∧pks 3 (fullT z)=[(a,b),(c,d)]∧f=0)
def Picks (z:List Int) (w:World) (e:Ending) (w':World):Prop:=Below w.heap.size w w'∧∃ a b c d f:Int,e=.returned (.tuple #[.agg #[.int .i64 a,.int .i64 b,.int .i64 c,.int .i64 d],.int .i64 f])∧PickR z a b c d f
theorem two_times {ps:List (Int × Int)} (h:ps.length=2):∃ a b c d,ps=[(a,b),(c,d)]:=by
 match ps,h with
 | [(a,b),(c,d)],_=>exact ⟨a,b,c,d,rfl⟩
theorem cell_far {W:World} {b g:Nat} (h:b≠g) (i j:Nat) (u:Value):(W.setCell ⟨g,i,none⟩ u).cell? ⟨b,j,none⟩=W.cell? ⟨b,j,none⟩:=by
 have e:=Below.heap_setCell W ⟨g,i,none⟩ u b h
 simp [World.cell?,e]
theorem put_four {B g:Nat} {w W:World} (h:Below B w W) (hB:B≤g) (a b c d:Value):Below B w ((((W.setCell ⟨g,0,none⟩ a).setCell ⟨g,1,none⟩ b).setCell ⟨g,2,none⟩ c).setCell ⟨g,3,none⟩ d):=
 (((h.setCell (p:=⟨g,0,none⟩) hB _).setCell (p:=⟨g,1,none⟩) hB _).setCell (p:=⟨g,2,none⟩) hB _).setCell (p:=⟨g,3,none⟩) hB _
theorem four_cells {W:World} {g:Nat} {t:TypeId} {a b c d:Value} (h:lies.Lies W g t #[a,b,c,d]):(W.cell? ⟨g,0,none⟩=some a∧W.cell? ⟨g,1,none⟩=some b∧W.cell? ⟨g,2,none⟩=some c∧W.cell? ⟨g,3,none⟩=some d)∧
  (W.frozen? ⟨g,0,none⟩=false∧W.frozen? ⟨g,1,none⟩=false∧W.frozen? ⟨g,2,none⟩=false∧W.frozen? ⟨g,3,none⟩=false)∧g<W.heap.size:=
 ⟨⟨lies.cell h 0,lies.cell h 1,lies.cell h 2,lies.cell h 3⟩,⟨lies.free h 0,lies.free h 1,lies.free h 2,lies.free h 3⟩,lies.lt h⟩
set_option maxRecDepth 100000 in
set_option maxHeartbeats 4000000 in
theorem zpick_any (z0 z1 z2 z3 z4 z5:Int) (w:World) (hP:Pl w) (htop:Tops [z0,z1,z2,z3,z4,z5]):
  Calls Tryz.prog 85 #[.agg #[.int .i64 z0,.int .i64 z1,.int .i64 z2,.int .i64 z3,.int .i64 z4,.int .i64 z5]] w (Picks [z0,z1,z2,z3,z4,z5] w):=by
 have DB:=bound.up3 w (.cells #[.int .i64 z0,.int .i64 z1,.int .i64 z2,.int .i64 z3,.int .i64 z4,.int .i64 z5] 27) (.cells #[.int .i64 0,.int .i64 0,.int .i64 0,.int .i64 0] 47) (.cells #[.int .i64 z0,.int .i64 z1,.int .i64 z2,.int .i64 z3,.int .i64 z4,.int .i64 z5] 27)
 have D0:=lies.on_alloc (lies.made_at (w.alloc (.cells #[.int .i64 z0,.int .i64 z1,.int .i64 z2,.int .i64 z3,.int .i64 z4,.int .i64 z5] 27)) 47 #[.int .i64 0,.int .i64 0,.int .i64 0,.int .i64 0] (w.heap.size+1) (by simp)) (.cells #[.int .i64 z0,.int .i64 z1,.int .i64 z2,.int .i64 z3,.int .i64 z4,.int .i64 z5] 27)
 have D1:=lies.made_at ((w.alloc (.cells #[.int .i64 z0,.int .i64 z1,.int .i64 z2,.int .i64 z3,.int .i64 z4,.int .i64 z5] 27)).alloc (.cells #[.int .i64 0,.int .i64 0,.int .i64 0,.int .i64 0] 47)) 27 #[.int .i64 z0,.int .i64 z1,.int .i64 z2,.int .i64 z3,.int .i64 z4,.int .i64 z5] (w.heap.size+1+1) (by simp)
 have P0:=hP.on DB
 have HT:=Lib.hid htop
 clear hP htop
 go_enter Tryz.func85,Tryz.ntmps85
 go_wp2_with fail
 generalize ((w.alloc (.cells #[.int .i64 z0,.int .i64 z1,.int .i64 z2,.int .i64 z3,.int .i64 z4,.int .i64 z5] 27)).alloc (.cells #[.int .i64 0,.int .i64 0,.int .i64 0,.int .i64 0] 47)).alloc (.cells #[.int .i64 z0,.int .i64 z1,.int .i64 z2,.int .i64 z3,.int .i64 z4,.int .i64 z5] 27)=w0 at DB D0 D1 P0 ⊢
 refine (matrices_any (w.heap.size+1+1) 1 (fun _=>[z0,z1,z2,z3,z4,z5]) w0 P0 (row_z1 D1) (lies.lt D1) (by decide) (fun _ _=>rfl) (fun _ _=>HT.out)).mono ?_
 rintro e w1 ⟨hB,hM⟩
 have EB:=later DB hB
 have E0:=lies.on_call D0 hB
 clear hB DB D1 P0 D0
 rcases mats_one hM with ⟨hm,q,cap,rfl,g,gc',_,_,hq,x0,x1,hG⟩ | ⟨hm,rfl⟩
 ·have HM:=Lib.hid hm
  clear hm hM
  go_wp2_with fail
  refine (pick_any 3 _ (fullT [z0,z1,z2,z3,z4,z5]) w1 (dlaw.own_ints (cap:=gc') hG) (show 9≤1000000 by decide) (full_tops HT.out)).mono ?_
  rintro e w2 ⟨hB,v,f,rfl,hR⟩
  have FB:=later EB hB
  have F0:=lies.on_call E0 hB
  clear EB E0 x0 x1 hG
  rcases hR with ⟨k,_⟩ | ⟨_,rfl,m,hm3,hR⟩
  ·exact (k HM.out.1).elim
  ·obtain rfl:m=3:=by omega
   have hln:=pks_length 3 (fullT [z0,z1,z2,z3,z4,z5])
   have hmay:=(pks_may (n:=3) (by decide) (by decide) rfl (full_tops HT.out) HM.out.1).1
   generalize hps:pks 3 (fullT [z0,z1,z2,z3,z4,z5])=ps at hR hln hmay
   obtain ⟨a,b,c,d,rfl⟩:=two_times hln
   have hb1:1≤b:=(hmay 1 (show 1<3 by decide)).1
   clear hmay
   have HPS:=Lib.hid hps
   clear hps
   rcases hR with ⟨_,k⟩ | ⟨tb,toff,tcap,hv,htb,hc⟩
   ·cases k
   ·have hv:v=.slice (some ⟨tb,toff,none⟩) 2 tcap:=hv
    subst hv
    obtain ⟨r0,r1⟩:=hc 0 (show 0<2 by decide)
    obtain ⟨r2,r3⟩:=hc 1 (show 1<2 by decide)
    have hne:tb≠w.heap.size+1:=by
     rintro rfl
     have:=(lies.cell F0 (toff+0*2+1)).symm.trans r1
     rcases (by omega:toff+0*2+1=1∨toff+0*2+1=2∨toff+0*2+1=3∨4≤toff+0*2+1) with k | k | k | k
     ·rw [k] at this;simp at this;have this:(0:Int)=b:=this;omega
     ·rw [k] at this;simp at this;have this:(0:Int)=b:=this;omega
     ·rw [k] at this;simp at this;have this:(0:Int)=b:=this;omega
     ·rw [Array.getElem?_eq_none (by simpa using k)] at this;cases this
    rw [Nat.zero_mul,Nat.add_zero] at r0 r1
    rw [Nat.one_mul] at r2 r3
    have r0:w2.cell? ⟨tb,toff,none⟩=some (.int .i64 a):=r0
    have r1:w2.cell? ⟨tb,toff+1,none⟩=some (.int .i64 b):=r1
    have r2:w2.cell? ⟨tb,toff+2,none⟩=some (.int .i64 c):=r2
    have r3:w2.cell? ⟨tb,toff+2+1,none⟩=some (.int .i64 d):=r3
    clear hc hln hm3 htb hB
    go_wp2_with fail
    obtain ⟨⟨x0,x1,x2,x3⟩,⟨y0,y1,y2,y3⟩,xl⟩:=four_cells F0
    clear F0
    generalize hRX:w.heap.size+1=RX at x0 x1 x2 x3 y0 y1 y2 y3 xl hne ⊢
    have hRw:w.heap.size≤RX:=by omega
    refine wp_region_held_drew (S:=fun W=>W.cell? ⟨tb,toff,none⟩=some (.int .i64 a)∧W.cell? ⟨tb,toff+1,none⟩=some (.int .i64 b)∧W.cell? ⟨tb,toff+2,none⟩=some (.int .i64 c)∧W.cell? ⟨tb,toff+2+1,none⟩=some (.int .i64 d)) (by kernel_rfl) ⟨r0,r1,r2,r3⟩ (fun hHeld=>?_)
    refine tk 0 (v:=?_) rfl hHeld ?_ ?_
    rotate_left
    ·intro w hSw;obtain ⟨s0,s1,s2,s3⟩:=hSw;go_simp;try with_reducible rfl
    try simp only [Act.put,sA,sB,sC,sD,sE,sF]
    refine tk 1 (v:=?_) rfl hHeld ?_ ?_
    rotate_left
    ·intro w hSw;obtain ⟨s0,s1,s2,s3⟩:=hSw;go_simp;try with_reducible rfl
    try simp only [Act.put,sA,sB,sC,sD,sE,sF]
    refine tk 2 (v:=?_) rfl hHeld ?_ ?_
    rotate_left
    ·intro w hSw;obtain ⟨s0,s1,s2,s3⟩:=hSw;go_simp;try with_reducible rfl
    try simp only [Act.put,sA,sB,sC,sD,sE,sF]
    refine tk 3 (v:=?_) rfl hHeld ?_ ?_
    rotate_left
    ·intro w hSw;obtain ⟨s0,s1,s2,s3⟩:=hSw;go_simp;try with_reducible rfl
    try simp only [Act.put,sA,sB,sC,sD,sE,sF]
    refine tk 4 (v:=?_) rfl hHeld ?_ ?_
    rotate_left
    ·intro w hSw;obtain ⟨s0,s1,s2,s3⟩:=hSw;go_simp;try with_reducible rfl
    try simp only [Act.put,sA,sB,sC,sD,sE,sF]
    refine tk 5 (v:=?_) rfl hHeld ?_ ?_
    rotate_left
    ·intro w hSw;obtain ⟨s0,s1,s2,s3⟩:=hSw;go_simp;try with_reducible rfl
    try simp only [Act.put,sA,sB,sC,sD,sE,sF]
    refine tk 6 (v:=?_) rfl hHeld ?_ ?_
    rotate_left
    ·intro w hSw;obtain ⟨s0,s1,s2,s3⟩:=hSw;go_simp;try with_reducible rfl
    try simp only [Act.put,sA,sB,sC,sD,sE,sF]
    refine wpAnyH_ready (rs:=[7]) (by kernel_rfl) (by simp) (AllReadyH.cons rfl (fun K hK=>?_) AllReadyH.nil)
    go_simp
    refine hK.out _ _ ⟨(cell_far hne _ _ _).trans ((cell_far hne _ _ _).trans ((cell_far hne _ _ _).trans ((cell_far hne _ _ _).trans r0))),(cell_far hne _ _ _).trans ((cell_far hne _ _ _).trans ((cell_far hne _ _ _).trans ((cell_far hne _ _ _).trans r1))),(cell_far hne _ _ _).trans ((cell_far hne _ _ _).trans ((cell_far hne _ _ _).trans ((cell_far hne _ _ _).trans r2))),(cell_far hne _ _ _).trans ((cell_far hne _ _ _).trans ((cell_far hne _ _ _).trans ((cell_far hne _ _ _).trans r3)))⟩ (fun hNew=>?_)
    clear hHeld hK K
    have hHeld:=hNew
    clear hNew
    try simp only [Act.put,sA,sB,sC,sD,sE,sF]
    refine tk 8 (v:=?_) rfl hHeld ?_ ?_
    rotate_left
    ·intro w hSw;skip;go_simp;try with_reducible rfl
    try simp only [Act.put,sA,sB,sC,sD,sE,sF]
    refine wpAnyH_done (by kernel_rfl) ?_ _
    clear hHeld r0 r1 r2 r3
    have KZ:=dbm.drawn1 (put_four FB hRw (.int .i64 a) (.int .i64 b) (.int .i64 c) (.int .i64 d))
    go_wp2_with fail
    exact bodyPost_ret (v:=.tuple #[.agg #[.int .i64 a,.int .i64 b,.int .i64 c,.int .i64 d],.int .i64 0]) (by simp [results,Tryz.results85,go_sem,x0,x1,x2,x3,xl]) rfl ⟨KZ,a,b,c,d,0,rfl,.inr ⟨HM.out,HPS.out,rfl⟩⟩
 ·have HM:=Lib.hid hm
  clear hm hM
  obtain ⟨⟨x0,x1,x2,x3⟩,⟨y0,y1,y2,y3⟩,xl⟩:=four_cells E0
  go_wp2_with fail
  exact bodyPost_ret (v:=.tuple #[.agg #[.int .i64 0,.int .i64 0,.int .i64 0,.int .i64 0],.int .i64 8]) (by simp [results,Tryz.results85,go_sem,x0,x1,x2,x3,xl]) rfl ⟨put_four EB (Nat.le_succ _) _ _ _ _,0,0,0,0,8,rfl,.inl ⟨HM.out,rfl,rfl,rfl,rfl,rfl⟩⟩
end Go.Proofs.YthmljpccbjolgaaGreatDoor.zone
namespace Go.Proofs.YthmljpccbjolgaaGreatDoor.zone
open Go.Joins Go.ChangeShapes Go.WideShapes Go.ChangeAt Go.RowKit num rat dbm Go.Proofs.YthmljpccbjolgaaGreatDoor.tight Go.Proofs.YthmljpccbjolgaaGreatDoor.incl Go.Proofs.YthmljpccbjolgaaGreatDoor.plaw Go.Proofs.YthmljpccbjolgaaGreatDoor.zopen
open bound hiding up
set_option linter.unusedVariables false
set_option linter.unusedSimpArgs false
theorem put_two {W:World} {g:Nat} {t:TypeId} {u v:Value} (h:lies.Lies W g t #[u,v]) (x y:Value):lies.Lies ((W.setCell ⟨g,0,none⟩ x).setCell ⟨g,1,none⟩ y) g t #[x,y]:=by
 simpa using lies.on_put (lies.on_put h 0 x) 1 y
end Go.Proofs.YthmljpccbjolgaaGreatDoor.zone
