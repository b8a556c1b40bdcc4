
/-
  The ends of a clock, and Pick, as package incl answers them; each theorem names its conditions.
-/
import Derived.Test.YthmljpccbjolgaaGreatDoorInclA
namespace Go.Proofs.YthmljpccbjolgaaGreatDoor.incl
open Go.ChangeShapes Go.WideShapes Go.ChangeAt Go.RowKit num rat dbm
open bound hiding up
set_option linter.unusedVariables false
set_option linter.unusedSimpArgs false
theorem place2_is (n i j DX IX:Nat) (sv:Value) (w:World) (hn:n≤4) (hi:i<n) (hj:j<n) (hD:lies.Lies w DX 81 #[.int .i64 n,sv]) (hI:lies.Lies w IX 3 #[.int .i64 i]):
  Calls Tryz.prog 216 #[.int .i64 j,.pointer (some ⟨DX,0,none⟩),.pointer (some ⟨IX,0,none⟩)] w fun e w'=>e=.returned (.int .i64 ((j*n+i:Nat):Int))∧Below w.heap.size w w':=by
 obtain ⟨x0,x1,x2,x3,x4⟩:=lies.two hD
 obtain ⟨y0,y1,y2⟩:=dbm.one hI
 obtain ⟨z1,z2,z3,z4,z5,z6,z7⟩:=dref.place_int hn hj hi
 go_enter Tryz.func216,Tryz.ntmps216
 go_wp2_with fail
 go_ret
 exact ⟨by rw [Int.natCast_add,Int.natCast_mul];rfl,Below.refl _ _⟩
theorem place3_is (n i j DX IX:Nat) (sv:Value) (w:World) (hn:n≤4) (hi:i<n) (hj:j<n) (hD:lies.Lies w DX 81 #[.int .i64 n,sv]) (hI:lies.Lies w IX 3 #[.int .i64 i]):
  Calls Tryz.prog 217 #[.int .i64 j,.pointer (some ⟨IX,0,none⟩),.pointer (some ⟨DX,0,none⟩)] w fun e w'=>e=.returned (.int .i64 ((i*n+j:Nat):Int))∧Below w.heap.size w w':=by
 obtain ⟨x0,x1,x2,x3,x4⟩:=lies.two hD
 obtain ⟨y0,y1,y2⟩:=dbm.one hI
 obtain ⟨z1,z2,z3,z4,z5,z6,z7⟩:=dref.place_int hn hi hj
 go_enter Tryz.func217,Tryz.ntmps217
 go_wp2_with fail
 go_ret
 exact ⟨by rw [Int.natCast_add,Int.natCast_mul];rfl,Below.refl _ _⟩
def endL (s:Int):Option Int→Array Value
 | none=>#[.bool false,.int .i64 0,.int .i64 0,.bool false]
 | some e=>#[.bool true,.int .i64 (p8 (s*(e / 2))),.int .i64 (q8 (s*(e / 2))),.bool (decide (e % 2=0))]
theorem endL_four (s:Int) (x:Option Int):∃ (a d:Bool) (b c:Int),endL s x=#[.bool a,.int .i64 b,.int .i64 c,.bool d]∧endV s x=.agg #[.bool a,.int .i64 b,.int .i64 c,.bool d]:=by
 cases x with
 | none=>exact ⟨_,_,_,_,rfl,rfl⟩
 | some e=>exact ⟨_,_,_,_,rfl,rfl⟩
theorem endC_near {s:Int} (hs:s=1∨s=-1) {X:Nat→Int} {t:Nat→Int} {k:Nat} (h:∀ j,j<k→t j=9223372036854775807∨Near (X j+8*(s*(t j / 2)))):∀ j,j≤k→NearE s (endC s X (fun j=>cod (t j)) j):=by
 intro j hj
 cases e:endC s X (fun j=>cod (t j)) j with
 | none=>trivial
 | some v=>
  obtain ⟨i,hi,a,ha,rfl⟩:=endC_is j e
  have ha':cod (t i)=some a:=ha
  rcases h i (by omega) with k | k
  ·rw [k,cod_none] at ha';cases ha'
  ·by_cases n:t i=9223372036854775807
   ·rw [n,cod_none] at ha';cases ha'
   ·rw [cod_some n] at ha'
    have:=Option.some.inj ha'
    subst this
    show Near (s*((2*(s*X i)+16*(t i / 2)+t i % 2) / 2))
    have e:s*((2*(s*X i)+16*(t i / 2)+t i % 2) / 2)=X i+8*(s*(t i / 2)):=by rcases hs with rfl | rfl<;>omega
    rw [e]
    exact k
def Ne (s:Int) (x:Option Int) (w W:World):Prop:=
 lies.Lies W w.heap.size 204 #[.bool false,.int .i64 0,.int .i64 0,.bool false]∧lies.Lies W (w.heap.size+1) 204 (endL s x)∧Below w.heap.size w W
theorem Ne.below {s:Int} {x:Option Int} {w W X:World} (h:Ne s x w W) (k:Below W.heap.size W X):Ne s x w X:=⟨lies.on_call h.1 k,lies.on_call h.2.1 k,h.2.2.trans (k.mono h.2.2.size)⟩
set_option maxRecDepth 100000 in
set_option maxHeartbeats 4000000 in
theorem nearest2_is {s:Int} (hs:s=1∨s=-1) (P1 P2:Nat) (pl:Nat→Nat) (n k b off cap tb toff tcap TX DX:Nat) (X:Nat→Int) (ts:List Int) (rs:List (Int × Int)) (w:World) (hn:n≤4) (hk:k≤4)
  (hT:lies.Lies w TX 138 #[.slice (some ⟨tb,toff,none⟩) k tcap]) (hD:lies.Lies w DX 81 #[.int .i64 n,.slice (some ⟨b,off,none⟩) (n*n) cap])
  (hr:Row w b off ts) (hb:b<w.heap.size) (hl:ts.length=n*n) (hR:RowR w tb toff rs) (htb:tb<w.heap.size) (hrs:rs.length=k) (hpr:∀ j,j<k→pr rs j=(p8 (X j),q8 (X j)))
  (hpl:∀ j,j<k→pl j<n*n)
  (hF:∀ j,j<k→∀ W,Below w.heap.size w W→Calls Tryz.prog 216 #[.int .i64 (j:Int),.pointer (some ⟨P1,0,none⟩),.pointer (some ⟨P2,0,none⟩)] W fun e w'=>e=.returned (.int .i64 (pl j:Int))∧Below W.heap.size W w')
  (ho:∀ j,j<k→ts[pl j]?.getD 0=9223372036854775807∨(May (ts[pl j]?.getD 0 / 2)∧Near (X j)∧Near (X j+8*(s*(ts[pl j]?.getD 0 / 2))))):
  Calls Tryz.prog 213 #[.int .i64 s,.func (.func 216) #[] #[.pointer (some ⟨P1,0,none⟩),.pointer (some ⟨P2,0,none⟩)],.pointer (some ⟨TX,0,none⟩),.pointer (some ⟨DX,0,none⟩)] w fun e w'=>e=.returned (endV s (endC s X (fun j=>cod (ts[pl j]?.getD 0)) k))∧Below w.heap.size w w':=by
 have hnear:=endC_near hs (X:=X) (t:=fun j=>ts[pl j]?.getD 0) (k:=k) (fun j hj=>(ho j hj).imp id fun h=>h.2.2)
 have HNE:=Lib.hid hnear
 obtain ⟨za,zd,zb,zc,zL,zV⟩:=endL_four s (endC s X (fun j=>cod (ts[pl j]?.getD 0)) k)
 rw [zV]
 have HFL:=Lib.hid zL
 clear zL zV
 have HR:=Lib.hid hr
 have HRR:=Lib.hid hR
 have HPR:=Lib.hid hpr
 have HPL:=Lib.hid hpl
 have HF:=Lib.hid hF
 have HO:=Lib.hid ho
 have HL:=Lib.hid hl
 have HRS:=Lib.hid hrs
 have HSS:=Lib.hid hs
 have HT:=Lib.hid hT
 have HD:=Lib.hid hD
 have hsq:=sq_le hn
 have E1:=lies.made_at (w.alloc (.cells #[.bool false,.int .i64 0,.int .i64 0,.bool false] 204)) 204 (endL s none) (w.heap.size+1) (World.size_alloc _ _)
 have E0:=lies.on_alloc (lies.made w 204 #[.bool false,.int .i64 0,.int .i64 0,.bool false]) (.cells (endL s none) 204)
 have EB:=bound.up2 w (.cells #[.bool false,.int .i64 0,.int .i64 0,.bool false] 204) (.cells (endL s none) 204)
 have N0:Ne s (endC s X (fun j=>cod (ts[pl j]?.getD 0)) 0) w _:=⟨E0,E1,EB⟩
 have t0:=dbm.one (lies.on_call hT EB)
 obtain ⟨t1,t2,t3⟩:=t0
 clear hnear hr hR hpr hpl hF ho hl hrs hs hT hD E0 E1 EB
 go_enter Tryz.func213,Tryz.ntmps213
 dsimp only [endL] at N0 t1 t2 t3
 go_wp2_with fail
 clear t1 t2 t3
 generalize (w.alloc (.cells #[.bool false,.int .i64 0,.int .i64 0,.bool false] 204)).alloc (.cells #[.bool false,.int .i64 0,.int .i64 0,.bool false] 204)=w1 at N0 ⊢
 go_loopw [15] (fun i wr=>∃ j:Nat,j≤k∧i=.int .i64 j∧Ne s (endC s X (fun j=>cod (ts[pl j]?.getD 0)) j) w wr) (fun i _=>k - (intOf i).toNat)
 case atStart=>exact ⟨0,Nat.zero_le _,rfl,N0⟩
 case round=>
  clear N0
  obtain ⟨j,hj,rfl,hA⟩:=hrel
  by_cases hjk:j<k
  ·have hO:=HO.out j hjk
   have hP:=HPL.out j hjk
   have hFF:=Lib.hid (HF.out j hjk)
   obtain ⟨m1,m2⟩:=(HRR.out.below hA.2.2 htb) j (by rw [HRS.out];exact hjk)
   have hz:=(HR.out.below hA.2.2 hb) (pl j) (by rw [HL.out];exact hP)
   rw [HPR.out j hjk] at m1 m2
   have hup:endC s X (fun j=>cod (ts[pl j]?.getD 0)) (j+1)=mnE (endC s X (fun j=>cod (ts[pl j]?.getD 0)) j) (cand s (X j) (cod (ts[pl j]?.getD 0))):=rfl
   have hNj:=HNE.out j (by omega)
   generalize endC s X (fun j=>cod (ts[pl j]?.getD 0)) j=x at hA hup hNj
   have HUP:=Lib.hid hup
   have HNj:=Lib.hid hNj
   clear hup hNj
   have htl:=Nat.lt_of_lt_of_le htb hA.2.2.size
   go_wp2_with fail
   have A1:=hA.below (bound.up1 wr (.cells #[.int .i64 (p8 (X j)),.int .i64 (q8 (X j))] 45))
   have M1:=lies.made wr 45 #[.int .i64 (p8 (X j)),.int .i64 (q8 (X j))]
   have hPB:wr.heap.size≠w.heap.size+1:=by have:=lies.lt hA.2.1;omega
   have hz1:=(HR.out.below A1.2.2 hb) (pl j) (by rw [HL.out];exact hP)
   have D1:=lies.on_call HD.out A1.2.2
   clear hA m1 m2 hz
   generalize wr.heap.size=PB at M1 hPB ⊢
   generalize wr.alloc (.cells #[.int .i64 (p8 (X j)),.int .i64 (q8 (X j))] 45)=w5 at A1 M1 hz1 D1 ⊢
   generalize ts[pl j]?.getD 0=z at hO hz1 HUP
   generalize pl j=p at hP hFF hz1
   have hz':z≤9223372036854775807:=by
    rcases hO with h | h
    ·omega
    ·have:=h.1.2;omega
   have q1:(0:Int)≤(p:Int):=by omega
   have q2:(p:Int)<((n*n:Nat):Int):=by omega
   have q3:(p:Int)<(n:Int)*n:=by rw [←Int.natCast_mul];exact q2
   have S0:∀ W,Below w5.heap.size w5 W→W.cell? ⟨DX,1,none⟩=some (.slice (some ⟨b,off,none⟩) (n*n) cap)∧W.cell? ⟨b,off+p,none⟩=some (.int .i64 z):=fun W hW=>
    ⟨(dlaw.at_s D1 hW).2,(hW.cell (p:=⟨b,off+p,none⟩) (law.cell_lt hz1)).trans hz1⟩
   refine wp_region_held_drew (S:=Below w5.heap.size w5) (by kernel_rfl) (dbm.drawn1 (Below.refl _ _)) (fun hHeld=>?_)
   refine tk 0 (v:=?_) rfl hHeld ?_ ?_
   rotate_left
   ·intro w hSw;obtain ⟨s0,s1⟩:=S0 _ hSw;go_simp;try with_reducible rfl
   try simp only [Act.put,sA,sB,sC,sD,sE,sF]
   refine tk 1 (v:=?_) rfl hHeld ?_ ?_
   rotate_left
   ·intro w hSw;obtain ⟨s0,s1⟩:=S0 _ hSw;go_simp;try with_reducible rfl
   try simp only [Act.put,sA,sB,sC,sD,sE,sF]
   refine tk 2 (v:=?_) rfl hHeld ?_ ?_
   rotate_left
   ·intro w hSw;obtain ⟨s0,s1⟩:=S0 _ hSw;go_simp;try with_reducible rfl
   try simp only [Act.put,sA,sB,sC,sD,sE,sF]
   refine tk 3 (v:=?_) rfl hHeld ?_ ?_
   rotate_left
   ·intro w hSw;obtain ⟨s0,s1⟩:=S0 _ hSw;go_simp;try with_reducible rfl
   try simp only [Act.put,sA,sB,sC,sD,sE,sF]
   refine wpAnyH_ready (rs:=[4]) (by kernel_rfl) (by simp) (AllReadyH.cons rfl (fun K hK=>?_) AllReadyH.nil)
   go_simp
   refine (hFF.out _ (A1.2.2.trans (hHeld.mono A1.2.2.size))).mono ?_
   rintro e u1 ⟨rfl,hB⟩
   refine hK.out _ _ (hHeld.trans (hB.mono hHeld.size)) (fun hNew=>?_)
   clear hB
   clear hHeld hK K
   have hHeld:=hNew
   clear hNew
   try simp only [Act.put,sA,sB,sC,sD,sE,sF]
   refine tk 5 (v:=?_) rfl hHeld ?_ ?_
   rotate_left
   ·intro w hSw;obtain ⟨s0,s1⟩:=S0 _ hSw;go_simp;try with_reducible rfl
   try simp only [Act.put,sA,sB,sC,sD,sE,sF]
   refine tk 6 (v:=?_) rfl hHeld ?_ ?_
   rotate_left
   ·intro w hSw;obtain ⟨s0,s1⟩:=S0 _ hSw;go_simp;try with_reducible rfl
   try simp only [Act.put,sA,sB,sC,sD,sE,sF]
   refine wpAnyH_ready (rs:=[7]) (by kernel_rfl) (by simp) (AllReadyH.cons rfl (fun K hK=>?_) AllReadyH.nil)
   go_simp
   refine (value_any z _ hz').mono ?_
   rintro e u2 ⟨rfl,hB⟩
   refine hK.out _ _ (hHeld.trans (hB.mono hHeld.size)) (fun hNew=>?_)
   clear hB
   clear hHeld hK K
   have hHeld:=hNew
   clear hNew
   try simp only [Act.put,sA,sB,sC,sD,sE,sF]
   refine tk 8 (v:=?_) rfl hHeld ?_ ?_
   rotate_left
   ·intro w hSw;skip;go_simp;try with_reducible rfl
   try simp only [Act.put,sA,sB,sC,sD,sE,sF]
   refine tk 9 (v:=?_) rfl hHeld ?_ ?_
   rotate_left
   ·intro w hSw;skip;go_simp;try with_reducible rfl
   try simp only [Act.put,sA,sB,sC,sD,sE,sF]
   refine tk 10 (v:=?_) rfl hHeld ?_ ?_
   rotate_left
   ·intro w hSw;skip;go_simp;try with_reducible rfl
   try simp only [Act.put,sA,sB,sC,sD,sE,sF]
   refine tk 11 (v:=?_) rfl hHeld ?_ ?_
   rotate_left
   ·intro w hSw;skip;go_simp;try with_reducible rfl
   try simp only [Act.put,sA,sB,sC,sD,sE,sF]
   refine tk 12 (v:=?_) rfl hHeld ?_ ?_
   rotate_left
   ·intro w hSw;skip;go_simp;try with_reducible rfl
   try simp only [Act.put,sA,sB,sC,sD,sE,sF]
   refine tk 13 (v:=?_) rfl hHeld ?_ ?_
   rotate_left
   ·intro w hSw;skip;go_simp;try with_reducible rfl
   try simp only [Act.put,sA,sB,sC,sD,sE,sF]
   refine tk 14 (v:=?_) rfl hHeld ?_ ?_
   rotate_left
   ·intro w hSw;skip;go_simp;try with_reducible rfl
   try simp only [Act.put,sA,sB,sC,sD,sE,sF]
   refine wpAnyH_done (by kernel_rfl) ?_ _
   have A2:=A1.below hHeld
   have M2:=lies.on_call M1 hHeld
   clear hHeld S0 A1 M1 hz1 D1 hFF q1 q2 q3
   rcases hO with rfl | ⟨hm,hX,hS⟩
   ·have e6:valE 9223372036854775807=6:=by decide
    rw [e6]
    go_wp2_with fail
    go_roundw
    case rel=>exact ⟨j+1,by omega,by go_num,by rw [HUP.out];cases x<;>exact A2⟩
    case measure=>simp [intOf];omega
   ·have hnz:z≠9223372036854775807:=by have:=hm.2;omega
    have e0:valE z=0:=by unfold valE;rw [if_neg hnz,if_pos hm]
    have e1:valC z=z / 2:=if_pos hm
    have e2:valS z=bS z:=if_pos hm
    rw [e0,e1,e2]
    have hm':May (s*(z / 2)):=by
     have:=hm.1;have:=hm.2
     rcases HSS.out with rfl | rfl<;>unfold May<;>omega
    have g1:IntKind.i64.wrap (s*(z / 2))=s*(z / 2):=IntWalk.i64_in _ (by have:=hm'.1;have:=hm'.2;omega)
    have g2:wrap64 (s*(z / 2))=s*(z / 2):=IntWalk.wrap64_in _ ⟨by have:=hm'.1;omega,by have:=hm'.2;omega⟩
    obtain ⟨bc,hbc⟩:∃ bc:Int,bc=2*(s*X j)+16*(z / 2)+z % 2:=⟨_,rfl⟩
    have hcand:cand s (X j) (cod z)=some bc:=by rw [cod_some hnz,hbc];rfl
    have hbv:s*(bc / 2)=X j+8*(s*(z / 2)):=by rw [hbc];rcases HSS.out with rfl | rfl<;>omega
    have hbs:decide (bc % 2=0)=bS z:=by unfold bS;congr 1;rw [hbc];apply propext;omega
    obtain ⟨ea,ed,eb,ec,eL,eV⟩:=endL_four s x
    obtain ⟨fa,fd,fb,fc,fL,fV⟩:=endL_four s (mnE x (some bc))
    have hor:∀ W,Calls Tryz.prog 214 #[.agg #[.bool ea,.int .i64 eb,.int .i64 ec,.bool ed],.agg #[.bool true,.int .i64 (p8 (X j+8*(s*(z / 2)))),.int .i64 (q8 (X j+8*(s*(z / 2)))),.bool (bS z)],.int .i64 s] W fun e w'=>e=.returned (.agg #[.bool fa,.int .i64 fb,.int .i64 fc,.bool fd])∧Below W.heap.size W w':=fun W=>by
     have:=or_is HSS.out x bc HNj.out (show Near (s*(bc / 2)) by rw [hbv];exact hS) W
     rw [eV,fV] at this
     dsimp only [endV] at this
     rw [hbv,hbs] at this
     exact this
    have A4:Ne s x w u2.drew:=A2.below (dbm.drawn1 (Below.refl _ _))
    have M4:lies.Lies u2.drew PB 45 #[.int .i64 (p8 (X j)),.int .i64 (q8 (X j))]:=M2
    clear A2 hbc hbv hbs fV eV e0 e1 e2 hnz hz'
    have a5:=A4.2.1
    rw [eL] at a5
    obtain ⟨a0,a1,a2,a3,a4⟩:=four a5
    obtain ⟨m0,m1,m2,m3,m4⟩:=lies.two M2
    clear a5 M2
    go_wp2_with fail
    clear m0 m1 m2 m3 m4
    refine wp_region_held_drew (S:=fun W=>W.cell? ⟨PB,0,none⟩=some (.int .i64 (p8 (X j)))∧W.cell? ⟨PB,1,none⟩=some (.int .i64 (q8 (X j)))) (by kernel_rfl) (lies.pair M4) (fun hHeld=>?_)
    refine tk 1 (v:=?_) rfl hHeld ?_ ?_
    rotate_left
    ·intro w hSw;obtain ⟨s0,s1⟩:=hSw;go_simp;try with_reducible rfl
    try simp only [Act.put,sA,sB,sC,sD,sE,sF]
    refine tk 2 (v:=?_) rfl hHeld ?_ ?_
    rotate_left
    ·intro w hSw;obtain ⟨s0,s1⟩:=hSw;go_simp;try with_reducible rfl
    try simp only [Act.put,sA,sB,sC,sD,sE,sF]
    refine tk 3 (v:=?_) rfl hHeld ?_ ?_
    rotate_left
    ·intro w hSw;obtain ⟨s0,s1⟩:=hSw;go_simp;try with_reducible rfl
    try simp only [Act.put,sA,sB,sC,sD,sE,sF]
    refine tk 4 (v:=?_) rfl hHeld ?_ ?_
    rotate_left
    ·intro w hSw;obtain ⟨s0,s1⟩:=hSw;go_simp;try with_reducible rfl
    try simp only [Act.put,sA,sB,sC,sD,sE,sF]
    refine tk 6 (v:=?_) rfl hHeld ?_ ?_
    rotate_left
    ·intro w hSw;skip;go_simp;try with_reducible rfl
    try simp only [Act.put,sA,sB,sC,sD,sE,sF]
    refine tk 8 (v:=?_) rfl hHeld ?_ ?_
    rotate_left
    ·intro w hSw;skip;go_simp;try with_reducible rfl
    try simp only [Act.put,sA,sB,sC,sD,sE,sF]
    refine wpAnyH_ready (rs:=[0,5]) (by kernel_rfl) (by simp) (AllReadyH.cons rfl (fun K hK=>?_) (AllReadyH.cons rfl (fun K hK=>?_) AllReadyH.nil))
    ·go_simp
     refine hK.out _ _ hHeld (fun hNew=>?_)
     clear a0 a1 a2 a3 a4
     clear hHeld hK K
     have hHeld:=hNew
     clear hNew
     try simp only [Act.put,sA,sB,sC,sD,sE,sF]
     refine wpAnyH_ready (rs:=[5]) (by kernel_rfl) (by simp) (AllReadyH.cons rfl (fun K hK=>?_) AllReadyH.nil)
     go_simp
     refine (plus_is _ hX hm' hS).mono ?_
     rintro e v1 ⟨rfl,hB⟩
     replace A4:=A4.below hB
     replace M4:=lies.on_call M4 hB
     refine hK.out _ _ (lies.pair M4) (fun hNew=>?_)
     clear hB
     clear hHeld hK K
     have hHeld:=hNew
     clear hNew
     try simp only [Act.put,sA,sB,sC,sD,sE,sF]
     refine tk 7 (v:=?_) rfl hHeld ?_ ?_
     rotate_left
     ·intro w hSw;skip;go_simp;try with_reducible rfl
     try simp only [Act.put,sA,sB,sC,sD,sE,sF]
     refine wpAnyH_ready (rs:=[9]) (by kernel_rfl) (by simp) (AllReadyH.cons rfl (fun K hK=>?_) AllReadyH.nil)
     go_simp
     refine (hor _).mono ?_
     rintro e v2 ⟨rfl,hB⟩
     replace A4:=A4.below hB
     replace M4:=lies.on_call M4 hB
     refine hK.out _ _ (lies.pair M4) (fun hNew=>?_)
     clear hB
     clear hHeld hK K
     have hHeld:=hNew
     clear hNew
     try simp only [Act.put,sA,sB,sC,sD,sE,sF]
     obtain ⟨B0,B1,BB⟩:=A4
     rw [eL] at B1
     obtain ⟨b0,b1,b2,b3,b4⟩:=four B1
     obtain ⟨f0,f1,f2,f3⟩:=fourF B1
     have hne:PB≠w.heap.size+1:=hPB
     refine wpAnyH_ready (rs:=[10]) (by kernel_rfl) (by simp) (AllReadyH.cons rfl (fun K hK=>?_) AllReadyH.nil)
     go_simp
     have G1:=lies.on_put (lies.on_put (lies.on_put (lies.on_put B1 0 (.bool fa)) 1 (.int .i64 fb)) 2 (.int .i64 fc)) 3 (.bool fd)
     have G0:=lies.on_far (lies.on_far (lies.on_far (lies.on_far B0 (b:=w.heap.size+1) 0 (by omega) (.bool fa)) (b:=w.heap.size+1) 1 (by omega) (.int .i64 fb)) (b:=w.heap.size+1) 2 (by omega) (.int .i64 fc)) (b:=w.heap.size+1) 3 (by omega) (.bool fd)
     have GM:=lies.on_far (lies.on_far (lies.on_far (lies.on_far M4 (b:=w.heap.size+1) 0 hne (.bool fa)) (b:=w.heap.size+1) 1 hne (.int .i64 fb)) (b:=w.heap.size+1) 2 hne (.int .i64 fc)) (b:=w.heap.size+1) 3 hne (.bool fd)
     have GB:=set4 BB (g:=w.heap.size+1) (by omega) (.bool fa) (.int .i64 fb) (.int .i64 fc) (.bool fd)
     have hN8:Ne s (mnE x (some bc)) w ((((v2.setCell ⟨w.heap.size+1,0,none⟩ (.bool fa)).setCell ⟨w.heap.size+1,1,none⟩ (.int .i64 fb)).setCell ⟨w.heap.size+1,2,none⟩ (.int .i64 fc)).setCell ⟨w.heap.size+1,3,none⟩ (.bool fd)):=⟨G0,by rw [fL];exact G1,GB⟩
     clear b0 b1 b2 b3 b4 f0 f1 f2 f3 G0 G1 GB B0 B1 BB
     refine hK.out _ _ (lies.pair GM) (fun hNew=>?_)
     clear hK K hNew hHeld GM M4
     refine wpAnyH_done (by kernel_rfl) ?_ _
     generalize (((v2.setCell ⟨w.heap.size+1,0,none⟩ (.bool fa)).setCell ⟨w.heap.size+1,1,none⟩ (.int .i64 fb)).setCell ⟨w.heap.size+1,2,none⟩ (.int .i64 fc)).setCell ⟨w.heap.size+1,3,none⟩ (.bool fd)=w8 at hN8 ⊢
     go_wp2_with fail
     go_roundw
     case rel=>exact ⟨j+1,by omega,by go_num,by rw [HUP.out,hcand];exact hN8⟩
     case measure=>simp [intOf];omega
    ·go_simp
     clear a0 a1 a2 a3 a4
     refine (plus_is _ hX hm' hS).mono ?_
     rintro e v1 ⟨rfl,hB⟩
     replace A4:=A4.below hB
     replace M4:=lies.on_call M4 hB
     refine hK.out _ _ (lies.pair M4) (fun hNew=>?_)
     clear hB
     clear hHeld hK K
     have hHeld:=hNew
     clear hNew
     try simp only [Act.put,sA,sB,sC,sD,sE,sF]
     have a5:=A4.2.1
     rw [eL] at a5
     obtain ⟨a0,a1,a2,a3,a4⟩:=four a5
     refine tk 7 (v:=?_) rfl hHeld ?_ ?_
     rotate_left
     ·intro w hSw;skip;go_simp;try with_reducible rfl
     try simp only [Act.put,sA,sB,sC,sD,sE,sF]
     refine wpAnyH_ready (rs:=[0]) (by kernel_rfl) (by simp) (AllReadyH.cons rfl (fun K hK=>?_) AllReadyH.nil)
     go_simp
     refine hK.out _ _ hHeld (fun hNew=>?_)
     clear a0 a1 a2 a3 a4 a5
     clear hHeld hK K
     have hHeld:=hNew
     clear hNew
     try simp only [Act.put,sA,sB,sC,sD,sE,sF]
     refine wpAnyH_ready (rs:=[9]) (by kernel_rfl) (by simp) (AllReadyH.cons rfl (fun K hK=>?_) AllReadyH.nil)
     go_simp
     refine (hor _).mono ?_
     rintro e v2 ⟨rfl,hB⟩
     replace A4:=A4.below hB
     replace M4:=lies.on_call M4 hB
     refine hK.out _ _ (lies.pair M4) (fun hNew=>?_)
     clear hB
     clear hHeld hK K
     have hHeld:=hNew
     clear hNew
     try simp only [Act.put,sA,sB,sC,sD,sE,sF]
     obtain ⟨B0,B1,BB⟩:=A4
     rw [eL] at B1
     obtain ⟨b0,b1,b2,b3,b4⟩:=four B1
     obtain ⟨f0,f1,f2,f3⟩:=fourF B1
     have hne:PB≠w.heap.size+1:=hPB
     refine wpAnyH_ready (rs:=[10]) (by kernel_rfl) (by simp) (AllReadyH.cons rfl (fun K hK=>?_) AllReadyH.nil)
     go_simp
     have G1:=lies.on_put (lies.on_put (lies.on_put (lies.on_put B1 0 (.bool fa)) 1 (.int .i64 fb)) 2 (.int .i64 fc)) 3 (.bool fd)
     have G0:=lies.on_far (lies.on_far (lies.on_far (lies.on_far B0 (b:=w.heap.size+1) 0 (by omega) (.bool fa)) (b:=w.heap.size+1) 1 (by omega) (.int .i64 fb)) (b:=w.heap.size+1) 2 (by omega) (.int .i64 fc)) (b:=w.heap.size+1) 3 (by omega) (.bool fd)
     have GM:=lies.on_far (lies.on_far (lies.on_far (lies.on_far M4 (b:=w.heap.size+1) 0 hne (.bool fa)) (b:=w.heap.size+1) 1 hne (.int .i64 fb)) (b:=w.heap.size+1) 2 hne (.int .i64 fc)) (b:=w.heap.size+1) 3 hne (.bool fd)
     have GB:=set4 BB (g:=w.heap.size+1) (by omega) (.bool fa) (.int .i64 fb) (.int .i64 fc) (.bool fd)
     have hN8:Ne s (mnE x (some bc)) w ((((v2.setCell ⟨w.heap.size+1,0,none⟩ (.bool fa)).setCell ⟨w.heap.size+1,1,none⟩ (.int .i64 fb)).setCell ⟨w.heap.size+1,2,none⟩ (.int .i64 fc)).setCell ⟨w.heap.size+1,3,none⟩ (.bool fd)):=⟨G0,by rw [fL];exact G1,GB⟩
     clear b0 b1 b2 b3 b4 f0 f1 f2 f3 G0 G1 GB B0 B1 BB
     refine hK.out _ _ (lies.pair GM) (fun hNew=>?_)
     clear hK K hNew hHeld GM M4
     refine wpAnyH_done (by kernel_rfl) ?_ _
     generalize (((v2.setCell ⟨w.heap.size+1,0,none⟩ (.bool fa)).setCell ⟨w.heap.size+1,1,none⟩ (.int .i64 fb)).setCell ⟨w.heap.size+1,2,none⟩ (.int .i64 fc)).setCell ⟨w.heap.size+1,3,none⟩ (.bool fd)=w8 at hN8 ⊢
     go_wp2_with fail
     go_roundw
     case rel=>exact ⟨j+1,by omega,by go_num,by rw [HUP.out,hcand];exact hN8⟩
     case measure=>simp [intOf];omega
  ·obtain rfl:k=j:=by omega
   obtain ⟨B0,B1,BB⟩:=hA
   rw [HFL.out] at B1
   obtain ⟨x0,x1,x2,x3,x4⟩:=four B1
   obtain ⟨b0,b1,b2,b3,b4⟩:=four B0
   obtain ⟨f0,f1,f2,f3⟩:=fourF B0
   clear B0 B1
   go_wp2_with fail
   exact bodyPost_ret (v:=.agg #[.bool za,.int .i64 zb,.int .i64 zc,.bool zd]) (by simp [results,Tryz.results213,go_sem,b0,b1,b2,b3]) rfl ⟨rfl,set4 BB (Nat.le_refl _) _ _ _ _⟩
set_option maxRecDepth 100000 in
set_option maxHeartbeats 4000000 in
theorem nearest3_is {s:Int} (hs:s=1∨s=-1) (P1 P2:Nat) (pl:Nat→Nat) (n k b off cap tb toff tcap TX DX:Nat) (X:Nat→Int) (ts:List Int) (rs:List (Int × Int)) (w:World) (hn:n≤4) (hk:k≤4)
  (hT:lies.Lies w TX 138 #[.slice (some ⟨tb,toff,none⟩) k tcap]) (hD:lies.Lies w DX 81 #[.int .i64 n,.slice (some ⟨b,off,none⟩) (n*n) cap])
  (hr:Row w b off ts) (hb:b<w.heap.size) (hl:ts.length=n*n) (hR:RowR w tb toff rs) (htb:tb<w.heap.size) (hrs:rs.length=k) (hpr:∀ j,j<k→pr rs j=(p8 (X j),q8 (X j)))
  (hpl:∀ j,j<k→pl j<n*n)
  (hF:∀ j,j<k→∀ W,Below w.heap.size w W→Calls Tryz.prog 217 #[.int .i64 (j:Int),.pointer (some ⟨P1,0,none⟩),.pointer (some ⟨P2,0,none⟩)] W fun e w'=>e=.returned (.int .i64 (pl j:Int))∧Below W.heap.size W w')
  (ho:∀ j,j<k→ts[pl j]?.getD 0=9223372036854775807∨(May (ts[pl j]?.getD 0 / 2)∧Near (X j)∧Near (X j+8*(s*(ts[pl j]?.getD 0 / 2))))):
  Calls Tryz.prog 213 #[.int .i64 s,.func (.func 217) #[] #[.pointer (some ⟨P1,0,none⟩),.pointer (some ⟨P2,0,none⟩)],.pointer (some ⟨TX,0,none⟩),.pointer (some ⟨DX,0,none⟩)] w fun e w'=>e=.returned (endV s (endC s X (fun j=>cod (ts[pl j]?.getD 0)) k))∧Below w.heap.size w w':=by
 have hnear:=endC_near hs (X:=X) (t:=fun j=>ts[pl j]?.getD 0) (k:=k) (fun j hj=>(ho j hj).imp id fun h=>h.2.2)
 have HNE:=Lib.hid hnear
 obtain ⟨za,zd,zb,zc,zL,zV⟩:=endL_four s (endC s X (fun j=>cod (ts[pl j]?.getD 0)) k)
 rw [zV]
 have HFL:=Lib.hid zL
 clear zL zV
 have HR:=Lib.hid hr
 have HRR:=Lib.hid hR
 have HPR:=Lib.hid hpr
 have HPL:=Lib.hid hpl
 have HF:=Lib.hid hF
 have HO:=Lib.hid ho
 have HL:=Lib.hid hl
 have HRS:=Lib.hid hrs
 have HSS:=Lib.hid hs
 have HT:=Lib.hid hT
 have HD:=Lib.hid hD
 have hsq:=sq_le hn
 have E1:=lies.made_at (w.alloc (.cells #[.bool false,.int .i64 0,.int .i64 0,.bool false] 204)) 204 (endL s none) (w.heap.size+1) (World.size_alloc _ _)
 have E0:=lies.on_alloc (lies.made w 204 #[.bool false,.int .i64 0,.int .i64 0,.bool false]) (.cells (endL s none) 204)
 have EB:=bound.up2 w (.cells #[.bool false,.int .i64 0,.int .i64 0,.bool false] 204) (.cells (endL s none) 204)
 have N0:Ne s (endC s X (fun j=>cod (ts[pl j]?.getD 0)) 0) w _:=⟨E0,E1,EB⟩
 have t0:=dbm.one (lies.on_call hT EB)
 obtain ⟨t1,t2,t3⟩:=t0
 clear hnear hr hR hpr hpl hF ho hl hrs hs hT hD E0 E1 EB
 go_enter Tryz.func213,Tryz.ntmps213
 dsimp only [endL] at N0 t1 t2 t3
 go_wp2_with fail
 clear t1 t2 t3
 generalize (w.alloc (.cells #[.bool false,.int .i64 0,.int .i64 0,.bool false] 204)).alloc (.cells #[.bool false,.int .i64 0,.int .i64 0,.bool false] 204)=w1 at N0 ⊢
 go_loopw [15] (fun i wr=>∃ j:Nat,j≤k∧i=.int .i64 j∧Ne s (endC s X (fun j=>cod (ts[pl j]?.getD 0)) j) w wr) (fun i _=>k - (intOf i).toNat)
 case atStart=>exact ⟨0,Nat.zero_le _,rfl,N0⟩
 case round=>
  clear N0
  obtain ⟨j,hj,rfl,hA⟩:=hrel
  by_cases hjk:j<k
  ·have hO:=HO.out j hjk
   have hP:=HPL.out j hjk
   have hFF:=Lib.hid (HF.out j hjk)
   obtain ⟨m1,m2⟩:=(HRR.out.below hA.2.2 htb) j (by rw [HRS.out];exact hjk)
   have hz:=(HR.out.below hA.2.2 hb) (pl j) (by rw [HL.out];exact hP)
   rw [HPR.out j hjk] at m1 m2
   have hup:endC s X (fun j=>cod (ts[pl j]?.getD 0)) (j+1)=mnE (endC s X (fun j=>cod (ts[pl j]?.getD 0)) j) (cand s (X j) (cod (ts[pl j]?.getD 0))):=rfl
   have hNj:=HNE.out j (by omega)
   generalize endC s X (fun j=>cod (ts[pl j]?.getD 0)) j=x at hA hup hNj
   have HUP:=Lib.hid hup
   have HNj:=Lib.hid hNj
   clear hup hNj
   have htl:=Nat.lt_of_lt_of_le htb hA.2.2.size
   go_wp2_with fail
   have A1:=hA.below (bound.up1 wr (.cells #[.int .i64 (p8 (X j)),.int .i64 (q8 (X j))] 45))
   have M1:=lies.made wr 45 #[.int .i64 (p8 (X j)),.int .i64 (q8 (X j))]
   have hPB:wr.heap.size≠w.heap.size+1:=by have:=lies.lt hA.2.1;omega
   have hz1:=(HR.out.below A1.2.2 hb) (pl j) (by rw [HL.out];exact hP)
   have D1:=lies.on_call HD.out A1.2.2
   clear hA m1 m2 hz
   generalize wr.heap.size=PB at M1 hPB ⊢
   generalize wr.alloc (.cells #[.int .i64 (p8 (X j)),.int .i64 (q8 (X j))] 45)=w5 at A1 M1 hz1 D1 ⊢
   generalize ts[pl j]?.getD 0=z at hO hz1 HUP
   generalize pl j=p at hP hFF hz1
   have hz':z≤9223372036854775807:=by
    rcases hO with h | h
    ·omega
    ·have:=h.1.2;omega
   have q1:(0:Int)≤(p:Int):=by omega
   have q2:(p:Int)<((n*n:Nat):Int):=by omega
   have q3:(p:Int)<(n:Int)*n:=by rw [←Int.natCast_mul];exact q2
   have S0:∀ W,Below w5.heap.size w5 W→W.cell? ⟨DX,1,none⟩=some (.slice (some ⟨b,off,none⟩) (n*n) cap)∧W.cell? ⟨b,off+p,none⟩=some (.int .i64 z):=fun W hW=>
    ⟨(dlaw.at_s D1 hW).2,(hW.cell (p:=⟨b,off+p,none⟩) (law.cell_lt hz1)).trans hz1⟩
   refine wp_region_held_drew (S:=Below w5.heap.size w5) (by kernel_rfl) (dbm.drawn1 (Below.refl _ _)) (fun hHeld=>?_)
   refine tk 0 (v:=?_) rfl hHeld ?_ ?_
   rotate_left
   ·intro w hSw;obtain ⟨s0,s1⟩:=S0 _ hSw;go_simp;try with_reducible rfl
   try simp only [Act.put,sA,sB,sC,sD,sE,sF]
   refine tk 1 (v:=?_) rfl hHeld ?_ ?_
   rotate_left
   ·intro w hSw;obtain ⟨s0,s1⟩:=S0 _ hSw;go_simp;try with_reducible rfl
   try simp only [Act.put,sA,sB,sC,sD,sE,sF]
   refine tk 2 (v:=?_) rfl hHeld ?_ ?_
   rotate_left
   ·intro w hSw;obtain ⟨s0,s1⟩:=S0 _ hSw;go_simp;try with_reducible rfl
   try simp only [Act.put,sA,sB,sC,sD,sE,sF]
   refine tk 3 (v:=?_) rfl hHeld ?_ ?_
   rotate_left
   ·intro w hSw;obtain ⟨s0,s1⟩:=S0 _ hSw;go_simp;try with_reducible rfl
   try simp only [Act.put,sA,sB,sC,sD,sE,sF]
   refine wpAnyH_ready (rs:=[4]) (by kernel_rfl) (by simp) (AllReadyH.cons rfl (fun K hK=>?_) AllReadyH.nil)
   go_simp
   refine (hFF.out _ (A1.2.2.trans (hHeld.mono A1.2.2.size))).mono ?_
   rintro e u1 ⟨rfl,hB⟩
   refine hK.out _ _ (hHeld.trans (hB.mono hHeld.size)) (fun hNew=>?_)
   clear hB
   clear hHeld hK K
   have hHeld:=hNew
   clear hNew
   try simp only [Act.put,sA,sB,sC,sD,sE,sF]
   refine tk 5 (v:=?_) rfl hHeld ?_ ?_
   rotate_left
   ·intro w hSw;obtain ⟨s0,s1⟩:=S0 _ hSw;go_simp;try with_reducible rfl
   try simp only [Act.put,sA,sB,sC,sD,sE,sF]
   refine tk 6 (v:=?_) rfl hHeld ?_ ?_
   rotate_left
   ·intro w hSw;obtain ⟨s0,s1⟩:=S0 _ hSw;go_simp;try with_reducible rfl
   try simp only [Act.put,sA,sB,sC,sD,sE,sF]
   refine wpAnyH_ready (rs:=[7]) (by kernel_rfl) (by simp) (AllReadyH.cons rfl (fun K hK=>?_) AllReadyH.nil)
   go_simp
   refine (value_any z _ hz').mono ?_
   rintro e u2 ⟨rfl,hB⟩
   refine hK.out _ _ (hHeld.trans (hB.mono hHeld.size)) (fun hNew=>?_)
   clear hB
   clear hHeld hK K
   have hHeld:=hNew
   clear hNew
   try simp only [Act.put,sA,sB,sC,sD,sE,sF]
   refine tk 8 (v:=?_) rfl hHeld ?_ ?_
   rotate_left
   ·intro w hSw;skip;go_simp;try with_reducible rfl
   try simp only [Act.put,sA,sB,sC,sD,sE,sF]
   refine tk 9 (v:=?_) rfl hHeld ?_ ?_
   rotate_left
   ·intro w hSw;skip;go_simp;try with_reducible rfl
   try simp only [Act.put,sA,sB,sC,sD,sE,sF]
   refine tk 10 (v:=?_) rfl hHeld ?_ ?_
   rotate_left
   ·intro w hSw;skip;go_simp;try with_reducible rfl
   try simp only [Act.put,sA,sB,sC,sD,sE,sF]
   refine tk 11 (v:=?_) rfl hHeld ?_ ?_
   rotate_left
   ·intro w hSw;skip;go_simp;try with_reducible rfl
   try simp only [Act.put,sA,sB,sC,sD,sE,sF]
   refine tk 12 (v:=?_) rfl hHeld ?_ ?_
   rotate_left
   ·intro w hSw;skip;go_simp;try with_reducible rfl
   try simp only [Act.put,sA,sB,sC,sD,sE,sF]
   refine tk 13 (v:=?_) rfl hHeld ?_ ?_
   rotate_left
   ·intro w hSw;skip;go_simp;try with_reducible rfl
   try simp only [Act.put,sA,sB,sC,sD,sE,sF]
   refine tk 14 (v:=?_) rfl hHeld ?_ ?_
   rotate_left
   ·intro w hSw;skip;go_simp;try with_reducible rfl
   try simp only [Act.put,sA,sB,sC,sD,sE,sF]
   refine wpAnyH_done (by kernel_rfl) ?_ _
   have A2:=A1.below hHeld
   have M2:=lies.on_call M1 hHeld
   clear hHeld S0 A1 M1 hz1 D1 hFF q1 q2 q3
   rcases hO with rfl | ⟨hm,hX,hS⟩
   ·have e6:valE 9223372036854775807=6:=by decide
    rw [e6]
    go_wp2_with fail
    go_roundw
    case rel=>exact ⟨j+1,by omega,by go_num,by rw [HUP.out];cases x<;>exact A2⟩
    case measure=>simp [intOf];omega
   ·have hnz:z≠9223372036854775807:=by have:=hm.2;omega
    have e0:valE z=0:=by unfold valE;rw [if_neg hnz,if_pos hm]
    have e1:valC z=z / 2:=if_pos hm
    have e2:valS z=bS z:=if_pos hm
    rw [e0,e1,e2]
    have hm':May (s*(z / 2)):=by
     have:=hm.1;have:=hm.2
     rcases HSS.out with rfl | rfl<;>unfold May<;>omega
    have g1:IntKind.i64.wrap (s*(z / 2))=s*(z / 2):=IntWalk.i64_in _ (by have:=hm'.1;have:=hm'.2;omega)
    have g2:wrap64 (s*(z / 2))=s*(z / 2):=IntWalk.wrap64_in _ ⟨by have:=hm'.1;omega,by have:=hm'.2;omega⟩
    obtain ⟨bc,hbc⟩:∃ bc:Int,bc=2*(s*X j)+16*(z / 2)+z % 2:=⟨_,rfl⟩
    have hcand:cand s (X j) (cod z)=some bc:=by rw [cod_some hnz,hbc];rfl
    have hbv:s*(bc / 2)=X j+8*(s*(z / 2)):=by rw [hbc];rcases HSS.out with rfl | rfl<;>omega
    have hbs:decide (bc % 2=0)=bS z:=by unfold bS;congr 1;rw [hbc];apply propext;omega
    obtain ⟨ea,ed,eb,ec,eL,eV⟩:=endL_four s x
    obtain ⟨fa,fd,fb,fc,fL,fV⟩:=endL_four s (mnE x (some bc))
    have hor:∀ W,Calls Tryz.prog 214 #[.agg #[.bool ea,.int .i64 eb,.int .i64 ec,.bool ed],.agg #[.bool true,.int .i64 (p8 (X j+8*(s*(z / 2)))),.int .i64 (q8 (X j+8*(s*(z / 2)))),.bool (bS z)],.int .i64 s] W fun e w'=>e=.returned (.agg #[.bool fa,.int .i64 fb,.int .i64 fc,.bool fd])∧Below W.heap.size W w':=fun W=>by
     have:=or_is HSS.out x bc HNj.out (show Near (s*(bc / 2)) by rw [hbv];exact hS) W
     rw [eV,fV] at this
     dsimp only [endV] at this
     rw [hbv,hbs] at this
     exact this
    have A4:Ne s x w u2.drew:=A2.below (dbm.drawn1 (Below.refl _ _))
    have M4:lies.Lies u2.drew PB 45 #[.int .i64 (p8 (X j)),.int .i64 (q8 (X j))]:=M2
    clear A2 hbc hbv hbs fV eV e0 e1 e2 hnz hz'
    have a5:=A4.2.1
    rw [eL] at a5
    obtain ⟨a0,a1,a2,a3,a4⟩:=four a5
    obtain ⟨m0,m1,m2,m3,m4⟩:=lies.two M2
    clear a5 M2
    go_wp2_with fail
    clear m0 m1 m2 m3 m4
    refine wp_region_held_drew (S:=fun W=>W.cell? ⟨PB,0,none⟩=some (.int .i64 (p8 (X j)))∧W.cell? ⟨PB,1,none⟩=some (.int .i64 (q8 (X j)))) (by kernel_rfl) (lies.pair M4) (fun hHeld=>?_)
    refine tk 1 (v:=?_) rfl hHeld ?_ ?_
    rotate_left
    ·intro w hSw;obtain ⟨s0,s1⟩:=hSw;go_simp;try with_reducible rfl
    try simp only [Act.put,sA,sB,sC,sD,sE,sF]
    refine tk 2 (v:=?_) rfl hHeld ?_ ?_
    rotate_left
    ·intro w hSw;obtain ⟨s0,s1⟩:=hSw;go_simp;try with_reducible rfl
    try simp only [Act.put,sA,sB,sC,sD,sE,sF]
    refine tk 3 (v:=?_) rfl hHeld ?_ ?_
    rotate_left
    ·intro w hSw;obtain ⟨s0,s1⟩:=hSw;go_simp;try with_reducible rfl
    try simp only [Act.put,sA,sB,sC,sD,sE,sF]
    refine tk 4 (v:=?_) rfl hHeld ?_ ?_
    rotate_left
    ·intro w hSw;obtain ⟨s0,s1⟩:=hSw;go_simp;try with_reducible rfl
    try simp only [Act.put,sA,sB,sC,sD,sE,sF]
    refine tk 6 (v:=?_) rfl hHeld ?_ ?_
    rotate_left
    ·intro w hSw;skip;go_simp;try with_reducible rfl
    try simp only [Act.put,sA,sB,sC,sD,sE,sF]
    refine tk 8 (v:=?_) rfl hHeld ?_ ?_
    rotate_left
    ·intro w hSw;skip;go_simp;try with_reducible rfl
    try simp only [Act.put,sA,sB,sC,sD,sE,sF]
    refine wpAnyH_ready (rs:=[0,5]) (by kernel_rfl) (by simp) (AllReadyH.cons rfl (fun K hK=>?_) (AllReadyH.cons rfl (fun K hK=>?_) AllReadyH.nil))
    ·go_simp
     refine hK.out _ _ hHeld (fun hNew=>?_)
     clear a0 a1 a2 a3 a4
     clear hHeld hK K
     have hHeld:=hNew
     clear hNew
     try simp only [Act.put,sA,sB,sC,sD,sE,sF]
     refine wpAnyH_ready (rs:=[5]) (by kernel_rfl) (by simp) (AllReadyH.cons rfl (fun K hK=>?_) AllReadyH.nil)
     go_simp
     refine (plus_is _ hX hm' hS).mono ?_
     rintro e v1 ⟨rfl,hB⟩
     replace A4:=A4.below hB
     replace M4:=lies.on_call M4 hB
     refine hK.out _ _ (lies.pair M4) (fun hNew=>?_)
     clear hB
     clear hHeld hK K
     have hHeld:=hNew
     clear hNew
     try simp only [Act.put,sA,sB,sC,sD,sE,sF]
     refine tk 7 (v:=?_) rfl hHeld ?_ ?_
     rotate_left
     ·intro w hSw;skip;go_simp;try with_reducible rfl
     try simp only [Act.put,sA,sB,sC,sD,sE,sF]
     refine wpAnyH_ready (rs:=[9]) (by kernel_rfl) (by simp) (AllReadyH.cons rfl (fun K hK=>?_) AllReadyH.nil)
     go_simp
     refine (hor _).mono ?_
     rintro e v2 ⟨rfl,hB⟩
     replace A4:=A4.below hB
     replace M4:=lies.on_call M4 hB
     refine hK.out _ _ (lies.pair M4) (fun hNew=>?_)
     clear hB
     clear hHeld hK K
     have hHeld:=hNew
     clear hNew
     try simp only [Act.put,sA,sB,sC,sD,sE,sF]
     obtain ⟨B0,B1,BB⟩:=A4
     rw [eL] at B1
     obtain ⟨b0,b1,b2,b3,b4⟩:=four B1
     obtain ⟨f0,f1,f2,f3⟩:=fourF B1
     have hne:PB≠w.heap.size+1:=hPB
     refine wpAnyH_ready (rs:=[10]) (by kernel_rfl) (by simp) (AllReadyH.cons rfl (fun K hK=>?_) AllReadyH.nil)
     go_simp
     have G1:=lies.on_put (lies.on_put (lies.on_put (lies.on_put B1 0 (.bool fa)) 1 (.int .i64 fb)) 2 (.int .i64 fc)) 3 (.bool fd)
     have G0:=lies.on_far (lies.on_far (lies.on_far (lies.on_far B0 (b:=w.heap.size+1) 0 (by omega) (.bool fa)) (b:=w.heap.size+1) 1 (by omega) (.int .i64 fb)) (b:=w.heap.size+1) 2 (by omega) (.int .i64 fc)) (b:=w.heap.size+1) 3 (by omega) (.bool fd)
     have GM:=lies.on_far (lies.on_far (lies.on_far (lies.on_far M4 (b:=w.heap.size+1) 0 hne (.bool fa)) (b:=w.heap.size+1) 1 hne (.int .i64 fb)) (b:=w.heap.size+1) 2 hne (.int .i64 fc)) (b:=w.heap.size+1) 3 hne (.bool fd)
     have GB:=set4 BB (g:=w.heap.size+1) (by omega) (.bool fa) (.int .i64 fb) (.int .i64 fc) (.bool fd)
     have hN8:Ne s (mnE x (some bc)) w ((((v2.setCell ⟨w.heap.size+1,0,none⟩ (.bool fa)).setCell ⟨w.heap.size+1,1,none⟩ (.int .i64 fb)).setCell ⟨w.heap.size+1,2,none⟩ (.int .i64 fc)).setCell ⟨w.heap.size+1,3,none⟩ (.bool fd)):=⟨G0,by rw [fL];exact G1,GB⟩
     clear b0 b1 b2 b3 b4 f0 f1 f2 f3 G0 G1 GB B0 B1 BB
     refine hK.out _ _ (lies.pair GM) (fun hNew=>?_)
     clear hK K hNew hHeld GM M4
     refine wpAnyH_done (by kernel_rfl) ?_ _
     generalize (((v2.setCell ⟨w.heap.size+1,0,none⟩ (.bool fa)).setCell ⟨w.heap.size+1,1,none⟩ (.int .i64 fb)).setCell ⟨w.heap.size+1,2,none⟩ (.int .i64 fc)).setCell ⟨w.heap.size+1,3,none⟩ (.bool fd)=w8 at hN8 ⊢
     go_wp2_with fail
     go_roundw
     case rel=>exact ⟨j+1,by omega,by go_num,by rw [HUP.out,hcand];exact hN8⟩
     case measure=>simp [intOf];omega
    ·go_simp
     clear a0 a1 a2 a3 a4
     refine (plus_is _ hX hm' hS).mono ?_
     rintro e v1 ⟨rfl,hB⟩
     replace A4:=A4.below hB
     replace M4:=lies.on_call M4 hB
     refine hK.out _ _ (lies.pair M4) (fun hNew=>?_)
     clear hB
     clear hHeld hK K
     have hHeld:=hNew
     clear hNew
     try simp only [Act.put,sA,sB,sC,sD,sE,sF]
     have a5:=A4.2.1
     rw [eL] at a5
     obtain ⟨a0,a1,a2,a3,a4⟩:=four a5
     refine tk 7 (v:=?_) rfl hHeld ?_ ?_
     rotate_left
     ·intro w hSw;skip;go_simp;try with_reducible rfl
     try simp only [Act.put,sA,sB,sC,sD,sE,sF]
     refine wpAnyH_ready (rs:=[0]) (by kernel_rfl) (by simp) (AllReadyH.cons rfl (fun K hK=>?_) AllReadyH.nil)
     go_simp
     refine hK.out _ _ hHeld (fun hNew=>?_)
     clear a0 a1 a2 a3 a4 a5
     clear hHeld hK K
     have hHeld:=hNew
     clear hNew
     try simp only [Act.put,sA,sB,sC,sD,sE,sF]
     refine wpAnyH_ready (rs:=[9]) (by kernel_rfl) (by simp) (AllReadyH.cons rfl (fun K hK=>?_) AllReadyH.nil)
     go_simp
     refine (hor _).mono ?_
     rintro e v2 ⟨rfl,hB⟩
     replace A4:=A4.below hB
     replace M4:=lies.on_call M4 hB
     refine hK.out _ _ (lies.pair M4) (fun hNew=>?_)
     clear hB
     clear hHeld hK K
     have hHeld:=hNew
     clear hNew
     try simp only [Act.put,sA,sB,sC,sD,sE,sF]
     obtain ⟨B0,B1,BB⟩:=A4
     rw [eL] at B1
     obtain ⟨b0,b1,b2,b3,b4⟩:=four B1
     obtain ⟨f0,f1,f2,f3⟩:=fourF B1
     have hne:PB≠w.heap.size+1:=hPB
     refine wpAnyH_ready (rs:=[10]) (by kernel_rfl) (by simp) (AllReadyH.cons rfl (fun K hK=>?_) AllReadyH.nil)
     go_simp
     have G1:=lies.on_put (lies.on_put (lies.on_put (lies.on_put B1 0 (.bool fa)) 1 (.int .i64 fb)) 2 (.int .i64 fc)) 3 (.bool fd)
     have G0:=lies.on_far (lies.on_far (lies.on_far (lies.on_far B0 (b:=w.heap.size+1) 0 (by omega) (.bool fa)) (b:=w.heap.size+1) 1 (by omega) (.int .i64 fb)) (b:=w.heap.size+1) 2 (by omega) (.int .i64 fc)) (b:=w.heap.size+1) 3 (by omega) (.bool fd)
     have GM:=lies.on_far (lies.on_far (lies.on_far (lies.on_far M4 (b:=w.heap.size+1) 0 hne (.bool fa)) (b:=w.heap.size+1) 1 hne (.int .i64 fb)) (b:=w.heap.size+1) 2 hne (.int .i64 fc)) (b:=w.heap.size+1) 3 hne (.bool fd)
     have GB:=set4 BB (g:=w.heap.size+1) (by omega) (.bool fa) (.int .i64 fb) (.int .i64 fc) (.bool fd)
     have hN8:Ne s (mnE x (some bc)) w ((((v2.setCell ⟨w.heap.size+1,0,none⟩ (.bool fa)).setCell ⟨w.heap.size+1,1,none⟩ (.int .i64 fb)).setCell ⟨w.heap.size+1,2,none⟩ (.int .i64 fc)).setCell ⟨w.heap.size+1,3,none⟩ (.bool fd)):=⟨G0,by rw [fL];exact G1,GB⟩
     clear b0 b1 b2 b3 b4 f0 f1 f2 f3 G0 G1 GB B0 B1 BB
     refine hK.out _ _ (lies.pair GM) (fun hNew=>?_)
     clear hK K hNew hHeld GM M4
     refine wpAnyH_done (by kernel_rfl) ?_ _
     generalize (((v2.setCell ⟨w.heap.size+1,0,none⟩ (.bool fa)).setCell ⟨w.heap.size+1,1,none⟩ (.int .i64 fb)).setCell ⟨w.heap.size+1,2,none⟩ (.int .i64 fc)).setCell ⟨w.heap.size+1,3,none⟩ (.bool fd)=w8 at hN8 ⊢
     go_wp2_with fail
     go_roundw
     case rel=>exact ⟨j+1,by omega,by go_num,by rw [HUP.out,hcand];exact hN8⟩
     case measure=>simp [intOf];omega
  ·obtain rfl:k=j:=by omega
   obtain ⟨B0,B1,BB⟩:=hA
   rw [HFL.out] at B1
   obtain ⟨x0,x1,x2,x3,x4⟩:=four B1
   obtain ⟨b0,b1,b2,b3,b4⟩:=four B0
   obtain ⟨f0,f1,f2,f3⟩:=fourF B0
   clear B0 B1
   go_wp2_with fail
   exact bodyPost_ret (v:=.agg #[.bool za,.int .i64 zb,.int .i64 zc,.bool zd]) (by simp [results,Tryz.results213,go_sem,b0,b1,b2,b3]) rfl ⟨rfl,set4 BB (Nat.le_refl _) _ _ _ _⟩
end Go.Proofs.YthmljpccbjolgaaGreatDoor.incl
namespace Go.Proofs.YthmljpccbjolgaaGreatDoor.incl
open Go.ChangeShapes Go.WideShapes Go.ChangeAt Go.RowKit num rat dbm
open bound hiding up
set_option linter.unusedVariables false
set_option linter.unusedSimpArgs false
def Fit (s x z:Int):Prop:=z=9223372036854775807∨(May (z / 2)∧Near x∧Near (x+8*(s*(z / 2))))
theorem far4 {W:World} {g q:Nat} {t:TypeId} {cs:Array Value} (h:lies.Lies W g t cs) (hne:g≠q) (a b c d:Value):lies.Lies ((((W.setCell ⟨q,0,none⟩ a).setCell ⟨q,1,none⟩ b).setCell ⟨q,2,none⟩ c).setCell ⟨q,3,none⟩ d) g t cs:=
 lies.on_far (lies.on_far (lies.on_far (lies.on_far h (b:=q) 0 hne a) (b:=q) 1 hne b) (b:=q) 2 hne c) (b:=q) 3 hne d
set_option maxRecDepth 100000 in
set_option maxHeartbeats 4000000 in
theorem ends_is (n i b off cap tb toff tcap:Nat) (X:Nat→Int) (ts:List Int) (rs:List (Int × Int)) (w:World) (hn:n≤4) (hi:i<n) (hr:Row w b off ts) (hb:b<w.heap.size) (hl:ts.length=n*n)
  (hR:RowR w tb toff rs) (htb:tb<w.heap.size) (hrs:rs.length=i) (hpr:∀ j,j<i→pr rs j=(p8 (X j),q8 (X j)))
  (hlo:∀ j,j<i→Fit (-1) (X j) (ts[j*n+i]?.getD 0)) (hhi:∀ j,j<i→Fit 1 (X j) (ts[i*n+j]?.getD 0)):
  Calls Tryz.prog 177 #[.agg #[.int .i64 n,.slice (some ⟨b,off,none⟩) (n*n) cap],.int .i64 i,.slice (some ⟨tb,toff,none⟩) i tcap] w fun e w'=>e=.returned (.tuple #[endV (-1) (endC (-1) X (fun j=>cod (ts[j*n+i]?.getD 0)) i),endV 1 (endC 1 X (fun j=>cod (ts[i*n+j]?.getD 0)) i)])∧Below w.heap.size w w':=by
 obtain ⟨ea,ed,eb,ec,eL,eV⟩:=endL_four (-1) (endC (-1) X (fun j=>cod (ts[j*n+i]?.getD 0)) i)
 obtain ⟨ga,gd,gb,gc,gL,gV⟩:=endL_four 1 (endC 1 X (fun j=>cod (ts[i*n+j]?.getD 0)) i)
 rw [eV,gV]
 have HEV:=Lib.hid eV
 have HGV:=Lib.hid gV
 have HR:=Lib.hid hr
 have HRR:=Lib.hid hR
 have HPR:=Lib.hid hpr
 have HLO:=Lib.hid hlo
 have HHI:=Lib.hid hhi
 have HL:=Lib.hid hl
 have HRS:=Lib.hid hrs
 clear eL gL eV gV hr hR hpr hlo hhi hl hrs
 have D0:=lies.on_alloc (lies.on_alloc (lies.on_alloc (lies.on_alloc (lies.made_at w 81 #[.int .i64 n,.slice (some ⟨b,off,none⟩) (n*n) cap] (w.heap.size) (by simp)) (.cells #[.int .i64 i] 3)) (.cells #[.slice (some ⟨tb,toff,none⟩) i tcap] 138)) (.cells #[.bool false,.int .i64 0,.int .i64 0,.bool false] 204)) (.cells #[.bool false,.int .i64 0,.int .i64 0,.bool false] 204)
 have D1:=lies.on_alloc (lies.on_alloc (lies.on_alloc (lies.made_at (w.alloc (.cells #[.int .i64 n,.slice (some ⟨b,off,none⟩) (n*n) cap] 81)) 3 #[.int .i64 i] (w.heap.size+1) (by simp)) (.cells #[.slice (some ⟨tb,toff,none⟩) i tcap] 138)) (.cells #[.bool false,.int .i64 0,.int .i64 0,.bool false] 204)) (.cells #[.bool false,.int .i64 0,.int .i64 0,.bool false] 204)
 have D2:=lies.on_alloc (lies.on_alloc (lies.made_at ((w.alloc (.cells #[.int .i64 n,.slice (some ⟨b,off,none⟩) (n*n) cap] 81)).alloc (.cells #[.int .i64 i] 3)) 138 #[.slice (some ⟨tb,toff,none⟩) i tcap] (w.heap.size+1+1) (by simp)) (.cells #[.bool false,.int .i64 0,.int .i64 0,.bool false] 204)) (.cells #[.bool false,.int .i64 0,.int .i64 0,.bool false] 204)
 have D3:=lies.on_alloc (lies.made_at (((w.alloc (.cells #[.int .i64 n,.slice (some ⟨b,off,none⟩) (n*n) cap] 81)).alloc (.cells #[.int .i64 i] 3)).alloc (.cells #[.slice (some ⟨tb,toff,none⟩) i tcap] 138)) 204 #[.bool false,.int .i64 0,.int .i64 0,.bool false] (w.heap.size+1+1+1) (by simp)) (.cells #[.bool false,.int .i64 0,.int .i64 0,.bool false] 204)
 have D4:=lies.made_at ((((w.alloc (.cells #[.int .i64 n,.slice (some ⟨b,off,none⟩) (n*n) cap] 81)).alloc (.cells #[.int .i64 i] 3)).alloc (.cells #[.slice (some ⟨tb,toff,none⟩) i tcap] 138)).alloc (.cells #[.bool false,.int .i64 0,.int .i64 0,.bool false] 204)) 204 #[.bool false,.int .i64 0,.int .i64 0,.bool false] (w.heap.size+1+1+1+1) (by simp)
 have DB:=lies.frame_up (lies.frame_up (lies.frame_up (lies.frame_up (bound.up1 w (.cells #[.int .i64 n,.slice (some ⟨b,off,none⟩) (n*n) cap] 81)) (.cells #[.int .i64 i] 3)) (.cells #[.slice (some ⟨tb,toff,none⟩) i tcap] 138)) (.cells #[.bool false,.int .i64 0,.int .i64 0,.bool false] 204)) (.cells #[.bool false,.int .i64 0,.int .i64 0,.bool false] 204)
 go_enter Tryz.func177,Tryz.ntmps177
 go_wp2_with fail
 generalize (((((w.alloc (.cells #[.int .i64 n,.slice (some ⟨b,off,none⟩) (n*n) cap] 81)).alloc (.cells #[.int .i64 i] 3)).alloc (.cells #[.slice (some ⟨tb,toff,none⟩) i tcap] 138)).alloc (.cells #[.bool false,.int .i64 0,.int .i64 0,.bool false] 204)).alloc (.cells #[.bool false,.int .i64 0,.int .i64 0,.bool false] 204))=w0 at D0 D1 D2 D3 D4 DB ⊢
 refine (nearest2_is (s:=-1) (.inr rfl) w.heap.size (w.heap.size+1) (fun j=>j*n+i) n i b off cap tb toff tcap (w.heap.size+1+1) w.heap.size X ts rs w0 hn (by omega) D2 D0 (HR.out.below DB hb) (Nat.lt_of_lt_of_le hb DB.size) HL.out (HRR.out.below DB htb) (Nat.lt_of_lt_of_le htb DB.size) HRS.out HPR.out (fun j hj=>place_le hn (by omega) hi) (fun j hj W hW=>place2_is n i j _ _ _ W hn hi (by omega) (lies.on_call D0 hW) (lies.on_call D1 hW)) HLO.out).mono ?_
 rintro e w1 ⟨rfl,hB⟩
 rw [HEV.out]
 replace D0:=lies.on_call D0 hB
 replace D1:=lies.on_call D1 hB
 replace D2:=lies.on_call D2 hB
 replace D3:=lies.on_call D3 hB
 replace D4:=lies.on_call D4 hB
 replace DB:=later DB hB
 clear hB
 obtain ⟨x0,x1,x2,x3,x4⟩:=four D3
 obtain ⟨f0,f1,f2,f3⟩:=fourF D3
 go_wp2_with fail
 clear x0 x1 x2 x3 x4 f0 f1 f2 f3
 replace D0:=far4 D0 (q:=w.heap.size+1+1+1) (by omega) (.bool ea) (.int .i64 eb) (.int .i64 ec) (.bool ed)
 replace D1:=far4 D1 (q:=w.heap.size+1+1+1) (by omega) (.bool ea) (.int .i64 eb) (.int .i64 ec) (.bool ed)
 replace D2:=far4 D2 (q:=w.heap.size+1+1+1) (by omega) (.bool ea) (.int .i64 eb) (.int .i64 ec) (.bool ed)
 replace D4:=far4 D4 (q:=w.heap.size+1+1+1) (by omega) (.bool ea) (.int .i64 eb) (.int .i64 ec) (.bool ed)
 replace D3:=lies.on_put (lies.on_put (lies.on_put (lies.on_put D3 0 (.bool ea)) 1 (.int .i64 eb)) 2 (.int .i64 ec)) 3 (.bool ed)
 replace DB:=set4 DB (g:=w.heap.size+1+1+1) (by omega) (.bool ea) (.int .i64 eb) (.int .i64 ec) (.bool ed)
 replace D3:lies.Lies ((((w1.setCell ⟨w.heap.size+1+1+1,0,none⟩ (.bool ea)).setCell ⟨w.heap.size+1+1+1,1,none⟩ (.int .i64 eb)).setCell ⟨w.heap.size+1+1+1,2,none⟩ (.int .i64 ec)).setCell ⟨w.heap.size+1+1+1,3,none⟩ (.bool ed)) (w.heap.size+1+1+1) 204 #[.bool ea,.int .i64 eb,.int .i64 ec,.bool ed]:=D3
 generalize (((w1.setCell ⟨w.heap.size+1+1+1,0,none⟩ (.bool ea)).setCell ⟨w.heap.size+1+1+1,1,none⟩ (.int .i64 eb)).setCell ⟨w.heap.size+1+1+1,2,none⟩ (.int .i64 ec)).setCell ⟨w.heap.size+1+1+1,3,none⟩ (.bool ed)=w2 at D0 D1 D2 D3 D4 DB ⊢
 refine (nearest3_is (s:=1) (.inl rfl) (w.heap.size+1) w.heap.size (fun j=>i*n+j) n i b off cap tb toff tcap (w.heap.size+1+1) w.heap.size X ts rs w2 hn (by omega) D2 D0 (HR.out.below DB hb) (Nat.lt_of_lt_of_le hb DB.size) HL.out (HRR.out.below DB htb) (Nat.lt_of_lt_of_le htb DB.size) HRS.out HPR.out (fun j hj=>place_le hn hi (by omega)) (fun j hj W hW=>place3_is n i j _ _ _ W hn hi (by omega) (lies.on_call D0 hW) (lies.on_call D1 hW)) HHI.out).mono ?_
 rintro e w3 ⟨rfl,hB⟩
 rw [HGV.out]
 replace D3:=lies.on_call D3 hB
 replace D4:=lies.on_call D4 hB
 replace DB:=later DB hB
 clear hB D0 D1 D2
 obtain ⟨x0,x1,x2,x3,x4⟩:=four D4
 obtain ⟨f0,f1,f2,f3⟩:=fourF D4
 go_wp2_with fail
 clear x0 x1 x2 x3 x4 f0 f1 f2 f3
 replace D3:=far4 D3 (q:=w.heap.size+1+1+1+1) (by omega) (.bool ga) (.int .i64 gb) (.int .i64 gc) (.bool gd)
 replace D4:=lies.on_put (lies.on_put (lies.on_put (lies.on_put D4 0 (.bool ga)) 1 (.int .i64 gb)) 2 (.int .i64 gc)) 3 (.bool gd)
 replace DB:=set4 DB (g:=w.heap.size+1+1+1+1) (by omega) (.bool ga) (.int .i64 gb) (.int .i64 gc) (.bool gd)
 replace D4:lies.Lies ((((w3.setCell ⟨w.heap.size+1+1+1+1,0,none⟩ (.bool ga)).setCell ⟨w.heap.size+1+1+1+1,1,none⟩ (.int .i64 gb)).setCell ⟨w.heap.size+1+1+1+1,2,none⟩ (.int .i64 gc)).setCell ⟨w.heap.size+1+1+1+1,3,none⟩ (.bool gd)) (w.heap.size+1+1+1+1) 204 #[.bool ga,.int .i64 gb,.int .i64 gc,.bool gd]:=D4
 generalize (((w3.setCell ⟨w.heap.size+1+1+1+1,0,none⟩ (.bool ga)).setCell ⟨w.heap.size+1+1+1+1,1,none⟩ (.int .i64 gb)).setCell ⟨w.heap.size+1+1+1+1,2,none⟩ (.int .i64 gc)).setCell ⟨w.heap.size+1+1+1+1,3,none⟩ (.bool gd)=w4 at D3 D4 DB ⊢
 generalize hu:w.heap.size+1+1+1=u at D3 D4 ⊢
 have hS:∀ W,lies.Lies W u 204 #[.bool ea,.int .i64 eb,.int .i64 ec,.bool ed]→lies.Lies W (u+1) 204 #[.bool ga,.int .i64 gb,.int .i64 gc,.bool gd]→(W.cell? ⟨u,0,none⟩=some (.bool ea)∧W.cell? ⟨u,1,none⟩=some (.int .i64 eb)∧W.cell? ⟨u,2,none⟩=some (.int .i64 ec)∧W.cell? ⟨u,3,none⟩=some (.bool ed))∧W.cell? ⟨u+1,0,none⟩=some (.bool ga)∧W.cell? ⟨u+1,1,none⟩=some (.int .i64 gb)∧W.cell? ⟨u+1,2,none⟩=some (.int .i64 gc)∧W.cell? ⟨u+1,3,none⟩=some (.bool gd):=fun W h k=>
  ⟨⟨lies.cell h 0,lies.cell h 1,lies.cell h 2,lies.cell h 3⟩,lies.cell k 0,lies.cell k 1,lies.cell k 2,lies.cell k 3⟩
 have HS:=Lib.hid hS
 clear hS
 have P3:lies.Lies w4.drew u 204 #[.bool ea,.int .i64 eb,.int .i64 ec,.bool ed]:=D3
 have P4:lies.Lies w4.drew (u+1) 204 #[.bool ga,.int .i64 gb,.int .i64 gc,.bool gd]:=D4
 have PB:Below w.heap.size w w4.drew:=lies.frame_drew DB
 refine wp_region_held_drew (S:=fun W=>(W.cell? ⟨u,0,none⟩=some (.bool ea)∧W.cell? ⟨u,1,none⟩=some (.int .i64 eb)∧W.cell? ⟨u,2,none⟩=some (.int .i64 ec)∧W.cell? ⟨u,3,none⟩=some (.bool ed))∧W.cell? ⟨u+1,0,none⟩=some (.bool ga)∧W.cell? ⟨u+1,1,none⟩=some (.int .i64 gb)∧W.cell? ⟨u+1,2,none⟩=some (.int .i64 gc)∧W.cell? ⟨u+1,3,none⟩=some (.bool gd)) (by kernel_rfl) (HS.out _ P3 P4) (fun hHeld=>?_)
 refine tk 0 (v:=?_) rfl hHeld ?_ ?_
 rotate_left
 ·intro w hSw;obtain ⟨⟨s0,s1,s2,s3⟩,s4,s5,s6,s7⟩:=hSw;go_simp;try with_reducible rfl
 try simp only [Act.put,sA,sB,sC,sD,sE,sF]
 refine tk 1 (v:=?_) rfl hHeld ?_ ?_
 rotate_left
 ·intro w hSw;obtain ⟨⟨s0,s1,s2,s3⟩,s4,s5,s6,s7⟩:=hSw;go_simp;try with_reducible rfl
 try simp only [Act.put,sA,sB,sC,sD,sE,sF]
 clear D3 D4 DB
 generalize w4.drew=w5 at P3 P4 PB hHeld ⊢
 obtain ⟨x0,x1,x2,x3,x4⟩:=four P3
 obtain ⟨f0,f1,f2,f3⟩:=fourF P3
 refine wpAnyH_ready (rs:=[2]) (by kernel_rfl) (by simp) (AllReadyH.cons rfl (fun K hK=>?_) AllReadyH.nil)
 go_simp
 clear x0 x1 x2 x3 x4 f0 f1 f2 f3
 replace P3:=lies.on_put (lies.on_put (lies.on_put (lies.on_put P3 0 (.bool ea)) 1 (.int .i64 eb)) 2 (.int .i64 ec)) 3 (.bool ed)
 replace P4:=far4 P4 (q:=u) (by omega) (.bool ea) (.int .i64 eb) (.int .i64 ec) (.bool ed)
 replace PB:=set4 PB (g:=u) (by omega) (.bool ea) (.int .i64 eb) (.int .i64 ec) (.bool ed)
 replace P3:lies.Lies ((((w5.setCell ⟨u,0,none⟩ (.bool ea)).setCell ⟨u,1,none⟩ (.int .i64 eb)).setCell ⟨u,2,none⟩ (.int .i64 ec)).setCell ⟨u,3,none⟩ (.bool ed)) u 204 #[.bool ea,.int .i64 eb,.int .i64 ec,.bool ed]:=P3
 refine hK.out _ _ (HS.out _ P3 P4) (fun hNew=>?_)
 clear hHeld hK K
 have hHeld:=hNew
 clear hNew
 try simp only [Act.put,sA,sB,sC,sD,sE,sF]
 generalize (((w5.setCell ⟨u,0,none⟩ (.bool ea)).setCell ⟨u,1,none⟩ (.int .i64 eb)).setCell ⟨u,2,none⟩ (.int .i64 ec)).setCell ⟨u,3,none⟩ (.bool ed)=w6 at P3 P4 PB hHeld ⊢
 obtain ⟨x0,x1,x2,x3,x4⟩:=four P4
 obtain ⟨f0,f1,f2,f3⟩:=fourF P4
 refine wpAnyH_ready (rs:=[3]) (by kernel_rfl) (by simp) (AllReadyH.cons rfl (fun K hK=>?_) AllReadyH.nil)
 go_simp
 clear x0 x1 x2 x3 x4 f0 f1 f2 f3
 replace P4:=lies.on_put (lies.on_put (lies.on_put (lies.on_put P4 0 (.bool ga)) 1 (.int .i64 gb)) 2 (.int .i64 gc)) 3 (.bool gd)
 replace P3:=far4 P3 (q:=u+1) (by omega) (.bool ga) (.int .i64 gb) (.int .i64 gc) (.bool gd)
 replace PB:=set4 PB (g:=u+1) (by omega) (.bool ga) (.int .i64 gb) (.int .i64 gc) (.bool gd)
 replace P4:lies.Lies ((((w6.setCell ⟨u+1,0,none⟩ (.bool ga)).setCell ⟨u+1,1,none⟩ (.int .i64 gb)).setCell ⟨u+1,2,none⟩ (.int .i64 gc)).setCell ⟨u+1,3,none⟩ (.bool gd)) (u+1) 204 #[.bool ga,.int .i64 gb,.int .i64 gc,.bool gd]:=P4
 refine hK.out _ _ (HS.out _ P3 P4) (fun hNew=>?_)
 clear hK K hNew hHeld
 generalize (((w6.setCell ⟨u+1,0,none⟩ (.bool ga)).setCell ⟨u+1,1,none⟩ (.int .i64 gb)).setCell ⟨u+1,2,none⟩ (.int .i64 gc)).setCell ⟨u+1,3,none⟩ (.bool gd)=w7 at P3 P4 PB ⊢
 refine wpAnyH_done (by kernel_rfl) ?_ _
 obtain ⟨x0,x1,x2,x3,x4⟩:=four P3
 obtain ⟨y0,y1,y2,y3,y4⟩:=four P4
 go_wp2_with fail
 exact bodyPost_ret (v:=.tuple #[.agg #[.bool ea,.int .i64 eb,.int .i64 ec,.bool ed],.agg #[.bool ga,.int .i64 gb,.int .i64 gc,.bool gd]]) (by simp [results,Tryz.results177,go_sem,x0,x1,x2,x3,y0,y1,y2,y3]) rfl ⟨rfl,PB⟩
end Go.Proofs.YthmljpccbjolgaaGreatDoor.incl
namespace Go.Proofs.YthmljpccbjolgaaGreatDoor.incl
open Go.ChangeShapes Go.WideShapes Go.ChangeAt Go.RowKit num rat dbm way
open bound hiding up
set_option linter.unusedVariables false
set_option linter.unusedSimpArgs false
/-! what is known of the closed table of a matrix -/
section
variable {n:Nat} {ts:List Int} (h0:0<n) (hn:n≤4) (hl:ts.length=n*n) (htop:Tops ts) (h:OkD n ts)
include h0 hn hl htop h
theorem wts_closed:wts n (clT n ts)=F (beg n ts) n:=by
 have hne:∀ k,k≤n→¬ emp n (tabs n h0 ts k):=fun k hk=>h.2.2 k (by simpa using hk)
 rw [clT_nat h0]
 funext i j
 by_cases hij:i<n∧j<n
 ·rw [wts_in hij.1 hij.2]
  exact tabs_is h0 hn hl htop h.1.2.2.2 n (Nat.le_refl _) (fun m hm=>hne m (by omega)) i j hij.1 hij.2
 ·rw [←beg_closed h0 hn hl htop h]
  have e1:beg n (tabs n h0 ts n) i j=none:=if_neg hij
  have e2:wts n (tabs n h0 ts n) i j=none:=if_neg hij
  rw [e1,e2]
theorem clo_good:way.Good (beg n ts) n:=(okD_good h0 hn hl htop h.1).1 h
theorem clo_one (i:Nat) (hi:i<n):F (beg n ts) n i i=way.one:=by
 have hne:∀ k,k≤n→¬ emp n (tabs n h0 ts k):=fun k hk=>h.2.2 k (by simpa using hk)
 rw [←wts_closed h0 hn hl htop h,wts_in hi hi,clT_nat h0,closed_diag h0 hn hl htop h.1.2.2.2 hne hi]
 rfl
theorem clo_px {u:Nat} (hu:u<n):-6917529027641081880≤px (wts n (clT n ts)) u∧px (wts n (clT n ts)) u≤6917529027641081880:=by
 rw [wts_closed h0 hn hl htop h]
 have:=px_within hn (M:=288230376151711744) (by decide) (fun i j=>beg_wi hl hn h.1.2.2.2 i j) (fun i j hi=>wts_out hi) (fun i j hj=>wts_out2 hj) (clo_good h0 hn hl htop h) (clo_one h0 hn hl htop h) hu
 omega
theorem clo_wi {i j:Nat} (hi:i<n) {a:Int} (e:wts n (clT n ts) i j=some a):-1152921504606846976≤a / 2∧a / 2≤1152921504606846976:=by
 rw [wts_closed h0 hn hl htop h] at e
 have:=F_within1 (M:=288230376151711744) (by decide) (fun i j=>beg_wi hl hn h.1.2.2.2 i j) (clo_good h0 hn hl htop h) hi j
 rw [e] at this
 have h1:-(288230376151711744*(n:Int))≤a / 2:=this.1
 have h2:a / 2≤288230376151711744*(n:Int):=this.2
 omega
theorem clo_near {u:Nat} (hu:u<n):Near (px (wts n (clT n ts)) u):=by
 have:=clo_px h0 hn hl htop h hu
 exact ⟨⟨by omega,by omega⟩,.inr ⟨by omega,by omega⟩⟩
theorem clo_fit {s:Int} (hs:s=1∨s=-1) {i j k:Nat} (hi:i<n) (hj:j<n) (hk:k<3) (hkn:k<n):Fit s (px (wts n (clT n ts)) k) (tat (clT n ts) n i j):=by
 by_cases hz:tat (clT n ts) n i j=9223372036854775807
 ·exact .inl hz
 ·have e:wts n (clT n ts) i j=some (tat (clT n ts) n i j):=by rw [wts_in hi hj,cod_some hz]
  have h1:=clo_wi h0 hn hl htop h hi e
  have h2:=clo_px h0 hn hl htop h hkn
  have h3:=px_even (wts n (clT n ts)) hk
  generalize tat (clT n ts) n i j=z at hz h1 ⊢
  refine .inr ⟨⟨by omega,by omega⟩,⟨⟨by omega,by omega⟩,.inl h3⟩,?_⟩
  rcases hs with rfl | rfl
  ·exact ⟨⟨by omega,by omega⟩,.inl (by omega)⟩
  ·exact ⟨⟨by omega,by omega⟩,.inl (by omega)⟩
end
def rsOf (D:Tab) (k:Nat):List (Int × Int):=(xs D k).map fun X=>(p8 X,q8 X)
theorem rsOf_length (D:Tab) (k:Nat):(rsOf D k).length=k+1:=by unfold rsOf;rw [List.length_map,xs_length]
theorem rsOf_at (D:Tab) {k j:Nat} (h:j≤k):pr (rsOf D k) j=(p8 (px D j),q8 (px D j)):=by
 unfold pr rsOf
 rw [List.getElem?_map,←xs_at D k j h]
 have:j<(xs D k).length:=by rw [xs_length];omega
 rw [List.getElem?_eq_getElem this]
 rfl
theorem rsOf_up (D:Tab) (k:Nat):rsOf D (k+1)=rsOf D k++[(p8 (px D (k+1)),q8 (px D (k+1)))]:=by
 have e:xs D (k+1)=xs D k++[px D (k+1)]:=by
  have h1:xs D (k+1)=xs D k++[btw (endC (-1) (fun j=>(xs D k)[j]?.getD 0) (fun j=>D j (k+1)) (k+1)) (endC 1 (fun j=>(xs D k)[j]?.getD 0) (fun j=>D (k+1) j) (k+1))]:=rfl
  have h2:=xs_at D (k+1) (k+1) (Nat.le_refl _)
  rw [←h2]
  rw [h1,List.getElem?_append_right (by rw [xs_length];omega),xs_length]
  simp
 unfold rsOf
 rw [e,List.map_append]
 rfl
theorem flat_up1 (D:Tab) (k:Nat):flat (rsOf D (k+1))=flat (rsOf D k)++[.int .i64 (p8 (px D (k+1))),.int .i64 (q8 (px D (k+1)))]:=by
 rw [rsOf_up]
 simp [flat,List.flatMap_append]
theorem own_call {W X:World} {base n s:Nat} {t:TypeId} {v:Value} {xs:List Value} (h:W.ownsRow base t s v n xs) (k:Below W.heap.size W X):X.ownsRow base t s v n xs:=
 h.kept (row:=none) ⟨k.os,k.tape,k.output,k.size,fun i hi _=>k.block i hi⟩ (by cases v.ownBlock<;>simp)
theorem two_new {W:World} {g:Nat} {t:TypeId} {x y:Value} (h:lies.Lies W g t #[x,y]) (p:Nat) (u:Value) (hp:[x,y][p]?=some u):W.cell? ((⟨g,0,none⟩:Addr).add p)=some u:=by
 have:=lies.cell h p
 rcases p with _ | _ | p
 ·cases hp;exact this
 ·cases hp;exact this
 ·simp at hp
def Pi (n CB cg cc base:Nat) (us:List Int) (D:Tab) (k:Nat) (v:Value) (w W:World):Prop:=
 lies.Lies W CB 81 #[.int .i64 n,.slice (some ⟨cg,0,none⟩) (n*n) cc]∧lies.Lies W cg 25 (cellsOf us)∧Below w.heap.size w W∧W.ownsRow base 45 2 v (k+1) (flat (rsOf D k))∧base≤W.heap.size
theorem Pi.below {n CB cg cc base:Nat} {us:List Int} {D:Tab} {k:Nat} {v:Value} {w W X:World} (h:Pi n CB cg cc base us D k v w W) (q:Below W.heap.size W X):Pi n CB cg cc base us D k v w X:=
 ⟨lies.on_call h.1 q,lies.on_call h.2.1 q,h.2.2.1.trans (q.mono h.2.2.1.size),own_call h.2.2.2.1 q,Nat.le_trans h.2.2.2.2 q.size⟩
theorem Pi.push {n CB cg cc base:Nat} {us:List Int} {D:Tab} {k:Nat} {v v':Value} {w W W':World} {o:Obj} (h:Pi n CB cg cc base us D k v w W) (hwb:w.heap.size≤base) (hcb:CB<base) (hcg:cg<base)
  (hown:W'.ownsRow base 45 2 v' (k+1+1) (flat (rsOf D k)++[.int .i64 (p8 (px D (k+1))),.int .i64 (q8 (px D (k+1)))])) (hgrow:(W.alloc o).grownBy W' v.ownBlock):Pi n CB cg cc base us D (k+1) v' w W':=by
 obtain ⟨h1,h2,h3,h4,h5⟩:=h
 have hb:∀ q,v.ownBlock=some q→base≤q:=fun q e=>(h4.lt q e).1
 refine ⟨?_,?_,(lies.frame_up h3 o).grown hgrow (by have:=h3.size;simp;omega) (fun q e=>Nat.le_trans hwb (hb q e)),?_,?_⟩
 ·exact (World.grownBy.block hgrow CB (lies.lt (lies.on_alloc h1 o)) (fun e=>by have:=hb CB e.symm;omega)).trans (lies.on_alloc h1 o)
 ·exact (World.grownBy.block hgrow cg (lies.lt (lies.on_alloc h2 o)) (fun e=>by have:=hb cg e.symm;omega)).trans (lies.on_alloc h2 o)
 ·rw [flat_up1];exact hown
 ·have:=hgrow.size;simp at this;omega
theorem own_cap {W:World} {base g n cap s:Nat} {t:TypeId} {xs:List Value} (h:W.ownsRow base t s (.slice (some ⟨g,0,none⟩) n cap) n xs):n≤cap:=by
 rcases h.2 with ⟨h,_⟩ | ⟨g',cap',cur,h,_,_,k,_⟩
 ·cases h
 ·cases h;exact k
def pks (m:Nat) (ts:List Int):List (Int × Int):=(rsOf (wts m (clT m ts)) (m - 1)).drop 1
theorem pks_length (m:Nat) (ts:List Int):(pks m ts).length=m - 1:=by unfold pks;rw [List.length_drop,rsOf_length];omega
theorem pks_at (m:Nat) (ts:List Int) {j:Nat} (h:j<m - 1):pr (pks m ts) j=(p8 (px (wts m (clT m ts)) (j+1)),q8 (px (wts m (clT m ts)) (j+1))):=by
 rw [←rsOf_at (wts m (clT m ts)) (k:=m - 1) (j:=j+1) (by omega)]
 unfold pks pr
 rw [List.getElem?_drop,Nat.add_comm]
theorem pks_row {W:World} {g m:Nat} {ts:List Int} (h:RowR W g 0 (rsOf (wts m (clT m ts)) (m - 1))):RowR W g 2 (pks m ts):=fun j hj=>by
 rw [pks_length] at hj
 have:=h (j+1) (by rw [rsOf_length];omega)
 rw [rsOf_at _ (by omega)] at this
 rw [pks_at m ts hj]
 rw [show 0+(j+1)*2=2+j*2 by omega] at this
 exact this
def Pk (n:Int) (ts:List Int) (w:World) (e:Ending) (w':World):Prop:=Below w.heap.size w w'∧∃ (v:Value) (f:Int),e=.returned (.tuple #[v,.int .i64 f])∧
 ((¬ OkD n ts∧v=.slice none 0 0∧f=if MayD n ts then 6 else 8)∨(OkD n ts∧f=0∧∃ m:Nat,n=(m:Int)∧Rats w'.heap.size w' v (pks m ts)))
set_option maxRecDepth 100000 in
set_option maxHeartbeats 2000000 in
theorem pick_no (n:Int) (sv:Value) (ts:List Int) (w:World) (hI:law.Ints w.heap.size w sv ts) (hm:ts.length≤1000000) (htop:Tops ts) (h:¬ OkD n ts):
  Calls Tryz.prog 128 #[.agg #[.int .i64 n,sv]] w (Pk n ts w):=by
 have D0:=lies.made w 81 #[.int .i64 n,sv]
 have DB:=bound.up1 w (.cells #[.int .i64 n,sv] 81)
 have C:=Lib.hid (tight.close_g n sv ts _ ((hI.below DB).mono DB.size) hm htop)
 obtain ⟨ad,cap,rfl⟩:=ints_len hI
 have HN:=Lib.hid h
 clear hI htop h
 go_enter Tryz.func128,Tryz.ntmps128
 go_wp2_with fail
 refine C.out.mono ?_
 rintro e w1 ⟨hB,na,aa,la,ca,us,f,rfl,hA,hK⟩
 have hf:f≠0∧f=if MayD n ts then 6 else 8:=by
  rcases hA with ⟨_,rfl,rfl,rfl⟩ | ⟨k,_⟩
  ·exact ⟨by split<;>decide,rfl⟩
  ·exact (HN.out k).elim
 have t1:(f !=0)=true:=by simpa using hf.1
 have t2:(f==0)=false:=by simpa using hf.1
 replace DB:=later DB hB
 have HF:=Lib.hid hf
 clear hB hA hK D0 C hf
 go_wp2_with fail
 refine bodyPost_ret (v:=.tuple #[.slice none 0 0,.int .i64 f]) (by simp [results,Tryz.results128,go_sem]) rfl ⟨lies.frame_up DB _,_,f,rfl,.inl ⟨HN.out,rfl,HF.out.2⟩⟩
set_option maxRecDepth 100000 in
set_option maxHeartbeats 4000000 in
theorem pick_yes (n : Nat) (sv : Value) (ts : List Int) (w : World) (hI : law.Ints w.heap.size w sv ts) (hm : ts.length ≤ 1000000) (htop : Tops ts) (h : OkD n ts) (h0 : 0 < n) (hn : n ≤ 4) (hl : ts.length = n * n) :
    Calls Tryz.prog 128 #[.agg #[.int .i64 n, sv]] w (Pk n ts w) := by
  have hsq := sq_le hn
  have D0 := lies.made w 81 #[.int .i64 n, sv]
  have DB := bound.up1 w (.cells #[.int .i64 n, sv] 81)
  have C := Lib.hid (tight.close_g n sv ts _ ((hI.below DB).mono DB.size) hm htop)
  have hus : (clT n ts).length = n * n := (clT_length h).trans hl
  have hfits := fun (s : Int) (hs : s = 1 ∨ s = -1) (i j k : Nat) hi hj hk hkn => clo_fit h0 hn hl htop h (s := s) hs (i := i) (j := j) (k := k) hi hj hk hkn
  have hnears := fun (u : Nat) (hu : u < n) => clo_near h0 hn hl htop h hu
  obtain ⟨i0, hi, hz0, hz1, hz2⟩ := info_parts info_r
  have HIN := Lib.hid (And.intro hi (And.intro hz0 (And.intro hz1 hz2)))
  obtain ⟨ad, cap, rfl⟩ := ints_len hI
  have HOK := Lib.hid h
  have HUS := Lib.hid hus
  have HFI := Lib.hid hfits
  have HNE := Lib.hid hnears
  have HL := Lib.hid hl
  clear hI htop h hus hfits hnears hi hz0 hz1 hz2 hl
  go_enter Tryz.func128, Tryz.ntmps128
  go_wp2_with fail
  refine C.out.mono ?_
  rintro e w1 ⟨hB, na, aa, la, ca, us, f, rfl, hA, hK⟩
  have hA' : na = (n : Int) ∧ us = clT n ts ∧ f = 0 := by
    rcases hA with ⟨k, _⟩ | ⟨_, h1, h2, h3⟩
    · exact (k HOK.out).elim
    · exact ⟨h1, h2, h3⟩
  clear hA
  obtain ⟨e1, e2, e3⟩ := hA'
  subst e1
  subst e3
  subst e2
  obtain ⟨cg, hcg, rfl, rfl, hG⟩ : ∃ g, w.heap.size ≤ g ∧ aa = some ⟨g, 0, none⟩ ∧ la = n * n ∧ lies.Lies w1 g 25 (cellsOf (clT n ts)) := by
    rcases hK with ⟨_, _, _, k⟩ | ⟨g, h1, h2, h3, h4⟩
    · have := HUS.out; rw [k] at this; have : 0 < n * n := Nat.mul_pos h0 h0; simp at *; omega
    · exact ⟨g, by simp at h1; omega, h2, h3.trans HUS.out, h4⟩
  replace DB := later DB hB
  clear hB hK D0 C
  go_wp2_with fail
  have E0 := lies.made w1 81 #[.int .i64 n, .slice (some ⟨cg, 0, none⟩) (n * n) ca]
  have EG := lies.on_alloc hG (.cells #[.int .i64 n, .slice (some ⟨cg, 0, none⟩) (n * n) ca] 81)
  have EB := lies.frame_up DB (.cells #[.int .i64 n, .slice (some ⟨cg, 0, none⟩) (n * n) ca] 81)
  clear hG DB
  generalize w1.heap.size = CB at E0 ⊢
  generalize w1.alloc (.cells #[.int .i64 n, .slice (some ⟨cg, 0, none⟩) (n * n) ca] 81) = w2 at E0 EG EB ⊢
  refine (whole_is 0 w2).mono ?_
  rintro e w3 ⟨rfl, hB⟩
  replace E0 := lies.on_call E0 hB
  replace EG := lies.on_call EG hB
  replace EB := later EB hB
  clear hB
  obtain ⟨x0, x1, x2, x3, x4⟩ := lies.two E0
  go_wp2_with fail
  clear x0 x1 x2 x3 x4
  have hbase : w.heap.size ≤ w3.heap.size := EB.size
  have hcb := lies.lt E0
  have hcgb := lies.lt EG
  have P0 : Pi n CB cg ca w3.heap.size (clT n ts) (wts n (clT n ts)) 0 (.slice (some ⟨w3.heap.size, 0, none⟩) 1 1) w (w3.alloc (.cells #[.int .i64 0, .int .i64 1] 45)) :=
    ⟨lies.on_alloc E0 _, lies.on_alloc EG _, lies.frame_up EB _, by
      have := World.ownsRow_lit (base := w3.heap.size) (e := 45) (size := 2) w3 #[.int .i64 0, .int .i64 1] 1 (Nat.le_refl _) (by decide) rfl
      have e : flat (rsOf (wts n (clT n ts)) 0) = [.int .i64 0, .int .i64 1] := by
        show [Value.int .i64 (p8 0), Value.int .i64 (q8 0)] = _
        rw [eight_zero.1, eight_zero.2]
      rw [e]
      exact this, by simp⟩
  clear E0 EG EB
  generalize hbs : w3.heap.size = base at P0 hcb hcgb hbase ⊢
  generalize w3.alloc (.cells #[.int .i64 0, .int .i64 1] 45) = w4 at P0 ⊢
  clear hbs
  go_loopw [6, 7] (fun tv iv wr => ∃ k : Nat, k + 1 ≤ n ∧ iv = .int .i64 ((k + 1 : Nat) : Int) ∧ Pi n CB cg ca base (clT n ts) (wts n (clT n ts)) k tv w wr) (fun tv iv _ => n - (intOf iv).toNat)
  case atStart => exact ⟨0, by omega, rfl, P0⟩
  case round =>
    clear P0
    obtain ⟨k, hk, rfl, hA⟩ := hrel
    obtain ⟨g, gcap, rfl⟩ : ∃ g gcap, u6 = .slice (some ⟨g, 0, none⟩) (k + 1) gcap := by
      rcases Go.Joins.ownsRow_forms hA.2.2.2.1 with ⟨_, h⟩ | ⟨g, gcap, h⟩
      · omega
      · exact ⟨g, gcap, h⟩
    have hgl := (hA.2.2.2.1.lt g rfl).2
    by_cases hkn : k + 1 < n
    · have hup := px_succ (wts n (clT n ts)) k
      have hlo : ∀ j, j < k + 1 → Fit (-1) (px (wts n (clT n ts)) j) ((clT n ts)[j * n + (k + 1)]?.getD 0) := fun j hj => HFI.out (-1) (.inr rfl) j (k + 1) j (by omega) hkn (by omega) (by omega)
      have hhi : ∀ j, j < k + 1 → Fit 1 (px (wts n (clT n ts)) j) ((clT n ts)[(k + 1) * n + j]?.getD 0) := fun j hj => HFI.out 1 (.inl rfl) (k + 1) j j hkn (by omega) (by omega) (by omega)
      have elo : endC (-1) (px (wts n (clT n ts))) (fun j => cod ((clT n ts)[j * n + (k + 1)]?.getD 0)) (k + 1) = lowE (wts n (clT n ts)) (k + 1) := endC_same (k + 1) (fun _ _ => rfl) (fun j hj => (wts_in (by omega) hkn).symm)
      have ehi : endC 1 (px (wts n (clT n ts))) (fun j => cod ((clT n ts)[(k + 1) * n + j]?.getD 0)) (k + 1) = highE (wts n (clT n ts)) (k + 1) := endC_same (k + 1) (fun _ _ => rfl) (fun j hj => (wts_in hkn (by omega)).symm)
      have HE := Lib.hid (ends_is n (k + 1) cg 0 ca g 0 gcap (px (wts n (clT n ts))) (clT n ts) (rsOf (wts n (clT n ts)) k) wr hn hkn (row_of hA.2.1) (lies.lt hA.2.1) HUS.out (own_rowR hA.2.2.2.1) hgl (rsOf_length _ _) (fun j hj => rsOf_at _ (by omega)) hlo hhi)
      have nlo := endC_near (s := -1) (.inr rfl) (X := px (wts n (clT n ts))) (t := fun j => (clT n ts)[j * n + (k + 1)]?.getD 0) (k := k + 1) (fun j hj => (hlo j hj).imp id fun h => h.2.2) (k + 1) (Nat.le_refl _)
      have nhi := endC_near (s := 1) (.inl rfl) (X := px (wts n (clT n ts))) (t := fun j => (clT n ts)[(k + 1) * n + j]?.getD 0) (k := k + 1) (fun j hj => (hhi j hj).imp id fun h => h.2.2) (k + 1) (Nat.le_refl _)
      rw [elo] at nlo
      rw [ehi] at nhi
      have HE' := HE.out
      rw [elo, ehi] at HE'
      have hev : ∀ j, j < k + 1 → px (wts n (clT n ts)) j % (2 * 1) = 0 := fun j hj => px_even _ (by omega)
      have HB : ∀ W, Calls Tryz.prog 178 #[endV (-1) (lowE (wts n (clT n ts)) (k + 1)), endV 1 (highE (wts n (clT n ts)) (k + 1))] W fun e w' => e = .returned (.agg #[.int .i64 (p8 (px (wts n (clT n ts)) (k + 1))), .int .i64 (q8 (px (wts n (clT n ts)) (k + 1)))]) ∧ Below W.heap.size W w' := fun W => by
        have hn' := HNE.out (k + 1) hkn
        rw [hup] at hn' ⊢
        exact between_is nlo nhi hn' (fun l e hl he => ⟨end_dv (q := 1) (by decide) (by decide) hev hl, end_dv (q := 1) (by decide) (by decide) hev he⟩) W
      obtain ⟨ea, ed, eb, ec, _, eV⟩ := endL_four (-1) (lowE (wts n (clT n ts)) (k + 1))
      obtain ⟨ga, gd, gb, gc, _, gV⟩ := endL_four 1 (highE (wts n (clT n ts)) (k + 1))
      rw [eV, gV] at HE'
      simp only [eV, gV] at HB
      have HCE := Lib.hid HE'
      have HCB := Lib.hid HB
      have HPU := Lib.hid (fun (v' : Value) (W W' : World) (o : Obj) (h : Pi n CB cg ca base (clT n ts) (wts n (clT n ts)) k (.slice (some ⟨g, 0, none⟩) (k + 1) gcap) w W) h1 h2 => h.push (v' := v') (W' := W') (o := o) hbase hcb hcgb h1 h2)
      clear hup hlo hhi elo ehi HE nlo nhi HE' hev HB eV gV
      generalize p8 (px (wts n (clT n ts)) (k + 1)) = P at HCB HPU
      generalize q8 (px (wts n (clT n ts)) (k + 1)) = Q at HCB HPU
      obtain ⟨x0, x1, x2, x3, x4⟩ := lies.two hA.1
      go_wp2_with fail
      refine HCE.out.mono ?_
      rintro e w5 ⟨rfl, hB⟩
      have A5 := (hA.below hB).below (bound.up2 _ (.cells #[.bool ea, .int .i64 eb, .int .i64 ec, .bool ed] 204) (.cells #[.bool ga, .int .i64 gb, .int .i64 gc, .bool gd] 204))
      clear hB hA x0 x1 x2 x3 x4 HCE
      go_wp2_with fail
      generalize (w5.alloc (.cells #[.bool ea, .int .i64 eb, .int .i64 ec, .bool ed] 204)).alloc (.cells #[.bool ga, .int .i64 gb, .int .i64 gc, .bool gd] 204) = w6 at A5 ⊢
      refine (HCB.out w6).mono ?_
      rintro e w7 ⟨rfl, hB⟩
      have A7 := A5.below hB
      have O7 := A7.2.2.2.1.alloc (.cells #[.int .i64 P, .int .i64 Q] 45)
      have M7 := lies.made w7 45 #[.int .i64 P, .int .i64 Q]
      have hsb := A7.2.2.2.2
      clear hB A5 HCB
      go_wp2_with (at_builtin; refine wpList_append_own _ rfl (.tmp 33) (.tmp 37) 138 rfl base 45 i0 (.agg #[.int .i64 (0), .int .i64 (0)]) 2 16 Tryz.underlying138 HIN.out.1 HIN.out.2.1 HIN.out.2.2.1 HIN.out.2.2.2 rfl (by decide) _ _ _ rfl O7 ⟨w7.heap.size, 0, none⟩ 1 1 [.int .i64 P, .int .i64 Q] rfl rfl (two_new M7) (by simp [Value.oneCell']) (by unfold maxLen; omega) (by omega) (by simp; omega) ?_; intro v' w8 hown' hgrow _; have A8 := HPU.out v' w7 w8 _ A7 hown' hgrow)
      clear A7 O7 M7 hown' hgrow
      go_roundw
      case rel => exact ⟨k + 1, by omega, by go_num, A8⟩
      case measure => simp [intOf]; omega
    · have hnk : (n : Int) = ((k + 1 : Nat) : Int) := by omega
      have hnk2 : ¬ (((k + 1 : Nat) : Int) < (n : Int)) := by omega
      obtain ⟨x0, x1, x2, x3, x4⟩ := lies.two hA.1
      clear HFI HNE
      have HC := Lib.hid (own_cap hA.2.2.2.1)
      have hr : RowR wr g 2 (pks n ts) := pks_row (by have e : n - 1 = k := by omega
                                                      rw [e]; exact own_rowR hA.2.2.2.1)
      have HRR := Lib.hid hr
      have hKB := hA.2.2.1
      have e2 : k + 1 = n := by omega
      clear hA hr
      go_wp2_with fail
      · have hc := HC.out
        rename_i hg1
        have hn1 : n = 1 := by omega
        exact bodyPost_ret (v := .tuple #[.slice (some ⟨g, 0, none⟩) (n - 1) 0, .int .i64 0]) (by simp [results, Tryz.results128, go_sem]) rfl ⟨hKB, _, 0, rfl, .inr ⟨e2 ▸ HOK.out, rfl, n, by omega, .inl ⟨⟨some ⟨g, 0, none⟩, 0, by rw [show n - 1 = 0 by omega], fun _ => rfl⟩, List.eq_nil_of_length_eq_zero (by rw [pks_length]; omega)⟩⟩⟩
      · exact bodyPost_ret (v := .tuple #[.slice (some ⟨g, 2, none⟩) (n - 1) (gcap - 1), .int .i64 0]) (by simp [results, Tryz.results128, go_sem]) rfl ⟨hKB, _, 0, rfl, .inr ⟨e2 ▸ HOK.out, rfl, n, by omega, .inr ⟨g, 2, gcap - 1, by rw [pks_length], hgl, HRR.out⟩⟩⟩
theorem pick_any (n:Int) (sv:Value) (ts:List Int) (w:World) (hI:law.Ints w.heap.size w sv ts) (hm:ts.length≤1000000) (htop:Tops ts):
  Calls Tryz.prog 128 #[.agg #[.int .i64 n,sv]] w (Pk n ts w):=by
 by_cases h:OkD n ts
 ·obtain ⟨m,rfl,h0,hn,hl⟩:=may_nat h.1
  exact pick_yes m sv ts w hI hm htop h h0 hn hl
 ·exact pick_no n sv ts w hI hm htop h
end Go.Proofs.YthmljpccbjolgaaGreatDoor.incl
