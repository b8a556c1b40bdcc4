
/-
  Zones one behind the other, as tables of weights: what is composed, which two of three come first, the other way round, lesser ones; then Comp, Back and Firsts, each in one form; each theorem names its conditions.
-/
import Derived.Test.YthmljpccbjolgaaGreatDoorZoneA
import Derived.Test.YthmljpccbjolgaaGreatDoorProjA
import Derived.Test.YthmljpccbjolgaaGreatDoorZoneF
namespace Go.Proofs.YthmljpccbjolgaaGreatDoor.way
set_option linter.unusedVariables false
set_option linter.unusedSectionVars false
set_option linter.unusedSimpArgs false
def Cl (S:Nat→Prop) (G:Tab):Prop:=(∀ i j m,S i→S j→S m→le (G i j) (ad (G i m) (G m j)))∧∀ i,S i→G i i=one
def mns:List B→B
 | []=>none
 | x::l=>mn x (mns l)
def ext (L Z:Tab) (s:Nat) (ys:List Nat):Tab:=fun i j=>
 if i=s then (if j=s then one else mns (ys.map fun k=>ad (Z s k) (L k j))) else if j=s then mns (ys.map fun k=>ad (L i k) (Z k s)) else L i j
section
variable {L Z:Tab} {s:Nat} {ys:List Nat} {X:Nat→Prop} (hL:Cl X L) (hZ:Cl (fun i=>i ∈ ys∨i=s) Z) (hy:∀ k,k ∈ ys→X k) (hs:¬ X s) (hLZ:∀ k l,k ∈ ys→l ∈ ys→le (L k l) (Z k l))
include hL hZ hy hs hLZ
end
end Go.Proofs.YthmljpccbjolgaaGreatDoor.way
namespace Go.Proofs.YthmljpccbjolgaaGreatDoor.comp
open way num rat dbm Go.Proofs.YthmljpccbjolgaaGreatDoor.tight Go.Proofs.YthmljpccbjolgaaGreatDoor.incl Go.Proofs.YthmljpccbjolgaaGreatDoor.zone
open bound hiding up
open proj (sk sk_lt dropT dropT_length dropT_at cl_cod dropT_tops dropT_own drop_kept)
set_option linter.unusedVariables false
set_option linter.unusedSectionVars false
set_option linter.unusedSimpArgs false
def bothT (a b:List Int):List Int:=[1,a[1]?.getD 0,lsr (a[3]?.getD 0) (b[1]?.getD 0),b[3]?.getD 0,a[0]?.getD 0,1,a[5]?.getD 0,9223372036854775807,lsr (a[2]?.getD 0) (b[0]?.getD 0),a[4]?.getD 0,1,b[5]?.getD 0,b[2]?.getD 0,9223372036854775807,b[4]?.getD 0,1]
theorem both_all {P:Int→Prop} {a b:List Int} (ha:∀ i,i<6→P (a[i]?.getD 0)) (hb:∀ i,i<6→P (b[i]?.getD 0)) (h1:P 1) (h2:P 9223372036854775807):∀ p,p<16→P ((bothT a b)[p]?.getD 0):=by
 have hl:∀ x y,P x→P y→P (lsr x y):=fun x y hx hy=>by rcases lsr_is x y with e | e<;>rw [e]<;>assumption
 intro p hp
 rcases (by omega:p=0∨p=1∨p=2∨p=3∨p=4∨p=5∨p=6∨p=7∨p=8∨p=9∨p=10∨p=11∨p=12∨p=13∨p=14∨p=15) with rfl | rfl | rfl | rfl | rfl | rfl | rfl | rfl | rfl | rfl | rfl | rfl | rfl | rfl | rfl | rfl
 ·exact h1
 ·exact ha 1 (by decide)
 ·exact hl _ _ (ha 3 (by decide)) (hb 1 (by decide))
 ·exact hb 3 (by decide)
 ·exact ha 0 (by decide)
 ·exact h1
 ·exact ha 5 (by decide)
 ·exact h2
 ·exact hl _ _ (ha 2 (by decide)) (hb 0 (by decide))
 ·exact ha 4 (by decide)
 ·exact h1
 ·exact hb 5 (by decide)
 ·exact hb 2 (by decide)
 ·exact h2
 ·exact hb 4 (by decide)
 ·exact h1
theorem both_tops {a b:List Int} (ta:Tops a) (tb:Tops b):Tops (bothT a b):=tops_at fun p hp=>both_all (P:=fun x=>x≤9223372036854775807) (fun i _=>get_top ta i) (fun i _=>get_top tb i) (by decide) (by decide) p hp
theorem six_fine {a:List Int} (h:MayD 3 (fullT a)):∀ i,i<6→Fine (a[i]?.getD 0):=by
 intro i hi
 have f:=h.2.2.2
 rcases (by omega:i=0∨i=1∨i=2∨i=3∨i=4∨i=5) with rfl | rfl | rfl | rfl | rfl | rfl
 ·exact f 3 (show 3<9 by decide)
 ·exact f 1 (show 1<9 by decide)
 ·exact f 6 (show 6<9 by decide)
 ·exact f 2 (show 2<9 by decide)
 ·exact f 7 (show 7<9 by decide)
 ·exact f 5 (show 5<9 by decide)
theorem both_may {a b:List Int} (ha:MayD 3 (fullT a)) (hb:MayD 3 (fullT b)):MayD 4 (bothT a b):=
 ⟨by decide,by decide,rfl,both_all (six_fine ha) (six_fine hb) one_fine (.inl rfl)⟩
def zw (a:List Int):Tab:=fun i j=>cod (tat (fullT a) 3 i j)
def compT (a b:List Int):List Int:=shortT (dropT 4 2 (bothT a b))
section
variable {a b:List Int} (ta:Tops a) (tb:Tops b) (ha:MayD 3 (fullT a)) (hb:MayD 3 (fullT b))
include ta tb
theorem drop_tops (h:OkD 4 (bothT a b)):Tops (dropT 4 2 (bothT a b)):=dropT_tops (n:=4) (by decide) (by decide) rfl (both_tops ta tb) h
theorem comp_tops (h:OkD 4 (bothT a b)):Tops (compT a b):=short_tops (drop_tops ta tb h)
theorem comp_full (h:OkD 4 (bothT a b)):fullT (compT a b)=dropT 4 2 (bothT a b):=full_short (dropT_length 4 2 _) fun i hi=>by
 rw [dropT_at (n:=4) (by decide) (by decide) rfl (both_tops ta tb) h hi hi,show clT ((4:Nat):Int) (bothT a b)=tabs 4 (by decide) (bothT a b) 4 from clT_nat (m:=4) (by decide) _]
 exact closed_diag (by decide) (by decide) rfl (both_tops ta tb) h.1.2.2.2 (fun m hm=>h.2.2 m (by simpa using hm)) (sk_lt hi)
theorem comp_may (h:OkD 4 (bothT a b)) (hm:MayD 3 (dropT 4 2 (bothT a b))):MayZ (compT a b):=by
 unfold MayZ
 rw [comp_full ta tb h]
 exact dropT_own (n:=4) (by decide) (by decide) rfl (both_tops ta tb) h (by decide) hm
include ha hb
end
/-! which two of three come first -/
section
variable {a b c:List Int} (ta:Tops a) (tb:Tops b) (tc:Tops c) (ha:MayD 3 (fullT a)) (hb:MayD 3 (fullT b)) (hc:MayD 3 (fullT c))
 (hab:OkD 4 (bothT a b)) (hbc:OkD 4 (bothT b c)) (hx:MayD 3 (fullT (compT a b))) (hy:MayD 3 (fullT (compT b c)))
include ta tb tc ha hb hc hab hbc hx hy
end
/-! the other way round -/
theorem may_cl {a:List Int} (ta:Tops a) (h:MayZ a):Cl (fun i=>i<3) (zw a):=by
 have tt:=full_tops ta
 have g:way.Good (beg 3 (fullT a)) 3:=(okD_good (n:=3) (by decide) (by decide) rfl tt h.1.1).1 h.1
 have e:∀ i j,i<3→j<3→zw a i j=F (beg 3 (fullT a)) 3 i j:=fun i j hi hj=>by
  have:=cl_cod (n:=3) (by decide) (by decide) rfl tt h.1 hi hj
  rw [show clT ((3:Nat):Int) (fullT a)=fullT a from h.2] at this
  exact this
 refine ⟨fun i j m hi hj hm=>?_,fun i hi=>?_⟩
 ·rw [e i j hi hj,e i m hi hm,e m j hm hj];exact good_tri g m hm i j
 ·rw [e i i hi hi];exact clo_one (n:=3) (by decide) (by decide) rfl tt h.1 i hi
theorem cl_may {a:List Int} (ta:Tops a) (h:MayD 3 (fullT a)) (hc:Cl (fun i=>i<3) (zw a)):MayZ a:=
 own_closed (m:=3) (by decide) (by decide) rfl (full_tops ta) h (fun i hi=>by
  have:=hc.2 i hi
  rcases (by omega:i=0∨i=1∨i=2) with rfl | rfl | rfl<;>rfl) (fun i j l hi hj hl=>hc.1 i j l hi hj hl)
def CompR (a b z:List Int) (f:Int):Prop:=(¬ (MayZ a∧MayZ b)∧z=zero6∧f=8)∨(MayZ a∧MayZ b∧¬ OkD 4 (bothT a b)∧z=zero6∧f=6)∨(MayZ a∧MayZ b∧OkD 4 (bothT a b)∧¬ MayD 3 (fullT (compT a b))∧z=zero6∧f=8)∨(MayZ a∧MayZ b∧OkD 4 (bothT a b)∧MayZ (compT a b)∧z=compT a b∧f=0)
end Go.Proofs.YthmljpccbjolgaaGreatDoor.comp
namespace Go.Proofs.YthmljpccbjolgaaGreatDoor.comp
open Go.Joins Go.ChangeShapes Go.WideShapes Go.ChangeAt Go.RowKit num rat dbm Go.Proofs.YthmljpccbjolgaaGreatDoor.tight Go.Proofs.YthmljpccbjolgaaGreatDoor.plaw Go.Proofs.YthmljpccbjolgaaGreatDoor.zopen Go.Proofs.YthmljpccbjolgaaGreatDoor.zone
open bound hiding up
set_option linter.unusedVariables false
set_option linter.unusedSimpArgs false
def putK (z:List Int) (P:Nat→Nat) (us:List Int):Nat→List Int
 | 0=>us
 | k+1=>setT (putK z P us k) (P (k / 3)*4+P (k % 3)) ((fullT z)[k]?.getD 0)
theorem putK_length (z:List Int) (P:Nat→Nat) (us:List Int):∀ k,(putK z P us k).length=us.length
 | 0=>rfl
 | k+1=>by unfold putK;rw [setT_length];exact putK_length z P us k
theorem putK_up (z:List Int) (P:Nat→Nat) (us:List Int) {i j:Nat} (hj:j<3):putK z P us (3*i+(j+1))=setT (putK z P us (3*i+j)) (P i*4+P j) ((fullT z)[i*3+j]?.getD 0):=by
 have h:putK z P us (3*i+j+1)=setT (putK z P us (3*i+j)) (P ((3*i+j) / 3)*4+P ((3*i+j) % 3)) ((fullT z)[3*i+j]?.getD 0):=rfl
 rw [show i*3+j=3*i+j by omega,show 3*i+(j+1)=3*i+j+1 from rfl,h,show (3*i+j) / 3=i by omega,show (3*i+j) % 3=j by omega]
theorem index_three (z0 z1 z2:Int) (p:Nat) (hp:p<3) (W:World):(Instr.index 110 (.agg #[.int .i64 z0,.int .i64 z1,.int .i64 z2]) (.int .i64 p)).run Tryz.prog W=.ok (.int .i64 ([z0,z1,z2][p]?.getD 0)) W:=by
 rcases (by omega:p=0∨p=1∨p=2) with rfl | rfl | rfl<;>kernel_rfl
theorem wrap_in {x:Int} (h:-9223372036854775808≤x∧x≤9223372036854775807):wrap64 x=x:=by
 have:=IntWalk.i64_in x h
 rwa [IntWalk.i64_left] at this
theorem place4 {p q:Nat} (hp:p<4) (hq:q<4):wrap64 ((p:Int)*4)=(p:Int)*4∧wrap64 ((p:Int)*4+q)=(p:Int)*4+q∧0≤(p:Int)*4+q∧(p:Int)*4+q<16∧((p:Int)*4+q).toNat=p*4+q:=by
 refine ⟨wrap_in (by omega),wrap_in (by omega),by omega,by omega,by omega⟩
theorem place3 {p q:Nat} (hp:p<3) (hq:q<3):IntKind.i64.wrap ((p:Int)*3)=(p:Int)*3∧IntKind.i64.wrap ((p:Int)*3+q)=(p:Int)*3+q∧0≤(p:Int)*3+q∧(p:Int)*3+q<9∧((p:Int)*3+q).toNat=p*3+q:=by
 refine ⟨IntWalk.i64_in _ (by omega),IntWalk.i64_in _ (by omega),by omega,by omega,by omega⟩
def Cx (Z PD g M gm c:Nat) (pv:Array Value) (zs us:List Int) (w W:World):Prop:=
 lies.Lies W (Z+1) 110 pv∧lies.Lies W PD 81 #[.int .i64 4,.slice (some ⟨g,0,none⟩) 16 16]∧lies.Lies W M 81 #[.int .i64 3,.slice (some ⟨gm,0,none⟩) 9 c]∧lies.Lies W gm 25 (cellsOf zs)∧lies.Lies W g 25 (cellsOf us)∧w.grownBy W (some g)
theorem Cx.below {Z PD g M gm c:Nat} {pv:Array Value} {zs us:List Int} {w W X:World} (h:Cx Z PD g M gm c pv zs us w W) (k:Below W.heap.size W X):Cx Z PD g M gm c pv zs us w X:=
 ⟨lies.on_call h.1 k,lies.on_call h.2.1 k,lies.on_call h.2.2.1 k,lies.on_call h.2.2.2.1 k,lies.on_call h.2.2.2.2.1 k,grown_below h.2.2.2.2.2 k h.2.2.2.2.2.size⟩
theorem Cx.put {Z PD g M gm c:Nat} {pv:Array Value} {zs us:List Int} {w W:World} (h:Cx Z PD g M gm c pv zs us w W) (hZ:Z+1≠g) (hD:PD≠g) (hM:M≠g) (hm:gm≠g) (q:Nat) (x:Int):Cx Z PD g M gm c pv zs (us.set q x) w (W.setCell ⟨g,q,none⟩ (.int .i64 x)):=by
 have P:=lies.on_put h.2.2.2.2.1 q (.int .i64 x)
 rw [cells_set] at P
 exact ⟨lies.on_far h.1 q hZ _,lies.on_far h.2.1 q hD _,lies.on_far h.2.2.1 q hM _,lies.on_far h.2.2.2.1 q hm _,P,grown_set h.2.2.2.2.2 q _⟩
set_option maxRecDepth 100000 in
set_option maxHeartbeats 8000000 in
theorem put_any (z0 z1 z2 z3 z4 z5:Int) (p0 p1 p2 PD g:Nat) (us:List Int) (w:World) (hP:Pl w) (htop:Tops [z0,z1,z2,z3,z4,z5]) (hm:MayD 3 (fullT [z0,z1,z2,z3,z4,z5])) (h4:∀ i,i<3→[p0,p1,p2][i]?.getD 0<4)
  (hD:lies.Lies w PD 81 #[.int .i64 4,.slice (some ⟨g,0,none⟩) 16 16]) (hG:lies.Lies w g 25 (cellsOf us)) (hl:us.length=16):
  Calls Tryz.prog 94 #[.agg #[.int .i64 z0,.int .i64 z1,.int .i64 z2,.int .i64 z3,.int .i64 z4,.int .i64 z5],.agg #[.int .i64 (p0:Int),.int .i64 (p1:Int),.int .i64 (p2:Int)],.pointer (some ⟨PD,0,none⟩)] w (Turned g (putK [z0,z1,z2,z3,z4,z5] (fun i=>[p0,p1,p2][i]?.getD 0) us 9) w):=by
 have HT:=Lib.hid htop
 have HM:=Lib.hid hm
 have H4:=Lib.hid h4
 have HL:=Lib.hid hl
 have HIX:=Lib.hid (fun (i:Nat) (hi:i<3) (W:World)=>index_three p0 p1 p2 i hi W)
 have hPi:∀ i,i<3→[(p0:Int),p1,p2][i]?.getD 0=(([p0,p1,p2][i]?.getD 0:Nat):Int):=fun i hi=>by
  rcases (by omega:i=0∨i=1∨i=2) with rfl | rfl | rfl<;>rfl
 have HPI:=Lib.hid hPi
 have DB:=bound.up2 w (.cells #[.int .i64 z0,.int .i64 z1,.int .i64 z2,.int .i64 z3,.int .i64 z4,.int .i64 z5] 27) (.cells #[.int .i64 (p0:Int),.int .i64 (p1:Int),.int .i64 (p2:Int)] 110)
 have D0:=lies.on_alloc (lies.made w 27 #[.int .i64 z0,.int .i64 z1,.int .i64 z2,.int .i64 z3,.int .i64 z4,.int .i64 z5]) (.cells #[.int .i64 (p0:Int),.int .i64 (p1:Int),.int .i64 (p2:Int)] 110)
 have D1:=lies.made_at (w.alloc (.cells #[.int .i64 z0,.int .i64 z1,.int .i64 z2,.int .i64 z3,.int .i64 z4,.int .i64 z5] 27)) 110 #[.int .i64 (p0:Int),.int .i64 (p1:Int),.int .i64 (p2:Int)] (w.heap.size+1) (by simp)
 have P0:=hP.on DB
 have hgw:=lies.lt hG
 have hDw:=lies.lt hD
 have hDg:=ne_type hG hD (by decide)
 replace hD:=lies.on_call hD DB
 replace hG:=lies.on_call hG DB
 have GB:w.grownBy ((w.alloc (.cells #[.int .i64 z0,.int .i64 z1,.int .i64 z2,.int .i64 z3,.int .i64 z4,.int .i64 z5] 27)).alloc (.cells #[.int .i64 (p0:Int),.int .i64 (p1:Int),.int .i64 (p2:Int)] 110)) (some g):=grown_below (grown_refl w _) DB (Nat.le_refl _)
 clear hP htop hm h4 hl DB hPi
 go_enter Tryz.func94,Tryz.ntmps94
 obtain ⟨⟨e0,e1,e2,e3,e4,e5⟩,ef⟩:=six_cells D0
 clear ef
 have el:=lies.lt D0
 go_wp2_with fail
 clear e0 e1 e2 e3 e4 e5 el D0
 generalize ((w.alloc (.cells #[.int .i64 z0,.int .i64 z1,.int .i64 z2,.int .i64 z3,.int .i64 z4,.int .i64 z5] 27)).alloc (.cells #[.int .i64 (p0:Int),.int .i64 (p1:Int),.int .i64 (p2:Int)] 110))=w1 at D1 P0 hD hG GB ⊢
 refine (matrix_any z0 z1 z2 z3 z4 z5 w1 P0 HT.out).mono ?_
 rintro e w2 ⟨hB,na,aa,la,ca,zs,f,rfl,hR,hK⟩
 obtain ⟨rfl,rfl,rfl⟩:na=3∧zs=fullT [z0,z1,z2,z3,z4,z5]∧f=0:=by
  rcases hR with ⟨_,h1,h2,h3⟩ | ⟨n,_⟩
  ·exact ⟨h1,h2,h3⟩
  ·exact (n HM.out).elim
 obtain ⟨gm,hgm,rfl,rfl,hGM⟩:∃ gm,w1.heap.size≤gm∧aa=some ⟨gm,0,none⟩∧la=9∧lies.Lies w2 gm 25 (cellsOf (fullT [z0,z1,z2,z3,z4,z5])):=by
  rcases hK with ⟨_,_,_,h⟩ | ⟨gm,h1,h2,h3,h4⟩
  ·cases h
  ·exact ⟨gm,h1,h2,h3,h4⟩
 clear hR hK P0
 have hgg:gm≠g:=by have:=GB.size;omega
 replace D1:=lies.on_call D1 hB
 replace hD:=lies.on_call hD hB
 replace hG:=lies.on_call hG hB
 replace GB:=grown_below GB hB GB.size
 clear hB hgm
 have c0:=lies.cell D1 0
 have c1:=lies.cell D1 1
 have c2:=lies.cell D1 2
 have cl:=lies.lt D1
 have A0:Cx w.heap.size PD g w2.heap.size gm ca #[.int .i64 (p0:Int),.int .i64 (p1:Int),.int .i64 (p2:Int)] (fullT [z0,z1,z2,z3,z4,z5]) (putK [z0,z1,z2,z3,z4,z5] (fun i=>[p0,p1,p2][i]?.getD 0) us (3*0)) w (w2.alloc (.cells #[.int .i64 3,.slice (some ⟨gm,0,none⟩) 9 ca] 81)):=
  ⟨lies.on_alloc D1 _,lies.on_alloc hD _,lies.made _ _ _,lies.on_alloc hGM _,lies.on_alloc hG _,grown_below GB (bound.up1 w2 _) GB.size⟩
 have hMg:w2.heap.size≠g:=by have:=GB.size;omega
 have hZg:w.heap.size+1≠g:=by omega
 clear D1 hD hGM hG GB
 go_wp2_with fail
 clear c0 c1 c2 cl
 generalize w2.heap.size=M at A0 hMg ⊢
 generalize w2.alloc (.cells #[.int .i64 3,.slice (some ⟨gm,0,none⟩) 9 ca] 81)=w3 at A0 ⊢
 generalize hZ:w.heap.size=Z at A0 hZg ⊢
 clear hZ hgw hDw
 go_loopw [18] (fun i wr=>∃ p:Nat,p≤3∧i=.int .i64 p∧Cx Z PD g M gm ca #[.int .i64 (p0:Int),.int .i64 (p1:Int),.int .i64 (p2:Int)] (fullT [z0,z1,z2,z3,z4,z5]) (putK [z0,z1,z2,z3,z4,z5] (fun i=>[p0,p1,p2][i]?.getD 0) us (3*p)) w wr) (fun i _=>3 - (intOf i).toNat)
 case atStart=>exact ⟨0,Nat.zero_le _,rfl,A0⟩
 case round=>
  clear A0
  obtain ⟨p,hp,rfl,hA⟩:=hrel
  by_cases hp3:p<3
  ·have hix:=HIX.out p hp3 wr
   rw [HPI.out p hp3] at hix
   have hP4:=H4.out p hp3
   have HPP:=Lib.hid (show ∀ i,i=p→[p0,p1,p2][i]?.getD 0=[p0,p1,p2][p]?.getD 0 from fun i e=>by rw [e])
   generalize [p0,p1,p2][p]?.getD 0=pp at hix hP4 HPP
   have c0:=lies.cell hA.1 0
   have c1:=lies.cell hA.1 1
   have c2:=lies.cell hA.1 2
   have cl:=lies.lt hA.1
   go_wp2_with fail
   clear c0 c1 c2 cl hix
   have hpi:(p:Int)<3:=by omega
   simp only [hpi,decide_true]
   go_loopw [23] (fun j wr=>∃ q:Nat,q≤3∧j=.int .i64 q∧Cx Z PD g M gm ca #[.int .i64 (p0:Int),.int .i64 (p1:Int),.int .i64 (p2:Int)] (fullT [z0,z1,z2,z3,z4,z5]) (putK [z0,z1,z2,z3,z4,z5] (fun i=>[p0,p1,p2][i]?.getD 0) us (3*p+q)) w wr) (fun j _=>3 - (intOf j).toNat)
   case atStart=>exact ⟨0,Nat.zero_le _,rfl,hA⟩
   case round=>
    clear hA
    obtain ⟨q,hq,rfl,hA⟩:=hrel
    by_cases hq3:q<3
    ·have hix:=HIX.out q hq3 wr
     rw [HPI.out q hq3] at hix
     have hQ4:=H4.out q hq3
     have hup:=putK_up [z0,z1,z2,z3,z4,z5] (fun i=>[p0,p1,p2][i]?.getD 0) us (i:=p) hq3
     rw [HPP.out p rfl] at hup
     have hln:=(putK_length [z0,z1,z2,z3,z4,z5] (fun i=>[p0,p1,p2][i]?.getD 0) us (3*p+q)).trans HL.out
     generalize [p0,p1,p2][q]?.getD 0=qq at hix hQ4 hup
     generalize putK [z0,z1,z2,z3,z4,z5] (fun i=>[p0,p1,p2][i]?.getD 0) us (3*p+q)=vs at hA hup hln
     have h16:pp*4+qq<16:=by omega
     have h9:p*3+q<9:=by omega
     have hx:=fun W (k:Cx Z PD g M gm ca #[.int .i64 (p0:Int),.int .i64 (p1:Int),.int .i64 (p2:Int)] (fullT [z0,z1,z2,z3,z4,z5]) vs w W)=>(lies.cell k.2.2.2.1 (p*3+q)).trans (cells_at (fullT [z0,z1,z2,z3,z4,z5]) (p*3+q) h9)
     have hx2:=fun vs W (k:Cx Z PD g M gm ca #[.int .i64 (p0:Int),.int .i64 (p1:Int),.int .i64 (p2:Int)] (fullT [z0,z1,z2,z3,z4,z5]) vs w W)=>(lies.cell k.2.2.2.1 (p*3+q)).trans (cells_at (fullT [z0,z1,z2,z3,z4,z5]) (p*3+q) h9)
     clear hx
     unfold setT at hup
     generalize (fullT [z0,z1,z2,z3,z4,z5])[p*3+q]?.getD 0=x at hup hx2
     have hz:=(lies.cell hA.2.2.2.2.1 (pp*4+qq)).trans (cells_at vs (pp*4+qq) (by omega))
     generalize vs[pp*4+qq]?.getD 0=y at hup hz
     have hf:=lies.free hA.2.2.2.2.1 (pp*4+qq)
     have HUP:=Lib.hid hup
     have HLN:=Lib.hid hln
     have HX:=Lib.hid hx2
     clear hup hln hx2
     obtain ⟨d0,d1,d2,d3,d4⟩:=lies.two hA.2.1
     obtain ⟨y1,y2,y3,y4,y5⟩:=place4 hP4 hQ4
     go_wp2_with fail
     clear d0 d1 d2 d3 d4 hix
     have hgl:=lies.lt hA.2.2.2.2.1
     have S0:∀ vs W,Cx Z PD g M gm ca #[.int .i64 (p0:Int),.int .i64 (p1:Int),.int .i64 (p2:Int)] (fullT [z0,z1,z2,z3,z4,z5]) vs w W→W.cell? ⟨PD,1,none⟩=some (.slice (some ⟨g,0,none⟩) 16 16)∧W.cell? ⟨M,0,none⟩=some (.int .i64 3)∧W.cell? ⟨M,1,none⟩=some (.slice (some ⟨gm,0,none⟩) 9 ca)∧W.cell? ⟨gm,p*3+q,none⟩=some (.int .i64 x):=fun vs W k=>⟨(lies.pair k.2.1).2,(lies.pair k.2.2.1).1,(lies.pair k.2.2.1).2,HX.out vs W k⟩
     have HS0:=Lib.hid S0
     have hs3:=S0 _ _ (hA.below (dbm.drawn1 (Below.refl wr.heap.size wr)))
     clear S0
     refine wp_region_held_drew (S:=fun W=>W.cell? ⟨PD,1,none⟩=some (.slice (some ⟨g,0,none⟩) 16 16)∧W.cell? ⟨M,0,none⟩=some (.int .i64 3)∧W.cell? ⟨M,1,none⟩=some (.slice (some ⟨gm,0,none⟩) 9 ca)∧W.cell? ⟨gm,p*3+q,none⟩=some (.int .i64 x)) (by kernel_rfl) hs3 (fun hHeld=>?_)
     clear hs3
     obtain ⟨x1,x2,x3,x4,x5⟩:=place3 hp3 hq3
     refine tk 0 (v:=?_) rfl hHeld ?_ ?_
     rotate_left
     ·intro w hSw;obtain ⟨s1,s2,s3,s4⟩:=hSw;go_simp;try with_reducible rfl
     try simp only [Act.put,sA,sB,sC,sD,sE,sF]
     refine tk 1 (v:=?_) rfl hHeld ?_ ?_
     rotate_left
     ·intro w hSw;obtain ⟨s1,s2,s3,s4⟩:=hSw;go_simp;try with_reducible rfl
     try simp only [Act.put,sA,sB,sC,sD,sE,sF]
     refine tk 2 (v:=?_) rfl hHeld ?_ ?_
     rotate_left
     ·intro w hSw;obtain ⟨s1,s2,s3,s4⟩:=hSw;go_simp;try with_reducible rfl
     try simp only [Act.put,sA,sB,sC,sD,sE,sF]
     refine tk 3 (v:=?_) rfl hHeld ?_ ?_
     rotate_left
     ·intro w hSw;obtain ⟨s1,s2,s3,s4⟩:=hSw;go_simp;try with_reducible rfl
     try simp only [Act.put,sA,sB,sC,sD,sE,sF]
     refine tk 4 (v:=?_) rfl hHeld ?_ ?_
     rotate_left
     ·intro w hSw;obtain ⟨s1,s2,s3,s4⟩:=hSw;go_simp;try with_reducible rfl
     try simp only [Act.put,sA,sB,sC,sD,sE,sF]
     refine tk 5 (v:=?_) rfl hHeld ?_ ?_
     rotate_left
     ·intro w hSw;obtain ⟨s1,s2,s3,s4⟩:=hSw;go_simp;try with_reducible rfl
     try simp only [Act.put,sA,sB,sC,sD,sE,sF]
     refine tk 6 (v:=?_) rfl hHeld ?_ ?_
     rotate_left
     ·intro w hSw;obtain ⟨s1,s2,s3,s4⟩:=hSw;go_simp;try with_reducible rfl
     try simp only [Act.put,sA,sB,sC,sD,sE,sF]
     refine tk 8 (v:=?_) rfl hHeld ?_ ?_
     rotate_left
     ·intro w hSw;obtain ⟨s1,s2,s3,s4⟩:=hSw;go_simp;try with_reducible rfl
     try simp only [Act.put,sA,sB,sC,sD,sE,sF]
     refine tk 9 (v:=?_) rfl hHeld ?_ ?_
     rotate_left
     ·intro w hSw;obtain ⟨s1,s2,s3,s4⟩:=hSw;go_simp;try with_reducible rfl
     try simp only [Act.put,sA,sB,sC,sD,sE,sF]
     refine tk 10 (v:=?_) rfl hHeld ?_ ?_
     rotate_left
     ·intro w hSw;obtain ⟨s1,s2,s3,s4⟩:=hSw;go_simp;try with_reducible rfl
     try simp only [Act.put,sA,sB,sC,sD,sE,sF]
     refine tk 11 (v:=?_) rfl hHeld ?_ ?_
     rotate_left
     ·intro w hSw;obtain ⟨s1,s2,s3,s4⟩:=hSw;go_simp;try with_reducible rfl
     try simp only [Act.put,sA,sB,sC,sD,sE,sF]
     refine tk 12 (v:=?_) rfl hHeld ?_ ?_
     rotate_left
     ·intro w hSw;obtain ⟨s1,s2,s3,s4⟩:=hSw;go_simp;try with_reducible rfl
     try simp only [Act.put,sA,sB,sC,sD,sE,sF]
     refine tk 13 (v:=?_) rfl hHeld ?_ ?_
     rotate_left
     ·intro w hSw;obtain ⟨s1,s2,s3,s4⟩:=hSw;go_simp;try with_reducible rfl
     try simp only [Act.put,sA,sB,sC,sD,sE,sF]
     refine tk 14 (v:=?_) rfl hHeld ?_ ?_
     rotate_left
     ·intro w hSw;obtain ⟨s1,s2,s3,s4⟩:=hSw;go_simp;try with_reducible rfl
     try simp only [Act.put,sA,sB,sC,sD,sE,sF]
     refine tk 15 (v:=?_) rfl hHeld ?_ ?_
     rotate_left
     ·intro w hSw;obtain ⟨s1,s2,s3,s4⟩:=hSw;go_simp;try with_reducible rfl
     try simp only [Act.put,sA,sB,sC,sD,sE,sF]
     refine tk 16 (v:=?_) rfl hHeld ?_ ?_
     rotate_left
     ·intro w hSw;obtain ⟨s1,s2,s3,s4⟩:=hSw;go_simp;try with_reducible rfl
     try simp only [Act.put,sA,sB,sC,sD,sE,sF]
     refine tk 17 (v:=?_) rfl hHeld ?_ ?_
     rotate_left
     ·intro w hSw;obtain ⟨s1,s2,s3,s4⟩:=hSw;go_simp;try with_reducible rfl
     try simp only [Act.put,sA,sB,sC,sD,sE,sF]
     refine wpAnyH_ready (rs:=[7]) (by kernel_rfl) (by simp) (AllReadyH.cons rfl (fun K hK=>?_) AllReadyH.nil)
     go_simp
     refine hK.out _ _ (HS0.out _ _ (hA.below (dbm.drawn1 (Below.refl wr.heap.size wr)))) (fun hNew=>?_)
     clear hHeld hK K
     have hHeld:=hNew
     clear hNew
     try simp only [Act.put,sA,sB,sC,sD,sE,sF]
     refine wpAnyH_ready (rs:=[18]) (by kernel_rfl) (by simp) (AllReadyH.cons rfl (fun K hK=>?_) AllReadyH.nil)
     go_simp
     refine hK.out _ _ (HS0.out _ _ (hA.below (dbm.drawn1 (Below.refl wr.heap.size wr)))) (fun hNew=>?_)
     clear hHeld hK K
     have hHeld:=hNew
     clear hNew
     try simp only [Act.put,sA,sB,sC,sD,sE,sF]
     refine tk 19 (v:=?_) rfl hHeld ?_ ?_
     rotate_left
     ·intro w hSw;obtain ⟨s1,s2,s3,s4⟩:=hSw;go_simp;try with_reducible rfl
     try simp only [Act.put,sA,sB,sC,sD,sE,sF]
     refine wpAnyH_ready (rs:=[20]) (by kernel_rfl) (by simp) (AllReadyH.cons rfl (fun K hK=>?_) AllReadyH.nil)
     go_simp
     first | rw [min_lsr y x] | rw [if_lsr y x]
     have A4:=(hA.put hZg hDg.symm hMg hgg (pp*4+qq) (lsr y x)).below (dbm.drawn1 (Below.refl _ _))
     refine hK.out _ _ (HS0.out _ _ A4) (fun hNew=>?_)
     clear hHeld hK K hNew HS0 hz hf hA x1 x2 x3 x4 x5 y1 y2 y3 y4 y5
     refine wpAnyH_done (by kernel_rfl) ?_ _
     generalize (wr.setCell ⟨g,pp*4+qq,none⟩ (.int .i64 (lsr y x))).drew=w6 at A4 ⊢
     go_wp2_with fail
     go_roundw
     case rel=>exact ⟨q+1,by omega,by go_num,by rw [HUP.out];exact A4⟩
     case measure=>simp [intOf];omega
    ·obtain rfl:q=3:=by omega
     go_wp2_with fail
     go_roundw
     case rel=>exact ⟨p+1,by omega,by go_num,hA⟩
     case measure=>simp [intOf];omega
  ·obtain rfl:p=3:=by omega
   go_wp2_with fail
   go_end0
   exact ⟨rfl,hA.2.2.2.2.1,hA.2.2.2.2.2⟩
end Go.Proofs.YthmljpccbjolgaaGreatDoor.comp
namespace Go.Proofs.YthmljpccbjolgaaGreatDoor.comp
open Go.Joins Go.ChangeShapes Go.WideShapes Go.ChangeAt Go.RowKit num rat dbm Go.Proofs.YthmljpccbjolgaaGreatDoor.tight Go.Proofs.YthmljpccbjolgaaGreatDoor.plaw Go.Proofs.YthmljpccbjolgaaGreatDoor.zopen Go.Proofs.YthmljpccbjolgaaGreatDoor.zone
open bound hiding up
open proj (dropT dropT_own drop_any Gv DropR Kc No)
set_option linter.unusedVariables false
set_option linter.unusedSimpArgs false
def top4:List Int:=[1,9223372036854775807,9223372036854775807,9223372036854775807,9223372036854775807,1,9223372036854775807,9223372036854775807,9223372036854775807,9223372036854775807,1,9223372036854775807,9223372036854775807,9223372036854775807,9223372036854775807,1]
theorem top4_is (w:World):Calls Tryz.prog 93 #[.int .i64 4] w fun e w'=>Below w.heap.size w w'∧∃ g,w.heap.size≤g∧e=.returned (.tuple #[.agg #[.int .i64 4,.slice (some ⟨g,0,none⟩) 16 16],.int .i64 0])∧lies.Lies w' g 25 (cellsOf top4):=by
 refine (top_ok 4 w (by decide) (by decide)).mono fun e w' h=>?_
 obtain ⟨hB,g,hg,he,hL⟩:=h
 have e1:topT 4 (by decide)=top4:=by decide+kernel
 rw [e1] at hL
 exact ⟨hB,g,hg,he,hL⟩
theorem put_both {a b:List Int} (la:a.length=6) (lb:b.length=6) (ta:Tops a) (tb:Tops b):putK b (fun i=>[0,2,3][i]?.getD 0) (putK a (fun i=>[0,1,2][i]?.getD 0) top4 9) 9=bothT a b:=by
 have ha:=fun i=>get_top ta i
 have hb:=fun i=>get_top tb i
 obtain ⟨a0,a1,a2,a3,a4,a5,rfl⟩:=six la
 obtain ⟨b0,b1,b2,b3,b4,b5,rfl⟩:=six lb
 have p0:a0≤9223372036854775807:=ha 0
 have p1:a1≤9223372036854775807:=ha 1
 have p2:a2≤9223372036854775807:=ha 2
 have p3:a3≤9223372036854775807:=ha 3
 have p4:a4≤9223372036854775807:=ha 4
 have p5:a5≤9223372036854775807:=ha 5
 have q0:b0≤9223372036854775807:=hb 0
 have q1:b1≤9223372036854775807:=hb 1
 have q2:b2≤9223372036854775807:=hb 2
 have q3:b3≤9223372036854775807:=hb 3
 have q4:b4≤9223372036854775807:=hb 4
 have q5:b5≤9223372036854775807:=hb 5
 simp [putK,setT,fullT,top4,bothT,lsr_self,lsr_of p0,lsr_of p1,lsr_of p2,lsr_of p3,lsr_of p4,lsr_of p5,lsr_of q0,lsr_of q1,lsr_of q2,lsr_of q3,lsr_of q4,lsr_of q5]
theorem pl_grown {W X:World} {g:Nat} (h:Pl W) (k:W.grownBy X (some g)) (hg:1<g):Pl X:=by
 have hne:some (1:Nat)≠some g:=fun e=>by injection e with e;omega
 exact ⟨Nat.lt_of_lt_of_le h.1 k.size,World.grownBy.cell k h.2.1 hne,World.grownBy.cell k h.2.2.1 hne,World.grownBy.cell k h.2.2.2.1 hne,World.grownBy.cell k h.2.2.2.2.1 hne,World.grownBy.cell k h.2.2.2.2.2.1 hne,World.grownBy.cell k h.2.2.2.2.2.2 hne⟩
def Comps (a b:List Int) (w:World) (e:Ending) (w':World):Prop:=Below w.heap.size w w'∧∃ z0 z1 z2 z3 z4 z5 f,e=.returned (.tuple #[.agg #[.int .i64 z0,.int .i64 z1,.int .i64 z2,.int .i64 z3,.int .i64 z4,.int .i64 z5],.int .i64 f])∧CompR a b [z0,z1,z2,z3,z4,z5] f
set_option maxRecDepth 100000 in
set_option maxHeartbeats 8000000 in
theorem comp_any (a0 a1 a2 a3 a4 a5 b0 b1 b2 b3 b4 b5:Int) (w:World) (hP:Pl w) (ta:Tops [a0,a1,a2,a3,a4,a5]) (tb:Tops [b0,b1,b2,b3,b4,b5]):
  Calls Tryz.prog 51 #[.agg #[.int .i64 a0,.int .i64 a1,.int .i64 a2,.int .i64 a3,.int .i64 a4,.int .i64 a5],.agg #[.int .i64 b0,.int .i64 b1,.int .i64 b2,.int .i64 b3,.int .i64 b4,.int .i64 b5]] w (Comps [a0,a1,a2,a3,a4,a5] [b0,b1,b2,b3,b4,b5] w):=by
 have X:∃ w0,w0=((w.alloc (.cells #[.int .i64 a0,.int .i64 a1,.int .i64 a2,.int .i64 a3,.int .i64 a4,.int .i64 a5] 27)).alloc (.cells #[.int .i64 b0,.int .i64 b1,.int .i64 b2,.int .i64 b3,.int .i64 b4,.int .i64 b5] 27)).alloc (.cells #[.int .i64 0,.int .i64 0,.int .i64 0,.int .i64 0,.int .i64 0,.int .i64 0] 27):=⟨_,rfl⟩
 obtain ⟨w0,hX⟩:=X
 have DB:Below w.heap.size w w0:=by rw [hX];exact bound.up3 _ _ _ _
 have D0:lies.Lies w0 w.heap.size 27 #[.int .i64 a0,.int .i64 a1,.int .i64 a2,.int .i64 a3,.int .i64 a4,.int .i64 a5]:=by rw [hX];exact lies.on_alloc (lies.on_alloc (lies.made _ _ _) _) _
 have D1:lies.Lies w0 (w.heap.size+1) 27 #[.int .i64 b0,.int .i64 b1,.int .i64 b2,.int .i64 b3,.int .i64 b4,.int .i64 b5]:=by rw [hX];exact lies.on_alloc (lies.made_at _ _ _ _ (by simp)) _
 have D2:lies.Lies w0 (w.heap.size+1+1) 27 #[.int .i64 0,.int .i64 0,.int .i64 0,.int .i64 0,.int .i64 0,.int .i64 0]:=by rw [hX];exact lies.made_at _ _ _ _ (by simp)
 have P0:=hP.on DB
 have HTA:=Lib.hid ta
 have HTB:=Lib.hid tb
 have hR:w.heap.size≤w.heap.size+1+1:=by omega
 clear hP ta tb
 go_enter Tryz.func51,Tryz.ntmps51
 obtain ⟨⟨e0,e1,e2,e3,e4,e5⟩,-⟩:=six_cells D0
 have el:=lies.lt D0
 go_wp2_with fail
 clear e0 e1 e2 e3 e4 e5 el
 rw [←hX]
 clear hX
 refine (zone.check_any a0 a1 a2 a3 a4 a5 w0 P0 HTA.out).mono ?_
 rintro e w1 ⟨hB,f,rfl,hc⟩
 replace D0:=lies.on_call D0 hB
 replace D1:=lies.on_call D1 hB
 replace D2:=lies.on_call D2 hB
 replace P0:=P0.on hB
 replace DB:=later DB hB
 clear hB
 rcases hc with ⟨hma,rfl⟩ | ⟨hma,rfl⟩
 ·have HA:=Lib.hid hma
  clear hma
  obtain ⟨⟨e0,e1,e2,e3,e4,e5⟩,-⟩:=six_cells D1
  have el:=lies.lt D1
  go_wp2_with fail
  clear e0 e1 e2 e3 e4 e5 el
  refine (zone.check_any b0 b1 b2 b3 b4 b5 w1 P0 HTB.out).mono ?_
  rintro e w2 ⟨hB,f,rfl,hc⟩
  replace D0:=lies.on_call D0 hB
  replace D1:=lies.on_call D1 hB
  replace D2:=lies.on_call D2 hB
  replace P0:=P0.on hB
  replace DB:=later DB hB
  clear hB
  rcases hc with ⟨hmb,rfl⟩ | ⟨hmb,rfl⟩
  ·have HB:=Lib.hid hmb
   clear hmb
   go_wp2_with fail
   refine (top4_is w2).mono ?_
   rintro e w3 ⟨hB,g,hg2,rfl,hG⟩
   replace D0:=lies.on_call D0 hB
   replace D1:=lies.on_call D1 hB
   replace P0:=P0.on hB
   replace DB:=later DB hB
   have hg2':w.heap.size+1+1<g:=Nat.lt_of_lt_of_le (lies.lt D2) hg2
   replace D2:=lies.on_call D2 hB
   clear hB hg2
   obtain ⟨⟨e0,e1,e2,e3,e4,e5⟩,ef⟩:=six_cells D0
   clear ef
   have el:=lies.lt D0
   go_wp2_with fail
   clear e0 e1 e2 e3 e4 e5 el
   have DT:=lies.made w3 81 #[.int .i64 4,.slice (some ⟨g,0,none⟩) 16 16]
   have hA:=bound.up1 w3 (.cells #[.int .i64 4,.slice (some ⟨g,0,none⟩) 16 16] 81)
   replace D0:=lies.on_call D0 hA
   replace D1:=lies.on_call D1 hA
   replace D2:=lies.on_call D2 hA
   replace hG:=lies.on_call hG hA
   replace P0:=P0.on hA
   replace DB:=later DB hA
   clear hA
   generalize w3.heap.size=T at DT ⊢
   generalize w3.alloc (.cells #[.int .i64 4,.slice (some ⟨g,0,none⟩) 16 16] 81)=w4 at D0 D1 D2 DT hG P0 DB ⊢
   have hTg:T≠g:=(ne_type hG DT (by decide)).symm
   refine (put_any a0 a1 a2 a3 a4 a5 0 1 2 T g top4 w4 P0 HTA.out HA.out.may (fun i hi=>by rcases (by omega:i=0∨i=1∨i=2) with rfl | rfl | rfl<;>decide) DT hG rfl).mono ?_
   rintro e w5 ⟨rfl,hG5,hW⟩
   replace D0:=grown_lies D0 hW (by simp;omega)
   replace D1:=grown_lies D1 hW (by simp;omega)
   replace D2:=grown_lies D2 hW (by simp;omega)
   replace DT:=grown_lies DT hW (by simp;omega)
   replace P0:=pl_grown P0 hW (by omega)
   replace DB:=DB.grown hW DB.size (fun q e=>by cases e;omega)
   clear hW hG
   obtain ⟨⟨e0,e1,e2,e3,e4,e5⟩,-⟩:=six_cells D1
   have el:=lies.lt D1
   go_wp2_with fail
   clear e0 e1 e2 e3 e4 e5 el
   refine (put_any b0 b1 b2 b3 b4 b5 0 2 3 T g _ w5 P0 HTB.out HB.out.may (fun i hi=>by rcases (by omega:i=0∨i=1∨i=2) with rfl | rfl | rfl<;>decide) DT hG5 (putK_length _ _ _ _)).mono ?_
   rintro e w6 ⟨rfl,hG6,hW⟩
   rw [put_both rfl rfl HTA.out HTB.out] at hG6
   replace D0:=grown_lies D0 hW (by simp;omega)
   replace D1:=grown_lies D1 hW (by simp;omega)
   replace D2:=grown_lies D2 hW (by simp;omega)
   replace DT:=grown_lies DT hW (by simp;omega)
   replace P0:=pl_grown P0 hW (by omega)
   replace DB:=DB.grown hW DB.size (fun q e=>by cases e;omega)
   clear hW hG5 D0 D1
   obtain ⟨t0,t1,t2,t3,t4⟩:=lies.two DT
   go_wp2_with fail
   clear t0 t1 t2 t3 t4
   have hI:law.Ints w6.heap.size w6 (.slice (some ⟨g,0,none⟩) 16 16) (bothT [a0,a1,a2,a3,a4,a5] [b0,b1,b2,b3,b4,b5]):=dlaw.own_ints (cap:=16) hG6
   have HT4:=Lib.hid (both_tops HTA.out HTB.out)
   refine (drop_any 4 2 _ _ w6 hI (show 16≤1000000 by decide) HT4.out).mono ?_
   rintro e w7 ⟨hB,na,aa,la,ca,us,f,rfl,hD,hK⟩
   replace D2:=lies.on_call D2 hB
   replace P0:=P0.on hB
   replace DB:=later DB hB
   clear hB hI hG6 DT
   have HD:=Lib.hid hD
   clear hD
   have hm4:MayD 4 (bothT [a0,a1,a2,a3,a4,a5] [b0,b1,b2,b3,b4,b5]):=both_may HA.out.may HB.out.may
   rcases HD.out with ⟨n,_⟩ | ⟨_,n,_⟩ | ⟨_,_,hno,rfl,hu,rfl⟩ | ⟨hok,_,hna,hu,rfl⟩
   ·exact (n hm4).elim
   ·exact (n ⟨by decide,by decide⟩).elim
   ·have HN:=Lib.hid hno
    clear hno HD hm4 hu hK
    have DX:=lies.on_call D2 (bound.up1 w7 (.cells #[.int .i64 0,.slice aa la ca] 81))
    have EB:=DB
    obtain ⟨⟨x0,x1,x2,x3,x4,x5⟩,⟨y0,y1,y2,y3,y4,y5⟩,xl⟩:=six_cells D2
    go_wp2_with fail
    exact bodyPost_ret (v:=.tuple #[.agg #[.int .i64 0,.int .i64 0,.int .i64 0,.int .i64 0,.int .i64 0,.int .i64 0],.int .i64 6]) (by simp [results,Tryz.results51,go_sem,x0,x1,x2,x3,x4,x5,xl]) rfl ⟨lies.frame_up (put_six DB hR _ _ _ _ _ _) _,0,0,0,0,0,0,6,rfl,.inr (.inl ⟨HA.out,HB.out,HN.out,rfl,rfl⟩)⟩
   ·have HO:=Lib.hid hok
    have hna3:na=3:=hna
    have HU:=Lib.hid (show us=dropT 4 2 (bothT [a0,a1,a2,a3,a4,a5] [b0,b1,b2,b3,b4,b5]) from hu)
    clear hok HD hm4 hu hna
    subst hna3
    have hI7:=hK.ints
    go_wp2_with fail
    have hA:=bound.up1 w7 (.cells #[.int .i64 3,.slice aa la ca] 81)
    replace D2:=lies.on_call D2 hA
    replace P0:=P0.on hA
    replace DB:=later DB hA
    replace hI7:=(hI7.below hA).mono hA.size
    clear hA hK
    generalize w7.alloc (.cells #[.int .i64 3,.slice aa la ca] 81)=w8 at D2 P0 DB hI7 ⊢
    have hT3:Tops us:=by rw [HU.out];exact drop_tops HTA.out HTB.out HO.out
    have hl3:us.length≤1000000:=by rw [HU.out,proj.dropT_length];decide
    refine (of_any 3 _ us w8 P0 hI7 hl3 hT3).mono ?_
    rintro e w9 ⟨hB,v0,v1,v2,v3,v4,v5,f,rfl,hF⟩
    replace D2:=lies.on_call D2 hB
    replace DB:=later DB hB
    have HR:RowKit.Hid (CompR [a0,a1,a2,a3,a4,a5] [b0,b1,b2,b3,b4,b5] [v0,v1,v2,v3,v4,v5] f):=by
     refine Lib.hid ?_
     rw [HU.out] at hF
     have hcf:=comp_full HTA.out HTB.out HO.out
     rcases of_closed (fun hm=>dropT_own (n:=4) (by decide) (by decide) rfl HT4.out HO.out (by decide) hm) hF with ⟨h1,h2,h3⟩ | ⟨h1,h2,h3⟩
     ·exact .inr (.inr (.inl ⟨HA.out,HB.out,HO.out,by rw [hcf];exact h1,h2,h3⟩))
     ·exact .inr (.inr (.inr ⟨HA.out,HB.out,HO.out,comp_may HTA.out HTB.out HO.out h1,h2,h3⟩))
    clear hB hI7 hT3 hl3 hF P0
    obtain ⟨⟨x0,x1,x2,x3,x4,x5⟩,⟨y0,y1,y2,y3,y4,y5⟩,xl⟩:=six_cells D2
    clear D2
    go_wp2_with fail
    exact bodyPost_ret (v:=.tuple #[.agg #[.int .i64 v0,.int .i64 v1,.int .i64 v2,.int .i64 v3,.int .i64 v4,.int .i64 v5],.int .i64 f]) (by simp [results,Tryz.results51,go_sem,x0,x1,x2,x3,x4,x5,xl]) rfl ⟨put_six DB hR _ _ _ _ _ _,v0,v1,v2,v3,v4,v5,f,rfl,HR.out⟩
  ·have HB:=Lib.hid hmb
   clear hmb D0 D1
   obtain ⟨⟨x0,x1,x2,x3,x4,x5⟩,⟨y0,y1,y2,y3,y4,y5⟩,xl⟩:=six_cells D2
   clear D2
   go_wp2_with fail
   exact bodyPost_ret (v:=.tuple #[.agg #[.int .i64 0,.int .i64 0,.int .i64 0,.int .i64 0,.int .i64 0,.int .i64 0],.int .i64 8]) (by simp [results,Tryz.results51,go_sem,x0,x1,x2,x3,x4,x5,xl]) rfl ⟨put_six DB hR _ _ _ _ _ _,0,0,0,0,0,0,8,rfl,.inl ⟨fun q=>HB.out q.2,rfl,rfl⟩⟩
 ·have HA:=Lib.hid hma
  clear hma D0 D1
  obtain ⟨⟨x0,x1,x2,x3,x4,x5⟩,⟨y0,y1,y2,y3,y4,y5⟩,xl⟩:=six_cells D2
  clear D2
  go_wp2_with fail
  exact bodyPost_ret (v:=.tuple #[.agg #[.int .i64 0,.int .i64 0,.int .i64 0,.int .i64 0,.int .i64 0,.int .i64 0],.int .i64 8]) (by simp [results,Tryz.results51,go_sem,x0,x1,x2,x3,x4,x5,xl]) rfl ⟨put_six DB hR _ _ _ _ _ _,0,0,0,0,0,0,8,rfl,.inl ⟨fun q=>HA.out q.1,rfl,rfl⟩⟩
/-! the other way round -/
end Go.Proofs.YthmljpccbjolgaaGreatDoor.comp
namespace Go.Proofs.YthmljpccbjolgaaGreatDoor.comp
open Go.Joins Go.ChangeShapes Go.WideShapes Go.ChangeAt Go.RowKit num rat dbm Go.Proofs.YthmljpccbjolgaaGreatDoor.tight Go.Proofs.YthmljpccbjolgaaGreatDoor.plaw Go.Proofs.YthmljpccbjolgaaGreatDoor.zopen Go.Proofs.YthmljpccbjolgaaGreatDoor.zone
open bound hiding up
open proj (dropT dropT_own drop_any Gv DropR Kc No)
set_option linter.unusedVariables false
set_option linter.unusedSimpArgs false
/-! firsts -/
theorem five_cells {W:World} {g:Nat} {t:TypeId} {a b c d e:Value} (h:lies.Lies W g t #[a,b,c,d,e]):(W.cell? ⟨g,0,none⟩=some a∧W.cell? ⟨g,1,none⟩=some b∧W.cell? ⟨g,2,none⟩=some c∧W.cell? ⟨g,3,none⟩=some d∧W.cell? ⟨g,4,none⟩=some e)∧(W.frozen? ⟨g,0,none⟩=false∧W.frozen? ⟨g,1,none⟩=false∧W.frozen? ⟨g,2,none⟩=false∧W.frozen? ⟨g,3,none⟩=false∧W.frozen? ⟨g,4,none⟩=false)∧g<W.heap.size:=
 ⟨⟨lies.cell h 0,lies.cell h 1,lies.cell h 2,lies.cell h 3,lies.cell h 4⟩,⟨lies.free h 0,lies.free h 1,lies.free h 2,lies.free h 3,lies.free h 4⟩,lies.lt h⟩
theorem put_five {B g:Nat} {w W:World} (h:Below B w W) (hB:B≤g) (a b c d e:Value):Below B w (((((W.setCell ⟨g,0,none⟩ a).setCell ⟨g,1,none⟩ b).setCell ⟨g,2,none⟩ c).setCell ⟨g,3,none⟩ d).setCell ⟨g,4,none⟩ e):=
 ((((h.setCell (p:=⟨g,0,none⟩) hB _).setCell (p:=⟨g,1,none⟩) hB _).setCell (p:=⟨g,2,none⟩) hB _).setCell (p:=⟨g,3,none⟩) hB _).setCell (p:=⟨g,4,none⟩) hB _
end Go.Proofs.YthmljpccbjolgaaGreatDoor.comp
