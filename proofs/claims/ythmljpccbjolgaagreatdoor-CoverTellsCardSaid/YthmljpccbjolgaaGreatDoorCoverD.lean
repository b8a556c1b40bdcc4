
/-
  What the calls of cover answer (In, Witness, Prune), and what they ask; each theorem names its conditions.
-/
import Derived.Test.YthmljpccbjolgaaGreatDoorCoverA
import Derived.Test.YthmljpccbjolgaaGreatDoorMinusF
import Derived.Test.YthmljpccbjolgaaGreatDoorSorts
import Derived.BigQuiet
import Derived.Test.YthmljpccbjolgaaGreatDoorCoverS
namespace Go.Proofs.YthmljpccbjolgaaGreatDoor.cover
open Go.Joins Go.ChangeShapes Go.WideShapes Go.ChangeAt Go.RowKit num rat dbm Go.Proofs.YthmljpccbjolgaaGreatDoor.tight Go.Proofs.YthmljpccbjolgaaGreatDoor.incl Go.Proofs.YthmljpccbjolgaaGreatDoor.plaw Go.Proofs.YthmljpccbjolgaaGreatDoor.zopen Go.Proofs.YthmljpccbjolgaaGreatDoor.zone Go.Proofs.YthmljpccbjolgaaGreatDoor.win Go.Proofs.YthmljpccbjolgaaGreatDoor.minus Go.Proofs.YthmljpccbjolgaaGreatDoor.mz Go.Proofs.YthmljpccbjolgaaGreatDoor.mlaw
open bound hiding up
set_option linter.unusedVariables false
set_option linter.unusedSimpArgs false
set_option linter.unusedSectionVars false
set_option maxRecDepth 100000 in
set_option maxHeartbeats 16000000 in
theorem check_gen (g n:Nat) (A:Nat→Option Addr) (L C:Nat→Nat) (zs:Nat→List (List Int)) (w:World) (hP:(∀ j,j<n→L j≤4096)→Pl w) (hg:g<w.heap.size) (hn:n≤2)
  (hc:∀ j,j<n→w.cell? ⟨g,j,none⟩=some (.slice (A j) (L j) (C j)))
  (hZ:(∀ j,j<n→L j≤4096)→∀ j,j<n→Zs w.heap.size w (.slice (A j) (L j) (C j)) (zs j)∧Six (zs j)∧(zs j).length=L j):
  Calls Tryz.prog 75 #[.slice (some ⟨g,0,none⟩) n n] w fun e w'=>Below w.heap.size w w'∧∃ f,e=.returned (.int .i64 f)∧
   (((∃ j,j<n∧4096<L j)∧f=4)∨((∀ j,j<n→L j≤4096)∧(((∀ j,j<n→∀ z,z ∈ zs j→MayZ z)∧f=0)∨((∃ j,j<n∧∃ z,z ∈ zs j∧¬ MayZ z)∧f=8)))):=by
 have HC:=Lib.hid hc
 have HZ:=Lib.hid hZ
 have HP:=Lib.hid hP
 clear hc hZ hP
 go_enter Tryz.func75,Tryz.ntmps75
 go_wp2_with fail
 go_loopw [12] (fun i wr=>∃ k:Nat,k≤n∧i=.int .i64 k∧Below w.heap.size w wr∧RowKit.Hid (∀ j,j<k→L j≤4096)) (fun i _=>n - (intOf i).toNat)
 case atStart=>exact ⟨0,Nat.zero_le _,rfl,Below.refl _ _,Lib.hid (fun j hj=>absurd hj (Nat.not_lt_zero j))⟩
 case round=>
  obtain ⟨k,hk,rfl,hB,HM⟩:=hrel
  by_cases hkn:k<n
  ·have c0:=(hB.cell (p:=⟨g,k,none⟩) hg).trans (HC.out k hkn)
   have hkn':(k:Int)<n:=by omega
   obtain ⟨len,hlen⟩:∃ x,x=L k:=⟨_,rfl⟩
   rw [←hlen] at c0
   generalize A k=ao at c0
   generalize C k=cap at c0
   have HLEN:=Lib.hid hlen
   clear hlen
   have hgr:g<wr.heap.size:=Nat.lt_of_lt_of_le hg hB.size
   by_cases hl:4096<len
   ·have hl':(4096:Int)<(len:Int):=by omega
    go_wp2_with fail
    go_ret
    exact ⟨hB,4,rfl,.inl ⟨⟨k,hkn,by rw [←HLEN.out];exact hl⟩,rfl⟩⟩
   ·have hl':¬ (4096:Int)<(len:Int):=by omega
    go_wp2_with fail
    go_roundw
    case rel=>exact ⟨k+1,by omega,by go_num,hB,Lib.hid (fun j hj=>by
     by_cases e:j=k
     ·rw [e,←HLEN.out];omega
     ·exact HM.out j (by omega))⟩
    case measure=>simp [intOf];omega
  ·obtain rfl:n=k:=by omega
   have HZ2:=Lib.hid (HZ.out HM.out)
   have P1:=(HP.out HM.out).on hB
   have hkn':¬ (n:Int)<n:=by omega
   go_wp2_with fail
   go_loopw [22] (fun i wq=>∃ k:Nat,k≤n∧i=.int .i64 k∧Below w.heap.size w wq∧Pl wq∧RowKit.Hid (∀ j,j<k→∀ z,z ∈ zs j→MayZ z)) (fun i _=>n - (intOf i).toNat)
   case atStart=>exact ⟨0,Nat.zero_le _,rfl,hB,P1,Lib.hid (fun j hj=>absurd hj (Nat.not_lt_zero j))⟩
   case round=>
    clear hB P1 hkn' hkn hk
    obtain ⟨k,hk,rfl,hB,P0,HY⟩:=hrel
    by_cases hkn:k<n
    ·have c0:=(hB.cell (p:=⟨g,k,none⟩) hg).trans (HC.out k hkn)
     have hkn':(k:Int)<n:=by omega
     obtain ⟨hI,h6,hl⟩:=HZ2.out k hkn
     have hl4:=HM.out k hkn
     have HO:=Lib.hid (show ∀ j,j=k→zs j=zs k from fun j e=>by rw [e])
     generalize A k=ao at c0 hI
     generalize C k=cap at c0 hI
     generalize L k=len at c0 hI hl hl4
     generalize zs k=zq at hI h6 hl HO
     have HI:=Lib.hid hI
     have H6:=Lib.hid h6
     have HL:=Lib.hid hl
     clear hI h6 hl
     have hgr:g<wr.heap.size:=Nat.lt_of_lt_of_le hg hB.size
     go_wp2_with fail
     clear c0 hgr hkn'
     go_loopw [28] (fun i wq=>∃ m:Nat,m≤len∧i=.int .i64 m∧Below w.heap.size w wq∧Pl wq∧RowKit.Hid (∀ j,j<m→MayZ (zat zq j))) (fun i _=>len - (intOf i).toNat)
     case atStart=>exact ⟨0,Nat.zero_le _,rfl,hB,P0,Lib.hid (fun j hj=>absurd hj (Nat.not_lt_zero j))⟩
     case round=>
      clear hB P0
      obtain ⟨m,hm,rfl,hB,P0,HN⟩:=hrel
      by_cases hmn:m<len
      ·have hkz:m<zq.length:=by rw [HL.out];exact hmn
       obtain ⟨bq,off,rfl,-,hb,c0,c1,c2,c3,c4,c5⟩:=zs_at (HI.out.below hB) hkz
       have hbr:bq<wr.heap.size:=Nat.lt_of_lt_of_le hb hB.size
       obtain ⟨hz6,hzt⟩:=H6.out _ (zat_mem hkz)
       have hmem:=zat_mem hkz
       have hone:∀ j,j=m→zat zq j=zat zq m:=fun j e=>by rw [e]
       generalize hzk:zat zq m=zk at c0 c1 c2 c3 c4 c5 hz6 hzt hmem hone
       obtain ⟨z0,z1,z2,z3,z4,z5,rfl⟩:=six hz6
       have c0:wr.cell? ⟨bq,off+m*6,none⟩=some (.int .i64 z0):=c0
       have c1:wr.cell? ⟨bq,off+m*6+1,none⟩=some (.int .i64 z1):=c1
       have c2:wr.cell? ⟨bq,off+m*6+2,none⟩=some (.int .i64 z2):=c2
       have c3:wr.cell? ⟨bq,off+m*6+3,none⟩=some (.int .i64 z3):=c3
       have c4:wr.cell? ⟨bq,off+m*6+4,none⟩=some (.int .i64 z4):=c4
       have c5:wr.cell? ⟨bq,off+m*6+5,none⟩=some (.int .i64 z5):=c5
       have HZT:=Lib.hid hzt
       have HMEM:=Lib.hid hmem
       have HONE:=Lib.hid hone
       clear hzt hmem hone hz6 hzk
       go_wp2_with fail
       clear c0 c1 c2 c3 c4 c5
       have hA:=bound.up1 wr (.cells #[.int .i64 z0,.int .i64 z1,.int .i64 z2,.int .i64 z3,.int .i64 z4,.int .i64 z5] 27)
       replace P0:=P0.on hA
       replace hB:=later hB hA
       clear hA
       generalize wr.heap.size=ZB
       generalize wr.alloc (.cells #[.int .i64 z0,.int .i64 z1,.int .i64 z2,.int .i64 z3,.int .i64 z4,.int .i64 z5] 27)=w1 at P0 hB ⊢
       refine (zone.check_any z0 z1 z2 z3 z4 z5 w1 P0 HZT.out).mono ?_
       rintro e w2 ⟨hB2,f,rfl,hcc⟩
       replace P0:=P0.on hB2
       replace hB:=later hB hB2
       clear hB2
       rcases hcc with ⟨hma,rfl⟩ | ⟨hma,rfl⟩
       ·have HA:=Lib.hid hma
        clear hma
        go_wp2_with fail
        go_roundw
        case rel=>exact ⟨m+1,by omega,by go_num,hB,P0,Lib.hid (fun j hj=>by
         by_cases e:j=m
         ·rw [HONE.out j e];exact HA.out
         ·exact HN.out j (by omega))⟩
        case measure=>simp [intOf];omega
       ·have HA:=Lib.hid hma
        clear hma
        go_wp2_with fail
        go_ret
        exact ⟨hB,8,rfl,.inr ⟨HM.out,.inr ⟨⟨k,hkn,_,by rw [HO.out k rfl];exact HMEM.out,HA.out⟩,rfl⟩⟩⟩
      ·obtain rfl:len=m:=by omega
       have hmn':¬ (len:Int)<len:=by omega
       go_wp2_with fail
       go_roundw
       case rel=>exact ⟨k+1,by omega,by go_num,hB,P0,Lib.hid (fun j hj=>by
        by_cases e:j=k
        ·rw [HO.out j e]
         intro z hz
         obtain ⟨i,hi,rfl⟩:=List.getElem_of_mem hz
         have:=HN.out i (by rw [←HL.out];exact hi)
         unfold zat at this
         rw [List.getElem?_eq_getElem hi] at this
         exact this
        ·exact HY.out j (by omega))⟩
       case measure=>simp [intOf];omega
    ·obtain rfl:n=k:=by omega
     have hkn':¬ (n:Int)<n:=by omega
     go_wp2_with fail
     go_ret
     exact ⟨hB,0,rfl,.inr ⟨HM.out,.inl ⟨HY.out,rfl⟩⟩⟩
theorem check_one (g:Nat) (ao:Option Addr) (len cap:Nat) (l:List (List Int)) (w:World) (hc:lies.Lies w g 29 #[.slice ao len cap]) (hZ:len≤4096→Pl w∧Zs w.heap.size w (.slice ao len cap) l∧Six l) (hl:l.length=len):
  Calls Tryz.prog 75 #[.slice (some ⟨g,0,none⟩) 1 1] w fun e w'=>Below w.heap.size w w'∧∃ f,e=.returned (.int .i64 f)∧ChkR l [] f:=by
 refine (check_gen g 1 (fun _=>ao) (fun _=>len) (fun _=>cap) (fun _=>l) w (fun h=>(hZ (h 0 (by decide))).1) (lies.lt hc) (by decide) (fun j hj=>?_) (fun h j hj=>⟨(hZ (h 0 (by decide))).2.1,(hZ (h 0 (by decide))).2.2,hl⟩)).mono ?_
 ·obtain rfl:j=0:=by omega
  exact lies.cell hc 0
 ·rintro e w' ⟨hB,f,rfl,⟨⟨j,hj,hk⟩,rfl⟩ | ⟨hk,⟨hm,rfl⟩ | ⟨⟨j,hj,z,hz,hm⟩,rfl⟩⟩⟩
  ·exact ⟨hB,4,rfl,.inl ⟨.inl (by rw [hl];exact hk),rfl⟩⟩
  ·exact ⟨hB,0,rfl,.inr (.inr ⟨by rw [hl];exact hk 0 (by decide),by decide,hm 0 (by decide),fun x hx=>(by cases hx),rfl⟩)⟩
  ·exact ⟨hB,8,rfl,.inr (.inl ⟨by rw [hl];exact hk 0 (by decide),by decide,fun q=>hm (q.1 z hz),rfl⟩)⟩
theorem check_two (g:Nat) (ao:Option Addr) (len cap:Nat) (bo:Option Addr) (lenb capb:Nat) (l m:List (List Int)) (w:World) (hc:lies.Lies w g 29 #[.slice ao len cap,.slice bo lenb capb])
  (hZ:len≤4096→lenb≤4096→Pl w∧(Zs w.heap.size w (.slice ao len cap) l∧Six l)∧Zs w.heap.size w (.slice bo lenb capb) m∧Six m) (hl:l.length=len) (hm:m.length=lenb):
  Calls Tryz.prog 75 #[.slice (some ⟨g,0,none⟩) 2 2] w fun e w'=>Below w.heap.size w w'∧∃ f,e=.returned (.int .i64 f)∧ChkR l m f:=by
 refine (check_gen g 2 (fun j=>if j=0 then ao else bo) (fun j=>if j=0 then len else lenb) (fun j=>if j=0 then cap else capb) (fun j=>if j=0 then l else m) w (fun h=>(hZ (h 0 (by decide)) (h 1 (by decide))).1) (lies.lt hc) (by decide) (fun j hj=>?_) (fun h j hj=>?_)).mono ?_
 ·rcases (by omega:j=0∨j=1) with rfl | rfl
  ·exact lies.cell hc 0
  ·exact lies.cell hc 1
 ·have h0:len≤4096:=h 0 (by decide)
  have h1:lenb≤4096:=h 1 (by decide)
  rcases (by omega:j=0∨j=1) with rfl | rfl
  ·exact ⟨(hZ h0 h1).2.1.1,(hZ h0 h1).2.1.2,hl⟩
  ·exact ⟨(hZ h0 h1).2.2.1,(hZ h0 h1).2.2.2,hm⟩
 ·rintro e w' ⟨hB,f,rfl,⟨⟨j,hj,hk⟩,rfl⟩ | ⟨hk,⟨hy,rfl⟩ | ⟨⟨j,hj,z,hz,hy⟩,rfl⟩⟩⟩
  ·refine ⟨hB,4,rfl,.inl ⟨?_,rfl⟩⟩
   rcases (by omega:j=0∨j=1) with rfl | rfl
   ·exact .inl (by rw [hl];exact hk)
   ·exact .inr (by rw [hm];exact hk)
  ·exact ⟨hB,0,rfl,.inr (.inr ⟨by rw [hl];exact hk 0 (by decide),by rw [hm];exact hk 1 (by decide),hy 0 (by decide),hy 1 (by decide),rfl⟩)⟩
  ·refine ⟨hB,8,rfl,.inr (.inl ⟨by rw [hl];exact hk 0 (by decide),by rw [hm];exact hk 1 (by decide),fun q=>?_,rfl⟩)⟩
   rcases (by omega:j=0∨j=1) with rfl | rfl
   ·exact hy (q.1 z hz)
   ·exact hy (q.2 z hz)
set_option maxRecDepth 100000 in
set_option maxHeartbeats 4000000 in
theorem clone_zones (ao:Option Addr) (len cap:Nat) (zs:List (List Int)) (w:World) (hI:Zs w.heap.size w (.slice ao len cap) zs) (hl:zs.length=len) (hm:len≤1000000):
  Calls Tryz.prog 80 #[.slice ao len cap] w fun e w'=>∃ v,e=.returned v∧w'.ownsRow w.heap.size 27 6 v zs.length (flatZ zs)∧Below w.heap.size w w':=by
 have hnil:∀ (w:World) (a:Option Addr) (n c n' c':Nat),(binOp .eql 29 (.slice a n c) (.slice none n' c')).run Tryz.prog w=.ok (.bool a.isNone) w:=fun w a n c n' c'=>Lib.run_eql_slice_nil w _ _ a n c n' c' Tryz.underlying29
 cases ao with
 | none=>
  obtain rfl:zs=[]:=by
   rcases hI with ⟨_,h⟩ | ⟨b,off,c,e,_⟩
   ·exact h
   ·injection e with e1;cases e1
  clear hI
  go_enter Tryz.func80,Tryz.ntmps80
  go_wp2_with fail
  go_ret
  exact ⟨_,rfl,World.ownsRow_nil _ _ _ _,Below.refl _ _⟩
 | some a=>
  have hA:=bound.up1 w (.cells #[] 27)
  obtain ⟨v,w1,hrun,own,hgrow,-⟩:=app_zones w.heap.size 29 (.slice (some ⟨w.heap.size,0,none⟩) 0 0) (.slice (some a) len cap) 0 _ [] zs (w.alloc (.cells #[] 27)) (own_nil6 w _) (hI.on hA) (by omega) hA.size
  have hB:Below w.heap.size w w1:=held_grown hA hA.size (own_nil6 w 27) (Nat.le_refl _) hgrow
  rw [Nat.zero_add,List.nil_append] at own
  have HRUN:=Lib.hid hrun
  have HOWN:=Lib.hid own
  clear hrun own hgrow hI hA
  go_enter Tryz.func80,Tryz.ntmps80
  obtain ⟨ab,aoff,asp⟩:=a
  go_wp2_with (at_builtin;refine dref.append_run2 rfl (.tmp 5) (.tmp 6) 29 rfl _ _ _ _ rfl rfl HRUN.out ?_;clear HRUN)
  go_ret
  exact ⟨_,rfl,HOWN.out,hB⟩
theorem grow_zones (n:Nat) (w:World) (hm:n≤1000000):
  Calls Tryz.prog 102 #[.slice none 0 0,.int .i64 n] w fun e w'=>∃ v,e=.returned v∧w'.ownsRow w.heap.size 27 6 v 0 []∧Below w.heap.size w w':=by
 by_cases h0:n=0
 ·subst h0
  refine (Any8.slices_Grow_room Tryz.growZ none 0 0 0 w (Nat.le_refl _) (by decide) (by decide) (Nat.le_refl _)).mono ?_
  rintro e w' ⟨rfl,rfl⟩
  exact ⟨_,rfl,World.ownsRow_nil _ _ _ _,Below.refl _ _⟩
 ·obtain ⟨i,hi,hz,hs,hby⟩:=info_parts info_z
  refine (Any8.slices_Grow_grow Tryz.growZ i _ hi hz (by omega) none 0 0 n [] w (Nat.le_refl _) (by omega) (by rw [hby];omega) (by omega) (by simp) (fun _=>rfl) (fun a h=>by cases h)).mono ?_
  rintro e w' ⟨rfl,rfl⟩
  have hB:=bound.up1 w.drew (.cells (([]:List Value).toArray++Builtin.zeroCells (Value.agg #[.int .i64 0,.int .i64 0,.int .i64 0,.int .i64 0,.int .i64 0,.int .i64 0]).cells (0+n - 0)++Builtin.zeroCells (Value.agg #[.int .i64 0,.int .i64 0,.int .i64 0,.int .i64 0,.int .i64 0,.int .i64 0]).cells (grownCap w (0+n) 0 27 - (0+n))) 27)
  refine ⟨_,rfl,⟨rfl,.inr ⟨w.heap.size,_,_,rfl,Nat.le_refl _,World.alloc_heap_new w.drew _,Nat.zero_le _,grownCap_le_maxLen w _ _ _ (by unfold maxLen;omega),?_,by simp⟩⟩,(Below.refl _ _).drew.trans hB⟩
  have:=grownCap_ge w (0+n) 0 27
  rw [Array.size_append,Array.size_append,size_zeroCells,size_zeroCells]
  show 0+(0+n - 0)*6+(grownCap w (0+n) 0 27 - (0+n))*6=grownCap w (0+n) 0 27*6
  omega
set_option maxRecDepth 100000 in
set_option maxHeartbeats 8000000 in
theorem covered_any (z0 z1 z2 z3 z4 z5:Int) (ao:Option Addr) (len cap:Nat) (l:List (List Int)) (w:World) (hP:Pl w) (ta:Tops [z0,z1,z2,z3,z4,z5]) (hI:Zs w.heap.size w (.slice ao len cap) l) (h6:Six l) (hl:l.length=len) (hm:len≤1000000) (ma:MayZ [z0,z1,z2,z3,z4,z5]) (ml:∀ x,x ∈ l→MayZ x):
  Calls Tryz.prog 76 #[.agg #[.int .i64 z0,.int .i64 z1,.int .i64 z2,.int .i64 z3,.int .i64 z4,.int .i64 z5],.slice ao len cap] w fun e w'=>Below w.heap.size w w'∧∃ (is:Bool) (f:Int),e=.returned (.tuple #[.bool is,.int .i64 f])∧CovX RestP [z0,z1,z2,z3,z4,z5] l is f:=by
 obtain ⟨w0,hX⟩:∃ w0,w0=w.alloc (.cells #[.int .i64 z0,.int .i64 z1,.int .i64 z2,.int .i64 z3,.int .i64 z4,.int .i64 z5] 27):=⟨_,rfl⟩
 have DB:Below w.heap.size w w0:=by rw [hX];exact bound.up1 _ _
 have P0:=hP.on DB
 have HTA:=Lib.hid ta
 have HI:=Lib.hid hI
 have H6:=Lib.hid h6
 have HL:=Lib.hid hl
 have HMA:=Lib.hid ma
 have HML:=Lib.hid ml
 clear hP ta hI h6 hl ma ml
 go_enter Tryz.func76,Tryz.ntmps76
 go_wp2_with fail
 rw [←hX]
 clear hX
 refine (left_any z0 z1 z2 z3 z4 z5 ao len cap l w0 P0 HTA.out ((HI.out.below DB).mono DB.size) H6.out HL.out hm).mono ?_
 rintro e w1 ⟨hB,v,r,f,rfl,hR,hO⟩
 replace DB:=later DB hB
 obtain ⟨av,cv,rfl⟩:=zs_len (zs_own hO)
 have hr:RestP l [[z0,z1,z2,z3,z4,z5]] r f:=by
  rcases hR with ⟨k,_⟩ | ⟨_,_,k⟩
  ·exact (k ⟨HMA.out,HML.out⟩).elim
  ·exact k
 have HR:=Lib.hid hr
 clear hR hr hO hB P0
 by_cases h0:f=0
 ·subst h0
  generalize hmm:r.length=m
  have HM:=Lib.hid hmm
  clear hmm
  by_cases hm0:m=0
  ·subst hm0
   go_wp2_with fail
   exact bodyPost_ret (v:=.tuple #[.bool true,.int .i64 0]) (by simp [results,Tryz.results76,go_sem]) rfl ⟨DB,true,0,rfl,r,HR.out,by simp [List.length_eq_zero_iff.1 HM.out]⟩
  ·have hm1:¬ (m:Int)=0:=by omega
   go_wp2_with fail
   exact bodyPost_ret (v:=.tuple #[.bool false,.int .i64 0]) (by simp [results,Tryz.results76,go_sem,hm0]) rfl ⟨DB,false,0,rfl,r,HR.out,by
    symm
    refine decide_eq_false fun q=>hm0 ?_
    rw [←HM.out,q.2]
    rfl⟩
 ·go_wp2_with fail
  exact bodyPost_ret (v:=.tuple #[.bool false,.int .i64 f]) (by simp [results,Tryz.results76,go_sem]) rfl ⟨DB,false,f,rfl,r,HR.out,by
   symm
   exact decide_eq_false fun q=>h0 q.1⟩
end Go.Proofs.YthmljpccbjolgaaGreatDoor.cover
namespace Go.Proofs.YthmljpccbjolgaaGreatDoor.cover
open Go.Joins Go.ChangeShapes Go.WideShapes Go.ChangeAt Go.RowKit num rat dbm Go.Proofs.YthmljpccbjolgaaGreatDoor.tight Go.Proofs.YthmljpccbjolgaaGreatDoor.incl Go.Proofs.YthmljpccbjolgaaGreatDoor.plaw Go.Proofs.YthmljpccbjolgaaGreatDoor.zopen Go.Proofs.YthmljpccbjolgaaGreatDoor.zone Go.Proofs.YthmljpccbjolgaaGreatDoor.win Go.Proofs.YthmljpccbjolgaaGreatDoor.minus Go.Proofs.YthmljpccbjolgaaGreatDoor.mz Go.Proofs.YthmljpccbjolgaaGreatDoor.mlaw
open bound hiding up
set_option linter.unusedVariables false
set_option linter.unusedSimpArgs false
set_option linter.unusedSectionVars false
set_option maxRecDepth 100000 in
set_option maxHeartbeats 16000000 in
theorem concat_zones (g:Nat) (ao:Option Addr) (len cap:Nat) (bo:Option Addr) (lenb capb:Nat) (x y:List (List Int)) (w:World) (hc:lies.Lies w g 29 #[.slice ao len cap,.slice bo lenb capb])
  (hI:Zs w.heap.size w (.slice ao len cap) x) (hJ:Zs w.heap.size w (.slice bo lenb capb) y) (hl:x.length=len) (hm:y.length=lenb) (hs:len+lenb≤1000000):
  Calls Tryz.prog 57 #[.slice (some ⟨g,0,none⟩) 2 2] w fun e w'=>∃ v,e=.returned v∧w'.ownsRow w.heap.size 27 6 v (x++y).length (flatZ (x++y))∧Below w.heap.size w w':=by
 have hg:=lies.lt hc
 have HA:=Lib.hid (show ∀ k,k<2→∃ (a:Option Addr) (n c:Nat) (z:List (List Int)),w.cell? ⟨g,k,none⟩=some (.slice a n c)∧Zs w.heap.size w (.slice a n c) z∧z.length=n∧((k=0∧n=len∧z=x)∨(k=1∧n=lenb∧z=y)) from fun k hk=>by
  rcases (by omega:k=0∨k=1) with rfl | rfl
  ·exact ⟨ao,len,cap,x,lies.cell hc 0,hI,hl,.inl ⟨rfl,rfl,rfl⟩⟩
  ·exact ⟨bo,lenb,capb,y,lies.cell hc 1,hJ,hm,.inr ⟨rfl,rfl,rfl⟩⟩)
 have HLX:=Lib.hid hl
 have HLY:=Lib.hid hm
 clear hc hI hJ hl hm
 go_enter Tryz.func57,Tryz.ntmps57
 go_wp2_with fail
 go_loopw [11,3] (fun i s wr=>∃ k S:Nat,k≤2∧S≤1000000∧i=.int .i64 k∧s=.int .i64 S∧Below w.heap.size w wr∧RowKit.Hid ((k=0→S=0)∧(k=1→S=len)∧(k=2→S=len+lenb))) (fun i _ _=>2 - (intOf i).toNat)
 case atStart=>exact ⟨0,0,Nat.zero_le _,Nat.zero_le _,rfl,rfl,Below.refl _ _,Lib.hid ⟨fun _=>rfl,fun e=>absurd e (by decide),fun e=>absurd e (by decide)⟩⟩
 case round=>
  obtain ⟨k,S,hk,hS,rfl,rfl,hB,HS⟩:=hrel
  by_cases hkn:k<2
  ·obtain ⟨a,n,c,z,h1,h2,h3,h4⟩:=HA.out k hkn
   have c0:=(hB.cell (p:=⟨g,k,none⟩) hg).trans h1
   have hgr:g<wr.heap.size:=Nat.lt_of_lt_of_le hg hB.size
   obtain ⟨S1,hS1⟩:∃ T,T=S+n:=⟨_,rfl⟩
   have hSn:S1≤1000000∧((k=0∧S1=len)∨(k=1∧S1=len+lenb)):=by
    have:=HS.out
    rcases h4 with ⟨e1,e2,_⟩ | ⟨e1,e2,_⟩
    ·have:=this.1 e1;omega
    ·have:=this.2.1 e1;omega
   have hw:wrap64 ((S:Int)+(n:Int))=(S1:Int):=by
    have q:=hSn.1
    clear hSn h4 hk hkn
    rw [hS1] at q ⊢
    exact IntWalk.wrap64_in _ ⟨by omega,by omega⟩
   have hS0:¬ (S1:Int)<0:=Int.not_lt.2 (Int.natCast_nonneg _)
   have hk':(k:Int)<2:=by omega
   have HN:=Lib.hid hSn
   clear h1 h2 h3 h4 hS1 hSn
   go_wp2_with fail
   go_roundw
   case rel=>
    have q:=HN.out
    exact ⟨k+1,S1,by omega,q.1,by go_num,(by rw [hw]),hB,Lib.hid ⟨fun e=>by omega,fun e=>by omega,fun e=>by omega⟩⟩
   case measure=>simp [intOf];omega
  ·have hk2:k=2:=by omega
   have HS2:=Lib.hid (HS.out.2.2 hk2)
   have hk':¬ (k:Int)<2:=by omega
   go_wp2_with fail
   clear hk' hk hkn HS
   refine (grow_zones S wr hS).mono ?_
   rintro e w1 ⟨v,rfl,hO,hB1⟩
   have hO':=own_far hO hB.size (fun _ _ _ q=>q)
   replace hB:=later hB hB1
   clear hB1 hO
   go_wp2_with fail
   go_loopw [27,6] (fun i v wq=>∃ (k:Nat) (cur:List (List Int)),k≤2∧i=.int .i64 k∧Below w.heap.size w wq∧wq.ownsRow w.heap.size 27 6 v cur.length (flatZ cur)∧RowKit.Hid ((k=0→cur=[])∧(k=1→cur=x)∧(k=2→cur=x++y))) (fun i _ _=>2 - (intOf i).toNat)
   case atStart=>exact ⟨0,[],by decide,rfl,hB,hO',Lib.hid ⟨fun _=>rfl,fun e=>absurd e (by decide),fun e=>absurd e (by decide)⟩⟩
   case round=>
    clear hB hO'
    obtain ⟨k,cur,hk,rfl,hB,hO,HC⟩:=hrel
    by_cases hkn:k<2
    ·obtain ⟨a,n,c,z,h1,h2,h3,h4⟩:=HA.out k hkn
     have c0:=(hB.cell (p:=⟨g,k,none⟩) hg).trans h1
     have hgr:g<wr.heap.size:=Nat.lt_of_lt_of_le hg hB.size
     have hk':(k:Int)<2:=by omega
     have hcz:cur.length+z.length≤1000000∧((k=0∧cur++z=x)∨(k=1∧cur++z=x++y)):=by
      have q:=HC.out
      have q1:=HLX.out
      have q2:=HLY.out
      rcases h4 with ⟨e1,e2,e3⟩ | ⟨e1,e2,e3⟩
      ·rw [q.1 e1,e3]
       exact ⟨by show 0+_≤_;omega,.inl ⟨e1,rfl⟩⟩
      ·rw [q.2.1 e1,e3]
       exact ⟨by omega,.inr ⟨e1,rfl⟩⟩
     obtain ⟨av,cv,rfl⟩:=zs_len (zs_own hO)
     obtain ⟨v1,w2,hrun,own,hgrow,-⟩:=app_zones w.heap.size 29 (.slice av cur.length cv) (.slice a n c) cur.length w.heap.size (flatZ cur) z wr hO (h2.below hB) hcz.1 hB.size
     have hB2:=held_grown hB hB.size hO (Nat.le_refl _) hgrow
     have HRUN:=Lib.hid hrun
     have HOWN:=Lib.hid (show w2.ownsRow w.heap.size 27 6 v1 (cur++z).length (flatZ (cur++z)) by rw [List.length_append,flatZ_app];exact own)
     have HCZ:=Lib.hid hcz
     clear h1 h2 h3 h4 hrun own hgrow hO hcz hB
     generalize cur.length=m at HRUN ⊢
     go_wp2_with (at_builtin;refine dref.append_run2 rfl (.tmp 31) (.tmp 32) 29 rfl _ _ _ _ rfl rfl HRUN.out ?_;clear HRUN)
     go_roundw
     case rel=>
      have q:=HCZ.out
      exact ⟨k+1,cur++z,by omega,by go_num,hB2,HOWN.out,Lib.hid ⟨fun e=>by omega,fun e=>by rcases q.2 with ⟨_,q⟩ | ⟨q,_⟩;exact q;omega,fun e=>by rcases q.2 with ⟨q,_⟩ | ⟨_,q⟩;omega;exact q⟩⟩
     case measure=>simp [intOf];omega
    ·have hk2:k=2:=by omega
     have hk':¬ (k:Int)<2:=by omega
     have e:=HC.out.2.2 hk2
     rw [e] at hO
     have HOW:=Lib.hid hO
     clear hO e
     go_wp2_with fail
     go_ret
     have hO:=HOW.out
     rw [List.length_append] at hO
     exact ⟨_,rfl,hO,hB⟩
end Go.Proofs.YthmljpccbjolgaaGreatDoor.cover
namespace Go.Proofs.YthmljpccbjolgaaGreatDoor.cover
open Go.Joins Go.ChangeShapes Go.WideShapes Go.ChangeAt Go.RowKit num rat dbm Go.Proofs.YthmljpccbjolgaaGreatDoor.tight Go.Proofs.YthmljpccbjolgaaGreatDoor.incl Go.Proofs.YthmljpccbjolgaaGreatDoor.plaw Go.Proofs.YthmljpccbjolgaaGreatDoor.zopen Go.Proofs.YthmljpccbjolgaaGreatDoor.zone Go.Proofs.YthmljpccbjolgaaGreatDoor.win Go.Proofs.YthmljpccbjolgaaGreatDoor.minus Go.Proofs.YthmljpccbjolgaaGreatDoor.mz Go.Proofs.YthmljpccbjolgaaGreatDoor.mlaw
open bound hiding up
set_option linter.unusedVariables false
set_option linter.unusedSimpArgs false
set_option linter.unusedSectionVars false
theorem chk_turn {a b:List (List Int)} {f:Int} (h:ChkR a b f):ChkR b a f:=by
 rcases h with ⟨h | h,k⟩ | ⟨h1,h2,h3,h4⟩ | ⟨h1,h2,h3,h4,h5⟩
 ·exact .inl ⟨.inr h,k⟩
 ·exact .inl ⟨.inl h,k⟩
 ·exact .inr (.inl ⟨h2,h1,fun q=>h3 ⟨q.2,q.1⟩,h4⟩)
 ·exact .inr (.inr ⟨h2,h1,h4,h3,h5⟩)
theorem chk_fine {a b:List (List Int)} (h:ChkR a b 0):a.length≤4096∧b.length≤4096∧(∀ x,x ∈ a→MayZ x)∧∀ x,x ∈ b→MayZ x:=by
 rcases h with ⟨_,k⟩ | ⟨_,_,_,k⟩ | ⟨h1,h2,h3,h4,_⟩
 ·cases k
 ·cases k
 ·exact ⟨h1,h2,h3,h4⟩
theorem six_self {z:List Int} (hz:z.length=6) (tz:Tops z):Six [z]:=six_one hz tz
def May1 (w:World) (z:List Int) (v:Value) (l:List (List Int)):Prop:=Pl w∧Tops z∧Zs w.heap.size w v l∧Six l
set_option maxRecDepth 100000 in
set_option maxHeartbeats 8000000 in
theorem in_gen (z0 z1 z2 z3 z4 z5:Int) (ao:Option Addr) (len cap:Nat) (l:List (List Int)) (w:World) (hZ:len≤4096→May1 w [z0,z1,z2,z3,z4,z5] (.slice ao len cap) l) (hl:l.length=len):
  Calls Tryz.prog 39 #[.agg #[.int .i64 z0,.int .i64 z1,.int .i64 z2,.int .i64 z3,.int .i64 z4,.int .i64 z5],.slice ao len cap] w fun e w'=>Below w.heap.size w w'∧∃ (is:Bool) (f:Int),e=.returned (.tuple #[.bool is,.int .i64 f])∧InX RestP [z0,z1,z2,z3,z4,z5] l is f:=by
 obtain ⟨w0,hX⟩:∃ w0,w0=((w.alloc (.cells #[.int .i64 z0,.int .i64 z1,.int .i64 z2,.int .i64 z3,.int .i64 z4,.int .i64 z5] 27)).alloc (.cells #[.int .i64 z0,.int .i64 z1,.int .i64 z2,.int .i64 z3,.int .i64 z4,.int .i64 z5] 27)).alloc (.cells #[.slice (some ⟨w.heap.size+1,0,none⟩) 1 1,.slice ao len cap] 29):=⟨_,rfl⟩
 have DB:Below w.heap.size w w0:=by rw [hX];exact bound.up3 _ _ _ _
 have D0:lies.Lies w0 w.heap.size 27 #[.int .i64 z0,.int .i64 z1,.int .i64 z2,.int .i64 z3,.int .i64 z4,.int .i64 z5]:=by rw [hX];exact lies.on_alloc (lies.on_alloc (lies.made _ _ _) _) _
 have D1:lies.Lies w0 (w.heap.size+1) 27 #[.int .i64 z0,.int .i64 z1,.int .i64 z2,.int .i64 z3,.int .i64 z4,.int .i64 z5]:=by rw [hX];exact lies.on_alloc (lies.made_at _ _ _ _ (by simp)) _
 have D2:lies.Lies w0 (w.heap.size+1+1) 29 #[.slice (some ⟨w.heap.size+1,0,none⟩) 1 1,.slice ao len cap]:=by rw [hX];exact lies.made_at _ _ _ _ (by simp)
 have HZ:=Lib.hid hZ
 have HL:=Lib.hid hl
 clear hZ hl
 go_enter Tryz.func39,Tryz.ntmps39
 go_wp2_with fail
 rw [←hX]
 clear hX
 refine (check_two _ (some ⟨w.heap.size+1,0,none⟩) 1 1 ao len cap [[z0,z1,z2,z3,z4,z5]] l w0 D2 (fun _ h=>⟨(HZ.out h).1.on DB,⟨zs_box D1,six_self rfl (HZ.out h).2.1⟩,((HZ.out h).2.2.1.below DB).mono DB.size,(HZ.out h).2.2.2⟩) rfl HL.out).mono ?_
 rintro e w1 ⟨hB,f,rfl,hR⟩
 replace D0:=lies.on_call D0 hB
 replace DB:=later DB hB
 clear hB D1 D2
 by_cases h0:f=0
 ·subst h0
  obtain ⟨h1,h2,h3,h4⟩:=chk_fine hR
  have HR:=Lib.hid (chk_turn hR)
  have HM1:=Lib.hid (h3 _ List.mem_cons_self)
  have HM2:=Lib.hid h4
  have h2:len≤4096:=by rw [←HL.out];exact h2
  obtain ⟨P0,ta,hI,h6⟩:=HZ.out h2
  replace P0:=P0.on DB
  have HTA:=Lib.hid ta
  have HI:=Lib.hid hI
  have H6:=Lib.hid h6
  clear ta hI h6 HZ hR h1 h3 h4
  obtain ⟨⟨x0,x1,x2,x3,x4,x5⟩,-,xl⟩:=six_cells D0
  go_wp2_with fail
  clear x0 x1 x2 x3 x4 x5 xl D0
  refine (covered_any z0 z1 z2 z3 z4 z5 ao len cap l w1 P0 HTA.out ((HI.out.below DB).mono DB.size) H6.out HL.out (by omega) HM1.out HM2.out).mono ?_
  rintro e w2 ⟨hB,is,f,rfl,hC⟩
  have HC:=Lib.hid hC
  replace DB:=later DB hB
  clear hC hB
  go_wp2_with fail
  exact bodyPost_ret (v:=.tuple #[.bool is,.int .i64 f]) (by simp [results,Tryz.results39,go_sem]) rfl ⟨DB,is,f,rfl,0,HR.out,.inr ⟨rfl,HC.out⟩⟩
 ·have HR:=Lib.hid (chk_turn hR)
  clear hR D0
  go_wp2_with fail
  exact bodyPost_ret (v:=.tuple #[.bool false,.int .i64 f]) (by simp [results,Tryz.results39,go_sem]) rfl ⟨DB,false,f,rfl,f,HR.out,.inl ⟨h0,rfl,rfl⟩⟩
theorem in_any (z0 z1 z2 z3 z4 z5:Int) (ao:Option Addr) (len cap:Nat) (l:List (List Int)) (w:World) (hP:Pl w) (ta:Tops [z0,z1,z2,z3,z4,z5]) (hI:Zs w.heap.size w (.slice ao len cap) l) (h6:Six l) (hl:l.length=len) (hm:len≤1000000):Calls Tryz.prog 39 #[.agg #[.int .i64 z0,.int .i64 z1,.int .i64 z2,.int .i64 z3,.int .i64 z4,.int .i64 z5],.slice ao len cap] w fun e w'=>Below w.heap.size w w'∧∃ (is:Bool) (f:Int),e=.returned (.tuple #[.bool is,.int .i64 f])∧InX RestP [z0,z1,z2,z3,z4,z5] l is f:=
 in_gen z0 z1 z2 z3 z4 z5 ao len cap l w (fun _=>⟨hP,ta,hI,h6⟩) hl
set_option maxRecDepth 100000 in
set_option maxHeartbeats 8000000 in
theorem witness_gen (z0 z1 z2 z3 z4 z5:Int) (ao:Option Addr) (len cap:Nat) (l:List (List Int)) (w:World) (hZ:len≤4096→May1 w [z0,z1,z2,z3,z4,z5] (.slice ao len cap) l) (hl:l.length=len):
  Calls Tryz.prog 45 #[.agg #[.int .i64 z0,.int .i64 z1,.int .i64 z2,.int .i64 z3,.int .i64 z4,.int .i64 z5],.slice ao len cap] w fun e w'=>Below w.heap.size w w'∧∃ (a b c d f:Int),e=.returned (.tuple #[.agg #[.int .i64 a,.int .i64 b,.int .i64 c,.int .i64 d],.int .i64 f])∧WitX RestP [z0,z1,z2,z3,z4,z5] l (a,b,c,d) f:=by
 obtain ⟨w0,hX⟩:∃ w0,w0=(((w.alloc (.cells #[.int .i64 z0,.int .i64 z1,.int .i64 z2,.int .i64 z3,.int .i64 z4,.int .i64 z5] 27)).alloc (.cells #[.int .i64 0,.int .i64 0,.int .i64 0,.int .i64 0] 47)).alloc (.cells #[.int .i64 z0,.int .i64 z1,.int .i64 z2,.int .i64 z3,.int .i64 z4,.int .i64 z5] 27)).alloc (.cells #[.slice (some ⟨w.heap.size+1+1,0,none⟩) 1 1,.slice ao len cap] 29):=⟨_,rfl⟩
 have DB:Below w.heap.size w w0:=by rw [hX];exact lies.frame_up (bound.up3 _ _ _ _) _
 have D0:lies.Lies w0 w.heap.size 27 #[.int .i64 z0,.int .i64 z1,.int .i64 z2,.int .i64 z3,.int .i64 z4,.int .i64 z5]:=by rw [hX];exact lies.on_alloc (lies.on_alloc (lies.on_alloc (lies.made _ _ _) _) _) _
 have DP:lies.Lies w0 (w.heap.size+1) 47 #[.int .i64 0,.int .i64 0,.int .i64 0,.int .i64 0]:=by rw [hX];exact lies.on_alloc (lies.on_alloc (lies.made_at _ _ _ _ (by simp)) _) _
 have D1:lies.Lies w0 (w.heap.size+1+1) 27 #[.int .i64 z0,.int .i64 z1,.int .i64 z2,.int .i64 z3,.int .i64 z4,.int .i64 z5]:=by rw [hX];exact lies.on_alloc (lies.made_at _ _ _ _ (by simp)) _
 have D2:lies.Lies w0 (w.heap.size+1+1+1) 29 #[.slice (some ⟨w.heap.size+1+1,0,none⟩) 1 1,.slice ao len cap]:=by rw [hX];exact lies.made_at _ _ _ _ (by simp)
 have HZ:=Lib.hid hZ
 have HL:=Lib.hid hl
 clear hZ hl
 go_enter Tryz.func45,Tryz.ntmps45
 go_wp2_with fail
 rw [←hX]
 clear hX
 refine (check_two _ (some ⟨w.heap.size+1+1,0,none⟩) 1 1 ao len cap [[z0,z1,z2,z3,z4,z5]] l w0 D2 (fun _ h=>⟨(HZ.out h).1.on DB,⟨zs_box D1,six_self rfl (HZ.out h).2.1⟩,((HZ.out h).2.2.1.below DB).mono DB.size,(HZ.out h).2.2.2⟩) rfl HL.out).mono ?_
 rintro e w1 ⟨hB,f,rfl,hR⟩
 replace D0:=lies.on_call D0 hB
 replace DP:=lies.on_call DP hB
 replace DB:=later DB hB
 clear hB D1 D2
 by_cases h0:f=0
 ·subst h0
  obtain ⟨h1,h2,h3,h4⟩:=chk_fine hR
  have HR:=Lib.hid (chk_turn hR)
  have HM1:=Lib.hid (h3 _ List.mem_cons_self)
  have HM2:=Lib.hid h4
  have h2:len≤4096:=by rw [←HL.out];exact h2
  obtain ⟨P0,ta,hI,h6⟩:=HZ.out h2
  replace P0:=P0.on DB
  have HTA:=Lib.hid ta
  have HI:=Lib.hid hI
  have H6:=Lib.hid h6
  clear ta hI h6 HZ hR h1 h3 h4
  obtain ⟨⟨x0,x1,x2,x3,x4,x5⟩,-,xl⟩:=six_cells D0
  go_wp2_with fail
  clear x0 x1 x2 x3 x4 x5 xl D0
  refine (left_any z0 z1 z2 z3 z4 z5 ao len cap l w1 P0 HTA.out ((HI.out.below DB).mono DB.size) H6.out HL.out (by omega)).mono ?_
  rintro e w2 ⟨hB,v,r,g,rfl,hC,hO⟩
  replace DP:=lies.on_call DP hB
  replace P0:=P0.on hB
  replace DB:=later DB hB
  clear hB
  obtain ⟨av,cv,rfl⟩:=zs_len (zs_own hO)
  have hr:RestP l [[z0,z1,z2,z3,z4,z5]] r g:=by
   rcases hC with ⟨k,_⟩ | ⟨_,_,k⟩
   ·exact (k ⟨HM1.out,HM2.out⟩).elim
   ·exact k
  have HC:=Lib.hid hr
  clear hr hC
  by_cases hg:g=0
  ·subst hg
   have hzo:=rest_zo l (H6.out.zo HM2.out) (fun z hz=>by rw [List.mem_singleton.1 hz];exact ⟨HM1.out,HTA.out,rfl⟩) (restP_ok l (H6.out.zo HM2.out) (fun z hz=>by rw [List.mem_singleton.1 hz];exact ⟨HM1.out,HTA.out,rfl⟩) HC.out)
   have hzs:=zs_own hO
   generalize hmm:r.length=m at hzs ⊢
   have HMM:=Lib.hid hmm
   clear hO hmm
   by_cases hm0:m=0
   ·subst hm0
    clear hzs hzo P0
    obtain ⟨⟨x0,x1,x2,x3⟩,⟨y0,y1,y2,y3⟩,xl⟩:=four_cells DP
    go_wp2_with fail
    exact bodyPost_ret (v:=.tuple #[.agg #[.int .i64 0,.int .i64 0,.int .i64 0,.int .i64 0],.int .i64 6]) (by simp [results,Tryz.results45,go_sem,x0,x1,x2,x3,xl]) rfl ⟨put_four DB (Nat.le_succ _) _ _ _ _,0,0,0,0,6,rfl,0,HR.out,.inr ⟨rfl,r,0,HC.out,.inr (.inl ⟨rfl,List.length_eq_zero_iff.1 HMM.out,rfl,rfl⟩)⟩⟩
   ·have hm1:¬ (m:Int)=0:=by omega
    have hm2:(0:Int)<m:=by omega
    have h0r:0<r.length:=by rw [HMM.out];omega
    obtain ⟨bq,off,rfl,-,hb,c0,c1,c2,c3,c4,c5⟩:=zs_at hzs h0r
    have hz:=hzo _ (zat_mem h0r)
    have HZZ:=Lib.hid (show ∀ z,zat r 0=z→pks 3 (fullT z)=pks 3 (fullT (zat r 0)) from fun z e=>by rw [e])
    generalize hz0:zat r 0=zk at c0 c1 c2 c3 c4 c5 hz
    have HZ0:=Lib.hid (HZZ.out _ hz0)
    clear hz0 HZZ hzo hzs h0r
    obtain ⟨t0,t1,t2,t3,t4,t5,rfl⟩:=six hz.2.2
    rw [Nat.zero_mul,Nat.add_zero] at c0 c1 c2 c3 c4 c5
    have c0:w2.cell? ⟨bq,off,none⟩=some (.int .i64 t0):=c0
    have c1:w2.cell? ⟨bq,off+1,none⟩=some (.int .i64 t1):=c1
    have c2:w2.cell? ⟨bq,off+2,none⟩=some (.int .i64 t2):=c2
    have c3:w2.cell? ⟨bq,off+3,none⟩=some (.int .i64 t3):=c3
    have c4:w2.cell? ⟨bq,off+4,none⟩=some (.int .i64 t4):=c4
    have c5:w2.cell? ⟨bq,off+5,none⟩=some (.int .i64 t5):=c5
    have HZO:=Lib.hid hz
    clear hz
    go_wp2_with fail
    clear c0 c1 c2 c3 c4 c5
    refine (zpick_any t0 t1 t2 t3 t4 t5 w2 P0 HZO.out.2.1).mono ?_
    rintro e w3 ⟨hB,a,b,c,d,f,rfl,hK⟩
    replace DP:=lies.on_call DP hB
    replace DB:=later DB hB
    clear hB P0
    have hpk:pks 3 (fullT [t0,t1,t2,t3,t4,t5])=[(a,b),(c,d)]∧f=0:=by
     rcases hK with ⟨k,_⟩ | ⟨_,k⟩
     ·exact (k HZO.out.1).elim
     ·exact k
    obtain ⟨hpk,rfl⟩:=hpk
    have HPK:=Lib.hid hpk
    clear hpk hK
    obtain ⟨⟨x0,x1,x2,x3⟩,⟨y0,y1,y2,y3⟩,xl⟩:=four_cells DP
    go_wp2_with fail
    exact bodyPost_ret (v:=.tuple #[.agg #[.int .i64 a,.int .i64 b,.int .i64 c,.int .i64 d],.int .i64 0]) (by simp [results,Tryz.results45,go_sem,x0,x1,x2,x3,xl]) rfl ⟨put_four DB (Nat.le_succ _) _ _ _ _,a,b,c,d,0,rfl,0,HR.out,.inr ⟨rfl,r,0,HC.out,.inr (.inr ⟨rfl,fun e=>hm0 (by rw [←HMM.out,e];rfl),by rw [←HZ0.out];exact HPK.out,rfl⟩)⟩⟩
  ·clear hO P0
   obtain ⟨⟨x0,x1,x2,x3⟩,⟨y0,y1,y2,y3⟩,xl⟩:=four_cells DP
   go_wp2_with fail
   exact bodyPost_ret (v:=.tuple #[.agg #[.int .i64 0,.int .i64 0,.int .i64 0,.int .i64 0],.int .i64 g]) (by simp [results,Tryz.results45,go_sem,x0,x1,x2,x3,xl]) rfl ⟨put_four DB (Nat.le_succ _) _ _ _ _,0,0,0,0,g,rfl,0,HR.out,.inr ⟨rfl,r,g,HC.out,.inl ⟨hg,rfl,rfl⟩⟩⟩
 ·have HR:=Lib.hid (chk_turn hR)
  clear hR D0
  obtain ⟨⟨x0,x1,x2,x3⟩,⟨y0,y1,y2,y3⟩,xl⟩:=four_cells DP
  go_wp2_with fail
  exact bodyPost_ret (v:=.tuple #[.agg #[.int .i64 0,.int .i64 0,.int .i64 0,.int .i64 0],.int .i64 f]) (by simp [results,Tryz.results45,go_sem,x0,x1,x2,x3,xl]) rfl ⟨put_four DB (Nat.le_succ _) _ _ _ _,0,0,0,0,f,rfl,f,HR.out,.inl ⟨h0,rfl,rfl⟩⟩
theorem witness_any (z0 z1 z2 z3 z4 z5:Int) (ao:Option Addr) (len cap:Nat) (l:List (List Int)) (w:World) (hP:Pl w) (ta:Tops [z0,z1,z2,z3,z4,z5]) (hI:Zs w.heap.size w (.slice ao len cap) l) (h6:Six l) (hl:l.length=len) (hm:len≤1000000):Calls Tryz.prog 45 #[.agg #[.int .i64 z0,.int .i64 z1,.int .i64 z2,.int .i64 z3,.int .i64 z4,.int .i64 z5],.slice ao len cap] w fun e w'=>Below w.heap.size w w'∧∃ (a b c d f:Int),e=.returned (.tuple #[.agg #[.int .i64 a,.int .i64 b,.int .i64 c,.int .i64 d],.int .i64 f])∧WitX RestP [z0,z1,z2,z3,z4,z5] l (a,b,c,d) f:=
 witness_gen z0 z1 z2 z3 z4 z5 ao len cap l w (fun _=>⟨hP,ta,hI,h6⟩) hl
end Go.Proofs.YthmljpccbjolgaaGreatDoor.cover
namespace Go.Proofs.YthmljpccbjolgaaGreatDoor.cover
open Go.Joins Go.ChangeShapes Go.WideShapes Go.ChangeAt Go.RowKit num rat dbm Go.Proofs.YthmljpccbjolgaaGreatDoor.tight Go.Proofs.YthmljpccbjolgaaGreatDoor.incl Go.Proofs.YthmljpccbjolgaaGreatDoor.plaw Go.Proofs.YthmljpccbjolgaaGreatDoor.zopen Go.Proofs.YthmljpccbjolgaaGreatDoor.zone Go.Proofs.YthmljpccbjolgaaGreatDoor.win Go.Proofs.YthmljpccbjolgaaGreatDoor.minus Go.Proofs.YthmljpccbjolgaaGreatDoor.mz Go.Proofs.YthmljpccbjolgaaGreatDoor.mlaw
open bound hiding up
set_option linter.unusedVariables false
set_option linter.unusedSimpArgs false
set_option linter.unusedSectionVars false
theorem compact_nil (w:World):Calls Tryz.prog 82 #[.slice none 0 0] w fun e w'=>e=.returned (.slice none 0 0)∧w'=w:=by
 go_enter Tryz.func82,Tryz.ntmps82
 go_wp2_with fail
 go_ret
 exact ⟨rfl,rfl⟩
theorem sort_own (base n:Nat) (v:Value) (zs:List (List Int)) (w:World) (hO:w.ownsRow base 27 6 v n (flatZ zs)) (h6:∀ z,z ∈ zs→z.length=6) (hm:n≤1000000) (hb:base≤w.heap.size):
  Calls Tryz.prog 81 #[v,.func (.func 49) #[] #[]] w fun e w'=>e=.returned (.tuple #[])∧Below base w w'∧∃ ys:List (List Int),ys.Perm zs∧(ys.Pairwise fun x y=>cmpL x y≤0)∧w'.ownsRow base 27 6 v n (flatZ ys):=by
 rcases ownsRow_forms hO with ⟨rfl,rfl⟩ | ⟨g,cap,rfl⟩
 ·refine (sort_none none 0 _ w).mono ?_
  rintro e w' ⟨rfl,rfl⟩
  have e0:zs=[]:=List.eq_nil_of_length_eq_zero (by have:=hO.1;rw [flatZ_length] at this;omega)
  exact ⟨rfl,Below.refl _ _,zs,List.Perm.refl _,by rw [e0];exact List.Pairwise.nil,hO⟩
 ·exact sort_zones base g n cap zs w hO h6 hm
theorem compact_own (base n:Nat) (v:Value) (zs:List (List Int)) (w:World) (hO:w.ownsRow base 27 6 v n (flatZ zs)) (h6:∀ z,z ∈ zs→z.length=6) (hm:n≤1000000):
  Calls Tryz.prog 82 #[v] w fun e w'=>Below base w w'∧∃ v',e=.returned v'∧w'.ownsRow base 27 6 v' (cpt zs zs.length).length (flatZ (cpt zs zs.length)):=by
 rcases ownsRow_forms hO with ⟨rfl,rfl⟩ | ⟨g,cap,rfl⟩
 ·refine (compact_nil w).mono ?_
  rintro e w' ⟨rfl,rfl⟩
  have e0:zs=[]:=List.eq_nil_of_length_eq_zero (by have:=hO.1;rw [flatZ_length] at this;omega)
  subst e0
  exact ⟨Below.refl _ _,_,rfl,hO⟩
 ·refine (compact_zones base g n cap zs w hO h6 hm).mono ?_
  rintro e w' ⟨hB,rfl,hO'⟩
  exact ⟨hB,_,rfl,hO'⟩
theorem own_cap {W:World} {base n g cap size:Nat} {e:TypeId} {xs:List Value} (h:W.ownsRow base e size (.slice (some ⟨g,0,none⟩) n cap) n xs):n≤cap∧cap≤maxLen:=by
 obtain ⟨_,_,_,a,b,_⟩:=own_get h
 exact ⟨a,b⟩
def Wsh (l:List (List Int)) (k:Nat) (cur:List (List Int)):Prop:=(∀ x,x ∈ cur→Zo x)∧∀ r f,Want RestP k cur r f→Want RestP (srt l).length (srt l) r f
theorem Wsh.err {l cur n:List (List Int)} {j:Nat} {f:Int} (h:Wsh l (j+1) cur) (hr:RestP (cur.eraseIdx j) [zat cur j] n f) (hf:f≠0):Want RestP (srt l).length (srt l) [] f:=h.2 _ _ ⟨n,f,hr,.inl ⟨hf,rfl,rfl⟩⟩
theorem Wsh.out {l cur n:List (List Int)} {j:Nat} (h:Wsh l (j+1) cur) (hr:RestP (cur.eraseIdx j) [zat cur j] n 0) (hn:n=[]):Wsh l j (cur.eraseIdx j):=
 ⟨fun x hx=>h.1 x (era_sub cur j x hx),fun r f q=>h.2 r f ⟨n,0,hr,.inr ⟨rfl,.inl ⟨hn,q⟩⟩⟩⟩
theorem Wsh.stay {l cur n:List (List Int)} {j:Nat} (h:Wsh l (j+1) cur) (hr:RestP (cur.eraseIdx j) [zat cur j] n 0) (hn:n≠[]):Wsh l j cur:=
 ⟨h.1,fun r f q=>h.2 r f ⟨n,0,hr,.inr ⟨rfl,.inr ⟨hn,q⟩⟩⟩⟩
def Zano (R:List (List Int)→Int→Prop) (w:World) (e:Ending) (w':World):Prop:=Below w.heap.size w w'∧∃ v r f,e=.returned (.tuple #[v,.int .i64 f])∧R r f∧w'.ownsRow w.heap.size 27 6 v r.length (flatZ r)∧(f≠0→v=.slice none 0 0)
set_option maxRecDepth 100000 in
set_option maxHeartbeats 16000000 in
theorem prune_gen (ao:Option Addr) (len cap:Nat) (l:List (List Int)) (w:World) (hZ:len≤4096→Pl w∧Zs w.heap.size w (.slice ao len cap) l∧Six l) (hl:l.length=len):
  Calls Tryz.prog 43 #[.slice ao len cap] w (Zano (PruX RestP l) w):=by
 obtain ⟨w0,hX⟩:∃ w0,w0=w.alloc (.cells #[.slice ao len cap] 29):=⟨_,rfl⟩
 have DB:Below w.heap.size w w0:=by rw [hX];exact bound.up1 _ _
 have D0:lies.Lies w0 w.heap.size 29 #[.slice ao len cap]:=by rw [hX];exact lies.made _ _ _
 have HZ:=Lib.hid hZ
 have HL:=Lib.hid hl
 clear hZ hl
 go_enter Tryz.func43,Tryz.ntmps43
 go_wp2_with fail
 rw [←hX]
 clear hX
 refine (check_one _ ao len cap l w0 D0 (fun h=>⟨(HZ.out h).1.on DB,((HZ.out h).2.1.below DB).mono DB.size,(HZ.out h).2.2⟩) HL.out).mono ?_
 rintro e w1 ⟨hB,f,rfl,hR⟩
 replace DB:=later DB hB
 clear hB D0
 by_cases h0:f=0
 ·subst h0
  obtain ⟨h1,-,h3,-⟩:=chk_fine hR
  have HR:=Lib.hid hR
  have h1:len≤4096:=by rw [←HL.out];exact h1
  obtain ⟨P0,hI,h6⟩:=HZ.out h1
  have HP:=Lib.hid P0
  have HI:=Lib.hid hI
  have H6:=Lib.hid h6
  have HML:=Lib.hid (h6.zo h3)
  clear P0 hI h6 HZ hR h3
  go_wp2_with fail
  refine (clone_zones ao len cap l w1 ((HI.out.below DB).mono DB.size) HL.out (by omega)).mono ?_
  rintro e w2 ⟨v,rfl,hO,hB⟩
  have hO:=own_far hO DB.size (fun _ _ _ q=>q)
  replace DB:=later DB hB
  clear hB
  go_wp2_with fail
  refine (sort_own w.heap.size l.length v l w2 hO (fun z hz=>(H6.out z hz).1) (by rw [HL.out];omega) DB.size).mono ?_
  rintro e w3 ⟨rfl,hB,ys,hp,hs,hO2⟩
  replace DB:=DB.trans hB
  clear hB hO
  have hyl:ys.length=l.length:=hp.length_eq
  have HY:=Lib.hid (cpt_is hs hp)
  have HY6:=Lib.hid (show ∀ z,z ∈ ys→z.length=6 from fun z hz=>(H6.out z (hp.mem_iff.1 hz)).1)
  have hlen:l.length=len:=HL.out
  clear hs hp
  go_wp2_with fail
  refine (compact_own w.heap.size l.length v ys w3 hO2 HY6.out (by omega)).mono ?_
  rintro e w4 ⟨hB,v1,rfl,hO3⟩
  replace DB:=DB.trans hB
  rw [HY.out] at hO3
  clear hB hO2 HY HY6
  have hsl:=srt_len l
  have HW:=Lib.hid (show Wsh l (srt l).length (srt l) from ⟨fun x hx=>HML.out x ((srt_mem l x).1 hx),fun r f q=>q⟩)
  obtain ⟨cur,hcur⟩:∃ cur,cur=srt l:=⟨_,rfl⟩
  have HW2:RowKit.Hid (Wsh l cur.length cur):=Lib.hid (by rw [hcur];exact HW.out)
  rw [←hcur] at hO3 hsl
  clear HW hcur
  obtain ⟨av,cv,rfl⟩:=zs_len (zs_own hO3)
  obtain ⟨m,hm⟩:∃ m,m=cur.length:=⟨_,rfl⟩
  rw [←hm] at hO3 hsl HW2 ⊢
  have HM:=Lib.hid hm
  clear hm
  have hwm:wrap64 ((m:Int) - 1)=(m:Int) - 1:=IntWalk.wrap64_in _ ⟨by omega,by omega⟩
  have hwm2:IntKind.i64.wrap ((m:Int) - 1)=(m:Int) - 1:=IntWalk.i64_in _ ⟨by omega,by omega⟩
  have hm4:m≤4096:=by omega
  clear hsl hyl hlen
  go_wp2_with fail
  clear hwm hwm2
  go_loopw [6,5] (fun i v wr=>∃ (k m:Nat) (iv:Int) (cur:List (List Int)),i=.int .i64 iv∧iv+1=(k:Int)∧k≤m∧m≤4096∧m=cur.length∧Below w.heap.size w wr∧wr.ownsRow w.heap.size 27 6 v m (flatZ cur)∧RowKit.Hid (Wsh l k cur)) (fun i _ _=>(intOf i+1).toNat)
  case atStart=>exact ⟨m,m,(m:Int) - 1,cur,(by first | rfl | (simp only [Value.int.injEq,true_and];omega)),by omega,Nat.le_refl _,hm4,HM.out,DB,hO3,HW2⟩
  case round=>
   clear DB hO3 HW2 HM hm4
   obtain ⟨k,m,iv,cur,rfl,hiv,hkm,hm4,hmc,DB,hO,HW⟩:=hrel
   cases k with
   | zero=>
    have hiv:¬ (0:Int)≤iv:=by omega
    obtain ⟨a3,c3,hv⟩:=zs_len (zs_own hO)
    rw [←hmc] at hv
    subst hv
    have HM:=Lib.hid hmc
    have HOW:=Lib.hid hO
    clear hmc hO
    go_wp2_with fail
    refine bodyPost_ret (v:=.tuple #[.slice a3 m c3,.int .i64 0]) (by simp [results,Tryz.results43,go_sem]) rfl ⟨DB,_,cur,0,rfl,⟨0,HR.out,.inr ⟨rfl,HW.out.2 _ _ ⟨rfl,rfl⟩⟩⟩,?_,fun h=>absurd rfl h⟩
    rw [←HM.out]
    exact HOW.out
   | succ j=>
    have hj:iv=(j:Int):=by omega
    subst hj
    rcases ownsRow_forms hO with ⟨rfl,h⟩ | ⟨g,cap1,rfl⟩
    ·omega
    have hmcap:=own_cap hO
    have hjm:j<m:=by omega
    have hj0:(0:Int)≤(j:Int):=by omega
    have hjm':(j:Int)<(m:Int):=by omega
    have hVR:=zs_own hO
    have hgl:=(hO.lt g rfl).2
    have HM:=Lib.hid hmc
    have HOW:=Lib.hid hO
    have HVR:=Lib.hid (show Zs wr.heap.size wr (.slice (some ⟨g,0,none⟩) cur.length cap1) cur by rw [←hmc];exact hVR)
    have hjc:j<cur.length:=by omega
    have hz:=HW.out.1 _ (zat_mem hjc)
    obtain ⟨J1,hJ1⟩:∃ x,x=j+1:=⟨_,rfl⟩
    have hji:(j:Int)+1=(J1:Int):=by omega
    have hJb:J1≤4096:=by omega
    have hJm:J1≤m:=by omega
    have hJc:J1≤cap1:=Nat.le_trans hJm hmcap.1
    have hbd:-9223372036854775808≤(J1:Int)∧(J1:Int)≤9223372036854775807:=⟨by omega,by omega⟩
    have hf4:(0:Int)≤(J1:Int):=Int.natCast_nonneg _
    have hf5:(J1:Int)≤(m:Int):=Int.ofNat_le.2 hJm
    have hf6:(J1:Int)≤(cap1:Int):=Int.ofNat_le.2 hJc
    have hf7:(j:Int)≤(cap1:Int):=Int.ofNat_le.2 (by omega)
    have hjl:J1+(m - J1)=m:=by omega
    have hwj:=Lib.hid (show wrap64 ((j:Int)+1)=(J1:Int) by rw [hji];exact IntWalk.wrap64_in _ hbd)
    have hwj2:=Lib.hid (show IntKind.i64.wrap ((j:Int)+1)=(J1:Int) by rw [hji];exact IntWalk.i64_in _ hbd)
    have hbk:-9223372036854775808≤(j:Int) - 1∧(j:Int) - 1≤9223372036854775807:=⟨by omega,by omega⟩
    have hwk:=Lib.hid (show wrap64 ((j:Int) - 1)=(j:Int) - 1 from IntWalk.wrap64_in _ hbk)
    have hwk2:=Lib.hid (show IntKind.i64.wrap ((j:Int) - 1)=(j:Int) - 1 from IntWalk.i64_in _ hbk)
    clear hji hJb hbd hbk
    have HJ1:=Lib.hid hJ1
    have hE:cur.eraseIdx j=cur.take j++cur.drop J1:=by rw [hJ1];exact era_cut cur j
    have HE:=Lib.hid hE
    have HTK:=Lib.hid (show (cur.take j).length=j by rw [List.length_take];omega)
    have HDP:=Lib.hid (show (cur.drop J1).length=m - J1 by rw [List.length_drop];omega)
    have HSM:=Lib.hid (show j+(m - J1)≤1000000 by omega)
    have HS0:=Lib.hid (show m - J1≤1000000 by omega)
    clear hmc hO hVR hE hiv hkm hJ1
    by_cases hcq:J1=cap1
    ·obtain rfl:=hcq
     obtain rfl:J1=m:=by have:=HJ1.out;have:=hmcap.1;omega
     have hJ:=Lib.hid (show ∀ X,Below wr.heap.size wr X→Zs X.heap.size X (.slice (some ⟨g,0,none⟩) 0 0) (cur.drop J1) from fun X _=>zs_end (by simp) (by have:=HM.out;omega))
     replace hwj:=hwj.out
     replace hwj2:=hwj2.out
     go_wp2_with fail
     refine wp_region_held_drew (S:=Below wr.heap.size wr) (by kernel_rfl) (dbm.drawn1 (Below.refl _ _)) (fun hHeld=>?_)
     generalize wr.drew=wD at hHeld ⊢
     refine tk 0 (v:=?_) rfl hHeld ?_ ?_
     rotate_left
     ·intro w hSw;skip;go_simp;try with_reducible rfl
     try simp only [Act.put,sA,sB,sC,sD,sE,sF]
     refine tk 1 (v:=?_) rfl hHeld ?_ ?_
     rotate_left
     ·intro w hSw;skip;go_simp;try with_reducible rfl
     try simp only [Act.put,sA,sB,sC,sD,sE,sF]
     refine tk 2 (v:=?_) rfl hHeld ?_ ?_
     rotate_left
     ·intro w hSw;skip;go_simp;try with_reducible rfl
     try simp only [Act.put,sA,sB,sC,sD,sE,sF]
     refine tk 3 (v:=?_) rfl hHeld ?_ ?_
     rotate_left
     ·intro w hSw;skip;go_simp;try with_reducible rfl
     try simp only [Act.put,sA,sB,sC,sD,sE,sF]
     refine tk 4 (v:=?_) rfl hHeld ?_ ?_
     rotate_left
     ·intro w hSw;skip;go_simp;try with_reducible rfl
     try simp only [Act.put,sA,sB,sC,sD,sE,sF]
     refine tk 5 (v:=?_) rfl hHeld ?_ ?_
     rotate_left
     ·intro w hSw;skip;go_simp;try with_reducible rfl
     try simp only [Act.put,sA,sB,sC,sD,sE,sF]
     refine tk 6 (v:=?_) rfl hHeld ?_ ?_
     rotate_left
     ·intro w hSw;skip;go_simp;try with_reducible rfl
     try simp only [Act.put,sA,sB,sC,sD,sE,sF]
     refine wpAnyH_ready (rs:=[7]) (by kernel_rfl) (by simp) (AllReadyH.cons rfl (fun K hK=>?_) AllReadyH.nil)
     go_simp
     have D2:=lies.made wD 29 #[.slice (some ⟨g,0,none⟩) j J1,.slice (some ⟨g,0,none⟩) 0 0]
     have hAl:=hHeld.trans ((bound.up1 wD (.cells #[.slice (some ⟨g,0,none⟩) j J1,.slice (some ⟨g,0,none⟩) 0 0] 29)).mono hHeld.size)
     refine hK.out _ _ hAl (fun hNew=>?_)
     clear hAl
     clear hHeld hK K
     have hHeld:=hNew
     clear hNew
     try simp only [Act.put,sA,sB,sC,sD,sE,sF]
     generalize (World.heap wD).size=GB at D2 ⊢
     generalize World.alloc wD (.cells #[.slice (some ⟨g,0,none⟩) j J1,.slice (some ⟨g,0,none⟩) 0 0] 29)=wA at D2 hHeld ⊢
     refine wpAnyH_ready (rs:=[8]) (by kernel_rfl) (by simp) (AllReadyH.cons rfl (fun K hK=>?_) AllReadyH.nil)
     go_simp
     refine (concat_zones GB _ j J1 _ 0 0 (cur.take j) (cur.drop J1) wA D2 (zs_take (cap':=J1) ((HVR.out.below hHeld).mono hHeld.size) j (by omega)) (hJ.out wA hHeld) HTK.out (by have:=HDP.out;omega) (by omega)).mono ?_
     rintro e wB ⟨v2,rfl,hO2,hB2⟩
     have hO2:=own_far hO2 (Nat.le_trans DB.size hHeld.size) (fun _ _ _ q=>q)
     refine hK.out _ _ (hHeld.trans (hB2.mono hHeld.size)) (fun hNew=>?_)
     clear hB2
     clear hHeld hK K
     have hHeld:=hNew
     clear hNew
     try simp only [Act.put,sA,sB,sC,sD,sE,sF]
     refine tk 9 (v:=?_) rfl hHeld ?_ ?_
     rotate_left
     ·intro w hSw;skip;go_simp;try with_reducible rfl
     try simp only [Act.put,sA,sB,sC,sD,sE,sF]
     refine wpAnyH_done (by kernel_rfl) ?_ _
     rw [←HE.out] at hO2
     replace DB:=later DB hHeld
     replace HOW:=Lib.hid (incl.own_call HOW.out hHeld)
     replace HVR:=Lib.hid ((HVR.out.below hHeld).mono hHeld.size)
     replace hgl:=Nat.lt_of_lt_of_le hgl hHeld.size
     have P0:=HP.out.on DB
     clear hHeld D2 hJ hwj hwj2 hf4 hf5 hf6 hf7
     obtain ⟨a2,c2,rfl⟩:=zs_len (zs_own hO2)
     have hel:(cur.eraseIdx j).length=J1 - 1:=by rw [List.length_eraseIdx_of_lt hjc,←HM.out]
     have hI2:=zs_own hO2
     rw [hel] at hO2 hI2 ⊢
     have HO2:=Lib.hid hO2
     have HI2:=Lib.hid hI2
     obtain ⟨m1,hm1e⟩:∃ x,x=J1 - 1:=⟨_,rfl⟩
     rw [←hm1e] at HO2 HI2 hel ⊢
     have hm1b:m1≤1000000:=by omega
     have hm1c:m1≤4096:=by omega
     have hm1d:j≤m1:=by omega
     clear hm1e
     have HEL:=Lib.hid hel
     clear hO2 hI2 hel
     have HZE:=Lib.hid (show ∀ z,zat cur j=z→z=zat cur j from fun z e=>e.symm)
     generalize hzk:zat cur j=zk at hz
     have HZ2:=Lib.hid (HZE.out _ hzk)
     obtain ⟨z0,z1,z2,z3,z4,z5,rfl⟩:=six hz.2.2
     obtain ⟨c0,c1,c2',c3,c4,c5⟩:=zs_cells HVR.out hjc hzk
     rw [Nat.zero_add] at c0 c1 c2' c3 c4 c5
     have HZO:=Lib.hid hz
     clear hz hzk HZE
     go_wp2_with fail
     clear c0 c1 c2' c3 c4 c5
     have hcov:=covered_any z0 z1 z2 z3 z4 z5 a2 m1 c2 (cur.eraseIdx j) wB P0 HZO.out.2.1 HI2.out (fun x hx=>⟨(HW.out.1 x (era_sub cur j x hx)).2.2,(HW.out.1 x (era_sub cur j x hx)).2.1⟩) HEL.out hm1b HZO.out.1 (fun x hx=>(HW.out.1 x (era_sub cur j x hx)).1)
     refine Calls.mono hcov ?_
     clear hcov
     rintro e w5 ⟨hB,is,f,rfl,n,hn,his⟩
     replace DB:=later DB hB
     replace HOW:=Lib.hid (incl.own_call HOW.out hB)
     replace HO2:=Lib.hid (incl.own_call HO2.out hB)
     rw [HZ2.out] at hn
     have HN:=Lib.hid hn
     have HIS:=Lib.hid his
     clear hn his hB P0 hgl HVR HI2
     by_cases hf:f=0
     ·subst hf
      cases is with
      | true=>
       have hn0:n=[]:=(of_decide_eq_true HIS.out.symm).2
       have HW2:=Lib.hid (HW.out.out HN.out hn0)
       have hwj:=hwk.out
       have hwj2:=hwk2.out
       clear hn0 HW HN HIS
       go_wp2_with fail
       go_roundw
       case rel=>exact ⟨j,m1,(j:Int) - 1,cur.eraseIdx j,rfl,by omega,hm1d,hm1c,HEL.out.symm,DB,HO2.out,HW2⟩
       case measure=>simp [intOf]<;>omega
      | false=>
       have hn0:n≠[]:=fun e=>by
        have:=of_decide_eq_false HIS.out.symm
        exact this ⟨rfl,e⟩
       have HW2:=Lib.hid (HW.out.stay HN.out hn0)
       have hwj:=hwk.out
       have hwj2:=hwk2.out
       clear hn0 HW HN HIS
       go_wp2_with fail
       go_roundw
       case rel=>exact ⟨j,J1,(j:Int) - 1,cur,rfl,by omega,by omega,hm4,HM.out,DB,HOW.out,HW2⟩
       case measure=>simp [intOf]<;>omega
     ·go_wp2_with fail
      exact bodyPost_ret (v:=.tuple #[.slice none 0 0,.int .i64 f]) (by simp [results,Tryz.results43,go_sem]) rfl ⟨DB,_,[],f,rfl,⟨0,HR.out,.inr ⟨rfl,HW.out.err HN.out hf⟩⟩,World.ownsRow_nil _ _ _ _,fun _=>rfl⟩
    ·have hJ:=Lib.hid (show ∀ X,Below wr.heap.size wr X→Zs X.heap.size X (.slice (some ⟨g,J1*6,none⟩) (cur.length - J1) (cap1 - J1)) (cur.drop J1) from fun X k=>by
      have q:=zs_drop (cap':=cap1 - J1) ((HVR.out.below k).mono k.size) J1 (by have:=HM.out;omega)
      rwa [Nat.zero_add] at q)
     have hcq2:¬ cap1=J1:=fun e=>hcq e.symm
     rw [←HM.out] at hJ
     replace hwj:=hwj.out
     replace hwj2:=hwj2.out
     go_wp2_with fail
     refine wp_region_held_drew (S:=Below wr.heap.size wr) (by kernel_rfl) (dbm.drawn1 (Below.refl _ _)) (fun hHeld=>?_)
     generalize wr.drew=wD at hHeld ⊢
     refine tk 0 (v:=?_) rfl hHeld ?_ ?_
     rotate_left
     ·intro w hSw;skip;go_simp;try with_reducible rfl
     try simp only [Act.put,sA,sB,sC,sD,sE,sF]
     refine tk 1 (v:=?_) rfl hHeld ?_ ?_
     rotate_left
     ·intro w hSw;skip;go_simp;try with_reducible rfl
     try simp only [Act.put,sA,sB,sC,sD,sE,sF]
     refine tk 2 (v:=?_) rfl hHeld ?_ ?_
     rotate_left
     ·intro w hSw;skip;go_simp;try with_reducible rfl
     try simp only [Act.put,sA,sB,sC,sD,sE,sF]
     refine tk 3 (v:=?_) rfl hHeld ?_ ?_
     rotate_left
     ·intro w hSw;skip;go_simp;try with_reducible rfl
     try simp only [Act.put,sA,sB,sC,sD,sE,sF]
     refine tk 4 (v:=?_) rfl hHeld ?_ ?_
     rotate_left
     ·intro w hSw;skip;go_simp;try with_reducible rfl
     try simp only [Act.put,sA,sB,sC,sD,sE,sF]
     refine tk 5 (v:=?_) rfl hHeld ?_ ?_
     rotate_left
     ·intro w hSw;skip;go_simp;try with_reducible rfl
     try simp only [Act.put,sA,sB,sC,sD,sE,sF]
     refine tk 6 (v:=?_) rfl hHeld ?_ ?_
     rotate_left
     ·intro w hSw;skip;go_simp;try with_reducible rfl
     try simp only [Act.put,sA,sB,sC,sD,sE,sF]
     refine wpAnyH_ready (rs:=[7]) (by kernel_rfl) (by simp) (AllReadyH.cons rfl (fun K hK=>?_) AllReadyH.nil)
     go_simp
     have D2:=lies.made wD 29 #[.slice (some ⟨g,0,none⟩) j cap1,.slice (some ⟨g,J1*6,none⟩) (m - J1) (cap1 - J1)]
     have hAl:=hHeld.trans ((bound.up1 wD (.cells #[.slice (some ⟨g,0,none⟩) j cap1,.slice (some ⟨g,J1*6,none⟩) (m - J1) (cap1 - J1)] 29)).mono hHeld.size)
     refine hK.out _ _ hAl (fun hNew=>?_)
     clear hAl
     clear hHeld hK K
     have hHeld:=hNew
     clear hNew
     try simp only [Act.put,sA,sB,sC,sD,sE,sF]
     generalize (World.heap wD).size=GB at D2 ⊢
     generalize World.alloc wD (.cells #[.slice (some ⟨g,0,none⟩) j cap1,.slice (some ⟨g,J1*6,none⟩) (m - J1) (cap1 - J1)] 29)=wA at D2 hHeld ⊢
     refine wpAnyH_ready (rs:=[8]) (by kernel_rfl) (by simp) (AllReadyH.cons rfl (fun K hK=>?_) AllReadyH.nil)
     go_simp
     refine (concat_zones GB _ j cap1 _ (m - J1) (cap1 - J1) (cur.take j) (cur.drop J1) wA D2 (zs_take (cap':=cap1) ((HVR.out.below hHeld).mono hHeld.size) j (by omega)) (hJ.out wA hHeld) HTK.out HDP.out HSM.out).mono ?_
     rintro e wB ⟨v2,rfl,hO2,hB2⟩
     have hO2:=own_far hO2 (Nat.le_trans DB.size hHeld.size) (fun _ _ _ q=>q)
     refine hK.out _ _ (hHeld.trans (hB2.mono hHeld.size)) (fun hNew=>?_)
     clear hB2
     clear hHeld hK K
     have hHeld:=hNew
     clear hNew
     try simp only [Act.put,sA,sB,sC,sD,sE,sF]
     refine tk 9 (v:=?_) rfl hHeld ?_ ?_
     rotate_left
     ·intro w hSw;skip;go_simp;try with_reducible rfl
     try simp only [Act.put,sA,sB,sC,sD,sE,sF]
     refine wpAnyH_done (by kernel_rfl) ?_ _
     rw [←HE.out] at hO2
     replace DB:=later DB hHeld
     replace HOW:=Lib.hid (incl.own_call HOW.out hHeld)
     replace HVR:=Lib.hid ((HVR.out.below hHeld).mono hHeld.size)
     replace hgl:=Nat.lt_of_lt_of_le hgl hHeld.size
     have P0:=HP.out.on DB
     clear hHeld D2 hJ hwj hwj2 hf4 hf5 hf6 hf7
     obtain ⟨a2,c2,rfl⟩:=zs_len (zs_own hO2)
     have hel:(cur.eraseIdx j).length=m - 1:=by rw [List.length_eraseIdx_of_lt hjc,←HM.out]
     have hI2:=zs_own hO2
     rw [hel] at hO2 hI2 ⊢
     have HO2:=Lib.hid hO2
     have HI2:=Lib.hid hI2
     obtain ⟨m1,hm1e⟩:∃ x,x=m - 1:=⟨_,rfl⟩
     rw [←hm1e] at HO2 HI2 hel ⊢
     have hm1b:m1≤1000000:=by omega
     have hm1c:m1≤4096:=by omega
     have hm1d:j≤m1:=by omega
     clear hm1e
     have HEL:=Lib.hid hel
     clear hO2 hI2 hel
     have HZE:=Lib.hid (show ∀ z,zat cur j=z→z=zat cur j from fun z e=>e.symm)
     generalize hzk:zat cur j=zk at hz
     have HZ2:=Lib.hid (HZE.out _ hzk)
     obtain ⟨z0,z1,z2,z3,z4,z5,rfl⟩:=six hz.2.2
     obtain ⟨c0,c1,c2',c3,c4,c5⟩:=zs_cells HVR.out hjc hzk
     rw [Nat.zero_add] at c0 c1 c2' c3 c4 c5
     have HZO:=Lib.hid hz
     clear hz hzk HZE
     go_wp2_with fail
     clear c0 c1 c2' c3 c4 c5
     have hcov:=covered_any z0 z1 z2 z3 z4 z5 a2 m1 c2 (cur.eraseIdx j) wB P0 HZO.out.2.1 HI2.out (fun x hx=>⟨(HW.out.1 x (era_sub cur j x hx)).2.2,(HW.out.1 x (era_sub cur j x hx)).2.1⟩) HEL.out hm1b HZO.out.1 (fun x hx=>(HW.out.1 x (era_sub cur j x hx)).1)
     refine Calls.mono hcov ?_
     clear hcov
     rintro e w5 ⟨hB,is,f,rfl,n,hn,his⟩
     replace DB:=later DB hB
     replace HOW:=Lib.hid (incl.own_call HOW.out hB)
     replace HO2:=Lib.hid (incl.own_call HO2.out hB)
     rw [HZ2.out] at hn
     have HN:=Lib.hid hn
     have HIS:=Lib.hid his
     clear hn his hB P0 hgl HVR HI2
     by_cases hf:f=0
     ·subst hf
      cases is with
      | true=>
       have hn0:n=[]:=(of_decide_eq_true HIS.out.symm).2
       have HW2:=Lib.hid (HW.out.out HN.out hn0)
       have hwj:=hwk.out
       have hwj2:=hwk2.out
       clear hn0 HW HN HIS
       go_wp2_with fail
       go_roundw
       case rel=>exact ⟨j,m1,(j:Int) - 1,cur.eraseIdx j,rfl,by omega,hm1d,hm1c,HEL.out.symm,DB,HO2.out,HW2⟩
       case measure=>simp [intOf]<;>omega
      | false=>
       have hn0:n≠[]:=fun e=>by
        have:=of_decide_eq_false HIS.out.symm
        exact this ⟨rfl,e⟩
       have HW2:=Lib.hid (HW.out.stay HN.out hn0)
       have hwj:=hwk.out
       have hwj2:=hwk2.out
       clear hn0 HW HN HIS
       go_wp2_with fail
       go_roundw
       case rel=>exact ⟨j,m,(j:Int) - 1,cur,rfl,by omega,by omega,hm4,HM.out,DB,HOW.out,HW2⟩
       case measure=>simp [intOf]<;>omega
     ·go_wp2_with fail
      exact bodyPost_ret (v:=.tuple #[.slice none 0 0,.int .i64 f]) (by simp [results,Tryz.results43,go_sem]) rfl ⟨DB,_,[],f,rfl,⟨0,HR.out,.inr ⟨rfl,HW.out.err HN.out hf⟩⟩,World.ownsRow_nil _ _ _ _,fun _=>rfl⟩
 ·have HR:=Lib.hid hR
  clear hR
  go_wp2_with fail
  exact bodyPost_ret (v:=.tuple #[.slice none 0 0,.int .i64 f]) (by simp [results,Tryz.results43,go_sem]) rfl ⟨DB,_,[],f,rfl,⟨f,HR.out,.inl ⟨h0,rfl,rfl⟩⟩,World.ownsRow_nil _ _ _ _,fun _=>rfl⟩
theorem prune_any (ao:Option Addr) (len cap:Nat) (l:List (List Int)) (w:World) (hP:Pl w) (hI:Zs w.heap.size w (.slice ao len cap) l) (h6:Six l) (hl:l.length=len) (hm:len≤1000000):Calls Tryz.prog 43 #[.slice ao len cap] w (Zans (PruX RestP l) w):=
 (prune_gen ao len cap l w (fun _=>⟨hP,hI,h6⟩) hl).mono fun _ _ ⟨hB,v,r,f,he,hr,ho,_⟩=>⟨hB,v,r,f,he,hr,ho⟩
end Go.Proofs.YthmljpccbjolgaaGreatDoor.cover
