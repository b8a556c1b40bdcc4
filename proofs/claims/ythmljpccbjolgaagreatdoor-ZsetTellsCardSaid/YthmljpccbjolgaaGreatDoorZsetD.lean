import Derived.Test.YthmljpccbjolgaaGreatDoorCoverV
import Derived.Test.YthmljpccbjolgaaGreatDoorZsetB
import Derived.Test.YthmljpccbjolgaaGreatDoorCompA
namespace Go.Proofs.YthmljpccbjolgaaGreatDoor.zset
open Go.Joins Go.ChangeShapes Go.WideShapes Go.ChangeAt Go.RowKit num rat dbm Go.Proofs.YthmljpccbjolgaaGreatDoor.tight Go.Proofs.YthmljpccbjolgaaGreatDoor.incl Go.Proofs.YthmljpccbjolgaaGreatDoor.plaw Go.Proofs.YthmljpccbjolgaaGreatDoor.zopen Go.Proofs.YthmljpccbjolgaaGreatDoor.zone Go.Proofs.YthmljpccbjolgaaGreatDoor.win Go.Proofs.YthmljpccbjolgaaGreatDoor.minus Go.Proofs.YthmljpccbjolgaaGreatDoor.mz Go.Proofs.YthmljpccbjolgaaGreatDoor.mlaw Go.Proofs.YthmljpccbjolgaaGreatDoor.cover
open bound hiding up
set_option linter.unusedVariables false
set_option linter.unusedSimpArgs false
set_option linter.unusedSectionVars false
set_option maxRecDepth 100000 in
set_option maxHeartbeats 8000000 in
theorem long_any (ao:Option Addr) (len cap:Nat) (w:World):Calls Tryz.prog 100 #[.slice ao len cap] w fun e w'=>e=.returned (.bool (decide (4096<len)))∧Below w.heap.size w w':=by
 by_cases h:4096<len
 ·have h':(4096:Int)<(len:Int):=by omega
  rw [decide_eq_true h]
  go_enter Tryz.func100,Tryz.ntmps100
  go_wp2_with fail
  go_ret
  exact ⟨rfl,Below.refl _ _⟩
 ·have h':¬ (4096:Int)<(len:Int):=by omega
  rw [decide_eq_false h]
  go_enter Tryz.func100,Tryz.ntmps100
  go_wp2_with fail
  go_ret
  exact ⟨rfl,Below.refl _ _⟩
set_option maxRecDepth 100000 in
set_option maxHeartbeats 8000000 in
theorem ilists_any (g n:Nat) (A:Nat→Option Addr) (L C:Nat→Nat) (w:World) (hg:g<w.heap.size) (hn:n≤2) (hc:∀ j,j<n→w.cell? ⟨g,j,none⟩=some (.slice (A j) (L j) (C j))):
  Calls Tryz.prog 146 #[.slice (some ⟨g,0,none⟩) n n,.func (.func 100) #[] #[]] w fun e w'=>∃ i:Int,e=.returned (.int .i64 i)∧(0≤i↔∃ j,j<n∧4096<L j)∧Below w.heap.size w w':=by
 have HC:=Lib.hid hc
 clear hc
 go_enter Tryz.func146,Tryz.ntmps146
 go_wp2_with fail
 go_loopw [8] (fun i wr=>∃ k:Nat,k≤n∧i=.int .i64 k∧Below w.heap.size w wr∧RowKit.Hid (∀ j,j<k→L j≤4096)) (fun i _=>n - (intOf i).toNat)
 case atStart=>exact ⟨0,Nat.zero_le _,rfl,Below.refl _ _,Lib.hid (fun j hj=>absurd hj (Nat.not_lt_zero j))⟩
 case round=>
  obtain ⟨k,hk,rfl,hB,HM⟩:=hrel
  by_cases hkn:k<n
  ·have c0:=(hB.cell (p:=⟨g,k,none⟩) hg).trans (HC.out k hkn)
   have hkn':(k:Int)<n:=by omega
   have hgr:g<wr.heap.size:=Nat.lt_of_lt_of_le hg hB.size
   obtain ⟨len,hlen⟩:∃ x,x=L k:=⟨_,rfl⟩
   rw [←hlen] at c0
   generalize A k=ao at c0
   generalize C k=cap at c0
   have HLEN:=Lib.hid hlen
   clear hlen
   go_wp2_with fail
   clear c0 hgr
   refine (long_any ao len cap wr).mono ?_
   rintro e w2 ⟨rfl,hB2⟩
   replace hB:=later hB hB2
   clear hB2
   by_cases hl:4096<len
   ·rw [decide_eq_true hl]
    go_wp2_with fail
    go_ret
    exact ⟨k,rfl,⟨fun _=>⟨k,hkn,by rw [←HLEN.out];exact hl⟩,fun _=>Int.natCast_nonneg k⟩,hB⟩
   ·rw [decide_eq_false hl]
    go_wp2_with fail
    go_roundw
    case rel=>exact ⟨k+1,by omega,by go_num,hB,Lib.hid (fun j hj=>by
     by_cases e:j=k
     ·rw [e,←HLEN.out];omega
     ·exact HM.out j (by omega))⟩
    case measure=>simp [intOf];omega
  ·obtain rfl:n=k:=by omega
   have hkn':¬ (n:Int)<n:=by omega
   go_wp2_with fail
   go_ret
   exact ⟨-1,rfl,⟨fun h=>absurd h (by decide),fun ⟨j,h1,h2⟩=>absurd (HM.out j h1) (by omega)⟩,hB⟩
set_option maxRecDepth 100000 in
set_option maxHeartbeats 8000000 in
theorem clists_any (g n:Nat) (A:Nat→Option Addr) (L C:Nat→Nat) (w:World) (hg:g<w.heap.size) (hn:n≤2) (hc:∀ j,j<n→w.cell? ⟨g,j,none⟩=some (.slice (A j) (L j) (C j))):
  Calls Tryz.prog 99 #[.slice (some ⟨g,0,none⟩) n n,.func (.func 100) #[] #[]] w (Tell (∃ j,j<n∧4096<L j) w):=by
 have c:=ilists_any g n A L C w hg hn hc
 clear hc
 go_enter Tryz.func99,Tryz.ntmps99
 go_wp2_with fail
 refine Calls.mono c ?_
 rintro e w' ⟨i,rfl,hi,hB⟩
 have HI:=Lib.hid hi
 clear hi
 by_cases h0:0≤i
 ·go_wp2_with fail
  exact bodyPost_ret (v:=.bool true) (by simp [results,Tryz.results99,go_sem,h0]) rfl ⟨hB,true,rfl,⟨fun _=>HI.out.1 h0,fun _=>rfl⟩⟩
 ·go_wp2_with fail
  exact bodyPost_ret (v:=.bool false) (by simp [results,Tryz.results99,go_sem,h0]) rfl ⟨hB,false,rfl,⟨fun h=>(by cases h),fun h=>absurd (HI.out.2 h) (by omega)⟩⟩
set_option maxRecDepth 100000 in
set_option maxHeartbeats 8000000 in
theorem index_fn0 (Q:List Int→Prop) (ao:Option Addr) (len cap:Nat) (zs:List (List Int)) (w:World) (hI:Zs w.heap.size w (.slice ao len cap) zs) (h6:∀ z,z ∈ zs→z.length=6) (hl:zs.length=len) (hm:len≤1000000)
  (hf:∀ z0 z1 z2 z3 z4 z5 W,[z0,z1,z2,z3,z4,z5] ∈ zs→Below w.heap.size w W→Calls Tryz.prog 101 #[.agg #[.int .i64 z0,.int .i64 z1,.int .i64 z2,.int .i64 z3,.int .i64 z4,.int .i64 z5]] W (Tell (Q [z0,z1,z2,z3,z4,z5]) W)):
  Calls Tryz.prog 119 #[.slice ao len cap,.func (.func 101) #[] #[]] w fun e w'=>∃ i:Int,e=.returned (.int .i64 i)∧(0≤i↔∃ z,z ∈ zs∧Q z)∧Below w.heap.size w w':=by
 have HI:=Lib.hid hI
 have H6:=Lib.hid h6
 have HL:=Lib.hid hl
 have HF:=Lib.hid hf
 clear hI h6 hl hf
 go_enter Tryz.func119,Tryz.ntmps119
 go_wp2_with fail
 go_loopw [8] (fun i wr=>∃ k:Nat,k≤len∧i=.int .i64 k∧Below w.heap.size w wr∧RowKit.Hid (∀ j,j<k→¬ Q (zat zs j))) (fun i _=>len - (intOf i).toNat)
 case atStart=>exact ⟨0,Nat.zero_le _,rfl,Below.refl _ _,Lib.hid (fun j hj=>absurd hj (Nat.not_lt_zero j))⟩
 case round=>
  obtain ⟨k,hk,rfl,hB,HN⟩:=hrel
  by_cases hkn:k<len
  ·have hkz:k<zs.length:=by rw [HL.out];exact hkn
   obtain ⟨bq,off,rfl,-,hb,c0,c1,c2,c3,c4,c5⟩:=zs_at (HI.out.below hB) hkz
   have hbr:bq<wr.heap.size:=Nat.lt_of_lt_of_le hb hB.size
   have hz6:=H6.out _ (zat_mem hkz)
   have hmem:=zat_mem hkz
   have hone:∀ j,j=k→zat zs j=zat zs k:=fun j e=>by rw [e]
   generalize zat zs k=zk at c0 c1 c2 c3 c4 c5 hz6 hmem hone
   obtain ⟨z0,z1,z2,z3,z4,z5,rfl⟩:=six hz6
   have c0:wr.cell? ⟨bq,off+k*6,none⟩=some (.int .i64 z0):=c0
   have c1:wr.cell? ⟨bq,off+k*6+1,none⟩=some (.int .i64 z1):=c1
   have c2:wr.cell? ⟨bq,off+k*6+2,none⟩=some (.int .i64 z2):=c2
   have c3:wr.cell? ⟨bq,off+k*6+3,none⟩=some (.int .i64 z3):=c3
   have c4:wr.cell? ⟨bq,off+k*6+4,none⟩=some (.int .i64 z4):=c4
   have c5:wr.cell? ⟨bq,off+k*6+5,none⟩=some (.int .i64 z5):=c5
   have HMEM:=Lib.hid hmem
   have HONE:=Lib.hid hone
   have hkn':(k:Int)<len:=by omega
   clear hmem hone hz6
   go_wp2_with fail
   clear c0 c1 c2 c3 c4 c5 hbr
   refine (HF.out z0 z1 z2 z3 z4 z5 wr HMEM.out hB).mono ?_
   rintro e w2 ⟨hB2,r,rfl,hq⟩
   replace hB:=later hB hB2
   clear hB2
   cases r with
   | true=>
    have HQ:=Lib.hid (hq.1 rfl)
    clear hq
    go_wp2_with fail
    go_ret
    exact ⟨k,rfl,⟨fun _=>⟨_,HMEM.out,HQ.out⟩,fun _=>Int.natCast_nonneg k⟩,hB⟩
   | false=>
    have HQ:=Lib.hid (show ¬ Q [z0,z1,z2,z3,z4,z5] from fun q=>absurd (hq.2 q) (by decide))
    clear hq
    go_wp2_with fail
    go_roundw
    case rel=>exact ⟨k+1,by omega,by go_num,hB,Lib.hid (fun j hj=>by
     by_cases e:j=k
     ·rw [HONE.out j e]
      exact HQ.out
     ·exact HN.out j (by omega))⟩
    case measure=>simp [intOf];omega
  ·obtain rfl:len=k:=by omega
   have hkn':¬ (len:Int)<len:=by omega
   go_wp2_with fail
   go_ret
   exact ⟨-1,rfl,⟨fun h=>absurd h (by decide),fun ⟨z,hz,q⟩=>by
    obtain ⟨i,hi,rfl⟩:=List.getElem_of_mem hz
    have:=HN.out i (by rw [←HL.out];exact hi)
    unfold zat at this
    rw [List.getElem?_eq_getElem hi] at this
    exact (this q).elim⟩,hB⟩
set_option maxRecDepth 100000 in
set_option maxHeartbeats 8000000 in
theorem contains_fn0 (Q:List Int→Prop) (ao:Option Addr) (len cap:Nat) (zs:List (List Int)) (w:World) (hI:Zs w.heap.size w (.slice ao len cap) zs) (h6:∀ z,z ∈ zs→z.length=6) (hl:zs.length=len) (hm:len≤1000000)
  (hf:∀ z0 z1 z2 z3 z4 z5 W,[z0,z1,z2,z3,z4,z5] ∈ zs→Below w.heap.size w W→Calls Tryz.prog 101 #[.agg #[.int .i64 z0,.int .i64 z1,.int .i64 z2,.int .i64 z3,.int .i64 z4,.int .i64 z5]] W (Tell (Q [z0,z1,z2,z3,z4,z5]) W)):
  Calls Tryz.prog 72 #[.slice ao len cap,.func (.func 101) #[] #[]] w (Tell (∃ z,z ∈ zs∧Q z) w):=by
 have c:=index_fn0 Q ao len cap zs w hI h6 hl hm hf
 clear hI h6 hl hf
 go_enter Tryz.func72,Tryz.ntmps72
 go_wp2_with fail
 refine Calls.mono c ?_
 rintro e w' ⟨i,rfl,hi,hB⟩
 have HI:=Lib.hid hi
 clear hi
 by_cases h0:0≤i
 ·go_wp2_with fail
  exact bodyPost_ret (v:=.bool true) (by simp [results,Tryz.results72,go_sem,h0]) rfl ⟨hB,true,rfl,⟨fun _=>HI.out.1 h0,fun _=>rfl⟩⟩
 ·go_wp2_with fail
  exact bodyPost_ret (v:=.bool false) (by simp [results,Tryz.results72,go_sem,h0]) rfl ⟨hB,false,rfl,⟨fun h=>(by cases h),fun h=>absurd (HI.out.2 h) (by omega)⟩⟩
set_option maxRecDepth 100000 in
set_option maxHeartbeats 8000000 in
theorem bad_any (z0 z1 z2 z3 z4 z5:Int) (w:World) (hP:Pl w) (ta:Tops [z0,z1,z2,z3,z4,z5]):Calls Tryz.prog 101 #[.agg #[.int .i64 z0,.int .i64 z1,.int .i64 z2,.int .i64 z3,.int .i64 z4,.int .i64 z5]] w (Tell (¬ MayZ [z0,z1,z2,z3,z4,z5]) w):=by
 obtain ⟨w0,hX⟩:∃ w0,w0=w.alloc (.cells #[.int .i64 z0,.int .i64 z1,.int .i64 z2,.int .i64 z3,.int .i64 z4,.int .i64 z5] 27):=⟨_,rfl⟩
 have DB:Below w.heap.size w w0:=by rw [hX];exact bound.up1 _ _
 have P0:=hP.on DB
 have HT:=Lib.hid ta
 clear hP ta
 go_enter Tryz.func101,Tryz.ntmps101
 go_wp2_with fail
 rw [←hX]
 clear hX
 refine (zone.check_any z0 z1 z2 z3 z4 z5 w0 P0 HT.out).mono ?_
 rintro e w1 ⟨hB,f,rfl,hc⟩
 replace DB:=later DB hB
 clear hB P0
 rcases hc with ⟨hm,rfl⟩ | ⟨hm,rfl⟩
 ·have HM:=Lib.hid hm
  clear hm
  go_wp2_with fail
  exact bodyPost_ret (v:=.bool false) (by simp [results,Tryz.results101,go_sem]) rfl ⟨DB,false,rfl,⟨fun h=>(by cases h),fun h=>(h HM.out).elim⟩⟩
 ·have HM:=Lib.hid hm
  clear hm
  go_wp2_with fail
  exact bodyPost_ret (v:=.bool true) (by simp [results,Tryz.results101,go_sem]) rfl ⟨DB,true,rfl,⟨fun _=>HM.out,fun _=>rfl⟩⟩
set_option maxRecDepth 100000 in
set_option maxHeartbeats 16000000 in
theorem concat_gen (g n:Nat) (len lenb:Nat) (x y:List (List Int)) (w:World) (hn:n=1∨n=2) (hy:n=1→y=[]∧lenb=0) (hg:g<w.heap.size)
  (hA:∀ k,k<n→∃ (a:Option Addr) (m c:Nat) (z:List (List Int)),w.cell? ⟨g,k,none⟩=some (.slice a m c)∧Zs w.heap.size w (.slice a m c) z∧z.length=m∧((k=0∧m=len∧z=x)∨(k=1∧m=lenb∧z=y)))
  (hl:x.length=len) (hm:y.length=lenb) (hs:len+lenb≤1000000):
  Calls Tryz.prog 57 #[.slice (some ⟨g,0,none⟩) n n] w fun e w'=>∃ v,e=.returned v∧w'.ownsRow w.heap.size 27 6 v (x++y).length (flatZ (x++y))∧Below w.heap.size w w':=by
 have HA:=Lib.hid hA
 have HLX:=Lib.hid hl
 have HLY:=Lib.hid hm
 have HYN:=Lib.hid hy
 have hn2:n≤2:=by omega
 have HNN:=Lib.hid hn
 clear hA hl hm hy hn
 go_enter Tryz.func57,Tryz.ntmps57
 go_wp2_with fail
 go_loopw [11,3] (fun i s wr=>∃ k S:Nat,k≤n∧S≤1000000∧i=.int .i64 k∧s=.int .i64 S∧Below w.heap.size w wr∧RowKit.Hid ((k=0→S=0)∧(k=1→S=len)∧(k=2→S=len+lenb))) (fun i _ _=>n - (intOf i).toNat)
 case atStart=>exact ⟨0,0,Nat.zero_le _,Nat.zero_le _,rfl,rfl,Below.refl _ _,Lib.hid ⟨fun _=>rfl,fun e=>absurd e (by decide),fun e=>absurd e (by decide)⟩⟩
 case round=>
  obtain ⟨k,S,hk,hS,rfl,rfl,hB,HS⟩:=hrel
  by_cases hkn:k<n
  ·obtain ⟨a,m,c,z,h1,h2,h3,h4⟩:=HA.out k hkn
   have c0:=(hB.cell (p:=⟨g,k,none⟩) hg).trans h1
   have hgr:g<wr.heap.size:=Nat.lt_of_lt_of_le hg hB.size
   obtain ⟨S1,hS1⟩:∃ T,T=S+m:=⟨_,rfl⟩
   have hSn:S1≤1000000∧((k=0∧S1=len)∨(k=1∧S1=len+lenb)):=by
    have:=HS.out
    rcases h4 with ⟨e1,e2,_⟩ | ⟨e1,e2,_⟩
    ·have:=this.1 e1;omega
    ·have:=this.2.1 e1;omega
   have hw:wrap64 ((S:Int)+(m:Int))=(S1:Int):=by
    have q:=hSn.1
    clear hSn h4 hk hkn
    rw [hS1] at q ⊢
    exact IntWalk.wrap64_in _ ⟨by omega,by omega⟩
   have hS0:¬ (S1:Int)<0:=Int.not_lt.2 (Int.natCast_nonneg _)
   have hk':(k:Int)<n:=by omega
   have HN:=Lib.hid hSn
   clear h1 h2 h3 h4 hS1 hSn
   go_wp2_with fail
   go_roundw
   case rel=>
    have q:=HN.out
    exact ⟨k+1,S1,by omega,q.1,by go_num,(by rw [hw]),hB,Lib.hid ⟨fun e=>by omega,fun e=>by omega,fun e=>by omega⟩⟩
   case measure=>simp [intOf];omega
  ·have hk2:k=n:=by omega
   have HS2:=Lib.hid (show S=len+lenb by
    rcases HNN.out with e | e
    ·have:=HS.out.2.1 (by omega);have:=HYN.out e;omega
    ·exact HS.out.2.2 (by omega))
   have hk':¬ (k:Int)<n:=by omega
   go_wp2_with fail
   clear hk' hk hkn HS
   refine (grow_zones S wr hS).mono ?_
   rintro e w1 ⟨v,rfl,hO,hB1⟩
   have hO':=own_far hO hB.size (fun _ _ _ q=>q)
   replace hB:=later hB hB1
   clear hB1 hO
   go_wp2_with fail
   go_loopw [27,6] (fun i v wq=>∃ (k:Nat) (cur:List (List Int)),k≤n∧i=.int .i64 k∧Below w.heap.size w wq∧wq.ownsRow w.heap.size 27 6 v cur.length (flatZ cur)∧RowKit.Hid ((k=0→cur=[])∧(k=1→cur=x)∧(k=2→cur=x++y))) (fun i _ _=>n - (intOf i).toNat)
   case atStart=>exact ⟨0,[],Nat.zero_le _,rfl,hB,hO',Lib.hid ⟨fun _=>rfl,fun e=>absurd e (by decide),fun e=>absurd e (by decide)⟩⟩
   case round=>
    clear hB hO'
    obtain ⟨k,cur,hk,rfl,hB,hO,HC⟩:=hrel
    by_cases hkn:k<n
    ·obtain ⟨a,m,c,z,h1,h2,h3,h4⟩:=HA.out k hkn
     have c0:=(hB.cell (p:=⟨g,k,none⟩) hg).trans h1
     have hgr:g<wr.heap.size:=Nat.lt_of_lt_of_le hg hB.size
     have hk':(k:Int)<n:=by omega
     have hcz:cur.length+z.length≤1000000∧((k=0∧cur++z=x)∨(k=1∧cur++z=x++y)):=by
      have q:=HC.out
      have q1:=HLX.out
      have q2:=HLY.out
      rcases h4 with ⟨e1,e2,e3⟩ | ⟨e1,e2,e3⟩
      ·rw [q.1 e1,e3]
       exact ⟨by show 0+_≤_;omega,.inl ⟨e1,rfl⟩⟩
      ·rw [q.2.1 e1,e3]
       exact ⟨by omega,.inr ⟨e1,rfl⟩⟩
     obtain ⟨av,cv,rfl⟩:=zs_len (zs_own hO)
     obtain ⟨v1,w2,hrun,own,hgrow,-⟩:=app_zones w.heap.size 29 (.slice av cur.length cv) (.slice a m c) cur.length w.heap.size (flatZ cur) z wr hO (h2.below hB) hcz.1 hB.size
     have hB2:=held_grown hB hB.size hO (Nat.le_refl _) hgrow
     have HRUN:=Lib.hid hrun
     have HOWN:=Lib.hid (show w2.ownsRow w.heap.size 27 6 v1 (cur++z).length (flatZ (cur++z)) by rw [List.length_append,flatZ_app];exact own)
     have HCZ:=Lib.hid hcz
     clear h1 h2 h3 h4 hrun own hgrow hO hcz hB
     generalize cur.length=cm at HRUN ⊢
     go_wp2_with (at_builtin;refine dref.append_run2 rfl (.tmp 31) (.tmp 32) 29 rfl _ _ _ _ rfl rfl HRUN.out ?_;clear HRUN)
     go_roundw
     case rel=>
      have q:=HCZ.out
      exact ⟨k+1,cur++z,by omega,by go_num,hB2,HOWN.out,Lib.hid ⟨fun e=>by omega,fun e=>by rcases q.2 with ⟨_,q⟩ | ⟨q,_⟩;exact q;omega,fun e=>by rcases q.2 with ⟨q,_⟩ | ⟨_,q⟩;omega;exact q⟩⟩
     case measure=>simp [intOf];omega
    ·have hk2:k=n:=by omega
     have hk':¬ (k:Int)<n:=by omega
     have e:cur=x++y:=by
      rcases HNN.out with e | e
      ·rw [HC.out.2.1 (by omega),(HYN.out e).1,List.append_nil]
      ·exact HC.out.2.2 (by omega)
     rw [e] at hO
     have HOW:=Lib.hid hO
     clear hO e
     go_wp2_with fail
     go_ret
     have hO:=HOW.out
     rw [List.length_append] at hO
     exact ⟨_,rfl,hO,hB⟩
set_option maxRecDepth 100000 in
set_option maxHeartbeats 16000000 in
theorem zcheck_gen (g n:Nat) (A:Nat→Option Addr) (L C:Nat→Nat) (zs:Nat→List (List Int)) (w:World) (hP:(∀ j,j<n→L j≤4096)→Pl w) (hg:g<w.heap.size) (hn:n=1∨n=2)
  (hc:∀ j,j<n→w.cell? ⟨g,j,none⟩=some (.slice (A j) (L j) (C j)))
  (hZ:(∀ j,j<n→L j≤4096)→∀ j,j<n→Zs w.heap.size w (.slice (A j) (L j) (C j)) (zs j)∧Six (zs j)∧(zs j).length=L j):
  Calls Tryz.prog 56 #[.slice (some ⟨g,0,none⟩) n n] w fun e w'=>Below w.heap.size w w'∧∃ f,e=.returned (.int .i64 f)∧
   (((∃ j,j<n∧4096<L j)∧f=4)∨((∀ j,j<n→L j≤4096)∧(((∀ j,j<n→∀ z,z ∈ zs j→MayZ z)∧f=0)∨((∃ j,j<n∧∃ z,z ∈ zs j∧¬ MayZ z)∧f=8)))):=by
 have HC:=Lib.hid hc
 have HZ:=Lib.hid hZ
 have HP:=Lib.hid hP
 have hn2:n≤2:=by omega
 have HN:=Lib.hid hn
 clear hc hZ hP hn
 go_enter Tryz.func56,Tryz.ntmps56
 go_wp2_with fail
 refine (clists_any g n A L C w hg hn2 HC.out).mono ?_
 rintro e w1 ⟨hB,r,rfl,hq⟩
 cases r with
 | true=>
  have HQ:=Lib.hid (hq.1 rfl)
  clear hq
  go_wp2_with fail
  exact bodyPost_ret (v:=.int .i64 4) (by simp [results,Tryz.results56,go_sem]) rfl ⟨hB,4,rfl,.inl ⟨HQ.out,rfl⟩⟩
 | false=>
  have hL:∀ j,j<n→L j≤4096:=fun j hj=>Nat.not_lt.1 fun k=>absurd (hq.2 ⟨j,hj,k⟩) (by decide)
  have HLL:=Lib.hid hL
  have HZ2:=Lib.hid (HZ.out hL)
  have P1:=(HP.out hL).on hB
  have hg1:g<w1.heap.size:=Nat.lt_of_lt_of_le hg hB.size
  obtain ⟨x,hx⟩:∃ x,x=zs 0:=⟨_,rfl⟩
  obtain ⟨y,hy⟩:∃ y,y=if n=2 then zs 1 else []:=⟨_,rfl⟩
  have h0:0<n:=by rcases HN.out with e | e<;>omega
  have hx1:=(HZ2.out 0 h0).2
  rw [←hx] at hx1
  have hy1:Six y∧y.length≤4096∧(n=1→y=[])∧(n=2→y=zs 1):=by
   rcases HN.out with e | e
   ·subst e
    rw [if_neg (by decide)] at hy
    subst hy
    exact ⟨six_nil,by decide,fun _=>rfl,fun e=>absurd e (by decide)⟩
   ·subst e
    rw [if_pos rfl] at hy
    subst hy
    have:=HZ2.out 1 (by decide)
    exact ⟨this.2.1,by rw [this.2.2];exact hL 1 (by decide),fun e=>absurd e (by decide),fun _=>rfl⟩
  have HX:=Lib.hid hx
  have HX1:=Lib.hid hx1
  have HY1:=Lib.hid hy1
  have hxl:x.length≤4096:=by rw [hx1.2];exact hL 0 h0
  have hyl:=hy1.2.1
  have HA:=Lib.hid (show ∀ k,k<n→∃ (a:Option Addr) (m c:Nat) (z:List (List Int)),w1.cell? ⟨g,k,none⟩=some (.slice a m c)∧Zs w1.heap.size w1 (.slice a m c) z∧z.length=m∧((k=0∧m=x.length∧z=x)∨(k=1∧m=y.length∧z=y)) from fun k hk=>by
   obtain ⟨k1,k2,k3⟩:=HZ2.out k hk
   refine ⟨A k,L k,C k,zs k,(hB.cell (p:=⟨g,k,none⟩) hg).trans (HC.out k hk),(k1.below hB).mono hB.size,k3,?_⟩
   rcases (by omega:k=0∨k=1) with rfl | rfl
   ·exact .inl ⟨rfl,by rw [HX.out];exact k3.symm,HX.out.symm⟩
   ·have e2:n=2:=by omega
    exact .inr ⟨rfl,by rw [HY1.out.2.2.2 e2];exact k3.symm,(HY1.out.2.2.2 e2).symm⟩)
  clear hq hL hx hy hx1 hy1
  go_wp2_with fail
  refine (concat_gen g n x.length y.length x y w1 HN.out (fun e=>by rw [HY1.out.2.2.1 e];exact ⟨rfl,rfl⟩) hg1 HA.out rfl rfl (by omega)).mono ?_
  rintro e w2 ⟨v,rfl,hO,hB2⟩
  replace P1:=P1.on hB2
  replace hB:=later hB hB2
  obtain ⟨av,cv,rfl⟩:=zs_len (zs_own hO)
  have HO:=Lib.hid (zs_own hO)
  have hlen:(x++y).length≤1000000:=by rw [List.length_append];omega
  have H6:=Lib.hid (six_app HX1.out.1 HY1.out.1)
  clear hB2 hO
  generalize hnn:(x++y).length=nn at HO hlen ⊢
  have HNN:=Lib.hid hnn
  clear hnn
  go_wp2_with fail
  refine (contains_fn0 (fun z=>¬ MayZ z) av nn cv (x++y) w2 HO.out (fun z hz=>(H6.out z hz).1) HNN.out hlen (fun z0 z1 z2 z3 z4 z5 W hz hB=>bad_any z0 z1 z2 z3 z4 z5 W (P1.on hB) (H6.out _ hz).2)).mono ?_
  rintro e w3 ⟨hB3,r,rfl,hq⟩
  replace hB:=later hB hB3
  cases r with
  | true=>
   have HQ:=Lib.hid (hq.1 rfl)
   clear hq hB3 P1
   go_wp2_with fail
   refine bodyPost_ret (v:=.int .i64 8) (by simp [results,Tryz.results56,go_sem]) rfl ⟨hB,8,rfl,.inr ⟨HLL.out,.inr ⟨?_,rfl⟩⟩⟩
   obtain ⟨z,hz,k⟩:=HQ.out
   rcases List.mem_append.1 hz with j | j
   ·exact ⟨0,h0,z,by rw [←HX.out];exact j,k⟩
   ·rcases HN.out with e | e
    ·rw [HY1.out.2.2.1 e] at j;cases j
    ·exact ⟨1,by omega,z,by rw [←HY1.out.2.2.2 e];exact j,k⟩
  | false=>
   have HQ:=Lib.hid (show ∀ z,z ∈ x++y→MayZ z from fun z hz=>Classical.byContradiction fun k=>absurd (hq.2 ⟨z,hz,k⟩) (by decide))
   clear hq hB3 P1
   go_wp2_with fail
   refine bodyPost_ret (v:=.int .i64 0) (by simp [results,Tryz.results56,go_sem]) rfl ⟨hB,0,rfl,.inr ⟨HLL.out,.inl ⟨fun j hj z hz=>?_,rfl⟩⟩⟩
   rcases (by omega:j=0∨j=1) with rfl | rfl
   ·exact HQ.out z (List.mem_append.2 (.inl (by rw [HX.out];exact hz)))
   ·exact HQ.out z (List.mem_append.2 (.inr (by rw [HY1.out.2.2.2 (by omega)];exact hz)))
theorem zcheck_two (g:Nat) (ao:Option Addr) (len cap:Nat) (bo:Option Addr) (lenb capb:Nat) (l m:List (List Int)) (w:World) (hc:lies.Lies w g 29 #[.slice ao len cap,.slice bo lenb capb])
  (hZ:len≤4096→lenb≤4096→Pl w∧(Zs w.heap.size w (.slice ao len cap) l∧Six l)∧Zs w.heap.size w (.slice bo lenb capb) m∧Six m) (hl:l.length=len) (hm:m.length=lenb):
  Calls Tryz.prog 56 #[.slice (some ⟨g,0,none⟩) 2 2] w fun e w'=>Below w.heap.size w w'∧∃ f,e=.returned (.int .i64 f)∧ChkR l m f:=by
 refine (zcheck_gen g 2 (fun j=>if j=0 then ao else bo) (fun j=>if j=0 then len else lenb) (fun j=>if j=0 then cap else capb) (fun j=>if j=0 then l else m) w (fun h=>(hZ (h 0 (by decide)) (h 1 (by decide))).1) (lies.lt hc) (by decide) (fun j hj=>?_) (fun h j hj=>?_)).mono ?_
 ·rcases (by omega:j=0∨j=1) with rfl | rfl
  ·exact lies.cell hc 0
  ·exact lies.cell hc 1
 ·have h0:len≤4096:=h 0 (by decide)
  have h1:lenb≤4096:=h 1 (by decide)
  rcases (by omega:j=0∨j=1) with rfl | rfl
  ·exact ⟨(hZ h0 h1).2.1.1,(hZ h0 h1).2.1.2,hl⟩
  ·exact ⟨(hZ h0 h1).2.2.1,(hZ h0 h1).2.2.2,hm⟩
 ·rintro e w' ⟨hB,f,rfl,⟨⟨j,hj,hk⟩,rfl⟩ | ⟨hk,⟨hy,rfl⟩ | ⟨⟨j,hj,z,hz,hy⟩,rfl⟩⟩⟩
  ·refine ⟨hB,4,rfl,.inl ⟨?_,rfl⟩⟩
   rcases (by omega:j=0∨j=1) with rfl | rfl
   ·exact .inl (by rw [hl];exact hk)
   ·exact .inr (by rw [hm];exact hk)
  ·exact ⟨hB,0,rfl,.inr (.inr ⟨by rw [hl];exact hk 0 (by decide),by rw [hm];exact hk 1 (by decide),hy 0 (by decide),hy 1 (by decide),rfl⟩)⟩
  ·refine ⟨hB,8,rfl,.inr (.inl ⟨by rw [hl];exact hk 0 (by decide),by rw [hm];exact hk 1 (by decide),fun q=>?_,rfl⟩)⟩
   rcases (by omega:j=0∨j=1) with rfl | rfl
   ·exact hy (q.1 z hz)
   ·exact hy (q.2 z hz)
end Go.Proofs.YthmljpccbjolgaaGreatDoor.zset
namespace Go.Proofs.YthmljpccbjolgaaGreatDoor.zset
open Go.Joins Go.ChangeShapes Go.WideShapes Go.ChangeAt Go.RowKit num rat dbm Go.Proofs.YthmljpccbjolgaaGreatDoor.tight Go.Proofs.YthmljpccbjolgaaGreatDoor.incl Go.Proofs.YthmljpccbjolgaaGreatDoor.plaw Go.Proofs.YthmljpccbjolgaaGreatDoor.zopen Go.Proofs.YthmljpccbjolgaaGreatDoor.zone Go.Proofs.YthmljpccbjolgaaGreatDoor.comp Go.Proofs.YthmljpccbjolgaaGreatDoor.win Go.Proofs.YthmljpccbjolgaaGreatDoor.minus Go.Proofs.YthmljpccbjolgaaGreatDoor.mz Go.Proofs.YthmljpccbjolgaaGreatDoor.mlaw Go.Proofs.YthmljpccbjolgaaGreatDoor.cover
open bound hiding up
set_option linter.unusedVariables false
set_option linter.unusedSimpArgs false
set_option linter.unusedSectionVars false
set_option maxRecDepth 100000 in
set_option maxHeartbeats 8000000 in
theorem equal_any (ao bo:Option Addr) (len cap lenb capb:Nat) (a b:List (List Int)) (w:World) (hI:Zs w.heap.size w (.slice ao len cap) a) (hJ:Zs w.heap.size w (.slice bo lenb capb) b) (hl:a.length=len) (hlb:b.length=lenb) (hm:len≤1000000) (hmb:lenb≤1000000) (h6:∀ z,z ∈ a→z.length=6) (h6b:∀ z,z ∈ b→z.length=6):
  Calls Tryz.prog 55 #[.slice ao len cap,.slice bo lenb capb] w (Tell (a=b) w):=by
 by_cases hlen:len=lenb
 case neg=>
  have hlen':¬ (len:Int)=lenb:=by omega
  have hne:=Lib.hid (show ¬ a=b from fun e=>hlen (by rw [←hl,←hlb,e]))
  clear hI hJ hl hlb h6 h6b hlen
  go_enter Tryz.func55,Tryz.ntmps55
  go_wp2_with fail
  exact bodyPost_ret (v:=.bool false) (by simp [results,Tryz.results55,go_sem]) rfl ⟨Below.refl _ _,false,rfl,⟨fun h=>(by cases h),fun h=>(hne.out h).elim⟩⟩
 subst hlen
 have DB:=Below.refl w.heap.size w
 have HI:=Lib.hid hI
 have HJ:=Lib.hid hJ
 have HL:=Lib.hid hl
 have HLB:=Lib.hid hlb
 have H6:=Lib.hid h6
 have H6B:=Lib.hid h6b
 clear hI hJ hl hlb h6 h6b
 go_enter Tryz.func55,Tryz.ntmps55
 go_wp2_with fail
 go_loopw [13] (fun i wr=>∃ k:Nat,k≤len∧i=.int .i64 k∧Below w.heap.size w wr∧RowKit.Hid (∀ j,j<k→zat a j=zat b j)) (fun i _=>len - (intOf i).toNat)
 case atStart=>exact ⟨0,Nat.zero_le _,rfl,DB,Lib.hid (fun j hj=>absurd hj (Nat.not_lt_zero j))⟩
 case round=>
  clear DB
  obtain ⟨k,hk,rfl,DB,HS⟩:=hrel
  by_cases hkn:k<len
  ·have hkz:k<a.length:=by rw [HL.out];exact hkn
   have hky:k<b.length:=by rw [HLB.out];exact hkn
   obtain ⟨bq,off,z0,z1,z2,z3,z4,z5,rfl,hb,ez⟩:=zs_six (HI.out.below DB) hkz (H6.out _ (zat_mem hkz))
   obtain ⟨br,off',y0,y1,y2,y3,y4,y5,rfl,hb',ey⟩:=zs_six (HJ.out.below DB) hky (H6B.out _ (zat_mem hky))
   have hbr:bq<wr.heap.size:=Nat.lt_of_lt_of_le hb DB.size
   have hbr':br<wr.heap.size:=Nat.lt_of_lt_of_le hb' DB.size
   have HEZ:=Lib.hid ez
   have HEY:=Lib.hid ey
   have HKZ:=Lib.hid hkz
   have HKY:=Lib.hid hky
   have hkn':(k:Int)<len:=by omega
   clear ez ey hkz hky hb hb'
   by_cases he:[z0,z1,z2,z3,z4,z5]=[y0,y1,y2,y3,y4,y5]
   ·have hq1:∀ W,(Op.equalIn 10000 27 (.agg #[.int .i64 z0,.int .i64 z1,.int .i64 z2,.int .i64 z3,.int .i64 z4,.int .i64 z5]) (.agg #[.int .i64 y0,.int .i64 y1,.int .i64 y2,.int .i64 y3,.int .i64 y4,.int .i64 y5])).run Tryz.prog W=.ok true W:=fun W=>by rw [eq_zone];simp only [he,decide_true]
    have HE:=Lib.hid he
    clear he
    go_wp2_with fail
    refine wp_region_held_drew (S:=Below wr.heap.size wr) (by kernel_rfl) (dbm.drawn1 (Below.refl _ _)) (fun hHeld=>?_)
    refine tk 0 (v:=?_) rfl hHeld ?_ ?_
    rotate_left
    ·intro w hSw;obtain ⟨c0,c1,c2,c3,c4,c5⟩:=zs_cells (HI.out.below (later DB hSw)) HKZ.out HEZ.out;obtain ⟨d0,d1,d2,d3,d4,d5⟩:=zs_cells (HJ.out.below (later DB hSw)) HKY.out HEY.out;go_simp;try with_reducible rfl
    try simp only [Act.put,sA,sB,sC,sD,sE,sF]
    refine tk 1 (v:=?_) rfl hHeld ?_ ?_
    rotate_left
    ·intro w hSw;obtain ⟨c0,c1,c2,c3,c4,c5⟩:=zs_cells (HI.out.below (later DB hSw)) HKZ.out HEZ.out;obtain ⟨d0,d1,d2,d3,d4,d5⟩:=zs_cells (HJ.out.below (later DB hSw)) HKY.out HEY.out;go_simp;try with_reducible rfl
    try simp only [Act.put,sA,sB,sC,sD,sE,sF]
    refine tk 2 (v:=?_) rfl hHeld ?_ ?_
    rotate_left
    ·intro w hSw;obtain ⟨c0,c1,c2,c3,c4,c5⟩:=zs_cells (HI.out.below (later DB hSw)) HKZ.out HEZ.out;obtain ⟨d0,d1,d2,d3,d4,d5⟩:=zs_cells (HJ.out.below (later DB hSw)) HKY.out HEY.out;go_simp;try with_reducible rfl
    try simp only [Act.put,sA,sB,sC,sD,sE,sF]
    refine tk 3 (v:=?_) rfl hHeld ?_ ?_
    rotate_left
    ·intro w hSw;obtain ⟨c0,c1,c2,c3,c4,c5⟩:=zs_cells (HI.out.below (later DB hSw)) HKZ.out HEZ.out;obtain ⟨d0,d1,d2,d3,d4,d5⟩:=zs_cells (HJ.out.below (later DB hSw)) HKY.out HEY.out;go_simp;try with_reducible rfl
    try simp only [Act.put,sA,sB,sC,sD,sE,sF]
    refine tk 4 (v:=?_) rfl hHeld ?_ ?_
    rotate_left
    ·intro w hSw;obtain ⟨c0,c1,c2,c3,c4,c5⟩:=zs_cells (HI.out.below (later DB hSw)) HKZ.out HEZ.out;obtain ⟨d0,d1,d2,d3,d4,d5⟩:=zs_cells (HJ.out.below (later DB hSw)) HKY.out HEY.out;go_simp;try with_reducible rfl
    try simp only [Act.put,sA,sB,sC,sD,sE,sF]
    refine tk 5 (v:=?_) rfl hHeld ?_ ?_
    rotate_left
    ·intro w hSw;obtain ⟨c0,c1,c2,c3,c4,c5⟩:=zs_cells (HI.out.below (later DB hSw)) HKZ.out HEZ.out;obtain ⟨d0,d1,d2,d3,d4,d5⟩:=zs_cells (HJ.out.below (later DB hSw)) HKY.out HEY.out;go_simp;try with_reducible rfl
    try simp only [Act.put,sA,sB,sC,sD,sE,sF]
    refine tk 6 (v:=?_) rfl hHeld ?_ ?_
    rotate_left
    ·intro w hSw;obtain ⟨c0,c1,c2,c3,c4,c5⟩:=zs_cells (HI.out.below (later DB hSw)) HKZ.out HEZ.out;obtain ⟨d0,d1,d2,d3,d4,d5⟩:=zs_cells (HJ.out.below (later DB hSw)) HKY.out HEY.out;go_simp;try with_reducible rfl
    try simp only [Act.put,sA,sB,sC,sD,sE,sF]
    refine tk 7 (v:=?_) rfl hHeld ?_ ?_
    rotate_left
    ·intro w hSw;obtain ⟨c0,c1,c2,c3,c4,c5⟩:=zs_cells (HI.out.below (later DB hSw)) HKZ.out HEZ.out;obtain ⟨d0,d1,d2,d3,d4,d5⟩:=zs_cells (HJ.out.below (later DB hSw)) HKY.out HEY.out;go_simp;try with_reducible rfl
    try simp only [Act.put,sA,sB,sC,sD,sE,sF]
    refine tk 8 (v:=?_) rfl hHeld ?_ ?_
    rotate_left
    ·intro w hSw;obtain ⟨c0,c1,c2,c3,c4,c5⟩:=zs_cells (HI.out.below (later DB hSw)) HKZ.out HEZ.out;obtain ⟨d0,d1,d2,d3,d4,d5⟩:=zs_cells (HJ.out.below (later DB hSw)) HKY.out HEY.out;go_simp;try with_reducible rfl
    try simp only [Act.put,sA,sB,sC,sD,sE,sF]
    refine wpAnyH_done (by kernel_rfl) ?_ _
    replace DB:=later DB hHeld
    clear hHeld hq1
    go_wp2_with fail
    go_roundw
    case rel=>exact ⟨k+1,by omega,by go_num,DB,Lib.hid (fun j hj=>by
     by_cases e:j=k
     ·rw [e,HEZ.out,HEY.out];exact HE.out
     ·exact HS.out j (by omega))⟩
    case measure=>simp [intOf];omega
   ·have hq1:∀ W,(Op.equalIn 10000 27 (.agg #[.int .i64 z0,.int .i64 z1,.int .i64 z2,.int .i64 z3,.int .i64 z4,.int .i64 z5]) (.agg #[.int .i64 y0,.int .i64 y1,.int .i64 y2,.int .i64 y3,.int .i64 y4,.int .i64 y5])).run Tryz.prog W=.ok false W:=fun W=>by rw [eq_zone,decide_eq_false he]
    have HE:=Lib.hid he
    clear he
    go_wp2_with fail
    refine wp_region_held_drew (S:=Below wr.heap.size wr) (by kernel_rfl) (dbm.drawn1 (Below.refl _ _)) (fun hHeld=>?_)
    refine tk 0 (v:=?_) rfl hHeld ?_ ?_
    rotate_left
    ·intro w hSw;obtain ⟨c0,c1,c2,c3,c4,c5⟩:=zs_cells (HI.out.below (later DB hSw)) HKZ.out HEZ.out;obtain ⟨d0,d1,d2,d3,d4,d5⟩:=zs_cells (HJ.out.below (later DB hSw)) HKY.out HEY.out;go_simp;try with_reducible rfl
    try simp only [Act.put,sA,sB,sC,sD,sE,sF]
    refine tk 1 (v:=?_) rfl hHeld ?_ ?_
    rotate_left
    ·intro w hSw;obtain ⟨c0,c1,c2,c3,c4,c5⟩:=zs_cells (HI.out.below (later DB hSw)) HKZ.out HEZ.out;obtain ⟨d0,d1,d2,d3,d4,d5⟩:=zs_cells (HJ.out.below (later DB hSw)) HKY.out HEY.out;go_simp;try with_reducible rfl
    try simp only [Act.put,sA,sB,sC,sD,sE,sF]
    refine tk 2 (v:=?_) rfl hHeld ?_ ?_
    rotate_left
    ·intro w hSw;obtain ⟨c0,c1,c2,c3,c4,c5⟩:=zs_cells (HI.out.below (later DB hSw)) HKZ.out HEZ.out;obtain ⟨d0,d1,d2,d3,d4,d5⟩:=zs_cells (HJ.out.below (later DB hSw)) HKY.out HEY.out;go_simp;try with_reducible rfl
    try simp only [Act.put,sA,sB,sC,sD,sE,sF]
    refine tk 3 (v:=?_) rfl hHeld ?_ ?_
    rotate_left
    ·intro w hSw;obtain ⟨c0,c1,c2,c3,c4,c5⟩:=zs_cells (HI.out.below (later DB hSw)) HKZ.out HEZ.out;obtain ⟨d0,d1,d2,d3,d4,d5⟩:=zs_cells (HJ.out.below (later DB hSw)) HKY.out HEY.out;go_simp;try with_reducible rfl
    try simp only [Act.put,sA,sB,sC,sD,sE,sF]
    refine tk 4 (v:=?_) rfl hHeld ?_ ?_
    rotate_left
    ·intro w hSw;obtain ⟨c0,c1,c2,c3,c4,c5⟩:=zs_cells (HI.out.below (later DB hSw)) HKZ.out HEZ.out;obtain ⟨d0,d1,d2,d3,d4,d5⟩:=zs_cells (HJ.out.below (later DB hSw)) HKY.out HEY.out;go_simp;try with_reducible rfl
    try simp only [Act.put,sA,sB,sC,sD,sE,sF]
    refine tk 5 (v:=?_) rfl hHeld ?_ ?_
    rotate_left
    ·intro w hSw;obtain ⟨c0,c1,c2,c3,c4,c5⟩:=zs_cells (HI.out.below (later DB hSw)) HKZ.out HEZ.out;obtain ⟨d0,d1,d2,d3,d4,d5⟩:=zs_cells (HJ.out.below (later DB hSw)) HKY.out HEY.out;go_simp;try with_reducible rfl
    try simp only [Act.put,sA,sB,sC,sD,sE,sF]
    refine tk 6 (v:=?_) rfl hHeld ?_ ?_
    rotate_left
    ·intro w hSw;obtain ⟨c0,c1,c2,c3,c4,c5⟩:=zs_cells (HI.out.below (later DB hSw)) HKZ.out HEZ.out;obtain ⟨d0,d1,d2,d3,d4,d5⟩:=zs_cells (HJ.out.below (later DB hSw)) HKY.out HEY.out;go_simp;try with_reducible rfl
    try simp only [Act.put,sA,sB,sC,sD,sE,sF]
    refine tk 7 (v:=?_) rfl hHeld ?_ ?_
    rotate_left
    ·intro w hSw;obtain ⟨c0,c1,c2,c3,c4,c5⟩:=zs_cells (HI.out.below (later DB hSw)) HKZ.out HEZ.out;obtain ⟨d0,d1,d2,d3,d4,d5⟩:=zs_cells (HJ.out.below (later DB hSw)) HKY.out HEY.out;go_simp;try with_reducible rfl
    try simp only [Act.put,sA,sB,sC,sD,sE,sF]
    refine tk 8 (v:=?_) rfl hHeld ?_ ?_
    rotate_left
    ·intro w hSw;obtain ⟨c0,c1,c2,c3,c4,c5⟩:=zs_cells (HI.out.below (later DB hSw)) HKZ.out HEZ.out;obtain ⟨d0,d1,d2,d3,d4,d5⟩:=zs_cells (HJ.out.below (later DB hSw)) HKY.out HEY.out;go_simp;try with_reducible rfl
    try simp only [Act.put,sA,sB,sC,sD,sE,sF]
    refine wpAnyH_done (by kernel_rfl) ?_ _
    replace DB:=later DB hHeld
    clear hHeld hq1
    go_wp2_with fail
    exact bodyPost_ret (v:=.bool false) (by simp [results,Tryz.results55,go_sem]) rfl ⟨DB,false,rfl,⟨fun h=>(by cases h),fun h=>(HE.out (by rw [←HEZ.out,←HEY.out,h])).elim⟩⟩
  ·obtain rfl:len=k:=by omega
   have hkn':¬ (len:Int)<len:=by omega
   have hab:=Lib.hid (show a=b from List.ext_getElem (by rw [HL.out,HLB.out]) fun i h1 h2=>by
    have:=HS.out i (by rw [←HL.out];exact h1)
    unfold zat at this
    rw [List.getElem?_eq_getElem h1,List.getElem?_eq_getElem h2] at this
    exact this)
   go_wp2_with fail
   exact bodyPost_ret (v:=.bool true) (by simp [results,Tryz.results55,go_sem]) rfl ⟨DB,true,rfl,⟨fun _=>hab.out,fun _=>rfl⟩⟩
set_option maxRecDepth 100000 in
set_option maxHeartbeats 16000000 in
theorem collect_b (U:To) (e0:Value) (e1:Value) (ao:Option Addr) (len cap:Nat) (l:List (List Int)) (w:World) (hI:Zs w.heap.size w (.slice ao len cap) l) (h6:∀ z,z ∈ l→z.length=6) (hl:l.length=len) (hm:len≤900000)
  (hf:∀ z0 z1 z2 z3 z4 z5 W,[z0,z1,z2,z3,z4,z5] ∈ l→Below w.heap.size w W→Calls Tryz.prog 91 #[.agg #[.int .i64 z0,.int .i64 z1,.int .i64 z2,.int .i64 z3,.int .i64 z4,.int .i64 z5],e0,e1] W (win.Zs (U [z0,z1,z2,z3,z4,z5]) W)):
  Calls Tryz.prog 90 #[.slice ao len cap,.func (.func 91) #[] #[e0,e1]] w (Zans (Col U l []) w):=by
 have HI:=Lib.hid hI
 have H6:=Lib.hid h6
 have HL:=Lib.hid hl
 have HF:=Lib.hid hf
 clear hI h6 hl hf
 go_enter Tryz.func90,Tryz.ntmps90
 go_wp2_with fail
 go_loopw [13,6] (fun i v wr=>∃ (k m:Nat) (cur:List (List Int)),k≤len∧i=.int .i64 k∧m=cur.length∧m≤k∧Below w.heap.size w wr∧wr.ownsRow w.heap.size 27 6 v m (flatZ cur)∧RowKit.Hid (∀ r f,Col U (l.drop k) cur r f→Col U l [] r f)) (fun i _ _=>len - (intOf i).toNat)
 case atStart=>exact ⟨0,0,[],Nat.zero_le _,rfl,rfl,Nat.le_refl _,Below.refl _ _,World.ownsRow_nil _ _ _ _,Lib.hid (fun r f h=>h)⟩
 case round=>
  obtain ⟨k,m,cur,hk,rfl,hmc,hmk,hB,hO,HC⟩:=hrel
  obtain ⟨av,cv,hv⟩:=zs_len (zs_own hO)
  rw [←hmc] at hv
  subst hv
  have HMC:=Lib.hid hmc
  clear hmc
  by_cases hkn:k<len
  ·have hkz:k<l.length:=by rw [HL.out];exact hkn
   have hkn':(k:Int)<len:=by omega
   obtain ⟨bq,off,rfl,-,hb,c0,c1,c2,c3,c4,c5⟩:=zs_at (HI.out.below hB) hkz
   have hbr:bq<wr.heap.size:=Nat.lt_of_lt_of_le hb hB.size
   have hz6:=H6.out _ (zat_mem hkz)
   have hmem:=zat_mem hkz
   have hdr:l.drop k=zat l k::l.drop (k+1):=by
    rw [List.drop_eq_getElem_cons hkz]
    unfold zat
    rw [List.getElem?_eq_getElem hkz]
    rfl
   generalize zat l k=zk at c0 c1 c2 c3 c4 c5 hz6 hmem hdr
   obtain ⟨z0,z1,z2,z3,z4,z5,rfl⟩:=six hz6
   have c0:wr.cell? ⟨bq,off+k*6,none⟩=some (.int .i64 z0):=c0
   have c1:wr.cell? ⟨bq,off+k*6+1,none⟩=some (.int .i64 z1):=c1
   have c2:wr.cell? ⟨bq,off+k*6+2,none⟩=some (.int .i64 z2):=c2
   have c3:wr.cell? ⟨bq,off+k*6+3,none⟩=some (.int .i64 z3):=c3
   have c4:wr.cell? ⟨bq,off+k*6+4,none⟩=some (.int .i64 z4):=c4
   have c5:wr.cell? ⟨bq,off+k*6+5,none⟩=some (.int .i64 z5):=c5
   have HMEM:=Lib.hid hmem
   have HDR:=Lib.hid hdr
   clear hmem hdr hz6
   go_wp2_with fail
   clear c0 c1 c2 c3 c4 c5 hbr
   have hA:=bound.up1 wr (.cells #[.int .i64 z0,.int .i64 z1,.int .i64 z2,.int .i64 z3,.int .i64 z4,.int .i64 z5] 27)
   replace hO:=incl.own_call hO hA
   replace hB:=later hB hA
   clear hA
   generalize wr.heap.size=ZB
   generalize wr.alloc (.cells #[.int .i64 z0,.int .i64 z1,.int .i64 z2,.int .i64 z3,.int .i64 z4,.int .i64 z5] 27)=w1 at hO hB ⊢
   refine (HF.out z0 z1 z2 z3 z4 z5 w1 HMEM.out hB).mono ?_
   rintro e w2 ⟨hB2,o0,o1,o2,o3,o4,o5,f,rfl,hT⟩
   replace hO:=incl.own_call hO hB2
   replace hB:=later hB hB2
   have HT:=Lib.hid hT
   clear hB2 hT
   by_cases h6:f=6
   ·subst h6
    have HN:=Lib.hid (show ∀ r f,Col U (l.drop (k+1)) cur r f→Col U l [] r f from fun r f h=>HC.out r f (by rw [HDR.out];exact ⟨_,6,HT.out,.inl ⟨rfl,h⟩⟩))
    have hA:=bound.up1 w2 (.cells #[.int .i64 o0,.int .i64 o1,.int .i64 o2,.int .i64 o3,.int .i64 o4,.int .i64 o5] 27)
    have HO:=Lib.hid (incl.own_call hO hA)
    replace hB:=later hB hA
    clear hA hO HC HT
    go_wp2_with fail
    go_roundw
    case rel=>exact ⟨k+1,m,cur,by omega,by go_num,HMC.out,by omega,hB,HO.out,HN⟩
    case measure=>simp [intOf];omega
   ·by_cases h0:f=0
    ·subst h0
     have HN:=Lib.hid (show ∀ r f,Col U (l.drop (k+1)) (cur++[[o0,o1,o2,o3,o4,o5]]) r f→Col U l [] r f from fun r f h=>HC.out r f (by rw [HDR.out];exact ⟨_,0,HT.out,.inr (.inr ⟨rfl,h⟩)⟩))
     have hA:=lies.frame_up (bound.up1 w2 (.cells #[.int .i64 o0,.int .i64 o1,.int .i64 o2,.int .i64 o3,.int .i64 o4,.int .i64 o5] 27)) (.cells #[.int .i64 o0,.int .i64 o1,.int .i64 o2,.int .i64 o3,.int .i64 o4,.int .i64 o5] 27)
     have hO1:=incl.own_call hO hA
     have hbx:=zs_box (lies.made_at (w2.alloc (.cells #[.int .i64 o0,.int .i64 o1,.int .i64 o2,.int .i64 o3,.int .i64 o4,.int .i64 o5] 27)) 27 #[.int .i64 o0,.int .i64 o1,.int .i64 o2,.int .i64 o3,.int .i64 o4,.int .i64 o5] (w2.heap.size+1) (by simp))
     obtain ⟨v1,w3,hrun,own,hgrow,-⟩:=app_zones w.heap.size 29 (.slice av m cv) (.slice (some ⟨w2.heap.size+1,0,none⟩) 1 1) m _ (flatZ cur) [[o0,o1,o2,o3,o4,o5]] ((w2.alloc (.cells #[.int .i64 o0,.int .i64 o1,.int .i64 o2,.int .i64 o3,.int .i64 o4,.int .i64 o5] 27)).alloc (.cells #[.int .i64 o0,.int .i64 o1,.int .i64 o2,.int .i64 o3,.int .i64 o4,.int .i64 o5] 27)) hO1 hbx (by show m+1≤_;omega) (Nat.le_trans hB.size hA.size)
     have hB1:Below w.heap.size w ((w2.alloc (.cells #[.int .i64 o0,.int .i64 o1,.int .i64 o2,.int .i64 o3,.int .i64 o4,.int .i64 o5] 27)).alloc (.cells #[.int .i64 o0,.int .i64 o1,.int .i64 o2,.int .i64 o3,.int .i64 o4,.int .i64 o5] 27)):=later hB hA
     have hB2:=held_grown hB1 hB1.size hO1 (Nat.le_refl _) hgrow
     have HRUN:=Lib.hid hrun
     have HOWN:=Lib.hid (show w3.ownsRow w.heap.size 27 6 v1 (m+1) (flatZ (cur++[[o0,o1,o2,o3,o4,o5]])) by rw [flatZ_app];exact own)
     have HM1:=Lib.hid (show m+1=(cur++[[o0,o1,o2,o3,o4,o5]]).length by rw [List.length_append,←HMC.out];rfl)
     clear hrun own hgrow hO hO1 hB1 hA hB HC HT h6 hbx
     go_wp2_with (at_builtin;refine dref.append_run2 rfl (.tmp 28) (.tmp 30) 29 rfl _ _ _ _ rfl rfl HRUN.out ?_;clear HRUN)
     go_roundw
     case rel=>exact ⟨k+1,m+1,cur++[[o0,o1,o2,o3,o4,o5]],by omega,by go_num,HM1.out,by omega,hB2,HOWN.out,HN⟩
     case measure=>simp [intOf];omega
    ·have HN:=Lib.hid (show Col U l [] [] f from HC.out [] f (by rw [HDR.out];exact ⟨_,f,HT.out,.inr (.inl ⟨h6,h0,rfl,rfl⟩)⟩))
     have hA:=bound.up1 w2 (.cells #[.int .i64 o0,.int .i64 o1,.int .i64 o2,.int .i64 o3,.int .i64 o4,.int .i64 o5] 27)
     replace hB:=later hB hA
     clear hA hO HC HT
     go_wp2_with fail
     exact bodyPost_ret (v:=.tuple #[.slice none 0 0,.int .i64 f]) (by simp [results,Tryz.results90,go_sem]) rfl ⟨hB,_,[],f,rfl,HN.out,World.ownsRow_nil _ _ _ _⟩
  ·have hke:l.drop k=[]:=List.drop_eq_nil_of_le (by rw [HL.out];omega)
   have hkn':¬ (k:Int)<len:=by omega
   have HN:=Lib.hid (show Col U l [] cur 0 from HC.out cur 0 (by rw [hke];exact ⟨rfl,rfl⟩))
   have HO:=Lib.hid (show wr.ownsRow w.heap.size 27 6 (.slice av m cv) cur.length (flatZ cur) by rw [←HMC.out];exact hO)
   clear hO HC hke
   go_wp2_with fail
   exact bodyPost_ret (v:=.tuple #[.slice av m cv,.int .i64 0]) (by simp [results,Tryz.results90,go_sem]) rfl ⟨hB,_,cur,0,rfl,HN.out,HO.out⟩
set_option maxRecDepth 100000 in
set_option maxHeartbeats 8000000 in
theorem of_gen (ao:Option Addr) (len cap:Nat) (l:List (List Int)) (w:World) (hZ:len≤4096→Pl w∧Zs w.heap.size w (.slice ao len cap) l∧Six l) (hl:l.length=len):
  Calls Tryz.prog 25 #[.slice ao len cap] w (Zans (PruX RestP l) w):=by
 have c:=prune_gen ao len cap l w hZ hl
 clear hZ hl
 go_enter Tryz.func25,Tryz.ntmps25
 go_wp2_with fail
 refine Calls.mono c ?_
 rintro e w1 ⟨hB,v,r,f,rfl,hR,hO,-⟩
 obtain ⟨av,cv,rfl⟩:=zs_len (zs_own hO)
 have HR:=Lib.hid hR
 have HO:=Lib.hid hO
 clear hR hO c
 generalize hn:r.length=n at HO ⊢
 have HN:=Lib.hid hn
 clear hn
 go_wp2_with fail
 refine bodyPost_ret (v:=.tuple #[.slice av n cv,.int .i64 f]) (by simp [results,Tryz.results25,go_sem]) rfl ⟨hB,_,r,f,rfl,HR.out,?_⟩
 rw [HN.out]
 exact HO.out
theorem of_any (ao:Option Addr) (len cap:Nat) (l:List (List Int)) (w:World) (hP:Pl w) (hI:Zs w.heap.size w (.slice ao len cap) l) (h6:Six l) (hl:l.length=len):Calls Tryz.prog 25 #[.slice ao len cap] w (Zans (PruX RestP l) w):=of_gen ao len cap l w (fun _=>⟨hP,hI,h6⟩) hl
set_option maxRecDepth 100000 in
set_option maxHeartbeats 8000000 in
theorem pair_meet (U:List Int→To) (y0 y1 y2 y3 y4 y5 z0 z1 z2 z3 z4 z5:Int) (Bt Zb:Nat) (w:World) (hBt:lies.Lies w Bt 75 #[.func (.func 59) #[] #[]]) (hZb:lies.Lies w Zb 27 #[.int .i64 y0,.int .i64 y1,.int .i64 y2,.int .i64 y3,.int .i64 y4,.int .i64 y5])
  (hf:∀ W,Below w.heap.size w W→Calls Tryz.prog 59 #[.agg #[.int .i64 y0,.int .i64 y1,.int .i64 y2,.int .i64 y3,.int .i64 y4,.int .i64 y5],.agg #[.int .i64 z0,.int .i64 z1,.int .i64 z2,.int .i64 z3,.int .i64 z4,.int .i64 z5]] W (win.Zs (U [y0,y1,y2,y3,y4,y5] [z0,z1,z2,z3,z4,z5]) W)):
  Calls Tryz.prog 91 #[.agg #[.int .i64 z0,.int .i64 z1,.int .i64 z2,.int .i64 z3,.int .i64 z4,.int .i64 z5],.pointer (some ⟨Bt,0,none⟩),.pointer (some ⟨Zb,0,none⟩)] w (win.Zs (U [y0,y1,y2,y3,y4,y5] [z0,z1,z2,z3,z4,z5]) w):=by
 obtain ⟨w0,hX⟩:∃ w0,w0=(w.alloc (.cells #[.int .i64 z0,.int .i64 z1,.int .i64 z2,.int .i64 z3,.int .i64 z4,.int .i64 z5] 27)).alloc (.cells #[.int .i64 0,.int .i64 0,.int .i64 0,.int .i64 0,.int .i64 0,.int .i64 0] 27):=⟨_,rfl⟩
 have DB:Below w.heap.size w w0:=by rw [hX];exact bound.up2 _ _ _
 have D0:lies.Lies w0 w.heap.size 27 #[.int .i64 z0,.int .i64 z1,.int .i64 z2,.int .i64 z3,.int .i64 z4,.int .i64 z5]:=by rw [hX];exact lies.on_alloc (lies.made _ _ _) _
 have D1:lies.Lies w0 (w.heap.size+1) 27 #[.int .i64 0,.int .i64 0,.int .i64 0,.int .i64 0,.int .i64 0,.int .i64 0]:=by rw [hX];exact lies.made_at _ _ _ _ (by simp)
 have E0:lies.Lies w0 Bt 75 #[.func (.func 59) #[] #[]]:=lies.on_call hBt DB
 have E1:lies.Lies w0 Zb 27 #[.int .i64 y0,.int .i64 y1,.int .i64 y2,.int .i64 y3,.int .i64 y4,.int .i64 y5]:=lies.on_call hZb DB
 have b0:=lies.cell E0 0
 have bl:=lies.lt E0
 have b0:w0.cell? ⟨Bt,0,none⟩=some (.func (.func 59) #[] #[]):=b0
 obtain ⟨⟨x0,x1,x2,x3,x4,x5⟩,-,xl⟩:=six_cells E1
 have HF:=Lib.hid hf
 clear hBt hZb hf D0 E0 E1
 rw [hX] at b0 bl x0 x1 x2 x3 x4 x5 xl
 go_enter Tryz.func91,Tryz.ntmps91
 go_wp2_with fail
 rw [←hX]
 clear hX
 clear b0 bl x0 x1 x2 x3 x4 x5 xl
 refine (HF.out w0 DB).mono ?_
 rintro e w1 ⟨hB,o0,o1,o2,o3,o4,o5,f,rfl,hT⟩
 replace DB:=later DB hB
 replace D1:=lies.on_call D1 hB
 have HT:=Lib.hid hT
 clear hB hT
 have hle:w.heap.size≤w.heap.size+1:=Nat.le_succ _
 obtain ⟨⟨c0,c1,c2,c3,c4,c5⟩,⟨d0,d1,d2,d3,d4,d5⟩,cl⟩:=six_cells D1
 clear D1
 go_wp2_with fail
 exact bodyPost_ret (v:=.tuple #[.agg #[.int .i64 o0,.int .i64 o1,.int .i64 o2,.int .i64 o3,.int .i64 o4,.int .i64 o5],.int .i64 f]) (by simp [results,Tryz.results91,go_sem,c0,c1,c2,c3,c4,c5,cl]) rfl ⟨put_six DB hle _ _ _ _ _ _,o0,o1,o2,o3,o4,o5,f,rfl,HT.out⟩
set_option maxRecDepth 100000 in
set_option maxHeartbeats 8000000 in
theorem pair_comp (U:List Int→To) (y0 y1 y2 y3 y4 y5 z0 z1 z2 z3 z4 z5:Int) (Bt Zb:Nat) (w:World) (hBt:lies.Lies w Bt 75 #[.func (.func 51) #[] #[]]) (hZb:lies.Lies w Zb 27 #[.int .i64 y0,.int .i64 y1,.int .i64 y2,.int .i64 y3,.int .i64 y4,.int .i64 y5])
  (hf:∀ W,Below w.heap.size w W→Calls Tryz.prog 51 #[.agg #[.int .i64 y0,.int .i64 y1,.int .i64 y2,.int .i64 y3,.int .i64 y4,.int .i64 y5],.agg #[.int .i64 z0,.int .i64 z1,.int .i64 z2,.int .i64 z3,.int .i64 z4,.int .i64 z5]] W (win.Zs (U [y0,y1,y2,y3,y4,y5] [z0,z1,z2,z3,z4,z5]) W)):
  Calls Tryz.prog 91 #[.agg #[.int .i64 z0,.int .i64 z1,.int .i64 z2,.int .i64 z3,.int .i64 z4,.int .i64 z5],.pointer (some ⟨Bt,0,none⟩),.pointer (some ⟨Zb,0,none⟩)] w (win.Zs (U [y0,y1,y2,y3,y4,y5] [z0,z1,z2,z3,z4,z5]) w):=by
 obtain ⟨w0,hX⟩:∃ w0,w0=(w.alloc (.cells #[.int .i64 z0,.int .i64 z1,.int .i64 z2,.int .i64 z3,.int .i64 z4,.int .i64 z5] 27)).alloc (.cells #[.int .i64 0,.int .i64 0,.int .i64 0,.int .i64 0,.int .i64 0,.int .i64 0] 27):=⟨_,rfl⟩
 have DB:Below w.heap.size w w0:=by rw [hX];exact bound.up2 _ _ _
 have D0:lies.Lies w0 w.heap.size 27 #[.int .i64 z0,.int .i64 z1,.int .i64 z2,.int .i64 z3,.int .i64 z4,.int .i64 z5]:=by rw [hX];exact lies.on_alloc (lies.made _ _ _) _
 have D1:lies.Lies w0 (w.heap.size+1) 27 #[.int .i64 0,.int .i64 0,.int .i64 0,.int .i64 0,.int .i64 0,.int .i64 0]:=by rw [hX];exact lies.made_at _ _ _ _ (by simp)
 have E0:lies.Lies w0 Bt 75 #[.func (.func 51) #[] #[]]:=lies.on_call hBt DB
 have E1:lies.Lies w0 Zb 27 #[.int .i64 y0,.int .i64 y1,.int .i64 y2,.int .i64 y3,.int .i64 y4,.int .i64 y5]:=lies.on_call hZb DB
 have b0:=lies.cell E0 0
 have bl:=lies.lt E0
 have b0:w0.cell? ⟨Bt,0,none⟩=some (.func (.func 51) #[] #[]):=b0
 obtain ⟨⟨x0,x1,x2,x3,x4,x5⟩,-,xl⟩:=six_cells E1
 have HF:=Lib.hid hf
 clear hBt hZb hf D0 E0 E1
 rw [hX] at b0 bl x0 x1 x2 x3 x4 x5 xl
 go_enter Tryz.func91,Tryz.ntmps91
 go_wp2_with fail
 rw [←hX]
 clear hX
 clear b0 bl x0 x1 x2 x3 x4 x5 xl
 refine (HF.out w0 DB).mono ?_
 rintro e w1 ⟨hB,o0,o1,o2,o3,o4,o5,f,rfl,hT⟩
 replace DB:=later DB hB
 replace D1:=lies.on_call D1 hB
 have HT:=Lib.hid hT
 clear hB hT
 have hle:w.heap.size≤w.heap.size+1:=Nat.le_succ _
 obtain ⟨⟨c0,c1,c2,c3,c4,c5⟩,⟨d0,d1,d2,d3,d4,d5⟩,cl⟩:=six_cells D1
 clear D1
 go_wp2_with fail
 exact bodyPost_ret (v:=.tuple #[.agg #[.int .i64 o0,.int .i64 o1,.int .i64 o2,.int .i64 o3,.int .i64 o4,.int .i64 o5],.int .i64 f]) (by simp [results,Tryz.results91,go_sem,c0,c1,c2,c3,c4,c5,cl]) rfl ⟨put_six DB hle _ _ _ _ _ _,o0,o1,o2,o3,o4,o5,f,rfl,HT.out⟩
set_option maxRecDepth 100000 in
set_option maxHeartbeats 16000000 in
theorem both_fn (U:List Int→To) (fn:Nat) (ao:Option Addr) (len cap:Nat) (a:List (List Int)) (bo:Option Addr) (lenb capb:Nat) (b:List (List Int)) (w:World) (hP:Pl w) (hZ:len≤4096→lenb≤4096→(Zs w.heap.size w (.slice ao len cap) a∧Six a)∧Zs w.heap.size w (.slice bo lenb capb) b∧Six b) (hl:a.length=len) (hlb:b.length=lenb)
  (hf:∀ y0 y1 y2 y3 y4 y5 z0 z1 z2 z3 z4 z5 W,Tops [y0,y1,y2,y3,y4,y5]→Tops [z0,z1,z2,z3,z4,z5]→Below w.heap.size w W→∀ Bt Zb,lies.Lies W Bt 75 #[.func (.func fn) #[] #[]]→lies.Lies W Zb 27 #[.int .i64 y0,.int .i64 y1,.int .i64 y2,.int .i64 y3,.int .i64 y4,.int .i64 y5]→Calls Tryz.prog 91 #[.agg #[.int .i64 z0,.int .i64 z1,.int .i64 z2,.int .i64 z3,.int .i64 z4,.int .i64 z5],.pointer (some ⟨Bt,0,none⟩),.pointer (some ⟨Zb,0,none⟩)] W (win.Zs (U [y0,y1,y2,y3,y4,y5] [z0,z1,z2,z3,z4,z5]) W)) (ht:∀ y,Zo y→∀ z,Zo z→∀ o,U y z o 0→Zo o):
  Calls Tryz.prog 50 #[.slice ao len cap,.slice bo lenb capb,.func (.func fn) #[] #[]] w (Zans (BothX RestP U a b) w):=by
 obtain ⟨w0,hX⟩:∃ w0,w0=(w.alloc (.cells #[.func (.func fn) #[] #[]] 75)).alloc (.cells #[.slice ao len cap,.slice bo lenb capb] 29):=⟨_,rfl⟩
 have DB:Below w.heap.size w w0:=by rw [hX];exact bound.up2 _ _ _
 have DF:lies.Lies w0 w.heap.size 75 #[.func (.func fn) #[] #[]]:=by rw [hX];exact lies.on_alloc (lies.made _ _ _) _
 have D0:lies.Lies w0 (w.heap.size+1) 29 #[.slice ao len cap,.slice bo lenb capb]:=by rw [hX];exact lies.made_at _ _ _ _ (by simp)
 have HZ:=Lib.hid hZ
 have HL:=Lib.hid hl
 have HLB:=Lib.hid hlb
 have HF:=Lib.hid hf
 have HP:=Lib.hid hP
 have HT:=Lib.hid ht
 clear hZ hl hlb hf hP ht
 go_enter Tryz.func50,Tryz.ntmps50
 go_wp2_with fail
 rw [←hX]
 clear hX
 refine (zcheck_two _ ao len cap bo lenb capb a b w0 D0 (fun h k=>⟨HP.out.on DB,⟨((HZ.out h k).1.1.below DB).mono DB.size,(HZ.out h k).1.2⟩,((HZ.out h k).2.1.below DB).mono DB.size,(HZ.out h k).2.2⟩) HL.out HLB.out).mono ?_
 rintro e w1 ⟨hB,f,rfl,hR⟩
 replace DB:=later DB hB
 replace DF:=lies.on_call DF hB
 clear hB D0
 by_cases h0:f=0
 case neg=>
  have HR:=Lib.hid hR
  clear hR
  go_wp2_with fail
  exact bodyPost_ret (v:=.tuple #[.slice none 0 0,.int .i64 f]) (by simp [results,Tryz.results50,go_sem]) rfl ⟨DB,_,[],f,rfl,⟨f,HR.out,.inl ⟨h0,rfl,rfl⟩⟩,World.ownsRow_nil _ _ _ _⟩
 subst h0
 obtain ⟨h1,h2,h3,h4⟩:=chk_fine hR
 have h1:len≤4096:=by rw [←HL.out];exact h1
 have h2:lenb≤4096:=by rw [←HLB.out];exact h2
 obtain ⟨⟨hI,h6⟩,hJ,h6b⟩:=HZ.out h1 h2
 have HR:=Lib.hid hR
 have HI:=Lib.hid hI
 have HJ:=Lib.hid hJ
 have HZA:=Lib.hid (h6.zo h3)
 have HZB:=Lib.hid (h6b.zo h4)
 clear hI hJ h6 h6b hR h3 h4 HZ
 generalize hBF:w.heap.size=Bf at DF
 have HBF:=Lib.hid hBF
 clear hBF
 go_wp2_with fail
 go_loopw [25,9,10] (fun i v u wr=>∃ (k:Nat) (cur ask:List (List Int)),k≤len∧i=.int .i64 k∧Below w.heap.size w wr∧lies.Lies wr Bf 75 #[.func (.func fn) #[] #[]]∧wr.ownsRow w.heap.size 27 6 v cur.length (flatZ cur)∧Zs wr.heap.size wr u ask∧RowKit.Hid ((∀ x,x ∈ ask→Zo x)∧ask.length≤4096∧PruX RestP ask cur 0∧∀ r f,Bo RestP U b (a.drop k) cur r f→Bo RestP U b a [] r f)) (fun i _ _ _=>len - (intOf i).toNat)
 case atStart=>exact ⟨0,[],[],Nat.zero_le _,rfl,DB,DF,World.ownsRow_nil _ _ _ _,.inl ⟨⟨none,0,rfl,fun _=>rfl⟩,rfl⟩,Lib.hid ⟨fun x hx=>(by cases hx),by decide,⟨0,.inr (.inr ⟨by decide,by decide,fun x hx=>(by cases hx),fun x hx=>(by cases hx),rfl⟩),.inr ⟨rfl,rfl,rfl⟩⟩,fun r f h=>h⟩⟩
 case round=>
  clear DB DF
  obtain ⟨k,cur,ask,hk,rfl,hB,DF,hO,hK,HN⟩:=hrel
  have hpf:=pru_fine (six_zo HN.out.1) HN.out.2.2.1
  have HCZ:=Lib.hid hpf.2.1
  have hcl:cur.length≤4096:=Nat.le_trans hpf.2.2.1 HN.out.2.1
  clear hpf
  obtain ⟨av,cv,rfl⟩:=zs_len (zs_own hO)
  obtain ⟨ku,kc,rfl⟩:=zs_len hK
  obtain ⟨m,hm⟩:∃ m,m=cur.length:=⟨_,rfl⟩
  have HM:=Lib.hid hm
  rw [←hm] at hO hcl ⊢
  obtain ⟨am,ham⟩:∃ am,am=ask.length:=⟨_,rfl⟩
  have HAM:=Lib.hid ham
  rw [←ham] at hK ⊢
  clear hm ham
  by_cases hkn:k<len
  ·have hkz:k<a.length:=by rw [HL.out];exact hkn
   have hkn':(k:Int)<len:=by omega
   obtain ⟨bq,off,rfl,-,hb,c0,c1,c2,c3,c4,c5⟩:=zs_at (HI.out.below hB) hkz
   have hbr:bq<wr.heap.size:=Nat.lt_of_lt_of_le hb hB.size
   have hzo:=HZA.out _ (zat_mem hkz)
   have hdr:a.drop k=zat a k::a.drop (k+1):=by
    rw [List.drop_eq_getElem_cons hkz]
    unfold zat
    rw [List.getElem?_eq_getElem hkz]
    rfl
   generalize zat a k=zk at c0 c1 c2 c3 c4 c5 hzo hdr
   obtain ⟨z0,z1,z2,z3,z4,z5,rfl⟩:=six hzo.2.2
   have c0:wr.cell? ⟨bq,off+k*6,none⟩=some (.int .i64 z0):=c0
   have c1:wr.cell? ⟨bq,off+k*6+1,none⟩=some (.int .i64 z1):=c1
   have c2:wr.cell? ⟨bq,off+k*6+2,none⟩=some (.int .i64 z2):=c2
   have c3:wr.cell? ⟨bq,off+k*6+3,none⟩=some (.int .i64 z3):=c3
   have c4:wr.cell? ⟨bq,off+k*6+4,none⟩=some (.int .i64 z4):=c4
   have c5:wr.cell? ⟨bq,off+k*6+5,none⟩=some (.int .i64 z5):=c5
   have HZO:=Lib.hid hzo
   have HDR:=Lib.hid hdr
   clear hdr hzo
   go_wp2_with fail
   clear c0 c1 c2 c3 c4 c5 hbr
   have hA:=bound.up1 wr (.cells #[.int .i64 z0,.int .i64 z1,.int .i64 z2,.int .i64 z3,.int .i64 z4,.int .i64 z5] 27)
   have D2:=lies.made wr 27 #[.int .i64 z0,.int .i64 z1,.int .i64 z2,.int .i64 z3,.int .i64 z4,.int .i64 z5]
   replace DF:=lies.on_call DF hA
   replace hO:=incl.own_call hO hA
   replace hK:=hK.on hA
   replace hB:=later hB hA
   clear hA
   generalize wr.heap.size=ZB at D2 ⊢
   generalize wr.alloc (.cells #[.int .i64 z0,.int .i64 z1,.int .i64 z2,.int .i64 z3,.int .i64 z4,.int .i64 z5] 27)=w1 at hO hB hK DF D2 ⊢
   refine (collect_b (U [z0,z1,z2,z3,z4,z5]) (.pointer (some ⟨Bf,0,none⟩)) (.pointer (some ⟨ZB,0,none⟩)) bo lenb capb b w1 ((HJ.out.below hB).mono hB.size) (fun z hz=>(HZB.out z hz).2.2) HLB.out (by omega) (fun x0 x1 x2 x3 x4 x5 W hx hB2=>HF.out z0 z1 z2 z3 z4 z5 x0 x1 x2 x3 x4 x5 W HZO.out.2.1 (HZB.out _ hx).2.1 (later hB hB2) Bf ZB (lies.on_call DF hB2) (lies.on_call D2 hB2))).mono ?_
   rintro e w2 ⟨hB2,v2,come,g,rfl,hC,hO2⟩
   obtain ⟨av2,cv2,rfl⟩:=zs_len (zs_own hO2)
   replace DF:=lies.on_call DF hB2
   replace hO:=incl.own_call hO hB2
   replace hK:=hK.on hB2
   have hs1:=hB.size
   replace hB:=later hB hB2
   have HCO:=Lib.hid hC
   clear D2 hB2
   by_cases hg:g=0
   case neg=>
    have HE:=Lib.hid (show Bo RestP U b a [] [] g from HN.out.2.2.2 [] g (by rw [HDR.out];exact ⟨_,g,(by have:=col_push cur b hC;rwa [List.append_nil] at this),.inl ⟨hg,rfl,rfl⟩⟩))
    clear hC hO hO2 hK HN
    go_wp2_with fail
    exact bodyPost_ret (v:=.tuple #[.slice none 0 0,.int .i64 g]) (by simp [results,Tryz.results50,go_sem]) rfl ⟨hB,_,[],g,rfl,⟨0,HR.out,.inr ⟨rfl,HE.out⟩⟩,World.ownsRow_nil _ _ _ _⟩
   subst hg
   obtain ⟨k1,k2⟩:=col_zo b (fun y hy=>HT.out _ HZO.out y (HZB.out y hy)) (fun x hx=>by cases hx) hC
   rw [List.length_nil,Nat.zero_add,HLB.out] at k2
   have HKZ:=Lib.hid k1
   have HCP:=Lib.hid (show Col (U [z0,z1,z2,z3,z4,z5]) b cur (cur++come) 0 by have:=col_push cur b hC;rwa [if_pos rfl,List.append_nil] at this)
   have HS1:=Lib.hid ((zs_own hO))
   have HS2:=Lib.hid ((zs_own hO2))
   clear hC k1 hO2
   obtain ⟨m2,hm2⟩:∃ m2,m2=come.length:=⟨_,rfl⟩
   have HM2:=Lib.hid hm2
   rw [←hm2] at HS2 k2 ⊢
   clear hm2
   go_wp2_with fail
   have hA:=bound.up1 w2 (.cells #[.slice av m cv,.slice av2 m2 cv2] 29)
   have D3:=lies.made w2 29 #[.slice av m cv,.slice av2 m2 cv2]
   replace DF:=lies.on_call DF hA
   replace hO:=incl.own_call hO hA
   replace hK:=hK.on hA
   replace HS1:=Lib.hid (HS1.out.on hA)
   replace HS2:=Lib.hid (HS2.out.on hA)
   replace hB:=later hB hA
   clear hA
   generalize w2.heap.size=LB at D3 ⊢
   generalize w2.alloc (.cells #[.slice av m cv,.slice av2 m2 cv2] 29)=w3 at hO hB hK DF D3 HS1 HS2 ⊢
   have HSA:=Lib.hid (show ∀ k,k<2→∃ (a:Option Addr) (q c:Nat) (z:List (List Int)),w3.cell? ⟨LB,k,none⟩=some (.slice a q c)∧Zs w3.heap.size w3 (.slice a q c) z∧z.length=q∧((k=0∧q=m∧z=cur)∨(k=1∧q=m2∧z=come)) from fun k hk=>by
    rcases (by omega:k=0∨k=1) with rfl | rfl
    ·exact ⟨av,m,cv,cur,lies.cell D3 0,HS1.out,HM.out.symm,.inl ⟨rfl,rfl,rfl⟩⟩
    ·exact ⟨av2,m2,cv2,come,lies.cell D3 1,HS2.out,HM2.out.symm,.inr ⟨rfl,rfl,rfl⟩⟩)
   have hlt:=lies.lt D3
   clear D3
   refine (concat_gen LB 2 m m2 cur come w3 (.inr rfl) (fun e=>absurd e (by decide)) hlt HSA.out HM.out.symm HM2.out.symm (by omega)).mono ?_
   rintro e w4 ⟨v3,rfl,hO3,hB2⟩
   replace DF:=lies.on_call DF hB2
   replace hO:=incl.own_call hO hB2
   replace hK:=hK.on hB2
   replace hB:=later hB hB2
   clear HS1 HS2 HSA hlt hB2
   obtain ⟨av3,cv3,rfl⟩:=zs_len (zs_own hO3)
   have HPZ:=Lib.hid (show ∀ x,x ∈ cur++come→Zo x from fun x hx=>(List.mem_append.1 hx).elim (HCZ.out x) (HKZ.out x))
   have hpl:(cur++come).length=m+m2:=by rw [List.length_append,←HM.out,←HM2.out]
   obtain ⟨put,hput⟩:∃ put,put=cur++come:=⟨_,rfl⟩
   rw [←hput] at hO3 HPZ hpl HCP ⊢
   clear hput HKZ HCO
   have HPS:=Lib.hid (zs_own hO3)
   rw [hpl] at HPS ⊢
   have HPL:=Lib.hid hpl
   clear hO3 hpl
   generalize hmm:m+m2=pm at HPS HPL ⊢
   have hpm:pm≤8192:=by omega
   clear hmm
   go_wp2_with fail
   refine (equal_any av3 ku pm cv3 am kc put ask w4 HPS.out hK HPL.out HAM.out.symm (by omega) (by rw [HAM.out];have:=HN.out.2.1;omega) (fun z hz=>(HPZ.out z hz).2.2) (fun z hz=>(HN.out.1 z hz).2.2)).mono ?_
   rintro e w5 ⟨hB2,r,rfl,hq⟩
   replace DF:=lies.on_call DF hB2
   replace hO:=incl.own_call hO hB2
   replace hK:=hK.on hB2
   replace HPS:=Lib.hid (HPS.out.on hB2)
   replace hB:=later hB hB2
   clear hB2
   cases r with
   | true=>
    have he:=hq.1 rfl
    have HN2:=Lib.hid (show (∀ x,x ∈ ask→Zo x)∧ask.length≤4096∧PruX RestP ask cur 0∧∀ r f,Bo RestP U b (a.drop (k+1)) cur r f→Bo RestP U b a [] r f from ⟨HN.out.1,HN.out.2.1,HN.out.2.2.1,fun r f h=>HN.out.2.2.2 r f (by rw [HDR.out];exact ⟨put,0,HCP.out,.inr ⟨rfl,cur,0,by rw [he];exact HN.out.2.2.1,.inr ⟨rfl,h⟩⟩⟩)⟩)
    have HO:=Lib.hid hO
    have HK:=Lib.hid hK
    clear hq he HN HPS hO hK HCP
    go_wp2_with fail
    go_roundw
    case rel=>exact ⟨k+1,cur,ask,by omega,by go_num,hB,DF,by rw [←HM.out];exact HO.out,HK.out,HN2⟩
    case measure=>simp [intOf];omega
   | false=>
    have P5:=HP.out.on hB
    clear hq hK hO
    go_wp2_with fail
    refine (of_any av3 pm cv3 put w5 P5 HPS.out (six_zo HPZ.out) HPL.out).mono ?_
    rintro e w6 ⟨hB2,v4,nw,g,rfl,hPr,hO4⟩
    replace DF:=lies.on_call DF hB2
    replace HPS:=Lib.hid (HPS.out.on hB2)
    have HO4:=Lib.hid (own_far hO4 hB.size (fun _ _ _ q=>q))
    replace hB:=later hB hB2
    obtain ⟨av4,cv4,rfl⟩:=zs_len (zs_own hO4)
    have HPR:=Lib.hid hPr
    clear hO4 hPr hB2 P5
    by_cases hg:g=0
    ·subst hg
     have HN2:=Lib.hid (show (∀ x,x ∈ put→Zo x)∧put.length≤4096∧PruX RestP put nw 0∧∀ r f,Bo RestP U b (a.drop (k+1)) nw r f→Bo RestP U b a [] r f from ⟨HPZ.out,by
      obtain ⟨c,hc,q⟩:=HPR.out
      rcases q with ⟨q,_,q2⟩ | ⟨q,_⟩
      ·exact (q q2.symm).elim
      ·subst q
       exact (chk_fine hc).1,HPR.out,fun r f h=>HN.out.2.2.2 r f (by rw [HDR.out];exact ⟨put,0,HCP.out,.inr ⟨rfl,nw,0,HPR.out,.inr ⟨rfl,h⟩⟩⟩)⟩)
     clear HN HCP
     obtain ⟨m4,hm4⟩:∃ m4,m4=nw.length:=⟨_,rfl⟩
     have HM4:=Lib.hid hm4
     rw [←hm4] at HO4 ⊢
     clear hm4
     go_wp2_with fail
     go_roundw
     case rel=>exact ⟨k+1,nw,put,by omega,by go_num,hB,DF,by rw [←HM4.out];exact HO4.out,HPS.out,HN2⟩
     case measure=>simp [intOf];omega
    ·have HE:=Lib.hid (show Bo RestP U b a [] [] g from HN.out.2.2.2 [] g (by rw [HDR.out];exact ⟨put,0,HCP.out,.inr ⟨rfl,nw,g,HPR.out,.inl ⟨hg,rfl,rfl⟩⟩⟩))
     clear HN HCP HPS
     go_wp2_with fail
     exact bodyPost_ret (v:=.tuple #[.slice none 0 0,.int .i64 g]) (by simp [results,Tryz.results50,go_sem]) rfl ⟨hB,_,[],g,rfl,⟨0,HR.out,.inr ⟨rfl,HE.out⟩⟩,World.ownsRow_nil _ _ _ _⟩
  ·have hke:a.drop k=[]:=List.drop_eq_nil_of_le (by rw [HL.out];omega)
   have hkn':¬ (k:Int)<len:=by omega
   have HE:=Lib.hid (show Bo RestP U b a [] cur 0 from HN.out.2.2.2 cur 0 (by rw [hke];exact ⟨rfl,rfl⟩))
   have HO:=Lib.hid hO
   clear hO hke HN hK
   go_wp2_with fail
   refine bodyPost_ret (v:=.tuple #[.slice av m cv,.int .i64 0]) (by simp [results,Tryz.results50,go_sem]) rfl ⟨hB,_,cur,0,rfl,⟨0,HR.out,.inr ⟨rfl,HE.out⟩⟩,?_⟩
   rw [←HM.out]
   exact HO.out
set_option maxRecDepth 100000 in
set_option maxHeartbeats 8000000 in
theorem and_gen (ao:Option Addr) (len cap:Nat) (a:List (List Int)) (bo:Option Addr) (lenb capb:Nat) (b:List (List Int)) (w:World) (hP:Pl w) (hZ:len≤4096→lenb≤4096→(Zs w.heap.size w (.slice ao len cap) a∧Six a)∧Zs w.heap.size w (.slice bo lenb capb) b∧Six b) (hl:a.length=len) (hlb:b.length=lenb):
  Calls Tryz.prog 22 #[.slice ao len cap,.slice bo lenb capb] w (Zans (BothX RestP MetT a b) w):=by
 have c:=both_fn MetT 59 ao len cap a bo lenb capb b w hP hZ hl hlb (fun y0 y1 y2 y3 y4 y5 z0 z1 z2 z3 z4 z5 W ty tz hB Bt Zb h1 h2=>pair_meet MetT y0 y1 y2 y3 y4 y5 z0 z1 z2 z3 z4 z5 Bt Zb W h1 h2 (fun X hX=>zmeet_any y0 y1 y2 y3 y4 y5 z0 z1 z2 z3 z4 z5 X (hP.on (later hB hX)) ty tz)) meet_zo
 clear hZ hl hlb hP
 go_enter Tryz.func22,Tryz.ntmps22
 go_wp2_with fail
 refine Calls.mono c ?_
 rintro e w1 ⟨hB,v,r,f,rfl,hR,hO⟩
 obtain ⟨av,cv,rfl⟩:=zs_len (zs_own hO)
 have HR:=Lib.hid hR
 have HO:=Lib.hid hO
 clear hR hO
 generalize hn:r.length=n at HO ⊢
 have HN:=Lib.hid hn
 clear hn
 go_wp2_with fail
 refine bodyPost_ret (v:=.tuple #[.slice av n cv,.int .i64 f]) (by simp [results,Tryz.results22,go_sem]) rfl ⟨hB,_,r,f,rfl,HR.out,?_⟩
 rw [HN.out]
 exact HO.out
set_option maxRecDepth 100000 in
set_option maxHeartbeats 8000000 in
theorem zcomp_gen (ao:Option Addr) (len cap:Nat) (a:List (List Int)) (bo:Option Addr) (lenb capb:Nat) (b:List (List Int)) (w:World) (hP:Pl w) (hZ:len≤4096→lenb≤4096→(Zs w.heap.size w (.slice ao len cap) a∧Six a)∧Zs w.heap.size w (.slice bo lenb capb) b∧Six b) (hl:a.length=len) (hlb:b.length=lenb):
  Calls Tryz.prog 16 #[.slice ao len cap,.slice bo lenb capb] w (Zans (BothX RestP ComT a b) w):=by
 have c:=both_fn ComT 51 ao len cap a bo lenb capb b w hP hZ hl hlb (fun y0 y1 y2 y3 y4 y5 z0 z1 z2 z3 z4 z5 W ty tz hB Bt Zb h1 h2=>pair_comp ComT y0 y1 y2 y3 y4 y5 z0 z1 z2 z3 z4 z5 Bt Zb W h1 h2 (fun X hX=>comp_any y0 y1 y2 y3 y4 y5 z0 z1 z2 z3 z4 z5 X (hP.on (later hB hX)) ty tz)) comp_zo
 clear hZ hl hlb hP
 go_enter Tryz.func16,Tryz.ntmps16
 go_wp2_with fail
 refine Calls.mono c ?_
 rintro e w1 ⟨hB,v,r,f,rfl,hR,hO⟩
 obtain ⟨av,cv,rfl⟩:=zs_len (zs_own hO)
 have HR:=Lib.hid hR
 have HO:=Lib.hid hO
 clear hR hO
 generalize hn:r.length=n at HO ⊢
 have HN:=Lib.hid hn
 clear hn
 go_wp2_with fail
 refine bodyPost_ret (v:=.tuple #[.slice av n cv,.int .i64 f]) (by simp [results,Tryz.results16,go_sem]) rfl ⟨hB,_,r,f,rfl,HR.out,?_⟩
 rw [HN.out]
 exact HO.out
set_option maxRecDepth 100000 in
set_option maxHeartbeats 16000000 in
theorem or_gen (ao:Option Addr) (len cap:Nat) (a:List (List Int)) (bo:Option Addr) (lenb capb:Nat) (b:List (List Int)) (w:World) (hP:Pl w) (hZ:len≤4096→lenb≤4096→(Zs w.heap.size w (.slice ao len cap) a∧Six a)∧Zs w.heap.size w (.slice bo lenb capb) b∧Six b) (hl:a.length=len) (hlb:b.length=lenb):
  Calls Tryz.prog 20 #[.slice ao len cap,.slice bo lenb capb] w (Zans (OrX RestP a b) w):=by
 obtain ⟨w0,hX⟩:∃ w0,w0=w.alloc (.cells #[.slice ao len cap,.slice bo lenb capb] 29):=⟨_,rfl⟩
 have DB:Below w.heap.size w w0:=by rw [hX];exact bound.up1 _ _
 have D0:lies.Lies w0 w.heap.size 29 #[.slice ao len cap,.slice bo lenb capb]:=by rw [hX];exact lies.made _ _ _
 have HZ:=Lib.hid hZ
 have HL:=Lib.hid hl
 have HLB:=Lib.hid hlb
 have HP:=Lib.hid hP
 clear hZ hl hlb hP
 go_enter Tryz.func20,Tryz.ntmps20
 go_wp2_with fail
 rw [←hX]
 clear hX
 refine (zcheck_two _ ao len cap bo lenb capb a b w0 D0 (fun h k=>⟨HP.out.on DB,⟨((HZ.out h k).1.1.below DB).mono DB.size,(HZ.out h k).1.2⟩,((HZ.out h k).2.1.below DB).mono DB.size,(HZ.out h k).2.2⟩) HL.out HLB.out).mono ?_
 rintro e w1 ⟨hB,f,rfl,hR⟩
 replace DB:=later DB hB
 clear hB D0
 by_cases h0:f=0
 case neg=>
  have HR:=Lib.hid hR
  clear hR
  go_wp2_with fail
  exact bodyPost_ret (v:=.tuple #[.slice none 0 0,.int .i64 f]) (by simp [results,Tryz.results20,go_sem]) rfl ⟨DB,_,[],f,rfl,⟨f,HR.out,.inl ⟨h0,rfl,rfl⟩⟩,World.ownsRow_nil _ _ _ _⟩
 subst h0
 obtain ⟨h1,h2,h3,h4⟩:=chk_fine hR
 have h1:len≤4096:=by rw [←HL.out];exact h1
 have h2:lenb≤4096:=by rw [←HLB.out];exact h2
 obtain ⟨⟨hI,h6⟩,hJ,h6b⟩:=HZ.out h1 h2
 have HR:=Lib.hid hR
 have HI:=Lib.hid hI
 have HJ:=Lib.hid hJ
 have H6:=Lib.hid h6
 have H6B:=Lib.hid h6b
 clear hI hJ h6 h6b hR h3 h4 HZ
 go_wp2_with fail
 have hA:=bound.up1 w1 (.cells #[.slice ao len cap,.slice bo lenb capb] 29)
 have D3:=lies.made w1 29 #[.slice ao len cap,.slice bo lenb capb]
 replace DB:=later DB hA
 clear hA
 generalize w1.heap.size=LB at D3 ⊢
 generalize w1.alloc (.cells #[.slice ao len cap,.slice bo lenb capb] 29)=w3 at DB D3 ⊢
 have HSA:=Lib.hid (show ∀ k,k<2→∃ (p:Option Addr) (q c:Nat) (z:List (List Int)),w3.cell? ⟨LB,k,none⟩=some (.slice p q c)∧Zs w3.heap.size w3 (.slice p q c) z∧z.length=q∧((k=0∧q=len∧z=a)∨(k=1∧q=lenb∧z=b)) from fun k hk=>by
  rcases (by omega:k=0∨k=1) with rfl | rfl
  ·exact ⟨ao,len,cap,a,lies.cell D3 0,(HI.out.below DB).mono DB.size,HL.out,.inl ⟨rfl,rfl,rfl⟩⟩
  ·exact ⟨bo,lenb,capb,b,lies.cell D3 1,(HJ.out.below DB).mono DB.size,HLB.out,.inr ⟨rfl,rfl,rfl⟩⟩)
 have hlt:=lies.lt D3
 clear D3
 refine (concat_gen LB 2 len lenb a b w3 (.inr rfl) (fun e=>absurd e (by decide)) hlt HSA.out HL.out HLB.out (by omega)).mono ?_
 rintro e w4 ⟨v3,rfl,hO3,hB2⟩
 replace DB:=later DB hB2
 obtain ⟨av3,cv3,rfl⟩:=zs_len (zs_own hO3)
 have HPS:=Lib.hid (zs_own hO3)
 have P5:=HP.out.on DB
 have hpl:(a++b).length=len+lenb:=by rw [List.length_append,HL.out,HLB.out]
 rw [hpl] at HPS ⊢
 have HPL:=Lib.hid hpl
 clear hO3 hpl HSA hlt hB2
 generalize len+lenb=pm at HPS HPL ⊢
 go_wp2_with fail
 refine (of_any av3 pm cv3 (a++b) w4 P5 HPS.out (six_app H6.out H6B.out) HPL.out).mono ?_
 rintro e w6 ⟨hB2,v4,nw,g,rfl,hPr,hO4⟩
 have HO4:=Lib.hid (own_far hO4 DB.size (fun _ _ _ q=>q))
 replace DB:=later DB hB2
 obtain ⟨av4,cv4,rfl⟩:=zs_len (zs_own hO4)
 have HPR:=Lib.hid hPr
 clear hO4 hPr hB2 P5
 generalize hn:nw.length=n at HO4 ⊢
 have HN:=Lib.hid hn
 clear hn
 go_wp2_with fail
 refine bodyPost_ret (v:=.tuple #[.slice av4 n cv4,.int .i64 g]) (by simp [results,Tryz.results20,go_sem]) rfl ⟨DB,_,nw,g,rfl,⟨0,HR.out,.inr ⟨rfl,HPR.out⟩⟩,?_⟩
 rw [HN.out]
 exact HO4.out
set_option maxRecDepth 100000 in
set_option maxHeartbeats 8000000 in
theorem mays_any (ao:Option Addr) (len cap:Nat) (l:List (List Int)) (w:World) (hP:Pl w) (hI:Zs w.heap.size w (.slice ao len cap) l) (h6:Six l) (hl:l.length=len) (hm:len≤1000000):
  Calls Tryz.prog 18 #[.slice ao len cap] w fun e w'=>Below w.heap.size w w'∧∃ f,e=.returned (.int .i64 f)∧MayS RestP l f:=by
 have c:=of_any ao len cap l w hP hI h6 hl
 have HI:=Lib.hid hI
 have H6:=Lib.hid h6
 have HL:=Lib.hid hl
 clear hP hI h6 hl
 go_enter Tryz.func18,Tryz.ntmps18
 go_wp2_with fail
 refine Calls.mono c ?_
 rintro e w1 ⟨hB,v,r,g,rfl,hR,hO⟩
 clear c
 obtain ⟨av,cv,rfl⟩:=zs_len (zs_own hO)
 have HR:=Lib.hid hR
 by_cases hg:g=0
 ·subst hg
  have hpf:=pru_fine H6.out hR
  have HS:=Lib.hid (zs_own hO)
  have HRZ:=Lib.hid hpf.2.1
  have hrl:r.length≤len:=by rw [←HL.out];exact hpf.2.2.1
  clear hpf hO hR
  obtain ⟨n,hn⟩:∃ n,n=r.length:=⟨_,rfl⟩
  have HN:=Lib.hid hn
  rw [←hn] at HS hrl ⊢
  clear hn
  go_wp2_with fail
  refine (equal_any av ao n cv len cap r l w1 HS.out (HI.out.on hB) HN.out.symm HL.out (by omega) hm (fun z hz=>(HRZ.out z hz).2.2) (fun z hz=>(H6.out z hz).1)).mono ?_
  rintro e w2 ⟨hB2,q,rfl,hq⟩
  replace hB:=later hB hB2
  clear hB2 HS
  cases q with
  | true=>
   have HE:=Lib.hid (hq.1 rfl)
   clear hq
   go_wp2_with fail
   exact bodyPost_ret (v:=.int .i64 0) (by simp [results,Tryz.results18,go_sem]) rfl ⟨hB,0,rfl,r,0,HR.out,by rw [if_pos ⟨rfl,HE.out⟩]⟩
  | false=>
   have HE:=Lib.hid (show ¬ r=l from fun e=>absurd (hq.2 e) (by decide))
   clear hq
   go_wp2_with fail
   exact bodyPost_ret (v:=.int .i64 8) (by simp [results,Tryz.results18,go_sem]) rfl ⟨hB,8,rfl,r,0,HR.out,by rw [if_neg (fun q=>HE.out q.2)]⟩
 ·clear hO hR
  go_wp2_with fail
  exact bodyPost_ret (v:=.int .i64 8) (by simp [results,Tryz.results18,go_sem]) rfl ⟨hB,8,rfl,r,g,HR.out,by rw [if_neg (fun q=>hg q.1)]⟩
end Go.Proofs.YthmljpccbjolgaaGreatDoor.zset
