import Derived.Test.YthmljpccbjolgaaGreatDoorCoverV
import Derived.Test.YthmljpccbjolgaaGreatDoorZsetB
import Derived.Test.YthmljpccbjolgaaGreatDoorCompA
namespace Go.Proofs.YthmljpccbjolgaaGreatDoor.zset
open Go.Joins Go.ChangeShapes Go.WideShapes Go.ChangeAt Go.RowKit num rat dbm Go.Proofs.YthmljpccbjolgaaGreatDoor.tight Go.Proofs.YthmljpccbjolgaaGreatDoor.incl Go.Proofs.YthmljpccbjolgaaGreatDoor.plaw Go.Proofs.YthmljpccbjolgaaGreatDoor.zopen Go.Proofs.YthmljpccbjolgaaGreatDoor.zone Go.Proofs.YthmljpccbjolgaaGreatDoor.win Go.Proofs.YthmljpccbjolgaaGreatDoor.minus Go.Proofs.YthmljpccbjolgaaGreatDoor.mz Go.Proofs.YthmljpccbjolgaaGreatDoor.mlaw Go.Proofs.YthmljpccbjolgaaGreatDoor.cover
open bound hiding up
set_option linter.unusedVariables false
set_option linter.unusedSimpArgs false
set_option linter.unusedSectionVars false
set_option maxRecDepth 100000 in
set_option maxHeartbeats 8000000 in
theorem long_any (ao:Option Addr) (len cap:Nat) (w:World):Calls Tryz.prog 100 #[.slice ao len cap] w fun e w'=>e=.returned (.bool (decide (4096<len)))∧Below w.heap.size w w':=by
 by_cases h:4096<len
 ·have h':(4096:Int)<(len:Int):=by omega
  rw [decide_eq_true h]
  go_enter Tryz.func100,Tryz.ntmps100
  go_wp2_with fail
  go_ret
  exact ⟨rfl,Below.refl _ _⟩
 ·have h':¬ (4096:Int)<(len:Int):=by omega
  rw [decide_eq_false h]
  go_enter Tryz.func100,Tryz.ntmps100
  go_wp2_with fail
  go_ret
  exact ⟨rfl,Below.refl _ _⟩
set_option maxRecDepth 100000 in
set_option maxHeartbeats 8000000 in
theorem ilists_any (g n:Nat) (A:Nat→Option Addr) (L C:Nat→Nat) (w:World) (hg:g<w.heap.size) (hn:n≤2) (hc:∀ j,j<n→w.cell? ⟨g,j,none⟩=some (.slice (A j) (L j) (C j))):
  Calls Tryz.prog 146 #[.slice (some ⟨g,0,none⟩) n n,.func (.func 100) #[] #[]] w fun e w'=>∃ i:Int,e=.returned (.int .i64 i)∧(0≤i↔∃ j,j<n∧4096<L j)∧Below w.heap.size w w':=by
 have HC:=Lib.hid hc
 clear hc
 go_enter Tryz.func146,Tryz.ntmps146
 go_wp2_with fail
 go_loopw [8] (fun i wr=>∃ k:Nat,k≤n∧i=.int .i64 k∧Below w.heap.size w wr∧RowKit.Hid (∀ j,j<k→L j≤4096)) (fun i _=>n - (intOf i).toNat)
 case atStart=>exact ⟨0,Nat.zero_le _,rfl,Below.refl _ _,Lib.hid (fun j hj=>absurd hj (Nat.not_lt_zero j))⟩
 case round=>
  obtain ⟨k,hk,rfl,hB,HM⟩:=hrel
  by_cases hkn:k<n
  ·have c0:=(hB.cell (p:=⟨g,k,none⟩) hg).trans (HC.out k hkn)
   have hkn':(k:Int)<n:=by omega
   have hgr:g<wr.heap.size:=Nat.lt_of_lt_of_le hg hB.size
   obtain ⟨len,hlen⟩:∃ x,x=L k:=⟨_,rfl⟩
   rw [←hlen] at c0
   generalize A k=ao at c0
   generalize C k=cap at c0
   have HLEN:=Lib.hid hlen
   clear hlen
   go_wp2_with fail
   clear c0 hgr
   refine (long_any ao len cap wr).mono ?_
   rintro e w2 ⟨rfl,hB2⟩
   replace hB:=later hB hB2
   clear hB2
   by_cases hl:4096<len
   ·rw [decide_eq_true hl]
    go_wp2_with fail
    go_ret
    exact ⟨k,rfl,⟨fun _=>⟨k,hkn,by rw [←HLEN.out];exact hl⟩,fun _=>Int.natCast_nonneg k⟩,hB⟩
   ·rw [decide_eq_false hl]
    go_wp2_with fail
    go_roundw
    case rel=>exact ⟨k+1,by omega,by go_num,hB,Lib.hid (fun j hj=>by
     by_cases e:j=k
     ·rw [e,←HLEN.out];omega
     ·exact HM.out j (by omega))⟩
    case measure=>simp [intOf];omega
  ·obtain rfl:n=k:=by omega
   have hkn':¬ (n:Int)<n:=by omega
   go_wp2_with fail
   go_ret
   exact ⟨-1,rfl,⟨fun h=>absurd h (by decide),fun ⟨j,h1,h2⟩=>absurd (HM.out j h1) (by omega)⟩,hB⟩
set_option maxRecDepth 100000 in
set_option maxHeartbeats 8000000 in
theorem clists_any (g n:Nat) (A:Nat→Option Addr) (L C:Nat→Nat) (w:World) (hg:g<w.heap.size) (hn:n≤2) (hc:∀ j,j<n→w.cell? ⟨g,j,none⟩=some (.slice (A j) (L j) (C j))):
  Calls Tryz.prog 99 #[.slice (some ⟨g,0,none⟩) n n,.func (.func 100) #[] #[]] w (Tell (∃ j,j<n∧4096<L j) w):=by
 have c:=ilists_any g n A L C w hg hn hc
 clear hc
 go_enter Tryz.func99,Tryz.ntmps99
 go_wp2_with fail
 refine Calls.mono c ?_
 rintro e w' ⟨i,rfl,hi,hB⟩
 have HI:=Lib.hid hi
 clear hi
 by_cases h0:0≤i
 ·go_wp2_with fail
  exact bodyPost_ret (v:=.bool true) (by simp [results,Tryz.results99,go_sem,h0]) rfl ⟨hB,true,rfl,⟨fun _=>HI.out.1 h0,fun _=>rfl⟩⟩
 ·go_wp2_with fail
  exact bodyPost_ret (v:=.bool false) (by simp [results,Tryz.results99,go_sem,h0]) rfl ⟨hB,false,rfl,⟨fun h=>(by cases h),fun h=>absurd (HI.out.2 h) (by omega)⟩⟩
set_option maxRecDepth 100000 in
set_option maxHeartbeats 8000000 in
theorem index_fn0 (Q:List Int→Prop) (ao:Option Addr) (len cap:Nat) (zs:List (List Int)) (w:World) (hI:Zs w.heap.size w (.slice ao len cap) zs) (h6:∀ z,z ∈ zs→z.length=6) (hl:zs.length=len) (hm:len≤1000000)
  (hf:∀ z0 z1 z2 z3 z4 z5 W,[z0,z1,z2,z3,z4,z5] ∈ zs→Below w.heap.size w W→Calls Tryz.prog 101 #[.agg #[.int .i64 z0,.int .i64 z1,.int .i64 z2,.int .i64 z3,.int .i64 z4,.int .i64 z5]] W (Tell (Q [z0,z1,z2,z3,z4,z5]) W)):
  Calls Tryz.prog 119 #[.slice ao len cap,.func (.func 101) #[] #[]] w fun e w'=>∃ i:Int,e=.returned (.int .i64 i)∧(0≤i↔∃ z,z ∈ zs∧Q z)∧Below w.heap.size w w':=by
 have HI:=Lib.hid hI
 have H6:=Lib.hid h6
 have HL:=Lib.hid hl
 have HF:=Lib.hid hf
 clear hI h6 hl hf
 go_enter Tryz.func119,Tryz.ntmps119
 go_wp2_with fail
 go_loopw [8] (fun i wr=>∃ k:Nat,k≤len∧i=.int .i64 k∧Below w.heap.size w wr∧RowKit.Hid (∀ j,j<k→¬ Q (zat zs j))) (fun i _=>len - (intOf i).toNat)
 case atStart=>exact ⟨0,Nat.zero_le _,rfl,Below.refl _ _,Lib.hid (fun j hj=>absurd hj (Nat.not_lt_zero j))⟩
 case round=>
  obtain ⟨k,hk,rfl,hB,HN⟩:=hrel
  by_cases hkn:k<len
  ·have hkz:k<zs.length:=by rw [HL.out];exact hkn
   obtain ⟨bq,off,rfl,-,hb,c0,c1,c2,c3,c4,c5⟩:=zs_at (HI.out.below hB) hkz
   have hbr:bq<wr.heap.size:=Nat.lt_of_lt_of_le hb hB.size
   have hz6:=H6.out _ (zat_mem hkz)
   have hmem:=zat_mem hkz
   have hone:∀ j,j=k→zat zs j=zat zs k:=fun j e=>by rw [e]
   generalize zat zs k=zk at c0 c1 c2 c3 c4 c5 hz6 hmem hone
   obtain ⟨z0,z1,z2,z3,z4,z5,rfl⟩:=six hz6
   have c0:wr.cell? ⟨bq,off+k*6,none⟩=some (.int .i64 z0):=c0
   have c1:wr.cell? ⟨bq,off+k*6+1,none⟩=some (.int .i64 z1):=c1
   have c2:wr.cell? ⟨bq,off+k*6+2,none⟩=some (.int .i64 z2):=c2
   have c3:wr.cell? ⟨bq,off+k*6+3,none⟩=some (.int .i64 z3):=c3
   have c4:wr.cell? ⟨bq,off+k*6+4,none⟩=some (.int .i64 z4):=c4
   have c5:wr.cell? ⟨bq,off+k*6+5,none⟩=some (.int .i64 z5):=c5
   have HMEM:=Lib.hid hmem
   have HONE:=Lib.hid hone
   have hkn':(k:Int)<len:=by omega
   clear hmem hone hz6
   go_wp2_with fail
   clear c0 c1 c2 c3 c4 c5 hbr
   refine (HF.out z0 z1 z2 z3 z4 z5 wr HMEM.out hB).mono ?_
   rintro e w2 ⟨hB2,r,rfl,hq⟩
   replace hB:=later hB hB2
   clear hB2
   cases r with
   | true=>
    have HQ:=Lib.hid (hq.1 rfl)
    clear hq
    go_wp2_with fail
    go_ret
    exact ⟨k,rfl,⟨fun _=>⟨_,HMEM.out,HQ.out⟩,fun _=>Int.natCast_nonneg k⟩,hB⟩
   | false=>
    have HQ:=Lib.hid (show ¬ Q [z0,z1,z2,z3,z4,z5] from fun q=>absurd (hq.2 q) (by decide))
    clear hq
    go_wp2_with fail
    go_roundw
    case rel=>exact ⟨k+1,by omega,by go_num,hB,Lib.hid (fun j hj=>by
     by_cases e:j=k
     ·rw [HONE.out j e]
      exact HQ.out
     ·exact HN.out j (by omega))⟩
    case measure=>simp [intOf];omega
  ·obtain rfl:len=k:=by omega
   have hkn':¬ (len:Int)<len:=by omega
   go_wp2_with fail
   go_ret
   exact ⟨-1,rfl,⟨fun h=>absurd h (by decide),fun ⟨z,hz,q⟩=>by
    obtain ⟨i,hi,rfl⟩:=List.getElem_of_mem hz
    have:=HN.out i (by rw [←HL.out];exact hi)
    unfold zat at this
    rw [List.getElem?_eq_getElem hi] at this
    exact (this q).elim⟩,hB⟩
set_option maxRecDepth 100000 in
set_option maxHeartbeats 8000000 in
theorem contains_fn0 (Q:List Int→Prop) (ao:Option Addr) (len cap:Nat) (zs:List (List Int)) (w:World) (hI:Zs w.heap.size w (.slice ao len cap) zs) (h6:∀ z,z ∈ zs→z.length=6) (hl:zs.length=len) (hm:len≤1000000)
  (hf:∀ z0 z1 z2 z3 z4 z5 W,[z0,z1,z2,z3,z4,z5] ∈ zs→Below w.heap.size w W→Calls Tryz.prog 101 #[.agg #[.int .i64 z0,.int .i64 z1,.int .i64 z2,.int .i64 z3,.int .i64 z4,.int .i64 z5]] W (Tell (Q [z0,z1,z2,z3,z4,z5]) W)):
  Calls Tryz.prog 72 #[.slice ao len cap,.func (.func 101) #[] #[]] w (Tell (∃ z,z ∈ zs∧Q z) w):=by
 have c:=index_fn0 Q ao len cap zs w hI h6 hl hm hf
 clear hI h6 hl hf
 go_enter Tryz.func72,Tryz.ntmps72
 go_wp2_with fail
 refine Calls.mono c ?_
 rintro e w' ⟨i,rfl,hi,hB⟩
 have HI:=Lib.hid hi
 clear hi
 by_cases h0:0≤i
 ·go_wp2_with fail
  exact bodyPost_ret (v:=.bool true) (by simp [results,Tryz.results72,go_sem,h0]) rfl ⟨hB,true,rfl,⟨fun _=>HI.out.1 h0,fun _=>rfl⟩⟩
 ·go_wp2_with fail
  exact bodyPost_ret (v:=.bool false) (by simp [results,Tryz.results72,go_sem,h0]) rfl ⟨hB,false,rfl,⟨fun h=>(by cases h),fun h=>absurd (HI.out.2 h) (by omega)⟩⟩
set_option maxRecDepth 100000 in
set_option maxHeartbeats 8000000 in
theorem index_fn1 (Q:List Int→Prop) (c0:Value) (ao:Option Addr) (len cap:Nat) (zs:List (List Int)) (w:World) (hI:Zs w.heap.size w (.slice ao len cap) zs) (h6:∀ z,z ∈ zs→z.length=6) (hl:zs.length=len) (hm:len≤1000000)
  (hf:∀ z0 z1 z2 z3 z4 z5 W,[z0,z1,z2,z3,z4,z5] ∈ zs→Below w.heap.size w W→Calls Tryz.prog 71 #[.agg #[.int .i64 z0,.int .i64 z1,.int .i64 z2,.int .i64 z3,.int .i64 z4,.int .i64 z5],c0] W (Tell (Q [z0,z1,z2,z3,z4,z5]) W)):
  Calls Tryz.prog 119 #[.slice ao len cap,.func (.func 71) #[] #[c0]] w fun e w'=>∃ i:Int,e=.returned (.int .i64 i)∧(0≤i↔∃ z,z ∈ zs∧Q z)∧Below w.heap.size w w':=by
 have HI:=Lib.hid hI
 have H6:=Lib.hid h6
 have HL:=Lib.hid hl
 have HF:=Lib.hid hf
 clear hI h6 hl hf
 go_enter Tryz.func119,Tryz.ntmps119
 go_wp2_with fail
 go_loopw [8] (fun i wr=>∃ k:Nat,k≤len∧i=.int .i64 k∧Below w.heap.size w wr∧RowKit.Hid (∀ j,j<k→¬ Q (zat zs j))) (fun i _=>len - (intOf i).toNat)
 case atStart=>exact ⟨0,Nat.zero_le _,rfl,Below.refl _ _,Lib.hid (fun j hj=>absurd hj (Nat.not_lt_zero j))⟩
 case round=>
  obtain ⟨k,hk,rfl,hB,HN⟩:=hrel
  by_cases hkn:k<len
  ·have hkz:k<zs.length:=by rw [HL.out];exact hkn
   obtain ⟨bq,off,rfl,-,hb,c0,c1,c2,c3,c4,c5⟩:=zs_at (HI.out.below hB) hkz
   have hbr:bq<wr.heap.size:=Nat.lt_of_lt_of_le hb hB.size
   have hz6:=H6.out _ (zat_mem hkz)
   have hmem:=zat_mem hkz
   have hone:∀ j,j=k→zat zs j=zat zs k:=fun j e=>by rw [e]
   generalize zat zs k=zk at c0 c1 c2 c3 c4 c5 hz6 hmem hone
   obtain ⟨z0,z1,z2,z3,z4,z5,rfl⟩:=six hz6
   have c0:wr.cell? ⟨bq,off+k*6,none⟩=some (.int .i64 z0):=c0
   have c1:wr.cell? ⟨bq,off+k*6+1,none⟩=some (.int .i64 z1):=c1
   have c2:wr.cell? ⟨bq,off+k*6+2,none⟩=some (.int .i64 z2):=c2
   have c3:wr.cell? ⟨bq,off+k*6+3,none⟩=some (.int .i64 z3):=c3
   have c4:wr.cell? ⟨bq,off+k*6+4,none⟩=some (.int .i64 z4):=c4
   have c5:wr.cell? ⟨bq,off+k*6+5,none⟩=some (.int .i64 z5):=c5
   have HMEM:=Lib.hid hmem
   have HONE:=Lib.hid hone
   have hkn':(k:Int)<len:=by omega
   clear hmem hone hz6
   go_wp2_with fail
   clear c0 c1 c2 c3 c4 c5 hbr
   refine (HF.out z0 z1 z2 z3 z4 z5 wr HMEM.out hB).mono ?_
   rintro e w2 ⟨hB2,r,rfl,hq⟩
   replace hB:=later hB hB2
   clear hB2
   cases r with
   | true=>
    have HQ:=Lib.hid (hq.1 rfl)
    clear hq
    go_wp2_with fail
    go_ret
    exact ⟨k,rfl,⟨fun _=>⟨_,HMEM.out,HQ.out⟩,fun _=>Int.natCast_nonneg k⟩,hB⟩
   | false=>
    have HQ:=Lib.hid (show ¬ Q [z0,z1,z2,z3,z4,z5] from fun q=>absurd (hq.2 q) (by decide))
    clear hq
    go_wp2_with fail
    go_roundw
    case rel=>exact ⟨k+1,by omega,by go_num,hB,Lib.hid (fun j hj=>by
     by_cases e:j=k
     ·rw [HONE.out j e]
      exact HQ.out
     ·exact HN.out j (by omega))⟩
    case measure=>simp [intOf];omega
  ·obtain rfl:len=k:=by omega
   have hkn':¬ (len:Int)<len:=by omega
   go_wp2_with fail
   go_ret
   exact ⟨-1,rfl,⟨fun h=>absurd h (by decide),fun ⟨z,hz,q⟩=>by
    obtain ⟨i,hi,rfl⟩:=List.getElem_of_mem hz
    have:=HN.out i (by rw [←HL.out];exact hi)
    unfold zat at this
    rw [List.getElem?_eq_getElem hi] at this
    exact (this q).elim⟩,hB⟩
set_option maxRecDepth 100000 in
set_option maxHeartbeats 8000000 in
theorem contains_fn1 (Q:List Int→Prop) (c0:Value) (ao:Option Addr) (len cap:Nat) (zs:List (List Int)) (w:World) (hI:Zs w.heap.size w (.slice ao len cap) zs) (h6:∀ z,z ∈ zs→z.length=6) (hl:zs.length=len) (hm:len≤1000000)
  (hf:∀ z0 z1 z2 z3 z4 z5 W,[z0,z1,z2,z3,z4,z5] ∈ zs→Below w.heap.size w W→Calls Tryz.prog 71 #[.agg #[.int .i64 z0,.int .i64 z1,.int .i64 z2,.int .i64 z3,.int .i64 z4,.int .i64 z5],c0] W (Tell (Q [z0,z1,z2,z3,z4,z5]) W)):
  Calls Tryz.prog 72 #[.slice ao len cap,.func (.func 71) #[] #[c0]] w (Tell (∃ z,z ∈ zs∧Q z) w):=by
 have c:=index_fn1 Q c0 ao len cap zs w hI h6 hl hm hf
 clear hI h6 hl hf
 go_enter Tryz.func72,Tryz.ntmps72
 go_wp2_with fail
 refine Calls.mono c ?_
 rintro e w' ⟨i,rfl,hi,hB⟩
 have HI:=Lib.hid hi
 clear hi
 by_cases h0:0≤i
 ·go_wp2_with fail
  exact bodyPost_ret (v:=.bool true) (by simp [results,Tryz.results72,go_sem,h0]) rfl ⟨hB,true,rfl,⟨fun _=>HI.out.1 h0,fun _=>rfl⟩⟩
 ·go_wp2_with fail
  exact bodyPost_ret (v:=.bool false) (by simp [results,Tryz.results72,go_sem,h0]) rfl ⟨hB,false,rfl,⟨fun h=>(by cases h),fun h=>absurd (HI.out.2 h) (by omega)⟩⟩
set_option maxRecDepth 100000 in
set_option maxHeartbeats 8000000 in
theorem bad_any (z0 z1 z2 z3 z4 z5:Int) (w:World) (hP:Pl w) (ta:Tops [z0,z1,z2,z3,z4,z5]):Calls Tryz.prog 101 #[.agg #[.int .i64 z0,.int .i64 z1,.int .i64 z2,.int .i64 z3,.int .i64 z4,.int .i64 z5]] w (Tell (¬ MayZ [z0,z1,z2,z3,z4,z5]) w):=by
 obtain ⟨w0,hX⟩:∃ w0,w0=w.alloc (.cells #[.int .i64 z0,.int .i64 z1,.int .i64 z2,.int .i64 z3,.int .i64 z4,.int .i64 z5] 27):=⟨_,rfl⟩
 have DB:Below w.heap.size w w0:=by rw [hX];exact bound.up1 _ _
 have P0:=hP.on DB
 have HT:=Lib.hid ta
 clear hP ta
 go_enter Tryz.func101,Tryz.ntmps101
 go_wp2_with fail
 rw [←hX]
 clear hX
 refine (zone.check_any z0 z1 z2 z3 z4 z5 w0 P0 HT.out).mono ?_
 rintro e w1 ⟨hB,f,rfl,hc⟩
 replace DB:=later DB hB
 clear hB P0
 rcases hc with ⟨hm,rfl⟩ | ⟨hm,rfl⟩
 ·have HM:=Lib.hid hm
  clear hm
  go_wp2_with fail
  exact bodyPost_ret (v:=.bool false) (by simp [results,Tryz.results101,go_sem]) rfl ⟨DB,false,rfl,⟨fun h=>(by cases h),fun h=>(h HM.out).elim⟩⟩
 ·have HM:=Lib.hid hm
  clear hm
  go_wp2_with fail
  exact bodyPost_ret (v:=.bool true) (by simp [results,Tryz.results101,go_sem]) rfl ⟨DB,true,rfl,⟨fun _=>HM.out,fun _=>rfl⟩⟩
set_option maxRecDepth 100000 in
set_option maxHeartbeats 16000000 in
theorem concat_gen (g n:Nat) (len lenb:Nat) (x y:List (List Int)) (w:World) (hn:n=1∨n=2) (hy:n=1→y=[]∧lenb=0) (hg:g<w.heap.size)
  (hA:∀ k,k<n→∃ (a:Option Addr) (m c:Nat) (z:List (List Int)),w.cell? ⟨g,k,none⟩=some (.slice a m c)∧Zs w.heap.size w (.slice a m c) z∧z.length=m∧((k=0∧m=len∧z=x)∨(k=1∧m=lenb∧z=y)))
  (hl:x.length=len) (hm:y.length=lenb) (hs:len+lenb≤1000000):
  Calls Tryz.prog 57 #[.slice (some ⟨g,0,none⟩) n n] w fun e w'=>∃ v,e=.returned v∧w'.ownsRow w.heap.size 27 6 v (x++y).length (flatZ (x++y))∧Below w.heap.size w w':=by
 have HA:=Lib.hid hA
 have HLX:=Lib.hid hl
 have HLY:=Lib.hid hm
 have HYN:=Lib.hid hy
 have hn2:n≤2:=by omega
 have HNN:=Lib.hid hn
 clear hA hl hm hy hn
 go_enter Tryz.func57,Tryz.ntmps57
 go_wp2_with fail
 go_loopw [11,3] (fun i s wr=>∃ k S:Nat,k≤n∧S≤1000000∧i=.int .i64 k∧s=.int .i64 S∧Below w.heap.size w wr∧RowKit.Hid ((k=0→S=0)∧(k=1→S=len)∧(k=2→S=len+lenb))) (fun i _ _=>n - (intOf i).toNat)
 case atStart=>exact ⟨0,0,Nat.zero_le _,Nat.zero_le _,rfl,rfl,Below.refl _ _,Lib.hid ⟨fun _=>rfl,fun e=>absurd e (by decide),fun e=>absurd e (by decide)⟩⟩
 case round=>
  obtain ⟨k,S,hk,hS,rfl,rfl,hB,HS⟩:=hrel
  by_cases hkn:k<n
  ·obtain ⟨a,m,c,z,h1,h2,h3,h4⟩:=HA.out k hkn
   have c0:=(hB.cell (p:=⟨g,k,none⟩) hg).trans h1
   have hgr:g<wr.heap.size:=Nat.lt_of_lt_of_le hg hB.size
   obtain ⟨S1,hS1⟩:∃ T,T=S+m:=⟨_,rfl⟩
   have hSn:S1≤1000000∧((k=0∧S1=len)∨(k=1∧S1=len+lenb)):=by
    have:=HS.out
    rcases h4 with ⟨e1,e2,_⟩ | ⟨e1,e2,_⟩
    ·have:=this.1 e1;omega
    ·have:=this.2.1 e1;omega
   have hw:wrap64 ((S:Int)+(m:Int))=(S1:Int):=by
    have q:=hSn.1
    clear hSn h4 hk hkn
    rw [hS1] at q ⊢
    exact IntWalk.wrap64_in _ ⟨by omega,by omega⟩
   have hS0:¬ (S1:Int)<0:=Int.not_lt.2 (Int.natCast_nonneg _)
   have hk':(k:Int)<n:=by omega
   have HN:=Lib.hid hSn
   clear h1 h2 h3 h4 hS1 hSn
   go_wp2_with fail
   go_roundw
   case rel=>
    have q:=HN.out
    exact ⟨k+1,S1,by omega,q.1,by go_num,(by rw [hw]),hB,Lib.hid ⟨fun e=>by omega,fun e=>by omega,fun e=>by omega⟩⟩
   case measure=>simp [intOf];omega
  ·have hk2:k=n:=by omega
   have HS2:=Lib.hid (show S=len+lenb by
    rcases HNN.out with e | e
    ·have:=HS.out.2.1 (by omega);have:=HYN.out e;omega
    ·exact HS.out.2.2 (by omega))
   have hk':¬ (k:Int)<n:=by omega
   go_wp2_with fail
   clear hk' hk hkn HS
   refine (grow_zones S wr hS).mono ?_
   rintro e w1 ⟨v,rfl,hO,hB1⟩
   have hO':=own_far hO hB.size (fun _ _ _ q=>q)
   replace hB:=later hB hB1
   clear hB1 hO
   go_wp2_with fail
   go_loopw [27,6] (fun i v wq=>∃ (k:Nat) (cur:List (List Int)),k≤n∧i=.int .i64 k∧Below w.heap.size w wq∧wq.ownsRow w.heap.size 27 6 v cur.length (flatZ cur)∧RowKit.Hid ((k=0→cur=[])∧(k=1→cur=x)∧(k=2→cur=x++y))) (fun i _ _=>n - (intOf i).toNat)
   case atStart=>exact ⟨0,[],Nat.zero_le _,rfl,hB,hO',Lib.hid ⟨fun _=>rfl,fun e=>absurd e (by decide),fun e=>absurd e (by decide)⟩⟩
   case round=>
    clear hB hO'
    obtain ⟨k,cur,hk,rfl,hB,hO,HC⟩:=hrel
    by_cases hkn:k<n
    ·obtain ⟨a,m,c,z,h1,h2,h3,h4⟩:=HA.out k hkn
     have c0:=(hB.cell (p:=⟨g,k,none⟩) hg).trans h1
     have hgr:g<wr.heap.size:=Nat.lt_of_lt_of_le hg hB.size
     have hk':(k:Int)<n:=by omega
     have hcz:cur.length+z.length≤1000000∧((k=0∧cur++z=x)∨(k=1∧cur++z=x++y)):=by
      have q:=HC.out
      have q1:=HLX.out
      have q2:=HLY.out
      rcases h4 with ⟨e1,e2,e3⟩ | ⟨e1,e2,e3⟩
      ·rw [q.1 e1,e3]
       exact ⟨by show 0+_≤_;omega,.inl ⟨e1,rfl⟩⟩
      ·rw [q.2.1 e1,e3]
       exact ⟨by omega,.inr ⟨e1,rfl⟩⟩
     obtain ⟨av,cv,rfl⟩:=zs_len (zs_own hO)
     obtain ⟨v1,w2,hrun,own,hgrow,-⟩:=app_zones w.heap.size 29 (.slice av cur.length cv) (.slice a m c) cur.length w.heap.size (flatZ cur) z wr hO (h2.below hB) hcz.1 hB.size
     have hB2:=held_grown hB hB.size hO (Nat.le_refl _) hgrow
     have HRUN:=Lib.hid hrun
     have HOWN:=Lib.hid (show w2.ownsRow w.heap.size 27 6 v1 (cur++z).length (flatZ (cur++z)) by rw [List.length_append,flatZ_app];exact own)
     have HCZ:=Lib.hid hcz
     clear h1 h2 h3 h4 hrun own hgrow hO hcz hB
     generalize cur.length=cm at HRUN ⊢
     go_wp2_with (at_builtin;refine dref.append_run2 rfl (.tmp 31) (.tmp 32) 29 rfl _ _ _ _ rfl rfl HRUN.out ?_;clear HRUN)
     go_roundw
     case rel=>
      have q:=HCZ.out
      exact ⟨k+1,cur++z,by omega,by go_num,hB2,HOWN.out,Lib.hid ⟨fun e=>by omega,fun e=>by rcases q.2 with ⟨_,q⟩ | ⟨q,_⟩;exact q;omega,fun e=>by rcases q.2 with ⟨q,_⟩ | ⟨_,q⟩;omega;exact q⟩⟩
     case measure=>simp [intOf];omega
    ·have hk2:k=n:=by omega
     have hk':¬ (k:Int)<n:=by omega
     have e:cur=x++y:=by
      rcases HNN.out with e | e
      ·rw [HC.out.2.1 (by omega),(HYN.out e).1,List.append_nil]
      ·exact HC.out.2.2 (by omega)
     rw [e] at hO
     have HOW:=Lib.hid hO
     clear hO e
     go_wp2_with fail
     go_ret
     have hO:=HOW.out
     rw [List.length_append] at hO
     exact ⟨_,rfl,hO,hB⟩
set_option maxRecDepth 100000 in
set_option maxHeartbeats 16000000 in
theorem zcheck_gen (g n:Nat) (A:Nat→Option Addr) (L C:Nat→Nat) (zs:Nat→List (List Int)) (w:World) (hP:(∀ j,j<n→L j≤4096)→Pl w) (hg:g<w.heap.size) (hn:n=1∨n=2)
  (hc:∀ j,j<n→w.cell? ⟨g,j,none⟩=some (.slice (A j) (L j) (C j)))
  (hZ:(∀ j,j<n→L j≤4096)→∀ j,j<n→Zs w.heap.size w (.slice (A j) (L j) (C j)) (zs j)∧Six (zs j)∧(zs j).length=L j):
  Calls Tryz.prog 56 #[.slice (some ⟨g,0,none⟩) n n] w fun e w'=>Below w.heap.size w w'∧∃ f,e=.returned (.int .i64 f)∧
   (((∃ j,j<n∧4096<L j)∧f=4)∨((∀ j,j<n→L j≤4096)∧(((∀ j,j<n→∀ z,z ∈ zs j→MayZ z)∧f=0)∨((∃ j,j<n∧∃ z,z ∈ zs j∧¬ MayZ z)∧f=8)))):=by
 have HC:=Lib.hid hc
 have HZ:=Lib.hid hZ
 have HP:=Lib.hid hP
 have hn2:n≤2:=by omega
 have HN:=Lib.hid hn
 clear hc hZ hP hn
 go_enter Tryz.func56,Tryz.ntmps56
 go_wp2_with fail
 refine (clists_any g n A L C w hg hn2 HC.out).mono ?_
 rintro e w1 ⟨hB,r,rfl,hq⟩
 cases r with
 | true=>
  have HQ:=Lib.hid (hq.1 rfl)
  clear hq
  go_wp2_with fail
  exact bodyPost_ret (v:=.int .i64 4) (by simp [results,Tryz.results56,go_sem]) rfl ⟨hB,4,rfl,.inl ⟨HQ.out,rfl⟩⟩
 | false=>
  have hL:∀ j,j<n→L j≤4096:=fun j hj=>Nat.not_lt.1 fun k=>absurd (hq.2 ⟨j,hj,k⟩) (by decide)
  have HLL:=Lib.hid hL
  have HZ2:=Lib.hid (HZ.out hL)
  have P1:=(HP.out hL).on hB
  have hg1:g<w1.heap.size:=Nat.lt_of_lt_of_le hg hB.size
  obtain ⟨x,hx⟩:∃ x,x=zs 0:=⟨_,rfl⟩
  obtain ⟨y,hy⟩:∃ y,y=if n=2 then zs 1 else []:=⟨_,rfl⟩
  have h0:0<n:=by rcases HN.out with e | e<;>omega
  have hx1:=(HZ2.out 0 h0).2
  rw [←hx] at hx1
  have hy1:Six y∧y.length≤4096∧(n=1→y=[])∧(n=2→y=zs 1):=by
   rcases HN.out with e | e
   ·subst e
    rw [if_neg (by decide)] at hy
    subst hy
    exact ⟨six_nil,by decide,fun _=>rfl,fun e=>absurd e (by decide)⟩
   ·subst e
    rw [if_pos rfl] at hy
    subst hy
    have:=HZ2.out 1 (by decide)
    exact ⟨this.2.1,by rw [this.2.2];exact hL 1 (by decide),fun e=>absurd e (by decide),fun _=>rfl⟩
  have HX:=Lib.hid hx
  have HX1:=Lib.hid hx1
  have HY1:=Lib.hid hy1
  have hxl:x.length≤4096:=by rw [hx1.2];exact hL 0 h0
  have hyl:=hy1.2.1
  have HA:=Lib.hid (show ∀ k,k<n→∃ (a:Option Addr) (m c:Nat) (z:List (List Int)),w1.cell? ⟨g,k,none⟩=some (.slice a m c)∧Zs w1.heap.size w1 (.slice a m c) z∧z.length=m∧((k=0∧m=x.length∧z=x)∨(k=1∧m=y.length∧z=y)) from fun k hk=>by
   obtain ⟨k1,k2,k3⟩:=HZ2.out k hk
   refine ⟨A k,L k,C k,zs k,(hB.cell (p:=⟨g,k,none⟩) hg).trans (HC.out k hk),(k1.below hB).mono hB.size,k3,?_⟩
   rcases (by omega:k=0∨k=1) with rfl | rfl
   ·exact .inl ⟨rfl,by rw [HX.out];exact k3.symm,HX.out.symm⟩
   ·have e2:n=2:=by omega
    exact .inr ⟨rfl,by rw [HY1.out.2.2.2 e2];exact k3.symm,(HY1.out.2.2.2 e2).symm⟩)
  clear hq hL hx hy hx1 hy1
  go_wp2_with fail
  refine (concat_gen g n x.length y.length x y w1 HN.out (fun e=>by rw [HY1.out.2.2.1 e];exact ⟨rfl,rfl⟩) hg1 HA.out rfl rfl (by omega)).mono ?_
  rintro e w2 ⟨v,rfl,hO,hB2⟩
  replace P1:=P1.on hB2
  replace hB:=later hB hB2
  obtain ⟨av,cv,rfl⟩:=zs_len (zs_own hO)
  have HO:=Lib.hid (zs_own hO)
  have hlen:(x++y).length≤1000000:=by rw [List.length_append];omega
  have H6:=Lib.hid (six_app HX1.out.1 HY1.out.1)
  clear hB2 hO
  generalize hnn:(x++y).length=nn at HO hlen ⊢
  have HNN:=Lib.hid hnn
  clear hnn
  go_wp2_with fail
  refine (contains_fn0 (fun z=>¬ MayZ z) av nn cv (x++y) w2 HO.out (fun z hz=>(H6.out z hz).1) HNN.out hlen (fun z0 z1 z2 z3 z4 z5 W hz hB=>bad_any z0 z1 z2 z3 z4 z5 W (P1.on hB) (H6.out _ hz).2)).mono ?_
  rintro e w3 ⟨hB3,r,rfl,hq⟩
  replace hB:=later hB hB3
  cases r with
  | true=>
   have HQ:=Lib.hid (hq.1 rfl)
   clear hq hB3 P1
   go_wp2_with fail
   refine bodyPost_ret (v:=.int .i64 8) (by simp [results,Tryz.results56,go_sem]) rfl ⟨hB,8,rfl,.inr ⟨HLL.out,.inr ⟨?_,rfl⟩⟩⟩
   obtain ⟨z,hz,k⟩:=HQ.out
   rcases List.mem_append.1 hz with j | j
   ·exact ⟨0,h0,z,by rw [←HX.out];exact j,k⟩
   ·rcases HN.out with e | e
    ·rw [HY1.out.2.2.1 e] at j;cases j
    ·exact ⟨1,by omega,z,by rw [←HY1.out.2.2.2 e];exact j,k⟩
  | false=>
   have HQ:=Lib.hid (show ∀ z,z ∈ x++y→MayZ z from fun z hz=>Classical.byContradiction fun k=>absurd (hq.2 ⟨z,hz,k⟩) (by decide))
   clear hq hB3 P1
   go_wp2_with fail
   refine bodyPost_ret (v:=.int .i64 0) (by simp [results,Tryz.results56,go_sem]) rfl ⟨hB,0,rfl,.inr ⟨HLL.out,.inl ⟨fun j hj z hz=>?_,rfl⟩⟩⟩
   rcases (by omega:j=0∨j=1) with rfl | rfl
   ·exact HQ.out z (List.mem_append.2 (.inl (by rw [HX.out];exact hz)))
   ·exact HQ.out z (List.mem_append.2 (.inr (by rw [HY1.out.2.2.2 (by omega)];exact hz)))
theorem zcheck_one (g:Nat) (ao:Option Addr) (len cap:Nat) (l:List (List Int)) (w:World) (hc:lies.Lies w g 29 #[.slice ao len cap]) (hZ:len≤4096→Pl w∧Zs w.heap.size w (.slice ao len cap) l∧Six l) (hl:l.length=len):
  Calls Tryz.prog 56 #[.slice (some ⟨g,0,none⟩) 1 1] w fun e w'=>Below w.heap.size w w'∧∃ f,e=.returned (.int .i64 f)∧ChkR l [] f:=by
 refine (zcheck_gen g 1 (fun _=>ao) (fun _=>len) (fun _=>cap) (fun _=>l) w (fun h=>(hZ (h 0 (by decide))).1) (lies.lt hc) (by decide) (fun j hj=>?_) (fun h j hj=>⟨(hZ (h 0 (by decide))).2.1,(hZ (h 0 (by decide))).2.2,hl⟩)).mono ?_
 ·obtain rfl:j=0:=by omega
  exact lies.cell hc 0
 ·rintro e w' ⟨hB,f,rfl,⟨⟨j,hj,hk⟩,rfl⟩ | ⟨hk,⟨hm,rfl⟩ | ⟨⟨j,hj,z,hz,hm⟩,rfl⟩⟩⟩
  ·exact ⟨hB,4,rfl,.inl ⟨.inl (by rw [hl];exact hk),rfl⟩⟩
  ·exact ⟨hB,0,rfl,.inr (.inr ⟨by rw [hl];exact hk 0 (by decide),by decide,hm 0 (by decide),fun x hx=>(by cases hx),rfl⟩)⟩
  ·exact ⟨hB,8,rfl,.inr (.inl ⟨by rw [hl];exact hk 0 (by decide),by decide,fun q=>hm (q.1 z hz),rfl⟩)⟩
end Go.Proofs.YthmljpccbjolgaaGreatDoor.zset
namespace Go.Proofs.YthmljpccbjolgaaGreatDoor.zset
open Go.Joins Go.ChangeShapes Go.WideShapes Go.ChangeAt Go.RowKit num rat dbm Go.Proofs.YthmljpccbjolgaaGreatDoor.tight Go.Proofs.YthmljpccbjolgaaGreatDoor.incl Go.Proofs.YthmljpccbjolgaaGreatDoor.plaw Go.Proofs.YthmljpccbjolgaaGreatDoor.zopen Go.Proofs.YthmljpccbjolgaaGreatDoor.zone Go.Proofs.YthmljpccbjolgaaGreatDoor.comp Go.Proofs.YthmljpccbjolgaaGreatDoor.win Go.Proofs.YthmljpccbjolgaaGreatDoor.minus Go.Proofs.YthmljpccbjolgaaGreatDoor.mz Go.Proofs.YthmljpccbjolgaaGreatDoor.mlaw Go.Proofs.YthmljpccbjolgaaGreatDoor.cover
open bound hiding up
set_option linter.unusedVariables false
set_option linter.unusedSimpArgs false
set_option linter.unusedSectionVars false
set_option maxRecDepth 100000 in
set_option maxHeartbeats 16000000 in
theorem collect_w (U:To) (e0:Value) (ao:Option Addr) (len cap:Nat) (l:List (List Int)) (w:World) (hI:Zs w.heap.size w (.slice ao len cap) l) (h6:∀ z,z ∈ l→z.length=6) (hl:l.length=len) (hm:len≤900000)
  (hf:∀ z0 z1 z2 z3 z4 z5 W,[z0,z1,z2,z3,z4,z5] ∈ l→Below w.heap.size w W→Calls Tryz.prog 63 #[.agg #[.int .i64 z0,.int .i64 z1,.int .i64 z2,.int .i64 z3,.int .i64 z4,.int .i64 z5],e0] W (win.Zs (U [z0,z1,z2,z3,z4,z5]) W)):
  Calls Tryz.prog 90 #[.slice ao len cap,.func (.func 63) #[] #[e0]] w (Zans (Col U l []) w):=by
 have HI:=Lib.hid hI
 have H6:=Lib.hid h6
 have HL:=Lib.hid hl
 have HF:=Lib.hid hf
 clear hI h6 hl hf
 go_enter Tryz.func90,Tryz.ntmps90
 go_wp2_with fail
 go_loopw [13,6] (fun i v wr=>∃ (k m:Nat) (cur:List (List Int)),k≤len∧i=.int .i64 k∧m=cur.length∧m≤k∧Below w.heap.size w wr∧wr.ownsRow w.heap.size 27 6 v m (flatZ cur)∧RowKit.Hid (∀ r f,Col U (l.drop k) cur r f→Col U l [] r f)) (fun i _ _=>len - (intOf i).toNat)
 case atStart=>exact ⟨0,0,[],Nat.zero_le _,rfl,rfl,Nat.le_refl _,Below.refl _ _,World.ownsRow_nil _ _ _ _,Lib.hid (fun r f h=>h)⟩
 case round=>
  obtain ⟨k,m,cur,hk,rfl,hmc,hmk,hB,hO,HC⟩:=hrel
  obtain ⟨av,cv,hv⟩:=zs_len (zs_own hO)
  rw [←hmc] at hv
  subst hv
  have HMC:=Lib.hid hmc
  clear hmc
  by_cases hkn:k<len
  ·have hkz:k<l.length:=by rw [HL.out];exact hkn
   have hkn':(k:Int)<len:=by omega
   obtain ⟨bq,off,rfl,-,hb,c0,c1,c2,c3,c4,c5⟩:=zs_at (HI.out.below hB) hkz
   have hbr:bq<wr.heap.size:=Nat.lt_of_lt_of_le hb hB.size
   have hz6:=H6.out _ (zat_mem hkz)
   have hmem:=zat_mem hkz
   have hdr:l.drop k=zat l k::l.drop (k+1):=by
    rw [List.drop_eq_getElem_cons hkz]
    unfold zat
    rw [List.getElem?_eq_getElem hkz]
    rfl
   generalize zat l k=zk at c0 c1 c2 c3 c4 c5 hz6 hmem hdr
   obtain ⟨z0,z1,z2,z3,z4,z5,rfl⟩:=six hz6
   have c0:wr.cell? ⟨bq,off+k*6,none⟩=some (.int .i64 z0):=c0
   have c1:wr.cell? ⟨bq,off+k*6+1,none⟩=some (.int .i64 z1):=c1
   have c2:wr.cell? ⟨bq,off+k*6+2,none⟩=some (.int .i64 z2):=c2
   have c3:wr.cell? ⟨bq,off+k*6+3,none⟩=some (.int .i64 z3):=c3
   have c4:wr.cell? ⟨bq,off+k*6+4,none⟩=some (.int .i64 z4):=c4
   have c5:wr.cell? ⟨bq,off+k*6+5,none⟩=some (.int .i64 z5):=c5
   have HMEM:=Lib.hid hmem
   have HDR:=Lib.hid hdr
   clear hmem hdr hz6
   go_wp2_with fail
   clear c0 c1 c2 c3 c4 c5 hbr
   have hA:=bound.up1 wr (.cells #[.int .i64 z0,.int .i64 z1,.int .i64 z2,.int .i64 z3,.int .i64 z4,.int .i64 z5] 27)
   replace hO:=incl.own_call hO hA
   replace hB:=later hB hA
   clear hA
   generalize wr.heap.size=ZB
   generalize wr.alloc (.cells #[.int .i64 z0,.int .i64 z1,.int .i64 z2,.int .i64 z3,.int .i64 z4,.int .i64 z5] 27)=w1 at hO hB ⊢
   refine (HF.out z0 z1 z2 z3 z4 z5 w1 HMEM.out hB).mono ?_
   rintro e w2 ⟨hB2,o0,o1,o2,o3,o4,o5,f,rfl,hT⟩
   replace hO:=incl.own_call hO hB2
   replace hB:=later hB hB2
   have HT:=Lib.hid hT
   clear hB2 hT
   by_cases h6:f=6
   ·subst h6
    have HN:=Lib.hid (show ∀ r f,Col U (l.drop (k+1)) cur r f→Col U l [] r f from fun r f h=>HC.out r f (by rw [HDR.out];exact ⟨_,6,HT.out,.inl ⟨rfl,h⟩⟩))
    have hA:=bound.up1 w2 (.cells #[.int .i64 o0,.int .i64 o1,.int .i64 o2,.int .i64 o3,.int .i64 o4,.int .i64 o5] 27)
    have HO:=Lib.hid (incl.own_call hO hA)
    replace hB:=later hB hA
    clear hA hO HC HT
    go_wp2_with fail
    go_roundw
    case rel=>exact ⟨k+1,m,cur,by omega,by go_num,HMC.out,by omega,hB,HO.out,HN⟩
    case measure=>simp [intOf];omega
   ·by_cases h0:f=0
    ·subst h0
     have HN:=Lib.hid (show ∀ r f,Col U (l.drop (k+1)) (cur++[[o0,o1,o2,o3,o4,o5]]) r f→Col U l [] r f from fun r f h=>HC.out r f (by rw [HDR.out];exact ⟨_,0,HT.out,.inr (.inr ⟨rfl,h⟩)⟩))
     have hA:=lies.frame_up (bound.up1 w2 (.cells #[.int .i64 o0,.int .i64 o1,.int .i64 o2,.int .i64 o3,.int .i64 o4,.int .i64 o5] 27)) (.cells #[.int .i64 o0,.int .i64 o1,.int .i64 o2,.int .i64 o3,.int .i64 o4,.int .i64 o5] 27)
     have hO1:=incl.own_call hO hA
     have hbx:=zs_box (lies.made_at (w2.alloc (.cells #[.int .i64 o0,.int .i64 o1,.int .i64 o2,.int .i64 o3,.int .i64 o4,.int .i64 o5] 27)) 27 #[.int .i64 o0,.int .i64 o1,.int .i64 o2,.int .i64 o3,.int .i64 o4,.int .i64 o5] (w2.heap.size+1) (by simp))
     obtain ⟨v1,w3,hrun,own,hgrow,-⟩:=app_zones w.heap.size 29 (.slice av m cv) (.slice (some ⟨w2.heap.size+1,0,none⟩) 1 1) m _ (flatZ cur) [[o0,o1,o2,o3,o4,o5]] ((w2.alloc (.cells #[.int .i64 o0,.int .i64 o1,.int .i64 o2,.int .i64 o3,.int .i64 o4,.int .i64 o5] 27)).alloc (.cells #[.int .i64 o0,.int .i64 o1,.int .i64 o2,.int .i64 o3,.int .i64 o4,.int .i64 o5] 27)) hO1 hbx (by show m+1≤_;omega) (Nat.le_trans hB.size hA.size)
     have hB1:Below w.heap.size w ((w2.alloc (.cells #[.int .i64 o0,.int .i64 o1,.int .i64 o2,.int .i64 o3,.int .i64 o4,.int .i64 o5] 27)).alloc (.cells #[.int .i64 o0,.int .i64 o1,.int .i64 o2,.int .i64 o3,.int .i64 o4,.int .i64 o5] 27)):=later hB hA
     have hB2:=held_grown hB1 hB1.size hO1 (Nat.le_refl _) hgrow
     have HRUN:=Lib.hid hrun
     have HOWN:=Lib.hid (show w3.ownsRow w.heap.size 27 6 v1 (m+1) (flatZ (cur++[[o0,o1,o2,o3,o4,o5]])) by rw [flatZ_app];exact own)
     have HM1:=Lib.hid (show m+1=(cur++[[o0,o1,o2,o3,o4,o5]]).length by rw [List.length_append,←HMC.out];rfl)
     clear hrun own hgrow hO hO1 hB1 hA hB HC HT h6 hbx
     go_wp2_with (at_builtin;refine dref.append_run2 rfl (.tmp 28) (.tmp 30) 29 rfl _ _ _ _ rfl rfl HRUN.out ?_;clear HRUN)
     go_roundw
     case rel=>exact ⟨k+1,m+1,cur++[[o0,o1,o2,o3,o4,o5]],by omega,by go_num,HM1.out,by omega,hB2,HOWN.out,HN⟩
     case measure=>simp [intOf];omega
    ·have HN:=Lib.hid (show Col U l [] [] f from HC.out [] f (by rw [HDR.out];exact ⟨_,f,HT.out,.inr (.inl ⟨h6,h0,rfl,rfl⟩)⟩))
     have hA:=bound.up1 w2 (.cells #[.int .i64 o0,.int .i64 o1,.int .i64 o2,.int .i64 o3,.int .i64 o4,.int .i64 o5] 27)
     replace hB:=later hB hA
     clear hA hO HC HT
     go_wp2_with fail
     exact bodyPost_ret (v:=.tuple #[.slice none 0 0,.int .i64 f]) (by simp [results,Tryz.results90,go_sem]) rfl ⟨hB,_,[],f,rfl,HN.out,World.ownsRow_nil _ _ _ _⟩
  ·have hke:l.drop k=[]:=List.drop_eq_nil_of_le (by rw [HL.out];omega)
   have hkn':¬ (k:Int)<len:=by omega
   have HN:=Lib.hid (show Col U l [] cur 0 from HC.out cur 0 (by rw [hke];exact ⟨rfl,rfl⟩))
   have HO:=Lib.hid (show wr.ownsRow w.heap.size 27 6 (.slice av m cv) cur.length (flatZ cur) by rw [←HMC.out];exact hO)
   clear hO HC hke
   go_wp2_with fail
   exact bodyPost_ret (v:=.tuple #[.slice av m cv,.int .i64 0]) (by simp [results,Tryz.results90,go_sem]) rfl ⟨hB,_,cur,0,rfl,HN.out,HO.out⟩
set_option maxRecDepth 100000 in
set_option maxHeartbeats 16000000 in
theorem collect_n (U:To) (e0:Value) (e1:Value) (ao:Option Addr) (len cap:Nat) (l:List (List Int)) (w:World) (hI:Zs w.heap.size w (.slice ao len cap) l) (h6:∀ z,z ∈ l→z.length=6) (hl:l.length=len) (hm:len≤900000)
  (hf:∀ z0 z1 z2 z3 z4 z5 W,[z0,z1,z2,z3,z4,z5] ∈ l→Below w.heap.size w W→Calls Tryz.prog 67 #[.agg #[.int .i64 z0,.int .i64 z1,.int .i64 z2,.int .i64 z3,.int .i64 z4,.int .i64 z5],e0,e1] W (win.Zs (U [z0,z1,z2,z3,z4,z5]) W)):
  Calls Tryz.prog 90 #[.slice ao len cap,.func (.func 67) #[] #[e0,e1]] w (Zans (Col U l []) w):=by
 have HI:=Lib.hid hI
 have H6:=Lib.hid h6
 have HL:=Lib.hid hl
 have HF:=Lib.hid hf
 clear hI h6 hl hf
 go_enter Tryz.func90,Tryz.ntmps90
 go_wp2_with fail
 go_loopw [13,6] (fun i v wr=>∃ (k m:Nat) (cur:List (List Int)),k≤len∧i=.int .i64 k∧m=cur.length∧m≤k∧Below w.heap.size w wr∧wr.ownsRow w.heap.size 27 6 v m (flatZ cur)∧RowKit.Hid (∀ r f,Col U (l.drop k) cur r f→Col U l [] r f)) (fun i _ _=>len - (intOf i).toNat)
 case atStart=>exact ⟨0,0,[],Nat.zero_le _,rfl,rfl,Nat.le_refl _,Below.refl _ _,World.ownsRow_nil _ _ _ _,Lib.hid (fun r f h=>h)⟩
 case round=>
  obtain ⟨k,m,cur,hk,rfl,hmc,hmk,hB,hO,HC⟩:=hrel
  obtain ⟨av,cv,hv⟩:=zs_len (zs_own hO)
  rw [←hmc] at hv
  subst hv
  have HMC:=Lib.hid hmc
  clear hmc
  by_cases hkn:k<len
  ·have hkz:k<l.length:=by rw [HL.out];exact hkn
   have hkn':(k:Int)<len:=by omega
   obtain ⟨bq,off,rfl,-,hb,c0,c1,c2,c3,c4,c5⟩:=zs_at (HI.out.below hB) hkz
   have hbr:bq<wr.heap.size:=Nat.lt_of_lt_of_le hb hB.size
   have hz6:=H6.out _ (zat_mem hkz)
   have hmem:=zat_mem hkz
   have hdr:l.drop k=zat l k::l.drop (k+1):=by
    rw [List.drop_eq_getElem_cons hkz]
    unfold zat
    rw [List.getElem?_eq_getElem hkz]
    rfl
   generalize zat l k=zk at c0 c1 c2 c3 c4 c5 hz6 hmem hdr
   obtain ⟨z0,z1,z2,z3,z4,z5,rfl⟩:=six hz6
   have c0:wr.cell? ⟨bq,off+k*6,none⟩=some (.int .i64 z0):=c0
   have c1:wr.cell? ⟨bq,off+k*6+1,none⟩=some (.int .i64 z1):=c1
   have c2:wr.cell? ⟨bq,off+k*6+2,none⟩=some (.int .i64 z2):=c2
   have c3:wr.cell? ⟨bq,off+k*6+3,none⟩=some (.int .i64 z3):=c3
   have c4:wr.cell? ⟨bq,off+k*6+4,none⟩=some (.int .i64 z4):=c4
   have c5:wr.cell? ⟨bq,off+k*6+5,none⟩=some (.int .i64 z5):=c5
   have HMEM:=Lib.hid hmem
   have HDR:=Lib.hid hdr
   clear hmem hdr hz6
   go_wp2_with fail
   clear c0 c1 c2 c3 c4 c5 hbr
   have hA:=bound.up1 wr (.cells #[.int .i64 z0,.int .i64 z1,.int .i64 z2,.int .i64 z3,.int .i64 z4,.int .i64 z5] 27)
   replace hO:=incl.own_call hO hA
   replace hB:=later hB hA
   clear hA
   generalize wr.heap.size=ZB
   generalize wr.alloc (.cells #[.int .i64 z0,.int .i64 z1,.int .i64 z2,.int .i64 z3,.int .i64 z4,.int .i64 z5] 27)=w1 at hO hB ⊢
   refine (HF.out z0 z1 z2 z3 z4 z5 w1 HMEM.out hB).mono ?_
   rintro e w2 ⟨hB2,o0,o1,o2,o3,o4,o5,f,rfl,hT⟩
   replace hO:=incl.own_call hO hB2
   replace hB:=later hB hB2
   have HT:=Lib.hid hT
   clear hB2 hT
   by_cases h6:f=6
   ·subst h6
    have HN:=Lib.hid (show ∀ r f,Col U (l.drop (k+1)) cur r f→Col U l [] r f from fun r f h=>HC.out r f (by rw [HDR.out];exact ⟨_,6,HT.out,.inl ⟨rfl,h⟩⟩))
    have hA:=bound.up1 w2 (.cells #[.int .i64 o0,.int .i64 o1,.int .i64 o2,.int .i64 o3,.int .i64 o4,.int .i64 o5] 27)
    have HO:=Lib.hid (incl.own_call hO hA)
    replace hB:=later hB hA
    clear hA hO HC HT
    go_wp2_with fail
    go_roundw
    case rel=>exact ⟨k+1,m,cur,by omega,by go_num,HMC.out,by omega,hB,HO.out,HN⟩
    case measure=>simp [intOf];omega
   ·by_cases h0:f=0
    ·subst h0
     have HN:=Lib.hid (show ∀ r f,Col U (l.drop (k+1)) (cur++[[o0,o1,o2,o3,o4,o5]]) r f→Col U l [] r f from fun r f h=>HC.out r f (by rw [HDR.out];exact ⟨_,0,HT.out,.inr (.inr ⟨rfl,h⟩)⟩))
     have hA:=lies.frame_up (bound.up1 w2 (.cells #[.int .i64 o0,.int .i64 o1,.int .i64 o2,.int .i64 o3,.int .i64 o4,.int .i64 o5] 27)) (.cells #[.int .i64 o0,.int .i64 o1,.int .i64 o2,.int .i64 o3,.int .i64 o4,.int .i64 o5] 27)
     have hO1:=incl.own_call hO hA
     have hbx:=zs_box (lies.made_at (w2.alloc (.cells #[.int .i64 o0,.int .i64 o1,.int .i64 o2,.int .i64 o3,.int .i64 o4,.int .i64 o5] 27)) 27 #[.int .i64 o0,.int .i64 o1,.int .i64 o2,.int .i64 o3,.int .i64 o4,.int .i64 o5] (w2.heap.size+1) (by simp))
     obtain ⟨v1,w3,hrun,own,hgrow,-⟩:=app_zones w.heap.size 29 (.slice av m cv) (.slice (some ⟨w2.heap.size+1,0,none⟩) 1 1) m _ (flatZ cur) [[o0,o1,o2,o3,o4,o5]] ((w2.alloc (.cells #[.int .i64 o0,.int .i64 o1,.int .i64 o2,.int .i64 o3,.int .i64 o4,.int .i64 o5] 27)).alloc (.cells #[.int .i64 o0,.int .i64 o1,.int .i64 o2,.int .i64 o3,.int .i64 o4,.int .i64 o5] 27)) hO1 hbx (by show m+1≤_;omega) (Nat.le_trans hB.size hA.size)
     have hB1:Below w.heap.size w ((w2.alloc (.cells #[.int .i64 o0,.int .i64 o1,.int .i64 o2,.int .i64 o3,.int .i64 o4,.int .i64 o5] 27)).alloc (.cells #[.int .i64 o0,.int .i64 o1,.int .i64 o2,.int .i64 o3,.int .i64 o4,.int .i64 o5] 27)):=later hB hA
     have hB2:=held_grown hB1 hB1.size hO1 (Nat.le_refl _) hgrow
     have HRUN:=Lib.hid hrun
     have HOWN:=Lib.hid (show w3.ownsRow w.heap.size 27 6 v1 (m+1) (flatZ (cur++[[o0,o1,o2,o3,o4,o5]])) by rw [flatZ_app];exact own)
     have HM1:=Lib.hid (show m+1=(cur++[[o0,o1,o2,o3,o4,o5]]).length by rw [List.length_append,←HMC.out];rfl)
     clear hrun own hgrow hO hO1 hB1 hA hB HC HT h6 hbx
     go_wp2_with (at_builtin;refine dref.append_run2 rfl (.tmp 28) (.tmp 30) 29 rfl _ _ _ _ rfl rfl HRUN.out ?_;clear HRUN)
     go_roundw
     case rel=>exact ⟨k+1,m+1,cur++[[o0,o1,o2,o3,o4,o5]],by omega,by go_num,HM1.out,by omega,hB2,HOWN.out,HN⟩
     case measure=>simp [intOf];omega
    ·have HN:=Lib.hid (show Col U l [] [] f from HC.out [] f (by rw [HDR.out];exact ⟨_,f,HT.out,.inr (.inl ⟨h6,h0,rfl,rfl⟩)⟩))
     have hA:=bound.up1 w2 (.cells #[.int .i64 o0,.int .i64 o1,.int .i64 o2,.int .i64 o3,.int .i64 o4,.int .i64 o5] 27)
     replace hB:=later hB hA
     clear hA hO HC HT
     go_wp2_with fail
     exact bodyPost_ret (v:=.tuple #[.slice none 0 0,.int .i64 f]) (by simp [results,Tryz.results90,go_sem]) rfl ⟨hB,_,[],f,rfl,HN.out,World.ownsRow_nil _ _ _ _⟩
  ·have hke:l.drop k=[]:=List.drop_eq_nil_of_le (by rw [HL.out];omega)
   have hkn':¬ (k:Int)<len:=by omega
   have HN:=Lib.hid (show Col U l [] cur 0 from HC.out cur 0 (by rw [hke];exact ⟨rfl,rfl⟩))
   have HO:=Lib.hid (show wr.ownsRow w.heap.size 27 6 (.slice av m cv) cur.length (flatZ cur) by rw [←HMC.out];exact hO)
   clear hO HC hke
   go_wp2_with fail
   exact bodyPost_ret (v:=.tuple #[.slice av m cv,.int .i64 0]) (by simp [results,Tryz.results90,go_sem]) rfl ⟨hB,_,cur,0,rfl,HN.out,HO.out⟩
set_option maxRecDepth 100000 in
set_option maxHeartbeats 8000000 in
theorem of_gen (ao:Option Addr) (len cap:Nat) (l:List (List Int)) (w:World) (hZ:len≤4096→Pl w∧Zs w.heap.size w (.slice ao len cap) l∧Six l) (hl:l.length=len):
  Calls Tryz.prog 25 #[.slice ao len cap] w (Zans (PruX RestP l) w):=by
 have c:=prune_gen ao len cap l w hZ hl
 clear hZ hl
 go_enter Tryz.func25,Tryz.ntmps25
 go_wp2_with fail
 refine Calls.mono c ?_
 rintro e w1 ⟨hB,v,r,f,rfl,hR,hO,-⟩
 obtain ⟨av,cv,rfl⟩:=zs_len (zs_own hO)
 have HR:=Lib.hid hR
 have HO:=Lib.hid hO
 clear hR hO c
 generalize hn:r.length=n at HO ⊢
 have HN:=Lib.hid hn
 clear hn
 go_wp2_with fail
 refine bodyPost_ret (v:=.tuple #[.slice av n cv,.int .i64 f]) (by simp [results,Tryz.results25,go_sem]) rfl ⟨hB,_,r,f,rfl,HR.out,?_⟩
 rw [HN.out]
 exact HO.out
theorem of_any (ao:Option Addr) (len cap:Nat) (l:List (List Int)) (w:World) (hP:Pl w) (hI:Zs w.heap.size w (.slice ao len cap) l) (h6:Six l) (hl:l.length=len):Calls Tryz.prog 25 #[.slice ao len cap] w (Zans (PruX RestP l) w):=of_gen ao len cap l w (fun _=>⟨hP,hI,h6⟩) hl
def Pa (W:World):Prop:=0<W.heap.size∧W.cell? ⟨0,0,none⟩=some (.int .i64 9223372036854775807)∧W.cell? ⟨0,1,none⟩=some (.int .i64 9223372036854775807)∧W.cell? ⟨0,2,none⟩=some (.int .i64 9223372036854775807)∧W.cell? ⟨0,3,none⟩=some (.int .i64 9223372036854775807)∧W.cell? ⟨0,4,none⟩=some (.int .i64 9223372036854775807)∧W.cell? ⟨0,5,none⟩=some (.int .i64 9223372036854775807)
theorem Pa.below {n:Nat} {W X:World} (h:Pa W) (k:RowKit.Below n W X) (hn:0<n):Pa X:=by
 obtain ⟨h0,h1,h2,h3,h4,h5,h6⟩:=h
 exact ⟨Nat.lt_of_lt_of_le h0 k.size,(k.cell (p:=⟨0,0,none⟩) hn).trans h1,(k.cell (p:=⟨0,1,none⟩) hn).trans h2,(k.cell (p:=⟨0,2,none⟩) hn).trans h3,(k.cell (p:=⟨0,3,none⟩) hn).trans h4,(k.cell (p:=⟨0,4,none⟩) hn).trans h5,(k.cell (p:=⟨0,5,none⟩) hn).trans h6⟩
theorem Pa.on {W X:World} (h:Pa W) (k:RowKit.Below W.heap.size W X):Pa X:=h.below k h.1
theorem six_all:Six [all6]:=six_one rfl zo_all.2.1
set_option maxRecDepth 100000 in
set_option maxHeartbeats 16000000 in
theorem each_w (U:To) (Cz:Int→Prop) (e0:Value) (ao:Option Addr) (len cap:Nat) (l:List (List Int)) (w:World) (hP:Pl w) (hA:Pa w) (hZ:len≤4096→Zs w.heap.size w (.slice ao len cap) l∧Six l) (hl:l.length=len)
  (hf:∀ z0 z1 z2 z3 z4 z5 W,Tops [z0,z1,z2,z3,z4,z5]→Below w.heap.size w W→Calls Tryz.prog 63 #[.agg #[.int .i64 z0,.int .i64 z1,.int .i64 z2,.int .i64 z3,.int .i64 z4,.int .i64 z5],e0] W (win.Zs (U [z0,z1,z2,z3,z4,z5]) W)) (hx:∃ c,Cz c) (hc:∀ r e,Col U [all6] [] r e→Cz e) (ht:∀ z,Zo z→∀ o,U z o 0→Zo o):
  Calls Tryz.prog 62 #[.slice ao len cap,.func (.func 63) #[] #[e0]] w (Zans (fun r f=>∃ c,Cz c∧EachX RestP U c l r f) w):=by
 obtain ⟨w0,hX⟩:∃ w0,w0=w.alloc (.cells #[.slice ao len cap] 29):=⟨_,rfl⟩
 have DB:Below w.heap.size w w0:=by rw [hX];exact bound.up1 _ _
 have D0:lies.Lies w0 w.heap.size 29 #[.slice ao len cap]:=by rw [hX];exact lies.made _ _ _
 have HZ:=Lib.hid hZ
 have HL:=Lib.hid hl
 have HF:=Lib.hid hf
 have HP:=Lib.hid hP
 have HA:=Lib.hid hA
 have HX:=Lib.hid hx
 have HC:=Lib.hid hc
 have HT:=Lib.hid ht
 clear hZ hl hf hP hA hx hc ht
 go_enter Tryz.func62,Tryz.ntmps62
 go_wp2_with fail
 rw [←hX]
 clear hX
 refine (zcheck_one _ ao len cap l w0 D0 (fun h=>⟨HP.out.on DB,((HZ.out h).1.below DB).mono DB.size,(HZ.out h).2⟩) HL.out).mono ?_
 rintro e w1 ⟨hB,f,rfl,hR⟩
 replace DB:=later DB hB
 clear hB D0
 by_cases h0:f=0
 ·subst h0
  obtain ⟨h1,-,h3,-⟩:=chk_fine hR
  have h1:len≤4096:=by rw [←HL.out];exact h1
  obtain ⟨hI,h6⟩:=HZ.out h1
  have HR:=Lib.hid hR
  have HI:=Lib.hid hI
  have H6:=Lib.hid h6
  have HML:=Lib.hid (h6.zo h3)
  clear hI h6 hR h3 HZ
  obtain ⟨pl,p0,p1,p2,p3,p4,p5⟩:=HA.out.on DB
  have hU:=bound.up1 w1 (.cells #[.int .i64 9223372036854775807,.int .i64 9223372036854775807,.int .i64 9223372036854775807,.int .i64 9223372036854775807,.int .i64 9223372036854775807,.int .i64 9223372036854775807] 27)
  have D1:=lies.made w1 27 #[.int .i64 9223372036854775807,.int .i64 9223372036854775807,.int .i64 9223372036854775807,.int .i64 9223372036854775807,.int .i64 9223372036854775807,.int .i64 9223372036854775807]
  go_wp2_with fail
  clear p0 p1 p2 p3 p4 p5 pl
  replace DB:=later DB hU
  clear hU
  generalize w1.heap.size=BX at D1 ⊢
  generalize w1.alloc (.cells #[.int .i64 9223372036854775807,.int .i64 9223372036854775807,.int .i64 9223372036854775807,.int .i64 9223372036854775807,.int .i64 9223372036854775807,.int .i64 9223372036854775807] 27)=w2 at D1 DB ⊢
  refine (collect_w U e0 (some ⟨BX,0,none⟩) 1 1 [all6] w2 (zs_box D1) (fun z hz=>by rw [List.mem_singleton.1 hz];rfl) rfl (by decide) (fun z0 z1 z2 z3 z4 z5 W hz hB=>HF.out z0 z1 z2 z3 z4 z5 W (six_all _ hz).2 (later DB hB))).mono ?_
  rintro e w3 ⟨hB,v,r0,g,rfl,hCo,hO⟩
  replace DB:=later DB hB
  obtain ⟨av,cv,rfl⟩:=zs_len (zs_own hO)
  have hcz:=HC.out r0 g hCo
  have HCZ:=Lib.hid hcz
  clear hB hO D1 hCo hcz
  by_cases hg:g=0
  ·subst hg
   go_wp2_with fail
   refine (collect_w U e0 ao len cap l w3 ((HI.out.below DB).mono DB.size) (fun z hz=>(H6.out z hz).1) HL.out (by omega) (fun z0 z1 z2 z3 z4 z5 W hz hB=>HF.out z0 z1 z2 z3 z4 z5 W (H6.out _ hz).2 (later DB hB))).mono ?_
   rintro e w4 ⟨hB,v2,come,g2,rfl,hCo,hO⟩
   replace DB:=later DB hB
   obtain ⟨av2,cv2,rfl⟩:=zs_len (zs_own hO)
   have HCo:=Lib.hid hCo
   by_cases hg2:g2=0
   ·subst hg2
    obtain ⟨k1,k2⟩:=col_zo l (fun y hy=>HT.out y (HML.out y hy)) (fun x hx=>by cases hx) hCo
    rw [List.length_nil,Nat.zero_add,HL.out] at k2
    have HI2:=Lib.hid (zs_own hO)
    have H62:=Lib.hid (six_zo k1)
    have P4:=HP.out.on DB
    clear hCo hO hB k1
    generalize hn:come.length=n at HI2 k2 ⊢
    have HN:=Lib.hid hn
    clear hn
    go_wp2_with fail
    refine (of_any av2 n cv2 come w4 P4 HI2.out H62.out HN.out).mono ?_
    rintro e w5 ⟨hB,v3,r,g3,rfl,hPr,hO⟩
    obtain ⟨av3,cv3,rfl⟩:=zs_len (zs_own hO)
    have HO:=Lib.hid (own_far hO DB.size (fun _ _ _ q=>q))
    have HPR:=Lib.hid hPr
    replace DB:=later DB hB
    clear hO hPr hB P4
    generalize hn:r.length=n2 at HO ⊢
    have HN2:=Lib.hid hn
    clear hn
    go_wp2_with fail
    refine bodyPost_ret (v:=.tuple #[.slice av3 n2 cv3,.int .i64 g3]) (by simp [results,Tryz.results62,go_sem]) rfl ⟨DB,_,r,g3,rfl,⟨0,HCZ.out,0,HR.out,.inr ⟨rfl,.inr ⟨rfl,come,0,HCo.out,.inr ⟨rfl,HPR.out⟩⟩⟩⟩,?_⟩
    rw [HN2.out]
    exact HO.out
   ·clear hCo hO hB
    go_wp2_with fail
    exact bodyPost_ret (v:=.tuple #[.slice none 0 0,.int .i64 g2]) (by simp [results,Tryz.results62,go_sem]) rfl ⟨DB,_,[],g2,rfl,⟨0,HCZ.out,0,HR.out,.inr ⟨rfl,.inr ⟨rfl,come,g2,HCo.out,.inl ⟨hg2,rfl,rfl⟩⟩⟩⟩,World.ownsRow_nil _ _ _ _⟩
  ·go_wp2_with fail
   exact bodyPost_ret (v:=.tuple #[.slice none 0 0,.int .i64 g]) (by simp [results,Tryz.results62,go_sem]) rfl ⟨DB,_,[],g,rfl,⟨g,HCZ.out,0,HR.out,.inr ⟨rfl,.inl ⟨hg,rfl,rfl⟩⟩⟩,World.ownsRow_nil _ _ _ _⟩
 ·have HR:=Lib.hid hR
  clear hR
  obtain ⟨c,hcz⟩:=HX.out
  have HCZ:=Lib.hid hcz
  clear hcz
  go_wp2_with fail
  exact bodyPost_ret (v:=.tuple #[.slice none 0 0,.int .i64 f]) (by simp [results,Tryz.results62,go_sem]) rfl ⟨DB,_,[],f,rfl,⟨c,HCZ.out,f,HR.out,.inl ⟨h0,rfl,rfl⟩⟩,World.ownsRow_nil _ _ _ _⟩
set_option maxRecDepth 100000 in
set_option maxHeartbeats 16000000 in
theorem each_n (U:To) (Cz:Int→Prop) (e0:Value) (e1:Value) (ao:Option Addr) (len cap:Nat) (l:List (List Int)) (w:World) (hP:Pl w) (hA:Pa w) (hZ:len≤4096→Zs w.heap.size w (.slice ao len cap) l∧Six l) (hl:l.length=len)
  (hf:∀ z0 z1 z2 z3 z4 z5 W,Tops [z0,z1,z2,z3,z4,z5]→Below w.heap.size w W→Calls Tryz.prog 67 #[.agg #[.int .i64 z0,.int .i64 z1,.int .i64 z2,.int .i64 z3,.int .i64 z4,.int .i64 z5],e0,e1] W (win.Zs (U [z0,z1,z2,z3,z4,z5]) W)) (hx:∃ c,Cz c) (hc:∀ r e,Col U [all6] [] r e→Cz e) (ht:∀ z,Zo z→∀ o,U z o 0→Zo o):
  Calls Tryz.prog 62 #[.slice ao len cap,.func (.func 67) #[] #[e0,e1]] w (Zans (fun r f=>∃ c,Cz c∧EachX RestP U c l r f) w):=by
 obtain ⟨w0,hX⟩:∃ w0,w0=w.alloc (.cells #[.slice ao len cap] 29):=⟨_,rfl⟩
 have DB:Below w.heap.size w w0:=by rw [hX];exact bound.up1 _ _
 have D0:lies.Lies w0 w.heap.size 29 #[.slice ao len cap]:=by rw [hX];exact lies.made _ _ _
 have HZ:=Lib.hid hZ
 have HL:=Lib.hid hl
 have HF:=Lib.hid hf
 have HP:=Lib.hid hP
 have HA:=Lib.hid hA
 have HX:=Lib.hid hx
 have HC:=Lib.hid hc
 have HT:=Lib.hid ht
 clear hZ hl hf hP hA hx hc ht
 go_enter Tryz.func62,Tryz.ntmps62
 go_wp2_with fail
 rw [←hX]
 clear hX
 refine (zcheck_one _ ao len cap l w0 D0 (fun h=>⟨HP.out.on DB,((HZ.out h).1.below DB).mono DB.size,(HZ.out h).2⟩) HL.out).mono ?_
 rintro e w1 ⟨hB,f,rfl,hR⟩
 replace DB:=later DB hB
 clear hB D0
 by_cases h0:f=0
 ·subst h0
  obtain ⟨h1,-,h3,-⟩:=chk_fine hR
  have h1:len≤4096:=by rw [←HL.out];exact h1
  obtain ⟨hI,h6⟩:=HZ.out h1
  have HR:=Lib.hid hR
  have HI:=Lib.hid hI
  have H6:=Lib.hid h6
  have HML:=Lib.hid (h6.zo h3)
  clear hI h6 hR h3 HZ
  obtain ⟨pl,p0,p1,p2,p3,p4,p5⟩:=HA.out.on DB
  have hU:=bound.up1 w1 (.cells #[.int .i64 9223372036854775807,.int .i64 9223372036854775807,.int .i64 9223372036854775807,.int .i64 9223372036854775807,.int .i64 9223372036854775807,.int .i64 9223372036854775807] 27)
  have D1:=lies.made w1 27 #[.int .i64 9223372036854775807,.int .i64 9223372036854775807,.int .i64 9223372036854775807,.int .i64 9223372036854775807,.int .i64 9223372036854775807,.int .i64 9223372036854775807]
  go_wp2_with fail
  clear p0 p1 p2 p3 p4 p5 pl
  replace DB:=later DB hU
  clear hU
  generalize w1.heap.size=BX at D1 ⊢
  generalize w1.alloc (.cells #[.int .i64 9223372036854775807,.int .i64 9223372036854775807,.int .i64 9223372036854775807,.int .i64 9223372036854775807,.int .i64 9223372036854775807,.int .i64 9223372036854775807] 27)=w2 at D1 DB ⊢
  refine (collect_n U e0 e1 (some ⟨BX,0,none⟩) 1 1 [all6] w2 (zs_box D1) (fun z hz=>by rw [List.mem_singleton.1 hz];rfl) rfl (by decide) (fun z0 z1 z2 z3 z4 z5 W hz hB=>HF.out z0 z1 z2 z3 z4 z5 W (six_all _ hz).2 (later DB hB))).mono ?_
  rintro e w3 ⟨hB,v,r0,g,rfl,hCo,hO⟩
  replace DB:=later DB hB
  obtain ⟨av,cv,rfl⟩:=zs_len (zs_own hO)
  have hcz:=HC.out r0 g hCo
  have HCZ:=Lib.hid hcz
  clear hB hO D1 hCo hcz
  by_cases hg:g=0
  ·subst hg
   go_wp2_with fail
   refine (collect_n U e0 e1 ao len cap l w3 ((HI.out.below DB).mono DB.size) (fun z hz=>(H6.out z hz).1) HL.out (by omega) (fun z0 z1 z2 z3 z4 z5 W hz hB=>HF.out z0 z1 z2 z3 z4 z5 W (H6.out _ hz).2 (later DB hB))).mono ?_
   rintro e w4 ⟨hB,v2,come,g2,rfl,hCo,hO⟩
   replace DB:=later DB hB
   obtain ⟨av2,cv2,rfl⟩:=zs_len (zs_own hO)
   have HCo:=Lib.hid hCo
   by_cases hg2:g2=0
   ·subst hg2
    obtain ⟨k1,k2⟩:=col_zo l (fun y hy=>HT.out y (HML.out y hy)) (fun x hx=>by cases hx) hCo
    rw [List.length_nil,Nat.zero_add,HL.out] at k2
    have HI2:=Lib.hid (zs_own hO)
    have H62:=Lib.hid (six_zo k1)
    have P4:=HP.out.on DB
    clear hCo hO hB k1
    generalize hn:come.length=n at HI2 k2 ⊢
    have HN:=Lib.hid hn
    clear hn
    go_wp2_with fail
    refine (of_any av2 n cv2 come w4 P4 HI2.out H62.out HN.out).mono ?_
    rintro e w5 ⟨hB,v3,r,g3,rfl,hPr,hO⟩
    obtain ⟨av3,cv3,rfl⟩:=zs_len (zs_own hO)
    have HO:=Lib.hid (own_far hO DB.size (fun _ _ _ q=>q))
    have HPR:=Lib.hid hPr
    replace DB:=later DB hB
    clear hO hPr hB P4
    generalize hn:r.length=n2 at HO ⊢
    have HN2:=Lib.hid hn
    clear hn
    go_wp2_with fail
    refine bodyPost_ret (v:=.tuple #[.slice av3 n2 cv3,.int .i64 g3]) (by simp [results,Tryz.results62,go_sem]) rfl ⟨DB,_,r,g3,rfl,⟨0,HCZ.out,0,HR.out,.inr ⟨rfl,.inr ⟨rfl,come,0,HCo.out,.inr ⟨rfl,HPR.out⟩⟩⟩⟩,?_⟩
    rw [HN2.out]
    exact HO.out
   ·clear hCo hO hB
    go_wp2_with fail
    exact bodyPost_ret (v:=.tuple #[.slice none 0 0,.int .i64 g2]) (by simp [results,Tryz.results62,go_sem]) rfl ⟨DB,_,[],g2,rfl,⟨0,HCZ.out,0,HR.out,.inr ⟨rfl,.inr ⟨rfl,come,g2,HCo.out,.inl ⟨hg2,rfl,rfl⟩⟩⟩⟩,World.ownsRow_nil _ _ _ _⟩
  ·go_wp2_with fail
   exact bodyPost_ret (v:=.tuple #[.slice none 0 0,.int .i64 g]) (by simp [results,Tryz.results62,go_sem]) rfl ⟨DB,_,[],g,rfl,⟨g,HCZ.out,0,HR.out,.inr ⟨rfl,.inl ⟨hg,rfl,rfl⟩⟩⟩,World.ownsRow_nil _ _ _ _⟩
 ·have HR:=Lib.hid hR
  clear hR
  obtain ⟨c,hcz⟩:=HX.out
  have HCZ:=Lib.hid hcz
  clear hcz
  go_wp2_with fail
  exact bodyPost_ret (v:=.tuple #[.slice none 0 0,.int .i64 f]) (by simp [results,Tryz.results62,go_sem]) rfl ⟨DB,_,[],f,rfl,⟨c,HCZ.out,f,HR.out,.inl ⟨h0,rfl,rfl⟩⟩,World.ownsRow_nil _ _ _ _⟩
set_option maxRecDepth 100000 in
set_option maxHeartbeats 8000000 in
theorem within1_any (z0 z1 z2 z3 z4 z5 lo:Int) (ls:Bool) (hi:Int) (hs op:Bool) (Bs:Nat) (w:World) (hP:Pl w) (ta:Tops [z0,z1,z2,z3,z4,z5]) (hBs:lies.Lies w Bs 35 #[.int .i64 lo,.bool ls,.int .i64 hi,.bool hs,.bool op]):
  Calls Tryz.prog 63 #[.agg #[.int .i64 z0,.int .i64 z1,.int .i64 z2,.int .i64 z3,.int .i64 z4,.int .i64 z5],.pointer (some ⟨Bs,0,none⟩)] w (win.Zs (WinT (lo,ls,hi,hs,op) [z0,z1,z2,z3,z4,z5]) w):=by
 obtain ⟨w0,hX⟩:∃ w0,w0=(w.alloc (.cells #[.int .i64 z0,.int .i64 z1,.int .i64 z2,.int .i64 z3,.int .i64 z4,.int .i64 z5] 27)).alloc (.cells #[.int .i64 0,.int .i64 0,.int .i64 0,.int .i64 0,.int .i64 0,.int .i64 0] 27):=⟨_,rfl⟩
 have DB:Below w.heap.size w w0:=by rw [hX];exact bound.up2 _ _ _
 have D0:lies.Lies w0 w.heap.size 27 #[.int .i64 z0,.int .i64 z1,.int .i64 z2,.int .i64 z3,.int .i64 z4,.int .i64 z5]:=by rw [hX];exact lies.on_alloc (lies.made _ _ _) _
 have D1:lies.Lies w0 (w.heap.size+1) 27 #[.int .i64 0,.int .i64 0,.int .i64 0,.int .i64 0,.int .i64 0,.int .i64 0]:=by rw [hX];exact lies.made_at _ _ _ _ (by simp)
 have E0:lies.Lies w0 Bs 35 #[.int .i64 lo,.bool ls,.int .i64 hi,.bool hs,.bool op]:=lies.on_call hBs DB
 have P0:=hP.on DB
 have HTA:=Lib.hid ta
 obtain ⟨⟨x0,x1,x2,x3,x4⟩,-⟩:=five_cells E0
 have xl:=lies.lt E0
 clear hBs D0 E0 hP ta
 rw [hX] at x0 x1 x2 x3 x4 xl
 go_enter Tryz.func63,Tryz.ntmps63
 go_wp2_with fail
 rw [←hX]
 clear hX
 clear x0 x1 x2 x3 x4 xl
 refine (within_any z0 z1 z2 z3 z4 z5 lo ls hi hs op w0 P0 HTA.out).mono ?_
 rintro e w1 ⟨hB,o0,o1,o2,o3,o4,o5,f,rfl,hT⟩
 replace DB:=later DB hB
 replace D1:=lies.on_call D1 hB
 have HT:=Lib.hid hT
 clear hB hT
 have hle:w.heap.size≤w.heap.size+1:=Nat.le_succ _
 obtain ⟨⟨c0,c1,c2,c3,c4,c5⟩,⟨d0,d1,d2,d3,d4,d5⟩,cl⟩:=six_cells D1
 clear D1
 go_wp2_with fail
 exact bodyPost_ret (v:=.tuple #[.agg #[.int .i64 o0,.int .i64 o1,.int .i64 o2,.int .i64 o3,.int .i64 o4,.int .i64 o5],.int .i64 f]) (by simp [results,Tryz.results63,go_sem,c0,c1,c2,c3,c4,c5,cl]) rfl ⟨put_six DB hle _ _ _ _ _ _,o0,o1,o2,o3,o4,o5,f,rfl,HT.out⟩
set_option maxRecDepth 100000 in
set_option maxHeartbeats 8000000 in
theorem window1_any (z0 z1 z2 z3 z4 z5 fr tt:Int) (Bf Bt:Nat) (w:World) (hP:Pl w) (ta:Tops [z0,z1,z2,z3,z4,z5]) (hBf:lies.Lies w Bf 3 #[.int .i64 fr]) (hBt:lies.Lies w Bt 3 #[.int .i64 tt]):
  Calls Tryz.prog 67 #[.agg #[.int .i64 z0,.int .i64 z1,.int .i64 z2,.int .i64 z3,.int .i64 z4,.int .i64 z5],.pointer (some ⟨Bf,0,none⟩),.pointer (some ⟨Bt,0,none⟩)] w (win.Zs (LatT fr tt [z0,z1,z2,z3,z4,z5]) w):=by
 obtain ⟨w0,hX⟩:∃ w0,w0=(w.alloc (.cells #[.int .i64 z0,.int .i64 z1,.int .i64 z2,.int .i64 z3,.int .i64 z4,.int .i64 z5] 27)).alloc (.cells #[.int .i64 0,.int .i64 0,.int .i64 0,.int .i64 0,.int .i64 0,.int .i64 0] 27):=⟨_,rfl⟩
 have DB:Below w.heap.size w w0:=by rw [hX];exact bound.up2 _ _ _
 have D0:lies.Lies w0 w.heap.size 27 #[.int .i64 z0,.int .i64 z1,.int .i64 z2,.int .i64 z3,.int .i64 z4,.int .i64 z5]:=by rw [hX];exact lies.on_alloc (lies.made _ _ _) _
 have D1:lies.Lies w0 (w.heap.size+1) 27 #[.int .i64 0,.int .i64 0,.int .i64 0,.int .i64 0,.int .i64 0,.int .i64 0]:=by rw [hX];exact lies.made_at _ _ _ _ (by simp)
 have E0:lies.Lies w0 Bf 3 #[.int .i64 fr]:=lies.on_call hBf DB
 have E1:lies.Lies w0 Bt 3 #[.int .i64 tt]:=lies.on_call hBt DB
 have P0:=hP.on DB
 have HTA:=Lib.hid ta
 have x0:w0.cell? ⟨Bf,0,none⟩=some (.int .i64 fr):=lies.cell E0 0
 have x1:w0.cell? ⟨Bt,0,none⟩=some (.int .i64 tt):=lies.cell E1 0
 have xl:=lies.lt E0
 have yl:=lies.lt E1
 clear hBf hBt D0 E0 E1 hP ta
 rw [hX] at x0 x1 xl yl
 go_enter Tryz.func67,Tryz.ntmps67
 go_wp2_with fail
 rw [←hX]
 clear hX
 clear x0 x1 xl yl
 refine (window_any z0 z1 z2 z3 z4 z5 fr tt w0 P0 HTA.out).mono ?_
 rintro e w1 ⟨hB,o0,o1,o2,o3,o4,o5,f,rfl,hT⟩
 replace DB:=later DB hB
 replace D1:=lies.on_call D1 hB
 have HT:=Lib.hid hT
 clear hB hT
 have hle:w.heap.size≤w.heap.size+1:=Nat.le_succ _
 obtain ⟨⟨c0,c1,c2,c3,c4,c5⟩,⟨d0,d1,d2,d3,d4,d5⟩,cl⟩:=six_cells D1
 clear D1
 go_wp2_with fail
 exact bodyPost_ret (v:=.tuple #[.agg #[.int .i64 o0,.int .i64 o1,.int .i64 o2,.int .i64 o3,.int .i64 o4,.int .i64 o5],.int .i64 f]) (by simp [results,Tryz.results67,go_sem,c0,c1,c2,c3,c4,c5,cl]) rfl ⟨put_six DB hle _ _ _ _ _ _,o0,o1,o2,o3,o4,o5,f,rfl,HT.out⟩
set_option maxRecDepth 100000 in
set_option maxHeartbeats 8000000 in
theorem within_gen (ao:Option Addr) (len cap:Nat) (l:List (List Int)) (lo:Int) (ls:Bool) (hi:Int) (hs op:Bool) (w:World) (hP:Pl w) (hA:Pa w) (hZ:len≤4096→Zs w.heap.size w (.slice ao len cap) l∧Six l) (hl:l.length=len):
  Calls Tryz.prog 29 #[.slice ao len cap,.agg #[.int .i64 lo,.bool ls,.int .i64 hi,.bool hs,.bool op]] w (Zans (fun r f=>∃ c,SpC (lo,ls,hi,hs,op) c∧EachX RestP (WinT (lo,ls,hi,hs,op)) c l r f) w):=by
 obtain ⟨w0,hX⟩:∃ w0,w0=w.alloc (.cells #[.int .i64 lo,.bool ls,.int .i64 hi,.bool hs,.bool op] 35):=⟨_,rfl⟩
 have DB:Below w.heap.size w w0:=by rw [hX];exact bound.up1 _ _
 have D0:lies.Lies w0 w.heap.size 35 #[.int .i64 lo,.bool ls,.int .i64 hi,.bool hs,.bool op]:=by rw [hX];exact lies.made _ _ _
 have HZ:=Lib.hid hZ
 have HL:=Lib.hid hl
 have HP:=Lib.hid hP
 have HA:=Lib.hid hA
 clear hZ hl hP hA
 go_enter Tryz.func29,Tryz.ntmps29
 go_wp2_with fail
 rw [←hX]
 clear hX
 refine (each_w (WinT (lo,ls,hi,hs,op)) (SpC (lo,ls,hi,hs,op)) (.pointer (some ⟨w.heap.size,0,none⟩)) ao len cap l w0 (HP.out.on DB) (HA.out.on DB) (fun h=>⟨((HZ.out h).1.below DB).mono DB.size,(HZ.out h).2⟩) HL.out (fun z0 z1 z2 z3 z4 z5 W tz hB=>within1_any z0 z1 z2 z3 z4 z5 lo ls hi hs op w.heap.size W (HP.out.on (later DB hB)) tz (lies.on_call D0 hB)) (by by_cases h:MayP (lo,ls,hi,hs,op);exact ⟨0,.inl ⟨h,rfl⟩⟩;exact ⟨8,.inr ⟨h,rfl⟩⟩) (fun r e h=>col_span h) within_zo).mono ?_
 rintro e w1 ⟨hB,v,r,f,rfl,hR,hO⟩
 obtain ⟨av,cv,rfl⟩:=zs_len (zs_own hO)
 have HR:=Lib.hid hR
 have HO:=Lib.hid hO
 clear hR hO
 generalize hn:r.length=n at HO ⊢
 have HN:=Lib.hid hn
 clear hn
 go_wp2_with fail
 refine bodyPost_ret (v:=.tuple #[.slice av n cv,.int .i64 f]) (by simp [results,Tryz.results29,go_sem]) rfl ⟨later DB hB,_,r,f,rfl,HR.out,?_⟩
 rw [HN.out]
 exact own_far HO.out DB.size (fun _ _ _ q=>q)
set_option maxRecDepth 100000 in
set_option maxHeartbeats 8000000 in
theorem window_gen (ao:Option Addr) (len cap:Nat) (l:List (List Int)) (fr tt:Int) (w:World) (hP:Pl w) (hA:Pa w) (hZ:len≤4096→Zs w.heap.size w (.slice ao len cap) l∧Six l) (hl:l.length=len):
  Calls Tryz.prog 31 #[.slice ao len cap,.int .i64 fr,.int .i64 tt] w (Zans (fun r f=>∃ c,NuC fr tt c∧EachX RestP (LatT fr tt) c l r f) w):=by
 obtain ⟨w0,hX⟩:∃ w0,w0=(w.alloc (.cells #[.int .i64 fr] 3)).alloc (.cells #[.int .i64 tt] 3):=⟨_,rfl⟩
 have DB:Below w.heap.size w w0:=by rw [hX];exact bound.up2 _ _ _
 have D0:lies.Lies w0 w.heap.size 3 #[.int .i64 fr]:=by rw [hX];exact lies.on_alloc (lies.made _ _ _) _
 have D1:lies.Lies w0 (w.heap.size+1) 3 #[.int .i64 tt]:=by rw [hX];exact lies.made_at _ _ _ _ (by simp)
 have HZ:=Lib.hid hZ
 have HL:=Lib.hid hl
 have HP:=Lib.hid hP
 have HA:=Lib.hid hA
 clear hZ hl hP hA
 go_enter Tryz.func31,Tryz.ntmps31
 go_wp2_with fail
 rw [←hX]
 clear hX
 refine (each_n (LatT fr tt) (NuC fr tt) (.pointer (some ⟨w.heap.size,0,none⟩)) (.pointer (some ⟨w.heap.size+1,0,none⟩)) ao len cap l w0 (HP.out.on DB) (HA.out.on DB) (fun h=>⟨((HZ.out h).1.below DB).mono DB.size,(HZ.out h).2⟩) HL.out (fun z0 z1 z2 z3 z4 z5 W tz hB=>window1_any z0 z1 z2 z3 z4 z5 fr tt w.heap.size (w.heap.size+1) W (HP.out.on (later DB hB)) tz (lies.on_call D0 hB) (lies.on_call D1 hB)) (by by_cases h:MayW fr tt;exact ⟨0,.inl ⟨h,rfl⟩⟩;exact ⟨2,.inr ⟨h,rfl⟩⟩) (fun r e h=>col_late h) window_zo).mono ?_
 rintro e w1 ⟨hB,v,r,f,rfl,hR,hO⟩
 obtain ⟨av,cv,rfl⟩:=zs_len (zs_own hO)
 have HR:=Lib.hid hR
 have HO:=Lib.hid hO
 clear hR hO
 generalize hn:r.length=n at HO ⊢
 have HN:=Lib.hid hn
 clear hn
 go_wp2_with fail
 refine bodyPost_ret (v:=.tuple #[.slice av n cv,.int .i64 f]) (by simp [results,Tryz.results31,go_sem]) rfl ⟨later DB hB,_,r,f,rfl,HR.out,?_⟩
 rw [HN.out]
 exact own_far HO.out DB.size (fun _ _ _ q=>q)
set_option maxRecDepth 100000 in
set_option maxHeartbeats 8000000 in
theorem zin_any (ao:Option Addr) (len cap:Nat) (a:List (List Int)) (bo:Option Addr) (lenb capb:Nat) (b:List (List Int)) (w:World) (hP:Pl w) (hI:Zs w.heap.size w (.slice ao len cap) a) (h6:Six a) (hl:a.length=len) (hm:len≤1000000) (hJ:Zs w.heap.size w (.slice bo lenb capb) b) (h6b:Six b) (hlb:b.length=lenb) (hmb:lenb≤1000000):
  Calls Tryz.prog 33 #[.slice ao len cap,.slice bo lenb capb] w fun e w'=>Below w.heap.size w w'∧∃ (is:Bool) (f:Int),e=.returned (.tuple #[.bool is,.int .i64 f])∧AllX RestP a b is f:=by
 have c:=all_any ao len cap a bo lenb capb b w hP hI h6 hl hm hJ h6b hlb hmb
 clear hP hI h6 hl hJ h6b hlb
 go_enter Tryz.func33,Tryz.ntmps33
 go_wp2_with fail
 refine Calls.mono c ?_
 rintro e w1 ⟨hB,is,f,rfl,hR⟩
 have HR:=Lib.hid hR
 clear hR
 go_wp2_with fail
 exact bodyPost_ret (v:=.tuple #[.bool is,.int .i64 f]) (by simp [results,Tryz.results33,go_sem]) rfl ⟨hB,is,f,rfl,HR.out⟩
set_option maxRecDepth 100000 in
set_option maxHeartbeats 8000000 in
theorem zsame_any (ao:Option Addr) (len cap:Nat) (a:List (List Int)) (bo:Option Addr) (lenb capb:Nat) (b:List (List Int)) (w:World) (hP:Pl w) (hI:Zs w.heap.size w (.slice ao len cap) a) (h6:Six a) (hl:a.length=len) (hm:len≤1000000) (hJ:Zs w.heap.size w (.slice bo lenb capb) b) (h6b:Six b) (hlb:b.length=lenb) (hmb:lenb≤1000000):
  Calls Tryz.prog 14 #[.slice ao len cap,.slice bo lenb capb] w fun e w'=>Below w.heap.size w w'∧∃ (is:Bool) (f:Int),e=.returned (.tuple #[.bool is,.int .i64 f])∧SameX RestP a b is f:=by
 have c:=zin_any ao len cap a bo lenb capb b w hP hI h6 hl hm hJ h6b hlb hmb
 have HP:=Lib.hid hP
 have HI:=Lib.hid hI
 have HJ:=Lib.hid hJ
 have H6:=Lib.hid h6
 have H6B:=Lib.hid h6b
 have HL:=Lib.hid hl
 have HLB:=Lib.hid hlb
 clear hP hI h6 hl hJ h6b hlb
 go_enter Tryz.func14,Tryz.ntmps14
 go_wp2_with fail
 refine Calls.mono c ?_
 rintro e w1 ⟨hB,is,f,rfl,hR⟩
 have HR:=Lib.hid hR
 clear hR c
 cases is with
 | false=>
  go_wp2_with fail
  exact bodyPost_ret (v:=.tuple #[.bool false,.int .i64 f]) (by simp [results,Tryz.results14,go_sem]) rfl ⟨hB,false,f,rfl,false,f,HR.out,.inl ⟨rfl,rfl,rfl⟩⟩
 | true=>
  go_wp2_with fail
  refine (zin_any bo lenb capb b ao len cap a w1 (HP.out.on hB) (HJ.out.on hB) H6B.out HLB.out hmb (HI.out.on hB) H6.out HL.out hm).mono ?_
  rintro e w2 ⟨hB2,is,g,rfl,hR⟩
  have HR2:=Lib.hid hR
  replace hB:=later hB hB2
  clear hR hB2
  go_wp2_with fail
  exact bodyPost_ret (v:=.tuple #[.bool is,.int .i64 g]) (by simp [results,Tryz.results14,go_sem]) rfl ⟨hB,is,g,rfl,true,f,HR.out,.inr ⟨rfl,HR2.out⟩⟩
set_option maxRecDepth 100000 in
set_option maxHeartbeats 8000000 in
theorem has1_any (z0 z1 z2 z3 z4 z5 pa pb pc pd:Int) (Bp:Nat) (w:World) (hP:Pl w) (hz:Zo [z0,z1,z2,z3,z4,z5]) (hq:MayQ (pa,pb,pc,pd)) (hF:zone.Fit [pa,pb,pc,pd]) (hB:lies.Lies w Bp 47 #[.int .i64 pa,.int .i64 pb,.int .i64 pc,.int .i64 pd]):
  Calls Tryz.prog 71 #[.agg #[.int .i64 z0,.int .i64 z1,.int .i64 z2,.int .i64 z3,.int .i64 z4,.int .i64 z5],.pointer (some ⟨Bp,0,none⟩)] w (Tell (hasP [z0,z1,z2,z3,z4,z5] (pa,pb,pc,pd)=true) w):=by
 obtain ⟨w0,hX⟩:∃ w0,w0=w.alloc (.cells #[.int .i64 z0,.int .i64 z1,.int .i64 z2,.int .i64 z3,.int .i64 z4,.int .i64 z5] 27):=⟨_,rfl⟩
 have DB:Below w.heap.size w w0:=by rw [hX];exact bound.up1 _ _
 have E0:lies.Lies w0 Bp 47 #[.int .i64 pa,.int .i64 pb,.int .i64 pc,.int .i64 pd]:=lies.on_call hB DB
 have P0:=hP.on DB
 have HZ:=Lib.hid hz
 have HQ:=Lib.hid hq
 have HF:=Lib.hid hF
 obtain ⟨⟨x0,x1,x2,x3⟩,-,xl⟩:=four_cells E0
 clear hP hz hq hF hB E0
 rw [hX] at x0 x1 x2 x3 xl
 go_enter Tryz.func71,Tryz.ntmps71
 go_wp2_with fail
 rw [←hX]
 clear hX x0 x1 x2 x3 xl
 refine (zone.has_any z0 z1 z2 z3 z4 z5 pa pb pc pd w0 P0 HZ.out.2.1 HF.out).mono ?_
 rintro e w1 ⟨hB,r,f,rfl,hR⟩
 replace DB:=later DB hB
 have HR:=Lib.hid (show r=true↔hasP [z0,z1,z2,z3,z4,z5] (pa,pb,pc,pd)=true by
  rcases hR with ⟨k,_⟩ | ⟨_,_,_,_,k⟩
  ·exact (k ⟨HZ.out.1,HQ.out.1,HQ.out.2⟩).elim
  ·rw [k]
   exact (has_kept HQ.out.1 HQ.out.2).symm)
 clear hR hB P0
 go_wp2_with fail
 exact bodyPost_ret (v:=.bool r) (by simp [results,Tryz.results71,go_sem]) rfl ⟨DB,r,rfl,HR.out⟩
set_option maxRecDepth 100000 in
set_option maxHeartbeats 16000000 in
theorem zhas_gen (ao:Option Addr) (len cap:Nat) (l:List (List Int)) (pa pb pc pd:Int) (w:World) (hP:Pl w) (hA:Pa w) (hZ:len≤4096→Zs w.heap.size w (.slice ao len cap) l∧Six l) (hl:l.length=len) (hF:zone.Fit [pa,pb,pc,pd]):
  Calls Tryz.prog 36 #[.slice ao len cap,.agg #[.int .i64 pa,.int .i64 pb,.int .i64 pc,.int .i64 pd]] w fun e w'=>Below w.heap.size w w'∧∃ (is:Bool) (f:Int),e=.returned (.tuple #[.bool is,.int .i64 f])∧HasX l (pa,pb,pc,pd) is f:=by
 obtain ⟨w0,hX⟩:∃ w0,w0=(w.alloc (.cells #[.int .i64 pa,.int .i64 pb,.int .i64 pc,.int .i64 pd] 47)).alloc (.cells #[.slice ao len cap] 29):=⟨_,rfl⟩
 have DB:Below w.heap.size w w0:=by rw [hX];exact bound.up2 _ _ _
 have DP:lies.Lies w0 w.heap.size 47 #[.int .i64 pa,.int .i64 pb,.int .i64 pc,.int .i64 pd]:=by rw [hX];exact lies.on_alloc (lies.made _ _ _) _
 have D0:lies.Lies w0 (w.heap.size+1) 29 #[.slice ao len cap]:=by rw [hX];exact lies.made_at _ _ _ _ (by simp)
 have HZ:=Lib.hid hZ
 have HL:=Lib.hid hl
 have HP:=Lib.hid hP
 have HA:=Lib.hid hA
 have HF:=Lib.hid hF
 clear hZ hl hP hA hF
 go_enter Tryz.func36,Tryz.ntmps36
 go_wp2_with fail
 rw [←hX]
 clear hX
 refine (zcheck_one _ ao len cap l w0 D0 (fun h=>⟨HP.out.on DB,((HZ.out h).1.below DB).mono DB.size,(HZ.out h).2⟩) HL.out).mono ?_
 rintro e w1 ⟨hB,f,rfl,hR⟩
 replace DB:=later DB hB
 replace DP:=lies.on_call DP hB
 clear hB D0
 by_cases h0:f=0
 case neg=>
  have HR:=Lib.hid hR
  clear hR
  go_wp2_with fail
  exact bodyPost_ret (v:=.tuple #[.bool false,.int .i64 f]) (by simp [results,Tryz.results36,go_sem]) rfl ⟨DB,false,f,rfl,f,HR.out,.inl ⟨h0,rfl,rfl⟩⟩
 subst h0
 obtain ⟨h1,-,h3,-⟩:=chk_fine hR
 have h1:len≤4096:=by rw [←HL.out];exact h1
 obtain ⟨hI,h6⟩:=HZ.out h1
 have HR:=Lib.hid hR
 have HI:=Lib.hid hI
 have HML:=Lib.hid (h6.zo h3)
 clear hI h6 hR h3 HZ
 obtain ⟨pl,p0,p1,p2,p3,p4,p5⟩:=HA.out.on DB
 obtain ⟨⟨x0,x1,x2,x3⟩,-,xl⟩:=four_cells DP
 go_wp2_with fail
 clear p0 p1 p2 p3 p4 p5 pl x0 x1 x2 x3 xl
 refine (zone.has_any 9223372036854775807 9223372036854775807 9223372036854775807 9223372036854775807 9223372036854775807 9223372036854775807 pa pb pc pd w1 (HP.out.on DB) zo_all.2.1 HF.out).mono ?_
 rintro e w2 ⟨hB,r,f,rfl,hR⟩
 replace DB:=later DB hB
 replace DP:=lies.on_call DP hB
 clear hB
 have hq:(¬ MayQ (pa,pb,pc,pd)∧f=8)∨(MayQ (pa,pb,pc,pd)∧f=0):=by
  rcases hR with ⟨k,_,e⟩ | ⟨_,k1,k2,e,_⟩
  ·exact .inl ⟨fun q=>k ⟨zo_all.1,q.1,q.2⟩,e⟩
  ·exact .inr ⟨⟨k1,k2⟩,e⟩
 clear hR
 rcases hq with ⟨hq,rfl⟩ | ⟨hq,rfl⟩
 ·have HQ:=Lib.hid hq
  clear hq
  go_wp2_with fail
  exact bodyPost_ret (v:=.tuple #[.bool false,.int .i64 8]) (by simp [results,Tryz.results36,go_sem]) rfl ⟨DB,false,8,rfl,0,HR.out,.inr ⟨rfl,.inl ⟨HQ.out,rfl,rfl⟩⟩⟩
 ·have HQ:=Lib.hid hq
  clear hq
  go_wp2_with fail
  refine (contains_fn1 (fun z=>hasP z (pa,pb,pc,pd)=true) (.pointer (some ⟨w.heap.size,0,none⟩)) ao len cap l w2 ((HI.out.below DB).mono DB.size) (fun z hz=>(HML.out z hz).2.2) HL.out (by omega) (fun z0 z1 z2 z3 z4 z5 W hz hB=>has1_any z0 z1 z2 z3 z4 z5 pa pb pc pd w.heap.size W (HP.out.on (later DB hB)) (HML.out _ hz) HQ.out HF.out (lies.on_call DP hB))).mono ?_
  rintro e w3 ⟨hB,r,rfl,hr⟩
  replace DB:=later DB hB
  have HRR:=Lib.hid hr
  clear hB hr DP
  go_wp2_with fail
  exact bodyPost_ret (v:=.tuple #[.bool r,.int .i64 0]) (by simp [results,Tryz.results36,go_sem]) rfl ⟨DB,r,0,rfl,0,HR.out,.inr ⟨rfl,.inr ⟨HQ.out,rfl,HRR.out⟩⟩⟩
end Go.Proofs.YthmljpccbjolgaaGreatDoor.zset
