
/-
  What the calls of zset ask of their lists; slices.IndexFunc, slices.ContainsFunc and slices.Concat as they use them; each theorem names its conditions.
-/
import Derived.Test.YthmljpccbjolgaaGreatDoorCoverO
import Derived.Test.YthmljpccbjolgaaGreatDoorZsetB
namespace Go.Proofs.YthmljpccbjolgaaGreatDoor.zset
open Go.Joins Go.ChangeShapes Go.WideShapes Go.ChangeAt Go.RowKit num rat dbm Go.Proofs.YthmljpccbjolgaaGreatDoor.tight Go.Proofs.YthmljpccbjolgaaGreatDoor.incl Go.Proofs.YthmljpccbjolgaaGreatDoor.plaw Go.Proofs.YthmljpccbjolgaaGreatDoor.zopen Go.Proofs.YthmljpccbjolgaaGreatDoor.zone Go.Proofs.YthmljpccbjolgaaGreatDoor.win Go.Proofs.YthmljpccbjolgaaGreatDoor.minus Go.Proofs.YthmljpccbjolgaaGreatDoor.mz Go.Proofs.YthmljpccbjolgaaGreatDoor.mlaw Go.Proofs.YthmljpccbjolgaaGreatDoor.cover
open bound hiding up
set_option linter.unusedVariables false
set_option linter.unusedSimpArgs false
set_option linter.unusedSectionVars false
set_option maxRecDepth 100000 in
set_option maxHeartbeats 8000000 in
theorem long_any (ao:Option Addr) (len cap:Nat) (w:World):Calls Tryz.prog 100 #[.slice ao len cap] w fun e w'=>e=.returned (.bool (decide (4096<len)))∧Below w.heap.size w w':=by
 by_cases h:4096<len
 ·have h':(4096:Int)<(len:Int):=by omega
  rw [decide_eq_true h]
  go_enter Tryz.func100,Tryz.ntmps100
  go_wp2_with fail
  go_ret
  exact ⟨rfl,Below.refl _ _⟩
 ·have h':¬ (4096:Int)<(len:Int):=by omega
  rw [decide_eq_false h]
  go_enter Tryz.func100,Tryz.ntmps100
  go_wp2_with fail
  go_ret
  exact ⟨rfl,Below.refl _ _⟩
set_option maxRecDepth 100000 in
set_option maxHeartbeats 8000000 in
theorem ilists_any (g n:Nat) (A:Nat→Option Addr) (L C:Nat→Nat) (w:World) (hg:g<w.heap.size) (hn:n≤2) (hc:∀ j,j<n→w.cell? ⟨g,j,none⟩=some (.slice (A j) (L j) (C j))):
  Calls Tryz.prog 146 #[.slice (some ⟨g,0,none⟩) n n,.func (.func 100) #[] #[]] w fun e w'=>∃ i:Int,e=.returned (.int .i64 i)∧(0≤i↔∃ j,j<n∧4096<L j)∧Below w.heap.size w w':=by
 have HC:=Lib.hid hc
 clear hc
 go_enter Tryz.func146,Tryz.ntmps146
 go_wp2_with fail
 go_loopw [8] (fun i wr=>∃ k:Nat,k≤n∧i=.int .i64 k∧Below w.heap.size w wr∧RowKit.Hid (∀ j,j<k→L j≤4096)) (fun i _=>n - (intOf i).toNat)
 case atStart=>exact ⟨0,Nat.zero_le _,rfl,Below.refl _ _,Lib.hid (fun j hj=>absurd hj (Nat.not_lt_zero j))⟩
 case round=>
  obtain ⟨k,hk,rfl,hB,HM⟩:=hrel
  by_cases hkn:k<n
  ·have c0:=(hB.cell (p:=⟨g,k,none⟩) hg).trans (HC.out k hkn)
   have hkn':(k:Int)<n:=by omega
   have hgr:g<wr.heap.size:=Nat.lt_of_lt_of_le hg hB.size
   obtain ⟨len,hlen⟩:∃ x,x=L k:=⟨_,rfl⟩
   rw [←hlen] at c0
   generalize A k=ao at c0
   generalize C k=cap at c0
   have HLEN:=Lib.hid hlen
   clear hlen
   go_wp2_with fail
   clear c0 hgr
   refine (long_any ao len cap wr).mono ?_
   rintro e w2 ⟨rfl,hB2⟩
   replace hB:=later hB hB2
   clear hB2
   by_cases hl:4096<len
   ·rw [decide_eq_true hl]
    go_wp2_with fail
    go_ret
    exact ⟨k,rfl,⟨fun _=>⟨k,hkn,by rw [←HLEN.out];exact hl⟩,fun _=>Int.natCast_nonneg k⟩,hB⟩
   ·rw [decide_eq_false hl]
    go_wp2_with fail
    go_roundw
    case rel=>exact ⟨k+1,by omega,by go_num,hB,Lib.hid (fun j hj=>by
     by_cases e:j=k
     ·rw [e,←HLEN.out];omega
     ·exact HM.out j (by omega))⟩
    case measure=>simp [intOf];omega
  ·obtain rfl:n=k:=by omega
   have hkn':¬ (n:Int)<n:=by omega
   go_wp2_with fail
   go_ret
   exact ⟨-1,rfl,⟨fun h=>absurd h (by decide),fun ⟨j,h1,h2⟩=>absurd (HM.out j h1) (by omega)⟩,hB⟩
set_option maxRecDepth 100000 in
set_option maxHeartbeats 8000000 in
theorem clists_any (g n:Nat) (A:Nat→Option Addr) (L C:Nat→Nat) (w:World) (hg:g<w.heap.size) (hn:n≤2) (hc:∀ j,j<n→w.cell? ⟨g,j,none⟩=some (.slice (A j) (L j) (C j))):
  Calls Tryz.prog 99 #[.slice (some ⟨g,0,none⟩) n n,.func (.func 100) #[] #[]] w (Tell (∃ j,j<n∧4096<L j) w):=by
 have c:=ilists_any g n A L C w hg hn hc
 clear hc
 go_enter Tryz.func99,Tryz.ntmps99
 go_wp2_with fail
 refine Calls.mono c ?_
 rintro e w' ⟨i,rfl,hi,hB⟩
 have HI:=Lib.hid hi
 clear hi
 by_cases h0:0≤i
 ·go_wp2_with fail
  exact bodyPost_ret (v:=.bool true) (by simp [results,Tryz.results99,go_sem,h0]) rfl ⟨hB,true,rfl,⟨fun _=>HI.out.1 h0,fun _=>rfl⟩⟩
 ·go_wp2_with fail
  exact bodyPost_ret (v:=.bool false) (by simp [results,Tryz.results99,go_sem,h0]) rfl ⟨hB,false,rfl,⟨fun h=>(by cases h),fun h=>absurd (HI.out.2 h) (by omega)⟩⟩
set_option maxRecDepth 100000 in
set_option maxHeartbeats 8000000 in
theorem index_fn0 (Q:List Int→Prop) (ao:Option Addr) (len cap:Nat) (zs:List (List Int)) (w:World) (hI:Zs w.heap.size w (.slice ao len cap) zs) (h6:∀ z,z ∈ zs→z.length=6) (hl:zs.length=len) (hm:len≤1000000)
  (hf:∀ z0 z1 z2 z3 z4 z5 W,[z0,z1,z2,z3,z4,z5] ∈ zs→Below w.heap.size w W→Calls Tryz.prog 101 #[.agg #[.int .i64 z0,.int .i64 z1,.int .i64 z2,.int .i64 z3,.int .i64 z4,.int .i64 z5]] W (Tell (Q [z0,z1,z2,z3,z4,z5]) W)):
  Calls Tryz.prog 119 #[.slice ao len cap,.func (.func 101) #[] #[]] w fun e w'=>∃ i:Int,e=.returned (.int .i64 i)∧(0≤i↔∃ z,z ∈ zs∧Q z)∧Below w.heap.size w w':=by
 have HI:=Lib.hid hI
 have H6:=Lib.hid h6
 have HL:=Lib.hid hl
 have HF:=Lib.hid hf
 clear hI h6 hl hf
 go_enter Tryz.func119,Tryz.ntmps119
 go_wp2_with fail
 go_loopw [8] (fun i wr=>∃ k:Nat,k≤len∧i=.int .i64 k∧Below w.heap.size w wr∧RowKit.Hid (∀ j,j<k→¬ Q (zat zs j))) (fun i _=>len - (intOf i).toNat)
 case atStart=>exact ⟨0,Nat.zero_le _,rfl,Below.refl _ _,Lib.hid (fun j hj=>absurd hj (Nat.not_lt_zero j))⟩
 case round=>
  obtain ⟨k,hk,rfl,hB,HN⟩:=hrel
  by_cases hkn:k<len
  ·have hkz:k<zs.length:=by rw [HL.out];exact hkn
   obtain ⟨bq,off,rfl,-,hb,c0,c1,c2,c3,c4,c5⟩:=zs_at (HI.out.below hB) hkz
   have hbr:bq<wr.heap.size:=Nat.lt_of_lt_of_le hb hB.size
   have hz6:=H6.out _ (zat_mem hkz)
   have hmem:=zat_mem hkz
   have hone:∀ j,j=k→zat zs j=zat zs k:=fun j e=>by rw [e]
   generalize zat zs k=zk at c0 c1 c2 c3 c4 c5 hz6 hmem hone
   obtain ⟨z0,z1,z2,z3,z4,z5,rfl⟩:=six hz6
   have c0:wr.cell? ⟨bq,off+k*6,none⟩=some (.int .i64 z0):=c0
   have c1:wr.cell? ⟨bq,off+k*6+1,none⟩=some (.int .i64 z1):=c1
   have c2:wr.cell? ⟨bq,off+k*6+2,none⟩=some (.int .i64 z2):=c2
   have c3:wr.cell? ⟨bq,off+k*6+3,none⟩=some (.int .i64 z3):=c3
   have c4:wr.cell? ⟨bq,off+k*6+4,none⟩=some (.int .i64 z4):=c4
   have c5:wr.cell? ⟨bq,off+k*6+5,none⟩=some (.int .i64 z5):=c5
   have HMEM:=Lib.hid hmem
   have HONE:=Lib.hid hone
   have hkn':(k:Int)<len:=by omega
   clear hmem hone hz6
   go_wp2_with fail
   clear c0 c1 c2 c3 c4 c5 hbr
   refine (HF.out z0 z1 z2 z3 z4 z5 wr HMEM.out hB).mono ?_
   rintro e w2 ⟨hB2,r,rfl,hq⟩
   replace hB:=later hB hB2
   clear hB2
   cases r with
   | true=>
    have HQ:=Lib.hid (hq.1 rfl)
    clear hq
    go_wp2_with fail
    go_ret
    exact ⟨k,rfl,⟨fun _=>⟨_,HMEM.out,HQ.out⟩,fun _=>Int.natCast_nonneg k⟩,hB⟩
   | false=>
    have HQ:=Lib.hid (show ¬ Q [z0,z1,z2,z3,z4,z5] from fun q=>absurd (hq.2 q) (by decide))
    clear hq
    go_wp2_with fail
    go_roundw
    case rel=>exact ⟨k+1,by omega,by go_num,hB,Lib.hid (fun j hj=>by
     by_cases e:j=k
     ·rw [HONE.out j e]
      exact HQ.out
     ·exact HN.out j (by omega))⟩
    case measure=>simp [intOf];omega
  ·obtain rfl:len=k:=by omega
   have hkn':¬ (len:Int)<len:=by omega
   go_wp2_with fail
   go_ret
   exact ⟨-1,rfl,⟨fun h=>absurd h (by decide),fun ⟨z,hz,q⟩=>by
    obtain ⟨i,hi,rfl⟩:=List.getElem_of_mem hz
    have:=HN.out i (by rw [←HL.out];exact hi)
    unfold zat at this
    rw [List.getElem?_eq_getElem hi] at this
    exact (this q).elim⟩,hB⟩
set_option maxRecDepth 100000 in
set_option maxHeartbeats 8000000 in
theorem contains_fn0 (Q:List Int→Prop) (ao:Option Addr) (len cap:Nat) (zs:List (List Int)) (w:World) (hI:Zs w.heap.size w (.slice ao len cap) zs) (h6:∀ z,z ∈ zs→z.length=6) (hl:zs.length=len) (hm:len≤1000000)
  (hf:∀ z0 z1 z2 z3 z4 z5 W,[z0,z1,z2,z3,z4,z5] ∈ zs→Below w.heap.size w W→Calls Tryz.prog 101 #[.agg #[.int .i64 z0,.int .i64 z1,.int .i64 z2,.int .i64 z3,.int .i64 z4,.int .i64 z5]] W (Tell (Q [z0,z1,z2,z3,z4,z5]) W)):
  Calls Tryz.prog 72 #[.slice ao len cap,.func (.func 101) #[] #[]] w (Tell (∃ z,z ∈ zs∧Q z) w):=by
 have c:=index_fn0 Q ao len cap zs w hI h6 hl hm hf
 clear hI h6 hl hf
 go_enter Tryz.func72,Tryz.ntmps72
 go_wp2_with fail
 refine Calls.mono c ?_
 rintro e w' ⟨i,rfl,hi,hB⟩
 have HI:=Lib.hid hi
 clear hi
 by_cases h0:0≤i
 ·go_wp2_with fail
  exact bodyPost_ret (v:=.bool true) (by simp [results,Tryz.results72,go_sem,h0]) rfl ⟨hB,true,rfl,⟨fun _=>HI.out.1 h0,fun _=>rfl⟩⟩
 ·go_wp2_with fail
  exact bodyPost_ret (v:=.bool false) (by simp [results,Tryz.results72,go_sem,h0]) rfl ⟨hB,false,rfl,⟨fun h=>(by cases h),fun h=>absurd (HI.out.2 h) (by omega)⟩⟩
set_option maxRecDepth 100000 in
set_option maxHeartbeats 8000000 in
theorem index_fn1 (Q:List Int→Prop) (c0:Value) (ao:Option Addr) (len cap:Nat) (zs:List (List Int)) (w:World) (hI:Zs w.heap.size w (.slice ao len cap) zs) (h6:∀ z,z ∈ zs→z.length=6) (hl:zs.length=len) (hm:len≤1000000)
  (hf:∀ z0 z1 z2 z3 z4 z5 W,[z0,z1,z2,z3,z4,z5] ∈ zs→Below w.heap.size w W→Calls Tryz.prog 71 #[.agg #[.int .i64 z0,.int .i64 z1,.int .i64 z2,.int .i64 z3,.int .i64 z4,.int .i64 z5],c0] W (Tell (Q [z0,z1,z2,z3,z4,z5]) W)):
  Calls Tryz.prog 119 #[.slice ao len cap,.func (.func 71) #[] #[c0]] w fun e w'=>∃ i:Int,e=.returned (.int .i64 i)∧(0≤i↔∃ z,z ∈ zs∧Q z)∧Below w.heap.size w w':=by
 have HI:=Lib.hid hI
 have H6:=Lib.hid h6
 have HL:=Lib.hid hl
 have HF:=Lib.hid hf
 clear hI h6 hl hf
 go_enter Tryz.func119,Tryz.ntmps119
 go_wp2_with fail
 go_loopw [8] (fun i wr=>∃ k:Nat,k≤len∧i=.int .i64 k∧Below w.heap.size w wr∧RowKit.Hid (∀ j,j<k→¬ Q (zat zs j))) (fun i _=>len - (intOf i).toNat)
 case atStart=>exact ⟨0,Nat.zero_le _,rfl,Below.refl _ _,Lib.hid (fun j hj=>absurd hj (Nat.not_lt_zero j))⟩
 case round=>
  obtain ⟨k,hk,rfl,hB,HN⟩:=hrel
  by_cases hkn:k<len
  ·have hkz:k<zs.length:=by rw [HL.out];exact hkn
   obtain ⟨bq,off,rfl,-,hb,c0,c1,c2,c3,c4,c5⟩:=zs_at (HI.out.below hB) hkz
   have hbr:bq<wr.heap.size:=Nat.lt_of_lt_of_le hb hB.size
   have hz6:=H6.out _ (zat_mem hkz)
   have hmem:=zat_mem hkz
   have hone:∀ j,j=k→zat zs j=zat zs k:=fun j e=>by rw [e]
   generalize zat zs k=zk at c0 c1 c2 c3 c4 c5 hz6 hmem hone
   obtain ⟨z0,z1,z2,z3,z4,z5,rfl⟩:=six hz6
   have c0:wr.cell? ⟨bq,off+k*6,none⟩=some (.int .i64 z0):=c0
   have c1:wr.cell? ⟨bq,off+k*6+1,none⟩=some (.int .i64 z1):=c1
   have c2:wr.cell? ⟨bq,off+k*6+2,none⟩=some (.int .i64 z2):=c2
   have c3:wr.cell? ⟨bq,off+k*6+3,none⟩=some (.int .i64 z3):=c3
   have c4:wr.cell? ⟨bq,off+k*6+4,none⟩=some (.int .i64 z4):=c4
   have c5:wr.cell? ⟨bq,off+k*6+5,none⟩=some (.int .i64 z5):=c5
   have HMEM:=Lib.hid hmem
   have HONE:=Lib.hid hone
   have hkn':(k:Int)<len:=by omega
   clear hmem hone hz6
   go_wp2_with fail
   clear c0 c1 c2 c3 c4 c5 hbr
   refine (HF.out z0 z1 z2 z3 z4 z5 wr HMEM.out hB).mono ?_
   rintro e w2 ⟨hB2,r,rfl,hq⟩
   replace hB:=later hB hB2
   clear hB2
   cases r with
   | true=>
    have HQ:=Lib.hid (hq.1 rfl)
    clear hq
    go_wp2_with fail
    go_ret
    exact ⟨k,rfl,⟨fun _=>⟨_,HMEM.out,HQ.out⟩,fun _=>Int.natCast_nonneg k⟩,hB⟩
   | false=>
    have HQ:=Lib.hid (show ¬ Q [z0,z1,z2,z3,z4,z5] from fun q=>absurd (hq.2 q) (by decide))
    clear hq
    go_wp2_with fail
    go_roundw
    case rel=>exact ⟨k+1,by omega,by go_num,hB,Lib.hid (fun j hj=>by
     by_cases e:j=k
     ·rw [HONE.out j e]
      exact HQ.out
     ·exact HN.out j (by omega))⟩
    case measure=>simp [intOf];omega
  ·obtain rfl:len=k:=by omega
   have hkn':¬ (len:Int)<len:=by omega
   go_wp2_with fail
   go_ret
   exact ⟨-1,rfl,⟨fun h=>absurd h (by decide),fun ⟨z,hz,q⟩=>by
    obtain ⟨i,hi,rfl⟩:=List.getElem_of_mem hz
    have:=HN.out i (by rw [←HL.out];exact hi)
    unfold zat at this
    rw [List.getElem?_eq_getElem hi] at this
    exact (this q).elim⟩,hB⟩
set_option maxRecDepth 100000 in
set_option maxHeartbeats 8000000 in
theorem contains_fn1 (Q:List Int→Prop) (c0:Value) (ao:Option Addr) (len cap:Nat) (zs:List (List Int)) (w:World) (hI:Zs w.heap.size w (.slice ao len cap) zs) (h6:∀ z,z ∈ zs→z.length=6) (hl:zs.length=len) (hm:len≤1000000)
  (hf:∀ z0 z1 z2 z3 z4 z5 W,[z0,z1,z2,z3,z4,z5] ∈ zs→Below w.heap.size w W→Calls Tryz.prog 71 #[.agg #[.int .i64 z0,.int .i64 z1,.int .i64 z2,.int .i64 z3,.int .i64 z4,.int .i64 z5],c0] W (Tell (Q [z0,z1,z2,z3,z4,z5]) W)):
  Calls Tryz.prog 72 #[.slice ao len cap,.func (.func 71) #[] #[c0]] w (Tell (∃ z,z ∈ zs∧Q z) w):=by
 have c:=index_fn1 Q c0 ao len cap zs w hI h6 hl hm hf
 clear hI h6 hl hf
 go_enter Tryz.func72,Tryz.ntmps72
 go_wp2_with fail
 refine Calls.mono c ?_
 rintro e w' ⟨i,rfl,hi,hB⟩
 have HI:=Lib.hid hi
 clear hi
 by_cases h0:0≤i
 ·go_wp2_with fail
  exact bodyPost_ret (v:=.bool true) (by simp [results,Tryz.results72,go_sem,h0]) rfl ⟨hB,true,rfl,⟨fun _=>HI.out.1 h0,fun _=>rfl⟩⟩
 ·go_wp2_with fail
  exact bodyPost_ret (v:=.bool false) (by simp [results,Tryz.results72,go_sem,h0]) rfl ⟨hB,false,rfl,⟨fun h=>(by cases h),fun h=>absurd (HI.out.2 h) (by omega)⟩⟩
set_option maxRecDepth 100000 in
set_option maxHeartbeats 8000000 in
theorem bad_any (z0 z1 z2 z3 z4 z5:Int) (w:World) (hP:Pl w) (ta:Tops [z0,z1,z2,z3,z4,z5]):Calls Tryz.prog 101 #[.agg #[.int .i64 z0,.int .i64 z1,.int .i64 z2,.int .i64 z3,.int .i64 z4,.int .i64 z5]] w (Tell (¬ MayZ [z0,z1,z2,z3,z4,z5]) w):=by
 obtain ⟨w0,hX⟩:∃ w0,w0=w.alloc (.cells #[.int .i64 z0,.int .i64 z1,.int .i64 z2,.int .i64 z3,.int .i64 z4,.int .i64 z5] 27):=⟨_,rfl⟩
 have DB:Below w.heap.size w w0:=by rw [hX];exact bound.up1 _ _
 have P0:=hP.on DB
 have HT:=Lib.hid ta
 clear hP ta
 go_enter Tryz.func101,Tryz.ntmps101
 go_wp2_with fail
 rw [←hX]
 clear hX
 refine (zone.check_any z0 z1 z2 z3 z4 z5 w0 P0 HT.out).mono ?_
 rintro e w1 ⟨hB,f,rfl,hc⟩
 replace DB:=later DB hB
 clear hB P0
 rcases hc with ⟨hm,rfl⟩ | ⟨hm,rfl⟩
 ·have HM:=Lib.hid hm
  clear hm
  go_wp2_with fail
  exact bodyPost_ret (v:=.bool false) (by simp [results,Tryz.results101,go_sem]) rfl ⟨DB,false,rfl,⟨fun h=>(by cases h),fun h=>(h HM.out).elim⟩⟩
 ·have HM:=Lib.hid hm
  clear hm
  go_wp2_with fail
  exact bodyPost_ret (v:=.bool true) (by simp [results,Tryz.results101,go_sem]) rfl ⟨DB,true,rfl,⟨fun _=>HM.out,fun _=>rfl⟩⟩
set_option maxRecDepth 100000 in
set_option maxHeartbeats 16000000 in
theorem concat_gen (g n:Nat) (len lenb:Nat) (x y:List (List Int)) (w:World) (hn:n=1∨n=2) (hy:n=1→y=[]∧lenb=0) (hg:g<w.heap.size)
  (hA:∀ k,k<n→∃ (a:Option Addr) (m c:Nat) (z:List (List Int)),w.cell? ⟨g,k,none⟩=some (.slice a m c)∧Zs w.heap.size w (.slice a m c) z∧z.length=m∧((k=0∧m=len∧z=x)∨(k=1∧m=lenb∧z=y)))
  (hl:x.length=len) (hm:y.length=lenb) (hs:len+lenb≤1000000):
  Calls Tryz.prog 57 #[.slice (some ⟨g,0,none⟩) n n] w fun e w'=>∃ v,e=.returned v∧w'.ownsRow w.heap.size 27 6 v (x++y).length (flatZ (x++y))∧Below w.heap.size w w':=by
 have HA:=Lib.hid hA
 have HLX:=Lib.hid hl
 have HLY:=Lib.hid hm
 have HYN:=Lib.hid hy
 have hn2:n≤2:=by omega
 have HNN:=Lib.hid hn
 clear hA hl hm hy hn
 go_enter Tryz.func57,Tryz.ntmps57
 go_wp2_with fail
 go_loopw [11,3] (fun i s wr=>∃ k S:Nat,k≤n∧S≤1000000∧i=.int .i64 k∧s=.int .i64 S∧Below w.heap.size w wr∧RowKit.Hid ((k=0→S=0)∧(k=1→S=len)∧(k=2→S=len+lenb))) (fun i _ _=>n - (intOf i).toNat)
 case atStart=>exact ⟨0,0,Nat.zero_le _,Nat.zero_le _,rfl,rfl,Below.refl _ _,Lib.hid ⟨fun _=>rfl,fun e=>absurd e (by decide),fun e=>absurd e (by decide)⟩⟩
 case round=>
  obtain ⟨k,S,hk,hS,rfl,rfl,hB,HS⟩:=hrel
  by_cases hkn:k<n
  ·obtain ⟨a,m,c,z,h1,h2,h3,h4⟩:=HA.out k hkn
   have c0:=(hB.cell (p:=⟨g,k,none⟩) hg).trans h1
   have hgr:g<wr.heap.size:=Nat.lt_of_lt_of_le hg hB.size
   obtain ⟨S1,hS1⟩:∃ T,T=S+m:=⟨_,rfl⟩
   have hSn:S1≤1000000∧((k=0∧S1=len)∨(k=1∧S1=len+lenb)):=by
    have:=HS.out
    rcases h4 with ⟨e1,e2,_⟩ | ⟨e1,e2,_⟩
    ·have:=this.1 e1;omega
    ·have:=this.2.1 e1;omega
   have hw:wrap64 ((S:Int)+(m:Int))=(S1:Int):=by
    have q:=hSn.1
    clear hSn h4 hk hkn
    rw [hS1] at q ⊢
    exact IntWalk.wrap64_in _ ⟨by omega,by omega⟩
   have hS0:¬ (S1:Int)<0:=Int.not_lt.2 (Int.natCast_nonneg _)
   have hk':(k:Int)<n:=by omega
   have HN:=Lib.hid hSn
   clear h1 h2 h3 h4 hS1 hSn
   go_wp2_with fail
   go_roundw
   case rel=>
    have q:=HN.out
    exact ⟨k+1,S1,by omega,q.1,by go_num,(by rw [hw]),hB,Lib.hid ⟨fun e=>by omega,fun e=>by omega,fun e=>by omega⟩⟩
   case measure=>simp [intOf];omega
  ·have hk2:k=n:=by omega
   have HS2:=Lib.hid (show S=len+lenb by
    rcases HNN.out with e | e
    ·have:=HS.out.2.1 (by omega);have:=HYN.out e;omega
    ·exact HS.out.2.2 (by omega))
   have hk':¬ (k:Int)<n:=by omega
   go_wp2_with fail
   clear hk' hk hkn HS
   refine (grow_zones S wr hS).mono ?_
   rintro e w1 ⟨v,rfl,hO,hB1⟩
   have hO':=own_far hO hB.size (fun _ _ _ q=>q)
   replace hB:=later hB hB1
   clear hB1 hO
   go_wp2_with fail
   go_loopw [27,6] (fun i v wq=>∃ (k:Nat) (cur:List (List Int)),k≤n∧i=.int .i64 k∧Below w.heap.size w wq∧wq.ownsRow w.heap.size 27 6 v cur.length (flatZ cur)∧RowKit.Hid ((k=0→cur=[])∧(k=1→cur=x)∧(k=2→cur=x++y))) (fun i _ _=>n - (intOf i).toNat)
   case atStart=>exact ⟨0,[],Nat.zero_le _,rfl,hB,hO',Lib.hid ⟨fun _=>rfl,fun e=>absurd e (by decide),fun e=>absurd e (by decide)⟩⟩
   case round=>
    clear hB hO'
    obtain ⟨k,cur,hk,rfl,hB,hO,HC⟩:=hrel
    by_cases hkn:k<n
    ·obtain ⟨a,m,c,z,h1,h2,h3,h4⟩:=HA.out k hkn
     have c0:=(hB.cell (p:=⟨g,k,none⟩) hg).trans h1
     have hgr:g<wr.heap.size:=Nat.lt_of_lt_of_le hg hB.size
     have hk':(k:Int)<n:=by omega
     have hcz:cur.length+z.length≤1000000∧((k=0∧cur++z=x)∨(k=1∧cur++z=x++y)):=by
      have q:=HC.out
      have q1:=HLX.out
      have q2:=HLY.out
      rcases h4 with ⟨e1,e2,e3⟩ | ⟨e1,e2,e3⟩
      ·rw [q.1 e1,e3]
       exact ⟨by show 0+_≤_;omega,.inl ⟨e1,rfl⟩⟩
      ·rw [q.2.1 e1,e3]
       exact ⟨by omega,.inr ⟨e1,rfl⟩⟩
     obtain ⟨av,cv,rfl⟩:=zs_len (zs_own hO)
     obtain ⟨v1,w2,hrun,own,hgrow,-⟩:=app_zones w.heap.size 29 (.slice av cur.length cv) (.slice a m c) cur.length w.heap.size (flatZ cur) z wr hO (h2.below hB) hcz.1 hB.size
     have hB2:=held_grown hB hB.size hO (Nat.le_refl _) hgrow
     have HRUN:=Lib.hid hrun
     have HOWN:=Lib.hid (show w2.ownsRow w.heap.size 27 6 v1 (cur++z).length (flatZ (cur++z)) by rw [List.length_append,flatZ_app];exact own)
     have HCZ:=Lib.hid hcz
     clear h1 h2 h3 h4 hrun own hgrow hO hcz hB
     generalize cur.length=cm at HRUN ⊢
     go_wp2_with (at_builtin;refine dref.append_run2 rfl (.tmp 31) (.tmp 32) 29 rfl _ _ _ _ rfl rfl HRUN.out ?_;clear HRUN)
     go_roundw
     case rel=>
      have q:=HCZ.out
      exact ⟨k+1,cur++z,by omega,by go_num,hB2,HOWN.out,Lib.hid ⟨fun e=>by omega,fun e=>by rcases q.2 with ⟨_,q⟩ | ⟨q,_⟩;exact q;omega,fun e=>by rcases q.2 with ⟨q,_⟩ | ⟨_,q⟩;omega;exact q⟩⟩
     case measure=>simp [intOf];omega
    ·have hk2:k=n:=by omega
     have hk':¬ (k:Int)<n:=by omega
     have e:cur=x++y:=by
      rcases HNN.out with e | e
      ·rw [HC.out.2.1 (by omega),(HYN.out e).1,List.append_nil]
      ·exact HC.out.2.2 (by omega)
     rw [e] at hO
     have HOW:=Lib.hid hO
     clear hO e
     go_wp2_with fail
     go_ret
     have hO:=HOW.out
     rw [List.length_append] at hO
     exact ⟨_,rfl,hO,hB⟩
set_option maxRecDepth 100000 in
set_option maxHeartbeats 16000000 in
theorem zcheck_gen (g n:Nat) (A:Nat→Option Addr) (L C:Nat→Nat) (zs:Nat→List (List Int)) (w:World) (hP:(∀ j,j<n→L j≤4096)→Pl w) (hg:g<w.heap.size) (hn:n=1∨n=2)
  (hc:∀ j,j<n→w.cell? ⟨g,j,none⟩=some (.slice (A j) (L j) (C j)))
  (hZ:(∀ j,j<n→L j≤4096)→∀ j,j<n→Zs w.heap.size w (.slice (A j) (L j) (C j)) (zs j)∧Six (zs j)∧(zs j).length=L j):
  Calls Tryz.prog 56 #[.slice (some ⟨g,0,none⟩) n n] w fun e w'=>Below w.heap.size w w'∧∃ f,e=.returned (.int .i64 f)∧
   (((∃ j,j<n∧4096<L j)∧f=4)∨((∀ j,j<n→L j≤4096)∧(((∀ j,j<n→∀ z,z ∈ zs j→MayZ z)∧f=0)∨((∃ j,j<n∧∃ z,z ∈ zs j∧¬ MayZ z)∧f=8)))):=by
 have HC:=Lib.hid hc
 have HZ:=Lib.hid hZ
 have HP:=Lib.hid hP
 have hn2:n≤2:=by omega
 have HN:=Lib.hid hn
 clear hc hZ hP hn
 go_enter Tryz.func56,Tryz.ntmps56
 go_wp2_with fail
 refine (clists_any g n A L C w hg hn2 HC.out).mono ?_
 rintro e w1 ⟨hB,r,rfl,hq⟩
 cases r with
 | true=>
  have HQ:=Lib.hid (hq.1 rfl)
  clear hq
  go_wp2_with fail
  exact bodyPost_ret (v:=.int .i64 4) (by simp [results,Tryz.results56,go_sem]) rfl ⟨hB,4,rfl,.inl ⟨HQ.out,rfl⟩⟩
 | false=>
  have hL:∀ j,j<n→L j≤4096:=fun j hj=>Nat.not_lt.1 fun k=>absurd (hq.2 ⟨j,hj,k⟩) (by decide)
  have HLL:=Lib.hid hL
  have HZ2:=Lib.hid (HZ.out hL)
  have P1:=(HP.out hL).on hB
  have hg1:g<w1.heap.size:=Nat.lt_of_lt_of_le hg hB.size
  obtain ⟨x,hx⟩:∃ x,x=zs 0:=⟨_,rfl⟩
  obtain ⟨y,hy⟩:∃ y,y=if n=2 then zs 1 else []:=⟨_,rfl⟩
  have h0:0<n:=by rcases HN.out with e | e<;>omega
  have hx1:=(HZ2.out 0 h0).2
  rw [←hx] at hx1
  have hy1:Six y∧y.length≤4096∧(n=1→y=[])∧(n=2→y=zs 1):=by
   rcases HN.out with e | e
   ·subst e
    rw [if_neg (by decide)] at hy
    subst hy
    exact ⟨six_nil,by decide,fun _=>rfl,fun e=>absurd e (by decide)⟩
   ·subst e
    rw [if_pos rfl] at hy
    subst hy
    have:=HZ2.out 1 (by decide)
    exact ⟨this.2.1,by rw [this.2.2];exact hL 1 (by decide),fun e=>absurd e (by decide),fun _=>rfl⟩
  have HX:=Lib.hid hx
  have HX1:=Lib.hid hx1
  have HY1:=Lib.hid hy1
  have hxl:x.length≤4096:=by rw [hx1.2];exact hL 0 h0
  have hyl:=hy1.2.1
  have HA:=Lib.hid (show ∀ k,k<n→∃ (a:Option Addr) (m c:Nat) (z:List (List Int)),w1.cell? ⟨g,k,none⟩=some (.slice a m c)∧Zs w1.heap.size w1 (.slice a m c) z∧z.length=m∧((k=0∧m=x.length∧z=x)∨(k=1∧m=y.length∧z=y)) from fun k hk=>by
   obtain ⟨k1,k2,k3⟩:=HZ2.out k hk
   refine ⟨A k,L k,C k,zs k,(hB.cell (p:=⟨g,k,none⟩) hg).trans (HC.out k hk),(k1.below hB).mono hB.size,k3,?_⟩
   rcases (by omega:k=0∨k=1) with rfl | rfl
   ·exact .inl ⟨rfl,by rw [HX.out];exact k3.symm,HX.out.symm⟩
   ·have e2:n=2:=by omega
    exact .inr ⟨rfl,by rw [HY1.out.2.2.2 e2];exact k3.symm,(HY1.out.2.2.2 e2).symm⟩)
  clear hq hL hx hy hx1 hy1
  go_wp2_with fail
  refine (concat_gen g n x.length y.length x y w1 HN.out (fun e=>by rw [HY1.out.2.2.1 e];exact ⟨rfl,rfl⟩) hg1 HA.out rfl rfl (by omega)).mono ?_
  rintro e w2 ⟨v,rfl,hO,hB2⟩
  replace P1:=P1.on hB2
  replace hB:=later hB hB2
  obtain ⟨av,cv,rfl⟩:=zs_len (zs_own hO)
  have HO:=Lib.hid (zs_own hO)
  have hlen:(x++y).length≤1000000:=by rw [List.length_append];omega
  have H6:=Lib.hid (six_app HX1.out.1 HY1.out.1)
  clear hB2 hO
  generalize hnn:(x++y).length=nn at HO hlen ⊢
  have HNN:=Lib.hid hnn
  clear hnn
  go_wp2_with fail
  refine (contains_fn0 (fun z=>¬ MayZ z) av nn cv (x++y) w2 HO.out (fun z hz=>(H6.out z hz).1) HNN.out hlen (fun z0 z1 z2 z3 z4 z5 W hz hB=>bad_any z0 z1 z2 z3 z4 z5 W (P1.on hB) (H6.out _ hz).2)).mono ?_
  rintro e w3 ⟨hB3,r,rfl,hq⟩
  replace hB:=later hB hB3
  cases r with
  | true=>
   have HQ:=Lib.hid (hq.1 rfl)
   clear hq hB3 P1
   go_wp2_with fail
   refine bodyPost_ret (v:=.int .i64 8) (by simp [results,Tryz.results56,go_sem]) rfl ⟨hB,8,rfl,.inr ⟨HLL.out,.inr ⟨?_,rfl⟩⟩⟩
   obtain ⟨z,hz,k⟩:=HQ.out
   rcases List.mem_append.1 hz with j | j
   ·exact ⟨0,h0,z,by rw [←HX.out];exact j,k⟩
   ·rcases HN.out with e | e
    ·rw [HY1.out.2.2.1 e] at j;cases j
    ·exact ⟨1,by omega,z,by rw [←HY1.out.2.2.2 e];exact j,k⟩
  | false=>
   have HQ:=Lib.hid (show ∀ z,z ∈ x++y→MayZ z from fun z hz=>Classical.byContradiction fun k=>absurd (hq.2 ⟨z,hz,k⟩) (by decide))
   clear hq hB3 P1
   go_wp2_with fail
   refine bodyPost_ret (v:=.int .i64 0) (by simp [results,Tryz.results56,go_sem]) rfl ⟨hB,0,rfl,.inr ⟨HLL.out,.inl ⟨fun j hj z hz=>?_,rfl⟩⟩⟩
   rcases (by omega:j=0∨j=1) with rfl | rfl
   ·exact HQ.out z (List.mem_append.2 (.inl (by rw [HX.out];exact hz)))
   ·exact HQ.out z (List.mem_append.2 (.inr (by rw [HY1.out.2.2.2 (by omega)];exact hz)))
theorem zcheck_one (g:Nat) (ao:Option Addr) (len cap:Nat) (l:List (List Int)) (w:World) (hc:lies.Lies w g 29 #[.slice ao len cap]) (hZ:len≤4096→Pl w∧Zs w.heap.size w (.slice ao len cap) l∧Six l) (hl:l.length=len):
  Calls Tryz.prog 56 #[.slice (some ⟨g,0,none⟩) 1 1] w fun e w'=>Below w.heap.size w w'∧∃ f,e=.returned (.int .i64 f)∧ChkR l [] f:=by
 refine (zcheck_gen g 1 (fun _=>ao) (fun _=>len) (fun _=>cap) (fun _=>l) w (fun h=>(hZ (h 0 (by decide))).1) (lies.lt hc) (by decide) (fun j hj=>?_) (fun h j hj=>⟨(hZ (h 0 (by decide))).2.1,(hZ (h 0 (by decide))).2.2,hl⟩)).mono ?_
 ·obtain rfl:j=0:=by omega
  exact lies.cell hc 0
 ·rintro e w' ⟨hB,f,rfl,⟨⟨j,hj,hk⟩,rfl⟩ | ⟨hk,⟨hm,rfl⟩ | ⟨⟨j,hj,z,hz,hm⟩,rfl⟩⟩⟩
  ·exact ⟨hB,4,rfl,.inl ⟨.inl (by rw [hl];exact hk),rfl⟩⟩
  ·exact ⟨hB,0,rfl,.inr (.inr ⟨by rw [hl];exact hk 0 (by decide),by decide,hm 0 (by decide),fun x hx=>(by cases hx),rfl⟩)⟩
  ·exact ⟨hB,8,rfl,.inr (.inl ⟨by rw [hl];exact hk 0 (by decide),by decide,fun q=>hm (q.1 z hz),rfl⟩)⟩
theorem zcheck_two (g:Nat) (ao:Option Addr) (len cap:Nat) (bo:Option Addr) (lenb capb:Nat) (l m:List (List Int)) (w:World) (hc:lies.Lies w g 29 #[.slice ao len cap,.slice bo lenb capb])
  (hZ:len≤4096→lenb≤4096→Pl w∧(Zs w.heap.size w (.slice ao len cap) l∧Six l)∧Zs w.heap.size w (.slice bo lenb capb) m∧Six m) (hl:l.length=len) (hm:m.length=lenb):
  Calls Tryz.prog 56 #[.slice (some ⟨g,0,none⟩) 2 2] w fun e w'=>Below w.heap.size w w'∧∃ f,e=.returned (.int .i64 f)∧ChkR l m f:=by
 refine (zcheck_gen g 2 (fun j=>if j=0 then ao else bo) (fun j=>if j=0 then len else lenb) (fun j=>if j=0 then cap else capb) (fun j=>if j=0 then l else m) w (fun h=>(hZ (h 0 (by decide)) (h 1 (by decide))).1) (lies.lt hc) (by decide) (fun j hj=>?_) (fun h j hj=>?_)).mono ?_
 ·rcases (by omega:j=0∨j=1) with rfl | rfl
  ·exact lies.cell hc 0
  ·exact lies.cell hc 1
 ·have h0:len≤4096:=h 0 (by decide)
  have h1:lenb≤4096:=h 1 (by decide)
  rcases (by omega:j=0∨j=1) with rfl | rfl
  ·exact ⟨(hZ h0 h1).2.1.1,(hZ h0 h1).2.1.2,hl⟩
  ·exact ⟨(hZ h0 h1).2.2.1,(hZ h0 h1).2.2.2,hm⟩
 ·rintro e w' ⟨hB,f,rfl,⟨⟨j,hj,hk⟩,rfl⟩ | ⟨hk,⟨hy,rfl⟩ | ⟨⟨j,hj,z,hz,hy⟩,rfl⟩⟩⟩
  ·refine ⟨hB,4,rfl,.inl ⟨?_,rfl⟩⟩
   rcases (by omega:j=0∨j=1) with rfl | rfl
   ·exact .inl (by rw [hl];exact hk)
   ·exact .inr (by rw [hm];exact hk)
  ·exact ⟨hB,0,rfl,.inr (.inr ⟨by rw [hl];exact hk 0 (by decide),by rw [hm];exact hk 1 (by decide),hy 0 (by decide),hy 1 (by decide),rfl⟩)⟩
  ·refine ⟨hB,8,rfl,.inr (.inl ⟨by rw [hl];exact hk 0 (by decide),by rw [hm];exact hk 1 (by decide),fun q=>?_,rfl⟩)⟩
   rcases (by omega:j=0∨j=1) with rfl | rfl
   ·exact hy (q.1 z hz)
   ·exact hy (q.2 z hz)
end Go.Proofs.YthmljpccbjolgaaGreatDoor.zset
