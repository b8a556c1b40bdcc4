import Derived.Test.YthmljpccbjolgaaGreatDoorZsetB
import Derived.Test.YthmljpccbjolgaaGreatDoorCoverR
import Derived.Test.YthmljpccbjolgaaGreatDoorCompT
import Derived.Test.YthmljpccbjolgaaGreatDoorWinR
namespace Go.Proofs.YthmljpccbjolgaaGreatDoor.sref
open Go.Joins Go.ChangeShapes Go.WideShapes Go.ChangeAt Go.RowKit num rat dbm dref Go.Proofs.YthmljpccbjolgaaGreatDoor.tight Go.Proofs.YthmljpccbjolgaaGreatDoor.incl Go.Proofs.YthmljpccbjolgaaGreatDoor.plaw Go.Proofs.YthmljpccbjolgaaGreatDoor.zopen Go.Proofs.YthmljpccbjolgaaGreatDoor.zone Go.Proofs.YthmljpccbjolgaaGreatDoor.comp Go.Proofs.YthmljpccbjolgaaGreatDoor.win Go.Proofs.YthmljpccbjolgaaGreatDoor.minus Go.Proofs.YthmljpccbjolgaaGreatDoor.mz Go.Proofs.YthmljpccbjolgaaGreatDoor.mlaw Go.Proofs.YthmljpccbjolgaaGreatDoor.zref Go.Proofs.YthmljpccbjolgaaGreatDoor.mref Go.Proofs.YthmljpccbjolgaaGreatDoor.cover Go.Proofs.YthmljpccbjolgaaGreatDoor.cref Go.Proofs.YthmljpccbjolgaaGreatDoor.zset
open bound hiding up
set_option linter.unusedVariables false
set_option linter.unusedSimpArgs false
set_option linter.unusedSectionVars false
theorem zo_low {z:List Int} (h:Zo z):Low z:=fun x hx=>by
 obtain ⟨i,hi,rfl⟩:=List.getElem_of_mem hx
 have f:=six_fine h.1.may i (by rw [←h.2.2];exact hi)
 rw [List.getElem?_eq_getElem hi] at f
 have f:Fine z[i]:=f
 unfold Fine at f
 omega
set_option maxRecDepth 100000 in
set_option maxHeartbeats 8000000 in
theorem same_any (ao bo:Option Addr) (len cap lenb capb:Nat) (a b:List (List Int)) (w:World) (hI:Zs w.heap.size w (.slice ao len cap) a) (hJ:Zs w.heap.size w (.slice bo lenb capb) b) (hl:a.length=len) (hlb:b.length=lenb) (hm:len≤1000000) (hmb:lenb≤1000000) (h6:∀ z,z ∈ a→z.length=6) (h6b:∀ z,z ∈ b→z.length=6):
  Calls Tryz.prog 27 #[.slice ao len cap,.slice bo lenb capb] w (Tell (a=b) w):=by
 by_cases hlen:len=lenb
 case neg=>
  have hlen':¬ (len:Int)=lenb:=by omega
  have hne:=Lib.hid (show ¬ a=b from fun e=>hlen (by rw [←hl,←hlb,e]))
  clear hI hJ hl hlb h6 h6b hlen
  go_enter Tryz.func27,Tryz.ntmps27
  go_wp2_with fail
  exact bodyPost_ret (v:=.bool false) (by simp [results,Tryz.results27,go_sem]) rfl ⟨Below.refl _ _,false,rfl,⟨fun h=>(by cases h),fun h=>(hne.out h).elim⟩⟩
 subst hlen
 have DB:=Below.refl w.heap.size w
 have HI:=Lib.hid hI
 have HJ:=Lib.hid hJ
 have HL:=Lib.hid hl
 have HLB:=Lib.hid hlb
 have H6:=Lib.hid h6
 have H6B:=Lib.hid h6b
 clear hI hJ hl hlb h6 h6b
 go_enter Tryz.func27,Tryz.ntmps27
 go_wp2_with fail
 go_loopw [5] (fun i wr=>∃ k:Nat,k≤len∧i=.int .i64 k∧Below w.heap.size w wr∧RowKit.Hid (∀ j,j<k→zat a j=zat b j)) (fun i _=>len - (intOf i).toNat)
 case atStart=>exact ⟨0,Nat.zero_le _,rfl,DB,Lib.hid (fun j hj=>absurd hj (Nat.not_lt_zero j))⟩
 case round=>
  clear DB
  obtain ⟨k,hk,rfl,DB,HS⟩:=hrel
  by_cases hkn:k<len
  ·have hkz:k<a.length:=by rw [HL.out];exact hkn
   have hky:k<b.length:=by rw [HLB.out];exact hkn
   obtain ⟨bq,off,z0,z1,z2,z3,z4,z5,rfl,hb,ez⟩:=zs_six (HI.out.below DB) hkz (H6.out _ (zat_mem hkz))
   obtain ⟨br,off',y0,y1,y2,y3,y4,y5,rfl,hb',ey⟩:=zs_six (HJ.out.below DB) hky (H6B.out _ (zat_mem hky))
   have hbr:bq<wr.heap.size:=Nat.lt_of_lt_of_le hb DB.size
   have hbr':br<wr.heap.size:=Nat.lt_of_lt_of_le hb' DB.size
   have HEZ:=Lib.hid ez
   have HEY:=Lib.hid ey
   have HKZ:=Lib.hid hkz
   have HKY:=Lib.hid hky
   have hkn':(k:Int)<len:=by omega
   clear ez ey hkz hky hb hb'
   by_cases he:[z0,z1,z2,z3,z4,z5]=[y0,y1,y2,y3,y4,y5]
   ·have hq1:∀ W,(Op.equalIn 10000 27 (.agg #[.int .i64 z0,.int .i64 z1,.int .i64 z2,.int .i64 z3,.int .i64 z4,.int .i64 z5]) (.agg #[.int .i64 y0,.int .i64 y1,.int .i64 y2,.int .i64 y3,.int .i64 y4,.int .i64 y5])).run Tryz.prog W=.ok true W:=fun W=>by rw [eq_zone];simp only [he,decide_true]
    have HE:=Lib.hid he
    clear he
    go_wp2_with fail
    refine wp_region_held_drew (S:=Below wr.heap.size wr) (by kernel_rfl) (dbm.drawn1 (Below.refl _ _)) (fun hHeld=>?_)
    refine tk 0 (v:=?_) rfl hHeld ?_ ?_
    rotate_left
    ·intro w hSw;obtain ⟨c0,c1,c2,c3,c4,c5⟩:=zs_cells (HI.out.below (later DB hSw)) HKZ.out HEZ.out;obtain ⟨d0,d1,d2,d3,d4,d5⟩:=zs_cells (HJ.out.below (later DB hSw)) HKY.out HEY.out;go_simp;try with_reducible rfl
    try simp only [Act.put,sA,sB,sC,sD,sE,sF]
    refine tk 1 (v:=?_) rfl hHeld ?_ ?_
    rotate_left
    ·intro w hSw;obtain ⟨c0,c1,c2,c3,c4,c5⟩:=zs_cells (HI.out.below (later DB hSw)) HKZ.out HEZ.out;obtain ⟨d0,d1,d2,d3,d4,d5⟩:=zs_cells (HJ.out.below (later DB hSw)) HKY.out HEY.out;go_simp;try with_reducible rfl
    try simp only [Act.put,sA,sB,sC,sD,sE,sF]
    refine tk 2 (v:=?_) rfl hHeld ?_ ?_
    rotate_left
    ·intro w hSw;obtain ⟨c0,c1,c2,c3,c4,c5⟩:=zs_cells (HI.out.below (later DB hSw)) HKZ.out HEZ.out;obtain ⟨d0,d1,d2,d3,d4,d5⟩:=zs_cells (HJ.out.below (later DB hSw)) HKY.out HEY.out;go_simp;try with_reducible rfl
    try simp only [Act.put,sA,sB,sC,sD,sE,sF]
    refine tk 3 (v:=?_) rfl hHeld ?_ ?_
    rotate_left
    ·intro w hSw;obtain ⟨c0,c1,c2,c3,c4,c5⟩:=zs_cells (HI.out.below (later DB hSw)) HKZ.out HEZ.out;obtain ⟨d0,d1,d2,d3,d4,d5⟩:=zs_cells (HJ.out.below (later DB hSw)) HKY.out HEY.out;go_simp;try with_reducible rfl
    try simp only [Act.put,sA,sB,sC,sD,sE,sF]
    refine tk 4 (v:=?_) rfl hHeld ?_ ?_
    rotate_left
    ·intro w hSw;obtain ⟨c0,c1,c2,c3,c4,c5⟩:=zs_cells (HI.out.below (later DB hSw)) HKZ.out HEZ.out;obtain ⟨d0,d1,d2,d3,d4,d5⟩:=zs_cells (HJ.out.below (later DB hSw)) HKY.out HEY.out;go_simp;try with_reducible rfl
    try simp only [Act.put,sA,sB,sC,sD,sE,sF]
    refine tk 5 (v:=?_) rfl hHeld ?_ ?_
    rotate_left
    ·intro w hSw;obtain ⟨c0,c1,c2,c3,c4,c5⟩:=zs_cells (HI.out.below (later DB hSw)) HKZ.out HEZ.out;obtain ⟨d0,d1,d2,d3,d4,d5⟩:=zs_cells (HJ.out.below (later DB hSw)) HKY.out HEY.out;go_simp;try with_reducible rfl
    try simp only [Act.put,sA,sB,sC,sD,sE,sF]
    refine tk 6 (v:=?_) rfl hHeld ?_ ?_
    rotate_left
    ·intro w hSw;obtain ⟨c0,c1,c2,c3,c4,c5⟩:=zs_cells (HI.out.below (later DB hSw)) HKZ.out HEZ.out;obtain ⟨d0,d1,d2,d3,d4,d5⟩:=zs_cells (HJ.out.below (later DB hSw)) HKY.out HEY.out;go_simp;try with_reducible rfl
    try simp only [Act.put,sA,sB,sC,sD,sE,sF]
    refine tk 7 (v:=?_) rfl hHeld ?_ ?_
    rotate_left
    ·intro w hSw;obtain ⟨c0,c1,c2,c3,c4,c5⟩:=zs_cells (HI.out.below (later DB hSw)) HKZ.out HEZ.out;obtain ⟨d0,d1,d2,d3,d4,d5⟩:=zs_cells (HJ.out.below (later DB hSw)) HKY.out HEY.out;go_simp;try with_reducible rfl
    try simp only [Act.put,sA,sB,sC,sD,sE,sF]
    refine tk 8 (v:=?_) rfl hHeld ?_ ?_
    rotate_left
    ·intro w hSw;obtain ⟨c0,c1,c2,c3,c4,c5⟩:=zs_cells (HI.out.below (later DB hSw)) HKZ.out HEZ.out;obtain ⟨d0,d1,d2,d3,d4,d5⟩:=zs_cells (HJ.out.below (later DB hSw)) HKY.out HEY.out;go_simp;try with_reducible rfl
    try simp only [Act.put,sA,sB,sC,sD,sE,sF]
    refine wpAnyH_done (by kernel_rfl) ?_ _
    replace DB:=later DB hHeld
    clear hHeld hq1
    go_wp2_with fail
    go_roundw
    case rel=>exact ⟨k+1,by omega,by go_num,DB,Lib.hid (fun j hj=>by
     by_cases e:j=k
     ·rw [e,HEZ.out,HEY.out];exact HE.out
     ·exact HS.out j (by omega))⟩
    case measure=>simp [intOf];omega
   ·have hq1:∀ W,(Op.equalIn 10000 27 (.agg #[.int .i64 z0,.int .i64 z1,.int .i64 z2,.int .i64 z3,.int .i64 z4,.int .i64 z5]) (.agg #[.int .i64 y0,.int .i64 y1,.int .i64 y2,.int .i64 y3,.int .i64 y4,.int .i64 y5])).run Tryz.prog W=.ok false W:=fun W=>by rw [eq_zone,decide_eq_false he]
    have HE:=Lib.hid he
    clear he
    go_wp2_with fail
    refine wp_region_held_drew (S:=Below wr.heap.size wr) (by kernel_rfl) (dbm.drawn1 (Below.refl _ _)) (fun hHeld=>?_)
    refine tk 0 (v:=?_) rfl hHeld ?_ ?_
    rotate_left
    ·intro w hSw;obtain ⟨c0,c1,c2,c3,c4,c5⟩:=zs_cells (HI.out.below (later DB hSw)) HKZ.out HEZ.out;obtain ⟨d0,d1,d2,d3,d4,d5⟩:=zs_cells (HJ.out.below (later DB hSw)) HKY.out HEY.out;go_simp;try with_reducible rfl
    try simp only [Act.put,sA,sB,sC,sD,sE,sF]
    refine tk 1 (v:=?_) rfl hHeld ?_ ?_
    rotate_left
    ·intro w hSw;obtain ⟨c0,c1,c2,c3,c4,c5⟩:=zs_cells (HI.out.below (later DB hSw)) HKZ.out HEZ.out;obtain ⟨d0,d1,d2,d3,d4,d5⟩:=zs_cells (HJ.out.below (later DB hSw)) HKY.out HEY.out;go_simp;try with_reducible rfl
    try simp only [Act.put,sA,sB,sC,sD,sE,sF]
    refine tk 2 (v:=?_) rfl hHeld ?_ ?_
    rotate_left
    ·intro w hSw;obtain ⟨c0,c1,c2,c3,c4,c5⟩:=zs_cells (HI.out.below (later DB hSw)) HKZ.out HEZ.out;obtain ⟨d0,d1,d2,d3,d4,d5⟩:=zs_cells (HJ.out.below (later DB hSw)) HKY.out HEY.out;go_simp;try with_reducible rfl
    try simp only [Act.put,sA,sB,sC,sD,sE,sF]
    refine tk 3 (v:=?_) rfl hHeld ?_ ?_
    rotate_left
    ·intro w hSw;obtain ⟨c0,c1,c2,c3,c4,c5⟩:=zs_cells (HI.out.below (later DB hSw)) HKZ.out HEZ.out;obtain ⟨d0,d1,d2,d3,d4,d5⟩:=zs_cells (HJ.out.below (later DB hSw)) HKY.out HEY.out;go_simp;try with_reducible rfl
    try simp only [Act.put,sA,sB,sC,sD,sE,sF]
    refine tk 4 (v:=?_) rfl hHeld ?_ ?_
    rotate_left
    ·intro w hSw;obtain ⟨c0,c1,c2,c3,c4,c5⟩:=zs_cells (HI.out.below (later DB hSw)) HKZ.out HEZ.out;obtain ⟨d0,d1,d2,d3,d4,d5⟩:=zs_cells (HJ.out.below (later DB hSw)) HKY.out HEY.out;go_simp;try with_reducible rfl
    try simp only [Act.put,sA,sB,sC,sD,sE,sF]
    refine tk 5 (v:=?_) rfl hHeld ?_ ?_
    rotate_left
    ·intro w hSw;obtain ⟨c0,c1,c2,c3,c4,c5⟩:=zs_cells (HI.out.below (later DB hSw)) HKZ.out HEZ.out;obtain ⟨d0,d1,d2,d3,d4,d5⟩:=zs_cells (HJ.out.below (later DB hSw)) HKY.out HEY.out;go_simp;try with_reducible rfl
    try simp only [Act.put,sA,sB,sC,sD,sE,sF]
    refine tk 6 (v:=?_) rfl hHeld ?_ ?_
    rotate_left
    ·intro w hSw;obtain ⟨c0,c1,c2,c3,c4,c5⟩:=zs_cells (HI.out.below (later DB hSw)) HKZ.out HEZ.out;obtain ⟨d0,d1,d2,d3,d4,d5⟩:=zs_cells (HJ.out.below (later DB hSw)) HKY.out HEY.out;go_simp;try with_reducible rfl
    try simp only [Act.put,sA,sB,sC,sD,sE,sF]
    refine tk 7 (v:=?_) rfl hHeld ?_ ?_
    rotate_left
    ·intro w hSw;obtain ⟨c0,c1,c2,c3,c4,c5⟩:=zs_cells (HI.out.below (later DB hSw)) HKZ.out HEZ.out;obtain ⟨d0,d1,d2,d3,d4,d5⟩:=zs_cells (HJ.out.below (later DB hSw)) HKY.out HEY.out;go_simp;try with_reducible rfl
    try simp only [Act.put,sA,sB,sC,sD,sE,sF]
    refine tk 8 (v:=?_) rfl hHeld ?_ ?_
    rotate_left
    ·intro w hSw;obtain ⟨c0,c1,c2,c3,c4,c5⟩:=zs_cells (HI.out.below (later DB hSw)) HKZ.out HEZ.out;obtain ⟨d0,d1,d2,d3,d4,d5⟩:=zs_cells (HJ.out.below (later DB hSw)) HKY.out HEY.out;go_simp;try with_reducible rfl
    try simp only [Act.put,sA,sB,sC,sD,sE,sF]
    refine wpAnyH_done (by kernel_rfl) ?_ _
    replace DB:=later DB hHeld
    clear hHeld hq1
    go_wp2_with fail
    exact bodyPost_ret (v:=.bool false) (by simp [results,Tryz.results27,go_sem]) rfl ⟨DB,false,rfl,⟨fun h=>(by cases h),fun h=>(HE.out (by rw [←HEZ.out,←HEY.out,h])).elim⟩⟩
  ·obtain rfl:len=k:=by omega
   have hkn':¬ (len:Int)<len:=by omega
   have hab:=Lib.hid (show a=b from List.ext_getElem (by rw [HL.out,HLB.out]) fun i h1 h2=>by
    have:=HS.out i (by rw [←HL.out];exact h1)
    unfold zat at this
    rw [List.getElem?_eq_getElem h1,List.getElem?_eq_getElem h2] at this
    exact this)
   go_wp2_with fail
   exact bodyPost_ret (v:=.bool true) (by simp [results,Tryz.results27,go_sem]) rfl ⟨DB,true,rfl,⟨fun _=>hab.out,fun _=>rfl⟩⟩
set_option maxRecDepth 100000 in
set_option maxHeartbeats 8000000 in
theorem rof13_any (ao:Option Addr) (len cap:Nat) (l:List (List Int)) (w:World) (hI:Zs w.heap.size w (.slice ao len cap) l) (h6:Six l) (lol:∀ z,z ∈ l→Low z) (hl:l.length=len) (hm:len≤1000000):Calls Tryz.prog 26 #[.slice ao len cap] w (Zans (PruX RestR l) w):=by
 have c:=rprune_any ao len cap l w hI h6 lol hl hm
 clear hI h6 lol hl
 go_enter Tryz.func26,Tryz.ntmps26
 go_wp2_with fail
 refine Calls.mono c ?_
 rintro e w1 ⟨hB,v,r,f,rfl,hR,hO⟩
 obtain ⟨av,cv,rfl⟩:=zs_len (zs_own hO)
 have HR:=Lib.hid hR
 have HO:=Lib.hid hO
 clear hR hO c
 generalize hn:r.length=n at HO ⊢
 have HN:=Lib.hid hn
 clear hn
 go_wp2_with fail
 refine bodyPost_ret (v:=.tuple #[.slice av n cv,.int .i64 f]) (by simp [results,Tryz.results26,go_sem]) rfl ⟨hB,_,r,f,rfl,HR.out,?_⟩
 rw [HN.out]
 exact HO.out
set_option maxRecDepth 100000 in
set_option maxHeartbeats 8000000 in
theorem rmay13_any (ao:Option Addr) (len cap:Nat) (l:List (List Int)) (w:World) (hI:Zs w.heap.size w (.slice ao len cap) l) (h6:Six l) (lol:∀ z,z ∈ l→Low z) (hl:l.length=len) (hm:len≤1000000):Calls Tryz.prog 61 #[.slice ao len cap] w fun e w'=>Below w.heap.size w w'∧∃ (r:Bool) (f:Int),e=.returned (.bool r)∧MayS RestR l f∧(r=true↔f=0):=by
 have c:=rof13_any ao len cap l w hI h6 lol hl hm
 have HI:=Lib.hid hI
 have H6:=Lib.hid h6
 have HL:=Lib.hid hl
 clear hI h6 lol hl
 go_enter Tryz.func61,Tryz.ntmps61
 go_wp2_with fail
 refine Calls.mono c ?_
 rintro e w1 ⟨hB,v,r,g,rfl,hR,hO⟩
 clear c
 obtain ⟨av,cv,rfl⟩:=zs_len (zs_own hO)
 have HR:=Lib.hid hR
 by_cases hg:g=0
 ·subst hg
  have hsz:(∀ x,x ∈ r→Zo x)∧r.length≤l.length:=by
   obtain ⟨q,hq,k⟩:=hR
   rcases k with ⟨k,k1,k2⟩ | ⟨k,k1⟩
   ·exact (k k2.symm).elim
   ·obtain ⟨zl,_,_,_⟩:=chk_zo H6.out six_nil hq k
    have su:=want_sub _ k1
    have:=su.length_le
    have:=srt_len l
    exact ⟨fun x hx=>zl x ((srt_mem l x).1 (su.subset hx)),by omega⟩
  have HS:=Lib.hid (zs_own hO)
  have HRZ:=Lib.hid hsz.1
  have hrl:r.length≤len:=by rw [←HL.out];exact hsz.2
  clear hsz hO hR
  obtain ⟨n,hn⟩:∃ n,n=r.length:=⟨_,rfl⟩
  have HN:=Lib.hid hn
  rw [←hn] at HS hrl ⊢
  clear hn
  go_wp2_with fail
  refine (same_any ao av len cap n cv l r w1 (HI.out.on hB) HS.out HL.out HN.out.symm hm (by omega) (fun z hz=>(H6.out z hz).1) (fun z hz=>(HRZ.out z hz).2.2)).mono ?_
  rintro e w2 ⟨hB2,q,rfl,hq⟩
  replace hB:=later hB hB2
  clear hB2 HS
  cases q with
  | true=>
   have HE:=Lib.hid (hq.1 rfl)
   clear hq
   go_wp2_with fail
   exact bodyPost_ret (v:=.bool true) (by simp [results,Tryz.results61,go_sem]) rfl ⟨hB,true,0,rfl,⟨r,0,HR.out,by rw [if_pos ⟨rfl,HE.out.symm⟩]⟩,⟨fun _=>rfl,fun _=>rfl⟩⟩
  | false=>
   have HE:=Lib.hid (show ¬ r=l from fun e=>absurd (hq.2 e.symm) (by decide))
   clear hq
   go_wp2_with fail
   exact bodyPost_ret (v:=.bool false) (by simp [results,Tryz.results61,go_sem]) rfl ⟨hB,false,8,rfl,⟨r,0,HR.out,by rw [if_neg (fun q=>HE.out q.2)]⟩,⟨fun h=>(by cases h),fun h=>(by cases h)⟩⟩
 ·clear hO hR
  have hfb:(g==0)=false:=beq_eq_false_iff_ne.2 hg
  go_wp2_with fail
  exact bodyPost_ret (v:=.bool false) (by simp [results,Tryz.results61,go_sem]) rfl ⟨hB,false,8,rfl,⟨r,g,HR.out,by rw [if_neg (fun q=>hg q.1)]⟩,⟨fun h=>(by cases h),fun h=>(by cases h)⟩⟩
set_option maxRecDepth 100000 in
set_option maxHeartbeats 8000000 in
theorem rmays_any (ao:Option Addr) (len cap:Nat) (l:List (List Int)) (w:World) (hI:Zs w.heap.size w (.slice ao len cap) l) (h6:Six l) (lol:∀ z,z ∈ l→Low z) (hl:l.length=len) (hm:len≤1000000):Calls Tryz.prog 28 #[.slice ao len cap] w fun e w'=>Below w.heap.size w w'∧∃ f,e=.returned (.int .i64 f)∧MayS RestR l f:=by
 have c:=rmay13_any ao len cap l w hI h6 lol hl hm
 clear hI h6 lol hl
 go_enter Tryz.func28,Tryz.ntmps28
 go_wp2_with fail
 refine Calls.mono c ?_
 rintro e w1 ⟨hB,r,f,rfl,hR,hq⟩
 have HR:=Lib.hid hR
 clear c hR
 cases r with
 | true=>
  obtain rfl:=hq.1 rfl
  clear hq
  go_wp2_with fail
  exact bodyPost_ret (v:=.int .i64 0) (by simp [results,Tryz.results28,go_sem]) rfl ⟨hB,0,rfl,HR.out⟩
 | false=>
  have h0:¬ f=0:=fun e=>absurd (hq.2 e) (by decide)
  have HF:=Lib.hid (show f=8 by
   obtain ⟨r,e,h1,h2⟩:=HR.out
   by_cases q:e=0∧r=l
   ·rw [if_pos q] at h2;exact (h0 h2).elim
   ·rw [if_neg q] at h2;exact h2)
  clear hq h0
  go_wp2_with fail
  exact bodyPost_ret (v:=.int .i64 8) (by simp [results,Tryz.results28,go_sem]) rfl ⟨hB,8,rfl,by rw [←HF.out];exact HR.out⟩
set_option maxRecDepth 100000 in
set_option maxHeartbeats 16000000 in
theorem ror_any (ao:Option Addr) (len cap:Nat) (a:List (List Int)) (bo:Option Addr) (lenb capb:Nat) (b:List (List Int)) (w:World) (hI:Zs w.heap.size w (.slice ao len cap) a) (hJ:Zs w.heap.size w (.slice bo lenb capb) b) (ha:Six a) (hb:Six b) (loa:∀ z,z ∈ a→Low z) (lob:∀ z,z ∈ b→Low z) (hla:a.length=len) (hlb:b.length=lenb) (hma:len≤100000) (hmb:lenb≤100000):Calls Tryz.prog 21 #[.slice ao len cap,.slice bo lenb capb] w (Zans (OrX RestR a b) w):=by
 have c:=rcheck_any ao len cap bo lenb capb a b w hI hJ ha hb loa lob hla hlb (by omega) (by omega)
 have HI:=Lib.hid hI
 have HJ:=Lib.hid hJ
 have H6:=Lib.hid ha
 have H6B:=Lib.hid hb
 have HLA:=Lib.hid loa
 have HLO:=Lib.hid lob
 have HL:=Lib.hid hla
 have HLB:=Lib.hid hlb
 clear hI hJ ha hb loa lob hla hlb
 go_enter Tryz.func21,Tryz.ntmps21
 go_wp2_with fail
 refine Calls.mono c ?_
 rintro e w1 ⟨DB,f,rfl,hR⟩
 clear c
 by_cases h0:f=0
 case neg=>
  have HR:=Lib.hid hR
  have hfb:(f==0)=false:=beq_eq_false_iff_ne.2 h0
  clear hR
  go_wp2_with fail
  exact bodyPost_ret (v:=.tuple #[.slice none 0 0,.int .i64 f]) (by simp [results,Tryz.results21,go_sem]) rfl ⟨DB,_,[],f,rfl,⟨f,HR.out,.inl ⟨h0,rfl,rfl⟩⟩,World.ownsRow_nil _ _ _ _⟩
 subst h0
 have HR:=Lib.hid hR
 obtain ⟨vp,wp,hrun,hown,hgrow,-⟩:=app_zones w.heap.size 29 (.slice none 0 0) (.slice ao len cap) 0 _ [] a w1 (World.ownsRow_nil _ _ _ _) (HI.out.on DB) (by rw [HL.out];omega) DB.size
 have hBp:=held_grown DB DB.size (World.ownsRow_nil _ _ _ _:w1.ownsRow w.heap.size 27 6 (.slice none 0 0) 0 []) (Nat.le_refl _) hgrow
 rw [Nat.zero_add,List.nil_append] at hown
 have HIP:=hBp
 obtain ⟨ap,cp,rfl⟩:=zs_len (zs_own hown)
 obtain ⟨vq,wq,hrun2,hown2,hgrow2,-⟩:=app_zones w.heap.size 29 (.slice ap a.length cp) (.slice bo lenb capb) _ _ _ b wp hown (HJ.out.below hBp) (by rw [HL.out,HLB.out];omega) hBp.size
 have hBq:=held_grown hBp hBp.size hown (Nat.le_refl _) hgrow2
 have HOW:wq.ownsRow w.heap.size 27 6 vq (a++b).length (flatZ (a++b)):=by rw [List.length_append,flatZ_app];exact hown2
 obtain ⟨aq,cq,rfl⟩:=zs_len (zs_own HOW)
 have HPS:=Lib.hid (zs_own HOW)
 have hpl:(a++b).length=len+lenb:=by rw [List.length_append,HL.out,HLB.out]
 have HR1:=Lib.hid hrun
 have HR2:=Lib.hid hrun2
 clear hR hrun hrun2 hgrow hgrow2 hown hown2 HOW HIP
 generalize a.length=la at HR1 HR2
 rw [hpl] at HPS HR2
 have HPL:=Lib.hid hpl
 clear hpl
 generalize hpm:len+lenb=pm at HPS HPL HR2
 have hpm2:pm≤200000:=by omega
 clear hpm
 go_wp2_with (first
  | (at_builtin;refine dref.append_run2 rfl (.tmp 14) (.tmp 15) 29 rfl _ _ _ _ rfl rfl HR1.out ?_;clear HR1)
  | (at_builtin;refine dref.append_run2 rfl (.tmp 17) (.tmp 18) 29 rfl _ _ _ _ rfl rfl HR2.out ?_;clear HR2))
 refine (rof13_any aq pm cq (a++b) wq HPS.out (six_app H6.out H6B.out) (fun z hz=>(List.mem_append.1 hz).elim (HLA.out z) (HLO.out z)) HPL.out (by omega)).mono ?_
 rintro e w6 ⟨hB2,v4,nw,g,rfl,hPr,hO4⟩
 have HO4:=Lib.hid (own_far hO4 hBq.size (fun _ _ _ q=>q))
 have DB2:=later hBq hB2
 obtain ⟨av4,cv4,rfl⟩:=zs_len (zs_own hO4)
 have HPR:=Lib.hid hPr
 clear hO4 hPr hB2 hBq hBp
 generalize hn:nw.length=n at HO4 ⊢
 have HN:=Lib.hid hn
 clear hn
 go_wp2_with fail
 refine bodyPost_ret (v:=.tuple #[.slice av4 n cv4,.int .i64 g]) (by simp [results,Tryz.results21,go_sem]) rfl ⟨DB2,_,nw,g,rfl,⟨0,HR.out,.inr ⟨rfl,HPR.out⟩⟩,?_⟩
 rw [HN.out]
 exact HO4.out
end Go.Proofs.YthmljpccbjolgaaGreatDoor.sref
namespace Go.Proofs.YthmljpccbjolgaaGreatDoor.sref
open Go.Joins Go.ChangeShapes Go.WideShapes Go.ChangeAt Go.RowKit num rat dbm dref Go.Proofs.YthmljpccbjolgaaGreatDoor.tight Go.Proofs.YthmljpccbjolgaaGreatDoor.incl Go.Proofs.YthmljpccbjolgaaGreatDoor.plaw Go.Proofs.YthmljpccbjolgaaGreatDoor.zopen Go.Proofs.YthmljpccbjolgaaGreatDoor.zone Go.Proofs.YthmljpccbjolgaaGreatDoor.comp Go.Proofs.YthmljpccbjolgaaGreatDoor.win Go.Proofs.YthmljpccbjolgaaGreatDoor.minus Go.Proofs.YthmljpccbjolgaaGreatDoor.mz Go.Proofs.YthmljpccbjolgaaGreatDoor.mlaw Go.Proofs.YthmljpccbjolgaaGreatDoor.zref Go.Proofs.YthmljpccbjolgaaGreatDoor.mref Go.Proofs.YthmljpccbjolgaaGreatDoor.cover Go.Proofs.YthmljpccbjolgaaGreatDoor.cref Go.Proofs.YthmljpccbjolgaaGreatDoor.zset
open bound hiding up
set_option linter.unusedVariables false
set_option linter.unusedSimpArgs false
set_option linter.unusedSectionVars false
set_option maxRecDepth 100000 in
set_option maxHeartbeats 32000000 in
theorem rmeet13_paired (ao:Option Addr) (len cap:Nat) (a:List (List Int)) (bo:Option Addr) (lenb capb:Nat) (b:List (List Int)) (w:World) (hI:Zs w.heap.size w (.slice ao len cap) a) (hJ:Zs w.heap.size w (.slice bo lenb capb) b) (ha:Six a) (hb:Six b) (loa:∀ z,z ∈ a→Low z) (lob:∀ z,z ∈ b→Low z) (hla:a.length=len) (hlb:b.length=lenb) (hma:len≤100000) (hmb:lenb≤100000):
  Calls Tryz.prog 60 #[.slice ao len cap,.slice bo lenb capb,.bool false] w (Zans (BothX RestR MetT a b) w):=by
 have DB:=Below.refl w.heap.size w
 have c:=rcheck_any ao len cap bo lenb capb a b w hI hJ ha hb loa lob hla hlb (by omega) (by omega)
 have HI:=Lib.hid hI
 have HJ:=Lib.hid hJ
 have H6:=Lib.hid ha
 have H6B:=Lib.hid hb
 have HLA:=Lib.hid loa
 have HLO:=Lib.hid lob
 have HL:=Lib.hid hla
 have HLB:=Lib.hid hlb
 clear hI hJ ha hb loa lob hla hlb
 go_enter Tryz.func60,Tryz.ntmps60
 go_wp2_with fail
 refine Calls.mono c ?_
 rintro e w1 ⟨hB,f,rfl,hR⟩
 replace DB:=later DB hB
 clear c hB
 by_cases h0:f=0
 case neg=>
  have HR:=Lib.hid hR
  have hfb:(f==0)=false:=beq_eq_false_iff_ne.2 h0
  clear hR
  go_wp2_with fail
  exact bodyPost_ret (v:=.tuple #[.slice none 0 0,.int .i64 f]) (by simp [results,Tryz.results60,go_sem]) rfl ⟨DB,_,[],f,rfl,⟨f,HR.out,.inl ⟨h0,rfl,rfl⟩⟩,World.ownsRow_nil _ _ _ _⟩
 subst h0
 obtain ⟨h1,h2,h3,h4⟩:=chk_fine hR
 have h1:len≤4096:=by rw [←HL.out];exact h1
 have h2:lenb≤4096:=by rw [←HLB.out];exact h2
 have HR:=Lib.hid hR
 have HZA:=Lib.hid (H6.out.zo h3)
 have HZB:=Lib.hid (H6B.out.zo h4)
 clear hR h3 h4
 go_wp2_with fail
 go_loopw [10,9] (fun i v wr=>∃ (k:Nat) (cur:List (List Int)),k≤len∧i=.int .i64 k∧Below w.heap.size w wr∧wr.ownsRow w.heap.size 27 6 v cur.length (flatZ cur)∧RowKit.Hid ((∀ x,x ∈ cur→Zo x)∧cur.length≤4096∧∀ r f,Bo RestR MetT b (a.drop k) cur r f→Bo RestR MetT b a [] r f)) (fun i _ _=>len - (intOf i).toNat)
 case atStart=>exact ⟨0,[],Nat.zero_le _,rfl,DB,World.ownsRow_nil _ _ _ _,Lib.hid ⟨fun x hx=>(by cases hx),by decide,fun r f h=>h⟩⟩
 case round=>
  clear DB
  obtain ⟨k,cur,hk,rfl,hB,hO,HN⟩:=hrel
  by_cases hkn:k<len
  ·have hkz:k<a.length:=by rw [HL.out];exact hkn
   have hkn':(k:Int)<len:=by omega
   have hzo:=HZA.out _ (zat_mem hkz)
   obtain ⟨bq,off,z0,z1,z2,z3,z4,z5,rfl,hb,ez⟩:=zs_six (HI.out.below hB) hkz hzo.2.2
   have hlow:=HLA.out _ (zat_mem hkz)
   have hdr:a.drop k=[z0,z1,z2,z3,z4,z5]::a.drop (k+1):=by
    rw [List.drop_eq_getElem_cons hkz,←ez]
    unfold zat
    rw [List.getElem?_eq_getElem hkz]
    rfl
   rw [ez] at hzo hlow
   have hcl:=HN.out.2.1
   have HEZ:=Lib.hid ez
   have HKZ:=Lib.hid hkz
   have HZO:=Lib.hid hzo
   have HLW:=Lib.hid hlow
   have HDR:=Lib.hid hdr
   clear ez hkz hzo hdr hlow
   obtain ⟨cm,hcm⟩:∃ cm,cm=cur.length:=⟨_,rfl⟩
   have HCM:=Lib.hid hcm
   rw [←hcm] at hO hcl
   clear hcm
   go_wp2_with fail
   go_loopw [11,9] (fun i v wq=>∃ (j m:Nat) (put:List (List Int)),j≤lenb∧i=.int .i64 j∧m=put.length∧m≤cm+j∧Below w.heap.size w wq∧wq.ownsRow w.heap.size 27 6 v m (flatZ put)∧RowKit.Hid (∀ r f,Col (MetT [z0,z1,z2,z3,z4,z5]) (b.drop j) put r f→Col (MetT [z0,z1,z2,z3,z4,z5]) b cur r f)) (fun i _ _=>lenb - (intOf i).toNat)
   case atStart=>exact ⟨0,cm,cur,Nat.zero_le _,rfl,HCM.out,Nat.le_refl _,hB,hO,Lib.hid (fun r f h=>h)⟩
   case round=>
    clear hB hO
    obtain ⟨j,m,put,hj,rfl,hmc,hmj,hB,hO,HC⟩:=hrel
    obtain ⟨av,cv,hv⟩:=zs_len (zs_own hO)
    rw [←hmc] at hv
    subst hv
    have HMC:=Lib.hid hmc
    clear hmc
    by_cases hjn:j<lenb
    ·have hjz:j<b.length:=by rw [HLB.out];exact hjn
     have hjn':(j:Int)<lenb:=by omega
     have hyo:=HZB.out _ (zat_mem hjz)
     obtain ⟨br,off',y0,y1,y2,y3,y4,y5,rfl,hb',ey⟩:=zs_six (HJ.out.below hB) hjz hyo.2.2
     have hlow:=HLO.out _ (zat_mem hjz)
     have hbr:bq<wr.heap.size:=Nat.lt_of_lt_of_le hb hB.size
     have hbr':br<wr.heap.size:=Nat.lt_of_lt_of_le hb' hB.size
     have hdr:b.drop j=[y0,y1,y2,y3,y4,y5]::b.drop (j+1):=by
      rw [List.drop_eq_getElem_cons hjz,←ey]
      unfold zat
      rw [List.getElem?_eq_getElem hjz]
      rfl
     rw [ey] at hyo hlow
     have HEY:=Lib.hid ey
     have HJZ:=Lib.hid hjz
     have HYO:=Lib.hid hyo
     have HLY:=Lib.hid hlow
     have HDY:=Lib.hid hdr
     have hBw:=hB
     clear ey hjz hyo hdr hlow hB
     go_wp2_with fail
     refine wp_region_held_drew (S:=Below wr.heap.size wr) (by kernel_rfl) (dbm.drawn1 (Below.refl _ _)) (fun hHeld=>?_)
     generalize wr.drew=wD at hHeld ⊢
     refine tk 0 (v:=?_) rfl hHeld ?_ ?_
     rotate_left
     ·intro w hSw;obtain ⟨c0,c1,c2,c3,c4,c5⟩:=zs_cells (HI.out.below (later hBw hSw)) HKZ.out HEZ.out;obtain ⟨d0,d1,d2,d3,d4,d5⟩:=zs_cells (HJ.out.below (later hBw hSw)) HJZ.out HEY.out;go_simp;try with_reducible rfl
     try simp only [Act.put,sA,sB,sC,sD,sE,sF]
     refine tk 1 (v:=?_) rfl hHeld ?_ ?_
     rotate_left
     ·intro w hSw;obtain ⟨c0,c1,c2,c3,c4,c5⟩:=zs_cells (HI.out.below (later hBw hSw)) HKZ.out HEZ.out;obtain ⟨d0,d1,d2,d3,d4,d5⟩:=zs_cells (HJ.out.below (later hBw hSw)) HJZ.out HEY.out;go_simp;try with_reducible rfl
     try simp only [Act.put,sA,sB,sC,sD,sE,sF]
     refine tk 2 (v:=?_) rfl hHeld ?_ ?_
     rotate_left
     ·intro w hSw;obtain ⟨c0,c1,c2,c3,c4,c5⟩:=zs_cells (HI.out.below (later hBw hSw)) HKZ.out HEZ.out;obtain ⟨d0,d1,d2,d3,d4,d5⟩:=zs_cells (HJ.out.below (later hBw hSw)) HJZ.out HEY.out;go_simp;try with_reducible rfl
     try simp only [Act.put,sA,sB,sC,sD,sE,sF]
     refine tk 3 (v:=?_) rfl hHeld ?_ ?_
     rotate_left
     ·intro w hSw;obtain ⟨c0,c1,c2,c3,c4,c5⟩:=zs_cells (HI.out.below (later hBw hSw)) HKZ.out HEZ.out;obtain ⟨d0,d1,d2,d3,d4,d5⟩:=zs_cells (HJ.out.below (later hBw hSw)) HJZ.out HEY.out;go_simp;try with_reducible rfl
     try simp only [Act.put,sA,sB,sC,sD,sE,sF]
     refine tk 4 (v:=?_) rfl hHeld ?_ ?_
     rotate_left
     ·intro w hSw;obtain ⟨c0,c1,c2,c3,c4,c5⟩:=zs_cells (HI.out.below (later hBw hSw)) HKZ.out HEZ.out;obtain ⟨d0,d1,d2,d3,d4,d5⟩:=zs_cells (HJ.out.below (later hBw hSw)) HJZ.out HEY.out;go_simp;try with_reducible rfl
     try simp only [Act.put,sA,sB,sC,sD,sE,sF]
     refine tk 5 (v:=?_) rfl hHeld ?_ ?_
     rotate_left
     ·intro w hSw;obtain ⟨c0,c1,c2,c3,c4,c5⟩:=zs_cells (HI.out.below (later hBw hSw)) HKZ.out HEZ.out;obtain ⟨d0,d1,d2,d3,d4,d5⟩:=zs_cells (HJ.out.below (later hBw hSw)) HJZ.out HEY.out;go_simp;try with_reducible rfl
     try simp only [Act.put,sA,sB,sC,sD,sE,sF]
     refine tk 6 (v:=?_) rfl hHeld ?_ ?_
     rotate_left
     ·intro w hSw;obtain ⟨c0,c1,c2,c3,c4,c5⟩:=zs_cells (HI.out.below (later hBw hSw)) HKZ.out HEZ.out;obtain ⟨d0,d1,d2,d3,d4,d5⟩:=zs_cells (HJ.out.below (later hBw hSw)) HJZ.out HEY.out;go_simp;try with_reducible rfl
     try simp only [Act.put,sA,sB,sC,sD,sE,sF]
     refine tk 7 (v:=?_) rfl hHeld ?_ ?_
     rotate_left
     ·intro w hSw;obtain ⟨c0,c1,c2,c3,c4,c5⟩:=zs_cells (HI.out.below (later hBw hSw)) HKZ.out HEZ.out;obtain ⟨d0,d1,d2,d3,d4,d5⟩:=zs_cells (HJ.out.below (later hBw hSw)) HJZ.out HEY.out;go_simp;try with_reducible rfl
     try simp only [Act.put,sA,sB,sC,sD,sE,sF]
     refine wpAnyH_ready (rs:=[8,12]) (by kernel_rfl) (by simp) (AllReadyH.cons rfl (fun K hK=>?_) (AllReadyH.cons rfl (fun K hK=>?_) AllReadyH.nil))
     ·go_simp
      refine (rcommon_any z0 z1 z2 z3 z4 z5 y0 y1 y2 y3 y4 y5 _ HZO.out.1 HYO.out.1 HZO.out.2.1 HYO.out.2.1).mono ?_
      rintro e u1 ⟨hB,o0,o1,o2,o3,o4,o5,f,rfl,hT9⟩
      have HT9:=Lib.hid (show MetT [z0,z1,z2,z3,z4,z5] [y0,y1,y2,y3,y4,y5] [o0,o1,o2,o3,o4,o5] f from meet_of HZO.out.1 HYO.out.1 hT9)
      clear hT9
      refine hK.out _ _ (hHeld.trans (hB.mono hHeld.size)) (fun hNew=>?_)
      clear hB
      clear hHeld hK K
      have hHeld:=hNew
      clear hNew
      try simp only [Act.put,sA,sB,sC,sD,sE,sF]
      refine tk 9 (v:=?_) rfl hHeld ?_ ?_
      rotate_left
      ·intro w hSw;skip;go_simp;try with_reducible rfl
      try simp only [Act.put,sA,sB,sC,sD,sE,sF]
      refine tk 10 (v:=?_) rfl hHeld ?_ ?_
      rotate_left
      ·intro w hSw;skip;go_simp;try with_reducible rfl
      try simp only [Act.put,sA,sB,sC,sD,sE,sF]
      refine tk 11 (v:=?_) rfl hHeld ?_ ?_
      rotate_left
      ·intro w hSw;skip;go_simp;try with_reducible rfl
      try simp only [Act.put,sA,sB,sC,sD,sE,sF]
      refine wpAnyH_ready (rs:=[12]) (by kernel_rfl) (by simp) (AllReadyH.cons rfl (fun K hK=>?_) AllReadyH.nil)
      go_simp
      have hT:=hHeld.size
      have L:=lies.made u1 27 #[.int .i64 0,.int .i64 0,.int .i64 0,.int .i64 0,.int .i64 0,.int .i64 0]
      have hAl:=hHeld.trans ((bound.up1 u1 (.cells #[.int .i64 0,.int .i64 0,.int .i64 0,.int .i64 0,.int .i64 0,.int .i64 0] 27)).mono hHeld.size)
      refine hK.out _ _ hAl (fun hNew=>?_)
      clear hAl
      clear hHeld hK K
      have hHeld:=hNew
      clear hNew
      try simp only [Act.put,sA,sB,sC,sD,sE,sF]
      generalize (World.heap u1).size=T at hT L ⊢
      generalize World.alloc u1 (.cells #[.int .i64 0,.int .i64 0,.int .i64 0,.int .i64 0,.int .i64 0,.int .i64 0] 27)=wA at L hHeld ⊢
      obtain ⟨⟨b0,b1,b2,b3,b4,b5⟩,⟨q0,q1,q2,q3,q4,q5⟩,xl⟩:=six_cells L
      refine wpAnyH_ready (rs:=[13]) (by kernel_rfl) (by simp) (AllReadyH.cons rfl (fun K hK=>?_) AllReadyH.nil)
      go_simp
      replace hHeld:=put_six hHeld hT (.int .i64 o0) (.int .i64 o1) (.int .i64 o2) (.int .i64 o3) (.int .i64 o4) (.int .i64 o5)
      replace L:=zref.put_sixL L (.int .i64 o0) (.int .i64 o1) (.int .i64 o2) (.int .i64 o3) (.int .i64 o4) (.int .i64 o5)
      refine hK.out _ _ hHeld (fun hNew=>?_)
      clear hHeld hK K
      have hHeld:=hNew
      clear hNew
      try simp only [Act.put,sA,sB,sC,sD,sE,sF]
      generalize World.setCell (World.setCell (World.setCell (World.setCell (World.setCell (World.setCell (wA) ⟨T,0,none⟩ (.int .i64 o0)) ⟨T,1,none⟩ (.int .i64 o1)) ⟨T,2,none⟩ (.int .i64 o2)) ⟨T,3,none⟩ (.int .i64 o3)) ⟨T,4,none⟩ (.int .i64 o4)) ⟨T,5,none⟩ (.int .i64 o5)=wB at L hHeld ⊢
      refine tk 14 (v:=?_) rfl hHeld ?_ ?_
      rotate_left
      ·intro w hSw;skip;go_simp;try with_reducible rfl
      try simp only [Act.put,sA,sB,sC,sD,sE,sF]
      refine wpAnyH_done (by kernel_rfl) ?_ _
      replace hO:=incl.own_call hO hHeld
      replace hBw:=later hBw hHeld
      clear hHeld hT
      by_cases h6:f=6
      ·subst h6
       have HN2:=Lib.hid (show ∀ r f,Col (MetT [z0,z1,z2,z3,z4,z5]) (b.drop (j+1)) put r f→Col (MetT [z0,z1,z2,z3,z4,z5]) b cur r f from fun r f h=>HC.out r f (by rw [HDY.out];exact ⟨_,6,HT9.out,.inl ⟨rfl,h⟩⟩))
       have HO:=Lib.hid hO
       clear hO HC HT9 L
       go_wp2_with fail
       go_roundw
       case rel=>exact ⟨j+1,m,put,by omega,by go_num,HMC.out,by omega,hBw,HO.out,HN2⟩
       case measure=>simp [intOf];omega
      ·by_cases h0:f=0
       ·subst h0
        have HN2:=Lib.hid (show ∀ r f,Col (MetT [z0,z1,z2,z3,z4,z5]) (b.drop (j+1)) (put++[[o0,o1,o2,o3,o4,o5]]) r f→Col (MetT [z0,z1,z2,z3,z4,z5]) b cur r f from fun r f h=>HC.out r f (by rw [HDY.out];exact ⟨_,0,HT9.out,.inr (.inr ⟨rfl,h⟩)⟩))
        have hA:=bound.up1 wB (.cells #[.int .i64 o0,.int .i64 o1,.int .i64 o2,.int .i64 o3,.int .i64 o4,.int .i64 o5] 27)
        have hO1:=incl.own_call hO hA
        obtain ⟨v1,w3,hrun,own,hgrow,-⟩:=app_zones w.heap.size 29 (.slice av m cv) (.slice (some ⟨wB.heap.size,0,none⟩) 1 1) m _ (flatZ put) [[o0,o1,o2,o3,o4,o5]] (wB.alloc (.cells #[.int .i64 o0,.int .i64 o1,.int .i64 o2,.int .i64 o3,.int .i64 o4,.int .i64 o5] 27)) hO1 (zs_box (lies.made wB 27 #[.int .i64 o0,.int .i64 o1,.int .i64 o2,.int .i64 o3,.int .i64 o4,.int .i64 o5])) (by show m+1≤_;omega) (Nat.le_trans hBw.size hA.size)
        have hB1:Below w.heap.size w (wB.alloc (.cells #[.int .i64 o0,.int .i64 o1,.int .i64 o2,.int .i64 o3,.int .i64 o4,.int .i64 o5] 27)):=later hBw hA
        have hB2:=held_grown hB1 hB1.size hO1 (Nat.le_refl _) hgrow
        have HRUN:=Lib.hid hrun
        have HOWN:=Lib.hid (show w3.ownsRow w.heap.size 27 6 v1 (m+1) (flatZ (put++[[o0,o1,o2,o3,o4,o5]])) by rw [flatZ_app];exact own)
        have HM1:=Lib.hid (show m+1=(put++[[o0,o1,o2,o3,o4,o5]]).length by rw [List.length_append,←HMC.out];rfl)
        obtain ⟨⟨b0,b1,b2,b3,b4,b5⟩,-,xl⟩:=six_cells L
        clear hrun own hgrow hO hO1 hB1 hA hBw HC HT9 L h6
        go_wp2_with (at_builtin;refine dref.append_run2 rfl (.tmp 64) (.tmp 66) 29 rfl _ _ _ _ rfl rfl HRUN.out ?_;clear HRUN)
        go_roundw
        case rel=>exact ⟨j+1,m+1,put++[[o0,o1,o2,o3,o4,o5]],by omega,by go_num,HM1.out,by omega,hB2,HOWN.out,HN2⟩
        case measure=>simp [intOf];omega
       ·have HE:=Lib.hid (show Bo RestR MetT b a [] [] f from HN.out.2.2 [] f (by rw [HDR.out];exact ⟨_,f,HC.out [] f (by rw [HDY.out];exact ⟨_,f,HT9.out,.inr (.inl ⟨h6,h0,rfl,rfl⟩)⟩),.inl ⟨h0,rfl,rfl⟩⟩))
        have hfb:(f==0)=false:=beq_eq_false_iff_ne.2 h0
        have hfc:(f==6)=false:=beq_eq_false_iff_ne.2 h6
        have hfd:(f !=0)=true:=by simpa using h0
        have hfe:(f !=6)=true:=by simpa using h6
        clear hO HC HT9 L HN
        go_wp2_with fail
        exact bodyPost_ret (v:=.tuple #[.slice none 0 0,.int .i64 f]) (by simp [results,Tryz.results60,go_sem]) rfl ⟨hBw,_,[],f,rfl,⟨0,HR.out,.inr ⟨rfl,HE.out⟩⟩,World.ownsRow_nil _ _ _ _⟩
     ·go_simp
      have hT:=hHeld.size
      have L:=lies.made wD 27 #[.int .i64 0,.int .i64 0,.int .i64 0,.int .i64 0,.int .i64 0,.int .i64 0]
      have hAl:=hHeld.trans ((bound.up1 wD (.cells #[.int .i64 0,.int .i64 0,.int .i64 0,.int .i64 0,.int .i64 0,.int .i64 0] 27)).mono hHeld.size)
      refine hK.out _ _ hAl (fun hNew=>?_)
      clear hAl
      clear hHeld hK K
      have hHeld:=hNew
      clear hNew
      try simp only [Act.put,sA,sB,sC,sD,sE,sF]
      generalize (World.heap wD).size=T at hT L ⊢
      generalize World.alloc wD (.cells #[.int .i64 0,.int .i64 0,.int .i64 0,.int .i64 0,.int .i64 0,.int .i64 0] 27)=wA at L hHeld ⊢
      refine wpAnyH_ready (rs:=[8]) (by kernel_rfl) (by simp) (AllReadyH.cons rfl (fun K hK=>?_) AllReadyH.nil)
      go_simp
      refine (rcommon_any z0 z1 z2 z3 z4 z5 y0 y1 y2 y3 y4 y5 _ HZO.out.1 HYO.out.1 HZO.out.2.1 HYO.out.2.1).mono ?_
      rintro e u1 ⟨hB,o0,o1,o2,o3,o4,o5,f,rfl,hT9⟩
      have HT9:=Lib.hid (show MetT [z0,z1,z2,z3,z4,z5] [y0,y1,y2,y3,y4,y5] [o0,o1,o2,o3,o4,o5] f from meet_of HZO.out.1 HYO.out.1 hT9)
      clear hT9
      replace L:=lies.on_call L hB
      refine hK.out _ _ (hHeld.trans (hB.mono hHeld.size)) (fun hNew=>?_)
      clear hB
      clear hHeld hK K
      have hHeld:=hNew
      clear hNew
      try simp only [Act.put,sA,sB,sC,sD,sE,sF]
      refine tk 9 (v:=?_) rfl hHeld ?_ ?_
      rotate_left
      ·intro w hSw;skip;go_simp;try with_reducible rfl
      try simp only [Act.put,sA,sB,sC,sD,sE,sF]
      refine tk 10 (v:=?_) rfl hHeld ?_ ?_
      rotate_left
      ·intro w hSw;skip;go_simp;try with_reducible rfl
      try simp only [Act.put,sA,sB,sC,sD,sE,sF]
      refine tk 11 (v:=?_) rfl hHeld ?_ ?_
      rotate_left
      ·intro w hSw;skip;go_simp;try with_reducible rfl
      try simp only [Act.put,sA,sB,sC,sD,sE,sF]
      obtain ⟨⟨b0,b1,b2,b3,b4,b5⟩,⟨q0,q1,q2,q3,q4,q5⟩,xl⟩:=six_cells L
      refine wpAnyH_ready (rs:=[13]) (by kernel_rfl) (by simp) (AllReadyH.cons rfl (fun K hK=>?_) AllReadyH.nil)
      go_simp
      replace hHeld:=put_six hHeld hT (.int .i64 o0) (.int .i64 o1) (.int .i64 o2) (.int .i64 o3) (.int .i64 o4) (.int .i64 o5)
      replace L:=zref.put_sixL L (.int .i64 o0) (.int .i64 o1) (.int .i64 o2) (.int .i64 o3) (.int .i64 o4) (.int .i64 o5)
      refine hK.out _ _ hHeld (fun hNew=>?_)
      clear hHeld hK K
      have hHeld:=hNew
      clear hNew
      try simp only [Act.put,sA,sB,sC,sD,sE,sF]
      generalize World.setCell (World.setCell (World.setCell (World.setCell (World.setCell (World.setCell (u1) ⟨T,0,none⟩ (.int .i64 o0)) ⟨T,1,none⟩ (.int .i64 o1)) ⟨T,2,none⟩ (.int .i64 o2)) ⟨T,3,none⟩ (.int .i64 o3)) ⟨T,4,none⟩ (.int .i64 o4)) ⟨T,5,none⟩ (.int .i64 o5)=wB at L hHeld ⊢
      refine tk 14 (v:=?_) rfl hHeld ?_ ?_
      rotate_left
      ·intro w hSw;skip;go_simp;try with_reducible rfl
      try simp only [Act.put,sA,sB,sC,sD,sE,sF]
      refine wpAnyH_done (by kernel_rfl) ?_ _
      replace hO:=incl.own_call hO hHeld
      replace hBw:=later hBw hHeld
      clear hHeld hT
      by_cases h6:f=6
      ·subst h6
       have HN2:=Lib.hid (show ∀ r f,Col (MetT [z0,z1,z2,z3,z4,z5]) (b.drop (j+1)) put r f→Col (MetT [z0,z1,z2,z3,z4,z5]) b cur r f from fun r f h=>HC.out r f (by rw [HDY.out];exact ⟨_,6,HT9.out,.inl ⟨rfl,h⟩⟩))
       have HO:=Lib.hid hO
       clear hO HC HT9 L
       go_wp2_with fail
       go_roundw
       case rel=>exact ⟨j+1,m,put,by omega,by go_num,HMC.out,by omega,hBw,HO.out,HN2⟩
       case measure=>simp [intOf];omega
      ·by_cases h0:f=0
       ·subst h0
        have HN2:=Lib.hid (show ∀ r f,Col (MetT [z0,z1,z2,z3,z4,z5]) (b.drop (j+1)) (put++[[o0,o1,o2,o3,o4,o5]]) r f→Col (MetT [z0,z1,z2,z3,z4,z5]) b cur r f from fun r f h=>HC.out r f (by rw [HDY.out];exact ⟨_,0,HT9.out,.inr (.inr ⟨rfl,h⟩)⟩))
        have hA:=bound.up1 wB (.cells #[.int .i64 o0,.int .i64 o1,.int .i64 o2,.int .i64 o3,.int .i64 o4,.int .i64 o5] 27)
        have hO1:=incl.own_call hO hA
        obtain ⟨v1,w3,hrun,own,hgrow,-⟩:=app_zones w.heap.size 29 (.slice av m cv) (.slice (some ⟨wB.heap.size,0,none⟩) 1 1) m _ (flatZ put) [[o0,o1,o2,o3,o4,o5]] (wB.alloc (.cells #[.int .i64 o0,.int .i64 o1,.int .i64 o2,.int .i64 o3,.int .i64 o4,.int .i64 o5] 27)) hO1 (zs_box (lies.made wB 27 #[.int .i64 o0,.int .i64 o1,.int .i64 o2,.int .i64 o3,.int .i64 o4,.int .i64 o5])) (by show m+1≤_;omega) (Nat.le_trans hBw.size hA.size)
        have hB1:Below w.heap.size w (wB.alloc (.cells #[.int .i64 o0,.int .i64 o1,.int .i64 o2,.int .i64 o3,.int .i64 o4,.int .i64 o5] 27)):=later hBw hA
        have hB2:=held_grown hB1 hB1.size hO1 (Nat.le_refl _) hgrow
        have HRUN:=Lib.hid hrun
        have HOWN:=Lib.hid (show w3.ownsRow w.heap.size 27 6 v1 (m+1) (flatZ (put++[[o0,o1,o2,o3,o4,o5]])) by rw [flatZ_app];exact own)
        have HM1:=Lib.hid (show m+1=(put++[[o0,o1,o2,o3,o4,o5]]).length by rw [List.length_append,←HMC.out];rfl)
        obtain ⟨⟨b0,b1,b2,b3,b4,b5⟩,-,xl⟩:=six_cells L
        clear hrun own hgrow hO hO1 hB1 hA hBw HC HT9 L h6
        go_wp2_with (at_builtin;refine dref.append_run2 rfl (.tmp 64) (.tmp 66) 29 rfl _ _ _ _ rfl rfl HRUN.out ?_;clear HRUN)
        go_roundw
        case rel=>exact ⟨j+1,m+1,put++[[o0,o1,o2,o3,o4,o5]],by omega,by go_num,HM1.out,by omega,hB2,HOWN.out,HN2⟩
        case measure=>simp [intOf];omega
       ·have HE:=Lib.hid (show Bo RestR MetT b a [] [] f from HN.out.2.2 [] f (by rw [HDR.out];exact ⟨_,f,HC.out [] f (by rw [HDY.out];exact ⟨_,f,HT9.out,.inr (.inl ⟨h6,h0,rfl,rfl⟩)⟩),.inl ⟨h0,rfl,rfl⟩⟩))
        have hfb:(f==0)=false:=beq_eq_false_iff_ne.2 h0
        have hfc:(f==6)=false:=beq_eq_false_iff_ne.2 h6
        have hfd:(f !=0)=true:=by simpa using h0
        have hfe:(f !=6)=true:=by simpa using h6
        clear hO HC HT9 L HN
        go_wp2_with fail
        exact bodyPost_ret (v:=.tuple #[.slice none 0 0,.int .i64 f]) (by simp [results,Tryz.results60,go_sem]) rfl ⟨hBw,_,[],f,rfl,⟨0,HR.out,.inr ⟨rfl,HE.out⟩⟩,World.ownsRow_nil _ _ _ _⟩
    ·have hke:b.drop j=[]:=List.drop_eq_nil_of_le (by rw [HLB.out];omega)
     have hjn':¬ (j:Int)<lenb:=by omega
     have HP1:=Lib.hid (show Col (MetT [z0,z1,z2,z3,z4,z5]) b cur put 0 from HC.out put 0 (by rw [hke];exact ⟨rfl,rfl⟩))
     obtain ⟨k1,-⟩:=col_zo b (fun y hy=>meet_zo _ HZO.out y (HZB.out y hy)) HN.out.1 HP1.out
     have HPZ:=Lib.hid k1
     have HS:=Lib.hid (zs_own hO)
     clear hO HC hke k1
     go_wp2_with fail
     refine (rof13_any av m cv put wr HS.out (six_zo HPZ.out) (fun z hz=>zo_low (HPZ.out z hz)) HMC.out.symm (by omega)).mono ?_
     rintro e w6 ⟨hB2,v4,nw,g,rfl,hPr,hO4⟩
     have HO4:=Lib.hid (own_far hO4 hB.size (fun _ _ _ q=>q))
     replace hB:=later hB hB2
     obtain ⟨av4,cv4,rfl⟩:=zs_len (zs_own hO4)
     have HPR:=Lib.hid hPr
     clear hO4 hPr hB2
     obtain ⟨m4,hm4⟩:∃ m4,m4=nw.length:=⟨_,rfl⟩
     have HM4:=Lib.hid hm4
     rw [←hm4] at HO4 ⊢
     clear hm4
     by_cases hg:g=0
     ·subst hg
      have HN2:=Lib.hid (show (∀ x,x ∈ nw→Zo x)∧nw.length≤4096∧∀ r f,Bo RestR MetT b (a.drop (k+1)) nw r f→Bo RestR MetT b a [] r f by
       obtain ⟨q,hq,q2⟩:=HPR.out
       rcases q2 with ⟨q2,_,q3⟩ | ⟨q2,q3⟩
       ·exact (q2 q3.symm).elim
       ·subst q2
        have su:=want_sub _ q3
        have l1:=su.length_le
        have l2:=srt_len put
        have l3:=(chk_fine hq).1
        exact ⟨fun x hx=>HPZ.out x ((srt_mem put x).1 (su.subset hx)),by omega,fun r f h=>HN.out.2.2 r f (by rw [HDR.out];exact ⟨put,0,HP1.out,.inr ⟨rfl,nw,0,HPR.out,.inr ⟨rfl,h⟩⟩⟩)⟩)
      clear HN
      go_wp2_with fail
      go_roundw
      case rel=>exact ⟨k+1,nw,by omega,by go_num,hB,by rw [←HM4.out];exact HO4.out,HN2⟩
      case measure=>simp [intOf];omega
     ·have HE:=Lib.hid (show Bo RestR MetT b a [] [] g from HN.out.2.2 [] g (by rw [HDR.out];exact ⟨put,0,HP1.out,.inr ⟨rfl,nw,g,HPR.out,.inl ⟨hg,rfl,rfl⟩⟩⟩))
      have hfb:(g==0)=false:=beq_eq_false_iff_ne.2 hg
      clear HN
      go_wp2_with fail
      exact bodyPost_ret (v:=.tuple #[.slice none 0 0,.int .i64 g]) (by simp [results,Tryz.results60,go_sem]) rfl ⟨hB,_,[],g,rfl,⟨0,HR.out,.inr ⟨rfl,HE.out⟩⟩,World.ownsRow_nil _ _ _ _⟩
  ·have hke:a.drop k=[]:=List.drop_eq_nil_of_le (by rw [HL.out];omega)
   have hkn':¬ (k:Int)<len:=by omega
   have HE:=Lib.hid (show Bo RestR MetT b a [] cur 0 from HN.out.2.2 cur 0 (by rw [hke];exact ⟨rfl,rfl⟩))
   obtain ⟨av,cv,rfl⟩:=zs_len (zs_own hO)
   have HO:=Lib.hid hO
   clear hO hke HN
   generalize hm:cur.length=m at HO ⊢
   have HM:=Lib.hid hm
   clear hm
   go_wp2_with fail
   refine bodyPost_ret (v:=.tuple #[.slice av m cv,.int .i64 0]) (by simp [results,Tryz.results60,go_sem]) rfl ⟨hB,_,cur,0,rfl,⟨0,HR.out,.inr ⟨rfl,HE.out⟩⟩,?_⟩
   rw [HM.out]
   exact HO.out
set_option maxRecDepth 100000 in
set_option maxHeartbeats 8000000 in
theorem rmeet13_any (ao:Option Addr) (len cap:Nat) (a:List (List Int)) (bo:Option Addr) (lenb capb:Nat) (b:List (List Int)) (w:World) (hI:Zs w.heap.size w (.slice ao len cap) a) (hJ:Zs w.heap.size w (.slice bo lenb capb) b) (ha:Six a) (hb:Six b) (loa:∀ z,z ∈ a→Low z) (lob:∀ z,z ∈ b→Low z) (hla:a.length=len) (hlb:b.length=lenb) (hma:len≤100000) (hmb:lenb≤100000):Calls Tryz.prog 23 #[.slice ao len cap,.slice bo lenb capb] w (Zans (BothX RestR MetT a b) w):=by
 have c:=rmeet13_paired ao len cap a bo lenb capb b w hI hJ ha hb loa lob hla hlb hma hmb
 clear hI hJ ha hb loa lob hla hlb
 go_enter Tryz.func23,Tryz.ntmps23
 go_wp2_with fail
 refine Calls.mono c ?_
 rintro e w1 ⟨hB,v,r,f,rfl,hR,hO⟩
 obtain ⟨av,cv,rfl⟩:=zs_len (zs_own hO)
 have HR:=Lib.hid hR
 have HO:=Lib.hid hO
 clear hR hO c
 generalize hn:r.length=n at HO ⊢
 have HN:=Lib.hid hn
 clear hn
 go_wp2_with fail
 refine bodyPost_ret (v:=.tuple #[.slice av n cv,.int .i64 f]) (by simp [results,Tryz.results23,go_sem]) rfl ⟨hB,_,r,f,rfl,HR.out,?_⟩
 rw [HN.out]
 exact HO.out
end Go.Proofs.YthmljpccbjolgaaGreatDoor.sref
namespace Go.Proofs.YthmljpccbjolgaaGreatDoor.sref
open Go.Joins Go.ChangeShapes Go.WideShapes Go.ChangeAt Go.RowKit num rat dbm dref Go.Proofs.YthmljpccbjolgaaGreatDoor.tight Go.Proofs.YthmljpccbjolgaaGreatDoor.incl Go.Proofs.YthmljpccbjolgaaGreatDoor.plaw Go.Proofs.YthmljpccbjolgaaGreatDoor.zopen Go.Proofs.YthmljpccbjolgaaGreatDoor.zone Go.Proofs.YthmljpccbjolgaaGreatDoor.comp Go.Proofs.YthmljpccbjolgaaGreatDoor.win Go.Proofs.YthmljpccbjolgaaGreatDoor.minus Go.Proofs.YthmljpccbjolgaaGreatDoor.mz Go.Proofs.YthmljpccbjolgaaGreatDoor.mlaw Go.Proofs.YthmljpccbjolgaaGreatDoor.zref Go.Proofs.YthmljpccbjolgaaGreatDoor.mref Go.Proofs.YthmljpccbjolgaaGreatDoor.cover Go.Proofs.YthmljpccbjolgaaGreatDoor.cref Go.Proofs.YthmljpccbjolgaaGreatDoor.zset
open bound hiding up
set_option linter.unusedVariables false
set_option linter.unusedSimpArgs false
set_option linter.unusedSectionVars false
set_option maxRecDepth 100000 in
set_option maxHeartbeats 32000000 in
theorem rcomp13_paired (ao:Option Addr) (len cap:Nat) (a:List (List Int)) (bo:Option Addr) (lenb capb:Nat) (b:List (List Int)) (w:World) (hI:Zs w.heap.size w (.slice ao len cap) a) (hJ:Zs w.heap.size w (.slice bo lenb capb) b) (ha:Six a) (hb:Six b) (loa:∀ z,z ∈ a→Low z) (lob:∀ z,z ∈ b→Low z) (hla:a.length=len) (hlb:b.length=lenb) (hma:len≤100000) (hmb:lenb≤100000):
  Calls Tryz.prog 60 #[.slice ao len cap,.slice bo lenb capb,.bool true] w (Zans (BothX RestR ComT a b) w):=by
 have DB:=Below.refl w.heap.size w
 have c:=rcheck_any ao len cap bo lenb capb a b w hI hJ ha hb loa lob hla hlb (by omega) (by omega)
 have HI:=Lib.hid hI
 have HJ:=Lib.hid hJ
 have H6:=Lib.hid ha
 have H6B:=Lib.hid hb
 have HLA:=Lib.hid loa
 have HLO:=Lib.hid lob
 have HL:=Lib.hid hla
 have HLB:=Lib.hid hlb
 clear hI hJ ha hb loa lob hla hlb
 go_enter Tryz.func60,Tryz.ntmps60
 go_wp2_with fail
 refine Calls.mono c ?_
 rintro e w1 ⟨hB,f,rfl,hR⟩
 replace DB:=later DB hB
 clear c hB
 by_cases h0:f=0
 case neg=>
  have HR:=Lib.hid hR
  have hfb:(f==0)=false:=beq_eq_false_iff_ne.2 h0
  clear hR
  go_wp2_with fail
  exact bodyPost_ret (v:=.tuple #[.slice none 0 0,.int .i64 f]) (by simp [results,Tryz.results60,go_sem]) rfl ⟨DB,_,[],f,rfl,⟨f,HR.out,.inl ⟨h0,rfl,rfl⟩⟩,World.ownsRow_nil _ _ _ _⟩
 subst h0
 obtain ⟨h1,h2,h3,h4⟩:=chk_fine hR
 have h1:len≤4096:=by rw [←HL.out];exact h1
 have h2:lenb≤4096:=by rw [←HLB.out];exact h2
 have HR:=Lib.hid hR
 have HZA:=Lib.hid (H6.out.zo h3)
 have HZB:=Lib.hid (H6B.out.zo h4)
 clear hR h3 h4
 go_wp2_with fail
 go_loopw [10,9] (fun i v wr=>∃ (k:Nat) (cur:List (List Int)),k≤len∧i=.int .i64 k∧Below w.heap.size w wr∧wr.ownsRow w.heap.size 27 6 v cur.length (flatZ cur)∧RowKit.Hid ((∀ x,x ∈ cur→Zo x)∧cur.length≤4096∧∀ r f,Bo RestR ComT b (a.drop k) cur r f→Bo RestR ComT b a [] r f)) (fun i _ _=>len - (intOf i).toNat)
 case atStart=>exact ⟨0,[],Nat.zero_le _,rfl,DB,World.ownsRow_nil _ _ _ _,Lib.hid ⟨fun x hx=>(by cases hx),by decide,fun r f h=>h⟩⟩
 case round=>
  clear DB
  obtain ⟨k,cur,hk,rfl,hB,hO,HN⟩:=hrel
  by_cases hkn:k<len
  ·have hkz:k<a.length:=by rw [HL.out];exact hkn
   have hkn':(k:Int)<len:=by omega
   have hzo:=HZA.out _ (zat_mem hkz)
   obtain ⟨bq,off,z0,z1,z2,z3,z4,z5,rfl,hb,ez⟩:=zs_six (HI.out.below hB) hkz hzo.2.2
   have hlow:=HLA.out _ (zat_mem hkz)
   have hdr:a.drop k=[z0,z1,z2,z3,z4,z5]::a.drop (k+1):=by
    rw [List.drop_eq_getElem_cons hkz,←ez]
    unfold zat
    rw [List.getElem?_eq_getElem hkz]
    rfl
   rw [ez] at hzo hlow
   have hcl:=HN.out.2.1
   have HEZ:=Lib.hid ez
   have HKZ:=Lib.hid hkz
   have HZO:=Lib.hid hzo
   have HLW:=Lib.hid hlow
   have HDR:=Lib.hid hdr
   clear ez hkz hzo hdr hlow
   obtain ⟨cm,hcm⟩:∃ cm,cm=cur.length:=⟨_,rfl⟩
   have HCM:=Lib.hid hcm
   rw [←hcm] at hO hcl
   clear hcm
   go_wp2_with fail
   go_loopw [11,9] (fun i v wq=>∃ (j m:Nat) (put:List (List Int)),j≤lenb∧i=.int .i64 j∧m=put.length∧m≤cm+j∧Below w.heap.size w wq∧wq.ownsRow w.heap.size 27 6 v m (flatZ put)∧RowKit.Hid (∀ r f,Col (ComT [z0,z1,z2,z3,z4,z5]) (b.drop j) put r f→Col (ComT [z0,z1,z2,z3,z4,z5]) b cur r f)) (fun i _ _=>lenb - (intOf i).toNat)
   case atStart=>exact ⟨0,cm,cur,Nat.zero_le _,rfl,HCM.out,Nat.le_refl _,hB,hO,Lib.hid (fun r f h=>h)⟩
   case round=>
    clear hB hO
    obtain ⟨j,m,put,hj,rfl,hmc,hmj,hB,hO,HC⟩:=hrel
    obtain ⟨av,cv,hv⟩:=zs_len (zs_own hO)
    rw [←hmc] at hv
    subst hv
    have HMC:=Lib.hid hmc
    clear hmc
    by_cases hjn:j<lenb
    ·have hjz:j<b.length:=by rw [HLB.out];exact hjn
     have hjn':(j:Int)<lenb:=by omega
     have hyo:=HZB.out _ (zat_mem hjz)
     obtain ⟨br,off',y0,y1,y2,y3,y4,y5,rfl,hb',ey⟩:=zs_six (HJ.out.below hB) hjz hyo.2.2
     have hlow:=HLO.out _ (zat_mem hjz)
     have hbr:bq<wr.heap.size:=Nat.lt_of_lt_of_le hb hB.size
     have hbr':br<wr.heap.size:=Nat.lt_of_lt_of_le hb' hB.size
     have hdr:b.drop j=[y0,y1,y2,y3,y4,y5]::b.drop (j+1):=by
      rw [List.drop_eq_getElem_cons hjz,←ey]
      unfold zat
      rw [List.getElem?_eq_getElem hjz]
      rfl
     rw [ey] at hyo hlow
     have HEY:=Lib.hid ey
     have HJZ:=Lib.hid hjz
     have HYO:=Lib.hid hyo
     have HLY:=Lib.hid hlow
     have HDY:=Lib.hid hdr
     have hBw:=hB
     clear ey hjz hyo hdr hlow hB
     go_wp2_with fail
     refine wp_region_held_drew (S:=Below wr.heap.size wr) (by kernel_rfl) (dbm.drawn1 (Below.refl _ _)) (fun hHeld=>?_)
     generalize wr.drew=wD at hHeld ⊢
     refine tk 0 (v:=?_) rfl hHeld ?_ ?_
     rotate_left
     ·intro w hSw;obtain ⟨c0,c1,c2,c3,c4,c5⟩:=zs_cells (HI.out.below (later hBw hSw)) HKZ.out HEZ.out;obtain ⟨d0,d1,d2,d3,d4,d5⟩:=zs_cells (HJ.out.below (later hBw hSw)) HJZ.out HEY.out;go_simp;try with_reducible rfl
     try simp only [Act.put,sA,sB,sC,sD,sE,sF]
     refine tk 1 (v:=?_) rfl hHeld ?_ ?_
     rotate_left
     ·intro w hSw;obtain ⟨c0,c1,c2,c3,c4,c5⟩:=zs_cells (HI.out.below (later hBw hSw)) HKZ.out HEZ.out;obtain ⟨d0,d1,d2,d3,d4,d5⟩:=zs_cells (HJ.out.below (later hBw hSw)) HJZ.out HEY.out;go_simp;try with_reducible rfl
     try simp only [Act.put,sA,sB,sC,sD,sE,sF]
     refine tk 2 (v:=?_) rfl hHeld ?_ ?_
     rotate_left
     ·intro w hSw;obtain ⟨c0,c1,c2,c3,c4,c5⟩:=zs_cells (HI.out.below (later hBw hSw)) HKZ.out HEZ.out;obtain ⟨d0,d1,d2,d3,d4,d5⟩:=zs_cells (HJ.out.below (later hBw hSw)) HJZ.out HEY.out;go_simp;try with_reducible rfl
     try simp only [Act.put,sA,sB,sC,sD,sE,sF]
     refine tk 3 (v:=?_) rfl hHeld ?_ ?_
     rotate_left
     ·intro w hSw;obtain ⟨c0,c1,c2,c3,c4,c5⟩:=zs_cells (HI.out.below (later hBw hSw)) HKZ.out HEZ.out;obtain ⟨d0,d1,d2,d3,d4,d5⟩:=zs_cells (HJ.out.below (later hBw hSw)) HJZ.out HEY.out;go_simp;try with_reducible rfl
     try simp only [Act.put,sA,sB,sC,sD,sE,sF]
     refine tk 4 (v:=?_) rfl hHeld ?_ ?_
     rotate_left
     ·intro w hSw;obtain ⟨c0,c1,c2,c3,c4,c5⟩:=zs_cells (HI.out.below (later hBw hSw)) HKZ.out HEZ.out;obtain ⟨d0,d1,d2,d3,d4,d5⟩:=zs_cells (HJ.out.below (later hBw hSw)) HJZ.out HEY.out;go_simp;try with_reducible rfl
     try simp only [Act.put,sA,sB,sC,sD,sE,sF]
     refine tk 5 (v:=?_) rfl hHeld ?_ ?_
     rotate_left
     ·intro w hSw;obtain ⟨c0,c1,c2,c3,c4,c5⟩:=zs_cells (HI.out.below (later hBw hSw)) HKZ.out HEZ.out;obtain ⟨d0,d1,d2,d3,d4,d5⟩:=zs_cells (HJ.out.below (later hBw hSw)) HJZ.out HEY.out;go_simp;try with_reducible rfl
     try simp only [Act.put,sA,sB,sC,sD,sE,sF]
     refine tk 6 (v:=?_) rfl hHeld ?_ ?_
     rotate_left
     ·intro w hSw;obtain ⟨c0,c1,c2,c3,c4,c5⟩:=zs_cells (HI.out.below (later hBw hSw)) HKZ.out HEZ.out;obtain ⟨d0,d1,d2,d3,d4,d5⟩:=zs_cells (HJ.out.below (later hBw hSw)) HJZ.out HEY.out;go_simp;try with_reducible rfl
     try simp only [Act.put,sA,sB,sC,sD,sE,sF]
     refine tk 7 (v:=?_) rfl hHeld ?_ ?_
     rotate_left
     ·intro w hSw;obtain ⟨c0,c1,c2,c3,c4,c5⟩:=zs_cells (HI.out.below (later hBw hSw)) HKZ.out HEZ.out;obtain ⟨d0,d1,d2,d3,d4,d5⟩:=zs_cells (HJ.out.below (later hBw hSw)) HJZ.out HEY.out;go_simp;try with_reducible rfl
     try simp only [Act.put,sA,sB,sC,sD,sE,sF]
     refine wpAnyH_ready (rs:=[8,12]) (by kernel_rfl) (by simp) (AllReadyH.cons rfl (fun K hK=>?_) (AllReadyH.cons rfl (fun K hK=>?_) AllReadyH.nil))
     ·go_simp
      refine (rcommon_any z0 z1 z2 z3 z4 z5 y0 y1 y2 y3 y4 y5 _ HZO.out.1 HYO.out.1 HZO.out.2.1 HYO.out.2.1).mono ?_
      rintro e u1 ⟨hB,p0,p1,p2,p3,p4,p5,g,rfl,hT9⟩
      clear hT9
      refine hK.out _ _ (hHeld.trans (hB.mono hHeld.size)) (fun hNew=>?_)
      clear hB
      clear hHeld hK K
      have hHeld:=hNew
      clear hNew
      try simp only [Act.put,sA,sB,sC,sD,sE,sF]
      refine tk 9 (v:=?_) rfl hHeld ?_ ?_
      rotate_left
      ·intro w hSw;skip;go_simp;try with_reducible rfl
      try simp only [Act.put,sA,sB,sC,sD,sE,sF]
      refine tk 10 (v:=?_) rfl hHeld ?_ ?_
      rotate_left
      ·intro w hSw;skip;go_simp;try with_reducible rfl
      try simp only [Act.put,sA,sB,sC,sD,sE,sF]
      refine tk 11 (v:=?_) rfl hHeld ?_ ?_
      rotate_left
      ·intro w hSw;skip;go_simp;try with_reducible rfl
      try simp only [Act.put,sA,sB,sC,sD,sE,sF]
      refine wpAnyH_ready (rs:=[12]) (by kernel_rfl) (by simp) (AllReadyH.cons rfl (fun K hK=>?_) AllReadyH.nil)
      go_simp
      have hT:=hHeld.size
      have L:=lies.made u1 27 #[.int .i64 0,.int .i64 0,.int .i64 0,.int .i64 0,.int .i64 0,.int .i64 0]
      have hAl:=hHeld.trans ((bound.up1 u1 (.cells #[.int .i64 0,.int .i64 0,.int .i64 0,.int .i64 0,.int .i64 0,.int .i64 0] 27)).mono hHeld.size)
      refine hK.out _ _ hAl (fun hNew=>?_)
      clear hAl
      clear hHeld hK K
      have hHeld:=hNew
      clear hNew
      try simp only [Act.put,sA,sB,sC,sD,sE,sF]
      generalize (World.heap u1).size=T at hT L ⊢
      generalize World.alloc u1 (.cells #[.int .i64 0,.int .i64 0,.int .i64 0,.int .i64 0,.int .i64 0,.int .i64 0] 27)=wA at L hHeld ⊢
      obtain ⟨⟨b0,b1,b2,b3,b4,b5⟩,⟨q0,q1,q2,q3,q4,q5⟩,xl⟩:=six_cells L
      refine wpAnyH_ready (rs:=[13]) (by kernel_rfl) (by simp) (AllReadyH.cons rfl (fun K hK=>?_) AllReadyH.nil)
      go_simp
      replace hHeld:=put_six hHeld hT (.int .i64 p0) (.int .i64 p1) (.int .i64 p2) (.int .i64 p3) (.int .i64 p4) (.int .i64 p5)
      replace L:=zref.put_sixL L (.int .i64 p0) (.int .i64 p1) (.int .i64 p2) (.int .i64 p3) (.int .i64 p4) (.int .i64 p5)
      refine hK.out _ _ hHeld (fun hNew=>?_)
      clear hHeld hK K
      have hHeld:=hNew
      clear hNew
      try simp only [Act.put,sA,sB,sC,sD,sE,sF]
      generalize World.setCell (World.setCell (World.setCell (World.setCell (World.setCell (World.setCell (wA) ⟨T,0,none⟩ (.int .i64 p0)) ⟨T,1,none⟩ (.int .i64 p1)) ⟨T,2,none⟩ (.int .i64 p2)) ⟨T,3,none⟩ (.int .i64 p3)) ⟨T,4,none⟩ (.int .i64 p4)) ⟨T,5,none⟩ (.int .i64 p5)=wB at L hHeld ⊢
      refine tk 14 (v:=?_) rfl hHeld ?_ ?_
      rotate_left
      ·intro w hSw;skip;go_simp;try with_reducible rfl
      try simp only [Act.put,sA,sB,sC,sD,sE,sF]
      refine wpAnyH_done (by kernel_rfl) ?_ _
      have hB1:=hHeld
      clear hHeld
      have hTl:=lies.lt L
      have HWT:=Lib.hid (show w.heap.size≤T from Nat.le_trans hBw.size hT)
      have HBV:=Lib.hid (later hBw hB1)
      have HB1:=Lib.hid hB1
      have HT:=Lib.hid hT
      have HLL:=Lib.hid L
      have HTL:=Lib.hid hTl
      clear b0 b1 b2 b3 b4 b5 q0 q1 q2 q3 q4 q5 xl hB1 hT L hTl
      go_wp2_with fail
      have hTl:=HTL.out
      have L:=HLL.out
      have hB1:=HB1.out
      have hT:=HT.out
      have hwT:=HWT.out
      have hBv:=HBV.out
      clear HTL HLL HB1 HT HWT HBV
      refine wp_region_held_drew (S:=Below T wB) (by kernel_rfl) (dbm.drawn1 (Below.refl _ _)) (fun hHeld=>?_)
      replace L:=lies.on_call L (dbm.drawn1 (Below.refl wB.heap.size wB))
      generalize wB.drew=wE at hHeld L ⊢
      refine tk 0 (v:=?_) rfl hHeld ?_ ?_
      rotate_left
      ·intro w hSw;obtain ⟨c0,c1,c2,c3,c4,c5⟩:=zs_cells (HI.out.below (hBv.trans (hSw.mono hwT))) HKZ.out HEZ.out;obtain ⟨d0,d1,d2,d3,d4,d5⟩:=zs_cells (HJ.out.below (hBv.trans (hSw.mono hwT))) HJZ.out HEY.out;go_simp;try with_reducible rfl
      try simp only [Act.put,sA,sB,sC,sD,sE,sF]
      refine tk 1 (v:=?_) rfl hHeld ?_ ?_
      rotate_left
      ·intro w hSw;obtain ⟨c0,c1,c2,c3,c4,c5⟩:=zs_cells (HI.out.below (hBv.trans (hSw.mono hwT))) HKZ.out HEZ.out;obtain ⟨d0,d1,d2,d3,d4,d5⟩:=zs_cells (HJ.out.below (hBv.trans (hSw.mono hwT))) HJZ.out HEY.out;go_simp;try with_reducible rfl
      try simp only [Act.put,sA,sB,sC,sD,sE,sF]
      refine tk 2 (v:=?_) rfl hHeld ?_ ?_
      rotate_left
      ·intro w hSw;obtain ⟨c0,c1,c2,c3,c4,c5⟩:=zs_cells (HI.out.below (hBv.trans (hSw.mono hwT))) HKZ.out HEZ.out;obtain ⟨d0,d1,d2,d3,d4,d5⟩:=zs_cells (HJ.out.below (hBv.trans (hSw.mono hwT))) HJZ.out HEY.out;go_simp;try with_reducible rfl
      try simp only [Act.put,sA,sB,sC,sD,sE,sF]
      refine tk 3 (v:=?_) rfl hHeld ?_ ?_
      rotate_left
      ·intro w hSw;obtain ⟨c0,c1,c2,c3,c4,c5⟩:=zs_cells (HI.out.below (hBv.trans (hSw.mono hwT))) HKZ.out HEZ.out;obtain ⟨d0,d1,d2,d3,d4,d5⟩:=zs_cells (HJ.out.below (hBv.trans (hSw.mono hwT))) HJZ.out HEY.out;go_simp;try with_reducible rfl
      try simp only [Act.put,sA,sB,sC,sD,sE,sF]
      refine tk 4 (v:=?_) rfl hHeld ?_ ?_
      rotate_left
      ·intro w hSw;obtain ⟨c0,c1,c2,c3,c4,c5⟩:=zs_cells (HI.out.below (hBv.trans (hSw.mono hwT))) HKZ.out HEZ.out;obtain ⟨d0,d1,d2,d3,d4,d5⟩:=zs_cells (HJ.out.below (hBv.trans (hSw.mono hwT))) HJZ.out HEY.out;go_simp;try with_reducible rfl
      try simp only [Act.put,sA,sB,sC,sD,sE,sF]
      refine tk 5 (v:=?_) rfl hHeld ?_ ?_
      rotate_left
      ·intro w hSw;obtain ⟨c0,c1,c2,c3,c4,c5⟩:=zs_cells (HI.out.below (hBv.trans (hSw.mono hwT))) HKZ.out HEZ.out;obtain ⟨d0,d1,d2,d3,d4,d5⟩:=zs_cells (HJ.out.below (hBv.trans (hSw.mono hwT))) HJZ.out HEY.out;go_simp;try with_reducible rfl
      try simp only [Act.put,sA,sB,sC,sD,sE,sF]
      refine tk 6 (v:=?_) rfl hHeld ?_ ?_
      rotate_left
      ·intro w hSw;obtain ⟨c0,c1,c2,c3,c4,c5⟩:=zs_cells (HI.out.below (hBv.trans (hSw.mono hwT))) HKZ.out HEZ.out;obtain ⟨d0,d1,d2,d3,d4,d5⟩:=zs_cells (HJ.out.below (hBv.trans (hSw.mono hwT))) HJZ.out HEY.out;go_simp;try with_reducible rfl
      try simp only [Act.put,sA,sB,sC,sD,sE,sF]
      refine tk 7 (v:=?_) rfl hHeld ?_ ?_
      rotate_left
      ·intro w hSw;obtain ⟨c0,c1,c2,c3,c4,c5⟩:=zs_cells (HI.out.below (hBv.trans (hSw.mono hwT))) HKZ.out HEZ.out;obtain ⟨d0,d1,d2,d3,d4,d5⟩:=zs_cells (HJ.out.below (hBv.trans (hSw.mono hwT))) HJZ.out HEY.out;go_simp;try with_reducible rfl
      try simp only [Act.put,sA,sB,sC,sD,sE,sF]
      refine wpAnyH_ready (rs:=[8]) (by kernel_rfl) (by simp) (AllReadyH.cons rfl (fun K hK=>?_) AllReadyH.nil)
      go_simp
      refine (rcomp_any z0 z1 z2 z3 z4 z5 y0 y1 y2 y3 y4 y5 _ HLW.out HLY.out HZO.out.2.1 HYO.out.2.1).mono ?_
      rintro e u2 ⟨hB,o0,o1,o2,o3,o4,o5,f,rfl,hT9⟩
      have HT9:=Lib.hid (show ComT [z0,z1,z2,z3,z4,z5] [y0,y1,y2,y3,y4,y5] [o0,o1,o2,o3,o4,o5] f from hT9)
      clear hT9
      replace L:=lies.on_call L hB
      refine hK.out _ _ (hHeld.trans (hB.mono (by have:=hHeld.size;omega))) (fun hNew=>?_)
      clear hB
      clear hHeld hK K
      have hHeld:=hNew
      clear hNew
      try simp only [Act.put,sA,sB,sC,sD,sE,sF]
      refine tk 9 (v:=?_) rfl hHeld ?_ ?_
      rotate_left
      ·intro w hSw;skip;go_simp;try with_reducible rfl
      try simp only [Act.put,sA,sB,sC,sD,sE,sF]
      refine tk 10 (v:=?_) rfl hHeld ?_ ?_
      rotate_left
      ·intro w hSw;skip;go_simp;try with_reducible rfl
      try simp only [Act.put,sA,sB,sC,sD,sE,sF]
      refine tk 11 (v:=?_) rfl hHeld ?_ ?_
      rotate_left
      ·intro w hSw;skip;go_simp;try with_reducible rfl
      try simp only [Act.put,sA,sB,sC,sD,sE,sF]
      obtain ⟨⟨b0,b1,b2,b3,b4,b5⟩,⟨y0_,y1_,y2_,y3_,y4_,y5_⟩,xl⟩:=six_cells L
      refine wpAnyH_ready (rs:=[12]) (by kernel_rfl) (by simp) (AllReadyH.cons rfl (fun K hK=>?_) AllReadyH.nil)
      go_simp
      replace hHeld:=put_six hHeld (Nat.le_refl T) (.int .i64 o0) (.int .i64 o1) (.int .i64 o2) (.int .i64 o3) (.int .i64 o4) (.int .i64 o5)
      replace L:=zref.put_sixL L (.int .i64 o0) (.int .i64 o1) (.int .i64 o2) (.int .i64 o3) (.int .i64 o4) (.int .i64 o5)
      refine hK.out _ _ hHeld (fun hNew=>?_)
      clear hHeld hK K
      have hHeld:=hNew
      clear hNew
      try simp only [Act.put,sA,sB,sC,sD,sE,sF]
      generalize World.setCell (World.setCell (World.setCell (World.setCell (World.setCell (World.setCell (u2) ⟨T,0,none⟩ (.int .i64 o0)) ⟨T,1,none⟩ (.int .i64 o1)) ⟨T,2,none⟩ (.int .i64 o2)) ⟨T,3,none⟩ (.int .i64 o3)) ⟨T,4,none⟩ (.int .i64 o4)) ⟨T,5,none⟩ (.int .i64 o5)=wC at L hHeld ⊢
      refine tk 13 (v:=?_) rfl hHeld ?_ ?_
      rotate_left
      ·intro w hSw;skip;go_simp;try with_reducible rfl
      try simp only [Act.put,sA,sB,sC,sD,sE,sF]
      refine wpAnyH_done (by kernel_rfl) ?_ _
      have hB2:=hB1.trans (hHeld.mono hT)
      replace hO:=incl.own_call hO hB2
      replace hBw:=later hBw hB2
      clear hHeld hT hB1 hB2 hBv hwT hTl
      by_cases h6:f=6
      ·subst h6
       have HN2:=Lib.hid (show ∀ r f,Col (ComT [z0,z1,z2,z3,z4,z5]) (b.drop (j+1)) put r f→Col (ComT [z0,z1,z2,z3,z4,z5]) b cur r f from fun r f h=>HC.out r f (by rw [HDY.out];exact ⟨_,6,HT9.out,.inl ⟨rfl,h⟩⟩))
       have HO:=Lib.hid hO
       clear hO HC HT9 L
       go_wp2_with fail
       go_roundw
       case rel=>exact ⟨j+1,m,put,by omega,by go_num,HMC.out,by omega,hBw,HO.out,HN2⟩
       case measure=>simp [intOf];omega
      ·by_cases h0:f=0
       ·subst h0
        have HN2:=Lib.hid (show ∀ r f,Col (ComT [z0,z1,z2,z3,z4,z5]) (b.drop (j+1)) (put++[[o0,o1,o2,o3,o4,o5]]) r f→Col (ComT [z0,z1,z2,z3,z4,z5]) b cur r f from fun r f h=>HC.out r f (by rw [HDY.out];exact ⟨_,0,HT9.out,.inr (.inr ⟨rfl,h⟩)⟩))
        have hA:=bound.up1 wC (.cells #[.int .i64 o0,.int .i64 o1,.int .i64 o2,.int .i64 o3,.int .i64 o4,.int .i64 o5] 27)
        have hO1:=incl.own_call hO hA
        obtain ⟨v1,w3,hrun,own,hgrow,-⟩:=app_zones w.heap.size 29 (.slice av m cv) (.slice (some ⟨wC.heap.size,0,none⟩) 1 1) m _ (flatZ put) [[o0,o1,o2,o3,o4,o5]] (wC.alloc (.cells #[.int .i64 o0,.int .i64 o1,.int .i64 o2,.int .i64 o3,.int .i64 o4,.int .i64 o5] 27)) hO1 (zs_box (lies.made wC 27 #[.int .i64 o0,.int .i64 o1,.int .i64 o2,.int .i64 o3,.int .i64 o4,.int .i64 o5])) (by show m+1≤_;omega) (Nat.le_trans hBw.size hA.size)
        have hB1:Below w.heap.size w (wC.alloc (.cells #[.int .i64 o0,.int .i64 o1,.int .i64 o2,.int .i64 o3,.int .i64 o4,.int .i64 o5] 27)):=later hBw hA
        have hB2:=held_grown hB1 hB1.size hO1 (Nat.le_refl _) hgrow
        have HRUN:=Lib.hid hrun
        have HOWN:=Lib.hid (show w3.ownsRow w.heap.size 27 6 v1 (m+1) (flatZ (put++[[o0,o1,o2,o3,o4,o5]])) by rw [flatZ_app];exact own)
        have HM1:=Lib.hid (show m+1=(put++[[o0,o1,o2,o3,o4,o5]]).length by rw [List.length_append,←HMC.out];rfl)
        obtain ⟨⟨b0,b1,b2,b3,b4,b5⟩,-,xl⟩:=six_cells L
        clear hrun own hgrow hO hO1 hB1 hA hBw HC HT9 L h6
        go_wp2_with (at_builtin;refine dref.append_run2 rfl (.tmp 64) (.tmp 66) 29 rfl _ _ _ _ rfl rfl HRUN.out ?_;clear HRUN)
        go_roundw
        case rel=>exact ⟨j+1,m+1,put++[[o0,o1,o2,o3,o4,o5]],by omega,by go_num,HM1.out,by omega,hB2,HOWN.out,HN2⟩
        case measure=>simp [intOf];omega
       ·have HE:=Lib.hid (show Bo RestR ComT b a [] [] f from HN.out.2.2 [] f (by rw [HDR.out];exact ⟨_,f,HC.out [] f (by rw [HDY.out];exact ⟨_,f,HT9.out,.inr (.inl ⟨h6,h0,rfl,rfl⟩)⟩),.inl ⟨h0,rfl,rfl⟩⟩))
        have hfb:(f==0)=false:=beq_eq_false_iff_ne.2 h0
        have hfc:(f==6)=false:=beq_eq_false_iff_ne.2 h6
        have hfd:(f !=0)=true:=by simpa using h0
        have hfe:(f !=6)=true:=by simpa using h6
        clear hO HC HT9 L HN
        go_wp2_with fail
        exact bodyPost_ret (v:=.tuple #[.slice none 0 0,.int .i64 f]) (by simp [results,Tryz.results60,go_sem]) rfl ⟨hBw,_,[],f,rfl,⟨0,HR.out,.inr ⟨rfl,HE.out⟩⟩,World.ownsRow_nil _ _ _ _⟩
     ·go_simp
      have hT:=hHeld.size
      have L:=lies.made wD 27 #[.int .i64 0,.int .i64 0,.int .i64 0,.int .i64 0,.int .i64 0,.int .i64 0]
      have hAl:=hHeld.trans ((bound.up1 wD (.cells #[.int .i64 0,.int .i64 0,.int .i64 0,.int .i64 0,.int .i64 0,.int .i64 0] 27)).mono hHeld.size)
      refine hK.out _ _ hAl (fun hNew=>?_)
      clear hAl
      clear hHeld hK K
      have hHeld:=hNew
      clear hNew
      try simp only [Act.put,sA,sB,sC,sD,sE,sF]
      generalize (World.heap wD).size=T at hT L ⊢
      generalize World.alloc wD (.cells #[.int .i64 0,.int .i64 0,.int .i64 0,.int .i64 0,.int .i64 0,.int .i64 0] 27)=wA at L hHeld ⊢
      refine wpAnyH_ready (rs:=[8]) (by kernel_rfl) (by simp) (AllReadyH.cons rfl (fun K hK=>?_) AllReadyH.nil)
      go_simp
      refine (rcommon_any z0 z1 z2 z3 z4 z5 y0 y1 y2 y3 y4 y5 _ HZO.out.1 HYO.out.1 HZO.out.2.1 HYO.out.2.1).mono ?_
      rintro e u1 ⟨hB,p0,p1,p2,p3,p4,p5,g,rfl,hT9⟩
      clear hT9
      replace L:=lies.on_call L hB
      refine hK.out _ _ (hHeld.trans (hB.mono hHeld.size)) (fun hNew=>?_)
      clear hB
      clear hHeld hK K
      have hHeld:=hNew
      clear hNew
      try simp only [Act.put,sA,sB,sC,sD,sE,sF]
      refine tk 9 (v:=?_) rfl hHeld ?_ ?_
      rotate_left
      ·intro w hSw;skip;go_simp;try with_reducible rfl
      try simp only [Act.put,sA,sB,sC,sD,sE,sF]
      refine tk 10 (v:=?_) rfl hHeld ?_ ?_
      rotate_left
      ·intro w hSw;skip;go_simp;try with_reducible rfl
      try simp only [Act.put,sA,sB,sC,sD,sE,sF]
      refine tk 11 (v:=?_) rfl hHeld ?_ ?_
      rotate_left
      ·intro w hSw;skip;go_simp;try with_reducible rfl
      try simp only [Act.put,sA,sB,sC,sD,sE,sF]
      obtain ⟨⟨b0,b1,b2,b3,b4,b5⟩,⟨q0,q1,q2,q3,q4,q5⟩,xl⟩:=six_cells L
      refine wpAnyH_ready (rs:=[13]) (by kernel_rfl) (by simp) (AllReadyH.cons rfl (fun K hK=>?_) AllReadyH.nil)
      go_simp
      replace hHeld:=put_six hHeld hT (.int .i64 p0) (.int .i64 p1) (.int .i64 p2) (.int .i64 p3) (.int .i64 p4) (.int .i64 p5)
      replace L:=zref.put_sixL L (.int .i64 p0) (.int .i64 p1) (.int .i64 p2) (.int .i64 p3) (.int .i64 p4) (.int .i64 p5)
      refine hK.out _ _ hHeld (fun hNew=>?_)
      clear hHeld hK K
      have hHeld:=hNew
      clear hNew
      try simp only [Act.put,sA,sB,sC,sD,sE,sF]
      generalize World.setCell (World.setCell (World.setCell (World.setCell (World.setCell (World.setCell (u1) ⟨T,0,none⟩ (.int .i64 p0)) ⟨T,1,none⟩ (.int .i64 p1)) ⟨T,2,none⟩ (.int .i64 p2)) ⟨T,3,none⟩ (.int .i64 p3)) ⟨T,4,none⟩ (.int .i64 p4)) ⟨T,5,none⟩ (.int .i64 p5)=wB at L hHeld ⊢
      refine tk 14 (v:=?_) rfl hHeld ?_ ?_
      rotate_left
      ·intro w hSw;skip;go_simp;try with_reducible rfl
      try simp only [Act.put,sA,sB,sC,sD,sE,sF]
      refine wpAnyH_done (by kernel_rfl) ?_ _
      have hB1:=hHeld
      clear hHeld
      have hTl:=lies.lt L
      have HWT:=Lib.hid (show w.heap.size≤T from Nat.le_trans hBw.size hT)
      have HBV:=Lib.hid (later hBw hB1)
      have HB1:=Lib.hid hB1
      have HT:=Lib.hid hT
      have HLL:=Lib.hid L
      have HTL:=Lib.hid hTl
      clear b0 b1 b2 b3 b4 b5 q0 q1 q2 q3 q4 q5 xl hB1 hT L hTl
      go_wp2_with fail
      have hTl:=HTL.out
      have L:=HLL.out
      have hB1:=HB1.out
      have hT:=HT.out
      have hwT:=HWT.out
      have hBv:=HBV.out
      clear HTL HLL HB1 HT HWT HBV
      refine wp_region_held_drew (S:=Below T wB) (by kernel_rfl) (dbm.drawn1 (Below.refl _ _)) (fun hHeld=>?_)
      replace L:=lies.on_call L (dbm.drawn1 (Below.refl wB.heap.size wB))
      generalize wB.drew=wE at hHeld L ⊢
      refine tk 0 (v:=?_) rfl hHeld ?_ ?_
      rotate_left
      ·intro w hSw;obtain ⟨c0,c1,c2,c3,c4,c5⟩:=zs_cells (HI.out.below (hBv.trans (hSw.mono hwT))) HKZ.out HEZ.out;obtain ⟨d0,d1,d2,d3,d4,d5⟩:=zs_cells (HJ.out.below (hBv.trans (hSw.mono hwT))) HJZ.out HEY.out;go_simp;try with_reducible rfl
      try simp only [Act.put,sA,sB,sC,sD,sE,sF]
      refine tk 1 (v:=?_) rfl hHeld ?_ ?_
      rotate_left
      ·intro w hSw;obtain ⟨c0,c1,c2,c3,c4,c5⟩:=zs_cells (HI.out.below (hBv.trans (hSw.mono hwT))) HKZ.out HEZ.out;obtain ⟨d0,d1,d2,d3,d4,d5⟩:=zs_cells (HJ.out.below (hBv.trans (hSw.mono hwT))) HJZ.out HEY.out;go_simp;try with_reducible rfl
      try simp only [Act.put,sA,sB,sC,sD,sE,sF]
      refine tk 2 (v:=?_) rfl hHeld ?_ ?_
      rotate_left
      ·intro w hSw;obtain ⟨c0,c1,c2,c3,c4,c5⟩:=zs_cells (HI.out.below (hBv.trans (hSw.mono hwT))) HKZ.out HEZ.out;obtain ⟨d0,d1,d2,d3,d4,d5⟩:=zs_cells (HJ.out.below (hBv.trans (hSw.mono hwT))) HJZ.out HEY.out;go_simp;try with_reducible rfl
      try simp only [Act.put,sA,sB,sC,sD,sE,sF]
      refine tk 3 (v:=?_) rfl hHeld ?_ ?_
      rotate_left
      ·intro w hSw;obtain ⟨c0,c1,c2,c3,c4,c5⟩:=zs_cells (HI.out.below (hBv.trans (hSw.mono hwT))) HKZ.out HEZ.out;obtain ⟨d0,d1,d2,d3,d4,d5⟩:=zs_cells (HJ.out.below (hBv.trans (hSw.mono hwT))) HJZ.out HEY.out;go_simp;try with_reducible rfl
      try simp only [Act.put,sA,sB,sC,sD,sE,sF]
      refine tk 4 (v:=?_) rfl hHeld ?_ ?_
      rotate_left
      ·intro w hSw;obtain ⟨c0,c1,c2,c3,c4,c5⟩:=zs_cells (HI.out.below (hBv.trans (hSw.mono hwT))) HKZ.out HEZ.out;obtain ⟨d0,d1,d2,d3,d4,d5⟩:=zs_cells (HJ.out.below (hBv.trans (hSw.mono hwT))) HJZ.out HEY.out;go_simp;try with_reducible rfl
      try simp only [Act.put,sA,sB,sC,sD,sE,sF]
      refine tk 5 (v:=?_) rfl hHeld ?_ ?_
      rotate_left
      ·intro w hSw;obtain ⟨c0,c1,c2,c3,c4,c5⟩:=zs_cells (HI.out.below (hBv.trans (hSw.mono hwT))) HKZ.out HEZ.out;obtain ⟨d0,d1,d2,d3,d4,d5⟩:=zs_cells (HJ.out.below (hBv.trans (hSw.mono hwT))) HJZ.out HEY.out;go_simp;try with_reducible rfl
      try simp only [Act.put,sA,sB,sC,sD,sE,sF]
      refine tk 6 (v:=?_) rfl hHeld ?_ ?_
      rotate_left
      ·intro w hSw;obtain ⟨c0,c1,c2,c3,c4,c5⟩:=zs_cells (HI.out.below (hBv.trans (hSw.mono hwT))) HKZ.out HEZ.out;obtain ⟨d0,d1,d2,d3,d4,d5⟩:=zs_cells (HJ.out.below (hBv.trans (hSw.mono hwT))) HJZ.out HEY.out;go_simp;try with_reducible rfl
      try simp only [Act.put,sA,sB,sC,sD,sE,sF]
      refine tk 7 (v:=?_) rfl hHeld ?_ ?_
      rotate_left
      ·intro w hSw;obtain ⟨c0,c1,c2,c3,c4,c5⟩:=zs_cells (HI.out.below (hBv.trans (hSw.mono hwT))) HKZ.out HEZ.out;obtain ⟨d0,d1,d2,d3,d4,d5⟩:=zs_cells (HJ.out.below (hBv.trans (hSw.mono hwT))) HJZ.out HEY.out;go_simp;try with_reducible rfl
      try simp only [Act.put,sA,sB,sC,sD,sE,sF]
      refine wpAnyH_ready (rs:=[8]) (by kernel_rfl) (by simp) (AllReadyH.cons rfl (fun K hK=>?_) AllReadyH.nil)
      go_simp
      refine (rcomp_any z0 z1 z2 z3 z4 z5 y0 y1 y2 y3 y4 y5 _ HLW.out HLY.out HZO.out.2.1 HYO.out.2.1).mono ?_
      rintro e u2 ⟨hB,o0,o1,o2,o3,o4,o5,f,rfl,hT9⟩
      have HT9:=Lib.hid (show ComT [z0,z1,z2,z3,z4,z5] [y0,y1,y2,y3,y4,y5] [o0,o1,o2,o3,o4,o5] f from hT9)
      clear hT9
      replace L:=lies.on_call L hB
      refine hK.out _ _ (hHeld.trans (hB.mono (by have:=hHeld.size;omega))) (fun hNew=>?_)
      clear hB
      clear hHeld hK K
      have hHeld:=hNew
      clear hNew
      try simp only [Act.put,sA,sB,sC,sD,sE,sF]
      refine tk 9 (v:=?_) rfl hHeld ?_ ?_
      rotate_left
      ·intro w hSw;skip;go_simp;try with_reducible rfl
      try simp only [Act.put,sA,sB,sC,sD,sE,sF]
      refine tk 10 (v:=?_) rfl hHeld ?_ ?_
      rotate_left
      ·intro w hSw;skip;go_simp;try with_reducible rfl
      try simp only [Act.put,sA,sB,sC,sD,sE,sF]
      refine tk 11 (v:=?_) rfl hHeld ?_ ?_
      rotate_left
      ·intro w hSw;skip;go_simp;try with_reducible rfl
      try simp only [Act.put,sA,sB,sC,sD,sE,sF]
      obtain ⟨⟨b0,b1,b2,b3,b4,b5⟩,⟨y0_,y1_,y2_,y3_,y4_,y5_⟩,xl⟩:=six_cells L
      refine wpAnyH_ready (rs:=[12]) (by kernel_rfl) (by simp) (AllReadyH.cons rfl (fun K hK=>?_) AllReadyH.nil)
      go_simp
      replace hHeld:=put_six hHeld (Nat.le_refl T) (.int .i64 o0) (.int .i64 o1) (.int .i64 o2) (.int .i64 o3) (.int .i64 o4) (.int .i64 o5)
      replace L:=zref.put_sixL L (.int .i64 o0) (.int .i64 o1) (.int .i64 o2) (.int .i64 o3) (.int .i64 o4) (.int .i64 o5)
      refine hK.out _ _ hHeld (fun hNew=>?_)
      clear hHeld hK K
      have hHeld:=hNew
      clear hNew
      try simp only [Act.put,sA,sB,sC,sD,sE,sF]
      generalize World.setCell (World.setCell (World.setCell (World.setCell (World.setCell (World.setCell (u2) ⟨T,0,none⟩ (.int .i64 o0)) ⟨T,1,none⟩ (.int .i64 o1)) ⟨T,2,none⟩ (.int .i64 o2)) ⟨T,3,none⟩ (.int .i64 o3)) ⟨T,4,none⟩ (.int .i64 o4)) ⟨T,5,none⟩ (.int .i64 o5)=wC at L hHeld ⊢
      refine tk 13 (v:=?_) rfl hHeld ?_ ?_
      rotate_left
      ·intro w hSw;skip;go_simp;try with_reducible rfl
      try simp only [Act.put,sA,sB,sC,sD,sE,sF]
      refine wpAnyH_done (by kernel_rfl) ?_ _
      have hB2:=hB1.trans (hHeld.mono hT)
      replace hO:=incl.own_call hO hB2
      replace hBw:=later hBw hB2
      clear hHeld hT hB1 hB2 hBv hwT hTl
      by_cases h6:f=6
      ·subst h6
       have HN2:=Lib.hid (show ∀ r f,Col (ComT [z0,z1,z2,z3,z4,z5]) (b.drop (j+1)) put r f→Col (ComT [z0,z1,z2,z3,z4,z5]) b cur r f from fun r f h=>HC.out r f (by rw [HDY.out];exact ⟨_,6,HT9.out,.inl ⟨rfl,h⟩⟩))
       have HO:=Lib.hid hO
       clear hO HC HT9 L
       go_wp2_with fail
       go_roundw
       case rel=>exact ⟨j+1,m,put,by omega,by go_num,HMC.out,by omega,hBw,HO.out,HN2⟩
       case measure=>simp [intOf];omega
      ·by_cases h0:f=0
       ·subst h0
        have HN2:=Lib.hid (show ∀ r f,Col (ComT [z0,z1,z2,z3,z4,z5]) (b.drop (j+1)) (put++[[o0,o1,o2,o3,o4,o5]]) r f→Col (ComT [z0,z1,z2,z3,z4,z5]) b cur r f from fun r f h=>HC.out r f (by rw [HDY.out];exact ⟨_,0,HT9.out,.inr (.inr ⟨rfl,h⟩)⟩))
        have hA:=bound.up1 wC (.cells #[.int .i64 o0,.int .i64 o1,.int .i64 o2,.int .i64 o3,.int .i64 o4,.int .i64 o5] 27)
        have hO1:=incl.own_call hO hA
        obtain ⟨v1,w3,hrun,own,hgrow,-⟩:=app_zones w.heap.size 29 (.slice av m cv) (.slice (some ⟨wC.heap.size,0,none⟩) 1 1) m _ (flatZ put) [[o0,o1,o2,o3,o4,o5]] (wC.alloc (.cells #[.int .i64 o0,.int .i64 o1,.int .i64 o2,.int .i64 o3,.int .i64 o4,.int .i64 o5] 27)) hO1 (zs_box (lies.made wC 27 #[.int .i64 o0,.int .i64 o1,.int .i64 o2,.int .i64 o3,.int .i64 o4,.int .i64 o5])) (by show m+1≤_;omega) (Nat.le_trans hBw.size hA.size)
        have hB1:Below w.heap.size w (wC.alloc (.cells #[.int .i64 o0,.int .i64 o1,.int .i64 o2,.int .i64 o3,.int .i64 o4,.int .i64 o5] 27)):=later hBw hA
        have hB2:=held_grown hB1 hB1.size hO1 (Nat.le_refl _) hgrow
        have HRUN:=Lib.hid hrun
        have HOWN:=Lib.hid (show w3.ownsRow w.heap.size 27 6 v1 (m+1) (flatZ (put++[[o0,o1,o2,o3,o4,o5]])) by rw [flatZ_app];exact own)
        have HM1:=Lib.hid (show m+1=(put++[[o0,o1,o2,o3,o4,o5]]).length by rw [List.length_append,←HMC.out];rfl)
        obtain ⟨⟨b0,b1,b2,b3,b4,b5⟩,-,xl⟩:=six_cells L
        clear hrun own hgrow hO hO1 hB1 hA hBw HC HT9 L h6
        go_wp2_with (at_builtin;refine dref.append_run2 rfl (.tmp 64) (.tmp 66) 29 rfl _ _ _ _ rfl rfl HRUN.out ?_;clear HRUN)
        go_roundw
        case rel=>exact ⟨j+1,m+1,put++[[o0,o1,o2,o3,o4,o5]],by omega,by go_num,HM1.out,by omega,hB2,HOWN.out,HN2⟩
        case measure=>simp [intOf];omega
       ·have HE:=Lib.hid (show Bo RestR ComT b a [] [] f from HN.out.2.2 [] f (by rw [HDR.out];exact ⟨_,f,HC.out [] f (by rw [HDY.out];exact ⟨_,f,HT9.out,.inr (.inl ⟨h6,h0,rfl,rfl⟩)⟩),.inl ⟨h0,rfl,rfl⟩⟩))
        have hfb:(f==0)=false:=beq_eq_false_iff_ne.2 h0
        have hfc:(f==6)=false:=beq_eq_false_iff_ne.2 h6
        have hfd:(f !=0)=true:=by simpa using h0
        have hfe:(f !=6)=true:=by simpa using h6
        clear hO HC HT9 L HN
        go_wp2_with fail
        exact bodyPost_ret (v:=.tuple #[.slice none 0 0,.int .i64 f]) (by simp [results,Tryz.results60,go_sem]) rfl ⟨hBw,_,[],f,rfl,⟨0,HR.out,.inr ⟨rfl,HE.out⟩⟩,World.ownsRow_nil _ _ _ _⟩
    ·have hke:b.drop j=[]:=List.drop_eq_nil_of_le (by rw [HLB.out];omega)
     have hjn':¬ (j:Int)<lenb:=by omega
     have HP1:=Lib.hid (show Col (ComT [z0,z1,z2,z3,z4,z5]) b cur put 0 from HC.out put 0 (by rw [hke];exact ⟨rfl,rfl⟩))
     obtain ⟨k1,-⟩:=col_zo b (fun y hy=>comp_zo _ HZO.out y (HZB.out y hy)) HN.out.1 HP1.out
     have HPZ:=Lib.hid k1
     have HS:=Lib.hid (zs_own hO)
     clear hO HC hke k1
     go_wp2_with fail
     refine (rof13_any av m cv put wr HS.out (six_zo HPZ.out) (fun z hz=>zo_low (HPZ.out z hz)) HMC.out.symm (by omega)).mono ?_
     rintro e w6 ⟨hB2,v4,nw,g,rfl,hPr,hO4⟩
     have HO4:=Lib.hid (own_far hO4 hB.size (fun _ _ _ q=>q))
     replace hB:=later hB hB2
     obtain ⟨av4,cv4,rfl⟩:=zs_len (zs_own hO4)
     have HPR:=Lib.hid hPr
     clear hO4 hPr hB2
     obtain ⟨m4,hm4⟩:∃ m4,m4=nw.length:=⟨_,rfl⟩
     have HM4:=Lib.hid hm4
     rw [←hm4] at HO4 ⊢
     clear hm4
     by_cases hg:g=0
     ·subst hg
      have HN2:=Lib.hid (show (∀ x,x ∈ nw→Zo x)∧nw.length≤4096∧∀ r f,Bo RestR ComT b (a.drop (k+1)) nw r f→Bo RestR ComT b a [] r f by
       obtain ⟨q,hq,q2⟩:=HPR.out
       rcases q2 with ⟨q2,_,q3⟩ | ⟨q2,q3⟩
       ·exact (q2 q3.symm).elim
       ·subst q2
        have su:=want_sub _ q3
        have l1:=su.length_le
        have l2:=srt_len put
        have l3:=(chk_fine hq).1
        exact ⟨fun x hx=>HPZ.out x ((srt_mem put x).1 (su.subset hx)),by omega,fun r f h=>HN.out.2.2 r f (by rw [HDR.out];exact ⟨put,0,HP1.out,.inr ⟨rfl,nw,0,HPR.out,.inr ⟨rfl,h⟩⟩⟩)⟩)
      clear HN
      go_wp2_with fail
      go_roundw
      case rel=>exact ⟨k+1,nw,by omega,by go_num,hB,by rw [←HM4.out];exact HO4.out,HN2⟩
      case measure=>simp [intOf];omega
     ·have HE:=Lib.hid (show Bo RestR ComT b a [] [] g from HN.out.2.2 [] g (by rw [HDR.out];exact ⟨put,0,HP1.out,.inr ⟨rfl,nw,g,HPR.out,.inl ⟨hg,rfl,rfl⟩⟩⟩))
      have hfb:(g==0)=false:=beq_eq_false_iff_ne.2 hg
      clear HN
      go_wp2_with fail
      exact bodyPost_ret (v:=.tuple #[.slice none 0 0,.int .i64 g]) (by simp [results,Tryz.results60,go_sem]) rfl ⟨hB,_,[],g,rfl,⟨0,HR.out,.inr ⟨rfl,HE.out⟩⟩,World.ownsRow_nil _ _ _ _⟩
  ·have hke:a.drop k=[]:=List.drop_eq_nil_of_le (by rw [HL.out];omega)
   have hkn':¬ (k:Int)<len:=by omega
   have HE:=Lib.hid (show Bo RestR ComT b a [] cur 0 from HN.out.2.2 cur 0 (by rw [hke];exact ⟨rfl,rfl⟩))
   obtain ⟨av,cv,rfl⟩:=zs_len (zs_own hO)
   have HO:=Lib.hid hO
   clear hO hke HN
   generalize hm:cur.length=m at HO ⊢
   have HM:=Lib.hid hm
   clear hm
   go_wp2_with fail
   refine bodyPost_ret (v:=.tuple #[.slice av m cv,.int .i64 0]) (by simp [results,Tryz.results60,go_sem]) rfl ⟨hB,_,cur,0,rfl,⟨0,HR.out,.inr ⟨rfl,HE.out⟩⟩,?_⟩
   rw [HM.out]
   exact HO.out
set_option maxRecDepth 100000 in
set_option maxHeartbeats 8000000 in
theorem rcomp13_any (ao:Option Addr) (len cap:Nat) (a:List (List Int)) (bo:Option Addr) (lenb capb:Nat) (b:List (List Int)) (w:World) (hI:Zs w.heap.size w (.slice ao len cap) a) (hJ:Zs w.heap.size w (.slice bo lenb capb) b) (ha:Six a) (hb:Six b) (loa:∀ z,z ∈ a→Low z) (lob:∀ z,z ∈ b→Low z) (hla:a.length=len) (hlb:b.length=lenb) (hma:len≤100000) (hmb:lenb≤100000):Calls Tryz.prog 24 #[.slice ao len cap,.slice bo lenb capb] w (Zans (BothX RestR ComT a b) w):=by
 have c:=rcomp13_paired ao len cap a bo lenb capb b w hI hJ ha hb loa lob hla hlb hma hmb
 clear hI hJ ha hb loa lob hla hlb
 go_enter Tryz.func24,Tryz.ntmps24
 go_wp2_with fail
 refine Calls.mono c ?_
 rintro e w1 ⟨hB,v,r,f,rfl,hR,hO⟩
 obtain ⟨av,cv,rfl⟩:=zs_len (zs_own hO)
 have HR:=Lib.hid hR
 have HO:=Lib.hid hO
 clear hR hO c
 generalize hn:r.length=n at HO ⊢
 have HN:=Lib.hid hn
 clear hn
 go_wp2_with fail
 refine bodyPost_ret (v:=.tuple #[.slice av n cv,.int .i64 f]) (by simp [results,Tryz.results24,go_sem]) rfl ⟨hB,_,r,f,rfl,HR.out,?_⟩
 rw [HN.out]
 exact HO.out
end Go.Proofs.YthmljpccbjolgaaGreatDoor.sref
