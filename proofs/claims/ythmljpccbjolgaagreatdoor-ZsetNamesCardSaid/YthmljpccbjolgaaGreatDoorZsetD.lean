
/-
  What the calls of zset answer; each theorem names its conditions.
-/
import Derived.Test.YthmljpccbjolgaaGreatDoorZsetC
import Derived.Test.YthmljpccbjolgaaGreatDoorCoverV
import Derived.Test.YthmljpccbjolgaaGreatDoorCompA
namespace Go.Proofs.YthmljpccbjolgaaGreatDoor.zset
open Go.Joins Go.ChangeShapes Go.WideShapes Go.ChangeAt Go.RowKit num rat dbm Go.Proofs.YthmljpccbjolgaaGreatDoor.tight Go.Proofs.YthmljpccbjolgaaGreatDoor.incl Go.Proofs.YthmljpccbjolgaaGreatDoor.plaw Go.Proofs.YthmljpccbjolgaaGreatDoor.zopen Go.Proofs.YthmljpccbjolgaaGreatDoor.zone Go.Proofs.YthmljpccbjolgaaGreatDoor.comp Go.Proofs.YthmljpccbjolgaaGreatDoor.win Go.Proofs.YthmljpccbjolgaaGreatDoor.minus Go.Proofs.YthmljpccbjolgaaGreatDoor.mz Go.Proofs.YthmljpccbjolgaaGreatDoor.mlaw Go.Proofs.YthmljpccbjolgaaGreatDoor.cover
open bound hiding up
set_option linter.unusedVariables false
set_option linter.unusedSimpArgs false
set_option linter.unusedSectionVars false
set_option maxRecDepth 100000 in
set_option maxHeartbeats 8000000 in
theorem equal_any (ao bo:Option Addr) (len cap lenb capb:Nat) (a b:List (List Int)) (w:World) (hI:Zs w.heap.size w (.slice ao len cap) a) (hJ:Zs w.heap.size w (.slice bo lenb capb) b) (hl:a.length=len) (hlb:b.length=lenb) (hm:len≤1000000) (hmb:lenb≤1000000) (h6:∀ z,z ∈ a→z.length=6) (h6b:∀ z,z ∈ b→z.length=6):
  Calls Tryz.prog 55 #[.slice ao len cap,.slice bo lenb capb] w (Tell (a=b) w):=by
 by_cases hlen:len=lenb
 case neg=>
  have hlen':¬ (len:Int)=lenb:=by omega
  have hne:=Lib.hid (show ¬ a=b from fun e=>hlen (by rw [←hl,←hlb,e]))
  clear hI hJ hl hlb h6 h6b hlen
  go_enter Tryz.func55,Tryz.ntmps55
  go_wp2_with fail
  exact bodyPost_ret (v:=.bool false) (by simp [results,Tryz.results55,go_sem]) rfl ⟨Below.refl _ _,false,rfl,⟨fun h=>(by cases h),fun h=>(hne.out h).elim⟩⟩
 subst hlen
 have DB:=Below.refl w.heap.size w
 have HI:=Lib.hid hI
 have HJ:=Lib.hid hJ
 have HL:=Lib.hid hl
 have HLB:=Lib.hid hlb
 have H6:=Lib.hid h6
 have H6B:=Lib.hid h6b
 clear hI hJ hl hlb h6 h6b
 go_enter Tryz.func55,Tryz.ntmps55
 go_wp2_with fail
 go_loopw [13] (fun i wr=>∃ k:Nat,k≤len∧i=.int .i64 k∧Below w.heap.size w wr∧RowKit.Hid (∀ j,j<k→zat a j=zat b j)) (fun i _=>len - (intOf i).toNat)
 case atStart=>exact ⟨0,Nat.zero_le _,rfl,DB,Lib.hid (fun j hj=>absurd hj (Nat.not_lt_zero j))⟩
 case round=>
  clear DB
  obtain ⟨k,hk,rfl,DB,HS⟩:=hrel
  by_cases hkn:k<len
  ·have hkz:k<a.length:=by rw [HL.out];exact hkn
   have hky:k<b.length:=by rw [HLB.out];exact hkn
   obtain ⟨bq,off,z0,z1,z2,z3,z4,z5,rfl,hb,ez⟩:=zs_six (HI.out.below DB) hkz (H6.out _ (zat_mem hkz))
   obtain ⟨br,off',y0,y1,y2,y3,y4,y5,rfl,hb',ey⟩:=zs_six (HJ.out.below DB) hky (H6B.out _ (zat_mem hky))
   have hbr:bq<wr.heap.size:=Nat.lt_of_lt_of_le hb DB.size
   have hbr':br<wr.heap.size:=Nat.lt_of_lt_of_le hb' DB.size
   have HEZ:=Lib.hid ez
   have HEY:=Lib.hid ey
   have HKZ:=Lib.hid hkz
   have HKY:=Lib.hid hky
   have hkn':(k:Int)<len:=by omega
   clear ez ey hkz hky hb hb'
   by_cases he:[z0,z1,z2,z3,z4,z5]=[y0,y1,y2,y3,y4,y5]
   ·have hq1:∀ W,(Op.equalIn 10000 27 (.agg #[.int .i64 z0,.int .i64 z1,.int .i64 z2,.int .i64 z3,.int .i64 z4,.int .i64 z5]) (.agg #[.int .i64 y0,.int .i64 y1,.int .i64 y2,.int .i64 y3,.int .i64 y4,.int .i64 y5])).run Tryz.prog W=.ok true W:=fun W=>by rw [eq_zone];simp only [he,decide_true]
    have HE:=Lib.hid he
    clear he
    go_wp2_with fail
    refine wp_region_held_drew (S:=Below wr.heap.size wr) (by kernel_rfl) (dbm.drawn1 (Below.refl _ _)) (fun hHeld=>?_)
    refine tk 0 (v:=?_) rfl hHeld ?_ ?_
    rotate_left
    ·intro w hSw;obtain ⟨c0,c1,c2,c3,c4,c5⟩:=zs_cells (HI.out.below (later DB hSw)) HKZ.out HEZ.out;obtain ⟨d0,d1,d2,d3,d4,d5⟩:=zs_cells (HJ.out.below (later DB hSw)) HKY.out HEY.out;go_simp;try with_reducible rfl
    try simp only [Act.put,sA,sB,sC,sD,sE,sF]
    refine tk 1 (v:=?_) rfl hHeld ?_ ?_
    rotate_left
    ·intro w hSw;obtain ⟨c0,c1,c2,c3,c4,c5⟩:=zs_cells (HI.out.below (later DB hSw)) HKZ.out HEZ.out;obtain ⟨d0,d1,d2,d3,d4,d5⟩:=zs_cells (HJ.out.below (later DB hSw)) HKY.out HEY.out;go_simp;try with_reducible rfl
    try simp only [Act.put,sA,sB,sC,sD,sE,sF]
    refine tk 2 (v:=?_) rfl hHeld ?_ ?_
    rotate_left
    ·intro w hSw;obtain ⟨c0,c1,c2,c3,c4,c5⟩:=zs_cells (HI.out.below (later DB hSw)) HKZ.out HEZ.out;obtain ⟨d0,d1,d2,d3,d4,d5⟩:=zs_cells (HJ.out.below (later DB hSw)) HKY.out HEY.out;go_simp;try with_reducible rfl
    try simp only [Act.put,sA,sB,sC,sD,sE,sF]
    refine tk 3 (v:=?_) rfl hHeld ?_ ?_
    rotate_left
    ·intro w hSw;obtain ⟨c0,c1,c2,c3,c4,c5⟩:=zs_cells (HI.out.below (later DB hSw)) HKZ.out HEZ.out;obtain ⟨d0,d1,d2,d3,d4,d5⟩:=zs_cells (HJ.out.below (later DB hSw)) HKY.out HEY.out;go_simp;try with_reducible rfl
    try simp only [Act.put,sA,sB,sC,sD,sE,sF]
    refine tk 4 (v:=?_) rfl hHeld ?_ ?_
    rotate_left
    ·intro w hSw;obtain ⟨c0,c1,c2,c3,c4,c5⟩:=zs_cells (HI.out.below (later DB hSw)) HKZ.out HEZ.out;obtain ⟨d0,d1,d2,d3,d4,d5⟩:=zs_cells (HJ.out.below (later DB hSw)) HKY.out HEY.out;go_simp;try with_reducible rfl
    try simp only [Act.put,sA,sB,sC,sD,sE,sF]
    refine tk 5 (v:=?_) rfl hHeld ?_ ?_
    rotate_left
    ·intro w hSw;obtain ⟨c0,c1,c2,c3,c4,c5⟩:=zs_cells (HI.out.below (later DB hSw)) HKZ.out HEZ.out;obtain ⟨d0,d1,d2,d3,d4,d5⟩:=zs_cells (HJ.out.below (later DB hSw)) HKY.out HEY.out;go_simp;try with_reducible rfl
    try simp only [Act.put,sA,sB,sC,sD,sE,sF]
    refine tk 6 (v:=?_) rfl hHeld ?_ ?_
    rotate_left
    ·intro w hSw;obtain ⟨c0,c1,c2,c3,c4,c5⟩:=zs_cells (HI.out.below (later DB hSw)) HKZ.out HEZ.out;obtain ⟨d0,d1,d2,d3,d4,d5⟩:=zs_cells (HJ.out.below (later DB hSw)) HKY.out HEY.out;go_simp;try with_reducible rfl
    try simp only [Act.put,sA,sB,sC,sD,sE,sF]
    refine tk 7 (v:=?_) rfl hHeld ?_ ?_
    rotate_left
    ·intro w hSw;obtain ⟨c0,c1,c2,c3,c4,c5⟩:=zs_cells (HI.out.below (later DB hSw)) HKZ.out HEZ.out;obtain ⟨d0,d1,d2,d3,d4,d5⟩:=zs_cells (HJ.out.below (later DB hSw)) HKY.out HEY.out;go_simp;try with_reducible rfl
    try simp only [Act.put,sA,sB,sC,sD,sE,sF]
    refine tk 8 (v:=?_) rfl hHeld ?_ ?_
    rotate_left
    ·intro w hSw;obtain ⟨c0,c1,c2,c3,c4,c5⟩:=zs_cells (HI.out.below (later DB hSw)) HKZ.out HEZ.out;obtain ⟨d0,d1,d2,d3,d4,d5⟩:=zs_cells (HJ.out.below (later DB hSw)) HKY.out HEY.out;go_simp;try with_reducible rfl
    try simp only [Act.put,sA,sB,sC,sD,sE,sF]
    refine wpAnyH_done (by kernel_rfl) ?_ _
    replace DB:=later DB hHeld
    clear hHeld hq1
    go_wp2_with fail
    go_roundw
    case rel=>exact ⟨k+1,by omega,by go_num,DB,Lib.hid (fun j hj=>by
     by_cases e:j=k
     ·rw [e,HEZ.out,HEY.out];exact HE.out
     ·exact HS.out j (by omega))⟩
    case measure=>simp [intOf];omega
   ·have hq1:∀ W,(Op.equalIn 10000 27 (.agg #[.int .i64 z0,.int .i64 z1,.int .i64 z2,.int .i64 z3,.int .i64 z4,.int .i64 z5]) (.agg #[.int .i64 y0,.int .i64 y1,.int .i64 y2,.int .i64 y3,.int .i64 y4,.int .i64 y5])).run Tryz.prog W=.ok false W:=fun W=>by rw [eq_zone,decide_eq_false he]
    have HE:=Lib.hid he
    clear he
    go_wp2_with fail
    refine wp_region_held_drew (S:=Below wr.heap.size wr) (by kernel_rfl) (dbm.drawn1 (Below.refl _ _)) (fun hHeld=>?_)
    refine tk 0 (v:=?_) rfl hHeld ?_ ?_
    rotate_left
    ·intro w hSw;obtain ⟨c0,c1,c2,c3,c4,c5⟩:=zs_cells (HI.out.below (later DB hSw)) HKZ.out HEZ.out;obtain ⟨d0,d1,d2,d3,d4,d5⟩:=zs_cells (HJ.out.below (later DB hSw)) HKY.out HEY.out;go_simp;try with_reducible rfl
    try simp only [Act.put,sA,sB,sC,sD,sE,sF]
    refine tk 1 (v:=?_) rfl hHeld ?_ ?_
    rotate_left
    ·intro w hSw;obtain ⟨c0,c1,c2,c3,c4,c5⟩:=zs_cells (HI.out.below (later DB hSw)) HKZ.out HEZ.out;obtain ⟨d0,d1,d2,d3,d4,d5⟩:=zs_cells (HJ.out.below (later DB hSw)) HKY.out HEY.out;go_simp;try with_reducible rfl
    try simp only [Act.put,sA,sB,sC,sD,sE,sF]
    refine tk 2 (v:=?_) rfl hHeld ?_ ?_
    rotate_left
    ·intro w hSw;obtain ⟨c0,c1,c2,c3,c4,c5⟩:=zs_cells (HI.out.below (later DB hSw)) HKZ.out HEZ.out;obtain ⟨d0,d1,d2,d3,d4,d5⟩:=zs_cells (HJ.out.below (later DB hSw)) HKY.out HEY.out;go_simp;try with_reducible rfl
    try simp only [Act.put,sA,sB,sC,sD,sE,sF]
    refine tk 3 (v:=?_) rfl hHeld ?_ ?_
    rotate_left
    ·intro w hSw;obtain ⟨c0,c1,c2,c3,c4,c5⟩:=zs_cells (HI.out.below (later DB hSw)) HKZ.out HEZ.out;obtain ⟨d0,d1,d2,d3,d4,d5⟩:=zs_cells (HJ.out.below (later DB hSw)) HKY.out HEY.out;go_simp;try with_reducible rfl
    try simp only [Act.put,sA,sB,sC,sD,sE,sF]
    refine tk 4 (v:=?_) rfl hHeld ?_ ?_
    rotate_left
    ·intro w hSw;obtain ⟨c0,c1,c2,c3,c4,c5⟩:=zs_cells (HI.out.below (later DB hSw)) HKZ.out HEZ.out;obtain ⟨d0,d1,d2,d3,d4,d5⟩:=zs_cells (HJ.out.below (later DB hSw)) HKY.out HEY.out;go_simp;try with_reducible rfl
    try simp only [Act.put,sA,sB,sC,sD,sE,sF]
    refine tk 5 (v:=?_) rfl hHeld ?_ ?_
    rotate_left
    ·intro w hSw;obtain ⟨c0,c1,c2,c3,c4,c5⟩:=zs_cells (HI.out.below (later DB hSw)) HKZ.out HEZ.out;obtain ⟨d0,d1,d2,d3,d4,d5⟩:=zs_cells (HJ.out.below (later DB hSw)) HKY.out HEY.out;go_simp;try with_reducible rfl
    try simp only [Act.put,sA,sB,sC,sD,sE,sF]
    refine tk 6 (v:=?_) rfl hHeld ?_ ?_
    rotate_left
    ·intro w hSw;obtain ⟨c0,c1,c2,c3,c4,c5⟩:=zs_cells (HI.out.below (later DB hSw)) HKZ.out HEZ.out;obtain ⟨d0,d1,d2,d3,d4,d5⟩:=zs_cells (HJ.out.below (later DB hSw)) HKY.out HEY.out;go_simp;try with_reducible rfl
    try simp only [Act.put,sA,sB,sC,sD,sE,sF]
    refine tk 7 (v:=?_) rfl hHeld ?_ ?_
    rotate_left
    ·intro w hSw;obtain ⟨c0,c1,c2,c3,c4,c5⟩:=zs_cells (HI.out.below (later DB hSw)) HKZ.out HEZ.out;obtain ⟨d0,d1,d2,d3,d4,d5⟩:=zs_cells (HJ.out.below (later DB hSw)) HKY.out HEY.out;go_simp;try with_reducible rfl
    try simp only [Act.put,sA,sB,sC,sD,sE,sF]
    refine tk 8 (v:=?_) rfl hHeld ?_ ?_
    rotate_left
    ·intro w hSw;obtain ⟨c0,c1,c2,c3,c4,c5⟩:=zs_cells (HI.out.below (later DB hSw)) HKZ.out HEZ.out;obtain ⟨d0,d1,d2,d3,d4,d5⟩:=zs_cells (HJ.out.below (later DB hSw)) HKY.out HEY.out;go_simp;try with_reducible rfl
    try simp only [Act.put,sA,sB,sC,sD,sE,sF]
    refine wpAnyH_done (by kernel_rfl) ?_ _
    replace DB:=later DB hHeld
    clear hHeld hq1
    go_wp2_with fail
    exact bodyPost_ret (v:=.bool false) (by simp [results,Tryz.results55,go_sem]) rfl ⟨DB,false,rfl,⟨fun h=>(by cases h),fun h=>(HE.out (by rw [←HEZ.out,←HEY.out,h])).elim⟩⟩
  ·obtain rfl:len=k:=by omega
   have hkn':¬ (len:Int)<len:=by omega
   have hab:=Lib.hid (show a=b from List.ext_getElem (by rw [HL.out,HLB.out]) fun i h1 h2=>by
    have:=HS.out i (by rw [←HL.out];exact h1)
    unfold zat at this
    rw [List.getElem?_eq_getElem h1,List.getElem?_eq_getElem h2] at this
    exact this)
   go_wp2_with fail
   exact bodyPost_ret (v:=.bool true) (by simp [results,Tryz.results55,go_sem]) rfl ⟨DB,true,rfl,⟨fun _=>hab.out,fun _=>rfl⟩⟩
set_option maxRecDepth 100000 in
set_option maxHeartbeats 16000000 in
theorem collect_w (U:To) (e0:Value) (ao:Option Addr) (len cap:Nat) (l:List (List Int)) (w:World) (hI:Zs w.heap.size w (.slice ao len cap) l) (h6:∀ z,z ∈ l→z.length=6) (hl:l.length=len) (hm:len≤900000)
  (hf:∀ z0 z1 z2 z3 z4 z5 W,[z0,z1,z2,z3,z4,z5] ∈ l→Below w.heap.size w W→Calls Tryz.prog 63 #[.agg #[.int .i64 z0,.int .i64 z1,.int .i64 z2,.int .i64 z3,.int .i64 z4,.int .i64 z5],e0] W (win.Zs (U [z0,z1,z2,z3,z4,z5]) W)):
  Calls Tryz.prog 90 #[.slice ao len cap,.func (.func 63) #[] #[e0]] w (Zans (Col U l []) w):=by
 have HI:=Lib.hid hI
 have H6:=Lib.hid h6
 have HL:=Lib.hid hl
 have HF:=Lib.hid hf
 clear hI h6 hl hf
 go_enter Tryz.func90,Tryz.ntmps90
 go_wp2_with fail
 go_loopw [13,6] (fun i v wr=>∃ (k m:Nat) (cur:List (List Int)),k≤len∧i=.int .i64 k∧m=cur.length∧m≤k∧Below w.heap.size w wr∧wr.ownsRow w.heap.size 27 6 v m (flatZ cur)∧RowKit.Hid (∀ r f,Col U (l.drop k) cur r f→Col U l [] r f)) (fun i _ _=>len - (intOf i).toNat)
 case atStart=>exact ⟨0,0,[],Nat.zero_le _,rfl,rfl,Nat.le_refl _,Below.refl _ _,World.ownsRow_nil _ _ _ _,Lib.hid (fun r f h=>h)⟩
 case round=>
  obtain ⟨k,m,cur,hk,rfl,hmc,hmk,hB,hO,HC⟩:=hrel
  obtain ⟨av,cv,hv⟩:=zs_len (zs_own hO)
  rw [←hmc] at hv
  subst hv
  have HMC:=Lib.hid hmc
  clear hmc
  by_cases hkn:k<len
  ·have hkz:k<l.length:=by rw [HL.out];exact hkn
   have hkn':(k:Int)<len:=by omega
   obtain ⟨bq,off,rfl,-,hb,c0,c1,c2,c3,c4,c5⟩:=zs_at (HI.out.below hB) hkz
   have hbr:bq<wr.heap.size:=Nat.lt_of_lt_of_le hb hB.size
   have hz6:=H6.out _ (zat_mem hkz)
   have hmem:=zat_mem hkz
   have hdr:l.drop k=zat l k::l.drop (k+1):=by
    rw [List.drop_eq_getElem_cons hkz]
    unfold zat
    rw [List.getElem?_eq_getElem hkz]
    rfl
   generalize zat l k=zk at c0 c1 c2 c3 c4 c5 hz6 hmem hdr
   obtain ⟨z0,z1,z2,z3,z4,z5,rfl⟩:=six hz6
   have c0:wr.cell? ⟨bq,off+k*6,none⟩=some (.int .i64 z0):=c0
   have c1:wr.cell? ⟨bq,off+k*6+1,none⟩=some (.int .i64 z1):=c1
   have c2:wr.cell? ⟨bq,off+k*6+2,none⟩=some (.int .i64 z2):=c2
   have c3:wr.cell? ⟨bq,off+k*6+3,none⟩=some (.int .i64 z3):=c3
   have c4:wr.cell? ⟨bq,off+k*6+4,none⟩=some (.int .i64 z4):=c4
   have c5:wr.cell? ⟨bq,off+k*6+5,none⟩=some (.int .i64 z5):=c5
   have HMEM:=Lib.hid hmem
   have HDR:=Lib.hid hdr
   clear hmem hdr hz6
   go_wp2_with fail
   clear c0 c1 c2 c3 c4 c5 hbr
   have hA:=bound.up1 wr (.cells #[.int .i64 z0,.int .i64 z1,.int .i64 z2,.int .i64 z3,.int .i64 z4,.int .i64 z5] 27)
   replace hO:=incl.own_call hO hA
   replace hB:=later hB hA
   clear hA
   generalize wr.heap.size=ZB
   generalize wr.alloc (.cells #[.int .i64 z0,.int .i64 z1,.int .i64 z2,.int .i64 z3,.int .i64 z4,.int .i64 z5] 27)=w1 at hO hB ⊢
   refine (HF.out z0 z1 z2 z3 z4 z5 w1 HMEM.out hB).mono ?_
   rintro e w2 ⟨hB2,o0,o1,o2,o3,o4,o5,f,rfl,hT⟩
   replace hO:=incl.own_call hO hB2
   replace hB:=later hB hB2
   have HT:=Lib.hid hT
   clear hB2 hT
   by_cases h6:f=6
   ·subst h6
    have HN:=Lib.hid (show ∀ r f,Col U (l.drop (k+1)) cur r f→Col U l [] r f from fun r f h=>HC.out r f (by rw [HDR.out];exact ⟨_,6,HT.out,.inl ⟨rfl,h⟩⟩))
    have hA:=bound.up1 w2 (.cells #[.int .i64 o0,.int .i64 o1,.int .i64 o2,.int .i64 o3,.int .i64 o4,.int .i64 o5] 27)
    have HO:=Lib.hid (incl.own_call hO hA)
    replace hB:=later hB hA
    clear hA hO HC HT
    go_wp2_with fail
    go_roundw
    case rel=>exact ⟨k+1,m,cur,by omega,by go_num,HMC.out,by omega,hB,HO.out,HN⟩
    case measure=>simp [intOf];omega
   ·by_cases h0:f=0
    ·subst h0
     have HN:=Lib.hid (show ∀ r f,Col U (l.drop (k+1)) (cur++[[o0,o1,o2,o3,o4,o5]]) r f→Col U l [] r f from fun r f h=>HC.out r f (by rw [HDR.out];exact ⟨_,0,HT.out,.inr (.inr ⟨rfl,h⟩)⟩))
     have hA:=lies.frame_up (bound.up1 w2 (.cells #[.int .i64 o0,.int .i64 o1,.int .i64 o2,.int .i64 o3,.int .i64 o4,.int .i64 o5] 27)) (.cells #[.int .i64 o0,.int .i64 o1,.int .i64 o2,.int .i64 o3,.int .i64 o4,.int .i64 o5] 27)
     have hO1:=incl.own_call hO hA
     have hbx:=zs_box (lies.made_at (w2.alloc (.cells #[.int .i64 o0,.int .i64 o1,.int .i64 o2,.int .i64 o3,.int .i64 o4,.int .i64 o5] 27)) 27 #[.int .i64 o0,.int .i64 o1,.int .i64 o2,.int .i64 o3,.int .i64 o4,.int .i64 o5] (w2.heap.size+1) (by simp))
     obtain ⟨v1,w3,hrun,own,hgrow,-⟩:=app_zones w.heap.size 29 (.slice av m cv) (.slice (some ⟨w2.heap.size+1,0,none⟩) 1 1) m _ (flatZ cur) [[o0,o1,o2,o3,o4,o5]] ((w2.alloc (.cells #[.int .i64 o0,.int .i64 o1,.int .i64 o2,.int .i64 o3,.int .i64 o4,.int .i64 o5] 27)).alloc (.cells #[.int .i64 o0,.int .i64 o1,.int .i64 o2,.int .i64 o3,.int .i64 o4,.int .i64 o5] 27)) hO1 hbx (by show m+1≤_;omega) (Nat.le_trans hB.size hA.size)
     have hB1:Below w.heap.size w ((w2.alloc (.cells #[.int .i64 o0,.int .i64 o1,.int .i64 o2,.int .i64 o3,.int .i64 o4,.int .i64 o5] 27)).alloc (.cells #[.int .i64 o0,.int .i64 o1,.int .i64 o2,.int .i64 o3,.int .i64 o4,.int .i64 o5] 27)):=later hB hA
     have hB2:=held_grown hB1 hB1.size hO1 (Nat.le_refl _) hgrow
     have HRUN:=Lib.hid hrun
     have HOWN:=Lib.hid (show w3.ownsRow w.heap.size 27 6 v1 (m+1) (flatZ (cur++[[o0,o1,o2,o3,o4,o5]])) by rw [flatZ_app];exact own)
     have HM1:=Lib.hid (show m+1=(cur++[[o0,o1,o2,o3,o4,o5]]).length by rw [List.length_append,←HMC.out];rfl)
     clear hrun own hgrow hO hO1 hB1 hA hB HC HT h6 hbx
     go_wp2_with (at_builtin;refine dref.append_run2 rfl (.tmp 28) (.tmp 30) 29 rfl _ _ _ _ rfl rfl HRUN.out ?_;clear HRUN)
     go_roundw
     case rel=>exact ⟨k+1,m+1,cur++[[o0,o1,o2,o3,o4,o5]],by omega,by go_num,HM1.out,by omega,hB2,HOWN.out,HN⟩
     case measure=>simp [intOf];omega
    ·have HN:=Lib.hid (show Col U l [] [] f from HC.out [] f (by rw [HDR.out];exact ⟨_,f,HT.out,.inr (.inl ⟨h6,h0,rfl,rfl⟩)⟩))
     have hA:=bound.up1 w2 (.cells #[.int .i64 o0,.int .i64 o1,.int .i64 o2,.int .i64 o3,.int .i64 o4,.int .i64 o5] 27)
     replace hB:=later hB hA
     clear hA hO HC HT
     go_wp2_with fail
     exact bodyPost_ret (v:=.tuple #[.slice none 0 0,.int .i64 f]) (by simp [results,Tryz.results90,go_sem]) rfl ⟨hB,_,[],f,rfl,HN.out,World.ownsRow_nil _ _ _ _⟩
  ·have hke:l.drop k=[]:=List.drop_eq_nil_of_le (by rw [HL.out];omega)
   have hkn':¬ (k:Int)<len:=by omega
   have HN:=Lib.hid (show Col U l [] cur 0 from HC.out cur 0 (by rw [hke];exact ⟨rfl,rfl⟩))
   have HO:=Lib.hid (show wr.ownsRow w.heap.size 27 6 (.slice av m cv) cur.length (flatZ cur) by rw [←HMC.out];exact hO)
   clear hO HC hke
   go_wp2_with fail
   exact bodyPost_ret (v:=.tuple #[.slice av m cv,.int .i64 0]) (by simp [results,Tryz.results90,go_sem]) rfl ⟨hB,_,cur,0,rfl,HN.out,HO.out⟩
set_option maxRecDepth 100000 in
set_option maxHeartbeats 16000000 in
theorem collect_n (U:To) (e0:Value) (e1:Value) (ao:Option Addr) (len cap:Nat) (l:List (List Int)) (w:World) (hI:Zs w.heap.size w (.slice ao len cap) l) (h6:∀ z,z ∈ l→z.length=6) (hl:l.length=len) (hm:len≤900000)
  (hf:∀ z0 z1 z2 z3 z4 z5 W,[z0,z1,z2,z3,z4,z5] ∈ l→Below w.heap.size w W→Calls Tryz.prog 67 #[.agg #[.int .i64 z0,.int .i64 z1,.int .i64 z2,.int .i64 z3,.int .i64 z4,.int .i64 z5],e0,e1] W (win.Zs (U [z0,z1,z2,z3,z4,z5]) W)):
  Calls Tryz.prog 90 #[.slice ao len cap,.func (.func 67) #[] #[e0,e1]] w (Zans (Col U l []) w):=by
 have HI:=Lib.hid hI
 have H6:=Lib.hid h6
 have HL:=Lib.hid hl
 have HF:=Lib.hid hf
 clear hI h6 hl hf
 go_enter Tryz.func90,Tryz.ntmps90
 go_wp2_with fail
 go_loopw [13,6] (fun i v wr=>∃ (k m:Nat) (cur:List (List Int)),k≤len∧i=.int .i64 k∧m=cur.length∧m≤k∧Below w.heap.size w wr∧wr.ownsRow w.heap.size 27 6 v m (flatZ cur)∧RowKit.Hid (∀ r f,Col U (l.drop k) cur r f→Col U l [] r f)) (fun i _ _=>len - (intOf i).toNat)
 case atStart=>exact ⟨0,0,[],Nat.zero_le _,rfl,rfl,Nat.le_refl _,Below.refl _ _,World.ownsRow_nil _ _ _ _,Lib.hid (fun r f h=>h)⟩
 case round=>
  obtain ⟨k,m,cur,hk,rfl,hmc,hmk,hB,hO,HC⟩:=hrel
  obtain ⟨av,cv,hv⟩:=zs_len (zs_own hO)
  rw [←hmc] at hv
  subst hv
  have HMC:=Lib.hid hmc
  clear hmc
  by_cases hkn:k<len
  ·have hkz:k<l.length:=by rw [HL.out];exact hkn
   have hkn':(k:Int)<len:=by omega
   obtain ⟨bq,off,rfl,-,hb,c0,c1,c2,c3,c4,c5⟩:=zs_at (HI.out.below hB) hkz
   have hbr:bq<wr.heap.size:=Nat.lt_of_lt_of_le hb hB.size
   have hz6:=H6.out _ (zat_mem hkz)
   have hmem:=zat_mem hkz
   have hdr:l.drop k=zat l k::l.drop (k+1):=by
    rw [List.drop_eq_getElem_cons hkz]
    unfold zat
    rw [List.getElem?_eq_getElem hkz]
    rfl
   generalize zat l k=zk at c0 c1 c2 c3 c4 c5 hz6 hmem hdr
   obtain ⟨z0,z1,z2,z3,z4,z5,rfl⟩:=six hz6
   have c0:wr.cell? ⟨bq,off+k*6,none⟩=some (.int .i64 z0):=c0
   have c1:wr.cell? ⟨bq,off+k*6+1,none⟩=some (.int .i64 z1):=c1
   have c2:wr.cell? ⟨bq,off+k*6+2,none⟩=some (.int .i64 z2):=c2
   have c3:wr.cell? ⟨bq,off+k*6+3,none⟩=some (.int .i64 z3):=c3
   have c4:wr.cell? ⟨bq,off+k*6+4,none⟩=some (.int .i64 z4):=c4
   have c5:wr.cell? ⟨bq,off+k*6+5,none⟩=some (.int .i64 z5):=c5
   have HMEM:=Lib.hid hmem
   have HDR:=Lib.hid hdr
   clear hmem hdr hz6
   go_wp2_with fail
   clear c0 c1 c2 c3 c4 c5 hbr
   have hA:=bound.up1 wr (.cells #[.int .i64 z0,.int .i64 z1,.int .i64 z2,.int .i64 z3,.int .i64 z4,.int .i64 z5] 27)
   replace hO:=incl.own_call hO hA
   replace hB:=later hB hA
   clear hA
   generalize wr.heap.size=ZB
   generalize wr.alloc (.cells #[.int .i64 z0,.int .i64 z1,.int .i64 z2,.int .i64 z3,.int .i64 z4,.int .i64 z5] 27)=w1 at hO hB ⊢
   refine (HF.out z0 z1 z2 z3 z4 z5 w1 HMEM.out hB).mono ?_
   rintro e w2 ⟨hB2,o0,o1,o2,o3,o4,o5,f,rfl,hT⟩
   replace hO:=incl.own_call hO hB2
   replace hB:=later hB hB2
   have HT:=Lib.hid hT
   clear hB2 hT
   by_cases h6:f=6
   ·subst h6
    have HN:=Lib.hid (show ∀ r f,Col U (l.drop (k+1)) cur r f→Col U l [] r f from fun r f h=>HC.out r f (by rw [HDR.out];exact ⟨_,6,HT.out,.inl ⟨rfl,h⟩⟩))
    have hA:=bound.up1 w2 (.cells #[.int .i64 o0,.int .i64 o1,.int .i64 o2,.int .i64 o3,.int .i64 o4,.int .i64 o5] 27)
    have HO:=Lib.hid (incl.own_call hO hA)
    replace hB:=later hB hA
    clear hA hO HC HT
    go_wp2_with fail
    go_roundw
    case rel=>exact ⟨k+1,m,cur,by omega,by go_num,HMC.out,by omega,hB,HO.out,HN⟩
    case measure=>simp [intOf];omega
   ·by_cases h0:f=0
    ·subst h0
     have HN:=Lib.hid (show ∀ r f,Col U (l.drop (k+1)) (cur++[[o0,o1,o2,o3,o4,o5]]) r f→Col U l [] r f from fun r f h=>HC.out r f (by rw [HDR.out];exact ⟨_,0,HT.out,.inr (.inr ⟨rfl,h⟩)⟩))
     have hA:=lies.frame_up (bound.up1 w2 (.cells #[.int .i64 o0,.int .i64 o1,.int .i64 o2,.int .i64 o3,.int .i64 o4,.int .i64 o5] 27)) (.cells #[.int .i64 o0,.int .i64 o1,.int .i64 o2,.int .i64 o3,.int .i64 o4,.int .i64 o5] 27)
     have hO1:=incl.own_call hO hA
     have hbx:=zs_box (lies.made_at (w2.alloc (.cells #[.int .i64 o0,.int .i64 o1,.int .i64 o2,.int .i64 o3,.int .i64 o4,.int .i64 o5] 27)) 27 #[.int .i64 o0,.int .i64 o1,.int .i64 o2,.int .i64 o3,.int .i64 o4,.int .i64 o5] (w2.heap.size+1) (by simp))
     obtain ⟨v1,w3,hrun,own,hgrow,-⟩:=app_zones w.heap.size 29 (.slice av m cv) (.slice (some ⟨w2.heap.size+1,0,none⟩) 1 1) m _ (flatZ cur) [[o0,o1,o2,o3,o4,o5]] ((w2.alloc (.cells #[.int .i64 o0,.int .i64 o1,.int .i64 o2,.int .i64 o3,.int .i64 o4,.int .i64 o5] 27)).alloc (.cells #[.int .i64 o0,.int .i64 o1,.int .i64 o2,.int .i64 o3,.int .i64 o4,.int .i64 o5] 27)) hO1 hbx (by show m+1≤_;omega) (Nat.le_trans hB.size hA.size)
     have hB1:Below w.heap.size w ((w2.alloc (.cells #[.int .i64 o0,.int .i64 o1,.int .i64 o2,.int .i64 o3,.int .i64 o4,.int .i64 o5] 27)).alloc (.cells #[.int .i64 o0,.int .i64 o1,.int .i64 o2,.int .i64 o3,.int .i64 o4,.int .i64 o5] 27)):=later hB hA
     have hB2:=held_grown hB1 hB1.size hO1 (Nat.le_refl _) hgrow
     have HRUN:=Lib.hid hrun
     have HOWN:=Lib.hid (show w3.ownsRow w.heap.size 27 6 v1 (m+1) (flatZ (cur++[[o0,o1,o2,o3,o4,o5]])) by rw [flatZ_app];exact own)
     have HM1:=Lib.hid (show m+1=(cur++[[o0,o1,o2,o3,o4,o5]]).length by rw [List.length_append,←HMC.out];rfl)
     clear hrun own hgrow hO hO1 hB1 hA hB HC HT h6 hbx
     go_wp2_with (at_builtin;refine dref.append_run2 rfl (.tmp 28) (.tmp 30) 29 rfl _ _ _ _ rfl rfl HRUN.out ?_;clear HRUN)
     go_roundw
     case rel=>exact ⟨k+1,m+1,cur++[[o0,o1,o2,o3,o4,o5]],by omega,by go_num,HM1.out,by omega,hB2,HOWN.out,HN⟩
     case measure=>simp [intOf];omega
    ·have HN:=Lib.hid (show Col U l [] [] f from HC.out [] f (by rw [HDR.out];exact ⟨_,f,HT.out,.inr (.inl ⟨h6,h0,rfl,rfl⟩)⟩))
     have hA:=bound.up1 w2 (.cells #[.int .i64 o0,.int .i64 o1,.int .i64 o2,.int .i64 o3,.int .i64 o4,.int .i64 o5] 27)
     replace hB:=later hB hA
     clear hA hO HC HT
     go_wp2_with fail
     exact bodyPost_ret (v:=.tuple #[.slice none 0 0,.int .i64 f]) (by simp [results,Tryz.results90,go_sem]) rfl ⟨hB,_,[],f,rfl,HN.out,World.ownsRow_nil _ _ _ _⟩
  ·have hke:l.drop k=[]:=List.drop_eq_nil_of_le (by rw [HL.out];omega)
   have hkn':¬ (k:Int)<len:=by omega
   have HN:=Lib.hid (show Col U l [] cur 0 from HC.out cur 0 (by rw [hke];exact ⟨rfl,rfl⟩))
   have HO:=Lib.hid (show wr.ownsRow w.heap.size 27 6 (.slice av m cv) cur.length (flatZ cur) by rw [←HMC.out];exact hO)
   clear hO HC hke
   go_wp2_with fail
   exact bodyPost_ret (v:=.tuple #[.slice av m cv,.int .i64 0]) (by simp [results,Tryz.results90,go_sem]) rfl ⟨hB,_,cur,0,rfl,HN.out,HO.out⟩
set_option maxRecDepth 100000 in
set_option maxHeartbeats 16000000 in
theorem collect_b (U:To) (e0:Value) (e1:Value) (ao:Option Addr) (len cap:Nat) (l:List (List Int)) (w:World) (hI:Zs w.heap.size w (.slice ao len cap) l) (h6:∀ z,z ∈ l→z.length=6) (hl:l.length=len) (hm:len≤900000)
  (hf:∀ z0 z1 z2 z3 z4 z5 W,[z0,z1,z2,z3,z4,z5] ∈ l→Below w.heap.size w W→Calls Tryz.prog 91 #[.agg #[.int .i64 z0,.int .i64 z1,.int .i64 z2,.int .i64 z3,.int .i64 z4,.int .i64 z5],e0,e1] W (win.Zs (U [z0,z1,z2,z3,z4,z5]) W)):
  Calls Tryz.prog 90 #[.slice ao len cap,.func (.func 91) #[] #[e0,e1]] w (Zans (Col U l []) w):=by
 have HI:=Lib.hid hI
 have H6:=Lib.hid h6
 have HL:=Lib.hid hl
 have HF:=Lib.hid hf
 clear hI h6 hl hf
 go_enter Tryz.func90,Tryz.ntmps90
 go_wp2_with fail
 go_loopw [13,6] (fun i v wr=>∃ (k m:Nat) (cur:List (List Int)),k≤len∧i=.int .i64 k∧m=cur.length∧m≤k∧Below w.heap.size w wr∧wr.ownsRow w.heap.size 27 6 v m (flatZ cur)∧RowKit.Hid (∀ r f,Col U (l.drop k) cur r f→Col U l [] r f)) (fun i _ _=>len - (intOf i).toNat)
 case atStart=>exact ⟨0,0,[],Nat.zero_le _,rfl,rfl,Nat.le_refl _,Below.refl _ _,World.ownsRow_nil _ _ _ _,Lib.hid (fun r f h=>h)⟩
 case round=>
  obtain ⟨k,m,cur,hk,rfl,hmc,hmk,hB,hO,HC⟩:=hrel
  obtain ⟨av,cv,hv⟩:=zs_len (zs_own hO)
  rw [←hmc] at hv
  subst hv
  have HMC:=Lib.hid hmc
  clear hmc
  by_cases hkn:k<len
  ·have hkz:k<l.length:=by rw [HL.out];exact hkn
   have hkn':(k:Int)<len:=by omega
   obtain ⟨bq,off,rfl,-,hb,c0,c1,c2,c3,c4,c5⟩:=zs_at (HI.out.below hB) hkz
   have hbr:bq<wr.heap.size:=Nat.lt_of_lt_of_le hb hB.size
   have hz6:=H6.out _ (zat_mem hkz)
   have hmem:=zat_mem hkz
   have hdr:l.drop k=zat l k::l.drop (k+1):=by
    rw [List.drop_eq_getElem_cons hkz]
    unfold zat
    rw [List.getElem?_eq_getElem hkz]
    rfl
   generalize zat l k=zk at c0 c1 c2 c3 c4 c5 hz6 hmem hdr
   obtain ⟨z0,z1,z2,z3,z4,z5,rfl⟩:=six hz6
   have c0:wr.cell? ⟨bq,off+k*6,none⟩=some (.int .i64 z0):=c0
   have c1:wr.cell? ⟨bq,off+k*6+1,none⟩=some (.int .i64 z1):=c1
   have c2:wr.cell? ⟨bq,off+k*6+2,none⟩=some (.int .i64 z2):=c2
   have c3:wr.cell? ⟨bq,off+k*6+3,none⟩=some (.int .i64 z3):=c3
   have c4:wr.cell? ⟨bq,off+k*6+4,none⟩=some (.int .i64 z4):=c4
   have c5:wr.cell? ⟨bq,off+k*6+5,none⟩=some (.int .i64 z5):=c5
   have HMEM:=Lib.hid hmem
   have HDR:=Lib.hid hdr
   clear hmem hdr hz6
   go_wp2_with fail
   clear c0 c1 c2 c3 c4 c5 hbr
   have hA:=bound.up1 wr (.cells #[.int .i64 z0,.int .i64 z1,.int .i64 z2,.int .i64 z3,.int .i64 z4,.int .i64 z5] 27)
   replace hO:=incl.own_call hO hA
   replace hB:=later hB hA
   clear hA
   generalize wr.heap.size=ZB
   generalize wr.alloc (.cells #[.int .i64 z0,.int .i64 z1,.int .i64 z2,.int .i64 z3,.int .i64 z4,.int .i64 z5] 27)=w1 at hO hB ⊢
   refine (HF.out z0 z1 z2 z3 z4 z5 w1 HMEM.out hB).mono ?_
   rintro e w2 ⟨hB2,o0,o1,o2,o3,o4,o5,f,rfl,hT⟩
   replace hO:=incl.own_call hO hB2
   replace hB:=later hB hB2
   have HT:=Lib.hid hT
   clear hB2 hT
   by_cases h6:f=6
   ·subst h6
    have HN:=Lib.hid (show ∀ r f,Col U (l.drop (k+1)) cur r f→Col U l [] r f from fun r f h=>HC.out r f (by rw [HDR.out];exact ⟨_,6,HT.out,.inl ⟨rfl,h⟩⟩))
    have hA:=bound.up1 w2 (.cells #[.int .i64 o0,.int .i64 o1,.int .i64 o2,.int .i64 o3,.int .i64 o4,.int .i64 o5] 27)
    have HO:=Lib.hid (incl.own_call hO hA)
    replace hB:=later hB hA
    clear hA hO HC HT
    go_wp2_with fail
    go_roundw
    case rel=>exact ⟨k+1,m,cur,by omega,by go_num,HMC.out,by omega,hB,HO.out,HN⟩
    case measure=>simp [intOf];omega
   ·by_cases h0:f=0
    ·subst h0
     have HN:=Lib.hid (show ∀ r f,Col U (l.drop (k+1)) (cur++[[o0,o1,o2,o3,o4,o5]]) r f→Col U l [] r f from fun r f h=>HC.out r f (by rw [HDR.out];exact ⟨_,0,HT.out,.inr (.inr ⟨rfl,h⟩)⟩))
     have hA:=lies.frame_up (bound.up1 w2 (.cells #[.int .i64 o0,.int .i64 o1,.int .i64 o2,.int .i64 o3,.int .i64 o4,.int .i64 o5] 27)) (.cells #[.int .i64 o0,.int .i64 o1,.int .i64 o2,.int .i64 o3,.int .i64 o4,.int .i64 o5] 27)
     have hO1:=incl.own_call hO hA
     have hbx:=zs_box (lies.made_at (w2.alloc (.cells #[.int .i64 o0,.int .i64 o1,.int .i64 o2,.int .i64 o3,.int .i64 o4,.int .i64 o5] 27)) 27 #[.int .i64 o0,.int .i64 o1,.int .i64 o2,.int .i64 o3,.int .i64 o4,.int .i64 o5] (w2.heap.size+1) (by simp))
     obtain ⟨v1,w3,hrun,own,hgrow,-⟩:=app_zones w.heap.size 29 (.slice av m cv) (.slice (some ⟨w2.heap.size+1,0,none⟩) 1 1) m _ (flatZ cur) [[o0,o1,o2,o3,o4,o5]] ((w2.alloc (.cells #[.int .i64 o0,.int .i64 o1,.int .i64 o2,.int .i64 o3,.int .i64 o4,.int .i64 o5] 27)).alloc (.cells #[.int .i64 o0,.int .i64 o1,.int .i64 o2,.int .i64 o3,.int .i64 o4,.int .i64 o5] 27)) hO1 hbx (by show m+1≤_;omega) (Nat.le_trans hB.size hA.size)
     have hB1:Below w.heap.size w ((w2.alloc (.cells #[.int .i64 o0,.int .i64 o1,.int .i64 o2,.int .i64 o3,.int .i64 o4,.int .i64 o5] 27)).alloc (.cells #[.int .i64 o0,.int .i64 o1,.int .i64 o2,.int .i64 o3,.int .i64 o4,.int .i64 o5] 27)):=later hB hA
     have hB2:=held_grown hB1 hB1.size hO1 (Nat.le_refl _) hgrow
     have HRUN:=Lib.hid hrun
     have HOWN:=Lib.hid (show w3.ownsRow w.heap.size 27 6 v1 (m+1) (flatZ (cur++[[o0,o1,o2,o3,o4,o5]])) by rw [flatZ_app];exact own)
     have HM1:=Lib.hid (show m+1=(cur++[[o0,o1,o2,o3,o4,o5]]).length by rw [List.length_append,←HMC.out];rfl)
     clear hrun own hgrow hO hO1 hB1 hA hB HC HT h6 hbx
     go_wp2_with (at_builtin;refine dref.append_run2 rfl (.tmp 28) (.tmp 30) 29 rfl _ _ _ _ rfl rfl HRUN.out ?_;clear HRUN)
     go_roundw
     case rel=>exact ⟨k+1,m+1,cur++[[o0,o1,o2,o3,o4,o5]],by omega,by go_num,HM1.out,by omega,hB2,HOWN.out,HN⟩
     case measure=>simp [intOf];omega
    ·have HN:=Lib.hid (show Col U l [] [] f from HC.out [] f (by rw [HDR.out];exact ⟨_,f,HT.out,.inr (.inl ⟨h6,h0,rfl,rfl⟩)⟩))
     have hA:=bound.up1 w2 (.cells #[.int .i64 o0,.int .i64 o1,.int .i64 o2,.int .i64 o3,.int .i64 o4,.int .i64 o5] 27)
     replace hB:=later hB hA
     clear hA hO HC HT
     go_wp2_with fail
     exact bodyPost_ret (v:=.tuple #[.slice none 0 0,.int .i64 f]) (by simp [results,Tryz.results90,go_sem]) rfl ⟨hB,_,[],f,rfl,HN.out,World.ownsRow_nil _ _ _ _⟩
  ·have hke:l.drop k=[]:=List.drop_eq_nil_of_le (by rw [HL.out];omega)
   have hkn':¬ (k:Int)<len:=by omega
   have HN:=Lib.hid (show Col U l [] cur 0 from HC.out cur 0 (by rw [hke];exact ⟨rfl,rfl⟩))
   have HO:=Lib.hid (show wr.ownsRow w.heap.size 27 6 (.slice av m cv) cur.length (flatZ cur) by rw [←HMC.out];exact hO)
   clear hO HC hke
   go_wp2_with fail
   exact bodyPost_ret (v:=.tuple #[.slice av m cv,.int .i64 0]) (by simp [results,Tryz.results90,go_sem]) rfl ⟨hB,_,cur,0,rfl,HN.out,HO.out⟩
set_option maxRecDepth 100000 in
set_option maxHeartbeats 8000000 in
theorem of_gen (ao:Option Addr) (len cap:Nat) (l:List (List Int)) (w:World) (hZ:len≤4096→Pl w∧Zs w.heap.size w (.slice ao len cap) l∧Six l) (hl:l.length=len):
  Calls Tryz.prog 25 #[.slice ao len cap] w (Zans (PruX RestP l) w):=by
 have c:=prune_gen ao len cap l w hZ hl
 clear hZ hl
 go_enter Tryz.func25,Tryz.ntmps25
 go_wp2_with fail
 refine Calls.mono c ?_
 rintro e w1 ⟨hB,v,r,f,rfl,hR,hO,-⟩
 obtain ⟨av,cv,rfl⟩:=zs_len (zs_own hO)
 have HR:=Lib.hid hR
 have HO:=Lib.hid hO
 clear hR hO c
 generalize hn:r.length=n at HO ⊢
 have HN:=Lib.hid hn
 clear hn
 go_wp2_with fail
 refine bodyPost_ret (v:=.tuple #[.slice av n cv,.int .i64 f]) (by simp [results,Tryz.results25,go_sem]) rfl ⟨hB,_,r,f,rfl,HR.out,?_⟩
 rw [HN.out]
 exact HO.out
theorem of_any (ao:Option Addr) (len cap:Nat) (l:List (List Int)) (w:World) (hP:Pl w) (hI:Zs w.heap.size w (.slice ao len cap) l) (h6:Six l) (hl:l.length=len):Calls Tryz.prog 25 #[.slice ao len cap] w (Zans (PruX RestP l) w):=of_gen ao len cap l w (fun _=>⟨hP,hI,h6⟩) hl
def Pa (W:World):Prop:=0<W.heap.size∧W.cell? ⟨0,0,none⟩=some (.int .i64 9223372036854775807)∧W.cell? ⟨0,1,none⟩=some (.int .i64 9223372036854775807)∧W.cell? ⟨0,2,none⟩=some (.int .i64 9223372036854775807)∧W.cell? ⟨0,3,none⟩=some (.int .i64 9223372036854775807)∧W.cell? ⟨0,4,none⟩=some (.int .i64 9223372036854775807)∧W.cell? ⟨0,5,none⟩=some (.int .i64 9223372036854775807)
theorem Pa.below {n:Nat} {W X:World} (h:Pa W) (k:RowKit.Below n W X) (hn:0<n):Pa X:=by
 obtain ⟨h0,h1,h2,h3,h4,h5,h6⟩:=h
 exact ⟨Nat.lt_of_lt_of_le h0 k.size,(k.cell (p:=⟨0,0,none⟩) hn).trans h1,(k.cell (p:=⟨0,1,none⟩) hn).trans h2,(k.cell (p:=⟨0,2,none⟩) hn).trans h3,(k.cell (p:=⟨0,3,none⟩) hn).trans h4,(k.cell (p:=⟨0,4,none⟩) hn).trans h5,(k.cell (p:=⟨0,5,none⟩) hn).trans h6⟩
theorem Pa.on {W X:World} (h:Pa W) (k:RowKit.Below W.heap.size W X):Pa X:=h.below k h.1
theorem six_all:Six [all6]:=six_one rfl zo_all.2.1
set_option maxRecDepth 100000 in
set_option maxHeartbeats 16000000 in
theorem each_w (U:To) (Cz:Int→Prop) (e0:Value) (ao:Option Addr) (len cap:Nat) (l:List (List Int)) (w:World) (hP:Pl w) (hA:Pa w) (hZ:len≤4096→Zs w.heap.size w (.slice ao len cap) l∧Six l) (hl:l.length=len)
  (hf:∀ z0 z1 z2 z3 z4 z5 W,Tops [z0,z1,z2,z3,z4,z5]→Below w.heap.size w W→Calls Tryz.prog 63 #[.agg #[.int .i64 z0,.int .i64 z1,.int .i64 z2,.int .i64 z3,.int .i64 z4,.int .i64 z5],e0] W (win.Zs (U [z0,z1,z2,z3,z4,z5]) W)) (hx:∃ c,Cz c) (hc:∀ r e,Col U [all6] [] r e→Cz e) (ht:∀ z,Zo z→∀ o,U z o 0→Zo o):
  Calls Tryz.prog 62 #[.slice ao len cap,.func (.func 63) #[] #[e0]] w (Zans (fun r f=>∃ c,Cz c∧EachX RestP U c l r f) w):=by
 obtain ⟨w0,hX⟩:∃ w0,w0=w.alloc (.cells #[.slice ao len cap] 29):=⟨_,rfl⟩
 have DB:Below w.heap.size w w0:=by rw [hX];exact bound.up1 _ _
 have D0:lies.Lies w0 w.heap.size 29 #[.slice ao len cap]:=by rw [hX];exact lies.made _ _ _
 have HZ:=Lib.hid hZ
 have HL:=Lib.hid hl
 have HF:=Lib.hid hf
 have HP:=Lib.hid hP
 have HA:=Lib.hid hA
 have HX:=Lib.hid hx
 have HC:=Lib.hid hc
 have HT:=Lib.hid ht
 clear hZ hl hf hP hA hx hc ht
 go_enter Tryz.func62,Tryz.ntmps62
 go_wp2_with fail
 rw [←hX]
 clear hX
 refine (zcheck_one _ ao len cap l w0 D0 (fun h=>⟨HP.out.on DB,((HZ.out h).1.below DB).mono DB.size,(HZ.out h).2⟩) HL.out).mono ?_
 rintro e w1 ⟨hB,f,rfl,hR⟩
 replace DB:=later DB hB
 clear hB D0
 by_cases h0:f=0
 ·subst h0
  obtain ⟨h1,-,h3,-⟩:=chk_fine hR
  have h1:len≤4096:=by rw [←HL.out];exact h1
  obtain ⟨hI,h6⟩:=HZ.out h1
  have HR:=Lib.hid hR
  have HI:=Lib.hid hI
  have H6:=Lib.hid h6
  have HML:=Lib.hid (h6.zo h3)
  clear hI h6 hR h3 HZ
  obtain ⟨pl,p0,p1,p2,p3,p4,p5⟩:=HA.out.on DB
  have hU:=bound.up1 w1 (.cells #[.int .i64 9223372036854775807,.int .i64 9223372036854775807,.int .i64 9223372036854775807,.int .i64 9223372036854775807,.int .i64 9223372036854775807,.int .i64 9223372036854775807] 27)
  have D1:=lies.made w1 27 #[.int .i64 9223372036854775807,.int .i64 9223372036854775807,.int .i64 9223372036854775807,.int .i64 9223372036854775807,.int .i64 9223372036854775807,.int .i64 9223372036854775807]
  go_wp2_with fail
  clear p0 p1 p2 p3 p4 p5 pl
  replace DB:=later DB hU
  clear hU
  generalize w1.heap.size=BX at D1 ⊢
  generalize w1.alloc (.cells #[.int .i64 9223372036854775807,.int .i64 9223372036854775807,.int .i64 9223372036854775807,.int .i64 9223372036854775807,.int .i64 9223372036854775807,.int .i64 9223372036854775807] 27)=w2 at D1 DB ⊢
  refine (collect_w U e0 (some ⟨BX,0,none⟩) 1 1 [all6] w2 (zs_box D1) (fun z hz=>by rw [List.mem_singleton.1 hz];rfl) rfl (by decide) (fun z0 z1 z2 z3 z4 z5 W hz hB=>HF.out z0 z1 z2 z3 z4 z5 W (six_all _ hz).2 (later DB hB))).mono ?_
  rintro e w3 ⟨hB,v,r0,g,rfl,hCo,hO⟩
  replace DB:=later DB hB
  obtain ⟨av,cv,rfl⟩:=zs_len (zs_own hO)
  have hcz:=HC.out r0 g hCo
  have HCZ:=Lib.hid hcz
  clear hB hO D1 hCo hcz
  by_cases hg:g=0
  ·subst hg
   go_wp2_with fail
   refine (collect_w U e0 ao len cap l w3 ((HI.out.below DB).mono DB.size) (fun z hz=>(H6.out z hz).1) HL.out (by omega) (fun z0 z1 z2 z3 z4 z5 W hz hB=>HF.out z0 z1 z2 z3 z4 z5 W (H6.out _ hz).2 (later DB hB))).mono ?_
   rintro e w4 ⟨hB,v2,come,g2,rfl,hCo,hO⟩
   replace DB:=later DB hB
   obtain ⟨av2,cv2,rfl⟩:=zs_len (zs_own hO)
   have HCo:=Lib.hid hCo
   by_cases hg2:g2=0
   ·subst hg2
    obtain ⟨k1,k2⟩:=col_zo l (fun y hy=>HT.out y (HML.out y hy)) (fun x hx=>by cases hx) hCo
    rw [List.length_nil,Nat.zero_add,HL.out] at k2
    have HI2:=Lib.hid (zs_own hO)
    have H62:=Lib.hid (six_zo k1)
    have P4:=HP.out.on DB
    clear hCo hO hB k1
    generalize hn:come.length=n at HI2 k2 ⊢
    have HN:=Lib.hid hn
    clear hn
    go_wp2_with fail
    refine (of_any av2 n cv2 come w4 P4 HI2.out H62.out HN.out).mono ?_
    rintro e w5 ⟨hB,v3,r,g3,rfl,hPr,hO⟩
    obtain ⟨av3,cv3,rfl⟩:=zs_len (zs_own hO)
    have HO:=Lib.hid (own_far hO DB.size (fun _ _ _ q=>q))
    have HPR:=Lib.hid hPr
    replace DB:=later DB hB
    clear hO hPr hB P4
    generalize hn:r.length=n2 at HO ⊢
    have HN2:=Lib.hid hn
    clear hn
    go_wp2_with fail
    refine bodyPost_ret (v:=.tuple #[.slice av3 n2 cv3,.int .i64 g3]) (by simp [results,Tryz.results62,go_sem]) rfl ⟨DB,_,r,g3,rfl,⟨0,HCZ.out,0,HR.out,.inr ⟨rfl,.inr ⟨rfl,come,0,HCo.out,.inr ⟨rfl,HPR.out⟩⟩⟩⟩,?_⟩
    rw [HN2.out]
    exact HO.out
   ·clear hCo hO hB
    go_wp2_with fail
    exact bodyPost_ret (v:=.tuple #[.slice none 0 0,.int .i64 g2]) (by simp [results,Tryz.results62,go_sem]) rfl ⟨DB,_,[],g2,rfl,⟨0,HCZ.out,0,HR.out,.inr ⟨rfl,.inr ⟨rfl,come,g2,HCo.out,.inl ⟨hg2,rfl,rfl⟩⟩⟩⟩,World.ownsRow_nil _ _ _ _⟩
  ·go_wp2_with fail
   exact bodyPost_ret (v:=.tuple #[.slice none 0 0,.int .i64 g]) (by simp [results,Tryz.results62,go_sem]) rfl ⟨DB,_,[],g,rfl,⟨g,HCZ.out,0,HR.out,.inr ⟨rfl,.inl ⟨hg,rfl,rfl⟩⟩⟩,World.ownsRow_nil _ _ _ _⟩
 ·have HR:=Lib.hid hR
  clear hR
  obtain ⟨c,hcz⟩:=HX.out
  have HCZ:=Lib.hid hcz
  clear hcz
  go_wp2_with fail
  exact bodyPost_ret (v:=.tuple #[.slice none 0 0,.int .i64 f]) (by simp [results,Tryz.results62,go_sem]) rfl ⟨DB,_,[],f,rfl,⟨c,HCZ.out,f,HR.out,.inl ⟨h0,rfl,rfl⟩⟩,World.ownsRow_nil _ _ _ _⟩
set_option maxRecDepth 100000 in
set_option maxHeartbeats 16000000 in
theorem each_n (U:To) (Cz:Int→Prop) (e0:Value) (e1:Value) (ao:Option Addr) (len cap:Nat) (l:List (List Int)) (w:World) (hP:Pl w) (hA:Pa w) (hZ:len≤4096→Zs w.heap.size w (.slice ao len cap) l∧Six l) (hl:l.length=len)
  (hf:∀ z0 z1 z2 z3 z4 z5 W,Tops [z0,z1,z2,z3,z4,z5]→Below w.heap.size w W→Calls Tryz.prog 67 #[.agg #[.int .i64 z0,.int .i64 z1,.int .i64 z2,.int .i64 z3,.int .i64 z4,.int .i64 z5],e0,e1] W (win.Zs (U [z0,z1,z2,z3,z4,z5]) W)) (hx:∃ c,Cz c) (hc:∀ r e,Col U [all6] [] r e→Cz e) (ht:∀ z,Zo z→∀ o,U z o 0→Zo o):
  Calls Tryz.prog 62 #[.slice ao len cap,.func (.func 67) #[] #[e0,e1]] w (Zans (fun r f=>∃ c,Cz c∧EachX RestP U c l r f) w):=by
 obtain ⟨w0,hX⟩:∃ w0,w0=w.alloc (.cells #[.slice ao len cap] 29):=⟨_,rfl⟩
 have DB:Below w.heap.size w w0:=by rw [hX];exact bound.up1 _ _
 have D0:lies.Lies w0 w.heap.size 29 #[.slice ao len cap]:=by rw [hX];exact lies.made _ _ _
 have HZ:=Lib.hid hZ
 have HL:=Lib.hid hl
 have HF:=Lib.hid hf
 have HP:=Lib.hid hP
 have HA:=Lib.hid hA
 have HX:=Lib.hid hx
 have HC:=Lib.hid hc
 have HT:=Lib.hid ht
 clear hZ hl hf hP hA hx hc ht
 go_enter Tryz.func62,Tryz.ntmps62
 go_wp2_with fail
 rw [←hX]
 clear hX
 refine (zcheck_one _ ao len cap l w0 D0 (fun h=>⟨HP.out.on DB,((HZ.out h).1.below DB).mono DB.size,(HZ.out h).2⟩) HL.out).mono ?_
 rintro e w1 ⟨hB,f,rfl,hR⟩
 replace DB:=later DB hB
 clear hB D0
 by_cases h0:f=0
 ·subst h0
  obtain ⟨h1,-,h3,-⟩:=chk_fine hR
  have h1:len≤4096:=by rw [←HL.out];exact h1
  obtain ⟨hI,h6⟩:=HZ.out h1
  have HR:=Lib.hid hR
  have HI:=Lib.hid hI
  have H6:=Lib.hid h6
  have HML:=Lib.hid (h6.zo h3)
  clear hI h6 hR h3 HZ
  obtain ⟨pl,p0,p1,p2,p3,p4,p5⟩:=HA.out.on DB
  have hU:=bound.up1 w1 (.cells #[.int .i64 9223372036854775807,.int .i64 9223372036854775807,.int .i64 9223372036854775807,.int .i64 9223372036854775807,.int .i64 9223372036854775807,.int .i64 9223372036854775807] 27)
  have D1:=lies.made w1 27 #[.int .i64 9223372036854775807,.int .i64 9223372036854775807,.int .i64 9223372036854775807,.int .i64 9223372036854775807,.int .i64 9223372036854775807,.int .i64 9223372036854775807]
  go_wp2_with fail
  clear p0 p1 p2 p3 p4 p5 pl
  replace DB:=later DB hU
  clear hU
  generalize w1.heap.size=BX at D1 ⊢
  generalize w1.alloc (.cells #[.int .i64 9223372036854775807,.int .i64 9223372036854775807,.int .i64 9223372036854775807,.int .i64 9223372036854775807,.int .i64 9223372036854775807,.int .i64 9223372036854775807] 27)=w2 at D1 DB ⊢
  refine (collect_n U e0 e1 (some ⟨BX,0,none⟩) 1 1 [all6] w2 (zs_box D1) (fun z hz=>by rw [List.mem_singleton.1 hz];rfl) rfl (by decide) (fun z0 z1 z2 z3 z4 z5 W hz hB=>HF.out z0 z1 z2 z3 z4 z5 W (six_all _ hz).2 (later DB hB))).mono ?_
  rintro e w3 ⟨hB,v,r0,g,rfl,hCo,hO⟩
  replace DB:=later DB hB
  obtain ⟨av,cv,rfl⟩:=zs_len (zs_own hO)
  have hcz:=HC.out r0 g hCo
  have HCZ:=Lib.hid hcz
  clear hB hO D1 hCo hcz
  by_cases hg:g=0
  ·subst hg
   go_wp2_with fail
   refine (collect_n U e0 e1 ao len cap l w3 ((HI.out.below DB).mono DB.size) (fun z hz=>(H6.out z hz).1) HL.out (by omega) (fun z0 z1 z2 z3 z4 z5 W hz hB=>HF.out z0 z1 z2 z3 z4 z5 W (H6.out _ hz).2 (later DB hB))).mono ?_
   rintro e w4 ⟨hB,v2,come,g2,rfl,hCo,hO⟩
   replace DB:=later DB hB
   obtain ⟨av2,cv2,rfl⟩:=zs_len (zs_own hO)
   have HCo:=Lib.hid hCo
   by_cases hg2:g2=0
   ·subst hg2
    obtain ⟨k1,k2⟩:=col_zo l (fun y hy=>HT.out y (HML.out y hy)) (fun x hx=>by cases hx) hCo
    rw [List.length_nil,Nat.zero_add,HL.out] at k2
    have HI2:=Lib.hid (zs_own hO)
    have H62:=Lib.hid (six_zo k1)
    have P4:=HP.out.on DB
    clear hCo hO hB k1
    generalize hn:come.length=n at HI2 k2 ⊢
    have HN:=Lib.hid hn
    clear hn
    go_wp2_with fail
    refine (of_any av2 n cv2 come w4 P4 HI2.out H62.out HN.out).mono ?_
    rintro e w5 ⟨hB,v3,r,g3,rfl,hPr,hO⟩
    obtain ⟨av3,cv3,rfl⟩:=zs_len (zs_own hO)
    have HO:=Lib.hid (own_far hO DB.size (fun _ _ _ q=>q))
    have HPR:=Lib.hid hPr
    replace DB:=later DB hB
    clear hO hPr hB P4
    generalize hn:r.length=n2 at HO ⊢
    have HN2:=Lib.hid hn
    clear hn
    go_wp2_with fail
    refine bodyPost_ret (v:=.tuple #[.slice av3 n2 cv3,.int .i64 g3]) (by simp [results,Tryz.results62,go_sem]) rfl ⟨DB,_,r,g3,rfl,⟨0,HCZ.out,0,HR.out,.inr ⟨rfl,.inr ⟨rfl,come,0,HCo.out,.inr ⟨rfl,HPR.out⟩⟩⟩⟩,?_⟩
    rw [HN2.out]
    exact HO.out
   ·clear hCo hO hB
    go_wp2_with fail
    exact bodyPost_ret (v:=.tuple #[.slice none 0 0,.int .i64 g2]) (by simp [results,Tryz.results62,go_sem]) rfl ⟨DB,_,[],g2,rfl,⟨0,HCZ.out,0,HR.out,.inr ⟨rfl,.inr ⟨rfl,come,g2,HCo.out,.inl ⟨hg2,rfl,rfl⟩⟩⟩⟩,World.ownsRow_nil _ _ _ _⟩
  ·go_wp2_with fail
   exact bodyPost_ret (v:=.tuple #[.slice none 0 0,.int .i64 g]) (by simp [results,Tryz.results62,go_sem]) rfl ⟨DB,_,[],g,rfl,⟨g,HCZ.out,0,HR.out,.inr ⟨rfl,.inl ⟨hg,rfl,rfl⟩⟩⟩,World.ownsRow_nil _ _ _ _⟩
 ·have HR:=Lib.hid hR
  clear hR
  obtain ⟨c,hcz⟩:=HX.out
  have HCZ:=Lib.hid hcz
  clear hcz
  go_wp2_with fail
  exact bodyPost_ret (v:=.tuple #[.slice none 0 0,.int .i64 f]) (by simp [results,Tryz.results62,go_sem]) rfl ⟨DB,_,[],f,rfl,⟨c,HCZ.out,f,HR.out,.inl ⟨h0,rfl,rfl⟩⟩,World.ownsRow_nil _ _ _ _⟩
set_option maxRecDepth 100000 in
set_option maxHeartbeats 8000000 in
theorem pair_meet (U:List Int→To) (y0 y1 y2 y3 y4 y5 z0 z1 z2 z3 z4 z5:Int) (Bt Zb:Nat) (w:World) (hBt:lies.Lies w Bt 75 #[.func (.func 59) #[] #[]]) (hZb:lies.Lies w Zb 27 #[.int .i64 y0,.int .i64 y1,.int .i64 y2,.int .i64 y3,.int .i64 y4,.int .i64 y5])
  (hf:∀ W,Below w.heap.size w W→Calls Tryz.prog 59 #[.agg #[.int .i64 y0,.int .i64 y1,.int .i64 y2,.int .i64 y3,.int .i64 y4,.int .i64 y5],.agg #[.int .i64 z0,.int .i64 z1,.int .i64 z2,.int .i64 z3,.int .i64 z4,.int .i64 z5]] W (win.Zs (U [y0,y1,y2,y3,y4,y5] [z0,z1,z2,z3,z4,z5]) W)):
  Calls Tryz.prog 91 #[.agg #[.int .i64 z0,.int .i64 z1,.int .i64 z2,.int .i64 z3,.int .i64 z4,.int .i64 z5],.pointer (some ⟨Bt,0,none⟩),.pointer (some ⟨Zb,0,none⟩)] w (win.Zs (U [y0,y1,y2,y3,y4,y5] [z0,z1,z2,z3,z4,z5]) w):=by
 obtain ⟨w0,hX⟩:∃ w0,w0=(w.alloc (.cells #[.int .i64 z0,.int .i64 z1,.int .i64 z2,.int .i64 z3,.int .i64 z4,.int .i64 z5] 27)).alloc (.cells #[.int .i64 0,.int .i64 0,.int .i64 0,.int .i64 0,.int .i64 0,.int .i64 0] 27):=⟨_,rfl⟩
 have DB:Below w.heap.size w w0:=by rw [hX];exact bound.up2 _ _ _
 have D0:lies.Lies w0 w.heap.size 27 #[.int .i64 z0,.int .i64 z1,.int .i64 z2,.int .i64 z3,.int .i64 z4,.int .i64 z5]:=by rw [hX];exact lies.on_alloc (lies.made _ _ _) _
 have D1:lies.Lies w0 (w.heap.size+1) 27 #[.int .i64 0,.int .i64 0,.int .i64 0,.int .i64 0,.int .i64 0,.int .i64 0]:=by rw [hX];exact lies.made_at _ _ _ _ (by simp)
 have E0:lies.Lies w0 Bt 75 #[.func (.func 59) #[] #[]]:=lies.on_call hBt DB
 have E1:lies.Lies w0 Zb 27 #[.int .i64 y0,.int .i64 y1,.int .i64 y2,.int .i64 y3,.int .i64 y4,.int .i64 y5]:=lies.on_call hZb DB
 have b0:=lies.cell E0 0
 have bl:=lies.lt E0
 have b0:w0.cell? ⟨Bt,0,none⟩=some (.func (.func 59) #[] #[]):=b0
 obtain ⟨⟨x0,x1,x2,x3,x4,x5⟩,-,xl⟩:=six_cells E1
 have HF:=Lib.hid hf
 clear hBt hZb hf D0 E0 E1
 rw [hX] at b0 bl x0 x1 x2 x3 x4 x5 xl
 go_enter Tryz.func91,Tryz.ntmps91
 go_wp2_with fail
 rw [←hX]
 clear hX
 clear b0 bl x0 x1 x2 x3 x4 x5 xl
 refine (HF.out w0 DB).mono ?_
 rintro e w1 ⟨hB,o0,o1,o2,o3,o4,o5,f,rfl,hT⟩
 replace DB:=later DB hB
 replace D1:=lies.on_call D1 hB
 have HT:=Lib.hid hT
 clear hB hT
 have hle:w.heap.size≤w.heap.size+1:=Nat.le_succ _
 obtain ⟨⟨c0,c1,c2,c3,c4,c5⟩,⟨d0,d1,d2,d3,d4,d5⟩,cl⟩:=six_cells D1
 clear D1
 go_wp2_with fail
 exact bodyPost_ret (v:=.tuple #[.agg #[.int .i64 o0,.int .i64 o1,.int .i64 o2,.int .i64 o3,.int .i64 o4,.int .i64 o5],.int .i64 f]) (by simp [results,Tryz.results91,go_sem,c0,c1,c2,c3,c4,c5,cl]) rfl ⟨put_six DB hle _ _ _ _ _ _,o0,o1,o2,o3,o4,o5,f,rfl,HT.out⟩
set_option maxRecDepth 100000 in
set_option maxHeartbeats 8000000 in
theorem pair_comp (U:List Int→To) (y0 y1 y2 y3 y4 y5 z0 z1 z2 z3 z4 z5:Int) (Bt Zb:Nat) (w:World) (hBt:lies.Lies w Bt 75 #[.func (.func 51) #[] #[]]) (hZb:lies.Lies w Zb 27 #[.int .i64 y0,.int .i64 y1,.int .i64 y2,.int .i64 y3,.int .i64 y4,.int .i64 y5])
  (hf:∀ W,Below w.heap.size w W→Calls Tryz.prog 51 #[.agg #[.int .i64 y0,.int .i64 y1,.int .i64 y2,.int .i64 y3,.int .i64 y4,.int .i64 y5],.agg #[.int .i64 z0,.int .i64 z1,.int .i64 z2,.int .i64 z3,.int .i64 z4,.int .i64 z5]] W (win.Zs (U [y0,y1,y2,y3,y4,y5] [z0,z1,z2,z3,z4,z5]) W)):
  Calls Tryz.prog 91 #[.agg #[.int .i64 z0,.int .i64 z1,.int .i64 z2,.int .i64 z3,.int .i64 z4,.int .i64 z5],.pointer (some ⟨Bt,0,none⟩),.pointer (some ⟨Zb,0,none⟩)] w (win.Zs (U [y0,y1,y2,y3,y4,y5] [z0,z1,z2,z3,z4,z5]) w):=by
 obtain ⟨w0,hX⟩:∃ w0,w0=(w.alloc (.cells #[.int .i64 z0,.int .i64 z1,.int .i64 z2,.int .i64 z3,.int .i64 z4,.int .i64 z5] 27)).alloc (.cells #[.int .i64 0,.int .i64 0,.int .i64 0,.int .i64 0,.int .i64 0,.int .i64 0] 27):=⟨_,rfl⟩
 have DB:Below w.heap.size w w0:=by rw [hX];exact bound.up2 _ _ _
 have D0:lies.Lies w0 w.heap.size 27 #[.int .i64 z0,.int .i64 z1,.int .i64 z2,.int .i64 z3,.int .i64 z4,.int .i64 z5]:=by rw [hX];exact lies.on_alloc (lies.made _ _ _) _
 have D1:lies.Lies w0 (w.heap.size+1) 27 #[.int .i64 0,.int .i64 0,.int .i64 0,.int .i64 0,.int .i64 0,.int .i64 0]:=by rw [hX];exact lies.made_at _ _ _ _ (by simp)
 have E0:lies.Lies w0 Bt 75 #[.func (.func 51) #[] #[]]:=lies.on_call hBt DB
 have E1:lies.Lies w0 Zb 27 #[.int .i64 y0,.int .i64 y1,.int .i64 y2,.int .i64 y3,.int .i64 y4,.int .i64 y5]:=lies.on_call hZb DB
 have b0:=lies.cell E0 0
 have bl:=lies.lt E0
 have b0:w0.cell? ⟨Bt,0,none⟩=some (.func (.func 51) #[] #[]):=b0
 obtain ⟨⟨x0,x1,x2,x3,x4,x5⟩,-,xl⟩:=six_cells E1
 have HF:=Lib.hid hf
 clear hBt hZb hf D0 E0 E1
 rw [hX] at b0 bl x0 x1 x2 x3 x4 x5 xl
 go_enter Tryz.func91,Tryz.ntmps91
 go_wp2_with fail
 rw [←hX]
 clear hX
 clear b0 bl x0 x1 x2 x3 x4 x5 xl
 refine (HF.out w0 DB).mono ?_
 rintro e w1 ⟨hB,o0,o1,o2,o3,o4,o5,f,rfl,hT⟩
 replace DB:=later DB hB
 replace D1:=lies.on_call D1 hB
 have HT:=Lib.hid hT
 clear hB hT
 have hle:w.heap.size≤w.heap.size+1:=Nat.le_succ _
 obtain ⟨⟨c0,c1,c2,c3,c4,c5⟩,⟨d0,d1,d2,d3,d4,d5⟩,cl⟩:=six_cells D1
 clear D1
 go_wp2_with fail
 exact bodyPost_ret (v:=.tuple #[.agg #[.int .i64 o0,.int .i64 o1,.int .i64 o2,.int .i64 o3,.int .i64 o4,.int .i64 o5],.int .i64 f]) (by simp [results,Tryz.results91,go_sem,c0,c1,c2,c3,c4,c5,cl]) rfl ⟨put_six DB hle _ _ _ _ _ _,o0,o1,o2,o3,o4,o5,f,rfl,HT.out⟩
set_option maxRecDepth 100000 in
set_option maxHeartbeats 8000000 in
theorem within1_any (z0 z1 z2 z3 z4 z5 lo:Int) (ls:Bool) (hi:Int) (hs op:Bool) (Bs:Nat) (w:World) (hP:Pl w) (ta:Tops [z0,z1,z2,z3,z4,z5]) (hBs:lies.Lies w Bs 35 #[.int .i64 lo,.bool ls,.int .i64 hi,.bool hs,.bool op]):
  Calls Tryz.prog 63 #[.agg #[.int .i64 z0,.int .i64 z1,.int .i64 z2,.int .i64 z3,.int .i64 z4,.int .i64 z5],.pointer (some ⟨Bs,0,none⟩)] w (win.Zs (WinT (lo,ls,hi,hs,op) [z0,z1,z2,z3,z4,z5]) w):=by
 obtain ⟨w0,hX⟩:∃ w0,w0=(w.alloc (.cells #[.int .i64 z0,.int .i64 z1,.int .i64 z2,.int .i64 z3,.int .i64 z4,.int .i64 z5] 27)).alloc (.cells #[.int .i64 0,.int .i64 0,.int .i64 0,.int .i64 0,.int .i64 0,.int .i64 0] 27):=⟨_,rfl⟩
 have DB:Below w.heap.size w w0:=by rw [hX];exact bound.up2 _ _ _
 have D0:lies.Lies w0 w.heap.size 27 #[.int .i64 z0,.int .i64 z1,.int .i64 z2,.int .i64 z3,.int .i64 z4,.int .i64 z5]:=by rw [hX];exact lies.on_alloc (lies.made _ _ _) _
 have D1:lies.Lies w0 (w.heap.size+1) 27 #[.int .i64 0,.int .i64 0,.int .i64 0,.int .i64 0,.int .i64 0,.int .i64 0]:=by rw [hX];exact lies.made_at _ _ _ _ (by simp)
 have E0:lies.Lies w0 Bs 35 #[.int .i64 lo,.bool ls,.int .i64 hi,.bool hs,.bool op]:=lies.on_call hBs DB
 have P0:=hP.on DB
 have HTA:=Lib.hid ta
 obtain ⟨⟨x0,x1,x2,x3,x4⟩,-⟩:=five_cells E0
 have xl:=lies.lt E0
 clear hBs D0 E0 hP ta
 rw [hX] at x0 x1 x2 x3 x4 xl
 go_enter Tryz.func63,Tryz.ntmps63
 go_wp2_with fail
 rw [←hX]
 clear hX
 clear x0 x1 x2 x3 x4 xl
 refine (within_any z0 z1 z2 z3 z4 z5 lo ls hi hs op w0 P0 HTA.out).mono ?_
 rintro e w1 ⟨hB,o0,o1,o2,o3,o4,o5,f,rfl,hT⟩
 replace DB:=later DB hB
 replace D1:=lies.on_call D1 hB
 have HT:=Lib.hid hT
 clear hB hT
 have hle:w.heap.size≤w.heap.size+1:=Nat.le_succ _
 obtain ⟨⟨c0,c1,c2,c3,c4,c5⟩,⟨d0,d1,d2,d3,d4,d5⟩,cl⟩:=six_cells D1
 clear D1
 go_wp2_with fail
 exact bodyPost_ret (v:=.tuple #[.agg #[.int .i64 o0,.int .i64 o1,.int .i64 o2,.int .i64 o3,.int .i64 o4,.int .i64 o5],.int .i64 f]) (by simp [results,Tryz.results63,go_sem,c0,c1,c2,c3,c4,c5,cl]) rfl ⟨put_six DB hle _ _ _ _ _ _,o0,o1,o2,o3,o4,o5,f,rfl,HT.out⟩
set_option maxRecDepth 100000 in
set_option maxHeartbeats 8000000 in
theorem window1_any (z0 z1 z2 z3 z4 z5 fr tt:Int) (Bf Bt:Nat) (w:World) (hP:Pl w) (ta:Tops [z0,z1,z2,z3,z4,z5]) (hBf:lies.Lies w Bf 3 #[.int .i64 fr]) (hBt:lies.Lies w Bt 3 #[.int .i64 tt]):
  Calls Tryz.prog 67 #[.agg #[.int .i64 z0,.int .i64 z1,.int .i64 z2,.int .i64 z3,.int .i64 z4,.int .i64 z5],.pointer (some ⟨Bf,0,none⟩),.pointer (some ⟨Bt,0,none⟩)] w (win.Zs (LatT fr tt [z0,z1,z2,z3,z4,z5]) w):=by
 obtain ⟨w0,hX⟩:∃ w0,w0=(w.alloc (.cells #[.int .i64 z0,.int .i64 z1,.int .i64 z2,.int .i64 z3,.int .i64 z4,.int .i64 z5] 27)).alloc (.cells #[.int .i64 0,.int .i64 0,.int .i64 0,.int .i64 0,.int .i64 0,.int .i64 0] 27):=⟨_,rfl⟩
 have DB:Below w.heap.size w w0:=by rw [hX];exact bound.up2 _ _ _
 have D0:lies.Lies w0 w.heap.size 27 #[.int .i64 z0,.int .i64 z1,.int .i64 z2,.int .i64 z3,.int .i64 z4,.int .i64 z5]:=by rw [hX];exact lies.on_alloc (lies.made _ _ _) _
 have D1:lies.Lies w0 (w.heap.size+1) 27 #[.int .i64 0,.int .i64 0,.int .i64 0,.int .i64 0,.int .i64 0,.int .i64 0]:=by rw [hX];exact lies.made_at _ _ _ _ (by simp)
 have E0:lies.Lies w0 Bf 3 #[.int .i64 fr]:=lies.on_call hBf DB
 have E1:lies.Lies w0 Bt 3 #[.int .i64 tt]:=lies.on_call hBt DB
 have P0:=hP.on DB
 have HTA:=Lib.hid ta
 have x0:w0.cell? ⟨Bf,0,none⟩=some (.int .i64 fr):=lies.cell E0 0
 have x1:w0.cell? ⟨Bt,0,none⟩=some (.int .i64 tt):=lies.cell E1 0
 have xl:=lies.lt E0
 have yl:=lies.lt E1
 clear hBf hBt D0 E0 E1 hP ta
 rw [hX] at x0 x1 xl yl
 go_enter Tryz.func67,Tryz.ntmps67
 go_wp2_with fail
 rw [←hX]
 clear hX
 clear x0 x1 xl yl
 refine (window_any z0 z1 z2 z3 z4 z5 fr tt w0 P0 HTA.out).mono ?_
 rintro e w1 ⟨hB,o0,o1,o2,o3,o4,o5,f,rfl,hT⟩
 replace DB:=later DB hB
 replace D1:=lies.on_call D1 hB
 have HT:=Lib.hid hT
 clear hB hT
 have hle:w.heap.size≤w.heap.size+1:=Nat.le_succ _
 obtain ⟨⟨c0,c1,c2,c3,c4,c5⟩,⟨d0,d1,d2,d3,d4,d5⟩,cl⟩:=six_cells D1
 clear D1
 go_wp2_with fail
 exact bodyPost_ret (v:=.tuple #[.agg #[.int .i64 o0,.int .i64 o1,.int .i64 o2,.int .i64 o3,.int .i64 o4,.int .i64 o5],.int .i64 f]) (by simp [results,Tryz.results67,go_sem,c0,c1,c2,c3,c4,c5,cl]) rfl ⟨put_six DB hle _ _ _ _ _ _,o0,o1,o2,o3,o4,o5,f,rfl,HT.out⟩
set_option maxRecDepth 100000 in
set_option maxHeartbeats 16000000 in
theorem both_fn (U:List Int→To) (fn:Nat) (ao:Option Addr) (len cap:Nat) (a:List (List Int)) (bo:Option Addr) (lenb capb:Nat) (b:List (List Int)) (w:World) (hP:Pl w) (hZ:len≤4096→lenb≤4096→(Zs w.heap.size w (.slice ao len cap) a∧Six a)∧Zs w.heap.size w (.slice bo lenb capb) b∧Six b) (hl:a.length=len) (hlb:b.length=lenb)
  (hf:∀ y0 y1 y2 y3 y4 y5 z0 z1 z2 z3 z4 z5 W,Tops [y0,y1,y2,y3,y4,y5]→Tops [z0,z1,z2,z3,z4,z5]→Below w.heap.size w W→∀ Bt Zb,lies.Lies W Bt 75 #[.func (.func fn) #[] #[]]→lies.Lies W Zb 27 #[.int .i64 y0,.int .i64 y1,.int .i64 y2,.int .i64 y3,.int .i64 y4,.int .i64 y5]→Calls Tryz.prog 91 #[.agg #[.int .i64 z0,.int .i64 z1,.int .i64 z2,.int .i64 z3,.int .i64 z4,.int .i64 z5],.pointer (some ⟨Bt,0,none⟩),.pointer (some ⟨Zb,0,none⟩)] W (win.Zs (U [y0,y1,y2,y3,y4,y5] [z0,z1,z2,z3,z4,z5]) W)) (ht:∀ y,Zo y→∀ z,Zo z→∀ o,U y z o 0→Zo o):
  Calls Tryz.prog 50 #[.slice ao len cap,.slice bo lenb capb,.func (.func fn) #[] #[]] w (Zans (BothX RestP U a b) w):=by
 obtain ⟨w0,hX⟩:∃ w0,w0=(w.alloc (.cells #[.func (.func fn) #[] #[]] 75)).alloc (.cells #[.slice ao len cap,.slice bo lenb capb] 29):=⟨_,rfl⟩
 have DB:Below w.heap.size w w0:=by rw [hX];exact bound.up2 _ _ _
 have DF:lies.Lies w0 w.heap.size 75 #[.func (.func fn) #[] #[]]:=by rw [hX];exact lies.on_alloc (lies.made _ _ _) _
 have D0:lies.Lies w0 (w.heap.size+1) 29 #[.slice ao len cap,.slice bo lenb capb]:=by rw [hX];exact lies.made_at _ _ _ _ (by simp)
 have HZ:=Lib.hid hZ
 have HL:=Lib.hid hl
 have HLB:=Lib.hid hlb
 have HF:=Lib.hid hf
 have HP:=Lib.hid hP
 have HT:=Lib.hid ht
 clear hZ hl hlb hf hP ht
 go_enter Tryz.func50,Tryz.ntmps50
 go_wp2_with fail
 rw [←hX]
 clear hX
 refine (zcheck_two _ ao len cap bo lenb capb a b w0 D0 (fun h k=>⟨HP.out.on DB,⟨((HZ.out h k).1.1.below DB).mono DB.size,(HZ.out h k).1.2⟩,((HZ.out h k).2.1.below DB).mono DB.size,(HZ.out h k).2.2⟩) HL.out HLB.out).mono ?_
 rintro e w1 ⟨hB,f,rfl,hR⟩
 replace DB:=later DB hB
 replace DF:=lies.on_call DF hB
 clear hB D0
 by_cases h0:f=0
 case neg=>
  have HR:=Lib.hid hR
  clear hR
  go_wp2_with fail
  exact bodyPost_ret (v:=.tuple #[.slice none 0 0,.int .i64 f]) (by simp [results,Tryz.results50,go_sem]) rfl ⟨DB,_,[],f,rfl,⟨f,HR.out,.inl ⟨h0,rfl,rfl⟩⟩,World.ownsRow_nil _ _ _ _⟩
 subst h0
 obtain ⟨h1,h2,h3,h4⟩:=chk_fine hR
 have h1:len≤4096:=by rw [←HL.out];exact h1
 have h2:lenb≤4096:=by rw [←HLB.out];exact h2
 obtain ⟨⟨hI,h6⟩,hJ,h6b⟩:=HZ.out h1 h2
 have HR:=Lib.hid hR
 have HI:=Lib.hid hI
 have HJ:=Lib.hid hJ
 have HZA:=Lib.hid (h6.zo h3)
 have HZB:=Lib.hid (h6b.zo h4)
 clear hI hJ h6 h6b hR h3 h4 HZ
 generalize hBF:w.heap.size=Bf at DF
 have HBF:=Lib.hid hBF
 clear hBF
 go_wp2_with fail
 go_loopw [25,9,10] (fun i v u wr=>∃ (k:Nat) (cur ask:List (List Int)),k≤len∧i=.int .i64 k∧Below w.heap.size w wr∧lies.Lies wr Bf 75 #[.func (.func fn) #[] #[]]∧wr.ownsRow w.heap.size 27 6 v cur.length (flatZ cur)∧Zs wr.heap.size wr u ask∧RowKit.Hid ((∀ x,x ∈ ask→Zo x)∧ask.length≤4096∧PruX RestP ask cur 0∧∀ r f,Bo RestP U b (a.drop k) cur r f→Bo RestP U b a [] r f)) (fun i _ _ _=>len - (intOf i).toNat)
 case atStart=>exact ⟨0,[],[],Nat.zero_le _,rfl,DB,DF,World.ownsRow_nil _ _ _ _,.inl ⟨⟨none,0,rfl,fun _=>rfl⟩,rfl⟩,Lib.hid ⟨fun x hx=>(by cases hx),by decide,⟨0,.inr (.inr ⟨by decide,by decide,fun x hx=>(by cases hx),fun x hx=>(by cases hx),rfl⟩),.inr ⟨rfl,rfl,rfl⟩⟩,fun r f h=>h⟩⟩
 case round=>
  clear DB DF
  obtain ⟨k,cur,ask,hk,rfl,hB,DF,hO,hK,HN⟩:=hrel
  have hpf:=pru_fine (six_zo HN.out.1) HN.out.2.2.1
  have HCZ:=Lib.hid hpf.2.1
  have hcl:cur.length≤4096:=Nat.le_trans hpf.2.2.1 HN.out.2.1
  clear hpf
  obtain ⟨av,cv,rfl⟩:=zs_len (zs_own hO)
  obtain ⟨ku,kc,rfl⟩:=zs_len hK
  obtain ⟨m,hm⟩:∃ m,m=cur.length:=⟨_,rfl⟩
  have HM:=Lib.hid hm
  rw [←hm] at hO hcl ⊢
  obtain ⟨am,ham⟩:∃ am,am=ask.length:=⟨_,rfl⟩
  have HAM:=Lib.hid ham
  rw [←ham] at hK ⊢
  clear hm ham
  by_cases hkn:k<len
  ·have hkz:k<a.length:=by rw [HL.out];exact hkn
   have hkn':(k:Int)<len:=by omega
   obtain ⟨bq,off,rfl,-,hb,c0,c1,c2,c3,c4,c5⟩:=zs_at (HI.out.below hB) hkz
   have hbr:bq<wr.heap.size:=Nat.lt_of_lt_of_le hb hB.size
   have hzo:=HZA.out _ (zat_mem hkz)
   have hdr:a.drop k=zat a k::a.drop (k+1):=by
    rw [List.drop_eq_getElem_cons hkz]
    unfold zat
    rw [List.getElem?_eq_getElem hkz]
    rfl
   generalize zat a k=zk at c0 c1 c2 c3 c4 c5 hzo hdr
   obtain ⟨z0,z1,z2,z3,z4,z5,rfl⟩:=six hzo.2.2
   have c0:wr.cell? ⟨bq,off+k*6,none⟩=some (.int .i64 z0):=c0
   have c1:wr.cell? ⟨bq,off+k*6+1,none⟩=some (.int .i64 z1):=c1
   have c2:wr.cell? ⟨bq,off+k*6+2,none⟩=some (.int .i64 z2):=c2
   have c3:wr.cell? ⟨bq,off+k*6+3,none⟩=some (.int .i64 z3):=c3
   have c4:wr.cell? ⟨bq,off+k*6+4,none⟩=some (.int .i64 z4):=c4
   have c5:wr.cell? ⟨bq,off+k*6+5,none⟩=some (.int .i64 z5):=c5
   have HZO:=Lib.hid hzo
   have HDR:=Lib.hid hdr
   clear hdr hzo
   go_wp2_with fail
   clear c0 c1 c2 c3 c4 c5 hbr
   have hA:=bound.up1 wr (.cells #[.int .i64 z0,.int .i64 z1,.int .i64 z2,.int .i64 z3,.int .i64 z4,.int .i64 z5] 27)
   have D2:=lies.made wr 27 #[.int .i64 z0,.int .i64 z1,.int .i64 z2,.int .i64 z3,.int .i64 z4,.int .i64 z5]
   replace DF:=lies.on_call DF hA
   replace hO:=incl.own_call hO hA
   replace hK:=hK.on hA
   replace hB:=later hB hA
   clear hA
   generalize wr.heap.size=ZB at D2 ⊢
   generalize wr.alloc (.cells #[.int .i64 z0,.int .i64 z1,.int .i64 z2,.int .i64 z3,.int .i64 z4,.int .i64 z5] 27)=w1 at hO hB hK DF D2 ⊢
   refine (collect_b (U [z0,z1,z2,z3,z4,z5]) (.pointer (some ⟨Bf,0,none⟩)) (.pointer (some ⟨ZB,0,none⟩)) bo lenb capb b w1 ((HJ.out.below hB).mono hB.size) (fun z hz=>(HZB.out z hz).2.2) HLB.out (by omega) (fun x0 x1 x2 x3 x4 x5 W hx hB2=>HF.out z0 z1 z2 z3 z4 z5 x0 x1 x2 x3 x4 x5 W HZO.out.2.1 (HZB.out _ hx).2.1 (later hB hB2) Bf ZB (lies.on_call DF hB2) (lies.on_call D2 hB2))).mono ?_
   rintro e w2 ⟨hB2,v2,come,g,rfl,hC,hO2⟩
   obtain ⟨av2,cv2,rfl⟩:=zs_len (zs_own hO2)
   replace DF:=lies.on_call DF hB2
   replace hO:=incl.own_call hO hB2
   replace hK:=hK.on hB2
   have hs1:=hB.size
   replace hB:=later hB hB2
   have HCO:=Lib.hid hC
   clear D2 hB2
   by_cases hg:g=0
   case neg=>
    have HE:=Lib.hid (show Bo RestP U b a [] [] g from HN.out.2.2.2 [] g (by rw [HDR.out];exact ⟨_,g,(by have:=col_push cur b hC;rwa [List.append_nil] at this),.inl ⟨hg,rfl,rfl⟩⟩))
    clear hC hO hO2 hK HN
    go_wp2_with fail
    exact bodyPost_ret (v:=.tuple #[.slice none 0 0,.int .i64 g]) (by simp [results,Tryz.results50,go_sem]) rfl ⟨hB,_,[],g,rfl,⟨0,HR.out,.inr ⟨rfl,HE.out⟩⟩,World.ownsRow_nil _ _ _ _⟩
   subst hg
   obtain ⟨k1,k2⟩:=col_zo b (fun y hy=>HT.out _ HZO.out y (HZB.out y hy)) (fun x hx=>by cases hx) hC
   rw [List.length_nil,Nat.zero_add,HLB.out] at k2
   have HKZ:=Lib.hid k1
   have HCP:=Lib.hid (show Col (U [z0,z1,z2,z3,z4,z5]) b cur (cur++come) 0 by have:=col_push cur b hC;rwa [if_pos rfl,List.append_nil] at this)
   have HS1:=Lib.hid ((zs_own hO))
   have HS2:=Lib.hid ((zs_own hO2))
   clear hC k1 hO2
   obtain ⟨m2,hm2⟩:∃ m2,m2=come.length:=⟨_,rfl⟩
   have HM2:=Lib.hid hm2
   rw [←hm2] at HS2 k2 ⊢
   clear hm2
   go_wp2_with fail
   have hA:=bound.up1 w2 (.cells #[.slice av m cv,.slice av2 m2 cv2] 29)
   have D3:=lies.made w2 29 #[.slice av m cv,.slice av2 m2 cv2]
   replace DF:=lies.on_call DF hA
   replace hO:=incl.own_call hO hA
   replace hK:=hK.on hA
   replace HS1:=Lib.hid (HS1.out.on hA)
   replace HS2:=Lib.hid (HS2.out.on hA)
   replace hB:=later hB hA
   clear hA
   generalize w2.heap.size=LB at D3 ⊢
   generalize w2.alloc (.cells #[.slice av m cv,.slice av2 m2 cv2] 29)=w3 at hO hB hK DF D3 HS1 HS2 ⊢
   have HSA:=Lib.hid (show ∀ k,k<2→∃ (a:Option Addr) (q c:Nat) (z:List (List Int)),w3.cell? ⟨LB,k,none⟩=some (.slice a q c)∧Zs w3.heap.size w3 (.slice a q c) z∧z.length=q∧((k=0∧q=m∧z=cur)∨(k=1∧q=m2∧z=come)) from fun k hk=>by
    rcases (by omega:k=0∨k=1) with rfl | rfl
    ·exact ⟨av,m,cv,cur,lies.cell D3 0,HS1.out,HM.out.symm,.inl ⟨rfl,rfl,rfl⟩⟩
    ·exact ⟨av2,m2,cv2,come,lies.cell D3 1,HS2.out,HM2.out.symm,.inr ⟨rfl,rfl,rfl⟩⟩)
   have hlt:=lies.lt D3
   clear D3
   refine (concat_gen LB 2 m m2 cur come w3 (.inr rfl) (fun e=>absurd e (by decide)) hlt HSA.out HM.out.symm HM2.out.symm (by omega)).mono ?_
   rintro e w4 ⟨v3,rfl,hO3,hB2⟩
   replace DF:=lies.on_call DF hB2
   replace hO:=incl.own_call hO hB2
   replace hK:=hK.on hB2
   replace hB:=later hB hB2
   clear HS1 HS2 HSA hlt hB2
   obtain ⟨av3,cv3,rfl⟩:=zs_len (zs_own hO3)
   have HPZ:=Lib.hid (show ∀ x,x ∈ cur++come→Zo x from fun x hx=>(List.mem_append.1 hx).elim (HCZ.out x) (HKZ.out x))
   have hpl:(cur++come).length=m+m2:=by rw [List.length_append,←HM.out,←HM2.out]
   obtain ⟨put,hput⟩:∃ put,put=cur++come:=⟨_,rfl⟩
   rw [←hput] at hO3 HPZ hpl HCP ⊢
   clear hput HKZ HCO
   have HPS:=Lib.hid (zs_own hO3)
   rw [hpl] at HPS ⊢
   have HPL:=Lib.hid hpl
   clear hO3 hpl
   generalize hmm:m+m2=pm at HPS HPL ⊢
   have hpm:pm≤8192:=by omega
   clear hmm
   go_wp2_with fail
   refine (equal_any av3 ku pm cv3 am kc put ask w4 HPS.out hK HPL.out HAM.out.symm (by omega) (by rw [HAM.out];have:=HN.out.2.1;omega) (fun z hz=>(HPZ.out z hz).2.2) (fun z hz=>(HN.out.1 z hz).2.2)).mono ?_
   rintro e w5 ⟨hB2,r,rfl,hq⟩
   replace DF:=lies.on_call DF hB2
   replace hO:=incl.own_call hO hB2
   replace hK:=hK.on hB2
   replace HPS:=Lib.hid (HPS.out.on hB2)
   replace hB:=later hB hB2
   clear hB2
   cases r with
   | true=>
    have he:=hq.1 rfl
    have HN2:=Lib.hid (show (∀ x,x ∈ ask→Zo x)∧ask.length≤4096∧PruX RestP ask cur 0∧∀ r f,Bo RestP U b (a.drop (k+1)) cur r f→Bo RestP U b a [] r f from ⟨HN.out.1,HN.out.2.1,HN.out.2.2.1,fun r f h=>HN.out.2.2.2 r f (by rw [HDR.out];exact ⟨put,0,HCP.out,.inr ⟨rfl,cur,0,by rw [he];exact HN.out.2.2.1,.inr ⟨rfl,h⟩⟩⟩)⟩)
    have HO:=Lib.hid hO
    have HK:=Lib.hid hK
    clear hq he HN HPS hO hK HCP
    go_wp2_with fail
    go_roundw
    case rel=>exact ⟨k+1,cur,ask,by omega,by go_num,hB,DF,by rw [←HM.out];exact HO.out,HK.out,HN2⟩
    case measure=>simp [intOf];omega
   | false=>
    have P5:=HP.out.on hB
    clear hq hK hO
    go_wp2_with fail
    refine (of_any av3 pm cv3 put w5 P5 HPS.out (six_zo HPZ.out) HPL.out).mono ?_
    rintro e w6 ⟨hB2,v4,nw,g,rfl,hPr,hO4⟩
    replace DF:=lies.on_call DF hB2
    replace HPS:=Lib.hid (HPS.out.on hB2)
    have HO4:=Lib.hid (own_far hO4 hB.size (fun _ _ _ q=>q))
    replace hB:=later hB hB2
    obtain ⟨av4,cv4,rfl⟩:=zs_len (zs_own hO4)
    have HPR:=Lib.hid hPr
    clear hO4 hPr hB2 P5
    by_cases hg:g=0
    ·subst hg
     have HN2:=Lib.hid (show (∀ x,x ∈ put→Zo x)∧put.length≤4096∧PruX RestP put nw 0∧∀ r f,Bo RestP U b (a.drop (k+1)) nw r f→Bo RestP U b a [] r f from ⟨HPZ.out,by
      obtain ⟨c,hc,q⟩:=HPR.out
      rcases q with ⟨q,_,q2⟩ | ⟨q,_⟩
      ·exact (q q2.symm).elim
      ·subst q
       exact (chk_fine hc).1,HPR.out,fun r f h=>HN.out.2.2.2 r f (by rw [HDR.out];exact ⟨put,0,HCP.out,.inr ⟨rfl,nw,0,HPR.out,.inr ⟨rfl,h⟩⟩⟩)⟩)
     clear HN HCP
     obtain ⟨m4,hm4⟩:∃ m4,m4=nw.length:=⟨_,rfl⟩
     have HM4:=Lib.hid hm4
     rw [←hm4] at HO4 ⊢
     clear hm4
     go_wp2_with fail
     go_roundw
     case rel=>exact ⟨k+1,nw,put,by omega,by go_num,hB,DF,by rw [←HM4.out];exact HO4.out,HPS.out,HN2⟩
     case measure=>simp [intOf];omega
    ·have HE:=Lib.hid (show Bo RestP U b a [] [] g from HN.out.2.2.2 [] g (by rw [HDR.out];exact ⟨put,0,HCP.out,.inr ⟨rfl,nw,g,HPR.out,.inl ⟨hg,rfl,rfl⟩⟩⟩))
     clear HN HCP HPS
     go_wp2_with fail
     exact bodyPost_ret (v:=.tuple #[.slice none 0 0,.int .i64 g]) (by simp [results,Tryz.results50,go_sem]) rfl ⟨hB,_,[],g,rfl,⟨0,HR.out,.inr ⟨rfl,HE.out⟩⟩,World.ownsRow_nil _ _ _ _⟩
  ·have hke:a.drop k=[]:=List.drop_eq_nil_of_le (by rw [HL.out];omega)
   have hkn':¬ (k:Int)<len:=by omega
   have HE:=Lib.hid (show Bo RestP U b a [] cur 0 from HN.out.2.2.2 cur 0 (by rw [hke];exact ⟨rfl,rfl⟩))
   have HO:=Lib.hid hO
   clear hO hke HN hK
   go_wp2_with fail
   refine bodyPost_ret (v:=.tuple #[.slice av m cv,.int .i64 0]) (by simp [results,Tryz.results50,go_sem]) rfl ⟨hB,_,cur,0,rfl,⟨0,HR.out,.inr ⟨rfl,HE.out⟩⟩,?_⟩
   rw [←HM.out]
   exact HO.out
set_option maxRecDepth 100000 in
set_option maxHeartbeats 8000000 in
theorem and_gen (ao:Option Addr) (len cap:Nat) (a:List (List Int)) (bo:Option Addr) (lenb capb:Nat) (b:List (List Int)) (w:World) (hP:Pl w) (hZ:len≤4096→lenb≤4096→(Zs w.heap.size w (.slice ao len cap) a∧Six a)∧Zs w.heap.size w (.slice bo lenb capb) b∧Six b) (hl:a.length=len) (hlb:b.length=lenb):
  Calls Tryz.prog 22 #[.slice ao len cap,.slice bo lenb capb] w (Zans (BothX RestP MetT a b) w):=by
 have c:=both_fn MetT 59 ao len cap a bo lenb capb b w hP hZ hl hlb (fun y0 y1 y2 y3 y4 y5 z0 z1 z2 z3 z4 z5 W ty tz hB Bt Zb h1 h2=>pair_meet MetT y0 y1 y2 y3 y4 y5 z0 z1 z2 z3 z4 z5 Bt Zb W h1 h2 (fun X hX=>zmeet_any y0 y1 y2 y3 y4 y5 z0 z1 z2 z3 z4 z5 X (hP.on (later hB hX)) ty tz)) meet_zo
 clear hZ hl hlb hP
 go_enter Tryz.func22,Tryz.ntmps22
 go_wp2_with fail
 refine Calls.mono c ?_
 rintro e w1 ⟨hB,v,r,f,rfl,hR,hO⟩
 obtain ⟨av,cv,rfl⟩:=zs_len (zs_own hO)
 have HR:=Lib.hid hR
 have HO:=Lib.hid hO
 clear hR hO
 generalize hn:r.length=n at HO ⊢
 have HN:=Lib.hid hn
 clear hn
 go_wp2_with fail
 refine bodyPost_ret (v:=.tuple #[.slice av n cv,.int .i64 f]) (by simp [results,Tryz.results22,go_sem]) rfl ⟨hB,_,r,f,rfl,HR.out,?_⟩
 rw [HN.out]
 exact HO.out
set_option maxRecDepth 100000 in
set_option maxHeartbeats 8000000 in
theorem zcomp_gen (ao:Option Addr) (len cap:Nat) (a:List (List Int)) (bo:Option Addr) (lenb capb:Nat) (b:List (List Int)) (w:World) (hP:Pl w) (hZ:len≤4096→lenb≤4096→(Zs w.heap.size w (.slice ao len cap) a∧Six a)∧Zs w.heap.size w (.slice bo lenb capb) b∧Six b) (hl:a.length=len) (hlb:b.length=lenb):
  Calls Tryz.prog 16 #[.slice ao len cap,.slice bo lenb capb] w (Zans (BothX RestP ComT a b) w):=by
 have c:=both_fn ComT 51 ao len cap a bo lenb capb b w hP hZ hl hlb (fun y0 y1 y2 y3 y4 y5 z0 z1 z2 z3 z4 z5 W ty tz hB Bt Zb h1 h2=>pair_comp ComT y0 y1 y2 y3 y4 y5 z0 z1 z2 z3 z4 z5 Bt Zb W h1 h2 (fun X hX=>comp_any y0 y1 y2 y3 y4 y5 z0 z1 z2 z3 z4 z5 X (hP.on (later hB hX)) ty tz)) comp_zo
 clear hZ hl hlb hP
 go_enter Tryz.func16,Tryz.ntmps16
 go_wp2_with fail
 refine Calls.mono c ?_
 rintro e w1 ⟨hB,v,r,f,rfl,hR,hO⟩
 obtain ⟨av,cv,rfl⟩:=zs_len (zs_own hO)
 have HR:=Lib.hid hR
 have HO:=Lib.hid hO
 clear hR hO
 generalize hn:r.length=n at HO ⊢
 have HN:=Lib.hid hn
 clear hn
 go_wp2_with fail
 refine bodyPost_ret (v:=.tuple #[.slice av n cv,.int .i64 f]) (by simp [results,Tryz.results16,go_sem]) rfl ⟨hB,_,r,f,rfl,HR.out,?_⟩
 rw [HN.out]
 exact HO.out
set_option maxRecDepth 100000 in
set_option maxHeartbeats 8000000 in
theorem within_gen (ao:Option Addr) (len cap:Nat) (l:List (List Int)) (lo:Int) (ls:Bool) (hi:Int) (hs op:Bool) (w:World) (hP:Pl w) (hA:Pa w) (hZ:len≤4096→Zs w.heap.size w (.slice ao len cap) l∧Six l) (hl:l.length=len):
  Calls Tryz.prog 29 #[.slice ao len cap,.agg #[.int .i64 lo,.bool ls,.int .i64 hi,.bool hs,.bool op]] w (Zans (fun r f=>∃ c,SpC (lo,ls,hi,hs,op) c∧EachX RestP (WinT (lo,ls,hi,hs,op)) c l r f) w):=by
 obtain ⟨w0,hX⟩:∃ w0,w0=w.alloc (.cells #[.int .i64 lo,.bool ls,.int .i64 hi,.bool hs,.bool op] 35):=⟨_,rfl⟩
 have DB:Below w.heap.size w w0:=by rw [hX];exact bound.up1 _ _
 have D0:lies.Lies w0 w.heap.size 35 #[.int .i64 lo,.bool ls,.int .i64 hi,.bool hs,.bool op]:=by rw [hX];exact lies.made _ _ _
 have HZ:=Lib.hid hZ
 have HL:=Lib.hid hl
 have HP:=Lib.hid hP
 have HA:=Lib.hid hA
 clear hZ hl hP hA
 go_enter Tryz.func29,Tryz.ntmps29
 go_wp2_with fail
 rw [←hX]
 clear hX
 refine (each_w (WinT (lo,ls,hi,hs,op)) (SpC (lo,ls,hi,hs,op)) (.pointer (some ⟨w.heap.size,0,none⟩)) ao len cap l w0 (HP.out.on DB) (HA.out.on DB) (fun h=>⟨((HZ.out h).1.below DB).mono DB.size,(HZ.out h).2⟩) HL.out (fun z0 z1 z2 z3 z4 z5 W tz hB=>within1_any z0 z1 z2 z3 z4 z5 lo ls hi hs op w.heap.size W (HP.out.on (later DB hB)) tz (lies.on_call D0 hB)) (by by_cases h:MayP (lo,ls,hi,hs,op);exact ⟨0,.inl ⟨h,rfl⟩⟩;exact ⟨8,.inr ⟨h,rfl⟩⟩) (fun r e h=>col_span h) within_zo).mono ?_
 rintro e w1 ⟨hB,v,r,f,rfl,hR,hO⟩
 obtain ⟨av,cv,rfl⟩:=zs_len (zs_own hO)
 have HR:=Lib.hid hR
 have HO:=Lib.hid hO
 clear hR hO
 generalize hn:r.length=n at HO ⊢
 have HN:=Lib.hid hn
 clear hn
 go_wp2_with fail
 refine bodyPost_ret (v:=.tuple #[.slice av n cv,.int .i64 f]) (by simp [results,Tryz.results29,go_sem]) rfl ⟨later DB hB,_,r,f,rfl,HR.out,?_⟩
 rw [HN.out]
 exact own_far HO.out DB.size (fun _ _ _ q=>q)
set_option maxRecDepth 100000 in
set_option maxHeartbeats 8000000 in
theorem window_gen (ao:Option Addr) (len cap:Nat) (l:List (List Int)) (fr tt:Int) (w:World) (hP:Pl w) (hA:Pa w) (hZ:len≤4096→Zs w.heap.size w (.slice ao len cap) l∧Six l) (hl:l.length=len):
  Calls Tryz.prog 31 #[.slice ao len cap,.int .i64 fr,.int .i64 tt] w (Zans (fun r f=>∃ c,NuC fr tt c∧EachX RestP (LatT fr tt) c l r f) w):=by
 obtain ⟨w0,hX⟩:∃ w0,w0=(w.alloc (.cells #[.int .i64 fr] 3)).alloc (.cells #[.int .i64 tt] 3):=⟨_,rfl⟩
 have DB:Below w.heap.size w w0:=by rw [hX];exact bound.up2 _ _ _
 have D0:lies.Lies w0 w.heap.size 3 #[.int .i64 fr]:=by rw [hX];exact lies.on_alloc (lies.made _ _ _) _
 have D1:lies.Lies w0 (w.heap.size+1) 3 #[.int .i64 tt]:=by rw [hX];exact lies.made_at _ _ _ _ (by simp)
 have HZ:=Lib.hid hZ
 have HL:=Lib.hid hl
 have HP:=Lib.hid hP
 have HA:=Lib.hid hA
 clear hZ hl hP hA
 go_enter Tryz.func31,Tryz.ntmps31
 go_wp2_with fail
 rw [←hX]
 clear hX
 refine (each_n (LatT fr tt) (NuC fr tt) (.pointer (some ⟨w.heap.size,0,none⟩)) (.pointer (some ⟨w.heap.size+1,0,none⟩)) ao len cap l w0 (HP.out.on DB) (HA.out.on DB) (fun h=>⟨((HZ.out h).1.below DB).mono DB.size,(HZ.out h).2⟩) HL.out (fun z0 z1 z2 z3 z4 z5 W tz hB=>window1_any z0 z1 z2 z3 z4 z5 fr tt w.heap.size (w.heap.size+1) W (HP.out.on (later DB hB)) tz (lies.on_call D0 hB) (lies.on_call D1 hB)) (by by_cases h:MayW fr tt;exact ⟨0,.inl ⟨h,rfl⟩⟩;exact ⟨2,.inr ⟨h,rfl⟩⟩) (fun r e h=>col_late h) window_zo).mono ?_
 rintro e w1 ⟨hB,v,r,f,rfl,hR,hO⟩
 obtain ⟨av,cv,rfl⟩:=zs_len (zs_own hO)
 have HR:=Lib.hid hR
 have HO:=Lib.hid hO
 clear hR hO
 generalize hn:r.length=n at HO ⊢
 have HN:=Lib.hid hn
 clear hn
 go_wp2_with fail
 refine bodyPost_ret (v:=.tuple #[.slice av n cv,.int .i64 f]) (by simp [results,Tryz.results31,go_sem]) rfl ⟨later DB hB,_,r,f,rfl,HR.out,?_⟩
 rw [HN.out]
 exact own_far HO.out DB.size (fun _ _ _ q=>q)
set_option maxRecDepth 100000 in
set_option maxHeartbeats 16000000 in
theorem or_gen (ao:Option Addr) (len cap:Nat) (a:List (List Int)) (bo:Option Addr) (lenb capb:Nat) (b:List (List Int)) (w:World) (hP:Pl w) (hZ:len≤4096→lenb≤4096→(Zs w.heap.size w (.slice ao len cap) a∧Six a)∧Zs w.heap.size w (.slice bo lenb capb) b∧Six b) (hl:a.length=len) (hlb:b.length=lenb):
  Calls Tryz.prog 20 #[.slice ao len cap,.slice bo lenb capb] w (Zans (OrX RestP a b) w):=by
 obtain ⟨w0,hX⟩:∃ w0,w0=w.alloc (.cells #[.slice ao len cap,.slice bo lenb capb] 29):=⟨_,rfl⟩
 have DB:Below w.heap.size w w0:=by rw [hX];exact bound.up1 _ _
 have D0:lies.Lies w0 w.heap.size 29 #[.slice ao len cap,.slice bo lenb capb]:=by rw [hX];exact lies.made _ _ _
 have HZ:=Lib.hid hZ
 have HL:=Lib.hid hl
 have HLB:=Lib.hid hlb
 have HP:=Lib.hid hP
 clear hZ hl hlb hP
 go_enter Tryz.func20,Tryz.ntmps20
 go_wp2_with fail
 rw [←hX]
 clear hX
 refine (zcheck_two _ ao len cap bo lenb capb a b w0 D0 (fun h k=>⟨HP.out.on DB,⟨((HZ.out h k).1.1.below DB).mono DB.size,(HZ.out h k).1.2⟩,((HZ.out h k).2.1.below DB).mono DB.size,(HZ.out h k).2.2⟩) HL.out HLB.out).mono ?_
 rintro e w1 ⟨hB,f,rfl,hR⟩
 replace DB:=later DB hB
 clear hB D0
 by_cases h0:f=0
 case neg=>
  have HR:=Lib.hid hR
  clear hR
  go_wp2_with fail
  exact bodyPost_ret (v:=.tuple #[.slice none 0 0,.int .i64 f]) (by simp [results,Tryz.results20,go_sem]) rfl ⟨DB,_,[],f,rfl,⟨f,HR.out,.inl ⟨h0,rfl,rfl⟩⟩,World.ownsRow_nil _ _ _ _⟩
 subst h0
 obtain ⟨h1,h2,h3,h4⟩:=chk_fine hR
 have h1:len≤4096:=by rw [←HL.out];exact h1
 have h2:lenb≤4096:=by rw [←HLB.out];exact h2
 obtain ⟨⟨hI,h6⟩,hJ,h6b⟩:=HZ.out h1 h2
 have HR:=Lib.hid hR
 have HI:=Lib.hid hI
 have HJ:=Lib.hid hJ
 have H6:=Lib.hid h6
 have H6B:=Lib.hid h6b
 clear hI hJ h6 h6b hR h3 h4 HZ
 go_wp2_with fail
 have hA:=bound.up1 w1 (.cells #[.slice ao len cap,.slice bo lenb capb] 29)
 have D3:=lies.made w1 29 #[.slice ao len cap,.slice bo lenb capb]
 replace DB:=later DB hA
 clear hA
 generalize w1.heap.size=LB at D3 ⊢
 generalize w1.alloc (.cells #[.slice ao len cap,.slice bo lenb capb] 29)=w3 at DB D3 ⊢
 have HSA:=Lib.hid (show ∀ k,k<2→∃ (p:Option Addr) (q c:Nat) (z:List (List Int)),w3.cell? ⟨LB,k,none⟩=some (.slice p q c)∧Zs w3.heap.size w3 (.slice p q c) z∧z.length=q∧((k=0∧q=len∧z=a)∨(k=1∧q=lenb∧z=b)) from fun k hk=>by
  rcases (by omega:k=0∨k=1) with rfl | rfl
  ·exact ⟨ao,len,cap,a,lies.cell D3 0,(HI.out.below DB).mono DB.size,HL.out,.inl ⟨rfl,rfl,rfl⟩⟩
  ·exact ⟨bo,lenb,capb,b,lies.cell D3 1,(HJ.out.below DB).mono DB.size,HLB.out,.inr ⟨rfl,rfl,rfl⟩⟩)
 have hlt:=lies.lt D3
 clear D3
 refine (concat_gen LB 2 len lenb a b w3 (.inr rfl) (fun e=>absurd e (by decide)) hlt HSA.out HL.out HLB.out (by omega)).mono ?_
 rintro e w4 ⟨v3,rfl,hO3,hB2⟩
 replace DB:=later DB hB2
 obtain ⟨av3,cv3,rfl⟩:=zs_len (zs_own hO3)
 have HPS:=Lib.hid (zs_own hO3)
 have P5:=HP.out.on DB
 have hpl:(a++b).length=len+lenb:=by rw [List.length_append,HL.out,HLB.out]
 rw [hpl] at HPS ⊢
 have HPL:=Lib.hid hpl
 clear hO3 hpl HSA hlt hB2
 generalize len+lenb=pm at HPS HPL ⊢
 go_wp2_with fail
 refine (of_any av3 pm cv3 (a++b) w4 P5 HPS.out (six_app H6.out H6B.out) HPL.out).mono ?_
 rintro e w6 ⟨hB2,v4,nw,g,rfl,hPr,hO4⟩
 have HO4:=Lib.hid (own_far hO4 DB.size (fun _ _ _ q=>q))
 replace DB:=later DB hB2
 obtain ⟨av4,cv4,rfl⟩:=zs_len (zs_own hO4)
 have HPR:=Lib.hid hPr
 clear hO4 hPr hB2 P5
 generalize hn:nw.length=n at HO4 ⊢
 have HN:=Lib.hid hn
 clear hn
 go_wp2_with fail
 refine bodyPost_ret (v:=.tuple #[.slice av4 n cv4,.int .i64 g]) (by simp [results,Tryz.results20,go_sem]) rfl ⟨DB,_,nw,g,rfl,⟨0,HR.out,.inr ⟨rfl,HPR.out⟩⟩,?_⟩
 rw [HN.out]
 exact HO4.out
set_option maxRecDepth 100000 in
set_option maxHeartbeats 8000000 in
theorem zin_any (ao:Option Addr) (len cap:Nat) (a:List (List Int)) (bo:Option Addr) (lenb capb:Nat) (b:List (List Int)) (w:World) (hP:Pl w) (hI:Zs w.heap.size w (.slice ao len cap) a) (h6:Six a) (hl:a.length=len) (hm:len≤1000000) (hJ:Zs w.heap.size w (.slice bo lenb capb) b) (h6b:Six b) (hlb:b.length=lenb) (hmb:lenb≤1000000):
  Calls Tryz.prog 33 #[.slice ao len cap,.slice bo lenb capb] w fun e w'=>Below w.heap.size w w'∧∃ (is:Bool) (f:Int),e=.returned (.tuple #[.bool is,.int .i64 f])∧AllX RestP a b is f:=by
 have c:=all_any ao len cap a bo lenb capb b w hP hI h6 hl hm hJ h6b hlb hmb
 clear hP hI h6 hl hJ h6b hlb
 go_enter Tryz.func33,Tryz.ntmps33
 go_wp2_with fail
 refine Calls.mono c ?_
 rintro e w1 ⟨hB,is,f,rfl,hR⟩
 have HR:=Lib.hid hR
 clear hR
 go_wp2_with fail
 exact bodyPost_ret (v:=.tuple #[.bool is,.int .i64 f]) (by simp [results,Tryz.results33,go_sem]) rfl ⟨hB,is,f,rfl,HR.out⟩
set_option maxRecDepth 100000 in
set_option maxHeartbeats 8000000 in
theorem zsame_any (ao:Option Addr) (len cap:Nat) (a:List (List Int)) (bo:Option Addr) (lenb capb:Nat) (b:List (List Int)) (w:World) (hP:Pl w) (hI:Zs w.heap.size w (.slice ao len cap) a) (h6:Six a) (hl:a.length=len) (hm:len≤1000000) (hJ:Zs w.heap.size w (.slice bo lenb capb) b) (h6b:Six b) (hlb:b.length=lenb) (hmb:lenb≤1000000):
  Calls Tryz.prog 14 #[.slice ao len cap,.slice bo lenb capb] w fun e w'=>Below w.heap.size w w'∧∃ (is:Bool) (f:Int),e=.returned (.tuple #[.bool is,.int .i64 f])∧SameX RestP a b is f:=by
 have c:=zin_any ao len cap a bo lenb capb b w hP hI h6 hl hm hJ h6b hlb hmb
 have HP:=Lib.hid hP
 have HI:=Lib.hid hI
 have HJ:=Lib.hid hJ
 have H6:=Lib.hid h6
 have H6B:=Lib.hid h6b
 have HL:=Lib.hid hl
 have HLB:=Lib.hid hlb
 clear hP hI h6 hl hJ h6b hlb
 go_enter Tryz.func14,Tryz.ntmps14
 go_wp2_with fail
 refine Calls.mono c ?_
 rintro e w1 ⟨hB,is,f,rfl,hR⟩
 have HR:=Lib.hid hR
 clear hR c
 cases is with
 | false=>
  go_wp2_with fail
  exact bodyPost_ret (v:=.tuple #[.bool false,.int .i64 f]) (by simp [results,Tryz.results14,go_sem]) rfl ⟨hB,false,f,rfl,false,f,HR.out,.inl ⟨rfl,rfl,rfl⟩⟩
 | true=>
  go_wp2_with fail
  refine (zin_any bo lenb capb b ao len cap a w1 (HP.out.on hB) (HJ.out.on hB) H6B.out HLB.out hmb (HI.out.on hB) H6.out HL.out hm).mono ?_
  rintro e w2 ⟨hB2,is,g,rfl,hR⟩
  have HR2:=Lib.hid hR
  replace hB:=later hB hB2
  clear hR hB2
  go_wp2_with fail
  exact bodyPost_ret (v:=.tuple #[.bool is,.int .i64 g]) (by simp [results,Tryz.results14,go_sem]) rfl ⟨hB,is,g,rfl,true,f,HR.out,.inr ⟨rfl,HR2.out⟩⟩
set_option maxRecDepth 100000 in
set_option maxHeartbeats 8000000 in
theorem mays_any (ao:Option Addr) (len cap:Nat) (l:List (List Int)) (w:World) (hP:Pl w) (hI:Zs w.heap.size w (.slice ao len cap) l) (h6:Six l) (hl:l.length=len) (hm:len≤1000000):
  Calls Tryz.prog 18 #[.slice ao len cap] w fun e w'=>Below w.heap.size w w'∧∃ f,e=.returned (.int .i64 f)∧MayS RestP l f:=by
 have c:=of_any ao len cap l w hP hI h6 hl
 have HI:=Lib.hid hI
 have H6:=Lib.hid h6
 have HL:=Lib.hid hl
 clear hP hI h6 hl
 go_enter Tryz.func18,Tryz.ntmps18
 go_wp2_with fail
 refine Calls.mono c ?_
 rintro e w1 ⟨hB,v,r,g,rfl,hR,hO⟩
 clear c
 obtain ⟨av,cv,rfl⟩:=zs_len (zs_own hO)
 have HR:=Lib.hid hR
 by_cases hg:g=0
 ·subst hg
  have hpf:=pru_fine H6.out hR
  have HS:=Lib.hid (zs_own hO)
  have HRZ:=Lib.hid hpf.2.1
  have hrl:r.length≤len:=by rw [←HL.out];exact hpf.2.2.1
  clear hpf hO hR
  obtain ⟨n,hn⟩:∃ n,n=r.length:=⟨_,rfl⟩
  have HN:=Lib.hid hn
  rw [←hn] at HS hrl ⊢
  clear hn
  go_wp2_with fail
  refine (equal_any av ao n cv len cap r l w1 HS.out (HI.out.on hB) HN.out.symm HL.out (by omega) hm (fun z hz=>(HRZ.out z hz).2.2) (fun z hz=>(H6.out z hz).1)).mono ?_
  rintro e w2 ⟨hB2,q,rfl,hq⟩
  replace hB:=later hB hB2
  clear hB2 HS
  cases q with
  | true=>
   have HE:=Lib.hid (hq.1 rfl)
   clear hq
   go_wp2_with fail
   exact bodyPost_ret (v:=.int .i64 0) (by simp [results,Tryz.results18,go_sem]) rfl ⟨hB,0,rfl,r,0,HR.out,by rw [if_pos ⟨rfl,HE.out⟩]⟩
  | false=>
   have HE:=Lib.hid (show ¬ r=l from fun e=>absurd (hq.2 e) (by decide))
   clear hq
   go_wp2_with fail
   exact bodyPost_ret (v:=.int .i64 8) (by simp [results,Tryz.results18,go_sem]) rfl ⟨hB,8,rfl,r,0,HR.out,by rw [if_neg (fun q=>HE.out q.2)]⟩
 ·clear hO hR
  go_wp2_with fail
  exact bodyPost_ret (v:=.int .i64 8) (by simp [results,Tryz.results18,go_sem]) rfl ⟨hB,8,rfl,r,g,HR.out,by rw [if_neg (fun q=>hg q.1)]⟩
set_option maxRecDepth 100000 in
set_option maxHeartbeats 8000000 in
theorem has1_any (z0 z1 z2 z3 z4 z5 pa pb pc pd:Int) (Bp:Nat) (w:World) (hP:Pl w) (hz:Zo [z0,z1,z2,z3,z4,z5]) (hq:MayQ (pa,pb,pc,pd)) (hF:zone.Fit [pa,pb,pc,pd]) (hB:lies.Lies w Bp 47 #[.int .i64 pa,.int .i64 pb,.int .i64 pc,.int .i64 pd]):
  Calls Tryz.prog 71 #[.agg #[.int .i64 z0,.int .i64 z1,.int .i64 z2,.int .i64 z3,.int .i64 z4,.int .i64 z5],.pointer (some ⟨Bp,0,none⟩)] w (Tell (hasP [z0,z1,z2,z3,z4,z5] (pa,pb,pc,pd)=true) w):=by
 obtain ⟨w0,hX⟩:∃ w0,w0=w.alloc (.cells #[.int .i64 z0,.int .i64 z1,.int .i64 z2,.int .i64 z3,.int .i64 z4,.int .i64 z5] 27):=⟨_,rfl⟩
 have DB:Below w.heap.size w w0:=by rw [hX];exact bound.up1 _ _
 have E0:lies.Lies w0 Bp 47 #[.int .i64 pa,.int .i64 pb,.int .i64 pc,.int .i64 pd]:=lies.on_call hB DB
 have P0:=hP.on DB
 have HZ:=Lib.hid hz
 have HQ:=Lib.hid hq
 have HF:=Lib.hid hF
 obtain ⟨⟨x0,x1,x2,x3⟩,-,xl⟩:=four_cells E0
 clear hP hz hq hF hB E0
 rw [hX] at x0 x1 x2 x3 xl
 go_enter Tryz.func71,Tryz.ntmps71
 go_wp2_with fail
 rw [←hX]
 clear hX x0 x1 x2 x3 xl
 refine (zone.has_any z0 z1 z2 z3 z4 z5 pa pb pc pd w0 P0 HZ.out.2.1 HF.out).mono ?_
 rintro e w1 ⟨hB,r,f,rfl,hR⟩
 replace DB:=later DB hB
 have HR:=Lib.hid (show r=true↔hasP [z0,z1,z2,z3,z4,z5] (pa,pb,pc,pd)=true by
  rcases hR with ⟨k,_⟩ | ⟨_,_,_,_,k⟩
  ·exact (k ⟨HZ.out.1,HQ.out.1,HQ.out.2⟩).elim
  ·rw [k]
   exact (has_kept HQ.out.1 HQ.out.2).symm)
 clear hR hB P0
 go_wp2_with fail
 exact bodyPost_ret (v:=.bool r) (by simp [results,Tryz.results71,go_sem]) rfl ⟨DB,r,rfl,HR.out⟩
set_option maxRecDepth 100000 in
set_option maxHeartbeats 16000000 in
theorem zhas_gen (ao:Option Addr) (len cap:Nat) (l:List (List Int)) (pa pb pc pd:Int) (w:World) (hP:Pl w) (hA:Pa w) (hZ:len≤4096→Zs w.heap.size w (.slice ao len cap) l∧Six l) (hl:l.length=len) (hF:zone.Fit [pa,pb,pc,pd]):
  Calls Tryz.prog 36 #[.slice ao len cap,.agg #[.int .i64 pa,.int .i64 pb,.int .i64 pc,.int .i64 pd]] w fun e w'=>Below w.heap.size w w'∧∃ (is:Bool) (f:Int),e=.returned (.tuple #[.bool is,.int .i64 f])∧HasX l (pa,pb,pc,pd) is f:=by
 obtain ⟨w0,hX⟩:∃ w0,w0=(w.alloc (.cells #[.int .i64 pa,.int .i64 pb,.int .i64 pc,.int .i64 pd] 47)).alloc (.cells #[.slice ao len cap] 29):=⟨_,rfl⟩
 have DB:Below w.heap.size w w0:=by rw [hX];exact bound.up2 _ _ _
 have DP:lies.Lies w0 w.heap.size 47 #[.int .i64 pa,.int .i64 pb,.int .i64 pc,.int .i64 pd]:=by rw [hX];exact lies.on_alloc (lies.made _ _ _) _
 have D0:lies.Lies w0 (w.heap.size+1) 29 #[.slice ao len cap]:=by rw [hX];exact lies.made_at _ _ _ _ (by simp)
 have HZ:=Lib.hid hZ
 have HL:=Lib.hid hl
 have HP:=Lib.hid hP
 have HA:=Lib.hid hA
 have HF:=Lib.hid hF
 clear hZ hl hP hA hF
 go_enter Tryz.func36,Tryz.ntmps36
 go_wp2_with fail
 rw [←hX]
 clear hX
 refine (zcheck_one _ ao len cap l w0 D0 (fun h=>⟨HP.out.on DB,((HZ.out h).1.below DB).mono DB.size,(HZ.out h).2⟩) HL.out).mono ?_
 rintro e w1 ⟨hB,f,rfl,hR⟩
 replace DB:=later DB hB
 replace DP:=lies.on_call DP hB
 clear hB D0
 by_cases h0:f=0
 case neg=>
  have HR:=Lib.hid hR
  clear hR
  go_wp2_with fail
  exact bodyPost_ret (v:=.tuple #[.bool false,.int .i64 f]) (by simp [results,Tryz.results36,go_sem]) rfl ⟨DB,false,f,rfl,f,HR.out,.inl ⟨h0,rfl,rfl⟩⟩
 subst h0
 obtain ⟨h1,-,h3,-⟩:=chk_fine hR
 have h1:len≤4096:=by rw [←HL.out];exact h1
 obtain ⟨hI,h6⟩:=HZ.out h1
 have HR:=Lib.hid hR
 have HI:=Lib.hid hI
 have HML:=Lib.hid (h6.zo h3)
 clear hI h6 hR h3 HZ
 obtain ⟨pl,p0,p1,p2,p3,p4,p5⟩:=HA.out.on DB
 obtain ⟨⟨x0,x1,x2,x3⟩,-,xl⟩:=four_cells DP
 go_wp2_with fail
 clear p0 p1 p2 p3 p4 p5 pl x0 x1 x2 x3 xl
 refine (zone.has_any 9223372036854775807 9223372036854775807 9223372036854775807 9223372036854775807 9223372036854775807 9223372036854775807 pa pb pc pd w1 (HP.out.on DB) zo_all.2.1 HF.out).mono ?_
 rintro e w2 ⟨hB,r,f,rfl,hR⟩
 replace DB:=later DB hB
 replace DP:=lies.on_call DP hB
 clear hB
 have hq:(¬ MayQ (pa,pb,pc,pd)∧f=8)∨(MayQ (pa,pb,pc,pd)∧f=0):=by
  rcases hR with ⟨k,_,e⟩ | ⟨_,k1,k2,e,_⟩
  ·exact .inl ⟨fun q=>k ⟨zo_all.1,q.1,q.2⟩,e⟩
  ·exact .inr ⟨⟨k1,k2⟩,e⟩
 clear hR
 rcases hq with ⟨hq,rfl⟩ | ⟨hq,rfl⟩
 ·have HQ:=Lib.hid hq
  clear hq
  go_wp2_with fail
  exact bodyPost_ret (v:=.tuple #[.bool false,.int .i64 8]) (by simp [results,Tryz.results36,go_sem]) rfl ⟨DB,false,8,rfl,0,HR.out,.inr ⟨rfl,.inl ⟨HQ.out,rfl,rfl⟩⟩⟩
 ·have HQ:=Lib.hid hq
  clear hq
  go_wp2_with fail
  refine (contains_fn1 (fun z=>hasP z (pa,pb,pc,pd)=true) (.pointer (some ⟨w.heap.size,0,none⟩)) ao len cap l w2 ((HI.out.below DB).mono DB.size) (fun z hz=>(HML.out z hz).2.2) HL.out (by omega) (fun z0 z1 z2 z3 z4 z5 W hz hB=>has1_any z0 z1 z2 z3 z4 z5 pa pb pc pd w.heap.size W (HP.out.on (later DB hB)) (HML.out _ hz) HQ.out HF.out (lies.on_call DP hB))).mono ?_
  rintro e w3 ⟨hB,r,rfl,hr⟩
  replace DB:=later DB hB
  have HRR:=Lib.hid hr
  clear hB hr DP
  go_wp2_with fail
  exact bodyPost_ret (v:=.tuple #[.bool r,.int .i64 0]) (by simp [results,Tryz.results36,go_sem]) rfl ⟨DB,r,0,rfl,0,HR.out,.inr ⟨rfl,.inr ⟨HQ.out,rfl,HRR.out⟩⟩⟩
end Go.Proofs.YthmljpccbjolgaaGreatDoor.zset
