
/-
  What the document's own calls of layer 13 answer; each theorem names its conditions.
-/
import Derived.Test.YthmljpccbjolgaaGreatDoorZsetB
import Derived.Test.YthmljpccbjolgaaGreatDoorCoverR
import Derived.Test.YthmljpccbjolgaaGreatDoorCompT
import Derived.Test.YthmljpccbjolgaaGreatDoorWinR
namespace Go.Proofs.YthmljpccbjolgaaGreatDoor.sref
open Go.Joins Go.ChangeShapes Go.WideShapes Go.ChangeAt Go.RowKit num rat dbm dref Go.Proofs.YthmljpccbjolgaaGreatDoor.tight Go.Proofs.YthmljpccbjolgaaGreatDoor.incl Go.Proofs.YthmljpccbjolgaaGreatDoor.plaw Go.Proofs.YthmljpccbjolgaaGreatDoor.zopen Go.Proofs.YthmljpccbjolgaaGreatDoor.zone Go.Proofs.YthmljpccbjolgaaGreatDoor.comp Go.Proofs.YthmljpccbjolgaaGreatDoor.win Go.Proofs.YthmljpccbjolgaaGreatDoor.minus Go.Proofs.YthmljpccbjolgaaGreatDoor.mz Go.Proofs.YthmljpccbjolgaaGreatDoor.mlaw Go.Proofs.YthmljpccbjolgaaGreatDoor.zref Go.Proofs.YthmljpccbjolgaaGreatDoor.mref Go.Proofs.YthmljpccbjolgaaGreatDoor.cover Go.Proofs.YthmljpccbjolgaaGreatDoor.cref Go.Proofs.YthmljpccbjolgaaGreatDoor.zset
open bound hiding up
set_option linter.unusedVariables false
set_option linter.unusedSimpArgs false
set_option linter.unusedSectionVars false
theorem zo_low {z:List Int} (h:Zo z):Low z:=fun x hx=>by
 obtain ⟨i,hi,rfl⟩:=List.getElem_of_mem hx
 have f:=six_fine h.1.may i (by rw [←h.2.2];exact hi)
 rw [List.getElem?_eq_getElem hi] at f
 have f:Fine z[i]:=f
 unfold Fine at f
 omega
set_option maxRecDepth 100000 in
set_option maxHeartbeats 8000000 in
theorem rof13_any (ao:Option Addr) (len cap:Nat) (l:List (List Int)) (w:World) (hI:Zs w.heap.size w (.slice ao len cap) l) (h6:Six l) (lol:∀ z,z ∈ l→Low z) (hl:l.length=len) (hm:len≤1000000):Calls Tryz.prog 26 #[.slice ao len cap] w (Zans (PruX RestR l) w):=by
 have c:=rprune_any ao len cap l w hI h6 lol hl hm
 clear hI h6 lol hl
 go_enter Tryz.func26,Tryz.ntmps26
 go_wp2_with fail
 refine Calls.mono c ?_
 rintro e w1 ⟨hB,v,r,f,rfl,hR,hO⟩
 obtain ⟨av,cv,rfl⟩:=zs_len (zs_own hO)
 have HR:=Lib.hid hR
 have HO:=Lib.hid hO
 clear hR hO c
 generalize hn:r.length=n at HO ⊢
 have HN:=Lib.hid hn
 clear hn
 go_wp2_with fail
 refine bodyPost_ret (v:=.tuple #[.slice av n cv,.int .i64 f]) (by simp [results,Tryz.results26,go_sem]) rfl ⟨hB,_,r,f,rfl,HR.out,?_⟩
 rw [HN.out]
 exact HO.out
set_option maxRecDepth 100000 in
set_option maxHeartbeats 8000000 in
theorem rin13_any (ao:Option Addr) (len cap:Nat) (a:List (List Int)) (bo:Option Addr) (lenb capb:Nat) (b:List (List Int)) (w:World) (hI:Zs w.heap.size w (.slice ao len cap) a) (hJ:Zs w.heap.size w (.slice bo lenb capb) b) (ha:Six a) (hb:Six b) (loa:∀ z,z ∈ a→Low z) (lob:∀ z,z ∈ b→Low z) (hla:a.length=len) (hlb:b.length=lenb) (hma:len≤100000) (hmb:lenb≤100000):Calls Tryz.prog 34 #[.slice ao len cap,.slice bo lenb capb] w fun e w'=>Below w.heap.size w w'∧∃ (is:Bool) (f:Int),e=.returned (.tuple #[.bool is,.int .i64 f])∧AllX RestR a b is f:=by
 have c:=rall_any ao len cap bo lenb capb a b w hI hJ ha hb loa lob hla hlb (by omega) (by omega)
 clear hI hJ ha hb loa lob hla hlb
 go_enter Tryz.func34,Tryz.ntmps34
 go_wp2_with fail
 refine Calls.mono c ?_
 rintro e w1 ⟨hB,is,f,rfl,hR⟩
 have HR:=Lib.hid hR
 clear hR
 go_wp2_with fail
 exact bodyPost_ret (v:=.tuple #[.bool is,.int .i64 f]) (by simp [results,Tryz.results34,go_sem]) rfl ⟨hB,is,f,rfl,HR.out⟩
set_option maxRecDepth 100000 in
set_option maxHeartbeats 8000000 in
theorem rsame13_any (ao:Option Addr) (len cap:Nat) (a:List (List Int)) (bo:Option Addr) (lenb capb:Nat) (b:List (List Int)) (w:World) (hI:Zs w.heap.size w (.slice ao len cap) a) (hJ:Zs w.heap.size w (.slice bo lenb capb) b) (ha:Six a) (hb:Six b) (loa:∀ z,z ∈ a→Low z) (lob:∀ z,z ∈ b→Low z) (hla:a.length=len) (hlb:b.length=lenb) (hma:len≤100000) (hmb:lenb≤100000):Calls Tryz.prog 35 #[.slice ao len cap,.slice bo lenb capb] w fun e w'=>Below w.heap.size w w'∧∃ (is:Bool) (f:Int),e=.returned (.tuple #[.bool is,.int .i64 f])∧SameX RestR a b is f:=by
 have c:=rin13_any ao len cap a bo lenb capb b w hI hJ ha hb loa lob hla hlb hma hmb
 have HI:=Lib.hid hI
 have HJ:=Lib.hid hJ
 have H6:=Lib.hid ha
 have H6B:=Lib.hid hb
 have HLA:=Lib.hid loa
 have HLO:=Lib.hid lob
 have HL:=Lib.hid hla
 have HLB:=Lib.hid hlb
 clear hI hJ ha hb loa lob hla hlb
 go_enter Tryz.func35,Tryz.ntmps35
 go_wp2_with fail
 refine Calls.mono c ?_
 rintro e w1 ⟨hB,is,f,rfl,hR⟩
 clear c
 by_cases h0:f=0
 ·subst h0
  have HR:=Lib.hid hR
  clear hR
  cases is with
  | false=>
   go_wp2_with fail
   exact bodyPost_ret (v:=.tuple #[.bool false,.int .i64 0]) (by simp [results,Tryz.results35,go_sem]) rfl ⟨hB,false,0,rfl,false,0,HR.out,.inl ⟨rfl,rfl,rfl⟩⟩
  | true=>
   go_wp2_with fail
   refine (rin13_any bo lenb capb b ao len cap a w1 (HJ.out.on hB) (HI.out.on hB) H6B.out H6.out HLO.out HLA.out HLB.out HL.out hmb hma).mono ?_
   rintro e w2 ⟨hB2,is,g,rfl,hR⟩
   have HR2:=Lib.hid hR
   replace hB:=later hB hB2
   clear hR hB2
   go_wp2_with fail
   exact bodyPost_ret (v:=.tuple #[.bool is,.int .i64 g]) (by simp [results,Tryz.results35,go_sem]) rfl ⟨hB,is,g,rfl,true,0,HR.out,.inr ⟨rfl,HR2.out⟩⟩
 ·obtain rfl:=all_err (.inr rfl) hR h0
  have hfb:(f==0)=false:=beq_eq_false_iff_ne.2 h0
  have HR:=Lib.hid hR
  clear hR
  go_wp2_with fail
  exact bodyPost_ret (v:=.tuple #[.bool false,.int .i64 f]) (by simp [results,Tryz.results35,go_sem]) rfl ⟨hB,false,f,rfl,false,f,HR.out,.inl ⟨rfl,rfl,rfl⟩⟩
set_option maxRecDepth 100000 in
set_option maxHeartbeats 16000000 in
theorem holds_any (ao:Option Addr) (len cap:Nat) (l:List (List Int)) (pa pb pc pd:Int) (w:World) (hI:Zs w.heap.size w (.slice ao len cap) l) (hz:∀ x,x ∈ l→Zo x) (hl:l.length=len) (hm:len≤1000000) (hq:MayQ (pa,pb,pc,pd)) (hF:zone.Fit [pa,pb,pc,pd]):
  Calls Tryz.prog 74 #[.slice ao len cap,.agg #[.int .i64 pa,.int .i64 pb,.int .i64 pc,.int .i64 pd]] w (Tell (∃ z,z ∈ l∧hasP z (pa,pb,pc,pd)=true) w):=by
 obtain ⟨w0,hX⟩:∃ w0,w0=w.alloc (.cells #[.int .i64 pa,.int .i64 pb,.int .i64 pc,.int .i64 pd] 47):=⟨_,rfl⟩
 have DB:Below w.heap.size w w0:=by rw [hX];exact bound.up1 _ _
 have DP:lies.Lies w0 w.heap.size 47 #[.int .i64 pa,.int .i64 pb,.int .i64 pc,.int .i64 pd]:=by rw [hX];exact lies.made _ _ _
 have HI:=Lib.hid hI
 have HZ:=Lib.hid hz
 have HL:=Lib.hid hl
 have HQ:=Lib.hid hq
 have HF:=Lib.hid hF
 clear hI hz hl hq hF
 go_enter Tryz.func74,Tryz.ntmps74
 go_wp2_with fail
 rw [←hX]
 clear hX
 go_loopw [5] (fun i wr=>∃ k:Nat,k≤len∧i=.int .i64 k∧Below w.heap.size w wr∧lies.Lies wr w.heap.size 47 #[.int .i64 pa,.int .i64 pb,.int .i64 pc,.int .i64 pd]∧RowKit.Hid (∀ j,j<k→hasP (zat l j) (pa,pb,pc,pd)≠true)) (fun i _=>len - (intOf i).toNat)
 case atStart=>exact ⟨0,Nat.zero_le _,rfl,DB,DP,Lib.hid (fun j hj=>absurd hj (Nat.not_lt_zero j))⟩
 case round=>
  clear DB DP
  obtain ⟨k,hk,rfl,DB,DP,HN⟩:=hrel
  by_cases hkn:k<len
  ·have hkz:k<l.length:=by rw [HL.out];exact hkn
   have hzo:=HZ.out _ (zat_mem hkz)
   obtain ⟨bq,off,z0,z1,z2,z3,z4,z5,rfl,hb,ez⟩:=zs_six (HI.out.below DB) hkz hzo.2.2
   have hmem:=zat_mem hkz
   rw [ez] at hzo hmem
   have hbr:bq<wr.heap.size:=Nat.lt_of_lt_of_le hb DB.size
   have HEZ:=Lib.hid ez
   have HKZ:=Lib.hid hkz
   have HZO:=Lib.hid hzo
   have HMEM:=Lib.hid hmem
   have hkn':(k:Int)<len:=by omega
   have pl:=lies.lt DP
   clear ez hkz hzo hmem hb
   go_wp2_with fail
   refine wp_region_held_drew (S:=Below wr.heap.size wr) (by kernel_rfl) (dbm.drawn1 (Below.refl _ _)) (fun hHeld=>?_)
   refine tk 0 (v:=?_) rfl hHeld ?_ ?_
   rotate_left
   ·intro w hSw;obtain ⟨c0,c1,c2,c3,c4,c5⟩:=zs_cells (HI.out.below (later DB hSw)) HKZ.out HEZ.out;obtain ⟨⟨x0,x1,x2,x3⟩,-⟩:=four_cells (lies.on_call DP hSw);go_simp;try with_reducible rfl
   try simp only [Act.put,sA,sB,sC,sD,sE,sF]
   refine tk 1 (v:=?_) rfl hHeld ?_ ?_
   rotate_left
   ·intro w hSw;obtain ⟨c0,c1,c2,c3,c4,c5⟩:=zs_cells (HI.out.below (later DB hSw)) HKZ.out HEZ.out;obtain ⟨⟨x0,x1,x2,x3⟩,-⟩:=four_cells (lies.on_call DP hSw);go_simp;try with_reducible rfl
   try simp only [Act.put,sA,sB,sC,sD,sE,sF]
   refine tk 2 (v:=?_) rfl hHeld ?_ ?_
   rotate_left
   ·intro w hSw;obtain ⟨c0,c1,c2,c3,c4,c5⟩:=zs_cells (HI.out.below (later DB hSw)) HKZ.out HEZ.out;obtain ⟨⟨x0,x1,x2,x3⟩,-⟩:=four_cells (lies.on_call DP hSw);go_simp;try with_reducible rfl
   try simp only [Act.put,sA,sB,sC,sD,sE,sF]
   refine tk 3 (v:=?_) rfl hHeld ?_ ?_
   rotate_left
   ·intro w hSw;obtain ⟨c0,c1,c2,c3,c4,c5⟩:=zs_cells (HI.out.below (later DB hSw)) HKZ.out HEZ.out;obtain ⟨⟨x0,x1,x2,x3⟩,-⟩:=four_cells (lies.on_call DP hSw);go_simp;try with_reducible rfl
   try simp only [Act.put,sA,sB,sC,sD,sE,sF]
   refine tk 4 (v:=?_) rfl hHeld ?_ ?_
   rotate_left
   ·intro w hSw;obtain ⟨c0,c1,c2,c3,c4,c5⟩:=zs_cells (HI.out.below (later DB hSw)) HKZ.out HEZ.out;obtain ⟨⟨x0,x1,x2,x3⟩,-⟩:=four_cells (lies.on_call DP hSw);go_simp;try with_reducible rfl
   try simp only [Act.put,sA,sB,sC,sD,sE,sF]
   refine wpAnyH_ready (rs:=[5]) (by kernel_rfl) (by simp) (AllReadyH.cons rfl (fun K hK=>?_) AllReadyH.nil)
   go_simp
   refine (rinside_any z0 z1 z2 z3 z4 z5 pa pb pc pd _ HZO.out.1 HF.out HQ.out.1 HQ.out.2).mono ?_
   rintro e w2 ⟨hB2,r,rfl,hr⟩
   refine hK.out _ _ (hHeld.trans (hB2.mono hHeld.size)) (fun hNew=>?_)
   clear hB2
   clear hHeld hK K
   have hHeld:=hNew
   clear hNew
   try simp only [Act.put,sA,sB,sC,sD,sE,sF]
   refine wpAnyH_done (by kernel_rfl) ?_ _
   replace DP:=lies.on_call DP hHeld
   replace DB:=later DB hHeld
   have HRR:=Lib.hid (show r=true↔hasP [z0,z1,z2,z3,z4,z5] (pa,pb,pc,pd)=true by
    rw [hr]
    exact (has_kept HQ.out.1 HQ.out.2).symm)
   clear hr hHeld pl hbr
   cases r with
   | true=>
    have HQ1:=Lib.hid (HRR.out.1 rfl)
    clear HRR
    go_wp2_with fail
    exact bodyPost_ret (v:=.bool true) (by simp [results,Tryz.results74,go_sem]) rfl ⟨DB,true,rfl,⟨fun _=>⟨_,HMEM.out,HQ1.out⟩,fun _=>rfl⟩⟩
   | false=>
    have HQ1:=Lib.hid (show ¬ hasP [z0,z1,z2,z3,z4,z5] (pa,pb,pc,pd)=true from fun q=>absurd (HRR.out.2 q) (by decide))
    clear HRR
    go_wp2_with fail
    go_roundw
    case rel=>exact ⟨k+1,by omega,by go_num,DB,DP,Lib.hid (fun j hj=>by
     by_cases e:j=k
     ·rw [e,HEZ.out]
      exact HQ1.out
     ·exact HN.out j (by omega))⟩
    case measure=>simp [intOf];omega
  ·obtain rfl:len=k:=by omega
   have hkn':¬ (len:Int)<len:=by omega
   go_wp2_with fail
   exact bodyPost_ret (v:=.bool false) (by simp [results,Tryz.results74,go_sem]) rfl ⟨DB,false,rfl,⟨fun h=>(by cases h),fun ⟨z,hz,q⟩=>by
    obtain ⟨i,hi,rfl⟩:=List.getElem_of_mem hz
    have:=HN.out i (by rw [←HL.out];exact hi)
    unfold zat at this
    rw [List.getElem?_eq_getElem hi] at this
    exact (this q).elim⟩⟩
set_option maxRecDepth 100000 in
set_option maxHeartbeats 16000000 in
theorem rhas13_any (ao:Option Addr) (len cap:Nat) (l:List (List Int)) (pa pb pc pd:Int) (w:World) (hI:Zs w.heap.size w (.slice ao len cap) l) (h6:Six l) (lol:∀ z,z ∈ l→Low z) (hl:l.length=len) (hm:len≤1000000) (hF:zone.Fit [pa,pb,pc,pd]):
  Calls Tryz.prog 37 #[.slice ao len cap,.agg #[.int .i64 pa,.int .i64 pb,.int .i64 pc,.int .i64 pd]] w fun e w'=>Below w.heap.size w w'∧∃ (is:Bool) (f:Int),e=.returned (.tuple #[.bool is,.int .i64 f])∧HasX l (pa,pb,pc,pd) is f:=by
 obtain ⟨w0,hX⟩:∃ w0,w0=w.alloc (.cells #[.int .i64 pa,.int .i64 pb,.int .i64 pc,.int .i64 pd] 47):=⟨_,rfl⟩
 have DB:Below w.heap.size w w0:=by rw [hX];exact bound.up1 _ _
 have DP:lies.Lies w0 w.heap.size 47 #[.int .i64 pa,.int .i64 pb,.int .i64 pc,.int .i64 pd]:=by rw [hX];exact lies.made _ _ _
 have c:=rcheck_any ao len cap none 0 0 l [] w0 (hI.on DB) (.inl ⟨⟨none,0,rfl,fun _=>rfl⟩,rfl⟩) h6 six_nil lol (fun z hz=>by cases hz) hl rfl hm (by decide)
 have HI:=Lib.hid hI
 have H6:=Lib.hid h6
 have HL:=Lib.hid hl
 have HF:=Lib.hid hF
 clear hI h6 lol hl hF
 go_enter Tryz.func37,Tryz.ntmps37
 go_wp2_with fail
 rw [←hX]
 clear hX
 refine Calls.mono c ?_
 rintro e w1 ⟨hB,f,rfl,hR⟩
 replace DB:=later DB hB
 replace DP:=lies.on_call DP hB
 clear c hB
 by_cases h0:f=0
 case neg=>
  have HR:=Lib.hid hR
  have hfb:(f==0)=false:=beq_eq_false_iff_ne.2 h0
  clear hR
  go_wp2_with fail
  exact bodyPost_ret (v:=.tuple #[.bool false,.int .i64 f]) (by simp [results,Tryz.results37,go_sem]) rfl ⟨DB,false,f,rfl,f,HR.out,.inl ⟨h0,rfl,rfl⟩⟩
 subst h0
 obtain ⟨-,-,h3,-⟩:=chk_fine hR
 have HR:=Lib.hid hR
 have HML:=Lib.hid (H6.out.zo h3)
 clear hR h3
 obtain ⟨⟨x0,x1,x2,x3⟩,-,xl⟩:=four_cells DP
 go_wp2_with fail
 clear x0 x1 x2 x3 xl
 refine (rpoint_any pa pb pc pd w1 HF.out).mono ?_
 rintro e w2 ⟨hB,r,rfl,hr⟩
 replace DB:=later DB hB
 replace DP:=lies.on_call DP hB
 clear hB
 cases r with
 | false=>
  have HQ:=Lib.hid (show ¬ MayQ (pa,pb,pc,pd) from fun q=>absurd (hr.2 q) (by decide))
  clear hr
  go_wp2_with fail
  exact bodyPost_ret (v:=.tuple #[.bool false,.int .i64 8]) (by simp [results,Tryz.results37,go_sem]) rfl ⟨DB,false,8,rfl,0,HR.out,.inr ⟨rfl,.inl ⟨HQ.out,rfl,rfl⟩⟩⟩
 | true=>
  have HQ:=Lib.hid (show MayQ (pa,pb,pc,pd) from hr.1 rfl)
  clear hr
  obtain ⟨⟨x0,x1,x2,x3⟩,-,xl⟩:=four_cells DP
  go_wp2_with fail
  clear x0 x1 x2 x3 xl
  refine (holds_any ao len cap l pa pb pc pd w2 ((HI.out.below DB).mono DB.size) HML.out HL.out hm HQ.out HF.out).mono ?_
  rintro e w3 ⟨hB,r,rfl,hr⟩
  replace DB:=later DB hB
  have HRR:=Lib.hid hr
  clear hB hr DP
  go_wp2_with fail
  exact bodyPost_ret (v:=.tuple #[.bool r,.int .i64 0]) (by simp [results,Tryz.results37,go_sem]) rfl ⟨DB,r,0,rfl,0,HR.out,.inr ⟨rfl,.inr ⟨HQ.out,rfl,HRR.out⟩⟩⟩
set_option maxRecDepth 100000 in
set_option maxHeartbeats 16000000 in
theorem rwithin13_any (ao:Option Addr) (len cap:Nat) (l:List (List Int)) (lo:Int) (ls:Bool) (hi:Int) (hs op:Bool) (w:World) (hI:Zs w.heap.size w (.slice ao len cap) l) (h6:Six l) (lol:∀ z,z ∈ l→Low z) (hl:l.length=len) (hm:len≤100000):
  Calls Tryz.prog 30 #[.slice ao len cap,.agg #[.int .i64 lo,.bool ls,.int .i64 hi,.bool hs,.bool op]] w (Zans (fun r f=>∃ c,SpC (lo,ls,hi,hs,op) c∧EachX RestR (WinT (lo,ls,hi,hs,op)) c l r f) w):=by
 obtain ⟨w0,hX⟩:∃ w0,w0=w.alloc (.cells #[.int .i64 lo,.bool ls,.int .i64 hi,.bool hs,.bool op] 35):=⟨_,rfl⟩
 have DB:Below w.heap.size w w0:=by rw [hX];exact bound.up1 _ _
 have DS:lies.Lies w0 w.heap.size 35 #[.int .i64 lo,.bool ls,.int .i64 hi,.bool hs,.bool op]:=by rw [hX];exact lies.made _ _ _
 have c:=rcheck_any ao len cap none 0 0 l [] w0 (hI.on DB) (.inl ⟨⟨none,0,rfl,fun _=>rfl⟩,rfl⟩) h6 six_nil lol (fun z hz=>by cases hz) hl rfl (by omega) (by decide)
 have HI:=Lib.hid hI
 have H6:=Lib.hid h6
 have HL:=Lib.hid hl
 clear hI h6 lol hl
 go_enter Tryz.func30,Tryz.ntmps30
 go_wp2_with fail
 rw [←hX]
 clear hX
 refine Calls.mono c ?_
 rintro e w1 ⟨hB,f,rfl,hR⟩
 replace DB:=later DB hB
 replace DS:=lies.on_call DS hB
 clear c hB
 have hcz:∃ c,SpC (lo,ls,hi,hs,op) c:=by
  by_cases h:MayP (lo,ls,hi,hs,op)
  ·exact ⟨0,.inl ⟨h,rfl⟩⟩
  ·exact ⟨8,.inr ⟨h,rfl⟩⟩
 by_cases h0:f=0
 case neg=>
  have HR:=Lib.hid hR
  have hfb:(f==0)=false:=beq_eq_false_iff_ne.2 h0
  obtain ⟨c,hc⟩:=hcz
  have HCZ:=Lib.hid hc
  clear hR hc
  go_wp2_with fail
  exact bodyPost_ret (v:=.tuple #[.slice none 0 0,.int .i64 f]) (by simp [results,Tryz.results30,go_sem]) rfl ⟨DB,_,[],f,rfl,⟨c,HCZ.out,f,HR.out,.inl ⟨h0,rfl,rfl⟩⟩,World.ownsRow_nil _ _ _ _⟩
 subst h0
 clear hcz
 obtain ⟨-,-,h3,-⟩:=chk_fine hR
 have HR:=Lib.hid hR
 have HML:=Lib.hid (H6.out.zo h3)
 clear hR h3
 obtain ⟨⟨x0,x1,x2,x3,x4⟩,-⟩:=five_cells DS
 have xl:=lies.lt DS
 go_wp2_with fail
 clear x0 x1 x2 x3 x4 xl
 refine (tref.spans_any lo ls hi hs op w1).mono ?_
 rintro e w2 ⟨rfl,hB⟩
 replace DB:=later DB hB
 replace DS:=lies.on_call DS hB
 clear hB
 by_cases hw:MayS lo hi hs op
 case neg=>
  have HW:=Lib.hid hw
  rw [decide_eq_false hw]
  clear hw
  go_wp2_with fail
  exact bodyPost_ret (v:=.tuple #[.slice none 0 0,.int .i64 8]) (by simp [results,Tryz.results30,go_sem]) rfl ⟨DB,_,[],8,rfl,⟨8,.inr ⟨HW.out,rfl⟩,0,HR.out,.inr ⟨rfl,.inl ⟨by decide,rfl,rfl⟩⟩⟩,World.ownsRow_nil _ _ _ _⟩
 have HW:=Lib.hid (show MayP (lo,ls,hi,hs,op) from hw)
 rw [decide_eq_true hw]
 clear hw
 go_wp2_with fail
 go_loopw [8,7] (fun i v wr=>∃ (k m:Nat) (cur:List (List Int)),k≤len∧i=.int .i64 k∧m=cur.length∧m≤k∧Below w.heap.size w wr∧lies.Lies wr w.heap.size 35 #[.int .i64 lo,.bool ls,.int .i64 hi,.bool hs,.bool op]∧wr.ownsRow (w.heap.size+1) 27 6 v m (flatZ cur)∧RowKit.Hid (∀ r f,Col (WinT (lo,ls,hi,hs,op)) (l.drop k) cur r f→Col (WinT (lo,ls,hi,hs,op)) l [] r f)) (fun i _ _=>len - (intOf i).toNat)
 case atStart=>exact ⟨0,0,[],Nat.zero_le _,rfl,rfl,Nat.le_refl _,DB,DS,World.ownsRow_nil _ _ _ _,Lib.hid (fun r f h=>h)⟩
 case round=>
  clear DB DS
  obtain ⟨k,m,cur,hk,rfl,hmc,hmk,hB,DS,hO,HC⟩:=hrel
  obtain ⟨av,cv,hv⟩:=zs_len (zs_own hO)
  rw [←hmc] at hv
  subst hv
  have HMC:=Lib.hid hmc
  clear hmc
  by_cases hkn:k<len
  ·have hkz:k<l.length:=by rw [HL.out];exact hkn
   have hkn':(k:Int)<len:=by omega
   have hzo:=HML.out _ (zat_mem hkz)
   obtain ⟨bq,off,z0,z1,z2,z3,z4,z5,rfl,hb,ez⟩:=zs_six (HI.out.below hB) hkz hzo.2.2
   have hbr:bq<wr.heap.size:=Nat.lt_of_lt_of_le hb hB.size
   have hdr:l.drop k=[z0,z1,z2,z3,z4,z5]::l.drop (k+1):=by
    rw [List.drop_eq_getElem_cons hkz,←ez]
    unfold zat
    rw [List.getElem?_eq_getElem hkz]
    rfl
   rw [ez] at hzo
   have HEZ:=Lib.hid ez
   have HKZ:=Lib.hid hkz
   have HZO:=Lib.hid hzo
   have HDR:=Lib.hid hdr
   clear ez hkz hzo hdr hb
   go_wp2_with fail
   have hBw:=hB
   clear hB
   refine wp_region_held_drew (S:=Below wr.heap.size wr) (by kernel_rfl) (dbm.drawn1 (Below.refl _ _)) (fun hHeld=>?_)
   generalize wr.drew=wD at hHeld ⊢
   refine tk 0 (v:=?_) rfl hHeld ?_ ?_
   rotate_left
   ·intro w hSw;obtain ⟨c0,c1,c2,c3,c4,c5⟩:=zs_cells (HI.out.below (later hBw hSw)) HKZ.out HEZ.out;obtain ⟨⟨x0,x1,x2,x3,x4⟩,-⟩:=five_cells (lies.on_call DS hSw);have xl:=lies.lt (lies.on_call DS hSw);go_simp;try with_reducible rfl
   try simp only [Act.put,sA,sB,sC,sD,sE,sF]
   refine tk 1 (v:=?_) rfl hHeld ?_ ?_
   rotate_left
   ·intro w hSw;obtain ⟨c0,c1,c2,c3,c4,c5⟩:=zs_cells (HI.out.below (later hBw hSw)) HKZ.out HEZ.out;obtain ⟨⟨x0,x1,x2,x3,x4⟩,-⟩:=five_cells (lies.on_call DS hSw);have xl:=lies.lt (lies.on_call DS hSw);go_simp;try with_reducible rfl
   try simp only [Act.put,sA,sB,sC,sD,sE,sF]
   refine tk 2 (v:=?_) rfl hHeld ?_ ?_
   rotate_left
   ·intro w hSw;obtain ⟨c0,c1,c2,c3,c4,c5⟩:=zs_cells (HI.out.below (later hBw hSw)) HKZ.out HEZ.out;obtain ⟨⟨x0,x1,x2,x3,x4⟩,-⟩:=five_cells (lies.on_call DS hSw);have xl:=lies.lt (lies.on_call DS hSw);go_simp;try with_reducible rfl
   try simp only [Act.put,sA,sB,sC,sD,sE,sF]
   refine tk 3 (v:=?_) rfl hHeld ?_ ?_
   rotate_left
   ·intro w hSw;obtain ⟨c0,c1,c2,c3,c4,c5⟩:=zs_cells (HI.out.below (later hBw hSw)) HKZ.out HEZ.out;obtain ⟨⟨x0,x1,x2,x3,x4⟩,-⟩:=five_cells (lies.on_call DS hSw);have xl:=lies.lt (lies.on_call DS hSw);go_simp;try with_reducible rfl
   try simp only [Act.put,sA,sB,sC,sD,sE,sF]
   refine tk 4 (v:=?_) rfl hHeld ?_ ?_
   rotate_left
   ·intro w hSw;obtain ⟨c0,c1,c2,c3,c4,c5⟩:=zs_cells (HI.out.below (later hBw hSw)) HKZ.out HEZ.out;obtain ⟨⟨x0,x1,x2,x3,x4⟩,-⟩:=five_cells (lies.on_call DS hSw);have xl:=lies.lt (lies.on_call DS hSw);go_simp;try with_reducible rfl
   try simp only [Act.put,sA,sB,sC,sD,sE,sF]
   refine wpAnyH_ready (rs:=[5,9]) (by kernel_rfl) (by simp) (AllReadyH.cons rfl (fun K hK=>?_) (AllReadyH.cons rfl (fun K hK=>?_) AllReadyH.nil))
   ·go_simp
    refine (wref.spanned_any z0 z1 z2 z3 z4 z5 lo ls hi hs op _ HZO.out.1 HZO.out.2.1 HW.out).mono ?_
    rintro e u1 ⟨hB9,o0,o1,o2,o3,o4,o5,f,rfl,hT9⟩
    have HT9:=Lib.hid (show (WinT (lo,ls,hi,hs,op)) [z0,z1,z2,z3,z4,z5] [o0,o1,o2,o3,o4,o5] f from .inr (.inr ⟨HZO.out.1,HW.out,hT9⟩))
    clear hT9
    have hB:=hB9
    clear hB9
    refine hK.out _ _ (hHeld.trans (hB.mono hHeld.size)) (fun hNew=>?_)
    clear hB
    clear hHeld hK K
    have hHeld:=hNew
    clear hNew
    try simp only [Act.put,sA,sB,sC,sD,sE,sF]
    refine tk 6 (v:=?_) rfl hHeld ?_ ?_
    rotate_left
    ·intro w hSw;skip;go_simp;try with_reducible rfl
    try simp only [Act.put,sA,sB,sC,sD,sE,sF]
    refine tk 7 (v:=?_) rfl hHeld ?_ ?_
    rotate_left
    ·intro w hSw;skip;go_simp;try with_reducible rfl
    try simp only [Act.put,sA,sB,sC,sD,sE,sF]
    refine tk 8 (v:=?_) rfl hHeld ?_ ?_
    rotate_left
    ·intro w hSw;skip;go_simp;try with_reducible rfl
    try simp only [Act.put,sA,sB,sC,sD,sE,sF]
    refine wpAnyH_ready (rs:=[9]) (by kernel_rfl) (by simp) (AllReadyH.cons rfl (fun K hK=>?_) AllReadyH.nil)
    go_simp
    have hT:=hHeld.size
    have L:=lies.made u1 27 #[.int .i64 0,.int .i64 0,.int .i64 0,.int .i64 0,.int .i64 0,.int .i64 0]
    have hAl:=hHeld.trans ((bound.up1 u1 (.cells #[.int .i64 0,.int .i64 0,.int .i64 0,.int .i64 0,.int .i64 0,.int .i64 0] 27)).mono hHeld.size)
    refine hK.out _ _ hAl (fun hNew=>?_)
    clear hAl
    clear hHeld hK K
    have hHeld:=hNew
    clear hNew
    try simp only [Act.put,sA,sB,sC,sD,sE,sF]
    generalize (World.heap u1).size=T at hT L ⊢
    generalize World.alloc u1 (.cells #[.int .i64 0,.int .i64 0,.int .i64 0,.int .i64 0,.int .i64 0,.int .i64 0] 27)=wA at L hHeld ⊢
    obtain ⟨⟨b0,b1,b2,b3,b4,b5⟩,⟨y0,y1,y2,y3,y4,y5⟩,xl⟩:=six_cells L
    refine wpAnyH_ready (rs:=[10]) (by kernel_rfl) (by simp) (AllReadyH.cons rfl (fun K hK=>?_) AllReadyH.nil)
    go_simp
    replace hHeld:=put_six hHeld hT (.int .i64 o0) (.int .i64 o1) (.int .i64 o2) (.int .i64 o3) (.int .i64 o4) (.int .i64 o5)
    replace L:=zref.put_sixL L (.int .i64 o0) (.int .i64 o1) (.int .i64 o2) (.int .i64 o3) (.int .i64 o4) (.int .i64 o5)
    refine hK.out _ _ hHeld (fun hNew=>?_)
    clear hHeld hK K
    have hHeld:=hNew
    clear hNew
    try simp only [Act.put,sA,sB,sC,sD,sE,sF]
    generalize World.setCell (World.setCell (World.setCell (World.setCell (World.setCell (World.setCell (wA) ⟨T,0,none⟩ (.int .i64 o0)) ⟨T,1,none⟩ (.int .i64 o1)) ⟨T,2,none⟩ (.int .i64 o2)) ⟨T,3,none⟩ (.int .i64 o3)) ⟨T,4,none⟩ (.int .i64 o4)) ⟨T,5,none⟩ (.int .i64 o5)=wB at L hHeld ⊢
    refine tk 11 (v:=?_) rfl hHeld ?_ ?_
    rotate_left
    ·intro w hSw;skip;go_simp;try with_reducible rfl
    try simp only [Act.put,sA,sB,sC,sD,sE,sF]
    refine wpAnyH_done (by kernel_rfl) ?_ _
    replace hO:=incl.own_call hO hHeld
    replace hBw:=later hBw hHeld
    replace DS:=lies.on_call DS hHeld
    clear hHeld hT
    by_cases h6:f=6
    ·subst h6
     have HN:=Lib.hid (show ∀ r f,Col (WinT (lo,ls,hi,hs,op)) (l.drop (k+1)) cur r f→Col (WinT (lo,ls,hi,hs,op)) l [] r f from fun r f h=>HC.out r f (by rw [HDR.out];exact ⟨_,6,HT9.out,.inl ⟨rfl,h⟩⟩))
     have HO:=Lib.hid hO
     clear hO HC HT9 L
     go_wp2_with fail
     go_roundw
     case rel=>exact ⟨k+1,m,cur,by omega,by go_num,HMC.out,by omega,hBw,DS,HO.out,HN⟩
     case measure=>simp [intOf];omega
    ·by_cases h0:f=0
     ·subst h0
      have HN:=Lib.hid (show ∀ r f,Col (WinT (lo,ls,hi,hs,op)) (l.drop (k+1)) (cur++[[o0,o1,o2,o3,o4,o5]]) r f→Col (WinT (lo,ls,hi,hs,op)) l [] r f from fun r f h=>HC.out r f (by rw [HDR.out];exact ⟨_,0,HT9.out,.inr (.inr ⟨rfl,h⟩)⟩))
      have hA:=bound.up1 wB (.cells #[.int .i64 o0,.int .i64 o1,.int .i64 o2,.int .i64 o3,.int .i64 o4,.int .i64 o5] 27)
      have hO1:=incl.own_call hO hA
      obtain ⟨v1,w3,hrun,own,hgrow,-⟩:=app_zones (w.heap.size+1) 29 (.slice av m cv) (.slice (some ⟨wB.heap.size,0,none⟩) 1 1) m _ (flatZ cur) [[o0,o1,o2,o3,o4,o5]] (wB.alloc (.cells #[.int .i64 o0,.int .i64 o1,.int .i64 o2,.int .i64 o3,.int .i64 o4,.int .i64 o5] 27)) hO1 (zs_box (lies.made wB 27 #[.int .i64 o0,.int .i64 o1,.int .i64 o2,.int .i64 o3,.int .i64 o4,.int .i64 o5])) (by show m+1≤_;omega) ((by have:=lies.lt (lies.on_call DS hA);omega))
      have hB1:Below w.heap.size w (wB.alloc (.cells #[.int .i64 o0,.int .i64 o1,.int .i64 o2,.int .i64 o3,.int .i64 o4,.int .i64 o5] 27)):=later hBw hA
      have hB2:=held_grown hB1 hB1.size hO1 (Nat.le_succ _) hgrow
      have HRUN:=Lib.hid hrun
      have HOWN:=Lib.hid (show w3.ownsRow (w.heap.size+1) 27 6 v1 (m+1) (flatZ (cur++[[o0,o1,o2,o3,o4,o5]])) by rw [flatZ_app];exact own)
      have HM1:=Lib.hid (show m+1=(cur++[[o0,o1,o2,o3,o4,o5]]).length by rw [List.length_append,←HMC.out];rfl)
      obtain ⟨⟨b0,b1,b2,b3,b4,b5⟩,-,xl⟩:=six_cells L
      have DS3:lies.Lies w3 w.heap.size 35 #[.int .i64 lo,.bool ls,.int .i64 hi,.bool hs,.bool op]:=(hgrow.block _ (lies.lt (lies.on_call DS hA)) (fun e=>by have:=(hO1.lt _ e.symm).1;omega)).trans (lies.on_call DS hA)
      clear hrun own hgrow hO hO1 hB1 hA hBw HC HT9 L h6
      go_wp2_with (at_builtin;refine dref.append_run2 rfl (.tmp 43) (.tmp 45) 29 rfl _ _ _ _ rfl rfl HRUN.out ?_;clear HRUN)
      go_roundw
      case rel=>exact ⟨k+1,m+1,cur++[[o0,o1,o2,o3,o4,o5]],by omega,by go_num,HM1.out,by omega,hB2,DS3,HOWN.out,HN⟩
      case measure=>simp [intOf];omega
     ·have HN:=Lib.hid (show Col (WinT (lo,ls,hi,hs,op)) l [] [] f from HC.out [] f (by rw [HDR.out];exact ⟨_,f,HT9.out,.inr (.inl ⟨h6,h0,rfl,rfl⟩)⟩))
      have hfb:(f==0)=false:=beq_eq_false_iff_ne.2 h0
      have hfc:(f==6)=false:=beq_eq_false_iff_ne.2 h6
      have hfd:(f !=0)=true:=by simpa using h0
      have hfe:(f !=6)=true:=by simpa using h6
      clear hO HC HT9 L
      go_wp2_with fail
      exact bodyPost_ret (v:=.tuple #[.slice none 0 0,.int .i64 f]) (by simp [results,Tryz.results30,go_sem]) rfl ⟨hBw,_,[],f,rfl,⟨0,.inl ⟨HW.out,rfl⟩,0,HR.out,.inr ⟨rfl,.inr ⟨rfl,[],f,HN.out,.inl ⟨h0,rfl,rfl⟩⟩⟩⟩,World.ownsRow_nil _ _ _ _⟩
   ·go_simp
    have hT:=hHeld.size
    have L:=lies.made wD 27 #[.int .i64 0,.int .i64 0,.int .i64 0,.int .i64 0,.int .i64 0,.int .i64 0]
    have hAl:=hHeld.trans ((bound.up1 wD (.cells #[.int .i64 0,.int .i64 0,.int .i64 0,.int .i64 0,.int .i64 0,.int .i64 0] 27)).mono hHeld.size)
    refine hK.out _ _ hAl (fun hNew=>?_)
    clear hAl
    clear hHeld hK K
    have hHeld:=hNew
    clear hNew
    try simp only [Act.put,sA,sB,sC,sD,sE,sF]
    generalize (World.heap wD).size=T at hT L ⊢
    generalize World.alloc wD (.cells #[.int .i64 0,.int .i64 0,.int .i64 0,.int .i64 0,.int .i64 0,.int .i64 0] 27)=wA at L hHeld ⊢
    refine wpAnyH_ready (rs:=[5]) (by kernel_rfl) (by simp) (AllReadyH.cons rfl (fun K hK=>?_) AllReadyH.nil)
    go_simp
    refine (wref.spanned_any z0 z1 z2 z3 z4 z5 lo ls hi hs op _ HZO.out.1 HZO.out.2.1 HW.out).mono ?_
    rintro e u1 ⟨hB9,o0,o1,o2,o3,o4,o5,f,rfl,hT9⟩
    have HT9:=Lib.hid (show (WinT (lo,ls,hi,hs,op)) [z0,z1,z2,z3,z4,z5] [o0,o1,o2,o3,o4,o5] f from .inr (.inr ⟨HZO.out.1,HW.out,hT9⟩))
    clear hT9
    have hB:=hB9
    clear hB9
    replace L:=lies.on_call L hB
    refine hK.out _ _ (hHeld.trans (hB.mono hHeld.size)) (fun hNew=>?_)
    clear hB
    clear hHeld hK K
    have hHeld:=hNew
    clear hNew
    try simp only [Act.put,sA,sB,sC,sD,sE,sF]
    refine tk 6 (v:=?_) rfl hHeld ?_ ?_
    rotate_left
    ·intro w hSw;skip;go_simp;try with_reducible rfl
    try simp only [Act.put,sA,sB,sC,sD,sE,sF]
    refine tk 7 (v:=?_) rfl hHeld ?_ ?_
    rotate_left
    ·intro w hSw;skip;go_simp;try with_reducible rfl
    try simp only [Act.put,sA,sB,sC,sD,sE,sF]
    refine tk 8 (v:=?_) rfl hHeld ?_ ?_
    rotate_left
    ·intro w hSw;skip;go_simp;try with_reducible rfl
    try simp only [Act.put,sA,sB,sC,sD,sE,sF]
    obtain ⟨⟨b0,b1,b2,b3,b4,b5⟩,⟨y0,y1,y2,y3,y4,y5⟩,xl⟩:=six_cells L
    refine wpAnyH_ready (rs:=[10]) (by kernel_rfl) (by simp) (AllReadyH.cons rfl (fun K hK=>?_) AllReadyH.nil)
    go_simp
    replace hHeld:=put_six hHeld hT (.int .i64 o0) (.int .i64 o1) (.int .i64 o2) (.int .i64 o3) (.int .i64 o4) (.int .i64 o5)
    replace L:=zref.put_sixL L (.int .i64 o0) (.int .i64 o1) (.int .i64 o2) (.int .i64 o3) (.int .i64 o4) (.int .i64 o5)
    refine hK.out _ _ hHeld (fun hNew=>?_)
    clear hHeld hK K
    have hHeld:=hNew
    clear hNew
    try simp only [Act.put,sA,sB,sC,sD,sE,sF]
    generalize World.setCell (World.setCell (World.setCell (World.setCell (World.setCell (World.setCell (u1) ⟨T,0,none⟩ (.int .i64 o0)) ⟨T,1,none⟩ (.int .i64 o1)) ⟨T,2,none⟩ (.int .i64 o2)) ⟨T,3,none⟩ (.int .i64 o3)) ⟨T,4,none⟩ (.int .i64 o4)) ⟨T,5,none⟩ (.int .i64 o5)=wB at L hHeld ⊢
    refine tk 11 (v:=?_) rfl hHeld ?_ ?_
    rotate_left
    ·intro w hSw;skip;go_simp;try with_reducible rfl
    try simp only [Act.put,sA,sB,sC,sD,sE,sF]
    refine wpAnyH_done (by kernel_rfl) ?_ _
    replace hO:=incl.own_call hO hHeld
    replace hBw:=later hBw hHeld
    replace DS:=lies.on_call DS hHeld
    clear hHeld hT
    by_cases h6:f=6
    ·subst h6
     have HN:=Lib.hid (show ∀ r f,Col (WinT (lo,ls,hi,hs,op)) (l.drop (k+1)) cur r f→Col (WinT (lo,ls,hi,hs,op)) l [] r f from fun r f h=>HC.out r f (by rw [HDR.out];exact ⟨_,6,HT9.out,.inl ⟨rfl,h⟩⟩))
     have HO:=Lib.hid hO
     clear hO HC HT9 L
     go_wp2_with fail
     go_roundw
     case rel=>exact ⟨k+1,m,cur,by omega,by go_num,HMC.out,by omega,hBw,DS,HO.out,HN⟩
     case measure=>simp [intOf];omega
    ·by_cases h0:f=0
     ·subst h0
      have HN:=Lib.hid (show ∀ r f,Col (WinT (lo,ls,hi,hs,op)) (l.drop (k+1)) (cur++[[o0,o1,o2,o3,o4,o5]]) r f→Col (WinT (lo,ls,hi,hs,op)) l [] r f from fun r f h=>HC.out r f (by rw [HDR.out];exact ⟨_,0,HT9.out,.inr (.inr ⟨rfl,h⟩)⟩))
      have hA:=bound.up1 wB (.cells #[.int .i64 o0,.int .i64 o1,.int .i64 o2,.int .i64 o3,.int .i64 o4,.int .i64 o5] 27)
      have hO1:=incl.own_call hO hA
      obtain ⟨v1,w3,hrun,own,hgrow,-⟩:=app_zones (w.heap.size+1) 29 (.slice av m cv) (.slice (some ⟨wB.heap.size,0,none⟩) 1 1) m _ (flatZ cur) [[o0,o1,o2,o3,o4,o5]] (wB.alloc (.cells #[.int .i64 o0,.int .i64 o1,.int .i64 o2,.int .i64 o3,.int .i64 o4,.int .i64 o5] 27)) hO1 (zs_box (lies.made wB 27 #[.int .i64 o0,.int .i64 o1,.int .i64 o2,.int .i64 o3,.int .i64 o4,.int .i64 o5])) (by show m+1≤_;omega) ((by have:=lies.lt (lies.on_call DS hA);omega))
      have hB1:Below w.heap.size w (wB.alloc (.cells #[.int .i64 o0,.int .i64 o1,.int .i64 o2,.int .i64 o3,.int .i64 o4,.int .i64 o5] 27)):=later hBw hA
      have hB2:=held_grown hB1 hB1.size hO1 (Nat.le_succ _) hgrow
      have HRUN:=Lib.hid hrun
      have HOWN:=Lib.hid (show w3.ownsRow (w.heap.size+1) 27 6 v1 (m+1) (flatZ (cur++[[o0,o1,o2,o3,o4,o5]])) by rw [flatZ_app];exact own)
      have HM1:=Lib.hid (show m+1=(cur++[[o0,o1,o2,o3,o4,o5]]).length by rw [List.length_append,←HMC.out];rfl)
      obtain ⟨⟨b0,b1,b2,b3,b4,b5⟩,-,xl⟩:=six_cells L
      have DS3:lies.Lies w3 w.heap.size 35 #[.int .i64 lo,.bool ls,.int .i64 hi,.bool hs,.bool op]:=(hgrow.block _ (lies.lt (lies.on_call DS hA)) (fun e=>by have:=(hO1.lt _ e.symm).1;omega)).trans (lies.on_call DS hA)
      clear hrun own hgrow hO hO1 hB1 hA hBw HC HT9 L h6
      go_wp2_with (at_builtin;refine dref.append_run2 rfl (.tmp 43) (.tmp 45) 29 rfl _ _ _ _ rfl rfl HRUN.out ?_;clear HRUN)
      go_roundw
      case rel=>exact ⟨k+1,m+1,cur++[[o0,o1,o2,o3,o4,o5]],by omega,by go_num,HM1.out,by omega,hB2,DS3,HOWN.out,HN⟩
      case measure=>simp [intOf];omega
     ·have HN:=Lib.hid (show Col (WinT (lo,ls,hi,hs,op)) l [] [] f from HC.out [] f (by rw [HDR.out];exact ⟨_,f,HT9.out,.inr (.inl ⟨h6,h0,rfl,rfl⟩)⟩))
      have hfb:(f==0)=false:=beq_eq_false_iff_ne.2 h0
      have hfc:(f==6)=false:=beq_eq_false_iff_ne.2 h6
      have hfd:(f !=0)=true:=by simpa using h0
      have hfe:(f !=6)=true:=by simpa using h6
      clear hO HC HT9 L
      go_wp2_with fail
      exact bodyPost_ret (v:=.tuple #[.slice none 0 0,.int .i64 f]) (by simp [results,Tryz.results30,go_sem]) rfl ⟨hBw,_,[],f,rfl,⟨0,.inl ⟨HW.out,rfl⟩,0,HR.out,.inr ⟨rfl,.inr ⟨rfl,[],f,HN.out,.inl ⟨h0,rfl,rfl⟩⟩⟩⟩,World.ownsRow_nil _ _ _ _⟩
  ·have hke:l.drop k=[]:=List.drop_eq_nil_of_le (by rw [HL.out];omega)
   have hkn':¬ (k:Int)<len:=by omega
   have HN:=Lib.hid (show Col (WinT (lo,ls,hi,hs,op)) l [] cur 0 from HC.out cur 0 (by rw [hke];exact ⟨rfl,rfl⟩))
   obtain ⟨k1,k2⟩:=col_zo l (fun y hy=>within_zo y (HML.out y hy)) (fun x hx=>by cases hx) HN.out
   have HCZ:=Lib.hid k1
   have HS:=Lib.hid (zs_own hO)
   clear hO HC hke k1 k2
   go_wp2_with fail
   refine (rof13_any av m cv cur wr HS.out (six_zo HCZ.out) (fun z hz=>zo_low (HCZ.out z hz)) HMC.out.symm (by omega)).mono ?_
   rintro e w6 ⟨hB2,v4,nw,g,rfl,hPr,hO4⟩
   have HO4:=Lib.hid (own_far hO4 hB.size (fun _ _ _ q=>q))
   replace hB:=later hB hB2
   obtain ⟨av4,cv4,rfl⟩:=zs_len (zs_own hO4)
   have HPR:=Lib.hid hPr
   clear hO4 hPr hB2
   generalize hn:nw.length=n at HO4 ⊢
   have HN4:=Lib.hid hn
   clear hn
   go_wp2_with fail
   refine bodyPost_ret (v:=.tuple #[.slice av4 n cv4,.int .i64 g]) (by simp [results,Tryz.results30,go_sem]) rfl ⟨hB,_,nw,g,rfl,⟨0,.inl ⟨HW.out,rfl⟩,0,HR.out,.inr ⟨rfl,.inr ⟨rfl,cur,0,HN.out,.inr ⟨rfl,HPR.out⟩⟩⟩⟩,?_⟩
   rw [HN4.out]
   exact HO4.out
set_option maxRecDepth 100000 in
set_option maxHeartbeats 16000000 in
theorem rwindow13_any (ao : Option Addr) (len cap : Nat) (l : List (List Int)) (fr tt : Int) (w : World) (hI : Zs w.heap.size w (.slice ao len cap) l) (h6 : Six l) (lol : ∀ z,z ∈ l → Low z) (hl : l.length = len) (hm : len ≤ 100000) (hfr : -9223372036854775808 ≤ fr ∧ fr ≤ 9223372036854775807) (htt : -9223372036854775808 ≤ tt ∧ tt ≤ 9223372036854775807) :
  Calls Tryz.prog 32 #[.slice ao len cap,.int .i64 fr,.int .i64 tt] w (Zans (fun r f => ∃ c,NuC fr tt c ∧ EachX RestR (LatT fr tt) c l r f) w) := by
 have DB := Below.refl w.heap.size w
 have c := rcheck_any ao len cap none 0 0 l [] w hI (.inl ⟨⟨none,0,rfl,fun _ => rfl⟩,rfl⟩) h6 six_nil lol (fun z hz => by cases hz) hl rfl (by omega) (by decide)
 have HI := Lib.hid hI
 have H6 := Lib.hid h6
 have HL := Lib.hid hl
 clear hI h6 lol hl
 go_enter Tryz.func32,Tryz.ntmps32
 go_wp2_with fail
 refine Calls.mono c ?_
 rintro e w1 ⟨hB,f,rfl,hR⟩
 replace DB := later DB hB
 clear c hB
 have hcz : ∃ c,NuC fr tt c := by
  by_cases h : MayW fr tt
  ·exact ⟨0,.inl ⟨h,rfl⟩⟩
  ·exact ⟨2,.inr ⟨h,rfl⟩⟩
 by_cases h0 : f = 0
 case neg =>
  have HR := Lib.hid hR
  have hfb : (f == 0) = false := beq_eq_false_iff_ne.2 h0
  obtain ⟨c,hc⟩ := hcz
  have HCZ := Lib.hid hc
  clear hR hc
  go_wp2_with fail
  exact bodyPost_ret (v := .tuple #[.slice none 0 0,.int .i64 f]) (by simp [results,Tryz.results32,go_sem]) rfl ⟨DB,_,[],f,rfl,⟨c,HCZ.out,f,HR.out,.inl ⟨h0,rfl,rfl⟩⟩,World.ownsRow_nil _ _ _ _⟩
 subst h0
 clear hcz
 obtain ⟨-,-,h3,-⟩ := chk_fine hR
 have HR := Lib.hid hR
 have HML := Lib.hid (H6.out.zo h3)
 clear hR h3
 by_cases hw : MayW fr tt
 case neg =>
  have HW := Lib.hid hw
  have htest : fr < -288230376151711744 ∨ (¬ fr < -288230376151711744 ∧ 288230376151711744 < tt) ∨ (¬ fr < -288230376151711744 ∧ ¬ 288230376151711744 < tt ∧ tt ≤ fr) := by
   unfold MayW In at hw
   omega
  clear hw
  rcases htest with k1 | ⟨k1,k2⟩ | ⟨k1,k2,k3⟩
  all_goals
   go_wp2_with fail
   exact bodyPost_ret (v := .tuple #[.slice none 0 0,.int .i64 2]) (by simp [results,Tryz.results32,go_sem]) rfl ⟨DB,_,[],2,rfl,⟨2,.inr ⟨HW.out,rfl⟩,0,HR.out,.inr ⟨rfl,.inl ⟨by decide,rfl,rfl⟩⟩⟩,World.ownsRow_nil _ _ _ _⟩
 have HW := Lib.hid hw
 have k1 : ¬ fr < -288230376151711744 := by unfold MayW In at hw; omega
 have k2 : ¬ 288230376151711744 < tt := by unfold MayW In at hw; omega
 have k3 : ¬ tt ≤ fr := by unfold MayW In at hw; omega
 clear hw
 go_wp2_with fail
 go_loopw [10,9] (fun i v wr => ∃ (k m : Nat) (cur : List (List Int)),k ≤ len ∧ i = .int .i64 k ∧ m = cur.length ∧ m ≤ k ∧ Below w.heap.size w wr ∧ wr.ownsRow (w.heap.size) 27 6 v m (flatZ cur) ∧ RowKit.Hid (∀ r f,Col (LatT fr tt) (l.drop k) cur r f → Col (LatT fr tt) l [] r f)) (fun i _ _ => len - (intOf i).toNat)
 case atStart => exact ⟨0,0,[],Nat.zero_le _,rfl,rfl,Nat.le_refl _,DB,World.ownsRow_nil _ _ _ _,Lib.hid (fun r f h => h)⟩
 case round =>
  clear DB
  obtain ⟨k,m,cur,hk,rfl,hmc,hmk,hB,hO,HC⟩ := hrel
  obtain ⟨av,cv,hv⟩ := zs_len (zs_own hO)
  rw [← hmc] at hv
  subst hv
  have HMC := Lib.hid hmc
  clear hmc
  by_cases hkn : k < len
  ·have hkz : k < l.length := by rw [HL.out]; exact hkn
   have hkn' : (k : Int) < len := by omega
   have hzo := HML.out _ (zat_mem hkz)
   obtain ⟨bq,off,z0,z1,z2,z3,z4,z5,rfl,hb,ez⟩ := zs_six (HI.out.below hB) hkz hzo.2.2
   have hbr : bq < wr.heap.size := Nat.lt_of_lt_of_le hb hB.size
   have hdr : l.drop k = [z0,z1,z2,z3,z4,z5] :: l.drop (k + 1) := by
    rw [List.drop_eq_getElem_cons hkz,← ez]
    unfold zat
    rw [List.getElem?_eq_getElem hkz]
    rfl
   rw [ez] at hzo
   have HEZ := Lib.hid ez
   have HKZ := Lib.hid hkz
   have HZO := Lib.hid hzo
   have HDR := Lib.hid hdr
   clear ez hkz hzo hdr hb
   obtain ⟨c0,c1,c2,c3,c4,c5⟩ := zs_cells (HI.out.below hB) HKZ.out HEZ.out
   go_wp2_with fail
   clear c0 c1 c2 c3 c4 c5 hbr
   refine (wref.windowed_any z0 z1 z2 z3 z4 z5 fr tt wr HZO.out.1 HZO.out.2.1 HW.out).mono ?_
   rintro e w2 ⟨hB2,o0,o1,o2,o3,o4,o5,f,rfl,hT9⟩
   have HT := Lib.hid (show (LatT fr tt) [z0,z1,z2,z3,z4,z5] [o0,o1,o2,o3,o4,o5] f from .inr (.inr ⟨HZO.out.1,HW.out,hT9⟩))
   replace hO := incl.own_call hO hB2
   replace hB := later hB hB2
   clear hB2 hT9
   by_cases h6 : f = 6
   ·subst h6
    have HN := Lib.hid (show ∀ r f,Col (LatT fr tt) (l.drop (k + 1)) cur r f → Col (LatT fr tt) l [] r f from fun r f h => HC.out r f (by rw [HDR.out]; exact ⟨_,6,HT.out,.inl ⟨rfl,h⟩⟩))
    have hA := bound.up1 w2 (.cells #[.int .i64 o0,.int .i64 o1,.int .i64 o2,.int .i64 o3,.int .i64 o4,.int .i64 o5] 27)
    have HO := Lib.hid (incl.own_call hO hA)
    replace hB := later hB hA
    clear hA hO HC HT
    go_wp2_with fail
    go_roundw
    case rel => exact ⟨k + 1,m,cur,by omega,by go_num,HMC.out,by omega,hB,HO.out,HN⟩
    case measure => simp [intOf]; omega
   ·by_cases h0 : f = 0
    ·subst h0
     have HN := Lib.hid (show ∀ r f,Col (LatT fr tt) (l.drop (k + 1)) (cur ++ [[o0,o1,o2,o3,o4,o5]]) r f → Col (LatT fr tt) l [] r f from fun r f h => HC.out r f (by rw [HDR.out]; exact ⟨_,0,HT.out,.inr (.inr ⟨rfl,h⟩)⟩))
     have hA := lies.frame_up (bound.up1 w2 (.cells #[.int .i64 o0,.int .i64 o1,.int .i64 o2,.int .i64 o3,.int .i64 o4,.int .i64 o5] 27)) (.cells #[.int .i64 o0,.int .i64 o1,.int .i64 o2,.int .i64 o3,.int .i64 o4,.int .i64 o5] 27)
     have hO1 := incl.own_call hO hA
     have hbx := zs_box (lies.made_at (w2.alloc (.cells #[.int .i64 o0,.int .i64 o1,.int .i64 o2,.int .i64 o3,.int .i64 o4,.int .i64 o5] 27)) 27 #[.int .i64 o0,.int .i64 o1,.int .i64 o2,.int .i64 o3,.int .i64 o4,.int .i64 o5] (w2.heap.size + 1) (by simp))
     obtain ⟨v1,w3,hrun,own,hgrow,-⟩ := app_zones w.heap.size 29 (.slice av m cv) (.slice (some ⟨w2.heap.size + 1,0,none⟩) 1 1) m _ (flatZ cur) [[o0,o1,o2,o3,o4,o5]] ((w2.alloc (.cells #[.int .i64 o0,.int .i64 o1,.int .i64 o2,.int .i64 o3,.int .i64 o4,.int .i64 o5] 27)).alloc (.cells #[.int .i64 o0,.int .i64 o1,.int .i64 o2,.int .i64 o3,.int .i64 o4,.int .i64 o5] 27)) hO1 hbx (by show m + 1 ≤ _; omega) (Nat.le_trans hB.size hA.size)
     have hB1 : Below w.heap.size w ((w2.alloc (.cells #[.int .i64 o0,.int .i64 o1,.int .i64 o2,.int .i64 o3,.int .i64 o4,.int .i64 o5] 27)).alloc (.cells #[.int .i64 o0,.int .i64 o1,.int .i64 o2,.int .i64 o3,.int .i64 o4,.int .i64 o5] 27)) := later hB hA
     have hB2 := held_grown hB1 hB1.size hO1 (Nat.le_refl _) hgrow
     have HRUN := Lib.hid hrun
     have HOWN := Lib.hid (show w3.ownsRow w.heap.size 27 6 v1 (m + 1) (flatZ (cur ++ [[o0,o1,o2,o3,o4,o5]])) by rw [flatZ_app]; exact own)
     have HM1 := Lib.hid (show m + 1 = (cur ++ [[o0,o1,o2,o3,o4,o5]]).length by rw [List.length_append,← HMC.out]; rfl)
     clear hrun own hgrow hO hO1 hB1 hA hB HC HT h6 hbx
     go_wp2_with (at_builtin; refine dref.append_run2 rfl (.tmp 54) (.tmp 56) 29 rfl _ _ _ _ rfl rfl HRUN.out ?_; clear HRUN)
     go_roundw
     case rel => exact ⟨k + 1,m + 1,cur ++ [[o0,o1,o2,o3,o4,o5]],by omega,by go_num,HM1.out,by omega,hB2,HOWN.out,HN⟩
     case measure => simp [intOf]; omega
    ·have HN := Lib.hid (show Col (LatT fr tt) l [] [] f from HC.out [] f (by rw [HDR.out]; exact ⟨_,f,HT.out,.inr (.inl ⟨h6,h0,rfl,rfl⟩)⟩))
     have hfb : (f == 0) = false := beq_eq_false_iff_ne.2 h0
     have hfc : (f == 6) = false := beq_eq_false_iff_ne.2 h6
     have hfd : (f != 0) = true := by simpa using h0
     have hfe : (f != 6) = true := by simpa using h6
     have hA := bound.up1 w2 (.cells #[.int .i64 o0,.int .i64 o1,.int .i64 o2,.int .i64 o3,.int .i64 o4,.int .i64 o5] 27)
     replace hB := later hB hA
     clear hA hO HC HT
     go_wp2_with fail
     exact bodyPost_ret (v := .tuple #[.slice none 0 0,.int .i64 f]) (by simp [results,Tryz.results32,go_sem]) rfl ⟨hB,_,[],f,rfl,⟨0,.inl ⟨HW.out,rfl⟩,0,HR.out,.inr ⟨rfl,.inr ⟨rfl,[],f,HN.out,.inl ⟨h0,rfl,rfl⟩⟩⟩⟩,World.ownsRow_nil _ _ _ _⟩
  ·have hke : l.drop k = [] := List.drop_eq_nil_of_le (by rw [HL.out]; omega)
   have hkn' : ¬ (k : Int) < len := by omega
   have HN := Lib.hid (show Col (LatT fr tt) l [] cur 0 from HC.out cur 0 (by rw [hke]; exact ⟨rfl,rfl⟩))
   obtain ⟨k1,k2⟩ := col_zo l (fun y hy => window_zo y (HML.out y hy)) (fun x hx => by cases hx) HN.out
   have HCZ := Lib.hid k1
   have HS := Lib.hid (zs_own hO)
   clear hO HC hke k1 k2
   go_wp2_with fail
   refine (rof13_any av m cv cur wr HS.out (six_zo HCZ.out) (fun z hz => zo_low (HCZ.out z hz)) HMC.out.symm (by omega)).mono ?_
   rintro e w6 ⟨hB2,v4,nw,g,rfl,hPr,hO4⟩
   have HO4 := Lib.hid (own_far hO4 hB.size (fun _ _ _ q => q))
   replace hB := later hB hB2
   obtain ⟨av4,cv4,rfl⟩ := zs_len (zs_own hO4)
   have HPR := Lib.hid hPr
   clear hO4 hPr hB2
   generalize hn : nw.length = n at HO4 ⊢
   have HN4 := Lib.hid hn
   clear hn
   go_wp2_with fail
   refine bodyPost_ret (v := .tuple #[.slice av4 n cv4,.int .i64 g]) (by simp [results,Tryz.results32,go_sem]) rfl ⟨hB,_,nw,g,rfl,⟨0,.inl ⟨HW.out,rfl⟩,0,HR.out,.inr ⟨rfl,.inr ⟨rfl,cur,0,HN.out,.inr ⟨rfl,HPR.out⟩⟩⟩⟩,?_⟩
   rw [HN4.out]
   exact HO4.out
end Go.Proofs.YthmljpccbjolgaaGreatDoor.sref
