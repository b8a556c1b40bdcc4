
/-
  What the document's own answer of layer 12 answers; each theorem names its conditions.
-/
import Derived.Test.YthmljpccbjolgaaGreatDoorCoverD
import Derived.Test.YthmljpccbjolgaaGreatDoorMinusR
namespace Go.Proofs.YthmljpccbjolgaaGreatDoor.cref
open Go.Joins Go.ChangeShapes Go.WideShapes Go.ChangeAt Go.RowKit num rat dbm dref Go.Proofs.YthmljpccbjolgaaGreatDoor.tight Go.Proofs.YthmljpccbjolgaaGreatDoor.incl Go.Proofs.YthmljpccbjolgaaGreatDoor.plaw Go.Proofs.YthmljpccbjolgaaGreatDoor.zopen Go.Proofs.YthmljpccbjolgaaGreatDoor.zone Go.Proofs.YthmljpccbjolgaaGreatDoor.win Go.Proofs.YthmljpccbjolgaaGreatDoor.minus Go.Proofs.YthmljpccbjolgaaGreatDoor.mz Go.Proofs.YthmljpccbjolgaaGreatDoor.mlaw Go.Proofs.YthmljpccbjolgaaGreatDoor.zref Go.Proofs.YthmljpccbjolgaaGreatDoor.mref Go.Proofs.YthmljpccbjolgaaGreatDoor.cover
open bound hiding up
set_option linter.unusedVariables false
set_option linter.unusedSimpArgs false
set_option linter.unusedSectionVars false
set_option maxRecDepth 100000 in
set_option maxHeartbeats 8000000 in
theorem rcov_any (z0 z1 z2 z3 z4 z5:Int) (ao:Option Addr) (len cap:Nat) (l:List (List Int)) (w:World) (za:Zo [z0,z1,z2,z3,z4,z5]) (hI:Zs w.heap.size w (.slice ao len cap) l) (hz:∀ x,x ∈ l→Zo x) (hl:l.length=len) (hm:len≤1000000):
  Calls Tryz.prog 77 #[.agg #[.int .i64 z0,.int .i64 z1,.int .i64 z2,.int .i64 z3,.int .i64 z4,.int .i64 z5],.slice ao len cap] w fun e w'=>Below w.heap.size w w'∧∃ (is:Bool) (f:Int),e=.returned (.tuple #[.bool is,.int .i64 f])∧CovX RestR [z0,z1,z2,z3,z4,z5] l is f:=by
 obtain ⟨w0,hX⟩:∃ w0,w0=w.alloc (.cells #[.int .i64 z0,.int .i64 z1,.int .i64 z2,.int .i64 z3,.int .i64 z4,.int .i64 z5] 27):=⟨_,rfl⟩
 have DB:Below w.heap.size w w0:=by rw [hX];exact bound.up1 _ _
 have HZA:=Lib.hid za
 have HI:=Lib.hid hI
 have HZ:=Lib.hid hz
 have HL:=Lib.hid hl
 clear za hI hz hl
 go_enter Tryz.func77,Tryz.ntmps77
 go_wp2_with fail
 rw [←hX]
 clear hX
 refine (mref.rest_any z0 z1 z2 z3 z4 z5 ao len cap l w0 HZA.out ((HI.out.below DB).mono DB.size) HZ.out HL.out hm).mono ?_
 rintro e w1 ⟨hB,v,r,f,rfl,hR,hO⟩
 replace DB:=later DB hB
 obtain ⟨av,cv,rfl⟩:=zs_len (zs_own hO)
 have HR:=Lib.hid hR
 clear hR hO hB
 by_cases h0:f=0
 ·subst h0
  generalize hmm:r.length=m
  have HM:=Lib.hid hmm
  clear hmm
  by_cases hm0:m=0
  ·subst hm0
   go_wp2_with fail
   exact bodyPost_ret (v:=.tuple #[.bool true,.int .i64 0]) (by simp [results,Tryz.results77,go_sem]) rfl ⟨DB,true,0,rfl,r,HR.out,by simp [List.length_eq_zero_iff.1 HM.out]⟩
  ·have hm1:¬ (m:Int)=0:=by omega
   have hm2:((m:Int)==0)=false:=beq_eq_false_iff_ne.2 hm1
   go_wp2_with fail
   exact bodyPost_ret (v:=.tuple #[.bool false,.int .i64 0]) (by simp [results,Tryz.results77,go_sem,hm0]) rfl ⟨DB,false,0,rfl,r,HR.out,by
    symm
    refine decide_eq_false fun q=>hm0 ?_
    rw [←HM.out,q.2]
    rfl⟩
 ·have hfb:(f==0)=false:=beq_eq_false_iff_ne.2 h0
  go_wp2_with fail
  exact bodyPost_ret (v:=.tuple #[.bool false,.int .i64 f]) (by simp [results,Tryz.results77,go_sem]) rfl ⟨DB,false,f,rfl,r,HR.out,by
   symm
   exact decide_eq_false fun q=>h0 q.1⟩
set_option maxRecDepth 100000 in
set_option maxHeartbeats 16000000 in
theorem rcheck_any (ao:Option Addr) (len cap:Nat) (bo:Option Addr) (lenb capb:Nat) (a b:List (List Int)) (w:World) (hI:Zs w.heap.size w (.slice ao len cap) a) (hJ:Zs w.heap.size w (.slice bo lenb capb) b) (ha:Six a) (hb:Six b) (loa:∀ z,z ∈ a→Low z) (lob:∀ z,z ∈ b→Low z) (hla:a.length=len) (hlb:b.length=lenb) (hma:len≤1000000) (hmb:lenb≤1000000):
  Calls Tryz.prog 58 #[.slice ao len cap,.slice bo lenb capb] w fun e w'=>Below w.heap.size w w'∧∃ f,e=.returned (.int .i64 f)∧ChkR a b f:=by
 have HIA:=Lib.hid hI
 have HIB:=Lib.hid hJ
 have H6A:=Lib.hid ha
 have H6B:=Lib.hid hb
 have HOA:=Lib.hid loa
 have HOB:=Lib.hid lob
 have HLA:=Lib.hid hla
 have HLB:=Lib.hid hlb
 clear hI hJ ha hb loa lob hla hlb
 go_enter Tryz.func58,Tryz.ntmps58
 by_cases h4a:len≤4096
 case neg=>
  have hi:(4096:Int)<(len:Int):=by omega
  go_wp2_with fail
  go_ret
  exact ⟨Below.refl _ _,4,rfl,.inl ⟨.inl (by rw [HLA.out];omega),rfl⟩⟩
 by_cases h4b:lenb≤4096
 case neg=>
  have hi:¬ (4096:Int)<(len:Int):=by omega
  have hj:(4096:Int)<(lenb:Int):=by omega
  go_wp2_with fail
  go_ret
  exact ⟨Below.refl _ _,4,rfl,.inl ⟨.inr (by rw [HLB.out];omega),rfl⟩⟩
 have hi:¬ (4096:Int)<(len:Int):=by omega
 have hj:¬ (4096:Int)<(lenb:Int):=by omega
 go_wp2_with fail
 clear hi hj
 have hB:=Below.refl w.heap.size w
 go_loopw [5] (fun i wq=>∃ k:Nat,k≤len∧i=.int .i64 k∧Below w.heap.size w wq∧RowKit.Hid (∀ j,j<k→MayZ (zat a j))) (fun i _=>len - (intOf i).toNat)
 case atStart=>exact ⟨0,Nat.zero_le _,rfl,hB,Lib.hid (fun j hj=>absurd hj (Nat.not_lt_zero j))⟩
 case round=>
  clear hB
  obtain ⟨k,hk,rfl,hB,HM⟩:=hrel
  by_cases hkn:k<len
  ·have hkz:k<a.length:=by rw [HLA.out];exact hkn
   obtain ⟨bq,off,rfl,-,hb,c0,c1,c2,c3,c4,c5⟩:=zs_at (HIA.out.below hB) hkz
   have hbr:bq<wr.heap.size:=Nat.lt_of_lt_of_le hb hB.size
   obtain ⟨hz6,hzt⟩:=H6A.out _ (zat_mem hkz)
   have hzl:=HOA.out _ (zat_mem hkz)
   have hmem:=zat_mem hkz
   have hone:∀ j,j=k→zat a j=zat a k:=fun j e=>by rw [e]
   generalize hzk:zat a k=zk at c0 c1 c2 c3 c4 c5 hz6 hzt hmem hone hzl
   obtain ⟨z0,z1,z2,z3,z4,z5,rfl⟩:=six hz6
   have c0:wr.cell? ⟨bq,off+k*6,none⟩=some (.int .i64 z0):=c0
   have c1:wr.cell? ⟨bq,off+k*6+1,none⟩=some (.int .i64 z1):=c1
   have c2:wr.cell? ⟨bq,off+k*6+2,none⟩=some (.int .i64 z2):=c2
   have c3:wr.cell? ⟨bq,off+k*6+3,none⟩=some (.int .i64 z3):=c3
   have c4:wr.cell? ⟨bq,off+k*6+4,none⟩=some (.int .i64 z4):=c4
   have c5:wr.cell? ⟨bq,off+k*6+5,none⟩=some (.int .i64 z5):=c5
   have HZT:=Lib.hid hzt
   have HLZ:=Lib.hid hzl
   have HMEM:=Lib.hid hmem
   have HONE:=Lib.hid hone
   have hkn':(k:Int)<len:=by omega
   clear hzt hzl hmem hone hz6 hzk
   go_wp2_with fail
   clear c0 c1 c2 c3 c4 c5 hkn'
   refine (rmay_any z0 z1 z2 z3 z4 z5 wr HLZ.out HZT.out).mono ?_
   rintro e w2 ⟨hB2,r1,rfl,h1⟩
   replace hB:=later hB hB2
   clear hB2
   cases r1 with
   | true=>
    have HA:=Lib.hid (h1.1 rfl)
    clear h1
    go_wp2_with fail
    go_roundw
    case rel=>exact ⟨k+1,by omega,by go_num,hB,Lib.hid (fun j hj=>by
     by_cases e:j=k
     ·rw [HONE.out j e];exact HA.out
     ·exact HM.out j (by omega))⟩
    case measure=>simp [intOf];omega
   | false=>
    have HA:=Lib.hid (show ¬ MayZ [z0,z1,z2,z3,z4,z5] from fun q=>by have:=h1.2 q;cases this)
    clear h1
    go_wp2_with fail
    go_ret
    exact ⟨hB,8,rfl,.inr (.inl ⟨by rw [HLA.out];exact h4a,by rw [HLB.out];exact h4b,fun q=>HA.out (q.1 _ HMEM.out),rfl⟩)⟩
  ·have hke:k=len:=by omega
   have hkn':¬ (k:Int)<len:=by omega
   have HAL1:=Lib.hid (show ∀ z,z ∈ a→MayZ z from fun z hz=>by
    obtain ⟨j,hj,rfl⟩:=List.getElem_of_mem hz
    have:=HM.out j (by rw [HLA.out] at hj;omega)
    unfold zat at this
    rw [List.getElem?_eq_getElem hj] at this
    exact this)
   clear HM hke
   go_wp2_with fail
   go_loopw [6] (fun i wq=>∃ k:Nat,k≤lenb∧i=.int .i64 k∧Below w.heap.size w wq∧RowKit.Hid (∀ j,j<k→MayZ (zat b j))) (fun i _=>lenb - (intOf i).toNat)
   case atStart=>exact ⟨0,Nat.zero_le _,rfl,hB,Lib.hid (fun j hj=>absurd hj (Nat.not_lt_zero j))⟩
   case round=>
    clear hB
    obtain ⟨k,hk,rfl,hB,HM⟩:=hrel
    by_cases hkn:k<lenb
    ·have hkz:k<b.length:=by rw [HLB.out];exact hkn
     obtain ⟨bq,off,rfl,-,hb,c0,c1,c2,c3,c4,c5⟩:=zs_at (HIB.out.below hB) hkz
     have hbr:bq<wr.heap.size:=Nat.lt_of_lt_of_le hb hB.size
     obtain ⟨hz6,hzt⟩:=H6B.out _ (zat_mem hkz)
     have hzl:=HOB.out _ (zat_mem hkz)
     have hmem:=zat_mem hkz
     have hone:∀ j,j=k→zat b j=zat b k:=fun j e=>by rw [e]
     generalize hzk:zat b k=zk at c0 c1 c2 c3 c4 c5 hz6 hzt hmem hone hzl
     obtain ⟨z0,z1,z2,z3,z4,z5,rfl⟩:=six hz6
     have c0:wr.cell? ⟨bq,off+k*6,none⟩=some (.int .i64 z0):=c0
     have c1:wr.cell? ⟨bq,off+k*6+1,none⟩=some (.int .i64 z1):=c1
     have c2:wr.cell? ⟨bq,off+k*6+2,none⟩=some (.int .i64 z2):=c2
     have c3:wr.cell? ⟨bq,off+k*6+3,none⟩=some (.int .i64 z3):=c3
     have c4:wr.cell? ⟨bq,off+k*6+4,none⟩=some (.int .i64 z4):=c4
     have c5:wr.cell? ⟨bq,off+k*6+5,none⟩=some (.int .i64 z5):=c5
     have HZT:=Lib.hid hzt
     have HLZ:=Lib.hid hzl
     have HMEM:=Lib.hid hmem
     have HONE:=Lib.hid hone
     have hkn':(k:Int)<lenb:=by omega
     clear hzt hzl hmem hone hz6 hzk
     go_wp2_with fail
     clear c0 c1 c2 c3 c4 c5 hkn'
     refine (rmay_any z0 z1 z2 z3 z4 z5 wr HLZ.out HZT.out).mono ?_
     rintro e w2 ⟨hB2,r1,rfl,h1⟩
     replace hB:=later hB hB2
     clear hB2
     cases r1 with
     | true=>
      have HA:=Lib.hid (h1.1 rfl)
      clear h1
      go_wp2_with fail
      go_roundw
      case rel=>exact ⟨k+1,by omega,by go_num,hB,Lib.hid (fun j hj=>by
       by_cases e:j=k
       ·rw [HONE.out j e];exact HA.out
       ·exact HM.out j (by omega))⟩
      case measure=>simp [intOf];omega
     | false=>
      have HA:=Lib.hid (show ¬ MayZ [z0,z1,z2,z3,z4,z5] from fun q=>by have:=h1.2 q;cases this)
      clear h1
      go_wp2_with fail
      go_ret
      exact ⟨hB,8,rfl,.inr (.inl ⟨by rw [HLA.out];exact h4a,by rw [HLB.out];exact h4b,fun q=>HA.out (q.2 _ HMEM.out),rfl⟩)⟩
    ·have hke:k=lenb:=by omega
     have hkn':¬ (k:Int)<lenb:=by omega
     have HAL2:=Lib.hid (show ∀ z,z ∈ b→MayZ z from fun z hz=>by
      obtain ⟨j,hj,rfl⟩:=List.getElem_of_mem hz
      have:=HM.out j (by rw [HLB.out] at hj;omega)
      unfold zat at this
      rw [List.getElem?_eq_getElem hj] at this
      exact this)
     clear HM hke
     go_wp2_with fail
     go_ret
     exact ⟨hB,0,rfl,.inr (.inr ⟨by rw [HLA.out];exact h4a,by rw [HLB.out];exact h4b,HAL1.out,HAL2.out,rfl⟩)⟩
set_option maxRecDepth 100000 in
set_option maxHeartbeats 8000000 in
theorem rin_any (z0 z1 z2 z3 z4 z5:Int) (ao:Option Addr) (len cap:Nat) (l:List (List Int)) (w:World) (lo:Low [z0,z1,z2,z3,z4,z5]) (ta:Tops [z0,z1,z2,z3,z4,z5]) (hI:Zs w.heap.size w (.slice ao len cap) l) (h6:Six l) (lol:∀ z,z ∈ l→Low z) (hl:l.length=len) (hm:len≤1000000):
  Calls Tryz.prog 40 #[.agg #[.int .i64 z0,.int .i64 z1,.int .i64 z2,.int .i64 z3,.int .i64 z4,.int .i64 z5],.slice ao len cap] w fun e w'=>Below w.heap.size w w'∧∃ (is:Bool) (f:Int),e=.returned (.tuple #[.bool is,.int .i64 f])∧InX RestR [z0,z1,z2,z3,z4,z5] l is f:=by
 obtain ⟨w0,hX⟩:∃ w0,w0=(w.alloc (.cells #[.int .i64 z0,.int .i64 z1,.int .i64 z2,.int .i64 z3,.int .i64 z4,.int .i64 z5] 27)).alloc (.cells #[.int .i64 z0,.int .i64 z1,.int .i64 z2,.int .i64 z3,.int .i64 z4,.int .i64 z5] 27):=⟨_,rfl⟩
 have DB:Below w.heap.size w w0:=by rw [hX];exact bound.up2 _ _ _
 have D0:lies.Lies w0 w.heap.size 27 #[.int .i64 z0,.int .i64 z1,.int .i64 z2,.int .i64 z3,.int .i64 z4,.int .i64 z5]:=by rw [hX];exact lies.on_alloc (lies.made _ _ _) _
 have D1:lies.Lies w0 (w.heap.size+1) 27 #[.int .i64 z0,.int .i64 z1,.int .i64 z2,.int .i64 z3,.int .i64 z4,.int .i64 z5]:=by rw [hX];exact lies.made_at _ _ _ _ (by simp)
 have HTA:=Lib.hid ta
 have HLO:=Lib.hid lo
 have HI:=Lib.hid hI
 have H6:=Lib.hid h6
 have HLL:=Lib.hid lol
 have HL:=Lib.hid hl
 clear ta lo hI h6 lol hl
 go_enter Tryz.func40,Tryz.ntmps40
 go_wp2_with fail
 rw [←hX]
 clear hX
 refine (rcheck_any ao len cap (some ⟨w.heap.size+1,0,none⟩) 1 1 l [[z0,z1,z2,z3,z4,z5]] w0 ((HI.out.below DB).mono DB.size) (zs_box D1) H6.out (six_self rfl HTA.out) HLL.out (fun z hz=>by rw [List.mem_singleton.1 hz];exact HLO.out) HL.out rfl hm (by decide)).mono ?_
 rintro e w1 ⟨hB,f,rfl,hR⟩
 replace D0:=lies.on_call D0 hB
 replace DB:=later DB hB
 clear hB D1
 by_cases h0:f=0
 ·subst h0
  obtain ⟨h1,h2,h3,h4⟩:=chk_fine hR
  have HR:=Lib.hid hR
  have HM1:=Lib.hid (h4 _ List.mem_cons_self)
  have HM2:=Lib.hid h3
  clear hR h1 h2 h3 h4
  obtain ⟨⟨x0,x1,x2,x3,x4,x5⟩,-,xl⟩:=six_cells D0
  go_wp2_with fail
  clear x0 x1 x2 x3 x4 x5 xl D0
  refine (rcov_any z0 z1 z2 z3 z4 z5 ao len cap l w1 ⟨HM1.out,HTA.out,rfl⟩ ((HI.out.below DB).mono DB.size) (H6.out.zo HM2.out) HL.out hm).mono ?_
  rintro e w2 ⟨hB,is,f,rfl,hC⟩
  have HC:=Lib.hid hC
  replace DB:=later DB hB
  clear hC hB
  go_wp2_with fail
  exact bodyPost_ret (v:=.tuple #[.bool is,.int .i64 f]) (by simp [results,Tryz.results40,go_sem]) rfl ⟨DB,is,f,rfl,0,HR.out,.inr ⟨rfl,HC.out⟩⟩
 ·have HR:=Lib.hid hR
  have hfb:(f==0)=false:=beq_eq_false_iff_ne.2 h0
  clear hR D0
  go_wp2_with fail
  exact bodyPost_ret (v:=.tuple #[.bool false,.int .i64 f]) (by simp [results,Tryz.results40,go_sem]) rfl ⟨DB,false,f,rfl,f,HR.out,.inl ⟨h0,rfl,rfl⟩⟩
def Wr (a b:List (List Int)) (k:Nat):Prop:=∀ is f,Alls RestR b (a.drop k) is f→Alls RestR b a is f
set_option maxRecDepth 100000 in
set_option maxHeartbeats 16000000 in
theorem rallc_any (ao:Option Addr) (len cap:Nat) (bo:Option Addr) (lenb capb:Nat) (a b:List (List Int)) (w:World) (hI:Zs w.heap.size w (.slice ao len cap) a) (hJ:Zs w.heap.size w (.slice bo lenb capb) b) (ha:∀ x,x ∈ a→Zo x) (hb:∀ x,x ∈ b→Zo x) (hla:a.length=len) (hlb:b.length=lenb) (hma:len≤1000000) (hmb:lenb≤1000000):
  Calls Tryz.prog 79 #[.slice ao len cap,.slice bo lenb capb] w fun e w'=>Below w.heap.size w w'∧∃ (is:Bool) (f:Int),e=.returned (.tuple #[.bool is,.int .i64 f])∧Alls RestR b a is f:=by
 have HIA:=Lib.hid hI
 have HIB:=Lib.hid hJ
 have HZA:=Lib.hid ha
 have HZB:=Lib.hid hb
 have HLA:=Lib.hid hla
 have HLB:=Lib.hid hlb
 clear hI hJ ha hb hla hlb
 go_enter Tryz.func79,Tryz.ntmps79
 go_wp2_with fail
 go_loopw [6] (fun i wr=>∃ k:Nat,k≤len∧i=.int .i64 k∧Below w.heap.size w wr∧RowKit.Hid (Wr a b k)) (fun i _=>len - (intOf i).toNat)
 case atStart=>exact ⟨0,Nat.zero_le _,rfl,Below.refl _ _,Lib.hid (fun is f q=>q)⟩
 case round=>
  obtain ⟨k,hk,rfl,hB,HW⟩:=hrel
  by_cases hkn:k<len
  ·have hkz:k<a.length:=by rw [HLA.out];exact hkn
   obtain ⟨bq,off,rfl,-,hbq,c0,c1,c2,c3,c4,c5⟩:=zs_at (HIA.out.below hB) hkz
   have hbr:bq<wr.heap.size:=Nat.lt_of_lt_of_le hbq hB.size
   have hzk:=HZA.out _ (zat_mem hkz)
   have hdr:a.drop k=zat a k::a.drop (k+1):=by
    rw [List.drop_eq_getElem_cons hkz]
    unfold zat
    rw [List.getElem?_eq_getElem hkz]
    rfl
   generalize zat a k=zk at c0 c1 c2 c3 c4 c5 hzk hdr
   obtain ⟨z0,z1,z2,z3,z4,z5,rfl⟩:=six hzk.2.2
   have c0:wr.cell? ⟨bq,off+k*6,none⟩=some (.int .i64 z0):=c0
   have c1:wr.cell? ⟨bq,off+k*6+1,none⟩=some (.int .i64 z1):=c1
   have c2:wr.cell? ⟨bq,off+k*6+2,none⟩=some (.int .i64 z2):=c2
   have c3:wr.cell? ⟨bq,off+k*6+3,none⟩=some (.int .i64 z3):=c3
   have c4:wr.cell? ⟨bq,off+k*6+4,none⟩=some (.int .i64 z4):=c4
   have c5:wr.cell? ⟨bq,off+k*6+5,none⟩=some (.int .i64 z5):=c5
   have HZK:=Lib.hid hzk
   have HDR:=Lib.hid hdr
   have hkn':(k:Int)<len:=by omega
   clear hzk hdr
   go_wp2_with fail
   clear c0 c1 c2 c3 c4 c5 hbr
   refine (rcov_any z0 z1 z2 z3 z4 z5 bo lenb capb b wr HZK.out ((HIB.out.below hB).mono hB.size) HZB.out HLB.out hmb).mono ?_
   rintro e w2 ⟨hB2,is,f,rfl,x,hx,he⟩
   replace hB:=later hB hB2
   clear hB2
   by_cases hf:f=0
   ·subst hf
    cases is with
    | true=>
     obtain ⟨-,hxn⟩:=of_decide_eq_true he.symm
     have HW2:=Lib.hid (show Wr a b (k+1) from fun is f q=>HW.out is f (by rw [HDR.out];exact ⟨x,0,hx,.inr ⟨rfl,.inr ⟨hxn,q⟩⟩⟩))
     clear hx he hxn HW
     go_wp2_with fail
     go_roundw
     case rel=>exact ⟨k+1,by omega,by go_num,hB,HW2⟩
     case measure=>simp [intOf];omega
    | false=>
     have hxn:x≠[]:=fun e=>(of_decide_eq_false he.symm) ⟨rfl,e⟩
     have HC:=Lib.hid (show Alls RestR b a false 0 from HW.out false 0 (by rw [HDR.out];exact ⟨x,0,hx,.inr ⟨rfl,.inl ⟨hxn,rfl,rfl⟩⟩⟩))
     clear hx he hxn HW
     go_wp2_with fail
     exact bodyPost_ret (v:=.tuple #[.bool false,.int .i64 0]) (by simp [results,Tryz.results79,go_sem]) rfl ⟨hB,false,0,rfl,HC.out⟩
   ·have HC:=Lib.hid (show Alls RestR b a false f from HW.out false f (by rw [HDR.out];exact ⟨x,f,hx,.inl ⟨hf,rfl,rfl⟩⟩))
    have hfb:(f==0)=false:=beq_eq_false_iff_ne.2 hf
    have hfn:(f !=0)=true:=by simpa using hf
    clear hx he HW
    go_wp2_with fail
    exact bodyPost_ret (v:=.tuple #[.bool false,.int .i64 f]) (by simp [results,Tryz.results79,go_sem]) rfl ⟨hB,false,f,rfl,HC.out⟩
  ·have hke:k=a.length:=by have:=HLA.out;omega
   have hkn':¬ (k:Int)<len:=by omega
   have HC:=Lib.hid (show Alls RestR b a true 0 from HW.out true 0 (by rw [hke,List.drop_length];exact ⟨rfl,rfl⟩))
   clear HW
   go_wp2_with fail
   exact bodyPost_ret (v:=.tuple #[.bool true,.int .i64 0]) (by simp [results,Tryz.results79,go_sem]) rfl ⟨hB,.inr ⟨0,rfl,HC.out⟩⟩
set_option maxRecDepth 100000 in
set_option maxHeartbeats 8000000 in
theorem rall_any (ao:Option Addr) (len cap:Nat) (bo:Option Addr) (lenb capb:Nat) (a b:List (List Int)) (w:World) (hI:Zs w.heap.size w (.slice ao len cap) a) (hJ:Zs w.heap.size w (.slice bo lenb capb) b) (ha:Six a) (hb:Six b) (loa:∀ z,z ∈ a→Low z) (lob:∀ z,z ∈ b→Low z) (hla:a.length=len) (hlb:b.length=lenb) (hma:len≤1000000) (hmb:lenb≤1000000):
  Calls Tryz.prog 42 #[.slice ao len cap,.slice bo lenb capb] w fun e w'=>Below w.heap.size w w'∧∃ (is:Bool) (f:Int),e=.returned (.tuple #[.bool is,.int .i64 f])∧AllX RestR a b is f:=by
 have c1:=rcheck_any ao len cap bo lenb capb a b w hI hJ ha hb loa lob hla hlb hma hmb
 have HIA:=Lib.hid hI
 have HIB:=Lib.hid hJ
 have H6A:=Lib.hid ha
 have H6B:=Lib.hid hb
 have HLA:=Lib.hid hla
 have HLB:=Lib.hid hlb
 clear hI hJ ha hb loa lob hla hlb
 go_enter Tryz.func42,Tryz.ntmps42
 go_wp2_with fail
 refine Calls.mono c1 ?_
 rintro e w1 ⟨hB,f,rfl,hR⟩
 clear c1
 by_cases h0:f=0
 ·subst h0
  obtain ⟨-,-,h3,h4⟩:=chk_fine hR
  have HR:=Lib.hid hR
  have HM1:=Lib.hid h3
  have HM2:=Lib.hid h4
  clear hR h3 h4
  go_wp2_with fail
  refine (rallc_any ao len cap bo lenb capb a b w1 (HIA.out.on hB) (HIB.out.on hB) (H6A.out.zo HM1.out) (H6B.out.zo HM2.out) HLA.out HLB.out hma hmb).mono ?_
  rintro e w2 ⟨hB2,is,f,rfl,hC⟩
  have HC:=Lib.hid hC
  replace hB:=later hB hB2
  clear hC hB2
  go_wp2_with fail
  exact bodyPost_ret (v:=.tuple #[.bool is,.int .i64 f]) (by simp [results,Tryz.results42,go_sem]) rfl ⟨hB,is,f,rfl,0,HR.out,.inr ⟨rfl,HC.out⟩⟩
 ·have HR:=Lib.hid hR
  have hfb:(f==0)=false:=beq_eq_false_iff_ne.2 h0
  clear hR
  go_wp2_with fail
  exact bodyPost_ret (v:=.tuple #[.bool false,.int .i64 f]) (by simp [results,Tryz.results42,go_sem]) rfl ⟨hB,false,f,rfl,f,HR.out,.inl ⟨h0,rfl,rfl⟩⟩
set_option maxRecDepth 100000 in
set_option maxHeartbeats 8000000 in
theorem rwit_any (z0 z1 z2 z3 z4 z5:Int) (ao:Option Addr) (len cap:Nat) (l:List (List Int)) (w:World) (lo:Low [z0,z1,z2,z3,z4,z5]) (ta:Tops [z0,z1,z2,z3,z4,z5]) (hI:Zs w.heap.size w (.slice ao len cap) l) (h6:Six l) (lol:∀ z,z ∈ l→Low z) (hl:l.length=len) (hm:len≤1000000):
  Calls Tryz.prog 46 #[.agg #[.int .i64 z0,.int .i64 z1,.int .i64 z2,.int .i64 z3,.int .i64 z4,.int .i64 z5],.slice ao len cap] w fun e w'=>Below w.heap.size w w'∧∃ (a b c d f:Int),e=.returned (.tuple #[.agg #[.int .i64 a,.int .i64 b,.int .i64 c,.int .i64 d],.int .i64 f])∧WitX RestR [z0,z1,z2,z3,z4,z5] l (a,b,c,d) f:=by
 obtain ⟨w0,hX⟩:∃ w0,w0=((w.alloc (.cells #[.int .i64 z0,.int .i64 z1,.int .i64 z2,.int .i64 z3,.int .i64 z4,.int .i64 z5] 27)).alloc (.cells #[.int .i64 0,.int .i64 0,.int .i64 0,.int .i64 0] 47)).alloc (.cells #[.int .i64 z0,.int .i64 z1,.int .i64 z2,.int .i64 z3,.int .i64 z4,.int .i64 z5] 27):=⟨_,rfl⟩
 have DB:Below w.heap.size w w0:=by rw [hX];exact bound.up3 _ _ _ _
 have D0:lies.Lies w0 w.heap.size 27 #[.int .i64 z0,.int .i64 z1,.int .i64 z2,.int .i64 z3,.int .i64 z4,.int .i64 z5]:=by rw [hX];exact lies.on_alloc (lies.on_alloc (lies.made _ _ _) _) _
 have DP:lies.Lies w0 (w.heap.size+1) 47 #[.int .i64 0,.int .i64 0,.int .i64 0,.int .i64 0]:=by rw [hX];exact lies.on_alloc (lies.made_at _ _ _ _ (by simp)) _
 have D1:lies.Lies w0 (w.heap.size+1+1) 27 #[.int .i64 z0,.int .i64 z1,.int .i64 z2,.int .i64 z3,.int .i64 z4,.int .i64 z5]:=by rw [hX];exact lies.made_at _ _ _ _ (by simp)
 have HTA:=Lib.hid ta
 have HLO:=Lib.hid lo
 have HI:=Lib.hid hI
 have H6:=Lib.hid h6
 have HLL:=Lib.hid lol
 have HL:=Lib.hid hl
 clear ta lo hI h6 lol hl
 go_enter Tryz.func46,Tryz.ntmps46
 go_wp2_with fail
 rw [←hX]
 clear hX
 refine (rcheck_any ao len cap (some ⟨w.heap.size+1+1,0,none⟩) 1 1 l [[z0,z1,z2,z3,z4,z5]] w0 ((HI.out.below DB).mono DB.size) (zs_box D1) H6.out (six_self rfl HTA.out) HLL.out (fun z hz=>by rw [List.mem_singleton.1 hz];exact HLO.out) HL.out rfl hm (by decide)).mono ?_
 rintro e w1 ⟨hB,f,rfl,hR⟩
 replace D0:=lies.on_call D0 hB
 replace DP:=lies.on_call DP hB
 replace DB:=later DB hB
 clear hB D1
 by_cases h0:f=0
 ·subst h0
  obtain ⟨h1,h2,h3,h4⟩:=chk_fine hR
  have HR:=Lib.hid hR
  have HM1:=Lib.hid (h4 _ List.mem_cons_self)
  have HM2:=Lib.hid h3
  clear hR h1 h2 h3 h4
  obtain ⟨⟨x0,x1,x2,x3,x4,x5⟩,-,xl⟩:=six_cells D0
  go_wp2_with fail
  clear x0 x1 x2 x3 x4 x5 xl D0
  refine (mref.rest_any z0 z1 z2 z3 z4 z5 ao len cap l w1 ⟨HM1.out,HTA.out,rfl⟩ ((HI.out.below DB).mono DB.size) (H6.out.zo HM2.out) HL.out hm).mono ?_
  rintro e w2 ⟨hB,v,r,g,rfl,hC,hO⟩
  replace DP:=lies.on_call DP hB
  replace DB:=later DB hB
  clear hB
  obtain ⟨av,cv,rfl⟩:=zs_len (zs_own hO)
  have HC:=Lib.hid hC
  clear hC
  by_cases hg:g=0
  ·subst hg
   have hzo:=rest_zo l (H6.out.zo HM2.out) (fun z hz=>by rw [List.mem_singleton.1 hz];exact ⟨HM1.out,HTA.out,rfl⟩) HC.out
   have hzs:=zs_own hO
   generalize hmm:r.length=m at hzs ⊢
   have HMM:=Lib.hid hmm
   clear hO hmm
   by_cases hm0:m=0
   ·subst hm0
    clear hzs hzo
    obtain ⟨⟨x0,x1,x2,x3⟩,⟨y0,y1,y2,y3⟩,xl⟩:=four_cells DP
    go_wp2_with fail
    exact bodyPost_ret (v:=.tuple #[.agg #[.int .i64 0,.int .i64 0,.int .i64 0,.int .i64 0],.int .i64 6]) (by simp [results,Tryz.results46,go_sem,x0,x1,x2,x3,xl]) rfl ⟨put_four DB (Nat.le_succ _) _ _ _ _,0,0,0,0,6,rfl,0,HR.out,.inr ⟨rfl,r,0,HC.out,.inr (.inl ⟨rfl,List.length_eq_zero_iff.1 HMM.out,rfl,rfl⟩)⟩⟩
   ·have hm1:¬ (m:Int)=0:=by omega
    have hm2:(0:Int)<m:=by omega
    have h0r:0<r.length:=by rw [HMM.out];omega
    obtain ⟨bq,off,rfl,-,hb,c0,c1,c2,c3,c4,c5⟩:=zs_at hzs h0r
    have hz:=hzo _ (zat_mem h0r)
    have HZZ:=Lib.hid (show ∀ z,zat r 0=z→pks 3 (fullT z)=pks 3 (fullT (zat r 0)) from fun z e=>by rw [e])
    generalize hz0:zat r 0=zk at c0 c1 c2 c3 c4 c5 hz
    have HZ0:=Lib.hid (HZZ.out _ hz0)
    clear hz0 HZZ hzo hzs h0r
    obtain ⟨t0,t1,t2,t3,t4,t5,rfl⟩:=six hz.2.2
    rw [Nat.zero_mul,Nat.add_zero] at c0 c1 c2 c3 c4 c5
    have c0:w2.cell? ⟨bq,off,none⟩=some (.int .i64 t0):=c0
    have c1:w2.cell? ⟨bq,off+1,none⟩=some (.int .i64 t1):=c1
    have c2:w2.cell? ⟨bq,off+2,none⟩=some (.int .i64 t2):=c2
    have c3:w2.cell? ⟨bq,off+3,none⟩=some (.int .i64 t3):=c3
    have c4:w2.cell? ⟨bq,off+4,none⟩=some (.int .i64 t4):=c4
    have c5:w2.cell? ⟨bq,off+5,none⟩=some (.int .i64 t5):=c5
    have HZO:=Lib.hid hz
    clear hz
    go_wp2_with fail
    clear c0 c1 c2 c3 c4 c5
    refine (rpicked_any t0 t1 t2 t3 t4 t5 w2 HZO.out.1 HZO.out.2.1).mono ?_
    rintro e w3 ⟨hB,a,b,c,d,rfl,hpk⟩
    replace DP:=lies.on_call DP hB
    replace DB:=later DB hB
    clear hB
    have HPK:=Lib.hid hpk
    clear hpk
    obtain ⟨⟨x0,x1,x2,x3⟩,⟨y0,y1,y2,y3⟩,xl⟩:=four_cells DP
    go_wp2_with fail
    exact bodyPost_ret (v:=.tuple #[.agg #[.int .i64 a,.int .i64 b,.int .i64 c,.int .i64 d],.int .i64 0]) (by simp [results,Tryz.results46,go_sem,x0,x1,x2,x3,xl]) rfl ⟨put_four DB (Nat.le_succ _) _ _ _ _,a,b,c,d,0,rfl,0,HR.out,.inr ⟨rfl,r,0,HC.out,.inr (.inr ⟨rfl,fun e=>hm0 (by rw [←HMM.out,e];rfl),by rw [←HZ0.out];exact HPK.out,rfl⟩)⟩⟩
  ·have hfb:(g==0)=false:=beq_eq_false_iff_ne.2 hg
   clear hO
   obtain ⟨⟨x0,x1,x2,x3⟩,⟨y0,y1,y2,y3⟩,xl⟩:=four_cells DP
   go_wp2_with fail
   exact bodyPost_ret (v:=.tuple #[.agg #[.int .i64 0,.int .i64 0,.int .i64 0,.int .i64 0],.int .i64 g]) (by simp [results,Tryz.results46,go_sem,x0,x1,x2,x3,xl]) rfl ⟨put_four DB (Nat.le_succ _) _ _ _ _,0,0,0,0,g,rfl,0,HR.out,.inr ⟨rfl,r,g,HC.out,.inl ⟨hg,rfl,rfl⟩⟩⟩
 ·have HR:=Lib.hid hR
  have hfb:(f==0)=false:=beq_eq_false_iff_ne.2 h0
  clear hR D0
  obtain ⟨⟨x0,x1,x2,x3⟩,⟨y0,y1,y2,y3⟩,xl⟩:=four_cells DP
  go_wp2_with fail
  exact bodyPost_ret (v:=.tuple #[.agg #[.int .i64 0,.int .i64 0,.int .i64 0,.int .i64 0],.int .i64 f]) (by simp [results,Tryz.results46,go_sem,x0,x1,x2,x3,xl]) rfl ⟨put_four DB (Nat.le_succ _) _ _ _ _,0,0,0,0,f,rfl,f,HR.out,.inl ⟨h0,rfl,rfl⟩⟩
end Go.Proofs.YthmljpccbjolgaaGreatDoor.cref
namespace Go.Proofs.YthmljpccbjolgaaGreatDoor.cref
open Go.Joins Go.ChangeShapes Go.WideShapes Go.ChangeAt Go.RowKit num rat dbm dref Go.Proofs.YthmljpccbjolgaaGreatDoor.tight Go.Proofs.YthmljpccbjolgaaGreatDoor.incl Go.Proofs.YthmljpccbjolgaaGreatDoor.plaw Go.Proofs.YthmljpccbjolgaaGreatDoor.zopen Go.Proofs.YthmljpccbjolgaaGreatDoor.zone Go.Proofs.YthmljpccbjolgaaGreatDoor.win Go.Proofs.YthmljpccbjolgaaGreatDoor.minus Go.Proofs.YthmljpccbjolgaaGreatDoor.mz Go.Proofs.YthmljpccbjolgaaGreatDoor.mlaw Go.Proofs.YthmljpccbjolgaaGreatDoor.zref Go.Proofs.YthmljpccbjolgaaGreatDoor.mref Go.Proofs.YthmljpccbjolgaaGreatDoor.cover
open bound hiding up
set_option linter.unusedVariables false
set_option linter.unusedSimpArgs false
set_option linter.unusedSectionVars false
set_option maxRecDepth 100000 in
set_option maxHeartbeats 16000000 in
theorem rwithout_any (ao:Option Addr) (len cap:Nat) (l:List (List Int)) (a:Nat) (w:World) (hI:Zs w.heap.size w (.slice ao len cap) l) (h6:∀ x,x ∈ l→x.length=6) (hl:l.length=len) (hm:len≤1000000):
  Calls Tryz.prog 125 #[.slice ao len cap,.int .i64 a] w fun e w'=>∃ v,e=.returned v∧Below w.heap.size w w'∧w'.ownsRow w.heap.size 27 6 v (l.eraseIdx a).length (flatZ (l.eraseIdx a)):=by
 have HI:=Lib.hid hI
 have H6:=Lib.hid h6
 have HL:=Lib.hid hl
 clear hI h6 hl
 go_enter Tryz.func125,Tryz.ntmps125
 go_wp2_with fail
 go_loopw [6,5] (fun i v wr=>∃ (k m:Nat) (cur:List (List Int)),k≤len∧i=.int .i64 k∧m=cur.length∧m≤k∧Below w.heap.size w wr∧wr.ownsRow w.heap.size 27 6 v m (flatZ cur)∧RowKit.Hid (cur=(l.take k).eraseIdx a)) (fun i _ _=>len - (intOf i).toNat)
 case atStart=>exact ⟨0,0,[],Nat.zero_le _,rfl,rfl,Nat.le_refl _,Below.refl _ _,World.ownsRow_nil _ _ _ _,Lib.hid (by simp)⟩
 case round=>
  obtain ⟨k,m,cur,hk,rfl,hmc,hmk,hB,hO,HC⟩:=hrel
  obtain ⟨av,cv,hv⟩:=zs_len (zs_own hO)
  rw [←hmc] at hv
  subst hv
  have HMC:=Lib.hid hmc
  clear hmc
  by_cases hkn:k<len
  ·have hkz:k<l.length:=by rw [HL.out];exact hkn
   have hkn':(k:Int)<len:=by omega
   by_cases hka:k=a
   ·have hka':(k:Int)=(a:Int):=by omega
    have hkb:((k:Int) !=(a:Int))=false:=by simp [hka']
    have HN:=Lib.hid (show cur=(l.take (k+1)).eraseIdx a by rw [HC.out,era_same hkz hka])
    have HO:=Lib.hid hO
    clear hO HC hka
    go_wp2_with fail
    go_roundw
    case rel=>exact ⟨k+1,m,cur,by omega,by go_num,HMC.out,by omega,hB,HO.out,HN⟩
    case measure=>simp [intOf];omega
   ·have hka':¬ (k:Int)=(a:Int):=by omega
    have hkb:((k:Int) !=(a:Int))=true:=by simp [hka']
    obtain ⟨bq,off,rfl,-,hb,c0,c1,c2,c3,c4,c5⟩:=zs_at (HI.out.below hB) hkz
    have hbr:bq<wr.heap.size:=Nat.lt_of_lt_of_le hb hB.size
    have hz6:=H6.out _ (zat_mem hkz)
    have HN:=Lib.hid (show cur++[zat l k]=(l.take (k+1)).eraseIdx a by rw [HC.out,era_more hkz hka])
    generalize zat l k=zk at c0 c1 c2 c3 c4 c5 hz6 HN
    obtain ⟨z0,z1,z2,z3,z4,z5,rfl⟩:=six hz6
    have c0:wr.cell? ⟨bq,off+k*6,none⟩=some (.int .i64 z0):=c0
    have c1:wr.cell? ⟨bq,off+k*6+1,none⟩=some (.int .i64 z1):=c1
    have c2:wr.cell? ⟨bq,off+k*6+2,none⟩=some (.int .i64 z2):=c2
    have c3:wr.cell? ⟨bq,off+k*6+3,none⟩=some (.int .i64 z3):=c3
    have c4:wr.cell? ⟨bq,off+k*6+4,none⟩=some (.int .i64 z4):=c4
    have c5:wr.cell? ⟨bq,off+k*6+5,none⟩=some (.int .i64 z5):=c5
    have hA:=bound.up1 wr (.cells #[.int .i64 z0,.int .i64 z1,.int .i64 z2,.int .i64 z3,.int .i64 z4,.int .i64 z5] 27)
    have hO1:=incl.own_call hO hA
    obtain ⟨v1,w2,hrun,own,hgrow,-⟩:=app_zones w.heap.size 29 (.slice av m cv) (.slice (some ⟨wr.heap.size,0,none⟩) 1 1) m _ (flatZ cur) [[z0,z1,z2,z3,z4,z5]] (wr.alloc (.cells #[.int .i64 z0,.int .i64 z1,.int .i64 z2,.int .i64 z3,.int .i64 z4,.int .i64 z5] 27)) hO1 (zs_box (lies.made wr 27 #[.int .i64 z0,.int .i64 z1,.int .i64 z2,.int .i64 z3,.int .i64 z4,.int .i64 z5])) (by show m+1≤_;omega) (Nat.le_trans hB.size hA.size)
    have hB1:Below w.heap.size w (wr.alloc (.cells #[.int .i64 z0,.int .i64 z1,.int .i64 z2,.int .i64 z3,.int .i64 z4,.int .i64 z5] 27)):=later hB hA
    have hB2:=held_grown hB1 hB1.size hO1 (Nat.le_refl _) hgrow
    have HRUN:=Lib.hid hrun
    have HOWN:=Lib.hid (show w2.ownsRow w.heap.size 27 6 v1 (m+1) (flatZ (cur++[[z0,z1,z2,z3,z4,z5]])) by rw [flatZ_app];exact own)
    have HM1:=Lib.hid (show m+1=(cur++[[z0,z1,z2,z3,z4,z5]]).length by rw [List.length_append,←HMC.out];rfl)
    clear hrun own hgrow hO hO1 hB1 hA hB HC hz6 hka
    go_wp2_with (at_builtin;refine dref.append_run2 rfl (.tmp 16) (.tmp 21) 29 rfl _ _ _ _ rfl rfl HRUN.out ?_;clear HRUN)
    go_roundw
    case rel=>exact ⟨k+1,m+1,cur++[[z0,z1,z2,z3,z4,z5]],by omega,by go_num,HM1.out,by omega,hB2,HOWN.out,HN⟩
    case measure=>simp [intOf];omega
  ·have hke:k=l.length:=by have:=HL.out;omega
   have hkn':¬ (k:Int)<len:=by omega
   have hcur:cur=l.eraseIdx a:=by rw [HC.out,hke,List.take_length]
   have HO:=Lib.hid (show wr.ownsRow w.heap.size 27 6 (.slice av m cv) (l.eraseIdx a).length (flatZ (l.eraseIdx a)) by rw [←hcur,←HMC.out];exact hO)
   clear hO HC hcur hke
   go_wp2_with fail
   go_ret
   exact ⟨_,rfl,hB,HO.out⟩
def lenV:Value→Nat
 | .slice _ n _=>n
 | _=>0
set_option maxRecDepth 100000 in
set_option maxHeartbeats 32000000 in
theorem rsorted_any (ao:Option Addr) (len cap:Nat) (l:List (List Int)) (w:World) (hI:Zs w.heap.size w (.slice ao len cap) l) (h6:∀ x,x ∈ l→x.length=6) (hl:l.length=len) (hm:len≤1000000):
  Calls Tryz.prog 124 #[.slice ao len cap] w fun e w'=>∃ v,e=.returned v∧Below w.heap.size w w'∧w'.ownsRow w.heap.size 27 6 v (srt l).length (flatZ (srt l)):=by
 have HI:=Lib.hid hI
 have H6:=Lib.hid h6
 have HL:=Lib.hid hl
 clear hI h6 hl
 go_enter Tryz.func124,Tryz.ntmps124
 go_wp2_with fail
 go_loopw [3] (fun v wr=>∃ (m:Nat) (out:List (List Int)),m=out.length∧m≤len∧Below w.heap.size w wr∧wr.ownsRow w.heap.size 27 6 v m (flatZ out)∧RowKit.Hid (Head l out)) (fun v _=>len+1 - lenV v)
 case atStart=>exact ⟨0,[],rfl,Nat.zero_le _,Below.refl _ _,World.ownsRow_nil _ _ _ _,Lib.hid ⟨List.Pairwise.nil,fun x hx=>(by cases hx),fun x hx=>.inr fun y hy=>(by cases hy)⟩⟩
 case round=>
  obtain ⟨m,out,hmo,hml,hB,hO,HH⟩:=hrel
  obtain ⟨av,cv,hv⟩:=zs_len (zs_own hO)
  rw [←hmo] at hv
  subst hv
  have HMO:=Lib.hid hmo
  have HOO:=Lib.hid (show ∀ x,x ∈ out→x.length=6 from fun x hx=>H6.out x (HH.out.2.1 x hx))
  clear hmo
  go_wp2_with fail
  go_loopw [5,4] (fun i b wq=>∃ (k:Nat) (bv:Int),k≤len∧i=.int .i64 k∧b=.int .i64 bv∧Below w.heap.size w wq∧wq.ownsRow w.heap.size 27 6 (.slice av m cv) m (flatZ out)∧RowKit.Hid (Best l out k bv)) (fun i _ _=>len - (intOf i).toNat)
  case atStart=>exact ⟨0,-1,Nat.zero_le _,rfl,rfl,hB,hO,Lib.hid (best_zero l out)⟩
  case round=>
   clear hB hO
   obtain ⟨k,bv,hk,rfl,rfl,hB,hO,HBS⟩:=hrel
   by_cases hkn:k<len
   ·have hkz:k<l.length:=by rw [HL.out];exact hkn
    have hkn':(k:Int)<len:=by omega
    have hz6:=H6.out _ (zat_mem hkz)
    obtain ⟨bq,off,rfl,hbq⟩:∃ b off,ao=some ⟨b,off,none⟩∧b<w.heap.size:=by
     obtain ⟨b,off,e,_,hb,_⟩:=zs_at HI.out hkz
     exact ⟨b,off,e,hb⟩
    obtain ⟨z0,z1,z2,z3,z4,z5,hez⟩:=six hz6
    have HEZ:=Lib.hid hez
    have HKZ:=Lib.hid hkz
    have HBH:=Lib.hid (show Bh out (zat l k)↔Bh out [z0,z1,z2,z3,z4,z5] by rw [hez])
    clear hez hz6 hkz
    by_cases hm0:m=0
    ·skip
     subst hm0
     go_wp2_with fail
     refine wp_region_held_drew (S:=Below wr.heap.size wr) (by kernel_rfl) (dbm.drawn1 (Below.refl _ _)) (fun hHeld=>?_)
     generalize hwD:wr.drew=wE at hHeld ⊢
     clear hwD
     refine tk 0 (v:=?_) rfl hHeld ?_ ?_
     rotate_left
     ·intro w hSw;skip;go_simp;try with_reducible rfl
     try simp only [Act.put,sA,sB,sC,sD,sE,sF]
     refine tk 1 (v:=?_) rfl hHeld ?_ ?_
     rotate_left
     ·intro w hSw;skip;go_simp;try with_reducible rfl
     try simp only [Act.put,sA,sB,sC,sD,sE,sF]
     refine tk 2 (v:=?_) rfl hHeld ?_ ?_
     rotate_left
     ·intro w hSw;skip;go_simp;try with_reducible rfl
     try simp only [Act.put,sA,sB,sC,sD,sE,sF]
     refine tk 3 (v:=?_) rfl hHeld ?_ ?_
     rotate_left
     ·intro w hSw;skip;go_simp;try with_reducible rfl
     try simp only [Act.put,sA,sB,sC,sD,sE,sF]
     refine wpAnyH_take (i:=4) (v:=undef) rfl (by kernel_rfl) (by kernel_rfl) (by kernel_rfl) (fun _ _ _ h=>h) (Or.inr ⟨by rfl,rfl⟩) hHeld ?_
     try simp only [Act.put,sA,sB,sC,sD,sE,sF]
     refine wpAnyH_take (i:=5) (v:=undef) rfl (by kernel_rfl) (by kernel_rfl) (by kernel_rfl) (fun _ _ _ h=>h) (Or.inr ⟨by rfl,rfl⟩) hHeld ?_
     try simp only [Act.put,sA,sB,sC,sD,sE,sF]
     refine wpAnyH_take (i:=6) (v:=undef) rfl (by kernel_rfl) (by kernel_rfl) (by kernel_rfl) (fun _ _ _ h=>h) (Or.inr ⟨by rfl,rfl⟩) hHeld ?_
     try simp only [Act.put,sA,sB,sC,sD,sE,sF]
     refine wpAnyH_take (i:=7) (v:=undef) rfl (by kernel_rfl) (by kernel_rfl) (by kernel_rfl) (fun _ _ _ h=>h) (Or.inr ⟨by rfl,rfl⟩) hHeld ?_
     try simp only [Act.put,sA,sB,sC,sD,sE,sF]
     refine wpAnyH_take (i:=8) (v:=undef) rfl (by kernel_rfl) (by kernel_rfl) (by kernel_rfl) (fun _ _ _ h=>h) (Or.inr ⟨by rfl,rfl⟩) hHeld ?_
     try simp only [Act.put,sA,sB,sC,sD,sE,sF]
     refine wpAnyH_take (i:=9) (v:=undef) rfl (by kernel_rfl) (by kernel_rfl) (by kernel_rfl) (fun _ _ _ h=>h) (Or.inr ⟨by rfl,rfl⟩) hHeld ?_
     try simp only [Act.put,sA,sB,sC,sD,sE,sF]
     refine wpAnyH_take (i:=10) (v:=undef) rfl (by kernel_rfl) (by kernel_rfl) (by kernel_rfl) (fun _ _ _ h=>h) (Or.inr ⟨by rfl,rfl⟩) hHeld ?_
     try simp only [Act.put,sA,sB,sC,sD,sE,sF]
     refine wpAnyH_take (i:=11) (v:=undef) rfl (by kernel_rfl) (by kernel_rfl) (by kernel_rfl) (fun _ _ _ h=>h) (Or.inr ⟨by rfl,rfl⟩) hHeld ?_
     try simp only [Act.put,sA,sB,sC,sD,sE,sF]
     refine wpAnyH_take (i:=12) (v:=undef) rfl (by kernel_rfl) (by kernel_rfl) (by kernel_rfl) (fun _ _ _ h=>h) (Or.inr ⟨by rfl,rfl⟩) hHeld ?_
     try simp only [Act.put,sA,sB,sC,sD,sE,sF]
     refine wpAnyH_take (i:=13) (v:=undef) rfl (by kernel_rfl) (by kernel_rfl) (by kernel_rfl) (fun _ _ _ h=>h) (Or.inr ⟨by rfl,rfl⟩) hHeld ?_
     try simp only [Act.put,sA,sB,sC,sD,sE,sF]
     refine wpAnyH_take (i:=14) (v:=undef) rfl (by kernel_rfl) (by kernel_rfl) (by kernel_rfl) (fun _ _ _ h=>h) (Or.inr ⟨by rfl,rfl⟩) hHeld ?_
     try simp only [Act.put,sA,sB,sC,sD,sE,sF]
     refine wpAnyH_take (i:=15) (v:=undef) rfl (by kernel_rfl) (by kernel_rfl) (by kernel_rfl) (fun _ _ _ h=>h) (Or.inr ⟨by rfl,rfl⟩) hHeld ?_
     try simp only [Act.put,sA,sB,sC,sD,sE,sF]
     refine tk 16 (v:=?_) rfl hHeld ?_ ?_
     rotate_left
     ·intro w hSw;skip;go_simp;try with_reducible rfl
     try simp only [Act.put,sA,sB,sC,sD,sE,sF]
     refine tk 17 (v:=?_) rfl hHeld ?_ ?_
     rotate_left
     ·intro w hSw;skip;go_simp;try with_reducible rfl
     try simp only [Act.put,sA,sB,sC,sD,sE,sF]
     refine wpAnyH_done (by kernel_rfl) ?_ _
     replace hB:=later hB hHeld
     replace hO:=incl.own_call hO hHeld
     clear hHeld
     have hbh:Bh out (zat l k):=.inl HMO.out.symm
     by_cases hbv:bv<0
     ·skip
      go_wp2_with fail
      refine wp_region_held_drew (S:=Below wE.heap.size wE) (by kernel_rfl) (dbm.drawn1 (Below.refl _ _)) (fun hHeld=>?_)
      generalize hwD:wE.drew=wF at hHeld ⊢
      clear hwD
      refine tk 0 (v:=?_) rfl hHeld ?_ ?_
      rotate_left
      ·intro w hSw;skip;go_simp;try with_reducible rfl
      try simp only [Act.put,sA,sB,sC,sD,sE,sF]
      refine tk 1 (v:=?_) rfl hHeld ?_ ?_
      rotate_left
      ·intro w hSw;skip;go_simp;try with_reducible rfl
      try simp only [Act.put,sA,sB,sC,sD,sE,sF]
      refine tk 2 (v:=?_) rfl hHeld ?_ ?_
      rotate_left
      ·intro w hSw;skip;go_simp;try with_reducible rfl
      try simp only [Act.put,sA,sB,sC,sD,sE,sF]
      refine tk 3 (v:=?_) rfl hHeld ?_ ?_
      rotate_left
      ·intro w hSw;skip;go_simp;try with_reducible rfl
      try simp only [Act.put,sA,sB,sC,sD,sE,sF]
      refine tk 4 (v:=?_) rfl hHeld ?_ ?_
      rotate_left
      ·intro w hSw;skip;go_simp;try with_reducible rfl
      try simp only [Act.put,sA,sB,sC,sD,sE,sF]
      refine wpAnyH_take (i:=5) (v:=undef) rfl (by kernel_rfl) (by kernel_rfl) (by kernel_rfl) (fun _ _ _ h=>h) (Or.inr ⟨by rfl,rfl⟩) hHeld ?_
      try simp only [Act.put,sA,sB,sC,sD,sE,sF]
      refine wpAnyH_take (i:=6) (v:=undef) rfl (by kernel_rfl) (by kernel_rfl) (by kernel_rfl) (fun _ _ _ h=>h) (Or.inr ⟨by rfl,rfl⟩) hHeld ?_
      try simp only [Act.put,sA,sB,sC,sD,sE,sF]
      refine wpAnyH_take (i:=7) (v:=undef) rfl (by kernel_rfl) (by kernel_rfl) (by kernel_rfl) (fun _ _ _ h=>h) (Or.inr ⟨by rfl,rfl⟩) hHeld ?_
      try simp only [Act.put,sA,sB,sC,sD,sE,sF]
      refine wpAnyH_take (i:=8) (v:=undef) rfl (by kernel_rfl) (by kernel_rfl) (by kernel_rfl) (fun _ _ _ h=>h) (Or.inr ⟨by rfl,rfl⟩) hHeld ?_
      try simp only [Act.put,sA,sB,sC,sD,sE,sF]
      refine wpAnyH_take (i:=9) (v:=undef) rfl (by kernel_rfl) (by kernel_rfl) (by kernel_rfl) (fun _ _ _ h=>h) (Or.inr ⟨by rfl,rfl⟩) hHeld ?_
      try simp only [Act.put,sA,sB,sC,sD,sE,sF]
      refine wpAnyH_take (i:=10) (v:=undef) rfl (by kernel_rfl) (by kernel_rfl) (by kernel_rfl) (fun _ _ _ h=>h) (Or.inr ⟨by rfl,rfl⟩) hHeld ?_
      try simp only [Act.put,sA,sB,sC,sD,sE,sF]
      refine wpAnyH_take (i:=11) (v:=undef) rfl (by kernel_rfl) (by kernel_rfl) (by kernel_rfl) (fun _ _ _ h=>h) (Or.inr ⟨by rfl,rfl⟩) hHeld ?_
      try simp only [Act.put,sA,sB,sC,sD,sE,sF]
      refine wpAnyH_take (i:=12) (v:=undef) rfl (by kernel_rfl) (by kernel_rfl) (by kernel_rfl) (fun _ _ _ h=>h) (Or.inr ⟨by rfl,rfl⟩) hHeld ?_
      try simp only [Act.put,sA,sB,sC,sD,sE,sF]
      refine wpAnyH_take (i:=13) (v:=undef) rfl (by kernel_rfl) (by kernel_rfl) (by kernel_rfl) (fun _ _ _ h=>h) (Or.inr ⟨by rfl,rfl⟩) hHeld ?_
      try simp only [Act.put,sA,sB,sC,sD,sE,sF]
      refine wpAnyH_take (i:=14) (v:=undef) rfl (by kernel_rfl) (by kernel_rfl) (by kernel_rfl) (fun _ _ _ h=>h) (Or.inr ⟨by rfl,rfl⟩) hHeld ?_
      try simp only [Act.put,sA,sB,sC,sD,sE,sF]
      refine tk 15 (v:=?_) rfl hHeld ?_ ?_
      rotate_left
      ·intro w hSw;skip;go_simp;try with_reducible rfl
      try simp only [Act.put,sA,sB,sC,sD,sE,sF]
      refine tk 16 (v:=?_) rfl hHeld ?_ ?_
      rotate_left
      ·intro w hSw;skip;go_simp;try with_reducible rfl
      try simp only [Act.put,sA,sB,sC,sD,sE,sF]
      refine wpAnyH_done (by kernel_rfl) ?_ _
      replace hB:=later hB hHeld
      replace hO:=incl.own_call hO hHeld
      clear hHeld
      have HBV:=Lib.hid hbv
      clear hbv
      have HN:=Lib.hid (best_first HBS.out HBV.out hbh)
      have HO:=Lib.hid hO
      clear hO
      go_wp2_with fail
      go_roundw
      case rel=>exact ⟨k+1,(k:Int),by omega,by go_num,rfl,hB,HO.out,HN⟩
      case measure=>simp [intOf];omega
     ·skip
      obtain ⟨kb,rfl,hkb⟩:∃ kb:Nat,bv=(kb:Int)∧kb<k:=by
       rcases HBS.out with ⟨h,_⟩ | ⟨x,h,h2,_⟩
       ·omega
       ·exact ⟨x,h,h2⟩
      have hkbz:kb<l.length:=by have:=HKZ.out;omega
      have hkb0:(0:Int)≤(kb:Int):=by omega
      have hkbl:(kb:Int)<len:=by omega
      obtain ⟨y0,y1,y2,y3,y4,y5,hey⟩:=six (H6.out _ (zat_mem hkbz))
      have HEY:=Lib.hid hey
      have HYZ:=Lib.hid hkbz
      have HCM:=Lib.hid (show cmpL (zat l k) (zat l kb)=cmpL [z0,z1,z2,z3,z4,z5] [y0,y1,y2,y3,y4,y5] by rw [HEZ.out,hey])
      clear hey hkbz
      go_wp2_with fail
      refine wp_region_held_drew (S:=Below wE.heap.size wE) (by kernel_rfl) (dbm.drawn1 (Below.refl _ _)) (fun hHeld=>?_)
      generalize hwD:wE.drew=wF at hHeld ⊢
      clear hwD
      refine tk 0 (v:=?_) rfl hHeld ?_ ?_
      rotate_left
      ·intro w hSw;obtain ⟨c0,c1,c2,c3,c4,c5⟩:=zs_cells (HI.out.below (later hB hSw)) HKZ.out HEZ.out;obtain ⟨d0,d1,d2,d3,d4,d5⟩:=zs_cells (HI.out.below (later hB hSw)) HYZ.out HEY.out;go_simp;try with_reducible rfl
      try simp only [Act.put,sA,sB,sC,sD,sE,sF]
      refine tk 1 (v:=?_) rfl hHeld ?_ ?_
      rotate_left
      ·intro w hSw;obtain ⟨c0,c1,c2,c3,c4,c5⟩:=zs_cells (HI.out.below (later hB hSw)) HKZ.out HEZ.out;obtain ⟨d0,d1,d2,d3,d4,d5⟩:=zs_cells (HI.out.below (later hB hSw)) HYZ.out HEY.out;go_simp;try with_reducible rfl
      try simp only [Act.put,sA,sB,sC,sD,sE,sF]
      refine tk 2 (v:=?_) rfl hHeld ?_ ?_
      rotate_left
      ·intro w hSw;obtain ⟨c0,c1,c2,c3,c4,c5⟩:=zs_cells (HI.out.below (later hB hSw)) HKZ.out HEZ.out;obtain ⟨d0,d1,d2,d3,d4,d5⟩:=zs_cells (HI.out.below (later hB hSw)) HYZ.out HEY.out;go_simp;try with_reducible rfl
      try simp only [Act.put,sA,sB,sC,sD,sE,sF]
      refine tk 3 (v:=?_) rfl hHeld ?_ ?_
      rotate_left
      ·intro w hSw;obtain ⟨c0,c1,c2,c3,c4,c5⟩:=zs_cells (HI.out.below (later hB hSw)) HKZ.out HEZ.out;obtain ⟨d0,d1,d2,d3,d4,d5⟩:=zs_cells (HI.out.below (later hB hSw)) HYZ.out HEY.out;go_simp;try with_reducible rfl
      try simp only [Act.put,sA,sB,sC,sD,sE,sF]
      refine tk 4 (v:=?_) rfl hHeld ?_ ?_
      rotate_left
      ·intro w hSw;obtain ⟨c0,c1,c2,c3,c4,c5⟩:=zs_cells (HI.out.below (later hB hSw)) HKZ.out HEZ.out;obtain ⟨d0,d1,d2,d3,d4,d5⟩:=zs_cells (HI.out.below (later hB hSw)) HYZ.out HEY.out;go_simp;try with_reducible rfl
      try simp only [Act.put,sA,sB,sC,sD,sE,sF]
      refine tk 5 (v:=?_) rfl hHeld ?_ ?_
      rotate_left
      ·intro w hSw;obtain ⟨c0,c1,c2,c3,c4,c5⟩:=zs_cells (HI.out.below (later hB hSw)) HKZ.out HEZ.out;obtain ⟨d0,d1,d2,d3,d4,d5⟩:=zs_cells (HI.out.below (later hB hSw)) HYZ.out HEY.out;go_simp;try with_reducible rfl
      try simp only [Act.put,sA,sB,sC,sD,sE,sF]
      refine tk 6 (v:=?_) rfl hHeld ?_ ?_
      rotate_left
      ·intro w hSw;obtain ⟨c0,c1,c2,c3,c4,c5⟩:=zs_cells (HI.out.below (later hB hSw)) HKZ.out HEZ.out;obtain ⟨d0,d1,d2,d3,d4,d5⟩:=zs_cells (HI.out.below (later hB hSw)) HYZ.out HEY.out;go_simp;try with_reducible rfl
      try simp only [Act.put,sA,sB,sC,sD,sE,sF]
      refine tk 7 (v:=?_) rfl hHeld ?_ ?_
      rotate_left
      ·intro w hSw;obtain ⟨c0,c1,c2,c3,c4,c5⟩:=zs_cells (HI.out.below (later hB hSw)) HKZ.out HEZ.out;obtain ⟨d0,d1,d2,d3,d4,d5⟩:=zs_cells (HI.out.below (later hB hSw)) HYZ.out HEY.out;go_simp;try with_reducible rfl
      try simp only [Act.put,sA,sB,sC,sD,sE,sF]
      refine tk 8 (v:=?_) rfl hHeld ?_ ?_
      rotate_left
      ·intro w hSw;obtain ⟨c0,c1,c2,c3,c4,c5⟩:=zs_cells (HI.out.below (later hB hSw)) HKZ.out HEZ.out;obtain ⟨d0,d1,d2,d3,d4,d5⟩:=zs_cells (HI.out.below (later hB hSw)) HYZ.out HEY.out;go_simp;try with_reducible rfl
      try simp only [Act.put,sA,sB,sC,sD,sE,sF]
      refine tk 9 (v:=?_) rfl hHeld ?_ ?_
      rotate_left
      ·intro w hSw;obtain ⟨c0,c1,c2,c3,c4,c5⟩:=zs_cells (HI.out.below (later hB hSw)) HKZ.out HEZ.out;obtain ⟨d0,d1,d2,d3,d4,d5⟩:=zs_cells (HI.out.below (later hB hSw)) HYZ.out HEY.out;go_simp;try with_reducible rfl
      try simp only [Act.put,sA,sB,sC,sD,sE,sF]
      refine tk 10 (v:=?_) rfl hHeld ?_ ?_
      rotate_left
      ·intro w hSw;obtain ⟨c0,c1,c2,c3,c4,c5⟩:=zs_cells (HI.out.below (later hB hSw)) HKZ.out HEZ.out;obtain ⟨d0,d1,d2,d3,d4,d5⟩:=zs_cells (HI.out.below (later hB hSw)) HYZ.out HEY.out;go_simp;try with_reducible rfl
      try simp only [Act.put,sA,sB,sC,sD,sE,sF]
      refine tk 11 (v:=?_) rfl hHeld ?_ ?_
      rotate_left
      ·intro w hSw;obtain ⟨c0,c1,c2,c3,c4,c5⟩:=zs_cells (HI.out.below (later hB hSw)) HKZ.out HEZ.out;obtain ⟨d0,d1,d2,d3,d4,d5⟩:=zs_cells (HI.out.below (later hB hSw)) HYZ.out HEY.out;go_simp;try with_reducible rfl
      try simp only [Act.put,sA,sB,sC,sD,sE,sF]
      refine tk 12 (v:=?_) rfl hHeld ?_ ?_
      rotate_left
      ·intro w hSw;obtain ⟨c0,c1,c2,c3,c4,c5⟩:=zs_cells (HI.out.below (later hB hSw)) HKZ.out HEZ.out;obtain ⟨d0,d1,d2,d3,d4,d5⟩:=zs_cells (HI.out.below (later hB hSw)) HYZ.out HEY.out;go_simp;try with_reducible rfl
      try simp only [Act.put,sA,sB,sC,sD,sE,sF]
      refine wpAnyH_ready (rs:=[13]) (by kernel_rfl) (by simp) (AllReadyH.cons rfl (fun K hK=>?_) AllReadyH.nil)
      go_simp
      refine (rcmp_any z0 z1 z2 z3 z4 z5 y0 y1 y2 y3 y4 y5 _).mono ?_
      rintro e u7 ⟨rfl,hB7⟩
      refine hK.out _ _ (hHeld.trans (hB7.mono hHeld.size)) (fun hNew=>?_)
      clear hB7
      clear hHeld hK K
      have hHeld:=hNew
      clear hNew
      try simp only [Act.put,sA,sB,sC,sD,sE,sF]
      have hcm:=HCM.out
      generalize cmpL [z0,z1,z2,z3,z4,z5] [y0,y1,y2,y3,y4,y5]=cm at hcm ⊢
      have HC2:=Lib.hid hcm
      clear hcm
      by_cases hlt:cm<0
      ·skip
       refine tk 14 (v:=?_) rfl hHeld ?_ ?_
       rotate_left
       ·intro w hSw;skip;go_simp;try with_reducible rfl
       try simp only [Act.put,sA,sB,sC,sD,sE,sF]
       refine tk 15 (v:=?_) rfl hHeld ?_ ?_
       rotate_left
       ·intro w hSw;skip;go_simp;try with_reducible rfl
       try simp only [Act.put,sA,sB,sC,sD,sE,sF]
       refine tk 16 (v:=?_) rfl hHeld ?_ ?_
       rotate_left
       ·intro w hSw;skip;go_simp;try with_reducible rfl
       try simp only [Act.put,sA,sB,sC,sD,sE,sF]
       refine wpAnyH_done (by kernel_rfl) ?_ _
       replace hB:=later hB hHeld
       replace hO:=incl.own_call hO hHeld
       clear hHeld
       have HLT:=Lib.hid hlt
       clear hlt
       have HN:=Lib.hid (best_less HBS.out hbh (by rw [HC2.out];exact HLT.out))
       have HO:=Lib.hid hO
       clear hO
       go_wp2_with fail
       go_roundw
       case rel=>exact ⟨k+1,(k:Int),by omega,by go_num,rfl,hB,HO.out,HN⟩
       case measure=>simp [intOf];omega
      ·skip
       refine tk 14 (v:=?_) rfl hHeld ?_ ?_
       rotate_left
       ·intro w hSw;skip;go_simp;try with_reducible rfl
       try simp only [Act.put,sA,sB,sC,sD,sE,sF]
       refine tk 15 (v:=?_) rfl hHeld ?_ ?_
       rotate_left
       ·intro w hSw;skip;go_simp;try with_reducible rfl
       try simp only [Act.put,sA,sB,sC,sD,sE,sF]
       refine tk 16 (v:=?_) rfl hHeld ?_ ?_
       rotate_left
       ·intro w hSw;skip;go_simp;try with_reducible rfl
       try simp only [Act.put,sA,sB,sC,sD,sE,sF]
       refine wpAnyH_done (by kernel_rfl) ?_ _
       replace hB:=later hB hHeld
       replace hO:=incl.own_call hO hHeld
       clear hHeld
       have HLT:=Lib.hid hlt
       clear hlt
       have HN:=Lib.hid (best_more HBS.out (by rw [HC2.out];exact HLT.out))
       have HO:=Lib.hid hO
       clear hO
       go_wp2_with fail
       go_roundw
       case rel=>exact ⟨k+1,(kb:Int),by omega,by go_num,rfl,hB,HO.out,HN⟩
       case measure=>simp [intOf];omega
    ·skip
     obtain ⟨q,hq⟩:∃ q,m=q+1:=⟨m - 1,by omega⟩
     have hqz:q<out.length:=by have:=HMO.out;omega
     obtain ⟨x0,x1,x2,x3,x4,x5,hex⟩:=six (HOO.out _ (zat_mem hqz))
     rcases ownsRow_forms hO with ⟨e,h⟩ | ⟨go,co,e⟩
     ·omega
     injection e with e1 e2 e3
     subst e1
     subst e3
     clear e2
     have hw1:IntKind.i64.wrap ((m:Int) - 1)=(q:Int):=by
      rw [show (m:Int) - 1=(q:Int) by omega]
      exact IntWalk.i64_in _ ⟨by omega,by omega⟩
     have hq0:(0:Int)≤(q:Int):=by omega
     have hqm:(q:Int)<m:=by omega
     have hmb:((m:Int)==0)=false:=beq_eq_false_iff_ne.2 (by omega)
     have hmi:¬ (m:Int)=0:=by omega
     have HEX:=Lib.hid hex
     have HQZ:=Lib.hid hqz
     have HVO:=Lib.hid (zs_own hO)
     have HBX:=Lib.hid (show Bh out (zat l k)↔0<cmpL [z0,z1,z2,z3,z4,z5] [x0,x1,x2,x3,x4,x5] by
      unfold Bh
      rw [←HMO.out,show m - 1=q by omega,hex,HEZ.out]
      exact ⟨fun h=>h.elim (fun e=>absurd e hm0) id,.inr⟩)
     clear hex hqz hq
     go_wp2_with fail
     refine wp_region_held_drew (S:=Below wr.heap.size wr) (by kernel_rfl) (dbm.drawn1 (Below.refl _ _)) (fun hHeld=>?_)
     generalize hwD:wr.drew=wE at hHeld ⊢
     clear hwD
     refine tk 0 (v:=?_) rfl hHeld ?_ ?_
     rotate_left
     ·intro w hSw;obtain ⟨c0,c1,c2,c3,c4,c5⟩:=zs_cells (HI.out.below (later hB hSw)) HKZ.out HEZ.out;obtain ⟨d0,d1,d2,d3,d4,d5⟩:=zs_cells (HVO.out.below hSw) HQZ.out HEX.out;rw [Nat.zero_add] at d0 d1 d2 d3 d4 d5;go_simp;try with_reducible rfl
     try simp only [Act.put,sA,sB,sC,sD,sE,sF]
     refine tk 1 (v:=?_) rfl hHeld ?_ ?_
     rotate_left
     ·intro w hSw;obtain ⟨c0,c1,c2,c3,c4,c5⟩:=zs_cells (HI.out.below (later hB hSw)) HKZ.out HEZ.out;obtain ⟨d0,d1,d2,d3,d4,d5⟩:=zs_cells (HVO.out.below hSw) HQZ.out HEX.out;rw [Nat.zero_add] at d0 d1 d2 d3 d4 d5;go_simp;try with_reducible rfl
     try simp only [Act.put,sA,sB,sC,sD,sE,sF]
     refine tk 2 (v:=?_) rfl hHeld ?_ ?_
     rotate_left
     ·intro w hSw;obtain ⟨c0,c1,c2,c3,c4,c5⟩:=zs_cells (HI.out.below (later hB hSw)) HKZ.out HEZ.out;obtain ⟨d0,d1,d2,d3,d4,d5⟩:=zs_cells (HVO.out.below hSw) HQZ.out HEX.out;rw [Nat.zero_add] at d0 d1 d2 d3 d4 d5;go_simp;try with_reducible rfl
     try simp only [Act.put,sA,sB,sC,sD,sE,sF]
     refine tk 3 (v:=?_) rfl hHeld ?_ ?_
     rotate_left
     ·intro w hSw;obtain ⟨c0,c1,c2,c3,c4,c5⟩:=zs_cells (HI.out.below (later hB hSw)) HKZ.out HEZ.out;obtain ⟨d0,d1,d2,d3,d4,d5⟩:=zs_cells (HVO.out.below hSw) HQZ.out HEX.out;rw [Nat.zero_add] at d0 d1 d2 d3 d4 d5;go_simp;try with_reducible rfl
     try simp only [Act.put,sA,sB,sC,sD,sE,sF]
     refine tk 4 (v:=?_) rfl hHeld ?_ ?_
     rotate_left
     ·intro w hSw;obtain ⟨c0,c1,c2,c3,c4,c5⟩:=zs_cells (HI.out.below (later hB hSw)) HKZ.out HEZ.out;obtain ⟨d0,d1,d2,d3,d4,d5⟩:=zs_cells (HVO.out.below hSw) HQZ.out HEX.out;rw [Nat.zero_add] at d0 d1 d2 d3 d4 d5;go_simp;try with_reducible rfl
     try simp only [Act.put,sA,sB,sC,sD,sE,sF]
     refine tk 5 (v:=?_) rfl hHeld ?_ ?_
     rotate_left
     ·intro w hSw;obtain ⟨c0,c1,c2,c3,c4,c5⟩:=zs_cells (HI.out.below (later hB hSw)) HKZ.out HEZ.out;obtain ⟨d0,d1,d2,d3,d4,d5⟩:=zs_cells (HVO.out.below hSw) HQZ.out HEX.out;rw [Nat.zero_add] at d0 d1 d2 d3 d4 d5;go_simp;try with_reducible rfl
     try simp only [Act.put,sA,sB,sC,sD,sE,sF]
     refine tk 6 (v:=?_) rfl hHeld ?_ ?_
     rotate_left
     ·intro w hSw;obtain ⟨c0,c1,c2,c3,c4,c5⟩:=zs_cells (HI.out.below (later hB hSw)) HKZ.out HEZ.out;obtain ⟨d0,d1,d2,d3,d4,d5⟩:=zs_cells (HVO.out.below hSw) HQZ.out HEX.out;rw [Nat.zero_add] at d0 d1 d2 d3 d4 d5;go_simp;try with_reducible rfl
     try simp only [Act.put,sA,sB,sC,sD,sE,sF]
     refine tk 7 (v:=?_) rfl hHeld ?_ ?_
     rotate_left
     ·intro w hSw;obtain ⟨c0,c1,c2,c3,c4,c5⟩:=zs_cells (HI.out.below (later hB hSw)) HKZ.out HEZ.out;obtain ⟨d0,d1,d2,d3,d4,d5⟩:=zs_cells (HVO.out.below hSw) HQZ.out HEX.out;rw [Nat.zero_add] at d0 d1 d2 d3 d4 d5;go_simp;try with_reducible rfl
     try simp only [Act.put,sA,sB,sC,sD,sE,sF]
     refine tk 8 (v:=?_) rfl hHeld ?_ ?_
     rotate_left
     ·intro w hSw;obtain ⟨c0,c1,c2,c3,c4,c5⟩:=zs_cells (HI.out.below (later hB hSw)) HKZ.out HEZ.out;obtain ⟨d0,d1,d2,d3,d4,d5⟩:=zs_cells (HVO.out.below hSw) HQZ.out HEX.out;rw [Nat.zero_add] at d0 d1 d2 d3 d4 d5;go_simp;try with_reducible rfl
     try simp only [Act.put,sA,sB,sC,sD,sE,sF]
     refine tk 9 (v:=?_) rfl hHeld ?_ ?_
     rotate_left
     ·intro w hSw;obtain ⟨c0,c1,c2,c3,c4,c5⟩:=zs_cells (HI.out.below (later hB hSw)) HKZ.out HEZ.out;obtain ⟨d0,d1,d2,d3,d4,d5⟩:=zs_cells (HVO.out.below hSw) HQZ.out HEX.out;rw [Nat.zero_add] at d0 d1 d2 d3 d4 d5;go_simp;try with_reducible rfl
     try simp only [Act.put,sA,sB,sC,sD,sE,sF]
     refine tk 10 (v:=?_) rfl hHeld ?_ ?_
     rotate_left
     ·intro w hSw;obtain ⟨c0,c1,c2,c3,c4,c5⟩:=zs_cells (HI.out.below (later hB hSw)) HKZ.out HEZ.out;obtain ⟨d0,d1,d2,d3,d4,d5⟩:=zs_cells (HVO.out.below hSw) HQZ.out HEX.out;rw [Nat.zero_add] at d0 d1 d2 d3 d4 d5;go_simp;try with_reducible rfl
     try simp only [Act.put,sA,sB,sC,sD,sE,sF]
     refine tk 11 (v:=?_) rfl hHeld ?_ ?_
     rotate_left
     ·intro w hSw;obtain ⟨c0,c1,c2,c3,c4,c5⟩:=zs_cells (HI.out.below (later hB hSw)) HKZ.out HEZ.out;obtain ⟨d0,d1,d2,d3,d4,d5⟩:=zs_cells (HVO.out.below hSw) HQZ.out HEX.out;rw [Nat.zero_add] at d0 d1 d2 d3 d4 d5;go_simp;try with_reducible rfl
     try simp only [Act.put,sA,sB,sC,sD,sE,sF]
     refine tk 12 (v:=?_) rfl hHeld ?_ ?_
     rotate_left
     ·intro w hSw;obtain ⟨c0,c1,c2,c3,c4,c5⟩:=zs_cells (HI.out.below (later hB hSw)) HKZ.out HEZ.out;obtain ⟨d0,d1,d2,d3,d4,d5⟩:=zs_cells (HVO.out.below hSw) HQZ.out HEX.out;rw [Nat.zero_add] at d0 d1 d2 d3 d4 d5;go_simp;try with_reducible rfl
     try simp only [Act.put,sA,sB,sC,sD,sE,sF]
     refine tk 13 (v:=?_) rfl hHeld ?_ ?_
     rotate_left
     ·intro w hSw;obtain ⟨c0,c1,c2,c3,c4,c5⟩:=zs_cells (HI.out.below (later hB hSw)) HKZ.out HEZ.out;obtain ⟨d0,d1,d2,d3,d4,d5⟩:=zs_cells (HVO.out.below hSw) HQZ.out HEX.out;rw [Nat.zero_add] at d0 d1 d2 d3 d4 d5;go_simp;try with_reducible rfl
     try simp only [Act.put,sA,sB,sC,sD,sE,sF]
     refine wpAnyH_ready (rs:=[14]) (by kernel_rfl) (by simp) (AllReadyH.cons rfl (fun K hK=>?_) AllReadyH.nil)
     go_simp
     refine (rcmp_any z0 z1 z2 z3 z4 z5 x0 x1 x2 x3 x4 x5 _).mono ?_
     rintro e u6 ⟨rfl,hB6⟩
     refine hK.out _ _ (hHeld.trans (hB6.mono hHeld.size)) (fun hNew=>?_)
     clear hB6
     clear hHeld hK K
     have hHeld:=hNew
     clear hNew
     try simp only [Act.put,sA,sB,sC,sD,sE,sF]
     have hbx:=HBX.out
     generalize cmpL [z0,z1,z2,z3,z4,z5] [x0,x1,x2,x3,x4,x5]=cx at hbx ⊢
     have HBY:=Lib.hid hbx
     clear hbx hw1 hq0 hqm hmb hmi HVO
     by_cases hgt:0<cx
     ·skip
      refine tk 15 (v:=?_) rfl hHeld ?_ ?_
      rotate_left
      ·intro w hSw;skip;go_simp;try with_reducible rfl
      try simp only [Act.put,sA,sB,sC,sD,sE,sF]
      refine tk 16 (v:=?_) rfl hHeld ?_ ?_
      rotate_left
      ·intro w hSw;skip;go_simp;try with_reducible rfl
      try simp only [Act.put,sA,sB,sC,sD,sE,sF]
      refine tk 17 (v:=?_) rfl hHeld ?_ ?_
      rotate_left
      ·intro w hSw;skip;go_simp;try with_reducible rfl
      try simp only [Act.put,sA,sB,sC,sD,sE,sF]
      refine wpAnyH_done (by kernel_rfl) ?_ _
      replace hB:=later hB hHeld
      replace hO:=incl.own_call hO hHeld
      clear hHeld
      have hbh:Bh out (zat l k):=HBY.out.2 hgt
      clear hgt
      by_cases hbv:bv<0
      ·skip
       go_wp2_with fail
       refine wp_region_held_drew (S:=Below u6.heap.size u6) (by kernel_rfl) (dbm.drawn1 (Below.refl _ _)) (fun hHeld=>?_)
       generalize hwD:u6.drew=wF at hHeld ⊢
       clear hwD
       refine tk 0 (v:=?_) rfl hHeld ?_ ?_
       rotate_left
       ·intro w hSw;skip;go_simp;try with_reducible rfl
       try simp only [Act.put,sA,sB,sC,sD,sE,sF]
       refine tk 1 (v:=?_) rfl hHeld ?_ ?_
       rotate_left
       ·intro w hSw;skip;go_simp;try with_reducible rfl
       try simp only [Act.put,sA,sB,sC,sD,sE,sF]
       refine tk 2 (v:=?_) rfl hHeld ?_ ?_
       rotate_left
       ·intro w hSw;skip;go_simp;try with_reducible rfl
       try simp only [Act.put,sA,sB,sC,sD,sE,sF]
       refine tk 3 (v:=?_) rfl hHeld ?_ ?_
       rotate_left
       ·intro w hSw;skip;go_simp;try with_reducible rfl
       try simp only [Act.put,sA,sB,sC,sD,sE,sF]
       refine tk 4 (v:=?_) rfl hHeld ?_ ?_
       rotate_left
       ·intro w hSw;skip;go_simp;try with_reducible rfl
       try simp only [Act.put,sA,sB,sC,sD,sE,sF]
       refine wpAnyH_take (i:=5) (v:=undef) rfl (by kernel_rfl) (by kernel_rfl) (by kernel_rfl) (fun _ _ _ h=>h) (Or.inr ⟨by rfl,rfl⟩) hHeld ?_
       try simp only [Act.put,sA,sB,sC,sD,sE,sF]
       refine wpAnyH_take (i:=6) (v:=undef) rfl (by kernel_rfl) (by kernel_rfl) (by kernel_rfl) (fun _ _ _ h=>h) (Or.inr ⟨by rfl,rfl⟩) hHeld ?_
       try simp only [Act.put,sA,sB,sC,sD,sE,sF]
       refine wpAnyH_take (i:=7) (v:=undef) rfl (by kernel_rfl) (by kernel_rfl) (by kernel_rfl) (fun _ _ _ h=>h) (Or.inr ⟨by rfl,rfl⟩) hHeld ?_
       try simp only [Act.put,sA,sB,sC,sD,sE,sF]
       refine wpAnyH_take (i:=8) (v:=undef) rfl (by kernel_rfl) (by kernel_rfl) (by kernel_rfl) (fun _ _ _ h=>h) (Or.inr ⟨by rfl,rfl⟩) hHeld ?_
       try simp only [Act.put,sA,sB,sC,sD,sE,sF]
       refine wpAnyH_take (i:=9) (v:=undef) rfl (by kernel_rfl) (by kernel_rfl) (by kernel_rfl) (fun _ _ _ h=>h) (Or.inr ⟨by rfl,rfl⟩) hHeld ?_
       try simp only [Act.put,sA,sB,sC,sD,sE,sF]
       refine wpAnyH_take (i:=10) (v:=undef) rfl (by kernel_rfl) (by kernel_rfl) (by kernel_rfl) (fun _ _ _ h=>h) (Or.inr ⟨by rfl,rfl⟩) hHeld ?_
       try simp only [Act.put,sA,sB,sC,sD,sE,sF]
       refine wpAnyH_take (i:=11) (v:=undef) rfl (by kernel_rfl) (by kernel_rfl) (by kernel_rfl) (fun _ _ _ h=>h) (Or.inr ⟨by rfl,rfl⟩) hHeld ?_
       try simp only [Act.put,sA,sB,sC,sD,sE,sF]
       refine wpAnyH_take (i:=12) (v:=undef) rfl (by kernel_rfl) (by kernel_rfl) (by kernel_rfl) (fun _ _ _ h=>h) (Or.inr ⟨by rfl,rfl⟩) hHeld ?_
       try simp only [Act.put,sA,sB,sC,sD,sE,sF]
       refine wpAnyH_take (i:=13) (v:=undef) rfl (by kernel_rfl) (by kernel_rfl) (by kernel_rfl) (fun _ _ _ h=>h) (Or.inr ⟨by rfl,rfl⟩) hHeld ?_
       try simp only [Act.put,sA,sB,sC,sD,sE,sF]
       refine wpAnyH_take (i:=14) (v:=undef) rfl (by kernel_rfl) (by kernel_rfl) (by kernel_rfl) (fun _ _ _ h=>h) (Or.inr ⟨by rfl,rfl⟩) hHeld ?_
       try simp only [Act.put,sA,sB,sC,sD,sE,sF]
       refine tk 15 (v:=?_) rfl hHeld ?_ ?_
       rotate_left
       ·intro w hSw;skip;go_simp;try with_reducible rfl
       try simp only [Act.put,sA,sB,sC,sD,sE,sF]
       refine tk 16 (v:=?_) rfl hHeld ?_ ?_
       rotate_left
       ·intro w hSw;skip;go_simp;try with_reducible rfl
       try simp only [Act.put,sA,sB,sC,sD,sE,sF]
       refine wpAnyH_done (by kernel_rfl) ?_ _
       replace hB:=later hB hHeld
       replace hO:=incl.own_call hO hHeld
       clear hHeld
       have HBV:=Lib.hid hbv
       clear hbv
       have HN:=Lib.hid (best_first HBS.out HBV.out hbh)
       have HO:=Lib.hid hO
       clear hO
       go_wp2_with fail
       go_roundw
       case rel=>exact ⟨k+1,(k:Int),by omega,by go_num,rfl,hB,HO.out,HN⟩
       case measure=>simp [intOf];omega
      ·skip
       obtain ⟨kb,rfl,hkb⟩:∃ kb:Nat,bv=(kb:Int)∧kb<k:=by
        rcases HBS.out with ⟨h,_⟩ | ⟨x,h,h2,_⟩
        ·omega
        ·exact ⟨x,h,h2⟩
       have hkbz:kb<l.length:=by have:=HKZ.out;omega
       have hkb0:(0:Int)≤(kb:Int):=by omega
       have hkbl:(kb:Int)<len:=by omega
       obtain ⟨y0,y1,y2,y3,y4,y5,hey⟩:=six (H6.out _ (zat_mem hkbz))
       have HEY:=Lib.hid hey
       have HYZ:=Lib.hid hkbz
       have HCM:=Lib.hid (show cmpL (zat l k) (zat l kb)=cmpL [z0,z1,z2,z3,z4,z5] [y0,y1,y2,y3,y4,y5] by rw [HEZ.out,hey])
       clear hey hkbz
       go_wp2_with fail
       refine wp_region_held_drew (S:=Below u6.heap.size u6) (by kernel_rfl) (dbm.drawn1 (Below.refl _ _)) (fun hHeld=>?_)
       generalize hwD:u6.drew=wF at hHeld ⊢
       clear hwD
       refine tk 0 (v:=?_) rfl hHeld ?_ ?_
       rotate_left
       ·intro w hSw;obtain ⟨c0,c1,c2,c3,c4,c5⟩:=zs_cells (HI.out.below (later hB hSw)) HKZ.out HEZ.out;obtain ⟨d0,d1,d2,d3,d4,d5⟩:=zs_cells (HI.out.below (later hB hSw)) HYZ.out HEY.out;go_simp;try with_reducible rfl
       try simp only [Act.put,sA,sB,sC,sD,sE,sF]
       refine tk 1 (v:=?_) rfl hHeld ?_ ?_
       rotate_left
       ·intro w hSw;obtain ⟨c0,c1,c2,c3,c4,c5⟩:=zs_cells (HI.out.below (later hB hSw)) HKZ.out HEZ.out;obtain ⟨d0,d1,d2,d3,d4,d5⟩:=zs_cells (HI.out.below (later hB hSw)) HYZ.out HEY.out;go_simp;try with_reducible rfl
       try simp only [Act.put,sA,sB,sC,sD,sE,sF]
       refine tk 2 (v:=?_) rfl hHeld ?_ ?_
       rotate_left
       ·intro w hSw;obtain ⟨c0,c1,c2,c3,c4,c5⟩:=zs_cells (HI.out.below (later hB hSw)) HKZ.out HEZ.out;obtain ⟨d0,d1,d2,d3,d4,d5⟩:=zs_cells (HI.out.below (later hB hSw)) HYZ.out HEY.out;go_simp;try with_reducible rfl
       try simp only [Act.put,sA,sB,sC,sD,sE,sF]
       refine tk 3 (v:=?_) rfl hHeld ?_ ?_
       rotate_left
       ·intro w hSw;obtain ⟨c0,c1,c2,c3,c4,c5⟩:=zs_cells (HI.out.below (later hB hSw)) HKZ.out HEZ.out;obtain ⟨d0,d1,d2,d3,d4,d5⟩:=zs_cells (HI.out.below (later hB hSw)) HYZ.out HEY.out;go_simp;try with_reducible rfl
       try simp only [Act.put,sA,sB,sC,sD,sE,sF]
       refine tk 4 (v:=?_) rfl hHeld ?_ ?_
       rotate_left
       ·intro w hSw;obtain ⟨c0,c1,c2,c3,c4,c5⟩:=zs_cells (HI.out.below (later hB hSw)) HKZ.out HEZ.out;obtain ⟨d0,d1,d2,d3,d4,d5⟩:=zs_cells (HI.out.below (later hB hSw)) HYZ.out HEY.out;go_simp;try with_reducible rfl
       try simp only [Act.put,sA,sB,sC,sD,sE,sF]
       refine tk 5 (v:=?_) rfl hHeld ?_ ?_
       rotate_left
       ·intro w hSw;obtain ⟨c0,c1,c2,c3,c4,c5⟩:=zs_cells (HI.out.below (later hB hSw)) HKZ.out HEZ.out;obtain ⟨d0,d1,d2,d3,d4,d5⟩:=zs_cells (HI.out.below (later hB hSw)) HYZ.out HEY.out;go_simp;try with_reducible rfl
       try simp only [Act.put,sA,sB,sC,sD,sE,sF]
       refine tk 6 (v:=?_) rfl hHeld ?_ ?_
       rotate_left
       ·intro w hSw;obtain ⟨c0,c1,c2,c3,c4,c5⟩:=zs_cells (HI.out.below (later hB hSw)) HKZ.out HEZ.out;obtain ⟨d0,d1,d2,d3,d4,d5⟩:=zs_cells (HI.out.below (later hB hSw)) HYZ.out HEY.out;go_simp;try with_reducible rfl
       try simp only [Act.put,sA,sB,sC,sD,sE,sF]
       refine tk 7 (v:=?_) rfl hHeld ?_ ?_
       rotate_left
       ·intro w hSw;obtain ⟨c0,c1,c2,c3,c4,c5⟩:=zs_cells (HI.out.below (later hB hSw)) HKZ.out HEZ.out;obtain ⟨d0,d1,d2,d3,d4,d5⟩:=zs_cells (HI.out.below (later hB hSw)) HYZ.out HEY.out;go_simp;try with_reducible rfl
       try simp only [Act.put,sA,sB,sC,sD,sE,sF]
       refine tk 8 (v:=?_) rfl hHeld ?_ ?_
       rotate_left
       ·intro w hSw;obtain ⟨c0,c1,c2,c3,c4,c5⟩:=zs_cells (HI.out.below (later hB hSw)) HKZ.out HEZ.out;obtain ⟨d0,d1,d2,d3,d4,d5⟩:=zs_cells (HI.out.below (later hB hSw)) HYZ.out HEY.out;go_simp;try with_reducible rfl
       try simp only [Act.put,sA,sB,sC,sD,sE,sF]
       refine tk 9 (v:=?_) rfl hHeld ?_ ?_
       rotate_left
       ·intro w hSw;obtain ⟨c0,c1,c2,c3,c4,c5⟩:=zs_cells (HI.out.below (later hB hSw)) HKZ.out HEZ.out;obtain ⟨d0,d1,d2,d3,d4,d5⟩:=zs_cells (HI.out.below (later hB hSw)) HYZ.out HEY.out;go_simp;try with_reducible rfl
       try simp only [Act.put,sA,sB,sC,sD,sE,sF]
       refine tk 10 (v:=?_) rfl hHeld ?_ ?_
       rotate_left
       ·intro w hSw;obtain ⟨c0,c1,c2,c3,c4,c5⟩:=zs_cells (HI.out.below (later hB hSw)) HKZ.out HEZ.out;obtain ⟨d0,d1,d2,d3,d4,d5⟩:=zs_cells (HI.out.below (later hB hSw)) HYZ.out HEY.out;go_simp;try with_reducible rfl
       try simp only [Act.put,sA,sB,sC,sD,sE,sF]
       refine tk 11 (v:=?_) rfl hHeld ?_ ?_
       rotate_left
       ·intro w hSw;obtain ⟨c0,c1,c2,c3,c4,c5⟩:=zs_cells (HI.out.below (later hB hSw)) HKZ.out HEZ.out;obtain ⟨d0,d1,d2,d3,d4,d5⟩:=zs_cells (HI.out.below (later hB hSw)) HYZ.out HEY.out;go_simp;try with_reducible rfl
       try simp only [Act.put,sA,sB,sC,sD,sE,sF]
       refine tk 12 (v:=?_) rfl hHeld ?_ ?_
       rotate_left
       ·intro w hSw;obtain ⟨c0,c1,c2,c3,c4,c5⟩:=zs_cells (HI.out.below (later hB hSw)) HKZ.out HEZ.out;obtain ⟨d0,d1,d2,d3,d4,d5⟩:=zs_cells (HI.out.below (later hB hSw)) HYZ.out HEY.out;go_simp;try with_reducible rfl
       try simp only [Act.put,sA,sB,sC,sD,sE,sF]
       refine wpAnyH_ready (rs:=[13]) (by kernel_rfl) (by simp) (AllReadyH.cons rfl (fun K hK=>?_) AllReadyH.nil)
       go_simp
       refine (rcmp_any z0 z1 z2 z3 z4 z5 y0 y1 y2 y3 y4 y5 _).mono ?_
       rintro e u7 ⟨rfl,hB7⟩
       refine hK.out _ _ (hHeld.trans (hB7.mono hHeld.size)) (fun hNew=>?_)
       clear hB7
       clear hHeld hK K
       have hHeld:=hNew
       clear hNew
       try simp only [Act.put,sA,sB,sC,sD,sE,sF]
       have hcm:=HCM.out
       generalize cmpL [z0,z1,z2,z3,z4,z5] [y0,y1,y2,y3,y4,y5]=cm at hcm ⊢
       have HC2:=Lib.hid hcm
       clear hcm
       by_cases hlt:cm<0
       ·skip
        refine tk 14 (v:=?_) rfl hHeld ?_ ?_
        rotate_left
        ·intro w hSw;skip;go_simp;try with_reducible rfl
        try simp only [Act.put,sA,sB,sC,sD,sE,sF]
        refine tk 15 (v:=?_) rfl hHeld ?_ ?_
        rotate_left
        ·intro w hSw;skip;go_simp;try with_reducible rfl
        try simp only [Act.put,sA,sB,sC,sD,sE,sF]
        refine tk 16 (v:=?_) rfl hHeld ?_ ?_
        rotate_left
        ·intro w hSw;skip;go_simp;try with_reducible rfl
        try simp only [Act.put,sA,sB,sC,sD,sE,sF]
        refine wpAnyH_done (by kernel_rfl) ?_ _
        replace hB:=later hB hHeld
        replace hO:=incl.own_call hO hHeld
        clear hHeld
        have HLT:=Lib.hid hlt
        clear hlt
        have HN:=Lib.hid (best_less HBS.out hbh (by rw [HC2.out];exact HLT.out))
        have HO:=Lib.hid hO
        clear hO
        go_wp2_with fail
        go_roundw
        case rel=>exact ⟨k+1,(k:Int),by omega,by go_num,rfl,hB,HO.out,HN⟩
        case measure=>simp [intOf];omega
       ·skip
        refine tk 14 (v:=?_) rfl hHeld ?_ ?_
        rotate_left
        ·intro w hSw;skip;go_simp;try with_reducible rfl
        try simp only [Act.put,sA,sB,sC,sD,sE,sF]
        refine tk 15 (v:=?_) rfl hHeld ?_ ?_
        rotate_left
        ·intro w hSw;skip;go_simp;try with_reducible rfl
        try simp only [Act.put,sA,sB,sC,sD,sE,sF]
        refine tk 16 (v:=?_) rfl hHeld ?_ ?_
        rotate_left
        ·intro w hSw;skip;go_simp;try with_reducible rfl
        try simp only [Act.put,sA,sB,sC,sD,sE,sF]
        refine wpAnyH_done (by kernel_rfl) ?_ _
        replace hB:=later hB hHeld
        replace hO:=incl.own_call hO hHeld
        clear hHeld
        have HLT:=Lib.hid hlt
        clear hlt
        have HN:=Lib.hid (best_more HBS.out (by rw [HC2.out];exact HLT.out))
        have HO:=Lib.hid hO
        clear hO
        go_wp2_with fail
        go_roundw
        case rel=>exact ⟨k+1,(kb:Int),by omega,by go_num,rfl,hB,HO.out,HN⟩
        case measure=>simp [intOf];omega
     ·skip
      refine tk 15 (v:=?_) rfl hHeld ?_ ?_
      rotate_left
      ·intro w hSw;skip;go_simp;try with_reducible rfl
      try simp only [Act.put,sA,sB,sC,sD,sE,sF]
      refine tk 16 (v:=?_) rfl hHeld ?_ ?_
      rotate_left
      ·intro w hSw;skip;go_simp;try with_reducible rfl
      try simp only [Act.put,sA,sB,sC,sD,sE,sF]
      refine tk 17 (v:=?_) rfl hHeld ?_ ?_
      rotate_left
      ·intro w hSw;skip;go_simp;try with_reducible rfl
      try simp only [Act.put,sA,sB,sC,sD,sE,sF]
      refine wpAnyH_done (by kernel_rfl) ?_ _
      replace hB:=later hB hHeld
      replace hO:=incl.own_call hO hHeld
      clear hHeld
      have hbh:¬ Bh out (zat l k):=fun h=>hgt (HBY.out.1 h)
      clear hgt
      go_wp2_with fail
      refine wp_region_held_drew (S:=Below u6.heap.size u6) (by kernel_rfl) (dbm.drawn1 (Below.refl _ _)) (fun hHeld=>?_)
      generalize hwD:u6.drew=wF at hHeld ⊢
      clear hwD
      refine tk 0 (v:=?_) rfl hHeld ?_ ?_
      rotate_left
      ·intro w hSw;skip;go_simp;try with_reducible rfl
      try simp only [Act.put,sA,sB,sC,sD,sE,sF]
      refine tk 1 (v:=?_) rfl hHeld ?_ ?_
      rotate_left
      ·intro w hSw;skip;go_simp;try with_reducible rfl
      try simp only [Act.put,sA,sB,sC,sD,sE,sF]
      refine wpAnyH_take (i:=2) (v:=undef) rfl (by kernel_rfl) (by kernel_rfl) (by kernel_rfl) (fun _ _ _ h=>h) (Or.inr ⟨by rfl,rfl⟩) hHeld ?_
      try simp only [Act.put,sA,sB,sC,sD,sE,sF]
      refine wpAnyH_take (i:=3) (v:=undef) rfl (by kernel_rfl) (by kernel_rfl) (by kernel_rfl) (fun _ _ _ h=>h) (Or.inr ⟨by rfl,rfl⟩) hHeld ?_
      try simp only [Act.put,sA,sB,sC,sD,sE,sF]
      refine wpAnyH_take (i:=4) (v:=undef) rfl (by kernel_rfl) (by kernel_rfl) (by kernel_rfl) (fun _ _ _ h=>h) (Or.inr ⟨by rfl,rfl⟩) hHeld ?_
      try simp only [Act.put,sA,sB,sC,sD,sE,sF]
      refine wpAnyH_take (i:=5) (v:=undef) rfl (by kernel_rfl) (by kernel_rfl) (by kernel_rfl) (fun _ _ _ h=>h) (Or.inr ⟨by rfl,rfl⟩) hHeld ?_
      try simp only [Act.put,sA,sB,sC,sD,sE,sF]
      refine wpAnyH_take (i:=6) (v:=undef) rfl (by kernel_rfl) (by kernel_rfl) (by kernel_rfl) (fun _ _ _ h=>h) (Or.inr ⟨by rfl,rfl⟩) hHeld ?_
      try simp only [Act.put,sA,sB,sC,sD,sE,sF]
      refine wpAnyH_take (i:=7) (v:=undef) rfl (by kernel_rfl) (by kernel_rfl) (by kernel_rfl) (fun _ _ _ h=>h) (Or.inr ⟨by rfl,rfl⟩) hHeld ?_
      try simp only [Act.put,sA,sB,sC,sD,sE,sF]
      refine wpAnyH_take (i:=8) (v:=undef) rfl (by kernel_rfl) (by kernel_rfl) (by kernel_rfl) (fun _ _ _ h=>h) (Or.inr ⟨by rfl,rfl⟩) hHeld ?_
      try simp only [Act.put,sA,sB,sC,sD,sE,sF]
      refine wpAnyH_take (i:=9) (v:=undef) rfl (by kernel_rfl) (by kernel_rfl) (by kernel_rfl) (fun _ _ _ h=>h) (Or.inr ⟨by rfl,rfl⟩) hHeld ?_
      try simp only [Act.put,sA,sB,sC,sD,sE,sF]
      refine wpAnyH_take (i:=10) (v:=undef) rfl (by kernel_rfl) (by kernel_rfl) (by kernel_rfl) (fun _ _ _ h=>h) (Or.inr ⟨by rfl,rfl⟩) hHeld ?_
      try simp only [Act.put,sA,sB,sC,sD,sE,sF]
      refine wpAnyH_take (i:=11) (v:=undef) rfl (by kernel_rfl) (by kernel_rfl) (by kernel_rfl) (fun _ _ _ h=>h) (Or.inr ⟨by rfl,rfl⟩) hHeld ?_
      try simp only [Act.put,sA,sB,sC,sD,sE,sF]
      refine wpAnyH_take (i:=12) (v:=undef) rfl (by kernel_rfl) (by kernel_rfl) (by kernel_rfl) (fun _ _ _ h=>h) (Or.inr ⟨by rfl,rfl⟩) hHeld ?_
      try simp only [Act.put,sA,sB,sC,sD,sE,sF]
      refine wpAnyH_take (i:=13) (v:=undef) rfl (by kernel_rfl) (by kernel_rfl) (by kernel_rfl) (fun _ _ _ h=>h) (Or.inr ⟨by rfl,rfl⟩) hHeld ?_
      try simp only [Act.put,sA,sB,sC,sD,sE,sF]
      refine wpAnyH_take (i:=14) (v:=undef) rfl (by kernel_rfl) (by kernel_rfl) (by kernel_rfl) (fun _ _ _ h=>h) (Or.inr ⟨by rfl,rfl⟩) hHeld ?_
      try simp only [Act.put,sA,sB,sC,sD,sE,sF]
      refine wpAnyH_take (i:=15) (v:=undef) rfl (by kernel_rfl) (by kernel_rfl) (by kernel_rfl) (fun _ _ _ h=>h) (Or.inr ⟨by rfl,rfl⟩) hHeld ?_
      try simp only [Act.put,sA,sB,sC,sD,sE,sF]
      refine tk 16 (v:=?_) rfl hHeld ?_ ?_
      rotate_left
      ·intro w hSw;skip;go_simp;try with_reducible rfl
      try simp only [Act.put,sA,sB,sC,sD,sE,sF]
      refine wpAnyH_done (by kernel_rfl) ?_ _
      replace hB:=later hB hHeld
      replace hO:=incl.own_call hO hHeld
      clear hHeld
      have HN:=Lib.hid (best_skip HBS.out hbh)
      have HO:=Lib.hid hO
      clear hO
      go_wp2_with fail
      go_roundw
      case rel=>exact ⟨k+1,bv,by omega,by go_num,rfl,hB,HO.out,HN⟩
      case measure=>simp [intOf];omega
   ·have hkl:k=l.length:=by have:=HL.out;omega
    have hkn':¬ (k:Int)<len:=by omega
    have HBE:=Lib.hid (show Best l out l.length bv by rw [←hkl];exact HBS.out)
    by_cases hbv:bv<0
    ·have hs:=best_none HH.out HBE.out hbv
     have HO:=Lib.hid (show wr.ownsRow w.heap.size 27 6 (.slice av m cv) (srt l).length (flatZ (srt l)) by rw [←hs,←HMO.out];exact hO)
     clear hO hs
     go_wp2_with fail
     go_ret
     exact ⟨_,rfl,hB,HO.out⟩
    ·skip
     obtain ⟨kb,rfl⟩:∃ kb:Nat,bv=(kb:Int):=⟨bv.toNat,by omega⟩
     obtain ⟨h1,h2,h3⟩:=best_add HH.out HBE.out
     have HH2:=Lib.hid h2
     have hml2:m+1≤len:=by have:=HMO.out;have:=HL.out;omega
     have hkl2:(kb:Int)<len:=by have:=HL.out;omega
     obtain ⟨bq,off,rfl,-,hb,c0,c1,c2,c3,c4,c5⟩:=zs_at (HI.out.below hB) h1
     have hbr:bq<wr.heap.size:=Nat.lt_of_lt_of_le hb hB.size
     have hz6:=H6.out _ (zat_mem h1)
     clear h1 h2 h3
     generalize zat l kb=zk at c0 c1 c2 c3 c4 c5 hz6 HH2
     obtain ⟨z0,z1,z2,z3,z4,z5,rfl⟩:=six hz6
     have c0:wr.cell? ⟨bq,off+kb*6,none⟩=some (.int .i64 z0):=c0
     have c1:wr.cell? ⟨bq,off+kb*6+1,none⟩=some (.int .i64 z1):=c1
     have c2:wr.cell? ⟨bq,off+kb*6+2,none⟩=some (.int .i64 z2):=c2
     have c3:wr.cell? ⟨bq,off+kb*6+3,none⟩=some (.int .i64 z3):=c3
     have c4:wr.cell? ⟨bq,off+kb*6+4,none⟩=some (.int .i64 z4):=c4
     have c5:wr.cell? ⟨bq,off+kb*6+5,none⟩=some (.int .i64 z5):=c5
     have hA:=bound.up1 wr (.cells #[.int .i64 z0,.int .i64 z1,.int .i64 z2,.int .i64 z3,.int .i64 z4,.int .i64 z5] 27)
     have hO1:=incl.own_call hO hA
     obtain ⟨v1,w2,hrun,own,hgrow,-⟩:=app_zones w.heap.size 29 (.slice av m cv) (.slice (some ⟨wr.heap.size,0,none⟩) 1 1) m _ (flatZ out) [[z0,z1,z2,z3,z4,z5]] (wr.alloc (.cells #[.int .i64 z0,.int .i64 z1,.int .i64 z2,.int .i64 z3,.int .i64 z4,.int .i64 z5] 27)) hO1 (zs_box (lies.made wr 27 #[.int .i64 z0,.int .i64 z1,.int .i64 z2,.int .i64 z3,.int .i64 z4,.int .i64 z5])) (by show m+1≤_;omega) (Nat.le_trans hB.size hA.size)
     have hB1:Below w.heap.size w (wr.alloc (.cells #[.int .i64 z0,.int .i64 z1,.int .i64 z2,.int .i64 z3,.int .i64 z4,.int .i64 z5] 27)):=later hB hA
     have hB2:=held_grown hB1 hB1.size hO1 (Nat.le_refl _) hgrow
     have HRUN:=Lib.hid hrun
     have hown:w2.ownsRow w.heap.size 27 6 v1 (m+1) (flatZ (out++[[z0,z1,z2,z3,z4,z5]])):=by rw [flatZ_app];exact own
     have HM1:=Lib.hid (show m+1=(out++[[z0,z1,z2,z3,z4,z5]]).length by rw [List.length_append,←HMO.out];rfl)
     obtain ⟨av1,cv1,hv1⟩:=zs_len (zs_own hown)
     rw [←HM1.out] at hv1
     subst hv1
     have HOWN:=Lib.hid hown
     clear hrun own hown hgrow hO hO1 hB1 hA hB hz6
     go_wp2_with (at_builtin;refine dref.append_run2 rfl (.tmp 51) (.tmp 56) 29 rfl _ _ _ _ rfl rfl HRUN.out ?_;clear HRUN)
     go_roundw
     case rel=>exact ⟨m+1,out++[[z0,z1,z2,z3,z4,z5]],HM1.out,hml2,hB2,HOWN.out,HH2⟩
     case measure=>simp [lenV];omega
def Wsr (l:List (List Int)) (k:Nat) (cur:List (List Int)):Prop:=(∀ x,x ∈ cur→Zo x)∧∀ r f,Want RestR k cur r f→Want RestR (srt l).length (srt l) r f
theorem Wsr.err {l cur n:List (List Int)} {j:Nat} {f:Int} (h:Wsr l (j+1) cur) (hr:RestR (cur.eraseIdx j) [zat cur j] n f) (hf:f≠0):Want RestR (srt l).length (srt l) [] f:=h.2 _ _ ⟨n,f,hr,.inl ⟨hf,rfl,rfl⟩⟩
theorem Wsr.out {l cur n:List (List Int)} {j:Nat} (h:Wsr l (j+1) cur) (hr:RestR (cur.eraseIdx j) [zat cur j] n 0) (hn:n=[]):Wsr l j (cur.eraseIdx j):=
 ⟨fun x hx=>h.1 x (era_sub cur j x hx),fun r f q=>h.2 r f ⟨n,0,hr,.inr ⟨rfl,.inl ⟨hn,q⟩⟩⟩⟩
theorem Wsr.stay {l cur n:List (List Int)} {j:Nat} (h:Wsr l (j+1) cur) (hr:RestR (cur.eraseIdx j) [zat cur j] n 0) (hn:n≠[]):Wsr l j cur:=
 ⟨h.1,fun r f q=>h.2 r f ⟨n,0,hr,.inr ⟨rfl,.inr ⟨hn,q⟩⟩⟩⟩
set_option maxRecDepth 100000 in
set_option maxHeartbeats 32000000 in
theorem rwanted_any (ao:Option Addr) (len cap:Nat) (l:List (List Int)) (w:World) (hI:Zs w.heap.size w (.slice ao len cap) l) (hz:∀ x,x ∈ l→Zo x) (hl:l.length=len) (hm:len≤1000000):
  Calls Tryz.prog 83 #[.slice ao len cap] w (Zans (Want RestR (srt l).length (srt l)) w):=by
 have hs0:=srt_len l
 have hs1:(srt l).length≤1000000:=by omega
 have c1:=rsorted_any ao len cap l w hI (fun x hx=>(hz x hx).2.2) hl hm
 have HW0:=Lib.hid (show Wsr l (srt l).length (srt l) from ⟨fun x hx=>hz x ((srt_mem l x).1 hx),fun r f q=>q⟩)
 have HS1:=Lib.hid hs1
 clear hI hz hl hm hs0 hs1
 go_enter Tryz.func83,Tryz.ntmps83
 go_wp2_with fail
 refine Calls.mono c1 ?_
 rintro e w1 ⟨v,rfl,DB,hO3⟩
 clear c1
 obtain ⟨cur,hcur⟩:∃ cur,cur=srt l:=⟨_,rfl⟩
 have HW2:RowKit.Hid (Wsr l cur.length cur):=Lib.hid (by rw [hcur];exact HW0.out)
 have hm4:cur.length≤1000000:=by rw [hcur];exact HS1.out
 rw [←hcur] at hO3
 clear HW0 hcur HS1
 obtain ⟨av,cv,rfl⟩:=zs_len (zs_own hO3)
 obtain ⟨m,hm⟩:∃ m,m=cur.length:=⟨_,rfl⟩
 rw [←hm] at hO3 hm4 HW2 ⊢
 have HM:=Lib.hid hm
 clear hm
 have hwm:=Lib.hid (show wrap64 ((m:Int) - 1)=(m:Int) - 1 from IntWalk.wrap64_in _ ⟨by omega,by omega⟩)
 have hwm2:=Lib.hid (show IntKind.i64.wrap ((m:Int) - 1)=(m:Int) - 1 from IntWalk.i64_in _ ⟨by omega,by omega⟩)
 replace hwm:=hwm.out
 replace hwm2:=hwm2.out
 go_wp2_with fail
 clear hwm hwm2
 go_loopw [5,4] (fun i v wr=>∃ (k m:Nat) (iv:Int) (cur:List (List Int)),i=.int .i64 iv∧iv+1=(k:Int)∧k≤m∧m≤1000000∧m=cur.length∧Below w.heap.size w wr∧wr.ownsRow w.heap.size 27 6 v m (flatZ cur)∧RowKit.Hid (Wsr l k cur)) (fun i _ _=>(intOf i+1).toNat)
 case atStart=>exact ⟨m,m,(m:Int) - 1,cur,rfl,by omega,Nat.le_refl _,hm4,HM.out,DB,hO3,HW2⟩
 case round=>
  clear DB hO3 HW2 HM hm4
  obtain ⟨k,m,iv,cur,rfl,hiv,hkm,hm4,hmc,DB,hO,HW⟩:=hrel
  cases k with
  | zero=>
   have hiv:¬ (0:Int)≤iv:=by omega
   obtain ⟨a3,c3,hv⟩:=zs_len (zs_own hO)
   rw [←hmc] at hv
   subst hv
   have HM:=Lib.hid hmc
   have HOW:=Lib.hid hO
   clear hmc hO
   go_wp2_with fail
   refine bodyPost_ret (v:=.tuple #[.slice a3 m c3,.int .i64 0]) (by simp [results,Tryz.results83,go_sem]) rfl ⟨DB,_,cur,0,rfl,HW.out.2 _ _ ⟨rfl,rfl⟩,?_⟩
   rw [←HM.out]
   exact HOW.out
  | succ j=>
   have hj:iv=(j:Int):=by omega
   subst hj
   rcases ownsRow_forms hO with ⟨rfl,h⟩ | ⟨g,cap1,rfl⟩
   ·omega
   have hjm:j<m:=by omega
   have hj0:(0:Int)≤(j:Int):=by omega
   have hjm':(j:Int)<(m:Int):=by omega
   have HM:=Lib.hid hmc
   have HOW:=Lib.hid hO
   have HVR:=Lib.hid (zs_own hO)
   have hjc:j<cur.length:=by omega
   have hz:=HW.out.1 _ (zat_mem hjc)
   have HJC:=Lib.hid hjc
   have hbk:-9223372036854775808≤(j:Int) - 1∧(j:Int) - 1≤9223372036854775807:=⟨by omega,by omega⟩
   have hwk:=Lib.hid (show wrap64 ((j:Int) - 1)=(j:Int) - 1 from IntWalk.wrap64_in _ hbk)
   have hwk2:=Lib.hid (show IntKind.i64.wrap ((j:Int) - 1)=(j:Int) - 1 from IntWalk.i64_in _ hbk)
   have HZE:=Lib.hid (show ∀ z,zat cur j=z→z=zat cur j from fun z e=>e.symm)
   have HEZ:=Lib.hid (show ∀ z,zat cur j=z→zat cur j=z from fun z e=>e)
   generalize hzk:zat cur j=zk at hz
   obtain ⟨z0,z1,z2,z3,z4,z5,rfl⟩:=six hz.2.2
   have HZ2:=Lib.hid (HZE.out _ hzk)
   have HE2:=Lib.hid (HEZ.out _ hzk)
   have HZO:=Lib.hid hz
   obtain ⟨m1,hm1e⟩:∃ x,x=m - 1:=⟨_,rfl⟩
   have HEL:=Lib.hid (show (cur.eraseIdx j).length=m1 by rw [List.length_eraseIdx_of_lt hjc,←HM.out,hm1e])
   have hm1b:m1≤1000000:=by omega
   have hm1d:j≤m1:=by omega
   have HC6:=Lib.hid (show ∀ x,x ∈ cur→x.length=6 from fun x hx=>(HW.out.1 x hx).2.2)
   clear hmc hO hiv hkm hjc hz hzk HZE HEZ hbk hm1e
   go_wp2_with fail
   refine wp_region_held_drew (S:=Below wr.heap.size wr) (by kernel_rfl) (dbm.drawn1 (Below.refl _ _)) (fun hHeld=>?_)
   generalize hwD:wr.drew=wD at hHeld ⊢
   clear hwD
   refine tk 0 (v:=?_) rfl hHeld ?_ ?_
   rotate_left
   ·intro w hSw;obtain ⟨c0,c1,c2,c3,c4,c5⟩:=zs_cells (HVR.out.below hSw) HJC.out HE2.out;rw [Nat.zero_add] at c0 c1 c2 c3 c4 c5;go_simp;try with_reducible rfl
   try simp only [Act.put,sA,sB,sC,sD,sE,sF]
   refine tk 1 (v:=?_) rfl hHeld ?_ ?_
   rotate_left
   ·intro w hSw;obtain ⟨c0,c1,c2,c3,c4,c5⟩:=zs_cells (HVR.out.below hSw) HJC.out HE2.out;rw [Nat.zero_add] at c0 c1 c2 c3 c4 c5;go_simp;try with_reducible rfl
   try simp only [Act.put,sA,sB,sC,sD,sE,sF]
   refine tk 2 (v:=?_) rfl hHeld ?_ ?_
   rotate_left
   ·intro w hSw;obtain ⟨c0,c1,c2,c3,c4,c5⟩:=zs_cells (HVR.out.below hSw) HJC.out HE2.out;rw [Nat.zero_add] at c0 c1 c2 c3 c4 c5;go_simp;try with_reducible rfl
   try simp only [Act.put,sA,sB,sC,sD,sE,sF]
   refine tk 3 (v:=?_) rfl hHeld ?_ ?_
   rotate_left
   ·intro w hSw;obtain ⟨c0,c1,c2,c3,c4,c5⟩:=zs_cells (HVR.out.below hSw) HJC.out HE2.out;rw [Nat.zero_add] at c0 c1 c2 c3 c4 c5;go_simp;try with_reducible rfl
   try simp only [Act.put,sA,sB,sC,sD,sE,sF]
   refine tk 4 (v:=?_) rfl hHeld ?_ ?_
   rotate_left
   ·intro w hSw;obtain ⟨c0,c1,c2,c3,c4,c5⟩:=zs_cells (HVR.out.below hSw) HJC.out HE2.out;rw [Nat.zero_add] at c0 c1 c2 c3 c4 c5;go_simp;try with_reducible rfl
   try simp only [Act.put,sA,sB,sC,sD,sE,sF]
   refine tk 5 (v:=?_) rfl hHeld ?_ ?_
   rotate_left
   ·intro w hSw;obtain ⟨c0,c1,c2,c3,c4,c5⟩:=zs_cells (HVR.out.below hSw) HJC.out HE2.out;rw [Nat.zero_add] at c0 c1 c2 c3 c4 c5;go_simp;try with_reducible rfl
   try simp only [Act.put,sA,sB,sC,sD,sE,sF]
   refine wpAnyH_ready (rs:=[6]) (by kernel_rfl) (by simp) (AllReadyH.cons rfl (fun K hK=>?_) AllReadyH.nil)
   go_simp
   refine (rwithout_any _ m cap1 cur j wD ((HVR.out.below hHeld).mono hHeld.size) HC6.out HM.out.symm hm4).mono ?_
   rintro e wB ⟨v2,rfl,hB2,hO2⟩
   obtain ⟨a2,c2,hv2⟩:=zs_len (zs_own hO2)
   rw [HEL.out] at hv2
   subst hv2
   have HI2:=Lib.hid (zs_own hO2)
   clear hO2
   refine hK.out _ _ (hHeld.trans (hB2.mono hHeld.size)) (fun hNew=>?_)
   clear hB2
   clear hHeld hK K
   have hHeld:=hNew
   clear hNew
   try simp only [Act.put,sA,sB,sC,sD,sE,sF]
   refine wpAnyH_ready (rs:=[7]) (by kernel_rfl) (by simp) (AllReadyH.cons rfl (fun K hK=>?_) AllReadyH.nil)
   go_simp
   refine (rcov_any z0 z1 z2 z3 z4 z5 a2 m1 c2 (cur.eraseIdx j) wB HZO.out HI2.out (fun x hx=>HW.out.1 x (era_sub cur j x hx)) HEL.out hm1b).mono ?_
   rintro e wC ⟨hB3,is,f,rfl,n,hn,his⟩
   rw [HZ2.out] at hn
   have HN:=Lib.hid hn
   have HIS:=Lib.hid his
   clear hn his HI2
   refine hK.out _ _ (hHeld.trans (hB3.mono hHeld.size)) (fun hNew=>?_)
   clear hB3
   clear hHeld hK K
   have hHeld:=hNew
   clear hNew
   try simp only [Act.put,sA,sB,sC,sD,sE,sF]
   refine tk 8 (v:=?_) rfl hHeld ?_ ?_
   rotate_left
   ·intro w hSw;skip;go_simp;try with_reducible rfl
   try simp only [Act.put,sA,sB,sC,sD,sE,sF]
   refine tk 9 (v:=?_) rfl hHeld ?_ ?_
   rotate_left
   ·intro w hSw;skip;go_simp;try with_reducible rfl
   try simp only [Act.put,sA,sB,sC,sD,sE,sF]
   refine tk 10 (v:=?_) rfl hHeld ?_ ?_
   rotate_left
   ·intro w hSw;skip;go_simp;try with_reducible rfl
   try simp only [Act.put,sA,sB,sC,sD,sE,sF]
   refine tk 11 (v:=?_) rfl hHeld ?_ ?_
   rotate_left
   ·intro w hSw;skip;go_simp;try with_reducible rfl
   try simp only [Act.put,sA,sB,sC,sD,sE,sF]
   refine tk 12 (v:=?_) rfl hHeld ?_ ?_
   rotate_left
   ·intro w hSw;skip;go_simp;try with_reducible rfl
   try simp only [Act.put,sA,sB,sC,sD,sE,sF]
   refine wpAnyH_done (by kernel_rfl) ?_ _
   replace DB:=later DB hHeld
   replace HOW:=Lib.hid (incl.own_call HOW.out hHeld)
   replace HVR:=Lib.hid ((HVR.out.below hHeld).mono hHeld.size)
   clear hHeld
   by_cases hf:f=0
   ·subst hf
    cases is with
    | true=>
     have hn0:n=[]:=(of_decide_eq_true HIS.out.symm).2
     have HW2:=Lib.hid (HW.out.out HN.out hn0)
     clear hn0 HW HN HIS
     go_wp2_with fail
     refine (rwithout_any _ m cap1 cur j wC HVR.out HC6.out HM.out.symm hm4).mono ?_
     rintro e wF ⟨v3,rfl,hB3,hO3⟩
     have hO3:=own_far hO3 DB.size (fun _ _ _ q=>q)
     rw [HEL.out] at hO3
     replace DB:=later DB hB3
     clear hB3
     obtain ⟨a3,c3,hv3⟩:=zs_len (zs_own hO3)
     rw [HEL.out] at hv3
     subst hv3
     have HO3:=Lib.hid hO3
     have hwj:=hwk.out
     have hwj2:=hwk2.out
     clear hO3
     go_wp2_with fail
     go_roundw
     case rel=>exact ⟨j,m1,(j:Int) - 1,cur.eraseIdx j,rfl,by omega,hm1d,hm1b,HEL.out.symm,DB,HO3.out,HW2⟩
     case measure=>simp [intOf]<;>omega
    | false=>
     have hn0:n≠[]:=fun e=>(of_decide_eq_false HIS.out.symm) ⟨rfl,e⟩
     have HW2:=Lib.hid (HW.out.stay HN.out hn0)
     have hwj:=hwk.out
     have hwj2:=hwk2.out
     clear hn0 HW HN HIS
     go_wp2_with fail
     go_roundw
     case rel=>exact ⟨j,m,(j:Int) - 1,cur,rfl,by omega,by omega,hm4,HM.out,DB,HOW.out,HW2⟩
     case measure=>simp [intOf]<;>omega
   ·have hfb:(f==0)=false:=beq_eq_false_iff_ne.2 hf
    go_wp2_with fail
    exact bodyPost_ret (v:=.tuple #[.slice none 0 0,.int .i64 f]) (by simp [results,Tryz.results83,go_sem]) rfl ⟨DB,_,[],f,rfl,HW.out.err HN.out hf,World.ownsRow_nil _ _ _ _⟩
set_option maxRecDepth 100000 in
set_option maxHeartbeats 8000000 in
theorem rprune_any (ao:Option Addr) (len cap:Nat) (l:List (List Int)) (w:World) (hI:Zs w.heap.size w (.slice ao len cap) l) (h6:Six l) (lol:∀ z,z ∈ l→Low z) (hl:l.length=len) (hm:len≤1000000):
  Calls Tryz.prog 44 #[.slice ao len cap] w (Zans (PruX RestR l) w):=by
 have c1:=rcheck_any ao len cap none 0 0 l [] w hI (.inl ⟨⟨none,0,rfl,fun _=>rfl⟩,rfl⟩) h6 six_nil lol (fun z hz=>by cases hz) hl rfl hm (by decide)
 have HI:=Lib.hid hI
 have H6:=Lib.hid h6
 have HL:=Lib.hid hl
 clear hI h6 lol hl
 go_enter Tryz.func44,Tryz.ntmps44
 go_wp2_with fail
 refine Calls.mono c1 ?_
 rintro e w1 ⟨DB,f,rfl,hR⟩
 clear c1
 by_cases h0:f=0
 ·subst h0
  obtain ⟨-,-,h3,-⟩:=chk_fine hR
  have HR:=Lib.hid hR
  have HM1:=Lib.hid h3
  clear hR h3
  go_wp2_with fail
  refine (rwanted_any ao len cap l w1 (HI.out.on DB) (H6.out.zo HM1.out) HL.out hm).mono ?_
  rintro e w2 ⟨hB,v,r,f,rfl,hW,hO⟩
  have hO:=own_far hO DB.size (fun _ _ _ q=>q)
  obtain ⟨av,cv,rfl⟩:=zs_len (zs_own hO)
  have HW:=Lib.hid hW
  have HO:=Lib.hid hO
  replace DB:=later DB hB
  clear hW hO hB
  generalize hn:r.length=n at HO ⊢
  go_wp2_with fail
  refine bodyPost_ret (v:=.tuple #[.slice av n cv,.int .i64 f]) (by simp [results,Tryz.results44,go_sem]) rfl ⟨DB,_,r,f,rfl,⟨0,HR.out,.inr ⟨rfl,HW.out⟩⟩,?_⟩
  rw [hn]
  exact HO.out
 ·have HR:=Lib.hid hR
  have hfb:(f==0)=false:=beq_eq_false_iff_ne.2 h0
  clear hR
  go_wp2_with fail
  exact bodyPost_ret (v:=.tuple #[.slice none 0 0,.int .i64 f]) (by simp [results,Tryz.results44,go_sem]) rfl ⟨DB,_,[],f,rfl,⟨f,HR.out,.inl ⟨h0,rfl,rfl⟩⟩,World.ownsRow_nil _ _ _ _⟩
end Go.Proofs.YthmljpccbjolgaaGreatDoor.cref
