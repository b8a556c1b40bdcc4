
/-
  What cover.All asks: of a list that is too long; its closure, of a zone; slices.IndexFunc and slices.ContainsFunc, of that closure; each theorem names its conditions.
-/
import Derived.Test.YthmljpccbjolgaaGreatDoorCoverD
namespace Go.Proofs.YthmljpccbjolgaaGreatDoor.cover
open Go.Joins Go.ChangeShapes Go.WideShapes Go.ChangeAt Go.RowKit num rat dbm Go.Proofs.YthmljpccbjolgaaGreatDoor.tight Go.Proofs.YthmljpccbjolgaaGreatDoor.incl Go.Proofs.YthmljpccbjolgaaGreatDoor.plaw Go.Proofs.YthmljpccbjolgaaGreatDoor.zopen Go.Proofs.YthmljpccbjolgaaGreatDoor.zone Go.Proofs.YthmljpccbjolgaaGreatDoor.win Go.Proofs.YthmljpccbjolgaaGreatDoor.minus Go.Proofs.YthmljpccbjolgaaGreatDoor.mz Go.Proofs.YthmljpccbjolgaaGreatDoor.mlaw
open bound hiding up
set_option linter.unusedVariables false
set_option linter.unusedSimpArgs false
set_option linter.unusedSectionVars false
def Kpt (n:Nat) (w:World) (Bb Bk:Nat) (bo:Option Addr) (lenb capb:Nat) (f:Int) (W:World):Prop:=Below n w W∧lies.Lies W Bb 29 #[.slice bo lenb capb]∧lies.Lies W Bk 22 #[.int .i64 f]
theorem Kpt.below {n:Nat} {w:World} {Bb Bk:Nat} {bo:Option Addr} {lenb capb:Nat} {f:Int} {X Y:World} (h:Kpt n w Bb Bk bo lenb capb f X) (hn:n≤X.heap.size) (k:Below X.heap.size X Y):Kpt n w Bb Bk bo lenb capb f Y:=⟨h.1.trans (k.mono hn),lies.on_call h.2.1 k,lies.on_call h.2.2 k⟩
theorem Kpt.put {n:Nat} {w:World} {Bb Bk:Nat} {bo:Option Addr} {lenb capb:Nat} {f:Int} {X:World} (h:Kpt n w Bb Bk bo lenb capb f X) (hn:n≤Bk) (hne:Bb≠Bk) (g:Int):Kpt n w Bb Bk bo lenb capb g (X.setCell ⟨Bk,0,none⟩ (.int .i64 g)):=⟨h.1.setCell (p:=⟨Bk,0,none⟩) hn _,lies.on_far h.2.1 0 hne _,lies.on_put h.2.2 0 _⟩
set_option maxRecDepth 100000 in
set_option maxHeartbeats 8000000 in
theorem open_any (z0 z1 z2 z3 z4 z5:Int) (n:Nat) (w:World) (Bb Bk:Nat) (bo:Option Addr) (lenb capb:Nat) (m:List (List Int)) (k0:Int) (W:World) (hP:Pl w) (hn:w.heap.size≤n) (hnk:n≤Bk) (hne:Bb≠Bk) (hK:Kpt n w Bb Bk bo lenb capb k0 W)
  (za:Zo [z0,z1,z2,z3,z4,z5]) (hI:Zs w.heap.size w (.slice bo lenb capb) m) (hz:∀ x,x ∈ m→Zo x) (hl:m.length=lenb) (hm:lenb≤1000000):
  Calls Tryz.prog 78 #[.agg #[.int .i64 z0,.int .i64 z1,.int .i64 z2,.int .i64 z3,.int .i64 z4,.int .i64 z5],.pointer (some ⟨Bb,0,none⟩),.pointer (some ⟨Bk,0,none⟩)] W fun e w'=>∃ (is:Bool) (f:Int),e=.returned (.bool (!is))∧CovX RestP [z0,z1,z2,z3,z4,z5] m is f∧Kpt n w Bb Bk bo lenb capb f w'∧W.heap.size≤w'.heap.size:=by
 have hnW:n≤W.heap.size:=Nat.le_trans hnk (Nat.le_of_lt (lies.lt hK.2.2))
 obtain ⟨w0,hX⟩:∃ w0,w0=W.alloc (.cells #[.int .i64 z0,.int .i64 z1,.int .i64 z2,.int .i64 z3,.int .i64 z4,.int .i64 z5] 27):=⟨_,rfl⟩
 have hA:Below W.heap.size W w0:=by rw [hX];exact bound.up1 _ _
 have hK0:=hK.below hnW hA
 have hs0:=hA.size
 have HZA:=Lib.hid za
 have HI:=Lib.hid hI
 have HZ:=Lib.hid hz
 have HL:=Lib.hid hl
 have HP:=Lib.hid hP
 have HK:=Lib.hid hK0
 have c0:w0.cell? ⟨Bb,0,none⟩=some (.slice bo lenb capb):=lies.cell hK0.2.1 0
 have cl:=lies.lt hK0.2.1
 rw [hX] at c0 cl
 clear hP hI hz hl hK hK0 za hA
 go_enter Tryz.func78,Tryz.ntmps78
 go_wp2_with fail
 clear c0 cl
 rw [←hX]
 clear hX
 have hBw:Below w.heap.size w w0:=HK.out.1.mono hn
 refine (covered_any z0 z1 z2 z3 z4 z5 bo lenb capb m w0 (HP.out.on hBw) HZA.out.2.1 ((HI.out.below hBw).mono hBw.size) (fun x hx=>⟨(HZ.out x hx).2.2,(HZ.out x hx).2.1⟩) HL.out hm HZA.out.1 (fun x hx=>(HZ.out x hx).1)).mono ?_
 rintro e w1 ⟨hB,is,f,rfl,hC⟩
 have hs1:=Nat.le_trans hs0 hB.size
 have hK1:=HK.out.below (Nat.le_trans hnW hs0) hB
 have HC:=Lib.hid hC
 have d0:=lies.cell hK1.2.2 0
 have d1:=lies.free hK1.2.2 0
 have d2:=lies.lt hK1.2.2
 have d0:w1.cell? ⟨Bk,0,none⟩=some (.int .i64 k0):=d0
 have HK1:=Lib.hid (hK1.put hnk hne f)
 clear hC hB hK1 hBw
 go_wp2_with fail
 go_ret
 exact ⟨is,f,rfl,HC.out,HK1.out,by rw [World.size_setCell];exact hs1⟩
def Wa (a b:List (List Int)) (k:Nat):Prop:=∀ is f,Alls RestP b (a.drop k) is f→Alls RestP b a is f
set_option maxRecDepth 100000 in
set_option maxHeartbeats 16000000 in
theorem index_any (ao:Option Addr) (len cap:Nat) (a:List (List Int)) (n:Nat) (w:World) (Bb Bk:Nat) (bo:Option Addr) (lenb capb:Nat) (m:List (List Int)) (W:World) (hP:Pl w) (hn:w.heap.size≤n) (hnk:n≤Bk) (hne:Bb≠Bk) (hK:Kpt n w Bb Bk bo lenb capb 0 W)
  (hA:Zs w.heap.size w (.slice ao len cap) a) (ha:∀ x,x ∈ a→Zo x) (hla:a.length=len) (hma:len≤1000000) (hI:Zs w.heap.size w (.slice bo lenb capb) m) (hz:∀ x,x ∈ m→Zo x) (hl:m.length=lenb) (hm:lenb≤1000000):
  Calls Tryz.prog 119 #[.slice ao len cap,.func (.func 78) #[] #[.pointer (some ⟨Bb,0,none⟩),.pointer (some ⟨Bk,0,none⟩)]] W fun e w'=>∃ (i f:Int),e=.returned (.int .i64 i)∧Alls RestP m a (decide (i<0)) f∧Kpt n w Bb Bk bo lenb capb f w'∧W.heap.size≤w'.heap.size:=by
 have HA:=Lib.hid hA
 have HZA:=Lib.hid ha
 have HLA:=Lib.hid hla
 have HI:=Lib.hid hI
 have HZ:=Lib.hid hz
 have HL:=Lib.hid hl
 have HP:=Lib.hid hP
 clear hA ha hla hI hz hl hP
 go_enter Tryz.func119,Tryz.ntmps119
 go_wp2_with fail
 go_loopw [8] (fun i wr=>∃ k:Nat,k≤len∧i=.int .i64 k∧Kpt n w Bb Bk bo lenb capb 0 wr∧W.heap.size≤wr.heap.size∧RowKit.Hid (Wa a m k)) (fun i _=>len - (intOf i).toNat)
 case atStart=>exact ⟨0,Nat.zero_le _,rfl,hK,Nat.le_refl _,Lib.hid (fun is f q=>q)⟩
 case round=>
  clear hK
  obtain ⟨k,hk,rfl,hK,hs,HW⟩:=hrel
  by_cases hkn:k<len
  ·have hkz:k<a.length:=by rw [HLA.out];exact hkn
   have hBw:Below w.heap.size w wr:=hK.1.mono hn
   obtain ⟨bq,off,rfl,-,hb,c0,c1,c2,c3,c4,c5⟩:=zs_at (HA.out.below hBw) hkz
   have hbr:bq<wr.heap.size:=Nat.lt_of_lt_of_le hb hBw.size
   have hzk:=HZA.out _ (zat_mem hkz)
   have hdr:a.drop k=zat a k::a.drop (k+1):=by
    rw [List.drop_eq_getElem_cons hkz]
    unfold zat
    rw [List.getElem?_eq_getElem hkz]
    rfl
   generalize zat a k=zk at c0 c1 c2 c3 c4 c5 hzk hdr
   obtain ⟨z0,z1,z2,z3,z4,z5,rfl⟩:=six hzk.2.2
   have c0:wr.cell? ⟨bq,off+k*6,none⟩=some (.int .i64 z0):=c0
   have c1:wr.cell? ⟨bq,off+k*6+1,none⟩=some (.int .i64 z1):=c1
   have c2:wr.cell? ⟨bq,off+k*6+2,none⟩=some (.int .i64 z2):=c2
   have c3:wr.cell? ⟨bq,off+k*6+3,none⟩=some (.int .i64 z3):=c3
   have c4:wr.cell? ⟨bq,off+k*6+4,none⟩=some (.int .i64 z4):=c4
   have c5:wr.cell? ⟨bq,off+k*6+5,none⟩=some (.int .i64 z5):=c5
   have HZK:=Lib.hid hzk
   have HDR:=Lib.hid hdr
   have HK:=Lib.hid hK
   have hkn':(k:Int)<len:=by omega
   clear hzk hdr hK hBw
   go_wp2_with fail
   clear c0 c1 c2 c3 c4 c5 hbr
   refine (open_any z0 z1 z2 z3 z4 z5 n w Bb Bk bo lenb capb m 0 wr HP.out hn hnk hne HK.out HZK.out HI.out HZ.out HL.out hm).mono ?_
   rintro e w2 ⟨is,f,rfl,hC,hK2,hs2⟩
   have hs3:=Nat.le_trans hs hs2
   clear hs2
   cases is with
   | false=>
    have HK2:=Lib.hid hK2
    have HC:=Lib.hid (show Alls RestP m a false f from HW.out false f (by
     rw [HDR.out]
     obtain ⟨x,hx,he⟩:=hC
     by_cases hf:f=0
     ·subst hf
      have:=of_decide_eq_false he.symm
      exact ⟨x,0,hx,.inr ⟨rfl,.inl ⟨fun e=>this ⟨rfl,e⟩,rfl,rfl⟩⟩⟩
     ·exact ⟨x,f,hx,.inl ⟨hf,rfl,rfl⟩⟩))
    clear hC hK2 HW
    go_wp2_with fail
    go_ret
    exact ⟨k,f,rfl,by rw [decide_eq_false (by omega:¬ (k:Int)<0)];exact HC.out,HK2.out,hs3⟩
   | true=>
    obtain ⟨x,hx,he⟩:=hC
    obtain ⟨hf,hxn⟩:=of_decide_eq_true he.symm
    subst hf
    have HW2:=Lib.hid (show Wa a m (k+1) from fun is f q=>HW.out is f (by rw [HDR.out];exact ⟨x,0,hx,.inr ⟨rfl,.inr ⟨hxn,q⟩⟩⟩))
    have HK2:=Lib.hid hK2
    clear hx he hxn hK2 HW
    go_wp2_with fail
    go_roundw
    case rel=>exact ⟨k+1,by omega,by go_num,HK2.out,hs3,HW2⟩
    case measure=>simp [intOf];omega
  ·have hke:k=a.length:=by have:=HLA.out;omega
   have hkn':¬ (k:Int)<len:=by omega
   have HC:=Lib.hid (show Alls RestP m a true 0 from HW.out true 0 (by rw [hke,List.drop_length];exact ⟨rfl,rfl⟩))
   have HK:=Lib.hid hK
   clear hK HW
   go_wp2_with fail
   go_ret
   exact ⟨-1,rfl,0,HC.out,HK.out,hs⟩
set_option maxRecDepth 100000 in
set_option maxHeartbeats 4000000 in
theorem contains_any (ao:Option Addr) (len cap:Nat) (a:List (List Int)) (n:Nat) (w:World) (Bb Bk:Nat) (bo:Option Addr) (lenb capb:Nat) (m:List (List Int)) (W:World) (hP:Pl w) (hn:w.heap.size≤n) (hnk:n≤Bk) (hne:Bb≠Bk) (hK:Kpt n w Bb Bk bo lenb capb 0 W)
  (hA:Zs w.heap.size w (.slice ao len cap) a) (ha:∀ x,x ∈ a→Zo x) (hla:a.length=len) (hma:len≤1000000) (hI:Zs w.heap.size w (.slice bo lenb capb) m) (hz:∀ x,x ∈ m→Zo x) (hl:m.length=lenb) (hm:lenb≤1000000):
  Calls Tryz.prog 72 #[.slice ao len cap,.func (.func 78) #[] #[.pointer (some ⟨Bb,0,none⟩),.pointer (some ⟨Bk,0,none⟩)]] W fun e w'=>∃ (is:Bool) (f:Int),e=.returned (.bool (!is))∧Alls RestP m a is f∧Kpt n w Bb Bk bo lenb capb f w'∧W.heap.size≤w'.heap.size:=by
 have c:=index_any ao len cap a n w Bb Bk bo lenb capb m W hP hn hnk hne hK hA ha hla hma hI hz hl hm
 clear hP hK hA ha hla hI hz hl
 go_enter Tryz.func72,Tryz.ntmps72
 go_wp2_with fail
 refine Calls.mono c ?_
 rintro e w' ⟨i,f,rfl,hC,hK,hs⟩
 have HC:=Lib.hid hC
 have HK:=Lib.hid hK
 clear hC hK
 by_cases h0:i<0
 ·have h1:¬ 0≤i:=by omega
  replace HC:=Lib.hid (show Alls RestP m a true f by have q:=HC.out;rwa [decide_eq_true h0] at q)
  go_wp2_with fail
  exact bodyPost_ret (v:=.bool false) (by simp [results,Tryz.results72,go_sem,h1]) rfl ⟨true,f,rfl,HC.out,HK.out,hs⟩
 ·have h1:0≤i:=by omega
  replace HC:=Lib.hid (show Alls RestP m a false f by have q:=HC.out;rwa [decide_eq_false h0] at q)
  go_wp2_with fail
  exact bodyPost_ret (v:=.bool true) (by simp [results,Tryz.results72,go_sem,h1]) rfl ⟨false,f,rfl,HC.out,HK.out,hs⟩
end Go.Proofs.YthmljpccbjolgaaGreatDoor.cover
