
/-
  What cover.All answers; each theorem names its conditions.
-/
import Derived.Test.YthmljpccbjolgaaGreatDoorCoverO
namespace Go.Proofs.YthmljpccbjolgaaGreatDoor.cover
open Go.Joins Go.ChangeShapes Go.WideShapes Go.ChangeAt Go.RowKit num rat dbm Go.Proofs.YthmljpccbjolgaaGreatDoor.tight Go.Proofs.YthmljpccbjolgaaGreatDoor.incl Go.Proofs.YthmljpccbjolgaaGreatDoor.plaw Go.Proofs.YthmljpccbjolgaaGreatDoor.zopen Go.Proofs.YthmljpccbjolgaaGreatDoor.zone Go.Proofs.YthmljpccbjolgaaGreatDoor.win Go.Proofs.YthmljpccbjolgaaGreatDoor.minus Go.Proofs.YthmljpccbjolgaaGreatDoor.mz Go.Proofs.YthmljpccbjolgaaGreatDoor.mlaw
open bound hiding up
set_option linter.unusedVariables false
set_option linter.unusedSimpArgs false
set_option linter.unusedSectionVars false
set_option maxRecDepth 100000 in
set_option maxHeartbeats 8000000 in
theorem all_any (ao:Option Addr) (len cap:Nat) (l:List (List Int)) (bo:Option Addr) (lenb capb:Nat) (m:List (List Int)) (w:World) (hP:Pl w) (hI:Zs w.heap.size w (.slice ao len cap) l) (h6:Six l) (hl:l.length=len) (hm:len≤1000000) (hJ:Zs w.heap.size w (.slice bo lenb capb) m) (h6m:Six m) (hlb:m.length=lenb) (hmb:lenb≤1000000):
  Calls Tryz.prog 41 #[.slice ao len cap,.slice bo lenb capb] w fun e w'=>Below w.heap.size w w'∧∃ (is:Bool) (f:Int),e=.returned (.tuple #[.bool is,.int .i64 f])∧AllX RestP l m is f:=by
 obtain ⟨w0,hX⟩:∃ w0,w0=(w.alloc (.cells #[.slice bo lenb capb] 29)).alloc (.cells #[.slice ao len cap,.slice bo lenb capb] 29):=⟨_,rfl⟩
 have DB:Below w.heap.size w w0:=by rw [hX];exact bound.up2 _ _ _
 have D0:lies.Lies w0 w.heap.size 29 #[.slice bo lenb capb]:=by rw [hX];exact lies.on_alloc (lies.made _ _ _) _
 have D1:lies.Lies w0 (w.heap.size+1) 29 #[.slice ao len cap,.slice bo lenb capb]:=by rw [hX];exact lies.made_at _ _ _ _ (by simp)
 have HP:=Lib.hid hP
 have HI:=Lib.hid hI
 have HJ:=Lib.hid hJ
 have H6:=Lib.hid h6
 have H6M:=Lib.hid h6m
 have HL:=Lib.hid hl
 have HLB:=Lib.hid hlb
 clear hP hI hJ h6 h6m hl hlb
 go_enter Tryz.func41,Tryz.ntmps41
 go_wp2_with fail
 rw [←hX]
 clear hX
 refine (check_two _ ao len cap bo lenb capb l m w0 D1 (fun _ _=>⟨HP.out.on DB,⟨(HI.out.below DB).mono DB.size,H6.out⟩,(HJ.out.below DB).mono DB.size,H6M.out⟩) HL.out HLB.out).mono ?_
 rintro e w1 ⟨hB,f,rfl,hR⟩
 replace D0:=lies.on_call D0 hB
 replace DB:=later DB hB
 clear hB D1
 by_cases h0:f=0
 ·subst h0
  obtain ⟨-,-,h3,h4⟩:=chk_fine hR
  have HR:=Lib.hid hR
  have HM1:=Lib.hid h3
  have HM2:=Lib.hid h4
  clear hR h3 h4
  have hA:=bound.up1 w1 (.cells #[.int .i64 0] 22)
  have hlt:=lies.lt D0
  have K0:Kpt w.heap.size w w.heap.size w1.heap.size bo lenb capb 0 (w1.alloc (.cells #[.int .i64 0] 22)):=⟨later DB hA,lies.on_alloc D0 _,lies.made _ _ _⟩
  have hle:=DB.size
  have HK0:=Lib.hid K0
  clear K0 hA D0
  go_wp2_with fail
  generalize w1.heap.size=Bk at HK0 hlt hle ⊢
  generalize w1.alloc (.cells #[.int .i64 0] 22)=w2 at HK0 ⊢
  refine (contains_any ao len cap l w.heap.size w w.heap.size Bk bo lenb capb m w2 HP.out (Nat.le_refl _) hle (by omega) HK0.out HI.out (H6.out.zo HM1.out) HL.out hm HJ.out (H6M.out.zo HM2.out) HLB.out hmb).mono ?_
  rintro e w3 ⟨is,f,rfl,hC,hK,hs⟩
  have HC:=Lib.hid hC
  have HB:=Lib.hid hK.1
  have LK:=hK.2.2
  clear hC hK HK0
  cases is with
  | true=>
   go_wp2_with fail
   refine wp_region_held_drew (S:=Below w3.heap.size w3) (by kernel_rfl) (dbm.drawn1 (Below.refl _ _)) (fun hHeld=>?_)
   refine tk 0 (v:=?_) rfl hHeld ?_ ?_
   rotate_left
   ·intro w hSw;have d0:=lies.cell (lies.on_call LK hSw) 0;have dl:=lies.lt (lies.on_call LK hSw);go_simp;try with_reducible rfl
   try simp only [Act.put,sA,sB,sC,sD,sE,sF]
   refine tk 1 (v:=?_) rfl hHeld ?_ ?_
   rotate_left
   ·intro w hSw;have d0:=lies.cell (lies.on_call LK hSw) 0;have dl:=lies.lt (lies.on_call LK hSw);go_simp;try with_reducible rfl
   try simp only [Act.put,sA,sB,sC,sD,sE,sF]
   refine tk 2 (v:=?_) rfl hHeld ?_ ?_
   rotate_left
   ·intro w hSw;have d0:=lies.cell (lies.on_call LK hSw) 0;have dl:=lies.lt (lies.on_call LK hSw);go_simp;try with_reducible rfl
   try simp only [Act.put,sA,sB,sC,sD,sE,sF]
   refine tk 3 (v:=?_) rfl hHeld ?_ ?_
   rotate_left
   ·intro w hSw;have d0:=lies.cell (lies.on_call LK hSw) 0;have dl:=lies.lt (lies.on_call LK hSw);go_simp;try with_reducible rfl
   try simp only [Act.put,sA,sB,sC,sD,sE,sF]
   refine tk 4 (v:=?_) rfl hHeld ?_ ?_
   rotate_left
   ·intro w hSw;have d0:=lies.cell (lies.on_call LK hSw) 0;have dl:=lies.lt (lies.on_call LK hSw);go_simp;try with_reducible rfl
   try simp only [Act.put,sA,sB,sC,sD,sE,sF]
   refine wpAnyH_done (by kernel_rfl) ?_ _
   have HB2:=later HB.out hHeld
   clear hHeld LK
   go_wp2_with fail
   exact bodyPost_ret (v:=.tuple #[.bool true,.int .i64 f]) (by simp [results,Tryz.results41,go_sem]) rfl ⟨HB2,true,f,rfl,0,HR.out,.inr ⟨rfl,HC.out⟩⟩
  | false=>
   go_wp2_with fail
   refine wp_region_held_drew (S:=Below w3.heap.size w3) (by kernel_rfl) (dbm.drawn1 (Below.refl _ _)) (fun hHeld=>?_)
   refine tk 0 (v:=?_) rfl hHeld ?_ ?_
   rotate_left
   ·intro w hSw;have d0:=lies.cell (lies.on_call LK hSw) 0;have dl:=lies.lt (lies.on_call LK hSw);go_simp;try with_reducible rfl
   try simp only [Act.put,sA,sB,sC,sD,sE,sF]
   refine tk 1 (v:=?_) rfl hHeld ?_ ?_
   rotate_left
   ·intro w hSw;have d0:=lies.cell (lies.on_call LK hSw) 0;have dl:=lies.lt (lies.on_call LK hSw);go_simp;try with_reducible rfl
   try simp only [Act.put,sA,sB,sC,sD,sE,sF]
   refine tk 2 (v:=?_) rfl hHeld ?_ ?_
   rotate_left
   ·intro w hSw;have d0:=lies.cell (lies.on_call LK hSw) 0;have dl:=lies.lt (lies.on_call LK hSw);go_simp;try with_reducible rfl
   try simp only [Act.put,sA,sB,sC,sD,sE,sF]
   refine tk 3 (v:=?_) rfl hHeld ?_ ?_
   rotate_left
   ·intro w hSw;have d0:=lies.cell (lies.on_call LK hSw) 0;have dl:=lies.lt (lies.on_call LK hSw);go_simp;try with_reducible rfl
   try simp only [Act.put,sA,sB,sC,sD,sE,sF]
   refine tk 4 (v:=?_) rfl hHeld ?_ ?_
   rotate_left
   ·intro w hSw;have d0:=lies.cell (lies.on_call LK hSw) 0;have dl:=lies.lt (lies.on_call LK hSw);go_simp;try with_reducible rfl
   try simp only [Act.put,sA,sB,sC,sD,sE,sF]
   refine wpAnyH_done (by kernel_rfl) ?_ _
   have HB2:=later HB.out hHeld
   clear hHeld LK
   go_wp2_with fail
   exact bodyPost_ret (v:=.tuple #[.bool false,.int .i64 f]) (by simp [results,Tryz.results41,go_sem]) rfl ⟨HB2,false,f,rfl,0,HR.out,.inr ⟨rfl,HC.out⟩⟩
 ·have HR:=Lib.hid hR
  clear hR D0
  go_wp2_with fail
  exact bodyPost_ret (v:=.tuple #[.bool false,.int .i64 f]) (by simp [results,Tryz.results41,go_sem]) rfl ⟨DB,false,f,rfl,f,HR.out,.inl ⟨h0,rfl,rfl⟩⟩
end Go.Proofs.YthmljpccbjolgaaGreatDoor.cover
