
/-
  What the laws of minus say of zones that may be; lists of zones that are the same.
-/
import Derived.Test.YthmljpccbjolgaaGreatDoorMinusE
import Derived.Test.YthmljpccbjolgaaGreatDoorZoneI
namespace Go.Proofs.YthmljpccbjolgaaGreatDoor.mlaw
open Go.Joins Go.ChangeShapes Go.WideShapes Go.ChangeAt Go.RowKit num rat dbm Go.Proofs.YthmljpccbjolgaaGreatDoor.tight Go.Proofs.YthmljpccbjolgaaGreatDoor.incl Go.Proofs.YthmljpccbjolgaaGreatDoor.plaw Go.Proofs.YthmljpccbjolgaaGreatDoor.zopen Go.Proofs.YthmljpccbjolgaaGreatDoor.zone Go.Proofs.YthmljpccbjolgaaGreatDoor.win Go.Proofs.YthmljpccbjolgaaGreatDoor.minus Go.Proofs.YthmljpccbjolgaaGreatDoor.mz
open bound hiding up
set_option linter.unusedVariables false
set_option linter.unusedSimpArgs false
/-! answers -/
/-! the chapter's zones -/
end Go.Proofs.YthmljpccbjolgaaGreatDoor.mlaw
namespace Go.Proofs.YthmljpccbjolgaaGreatDoor.mlaw
open Go.Joins Go.ChangeShapes Go.WideShapes Go.ChangeAt Go.RowKit num rat dbm Go.Proofs.YthmljpccbjolgaaGreatDoor.tight Go.Proofs.YthmljpccbjolgaaGreatDoor.incl Go.Proofs.YthmljpccbjolgaaGreatDoor.plaw Go.Proofs.YthmljpccbjolgaaGreatDoor.zopen Go.Proofs.YthmljpccbjolgaaGreatDoor.zone Go.Proofs.YthmljpccbjolgaaGreatDoor.win Go.Proofs.YthmljpccbjolgaaGreatDoor.minus Go.Proofs.YthmljpccbjolgaaGreatDoor.mz
open bound hiding up
set_option linter.unusedVariables false
set_option linter.unusedSimpArgs false
theorem zs_six {n₀:Nat} {W:World} {a:Option Addr} {len cap:Nat} {zs:List (List Int)} (h:Zs n₀ W (.slice a len cap) zs) {k:Nat} (hk:k<zs.length) (h6:(zat zs k).length=6):
  ∃ b off,∃ z0 z1 z2 z3 z4 z5:Int,a=some ⟨b,off,none⟩∧b<n₀∧zat zs k=[z0,z1,z2,z3,z4,z5]:=by
 obtain ⟨b,off,e,_,hb,_⟩:=zs_at h hk
 obtain ⟨z0,z1,z2,z3,z4,z5,q⟩:=six h6
 exact ⟨b,off,z0,z1,z2,z3,z4,z5,e,hb,q⟩
theorem zs_cells {n₀:Nat} {W:World} {b off len cap:Nat} {zs:List (List Int)} {z0 z1 z2 z3 z4 z5:Int} (h:Zs n₀ W (.slice (some ⟨b,off,none⟩) len cap) zs) {k:Nat} (hk:k<zs.length) (e:zat zs k=[z0,z1,z2,z3,z4,z5]):
  W.cell? ⟨b,off+k*6,none⟩=some (.int .i64 z0)∧W.cell? ⟨b,off+k*6+1,none⟩=some (.int .i64 z1)∧W.cell? ⟨b,off+k*6+2,none⟩=some (.int .i64 z2)∧W.cell? ⟨b,off+k*6+3,none⟩=some (.int .i64 z3)∧W.cell? ⟨b,off+k*6+4,none⟩=some (.int .i64 z4)∧W.cell? ⟨b,off+k*6+5,none⟩=some (.int .i64 z5):=by
 obtain ⟨b',off',e',_,_,c0,c1,c2,c3,c4,c5⟩:=zs_at h hk
 cases e'
 rw [e] at c0 c1 c2 c3 c4 c5
 exact ⟨c0,c1,c2,c3,c4,c5⟩
set_option maxRecDepth 100000 in
set_option maxHeartbeats 8000000 in
theorem same_yes (ao bo:Option Addr) (len cap cap':Nat) (zs:List (List Int)) (w:World) (hI:Zs w.heap.size w (.slice ao len cap) zs) (hJ:Zs w.heap.size w (.slice bo len cap') zs) (hl:zs.length=len) (hm:len≤1000000) (h6:∀ z,z ∈ zs→z.length=6):
  Calls Tryz.prog 27 #[.slice ao len cap,.slice bo len cap'] w fun e w'=>e=.returned (.bool true)∧Below w.heap.size w w':=by
 have DB:=Below.refl w.heap.size w
 have HI:=Lib.hid hI
 have HJ:=Lib.hid hJ
 have HL:=Lib.hid hl
 have H6:=Lib.hid h6
 clear hI hJ hl h6
 go_enter Tryz.func27,Tryz.ntmps27
 go_wp2_with fail
 go_loopw [5] (fun i wr=>∃ k:Nat,k≤len∧i=.int .i64 k∧Below w.heap.size w wr) (fun i _=>len - (intOf i).toNat)
 case atStart=>exact ⟨0,Nat.zero_le _,rfl,DB⟩
 case round=>
  clear DB
  obtain ⟨k,hk,rfl,DB⟩:=hrel
  by_cases hkn:k<len
  ·have hkz:k<zs.length:=by rw [HL.out];exact hkn
   have hz6:=H6.out _ (zat_mem hkz)
   obtain ⟨bq,off,z0,z1,z2,z3,z4,z5,rfl,hb,ez⟩:=zs_six (HI.out.below DB) hkz hz6
   obtain ⟨br,off',_,_,_,_,_,_,rfl,hb',_⟩:=zs_six (HJ.out.below DB) hkz hz6
   have hbr:bq<wr.heap.size:=Nat.lt_of_lt_of_le hb DB.size
   have hbr':br<wr.heap.size:=Nat.lt_of_lt_of_le hb' DB.size
   have HEZ:=Lib.hid ez
   have HKZ:=Lib.hid hkz
   clear ez hkz hb hb' hz6
   have hq1:∀ W,(Op.equalIn 10000 27 (.agg #[.int .i64 z0,.int .i64 z1,.int .i64 z2,.int .i64 z3,.int .i64 z4,.int .i64 z5]) (.agg #[.int .i64 z0,.int .i64 z1,.int .i64 z2,.int .i64 z3,.int .i64 z4,.int .i64 z5])).run Tryz.prog W=.ok true W:=fun W=>by rw [eq_zone];simp
   go_wp2_with fail
   refine wp_region_held_drew (S:=Below wr.heap.size wr) (by kernel_rfl) (dbm.drawn1 (Below.refl _ _)) (fun hHeld=>?_)
   refine tk 0 (v:=?_) rfl hHeld ?_ ?_
   rotate_left
   ·intro w hSw;obtain ⟨c0,c1,c2,c3,c4,c5⟩:=zs_cells (HI.out.below (later DB hSw)) HKZ.out HEZ.out;obtain ⟨d0,d1,d2,d3,d4,d5⟩:=zs_cells (HJ.out.below (later DB hSw)) HKZ.out HEZ.out;go_simp;try with_reducible rfl
   try simp only [Act.put,sA,sB,sC,sD,sE,sF]
   refine tk 1 (v:=?_) rfl hHeld ?_ ?_
   rotate_left
   ·intro w hSw;obtain ⟨c0,c1,c2,c3,c4,c5⟩:=zs_cells (HI.out.below (later DB hSw)) HKZ.out HEZ.out;obtain ⟨d0,d1,d2,d3,d4,d5⟩:=zs_cells (HJ.out.below (later DB hSw)) HKZ.out HEZ.out;go_simp;try with_reducible rfl
   try simp only [Act.put,sA,sB,sC,sD,sE,sF]
   refine tk 2 (v:=?_) rfl hHeld ?_ ?_
   rotate_left
   ·intro w hSw;obtain ⟨c0,c1,c2,c3,c4,c5⟩:=zs_cells (HI.out.below (later DB hSw)) HKZ.out HEZ.out;obtain ⟨d0,d1,d2,d3,d4,d5⟩:=zs_cells (HJ.out.below (later DB hSw)) HKZ.out HEZ.out;go_simp;try with_reducible rfl
   try simp only [Act.put,sA,sB,sC,sD,sE,sF]
   refine tk 3 (v:=?_) rfl hHeld ?_ ?_
   rotate_left
   ·intro w hSw;obtain ⟨c0,c1,c2,c3,c4,c5⟩:=zs_cells (HI.out.below (later DB hSw)) HKZ.out HEZ.out;obtain ⟨d0,d1,d2,d3,d4,d5⟩:=zs_cells (HJ.out.below (later DB hSw)) HKZ.out HEZ.out;go_simp;try with_reducible rfl
   try simp only [Act.put,sA,sB,sC,sD,sE,sF]
   refine tk 4 (v:=?_) rfl hHeld ?_ ?_
   rotate_left
   ·intro w hSw;obtain ⟨c0,c1,c2,c3,c4,c5⟩:=zs_cells (HI.out.below (later DB hSw)) HKZ.out HEZ.out;obtain ⟨d0,d1,d2,d3,d4,d5⟩:=zs_cells (HJ.out.below (later DB hSw)) HKZ.out HEZ.out;go_simp;try with_reducible rfl
   try simp only [Act.put,sA,sB,sC,sD,sE,sF]
   refine tk 5 (v:=?_) rfl hHeld ?_ ?_
   rotate_left
   ·intro w hSw;obtain ⟨c0,c1,c2,c3,c4,c5⟩:=zs_cells (HI.out.below (later DB hSw)) HKZ.out HEZ.out;obtain ⟨d0,d1,d2,d3,d4,d5⟩:=zs_cells (HJ.out.below (later DB hSw)) HKZ.out HEZ.out;go_simp;try with_reducible rfl
   try simp only [Act.put,sA,sB,sC,sD,sE,sF]
   refine tk 6 (v:=?_) rfl hHeld ?_ ?_
   rotate_left
   ·intro w hSw;obtain ⟨c0,c1,c2,c3,c4,c5⟩:=zs_cells (HI.out.below (later DB hSw)) HKZ.out HEZ.out;obtain ⟨d0,d1,d2,d3,d4,d5⟩:=zs_cells (HJ.out.below (later DB hSw)) HKZ.out HEZ.out;go_simp;try with_reducible rfl
   try simp only [Act.put,sA,sB,sC,sD,sE,sF]
   refine tk 7 (v:=?_) rfl hHeld ?_ ?_
   rotate_left
   ·intro w hSw;obtain ⟨c0,c1,c2,c3,c4,c5⟩:=zs_cells (HI.out.below (later DB hSw)) HKZ.out HEZ.out;obtain ⟨d0,d1,d2,d3,d4,d5⟩:=zs_cells (HJ.out.below (later DB hSw)) HKZ.out HEZ.out;go_simp;try with_reducible rfl
   try simp only [Act.put,sA,sB,sC,sD,sE,sF]
   refine tk 8 (v:=?_) rfl hHeld ?_ ?_
   rotate_left
   ·intro w hSw;obtain ⟨c0,c1,c2,c3,c4,c5⟩:=zs_cells (HI.out.below (later DB hSw)) HKZ.out HEZ.out;obtain ⟨d0,d1,d2,d3,d4,d5⟩:=zs_cells (HJ.out.below (later DB hSw)) HKZ.out HEZ.out;go_simp;try with_reducible rfl
   try simp only [Act.put,sA,sB,sC,sD,sE,sF]
   refine wpAnyH_done (by kernel_rfl) ?_ _
   replace DB:=later DB hHeld
   clear hHeld
   go_wp2_with fail
   go_roundw
   case rel=>exact ⟨k+1,by omega,by go_num,DB⟩
   case measure=>simp [intOf];omega
  ·obtain rfl:len=k:=by omega
   go_wp2_with fail
   go_ret
   exact ⟨rfl,DB⟩
end Go.Proofs.YthmljpccbjolgaaGreatDoor.mlaw
