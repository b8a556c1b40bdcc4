import Derived.Test.YthmljpccbjolgaaGreatDoorCoverD
import Derived.Test.YthmljpccbjolgaaGreatDoorMinusF
import Derived.Test.YthmljpccbjolgaaGreatDoorZsetD
namespace Go.Proofs.YthmljpccbjolgaaGreatDoor.claw
open Go.Joins Go.ChangeShapes Go.WideShapes Go.ChangeAt Go.RowKit num rat dbm Go.Proofs.YthmljpccbjolgaaGreatDoor.tight Go.Proofs.YthmljpccbjolgaaGreatDoor.incl Go.Proofs.YthmljpccbjolgaaGreatDoor.plaw Go.Proofs.YthmljpccbjolgaaGreatDoor.zopen Go.Proofs.YthmljpccbjolgaaGreatDoor.zone Go.Proofs.YthmljpccbjolgaaGreatDoor.zlaw Go.Proofs.YthmljpccbjolgaaGreatDoor.win Go.Proofs.YthmljpccbjolgaaGreatDoor.minus Go.Proofs.YthmljpccbjolgaaGreatDoor.mz Go.Proofs.YthmljpccbjolgaaGreatDoor.mlaw Go.Proofs.YthmljpccbjolgaaGreatDoor.cover
open bound hiding up
set_option linter.unusedVariables false
set_option linter.unusedSimpArgs false
end Go.Proofs.YthmljpccbjolgaaGreatDoor.claw
namespace Go.Proofs.YthmljpccbjolgaaGreatDoor.slaw
open Go.Joins Go.ChangeShapes Go.WideShapes Go.ChangeAt Go.RowKit num rat dbm Go.Proofs.YthmljpccbjolgaaGreatDoor.tight Go.Proofs.YthmljpccbjolgaaGreatDoor.incl Go.Proofs.YthmljpccbjolgaaGreatDoor.plaw Go.Proofs.YthmljpccbjolgaaGreatDoor.zopen Go.Proofs.YthmljpccbjolgaaGreatDoor.zone Go.Proofs.YthmljpccbjolgaaGreatDoor.zlaw Go.Proofs.YthmljpccbjolgaaGreatDoor.comp Go.Proofs.YthmljpccbjolgaaGreatDoor.win Go.Proofs.YthmljpccbjolgaaGreatDoor.minus Go.Proofs.YthmljpccbjolgaaGreatDoor.mz Go.Proofs.YthmljpccbjolgaaGreatDoor.mlaw Go.Proofs.YthmljpccbjolgaaGreatDoor.cover Go.Proofs.YthmljpccbjolgaaGreatDoor.claw Go.Proofs.YthmljpccbjolgaaGreatDoor.zset
open bound hiding up
set_option linter.unusedVariables false
set_option linter.unusedSimpArgs false
/-! the two variables that a law's row may list -/
def both {H:Type}:List (String × DataW H):=[("rallentando/zone.places",Rows.laid_rallentando_zone_places),("rallentando/zset.all",Rows.laid_rallentando_zset_all)]
theorem door_both (os:Os) (args:Array Value):laidMetH Tryz.prog both ((World.doorLaid Tryz.prog 400 os).forCall (fun _ _=>0) ⟨#[],args,[]⟩).memory:=
 laidMetH_of_parts3 (fuel:=8) (laidMet_of_run' 8 (by kernel_rfl) (by kernel_rfl)) (by kernel_rfl) (by kernel_rfl)
theorem gAll:Tryz.prog.globalNamed "rallentando/zset.all" =some 0:=by kernel_rfl
theorem tAll:(Tryz.prog.globals[0]?).map (·.type)=some 27:=by kernel_rfl
theorem all_cell {W:World} {cs:Array Value} {m i:Nat} {k:Int} {x:DataW Unit × List MemPlace} (hv:W.var? Tryz.prog "rallentando/zset.all" =some cs)
  (h:DataW.trod (fun _=>()) Tryz.prog W 0 (fun _=>true) false m 25 ((cs.toList.drop (i*1)).take 1)=some x) (hx:x.1=.lit (.int .i64 k)):W.cell? ⟨0,i,none⟩=some (.int .i64 k):=by
 obtain ⟨j,e1,rfl,_⟩:=DataW.trod_int Tryz.underlying25 h
 obtain rfl:j=k:=by simpa using hx
 rw [World.var?_cell gAll hv i,←Array.getElem?_toList]
 exact zopen.take_one e1
set_option maxRecDepth 100000 in
theorem all_cells {W:World} {cs:Array Value} {f:Nat} {p:List MemPlace} (hv0:W.var? Tryz.prog "rallentando/zset.all" =some cs) (hd0:DataW.trod (fun _=>()) Tryz.prog W 0 (fun _=>true) false f 27 cs.toList=some (Rows.laid_rallentando_zset_all,p)):W.cell? ⟨0,0,none⟩=some (.int .i64 9223372036854775807)∧W.cell? ⟨0,1,none⟩=some (.int .i64 9223372036854775807)∧W.cell? ⟨0,2,none⟩=some (.int .i64 9223372036854775807)∧W.cell? ⟨0,3,none⟩=some (.int .i64 9223372036854775807)∧W.cell? ⟨0,4,none⟩=some (.int .i64 9223372036854775807)∧W.cell? ⟨0,5,none⟩=some (.int .i64 9223372036854775807):=by
 have c1:Tryz.prog.cellsOf 25=1:=by kernel_rfl
 obtain ⟨xs,m,_,hx,_,hn,hel⟩:=DataW.trod_array Tryz.underlying27 hd0
 rw [c1] at hel
 match xs,hn with
 | [x0,x1,x2,x3,x4,x5],_=>
  have hd:(Rows.laid_rallentando_zset_all:DataW Unit)=.agg [x0.1,x1.1,x2.1,x3.1,x4.1,x5.1]:=congrArg Prod.fst hx
  unfold Rows.laid_rallentando_zset_all at hd
  injection hd with hd
  simp only [List.cons.injEq,and_true] at hd
  obtain ⟨d0,d1,d2,d3,d4,d5⟩:=hd
  exact ⟨all_cell hv0 (hel 0 (by decide)) d0.symm,all_cell hv0 (hel 1 (by decide)) d1.symm,all_cell hv0 (hel 2 (by decide)) d2.symm,all_cell hv0 (hel 3 (by decide)) d3.symm,all_cell hv0 (hel 4 (by decide)) d4.symm,all_cell hv0 (hel 5 (by decide)) d5.symm⟩
theorem laid_two {W:World} (h:laidMetH Tryz.prog both W):Pl W∧Pa W:=by
 rw [MakeChecks.laidMetH_plain _ _ _ (by kernel_rfl)] at h
 obtain ⟨ps,⟨g0,t0,cs0,f0,p0,q0,hg0,ht0,hv0,hd0,⟨g1,t1,cs1,f1,p1,q1,hg1,ht1,hv1,hd1,_,_⟩,_⟩,_,_⟩:=h
 obtain rfl:=Option.some.inj (zopen.gPlaces.symm.trans hg0)
 obtain rfl:=Option.some.inj (zopen.tPlaces.symm.trans ht0)
 obtain rfl:=Option.some.inj (gAll.symm.trans hg1)
 obtain rfl:=Option.some.inj (tAll.symm.trans ht1)
 have k:=all_cells hv1 hd1
 refine ⟨zopen.pl_of (zopen.cells_of hv0 hd0),Decidable.byContradiction fun hn=>?_,k⟩
 have e:W.heap[0]?=none:=Array.getElem?_eq_none (Nat.le_of_not_lt hn)
 have:=k.1
 simp [World.cell?,e] at this
theorem each_six {T:To} {c:Int} {l r:List (List Int)} {f:Int} (hT:∀ y,Zo y→∀ o,T y o 0→Zo o) (hl:Six l) (h:EachX RestP T c l r f):Six r∧r.length≤l.length:=by
 by_cases e:f=0
 ·subst e
  obtain ⟨_,k1,k2,_⟩:=each_fine hT hl h
  exact ⟨six_zo k1,k2⟩
 ·rw [each_err h e]
  exact ⟨six_nil,Nat.zero_le _⟩
end Go.Proofs.YthmljpccbjolgaaGreatDoor.slaw
