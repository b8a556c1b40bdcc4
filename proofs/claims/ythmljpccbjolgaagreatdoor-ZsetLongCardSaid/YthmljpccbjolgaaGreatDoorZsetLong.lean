
/-
  ZsetLong answers true for any number; the listed variables read as the program lays them.
-/
import Derived.Test.YthmljpccbjolgaaGreatDoorZsetLongW
import Derived.Test.YthmljpccbjolgaaGreatDoorZsetLongF
import Derived.Test.YthmljpccbjolgaaGreatDoorCards
import Derived.Test.YthmljpccbjolgaaGreatDoorTie
namespace Go.Proofs.YthmljpccbjolgaaGreatDoor.zsetLong
open Go.Joins Go.ChangeShapes Go.WideShapes Go.ChangeAt Go.RowKit num rat dbm Go.Proofs.YthmljpccbjolgaaGreatDoor.tight Go.Proofs.YthmljpccbjolgaaGreatDoor.incl Go.Proofs.YthmljpccbjolgaaGreatDoor.plaw Go.Proofs.YthmljpccbjolgaaGreatDoor.zopen Go.Proofs.YthmljpccbjolgaaGreatDoor.zone Go.Proofs.YthmljpccbjolgaaGreatDoor.zlaw Go.Proofs.YthmljpccbjolgaaGreatDoor.comp Go.Proofs.YthmljpccbjolgaaGreatDoor.win Go.Proofs.YthmljpccbjolgaaGreatDoor.minus Go.Proofs.YthmljpccbjolgaaGreatDoor.mz Go.Proofs.YthmljpccbjolgaaGreatDoor.mlaw Go.Proofs.YthmljpccbjolgaaGreatDoor.cover Go.Proofs.YthmljpccbjolgaaGreatDoor.claw Go.Proofs.YthmljpccbjolgaaGreatDoor.zset Go.Proofs.YthmljpccbjolgaaGreatDoor.slaw
open bound hiding up
set_option linter.unusedVariables false
set_option linter.unusedSimpArgs false
set_option maxRecDepth 100000 in
theorem lifted (os:Os) (started:os.Started) (H:Type) (enc:TypeId × Value→H):
  ReturnsInHanded {} Tryz.checked os 6 .any (fun w args=>(Rows.zsetLongSpec.pre enc Tryz.prog Tryz.f6 [] false w args∧laidMetH Tryz.prog slaw.both w)∧sizedMet enc Tryz.prog Tryz.f6 (OpenSpec.ofChange Rows.zsetLongSpec) false w args) (Rows.zsetLongSpec.post enc Tryz.prog Tryz.f6 false true false false):=by
 refine returnsInHanded_of_change_and (C:=Tryz.checked) (X:=fun w _=>laidMetH Tryz.prog slaw.both w) (fun _ _ _ hh h=>h.of_heap hh) law.own started (by kernel_rfl) Tryz.func6
  (ChangeSpec.witness_shaped (enc:=enc) (C:=Tryz.checked) (os:=os) (X:=fun w _=>laidMetH Tryz.prog slaw.both w) false (World.doorLaid Tryz.prog 400 os) #[.int .u8 0] 8 rfl (World.shaped_of_RefB (by kernel_rfl) (by kernel_rfl)) (by kernel_rfl) (by kernel_rfl) (by kernel_rfl) (slaw.door_both os _)) ?_
 intro W base args ds gs before hval0 hW _ _ hL _
 have hval:∀ (j:Nat) t v,Tryz.f6.params[j]?=some t→args[j]?=some v→Value.okWide Tryz.prog W .any base t v:=hval0
 have hW':=hW
 obtain ⟨p,q,hA0,hV,rfl,_,_⟩:=hW
 have hA:DataW.TrodAll enc Tryz.prog W 0 (fun _=>true) true Tryz.f6.params.toList args.toList ds p:=hA0
 rw [Tryz.params6] at hA hval
 obtain ⟨v0,vs0,d0,ds0,p0,q0,hargs,rfl,rfl,h0,r0⟩:=trodAll_cons hA
 obtain ⟨rfl,rfl,rfl⟩:=trodAll_nil r0
 obtain rfl:args=#[v0]:=by cases args;simp_all
 obtain ⟨m0,rfl,rfl,rfl,x0⟩:=open_int Tryz.underlying5 (hval 0 5 v0 rfl rfl) h0
 refine (walk m0 W (bounds_u8 x0) (slaw.laid_two hL).1 (slaw.laid_two hL).2).mono fun e W' ⟨he,hB⟩=>?_
 subst he
 exact ⟨_,rfl,law.post_true law.laidOut (by kernel_rfl) rfl Tryz.underlying4 rfl hW' (fun h=>by subst h;rfl) hB⟩
theorem proved:Rows.ZsetLongSaid:=
 OpenClaim.holds_of_wide 6 Tryz.f6 rfl rfl rfl rfl rfl rfl rfl ⟨rfl,rfl,rfl,rfl,rfl⟩ rfl rfl rfl rfl rfl (by kernel_rfl) Tryz.func6 Go.Proofs.YthmljpccbjolgaaGreatDoor.closedZsetLong.closed
  (of_decide_eq_true (by kernel_rfl)) (by unfold Func.isWrapper;first | (rw [if_pos (by decide+kernel)];kernel_rfl) | (rw [if_neg (by decide+kernel)];exact ⟨rfl,rfl⟩))
  (fun os started H enc _=>lifted os started H enc)
theorem card:Rows.ZsetLongCardSaid:=
 Claim7.holds_tied_plain_at .later [] [.data,.data] true (true, "dedfc36a848b7b0b3590d744953335447f29621c2f89cc141b977538f7b15672") false
  proved (fun _ h=>by cases h) Go.Proofs.YthmljpccbjolgaaGreatDoor.closedZsetLong.wfText (fun _ h=>by cases h) zsetLong_row_tie rfl ⟨rfl,rfl⟩ Go.Proofs.YthmljpccbjolgaaGreatDoor.closedZsetLong.isMain rfl
  (fun f fn hf hfn=>by
   obtain rfl:f=6:=Option.some.inj (Go.Proofs.YthmljpccbjolgaaGreatDoor.closedZsetLong.isNamed.symm.trans hf) |>.symm
   obtain rfl:fn=Tryz.f6:=(Option.some.inj (Tryz.func6.symm.trans hfn)).symm
   exact ⟨Go.Proofs.YthmljpccbjolgaaGreatDoor.closedZsetLong.noLooks,fun j t ht=>by
    rw [Tryz.params6] at ht
    have hm:t ∈ [5]:=by simpa using Array.mem_of_getElem? ht
    have hall:([5].all fun u=>!Tryz.prog.wantsStandIn u)=true:=(by have q:=Go.Proofs.YthmljpccbjolgaaGreatDoor.closedZsetLong.noStands;rw [Tryz.params6] at q;exact q)
    exact (show Tryz.prog.wantsStandIn t=false by simpa using List.all_eq_true.1 hall t hm)⟩)
  Go.Proofs.YthmljpccbjolgaaGreatDoor.closedZsetLong.goes
#print axioms card
end Go.Proofs.YthmljpccbjolgaaGreatDoor.zsetLong
