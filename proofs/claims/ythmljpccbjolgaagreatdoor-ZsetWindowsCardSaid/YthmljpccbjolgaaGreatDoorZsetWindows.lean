
/-
  ZsetWindows answers true for every set, span and three numbers; the listed variables read as the program lays them.
-/
import Derived.Test.YthmljpccbjolgaaGreatDoorZsetWindowsW
import Derived.Test.YthmljpccbjolgaaGreatDoorZsetWindowsF
import Derived.Test.YthmljpccbjolgaaGreatDoorCards
import Derived.Test.YthmljpccbjolgaaGreatDoorTie
namespace Go.Proofs.YthmljpccbjolgaaGreatDoor.zsetWindows
open Go.Joins Go.ChangeShapes Go.WideShapes Go.ChangeAt Go.RowKit num rat dbm Go.Proofs.YthmljpccbjolgaaGreatDoor.tight Go.Proofs.YthmljpccbjolgaaGreatDoor.incl Go.Proofs.YthmljpccbjolgaaGreatDoor.plaw Go.Proofs.YthmljpccbjolgaaGreatDoor.zopen Go.Proofs.YthmljpccbjolgaaGreatDoor.zone Go.Proofs.YthmljpccbjolgaaGreatDoor.zlaw Go.Proofs.YthmljpccbjolgaaGreatDoor.comp Go.Proofs.YthmljpccbjolgaaGreatDoor.win Go.Proofs.YthmljpccbjolgaaGreatDoor.minus Go.Proofs.YthmljpccbjolgaaGreatDoor.mz Go.Proofs.YthmljpccbjolgaaGreatDoor.mlaw Go.Proofs.YthmljpccbjolgaaGreatDoor.cover Go.Proofs.YthmljpccbjolgaaGreatDoor.claw Go.Proofs.YthmljpccbjolgaaGreatDoor.zset Go.Proofs.YthmljpccbjolgaaGreatDoor.slaw
open bound hiding up
set_option linter.unusedVariables false
set_option linter.unusedSimpArgs false
set_option maxRecDepth 100000 in
theorem lifted (os:Os) (started:os.Started) (H:Type) (enc:TypeId × Value→H):
  ReturnsInHanded {} Tryz.checked os 10 .any (fun w args=>(Rows.zsetWindowsSpec.pre enc Tryz.prog Tryz.f10 [] false w args∧laidMetH Tryz.prog slaw.both w)∧sizedMet enc Tryz.prog Tryz.f10 (OpenSpec.ofChange Rows.zsetWindowsSpec) false w args) (Rows.zsetWindowsSpec.post enc Tryz.prog Tryz.f10 false true false false):=by
 refine returnsInHanded_of_change_and (C:=Tryz.checked) (X:=fun w _=>laidMetH Tryz.prog slaw.both w) (fun _ _ _ hh h=>h.of_heap hh) law.own started (by kernel_rfl) Tryz.func10
  (ChangeSpec.witness_shaped (enc:=enc) (C:=Tryz.checked) (os:=os) (X:=fun w _=>laidMetH Tryz.prog slaw.both w) false (World.doorLaid Tryz.prog 400 os) #[.slice none 0 0,.agg #[.int .i64 0,.bool false,.int .i64 0,.bool false,.bool false],.int .i64 0,.int .i64 0,.int .i64 0] 8 rfl (World.shaped_of_RefB (by kernel_rfl) (by kernel_rfl)) (by kernel_rfl) (by kernel_rfl) (by kernel_rfl) (slaw.door_both os _)) ?_
 intro W base args ds gs before hval0 hW _ _ hL _
 have hval:∀ (j:Nat) t v,Tryz.f10.params[j]?=some t→args[j]?=some v→Value.okWide Tryz.prog W .any base t v:=hval0
 have hW':=hW
 obtain ⟨p,q,hA0,hV,rfl,_,_⟩:=hW
 have hA:DataW.TrodAll enc Tryz.prog W 0 (fun _=>true) true Tryz.f10.params.toList args.toList ds p:=hA0
 rw [Tryz.params10] at hA hval
 obtain ⟨v0,vs0,d0,ds0,p0,q0,hargs,rfl,rfl,h0,r0⟩:=trodAll_cons hA
 obtain ⟨v1,vs1,d1,ds1,p1,q1,rfl,rfl,rfl,h1,r1⟩:=trodAll_cons r0
 obtain ⟨v2,vs2,d2,ds2,p2,q2,rfl,rfl,rfl,h2,r2⟩:=trodAll_cons r1
 obtain ⟨v3,vs3,d3,ds3,p3,q3,rfl,rfl,rfl,h3,r3⟩:=trodAll_cons r2
 obtain ⟨v4,vs4,d4,ds4,p4,q4,rfl,rfl,rfl,h4,r4⟩:=trodAll_cons r3
 obtain ⟨rfl,rfl,rfl⟩:=trodAll_nil r4
 obtain rfl:args=#[v0,v1,v2,v3,v4]:=by cases args;simp_all
 obtain ⟨l0,x0,hI0,m0,c0⟩:=mz.open_zones (hval 0 29 v0 rfl rfl) h0
 obtain ⟨lo1,ls1,hi1,hs1,op1,rfl⟩:=tlaw.open_span (hval 1 35 v1 rfl rfl) h1
 obtain ⟨m2,rfl,rfl,rfl,x2⟩:=open_int Tryz.underlying3 (hval 2 3 v2 rfl rfl) h2
 obtain ⟨m3,rfl,rfl,rfl,x3⟩:=open_int Tryz.underlying3 (hval 3 3 v3 rfl rfl) h3
 obtain ⟨m4,rfl,rfl,rfl,x4⟩:=open_int Tryz.underlying3 (hval 4 3 v4 rfl rfl) h4
 refine (walk v0 l0 lo1 ls1 hi1 hs1 op1 m2 m3 m4 W ⟨law.wf_lo x2,law.wf_hi x2⟩ ⟨law.wf_lo x3,law.wf_hi x3⟩ ⟨law.wf_lo x4,law.wf_hi x4⟩ x0 hI0 m0 c0 (slaw.laid_two hL).1 (slaw.laid_two hL).2).mono fun e W' ⟨he,hB⟩=>?_
 subst he
 exact ⟨_,rfl,law.post_true law.laidOut (by kernel_rfl) rfl Tryz.underlying4 rfl hW' (fun h=>by subst h;rfl) hB⟩
theorem proved:Rows.ZsetWindowsSaid:=
 OpenClaim.holds_of_wide 10 Tryz.f10 rfl rfl rfl rfl rfl rfl rfl ⟨rfl,rfl,rfl,rfl,rfl⟩ rfl rfl rfl rfl rfl (by kernel_rfl) Tryz.func10 Go.Proofs.YthmljpccbjolgaaGreatDoor.closedZsetWindows.closed
  (of_decide_eq_true (by kernel_rfl)) (by unfold Func.isWrapper;first | (rw [if_pos (by decide+kernel)];kernel_rfl) | (rw [if_neg (by decide+kernel)];exact ⟨rfl,rfl⟩))
  (fun os started H enc _=>lifted os started H enc)
theorem card:Rows.ZsetWindowsCardSaid:=
 Claim7.holds_tied_plain_at .later [] [.data,.data] true (true, "dedfc36a848b7b0b3590d744953335447f29621c2f89cc141b977538f7b15672") false
  proved (fun _ h=>by cases h) Go.Proofs.YthmljpccbjolgaaGreatDoor.closedZsetWindows.wfText (fun _ h=>by cases h) zsetWindows_row_tie rfl ⟨rfl,rfl⟩ Go.Proofs.YthmljpccbjolgaaGreatDoor.closedZsetWindows.isMain rfl
  (fun f fn hf hfn=>by
   obtain rfl:f=10:=Option.some.inj (Go.Proofs.YthmljpccbjolgaaGreatDoor.closedZsetWindows.isNamed.symm.trans hf) |>.symm
   obtain rfl:fn=Tryz.f10:=(Option.some.inj (Tryz.func10.symm.trans hfn)).symm
   exact ⟨Go.Proofs.YthmljpccbjolgaaGreatDoor.closedZsetWindows.noLooks,fun j t ht=>by
    rw [Tryz.params10] at ht
    have hm:t ∈ [29,35,3,3,3]:=by simpa using Array.mem_of_getElem? ht
    have hall:([29,35,3,3,3].all fun u=>!Tryz.prog.wantsStandIn u)=true:=(by have q:=Go.Proofs.YthmljpccbjolgaaGreatDoor.closedZsetWindows.noStands;rw [Tryz.params10] at q;exact q)
    exact (show Tryz.prog.wantsStandIn t=false by simpa using List.all_eq_true.1 hall t hm)⟩)
  Go.Proofs.YthmljpccbjolgaaGreatDoor.closedZsetWindows.goes
#print axioms card
end Go.Proofs.YthmljpccbjolgaaGreatDoor.zsetWindows
