
/-
  CoverTells answers true for every zone, and two lists of zones; the listed variable reads as the program lays it.
-/
import Derived.Test.YthmljpccbjolgaaGreatDoorCoverTellsW
import Derived.Test.YthmljpccbjolgaaGreatDoorCoverTellsF
import Derived.Test.YthmljpccbjolgaaGreatDoorCards
import Derived.Test.YthmljpccbjolgaaGreatDoorTie
namespace Go.Proofs.YthmljpccbjolgaaGreatDoor.coverTells
open Go.Joins Go.ChangeShapes Go.WideShapes Go.ChangeAt Go.RowKit num rat dbm Go.Proofs.YthmljpccbjolgaaGreatDoor.tight Go.Proofs.YthmljpccbjolgaaGreatDoor.incl Go.Proofs.YthmljpccbjolgaaGreatDoor.plaw Go.Proofs.YthmljpccbjolgaaGreatDoor.zopen Go.Proofs.YthmljpccbjolgaaGreatDoor.zone Go.Proofs.YthmljpccbjolgaaGreatDoor.zlaw Go.Proofs.YthmljpccbjolgaaGreatDoor.win Go.Proofs.YthmljpccbjolgaaGreatDoor.minus Go.Proofs.YthmljpccbjolgaaGreatDoor.mz Go.Proofs.YthmljpccbjolgaaGreatDoor.mlaw Go.Proofs.YthmljpccbjolgaaGreatDoor.cover Go.Proofs.YthmljpccbjolgaaGreatDoor.claw dref mref cref
open bound hiding up
set_option linter.unusedVariables false
set_option linter.unusedSimpArgs false
set_option maxRecDepth 100000 in
theorem lifted (os:Os) (started:os.Started) (H:Type) (enc:TypeId × Value→H):
  ReturnsInHanded {} Tryz.checked os 11 .any (fun w args=>(Rows.coverTellsSpec.pre enc Tryz.prog Tryz.f11 [] false w args∧laidMetH Tryz.prog zopen.places w)∧sizedMet enc Tryz.prog Tryz.f11 (OpenSpec.ofChange Rows.coverTellsSpec) false w args) (Rows.coverTellsSpec.post enc Tryz.prog Tryz.f11 false true false false):=by
 refine returnsInHanded_of_change_and (C:=Tryz.checked) (X:=fun w _=>laidMetH Tryz.prog zopen.places w) (fun _ _ _ hh h=>h.of_heap hh) law.own started (by kernel_rfl) Tryz.func11
  (ChangeSpec.witness_shaped (enc:=enc) (C:=Tryz.checked) (os:=os) (X:=fun w _=>laidMetH Tryz.prog zopen.places w) false (World.doorLaid Tryz.prog 400 os) #[.agg #[.int .i64 0,.int .i64 0,.int .i64 0,.int .i64 0,.int .i64 0,.int .i64 0],.slice none 0 0,.slice none 0 0] 8 rfl (World.shaped_of_RefB (by kernel_rfl) (by kernel_rfl)) (by kernel_rfl) (by kernel_rfl) (by kernel_rfl) (zopen.door_met os _)) ?_
 intro W base args ds gs before hval0 hW _ _ hL _
 have hval:∀ (j:Nat) t v,Tryz.f11.params[j]?=some t→args[j]?=some v→Value.okWide Tryz.prog W .any base t v:=hval0
 have hW':=hW
 obtain ⟨p,q,hA0,hV,rfl,_,_⟩:=hW
 have hA:DataW.TrodAll enc Tryz.prog W 0 (fun _=>true) true Tryz.f11.params.toList args.toList ds p:=hA0
 rw [Tryz.params11] at hA hval
 obtain ⟨v0,vs0,d0,ds0,p0,q0,hargs,rfl,rfl,h0,r0⟩:=trodAll_cons hA
 obtain ⟨v1,vs1,d1,ds1,p1,q1,rfl,rfl,rfl,h1,r1⟩:=trodAll_cons r0
 obtain ⟨v2,vs2,d2,ds2,p2,q2,rfl,rfl,rfl,h2,r2⟩:=trodAll_cons r1
 obtain ⟨rfl,rfl,rfl⟩:=trodAll_nil r2
 obtain rfl:args=#[v0,v1,v2]:=by cases args;simp_all
 obtain ⟨z00,z01,z02,z03,z04,z05,rfl,w0⟩:=zopen.open_zone (hval 0 27 v0 rfl rfl) h0
 obtain ⟨l1,x1,hI1,m1,c1⟩:=mz.open_zones (hval 1 29 v1 rfl rfl) h1
 obtain ⟨l2,x2,hI2,m2,c2⟩:=mz.open_zones (hval 2 29 v2 rfl rfl) h2
 refine (walk z00 z01 z02 z03 z04 z05 v1 l1 v2 l2 W (fun x hx=>⟨law.wf_lo (w0 x hx),law.wf_hi (w0 x hx)⟩) x1 hI1 m1 c1 x2 hI2 m2 c2 (zopen.laid_pl hL)).mono fun e W' ⟨he,hB⟩=>?_
 subst he
 exact ⟨_,rfl,law.post_true law.laidOut (by kernel_rfl) rfl Tryz.underlying4 rfl hW' (fun h=>by subst h;rfl) hB⟩
theorem proved:Rows.CoverTellsSaid:=
 OpenClaim.holds_of_wide 11 Tryz.f11 rfl rfl rfl rfl rfl rfl rfl ⟨rfl,rfl,rfl,rfl,rfl⟩ rfl rfl rfl rfl rfl (by kernel_rfl) Tryz.func11 Go.Proofs.YthmljpccbjolgaaGreatDoor.closedCoverTells.closed
  (of_decide_eq_true (by kernel_rfl)) (by unfold Func.isWrapper;first | (rw [if_pos (by decide+kernel)];kernel_rfl) | (rw [if_neg (by decide+kernel)];exact ⟨rfl,rfl⟩))
  (fun os started H enc _=>lifted os started H enc)
theorem card:Rows.CoverTellsCardSaid:=
 Claim7.holds_tied_plain_at .later [] [.data] true (true, "dedfc36a848b7b0b3590d744953335447f29621c2f89cc141b977538f7b15672") false
  proved (fun _ h=>by cases h) Go.Proofs.YthmljpccbjolgaaGreatDoor.closedCoverTells.wfText (fun _ h=>by cases h) coverTells_row_tie rfl ⟨rfl,rfl⟩ Go.Proofs.YthmljpccbjolgaaGreatDoor.closedCoverTells.isMain rfl
  (fun f fn hf hfn=>by
   obtain rfl:f=11:=Option.some.inj (Go.Proofs.YthmljpccbjolgaaGreatDoor.closedCoverTells.isNamed.symm.trans hf) |>.symm
   obtain rfl:fn=Tryz.f11:=(Option.some.inj (Tryz.func11.symm.trans hfn)).symm
   exact ⟨Go.Proofs.YthmljpccbjolgaaGreatDoor.closedCoverTells.noLooks,fun j t ht=>by
    rw [Tryz.params11] at ht
    have hm:t ∈ [27,29,29]:=by simpa using Array.mem_of_getElem? ht
    have hall:([27,29,29].all fun u=>!Tryz.prog.wantsStandIn u)=true:=(by have q:=Go.Proofs.YthmljpccbjolgaaGreatDoor.closedCoverTells.noStands;rw [Tryz.params11] at q;exact q)
    exact (show Tryz.prog.wantsStandIn t=false by simpa using List.all_eq_true.1 hall t hm)⟩)
  Go.Proofs.YthmljpccbjolgaaGreatDoor.closedCoverTells.goes
#print axioms card
end Go.Proofs.YthmljpccbjolgaaGreatDoor.coverTells
