
/-
  CoverLong answers true for every zone, and how many; the listed variable reads as the program lays it.
-/
import Derived.Test.YthmljpccbjolgaaGreatDoorCoverLongW
import Derived.Test.YthmljpccbjolgaaGreatDoorCoverLongF
import Derived.Test.YthmljpccbjolgaaGreatDoorCards
import Derived.Test.YthmljpccbjolgaaGreatDoorTie
namespace Go.Proofs.YthmljpccbjolgaaGreatDoor.coverLong
open Go.Joins Go.ChangeShapes Go.WideShapes Go.ChangeAt Go.RowKit num rat dbm Go.Proofs.YthmljpccbjolgaaGreatDoor.tight Go.Proofs.YthmljpccbjolgaaGreatDoor.incl Go.Proofs.YthmljpccbjolgaaGreatDoor.plaw Go.Proofs.YthmljpccbjolgaaGreatDoor.zopen Go.Proofs.YthmljpccbjolgaaGreatDoor.zone Go.Proofs.YthmljpccbjolgaaGreatDoor.zlaw Go.Proofs.YthmljpccbjolgaaGreatDoor.win Go.Proofs.YthmljpccbjolgaaGreatDoor.minus Go.Proofs.YthmljpccbjolgaaGreatDoor.mz Go.Proofs.YthmljpccbjolgaaGreatDoor.mlaw Go.Proofs.YthmljpccbjolgaaGreatDoor.cover Go.Proofs.YthmljpccbjolgaaGreatDoor.claw
open bound hiding up
set_option linter.unusedVariables false
set_option linter.unusedSimpArgs false
set_option maxRecDepth 100000 in
theorem lifted (os:Os) (started:os.Started) (H:Type) (enc:TypeId × Value→H):
  ReturnsInHanded {} Tryz.checked os 12 .any (fun w args=>(Rows.coverLongSpec.pre enc Tryz.prog Tryz.f12 [] false w args∧laidMetH Tryz.prog zopen.places w)∧sizedMet enc Tryz.prog Tryz.f12 (OpenSpec.ofChange Rows.coverLongSpec) false w args) (Rows.coverLongSpec.post enc Tryz.prog Tryz.f12 false true false false):=by
 refine returnsInHanded_of_change_and (C:=Tryz.checked) (X:=fun w _=>laidMetH Tryz.prog zopen.places w) (fun _ _ _ hh h=>h.of_heap hh) law.own started (by kernel_rfl) Tryz.func12
  (ChangeSpec.witness_shaped (enc:=enc) (C:=Tryz.checked) (os:=os) (X:=fun w _=>laidMetH Tryz.prog zopen.places w) false (World.doorLaid Tryz.prog 400 os) #[.agg #[.int .i64 0,.int .i64 0,.int .i64 0,.int .i64 0,.int .i64 0,.int .i64 0],.int .u8 0] 8 rfl (World.shaped_of_RefB (by kernel_rfl) (by kernel_rfl)) (by kernel_rfl) (by kernel_rfl) (by kernel_rfl) (zopen.door_met os _)) ?_
 intro W base args ds gs before hval0 hW _ _ hL _
 have hval:∀ (j:Nat) t v,Tryz.f12.params[j]?=some t→args[j]?=some v→Value.okWide Tryz.prog W .any base t v:=hval0
 have hW':=hW
 obtain ⟨p,q,hA0,hV,rfl,_,_⟩:=hW
 have hA:DataW.TrodAll enc Tryz.prog W 0 (fun _=>true) true Tryz.f12.params.toList args.toList ds p:=hA0
 rw [Tryz.params12] at hA hval
 obtain ⟨v0,vs0,d0,ds0,p0,q0,hargs,rfl,rfl,h0,r0⟩:=trodAll_cons hA
 obtain ⟨v1,vs1,d1,ds1,p1,q1,rfl,rfl,rfl,h1,r1⟩:=trodAll_cons r0
 obtain ⟨rfl,rfl,rfl⟩:=trodAll_nil r1
 obtain rfl:args=#[v0,v1]:=by cases args;simp_all
 obtain ⟨z00,z01,z02,z03,z04,z05,rfl,w0⟩:=zopen.open_zone (hval 0 27 v0 rfl rfl) h0
 obtain ⟨m1,rfl,rfl,rfl,x1⟩:=open_int Tryz.underlying5 (hval 1 5 v1 rfl rfl) h1
 refine (walk z00 z01 z02 z03 z04 z05 m1 W (fun x hx=>⟨law.wf_lo (w0 x hx),law.wf_hi (w0 x hx)⟩) (bounds_u8 x1) (zopen.laid_pl hL)).mono fun e W' ⟨he,hB⟩=>?_
 subst he
 exact ⟨_,rfl,law.post_true law.laidOut (by kernel_rfl) rfl Tryz.underlying4 rfl hW' (fun h=>by subst h;rfl) hB⟩
theorem proved:Rows.CoverLongSaid:=
 OpenClaim.holds_of_wide 12 Tryz.f12 rfl rfl rfl rfl rfl rfl rfl ⟨rfl,rfl,rfl,rfl,rfl⟩ rfl rfl rfl rfl rfl (by kernel_rfl) Tryz.func12 Go.Proofs.YthmljpccbjolgaaGreatDoor.closedCoverLong.closed
  (of_decide_eq_true (by kernel_rfl)) (by unfold Func.isWrapper;first | (rw [if_pos (by decide+kernel)];kernel_rfl) | (rw [if_neg (by decide+kernel)];exact ⟨rfl,rfl⟩))
  (fun os started H enc _=>lifted os started H enc)
theorem card:Rows.CoverLongCardSaid:=
 Claim7.holds_tied_plain_at .later [] [.data] true (true, "dedfc36a848b7b0b3590d744953335447f29621c2f89cc141b977538f7b15672") false
  proved (fun _ h=>by cases h) Go.Proofs.YthmljpccbjolgaaGreatDoor.closedCoverLong.wfText (fun _ h=>by cases h) coverLong_row_tie rfl ⟨rfl,rfl⟩ Go.Proofs.YthmljpccbjolgaaGreatDoor.closedCoverLong.isMain rfl
  (fun f fn hf hfn=>by
   obtain rfl:f=12:=Option.some.inj (Go.Proofs.YthmljpccbjolgaaGreatDoor.closedCoverLong.isNamed.symm.trans hf) |>.symm
   obtain rfl:fn=Tryz.f12:=(Option.some.inj (Tryz.func12.symm.trans hfn)).symm
   exact ⟨Go.Proofs.YthmljpccbjolgaaGreatDoor.closedCoverLong.noLooks,fun j t ht=>by
    rw [Tryz.params12] at ht
    have hm:t ∈ [27,5]:=by simpa using Array.mem_of_getElem? ht
    have hall:([27,5].all fun u=>!Tryz.prog.wantsStandIn u)=true:=(by have q:=Go.Proofs.YthmljpccbjolgaaGreatDoor.closedCoverLong.noStands;rw [Tryz.params12] at q;exact q)
    exact (show Tryz.prog.wantsStandIn t=false by simpa using List.all_eq_true.1 hall t hm)⟩)
  Go.Proofs.YthmljpccbjolgaaGreatDoor.closedCoverLong.goes
#print axioms card
end Go.Proofs.YthmljpccbjolgaaGreatDoor.coverLong
