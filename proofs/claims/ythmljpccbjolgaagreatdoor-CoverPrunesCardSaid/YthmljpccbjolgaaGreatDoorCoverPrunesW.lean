
/-
  CoverPrunes answers true (the walk) for every zones, and point; the listed variable reads as the program lays it.
-/
import Derived.Test.YthmljpccbjolgaaGreatDoorCoverL
import Derived.Test.YthmljpccbjolgaaGreatDoorCoverV
import Derived.BigQuiet
namespace Go.Proofs.YthmljpccbjolgaaGreatDoor.coverPrunes
open Go.Joins Go.ChangeShapes Go.WideShapes Go.ChangeAt Go.RowKit num rat dbm Go.Proofs.YthmljpccbjolgaaGreatDoor.tight Go.Proofs.YthmljpccbjolgaaGreatDoor.incl Go.Proofs.YthmljpccbjolgaaGreatDoor.plaw Go.Proofs.YthmljpccbjolgaaGreatDoor.zopen Go.Proofs.YthmljpccbjolgaaGreatDoor.zone Go.Proofs.YthmljpccbjolgaaGreatDoor.zlaw Go.Proofs.YthmljpccbjolgaaGreatDoor.win Go.Proofs.YthmljpccbjolgaaGreatDoor.minus Go.Proofs.YthmljpccbjolgaaGreatDoor.mz Go.Proofs.YthmljpccbjolgaaGreatDoor.mlaw Go.Proofs.YthmljpccbjolgaaGreatDoor.cover Go.Proofs.YthmljpccbjolgaaGreatDoor.claw dref
open bound hiding up
set_option linter.unusedVariables false
set_option linter.unusedSimpArgs false
theorem own_room {W:World} {base n c s:Nat} {t:TypeId} {a:Option Addr} {xs:List Value} (h:W.ownsRow base t s (.slice a n c) n xs):n≤c:=by
 have h':=h
 rcases h.2 with ⟨_,h0⟩ | ⟨g,cap,cur,e,_⟩
 ·omega
 ·injection e with e1 e2 e3
  subst e1
  exact incl.own_cap h'
theorem amo_eq {l r:List (List Int)} {pa pb pc pd:Int} {a b one two:Bool} (zr:∀ x,x ∈ r→Zo x) (hp:∀ p,MayQ p→((∃ b,b ∈ l∧hasP b p=true)↔∃ b,b ∈ r∧hasP b p=true)) (h:AmoR l pa pb pc pd a one) (k:AmoR r pa pb pc pd b two):one=false∨(one=true∧two=false)∨(one=true∧two=true∧b=a):=by
 cases one with
 | false=>exact .inl rfl
 | true=>
  cases two with
  | false=>exact .inr (.inl ⟨rfl,rfl⟩)
  | true=>
   refine .inr (.inr ⟨rfl,rfl,?_⟩)
   obtain ⟨h1,h2⟩:=h.1 rfl
   obtain ⟨k1,k2⟩:=k.1 rfl
   rw [h1,k1]
   rcases h2 with e | ⟨m1,m2⟩
   ·subst e
    match r,zr,hp with
    | [],_,_=>rfl
    | z::r,zr,hp=>
     obtain ⟨p,m,q⟩:=zo_point (zr z List.mem_cons_self)
     obtain ⟨c,hc,_⟩:=(hp p m).2 ⟨z,List.mem_cons_self,q⟩
     cases hc
   ·exact (cnt_iff (p:=(pa,pb,pc,pd)) (hp (pa,pb,pc,pd) ⟨m1,m2⟩)).symm
theorem srt_step {r:List (List Int)} {k:Nat} (h:Srt r) (hk:k<r.length) (h0:0<k):cmpL (zat r (k - 1)) (zat r k)<0:=by
 have:=List.pairwise_iff_getElem.1 h (k - 1) k (by omega) hk (by omega)
 unfold zat
 rw [List.getElem?_eq_getElem (by omega:k - 1<r.length),List.getElem?_eq_getElem hk]
 exact this
set_option maxRecDepth 100000 in
set_option maxHeartbeats 32000000 in
theorem walk (v:Value) (l:List (List Int)) (pa pb pc pd:Int) (w:World) (hp:∀ x ∈ [pa,pb,pc,pd],-9223372036854775808≤x∧x≤9223372036854775807) (hwf:Wf6 l) (hI:Zs w.heap.size w v l) (hm:l.length≤maxLen) (hc:∀ a l c,v=.slice a l c→l≤c) (hP:Pl w):Calls Tryz.prog 13 #[v,.agg #[.int .i64 pa,.int .i64 pb,.int .i64 pc,.int .i64 pd]] w fun e w'=>e=.returned (.bool true)∧Below w.heap.size w w':=by
 obtain ⟨ao,cap,rfl⟩:=zs_len hI
 have HF:=Lib.hid (show zone.Fit [pa,pb,pc,pd] from hp)
 have H6:=Lib.hid (show Six l from fun z hz=>⟨(hwf z hz).1,hwf.tops hz⟩)
 have X:∃ w0,w0=w.alloc (.cells #[.int .i64 pa,.int .i64 pb,.int .i64 pc,.int .i64 pd] 47):=⟨_,rfl⟩
 obtain ⟨w0,hX⟩:=X
 have DB:Below w.heap.size w w0:=by rw [hX];exact bound.up1 w _
 have D0:lies.Lies w0 (w.heap.size) 47 #[.int .i64 pa,.int .i64 pb,.int .i64 pc,.int .i64 pd]:=by rw [hX];exact lies.made _ _ _
 have P0:=hP.on DB
 have HI:=Lib.hid ((hI.below DB).mono DB.size)
 clear hP hp hwf hI hc hm
 go_enter Tryz.func13,Tryz.ntmps13
 go_wp2_with fail
 rw [←hX]
 clear hX
 refine (claw.alive_yes w0 P0).mono ?_
 rintro e w1 ⟨rfl,hB⟩
 replace D0:=lies.on_call D0 hB
 replace HI:=Lib.hid ((HI.out.below hB).mono hB.size)
 replace P0:=P0.on hB
 replace DB:=later DB hB
 clear hB
 by_cases h5:l.length≤6
 ·skip
  have h5i:¬ (6:Int)<(l.length:Int):=by omega
  have h5m:l.length≤1000000:=by omega
  have H5:=Lib.hid h5
  go_wp2_with fail
  clear h5i h5
  refine (cover.prune_any ao l.length cap l w1 P0 HI.out H6.out rfl h5m).mono ?_
  rintro e w2 ⟨hB,v,r,f,rfl,hR,hO⟩
  have hZ:=zs_own hO
  obtain ⟨p1,q1,rfl⟩:=zs_len hZ
  have hroom:=own_room hO
  obtain ⟨n,hn⟩:∃ n,n=r.length:=⟨_,rfl⟩
  rw [←hn] at hZ hroom ⊢
  have HN:=Lib.hid hn
  clear hn
  have HV:=Lib.hid hZ
  have HR:=Lib.hid hR
  clear hO hR hZ
  replace D0:=lies.on_call D0 hB
  replace HI:=Lib.hid ((HI.out.below hB).mono hB.size)
  replace P0:=P0.on hB
  replace DB:=later DB hB
  clear hB
  by_cases hf:f=0
  ·skip
   subst hf
   obtain ⟨zl,zr,lr,sr,ow,hq⟩:=pru_ok H6.out H5.out HR.out
   have ZL:=Lib.hid zl
   have ZR:=Lib.hid zr
   have SR:=Lib.hid sr
   have OW:=Lib.hid ow
   have HQ:=Lib.hid hq
   have hrm:n≤1000000:=by have:=HN.out;omega
   clear zl zr sr ow hq HR
   obtain ⟨⟨kD0_0,kD0_1,kD0_2,kD0_3⟩,-⟩:=four_cells D0
   have kD0_l:=lies.lt D0
   go_wp2_with fail
   clear kD0_0 kD0_1 kD0_2 kD0_3 kD0_l
   refine (among_any ao l.length cap l pa pb pc pd w2 P0 HI.out rfl h5m ZL.out HF.out).mono ?_
   rintro e w3 ⟨hB,ia,oa,rfl,hX1⟩
   have HX1:=Lib.hid hX1
   clear hX1
   replace D0:=lies.on_call D0 hB
   replace HI:=Lib.hid ((HI.out.below hB).mono hB.size)
   replace HV:=Lib.hid ((HV.out.below hB).mono hB.size)
   replace P0:=P0.on hB
   replace DB:=later DB hB
   clear hB
   obtain ⟨⟨kD0_0,kD0_1,kD0_2,kD0_3⟩,-⟩:=four_cells D0
   have kD0_l:=lies.lt D0
   go_wp2_with fail
   clear kD0_0 kD0_1 kD0_2 kD0_3 kD0_l
   refine (among_any p1 n q1 r pa pb pc pd w3 P0 HV.out HN.out.symm hrm ZR.out HF.out).mono ?_
   rintro e w4 ⟨hB,ib,ob,rfl,hX2⟩
   have hcase:=amo_eq ZR.out HQ.out HX1.out hX2
   clear hX2 HX1
   replace D0:=lies.on_call D0 hB
   replace HI:=Lib.hid ((HI.out.below hB).mono hB.size)
   replace HV:=Lib.hid ((HV.out.below hB).mono hB.size)
   replace P0:=P0.on hB
   replace DB:=later DB hB
   clear hB
   clear D0
   rcases hcase with rfl | ⟨rfl,rfl⟩ | ⟨rfl,rfl,rfl⟩
   all_goals
    go_wp2_with fail
    go_loopw [12] (fun i wr=>∃ k:Nat,k≤n∧i=.int .i64 k∧Below w4.heap.size w4 wr∧Below w.heap.size w wr∧Pl wr) (fun i _=>n - (intOf i).toNat)
    case atStart=>exact ⟨0,Nat.zero_le _,rfl,Below.refl _ _,DB,P0⟩
    case round=>
     clear DB P0
     obtain ⟨k,hk,rfl,hBl,DB,P0⟩:=hrel
     by_cases hkn:k<n
     ·skip
      have hkm:=hkn
      replace hkn:k<r.length:=by have:=HN.out;omega
      have hkn2:(k:Int)<(n:Int):=by omega
      have hzk:=ZR.out _ (zat_mem hkn)
      obtain ⟨bq,off,x0,x1,x2,x3,x4,x5,rfl,hb,ez⟩:=zs_six HV.out hkn hzk.2.2
      have hbr:bq<wr.heap.size:=Nat.lt_of_lt_of_le hb hBl.size
      have HVR:=Lib.hid ((HV.out.below hBl).mono hBl.size)
      have HEZ:=Lib.hid ez
      have HKN:=Lib.hid hkn
      have HB:=Lib.hid hb
      clear hzk ez hb
      by_cases h0:k=0
      ·skip
       have h0i:¬ (0:Int)<(k:Int):=by omega
       have h0d:decide ((0:Int)<(k:Int))=false:=decide_eq_false h0i
       have h0n:¬ 0<k:=by omega
       have h0e:decide (0<k)=false:=decide_eq_false h0n
       clear h0
       go_wp2_with fail
       refine wp_region_held_drew (S:=Below wr.heap.size wr) (by kernel_rfl) (dbm.drawn1 (Below.refl _ _)) (fun hHeld=>?_)
       refine tk 0 (v:=?_) rfl hHeld ?_ ?_
       rotate_left
       ·intro w hSw;skip;go_simp;try with_reducible rfl
       try simp only [Act.put,sA,sB,sC,sD,sE,sF]
       refine tk 1 (v:=?_) rfl hHeld ?_ ?_
       rotate_left
       ·intro w hSw;skip;go_simp;try with_reducible rfl
       try simp only [Act.put,sA,sB,sC,sD,sE,sF]
       refine tk 2 (v:=?_) rfl hHeld ?_ ?_
       rotate_left
       ·intro w hSw;skip;go_simp;try with_reducible rfl
       try simp only [Act.put,sA,sB,sC,sD,sE,sF]
       refine wpAnyH_take (i:=3) (v:=undef) rfl (by kernel_rfl) (by kernel_rfl) (by kernel_rfl) (fun _ _ _ h=>h) (Or.inr ⟨by rfl,rfl⟩) hHeld ?_
       try simp only [Act.put,sA,sB,sC,sD,sE,sF]
       refine wpAnyH_take (i:=4) (v:=undef) rfl (by kernel_rfl) (by kernel_rfl) (by kernel_rfl) (fun _ _ _ h=>h) (Or.inr ⟨by rfl,rfl⟩) hHeld ?_
       try simp only [Act.put,sA,sB,sC,sD,sE,sF]
       refine wpAnyH_take (i:=5) (v:=undef) rfl (by kernel_rfl) (by kernel_rfl) (by kernel_rfl) (fun _ _ _ h=>h) (Or.inr ⟨by rfl,rfl⟩) hHeld ?_
       try simp only [Act.put,sA,sB,sC,sD,sE,sF]
       refine wpAnyH_take (i:=6) (v:=undef) rfl (by kernel_rfl) (by kernel_rfl) (by kernel_rfl) (fun _ _ _ h=>h) (Or.inr ⟨by rfl,rfl⟩) hHeld ?_
       try simp only [Act.put,sA,sB,sC,sD,sE,sF]
       refine wpAnyH_take (i:=7) (v:=undef) rfl (by kernel_rfl) (by kernel_rfl) (by kernel_rfl) (fun _ _ _ h=>h) (Or.inr ⟨by rfl,rfl⟩) hHeld ?_
       try simp only [Act.put,sA,sB,sC,sD,sE,sF]
       refine wpAnyH_take (i:=8) (v:=undef) rfl (by kernel_rfl) (by kernel_rfl) (by kernel_rfl) (fun _ _ _ h=>h) (Or.inr ⟨by rfl,rfl⟩) hHeld ?_
       try simp only [Act.put,sA,sB,sC,sD,sE,sF]
       refine wpAnyH_take (i:=9) (v:=undef) rfl (by kernel_rfl) (by kernel_rfl) (by kernel_rfl) (fun _ _ _ h=>h) (Or.inr ⟨by rfl,rfl⟩) hHeld ?_
       try simp only [Act.put,sA,sB,sC,sD,sE,sF]
       refine wpAnyH_take (i:=10) (v:=undef) rfl (by kernel_rfl) (by kernel_rfl) (by kernel_rfl) (fun _ _ _ h=>h) (Or.inr ⟨by rfl,rfl⟩) hHeld ?_
       try simp only [Act.put,sA,sB,sC,sD,sE,sF]
       refine wpAnyH_take (i:=11) (v:=undef) rfl (by kernel_rfl) (by kernel_rfl) (by kernel_rfl) (fun _ _ _ h=>h) (Or.inr ⟨by rfl,rfl⟩) hHeld ?_
       try simp only [Act.put,sA,sB,sC,sD,sE,sF]
       refine wpAnyH_take (i:=12) (v:=undef) rfl (by kernel_rfl) (by kernel_rfl) (by kernel_rfl) (fun _ _ _ h=>h) (Or.inr ⟨by rfl,rfl⟩) hHeld ?_
       try simp only [Act.put,sA,sB,sC,sD,sE,sF]
       refine wpAnyH_take (i:=13) (v:=undef) rfl (by kernel_rfl) (by kernel_rfl) (by kernel_rfl) (fun _ _ _ h=>h) (Or.inr ⟨by rfl,rfl⟩) hHeld ?_
       try simp only [Act.put,sA,sB,sC,sD,sE,sF]
       refine tk 14 (v:=?_) rfl hHeld ?_ ?_
       rotate_left
       ·intro w hSw;skip;go_simp;try with_reducible rfl
       try simp only [Act.put,sA,sB,sC,sD,sE,sF]
       refine wpAnyH_done (by kernel_rfl) ?_ _
       replace hBl:=hBl.trans (hHeld.mono hBl.size)
       replace DB:=later DB hHeld
       replace P0:=P0.on hHeld
       replace HVR:=Lib.hid (HVR.out.on hHeld)
       generalize wr.drew=wg at hBl DB P0 HVR ⊢
       clear hHeld
       clear h0i h0d h0n h0e
       obtain ⟨J1,hJ1⟩:∃ x,x=k+1:=⟨_,rfl⟩
       have hji:(k:Int)+1=(J1:Int):=by omega
       have hJm:J1≤n:=by omega
       have hJc:J1≤q1:=Nat.le_trans hJm hroom
       have hbd:-9223372036854775808≤(J1:Int)∧(J1:Int)≤9223372036854775807:=⟨by omega,by omega⟩
       have hf4:(0:Int)≤(J1:Int):=Int.natCast_nonneg _
       have hf5:(J1:Int)≤(n:Int):=Int.ofNat_le.2 hJm
       have hf6:(J1:Int)≤(q1:Int):=Int.ofNat_le.2 hJc
       have hf7:(k:Int)≤(q1:Int):=Int.ofNat_le.2 (by omega)
       have hf8:(0:Int)≤(k:Int):=Int.natCast_nonneg _
       have hwj:=Lib.hid (show wrap64 ((k:Int)+1)=(J1:Int) by rw [hji];exact IntWalk.wrap64_in _ hbd)
       have hwj2:=Lib.hid (show IntKind.i64.wrap ((k:Int)+1)=(J1:Int) by rw [hji];exact IntWalk.i64_in _ hbd)
       have HE:=Lib.hid (show r.eraseIdx k=r.take k++r.drop J1 by rw [hJ1];exact era_cut r k)
       have HJ1:=Lib.hid hJ1
       clear hji hbd hJ1
       by_cases hcq:J1=q1
       ·skip
        obtain rfl:J1=n:=by omega
        obtain rfl:=hcq
        have HDR:=Lib.hid (show ∀ X,Below wg.heap.size wg X→Zs wg.heap.size X (.slice (some ⟨bq,off,none⟩) 0 0) (r.drop J1) from fun X _=>zs_end (by simp) (by have:=HN.out;omega))
        replace hwj:=hwj.out
        replace hwj2:=hwj2.out
        go_wp2_with fail
        refine wp_region_held_drew (S:=Below wg.heap.size wg) (by kernel_rfl) (dbm.drawn1 (Below.refl _ _)) (fun hHeld=>?_)
        generalize hwD:wg.drew=wD at hHeld ⊢
        clear hwD
        refine tk 0 (v:=?_) rfl hHeld ?_ ?_
        rotate_left
        ·intro w hSw;skip;go_simp;try with_reducible rfl
        try simp only [Act.put,sA,sB,sC,sD,sE,sF]
        refine tk 1 (v:=?_) rfl hHeld ?_ ?_
        rotate_left
        ·intro w hSw;skip;go_simp;try with_reducible rfl
        try simp only [Act.put,sA,sB,sC,sD,sE,sF]
        refine tk 2 (v:=?_) rfl hHeld ?_ ?_
        rotate_left
        ·intro w hSw;skip;go_simp;try with_reducible rfl
        try simp only [Act.put,sA,sB,sC,sD,sE,sF]
        refine tk 4 (v:=?_) rfl hHeld ?_ ?_
        rotate_left
        ·intro w hSw;skip;go_simp;try with_reducible rfl
        try simp only [Act.put,sA,sB,sC,sD,sE,sF]
        refine tk 5 (v:=?_) rfl hHeld ?_ ?_
        rotate_left
        ·intro w hSw;skip;go_simp;try with_reducible rfl
        try simp only [Act.put,sA,sB,sC,sD,sE,sF]
        refine tk 6 (v:=?_) rfl hHeld ?_ ?_
        rotate_left
        ·intro w hSw;skip;go_simp;try with_reducible rfl
        try simp only [Act.put,sA,sB,sC,sD,sE,sF]
        refine tk 7 (v:=?_) rfl hHeld ?_ ?_
        rotate_left
        ·intro w hSw;skip;go_simp;try with_reducible rfl
        try simp only [Act.put,sA,sB,sC,sD,sE,sF]
        refine wpAnyH_ready (rs:=[3]) (by kernel_rfl) (by simp) (AllReadyH.cons rfl (fun K hK=>?_) AllReadyH.nil)
        have htk:=zs_take (cap':=J1) (by have q:=HVR.out.below hHeld;rwa [HN.out] at q) k (by have:=HN.out;omega)
        obtain ⟨va,wa,hrun,hown,hgrow,-⟩:=app_zones wg.heap.size 29 (.slice none 0 0) (.slice (some ⟨bq,off,none⟩) k J1) 0 _ [] (r.take k) wD (World.ownsRow_nil _ _ _ _) htk (by rw [List.length_take];omega) hHeld.size
        rw [Nat.zero_add,List.nil_append] at hown
        have hHp:Below wg.heap.size wg wa:=hHeld.grown hgrow hHeld.size (fun _ e=>by cases e)
        rw [if_pos (by rfl)]
        refine wp_append_run (.const (.slice none 0 0)) (.tmp 83) 29 rfl _ _ va wa rfl rfl hrun ?_
        obtain ⟨ba,ca,rfl⟩:=zs_len (zs_own hown)
        clear hrun hgrow
        refine hK.out _ _ hHp (fun hNew=>?_)
        clear hHeld hK K
        have hHeld:=hNew
        clear hNew
        try simp only [Act.put,sA,sB,sC,sD,sE,sF]
        refine wpAnyH_ready (rs:=[8]) (by kernel_rfl) (by simp) (AllReadyH.cons rfl (fun K hK=>?_) AllReadyH.nil)
        obtain ⟨vb,wb,hrun,hown2,hgrow2,-⟩:=app_zones wg.heap.size 29 (.slice ba (r.take k).length ca) (.slice (some ⟨bq,off,none⟩) 0 0) _ _ _ (r.drop J1) wa hown (HDR.out wa hHp) (by rw [List.length_take,List.length_drop];have:=HN.out;omega) hHp.size
        have hHq:Below wg.heap.size wg wb:=held_grown hHp hHp.size hown (Nat.le_refl _) hgrow2
        rw [if_pos (by rfl)]
        refine wp_append_run (.tmp 84) (.tmp 88) 29 rfl _ _ vb wb rfl rfl hrun ?_
        clear hrun
        have hown3:wb.ownsRow wg.heap.size 27 6 vb (r.eraseIdx k).length (flatZ (r.eraseIdx k)):=by
         rw [HE.out,List.length_append,flatZ_app];exact hown2
        obtain ⟨bb,cb,rfl⟩:=zs_len (zs_own hown3)
        have HO:=Lib.hid (zs_own hown3)
        clear hown hown2 hown3 hgrow2 hHp
        refine hK.out _ _ hHq (fun hNew=>?_)
        clear hHeld hK K
        have hHeld:=hNew
        clear hNew
        try simp only [Act.put,sA,sB,sC,sD,sE,sF]
        refine tk 9 (v:=?_) rfl hHeld ?_ ?_
        rotate_left
        ·intro w hSw;skip;go_simp;try with_reducible rfl
        try simp only [Act.put,sA,sB,sC,sD,sE,sF]
        refine wpAnyH_done (by kernel_rfl) ?_ _
        replace hBl:=hBl.trans (hHq.mono hBl.size)
        replace DB:=later DB hHq
        replace P0:=P0.on hHq
        replace HVR:=Lib.hid (HVR.out.on hHq)
        have hle:(r.eraseIdx k).length≤1000000:=Nat.le_trans (List.length_eraseIdx_le _ _) (by have:=HN.out;omega)
        have hbw:bq<wb.heap.size:=Nat.lt_of_lt_of_le HB.out hBl.size
        obtain ⟨c0,c1,c2,c3,c4,c5⟩:=zs_cells HVR.out HKN.out HEZ.out
        have hkn:=HKN.out
        clear hHq
        go_wp2_with fail
        clear c0 c1 c2 c3 c4 c5
        have hzk:=ZR.out _ (zat_mem HKN.out)
        rw [HEZ.out] at hzk
        refine (cover.in_any x0 x1 x2 x3 x4 x5 bb (r.eraseIdx k).length cb (r.eraseIdx k) wb P0 hzk.2.1 HO.out (six_sub (zos_six ZR.out) (era_sub r k)) rfl hle).mono ?_
        rintro e wc ⟨hB,ii,fi,rfl,hR⟩
        have hii:fi≠0∨ii=false:=in_not HKN.out lr ZR.out SR.out OW.out (by rw [HEZ.out];exact hR)
        replace hBl:=hBl.trans (hB.mono hBl.size)
        replace DB:=later DB hB
        replace P0:=P0.on hB
        clear hB hR HO HVR hzk
        by_cases hfi:fi=0
        ·subst hfi
         obtain rfl:ii=false:=hii.resolve_left (fun n=>n rfl)
         clear hii
         go_wp2_with fail
         go_roundw
         case rel=>exact ⟨J1,(by first | exact hJm | exact Nat.le_refl _),(by first | rfl | (have:=HJ1.out;rw [this];go_num)),hBl,DB,P0⟩
         case measure=>have:=HJ1.out;simp [intOf];omega
        ·have hbi:(fi==0)=false:=by simpa using hfi
         have hni:(fi !=0)=true:=by simpa using hfi
         clear hfi hii
         go_wp2_with fail
         go_roundw
         case rel=>exact ⟨J1,(by first | exact hJm | exact Nat.le_refl _),(by first | rfl | (have:=HJ1.out;rw [this];go_num)),hBl,DB,P0⟩
         case measure=>have:=HJ1.out;simp [intOf];omega
       ·skip
        have hcq2:¬ q1=J1:=fun e=>hcq e.symm
        have HDR:=Lib.hid (show ∀ X,Below wg.heap.size wg X→Zs wg.heap.size X (.slice (some ⟨bq,off+J1*6,none⟩) (n - J1) (q1 - J1)) (r.drop J1) from fun X h=>by
         have q:=zs_drop (cap':=q1 - J1) (by have q:=HVR.out.below h;rwa [HN.out] at q) J1 (by have:=HN.out;omega)
         rwa [←HN.out] at q)
        replace hwj:=hwj.out
        replace hwj2:=hwj2.out
        go_wp2_with fail
        refine wp_region_held_drew (S:=Below wg.heap.size wg) (by kernel_rfl) (dbm.drawn1 (Below.refl _ _)) (fun hHeld=>?_)
        generalize hwD:wg.drew=wD at hHeld ⊢
        clear hwD
        refine tk 0 (v:=?_) rfl hHeld ?_ ?_
        rotate_left
        ·intro w hSw;skip;go_simp;try with_reducible rfl
        try simp only [Act.put,sA,sB,sC,sD,sE,sF]
        refine tk 1 (v:=?_) rfl hHeld ?_ ?_
        rotate_left
        ·intro w hSw;skip;go_simp;try with_reducible rfl
        try simp only [Act.put,sA,sB,sC,sD,sE,sF]
        refine tk 2 (v:=?_) rfl hHeld ?_ ?_
        rotate_left
        ·intro w hSw;skip;go_simp;try with_reducible rfl
        try simp only [Act.put,sA,sB,sC,sD,sE,sF]
        refine tk 4 (v:=?_) rfl hHeld ?_ ?_
        rotate_left
        ·intro w hSw;skip;go_simp;try with_reducible rfl
        try simp only [Act.put,sA,sB,sC,sD,sE,sF]
        refine tk 5 (v:=?_) rfl hHeld ?_ ?_
        rotate_left
        ·intro w hSw;skip;go_simp;try with_reducible rfl
        try simp only [Act.put,sA,sB,sC,sD,sE,sF]
        refine tk 6 (v:=?_) rfl hHeld ?_ ?_
        rotate_left
        ·intro w hSw;skip;go_simp;try with_reducible rfl
        try simp only [Act.put,sA,sB,sC,sD,sE,sF]
        refine tk 7 (v:=?_) rfl hHeld ?_ ?_
        rotate_left
        ·intro w hSw;skip;go_simp;try with_reducible rfl
        try simp only [Act.put,sA,sB,sC,sD,sE,sF]
        refine wpAnyH_ready (rs:=[3]) (by kernel_rfl) (by simp) (AllReadyH.cons rfl (fun K hK=>?_) AllReadyH.nil)
        have htk:=zs_take (cap':=q1) (by have q:=HVR.out.below hHeld;rwa [HN.out] at q) k (by have:=HN.out;omega)
        obtain ⟨va,wa,hrun,hown,hgrow,-⟩:=app_zones wg.heap.size 29 (.slice none 0 0) (.slice (some ⟨bq,off,none⟩) k q1) 0 _ [] (r.take k) wD (World.ownsRow_nil _ _ _ _) htk (by rw [List.length_take];omega) hHeld.size
        rw [Nat.zero_add,List.nil_append] at hown
        have hHp:Below wg.heap.size wg wa:=hHeld.grown hgrow hHeld.size (fun _ e=>by cases e)
        rw [if_pos (by rfl)]
        refine wp_append_run (.const (.slice none 0 0)) (.tmp 83) 29 rfl _ _ va wa rfl rfl hrun ?_
        obtain ⟨ba,ca,rfl⟩:=zs_len (zs_own hown)
        clear hrun hgrow
        refine hK.out _ _ hHp (fun hNew=>?_)
        clear hHeld hK K
        have hHeld:=hNew
        clear hNew
        try simp only [Act.put,sA,sB,sC,sD,sE,sF]
        refine wpAnyH_ready (rs:=[8]) (by kernel_rfl) (by simp) (AllReadyH.cons rfl (fun K hK=>?_) AllReadyH.nil)
        obtain ⟨vb,wb,hrun,hown2,hgrow2,-⟩:=app_zones wg.heap.size 29 (.slice ba (r.take k).length ca) (.slice (some ⟨bq,off+J1*6,none⟩) (n - J1) (q1 - J1)) _ _ _ (r.drop J1) wa hown (HDR.out wa hHp) (by rw [List.length_take,List.length_drop];have:=HN.out;omega) hHp.size
        have hHq:Below wg.heap.size wg wb:=held_grown hHp hHp.size hown (Nat.le_refl _) hgrow2
        rw [if_pos (by rfl)]
        refine wp_append_run (.tmp 84) (.tmp 88) 29 rfl _ _ vb wb rfl rfl hrun ?_
        clear hrun
        have hown3:wb.ownsRow wg.heap.size 27 6 vb (r.eraseIdx k).length (flatZ (r.eraseIdx k)):=by
         rw [HE.out,List.length_append,flatZ_app];exact hown2
        obtain ⟨bb,cb,rfl⟩:=zs_len (zs_own hown3)
        have HO:=Lib.hid (zs_own hown3)
        clear hown hown2 hown3 hgrow2 hHp
        refine hK.out _ _ hHq (fun hNew=>?_)
        clear hHeld hK K
        have hHeld:=hNew
        clear hNew
        try simp only [Act.put,sA,sB,sC,sD,sE,sF]
        refine tk 9 (v:=?_) rfl hHeld ?_ ?_
        rotate_left
        ·intro w hSw;skip;go_simp;try with_reducible rfl
        try simp only [Act.put,sA,sB,sC,sD,sE,sF]
        refine wpAnyH_done (by kernel_rfl) ?_ _
        replace hBl:=hBl.trans (hHq.mono hBl.size)
        replace DB:=later DB hHq
        replace P0:=P0.on hHq
        replace HVR:=Lib.hid (HVR.out.on hHq)
        have hle:(r.eraseIdx k).length≤1000000:=Nat.le_trans (List.length_eraseIdx_le _ _) (by have:=HN.out;omega)
        have hbw:bq<wb.heap.size:=Nat.lt_of_lt_of_le HB.out hBl.size
        obtain ⟨c0,c1,c2,c3,c4,c5⟩:=zs_cells HVR.out HKN.out HEZ.out
        have hkn:=HKN.out
        clear hHq
        go_wp2_with fail
        clear c0 c1 c2 c3 c4 c5
        have hzk:=ZR.out _ (zat_mem HKN.out)
        rw [HEZ.out] at hzk
        refine (cover.in_any x0 x1 x2 x3 x4 x5 bb (r.eraseIdx k).length cb (r.eraseIdx k) wb P0 hzk.2.1 HO.out (six_sub (zos_six ZR.out) (era_sub r k)) rfl hle).mono ?_
        rintro e wc ⟨hB,ii,fi,rfl,hR⟩
        have hii:fi≠0∨ii=false:=in_not HKN.out lr ZR.out SR.out OW.out (by rw [HEZ.out];exact hR)
        replace hBl:=hBl.trans (hB.mono hBl.size)
        replace DB:=later DB hB
        replace P0:=P0.on hB
        clear hB hR HO HVR hzk
        by_cases hfi:fi=0
        ·subst hfi
         obtain rfl:ii=false:=hii.resolve_left (fun n=>n rfl)
         clear hii
         go_wp2_with fail
         go_roundw
         case rel=>exact ⟨J1,(by first | exact hJm | exact Nat.le_refl _),(by first | rfl | (have:=HJ1.out;rw [this];go_num)),hBl,DB,P0⟩
         case measure=>have:=HJ1.out;simp [intOf];omega
        ·have hbi:(fi==0)=false:=by simpa using hfi
         have hni:(fi !=0)=true:=by simpa using hfi
         clear hfi hii
         go_wp2_with fail
         go_roundw
         case rel=>exact ⟨J1,(by first | exact hJm | exact Nat.le_refl _),(by first | rfl | (have:=HJ1.out;rw [this];go_num)),hBl,DB,P0⟩
         case measure=>have:=HJ1.out;simp [intOf];omega
      ·skip
       have h0i:(0:Int)<(k:Int):=by omega
       have h0d:decide ((0:Int)<(k:Int))=true:=decide_eq_true h0i
       have h0n:0<k:=by omega
       have h0e:decide (0<k)=true:=decide_eq_true h0n
       obtain ⟨qk,hqk⟩:∃ qk,k=qk+1:=⟨k - 1,by omega⟩
       have hkp:qk<r.length:=by omega
       have hzp:=ZR.out _ (zat_mem hkp)
       obtain ⟨bp,offp,y0,y1,y2,y3,y4,y5,ebp,hbp,ep⟩:=zs_six HVR.out hkp hzp.2.2
       obtain ⟨rfl,rfl⟩:bq=bp∧off=offp:=by
        injection ebp with e
        injection e with e1 e2
        exact ⟨e1,e2⟩
       have HEP:=Lib.hid ep
       have hcm:=srt_step SR.out HKN.out (by omega:0<k)
       rw [show k - 1=qk by omega,ep,HEZ.out] at hcm
       have hcm2:¬ (0:Int)≤cmpL [y0,y1,y2,y3,y4,y5] [x0,x1,x2,x3,x4,x5]:=by omega
       have HCM:=Lib.hid hcm2
       have hqi:(k:Int) - 1=(qk:Int):=by omega
       have hbq:-9223372036854775808≤(qk:Int)∧(qk:Int)≤9223372036854775807:=⟨by omega,by omega⟩
       have hq0:(0:Int)≤(qk:Int):=Int.natCast_nonneg _
       have hqn:(qk:Int)<(n:Int):=by have:=HN.out;omega
       have HKP:=Lib.hid hkp
       have hs1:=Lib.hid (show wrap64 ((k:Int) - 1)=(qk:Int) by rw [hqi];exact IntWalk.wrap64_in _ hbq)
       have hs2:=Lib.hid (show IntKind.i64.wrap ((k:Int) - 1)=(qk:Int) by rw [hqi];exact IntWalk.i64_in _ hbq)
       replace hs1:=hs1.out
       replace hs2:=hs2.out
       clear hzp ep ebp hbp hcm hcm2 hqk hqi hbq hkp h0
       go_wp2_with fail
       refine wp_region_held_drew (S:=Below wr.heap.size wr) (by kernel_rfl) (dbm.drawn1 (Below.refl _ _)) (fun hHeld=>?_)
       refine tk 0 (v:=?_) rfl hHeld ?_ ?_
       rotate_left
       ·intro w hSw;obtain ⟨c0,c1,c2,c3,c4,c5⟩:=zs_cells (HVR.out.below hSw) HKN.out HEZ.out;obtain ⟨d0,d1,d2,d3,d4,d5⟩:=zs_cells (HVR.out.below hSw) HKP.out HEP.out;go_simp;try with_reducible rfl
       try simp only [Act.put,sA,sB,sC,sD,sE,sF]
       refine tk 1 (v:=?_) rfl hHeld ?_ ?_
       rotate_left
       ·intro w hSw;obtain ⟨c0,c1,c2,c3,c4,c5⟩:=zs_cells (HVR.out.below hSw) HKN.out HEZ.out;obtain ⟨d0,d1,d2,d3,d4,d5⟩:=zs_cells (HVR.out.below hSw) HKP.out HEP.out;go_simp;try with_reducible rfl
       try simp only [Act.put,sA,sB,sC,sD,sE,sF]
       refine tk 2 (v:=?_) rfl hHeld ?_ ?_
       rotate_left
       ·intro w hSw;obtain ⟨c0,c1,c2,c3,c4,c5⟩:=zs_cells (HVR.out.below hSw) HKN.out HEZ.out;obtain ⟨d0,d1,d2,d3,d4,d5⟩:=zs_cells (HVR.out.below hSw) HKP.out HEP.out;go_simp;try with_reducible rfl
       try simp only [Act.put,sA,sB,sC,sD,sE,sF]
       refine tk 3 (v:=?_) rfl hHeld ?_ ?_
       rotate_left
       ·intro w hSw;obtain ⟨c0,c1,c2,c3,c4,c5⟩:=zs_cells (HVR.out.below hSw) HKN.out HEZ.out;obtain ⟨d0,d1,d2,d3,d4,d5⟩:=zs_cells (HVR.out.below hSw) HKP.out HEP.out;go_simp;try with_reducible rfl
       try simp only [Act.put,sA,sB,sC,sD,sE,sF]
       refine tk 4 (v:=?_) rfl hHeld ?_ ?_
       rotate_left
       ·intro w hSw;obtain ⟨c0,c1,c2,c3,c4,c5⟩:=zs_cells (HVR.out.below hSw) HKN.out HEZ.out;obtain ⟨d0,d1,d2,d3,d4,d5⟩:=zs_cells (HVR.out.below hSw) HKP.out HEP.out;go_simp;try with_reducible rfl
       try simp only [Act.put,sA,sB,sC,sD,sE,sF]
       refine tk 5 (v:=?_) rfl hHeld ?_ ?_
       rotate_left
       ·intro w hSw;obtain ⟨c0,c1,c2,c3,c4,c5⟩:=zs_cells (HVR.out.below hSw) HKN.out HEZ.out;obtain ⟨d0,d1,d2,d3,d4,d5⟩:=zs_cells (HVR.out.below hSw) HKP.out HEP.out;go_simp;try with_reducible rfl
       try simp only [Act.put,sA,sB,sC,sD,sE,sF]
       refine tk 6 (v:=?_) rfl hHeld ?_ ?_
       rotate_left
       ·intro w hSw;obtain ⟨c0,c1,c2,c3,c4,c5⟩:=zs_cells (HVR.out.below hSw) HKN.out HEZ.out;obtain ⟨d0,d1,d2,d3,d4,d5⟩:=zs_cells (HVR.out.below hSw) HKP.out HEP.out;go_simp;try with_reducible rfl
       try simp only [Act.put,sA,sB,sC,sD,sE,sF]
       refine tk 7 (v:=?_) rfl hHeld ?_ ?_
       rotate_left
       ·intro w hSw;obtain ⟨c0,c1,c2,c3,c4,c5⟩:=zs_cells (HVR.out.below hSw) HKN.out HEZ.out;obtain ⟨d0,d1,d2,d3,d4,d5⟩:=zs_cells (HVR.out.below hSw) HKP.out HEP.out;go_simp;try with_reducible rfl
       try simp only [Act.put,sA,sB,sC,sD,sE,sF]
       refine tk 8 (v:=?_) rfl hHeld ?_ ?_
       rotate_left
       ·intro w hSw;obtain ⟨c0,c1,c2,c3,c4,c5⟩:=zs_cells (HVR.out.below hSw) HKN.out HEZ.out;obtain ⟨d0,d1,d2,d3,d4,d5⟩:=zs_cells (HVR.out.below hSw) HKP.out HEP.out;go_simp;try with_reducible rfl
       try simp only [Act.put,sA,sB,sC,sD,sE,sF]
       refine tk 9 (v:=?_) rfl hHeld ?_ ?_
       rotate_left
       ·intro w hSw;obtain ⟨c0,c1,c2,c3,c4,c5⟩:=zs_cells (HVR.out.below hSw) HKN.out HEZ.out;obtain ⟨d0,d1,d2,d3,d4,d5⟩:=zs_cells (HVR.out.below hSw) HKP.out HEP.out;go_simp;try with_reducible rfl
       try simp only [Act.put,sA,sB,sC,sD,sE,sF]
       refine tk 10 (v:=?_) rfl hHeld ?_ ?_
       rotate_left
       ·intro w hSw;obtain ⟨c0,c1,c2,c3,c4,c5⟩:=zs_cells (HVR.out.below hSw) HKN.out HEZ.out;obtain ⟨d0,d1,d2,d3,d4,d5⟩:=zs_cells (HVR.out.below hSw) HKP.out HEP.out;go_simp;try with_reducible rfl
       try simp only [Act.put,sA,sB,sC,sD,sE,sF]
       refine tk 11 (v:=?_) rfl hHeld ?_ ?_
       rotate_left
       ·intro w hSw;obtain ⟨c0,c1,c2,c3,c4,c5⟩:=zs_cells (HVR.out.below hSw) HKN.out HEZ.out;obtain ⟨d0,d1,d2,d3,d4,d5⟩:=zs_cells (HVR.out.below hSw) HKP.out HEP.out;go_simp;try with_reducible rfl
       try simp only [Act.put,sA,sB,sC,sD,sE,sF]
       refine wpAnyH_ready (rs:=[12]) (by kernel_rfl) (by simp) (AllReadyH.cons rfl (fun K hK=>?_) AllReadyH.nil)
       go_simp
       refine (zone.cmp_is y0 y1 y2 y3 y4 y5 x0 x1 x2 x3 x4 x5 _).mono ?_
       rintro e u1 ⟨rfl,hB⟩
       refine hK.out _ _ (hHeld.trans (hB.mono hHeld.size)) (fun hNew=>?_)
       clear hB
       clear hHeld hK K
       have hHeld:=hNew
       clear hNew
       try simp only [Act.put,sA,sB,sC,sD,sE,sF]
       have hcm:=HCM.out
       generalize cmpL [y0,y1,y2,y3,y4,y5] [x0,x1,x2,x3,x4,x5]=cm at hcm ⊢
       have hcd:decide ((0:Int)≤cm)=false:=decide_eq_false (by omega)
       refine tk 13 (v:=?_) rfl hHeld ?_ ?_
       rotate_left
       ·intro w hSw;skip;go_simp;try with_reducible rfl
       try simp only [Act.put,sA,sB,sC,sD,sE,sF]
       refine tk 14 (v:=?_) rfl hHeld ?_ ?_
       rotate_left
       ·intro w hSw;skip;go_simp;try with_reducible rfl
       try simp only [Act.put,sA,sB,sC,sD,sE,sF]
       refine wpAnyH_done (by kernel_rfl) ?_ _
       clear hs1 hs2 hcm hcd HCM hq0 hqn
       replace hBl:=hBl.trans (hHeld.mono hBl.size)
       replace DB:=later DB hHeld
       replace P0:=P0.on hHeld
       replace HVR:=Lib.hid (HVR.out.on hHeld)
       generalize hwg:u1=wg at hBl DB P0 HVR ⊢
       clear hHeld hwg
       clear h0i h0d h0n h0e
       obtain ⟨J1,hJ1⟩:∃ x,x=k+1:=⟨_,rfl⟩
       have hji:(k:Int)+1=(J1:Int):=by omega
       have hJm:J1≤n:=by omega
       have hJc:J1≤q1:=Nat.le_trans hJm hroom
       have hbd:-9223372036854775808≤(J1:Int)∧(J1:Int)≤9223372036854775807:=⟨by omega,by omega⟩
       have hf4:(0:Int)≤(J1:Int):=Int.natCast_nonneg _
       have hf5:(J1:Int)≤(n:Int):=Int.ofNat_le.2 hJm
       have hf6:(J1:Int)≤(q1:Int):=Int.ofNat_le.2 hJc
       have hf7:(k:Int)≤(q1:Int):=Int.ofNat_le.2 (by omega)
       have hf8:(0:Int)≤(k:Int):=Int.natCast_nonneg _
       have hwj:=Lib.hid (show wrap64 ((k:Int)+1)=(J1:Int) by rw [hji];exact IntWalk.wrap64_in _ hbd)
       have hwj2:=Lib.hid (show IntKind.i64.wrap ((k:Int)+1)=(J1:Int) by rw [hji];exact IntWalk.i64_in _ hbd)
       have HE:=Lib.hid (show r.eraseIdx k=r.take k++r.drop J1 by rw [hJ1];exact era_cut r k)
       have HJ1:=Lib.hid hJ1
       clear hji hbd hJ1
       by_cases hcq:J1=q1
       ·skip
        obtain rfl:J1=n:=by omega
        obtain rfl:=hcq
        have HDR:=Lib.hid (show ∀ X,Below wg.heap.size wg X→Zs wg.heap.size X (.slice (some ⟨bq,off,none⟩) 0 0) (r.drop J1) from fun X _=>zs_end (by simp) (by have:=HN.out;omega))
        replace hwj:=hwj.out
        replace hwj2:=hwj2.out
        go_wp2_with fail
        refine wp_region_held_drew (S:=Below wg.heap.size wg) (by kernel_rfl) (dbm.drawn1 (Below.refl _ _)) (fun hHeld=>?_)
        generalize hwD:wg.drew=wD at hHeld ⊢
        clear hwD
        refine tk 0 (v:=?_) rfl hHeld ?_ ?_
        rotate_left
        ·intro w hSw;skip;go_simp;try with_reducible rfl
        try simp only [Act.put,sA,sB,sC,sD,sE,sF]
        refine tk 1 (v:=?_) rfl hHeld ?_ ?_
        rotate_left
        ·intro w hSw;skip;go_simp;try with_reducible rfl
        try simp only [Act.put,sA,sB,sC,sD,sE,sF]
        refine tk 2 (v:=?_) rfl hHeld ?_ ?_
        rotate_left
        ·intro w hSw;skip;go_simp;try with_reducible rfl
        try simp only [Act.put,sA,sB,sC,sD,sE,sF]
        refine tk 4 (v:=?_) rfl hHeld ?_ ?_
        rotate_left
        ·intro w hSw;skip;go_simp;try with_reducible rfl
        try simp only [Act.put,sA,sB,sC,sD,sE,sF]
        refine tk 5 (v:=?_) rfl hHeld ?_ ?_
        rotate_left
        ·intro w hSw;skip;go_simp;try with_reducible rfl
        try simp only [Act.put,sA,sB,sC,sD,sE,sF]
        refine tk 6 (v:=?_) rfl hHeld ?_ ?_
        rotate_left
        ·intro w hSw;skip;go_simp;try with_reducible rfl
        try simp only [Act.put,sA,sB,sC,sD,sE,sF]
        refine tk 7 (v:=?_) rfl hHeld ?_ ?_
        rotate_left
        ·intro w hSw;skip;go_simp;try with_reducible rfl
        try simp only [Act.put,sA,sB,sC,sD,sE,sF]
        refine wpAnyH_ready (rs:=[3]) (by kernel_rfl) (by simp) (AllReadyH.cons rfl (fun K hK=>?_) AllReadyH.nil)
        have htk:=zs_take (cap':=J1) (by have q:=HVR.out.below hHeld;rwa [HN.out] at q) k (by have:=HN.out;omega)
        obtain ⟨va,wa,hrun,hown,hgrow,-⟩:=app_zones wg.heap.size 29 (.slice none 0 0) (.slice (some ⟨bq,off,none⟩) k J1) 0 _ [] (r.take k) wD (World.ownsRow_nil _ _ _ _) htk (by rw [List.length_take];omega) hHeld.size
        rw [Nat.zero_add,List.nil_append] at hown
        have hHp:Below wg.heap.size wg wa:=hHeld.grown hgrow hHeld.size (fun _ e=>by cases e)
        rw [if_pos (by rfl)]
        refine wp_append_run (.const (.slice none 0 0)) (.tmp 83) 29 rfl _ _ va wa rfl rfl hrun ?_
        obtain ⟨ba,ca,rfl⟩:=zs_len (zs_own hown)
        clear hrun hgrow
        refine hK.out _ _ hHp (fun hNew=>?_)
        clear hHeld hK K
        have hHeld:=hNew
        clear hNew
        try simp only [Act.put,sA,sB,sC,sD,sE,sF]
        refine wpAnyH_ready (rs:=[8]) (by kernel_rfl) (by simp) (AllReadyH.cons rfl (fun K hK=>?_) AllReadyH.nil)
        obtain ⟨vb,wb,hrun,hown2,hgrow2,-⟩:=app_zones wg.heap.size 29 (.slice ba (r.take k).length ca) (.slice (some ⟨bq,off,none⟩) 0 0) _ _ _ (r.drop J1) wa hown (HDR.out wa hHp) (by rw [List.length_take,List.length_drop];have:=HN.out;omega) hHp.size
        have hHq:Below wg.heap.size wg wb:=held_grown hHp hHp.size hown (Nat.le_refl _) hgrow2
        rw [if_pos (by rfl)]
        refine wp_append_run (.tmp 84) (.tmp 88) 29 rfl _ _ vb wb rfl rfl hrun ?_
        clear hrun
        have hown3:wb.ownsRow wg.heap.size 27 6 vb (r.eraseIdx k).length (flatZ (r.eraseIdx k)):=by
         rw [HE.out,List.length_append,flatZ_app];exact hown2
        obtain ⟨bb,cb,rfl⟩:=zs_len (zs_own hown3)
        have HO:=Lib.hid (zs_own hown3)
        clear hown hown2 hown3 hgrow2 hHp
        refine hK.out _ _ hHq (fun hNew=>?_)
        clear hHeld hK K
        have hHeld:=hNew
        clear hNew
        try simp only [Act.put,sA,sB,sC,sD,sE,sF]
        refine tk 9 (v:=?_) rfl hHeld ?_ ?_
        rotate_left
        ·intro w hSw;skip;go_simp;try with_reducible rfl
        try simp only [Act.put,sA,sB,sC,sD,sE,sF]
        refine wpAnyH_done (by kernel_rfl) ?_ _
        replace hBl:=hBl.trans (hHq.mono hBl.size)
        replace DB:=later DB hHq
        replace P0:=P0.on hHq
        replace HVR:=Lib.hid (HVR.out.on hHq)
        have hle:(r.eraseIdx k).length≤1000000:=Nat.le_trans (List.length_eraseIdx_le _ _) (by have:=HN.out;omega)
        have hbw:bq<wb.heap.size:=Nat.lt_of_lt_of_le HB.out hBl.size
        obtain ⟨c0,c1,c2,c3,c4,c5⟩:=zs_cells HVR.out HKN.out HEZ.out
        have hkn:=HKN.out
        clear hHq
        go_wp2_with fail
        clear c0 c1 c2 c3 c4 c5
        have hzk:=ZR.out _ (zat_mem HKN.out)
        rw [HEZ.out] at hzk
        refine (cover.in_any x0 x1 x2 x3 x4 x5 bb (r.eraseIdx k).length cb (r.eraseIdx k) wb P0 hzk.2.1 HO.out (six_sub (zos_six ZR.out) (era_sub r k)) rfl hle).mono ?_
        rintro e wc ⟨hB,ii,fi,rfl,hR⟩
        have hii:fi≠0∨ii=false:=in_not HKN.out lr ZR.out SR.out OW.out (by rw [HEZ.out];exact hR)
        replace hBl:=hBl.trans (hB.mono hBl.size)
        replace DB:=later DB hB
        replace P0:=P0.on hB
        clear hB hR HO HVR hzk
        by_cases hfi:fi=0
        ·subst hfi
         obtain rfl:ii=false:=hii.resolve_left (fun n=>n rfl)
         clear hii
         go_wp2_with fail
         go_roundw
         case rel=>exact ⟨J1,(by first | exact hJm | exact Nat.le_refl _),(by first | rfl | (have:=HJ1.out;rw [this];go_num)),hBl,DB,P0⟩
         case measure=>have:=HJ1.out;simp [intOf];omega
        ·have hbi:(fi==0)=false:=by simpa using hfi
         have hni:(fi !=0)=true:=by simpa using hfi
         clear hfi hii
         go_wp2_with fail
         go_roundw
         case rel=>exact ⟨J1,(by first | exact hJm | exact Nat.le_refl _),(by first | rfl | (have:=HJ1.out;rw [this];go_num)),hBl,DB,P0⟩
         case measure=>have:=HJ1.out;simp [intOf];omega
       ·skip
        have hcq2:¬ q1=J1:=fun e=>hcq e.symm
        have HDR:=Lib.hid (show ∀ X,Below wg.heap.size wg X→Zs wg.heap.size X (.slice (some ⟨bq,off+J1*6,none⟩) (n - J1) (q1 - J1)) (r.drop J1) from fun X h=>by
         have q:=zs_drop (cap':=q1 - J1) (by have q:=HVR.out.below h;rwa [HN.out] at q) J1 (by have:=HN.out;omega)
         rwa [←HN.out] at q)
        replace hwj:=hwj.out
        replace hwj2:=hwj2.out
        go_wp2_with fail
        refine wp_region_held_drew (S:=Below wg.heap.size wg) (by kernel_rfl) (dbm.drawn1 (Below.refl _ _)) (fun hHeld=>?_)
        generalize hwD:wg.drew=wD at hHeld ⊢
        clear hwD
        refine tk 0 (v:=?_) rfl hHeld ?_ ?_
        rotate_left
        ·intro w hSw;skip;go_simp;try with_reducible rfl
        try simp only [Act.put,sA,sB,sC,sD,sE,sF]
        refine tk 1 (v:=?_) rfl hHeld ?_ ?_
        rotate_left
        ·intro w hSw;skip;go_simp;try with_reducible rfl
        try simp only [Act.put,sA,sB,sC,sD,sE,sF]
        refine tk 2 (v:=?_) rfl hHeld ?_ ?_
        rotate_left
        ·intro w hSw;skip;go_simp;try with_reducible rfl
        try simp only [Act.put,sA,sB,sC,sD,sE,sF]
        refine tk 4 (v:=?_) rfl hHeld ?_ ?_
        rotate_left
        ·intro w hSw;skip;go_simp;try with_reducible rfl
        try simp only [Act.put,sA,sB,sC,sD,sE,sF]
        refine tk 5 (v:=?_) rfl hHeld ?_ ?_
        rotate_left
        ·intro w hSw;skip;go_simp;try with_reducible rfl
        try simp only [Act.put,sA,sB,sC,sD,sE,sF]
        refine tk 6 (v:=?_) rfl hHeld ?_ ?_
        rotate_left
        ·intro w hSw;skip;go_simp;try with_reducible rfl
        try simp only [Act.put,sA,sB,sC,sD,sE,sF]
        refine tk 7 (v:=?_) rfl hHeld ?_ ?_
        rotate_left
        ·intro w hSw;skip;go_simp;try with_reducible rfl
        try simp only [Act.put,sA,sB,sC,sD,sE,sF]
        refine wpAnyH_ready (rs:=[3]) (by kernel_rfl) (by simp) (AllReadyH.cons rfl (fun K hK=>?_) AllReadyH.nil)
        have htk:=zs_take (cap':=q1) (by have q:=HVR.out.below hHeld;rwa [HN.out] at q) k (by have:=HN.out;omega)
        obtain ⟨va,wa,hrun,hown,hgrow,-⟩:=app_zones wg.heap.size 29 (.slice none 0 0) (.slice (some ⟨bq,off,none⟩) k q1) 0 _ [] (r.take k) wD (World.ownsRow_nil _ _ _ _) htk (by rw [List.length_take];omega) hHeld.size
        rw [Nat.zero_add,List.nil_append] at hown
        have hHp:Below wg.heap.size wg wa:=hHeld.grown hgrow hHeld.size (fun _ e=>by cases e)
        rw [if_pos (by rfl)]
        refine wp_append_run (.const (.slice none 0 0)) (.tmp 83) 29 rfl _ _ va wa rfl rfl hrun ?_
        obtain ⟨ba,ca,rfl⟩:=zs_len (zs_own hown)
        clear hrun hgrow
        refine hK.out _ _ hHp (fun hNew=>?_)
        clear hHeld hK K
        have hHeld:=hNew
        clear hNew
        try simp only [Act.put,sA,sB,sC,sD,sE,sF]
        refine wpAnyH_ready (rs:=[8]) (by kernel_rfl) (by simp) (AllReadyH.cons rfl (fun K hK=>?_) AllReadyH.nil)
        obtain ⟨vb,wb,hrun,hown2,hgrow2,-⟩:=app_zones wg.heap.size 29 (.slice ba (r.take k).length ca) (.slice (some ⟨bq,off+J1*6,none⟩) (n - J1) (q1 - J1)) _ _ _ (r.drop J1) wa hown (HDR.out wa hHp) (by rw [List.length_take,List.length_drop];have:=HN.out;omega) hHp.size
        have hHq:Below wg.heap.size wg wb:=held_grown hHp hHp.size hown (Nat.le_refl _) hgrow2
        rw [if_pos (by rfl)]
        refine wp_append_run (.tmp 84) (.tmp 88) 29 rfl _ _ vb wb rfl rfl hrun ?_
        clear hrun
        have hown3:wb.ownsRow wg.heap.size 27 6 vb (r.eraseIdx k).length (flatZ (r.eraseIdx k)):=by
         rw [HE.out,List.length_append,flatZ_app];exact hown2
        obtain ⟨bb,cb,rfl⟩:=zs_len (zs_own hown3)
        have HO:=Lib.hid (zs_own hown3)
        clear hown hown2 hown3 hgrow2 hHp
        refine hK.out _ _ hHq (fun hNew=>?_)
        clear hHeld hK K
        have hHeld:=hNew
        clear hNew
        try simp only [Act.put,sA,sB,sC,sD,sE,sF]
        refine tk 9 (v:=?_) rfl hHeld ?_ ?_
        rotate_left
        ·intro w hSw;skip;go_simp;try with_reducible rfl
        try simp only [Act.put,sA,sB,sC,sD,sE,sF]
        refine wpAnyH_done (by kernel_rfl) ?_ _
        replace hBl:=hBl.trans (hHq.mono hBl.size)
        replace DB:=later DB hHq
        replace P0:=P0.on hHq
        replace HVR:=Lib.hid (HVR.out.on hHq)
        have hle:(r.eraseIdx k).length≤1000000:=Nat.le_trans (List.length_eraseIdx_le _ _) (by have:=HN.out;omega)
        have hbw:bq<wb.heap.size:=Nat.lt_of_lt_of_le HB.out hBl.size
        obtain ⟨c0,c1,c2,c3,c4,c5⟩:=zs_cells HVR.out HKN.out HEZ.out
        have hkn:=HKN.out
        clear hHq
        go_wp2_with fail
        clear c0 c1 c2 c3 c4 c5
        have hzk:=ZR.out _ (zat_mem HKN.out)
        rw [HEZ.out] at hzk
        refine (cover.in_any x0 x1 x2 x3 x4 x5 bb (r.eraseIdx k).length cb (r.eraseIdx k) wb P0 hzk.2.1 HO.out (six_sub (zos_six ZR.out) (era_sub r k)) rfl hle).mono ?_
        rintro e wc ⟨hB,ii,fi,rfl,hR⟩
        have hii:fi≠0∨ii=false:=in_not HKN.out lr ZR.out SR.out OW.out (by rw [HEZ.out];exact hR)
        replace hBl:=hBl.trans (hB.mono hBl.size)
        replace DB:=later DB hB
        replace P0:=P0.on hB
        clear hB hR HO HVR hzk
        by_cases hfi:fi=0
        ·subst hfi
         obtain rfl:ii=false:=hii.resolve_left (fun n=>n rfl)
         clear hii
         go_wp2_with fail
         go_roundw
         case rel=>exact ⟨J1,(by first | exact hJm | exact Nat.le_refl _),(by first | rfl | (have:=HJ1.out;rw [this];go_num)),hBl,DB,P0⟩
         case measure=>have:=HJ1.out;simp [intOf];omega
        ·have hbi:(fi==0)=false:=by simpa using hfi
         have hni:(fi !=0)=true:=by simpa using hfi
         clear hfi hii
         go_wp2_with fail
         go_roundw
         case rel=>exact ⟨J1,(by first | exact hJm | exact Nat.le_refl _),(by first | rfl | (have:=HJ1.out;rw [this];go_num)),hBl,DB,P0⟩
         case measure=>have:=HJ1.out;simp [intOf];omega
     ·skip
      have hkn2:¬ (k:Int)<(n:Int):=by omega
      clear hk hkn
      replace HI:=Lib.hid (HI.out.on hBl)
      replace HV:=Lib.hid (HV.out.on hBl)
      clear hBl
      go_wp2_with fail
      refine (cover.all_any ao l.length cap l p1 n q1 r wr P0 HI.out H6.out rfl h5m HV.out (zos_six ZR.out) HN.out.symm hrm).mono ?_
      rintro e w5 ⟨hB,ai,af,rfl,hR⟩
      have hai:=all_yes ZL.out ZR.out H5.out lr HQ.out hR
      clear hR
      replace HI:=Lib.hid ((HI.out.below hB).mono hB.size)
      replace HV:=Lib.hid ((HV.out.below hB).mono hB.size)
      replace P0:=P0.on hB
      replace DB:=later DB hB
      clear hB
      go_wp2_with fail
      refine (cover.prune_any p1 n q1 r w5 P0 HV.out (zos_six ZR.out) HN.out.symm hrm).mono ?_
      rintro e w6 ⟨hB,v2,r2,f2,rfl,hR,hO⟩
      have hpg:=pru_again ZR.out lr SR.out OW.out hR
      have hZ:=zs_own hO
      obtain ⟨p2,q2,rfl⟩:=zs_len hZ
      obtain ⟨n2,hn2⟩:∃ x,x=r2.length:=⟨_,rfl⟩
      rw [←hn2] at hZ ⊢
      have HN2:=Lib.hid hn2
      clear hn2
      have HV2:=Lib.hid hZ
      clear hO hR hZ
      replace HI:=Lib.hid ((HI.out.below hB).mono hB.size)
      replace HV:=Lib.hid ((HV.out.below hB).mono hB.size)
      replace P0:=P0.on hB
      replace DB:=later DB hB
      clear hB
      by_cases haf:af=0
      ·skip
       subst haf
       obtain rfl:ai=true:=hai.resolve_left (fun n=>n rfl)
       by_cases hf2:f2=0
       ·skip
        subst hf2
        obtain rfl:r2=r:=hpg.resolve_left (fun n=>n rfl)
        obtain rfl:n2=n:=HN2.out.trans HN.out.symm
        go_wp2_with fail
        refine (same_yes p2 p1 n2 q2 q1 r2 w6 HV2.out HV.out HN.out.symm hrm (fun z hz=>(ZR.out z hz).2.2)).mono ?_
        rintro e w7 ⟨rfl,hB⟩
        replace HI:=Lib.hid ((HI.out.below hB).mono hB.size)
        replace HV:=Lib.hid ((HV.out.below hB).mono hB.size)
        replace HV2:=Lib.hid ((HV2.out.below hB).mono hB.size)
        replace P0:=P0.on hB
        replace DB:=later DB hB
        clear hB
        go_wp2_with fail
        go_ret
        exact ⟨rfl,DB⟩
       ·skip
        have hb2:(f2==0)=false:=by simpa using hf2
        have hn2:(f2 !=0)=true:=by simpa using hf2
        clear hf2 hpg
        go_wp2_with fail
        go_ret
        exact ⟨rfl,DB⟩
      ·skip
       have hba:(af==0)=false:=by simpa using haf
       have hna:(af !=0)=true:=by simpa using haf
       clear haf hai
       by_cases hf2:f2=0
       ·skip
        subst hf2
        obtain rfl:r2=r:=hpg.resolve_left (fun n=>n rfl)
        obtain rfl:n2=n:=HN2.out.trans HN.out.symm
        go_wp2_with fail
        refine (same_yes p2 p1 n2 q2 q1 r2 w6 HV2.out HV.out HN.out.symm hrm (fun z hz=>(ZR.out z hz).2.2)).mono ?_
        rintro e w7 ⟨rfl,hB⟩
        replace HI:=Lib.hid ((HI.out.below hB).mono hB.size)
        replace HV:=Lib.hid ((HV.out.below hB).mono hB.size)
        replace HV2:=Lib.hid ((HV2.out.below hB).mono hB.size)
        replace P0:=P0.on hB
        replace DB:=later DB hB
        clear hB
        go_wp2_with fail
        go_ret
        exact ⟨rfl,DB⟩
       ·skip
        have hb2:(f2==0)=false:=by simpa using hf2
        have hn2:(f2 !=0)=true:=by simpa using hf2
        clear hf2 hpg
        go_wp2_with fail
        go_ret
        exact ⟨rfl,DB⟩
  ·skip
   obtain rfl:r=[]:=pru_err H6.out H5.out HR.out hf
   obtain rfl:n=0:=HN.out
   have hbf:(f==0)=false:=by simpa using hf
   have hnf:(f !=0)=true:=by simpa using hf
   clear hf HR HV hroom
   go_wp2_with fail
   go_ret
   exact ⟨rfl,DB⟩
 ·skip
  have h5i:(6:Int)<(l.length:Int):=by omega
  clear h5
  go_wp2_with fail
  go_ret
  exact ⟨rfl,DB⟩
end Go.Proofs.YthmljpccbjolgaaGreatDoor.coverPrunes
