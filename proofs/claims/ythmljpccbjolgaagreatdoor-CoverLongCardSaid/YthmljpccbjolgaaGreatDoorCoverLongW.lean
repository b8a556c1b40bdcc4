
/-
  CoverLong answers true (the walk) for every zone, and how many; the listed variable reads as the program lays it.
-/
import Derived.Test.YthmljpccbjolgaaGreatDoorCoverL
import Derived.Test.YthmljpccbjolgaaGreatDoorCoverO
import Derived.BigQuiet
namespace Go.Proofs.YthmljpccbjolgaaGreatDoor.coverLong
open Go.Joins Go.ChangeShapes Go.WideShapes Go.ChangeAt Go.RowKit num rat dbm Go.Proofs.YthmljpccbjolgaaGreatDoor.tight Go.Proofs.YthmljpccbjolgaaGreatDoor.incl Go.Proofs.YthmljpccbjolgaaGreatDoor.plaw Go.Proofs.YthmljpccbjolgaaGreatDoor.zopen Go.Proofs.YthmljpccbjolgaaGreatDoor.zone Go.Proofs.YthmljpccbjolgaaGreatDoor.zlaw Go.Proofs.YthmljpccbjolgaaGreatDoor.win Go.Proofs.YthmljpccbjolgaaGreatDoor.minus Go.Proofs.YthmljpccbjolgaaGreatDoor.mz Go.Proofs.YthmljpccbjolgaaGreatDoor.mlaw Go.Proofs.YthmljpccbjolgaaGreatDoor.cover Go.Proofs.YthmljpccbjolgaaGreatDoor.claw
open bound hiding up
set_option linter.unusedVariables false
set_option linter.unusedSimpArgs false
theorem make_zones (n:Nat) (hn:n≤1000000) (W:World):(Instr.makeSlice 29 (.int .i64 (n:Int)) (.int .i64 (n:Int))).run Tryz.prog W=.ok (.slice (some ⟨W.heap.size,0,none⟩) n n) (W.alloc (.cells (madeCells #[.int .i64 0,.int .i64 0,.int .i64 0,.int .i64 0,.int .i64 0,.int .i64 0] (n*6)) 27)):=by
 obtain ⟨i,hi,hz,hs,hby⟩:=info_parts info_z
 have h:=run_make (P:=Tryz.prog) (w:=W) 29 27 i _ Tryz.underlying29 hi hz .i64 .i64 n n (by omega) (Int.le_refl _) (by rw [hby];omega) (by omega)
 rw [Int.toNat_natCast,hs] at h
 exact h
def six6 (W:World) (g i:Nat) (x0 x1 x2 x3 x4 x5:Value):World:=(((((W.setCell ⟨g,i,none⟩ x0).setCell ⟨g,i+1,none⟩ x1).setCell ⟨g,i+2,none⟩ x2).setCell ⟨g,i+3,none⟩ x3).setCell ⟨g,i+4,none⟩ x4).setCell ⟨g,i+5,none⟩ x5
theorem six6_lies {W:World} {g i:Nat} {t:TypeId} {cs:Array Value} (h:lies.Lies W g t cs) (x0 x1 x2 x3 x4 x5:Value):∃ ds,lies.Lies (six6 W g i x0 x1 x2 x3 x4 x5) g t ds∧ds.size=cs.size:=
 ⟨_,lies.on_put (lies.on_put (lies.on_put (lies.on_put (lies.on_put (lies.on_put h i x0) (i+1) x1) (i+2) x2) (i+3) x3) (i+4) x4) (i+5) x5,by simp⟩
theorem six6_far {W:World} {g i q:Nat} {t:TypeId} {cs:Array Value} (h:lies.Lies W q t cs) (k:q≠g) (x0 x1 x2 x3 x4 x5:Value):lies.Lies (six6 W g i x0 x1 x2 x3 x4 x5) q t cs:=
 lies.on_far (lies.on_far (lies.on_far (lies.on_far (lies.on_far (lies.on_far h i k x0) (i+1) k x1) (i+2) k x2) (i+3) k x3) (i+4) k x4) (i+5) k x5
theorem six6_below {W X:World} {g i n:Nat} (h:Below n X W) (k:n≤g) (x0 x1 x2 x3 x4 x5:Value):Below n X (six6 W g i x0 x1 x2 x3 x4 x5):=
 ((((((h.setCell (p:=⟨g,i,none⟩) k x0).setCell (p:=⟨g,i+1,none⟩) k x1).setCell (p:=⟨g,i+2,none⟩) k x2).setCell (p:=⟨g,i+3,none⟩) k x3).setCell (p:=⟨g,i+4,none⟩) k x4).setCell (p:=⟨g,i+5,none⟩) k x5)
theorem some_at {cs:Array Value} {n k j:Nat} (h:cs.size=n*6) (hk:k<n) (hj:j<6):∃ u,cs[k*6+j]?=some u:=⟨cs[k*6+j]'(by omega),Array.getElem?_eq_getElem _⟩
set_option maxRecDepth 100000 in
set_option maxHeartbeats 16000000 in
theorem walk (a0 a1 a2 a3 a4 a5 m:Int) (w:World) (ha:∀ x ∈ [a0,a1,a2,a3,a4,a5],-9223372036854775808≤x∧x≤9223372036854775807) (hu:0≤m∧m≤255) (hP:Pl w):Calls Tryz.prog 12 #[.agg #[.int .i64 a0,.int .i64 a1,.int .i64 a2,.int .i64 a3,.int .i64 a4,.int .i64 a5],.int .u8 m] w fun e w'=>e=.returned (.bool true)∧Below w.heap.size w w':=by
 have TA:=Lib.hid (show Tops [a0,a1,a2,a3,a4,a5] from fun x hx=>(ha x hx).2)
 obtain ⟨n,hn,hn1,hn2⟩:∃ n:Nat,(4097:Int)+m=(n:Int)∧4097≤n∧n≤4352:=⟨(4097+m).toNat,by omega,by omega,by omega⟩
 have hmk:=make_zones n (by omega)
 have hw1:IntKind.i64.wrap m=m:=IntWalk.i64_in _ ⟨by omega,by omega⟩
 have hw2:IntKind.i64.wrap ((4097:Int)+m)=(n:Int):=by rw [hn];exact IntWalk.i64_in _ ⟨by omega,by omega⟩
 have hw3:wrap64 ((4097:Int)+m)=(n:Int):=by rw [hn];exact IntWalk.wrap64_in _ ⟨by omega,by omega⟩
 have HW2:=Lib.hid hw2
 have HW3:=Lib.hid hw3
 clear hw2 hw3 hn
 have X:∃ w0,w0=w.alloc (.cells #[.int .i64 a0,.int .i64 a1,.int .i64 a2,.int .i64 a3,.int .i64 a4,.int .i64 a5] 27):=⟨_,rfl⟩
 obtain ⟨w0,hX⟩:=X
 have DB:Below w.heap.size w w0:=by rw [hX];exact bound.up1 w _
 have D0:lies.Lies w0 (w.heap.size) 27 #[.int .i64 a0,.int .i64 a1,.int .i64 a2,.int .i64 a3,.int .i64 a4,.int .i64 a5]:=by rw [hX];exact lies.made _ _ _
 clear hP ha hu
 have hw2:=HW2.out
 have hw3:=HW3.out
 go_enter Tryz.func12,Tryz.ntmps12
 go_wp2_with fail
 rw [←hX]
 have hx0:w0.heap.size=w.heap.size+1:=by rw [hX];simp
 clear hX hw1 hw2 hw3 HW2 HW3 hmk
 have hA:=bound.up1 w0 (.cells (madeCells #[.int .i64 0,.int .i64 0,.int .i64 0,.int .i64 0,.int .i64 0,.int .i64 0] (n*6)) 27)
 have R:=lies.made_at w0 27 (madeCells #[.int .i64 0,.int .i64 0,.int .i64 0,.int .i64 0,.int .i64 0,.int .i64 0] (n*6)) (w.heap.size+1) hx0
 have hsz:(madeCells #[.int .i64 0,.int .i64 0,.int .i64 0,.int .i64 0,.int .i64 0,.int .i64 0] (n*6)).size=n*6:=size_madeCells _ _
 have hxr:w.heap.size<w.heap.size+1:=Nat.lt_succ_self _
 clear hx0
 replace D0:=lies.on_call D0 hA
 replace DB:=later DB hA
 clear hA
 generalize w.heap.size+1=XR at R hxr ⊢
 generalize w0.alloc (.cells (madeCells #[.int .i64 0,.int .i64 0,.int .i64 0,.int .i64 0,.int .i64 0,.int .i64 0] (n*6)) 27)=v1 at D0 R DB ⊢
 generalize madeCells #[.int .i64 0,.int .i64 0,.int .i64 0,.int .i64 0,.int .i64 0,.int .i64 0] (n*6)=cs at R hsz
 go_loopw [6] (fun i wr=>∃ (k:Nat) (cs:Array Value),k≤n∧i=.int .i64 k∧lies.Lies wr XR 27 cs∧cs.size=n*6∧lies.Lies wr w.heap.size 27 #[.int .i64 a0,.int .i64 a1,.int .i64 a2,.int .i64 a3,.int .i64 a4,.int .i64 a5]∧Below w.heap.size w wr) (fun i _=>n - (intOf i).toNat)
 case atStart=>exact ⟨0,cs,Nat.zero_le _,rfl,R,hsz,D0,DB⟩
 case round=>
  clear R hsz D0 DB
  obtain ⟨k,cs,hk,rfl,R,hsz,D0,DB⟩:=hrel
  by_cases hkn:k<n
  ·skip
   obtain ⟨u0,h0⟩:=some_at hsz hkn (show 0<6 by decide)
   obtain ⟨u1,h1⟩:=some_at hsz hkn (show 1<6 by decide)
   obtain ⟨u2,h2⟩:=some_at hsz hkn (show 2<6 by decide)
   obtain ⟨u3,h3⟩:=some_at hsz hkn (show 3<6 by decide)
   obtain ⟨u4,h4⟩:=some_at hsz hkn (show 4<6 by decide)
   obtain ⟨u5,h5⟩:=some_at hsz hkn (show 5<6 by decide)
   rw [Nat.add_zero] at h0
   have c0:wr.cell? ⟨XR,k*6,none⟩=some u0:=(lies.cell R _).trans h0
   have f0:wr.frozen? ⟨XR,k*6,none⟩=false:=lies.free R _
   have c1:wr.cell? ⟨XR,k*6+1,none⟩=some u1:=(lies.cell R _).trans h1
   have f1:wr.frozen? ⟨XR,k*6+1,none⟩=false:=lies.free R _
   have c2:wr.cell? ⟨XR,k*6+2,none⟩=some u2:=(lies.cell R _).trans h2
   have f2:wr.frozen? ⟨XR,k*6+2,none⟩=false:=lies.free R _
   have c3:wr.cell? ⟨XR,k*6+3,none⟩=some u3:=(lies.cell R _).trans h3
   have f3:wr.frozen? ⟨XR,k*6+3,none⟩=false:=lies.free R _
   have c4:wr.cell? ⟨XR,k*6+4,none⟩=some u4:=(lies.cell R _).trans h4
   have f4:wr.frozen? ⟨XR,k*6+4,none⟩=false:=lies.free R _
   have c5:wr.cell? ⟨XR,k*6+5,none⟩=some u5:=(lies.cell R _).trans h5
   have f5:wr.frozen? ⟨XR,k*6+5,none⟩=false:=lies.free R _
   have hrl:=lies.lt R
   have hkn2:(k:Int)<(n:Int):=by omega
   obtain ⟨⟨kD0_0,kD0_1,kD0_2,kD0_3,kD0_4,kD0_5⟩,-⟩:=six_cells D0
   have kD0_l:=lies.lt D0
   go_wp2_with fail
   clear kD0_0 kD0_1 kD0_2 kD0_3 kD0_4 kD0_5 kD0_l hrl c0 f0 h0 c1 f1 h1 c2 f2 h2 c3 f3 h3 c4 f4 h4 c5 f5 h5
   go_roundw
   case rel=>
    obtain ⟨ds,hds,hdz⟩:=six6_lies (i:=k*6) R (.int .i64 a0) (.int .i64 a1) (.int .i64 a2) (.int .i64 a3) (.int .i64 a4) (.int .i64 a5)
    exact ⟨k+1,ds,by omega,by go_num,hds,hdz.trans hsz,six6_far D0 (by omega) (.int .i64 a0) (.int .i64 a1) (.int .i64 a2) (.int .i64 a3) (.int .i64 a4) (.int .i64 a5),six6_below DB (by omega) (.int .i64 a0) (.int .i64 a1) (.int .i64 a2) (.int .i64 a3) (.int .i64 a4) (.int .i64 a5)⟩
   case measure=>simp [intOf];omega
  ·skip
   have hk4:4096<n:=by omega
   have hkn2:¬ (k:Int)<(n:Int):=by omega
   clear R hsz hk hkn hn1 hn2
   obtain ⟨⟨kD0_0,kD0_1,kD0_2,kD0_3,kD0_4,kD0_5⟩,-⟩:=six_cells D0
   have kD0_l:=lies.lt D0
   go_wp2_with fail
   clear kD0_0 kD0_1 kD0_2 kD0_3 kD0_4 kD0_5 kD0_l
   refine (cover.in_long a0 a1 a2 a3 a4 a5 (some ⟨XR,0,none⟩) n n wr hk4).mono ?_
   rintro e w1 ⟨hB,rfl⟩
   replace D0:=lies.on_call D0 hB
   replace DB:=later DB hB
   clear hB
   go_wp2_with fail
   refine (cover.all_long (some ⟨XR,0,none⟩) n n none 0 0 w1 (.inl hk4)).mono ?_
   rintro e w2 ⟨hB,rfl⟩
   replace D0:=lies.on_call D0 hB
   replace DB:=later DB hB
   clear hB
   go_wp2_with fail
   refine (cover.all_long none 0 0 (some ⟨XR,0,none⟩) n n w2 (.inr hk4)).mono ?_
   rintro e w3 ⟨hB,rfl⟩
   replace D0:=lies.on_call D0 hB
   replace DB:=later DB hB
   clear hB
   go_wp2_with fail
   refine (cover.prune_long (some ⟨XR,0,none⟩) n n w3 hk4).mono ?_
   rintro e w4 ⟨hB,rfl⟩
   replace D0:=lies.on_call D0 hB
   replace DB:=later DB hB
   clear hB
   obtain ⟨⟨kD0_0,kD0_1,kD0_2,kD0_3,kD0_4,kD0_5⟩,-⟩:=six_cells D0
   have kD0_l:=lies.lt D0
   go_wp2_with fail
   clear kD0_0 kD0_1 kD0_2 kD0_3 kD0_4 kD0_5 kD0_l
   refine (cover.witness_long a0 a1 a2 a3 a4 a5 (some ⟨XR,0,none⟩) n n w4 hk4).mono ?_
   rintro e w5 ⟨hB,rfl⟩
   replace D0:=lies.on_call D0 hB
   replace DB:=later DB hB
   clear hB
   go_wp2_with fail
   go_ret
   exact ⟨rfl,lies.frame_up DB _⟩
end Go.Proofs.YthmljpccbjolgaaGreatDoor.coverLong
