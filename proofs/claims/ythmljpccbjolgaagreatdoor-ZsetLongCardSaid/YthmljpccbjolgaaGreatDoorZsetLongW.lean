
/-
  ZsetLong answers true (the walk) for any number; the listed variables read as the program lays them.
-/
import Derived.Test.YthmljpccbjolgaaGreatDoorZsetL
import Derived.BigQuiet
namespace Go.Proofs.YthmljpccbjolgaaGreatDoor.zsetLong
open Go.Joins Go.ChangeShapes Go.WideShapes Go.ChangeAt Go.RowKit num rat dbm Go.Proofs.YthmljpccbjolgaaGreatDoor.tight Go.Proofs.YthmljpccbjolgaaGreatDoor.incl Go.Proofs.YthmljpccbjolgaaGreatDoor.plaw Go.Proofs.YthmljpccbjolgaaGreatDoor.zopen Go.Proofs.YthmljpccbjolgaaGreatDoor.zone Go.Proofs.YthmljpccbjolgaaGreatDoor.zlaw Go.Proofs.YthmljpccbjolgaaGreatDoor.comp Go.Proofs.YthmljpccbjolgaaGreatDoor.win Go.Proofs.YthmljpccbjolgaaGreatDoor.minus Go.Proofs.YthmljpccbjolgaaGreatDoor.mz Go.Proofs.YthmljpccbjolgaaGreatDoor.mlaw Go.Proofs.YthmljpccbjolgaaGreatDoor.cover Go.Proofs.YthmljpccbjolgaaGreatDoor.claw Go.Proofs.YthmljpccbjolgaaGreatDoor.zset Go.Proofs.YthmljpccbjolgaaGreatDoor.slaw
open bound hiding up
set_option linter.unusedVariables false
set_option linter.unusedSimpArgs false
theorem make_zones (n:Nat) (hn:n≤1000000) (W:World):(Instr.makeSlice 29 (.int .i64 (n:Int)) (.int .i64 (n:Int))).run Tryz.prog W=.ok (.slice (some ⟨W.heap.size,0,none⟩) n n) (W.alloc (.cells (madeCells #[.int .i64 0,.int .i64 0,.int .i64 0,.int .i64 0,.int .i64 0,.int .i64 0] (n*6)) 27)):=by
 obtain ⟨i,hi,hz,hs,hby⟩:=info_parts info_z
 have h:=run_make (P:=Tryz.prog) (w:=W) 29 27 i _ Tryz.underlying29 hi hz .i64 .i64 n n (by omega) (Int.le_refl _) (by rw [hby];omega) (by omega)
 rw [Int.toNat_natCast,hs] at h
 exact h
theorem rep_len (n:Nat):(List.replicate n ([]:List Int)).length=n:=List.length_replicate
theorem chk_n {n:Nat} {c:Int} {m:List (List Int)} (hn:4096<n) (h:ChkR (List.replicate n []) m c∨ChkR m (List.replicate n []) c):c=4:=by
 rcases h with h | h
 ·exact chk_long h (.inl (by rw [rep_len];exact hn))
 ·exact chk_long h (.inr (by rw [rep_len];exact hn))
theorem both_long {R:Rel} {T:List Int→To} {n:Nat} {r m:List (List Int)} {f:Int} (hn:4096<n) (h:BothX R T (List.replicate n []) m r f∨BothX R T m (List.replicate n []) r f):f=4:=by
 rcases h with ⟨c,hc,q⟩ | ⟨c,hc,q⟩
 ·obtain rfl:=chk_n hn (.inl hc)
  rcases q with ⟨_,_,q⟩ | ⟨q,_⟩
  ·exact q
  ·cases q
 ·obtain rfl:=chk_n hn (.inr hc)
  rcases q with ⟨_,_,q⟩ | ⟨q,_⟩
  ·exact q
  ·cases q
theorem or_long {R:Rel} {n:Nat} {r m:List (List Int)} {f:Int} (hn:4096<n) (h:OrX R (List.replicate n []) m r f):f=4:=by
 obtain ⟨c,hc,q⟩:=h
 obtain rfl:=chk_n hn (.inl hc)
 rcases q with ⟨_,_,q⟩ | ⟨q,_⟩
 ·exact q
 ·cases q
theorem each_long {R:Rel} {T:To} {c0:Int} {n:Nat} {r:List (List Int)} {f:Int} (hn:4096<n) (h:EachX R T c0 (List.replicate n []) r f):f=4:=by
 obtain ⟨c,hc,q⟩:=h
 obtain rfl:=chk_n hn (.inl hc)
 rcases q with ⟨_,_,q⟩ | ⟨q,_⟩
 ·exact q
 ·cases q
theorem has_long {n:Nat} {p:Pt} {is:Bool} {f:Int} (hn:4096<n) (h:HasX (List.replicate n []) p is f):f=4:=by
 obtain ⟨c,hc,q⟩:=h
 obtain rfl:=chk_n hn (.inl hc)
 rcases q with ⟨_,_,q⟩ | ⟨q,_⟩
 ·exact q
 ·cases q
set_option maxRecDepth 100000 in
set_option maxHeartbeats 16000000 in
theorem walk (m:Int) (w:World) (hu:0≤m∧m≤255) (hP:Pl w) (hA:Pa w):Calls Tryz.prog 6 #[.int .u8 m] w fun e w'=>e=.returned (.bool true)∧Below w.heap.size w w':=by
 obtain ⟨n,hn,hn1,hn2⟩:∃ n:Nat,(4097:Int)+m=(n:Int)∧4097≤n∧n≤4352:=⟨(4097+m).toNat,by omega,by omega,by omega⟩
 have hmk:=make_zones n (by omega)
 have hw1:IntKind.i64.wrap m=m:=IntWalk.i64_in _ ⟨by omega,by omega⟩
 have hw2:IntKind.i64.wrap ((4097:Int)+m)=(n:Int):=by rw [hn];exact IntWalk.i64_in _ ⟨by omega,by omega⟩
 have hw3:wrap64 ((4097:Int)+m)=(n:Int):=by rw [hn];exact IntWalk.wrap64_in _ ⟨by omega,by omega⟩
 have HW2:=Lib.hid hw2
 have HW3:=Lib.hid hw3
 clear hw2 hw3 hn
 have hk4:4096<n:=by omega
 have HMK:=Lib.hid hmk
 clear hmk
 have hA0:=bound.up1 w (.cells (madeCells #[.int .i64 0,.int .i64 0,.int .i64 0,.int .i64 0,.int .i64 0,.int .i64 0] (n*6)) 27)
 have P0:=hP.on hA0
 have PA:=hA.on hA0
 have DB:=hA0
 clear hP hA hA0 hu
 have hw2:=HW2.out
 have hw3:=HW3.out
 have hmk:=HMK.out
 go_enter Tryz.func6,Tryz.ntmps6
 go_wp2_with fail
 clear hw1 hw2 hw3 HW2 HW3 hmk HMK
 generalize w.alloc (.cells (madeCells #[.int .i64 0,.int .i64 0,.int .i64 0,.int .i64 0,.int .i64 0,.int .i64 0] (n*6)) 27)=w0 at P0 PA DB ⊢
 refine (and_gen (some ⟨w.heap.size,0,none⟩) n n (List.replicate n []) none 0 0 [] w0 P0 (fun h _=>absurd h (by omega)) (rep_len n) rfl).mono ?_
 rintro e w1 ⟨hB,v1,r1,f,rfl,hR,hO⟩
 obtain ⟨a1,c1,rfl⟩:=zs_len (zs_own hO)
 obtain rfl:=both_long hk4 (.inl hR)
 clear hR hO
 replace PA:=PA.on hB
 replace P0:=P0.on hB
 replace DB:=later DB hB
 clear hB
 generalize r1.length=m1
 go_wp2_with fail
 refine (zcomp_gen none 0 0 [] (some ⟨w.heap.size,0,none⟩) n n (List.replicate n []) w1 P0 (fun _ h=>absurd h (by omega)) rfl (rep_len n)).mono ?_
 rintro e w2 ⟨hB,v2,r2,f,rfl,hR,hO⟩
 obtain ⟨a2,c2,rfl⟩:=zs_len (zs_own hO)
 obtain rfl:=both_long hk4 (.inr hR)
 clear hR hO
 replace PA:=PA.on hB
 replace P0:=P0.on hB
 replace DB:=later DB hB
 clear hB
 generalize r2.length=m2
 go_wp2_with fail
 refine (or_gen (some ⟨w.heap.size,0,none⟩) n n (List.replicate n []) none 0 0 [] w2 P0 (fun h _=>absurd h (by omega)) (rep_len n) rfl).mono ?_
 rintro e w3 ⟨hB,v3,r3,f,rfl,hR,hO⟩
 obtain ⟨a3,c3,rfl⟩:=zs_len (zs_own hO)
 obtain rfl:=or_long hk4 hR
 clear hR hO
 replace PA:=PA.on hB
 replace P0:=P0.on hB
 replace DB:=later DB hB
 clear hB
 generalize r3.length=m3
 go_wp2_with fail
 refine (within_gen (some ⟨w.heap.size,0,none⟩) n n (List.replicate n []) 0 false 0 false false w3 P0 PA (fun h=>absurd h (by omega)) (rep_len n)).mono ?_
 rintro e w4 ⟨hB,v4,r4,f,rfl,hR,hO⟩
 obtain ⟨a4,c4,rfl⟩:=zs_len (zs_own hO)
 obtain rfl:=(hR.elim fun c h=>each_long hk4 h.2)
 clear hR hO
 replace PA:=PA.on hB
 replace P0:=P0.on hB
 replace DB:=later DB hB
 clear hB
 generalize r4.length=m4
 go_wp2_with fail
 refine (zhas_gen (some ⟨w.heap.size,0,none⟩) n n (List.replicate n []) 0 0 0 0 w4 P0 PA (fun h=>absurd h (by omega)) (rep_len n) (fun x hx=>by simp only [List.mem_cons,List.not_mem_nil,or_false] at hx;omega)).mono ?_
 rintro e u ⟨hB,q,f,rfl,hR⟩
 obtain rfl:=has_long hk4 hR
 replace DB:=later DB hB
 clear hR hB
 go_wp2_with fail
 go_ret
 exact ⟨rfl,DB⟩
end Go.Proofs.YthmljpccbjolgaaGreatDoor.zsetLong
