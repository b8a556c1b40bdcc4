
/-
  ZsetWindows answers true (the walk) for every set, span and three numbers; the listed variables read as the program lays them.
-/
import Derived.Test.YthmljpccbjolgaaGreatDoorZsetL
import Derived.BigQuiet
namespace Go.Proofs.YthmljpccbjolgaaGreatDoor.zsetWindows
open Go.Joins Go.ChangeShapes Go.WideShapes Go.ChangeAt Go.RowKit num rat dbm Go.Proofs.YthmljpccbjolgaaGreatDoor.tight Go.Proofs.YthmljpccbjolgaaGreatDoor.incl Go.Proofs.YthmljpccbjolgaaGreatDoor.plaw Go.Proofs.YthmljpccbjolgaaGreatDoor.zopen Go.Proofs.YthmljpccbjolgaaGreatDoor.zone Go.Proofs.YthmljpccbjolgaaGreatDoor.zlaw Go.Proofs.YthmljpccbjolgaaGreatDoor.comp Go.Proofs.YthmljpccbjolgaaGreatDoor.win Go.Proofs.YthmljpccbjolgaaGreatDoor.minus Go.Proofs.YthmljpccbjolgaaGreatDoor.mz Go.Proofs.YthmljpccbjolgaaGreatDoor.mlaw Go.Proofs.YthmljpccbjolgaaGreatDoor.cover Go.Proofs.YthmljpccbjolgaaGreatDoor.claw Go.Proofs.YthmljpccbjolgaaGreatDoor.zset Go.Proofs.YthmljpccbjolgaaGreatDoor.slaw
open bound hiding up
set_option linter.unusedVariables false
set_option linter.unusedSimpArgs false
theorem win_iff {x y a b:Int}:inS (winS x y) a b=true↔x*b<a∧a≤y*b:=by
 unfold inS
 rw [Bool.and_eq_true]
 exact ⟨fun ⟨h1,h2⟩=>⟨of_decide_eq_true (show decide (x*b<a)=true from h1),of_decide_eq_true (show decide (a≤y*b)=true from h2)⟩,fun ⟨h1,h2⟩=>⟨show decide (x*b<a)=true from decide_eq_true h1,show decide (a≤y*b)=true from decide_eq_true h2⟩⟩
theorem win_split {x m y a b:Int} (hb:0<b) (h1:x<m) (h2:m<y):inS (winS x y) a b=true↔inS (winS x m) a b=true∨inS (winS m y) a b=true:=by
 rw [win_iff,win_iff,win_iff]
 have k1:=Int.mul_le_mul_of_nonneg_right (Int.le_of_lt h1) (Int.le_of_lt hb)
 have k2:=Int.mul_le_mul_of_nonneg_right (Int.le_of_lt h2) (Int.le_of_lt hb)
 omega
theorem late_pt {x y:Int} {p:Pt} (h:MayW x y) (m:MayQ p):hasP (lateZ (winS x y)) p=true↔inS (winS x y) p.2.2.1 p.2.2.2=true:=by
 unfold hasP
 rw [has_kept m.1 m.2]
 exact late_kept (winS_may h) m.1 m.2
theorem win_fine {x y:Int} {l r:List (List Int)} (hl:Six l) (h:∃ c,NuC x y c∧EachX RestP (LatT x y) c l r 0):MayW x y∧(∀ z,z ∈ r→Zo z)∧r.length≤l.length∧∀ p,MayQ p→((∃ z,z ∈ r∧hasP z p=true)↔(∃ z,z ∈ l∧hasP z p=true)∧inS (winS x y) p.2.2.1 p.2.2.2=true):=by
 obtain ⟨c,h1,h2⟩:=h
 obtain ⟨_,k1,k2,_,_,k3⟩:=each_fine window_zo hl h2
 have hw:MayW x y:=by
  rcases h1 with ⟨k,_⟩ | ⟨_,k⟩
  ·exact k
  ·rw [k] at k3;cases k3
 refine ⟨hw,k1,k2,fun p m=>?_⟩
 rw [each_has (Q:=fun z p=>hasP z p=true∧hasP (lateZ (winS x y)) p=true) m window_zo (window_p0 m) (window_p6 m) hl h2,←late_pt hw m]
 exact ⟨fun ⟨z,hz,j,i⟩=>⟨⟨z,hz,j⟩,i⟩,fun ⟨⟨z,hz,j⟩,i⟩=>⟨z,hz,j,i⟩⟩
theorem wit_fine {s:Sp} {l r:List (List Int)} (hl:Six l) (h:∃ c,SpC s c∧EachX RestP (WinT s) c l r 0):(∀ z,z ∈ r→Zo z)∧r.length≤l.length∧∀ p,MayQ p→((∃ z,z ∈ r∧hasP z p=true)↔(∃ z,z ∈ l∧hasP z p=true)∧hasP (diffZ s) p=true):=by
 obtain ⟨c,h1,h2⟩:=h
 obtain ⟨_,k1,k2,_,_,k3⟩:=each_fine within_zo hl h2
 refine ⟨k1,k2,fun p m=>?_⟩
 rw [each_has (Q:=fun z p=>hasP z p=true∧hasP (diffZ s) p=true) m within_zo (within_p0 m) (within_p6 m) hl h2]
 exact ⟨fun ⟨z,hz,j,i⟩=>⟨⟨z,hz,j⟩,i⟩,fun ⟨⟨z,hz,j⟩,i⟩=>⟨z,hz,j,i⟩⟩
theorem follow {x m y:Int} {l a b c d:List (List Int)} {is:Bool} {i:Int} (hl:Six l) (l4:l.length≤4) (ha:∃ q,NuC x m q∧EachX RestP (LatT x m) q l a 0) (hb:∃ q,NuC m y q∧EachX RestP (LatT m y) q l b 0) (hc:∃ q,NuC x y q∧EachX RestP (LatT x y) q l c 0) (h:OrX RestP a b d 0) (k:SameX RestP d c is i):i≠0∨is=true:=by
 obtain ⟨w1,z1,n1,p1⟩:=win_fine hl ha
 obtain ⟨w2,z2,n2,p2⟩:=win_fine hl hb
 obtain ⟨w3,z3,n3,p3⟩:=win_fine hl hc
 obtain ⟨_,_,z4,n4,_,_,p4⟩:=or_fine (six_zo z1) (six_zo z2) h
 refine same_sub (six_zo z4) (six_zo z3) (fun p q=>?_) (by omega) (by omega) k
 rw [p4 p q,p1 p q,p2 p q,p3 p q,win_split q.2.1 w1.2.2 w2.2.2]
 exact ⟨fun h=>h.elim (fun ⟨u,v⟩=>⟨u,.inl v⟩) (fun ⟨u,v⟩=>⟨u,.inr v⟩),fun ⟨u,v⟩=>v.elim (fun v=>.inl ⟨u,v⟩) (fun v=>.inr ⟨u,v⟩)⟩
theorem swap {s:Sp} {x m:Int} {l a r y z:List (List Int)} {is le:Bool} {i j:Int} (hl:Six l) (l4:l.length≤4) (ha:∃ q,NuC x m q∧EachX RestP (LatT x m) q l a 0) (hr:∃ q,SpC s q∧EachX RestP (WinT s) q a r 0) (hy:∃ q,SpC s q∧EachX RestP (WinT s) q l y 0) (hz:∃ q,NuC x m q∧EachX RestP (LatT x m) q y z 0) (k:SameX RestP r z is i) (k':AllX RestP r l le j):(i≠0∨is=true)∧(j≠0∨le=true):=by
 obtain ⟨w1,z1,n1,p1⟩:=win_fine hl ha
 obtain ⟨z2,n2,p2⟩:=wit_fine (six_zo z1) hr
 obtain ⟨z3,n3,p3⟩:=wit_fine hl hy
 obtain ⟨w4,z4,n4,p4⟩:=win_fine (six_zo z3) hz
 refine ⟨same_sub (six_zo z2) (six_zo z4) (fun p q=>?_) (by omega) (by omega) k,all_sub (six_zo z2) hl (fun p q h=>?_) (by omega) k'⟩
 ·rw [p2 p q,p1 p q,p4 p q,p3 p q]
  exact ⟨fun ⟨⟨u,v⟩,t⟩=>⟨⟨u,t⟩,v⟩,fun ⟨⟨u,t⟩,v⟩=>⟨⟨u,v⟩,t⟩⟩
 ·exact ((p1 p q).1 ((p2 p q).1 h).1).1
set_option maxRecDepth 100000 in
set_option maxHeartbeats 64000000 in
theorem walk (v:Value) (l:List (List Int)) (lo:Int) (ls:Bool) (hi:Int) (hs op:Bool) (fr md hg:Int) (w:World) (hfr:-9223372036854775808≤fr∧fr≤9223372036854775807) (hmd:-9223372036854775808≤md∧md≤9223372036854775807) (hhg:-9223372036854775808≤hg∧hg≤9223372036854775807) (hwf:Wf6 l) (hI:Zs w.heap.size w v l) (hm:l.length≤maxLen) (hc:∀ a l c,v=.slice a l c→l≤c) (hP:Pl w) (hA:Pa w):Calls Tryz.prog 10 #[v,.agg #[.int .i64 lo,.bool ls,.int .i64 hi,.bool hs,.bool op],.int .i64 fr,.int .i64 md,.int .i64 hg] w fun e w'=>e=.returned (.bool true)∧Below w.heap.size w w':=by
 obtain ⟨aa,ca,rfl⟩:=zs_len hI
 have H6a:=Lib.hid (show Six l from fun z hz=>⟨(hwf z hz).1,hwf.tops hz⟩)
 have HVa:=Lib.hid hI
 clear hwf hI hm hc
 obtain ⟨na,hna⟩:∃ n,n=l.length:=⟨_,rfl⟩
 have HLa:=Lib.hid hna.symm
 rw [←hna] at HVa ⊢
 clear hna
 have X:∃ w0,w0=w.alloc (.cells #[.int .i64 lo,.bool ls,.int .i64 hi,.bool hs,.bool op] 35):=⟨_,rfl⟩
 obtain ⟨w0,hX⟩:=X
 have DB:Below w.heap.size w w0:=by rw [hX];exact bound.up1 w _
 have DS:lies.Lies w0 w.heap.size 35 #[.int .i64 lo,.bool ls,.int .i64 hi,.bool hs,.bool op]:=by rw [hX];exact lies.made _ _ _
 have P0:=hP.on DB
 have PA:=hA.on DB
 replace HVa:=Lib.hid ((HVa.out.below DB).mono DB.size)
 clear hP hA
 go_enter Tryz.func10,Tryz.ntmps10
 go_wp2_with fail
 rw [←hX]
 clear hX
 refine (slaw.alive_yes w0 P0).mono ?_
 rintro e w1 ⟨rfl,hB⟩
 replace PA:=PA.on hB
 replace DS:=lies.on_call DS hB
 replace HVa:=Lib.hid ((HVa.out.below hB).mono hB.size)
 replace P0:=P0.on hB
 replace DB:=later DB hB
 clear hB
 by_cases ha:na≤4
 case neg=>
  have hai:(4:Int)<(na:Int):=by omega
  go_wp2_with fail
  go_ret
  exact ⟨rfl,DB⟩
 have hai:¬ (4:Int)<(na:Int):=by omega
 have hla:l.length≤4:=by rw [HLa.out];exact ha
 go_wp2_with fail
 clear hai
 refine (window_gen aa na ca l fr md w1 P0 PA (fun _=>⟨HVa.out,H6a.out⟩) HLa.out).mono ?_
 rintro e w2 ⟨hB,vx,rx,ex,rfl,hR,hO⟩
 obtain ⟨ax,cx,rfl⟩:=zs_len (zs_own hO)
 have HVx:=Lib.hid (zs_own hO)
 have HRx:=Lib.hid hR
 replace PA:=PA.on hB
 replace DS:=lies.on_call DS hB
 replace HVa:=Lib.hid ((HVa.out.below hB).mono hB.size)
 replace P0:=P0.on hB
 replace DB:=later DB hB
 clear hB hR hO
 have hsx:=HRx.out.elim fun c h=>each_six window_zo H6a.out h.2
 have H6x:=Lib.hid hsx.1
 have HSx:=Lib.hid hsx.2
 clear hsx
 generalize hn:rx.length=nx at HVx ⊢
 have HLx:=Lib.hid hn
 clear hn
 go_wp2_with fail
 refine (window_gen aa na ca l md hg w2 P0 PA (fun _=>⟨HVa.out,H6a.out⟩) HLa.out).mono ?_
 rintro e w3 ⟨hB,vy,ry,ey,rfl,hR,hO⟩
 obtain ⟨ay,cy,rfl⟩:=zs_len (zs_own hO)
 have HVy:=Lib.hid (zs_own hO)
 have HRy:=Lib.hid hR
 replace PA:=PA.on hB
 replace DS:=lies.on_call DS hB
 replace HVa:=Lib.hid ((HVa.out.below hB).mono hB.size)
 replace HVx:=Lib.hid ((HVx.out.below hB).mono hB.size)
 replace P0:=P0.on hB
 replace DB:=later DB hB
 clear hB hR hO
 have hsx:=HRy.out.elim fun c h=>each_six window_zo H6a.out h.2
 have H6y:=Lib.hid hsx.1
 have HSy:=Lib.hid hsx.2
 clear hsx
 generalize hn:ry.length=ny at HVy ⊢
 have HLy:=Lib.hid hn
 clear hn
 go_wp2_with fail
 refine (window_gen aa na ca l fr hg w3 P0 PA (fun _=>⟨HVa.out,H6a.out⟩) HLa.out).mono ?_
 rintro e w4 ⟨hB,vz,rz,ez,rfl,hR,hO⟩
 obtain ⟨az,cz,rfl⟩:=zs_len (zs_own hO)
 have HVz:=Lib.hid (zs_own hO)
 have HRz:=Lib.hid hR
 replace PA:=PA.on hB
 replace DS:=lies.on_call DS hB
 replace HVa:=Lib.hid ((HVa.out.below hB).mono hB.size)
 replace HVx:=Lib.hid ((HVx.out.below hB).mono hB.size)
 replace HVy:=Lib.hid ((HVy.out.below hB).mono hB.size)
 replace P0:=P0.on hB
 replace DB:=later DB hB
 clear hB hR hO
 have hsx:=HRz.out.elim fun c h=>each_six window_zo H6a.out h.2
 have H6z:=Lib.hid hsx.1
 have HSz:=Lib.hid hsx.2
 clear hsx
 generalize hn:rz.length=nz at HVz ⊢
 have HLz:=Lib.hid hn
 clear hn
 by_cases k3:ex=0∧ey=0∧ez=0
 ·obtain ⟨kx,ky,kz⟩:=k3
  subst ky kz
  subst kx
  go_wp2_with fail
  refine (or_gen ax nx cx rx ay ny cy ry w4 P0 (fun _ _=>⟨⟨HVx.out,H6x.out⟩,HVy.out,H6y.out⟩) HLx.out HLy.out).mono ?_
  rintro e w5 ⟨hB,vd,rd,ed,rfl,hR,hO⟩
  obtain ⟨ad,cd,rfl⟩:=zs_len (zs_own hO)
  have HVd:=Lib.hid (zs_own hO)
  have HRd:=Lib.hid hR
  replace PA:=PA.on hB
  replace DS:=lies.on_call DS hB
  replace HVa:=Lib.hid ((HVa.out.below hB).mono hB.size)
  replace HVx:=Lib.hid ((HVx.out.below hB).mono hB.size)
  replace HVy:=Lib.hid ((HVy.out.below hB).mono hB.size)
  replace HVz:=Lib.hid ((HVz.out.below hB).mono hB.size)
  replace P0:=P0.on hB
  replace DB:=later DB hB
  clear hB hR hO
  have hsx:=or_six H6x.out H6y.out HRd.out
  have H6d:=Lib.hid hsx.1
  have HSd:=Lib.hid hsx.2
  clear hsx
  generalize hn:rd.length=nd at HVd ⊢
  have HLd:=Lib.hid hn
  clear hn
  go_wp2_with fail
  have hnd:nd≤1000000:=by have:=HSd.out;have:=HSx.out;have:=HSy.out;have:=HLd.out;omega
  have hnz:nz≤1000000:=by have:=HSz.out;have:=HLz.out;omega
  refine (zsame_any ad nd cd rd az nz cz rz w5 P0 HVd.out H6d.out HLd.out hnd HVz.out H6z.out HLz.out hnz).mono ?_
  rintro e w6 ⟨hB,qf,ef,rfl,hR⟩
  have HRf:=Lib.hid hR
  replace PA:=PA.on hB
  replace DS:=lies.on_call DS hB
  replace HVa:=Lib.hid ((HVa.out.below hB).mono hB.size)
  replace HVx:=Lib.hid ((HVx.out.below hB).mono hB.size)
  replace HVy:=Lib.hid ((HVy.out.below hB).mono hB.size)
  replace HVz:=Lib.hid ((HVz.out.below hB).mono hB.size)
  replace HVd:=Lib.hid ((HVd.out.below hB).mono hB.size)
  replace P0:=P0.on hB
  replace DB:=later DB hB
  clear hB hR
  have hf:ed≠0∨ef≠0∨qf=true:=by
   by_cases k:ed=0
   ·subst k;exact .inr (follow H6a.out hla HRx.out HRy.out HRz.out HRd.out HRf.out)
   ·exact .inl k
  clear HRd HRf HRy HRz HVd HVy HVz hnd hnz HSd HSy HSz H6d H6y H6z HLd HLy HLz
  obtain hf | ⟨rfl,hf⟩ | ⟨rfl,rfl,rfl⟩:¬ ed=0∨(ed=0∧¬ ef=0)∨(ed=0∧ef=0∧qf=true):=by
   by_cases k:ed=0
   ·by_cases j:ef=0
    ·exact .inr (.inr ⟨k,j,(hf.resolve_left (fun q=>q k)).resolve_left (fun q=>q j)⟩)
    ·exact .inr (.inl ⟨k,j⟩)
   ·exact .inl k
  all_goals (try (have hfb:(ed==0)=false:=beq_eq_false_iff_ne.2 hf))
  all_goals (try (have hfb:(ef==0)=false:=beq_eq_false_iff_ne.2 hf))
  all_goals
   obtain ⟨⟨kDS_0,kDS_1,kDS_2,kDS_3,kDS_4⟩,-⟩:=five_cells DS
   have kDS_l:=lies.lt DS
   go_wp2_with fail
   clear kDS_0 kDS_1 kDS_2 kDS_3 kDS_4 kDS_l
   refine (within_gen ax nx cx rx lo ls hi hs op w6 P0 PA (fun _=>⟨HVx.out,H6x.out⟩) HLx.out).mono ?_
   rintro e w7 ⟨hB,vp,rp,ep,rfl,hR,hO⟩
   obtain ⟨ap,cp,rfl⟩:=zs_len (zs_own hO)
   have HVp:=Lib.hid (zs_own hO)
   have HRp:=Lib.hid hR
   replace PA:=PA.on hB
   replace DS:=lies.on_call DS hB
   replace HVa:=Lib.hid ((HVa.out.below hB).mono hB.size)
   replace HVx:=Lib.hid ((HVx.out.below hB).mono hB.size)
   replace P0:=P0.on hB
   replace DB:=later DB hB
   clear hB hR hO
   have hsx:=HRp.out.elim fun c h=>each_six within_zo H6x.out h.2
   have H6p:=Lib.hid hsx.1
   have HSp:=Lib.hid hsx.2
   clear hsx
   generalize hn:rp.length=np at HVp ⊢
   have HLp:=Lib.hid hn
   clear hn
   obtain ⟨⟨kDS_0,kDS_1,kDS_2,kDS_3,kDS_4⟩,-⟩:=five_cells DS
   have kDS_l:=lies.lt DS
   go_wp2_with fail
   clear kDS_0 kDS_1 kDS_2 kDS_3 kDS_4 kDS_l
   refine (within_gen aa na ca l lo ls hi hs op w7 P0 PA (fun _=>⟨HVa.out,H6a.out⟩) HLa.out).mono ?_
   rintro e w8 ⟨hB,vq,rq,eq,rfl,hR,hO⟩
   obtain ⟨aq,cq,rfl⟩:=zs_len (zs_own hO)
   have HVq:=Lib.hid (zs_own hO)
   have HRq:=Lib.hid hR
   replace PA:=PA.on hB
   replace DS:=lies.on_call DS hB
   replace HVa:=Lib.hid ((HVa.out.below hB).mono hB.size)
   replace HVx:=Lib.hid ((HVx.out.below hB).mono hB.size)
   replace HVp:=Lib.hid ((HVp.out.below hB).mono hB.size)
   replace P0:=P0.on hB
   replace DB:=later DB hB
   clear hB hR hO
   have hsx:=HRq.out.elim fun c h=>each_six within_zo H6a.out h.2
   have H6q:=Lib.hid hsx.1
   have HSq:=Lib.hid hsx.2
   clear hsx
   generalize hn:rq.length=nq at HVq ⊢
   have HLq:=Lib.hid hn
   clear hn
   clear DS
   go_wp2_with fail
   refine (window_gen aq nq cq rq fr md w8 P0 PA (fun _=>⟨HVq.out,H6q.out⟩) HLq.out).mono ?_
   rintro e w9 ⟨hB,vk,rk,ek,rfl,hR,hO⟩
   obtain ⟨ak,ck,rfl⟩:=zs_len (zs_own hO)
   have HVk:=Lib.hid (zs_own hO)
   have HRk:=Lib.hid hR
   replace PA:=PA.on hB
   replace HVa:=Lib.hid ((HVa.out.below hB).mono hB.size)
   replace HVx:=Lib.hid ((HVx.out.below hB).mono hB.size)
   replace HVp:=Lib.hid ((HVp.out.below hB).mono hB.size)
   replace HVq:=Lib.hid ((HVq.out.below hB).mono hB.size)
   replace P0:=P0.on hB
   replace DB:=later DB hB
   clear hB hR hO
   have hsx:=HRk.out.elim fun c h=>each_six window_zo H6q.out h.2
   have H6k:=Lib.hid hsx.1
   have HSk:=Lib.hid hsx.2
   clear hsx
   generalize hn:rk.length=nk at HVk ⊢
   have HLk:=Lib.hid hn
   clear hn
   by_cases kp:ep=0
   case neg=>
    have kbp:(ep==0)=false:=beq_eq_false_iff_ne.2 kp
    go_wp2_with fail
    go_ret
    exact ⟨rfl,DB⟩
   by_cases kq:eq=0
   case neg=>
    have kbq:(eq==0)=false:=beq_eq_false_iff_ne.2 kq
    go_wp2_with fail
    go_ret
    exact ⟨rfl,DB⟩
   by_cases kk:ek=0
   case neg=>
    have kbk:(ek==0)=false:=beq_eq_false_iff_ne.2 kk
    go_wp2_with fail
    go_ret
    exact ⟨rfl,DB⟩
   subst kp kq kk
   go_wp2_with fail
   have hnp:np≤4:=by have:=HSp.out;have:=HSx.out;have:=HLp.out;omega
   have hnk:nk≤4:=by have:=HSk.out;have:=HSq.out;have:=HLk.out;omega
   refine (zsame_any ap np cp rp ak nk ck rk w9 P0 HVp.out H6p.out HLp.out (by omega) HVk.out H6k.out HLk.out (by omega)).mono ?_
   rintro e w10 ⟨hB,qu,eu,rfl,hR⟩
   have HRu:=Lib.hid hR
   replace PA:=PA.on hB
   replace HVa:=Lib.hid ((HVa.out.below hB).mono hB.size)
   replace HVx:=Lib.hid ((HVx.out.below hB).mono hB.size)
   replace HVp:=Lib.hid ((HVp.out.below hB).mono hB.size)
   replace HVq:=Lib.hid ((HVq.out.below hB).mono hB.size)
   replace HVk:=Lib.hid ((HVk.out.below hB).mono hB.size)
   replace P0:=P0.on hB
   replace DB:=later DB hB
   clear hB hR
   go_wp2_with fail
   refine (zin_any ap np cp rp aa na ca l w10 P0 HVp.out H6p.out HLp.out (by omega) HVa.out H6a.out HLa.out (by omega)).mono ?_
   rintro e w11 ⟨hB,qv,ev,rfl,hR⟩
   have HRv:=Lib.hid hR
   replace PA:=PA.on hB
   replace HVa:=Lib.hid ((HVa.out.below hB).mono hB.size)
   replace HVx:=Lib.hid ((HVx.out.below hB).mono hB.size)
   replace HVp:=Lib.hid ((HVp.out.below hB).mono hB.size)
   replace HVq:=Lib.hid ((HVq.out.below hB).mono hB.size)
   replace HVk:=Lib.hid ((HVk.out.below hB).mono hB.size)
   replace P0:=P0.on hB
   replace DB:=later DB hB
   clear hB hR
   obtain ⟨hu,hv⟩:=swap H6a.out hla HRx.out HRp.out HRq.out HRk.out HRu.out HRv.out
   clear HRx HRp HRq HRk HRu HRv
   obtain hu | ⟨rfl,rfl⟩:¬ eu=0∨(eu=0∧qu=true):=by
    by_cases k:eu=0
    ·exact .inr ⟨k,hu.resolve_left (fun q=>q k)⟩
    ·exact .inl k
   all_goals (try (have hbu:(eu==0)=false:=beq_eq_false_iff_ne.2 hu))
   all_goals
    obtain hv | ⟨rfl,rfl⟩:¬ ev=0∨(ev=0∧qv=true):=by
     by_cases k:ev=0
     ·exact .inr ⟨k,hv.resolve_left (fun q=>q k)⟩
     ·exact .inl k
    all_goals (try (have hbv:(ev==0)=false:=beq_eq_false_iff_ne.2 hv))
    all_goals
     go_wp2_with fail
     go_ret
     exact ⟨rfl,DB⟩
 ·skip
  clear HRy HRz HVy HVz HSy HSz H6y H6z HLy HLz
  obtain k4 | ⟨k1,k4⟩ | ⟨k1,k2,k4⟩:¬ ex=0∨(ex=0∧¬ ey=0)∨(ex=0∧ey=0∧¬ ez=0):=by
   by_cases k:ex=0
   ·by_cases j:ey=0
    ·exact .inr (.inr ⟨k,j,fun q=>k3 ⟨k,j,q⟩⟩)
    ·exact .inr (.inl ⟨k,j⟩)
   ·exact .inl k
  ·have hfb:(ex==0)=false:=beq_eq_false_iff_ne.2 k4
   clear k3
   obtain ⟨⟨kDS_0,kDS_1,kDS_2,kDS_3,kDS_4⟩,-⟩:=five_cells DS
   have kDS_l:=lies.lt DS
   go_wp2_with fail
   clear kDS_0 kDS_1 kDS_2 kDS_3 kDS_4 kDS_l
   refine (within_gen ax nx cx rx lo ls hi hs op w4 P0 PA (fun _=>⟨HVx.out,H6x.out⟩) HLx.out).mono ?_
   rintro e w5 ⟨hB,vp,rp,ep,rfl,hR,hO⟩
   obtain ⟨ap,cp,rfl⟩:=zs_len (zs_own hO)
   have HVp:=Lib.hid (zs_own hO)
   have HRp:=Lib.hid hR
   replace PA:=PA.on hB
   replace DS:=lies.on_call DS hB
   replace HVa:=Lib.hid ((HVa.out.below hB).mono hB.size)
   replace HVx:=Lib.hid ((HVx.out.below hB).mono hB.size)
   replace P0:=P0.on hB
   replace DB:=later DB hB
   clear hB hR hO
   have hsx:=HRp.out.elim fun c h=>each_six within_zo H6x.out h.2
   have H6p:=Lib.hid hsx.1
   have HSp:=Lib.hid hsx.2
   clear hsx
   generalize hn:rp.length=np at HVp ⊢
   have HLp:=Lib.hid hn
   clear hn
   obtain ⟨⟨kDS_0,kDS_1,kDS_2,kDS_3,kDS_4⟩,-⟩:=five_cells DS
   have kDS_l:=lies.lt DS
   go_wp2_with fail
   clear kDS_0 kDS_1 kDS_2 kDS_3 kDS_4 kDS_l
   refine (within_gen aa na ca l lo ls hi hs op w5 P0 PA (fun _=>⟨HVa.out,H6a.out⟩) HLa.out).mono ?_
   rintro e w6 ⟨hB,vq,rq,eq,rfl,hR,hO⟩
   obtain ⟨aq,cq,rfl⟩:=zs_len (zs_own hO)
   have HVq:=Lib.hid (zs_own hO)
   have HRq:=Lib.hid hR
   replace PA:=PA.on hB
   replace DS:=lies.on_call DS hB
   replace HVa:=Lib.hid ((HVa.out.below hB).mono hB.size)
   replace HVx:=Lib.hid ((HVx.out.below hB).mono hB.size)
   replace HVp:=Lib.hid ((HVp.out.below hB).mono hB.size)
   replace P0:=P0.on hB
   replace DB:=later DB hB
   clear hB hR hO
   have hsx:=HRq.out.elim fun c h=>each_six within_zo H6a.out h.2
   have H6q:=Lib.hid hsx.1
   have HSq:=Lib.hid hsx.2
   clear hsx
   generalize hn:rq.length=nq at HVq ⊢
   have HLq:=Lib.hid hn
   clear hn
   clear DS
   go_wp2_with fail
   refine (window_gen aq nq cq rq fr md w6 P0 PA (fun _=>⟨HVq.out,H6q.out⟩) HLq.out).mono ?_
   rintro e w7 ⟨hB,vk,rk,ek,rfl,hR,hO⟩
   obtain ⟨ak,ck,rfl⟩:=zs_len (zs_own hO)
   have HVk:=Lib.hid (zs_own hO)
   have HRk:=Lib.hid hR
   replace PA:=PA.on hB
   replace HVa:=Lib.hid ((HVa.out.below hB).mono hB.size)
   replace HVx:=Lib.hid ((HVx.out.below hB).mono hB.size)
   replace HVp:=Lib.hid ((HVp.out.below hB).mono hB.size)
   replace HVq:=Lib.hid ((HVq.out.below hB).mono hB.size)
   replace P0:=P0.on hB
   replace DB:=later DB hB
   clear hB hR hO
   have hsx:=HRk.out.elim fun c h=>each_six window_zo H6q.out h.2
   have H6k:=Lib.hid hsx.1
   have HSk:=Lib.hid hsx.2
   clear hsx
   generalize hn:rk.length=nk at HVk ⊢
   have HLk:=Lib.hid hn
   clear hn
   go_wp2_with fail
   go_ret
   exact ⟨rfl,DB⟩
  ·have hfb:(ey==0)=false:=beq_eq_false_iff_ne.2 k4
   clear k3
   subst k1
   obtain ⟨⟨kDS_0,kDS_1,kDS_2,kDS_3,kDS_4⟩,-⟩:=five_cells DS
   have kDS_l:=lies.lt DS
   go_wp2_with fail
   clear kDS_0 kDS_1 kDS_2 kDS_3 kDS_4 kDS_l
   refine (within_gen ax nx cx rx lo ls hi hs op w4 P0 PA (fun _=>⟨HVx.out,H6x.out⟩) HLx.out).mono ?_
   rintro e w5 ⟨hB,vp,rp,ep,rfl,hR,hO⟩
   obtain ⟨ap,cp,rfl⟩:=zs_len (zs_own hO)
   have HVp:=Lib.hid (zs_own hO)
   have HRp:=Lib.hid hR
   replace PA:=PA.on hB
   replace DS:=lies.on_call DS hB
   replace HVa:=Lib.hid ((HVa.out.below hB).mono hB.size)
   replace HVx:=Lib.hid ((HVx.out.below hB).mono hB.size)
   replace P0:=P0.on hB
   replace DB:=later DB hB
   clear hB hR hO
   have hsx:=HRp.out.elim fun c h=>each_six within_zo H6x.out h.2
   have H6p:=Lib.hid hsx.1
   have HSp:=Lib.hid hsx.2
   clear hsx
   generalize hn:rp.length=np at HVp ⊢
   have HLp:=Lib.hid hn
   clear hn
   obtain ⟨⟨kDS_0,kDS_1,kDS_2,kDS_3,kDS_4⟩,-⟩:=five_cells DS
   have kDS_l:=lies.lt DS
   go_wp2_with fail
   clear kDS_0 kDS_1 kDS_2 kDS_3 kDS_4 kDS_l
   refine (within_gen aa na ca l lo ls hi hs op w5 P0 PA (fun _=>⟨HVa.out,H6a.out⟩) HLa.out).mono ?_
   rintro e w6 ⟨hB,vq,rq,eq,rfl,hR,hO⟩
   obtain ⟨aq,cq,rfl⟩:=zs_len (zs_own hO)
   have HVq:=Lib.hid (zs_own hO)
   have HRq:=Lib.hid hR
   replace PA:=PA.on hB
   replace DS:=lies.on_call DS hB
   replace HVa:=Lib.hid ((HVa.out.below hB).mono hB.size)
   replace HVx:=Lib.hid ((HVx.out.below hB).mono hB.size)
   replace HVp:=Lib.hid ((HVp.out.below hB).mono hB.size)
   replace P0:=P0.on hB
   replace DB:=later DB hB
   clear hB hR hO
   have hsx:=HRq.out.elim fun c h=>each_six within_zo H6a.out h.2
   have H6q:=Lib.hid hsx.1
   have HSq:=Lib.hid hsx.2
   clear hsx
   generalize hn:rq.length=nq at HVq ⊢
   have HLq:=Lib.hid hn
   clear hn
   clear DS
   go_wp2_with fail
   refine (window_gen aq nq cq rq fr md w6 P0 PA (fun _=>⟨HVq.out,H6q.out⟩) HLq.out).mono ?_
   rintro e w7 ⟨hB,vk,rk,ek,rfl,hR,hO⟩
   obtain ⟨ak,ck,rfl⟩:=zs_len (zs_own hO)
   have HVk:=Lib.hid (zs_own hO)
   have HRk:=Lib.hid hR
   replace PA:=PA.on hB
   replace HVa:=Lib.hid ((HVa.out.below hB).mono hB.size)
   replace HVx:=Lib.hid ((HVx.out.below hB).mono hB.size)
   replace HVp:=Lib.hid ((HVp.out.below hB).mono hB.size)
   replace HVq:=Lib.hid ((HVq.out.below hB).mono hB.size)
   replace P0:=P0.on hB
   replace DB:=later DB hB
   clear hB hR hO
   have hsx:=HRk.out.elim fun c h=>each_six window_zo H6q.out h.2
   have H6k:=Lib.hid hsx.1
   have HSk:=Lib.hid hsx.2
   clear hsx
   generalize hn:rk.length=nk at HVk ⊢
   have HLk:=Lib.hid hn
   clear hn
   by_cases kp:ep=0
   case neg=>
    have kbp:(ep==0)=false:=beq_eq_false_iff_ne.2 kp
    go_wp2_with fail
    go_ret
    exact ⟨rfl,DB⟩
   by_cases kq:eq=0
   case neg=>
    have kbq:(eq==0)=false:=beq_eq_false_iff_ne.2 kq
    go_wp2_with fail
    go_ret
    exact ⟨rfl,DB⟩
   by_cases kk:ek=0
   case neg=>
    have kbk:(ek==0)=false:=beq_eq_false_iff_ne.2 kk
    go_wp2_with fail
    go_ret
    exact ⟨rfl,DB⟩
   subst kp kq kk
   go_wp2_with fail
   have hnp:np≤4:=by have:=HSp.out;have:=HSx.out;have:=HLp.out;omega
   have hnk:nk≤4:=by have:=HSk.out;have:=HSq.out;have:=HLk.out;omega
   refine (zsame_any ap np cp rp ak nk ck rk w7 P0 HVp.out H6p.out HLp.out (by omega) HVk.out H6k.out HLk.out (by omega)).mono ?_
   rintro e w8 ⟨hB,qu,eu,rfl,hR⟩
   have HRu:=Lib.hid hR
   replace PA:=PA.on hB
   replace HVa:=Lib.hid ((HVa.out.below hB).mono hB.size)
   replace HVx:=Lib.hid ((HVx.out.below hB).mono hB.size)
   replace HVp:=Lib.hid ((HVp.out.below hB).mono hB.size)
   replace HVq:=Lib.hid ((HVq.out.below hB).mono hB.size)
   replace HVk:=Lib.hid ((HVk.out.below hB).mono hB.size)
   replace P0:=P0.on hB
   replace DB:=later DB hB
   clear hB hR
   go_wp2_with fail
   refine (zin_any ap np cp rp aa na ca l w8 P0 HVp.out H6p.out HLp.out (by omega) HVa.out H6a.out HLa.out (by omega)).mono ?_
   rintro e w9 ⟨hB,qv,ev,rfl,hR⟩
   have HRv:=Lib.hid hR
   replace PA:=PA.on hB
   replace HVa:=Lib.hid ((HVa.out.below hB).mono hB.size)
   replace HVx:=Lib.hid ((HVx.out.below hB).mono hB.size)
   replace HVp:=Lib.hid ((HVp.out.below hB).mono hB.size)
   replace HVq:=Lib.hid ((HVq.out.below hB).mono hB.size)
   replace HVk:=Lib.hid ((HVk.out.below hB).mono hB.size)
   replace P0:=P0.on hB
   replace DB:=later DB hB
   clear hB hR
   obtain ⟨hu,hv⟩:=swap H6a.out hla HRx.out HRp.out HRq.out HRk.out HRu.out HRv.out
   clear HRx HRp HRq HRk HRu HRv
   obtain hu | ⟨rfl,rfl⟩:¬ eu=0∨(eu=0∧qu=true):=by
    by_cases k:eu=0
    ·exact .inr ⟨k,hu.resolve_left (fun q=>q k)⟩
    ·exact .inl k
   all_goals (try (have hbu:(eu==0)=false:=beq_eq_false_iff_ne.2 hu))
   all_goals
    obtain hv | ⟨rfl,rfl⟩:¬ ev=0∨(ev=0∧qv=true):=by
     by_cases k:ev=0
     ·exact .inr ⟨k,hv.resolve_left (fun q=>q k)⟩
     ·exact .inl k
    all_goals (try (have hbv:(ev==0)=false:=beq_eq_false_iff_ne.2 hv))
    all_goals
     go_wp2_with fail
     go_ret
     exact ⟨rfl,DB⟩
  ·have hfb:(ez==0)=false:=beq_eq_false_iff_ne.2 k4
   clear k3
   subst k1 k2
   obtain ⟨⟨kDS_0,kDS_1,kDS_2,kDS_3,kDS_4⟩,-⟩:=five_cells DS
   have kDS_l:=lies.lt DS
   go_wp2_with fail
   clear kDS_0 kDS_1 kDS_2 kDS_3 kDS_4 kDS_l
   refine (within_gen ax nx cx rx lo ls hi hs op w4 P0 PA (fun _=>⟨HVx.out,H6x.out⟩) HLx.out).mono ?_
   rintro e w5 ⟨hB,vp,rp,ep,rfl,hR,hO⟩
   obtain ⟨ap,cp,rfl⟩:=zs_len (zs_own hO)
   have HVp:=Lib.hid (zs_own hO)
   have HRp:=Lib.hid hR
   replace PA:=PA.on hB
   replace DS:=lies.on_call DS hB
   replace HVa:=Lib.hid ((HVa.out.below hB).mono hB.size)
   replace HVx:=Lib.hid ((HVx.out.below hB).mono hB.size)
   replace P0:=P0.on hB
   replace DB:=later DB hB
   clear hB hR hO
   have hsx:=HRp.out.elim fun c h=>each_six within_zo H6x.out h.2
   have H6p:=Lib.hid hsx.1
   have HSp:=Lib.hid hsx.2
   clear hsx
   generalize hn:rp.length=np at HVp ⊢
   have HLp:=Lib.hid hn
   clear hn
   obtain ⟨⟨kDS_0,kDS_1,kDS_2,kDS_3,kDS_4⟩,-⟩:=five_cells DS
   have kDS_l:=lies.lt DS
   go_wp2_with fail
   clear kDS_0 kDS_1 kDS_2 kDS_3 kDS_4 kDS_l
   refine (within_gen aa na ca l lo ls hi hs op w5 P0 PA (fun _=>⟨HVa.out,H6a.out⟩) HLa.out).mono ?_
   rintro e w6 ⟨hB,vq,rq,eq,rfl,hR,hO⟩
   obtain ⟨aq,cq,rfl⟩:=zs_len (zs_own hO)
   have HVq:=Lib.hid (zs_own hO)
   have HRq:=Lib.hid hR
   replace PA:=PA.on hB
   replace DS:=lies.on_call DS hB
   replace HVa:=Lib.hid ((HVa.out.below hB).mono hB.size)
   replace HVx:=Lib.hid ((HVx.out.below hB).mono hB.size)
   replace HVp:=Lib.hid ((HVp.out.below hB).mono hB.size)
   replace P0:=P0.on hB
   replace DB:=later DB hB
   clear hB hR hO
   have hsx:=HRq.out.elim fun c h=>each_six within_zo H6a.out h.2
   have H6q:=Lib.hid hsx.1
   have HSq:=Lib.hid hsx.2
   clear hsx
   generalize hn:rq.length=nq at HVq ⊢
   have HLq:=Lib.hid hn
   clear hn
   clear DS
   go_wp2_with fail
   refine (window_gen aq nq cq rq fr md w6 P0 PA (fun _=>⟨HVq.out,H6q.out⟩) HLq.out).mono ?_
   rintro e w7 ⟨hB,vk,rk,ek,rfl,hR,hO⟩
   obtain ⟨ak,ck,rfl⟩:=zs_len (zs_own hO)
   have HVk:=Lib.hid (zs_own hO)
   have HRk:=Lib.hid hR
   replace PA:=PA.on hB
   replace HVa:=Lib.hid ((HVa.out.below hB).mono hB.size)
   replace HVx:=Lib.hid ((HVx.out.below hB).mono hB.size)
   replace HVp:=Lib.hid ((HVp.out.below hB).mono hB.size)
   replace HVq:=Lib.hid ((HVq.out.below hB).mono hB.size)
   replace P0:=P0.on hB
   replace DB:=later DB hB
   clear hB hR hO
   have hsx:=HRk.out.elim fun c h=>each_six window_zo H6q.out h.2
   have H6k:=Lib.hid hsx.1
   have HSk:=Lib.hid hsx.2
   clear hsx
   generalize hn:rk.length=nk at HVk ⊢
   have HLk:=Lib.hid hn
   clear hn
   by_cases kp:ep=0
   case neg=>
    have kbp:(ep==0)=false:=beq_eq_false_iff_ne.2 kp
    go_wp2_with fail
    go_ret
    exact ⟨rfl,DB⟩
   by_cases kq:eq=0
   case neg=>
    have kbq:(eq==0)=false:=beq_eq_false_iff_ne.2 kq
    go_wp2_with fail
    go_ret
    exact ⟨rfl,DB⟩
   by_cases kk:ek=0
   case neg=>
    have kbk:(ek==0)=false:=beq_eq_false_iff_ne.2 kk
    go_wp2_with fail
    go_ret
    exact ⟨rfl,DB⟩
   subst kp kq kk
   go_wp2_with fail
   have hnp:np≤4:=by have:=HSp.out;have:=HSx.out;have:=HLp.out;omega
   have hnk:nk≤4:=by have:=HSk.out;have:=HSq.out;have:=HLk.out;omega
   refine (zsame_any ap np cp rp ak nk ck rk w7 P0 HVp.out H6p.out HLp.out (by omega) HVk.out H6k.out HLk.out (by omega)).mono ?_
   rintro e w8 ⟨hB,qu,eu,rfl,hR⟩
   have HRu:=Lib.hid hR
   replace PA:=PA.on hB
   replace HVa:=Lib.hid ((HVa.out.below hB).mono hB.size)
   replace HVx:=Lib.hid ((HVx.out.below hB).mono hB.size)
   replace HVp:=Lib.hid ((HVp.out.below hB).mono hB.size)
   replace HVq:=Lib.hid ((HVq.out.below hB).mono hB.size)
   replace HVk:=Lib.hid ((HVk.out.below hB).mono hB.size)
   replace P0:=P0.on hB
   replace DB:=later DB hB
   clear hB hR
   go_wp2_with fail
   refine (zin_any ap np cp rp aa na ca l w8 P0 HVp.out H6p.out HLp.out (by omega) HVa.out H6a.out HLa.out (by omega)).mono ?_
   rintro e w9 ⟨hB,qv,ev,rfl,hR⟩
   have HRv:=Lib.hid hR
   replace PA:=PA.on hB
   replace HVa:=Lib.hid ((HVa.out.below hB).mono hB.size)
   replace HVx:=Lib.hid ((HVx.out.below hB).mono hB.size)
   replace HVp:=Lib.hid ((HVp.out.below hB).mono hB.size)
   replace HVq:=Lib.hid ((HVq.out.below hB).mono hB.size)
   replace HVk:=Lib.hid ((HVk.out.below hB).mono hB.size)
   replace P0:=P0.on hB
   replace DB:=later DB hB
   clear hB hR
   obtain ⟨hu,hv⟩:=swap H6a.out hla HRx.out HRp.out HRq.out HRk.out HRu.out HRv.out
   clear HRx HRp HRq HRk HRu HRv
   obtain hu | ⟨rfl,rfl⟩:¬ eu=0∨(eu=0∧qu=true):=by
    by_cases k:eu=0
    ·exact .inr ⟨k,hu.resolve_left (fun q=>q k)⟩
    ·exact .inl k
   all_goals (try (have hbu:(eu==0)=false:=beq_eq_false_iff_ne.2 hu))
   all_goals
    obtain hv | ⟨rfl,rfl⟩:¬ ev=0∨(ev=0∧qv=true):=by
     by_cases k:ev=0
     ·exact .inr ⟨k,hv.resolve_left (fun q=>q k)⟩
     ·exact .inl k
    all_goals (try (have hbv:(ev==0)=false:=beq_eq_false_iff_ne.2 hv))
    all_goals
     go_wp2_with fail
     go_ret
     exact ⟨rfl,DB⟩
end Go.Proofs.YthmljpccbjolgaaGreatDoor.zsetWindows
