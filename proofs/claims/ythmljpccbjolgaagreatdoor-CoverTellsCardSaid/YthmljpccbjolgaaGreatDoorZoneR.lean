
/-
  The document's own zones: a zone's matrix, a matrix' zone, and what is told of what is closed; each theorem names its conditions.
-/
import Derived.Test.YthmljpccbjolgaaGreatDoorZoneA
import Derived.Test.YthmljpccbjolgaaGreatDoorTightC
import Derived.Test.YthmljpccbjolgaaGreatDoorZoneF
import Derived.Test.YthmljpccbjolgaaGreatDoorLawA
namespace Go.Proofs.YthmljpccbjolgaaGreatDoor.zref
open Go.Joins Go.ChangeShapes Go.WideShapes Go.ChangeAt Go.RowKit num rat dbm Go.Proofs.YthmljpccbjolgaaGreatDoor.tight Go.Proofs.YthmljpccbjolgaaGreatDoor.incl Go.Proofs.YthmljpccbjolgaaGreatDoor.plaw Go.Proofs.YthmljpccbjolgaaGreatDoor.zopen Go.Proofs.YthmljpccbjolgaaGreatDoor.zone dref
open bound hiding up
set_option linter.unusedVariables false
set_option linter.unusedSimpArgs false
theorem cl_low {n:Nat} {ts:List Int} (h0:0<n) (hn:n≤4) (hl:ts.length=n*n) (htop:Tops ts) (h:OkD n ts):Low (clT n ts):=fun x hx=>by
 obtain ⟨p,hp,rfl⟩:=List.getElem_of_mem hx
 have hlen:(clT n ts).length=n*n:=(clT_length h).trans hl
 have hp':p<n*n:=by rw [←hlen];exact hp
 have hi:=(Nat.div_lt_iff_lt_mul h0).2 hp'
 have hj:=Nat.mod_lt p h0
 have e:p / n*n+p % n=p:=by rw [Nat.mul_comm];exact Nat.div_add_mod p n
 have ht:tat (clT n ts) n (p / n) (p % n)=(clT n ts)[p]:=by
  unfold tat
  rw [e,List.getElem?_eq_getElem hp]
  rfl
 have hw:=wts_in (us:=clT n ts) hi hj
 rw [ht] at hw
 by_cases hx:(clT n ts)[p]=9223372036854775807
 ·omega
 ·rw [cod_some hx] at hw
  have:=clo_wi h0 hn hl htop h hi hw
  omega
theorem full_low {z:List Int} (h:Low z):Low (fullT z):=by
 have k:∀ i,-9223372036854775808≤z[i]?.getD 0:=fun i=>by
  by_cases hi:i<z.length
  ·rw [List.getElem?_eq_getElem hi];exact h _ (List.getElem_mem hi)
  ·rw [List.getElem?_eq_none (by omega)];decide
 have k0:=k 0
 have k1:=k 1
 have k2:=k 2
 have k3:=k 3
 have k4:=k 4
 have k5:=k 5
 intro x hx
 unfold fullT at hx
 simp only [List.mem_cons,List.not_mem_nil,or_false] at hx
 omega
set_option maxRecDepth 100000 in
theorem full_is (z0 z1 z2 z3 z4 z5:Int) (w:World):Calls Tryz.prog 109 #[.agg #[.int .i64 z0,.int .i64 z1,.int .i64 z2,.int .i64 z3,.int .i64 z4,.int .i64 z5]] w fun e w'=>Below w.heap.size w w'∧∃ g,w.heap.size≤g∧e=.returned (.agg #[.int .i64 3,.slice (some ⟨g,0,none⟩) 9 9])∧lies.Lies w' g 25 (cellsOf (fullT [z0,z1,z2,z3,z4,z5])):=by
 go_enter Tryz.func109,Tryz.ntmps109
 go_wp2_with fail
 have E1:=lies.on_alloc (lies.made_at (w.alloc (.cells #[.int .i64 z0,.int .i64 z1,.int .i64 z2,.int .i64 z3,.int .i64 z4,.int .i64 z5] 27)) 81 #[.int .i64 3,.slice (some ⟨w.heap.size+1+1,0,none⟩) 9 9] (w.heap.size+1) (by simp)) (.cells #[.int .i64 1,.int .i64 z1,.int .i64 z3,.int .i64 z0,.int .i64 1,.int .i64 z5,.int .i64 z2,.int .i64 z4,.int .i64 1] 25)
 have E2:=lies.made_at ((w.alloc (.cells #[.int .i64 z0,.int .i64 z1,.int .i64 z2,.int .i64 z3,.int .i64 z4,.int .i64 z5] 27)).alloc (.cells #[.int .i64 3,.slice (some ⟨w.heap.size+1+1,0,none⟩) 9 9] 81)) 25 #[.int .i64 1,.int .i64 z1,.int .i64 z3,.int .i64 z0,.int .i64 1,.int .i64 z5,.int .i64 z2,.int .i64 z4,.int .i64 1] (w.heap.size+1+1) (by simp)
 obtain ⟨x0,x1,x2,x3,x4⟩:=lies.two E1
 exact bodyPost_ret (v:=.agg #[.int .i64 3,.slice (some ⟨w.heap.size+1+1,0,none⟩) 9 9]) (by simp [results,Tryz.results109,go_sem,x0,x1]) rfl ⟨bound.up3 w _ _ _,w.heap.size+1+1,by omega,rfl,E2⟩
theorem six_bounds {W:World} {g:Nat} {us:List Int} (h:Row W g 0 us) (hl:us.length=9):W.cell? ⟨g,3,none⟩=some (.int .i64 (us[3]?.getD 0))∧W.cell? ⟨g,1,none⟩=some (.int .i64 (us[1]?.getD 0))∧W.cell? ⟨g,6,none⟩=some (.int .i64 (us[6]?.getD 0))∧W.cell? ⟨g,2,none⟩=some (.int .i64 (us[2]?.getD 0))∧W.cell? ⟨g,7,none⟩=some (.int .i64 (us[7]?.getD 0))∧W.cell? ⟨g,5,none⟩=some (.int .i64 (us[5]?.getD 0)):=by
 have k:∀ i,i<9→W.cell? ⟨g,i,none⟩=some (.int .i64 (us[i]?.getD 0)):=fun i hi=>by
  have:=h i (by omega)
  rw [Nat.zero_add] at this
  rw [this,List.getElem?_eq_getElem (by omega)]
 exact ⟨k 3 (by decide),k 1 (by decide),k 6 (by decide),k 2 (by decide),k 7 (by decide),k 5 (by decide)⟩
theorem put_sixL {W:World} {g:Nat} {t:TypeId} {z0 z1 z2 z3 z4 z5:Value} (h:lies.Lies W g t #[z0,z1,z2,z3,z4,z5]) (a b c d e f:Value):lies.Lies (((((((W.setCell ⟨g,0,none⟩ a).setCell ⟨g,1,none⟩ b).setCell ⟨g,2,none⟩ c).setCell ⟨g,3,none⟩ d).setCell ⟨g,4,none⟩ e).setCell ⟨g,5,none⟩ f)) g t #[a,b,c,d,e,f]:=by
 have h0:lies.Lies (W.setCell ⟨g,0,none⟩ a) g t #[a,z1,z2,z3,z4,z5]:=by simpa using lies.on_put h 0 a
 have h1:=lies.on_put h0 1 b
 have h1:lies.Lies ((W.setCell ⟨g,0,none⟩ a).setCell ⟨g,1,none⟩ b) g t #[a,b,z2,z3,z4,z5]:=by simpa using h1
 have h2:=lies.on_put h1 2 c
 have h2:lies.Lies (((W.setCell ⟨g,0,none⟩ a).setCell ⟨g,1,none⟩ b).setCell ⟨g,2,none⟩ c) g t #[a,b,c,z3,z4,z5]:=by simpa using h2
 have h3:=lies.on_put h2 3 d
 have h3:lies.Lies ((((W.setCell ⟨g,0,none⟩ a).setCell ⟨g,1,none⟩ b).setCell ⟨g,2,none⟩ c).setCell ⟨g,3,none⟩ d) g t #[a,b,c,d,z4,z5]:=by simpa using h3
 have h4:=lies.on_put h3 4 e
 have h4:lies.Lies (((((W.setCell ⟨g,0,none⟩ a).setCell ⟨g,1,none⟩ b).setCell ⟨g,2,none⟩ c).setCell ⟨g,3,none⟩ d).setCell ⟨g,4,none⟩ e) g t #[a,b,c,d,e,z5]:=by simpa using h4
 simpa using lies.on_put h4 5 f
theorem drew_cell (W:World) (b j:Nat):W.drew.cell? ⟨b,j,none⟩=W.cell? ⟨b,j,none⟩:=(dbm.drawn1 (Below.refl (b+1) W)).cell (p:=⟨b,j,none⟩) (Nat.lt_succ_self b)
theorem six_far {W:World} {x g:Nat} (k:x≠g) (a b c d e f:Value) {j:Nat} {u:Value} (h:W.cell? ⟨x,j,none⟩=some u):(((((((W.setCell ⟨g,0,none⟩ a).setCell ⟨g,1,none⟩ b).setCell ⟨g,2,none⟩ c).setCell ⟨g,3,none⟩ d).setCell ⟨g,4,none⟩ e).setCell ⟨g,5,none⟩ f)).drew.cell? ⟨x,j,none⟩=some u:=by
 rw [drew_cell,cell_far k,cell_far k,cell_far k,cell_far k,cell_far k,cell_far k]
 exact h
theorem six_drew {W:World} {g:Nat} {t:TypeId} {cs:Array Value} (h:lies.Lies W g t cs):lies.Lies W.drew g t cs:=lies.on_call h (dbm.drawn1 (Below.refl _ _))
set_option maxRecDepth 100000 in
set_option maxHeartbeats 4000000 in
theorem short_is (n:Int) (g c:Nat) (us:List Int) (w:World) (hr:Row w g 0 us) (hg:g<w.heap.size) (hl:us.length=9):Calls Tryz.prog 155 #[.agg #[.int .i64 n,.slice (some ⟨g,0,none⟩) 9 c]] w fun e w'=>Below w.heap.size w w'∧∃ v0 v1 v2 v3 v4 v5,e=.returned (.agg #[.int .i64 v0,.int .i64 v1,.int .i64 v2,.int .i64 v3,.int .i64 v4,.int .i64 v5])∧[v0,v1,v2,v3,v4,v5]=shortT us:=by
 have DB:=bound.up2 w (.cells #[.int .i64 n,.slice (some ⟨g,0,none⟩) 9 c] 81) (.cells #[.int .i64 0,.int .i64 0,.int .i64 0,.int .i64 0,.int .i64 0,.int .i64 0] 27)
 have D0:=lies.on_alloc (lies.made w 81 #[.int .i64 n,.slice (some ⟨g,0,none⟩) 9 c]) (.cells #[.int .i64 0,.int .i64 0,.int .i64 0,.int .i64 0,.int .i64 0,.int .i64 0] 27)
 have D1:=lies.made_at (w.alloc (.cells #[.int .i64 n,.slice (some ⟨g,0,none⟩) 9 c] 81)) 27 #[.int .i64 0,.int .i64 0,.int .i64 0,.int .i64 0,.int .i64 0,.int .i64 0] (w.heap.size+1) (by simp)
 have R0:=six_bounds (hr.below DB hg) hl
 have hgw:=Nat.lt_of_lt_of_le hg DB.size
 have HV:=Lib.hid (show shortT us=[us[3]?.getD 0,us[1]?.getD 0,us[6]?.getD 0,us[2]?.getD 0,us[7]?.getD 0,us[5]?.getD 0] from rfl)
 generalize us[3]?.getD 0=v0 at R0 HV
 generalize us[1]?.getD 0=v1 at R0 HV
 generalize us[6]?.getD 0=v2 at R0 HV
 generalize us[2]?.getD 0=v3 at R0 HV
 generalize us[7]?.getD 0=v4 at R0 HV
 generalize us[5]?.getD 0=v5 at R0 HV
 clear hr hl
 go_enter Tryz.func155,Tryz.ntmps155
 obtain ⟨x0,x1,x2,x3,x4⟩:=lies.two D0
 go_wp2_with fail
 clear x0 x1 x2 x3 x4 D0
 generalize (w.alloc (.cells #[.int .i64 n,.slice (some ⟨g,0,none⟩) 9 c] 81)).alloc (.cells #[.int .i64 0,.int .i64 0,.int .i64 0,.int .i64 0,.int .i64 0,.int .i64 0] 27)=w0 at DB D1 R0 hgw ⊢
 have PB:Below w.heap.size w _:=dbm.drawn1 (put_six DB (show w.heap.size≤w.heap.size+1 by omega) (.int .i64 v0) (.int .i64 v1) (.int .i64 v2) (.int .i64 v3) (.int .i64 v4) (.int .i64 v5))
 have PL:=six_drew (put_sixL D1 (.int .i64 v0) (.int .i64 v1) (.int .i64 v2) (.int .i64 v3) (.int .i64 v4) (.int .i64 v5))
 have hne:g≠w.heap.size+1:=by omega
 have R1:=fun j u (h:w0.cell? ⟨g,j,none⟩=some u)=>six_far hne (.int .i64 v0) (.int .i64 v1) (.int .i64 v2) (.int .i64 v3) (.int .i64 v4) (.int .i64 v5) h
 obtain ⟨⟨x0,x1,x2,x3,x4,x5⟩,⟨y0,y1,y2,y3,y4,y5⟩,xl⟩:=six_cells D1
 refine wp_region_held_drew (S:=fun W=>W.cell? ⟨g,3,none⟩=some (.int .i64 v0)∧W.cell? ⟨g,1,none⟩=some (.int .i64 v1)∧W.cell? ⟨g,6,none⟩=some (.int .i64 v2)∧W.cell? ⟨g,2,none⟩=some (.int .i64 v3)∧W.cell? ⟨g,7,none⟩=some (.int .i64 v4)∧W.cell? ⟨g,5,none⟩=some (.int .i64 v5)) (by kernel_rfl) R0 (fun hHeld=>?_)
 refine tk 0 (v:=?_) rfl hHeld ?_ ?_
 rotate_left
 ·intro w hSw;obtain ⟨s1,s2,s3,s4,s5,s6⟩:=hSw;go_simp;try with_reducible rfl
 try simp only [Act.put,sA,sB,sC,sD,sE,sF]
 refine tk 1 (v:=?_) rfl hHeld ?_ ?_
 rotate_left
 ·intro w hSw;obtain ⟨s1,s2,s3,s4,s5,s6⟩:=hSw;go_simp;try with_reducible rfl
 try simp only [Act.put,sA,sB,sC,sD,sE,sF]
 refine tk 2 (v:=?_) rfl hHeld ?_ ?_
 rotate_left
 ·intro w hSw;obtain ⟨s1,s2,s3,s4,s5,s6⟩:=hSw;go_simp;try with_reducible rfl
 try simp only [Act.put,sA,sB,sC,sD,sE,sF]
 refine tk 3 (v:=?_) rfl hHeld ?_ ?_
 rotate_left
 ·intro w hSw;obtain ⟨s1,s2,s3,s4,s5,s6⟩:=hSw;go_simp;try with_reducible rfl
 try simp only [Act.put,sA,sB,sC,sD,sE,sF]
 refine tk 4 (v:=?_) rfl hHeld ?_ ?_
 rotate_left
 ·intro w hSw;obtain ⟨s1,s2,s3,s4,s5,s6⟩:=hSw;go_simp;try with_reducible rfl
 try simp only [Act.put,sA,sB,sC,sD,sE,sF]
 refine tk 5 (v:=?_) rfl hHeld ?_ ?_
 rotate_left
 ·intro w hSw;obtain ⟨s1,s2,s3,s4,s5,s6⟩:=hSw;go_simp;try with_reducible rfl
 try simp only [Act.put,sA,sB,sC,sD,sE,sF]
 refine tk 6 (v:=?_) rfl hHeld ?_ ?_
 rotate_left
 ·intro w hSw;obtain ⟨s1,s2,s3,s4,s5,s6⟩:=hSw;go_simp;try with_reducible rfl
 try simp only [Act.put,sA,sB,sC,sD,sE,sF]
 refine tk 7 (v:=?_) rfl hHeld ?_ ?_
 rotate_left
 ·intro w hSw;obtain ⟨s1,s2,s3,s4,s5,s6⟩:=hSw;go_simp;try with_reducible rfl
 try simp only [Act.put,sA,sB,sC,sD,sE,sF]
 refine tk 8 (v:=?_) rfl hHeld ?_ ?_
 rotate_left
 ·intro w hSw;obtain ⟨s1,s2,s3,s4,s5,s6⟩:=hSw;go_simp;try with_reducible rfl
 try simp only [Act.put,sA,sB,sC,sD,sE,sF]
 refine tk 9 (v:=?_) rfl hHeld ?_ ?_
 rotate_left
 ·intro w hSw;obtain ⟨s1,s2,s3,s4,s5,s6⟩:=hSw;go_simp;try with_reducible rfl
 try simp only [Act.put,sA,sB,sC,sD,sE,sF]
 refine tk 10 (v:=?_) rfl hHeld ?_ ?_
 rotate_left
 ·intro w hSw;obtain ⟨s1,s2,s3,s4,s5,s6⟩:=hSw;go_simp;try with_reducible rfl
 try simp only [Act.put,sA,sB,sC,sD,sE,sF]
 refine tk 11 (v:=?_) rfl hHeld ?_ ?_
 rotate_left
 ·intro w hSw;obtain ⟨s1,s2,s3,s4,s5,s6⟩:=hSw;go_simp;try with_reducible rfl
 try simp only [Act.put,sA,sB,sC,sD,sE,sF]
 refine tk 12 (v:=?_) rfl hHeld ?_ ?_
 rotate_left
 ·intro w hSw;obtain ⟨s1,s2,s3,s4,s5,s6⟩:=hSw;go_simp;try with_reducible rfl
 try simp only [Act.put,sA,sB,sC,sD,sE,sF]
 refine tk 13 (v:=?_) rfl hHeld ?_ ?_
 rotate_left
 ·intro w hSw;obtain ⟨s1,s2,s3,s4,s5,s6⟩:=hSw;go_simp;try with_reducible rfl
 try simp only [Act.put,sA,sB,sC,sD,sE,sF]
 refine tk 14 (v:=?_) rfl hHeld ?_ ?_
 rotate_left
 ·intro w hSw;obtain ⟨s1,s2,s3,s4,s5,s6⟩:=hSw;go_simp;try with_reducible rfl
 try simp only [Act.put,sA,sB,sC,sD,sE,sF]
 refine tk 15 (v:=?_) rfl hHeld ?_ ?_
 rotate_left
 ·intro w hSw;obtain ⟨s1,s2,s3,s4,s5,s6⟩:=hSw;go_simp;try with_reducible rfl
 try simp only [Act.put,sA,sB,sC,sD,sE,sF]
 refine tk 16 (v:=?_) rfl hHeld ?_ ?_
 rotate_left
 ·intro w hSw;obtain ⟨s1,s2,s3,s4,s5,s6⟩:=hSw;go_simp;try with_reducible rfl
 try simp only [Act.put,sA,sB,sC,sD,sE,sF]
 refine tk 17 (v:=?_) rfl hHeld ?_ ?_
 rotate_left
 ·intro w hSw;obtain ⟨s1,s2,s3,s4,s5,s6⟩:=hSw;go_simp;try with_reducible rfl
 try simp only [Act.put,sA,sB,sC,sD,sE,sF]
 refine tk 18 (v:=?_) rfl hHeld ?_ ?_
 rotate_left
 ·intro w hSw;obtain ⟨s1,s2,s3,s4,s5,s6⟩:=hSw;go_simp;try with_reducible rfl
 try simp only [Act.put,sA,sB,sC,sD,sE,sF]
 refine wpAnyH_ready (rs:=[19]) (by kernel_rfl) (by simp) (AllReadyH.cons rfl (fun K hK=>?_) AllReadyH.nil)
 go_simp
 refine hK.out _ _ ⟨R1 _ _ R0.1,R1 _ _ R0.2.1,R1 _ _ R0.2.2.1,R1 _ _ R0.2.2.2.1,R1 _ _ R0.2.2.2.2.1,R1 _ _ R0.2.2.2.2.2⟩ (fun hNew=>?_)
 clear hHeld hK K hNew x0 x1 x2 x3 x4 x5 y0 y1 y2 y3 y4 y5 R0 R1 DB
 refine wpAnyH_done (by kernel_rfl) ?_ _
 obtain ⟨⟨x0,x1,x2,x3,x4,x5⟩,_,xl⟩:=six_cells PL
 go_wp2_with fail
 exact bodyPost_ret (v:=.agg #[.int .i64 v0,.int .i64 v1,.int .i64 v2,.int .i64 v3,.int .i64 v4,.int .i64 v5]) (by simp [results,Tryz.results155,go_sem,x0,x1,x2,x3,x4,x5,xl]) rfl ⟨PB,v0,v1,v2,v3,v4,v5,rfl,HV.out.symm⟩
/-! told -/
end Go.Proofs.YthmljpccbjolgaaGreatDoor.zref
