
/-
  What Top of package dbm answers, whether matrices are the same, copies, and the chapter's first examples; each theorem names its conditions.
-/
import Derived.Test.YthmljpccbjolgaaGreatDoorDbmA
import Derived.Test.YthmljpccbjolgaaGreatDoorBase
import Derived.BigQuiet
import Derived.Lib.SmallJoins
import Derived.Deep.RegionHeld3
import Derived.Deep.RegionHeld
import Derived.Maps.AppendAt
namespace Go.Proofs.YthmljpccbjolgaaGreatDoor.dbm
open Go.RowKit Go.Shelf num
open bound hiding up
attribute [local go_sem] Oper.semAt_some
set_option linter.unusedVariables false
set_option linter.unusedSimpArgs false
def tpp (n:Nat) (ts:List Int) (x:Nat × Nat):List Int:=if x.1=x.2 then (ts.set (x.1*n+x.2) 9223372036854775807).set (x.1*n+x.2) 1 else ts.set (x.1*n+x.2) 9223372036854775807
def tpl (n:Nat) (ts:List Int) (pre:List (Cl n)):List Int:=pre.foldl (fun t x=>tpp n t x.1) ts
theorem tpl_snoc (n:Nat) (ts:List Int) (pre:List (Cl n)) (x:Cl n):tpl n ts (pre++[x])=tpp n (tpl n ts pre) x.1:=by simp [tpl]
theorem tpp_length (n:Nat) (ts:List Int) (x:Nat × Nat):(tpp n ts x).length=ts.length:=by
 unfold tpp
 split<;>simp
theorem tpl_length (n:Nat) (ts:List Int) (pre:List (Cl n)):(tpl n ts pre).length=ts.length:=by
 unfold tpl
 induction pre generalizing ts with
 | nil=>rfl
 | cons x pre ih=>rw [List.foldl_cons,ih,tpp_length]
theorem made_zeros (m:Nat):madeCells #[.int .i64 0] m=cellsOf (List.replicate m 0):=by
 unfold madeCells cellsOf
 apply Array.ext
 ·simp
 ·intro i h1 h2
  simp [Nat.mod_one]
def topT (n:Nat) (h:0<n):List Int:=tpl n (List.replicate (n*n) 0) (upto (nth n h) (n*n))
def Tp (n:Nat) (us:List Int) (w:World) (e:Ending) (w':World):Prop:=Below w.heap.size w w'∧∃ g,w.heap.size≤g∧e=.returned (.tuple #[.agg #[.int .i64 n,.slice (some ⟨g,0,none⟩) (n*n) (n*n)],.int .i64 0])∧lies.Lies w' g 25 (cellsOf us)
set_option maxRecDepth 100000 in
set_option maxHeartbeats 2000000 in
theorem top_ok (n:Nat) (w:World) (h0:0<n) (hn:n≤4):Calls Tryz.prog 93 #[.int .i64 n] w (Tp n (topT n h0) w):=by
 have hsq:=sq_le hn
 have hmk:=run_make_row' (P:=Tryz.prog) 79 25 (.int .i64 0) 8 Tryz.underlying79 info_b rfl .i64 .i64 (n*n) (by omega) (by omega)
 simp only [Int.natCast_mul] at hmk
 have m1:IntKind.i64.wrap ((n:Int)*n)=(n:Int)*n:=by
  rw [←Int.natCast_mul]
  exact wrap_small (by omega) (by omega)
 have m2:wrap64 ((n:Int)*n)=(n:Int)*n:=by
  rw [←Int.natCast_mul]
  unfold wrap64
  omega
 have t1:¬ (n:Int)<1:=by omega
 have t2:¬ (4:Int)<n:=by omega
 refine callsIn_wide (n:=4).1 ?_
 refine callsIn_of_wp_marks Tryz.func93 rfl trivial ?_ rfl
 simp only [Tryz.ntmps93,List.size_toArray,List.length_cons,List.length_nil,Nat.reduceAdd,Nat.reduceSub,Array.replicate_succ,Array.replicate_zero,List.push_toArray,List.append_toArray,List.nil_append,List.cons_append]
 gi_wp2
 refine ⟨trivial,(pairs_in Fence.wide 3 trivial rfl _ _ _ rfl rfl).mono ?_⟩
 rintro e w' ⟨rfl,rfl⟩
 gi_wp2
 have d0:lies.Lies ((((w.alloc (.cells #[.int .i64 0,.slice none 0 0] 81)).alloc (.cells (madeCells #[.int .i64 0] (n*n)) 25)).alloc (.cells #[.int .i64 n,.slice (some ⟨w.heap.size+1,0,none⟩) (n*n) (n*n)] 153)).alloc (.cells #[.int .i64 n,.slice (some ⟨w.heap.size+1,0,none⟩) (n*n) (n*n)] 153)) w.heap.size 81 #[.int .i64 0,.slice none 0 0]:=lies.on_alloc (lies.on_alloc (lies.on_alloc (lies.made w _ _) _) _) _
 have d1:lies.Lies ((((w.alloc (.cells #[.int .i64 0,.slice none 0 0] 81)).alloc (.cells (madeCells #[.int .i64 0] (n*n)) 25)).alloc (.cells #[.int .i64 n,.slice (some ⟨w.heap.size+1,0,none⟩) (n*n) (n*n)] 153)).alloc (.cells #[.int .i64 n,.slice (some ⟨w.heap.size+1,0,none⟩) (n*n) (n*n)] 153)) (w.heap.size+1) 25 (cellsOf (List.replicate (n*n) 0)):=by rw [←made_zeros];exact lies.on_alloc (lies.on_alloc (lies.made_at _ _ _ _ (World.size_alloc _ _)) _) _
 have d2:lies.Lies ((((w.alloc (.cells #[.int .i64 0,.slice none 0 0] 81)).alloc (.cells (madeCells #[.int .i64 0] (n*n)) 25)).alloc (.cells #[.int .i64 n,.slice (some ⟨w.heap.size+1,0,none⟩) (n*n) (n*n)] 153)).alloc (.cells #[.int .i64 n,.slice (some ⟨w.heap.size+1,0,none⟩) (n*n) (n*n)] 153)) (w.heap.size+1+1) 153 #[.int .i64 n,.slice (some ⟨w.heap.size+1,0,none⟩) (n*n) (n*n)]:=lies.on_alloc (lies.made_at _ _ _ _ (by simp)) _
 have d3:lies.Lies ((((w.alloc (.cells #[.int .i64 0,.slice none 0 0] 81)).alloc (.cells (madeCells #[.int .i64 0] (n*n)) 25)).alloc (.cells #[.int .i64 n,.slice (some ⟨w.heap.size+1,0,none⟩) (n*n) (n*n)] 153)).alloc (.cells #[.int .i64 n,.slice (some ⟨w.heap.size+1,0,none⟩) (n*n) (n*n)] 153)) (w.heap.size+1+1+1) 153 #[.int .i64 n,.slice (some ⟨w.heap.size+1,0,none⟩) (n*n) (n*n)]:=lies.made_at _ _ _ _ (by simp)
 have d4:Below w.heap.size w ((((w.alloc (.cells #[.int .i64 0,.slice none 0 0] 81)).alloc (.cells (madeCells #[.int .i64 0] (n*n)) 25)).alloc (.cells #[.int .i64 n,.slice (some ⟨w.heap.size+1,0,none⟩) (n*n) (n*n)] 153)).alloc (.cells #[.int .i64 n,.slice (some ⟨w.heap.size+1,0,none⟩) (n*n) (n*n)] 153)):=dbm.up (dbm.up (dbm.up (dbm.up (Below.refl _ _) (Nat.le_refl _) _) (Nat.le_refl _) _) (Nat.le_refl _) _) (Nat.le_refl _) _
 have d5:w.heap.size+1+1+1<(((((w.alloc (.cells #[.int .i64 0,.slice none 0 0] 81)).alloc (.cells (madeCells #[.int .i64 0] (n*n)) 25)).alloc (.cells #[.int .i64 n,.slice (some ⟨w.heap.size+1,0,none⟩) (n*n) (n*n)] 153)).alloc (.cells #[.int .i64 n,.slice (some ⟨w.heap.size+1,0,none⟩) (n*n) (n*n)] 153))).heap.size:=by simp
 refine wpIn_rangeFunc_ownG (F:=Fence.wide) (n:=4) rfl (by omega) (gf:=184) (lb:=#[.pointer (some ⟨w.heap.size+1+1+1,0,none⟩)]) rfl trivial (enters_of Tryz.func184 (by kernel_rfl) rfl)
  (pairs_stops Fence.wide (4 - 1) trivial rfl (by omega) (w.heap.size+1+1+1) n (w.heap.size+1) 0 (n*n) h0 hn _ d3) KB.trans (KB.put d5) (Below.refl _ _) (fun _=>by rfl)
  (fun pre W=>lies.Lies W (w.heap.size+1) 25 (cellsOf (tpl n (List.replicate (n*n) 0) pre))∧lies.Lies W (w.heap.size+1+1) 153 #[.int .i64 n,.slice (some ⟨w.heap.size+1,0,none⟩) (n*n) (n*n)]∧lies.Lies W w.heap.size 81 #[.int .i64 0,.slice none 0 0]∧Below w.heap.size w W∧w.heap.size+1+1+1+1≤W.heap.size)
  (fun _ _ _=>False)
  (OwnFrom.and (own_lies _ _ _ _) (OwnFrom.and (own_lies _ _ _ (fun _=>_)) (OwnFrom.and (own_lies _ _ _ (fun _=>_)) (OwnFrom.and (ownFrom_below (Nat.le_refl _) (by simp;omega)) (own_size _ _)))))
  (fun _ _ _ _ _ hs _ _=>hs)
  ⟨d1,d2,d0,d4,d5⟩
  (fun x=>{tmps:=#[.int .i64 n,undef,.pointer (some ⟨w.heap.size,0,none⟩),.int .i64 0,.pointer (some ⟨w.heap.size+1+1,0,none⟩),.int .i64 (x.1.1:Int),.int .i64 (x.1.2:Int),.int .i64 n,.bool false,.bool false,.int .i64 n,.bool false,.bool false,undef,.int .i64 n,.int .i64 n,.int .i64 n,.int .i64 ((n:Int)*n),.slice (some ⟨w.heap.size+1,0,none⟩) (n*n) (n*n),.agg #[.int .i64 n,.slice (some ⟨w.heap.size+1,0,none⟩) (n*n) (n*n)],.agg #[.int .i64 n,.slice (some ⟨w.heap.size+1,0,none⟩) (n*n) (n*n)],.agg #[.int .i64 n,.slice (some ⟨w.heap.size+1,0,none⟩) (n*n) (n*n)],.func (.func 184) #[] #[.pointer (some ⟨w.heap.size+1+1+1,0,none⟩)],.int .i64 (x.1.1:Int),.int .i64 (x.1.2:Int),undef,undef,undef,undef,undef,undef,undef,undef,undef,undef,undef,undef,undef,undef,undef],defers:=[]}) ?assign ?body ?done ?stop
 case assign=>
  intro l x W K hK
  gi_wp2
  exact hK
 case body=>
  rintro l pre x W ⟨hT,hM,hR,hB,hz⟩ _
  obtain ⟨⟨i,j⟩,hi,hj⟩:=x
  dsimp only at hi hj
  obtain ⟨us,hus⟩:∃ us,us=tpl n (List.replicate (n*n) 0) pre:=⟨_,rfl⟩
  rw [←hus] at hT
  have hlen:us.length=n*n:=by rw [hus,tpl_length];simp
  have p3:=place_le hn hi hj
  have HS:=Lib.hid hus
  have HN:=Lib.hid hlen
  have P3:=Lib.hid p3
  have hc:W.cell? ⟨w.heap.size+1,i*n+j,none⟩=some (.int .i64 (us[i*n+j]?.getD 0)):=(lies.cell hT _).trans (cells_at us _ (by rw [hlen];exact p3))
  generalize us[i*n+j]?.getD 0=y at hc
  have HC:=Lib.hid hc
  clear hus hlen p3 hmk m1 m2 d0 d1 d2 d3 d4 t1 t2 hc
  obtain ⟨c0,c1,c2,c3,c4⟩:=lies.two hM
  gi_wp2
  refine ⟨trivial,CallsIn.inRound l (callsIn_wide.2 ((at_below n i j (w.heap.size+1) 0 (n*n) W hn hi hj).mono ?_))⟩
  rintro e W5 ⟨rfl,hW5⟩
  have hT5:=lies.on_call hT hW5
  have hM5:=lies.on_call hM hW5
  have hR5:=lies.on_call hR hW5
  have hB5:=hB.trans (hW5.mono hB.size)
  have q5:=grown_below (grown_refl W (some (w.heap.size+1))) hW5 (Nat.le_refl _)
  have hc5:W5.cell? ⟨w.heap.size+1,i*n+j,none⟩=some (.int .i64 y):=(hW5.cell (p:=⟨w.heap.size+1,i*n+j,none⟩) (by show w.heap.size+1<_;omega)).trans HC.out
  have hf5:=lies.free hT5 (i*n+j)
  clear c0 c1 c2 c3 c4
  have hT6:=lies.on_put hT5 (i*n+j) (.int .i64 9223372036854775807)
  rw [cells_set] at hT6
  have hM6:=lies.on_far hM5 (i*n+j) (show w.heap.size+1+1≠w.heap.size+1 by omega) (.int .i64 9223372036854775807)
  have hR6:=lies.on_far hR5 (i*n+j) (show w.heap.size≠w.heap.size+1 by omega) (.int .i64 9223372036854775807)
  have hB6:=hB5.setCell (p:=⟨w.heap.size+1,i*n+j,none⟩) (by simp) (.int .i64 9223372036854775807)
  have q6:=grown_set q5 (i*n+j) (.int .i64 9223372036854775807)
  have Q:=Lib.hid (And.intro hT6 (And.intro hM6 (And.intro hR6 (And.intro hB6 q6))))
  clear hT6 hM6 hR6 hB6 q6 q5 hR5 hB5 hT5 hM hR hB hT
  by_cases hij:i=j
  ·obtain rfl:i=j:=hij
   have t3:((i:Int)==i)=true:=by simp
   obtain ⟨c0,c1,c2,c3,c4⟩:=lies.two hM5
   clear hM5
   gi_wp2
   refine ⟨trivial,CallsIn.inRound l (callsIn_wide.2 ((at_below n i i (w.heap.size+1) 0 (n*n) _ hn hi hj).mono ?_))⟩
   rintro e W7 ⟨rfl,hW7⟩
   obtain ⟨hT6,hM6,hR6,hB6,q6⟩:=Q.out
   have hT7:=lies.on_call hT6 hW7
   have hM7:=lies.on_call hM6 hW7
   have hR7:=lies.on_call hR6 hW7
   have hB7:=hB6.trans (hW7.mono hB6.size)
   have q7:=grown_below q6 hW7 q6.size
   have hc7:W7.cell? ⟨w.heap.size+1,i*n+i,none⟩=some (.int .i64 ((us.set (i*n+i) 9223372036854775807)[i*n+i]?.getD 0)):=(lies.cell hT7 _).trans (cells_at _ _ (by rw [List.length_set,HN.out];exact P3.out))
   have hf7:=lies.free hT7 (i*n+i)
   generalize (us.set (i*n+i) 9223372036854775807)[i*n+i]?.getD 0=y' at hc7
   have hT8:=lies.on_put hT7 (i*n+i) (.int .i64 1)
   rw [cells_set] at hT8
   have hM8:=lies.on_far hM7 (i*n+i) (show w.heap.size+1+1≠w.heap.size+1 by omega) (.int .i64 1)
   have hR8:=lies.on_far hR7 (i*n+i) (show w.heap.size≠w.heap.size+1 by omega) (.int .i64 1)
   have hB8:=hB7.setCell (p:=⟨w.heap.size+1,i*n+i,none⟩) (by simp) (.int .i64 1)
   have q8:=grown_set q7 (i*n+i) (.int .i64 1)
   have Q8:=Lib.hid (And.intro hT8 (And.intro hM8 (And.intro hR8 (And.intro hB8 q8))))
   clear hT8 hM8 hR8 hB8 q8 hT7 hM7 hR7 hB7 q7 hT6 hM6 hR6 hB6 q6 hW7 c0 c1 c2 c3 c4 Q
   gi_wp2
   obtain ⟨q1,q2,q3,q4,q6⟩:=Q8.out
   refine ⟨KeepsFrom.of_grownBy q6 (fun r e=>by cases e;simp),q6.block _ (by omega) (fun e=>by have:=Option.some.inj e;omega),?_,q2,q3,q4,by have:=q6.size;omega⟩
   rw [tpl_snoc,←HS.out]
   unfold tpp
   rw [if_pos rfl]
   exact q1
  ·have t3:((i:Int)==j)=false:=by simp;omega
   have HIJ:=Lib.hid hij
   clear hij hM5
   gi_wp2
   obtain ⟨q1,q2,q3,q4,q6⟩:=Q.out
   refine ⟨KeepsFrom.of_grownBy q6 (fun r e=>by cases e;simp),q6.block _ (by omega) (fun e=>by have:=Option.some.inj e;omega),?_,q2,q3,q4,by have:=q6.size;omega⟩
   rw [tpl_snoc,←HS.out]
   unfold tpp
   rw [if_neg HIJ.out]
   exact q1
 case done=>
  rintro D ys W hD rfl ⟨hT,hM,hR,hB,hz⟩ hK
  obtain ⟨c0,c1,c2,c3,c4⟩:=lies.two hM
  obtain ⟨e0,e1,e2,e3,e4⟩:=lies.two hR
  have hD':w.heap.size+1+1+1+1≤D:=by simp at hD;omega
  clear hD
  gi_wp2
  have hK':=((KeepsOthers.setCell W ⟨w.heap.size,0,none⟩ (.int .i64 n)).trans (KeepsOthers.setCell _ ⟨w.heap.size,1,none⟩ (.slice (some ⟨w.heap.size+1,0,none⟩) (n*n) (n*n)))).same D _ hK rfl
  have r1:=lies.on_put (lies.on_put hR 0 (.int .i64 n)) 1 (.slice (some ⟨w.heap.size+1,0,none⟩) (n*n) (n*n))
  obtain ⟨k0,k1,k2,k3,k4⟩:=lies.two r1
  have z0:=cell_kept k0 (grownBy_putObj' _ D (.deferred none)) (fun r e=>by cases e;exact ⟨_,hK',rfl⟩)
  have z1:=cell_kept k1 (grownBy_putObj' _ D (.deferred none)) (fun r e=>by cases e;exact ⟨_,hK',rfl⟩)
  refine ⟨by simp,.inl ⟨_,_,rfl,run_takeDeferred hK',?_⟩⟩
  refine ⟨.tuple #[.agg #[.int .i64 n,.slice (some ⟨w.heap.size+1,0,none⟩) (n*n) (n*n)],.int .i64 0],?_,?_,w.heap.size+1,by omega,rfl,?_⟩
  ·simp [results,Tryz.f93,go_sem,z0,z1]
  ·exact ((hB.setCell (p:=⟨w.heap.size,0,none⟩) (Nat.le_refl _) _).setCell (p:=⟨w.heap.size,1,none⟩) (Nat.le_refl _) _).trans (belowK_b (w:=w) (Nat.le_refl _) _ D _ _ (by omega) hK' rfl rfl)
  ·exact Eq.trans (World.putObj_heap_other (by omega)) (lies.on_far (lies.on_far hT 0 (by omega) _) 1 (by omega) _)
 case stop=>
  rintro D c pre W hD _ h _
  exact h.elim
end Go.Proofs.YthmljpccbjolgaaGreatDoor.dbm
namespace Go.Proofs.YthmljpccbjolgaaGreatDoor.dref
open Go.ChangeShapes Go.WideShapes Go.ChangeAt Go.RowKit num dbm
open bound hiding up
set_option linter.unusedVariables false
end Go.Proofs.YthmljpccbjolgaaGreatDoor.dref
namespace Go.Proofs.YthmljpccbjolgaaGreatDoor.dlaw
open Go.Joins Go.ChangeShapes Go.WideShapes Go.ChangeAt Go.RowKit num dbm
open bound hiding up
set_option linter.unusedVariables false
set_option linter.unusedSimpArgs false
theorem own_ints {w:World} {g:Nat} {us:List Int} {cap:Nat} (h:lies.Lies w g 25 (cellsOf us)):law.Ints w.heap.size w (.slice (some ⟨g,0,none⟩) us.length cap) us:=.inr ⟨g,0,cap,rfl,lies.lt h,row_of h⟩
theorem at_s {w W:World} {g:Nat} {t:TypeId} {u v:Value} (h:lies.Lies w g t #[u,v]) (k:Below w.heap.size w W):W.cell? ⟨g,0,none⟩=some u∧W.cell? ⟨g,1,none⟩=some v:=lies.pair (lies.on_call h k)
end Go.Proofs.YthmljpccbjolgaaGreatDoor.dlaw
namespace Go.Proofs.YthmljpccbjolgaaGreatDoor.dref
open Go.ChangeShapes Go.WideShapes Go.ChangeAt Go.RowKit num dbm
open bound hiding up
set_option linter.unusedVariables false
set_option linter.unusedSimpArgs false
end Go.Proofs.YthmljpccbjolgaaGreatDoor.dref
namespace Go.Proofs.YthmljpccbjolgaaGreatDoor.dref
open Go.ChangeShapes Go.WideShapes Go.ChangeAt Go.RowKit num dbm
open bound hiding up
set_option linter.unusedVariables false
end Go.Proofs.YthmljpccbjolgaaGreatDoor.dref
