
/-
  What Top of package dbm answers, whether matrices are the same, copies, and the chapter's first examples; each theorem names its conditions.
-/
import Derived.Test.YthmljpccbjolgaaGreatDoorDbmA
import Derived.Test.YthmljpccbjolgaaGreatDoorBase
import Derived.BigQuiet
import Derived.Lib.SmallJoins
import Derived.Deep.RegionHeld3
import Derived.Deep.RegionHeld
import Derived.Maps.AppendAt
namespace Go.Proofs.YthmljpccbjolgaaGreatDoor.dbm
open Go.RowKit Go.Shelf num
open bound hiding up
attribute [local go_sem] Oper.semAt_some
set_option linter.unusedVariables false
set_option linter.unusedSimpArgs false
def tpp (n:Nat) (ts:List Int) (x:Nat × Nat):List Int:=if x.1=x.2 then (ts.set (x.1*n+x.2) 9223372036854775807).set (x.1*n+x.2) 1 else ts.set (x.1*n+x.2) 9223372036854775807
def tpl (n:Nat) (ts:List Int) (pre:List (Cl n)):List Int:=pre.foldl (fun t x=>tpp n t x.1) ts
theorem tpl_snoc (n:Nat) (ts:List Int) (pre:List (Cl n)) (x:Cl n):tpl n ts (pre++[x])=tpp n (tpl n ts pre) x.1:=by simp [tpl]
theorem tpp_length (n:Nat) (ts:List Int) (x:Nat × Nat):(tpp n ts x).length=ts.length:=by
 unfold tpp
 split<;>simp
theorem tpl_length (n:Nat) (ts:List Int) (pre:List (Cl n)):(tpl n ts pre).length=ts.length:=by
 unfold tpl
 induction pre generalizing ts with
 | nil=>rfl
 | cons x pre ih=>rw [List.foldl_cons,ih,tpp_length]
theorem made_zeros (m:Nat):madeCells #[.int .i64 0] m=cellsOf (List.replicate m 0):=by
 unfold madeCells cellsOf
 apply Array.ext
 ·simp
 ·intro i h1 h2
  simp [Nat.mod_one]
def topT (n:Nat) (h:0<n):List Int:=tpl n (List.replicate (n*n) 0) (upto (nth n h) (n*n))
def Tp (n:Nat) (us:List Int) (w:World) (e:Ending) (w':World):Prop:=Below w.heap.size w w'∧∃ g,w.heap.size≤g∧e=.returned (.tuple #[.agg #[.int .i64 n,.slice (some ⟨g,0,none⟩) (n*n) (n*n)],.int .i64 0])∧lies.Lies w' g 25 (cellsOf us)
set_option maxRecDepth 100000 in
set_option maxHeartbeats 2000000 in
theorem top_ok (n:Nat) (w:World) (h0:0<n) (hn:n≤4):Calls Tryz.prog 93 #[.int .i64 n] w (Tp n (topT n h0) w):=by
 have hsq:=sq_le hn
 have hmk:=run_make_row' (P:=Tryz.prog) 79 25 (.int .i64 0) 8 Tryz.underlying79 info_b rfl .i64 .i64 (n*n) (by omega) (by omega)
 simp only [Int.natCast_mul] at hmk
 have m1:IntKind.i64.wrap ((n:Int)*n)=(n:Int)*n:=by
  rw [←Int.natCast_mul]
  exact wrap_small (by omega) (by omega)
 have m2:wrap64 ((n:Int)*n)=(n:Int)*n:=by
  rw [←Int.natCast_mul]
  unfold wrap64
  omega
 have t1:¬ (n:Int)<1:=by omega
 have t2:¬ (4:Int)<n:=by omega
 refine callsIn_wide (n:=4).1 ?_
 refine callsIn_of_wp_marks Tryz.func93 rfl trivial ?_ rfl
 simp only [Tryz.ntmps93,List.size_toArray,List.length_cons,List.length_nil,Nat.reduceAdd,Nat.reduceSub,Array.replicate_succ,Array.replicate_zero,List.push_toArray,List.append_toArray,List.nil_append,List.cons_append]
 gi_wp2
 refine ⟨trivial,(pairs_in Fence.wide 3 trivial rfl _ _ _ rfl rfl).mono ?_⟩
 rintro e w' ⟨rfl,rfl⟩
 gi_wp2
 have d0:lies.Lies ((((w.alloc (.cells #[.int .i64 0,.slice none 0 0] 81)).alloc (.cells (madeCells #[.int .i64 0] (n*n)) 25)).alloc (.cells #[.int .i64 n,.slice (some ⟨w.heap.size+1,0,none⟩) (n*n) (n*n)] 153)).alloc (.cells #[.int .i64 n,.slice (some ⟨w.heap.size+1,0,none⟩) (n*n) (n*n)] 153)) w.heap.size 81 #[.int .i64 0,.slice none 0 0]:=lies.on_alloc (lies.on_alloc (lies.on_alloc (lies.made w _ _) _) _) _
 have d1:lies.Lies ((((w.alloc (.cells #[.int .i64 0,.slice none 0 0] 81)).alloc (.cells (madeCells #[.int .i64 0] (n*n)) 25)).alloc (.cells #[.int .i64 n,.slice (some ⟨w.heap.size+1,0,none⟩) (n*n) (n*n)] 153)).alloc (.cells #[.int .i64 n,.slice (some ⟨w.heap.size+1,0,none⟩) (n*n) (n*n)] 153)) (w.heap.size+1) 25 (cellsOf (List.replicate (n*n) 0)):=by rw [←made_zeros];exact lies.on_alloc (lies.on_alloc (lies.made_at _ _ _ _ (World.size_alloc _ _)) _) _
 have d2:lies.Lies ((((w.alloc (.cells #[.int .i64 0,.slice none 0 0] 81)).alloc (.cells (madeCells #[.int .i64 0] (n*n)) 25)).alloc (.cells #[.int .i64 n,.slice (some ⟨w.heap.size+1,0,none⟩) (n*n) (n*n)] 153)).alloc (.cells #[.int .i64 n,.slice (some ⟨w.heap.size+1,0,none⟩) (n*n) (n*n)] 153)) (w.heap.size+1+1) 153 #[.int .i64 n,.slice (some ⟨w.heap.size+1,0,none⟩) (n*n) (n*n)]:=lies.on_alloc (lies.made_at _ _ _ _ (by simp)) _
 have d3:lies.Lies ((((w.alloc (.cells #[.int .i64 0,.slice none 0 0] 81)).alloc (.cells (madeCells #[.int .i64 0] (n*n)) 25)).alloc (.cells #[.int .i64 n,.slice (some ⟨w.heap.size+1,0,none⟩) (n*n) (n*n)] 153)).alloc (.cells #[.int .i64 n,.slice (some ⟨w.heap.size+1,0,none⟩) (n*n) (n*n)] 153)) (w.heap.size+1+1+1) 153 #[.int .i64 n,.slice (some ⟨w.heap.size+1,0,none⟩) (n*n) (n*n)]:=lies.made_at _ _ _ _ (by simp)
 have d4:Below w.heap.size w ((((w.alloc (.cells #[.int .i64 0,.slice none 0 0] 81)).alloc (.cells (madeCells #[.int .i64 0] (n*n)) 25)).alloc (.cells #[.int .i64 n,.slice (some ⟨w.heap.size+1,0,none⟩) (n*n) (n*n)] 153)).alloc (.cells #[.int .i64 n,.slice (some ⟨w.heap.size+1,0,none⟩) (n*n) (n*n)] 153)):=dbm.up (dbm.up (dbm.up (dbm.up (Below.refl _ _) (Nat.le_refl _) _) (Nat.le_refl _) _) (Nat.le_refl _) _) (Nat.le_refl _) _
 have d5:w.heap.size+1+1+1<(((((w.alloc (.cells #[.int .i64 0,.slice none 0 0] 81)).alloc (.cells (madeCells #[.int .i64 0] (n*n)) 25)).alloc (.cells #[.int .i64 n,.slice (some ⟨w.heap.size+1,0,none⟩) (n*n) (n*n)] 153)).alloc (.cells #[.int .i64 n,.slice (some ⟨w.heap.size+1,0,none⟩) (n*n) (n*n)] 153))).heap.size:=by simp
 refine wpIn_rangeFunc_ownG (F:=Fence.wide) (n:=4) rfl (by omega) (gf:=184) (lb:=#[.pointer (some ⟨w.heap.size+1+1+1,0,none⟩)]) rfl trivial (enters_of Tryz.func184 (by kernel_rfl) rfl)
  (pairs_stops Fence.wide (4 - 1) trivial rfl (by omega) (w.heap.size+1+1+1) n (w.heap.size+1) 0 (n*n) h0 hn _ d3) KB.trans (KB.put d5) (Below.refl _ _) (fun _=>by rfl)
  (fun pre W=>lies.Lies W (w.heap.size+1) 25 (cellsOf (tpl n (List.replicate (n*n) 0) pre))∧lies.Lies W (w.heap.size+1+1) 153 #[.int .i64 n,.slice (some ⟨w.heap.size+1,0,none⟩) (n*n) (n*n)]∧lies.Lies W w.heap.size 81 #[.int .i64 0,.slice none 0 0]∧Below w.heap.size w W∧w.heap.size+1+1+1+1≤W.heap.size)
  (fun _ _ _=>False)
  (OwnFrom.and (own_lies _ _ _ _) (OwnFrom.and (own_lies _ _ _ (fun _=>_)) (OwnFrom.and (own_lies _ _ _ (fun _=>_)) (OwnFrom.and (ownFrom_below (Nat.le_refl _) (by simp;omega)) (own_size _ _)))))
  (fun _ _ _ _ _ hs _ _=>hs)
  ⟨d1,d2,d0,d4,d5⟩
  (fun x=>{tmps:=#[.int .i64 n,undef,.pointer (some ⟨w.heap.size,0,none⟩),.int .i64 0,.pointer (some ⟨w.heap.size+1+1,0,none⟩),.int .i64 (x.1.1:Int),.int .i64 (x.1.2:Int),.int .i64 n,.bool false,.bool false,.int .i64 n,.bool false,.bool false,undef,.int .i64 n,.int .i64 n,.int .i64 n,.int .i64 ((n:Int)*n),.slice (some ⟨w.heap.size+1,0,none⟩) (n*n) (n*n),.agg #[.int .i64 n,.slice (some ⟨w.heap.size+1,0,none⟩) (n*n) (n*n)],.agg #[.int .i64 n,.slice (some ⟨w.heap.size+1,0,none⟩) (n*n) (n*n)],.agg #[.int .i64 n,.slice (some ⟨w.heap.size+1,0,none⟩) (n*n) (n*n)],.func (.func 184) #[] #[.pointer (some ⟨w.heap.size+1+1+1,0,none⟩)],.int .i64 (x.1.1:Int),.int .i64 (x.1.2:Int),undef,undef,undef,undef,undef,undef,undef,undef,undef,undef,undef,undef,undef,undef,undef],defers:=[]}) ?assign ?body ?done ?stop
 case assign=>
  intro l x W K hK
  gi_wp2
  exact hK
 case body=>
  rintro l pre x W ⟨hT,hM,hR,hB,hz⟩ _
  obtain ⟨⟨i,j⟩,hi,hj⟩:=x
  dsimp only at hi hj
  obtain ⟨us,hus⟩:∃ us,us=tpl n (List.replicate (n*n) 0) pre:=⟨_,rfl⟩
  rw [←hus] at hT
  have hlen:us.length=n*n:=by rw [hus,tpl_length];simp
  have p3:=place_le hn hi hj
  have HS:=Lib.hid hus
  have HN:=Lib.hid hlen
  have P3:=Lib.hid p3
  have hc:W.cell? ⟨w.heap.size+1,i*n+j,none⟩=some (.int .i64 (us[i*n+j]?.getD 0)):=(lies.cell hT _).trans (cells_at us _ (by rw [hlen];exact p3))
  generalize us[i*n+j]?.getD 0=y at hc
  have HC:=Lib.hid hc
  clear hus hlen p3 hmk m1 m2 d0 d1 d2 d3 d4 t1 t2 hc
  obtain ⟨c0,c1,c2,c3,c4⟩:=lies.two hM
  gi_wp2
  refine ⟨trivial,CallsIn.inRound l (callsIn_wide.2 ((at_below n i j (w.heap.size+1) 0 (n*n) W hn hi hj).mono ?_))⟩
  rintro e W5 ⟨rfl,hW5⟩
  have hT5:=lies.on_call hT hW5
  have hM5:=lies.on_call hM hW5
  have hR5:=lies.on_call hR hW5
  have hB5:=hB.trans (hW5.mono hB.size)
  have q5:=grown_below (grown_refl W (some (w.heap.size+1))) hW5 (Nat.le_refl _)
  have hc5:W5.cell? ⟨w.heap.size+1,i*n+j,none⟩=some (.int .i64 y):=(hW5.cell (p:=⟨w.heap.size+1,i*n+j,none⟩) (by show w.heap.size+1<_;omega)).trans HC.out
  have hf5:=lies.free hT5 (i*n+j)
  clear c0 c1 c2 c3 c4
  have hT6:=lies.on_put hT5 (i*n+j) (.int .i64 9223372036854775807)
  rw [cells_set] at hT6
  have hM6:=lies.on_far hM5 (i*n+j) (show w.heap.size+1+1≠w.heap.size+1 by omega) (.int .i64 9223372036854775807)
  have hR6:=lies.on_far hR5 (i*n+j) (show w.heap.size≠w.heap.size+1 by omega) (.int .i64 9223372036854775807)
  have hB6:=hB5.setCell (p:=⟨w.heap.size+1,i*n+j,none⟩) (by simp) (.int .i64 9223372036854775807)
  have q6:=grown_set q5 (i*n+j) (.int .i64 9223372036854775807)
  have Q:=Lib.hid (And.intro hT6 (And.intro hM6 (And.intro hR6 (And.intro hB6 q6))))
  clear hT6 hM6 hR6 hB6 q6 q5 hR5 hB5 hT5 hM hR hB hT
  by_cases hij:i=j
  ·obtain rfl:i=j:=hij
   have t3:((i:Int)==i)=true:=by simp
   obtain ⟨c0,c1,c2,c3,c4⟩:=lies.two hM5
   clear hM5
   gi_wp2
   refine ⟨trivial,CallsIn.inRound l (callsIn_wide.2 ((at_below n i i (w.heap.size+1) 0 (n*n) _ hn hi hj).mono ?_))⟩
   rintro e W7 ⟨rfl,hW7⟩
   obtain ⟨hT6,hM6,hR6,hB6,q6⟩:=Q.out
   have hT7:=lies.on_call hT6 hW7
   have hM7:=lies.on_call hM6 hW7
   have hR7:=lies.on_call hR6 hW7
   have hB7:=hB6.trans (hW7.mono hB6.size)
   have q7:=grown_below q6 hW7 q6.size
   have hc7:W7.cell? ⟨w.heap.size+1,i*n+i,none⟩=some (.int .i64 ((us.set (i*n+i) 9223372036854775807)[i*n+i]?.getD 0)):=(lies.cell hT7 _).trans (cells_at _ _ (by rw [List.length_set,HN.out];exact P3.out))
   have hf7:=lies.free hT7 (i*n+i)
   generalize (us.set (i*n+i) 9223372036854775807)[i*n+i]?.getD 0=y' at hc7
   have hT8:=lies.on_put hT7 (i*n+i) (.int .i64 1)
   rw [cells_set] at hT8
   have hM8:=lies.on_far hM7 (i*n+i) (show w.heap.size+1+1≠w.heap.size+1 by omega) (.int .i64 1)
   have hR8:=lies.on_far hR7 (i*n+i) (show w.heap.size≠w.heap.size+1 by omega) (.int .i64 1)
   have hB8:=hB7.setCell (p:=⟨w.heap.size+1,i*n+i,none⟩) (by simp) (.int .i64 1)
   have q8:=grown_set q7 (i*n+i) (.int .i64 1)
   have Q8:=Lib.hid (And.intro hT8 (And.intro hM8 (And.intro hR8 (And.intro hB8 q8))))
   clear hT8 hM8 hR8 hB8 q8 hT7 hM7 hR7 hB7 q7 hT6 hM6 hR6 hB6 q6 hW7 c0 c1 c2 c3 c4 Q
   gi_wp2
   obtain ⟨q1,q2,q3,q4,q6⟩:=Q8.out
   refine ⟨KeepsFrom.of_grownBy q6 (fun r e=>by cases e;simp),q6.block _ (by omega) (fun e=>by have:=Option.some.inj e;omega),?_,q2,q3,q4,by have:=q6.size;omega⟩
   rw [tpl_snoc,←HS.out]
   unfold tpp
   rw [if_pos rfl]
   exact q1
  ·have t3:((i:Int)==j)=false:=by simp;omega
   have HIJ:=Lib.hid hij
   clear hij hM5
   gi_wp2
   obtain ⟨q1,q2,q3,q4,q6⟩:=Q.out
   refine ⟨KeepsFrom.of_grownBy q6 (fun r e=>by cases e;simp),q6.block _ (by omega) (fun e=>by have:=Option.some.inj e;omega),?_,q2,q3,q4,by have:=q6.size;omega⟩
   rw [tpl_snoc,←HS.out]
   unfold tpp
   rw [if_neg HIJ.out]
   exact q1
 case done=>
  rintro D ys W hD rfl ⟨hT,hM,hR,hB,hz⟩ hK
  obtain ⟨c0,c1,c2,c3,c4⟩:=lies.two hM
  obtain ⟨e0,e1,e2,e3,e4⟩:=lies.two hR
  have hD':w.heap.size+1+1+1+1≤D:=by simp at hD;omega
  clear hD
  gi_wp2
  have hK':=((KeepsOthers.setCell W ⟨w.heap.size,0,none⟩ (.int .i64 n)).trans (KeepsOthers.setCell _ ⟨w.heap.size,1,none⟩ (.slice (some ⟨w.heap.size+1,0,none⟩) (n*n) (n*n)))).same D _ hK rfl
  have r1:=lies.on_put (lies.on_put hR 0 (.int .i64 n)) 1 (.slice (some ⟨w.heap.size+1,0,none⟩) (n*n) (n*n))
  obtain ⟨k0,k1,k2,k3,k4⟩:=lies.two r1
  have z0:=cell_kept k0 (grownBy_putObj' _ D (.deferred none)) (fun r e=>by cases e;exact ⟨_,hK',rfl⟩)
  have z1:=cell_kept k1 (grownBy_putObj' _ D (.deferred none)) (fun r e=>by cases e;exact ⟨_,hK',rfl⟩)
  refine ⟨by simp,.inl ⟨_,_,rfl,run_takeDeferred hK',?_⟩⟩
  refine ⟨.tuple #[.agg #[.int .i64 n,.slice (some ⟨w.heap.size+1,0,none⟩) (n*n) (n*n)],.int .i64 0],?_,?_,w.heap.size+1,by omega,rfl,?_⟩
  ·simp [results,Tryz.f93,go_sem,z0,z1]
  ·exact ((hB.setCell (p:=⟨w.heap.size,0,none⟩) (Nat.le_refl _) _).setCell (p:=⟨w.heap.size,1,none⟩) (Nat.le_refl _) _).trans (belowK_b (w:=w) (Nat.le_refl _) _ D _ _ (by omega) hK' rfl rfl)
  ·exact Eq.trans (World.putObj_heap_other (by omega)) (lies.on_far (lies.on_far hT 0 (by omega) _) 1 (by omega) _)
 case stop=>
  rintro D c pre W hD _ h _
  exact h.elim
end Go.Proofs.YthmljpccbjolgaaGreatDoor.dbm
namespace Go.Proofs.YthmljpccbjolgaaGreatDoor.dref
open Go.ChangeShapes Go.WideShapes Go.ChangeAt Go.RowKit num dbm
open bound hiding up
set_option linter.unusedVariables false
theorem same_clocks (n m:Int) (a c:Option Addr) (l k cap dap:Nat) (w:World) (h:n≠m):
  Calls Tryz.prog 149 #[.agg #[.int .i64 n,.slice a l cap],.agg #[.int .i64 m,.slice c k dap]] w fun e w'=>e=.returned (.bool false)∧Below w.heap.size w w':=by
 have t1:((n:Int) !=m)=true:=by simpa using h
 clear h
 go_enter Tryz.func149,Tryz.ntmps149
 go_wp2
 go_ret
 exact ⟨rfl,bound.up2 _ _ _⟩
theorem same_lens (n:Int) (a c:Option Addr) (l k cap dap:Nat) (w:World) (h:l≠k):
  Calls Tryz.prog 149 #[.agg #[.int .i64 n,.slice a l cap],.agg #[.int .i64 n,.slice c k dap]] w fun e w'=>e=.returned (.bool false)∧Below w.heap.size w w':=by
 have t1:((l:Int) !=k)=true:=by simp;omega
 have t2:((n:Int) !=n)=false:=by simp
 go_enter Tryz.func149,Tryz.ntmps149
 go_wp2
 go_ret
 exact ⟨rfl,bound.up2 _ _ _⟩
theorem same_nil (n:Int) (a c:Option Addr) (cap dap:Nat) (w:World):
  Calls Tryz.prog 149 #[.agg #[.int .i64 n,.slice a 0 cap],.agg #[.int .i64 n,.slice c 0 dap]] w fun e w'=>e=.returned (.bool true)∧Below w.heap.size w w':=by
 have t2:((n:Int) !=n)=false:=by simp
 go_enter Tryz.func149,Tryz.ntmps149
 go_wp2
 go_loop [5] (fun i=>i=.int .i64 0) (fun _=>0)
 case atStart=>rfl
 case round=>
  obtain rfl:=hrel
  go_wp2
  go_ret
  exact ⟨rfl,bound.up2 _ _ _⟩
set_option maxRecDepth 100000 in
set_option maxHeartbeats 2000000 in
theorem same_rows (n:Int) (b off cap g pff dap len:Nat) (ts us:List Int) (w:World) (hr:Row w b off ts) (hb:b<w.heap.size) (hs:Row w g pff us) (hg:g<w.heap.size) (hl:ts.length=len) (hk:us.length=len) (hm:len≤1000000):
  Calls Tryz.prog 149 #[.agg #[.int .i64 n,.slice (some ⟨b,off,none⟩) len cap],.agg #[.int .i64 n,.slice (some ⟨g,pff,none⟩) len dap]] w fun e w'=>e=.returned (.bool (decide (ts=us)))∧Below w.heap.size w w':=by
 have t2:((n:Int) !=n)=false:=by simp
 have t3:((len:Int) !=len)=false:=by simp
 have HR:=Lib.hid hr
 have HS:=Lib.hid hs
 have HL:=Lib.hid hl
 have HK:=Lib.hid hk
 clear hr hs hl hk
 have r0:=lies.on_alloc (lies.made w 81 #[.int .i64 n,.slice (some ⟨b,off,none⟩) len cap]) (.cells #[.int .i64 n,.slice (some ⟨g,pff,none⟩) len dap] 81)
 have r1:=lies.made_at (w.alloc (.cells #[.int .i64 n,.slice (some ⟨b,off,none⟩) len cap] 81)) 81 #[.int .i64 n,.slice (some ⟨g,pff,none⟩) len dap] (w.heap.size+1) (World.size_alloc _ _)
 go_enter Tryz.func149,Tryz.ntmps149
 go_wp2
 go_loopw [5] (fun i wr=>∃ k:Nat,k≤len∧i=.int .i64 k∧RowKit.Hid (∀ p,p<k→ts[p]?.getD 0=us[p]?.getD 0)∧lies.Lies wr w.heap.size 81 #[.int .i64 n,.slice (some ⟨b,off,none⟩) len cap]∧lies.Lies wr (w.heap.size+1) 81 #[.int .i64 n,.slice (some ⟨g,pff,none⟩) len dap]∧Below w.heap.size w wr)
  (fun i _=>len - (intOf i).toNat)
 case atStart=>exact ⟨0,Nat.zero_le _,rfl,Lib.hid (fun m hm=>absurd hm (by omega)),r0,r1,bound.up2 _ _ _⟩
 case round=>
  obtain ⟨k,hk,rfl,heq,q0,q1,hB⟩:=hrel
  obtain ⟨c0,c1,f0,f1,hlt⟩:=lies.two q0
  obtain ⟨d0,d1,e0,e1,hlu⟩:=lies.two q1
  clear r0 r1
  by_cases hkn:k<len
  ·have hc:=(HR.out.below hB hb) k (by rw [HL.out];exact hkn)
   have hd:=(HS.out.below hB hg) k (by rw [HK.out];exact hkn)
   have z1:(0:Int)≤k:=by omega
   have z2:(k:Int)<len:=by omega
   generalize hx:ts[k]?.getD 0=x at hc
   generalize hy:us[k]?.getD 0=y at hd
   have HX:=Lib.hid hx
   have HY:=Lib.hid hy
   clear hx hy
   by_cases hxy:x=y
   ·obtain rfl:x=y:=hxy
    have t4:((x:Int) !=x)=false:=by simp
    go_wp2_with fail
    go_quiet (fail)
    go_wp2
    go_roundw
    case rel=>exact ⟨k+1,by omega,by go_num,Lib.hid (fun m hm=>by
     by_cases e:m=k
     ·subst e;rw [HX.out,HY.out]
     ·exact heq.out m (by omega)),q0,q1,bound.drawn hB _⟩
    case measure=>simp [intOf];omega
   ·have t4:((x:Int) !=y)=true:=by simpa using hxy
    have hne:RowKit.Hid (decide (ts=us)=false):=Lib.hid (decide_eq_false (fun e=>hxy (by rw [←HX.out,←HY.out,e])))
    clear hxy
    go_wp2_with fail
    go_quiet (fail)
    go_wp2
    go_ret
    exact ⟨by rw [hne.out];rfl,bound.drawn hB _⟩
  ·obtain rfl:len=k:=by omega
   have hyes:RowKit.Hid (decide (ts=us)=true):=Lib.hid (decide_eq_true (List.ext_getElem (by rw [HL.out,HK.out]) (fun i h1 h2=>by
    have:=heq.out i (by rw [←HL.out];exact h1)
    rwa [List.getElem?_eq_getElem h1,List.getElem?_eq_getElem h2] at this)))
   go_wp2
   go_ret
   exact ⟨by rw [hyes.out];rfl,hB⟩
theorem same_any (n m:Int) (sv tv:Value) (ts us:List Int) (w:World) (hI:law.Ints w.heap.size w sv ts) (hJ:law.Ints w.heap.size w tv us) (hm:ts.length≤1000000):
  Calls Tryz.prog 149 #[.agg #[.int .i64 n,sv],.agg #[.int .i64 m,tv]] w fun e w'=>e=.returned (.bool (decide (n=m∧ts=us)))∧Below w.heap.size w w':=by
 by_cases h1:n=m
 ·subst h1
  by_cases h2:ts.length=us.length
  ·have e:decide (n=n∧ts=us)=decide (ts=us):=by simp
   rw [e]
   rcases hI with ⟨⟨a,cap,rfl,_⟩,rfl⟩ | ⟨b,off,cap,rfl,hb,hc⟩
   ·obtain rfl:us=[]:=List.eq_nil_of_length_eq_zero (by rw [←h2];rfl)
    obtain ⟨c,dap,rfl⟩:=ints_len hJ
    have:=same_nil n a c cap dap w
    simpa using this
   ·rcases hJ with ⟨⟨c,dap,rfl,_⟩,rfl⟩ | ⟨g,pff,dap,rfl,hg,hd⟩
    ·obtain rfl:ts=[]:=List.eq_nil_of_length_eq_zero (by rw [h2];rfl)
     have:=same_nil n (some ⟨b,off,none⟩) c cap dap w
     simpa using this
    ·rw [←h2]
     exact same_rows n b off cap g pff dap ts.length ts us w hc hb (fun p hp=>hd p hp) hg rfl h2.symm hm
  ·obtain ⟨a,cap,rfl⟩:=ints_len hI
   obtain ⟨c,dap,rfl⟩:=ints_len hJ
   rw [decide_eq_false (fun k=>h2 (by rw [k.2]))]
   exact same_lens n a c _ _ cap dap w h2
 ·obtain ⟨a,cap,rfl⟩:=ints_len hI
  obtain ⟨c,dap,rfl⟩:=ints_len hJ
  rw [decide_eq_false (fun k=>h1 k.1)]
  exact same_clocks n m a c _ _ cap dap w h1
end Go.Proofs.YthmljpccbjolgaaGreatDoor.dref
namespace Go.Proofs.YthmljpccbjolgaaGreatDoor.dlaw
open Go.Joins Go.ChangeShapes Go.WideShapes Go.ChangeAt Go.RowKit num dbm
open bound hiding up
set_option linter.unusedVariables false
set_option linter.unusedSimpArgs false
theorem own_ints {w:World} {g:Nat} {us:List Int} {cap:Nat} (h:lies.Lies w g 25 (cellsOf us)):law.Ints w.heap.size w (.slice (some ⟨g,0,none⟩) us.length cap) us:=.inr ⟨g,0,cap,rfl,lies.lt h,row_of h⟩
theorem at_s {w W:World} {g:Nat} {t:TypeId} {u v:Value} (h:lies.Lies w g t #[u,v]) (k:Below w.heap.size w W):W.cell? ⟨g,0,none⟩=some u∧W.cell? ⟨g,1,none⟩=some v:=lies.pair (lies.on_call h k)
end Go.Proofs.YthmljpccbjolgaaGreatDoor.dlaw
namespace Go.Proofs.YthmljpccbjolgaaGreatDoor.dref
open Go.ChangeShapes Go.WideShapes Go.ChangeAt Go.RowKit num dbm
open bound hiding up
set_option linter.unusedVariables false
set_option linter.unusedSimpArgs false
def TwR (n:Int) (ts:List Int) (w:World) (e:Ending) (w':World):Prop:=Below w.heap.size w w'∧∃ v,e=.returned (.agg #[.int .i64 n,v])∧w'.ownsRow w.heap.size 25 1 v ts.length (ts.map (Value.int .i64))
theorem own_other {w:World} {base n:Nat} {t:TypeId} {v:Value} {xs:List Value} (h:w.ownsRow base t 1 v n xs) {p:Addr} (hp:p.block<base) (u:Value):(w.setCell p u).ownsRow base t 1 v n xs:=by
 refine h.kept (row:=some p.block) ⟨rfl,rfl,rfl,by simp,fun k hk hne=>Below.heap_setCell w p u k (fun e=>hne (by rw [e]))⟩ ?_
 cases hv:v.ownBlock with
 | none=>exact .inl rfl
 | some k=>exact .inr (fun e=>by have:=(h.lt k hv).1;have:=Option.some.inj e;omega)
set_option maxRecDepth 100000 in
set_option maxHeartbeats 1000000 in
theorem twin_none (n:Int) (w:World):
  Calls Tryz.prog 192 #[.agg #[.int .i64 n,.slice none 0 0]] w (TwR n [] w):=by
 obtain ⟨i0,hi,hz0,hz1,hz2⟩:=info_parts info_b
 have happ:=fun W:World=>run_append_owned_none (P:=Tryz.prog) (w:=W) W.heap.size 79 79 25 i0 1 Tryz.underlying79 hi (.slice none 0 0) 0 [] (World.ownsRow_nil _ _ _ _)
 have c0:(w.alloc (.cells #[.int .i64 n,.slice none 0 0] 81)).heap.size=w.heap.size+1:=by simp
 go_enter Tryz.func192,Tryz.ntmps192
 go_wp2
 go_region
 all_goals go_wp2
 all_goals exact bodyPost_ret (v:=.agg #[.int .i64 n,.slice none 0 0]) (by simp [results,Tryz.results192,go_sem]) rfl ⟨dbm.drawn1 (bound.up2 _ _ _),_,rfl,World.ownsRow_nil _ _ _ _⟩
set_option maxRecDepth 100000 in
set_option maxHeartbeats 1000000 in
theorem twin_some (n:Int) (ad:Addr) (len cap:Nat) (ts:List Int) (w:World) (hr:∀ W,Below w.heap.size w W→∀ j v,(ts.map (Value.int .i64))[j]?=some v→W.cell? (ad.add j)=some v) (hl:ts.length=len) (hm:len≤10000000000000):
  Calls Tryz.prog 192 #[.agg #[.int .i64 n,.slice (some ad) len cap]] w (TwR n ts w):=by
 obtain ⟨i0,hi,hz0,hz1,hz2⟩:=info_parts info_b
 have HR:=Lib.hid hr
 have HL:=Lib.hid hl
 have HI:=Lib.hid (And.intro hi (And.intro hz0 (And.intro hz1 hz2)))
 clear hr hl hi hz0 hz1 hz2
 have D0:=lies.on_alloc (lies.made w 81 #[.int .i64 n,.slice (some ad) len cap]) (.cells #[.int .i64 0,.slice none 0 0] 81)
 have D1:=lies.made_at (w.alloc (.cells #[.int .i64 n,.slice (some ad) len cap] 81)) 81 #[.int .i64 0,.slice none 0 0] (w.heap.size+1) (World.size_alloc _ _)
 have DB:Below w.heap.size w ((w.alloc (.cells #[.int .i64 n,.slice (some ad) len cap] 81)).alloc (.cells #[.int .i64 0,.slice none 0 0] 81)):=bound.up2 _ _ _
 go_enter Tryz.func192,Tryz.ntmps192
 go_wp2
 refine wp_region_held_drew (S:=fun W=>W.cell? ⟨w.heap.size,0,none⟩=some (.int .i64 n)∧W.cell? ⟨w.heap.size,1,none⟩=some (.slice (some ad) len cap)) (by kernel_rfl) ⟨(lies.two D0).1,(lies.two D0).2.1⟩ (fun hHeld=>?_)
 refine tk 0 (v:=?_) rfl hHeld ?_ ?_
 rotate_left
 ·intro w hSw;obtain ⟨s0,s1⟩:=hSw;go_simp;try with_reducible rfl
 try simp only [Act.put,sA,sB,sC,sD,sE,sF]
 refine tk 1 (v:=?_) rfl hHeld ?_ ?_
 rotate_left
 ·intro w hSw;obtain ⟨s0,s1⟩:=hSw;go_simp;try with_reducible rfl
 try simp only [Act.put,sA,sB,sC,sD,sE,sF]
 refine tk 2 (v:=?_) rfl hHeld ?_ ?_
 rotate_left
 ·intro w hSw;obtain ⟨s0,s1⟩:=hSw;go_simp;try with_reducible rfl
 try simp only [Act.put,sA,sB,sC,sD,sE,sF]
 refine tk 3 (v:=?_) rfl hHeld ?_ ?_
 rotate_left
 ·intro w hSw;obtain ⟨s0,s1⟩:=hSw;go_simp;try with_reducible rfl
 try simp only [Act.put,sA,sB,sC,sD,sE,sF]
 refine wpAnyH_ready (rs:=[4]) (by kernel_rfl) (by simp) (AllReadyH.cons rfl (fun K hK=>?_) AllReadyH.nil)
 rw [if_pos (by rfl)]
 refine wp_append_own _ (.const (.slice none 0 0)) (.tmp 6) 79 rfl (w.heap.size+1+1) 25 i0 (.int .i64 0) 1 8 Tryz.underlying79 HI.out.1 HI.out.2.1 HI.out.2.2.1 HI.out.2.2.2 rfl (by decide) (.slice none 0 0) 0 [] rfl (World.ownsRow_nil _ _ _ _) ad len cap (ts.map (Value.int .i64)) rfl (by simp [HL.out]) (HR.out _ (dbm.drawn1 DB)) (by intro v hv;obtain ⟨x,_,rfl⟩:=List.mem_map.1 hv;rfl) (by unfold maxLen;omega) (by omega) (by simp) ?_
 intro v' w' hown hgrow _
 have E0:lies.Lies w' w.heap.size 81 #[.int .i64 n,.slice (some ad) len cap]:=(hgrow.block _ (lies.lt D0) (by simp [Value.ownBlock])).trans D0
 have E1:lies.Lies w' (w.heap.size+1) 81 #[.int .i64 0,.slice none 0 0]:=(hgrow.block _ (lies.lt D1) (by simp [Value.ownBlock])).trans D1
 have EB:Below w.heap.size w w':=(dbm.drawn1 DB).grown hgrow (by simp;omega) (fun k e=>by simp [Value.ownBlock] at e)
 obtain ⟨a',l',c',rfl⟩:∃ a l c,v'=.slice a l c:=by
  rcases Go.Joins.ownsRow_forms hown with ⟨rfl,_⟩ | ⟨g,cap,rfl⟩
  ·exact ⟨_,_,_,rfl⟩
  ·exact ⟨_,_,_,rfl⟩
 have HO:=Lib.hid hown
 clear hown hgrow
 refine hK.out _ _ ⟨(lies.two E0).1,(lies.two E0).2.1⟩ (fun hNew=>?_)
 clear hHeld hK K
 have hHeld:=hNew
 clear hNew
 try simp only [Act.put,sA,sB,sC,sD,sE,sF]
 refine tk 5 (v:=?_) rfl hHeld ?_ ?_
 rotate_left
 ·intro w hSw;obtain ⟨s0,s1⟩:=hSw;go_simp;try with_reducible rfl
 try simp only [Act.put,sA,sB,sC,sD,sE,sF]
 obtain ⟨c0,c1,c2,c3,c4⟩:=lies.two E1
 refine wpAnyH_ready (rs:=[6]) (by kernel_rfl) (by simp) (AllReadyH.cons rfl (fun K hK=>?_) AllReadyH.nil)
 go_simp
 refine hK.out _ _ ⟨(lies.two (lies.on_far (lies.on_far E0 0 (by omega) _) 1 (by omega) _)).1,(lies.two (lies.on_far (lies.on_far E0 0 (by omega) _) 1 (by omega) _)).2.1⟩ (fun hNew=>?_)
 clear hHeld hK K hNew
 refine wpAnyH_done (by kernel_rfl) ?_ _
 go_wp2
 have hO2:w'.ownsRow (w.heap.size+1+1) 25 1 (.slice a' l' c') ts.length (ts.map (Value.int .i64)):=by
  have:=HO.out
  rw [Nat.zero_add,List.nil_append] at this
  rw [HL.out]
  exact this
 refine bodyPost_ret (v:=.agg #[.int .i64 n,.slice a' l' c']) (by simp [results,Tryz.results192,go_sem,c0,c1]) rfl ⟨?_,_,rfl,?_⟩
 ·exact (EB.setCell (p:=⟨w.heap.size+1,0,none⟩) (by simp) _).setCell (p:=⟨w.heap.size+1,1,none⟩) (by simp) _
 ·exact Go.Joins.ownsRow_le (own_other (own_other hO2 (p:=⟨w.heap.size+1,0,none⟩) (by simp) _) (p:=⟨w.heap.size+1,1,none⟩) (by simp) _) (by omega)
theorem twin_ref (n:Int) (sv:Value) (ts:List Int) (w:World) (hI:law.Ints w.heap.size w sv ts) (hm:ts.length≤10000000000000):
  Calls Tryz.prog 192 #[.agg #[.int .i64 n,sv]] w (TwR n ts w):=by
 rcases hI with ⟨⟨a,cap,rfl,h⟩,rfl⟩ | ⟨b,off,cap,rfl,hb,hc⟩
 ·cases a with
  | none=>obtain rfl:=h rfl;exact twin_none n w
  | some a=>
   exact twin_some n a 0 cap [] w (fun W _ j v h=>by simp at h) rfl (by omega)
 ·exact twin_some n ⟨b,off,none⟩ _ cap ts w (fun W hW=>copied (Row.below hc hW hb)) rfl hm
end Go.Proofs.YthmljpccbjolgaaGreatDoor.dref
namespace Go.Proofs.YthmljpccbjolgaaGreatDoor.dref
open Go.ChangeShapes Go.WideShapes Go.ChangeAt Go.RowKit num dbm
open bound hiding up
set_option linter.unusedVariables false
end Go.Proofs.YthmljpccbjolgaaGreatDoor.dref
