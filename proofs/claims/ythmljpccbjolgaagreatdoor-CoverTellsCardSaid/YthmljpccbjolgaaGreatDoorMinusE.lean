
/-
  minus.pieces, minus.less, minus.Minus, minus.Left.
-/
import Derived.Test.YthmljpccbjolgaaGreatDoorMinusI
namespace Go.Proofs.YthmljpccbjolgaaGreatDoor.minus
open Go.Joins Go.ChangeShapes Go.WideShapes Go.ChangeAt Go.RowKit Go.Shelf num rat dbm Go.Proofs.YthmljpccbjolgaaGreatDoor.tight Go.Proofs.YthmljpccbjolgaaGreatDoor.plaw Go.Proofs.YthmljpccbjolgaaGreatDoor.zopen Go.Proofs.YthmljpccbjolgaaGreatDoor.zone Go.Proofs.YthmljpccbjolgaaGreatDoor.win Go.Proofs.YthmljpccbjolgaaGreatDoor.mz
open bound hiding up
attribute [local go_sem] Oper.semAt_some
set_option linter.unusedVariables false
set_option linter.unusedSimpArgs false
theorem up4 (w:World) (o p q r:Obj):Below w.heap.size w ((((w.alloc o).alloc p).alloc q).alloc r):=bound.up (bound.up3 w o p q) r
/-! the marks of loops that are over -/
def mark (D:Nat):Deferred:={target:=.collected D,args:=#[]}
def Shut (n m:Nat) (Ds:List Nat) (W:World):Prop:=(∀ D,D ∈ Ds→n≤D∧D<m∧W.heap[D]?=some (.deferred (some [])))∧Ds.Pairwise (fun a b=>a≠b)
theorem Shut.grown {n m:Nat} {Ds:List Nat} {X Y:World} {row:Option Nat} (h:Shut n m Ds X) (hg:X.grownBy Y row) (hr:∀ r,row=some r→m≤r∨∃ cs t,lies.Lies X r t cs):Shut n m Ds Y:=
 ⟨fun D hD=>⟨(h.1 D hD).1,(h.1 D hD).2.1,(hg.block D (Array.getElem?_eq_some_iff.1 (h.1 D hD).2.2).1 (fun e=>by
  rcases hr D e.symm with q | ⟨cs,t,q⟩
  ·have:=(h.1 D hD).2.1;omega
  ·have q:X.heap[D]?=some (.cells cs t (0,0)):=q
   rw [(h.1 D hD).2.2] at q
   cases q)).trans (h.1 D hD).2.2⟩,h.2⟩
theorem Shut.cons {n m m' D:Nat} {Ds:List Nat} {W:World} (h:Shut n m Ds W) (hD:m≤D) (hn:n≤D) (hk:W.heap[D]?=some (.deferred (some []))) (hm:D<m'):Shut n m' (D::Ds) W:=by
 refine ⟨fun E hE=>?_,List.pairwise_cons.2 ⟨fun E hE=>?_,h.2⟩⟩
 ·rcases List.mem_cons.1 hE with rfl | q
  ·exact ⟨hn,hm,hk⟩
  ·exact ⟨(h.1 E q).1,by have:=(h.1 E q).2.1;omega,(h.1 E q).2.2⟩
 ·have:=(h.1 E hE).2.1;omega
theorem leaves {P:Program} {F:Fence} {k:Nat} {fn:Func} {tmps:Array Value} {R:Ending→World→Prop} {n:Nat}:∀ (Ds:List Nat) (m:Nat) (W:World),Shut n m Ds W→
  (∀ W',Below n W W'→(∀ q t cs,lies.Lies W q t cs→lies.Lies W' q t cs)→LeavesIn F k P fn tmps R [] .returning W')→LeavesInM F k P fn tmps R (Ds.map mark) .returning W
 | [],_,W,_,h=>h W (Below.refl _ _) (fun _ _ _ q=>q)
 | D::Ds,m,W,hs,h=>by
  have hD:=hs.1 D List.mem_cons_self
  have hs':=List.pairwise_cons.1 hs.2
  have other:∀ q,D≠q→(W.putObj D (.deferred none)).heap[q]?=W.heap[q]?:=fun q hq=>World.putObj_heap_other (fun e=>hq e.symm)
  refine ⟨by simp,.inl ⟨D,_,rfl,run_takeDeferred hD.2.2,?_⟩⟩
  have hsz:(W.putObj D (.deferred none)).heap.size=W.heap.size:=by simp [World.putObj]
  refine leaves Ds m _ ⟨fun E hE=>⟨(hs.1 E (List.mem_cons_of_mem _ hE)).1,(hs.1 E (List.mem_cons_of_mem _ hE)).2.1,(other E (hs'.1 E hE)).trans (hs.1 E (List.mem_cons_of_mem _ hE)).2.2⟩,hs'.2⟩ (fun W' hB hL=>h W' ?_ ?_)
  ·exact (show Below n W (W.putObj D (.deferred none)) from ⟨rfl,rfl,rfl,Nat.le_of_eq hsz.symm,fun q hq=>other q (by have:=hD.1;omega)⟩).trans hB
  ·intro q t cs hq
   refine hL q t cs ?_
   have hq':W.heap[q]?=some (.cells cs t (0,0)):=hq
   exact (other q (fun e=>by rw [←e,hD.2.2] at hq';cases hq')).trans hq
/-! what lies there -/
def Ls (w:World) (v:Value) (h:List (List Int)) (b0 b1 b2 b3 b4 b5:Int) (W:World):Prop:=
 lies.Lies W w.heap.size 27 #[.int .i64 b0,.int .i64 b1,.int .i64 b2,.int .i64 b3,.int .i64 b4,.int .i64 b5]∧lies.Lies W (w.heap.size+1) 29 #[.slice none 0 0]∧lies.Lies W (w.heap.size+1+1) 22 #[.int .i64 0]∧lies.Lies W (w.heap.size+1+1+1) 29 #[v]∧
  W.ownsRow (w.heap.size+1+1+1+1) 27 6 v h.length (flatZ h)∧Below w.heap.size w W∧Pl W
theorem own_grown {X Y:World} {base n:Nat} {v:Value} {xs:List Value} {row:Option Nat} (h:X.ownsRow base 27 6 v n xs) (hg:X.grownBy Y row) (hr:v.ownBlock≠none→v.ownBlock≠row):Y.ownsRow base 27 6 v n xs:=by
 refine ⟨h.1,?_⟩
 rcases h.2 with q | ⟨g,cap,cur,rfl,h1,h2,h3⟩
 ·exact .inl q
 ·exact .inr ⟨g,cap,cur,rfl,h1,(hg.block g (Array.getElem?_eq_some_iff.1 h2).1 (hr (by simp [Value.ownBlock]))).trans h2,h3⟩
theorem Ls.grown {w:World} {v:Value} {h:List (List Int)} {b0 b1 b2 b3 b4 b5:Int} {X Y:World} {row:Option Nat} (hL:Ls w v h b0 b1 b2 b3 b4 b5 X) (hw:1<w.heap.size) (hg:X.grownBy Y row) (hr:∀ r,row=some r→w.heap.size+1+1+1+1≤r∧v.ownBlock≠some r):Ls w v h b0 b1 b2 b3 b4 b5 Y:=by
 obtain ⟨h1,h2,h3,h4,h5,h6,h7⟩:=hL
 have far:∀ q,q<w.heap.size+1+1+1+1→some q≠row:=fun q hq e=>by have:=(hr q e.symm).1;omega
 have keep:∀ q t cs,q<w.heap.size+1+1+1+1→lies.Lies X q t cs→lies.Lies Y q t cs:=fun q t cs hq hl=>(hg.block q (lies.lt hl) (far q hq)).trans hl
 refine ⟨keep _ _ _ (by omega) h1,keep _ _ _ (by omega) h2,keep _ _ _ (by omega) h3,keep _ _ _ (by omega) h4,own_grown h5 hg (fun hn e=>?_),h6.grown hg h6.size (fun k e=>by have:=(hr k e).1;omega),pl_far (hg.block _ h7.1 (far _ (by omega))) hg.size h7⟩
 cases hv:v.ownBlock with
 | none=>exact hn hv
 | some q=>rw [hv] at e;exact (hr q e.symm).2 hv
theorem Ls.below {w:World} {v:Value} {h:List (List Int)} {b0 b1 b2 b3 b4 b5:Int} {X Y:World} (hL:Ls w v h b0 b1 b2 b3 b4 b5 X) (hw:1<w.heap.size) (k:Below X.heap.size X Y):Ls w v h b0 b1 b2 b3 b4 b5 Y:=hL.grown hw (grown_of k) (fun r e=>by cases e)
theorem Ls.row {w:World} {v:Value} {h:List (List Int)} {b0 b1 b2 b3 b4 b5:Int} {X:World} (hL:Ls w v h b0 b1 b2 b3 b4 b5 X) (k:Nat):rowAt (w.heap.size+1+1+1) X k↔v.ownBlock=some k:=by
 have e:=lies.cell hL.2.2.2.1 0
 constructor
 ·rintro ⟨u,h1,h2⟩
  rw [e] at h1
  cases h1
  exact h2
 ·exact fun q=>⟨v,e,q⟩
theorem Ls.rows {w:World} {v:Value} {h:List (List Int)} {b0 b1 b2 b3 b4 b5:Int} {X:World} (hL:Ls w v h b0 b1 b2 b3 b4 b5 X) (k:Nat) (hk:rowAt (w.heap.size+1+1+1) X k):k<X.heap.size∧w.heap.size+1+1+1+1≤k:=by
 have e:=(hL.row k).1 hk
 have:=hL.2.2.2.2.1.lt k e
 exact ⟨this.2,this.1⟩
theorem own_cells {X:World} {base n:Nat} {v:Value} {xs:List Value} (h:X.ownsRow base 27 6 v n xs) {r:Nat} (e:v.ownBlock=some r):∃ cs t,lies.Lies X r t cs:=by
 rcases h.2 with ⟨rfl,_⟩ | ⟨g,cap,cur,rfl,_,h2,_⟩
 ·cases e
 ·cases e;exact ⟨_,_,h2⟩
theorem lone {W:World} {g:Nat} {t:TypeId} {u:Value} (h:lies.Lies W g t #[u]):W.cell? ⟨g,0,none⟩=some u∧W.frozen? ⟨g,0,none⟩=false∧g<W.heap.size:=⟨lies.cell h 0,lies.free h 0,lies.lt h⟩
def Ia (w:World) (m n:Nat) (b0 b1 b2 b3 b4 b5:Int) (h:List (List Int)) (Ds:List Nat) (pre:List (List Int × Int)) (W:World):Prop:=
 ∃ h' v,eat h pre=(h',0)∧h'.length≤4096∧Ls w v h' b0 b1 b2 b3 b4 b5 W∧Shut (w.heap.size+1+1+1+1) m Ds W∧n≤W.heap.size
def Ib (w:World) (m n:Nat) (h:List (List Int)) (Ds:List Nat) (c:Code) (pre:List (List Int × Int)) (W:World):Prop:=
 c=.ret∧∃ f,eat h pre=([],f)∧f≠0∧lies.Lies W (w.heap.size+1) 29 #[.slice none 0 0]∧lies.Lies W (w.heap.size+1+1) 22 #[.int .i64 f]∧Below w.heap.size w W∧Shut (w.heap.size+1+1+1+1) m Ds W
section
variable {w:World} {m n:Nat} {b0 b1 b2 b3 b4 b5:Int} {h:List (List Int)} {Ds:List Nat}
theorem ia_grown (hw:1<w.heap.size) (hn:w.heap.size+1+1+1+1≤n) (hm:m≤n) {pre:List (List Int × Int)} {X Y:World} {row:Option Nat} (hI:Ia w m n b0 b1 b2 b3 b4 b5 h Ds pre X) (hg:X.grownBy Y row) (hr:∀ r,row=some r→n≤r∧¬ rowAt (w.heap.size+1+1+1) X r):Ia w m n b0 b1 b2 b3 b4 b5 h Ds pre Y:=by
 obtain ⟨h',v,h1,h2,h3,h4,h5⟩:=hI
 exact ⟨h',v,h1,h2,h3.grown hw hg (fun r e=>⟨Nat.le_trans hn (hr r e).1,fun q=>(hr r e).2 ((h3.row r).2 q)⟩),h4.grown hg (fun r e=>.inl (Nat.le_trans hm (hr r e).1)),Nat.le_trans h5 hg.size⟩
theorem ia_mine (hw:1<w.heap.size) (hn:w.heap.size+1+1+1+1≤n) (hm:m≤n):mine.Abides (rowAt (w.heap.size+1+1+1)) n (Ia w m n b0 b1 b2 b3 b4 b5 h Ds):=fun s X Y row hs hg hr=>ia_grown hw hn hm hs hg hr
theorem ia_own (hw:1<w.heap.size) (hn:w.heap.size+1+1+1+1≤n) (hm:m≤n):OwnFrom n (Ia w m n b0 b1 b2 b3 b4 b5 h Ds):=fun s X Y row hs hg hr=>by
 have hs':=hs
 obtain ⟨h',v,h1,h2,h3,h4,h5⟩:=hs'
 refine ia_grown hw hn hm hs hg (fun r e=>⟨(hr r e).1,fun q=>?_⟩)
 obtain ⟨o,ho,hc⟩:=(hr r e).2
 obtain ⟨cs,t,hl⟩:=own_cells h3.2.2.2.2.1 ((h3.row r).1 q)
 have hl:X.heap[r]?=some (.cells cs t (0,0)):=hl
 rw [ho] at hl
 cases hl
 cases hc
theorem ib_grown (hn:w.heap.size+1+1+1+1≤n) (hm:m≤n) {c:Code} {pre:List (List Int × Int)} {X Y:World} {row:Option Nat} (hI:Ib w m n h Ds c pre X) (hg:X.grownBy Y row) (hr:∀ r,row=some r→n≤r):Ib w m n h Ds c pre Y:=by
 obtain ⟨rfl,f,h1,h2,h3,h4,h5,h6⟩:=hI
 have far:∀ q,q<n→some q≠row:=fun q hq e=>by have:=hr q e.symm;omega
 exact ⟨rfl,f,h1,h2,(hg.block _ (lies.lt h3) (far _ (by omega))).trans h3,(hg.block _ (lies.lt h4) (far _ (by omega))).trans h4,h5.grown hg h5.size (fun k e=>by have:=hr k e;omega),h6.grown hg (fun r e=>.inl (Nat.le_trans hm (hr r e)))⟩
theorem ib_mine (hn:w.heap.size+1+1+1+1≤n) (hm:m≤n) (c:Code):mine.Abides (rowAt (w.heap.size+1+1+1)) n (Ib w m n h Ds c):=fun s X Y row hs hg hr=>ib_grown hn hm hs hg (fun r e=>(hr r e).1)
theorem ib_own (hn:w.heap.size+1+1+1+1≤n) (hm:m≤n) (c:Code):OwnFrom n (Ib w m n h Ds c):=fun s X Y row hs hg hr=>ib_grown hn hm hs hg (fun r e=>(hr r e).1)
end
theorem kp_below {Bl:Nat} {X Y:World} (hB:Bl<X.heap.size) (k:Below X.heap.size X Y):Kp Bl X Y:=
 ⟨k.size,fun q t cs _ _ hl=>lies.on_call hl k,fun q hq=>.inl ((row_far (k.block Bl hB) q).1 hq),fun p=>p.on k⟩
theorem push {w X Y:World} {v v':Value} {h:List (List Int)} {x:List Int} {b0 b1 b2 b3 b4 b5:Int} {o:Obj} {cs:Array Value} (hw:1<w.heap.size) (hL:Ls w v h b0 b1 b2 b3 b4 b5 X) (ho:o=.cells cs 27)
  (hown:Y.ownsRow (w.heap.size+1+1+1+1) 27 6 v' (h.length+1) (flatZ h++flatZ [x])) (hg:(X.alloc o).grownBy Y v.ownBlock) (hb:v'.ownBlock=v.ownBlock∨v'.ownBlock=some (X.alloc o).heap.size):
  (∀ q,q<X.heap.size→q≠w.heap.size+1+1+1→v.ownBlock≠some q→(Y.setCell ⟨w.heap.size+1+1+1,0,none⟩ v').heap[q]?=X.heap[q]?)∧X.heap.size≤(Y.setCell ⟨w.heap.size+1+1+1,0,none⟩ v').heap.size∧
  Ls w v' (h++[x]) b0 b1 b2 b3 b4 b5 (Y.setCell ⟨w.heap.size+1+1+1,0,none⟩ v')∧Kp (w.heap.size+1+1+1) X (Y.setCell ⟨w.heap.size+1+1+1,0,none⟩ v')∧lies.Lies Y (w.heap.size+1+1+1) 29 #[v]:=by
 have hs:X.heap.size≤(Y.setCell ⟨w.heap.size+1+1+1,0,none⟩ v').heap.size:=by
  have:=hg.size
  simp at this ⊢
  omega
 have key:∀ q,q<X.heap.size→q≠w.heap.size+1+1+1→v.ownBlock≠some q→(Y.setCell ⟨w.heap.size+1+1+1,0,none⟩ v').heap[q]?=X.heap[q]?:=fun q h1 h2 h3=>
  (Below.heap_setCell Y ⟨w.heap.size+1+1+1,0,none⟩ v' q h2).trans ((hg.block q (by simp;omega) (Ne.symm h3)).trans (Below.heap_alloc X o q h1))
 obtain ⟨l1,l2,l3,l4,l5,l6,l7⟩:=hL
 have rw0:∀ q,q<w.heap.size+1+1+1+1→v.ownBlock≠some q:=fun q hq e=>by have:=(l5.lt q e).1;omega
 have k4:lies.Lies Y (w.heap.size+1+1+1) 29 #[v]:=(hg.block _ (by have:=lies.lt l4;simp;omega) (Ne.symm (rw0 _ (by omega)))).trans (lies.on_alloc l4 o)
 have k4':lies.Lies (Y.setCell ⟨w.heap.size+1+1+1,0,none⟩ v') (w.heap.size+1+1+1) 29 #[v']:=lies.on_put k4 0 v'
 have hX:=l6.size
 have s1:=lies.lt l4
 have own':(Y.setCell ⟨w.heap.size+1+1+1,0,none⟩ v').ownsRow (w.heap.size+1+1+1+1) 27 6 v' (h.length+1) (flatZ h++flatZ [x]):=
  own_grown hown (grown_set (grown_refl Y (some (w.heap.size+1+1+1))) 0 v') (fun _ e=>by have:=(hown.lt _ e).1;omega)
 refine ⟨key,hs,⟨(key _ (by omega) (by omega) (rw0 _ (by omega))).trans l1,(key _ (by omega) (by omega) (rw0 _ (by omega))).trans l2,(key _ (by omega) (by omega) (rw0 _ (by omega))).trans l3,k4',?_,?_,?_⟩,⟨hs,?_,?_,?_⟩,k4⟩
 ·rw [List.length_append,List.length_singleton,flatZ_app];exact own'
 ·exact ((l6.alloc l6.size o).grown hg (Nat.le_trans l6.size (by simp)) (fun k e=>by have:=(l5.lt k e).1;omega)).setCell (p:=⟨w.heap.size+1+1+1,0,none⟩) (by show w.heap.size≤w.heap.size+1+1+1;omega) _
 ·exact pl_far (key _ l7.1 (by omega) (rw0 _ (by omega))) hs l7
 ·intro q t cs' hq hr hl
  exact (key q (lies.lt hl) hq (fun e=>hr ⟨v,lies.cell l4 0,e⟩)).trans hl
 ·rintro q ⟨u,e1,e2⟩
  rw [lies.cell k4' 0] at e1
  cases e1
  have e2:v'.ownBlock=some q:=e2
  rcases hb with e | e
  ·exact .inl ⟨v,lies.cell l4 0,e.symm.trans e2⟩
  ·have e3:q=(X.alloc o).heap.size:=by rw [e] at e2;cases e2;rfl
   refine .inr ⟨by rw [e3];simp,?_⟩
   have:=(own'.lt q e2).2
   exact this
 ·exact fun p=>pl_far (key _ p.1 (by omega) (rw0 _ (by omega))) hs p
theorem own_far {X Y:World} {base base' n:Nat} {v:Value} {xs:List Value} (h:X.ownsRow base 27 6 v n xs) (hb:base'≤base) (k:∀ q t cs,lies.Lies X q t cs→lies.Lies Y q t cs):Y.ownsRow base' 27 6 v n xs:=by
 refine ⟨h.1,?_⟩
 rcases h.2 with q | ⟨g,cap,cur,rfl,h1,h2,h3⟩
 ·exact .inl q
 ·exact .inr ⟨g,cap,cur,rfl,Nat.le_trans hb h1,k _ _ _ h2,h3⟩
theorem pieces_in (m:Nat) (z0 z1 z2 z3 z4 z5 b0 b1 b2 b3 b4 b5:Int) (w:World):
  CallsIn Fence.wide m Tryz.prog 175 #[.agg #[.int .i64 z0,.int .i64 z1,.int .i64 z2,.int .i64 z3,.int .i64 z4,.int .i64 z5],.agg #[.int .i64 b0,.int .i64 b1,.int .i64 b2,.int .i64 b3,.int .i64 b4,.int .i64 b5]] w fun e w'=>e=.returned (.func (.func 210) #[] #[.pointer (some ⟨w.heap.size,0,none⟩),.pointer (some ⟨w.heap.size+1,0,none⟩)])∧w'=(w.alloc (.cells #[.int .i64 z0,.int .i64 z1,.int .i64 z2,.int .i64 z3,.int .i64 z4,.int .i64 z5] 27)).alloc (.cells #[.int .i64 b0,.int .i64 b1,.int .i64 b2,.int .i64 b3,.int .i64 b4,.int .i64 b5] 27):=by
 refine callsIn_of_wp Tryz.func175 rfl trivial ?_ rfl
 simp only [Tryz.ntmps175,List.size_toArray,List.length_cons,List.length_nil,Nat.reduceAdd,Nat.reduceSub,Array.replicate_succ,Array.replicate_zero,List.push_toArray,List.append_toArray,List.nil_append,List.cons_append]
 gi_wp2
 go_ret
 exact ⟨rfl,rfl⟩
set_option maxRecDepth 100000 in
set_option maxHeartbeats 16000000 in
theorem less_any (ao : Option Addr) (len cap : Nat) (zs : List (List Int)) (b0 b1 b2 b3 b4 b5 : Int) (w : World) (hP : Pl w) (hI : Zs w.heap.size w (.slice ao len cap) zs) (hz : ∀ z, z ∈ zs → Zo z) (zb : Zo [b0, b1, b2, b3, b4, b5]) (hl : zs.length = len) (hm : len ≤ 1000000) :
    Calls Tryz.prog 127 #[.slice ao len cap, .agg #[.int .i64 b0, .int .i64 b1, .int .i64 b2, .int .i64 b3, .int .i64 b4, .int .i64 b5]] w fun e w' => Below w.heap.size w w' ∧ ∃ v r f, e = .returned (.tuple #[v, .int .i64 f]) ∧ StepP [b0, b1, b2, b3, b4, b5] zs [] r f ∧ w'.ownsRow w.heap.size 27 6 v r.length (flatZ r) := by
  have hw := hP.1
  have HI := Lib.hid hI
  have HZ := Lib.hid hz
  have HB := Lib.hid zb
  have HL := Lib.hid hl
  have DB := up4 w (.cells #[.int .i64 b0, .int .i64 b1, .int .i64 b2, .int .i64 b3, .int .i64 b4, .int .i64 b5] 27) (.cells #[.slice none 0 0] 29) (.cells #[.int .i64 0] 22) (.cells #[.slice none 0 0] 29)
  have X : ∃ w0, w0 = (((w.alloc (.cells #[.int .i64 b0, .int .i64 b1, .int .i64 b2, .int .i64 b3, .int .i64 b4, .int .i64 b5] 27)).alloc (.cells #[.slice none 0 0] 29)).alloc (.cells #[.int .i64 0] 22)).alloc (.cells #[.slice none 0 0] 29) := ⟨_, rfl⟩
  obtain ⟨w0, hX⟩ := X
  rw [← hX] at DB
  have L0 : Ls w (.slice none 0 0) [] b0 b1 b2 b3 b4 b5 w0 := ⟨by rw [hX]; exact lies.on_alloc (lies.on_alloc (lies.on_alloc (lies.made _ _ _) _) _) _, by rw [hX]; exact lies.on_alloc (lies.on_alloc (lies.made_at _ _ _ _ (by simp)) _) _, by rw [hX]; exact lies.on_alloc (lies.made_at _ _ _ _ (by simp)) _, by rw [hX]; exact lies.made_at _ _ _ _ (by simp), World.ownsRow_nil _ _ _ _, DB, hP.on DB⟩
  clear hI hz zb hl DB hP
  refine callsIn_wide (n := 4).1 ?_
  refine callsIn_of_wp_marks Tryz.func127 rfl trivial ?_ rfl
  simp only [Tryz.ntmps127, List.size_toArray, List.length_cons, List.length_nil, Nat.reduceAdd, Nat.reduceSub, Array.replicate_succ, Array.replicate_zero, List.push_toArray, List.append_toArray, List.nil_append, List.cons_append]
  gi_wp2
  rw [← hX]
  clear hX
  refine wpIn_loop (fun a' wr => ∃ (k : Nat) (h : List (List Int)) (v : Value) (Ds : List Nat) (u8 u13 u14 u15 u16 u17 u18 u19 u32 : Value), a' = { tmps := #[.slice ao len cap, .agg #[.int .i64 b0, .int .i64 b1, .int .i64 b2, .int .i64 b3, .int .i64 b4, .int .i64 b5], undef, .pointer (some ⟨w.heap.size, 0, none⟩), .pointer (some ⟨w.heap.size + 1, 0, none⟩), .pointer (some ⟨w.heap.size + 1 + 1, 0, none⟩), .pointer (some ⟨w.heap.size + 1 + 1 + 1, 0, none⟩), undef, u8, undef, undef, .slice ao len cap, .int .i64 len, u13, u14, u15, u16, u17, u18, u19, undef, undef, undef, undef, undef, undef, undef, undef, undef, undef, undef, undef, u32, undef], defers := Ds.map mark } ∧ u13 = .int .i64 k ∧ k ≤ len ∧ Ls w v h b0 b1 b2 b3 b4 b5 wr ∧ Shut (w.heap.size + 1 + 1 + 1 + 1) wr.heap.size Ds wr ∧ h.length ≤ 4096 ∧ RowKit.Hid (∀ r f, StepP [b0, b1, b2, b3, b4, b5] (zs.drop k) h r f → StepP [b0, b1, b2, b3, b4, b5] zs [] r f))
    (fun a' _ => len - (intOf (a'.tmps.getD 13 undef)).toNat) ?atStart ?round
  case atStart => exact ⟨0, [], _, [], _, _, _, _, _, _, _, _, _, rfl, rfl, Nat.zero_le _, L0, ⟨(fun D hD => by cases hD), List.Pairwise.nil⟩, Nat.zero_le _, Lib.hid (fun r f q => q)⟩
  case round =>
    clear L0
    rintro _ wr ⟨k, h, v, Ds, u8, u13, u14, u15, u16, u17, u18, u19, u32, rfl, rfl, hk, hL, hS, h4, HC⟩
    by_cases hkn : k < len
    · have hkz : k < zs.length := by rw [HL.out]; exact hkn
      obtain ⟨bq, off, rfl, -, hb, c0, c1, c2, c3, c4, c5⟩ := zs_at (HI.out.below hL.2.2.2.2.2.1) hkz
      have hzk := HZ.out _ (zat_mem hkz)
      have hdrop : zs.drop k = zat zs k :: zs.drop (k + 1) := by
        rw [List.drop_eq_getElem_cons hkz]
        unfold zat
        rw [List.getElem?_eq_getElem hkz]
        rfl
      have hbr : bq < wr.heap.size := Nat.lt_of_lt_of_le hb hL.2.2.2.2.2.1.size
      generalize zat zs k = zk at c0 c1 c2 c3 c4 c5 hzk hdrop
      obtain ⟨z0, z1, z2, z3, z4, z5, rfl⟩ := six hzk.2.2
      have c0 : wr.cell? ⟨bq, off + k * 6, none⟩ = some (.int .i64 z0) := c0
      have c1 : wr.cell? ⟨bq, off + k * 6 + 1, none⟩ = some (.int .i64 z1) := c1
      have c2 : wr.cell? ⟨bq, off + k * 6 + 2, none⟩ = some (.int .i64 z2) := c2
      have c3 : wr.cell? ⟨bq, off + k * 6 + 3, none⟩ = some (.int .i64 z3) := c3
      have c4 : wr.cell? ⟨bq, off + k * 6 + 4, none⟩ = some (.int .i64 z4) := c4
      have c5 : wr.cell? ⟨bq, off + k * 6 + 5, none⟩ = some (.int .i64 z5) := c5
      have HZK := Lib.hid hzk
      have HDR := Lib.hid hdrop
      have HSS := Lib.hid hS
      have H4 := Lib.hid h4
      clear hzk hdrop hS h4
      obtain ⟨⟨d0, d1, d2, d3, d4, d5⟩, -⟩ := six_cells hL.1
      have hdl := lies.lt hL.1
      gi_wp2
      refine ⟨trivial, (pieces_in 3 z0 z1 z2 z3 z4 z5 b0 b1 b2 b3 b4 b5 _).mono ?_⟩
      rintro e w5 ⟨rfl, rfl⟩
      gi_wp2
      clear d0 d1 d2 d3 d4 d5 hdl c0 c1 c2 c3 c4 c5
      have s1 := lies.lt hL.2.2.2.1
      have hB0 := bound.up3 wr (.cells #[.int .i64 z0, .int .i64 z1, .int .i64 z2, .int .i64 z3, .int .i64 z4, .int .i64 z5] 27) (.cells #[.int .i64 z0, .int .i64 z1, .int .i64 z2, .int .i64 z3, .int .i64 z4, .int .i64 z5] 27) (.cells #[.int .i64 b0, .int .i64 b1, .int .i64 b2, .int .i64 b3, .int .i64 b4, .int .i64 b5] 27)
      have X : ∃ W0, W0 = ((wr.alloc (.cells #[.int .i64 z0, .int .i64 z1, .int .i64 z2, .int .i64 z3, .int .i64 z4, .int .i64 z5] 27)).alloc (.cells #[.int .i64 z0, .int .i64 z1, .int .i64 z2, .int .i64 z3, .int .i64 z4, .int .i64 z5] 27)).alloc (.cells #[.int .i64 b0, .int .i64 b1, .int .i64 b2, .int .i64 b3, .int .i64 b4, .int .i64 b5] 27) := ⟨_, rfl⟩
      obtain ⟨W0, hX⟩ := X
      rw [← hX] at hB0
      have LA : lies.Lies W0 (wr.heap.size + 1) 27 #[.int .i64 z0, .int .i64 z1, .int .i64 z2, .int .i64 z3, .int .i64 z4, .int .i64 z5] := by rw [hX]; exact lies.on_alloc (lies.made_at _ _ _ _ (by simp)) _
      have LB : lies.Lies W0 (wr.heap.size + 1 + 1) 27 #[.int .i64 b0, .int .i64 b1, .int .i64 b2, .int .i64 b3, .int .i64 b4, .int .i64 b5] := by rw [hX]; exact lies.made_at _ _ _ _ (by simp)
      have s0 : W0.heap.size = wr.heap.size + 1 + 1 + 1 := by rw [hX]; simp
      rw [← hX]
      clear hX
      have L1 := hL.below hw hB0
      have S1 : Shut (w.heap.size + 1 + 1 + 1 + 1) wr.heap.size Ds W0 := HSS.out.grown (grown_of hB0) (fun r e => by cases e)
      clear hL
      have hn1 : w.heap.size + 1 + 1 + 1 + 1 ≤ W0.heap.size := by omega
      have hn2 : wr.heap.size ≤ W0.heap.size := by omega
      refine mine.rangeFunc (F := Fence.wide) (n := 4) (rowAt (w.heap.size + 1 + 1 + 1)) rfl (by omega) (gf := 210) (lb := #[.pointer (some ⟨wr.heap.size + 1, 0, none⟩), .pointer (some ⟨wr.heap.size + 1 + 1, 0, none⟩)]) rfl trivial (enters_of Tryz.func210 (by kernel_rfl) rfl)
        (pieces_gives 3 (w.heap.size + 1 + 1 + 1) (wr.heap.size + 1) (wr.heap.size + 1 + 1) (by omega) z0 z1 z2 z3 z4 z5 b0 b1 b2 b3 b4 b5 W0 L1.2.2.2.2.2.2 LA LB HZK.out HB.out (by omega) (fun q hq => (L1.rows q hq).1))
        kp_trans (fun W l o o' hl h hc _ => kp_put (n := W0.heap.size) (by omega) (by omega) W l o o' hl h hc) (Below.refl _ _) (fun _ => rfl)
        (Ia w wr.heap.size W0.heap.size b0 b1 b2 b3 b4 b5 h Ds) (Ib w wr.heap.size W0.heap.size h Ds) (ia_own hw hn1 hn2) (ib_own hn1 hn2) (ia_mine hw hn1 hn2) (ib_mine hn1 hn2)
        ⟨h, v, rfl, H4.out, L1, S1, Nat.le_refl _⟩
        (fun x a' W => ∃ T, W0.heap.size ≤ T ∧ lies.Lies W T 27 (mz.zcs x.1).toArray ∧ a' = { tmps := #[.slice (some ⟨bq, off, none⟩) len cap, .agg #[.int .i64 b0, .int .i64 b1, .int .i64 b2, .int .i64 b3, .int .i64 b4, .int .i64 b5], undef, .pointer (some ⟨w.heap.size, 0, none⟩), .pointer (some ⟨w.heap.size + 1, 0, none⟩), .pointer (some ⟨w.heap.size + 1 + 1, 0, none⟩), .pointer (some ⟨w.heap.size + 1 + 1 + 1, 0, none⟩), undef, .pointer (some ⟨wr.heap.size, 0, none⟩), .pointer (some ⟨T, 0, none⟩), .int .i64 x.2, .slice (some ⟨bq, off, none⟩) len cap, .int .i64 len, .int .i64 k, .bool true, .pointer (some ⟨bq, off + k * 6, none⟩), .agg #[.int .i64 z0, .int .i64 z1, .int .i64 z2, .int .i64 z3, .int .i64 z4, .int .i64 z5], .agg #[.int .i64 z0, .int .i64 z1, .int .i64 z2, .int .i64 z3, .int .i64 z4, .int .i64 z5], .agg #[.int .i64 b0, .int .i64 b1, .int .i64 b2, .int .i64 b3, .int .i64 b4, .int .i64 b5], .func (.func 210) #[] #[.pointer (some ⟨wr.heap.size + 1, 0, none⟩), .pointer (some ⟨wr.heap.size + 1 + 1, 0, none⟩)], mz.zval x.1, .int .i64 x.2, undef, undef, undef, undef, undef, undef, undef, undef, undef, undef, u32, undef], defers := [] })
        (fun x a' s X Y row hs hg hr => by
          obtain ⟨T, h1, h2, h3⟩ := hs
          refine ⟨T, h1, (hg.block T (lies.lt h2) (fun e => ?_)).trans h2, h3⟩
          obtain ⟨_, o, ho, hc⟩ := hr T e.symm
          have h2 : X.heap[T]? = some (.cells _ _ (0, 0)) := h2
          rw [ho] at h2
          cases h2
          cases hc) ?assign ?body ?done ?stop
      case assign =>
        intro l pre x W K hi hK
        have hA := bound.up1 W (.cells (mz.zcs x.1).toArray 27)
        obtain ⟨h', v', e1, e2, e3, e4, e5⟩ := hi
        have hK' := hK _ _ ((KeepsOthers.alloc W _).from _) (kp_below (by have := lies.lt e3.2.2.2.1; exact this) hA) ⟨h', v', e1, e2, e3.below hw hA, e4.grown (grown_of hA) (fun r e => by cases e), Nat.le_trans e5 hA.size⟩ ⟨W.heap.size, e5, lies.made _ _ _, rfl⟩
        clear hK e1 e2 e3 e4 hA
        simp only [encs, mz.zcs, mz.zval] at hK' ⊢
        gi_wp2
        exact hK'
      case body =>
        rintro l pre x a' W ⟨h', v', he, hl4, hL, hS, hsz⟩ ⟨T, hT, hLT, rfl⟩ hlen
        have q4 := lone hL.2.1
        have q5 := lone hL.2.2.1
        have q6 := lone hL.2.2.2.1
        obtain ⟨q40, q41, q42⟩ := q4
        obtain ⟨q50, q51, q52⟩ := q5
        obtain ⟨q60, q61, q62⟩ := q6
        have hwW := hL.2.2.2.2.2.1
        have HE := Lib.hid he
        have HSS := Lib.hid hS
        clear he hS hlen
        by_cases hx : x.2 = 0
        · obtain ⟨av, cv, rfl⟩ := zs_len (zs_own hL.2.2.2.2.1)
          by_cases hm4 : h'.length = 4096
          · have hm5 : (h'.length : Int) = 4096 := by omega
            clear hLT
            gi_wp2
            refine ⟨((KeepsOthers.setCell _ _ _).trans (KeepsOthers.setCell _ _ _)).from _, rfl, 4, ?_, by decide, ?_, ?_, ?_, ?_⟩
            · rw [eat_snoc _ _ _ (by rw [HE.out]), HE.out]; exact eat_many hx hm4
            · exact lies.on_far (lies.on_put hL.2.1 0 _) 0 (by omega) _
            · exact lies.on_put (lies.on_far hL.2.2.1 0 (by omega) _) 0 _
            · exact (hwW.setCell (p := ⟨w.heap.size + 1, 0, none⟩) (by show w.heap.size ≤ w.heap.size + 1; omega) _).setCell (p := ⟨w.heap.size + 1 + 1, 0, none⟩) (by show w.heap.size ≤ w.heap.size + 1 + 1; omega) _
            · exact (HSS.out.grown (grown_set (grown_refl _ (some (w.heap.size + 1))) 0 _) (fun r e => by cases e; exact .inr ⟨_, _, hL.2.1⟩)).grown (grown_set (grown_refl _ (some (w.heap.size + 1 + 1))) 0 _) (fun r e => by cases e; exact .inr ⟨_, _, lies.on_far hL.2.2.1 0 (by omega) _⟩)
          · have hm5 : ¬ (h'.length : Int) = 4096 := by omega
            have hT6 : lies.Lies W T 27 #[.int .i64 (x.1[0]?.getD 0), .int .i64 (x.1[1]?.getD 0), .int .i64 (x.1[2]?.getD 0), .int .i64 (x.1[3]?.getD 0), .int .i64 (x.1[4]?.getD 0), .int .i64 (x.1[5]?.getD 0)] := hLT
            obtain ⟨⟨t0, t1, t2, t3, t4, t5⟩, -, tl⟩ := six_cells hT6
            have hA := bound.up1 W (.cells (mz.zcs x.1).toArray 27)
            have hbox := zs_box (z0 := x.1[0]?.getD 0) (z1 := x.1[1]?.getD 0) (z2 := x.1[2]?.getD 0) (z3 := x.1[3]?.getD 0) (z4 := x.1[4]?.getD 0) (z5 := x.1[5]?.getD 0) (lies.made W 27 (mz.zcs x.1).toArray)
            have hfl : flatZ [[x.1[0]?.getD 0, x.1[1]?.getD 0, x.1[2]?.getD 0, x.1[3]?.getD 0, x.1[4]?.getD 0, x.1[5]?.getD 0]] = flatZ [x.1] := rfl
            obtain ⟨v'', w', hrun, hown, hgrow, hbl⟩ := app_zones (w.heap.size + 1 + 1 + 1 + 1) 29 (.slice av h'.length cv) _ _ _ _ _ _ (incl.own_call hL.2.2.2.2.1 hA) hbox (by show h'.length + 1 ≤ 1000000; omega) (by have := hA.size; omega)
            rw [hfl] at hown
            obtain ⟨a2, cc2, e2⟩ := zs_len (zs_own (zs := h' ++ [x.1]) (by rw [flatZ_app]; exact hown))
            rw [List.length_append, List.length_singleton] at e2
            subst e2
            obtain ⟨k1, k2, k3, k4, k5⟩ := push hw hL rfl hown hgrow hbl
            have hoc : ∀ q o, W.heap[q]? = some o → o.isCells = false → (Value.slice av h'.length cv).ownBlock ≠ some q := fun q o ho hc e => by
              obtain ⟨cs, t, hl⟩ := own_cells hL.2.2.2.2.1 e
              have hl : W.heap[q]? = some (.cells cs t (0, 0)) := hl
              rw [ho] at hl
              cases hl
              cases hc
            have HOC := Lib.hid hoc
            have HK1 := Lib.hid k1
            have HK4 := Lib.hid k4
            obtain ⟨n60, n61, n62⟩ := lone k5
            clear hoc k1 k4 k5 hown hgrow hbl
            have hrun : (Builtin.append_ #[29, 29] 29 #[.slice av h'.length cv, .slice (some ⟨W.heap.size, 0, none⟩) 1 1]).run Tryz.prog (W.alloc (.cells #[.int .i64 (x.1[0]?.getD 0), .int .i64 (x.1[1]?.getD 0), .int .i64 (x.1[2]?.getD 0), .int .i64 (x.1[3]?.getD 0), .int .i64 (x.1[4]?.getD 0), .int .i64 (x.1[5]?.getD 0)] 27)) = .ok (.slice a2 (h'.length + 1) cc2) w' := hrun
            clear hbox hfl hA hLT hT6
            have H4' := Lib.hid hm4
            clear hm4
            gi_wp2_with (gi_at_builtin; refine append_run rfl (.tmp 28) (.tmp 30) 29 rfl _ _ _ _ rfl rfl hrun ?_; clear hrun)
            refine ⟨⟨k2, fun q o hq ho hc => (HK1.out q (Array.getElem?_eq_some_iff.1 ho).1 (by omega) (HOC.out q o ho hc)).trans ho⟩, HK4.out, h' ++ [x.1], _, ?_, ?_, k3, ⟨fun D hD => ?_, HSS.out.2⟩, Nat.le_trans hsz k2⟩
            · rw [eat_snoc _ _ _ (by rw [HE.out]), HE.out]; exact eat_good hx H4'.out
            · have := H4'.out; rw [List.length_append, List.length_singleton]; omega
            · obtain ⟨y1, y2, y3⟩ := HSS.out.1 D hD
              exact ⟨y1, y2, (HK1.out D (Array.getElem?_eq_some_iff.1 y3).1 (by omega) (HOC.out D _ y3 rfl)).trans y3⟩
        · gi_wp2
          refine ⟨((KeepsOthers.setCell _ _ _).trans (KeepsOthers.setCell _ _ _)).from _, rfl, x.2, ?_, hx, ?_, ?_, ?_, ?_⟩
          · rw [eat_snoc _ _ _ (by rw [HE.out]), HE.out]; exact eat_wrong hx
          · exact lies.on_far (lies.on_put hL.2.1 0 _) 0 (by omega) _
          · exact lies.on_put (lies.on_far hL.2.2.1 0 (by omega) _) 0 _
          · exact (hwW.setCell (p := ⟨w.heap.size + 1, 0, none⟩) (by show w.heap.size ≤ w.heap.size + 1; omega) _).setCell (p := ⟨w.heap.size + 1 + 1, 0, none⟩) (by show w.heap.size ≤ w.heap.size + 1 + 1; omega) _
          · exact (HSS.out.grown (grown_set (grown_refl _ (some (w.heap.size + 1))) 0 _) (fun r e => by cases e; exact .inr ⟨_, _, hL.2.1⟩)).grown (grown_set (grown_refl _ (some (w.heap.size + 1 + 1))) 0 _) (fun r e => by cases e; exact .inr ⟨_, _, lies.on_far hL.2.2.1 0 (by omega) _⟩)
      case done =>
        rintro D ys W hD hSy ⟨h', v', he, hl4, hL, hS, hsz⟩ hK
        have HE := Lib.hid he
        have HSS := Lib.hid hS
        have HSY := Lib.hid hSy
        clear he hS hSy
        gi_wp2
        have hDW : D < W.heap.size := (Array.getElem?_eq_some_iff.1 hK).1
        refine ⟨⟨k + 1, h', v', D :: Ds, _, _, _, _, _, _, _, _, _, rfl, by go_num, by omega, hL, HSS.out.cons (by omega) (by omega) hK hDW, hl4, Lib.hid (fun r f q => HC.out r f ?_)⟩, ?_⟩
        · rw [HDR.out]
          exact ⟨ys, HSY.out, .inr ⟨by rw [HE.out], by rw [HE.out]; exact q⟩⟩
        · simp [intOf]; omega
      case stop =>
        rintro D c pre W hD ⟨t, ht⟩ ⟨rfl, f, he, hf, hl1, hl2, hB, hS⟩ hK
        have HT := Lib.hid ht
        have HE := Lib.hid he
        have HF := Lib.hid hf
        have HSS := Lib.hid hS
        clear ht he hf hS
        gi_wp2
        have hDW : D < W.heap.size := (Array.getElem?_eq_some_iff.1 hK).1
        refine leaves (D :: Ds) W.heap.size W (HSS.out.cons (by omega) (by omega) hK hDW) (fun W' hB' hl' => ?_)
        have e0 := lies.cell (hl' _ _ _ hl1) 0
        have e1 := lies.cell (hl' _ _ _ hl2) 0
        refine ⟨.tuple #[.slice none 0 0, .int .i64 f], ?_, hB.trans (hB'.mono (by omega)), _, [], f, rfl, ?_, World.ownsRow_nil _ _ _ _⟩
        · simp [results, Tryz.f127, go_sem, e0, e1]
        · refine HC.out [] f ?_
          rw [HDR.out]
          have es := eat_stop pre h t (by rw [HE.out]; exact HF.out)
          exact ⟨pre ++ t, HT.out, .inl ⟨by rw [es, HE.out]; exact HF.out, rfl, by rw [es, HE.out]⟩⟩
    · obtain rfl : len = k := by omega
      obtain ⟨av, cv, rfl⟩ := zs_len (zs_own hL.2.2.2.2.1)
      obtain ⟨q40, q41, q42⟩ := lone hL.2.1
      obtain ⟨q50, q51, q52⟩ := lone hL.2.2.1
      obtain ⟨q60, q61, q62⟩ := lone hL.2.2.2.1
      have HSS := Lib.hid hS
      clear hS
      gi_wp2
      have m1 := lies.on_put hL.2.1 0 (.slice av h.length cv)
      have m2 := lies.on_far hL.2.2.1 (b := w.heap.size + 1) 0 (by omega) (.slice av h.length cv)
      have m3 := lies.on_far m1 (b := w.heap.size + 1 + 1) 0 (by omega) (.int .i64 0)
      have m4 := lies.on_put m2 0 (.int .i64 0)
      have mb := (hL.2.2.2.2.2.1.setCell (p := ⟨w.heap.size + 1, 0, none⟩) (by show w.heap.size ≤ w.heap.size + 1; omega) (.slice av h.length cv)).setCell (p := ⟨w.heap.size + 1 + 1, 0, none⟩) (by show w.heap.size ≤ w.heap.size + 1 + 1; omega) (.int .i64 0)
      have mo := own_grown (own_grown hL.2.2.2.2.1 (grown_set (grown_refl _ (some (w.heap.size + 1))) 0 (.slice av h.length cv)) (fun _ e => by have := (hL.2.2.2.2.1.lt _ e).1; omega)) (grown_set (grown_refl _ (some (w.heap.size + 1 + 1))) 0 (.int .i64 0)) (fun _ e => by have := (hL.2.2.2.2.1.lt _ e).1; omega)
      refine leaves Ds wr.heap.size _ ((HSS.out.grown (grown_set (grown_refl _ (some (w.heap.size + 1))) 0 _) (fun r e => by cases e; exact .inr ⟨_, _, hL.2.1⟩)).grown (grown_set (grown_refl _ (some (w.heap.size + 1 + 1))) 0 _) (fun r e => by cases e; exact .inr ⟨_, _, m2⟩)) (fun W' hB' hl' => ?_)
      have e0 := lies.cell (hl' _ _ _ m3) 0
      have e1 := lies.cell (hl' _ _ _ m4) 0
      refine ⟨.tuple #[.slice av h.length cv, .int .i64 0], ?_, mb.trans (hB'.mono (by omega)), _, h, 0, rfl, ?_, own_far mo (by omega) hl'⟩
      · simp [results, Tryz.f127, go_sem, e0, e1]
      · refine HC.out h 0 ?_
        rw [← HL.out, List.drop_length]
        exact ⟨rfl, rfl⟩
end Go.Proofs.YthmljpccbjolgaaGreatDoor.minus
namespace Go.Proofs.YthmljpccbjolgaaGreatDoor.minus
open Go.Joins Go.ChangeShapes Go.WideShapes Go.ChangeAt Go.RowKit num rat dbm Go.Proofs.YthmljpccbjolgaaGreatDoor.tight Go.Proofs.YthmljpccbjolgaaGreatDoor.plaw Go.Proofs.YthmljpccbjolgaaGreatDoor.zopen Go.Proofs.YthmljpccbjolgaaGreatDoor.zone Go.Proofs.YthmljpccbjolgaaGreatDoor.win Go.Proofs.YthmljpccbjolgaaGreatDoor.mz
open bound hiding up
set_option linter.unusedVariables false
set_option linter.unusedSimpArgs false
def Six (zs:List (List Int)):Prop:=∀ z,z ∈ zs→z.length=6∧Tops z
theorem Six.zo {zs:List (List Int)} (h:Six zs) (k:∀ z,z ∈ zs→MayZ z):∀ z,z ∈ zs→Zo z:=fun z hz=>⟨k z hz,(h z hz).2,(h z hz).1⟩
def AllR (zs:List (List Int)) (f:Int):Prop:=((∀ z,z ∈ zs→MayZ z)∧f=0)∨((∃ z,z ∈ zs∧¬ MayZ z)∧f=8)
set_option maxRecDepth 100000 in
set_option maxHeartbeats 8000000 in
theorem chk_any (ao:Option Addr) (len cap:Nat) (zs:List (List Int)) (w:World) (hP:Pl w) (hI:Zs w.heap.size w (.slice ao len cap) zs) (h6:Six zs) (hl:zs.length=len) (hm:len≤1000000):
  Calls Tryz.prog 126 #[.slice ao len cap] w fun e w'=>Below w.heap.size w w'∧∃ f,e=.returned (.int .i64 f)∧AllR zs f:=by
 have HI:=Lib.hid hI
 have H6:=Lib.hid h6
 have HL:=Lib.hid hl
 have HP:=Lib.hid hP
 clear hI h6 hl hP
 go_enter Tryz.func126,Tryz.ntmps126
 go_wp2_with fail
 go_loopw [8] (fun i wr=>∃ k:Nat,k≤len∧i=.int .i64 k∧Below w.heap.size w wr∧Pl wr∧RowKit.Hid (∀ j,j<k→MayZ (zat zs j))) (fun i _=>len - (intOf i).toNat)
 case atStart=>exact ⟨0,Nat.zero_le _,rfl,Below.refl _ _,HP.out,Lib.hid (fun j hj=>absurd hj (Nat.not_lt_zero j))⟩
 case round=>
  obtain ⟨k,hk,rfl,hB,P0,HM⟩:=hrel
  by_cases hkn:k<len
  ·have hkz:k<zs.length:=by rw [HL.out];exact hkn
   obtain ⟨bq,off,rfl,-,hb,c0,c1,c2,c3,c4,c5⟩:=zs_at (HI.out.below hB) hkz
   have hbr:bq<wr.heap.size:=Nat.lt_of_lt_of_le hb hB.size
   obtain ⟨hz6,hzt⟩:=H6.out _ (zat_mem hkz)
   have hmem:=zat_mem hkz
   have hone:∀ j,j=k→zat zs j=zat zs k:=fun j e=>by rw [e]
   generalize hzk:zat zs k=zk at c0 c1 c2 c3 c4 c5 hz6 hzt hmem hone
   obtain ⟨z0,z1,z2,z3,z4,z5,rfl⟩:=six hz6
   have c0:wr.cell? ⟨bq,off+k*6,none⟩=some (.int .i64 z0):=c0
   have c1:wr.cell? ⟨bq,off+k*6+1,none⟩=some (.int .i64 z1):=c1
   have c2:wr.cell? ⟨bq,off+k*6+2,none⟩=some (.int .i64 z2):=c2
   have c3:wr.cell? ⟨bq,off+k*6+3,none⟩=some (.int .i64 z3):=c3
   have c4:wr.cell? ⟨bq,off+k*6+4,none⟩=some (.int .i64 z4):=c4
   have c5:wr.cell? ⟨bq,off+k*6+5,none⟩=some (.int .i64 z5):=c5
   have HT:=Lib.hid hzt
   have HMEM:=Lib.hid hmem
   have HONE:=Lib.hid hone
   clear hzt hmem hone hz6 hzk
   go_wp2_with fail
   clear c0 c1 c2 c3 c4 c5
   have hA:=bound.up1 wr (.cells #[.int .i64 z0,.int .i64 z1,.int .i64 z2,.int .i64 z3,.int .i64 z4,.int .i64 z5] 27)
   replace P0:=P0.on hA
   replace hB:=later hB hA
   clear hA
   generalize wr.heap.size=ZB
   generalize wr.alloc (.cells #[.int .i64 z0,.int .i64 z1,.int .i64 z2,.int .i64 z3,.int .i64 z4,.int .i64 z5] 27)=w1 at P0 hB ⊢
   refine (zone.check_any z0 z1 z2 z3 z4 z5 w1 P0 HT.out).mono ?_
   rintro e w2 ⟨hB2,f,rfl,hc⟩
   replace P0:=P0.on hB2
   replace hB:=later hB hB2
   clear hB2
   rcases hc with ⟨hma,rfl⟩ | ⟨hma,rfl⟩
   ·have HA:=Lib.hid hma
    clear hma
    go_wp2_with fail
    go_roundw
    case rel=>exact ⟨k+1,by omega,by go_num,hB,P0,Lib.hid (fun j hj=>by
     by_cases e:j=k
     ·rw [HONE.out j e];exact HA.out
     ·exact HM.out j (by omega))⟩
    case measure=>simp [intOf];omega
   ·have HA:=Lib.hid hma
    clear hma
    go_wp2_with fail
    go_ret
    exact ⟨hB,8,rfl,.inr ⟨⟨_,HMEM.out,HA.out⟩,rfl⟩⟩
  ·obtain rfl:len=k:=by omega
   go_wp2_with fail
   go_ret
   refine ⟨hB,0,rfl,.inl ⟨fun z hz=>?_,rfl⟩⟩
   obtain ⟨j,hj,rfl⟩:=List.getElem_of_mem hz
   have:=HM.out j (by rw [←HL.out];exact hj)
   unfold zat at this
   rw [List.getElem?_eq_getElem hj] at this
   exact this
def Zans (R:List (List Int)→Int→Prop) (w:World) (e:Ending) (w':World):Prop:=Below w.heap.size w w'∧∃ v r f,e=.returned (.tuple #[v,.int .i64 f])∧R r f∧w'.ownsRow w.heap.size 27 6 v r.length (flatZ r)
def LefR (a:List Int) (l:List (List Int)) (r:List (List Int)) (f:Int):Prop:=(¬ (MayZ a∧∀ z,z ∈ l→MayZ z)∧r=[]∧f=8)∨(MayZ a∧(∀ z,z ∈ l→MayZ z)∧RestP l [a] r f)
def Lf (w:World) (v:Value) (cur:List (List Int)) (W:World):Prop:=Below w.heap.size w W∧Pl W∧W.ownsRow w.heap.size 27 6 v cur.length (flatZ cur)∧(∀ z,z ∈ cur→Zo z)∧cur.length≤4096
theorem Lf.below {w X Y:World} {v:Value} {cur:List (List Int)} (h:Lf w v cur X) (k:Below X.heap.size X Y):Lf w v cur Y:=⟨later h.1 k,h.2.1.on k,incl.own_call h.2.2.1 k,h.2.2.2⟩
set_option maxRecDepth 100000 in
set_option maxHeartbeats 16000000 in
theorem left_any (a0 a1 a2 a3 a4 a5:Int) (ao:Option Addr) (len cap:Nat) (l:List (List Int)) (w:World) (hP:Pl w) (ta:Tops [a0,a1,a2,a3,a4,a5]) (hI:Zs w.heap.size w (.slice ao len cap) l) (h6:Six l) (hl:l.length=len) (hm:len≤1000000):
  Calls Tryz.prog 84 #[.agg #[.int .i64 a0,.int .i64 a1,.int .i64 a2,.int .i64 a3,.int .i64 a4,.int .i64 a5],.slice ao len cap] w (Zans (LefR [a0,a1,a2,a3,a4,a5] l) w):=by
 have X:∃ w0,w0=(w.alloc (.cells #[.int .i64 a0,.int .i64 a1,.int .i64 a2,.int .i64 a3,.int .i64 a4,.int .i64 a5] 27)).alloc (.cells #[.int .i64 a0,.int .i64 a1,.int .i64 a2,.int .i64 a3,.int .i64 a4,.int .i64 a5] 27):=⟨_,rfl⟩
 obtain ⟨w0,hX⟩:=X
 have DB:Below w.heap.size w w0:=by rw [hX];exact bound.up2 _ _ _
 have D0:lies.Lies w0 w.heap.size 27 #[.int .i64 a0,.int .i64 a1,.int .i64 a2,.int .i64 a3,.int .i64 a4,.int .i64 a5]:=by rw [hX];exact lies.on_alloc (lies.made _ _ _) _
 have D1:lies.Lies w0 (w.heap.size+1) 27 #[.int .i64 a0,.int .i64 a1,.int .i64 a2,.int .i64 a3,.int .i64 a4,.int .i64 a5]:=by rw [hX];exact lies.made_at _ _ _ _ (by simp)
 have P0:=hP.on DB
 have HTA:=Lib.hid ta
 have HI:=Lib.hid hI
 have H6:=Lib.hid h6
 have HL:=Lib.hid hl
 clear hP ta hI h6 hl
 go_enter Tryz.func84,Tryz.ntmps84
 go_wp2_with fail
 rw [←hX]
 clear hX
 refine (chk_any _ 1 1 [[a0,a1,a2,a3,a4,a5]] w0 P0 (zs_box D1) (fun z hz=>?_) rfl (by decide)).mono ?_
 ·rw [List.mem_singleton.1 hz];exact ⟨rfl,HTA.out⟩
 rintro e w1 ⟨hB,f,rfl,hR⟩
 replace D0:=lies.on_call D0 hB
 replace P0:=P0.on hB
 replace DB:=later DB hB
 clear hB D1
 rcases hR with ⟨hr,rfl⟩ | ⟨hr,rfl⟩
 ·have HMA:=Lib.hid (hr _ List.mem_cons_self)
  clear hr
  go_wp2_with fail
  refine (chk_any _ len cap l w1 P0 ((HI.out.below DB).mono DB.size) H6.out HL.out hm).mono ?_
  rintro e w2 ⟨hB,f,rfl,hR⟩
  replace D0:=lies.on_call D0 hB
  replace P0:=P0.on hB
  replace DB:=later DB hB
  clear hB
  rcases hR with ⟨hr,rfl⟩ | ⟨hr,rfl⟩
  ·have HML:=Lib.hid hr
   clear hr
   obtain ⟨⟨x0,x1,x2,x3,x4,x5⟩,-,xl⟩:=six_cells D0
   go_wp2_with fail
   clear x0 x1 x2 x3 x4 x5 xl D0
   have hA:=bound.up1 w2 (.cells #[.int .i64 a0,.int .i64 a1,.int .i64 a2,.int .i64 a3,.int .i64 a4,.int .i64 a5] 27)
   have hown:=World.ownsRow_lit w2 (e:=27) (size:=6) #[.int .i64 a0,.int .i64 a1,.int .i64 a2,.int .i64 a3,.int .i64 a4,.int .i64 a5] 1 (Nat.le_refl _) (by decide) rfl
   have L0:Lf w (.slice (some ⟨w2.heap.size,0,none⟩) 1 1) [[a0,a1,a2,a3,a4,a5]] (w2.alloc (.cells #[.int .i64 a0,.int .i64 a1,.int .i64 a2,.int .i64 a3,.int .i64 a4,.int .i64 a5] 27)):=⟨later DB hA,P0.on hA,own_far hown DB.size (fun _ _ _ q=>q),fun z hz=>by rw [List.mem_singleton.1 hz];exact ⟨HMA.out,HTA.out,rfl⟩,by show 1≤4096;decide⟩
   clear hA hown P0 DB
   go_loopw [28,8] (fun i v wr=>∃ (k:Nat) (cur:List (List Int)),k≤len∧i=.int .i64 k∧Lf w v cur wr∧RowKit.Hid (∀ r f,RestP (l.drop k) cur r f→RestP l [[a0,a1,a2,a3,a4,a5]] r f)) (fun i _ _=>len - (intOf i).toNat)
   case atStart=>exact ⟨0,[[a0,a1,a2,a3,a4,a5]],Nat.zero_le _,rfl,L0,Lib.hid (fun r f q=>q)⟩
   case round=>
    clear L0
    obtain ⟨k,cur,hk,rfl,hL,HC⟩:=hrel
    obtain ⟨av,cv,rfl⟩:=zs_len (zs_own hL.2.2.1)
    by_cases hkn:k<len
    ·have hkz:k<l.length:=by rw [HL.out];exact hkn
     obtain ⟨bq,off,rfl,-,hb,c0,c1,c2,c3,c4,c5⟩:=zs_at (HI.out.below hL.1) hkz
     have hbr:bq<wr.heap.size:=Nat.lt_of_lt_of_le hb hL.1.size
     have hzk:Zo (zat l k):=⟨HML.out _ (zat_mem hkz),(H6.out _ (zat_mem hkz)).2,(H6.out _ (zat_mem hkz)).1⟩
     have hdrop:l.drop k=zat l k::l.drop (k+1):=by
      rw [List.drop_eq_getElem_cons hkz]
      unfold zat
      rw [List.getElem?_eq_getElem hkz]
      rfl
     generalize zat l k=zk at c0 c1 c2 c3 c4 c5 hzk hdrop
     obtain ⟨z0,z1,z2,z3,z4,z5,rfl⟩:=six hzk.2.2
     have c0:wr.cell? ⟨bq,off+k*6,none⟩=some (.int .i64 z0):=c0
     have c1:wr.cell? ⟨bq,off+k*6+1,none⟩=some (.int .i64 z1):=c1
     have c2:wr.cell? ⟨bq,off+k*6+2,none⟩=some (.int .i64 z2):=c2
     have c3:wr.cell? ⟨bq,off+k*6+3,none⟩=some (.int .i64 z3):=c3
     have c4:wr.cell? ⟨bq,off+k*6+4,none⟩=some (.int .i64 z4):=c4
     have c5:wr.cell? ⟨bq,off+k*6+5,none⟩=some (.int .i64 z5):=c5
     have HZK:=Lib.hid hzk
     have HDR:=Lib.hid hdrop
     clear hzk hdrop
     go_wp2_with fail
     clear c0 c1 c2 c3 c4 c5
     replace hL:=hL.below (bound.up1 wr (.cells #[.int .i64 z0,.int .i64 z1,.int .i64 z2,.int .i64 z3,.int .i64 z4,.int .i64 z5] 27))
     generalize wr.heap.size=ZB
     generalize wr.alloc (.cells #[.int .i64 z0,.int .i64 z1,.int .i64 z2,.int .i64 z3,.int .i64 z4,.int .i64 z5] 27)=w3 at hL ⊢
     refine (less_any _ cur.length _ cur z0 z1 z2 z3 z4 z5 w3 hL.2.1 (zs_own hL.2.2.1) hL.2.2.2.1 HZK.out rfl (Nat.le_trans hL.2.2.2.2 (by decide))).mono ?_
     rintro e w4 ⟨hB,v,r,f,rfl,hR,hO⟩
     have hD:=hL.1.size
     have hO2:=own_far hO hD (fun _ _ _ q=>q)
     replace hL:=hL.below hB
     have HR:=Lib.hid hR
     have HO:=Lib.hid hO2
     clear hB hR hO hO2 hD
     by_cases hf:f=0
     ·subst hf
      obtain ⟨k1,k2⟩:=stepP_ok HZK.out.2.1 HZK.out.1 cur hL.2.2.2.1 (Nat.zero_le _) HR.out
      have k3:=step_zo HZK.out.2.1 HZK.out.1 cur hL.2.2.2.1 (fun x hx=>by cases hx) k1
      have HL2:Lf w v r w4:=⟨hL.1,hL.2.1,HO.out,k3,k2⟩
      clear k1 k2 k3 HO hL
      go_wp2_with fail
      go_roundw
      case rel=>exact ⟨k+1,r,by omega,by go_num,HL2,Lib.hid (fun r' f' q=>HC.out r' f' (by rw [HDR.out];exact ⟨r,0,HR.out,.inr ⟨rfl,q⟩⟩))⟩
      case measure=>simp [intOf];omega
     ·have HB:=Lib.hid hL.1
      have HF:=Lib.hid hf
      clear hL
      go_wp2_with fail
      exact bodyPost_ret (v:=.tuple #[.slice none 0 0,.int .i64 f]) (by simp [results,Tryz.results84,go_sem]) rfl ⟨HB.out,_,[],f,rfl,.inr ⟨HMA.out,HML.out,HC.out [] f (by rw [HDR.out];exact ⟨r,f,HR.out,.inl ⟨HF.out,rfl,rfl⟩⟩)⟩,World.ownsRow_nil _ _ _ _⟩
    ·obtain rfl:len=k:=by omega
     have HLL:=Lib.hid hL
     clear hL
     go_wp2_with fail
     exact bodyPost_ret (v:=.tuple #[.slice av cur.length cv,.int .i64 0]) (by simp [results,Tryz.results84,go_sem]) rfl ⟨HLL.out.1,_,cur,0,rfl,.inr ⟨HMA.out,HML.out,HC.out cur 0 (by rw [←HL.out,List.drop_length];exact ⟨rfl,rfl⟩)⟩,HLL.out.2.2.1⟩
  ·have HR:=Lib.hid hr
   clear hr D0
   go_wp2_with fail
   refine bodyPost_ret (v:=.tuple #[.slice none 0 0,.int .i64 8]) (by simp [results,Tryz.results84,go_sem]) rfl ⟨DB,_,[],8,rfl,.inl ⟨fun q=>?_,rfl,rfl⟩,World.ownsRow_nil _ _ _ _⟩
   obtain ⟨z,hz,hn⟩:=HR.out
   exact hn (q.2 z hz)
 ·have HR:=Lib.hid hr
  clear hr D0
  go_wp2_with fail
  refine bodyPost_ret (v:=.tuple #[.slice none 0 0,.int .i64 8]) (by simp [results,Tryz.results84,go_sem]) rfl ⟨DB,_,[],8,rfl,.inl ⟨fun q=>?_,rfl,rfl⟩,World.ownsRow_nil _ _ _ _⟩
  obtain ⟨z,hz,hn⟩:=HR.out
  rw [List.mem_singleton.1 hz] at hn
  exact hn q.1
end Go.Proofs.YthmljpccbjolgaaGreatDoor.minus
