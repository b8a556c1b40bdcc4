
/-
  What slices.SortFunc and slices.Compact make of a row of zones; the conditions are each theorem's own.
-/
import Derived.Test.YthmljpccbjolgaaGreatDoorCoverA
import Derived.Test.YthmljpccbjolgaaGreatDoorSorts
import Derived.Lib.OwnBridge
import Derived.BigQuiet
namespace Go.Proofs.YthmljpccbjolgaaGreatDoor.cover
open Go.Joins Go.ChangeShapes Go.WideShapes Go.ChangeAt Go.RowKit num rat dbm Go.Proofs.YthmljpccbjolgaaGreatDoor.tight Go.Proofs.YthmljpccbjolgaaGreatDoor.incl Go.Proofs.YthmljpccbjolgaaGreatDoor.plaw Go.Proofs.YthmljpccbjolgaaGreatDoor.zopen Go.Proofs.YthmljpccbjolgaaGreatDoor.zone Go.Proofs.YthmljpccbjolgaaGreatDoor.win Go.Proofs.YthmljpccbjolgaaGreatDoor.minus Go.Proofs.YthmljpccbjolgaaGreatDoor.mz Go.Sort
open bound hiding up
set_option linter.unusedVariables false
set_option linter.unusedSimpArgs false
set_option linter.unusedSectionVars false
def Drw (w W:World):Prop:=∃ q,W=w.drewN q
theorem Drw.start (w:World):Drw w w.drew:=⟨1,rfl⟩
theorem Drw.below {w W:World} (h:Drw w W):Below w.heap.size w W:=by
 obtain ⟨q,rfl⟩:=h
 exact ⟨rfl,rfl,rfl,Nat.le_refl _,fun _ _=>rfl⟩
set_option maxRecDepth 100000 in
set_option maxHeartbeats 2000000 in
theorem cmp_grow (a0 a1 a2 a3 a4 a5 b0 b1 b2 b3 b4 b5:Int) (w:World):
  Calls Tryz.prog 49 #[.agg #[.int .i64 a0,.int .i64 a1,.int .i64 a2,.int .i64 a3,.int .i64 a4,.int .i64 a5],.agg #[.int .i64 b0,.int .i64 b1,.int .i64 b2,.int .i64 b3,.int .i64 b4,.int .i64 b5]] w fun e w'=>e=.returned (.int .i64 (cmpL [a0,a1,a2,a3,a4,a5] [b0,b1,b2,b3,b4,b5]))∧∃ q os,w'=grow (w.drewN q) os:=by
 have D0:=lies.on_alloc (lies.made w 27 #[.int .i64 a0,.int .i64 a1,.int .i64 a2,.int .i64 a3,.int .i64 a4,.int .i64 a5]) (.cells #[.int .i64 b0,.int .i64 b1,.int .i64 b2,.int .i64 b3,.int .i64 b4,.int .i64 b5] 27)
 have D1:=lies.made_at (w.alloc (.cells #[.int .i64 a0,.int .i64 a1,.int .i64 a2,.int .i64 a3,.int .i64 a4,.int .i64 a5] 27)) 27 #[.int .i64 b0,.int .i64 b1,.int .i64 b2,.int .i64 b3,.int .i64 b4,.int .i64 b5] (w.heap.size+1) (by simp)
 have HG:∀ W,Drw ((w.alloc (.cells #[.int .i64 a0,.int .i64 a1,.int .i64 a2,.int .i64 a3,.int .i64 a4,.int .i64 a5] 27)).alloc (.cells #[.int .i64 b0,.int .i64 b1,.int .i64 b2,.int .i64 b3,.int .i64 b4,.int .i64 b5] 27)) W→∃ q os,W=grow (w.drewN q) os:=by
  rintro W ⟨q,rfl⟩
  exact ⟨q,_,by rw [alloc_eq_grow,alloc_eq_grow,grow_grow];rfl⟩
 go_enter Tryz.func49,Tryz.ntmps49
 go_wp2_with fail
 generalize (w.alloc (.cells #[.int .i64 a0,.int .i64 a1,.int .i64 a2,.int .i64 a3,.int .i64 a4,.int .i64 a5] 27)).alloc (.cells #[.int .i64 b0,.int .i64 b1,.int .i64 b2,.int .i64 b3,.int .i64 b4,.int .i64 b5] 27)=w0 at HG D0 D1 ⊢
 refine wp_region_held_drew (S:=Drw w0) (by kernel_rfl) (Drw.start w0) (fun hHeld=>?_)
 refine tk 0 (v:=?_) rfl hHeld ?_ ?_
 rotate_left
 ·intro w hSw;skip;go_simp;try with_reducible rfl
 try simp only [Act.put,sA,sB,sC,sD,sE,sF]
 refine tk 1 (v:=?_) rfl hHeld ?_ ?_
 rotate_left
 ·intro w hSw;skip;go_simp;try with_reducible rfl
 try simp only [Act.put,sA,sB,sC,sD,sE,sF]
 refine wpAnyH_ready (rs:=[2]) (by kernel_rfl) (by simp) (AllReadyH.cons rfl (fun K hK=>?_) AllReadyH.nil)
 go_simp
 refine (compare_is w.heap.size (w.heap.size+1) [a0,a1,a2,a3,a4,a5] [b0,b1,b2,b3,b4,b5] _ (row_six (lies.on_call D0 hHeld.below)) (row_six (lies.on_call D1 hHeld.below)) (Nat.lt_of_lt_of_le (lies.lt D0) hHeld.below.size) (Nat.lt_of_lt_of_le (lies.lt D1) hHeld.below.size) rfl rfl).mono ?_
 rintro e w' ⟨rfl,rfl⟩
 refine hK.out _ _ hHeld (fun hNew=>?_)
 clear hHeld hK K
 have hHeld:=hNew
 clear hNew
 try simp only [Act.put,sA,sB,sC,sD,sE,sF]
 refine tk 3 (v:=?_) rfl hHeld ?_ ?_
 rotate_left
 ·intro w hSw;skip;go_simp;try with_reducible rfl
 try simp only [Act.put,sA,sB,sC,sD,sE,sF]
 refine wpAnyH_done (by kernel_rfl) ?_ _
 have KZ:=HG _ hHeld
 clear hHeld D0 D1 HG
 go_wp2_with fail
 go_ret
 exact ⟨rfl,KZ⟩
/-! zones as the contract wants them: a type of their own -/
abbrev Z6:={z:List Int // z.length=6}
instance:Inhabited Z6:=⟨⟨[0,0,0,0,0,0],rfl⟩⟩
def encZ (z:Z6):List Value:=zcs z.1
def cfZ (x y:Z6):Int:=cmpL x.1 y.1
theorem encZ_len (z:Z6):(encZ z).length=6:=rfl
theorem encZ_one (z:Z6):∀ v ∈ encZ z,v.oneCell'=true:=fun v hv=>flatZ_each [z.1] v (by rw [flatZ_one];exact hv)
theorem cfZ_lays (blk off size:Nat) (w:World):CmpLays Tryz.prog 49 #[] encZ 6 cfZ blk off size w:=by
 intro m os dk hs x y
 obtain ⟨x,hx⟩:=x
 obtain ⟨y,hy⟩:=y
 obtain ⟨a0,a1,a2,a3,a4,a5,rfl⟩:=six hx
 obtain ⟨b0,b1,b2,b3,b4,b5,rfl⟩:=six hy
 exact cmp_grow a0 a1 a2 a3 a4 a5 b0 b1 b2 b3 b4 b5 _
theorem ltZ {x y:Z6}:ltOf cfZ x y=true↔cmpL x.1 y.1<0:=decide_eq_true_iff
theorem ltZ' {x y:Z6}:ltOf cfZ x y=false↔cmpL y.1 x.1≤0:=by
 have:=cmp_back x.1 y.1
 rw [show ltOf cfZ x y=decide (cmpL x.1 y.1<0) from rfl,decide_eq_false_iff_not]
 omega
theorem swoZ:SWO (ltOf cfZ):={
 irrefl:=fun x=>ltZ'.2 (by rw [cmp_self];exact Int.le_refl _)
 trans:=fun x y z h k=>ltZ.2 (cmp_lt_trans (ltZ.1 h) (ltZ.1 k))
 ntrans:=fun x y z h k=>ltZ'.2 (cmp_trans _ _ _ (ltZ'.1 k) (ltZ'.1 h))}
theorem oneZ (x y:Z6) (h:ltOf cfZ x y=false) (k:ltOf cfZ y x=false):x=y:=by
 have h:=ltZ'.1 h
 have k:=ltZ'.1 k
 have:=cmp_back x.1 y.1
 exact Subtype.ext ((cmp_zero _ _).1 (by omega))
theorem z6_of:∀ {zs:List (List Int)},(∀ z,z ∈ zs→z.length=6)→∃ d:List Z6,d.map (·.1)=zs
 | [],_=>⟨[],rfl⟩
 | z::zs,h=>by
  obtain ⟨d,hd⟩:=z6_of (zs:=zs) fun x hx=>h x (List.mem_cons_of_mem _ hx)
  exact ⟨⟨z,h z List.mem_cons_self⟩::d,by rw [List.map_cons,hd]⟩
theorem flat_eq (d : List Z6) : (flatK encZ 6 d.toArray).toList = flatZ (d.map (·.1)) := by
 refine List.ext_getElem? fun t => ?_
 by_cases h : t < d.length * 6
 ·have hs : t < (flatK encZ 6 d.toArray).size := by rw [size_flatK,List.size_toArray]; exact h
  have e := flatZ_at (d.map (·.1)) (t / 6) (t % 6) (by rw [List.length_map]; omega) (Nat.mod_lt _ (by decide))
  rw [show t / 6 * 6 + t % 6 = t by omega] at e
  have g := get_flatK encZ 6 d.toArray t (by rw [List.size_toArray]; exact h)
  have hq : t / 6 < d.length := by omega
  have hd : d.toArray[t / 6]! = d[t / 6] := by rw [getElem!_pos d.toArray (t / 6) (by rw [List.size_toArray]; exact hq)]; rfl
  rw [e,Array.getElem?_toList,Array.getElem?_eq_getElem hs]
  rw [getElem!_pos (flatK encZ 6 d.toArray) t hs,hd] at g
  rw [g]
  have z := zcs_at d[t / 6].1 (j := t % 6) (Nat.mod_lt _ (by decide))
  rw [List.getElem!_eq_getElem?_getD,show encZ d[t / 6] = zcs d[t / 6].1 from rfl,z]
  unfold zat
  rw [List.getElem?_map,List.getElem?_eq_getElem hq]
  rfl
 ·rw [List.getElem?_eq_none (by rw [Array.length_toList,size_flatK,List.size_toArray]; omega),List.getElem?_eq_none (by rw [flatZ_length,List.length_map]; omega)]
theorem own_putF {w:World} {base:Nat} {e:TypeId} {size g n cap q:Nat} {xs:List Value} {F:Array Value} (h:w.ownsRow base e size (.slice (some ⟨g,0,none⟩) n cap) n xs) (hF:F.size=n*size):
  (putRow id (Sort.ahead w q) g 0 F).ownsRow base e size (.slice (some ⟨g,0,none⟩) n cap) n F.toList:=by
 rcases h.2 with ⟨e0,_⟩ | ⟨g',cap',cur,e0,hb,hg,hn,hm,hs,ht⟩
 ·cases e0
 ·injection e0 with e1 _ e3
  injection e1 with e1
  injection e1 with e1
  subst e1;subst e3
  refine ⟨by simpa using hF,.inr ⟨g,cap,putCells id 0 F cur,rfl,hb,?_,hn,hm,by simpa [putCells] using hs,?_⟩⟩
  ·simp [putRow,mapBlock,Sort.ahead,Array.getElem?_modify,hg,onCells]
  ·apply List.ext_getElem?
   intro j
   rw [List.getElem?_take,Array.getElem?_toList,Array.getElem?_toList]
   by_cases hj:j<n*size
   ·have hjc:j<cur.size:=by rw [hs];exact Nat.lt_of_lt_of_le hj (Nat.mul_le_mul_right _ hn)
    simp only [if_pos hj,putCells,Array.getElem?_mapIdx,Array.getElem?_eq_getElem hjc,Option.map_some]
    rw [if_pos (by omega),Array.getElem?_eq_getElem (by omega)]
    simp [getElem!_pos,show j<F.size by omega]
   ·rw [if_neg hj,Array.getElem?_eq_none (by omega)]
theorem own_holds {w:World} {base:Nat} {e:TypeId} {g n cap:Nat} (d:List Z6) (h:w.ownsRow base e 6 (.slice (some ⟨g,0,none⟩) n cap) n (flatZ (d.map (·.1)))):HoldsK encZ 6 w g 0 d.toArray:=by
 have hl:=h.1
 rcases h.2 with ⟨e0,_⟩ | ⟨g',cap',cur,e0,hb,hg,hn,hm,hs,ht⟩
 ·cases e0
 ·injection e0 with e1 _ e3
  injection e1 with e1
  injection e1 with e1
  subst e1;subst e3
  intro j hj
  have hj6:j<n*6:=by rw [size_flatK,List.size_toArray] at hj;rw [flatZ_length,List.length_map] at hl;omega
  refine ⟨?_,by simp [World.frozen?,hg]⟩
  have e1:(cur.toList.take (n*6))[j]?=(flatK encZ 6 d.toArray).toList[j]?:=by rw [ht,flat_eq]
  rw [List.getElem?_take,if_pos hj6,Array.getElem?_toList,Array.getElem?_toList,Array.getElem?_eq_getElem hj] at e1
  simp only [World.cell?,hg,Nat.zero_add,Option.isSome_none,Bool.false_eq_true,if_false]
  rw [e1,getElem!_pos _ j hj]
  rfl
theorem grow_below (w:World) (os:Array Obj):Below w.heap.size w (grow w os):=
 ⟨rfl,rfl,rfl,by show _≤(w.heap++os).size;rw [Array.size_append];omega,fun k hk=>by show (w.heap++os)[k]?=_;rw [Array.getElem?_append_left hk]⟩
set_option maxHeartbeats 2000000 in
theorem sort_zones (base g n cap:Nat) (zs:List (List Int)) (w:World) (hO:w.ownsRow base 27 6 (.slice (some ⟨g,0,none⟩) n cap) n (flatZ zs)) (h6:∀ z,z ∈ zs→z.length=6) (hm:n≤1000000):
  Calls Tryz.prog 81 #[.slice (some ⟨g,0,none⟩) n cap,.func (.func 49) #[] #[]] w fun e w'=>e=.returned (.tuple #[])∧Below base w w'∧∃ ys:List (List Int),ys.Perm zs∧(ys.Pairwise fun x y=>cmpL x y≤0)∧w'.ownsRow base 27 6 (.slice (some ⟨g,0,none⟩) n cap) n (flatZ ys):=by
 obtain ⟨d,rfl⟩:=z6_of h6
 have hn:d.length=n:=by have:=hO.1;rw [flatZ_length,List.length_map] at this;omega
 have hg:=hO.lt g rfl
 have eg:∀ args w,(callFunc 49 args).run Tryz.prog w=.ok (.enter 49 args) w:=enters_of Tryz.func49 (by kernel_rfl) rfl
 have c:=AnyQ.slices_SortFunc_total Tryz.sortZ 6 Tryz.isAgg27 Tryz.sizeOf27 encZ encZ_len encZ_one cfZ swoZ 49 #[] g 0 cap d.toArray w eg (cfZ_lays g 0 _ w) (own_holds d hO) hg.2 (by rw [List.size_toArray];omega) oneZ
 rw [List.size_toArray,hn] at c
 refine Calls.mono c ?_
 rintro e w' ⟨rfl,q,os,rfl⟩
 have P:=List.mergeSort_perm d fun x y=>!(ltOf cfZ) y x
 have S:=List.pairwise_mergeSort (le:=fun x y=>!(ltOf cfZ) y x) (fun a b c h k=>by
  simp only [Bool.not_eq_true'] at h k ⊢
  exact swoZ.ntrans _ _ _ k h) (fun a b=>by
  by_cases h:ltOf cfZ b a=true
  ·simp [swoZ.asymmA h]
  ·simp [h]) d
 have hl:(d.mergeSort fun x y=>!(ltOf cfZ) y x).length=n:=by rw [P.length_eq,hn]
 generalize d.mergeSort (fun x y=>!(ltOf cfZ) y x)=ys at P S hl
 have O:=own_putF (q:=q) (F:=flatK encZ 6 ys.toArray) hO (by rw [size_flatK,List.size_toArray,hl])
 rw [flat_eq] at O
 have B:=Lib.below_putRow (enc:=id) (q:=q) (d:=flatK encZ 6 ys.toArray) (Below.refl base w) hg.1
 have G:=grow_below (putRow id (Sort.ahead w q) g 0 (flatK encZ 6 ys.toArray)) os
 refine ⟨rfl,B.trans (G.mono (Nat.le_trans hg.1 (Nat.le_of_lt (Nat.lt_of_lt_of_le hg.2 (B.size))))),ys.map (·.1),P.map _,?_,incl.own_call O G⟩
 refine List.Pairwise.map _ (R:=fun x y=>(!(ltOf cfZ) y x)=true) (fun x y h=>?_) S
 rw [Bool.not_eq_true'] at h
 exact ltZ'.1 h
theorem sort_none (p:Option Addr) (cap:Nat) (fv:Value) (w:World):Calls Tryz.prog 81 #[.slice p 0 cap,fv] w fun e w'=>e=.returned (.tuple #[])∧w'=w:=
 AnyF.slices_SortFunc_none Tryz.sortZ p cap fv w
end Go.Proofs.YthmljpccbjolgaaGreatDoor.cover
namespace Go.Proofs.YthmljpccbjolgaaGreatDoor.cover
open Go.Joins Go.ChangeShapes Go.WideShapes Go.ChangeAt Go.RowKit num rat dbm Go.Proofs.YthmljpccbjolgaaGreatDoor.tight Go.Proofs.YthmljpccbjolgaaGreatDoor.incl Go.Proofs.YthmljpccbjolgaaGreatDoor.plaw Go.Proofs.YthmljpccbjolgaaGreatDoor.zopen Go.Proofs.YthmljpccbjolgaaGreatDoor.zone Go.Proofs.YthmljpccbjolgaaGreatDoor.win Go.Proofs.YthmljpccbjolgaaGreatDoor.minus Go.Proofs.YthmljpccbjolgaaGreatDoor.mz
open bound hiding up
set_option linter.unusedVariables false
set_option linter.unusedSimpArgs false
set_option linter.unusedSectionVars false
/-! a row of one's own as a block -/
theorem own_get {W:World} {base g n cap size:Nat} {e:TypeId} {xs:List Value} (h:W.ownsRow base e size (.slice (some ⟨g,0,none⟩) n cap) n xs):
  ∃ cs,lies.Lies W g e cs∧base≤g∧n≤cap∧cap≤maxLen∧cs.size=cap*size∧cs.toList.take (n*size)=xs∧xs.length=n*size:=by
 rcases h.2 with ⟨e0,_⟩ | ⟨g',cap',cur,e0,hb,hg,hn,hm,hs,ht⟩
 ·cases e0
 ·injection e0 with e1 _ e3
  injection e1 with e1
  injection e1 with e1
  subst e1;subst e3
  exact ⟨cur,hg,hb,hn,hm,hs,ht,h.1⟩
theorem own_of {W:World} {base g n cap size:Nat} {e:TypeId} {cs:Array Value} {xs:List Value} (h:lies.Lies W g e cs) (hb:base≤g) (hn:n≤cap) (hm:cap≤maxLen) (hs:cs.size=cap*size) (hx:cs.toList.take (n*size)=xs):
  W.ownsRow base e size (.slice (some ⟨g,0,none⟩) n cap) n xs:=by
 refine ⟨?_,.inr ⟨g,cap,cs,rfl,hb,h,hn,hm,hs,hx⟩⟩
 rw [←hx,List.length_take,Array.length_toList,hs]
 exact Nat.min_eq_left (Nat.mul_le_mul_right _ hn)
theorem take_is {cs:Array Value} {xs:List Value} {k:Nat} (h:cs.toList.take k=xs) {i:Nat} (hi:i<k):cs[i]?=xs[i]?:=by
 rw [←h,List.getElem?_take,if_pos hi,Array.getElem?_toList]
theorem take_of {cs:Array Value} {xs:List Value} {k:Nat} (hl:xs.length=k) (h:∀ i,i<k→cs[i]?=xs[i]?):cs.toList.take k=xs:=by
 refine List.ext_getElem? fun i=>?_
 rw [List.getElem?_take,Array.getElem?_toList]
 by_cases hi:i<k
 ·rw [if_pos hi,h i hi]
 ·rw [if_neg hi,List.getElem?_eq_none (by omega)]
theorem lies_puts {g:Nat} {t:TypeId}:∀ (vs:List Value) (s:Nat) (W:World) (cs:Array Value),lies.Lies W g t cs→∃ ds,lies.Lies (W.setCells g s vs) g t ds∧ds.size=cs.size∧∀ i,i<s→ds[i]?=cs[i]?
 | [],s,W,cs,h=>⟨cs,h,rfl,fun _ _=>rfl⟩
 | v::r,s,W,cs,h=>by
  obtain ⟨ds,h1,h2,h3⟩:=lies_puts r (s+1) _ _ (lies.on_put h s v)
  refine ⟨ds,h1,by rw [h2];simp,fun i hi=>?_⟩
  rw [h3 i (by omega),Array.getElem?_setIfInBounds,if_neg (by omega)]
theorem below_puts {B g:Nat} (hb:B≤g):∀ (vs:List Value) (s:Nat) {A W:World},Below B A W→Below B A (W.setCells g s vs)
 | [],_,_,_,h=>h
 | v::r,s,A,W,h=>below_puts hb r (s+1) (h.setCell (p:=⟨g,s,none⟩) hb v)
def put6 (W:World) (g i:Nat) (x0 x1 x2 x3 x4 x5:Value):World:=(((((W.setCell ⟨g,i,none⟩ x0).setCell ⟨g,i+1,none⟩ x1).setCell ⟨g,i+2,none⟩ x2).setCell ⟨g,i+3,none⟩ x3).setCell ⟨g,i+4,none⟩ x4).setCell ⟨g,i+5,none⟩ x5
theorem put6_lies {W:World} {g i:Nat} {t:TypeId} {cs:Array Value} (h:lies.Lies W g t cs) (hi:i+6≤cs.size) (x0 x1 x2 x3 x4 x5:Value):
  ∃ ds,lies.Lies (put6 W g i x0 x1 x2 x3 x4 x5) g t ds∧ds.size=cs.size∧(∀ j,j<6→ds[i+j]?=[x0,x1,x2,x3,x4,x5][j]?)∧∀ p,p<i∨i+6≤p→ds[p]?=cs[p]?:=by
 refine ⟨_,lies.on_put (lies.on_put (lies.on_put (lies.on_put (lies.on_put (lies.on_put h i x0) (i+1) x1) (i+2) x2) (i+3) x3) (i+4) x4) (i+5) x5,by simp,fun j hj=>?_,fun p hp=>?_⟩
 ·rcases (by omega:j=0∨j=1∨j=2∨j=3∨j=4∨j=5) with rfl | rfl | rfl | rfl | rfl | rfl
  all_goals
   simp only [Array.getElem?_setIfInBounds,Array.size_setIfInBounds,Nat.add_zero]
   simp
   try omega
 ·simp only [Array.getElem?_setIfInBounds]
  rw [if_neg (by omega),if_neg (by omega),if_neg (by omega),if_neg (by omega),if_neg (by omega),if_neg (by omega)]
theorem put6_below {W X:World} {g i n:Nat} (h:Below n X W) (k:n≤g) (x0 x1 x2 x3 x4 x5:Value):Below n X (put6 W g i x0 x1 x2 x3 x4 x5):=
 ((((((h.setCell (p:=⟨g,i,none⟩) k x0).setCell (p:=⟨g,i+1,none⟩) k x1).setCell (p:=⟨g,i+2,none⟩) k x2).setCell (p:=⟨g,i+3,none⟩) k x3).setCell (p:=⟨g,i+4,none⟩) k x4).setCell (p:=⟨g,i+5,none⟩) k x5)
def Cmpd (zs:List (List Int)) (cap T M:Nat) (cs:Array Value):Prop:=
 cs.size=cap*6∧M=(cpt zs T).length∧(∀ i,i<M*6→cs[i]?=(flatZ (cpt zs T))[i]?)∧∀ i,(T - 1)*6≤i→i<zs.length*6→cs[i]?=(flatZ zs)[i]?
theorem Cmpd.cell {zs:List (List Int)} {cap T M:Nat} {cs:Array Value} (h:Cmpd zs cap T M cs) {q j:Nat} (hq:T≤q+1) (hl:q<zs.length) (hj:j<6):cs[q*6+j]?=some (.int .i64 ((zat zs q)[j]?.getD 0)):=by
 rw [h.2.2.2 _ (by omega) (by omega),flatZ_at zs q j hl hj]
theorem Cmpd.skip {zs:List (List Int)} {cap T M:Nat} {cs:Array Value} (h:Cmpd zs cap T M cs) (k:kee zs T=false):Cmpd zs cap (T+1) M cs:=
 ⟨h.1,by rw [cpt_no k];exact h.2.1,by rw [cpt_no k];exact h.2.2.1,fun i a b=>h.2.2.2 i (by omega) b⟩
theorem Cmpd.keep {zs:List (List Int)} {cap T M:Nat} {cs ds:Array Value} (h:Cmpd zs cap T M cs) (k:kee zs T=true) (hM:M+1≤T) (hs:ds.size=cs.size)
  (h1:∀ j,j<6→ds[M*6+j]?=some (.int .i64 ((zat zs T)[j]?.getD 0))) (h2:∀ p,p<M*6∨M*6+6≤p→ds[p]?=cs[p]?):Cmpd zs cap (T+1) (M+1) ds:=by
 have hl:(flatZ (cpt zs T)).length=M*6:=by rw [flatZ_length,←h.2.1]
 refine ⟨hs.trans h.1,by rw [cpt_yes k,List.length_append,←h.2.1];rfl,fun i hi=>?_,fun i a b=>?_⟩
 ·rw [cpt_yes k,flatZ_app,flatZ_one]
  by_cases e:i<M*6
  ·rw [h2 i (.inl e),h.2.2.1 i e,List.getElem?_append_left (by omega)]
  ·rw [List.getElem?_append_right (by omega),hl]
   have:=h1 (i - M*6) (by omega)
   rw [show M*6+(i - M*6)=i by omega] at this
   rw [this,zcs_at _ (by omega)]
 ·rw [h2 i (.inr (by omega)),h.2.2.2 i (by omega) b]
theorem Cmpd.start {zs:List (List Int)} {cap K:Nat} {cs:Array Value} (hs:cs.size=cap*6) (ht:cs.toList.take (zs.length*6)=flatZ zs) (hK:K<zs.length) (h0:0<K) (h:∀ i,i+1<K→zat zs (i+1)≠zat zs i) (k:zat zs K=zat zs (K - 1)):Cmpd zs cap (K+1) K cs:=by
 have e:=cpt_all K (by omega) h
 have k':kee zs K=false:=by
  obtain ⟨q,rfl⟩:∃ q,K=q+1:=⟨K - 1,by omega⟩
  exact kee_no k
 have e2:cpt zs (K+1)=zs.take K:=by rw [cpt_no k',e]
 refine ⟨hs,by rw [e2,List.length_take];omega,fun i hi=>?_,fun i a b=>take_is ht b⟩
 rw [e2,take_is ht (by omega)]
 have e3:flatZ zs=flatZ (zs.take K)++flatZ (zs.drop K):=by rw [←flatZ_app,List.take_append_drop]
 rw [e3,List.getElem?_append_left (by rw [flatZ_length,List.length_take];omega)]
theorem zero_cells (n:Nat):(Builtin.zeroCells (Value.agg #[.int .i64 0,.int .i64 0,.int .i64 0,.int .i64 0,.int .i64 0,.int .i64 0]).cells n).toList.length=n*6:=by
 rw [Array.length_toList,size_zeroCells]
 rfl
theorem zero_one (n:Nat):∀ v ∈ (Builtin.zeroCells (Value.agg #[.int .i64 0,.int .i64 0,.int .i64 0,.int .i64 0,.int .i64 0,.int .i64 0]).cells n).toList,v.oneCell'=true:=by
 intro v hv
 simp only [Builtin.zeroCells,Array.toList_map,List.mem_map] at hv
 obtain ⟨i,-,rfl⟩:=hv
 have e:(Value.agg #[.int .i64 0,.int .i64 0,.int .i64 0,.int .i64 0,.int .i64 0,.int .i64 0]).cells=#[.int .i64 0,.int .i64 0,.int .i64 0,.int .i64 0,.int .i64 0,.int .i64 0]:=rfl
 rw [e]
 have:i % 6<6:=Nat.mod_lt _ (by decide)
 rw [show (#[Value.int .i64 0,.int .i64 0,.int .i64 0,.int .i64 0,.int .i64 0,.int .i64 0]).size=6 from rfl]
 rcases (by omega:i % 6=0∨i % 6=1∨i % 6=2∨i % 6=3∨i % 6=4∨i % 6=5) with e | e | e | e | e | e<;>rw [e]<;>rfl
theorem clear_run (g s n c:Nat) (W:World) {cs:Array Value} (h:lies.Lies W g 27 cs) (hs:s+n*6≤cs.size) (hn:0<n):
  ∃ W',(∀ ty,(Builtin.clear_ #[29] ty #[.slice (some ⟨g,s,none⟩) n c]).run Tryz.prog W=.ok (.tuple #[]) W')∧(∀ B A,B≤g→Below B A W→Below B A W')∧∃ ds,lies.Lies W' g 27 ds∧ds.size=cs.size∧∀ i,i<s→ds[i]?=cs[i]?:=by
 have hst:=run_storeCells_cells (P:=Tryz.prog) g s _ 0 W (fun j hj=>by
  rw [zero_cells n] at hj
  rw [Nat.add_zero,lies.cell h,Array.getElem?_eq_getElem (by omega)]
  rfl) (fun j hj=>lies.free h _) (zero_one n)
 rw [Nat.add_zero] at hst
 obtain ⟨vs,hvs⟩:∃ vs,(Builtin.zeroCells (Value.agg #[.int .i64 0,.int .i64 0,.int .i64 0,.int .i64 0,.int .i64 0,.int .i64 0]).cells n).toList=vs:=⟨_,rfl⟩
 rw [hvs] at hst
 refine ⟨W.setCells g s vs,fun ty=>?_,fun B A hB k=>below_puts hB vs s k,lies_puts vs s W cs h⟩
 obtain ⟨m,rfl⟩:∃ m,n=m+1:=⟨n - 1,by omega⟩
 simp only [Builtin.clear_,Sem.run_bind,run_underlying Tryz.underlying29,Tryz.zeroValue27,Result.andThen_ok]
 simp [run_underlying Tryz.underlying29,Tryz.zeroValue27,hvs,hst]
def At6 (W:World) (g i:Nat) (z:List Int):Prop:=W.cell? ⟨g,i,none⟩=some (.int .i64 (z[0]?.getD 0))∧W.cell? ⟨g,i+1,none⟩=some (.int .i64 (z[1]?.getD 0))∧W.cell? ⟨g,i+2,none⟩=some (.int .i64 (z[2]?.getD 0))∧W.cell? ⟨g,i+3,none⟩=some (.int .i64 (z[3]?.getD 0))∧W.cell? ⟨g,i+4,none⟩=some (.int .i64 (z[4]?.getD 0))∧W.cell? ⟨g,i+5,none⟩=some (.int .i64 (z[5]?.getD 0))
theorem At6.below {W X:World} {g i:Nat} {z:List Int} (h:At6 W g i z) (k:Below W.heap.size W X) (hg:g<W.heap.size):At6 X g i z:=
 ⟨(k.cell (p:=⟨g,i,none⟩) hg).trans h.1,(k.cell (p:=⟨g,i+1,none⟩) hg).trans h.2.1,(k.cell (p:=⟨g,i+2,none⟩) hg).trans h.2.2.1,(k.cell (p:=⟨g,i+3,none⟩) hg).trans h.2.2.2.1,(k.cell (p:=⟨g,i+4,none⟩) hg).trans h.2.2.2.2.1,(k.cell (p:=⟨g,i+5,none⟩) hg).trans h.2.2.2.2.2⟩
theorem at6_of {W:World} {g:Nat} {t:TypeId} {cs:Array Value} {i:Nat} {z:List Int} (h:lies.Lies W g t cs) (k:∀ j,j<6→cs[i+j]?=some (.int .i64 (z[j]?.getD 0))):At6 W g i z:=
 ⟨(lies.cell h _).trans (k 0 (by decide)),(lies.cell h _).trans (k 1 (by decide)),(lies.cell h _).trans (k 2 (by decide)),(lies.cell h _).trans (k 3 (by decide)),(lies.cell h _).trans (k 4 (by decide)),(lies.cell h _).trans (k 5 (by decide))⟩
theorem cpt_few {zs:List (List Int)} (h:zs.length<2):cpt zs zs.length=zs:=by
 rw [cpt_all _ (Nat.le_refl _) (fun i hi=>absurd hi (by omega)),List.take_length]
theorem cpt_full {zs:List (List Int)} (h:∀ i,i+1<zs.length→zat zs (i+1)≠zat zs i):cpt zs zs.length=zs:=by
 rw [cpt_all _ (Nat.le_refl _) h,List.take_length]
set_option maxRecDepth 100000 in
set_option maxHeartbeats 16000000 in
theorem compact_zones (base g n cap:Nat) (zs:List (List Int)) (w:World) (hO:w.ownsRow base 27 6 (.slice (some ⟨g,0,none⟩) n cap) n (flatZ zs)) (h6:∀ z,z ∈ zs→z.length=6) (hm:n≤1000000):
  Calls Tryz.prog 82 #[.slice (some ⟨g,0,none⟩) n cap] w fun e w'=>Below base w w'∧e=.returned (.slice (some ⟨g,0,none⟩) (cpt zs zs.length).length cap)∧w'.ownsRow base 27 6 (.slice (some ⟨g,0,none⟩) (cpt zs zs.length).length cap) (cpt zs zs.length).length (flatZ (cpt zs zs.length)):=by
 have hn:zs.length=n:=by have:=hO.1;rw [flatZ_length] at this;omega
 obtain ⟨cs,hL,hb,hnc,hcm,hs,ht,-⟩:=own_get hO
 have hgl:=lies.lt hL
 have hcap:cap≤9223372036854775807:=by have:=hcm;unfold maxLen at this;omega
 have HO:=Lib.hid hO
 have HN:=Lib.hid hn
 have HT:=Lib.hid ht
 have HS:=Lib.hid hs
 have HL:=Lib.hid hL
 have HCM:=Lib.hid hcm
 have H6:=Lib.hid h6
 clear hO hn ht hs hL hcm h6
 go_enter Tryz.func82,Tryz.ntmps82
 by_cases h2:n<2
 ·have h2':(n:Int)<2:=by omega
  go_wp2_with fail
  go_ret
  refine ⟨Below.refl _ _,?_,?_⟩
  ·rw [cpt_few (by rw [HN.out];exact h2),HN.out];rfl
  ·rw [cpt_few (by rw [HN.out];exact h2),HN.out];exact HO.out
 have h2':¬ (n:Int)<2:=by omega
 go_wp2_with fail
 clear h2'
 go_loopw [3] (fun i wr=>∃ K:Nat,1≤K∧K≤n∧i=.int .i64 K∧Below w.heap.size w wr∧RowKit.Hid (∀ j,j+1<K→zat zs (j+1)≠zat zs j)) (fun i _=>n - (intOf i).toNat)
 case atStart=>exact ⟨1,Nat.le_refl _,by omega,rfl,Below.refl _ _,Lib.hid (fun j hj=>by omega)⟩
 case round=>
  obtain ⟨K,hK1,hK,rfl,hB,HM⟩:=hrel
  by_cases hKn:K<n
  ·obtain ⟨q,hq⟩:∃ q,K=q+1:=⟨K - 1,by omega⟩
   have hw1:IntKind.i64.wrap ((K:Int) - 1)=(q:Int):=by
    rw [show (K:Int) - 1=(q:Int) by omega]
    exact IntWalk.i64_in _ ⟨by omega,by omega⟩
   have hqn:(q:Int)<n:=by omega
   have hKn':(K:Int)<n:=by omega
   have HQ:=Lib.hid hq
   have HLr:=Lib.hid (lies.on_call HL.out hB)
   have hgr:g<wr.heap.size:=Nat.lt_of_lt_of_le hgl hB.size
   have hAK:At6 wr g (K*6) (zat zs K):=at6_of HLr.out fun j hj=>by rw [take_is HT.out (by have:=HN.out;omega),flatZ_at zs K j (by rw [HN.out];exact hKn) hj]
   have hAQ:At6 wr g (q*6) (zat zs q):=at6_of HLr.out fun j hj=>by rw [take_is HT.out (by have:=HN.out;omega),flatZ_at zs q j (by rw [HN.out];omega) hj]
   have hzK:=H6.out _ (zat_mem (show K<zs.length by rw [HN.out];exact hKn))
   have hzQ:=H6.out _ (zat_mem (show q<zs.length by rw [HN.out];omega))
   have HE:=Lib.hid (show ∀ a b,zat zs K=a→zat zs q=b→(a=b↔zat zs K=zat zs q) from fun a b h1 h2=>by rw [h1,h2])
   generalize hzk:zat zs K=zK at hAK hzK
   generalize hzq:zat zs q=zQ at hAQ hzQ
   have HE2:=Lib.hid (HE.out _ _ hzk hzq)
   clear hzk hzq HE
   obtain ⟨z0,z1,z2,z3,z4,z5,rfl⟩:=six hzK
   obtain ⟨y0,y1,y2,y3,y4,y5,rfl⟩:=six hzQ
   have HAK:=Lib.hid (show ∀ W,Below wr.heap.size wr W→At6 W g (K*6) [z0,z1,z2,z3,z4,z5] from fun W k=>hAK.below k hgr)
   have HAQ:=Lib.hid (show ∀ W,Below wr.heap.size wr W→At6 W g (q*6) [y0,y1,y2,y3,y4,y5] from fun W k=>hAQ.below k hgr)
   have hq1:=fun W=>eq_zone z0 z1 z2 z3 z4 z5 y0 y1 y2 y3 y4 y5 W
   clear hAK hAQ hzK hzQ hq
   have hk0:(0:Int)≤(K:Int):=by omega
   have hq0:(0:Int)≤(q:Int):=by omega
   by_cases hzy:[z0,z1,z2,z3,z4,z5]=[y0,y1,y2,y3,y4,y5]
   ·rw [decide_eq_true hzy] at hq1
    have HZY:=Lib.hid (HE2.out.1 hzy)
    clear hzy HE2
    have HQ1:=Lib.hid hq1
    clear hq1
    go_wp2_with fail
    refine wp_region_held_drew (S:=Below wr.heap.size wr) (by kernel_rfl) (dbm.drawn1 (Below.refl _ _)) (fun hHeld=>?_)
    generalize wr.drew=wD at hHeld ⊢
    refine tk 0 (v:=?_) rfl hHeld ?_ ?_
    rotate_left
    ·intro w hSw;obtain ⟨r0,r1,r2,r3,r4,r5⟩:=HAK.out _ hSw;obtain ⟨s0,s1,s2,s3,s4,s5⟩:=HAQ.out _ hSw;go_simp;try with_reducible rfl
    try simp only [Act.put,sA,sB,sC,sD,sE,sF]
    refine tk 1 (v:=?_) rfl hHeld ?_ ?_
    rotate_left
    ·intro w hSw;obtain ⟨r0,r1,r2,r3,r4,r5⟩:=HAK.out _ hSw;obtain ⟨s0,s1,s2,s3,s4,s5⟩:=HAQ.out _ hSw;go_simp;try with_reducible rfl
    try simp only [Act.put,sA,sB,sC,sD,sE,sF]
    refine tk 2 (v:=?_) rfl hHeld ?_ ?_
    rotate_left
    ·intro w hSw;obtain ⟨r0,r1,r2,r3,r4,r5⟩:=HAK.out _ hSw;obtain ⟨s0,s1,s2,s3,s4,s5⟩:=HAQ.out _ hSw;go_simp;try with_reducible rfl
    try simp only [Act.put,sA,sB,sC,sD,sE,sF]
    refine tk 3 (v:=?_) rfl hHeld ?_ ?_
    rotate_left
    ·intro w hSw;obtain ⟨r0,r1,r2,r3,r4,r5⟩:=HAK.out _ hSw;obtain ⟨s0,s1,s2,s3,s4,s5⟩:=HAQ.out _ hSw;go_simp;try with_reducible rfl
    try simp only [Act.put,sA,sB,sC,sD,sE,sF]
    refine tk 4 (v:=?_) rfl hHeld ?_ ?_
    rotate_left
    ·intro w hSw;obtain ⟨r0,r1,r2,r3,r4,r5⟩:=HAK.out _ hSw;obtain ⟨s0,s1,s2,s3,s4,s5⟩:=HAQ.out _ hSw;go_simp;try with_reducible rfl
    try simp only [Act.put,sA,sB,sC,sD,sE,sF]
    refine tk 5 (v:=?_) rfl hHeld ?_ ?_
    rotate_left
    ·intro w hSw;obtain ⟨r0,r1,r2,r3,r4,r5⟩:=HAK.out _ hSw;obtain ⟨s0,s1,s2,s3,s4,s5⟩:=HAQ.out _ hSw;go_simp;try with_reducible rfl
    try simp only [Act.put,sA,sB,sC,sD,sE,sF]
    refine tk 6 (v:=?_) rfl hHeld ?_ ?_
    rotate_left
    ·intro w hSw;obtain ⟨r0,r1,r2,r3,r4,r5⟩:=HAK.out _ hSw;obtain ⟨s0,s1,s2,s3,s4,s5⟩:=HAQ.out _ hSw;go_simp;try with_reducible rfl
    try simp only [Act.put,sA,sB,sC,sD,sE,sF]
    refine tk 7 (v:=?_) rfl hHeld ?_ ?_
    rotate_left
    ·intro w hSw;obtain ⟨r0,r1,r2,r3,r4,r5⟩:=HAK.out _ hSw;obtain ⟨s0,s1,s2,s3,s4,s5⟩:=HAQ.out _ hSw;go_simp;try with_reducible rfl
    try simp only [Act.put,sA,sB,sC,sD,sE,sF]
    refine tk 8 (v:=?_) rfl hHeld ?_ ?_
    rotate_left
    ·intro w hSw;obtain ⟨r0,r1,r2,r3,r4,r5⟩:=HAK.out _ hSw;obtain ⟨s0,s1,s2,s3,s4,s5⟩:=HAQ.out _ hSw;go_simp;try with_reducible rfl
    try simp only [Act.put,sA,sB,sC,sD,sE,sF]
    refine tk 9 (v:=?_) rfl hHeld ?_ ?_
    rotate_left
    ·intro w hSw;have hq1:=HQ1.out;go_simp;try with_reducible rfl
    try simp only [Act.put,sA,sB,sC,sD,sE,sF]
    refine wpAnyH_done (by kernel_rfl) ?_ _
    have hB1:=later hB hHeld
    have HLd:=Lib.hid (lies.on_call HLr.out hHeld)
    clear hB hHeld HAK HAQ HLr HQ1 hw1 hqn hq0 hgr
    go_wp2_with fail
    have HN2:=Lib.hid (show ∃ x,x=n - K from ⟨_,rfl⟩)
    obtain ⟨N2,hN2⟩:=HN2.out
    obtain ⟨C2,hC2⟩:∃ x,x=cap - K:=⟨_,rfl⟩
    obtain ⟨KO,hKO⟩:∃ x,x=K*6:=⟨_,rfl⟩
    have hn2:N2+K=n:=by omega
    have hc0:Cmpd zs cap (K+1) K cs:=Cmpd.start HS.out (by rw [HN.out];exact HT.out) (by rw [HN.out];exact hKn) (by omega) HM.out (by rw [HZY.out,HQ.out];rfl)
    have HC0:=Lib.hid hc0
    rw [←hN2,←hC2,←hKO]
    have HKO:=Lib.hid hKO
    clear hN2 hC2 hKO hc0 HN2 HZY HQ HM
    go_loopw [5,3] (fun iv kv wq=>∃ (J M:Nat) (ds:Array Value),1≤J∧J≤N2∧iv=.int .i64 J∧kv=.int .i64 M∧M+1≤K+J∧Below base w wq∧lies.Lies wq g 27 ds∧RowKit.Hid (Cmpd zs cap (K+J) M ds)) (fun iv _ _=>N2 - (intOf iv).toNat)
    case atStart=>exact ⟨1,K,cs,Nat.le_refl _,by omega,rfl,rfl,Nat.le_refl _,hB1.mono (Nat.le_trans hb (Nat.le_of_lt hgl)),HLd.out,HC0⟩
    case round=>
     clear HC0 hB1 HLd
     obtain ⟨J,M,ds,hJ1,hJ,rfl,rfl,hMJ,hB,hL,HC⟩:=hrel
     by_cases hJn:J<N2
     ·obtain ⟨q,hq⟩:∃ q,J=q+1:=⟨J - 1,by omega⟩
      have hw1:IntKind.i64.wrap ((J:Int) - 1)=(q:Int):=by
       rw [show (J:Int) - 1=(q:Int) by omega]
       exact IntWalk.i64_in _ ⟨by omega,by omega⟩
      have hqn:(q:Int)<N2:=by omega
      have hJn':(J:Int)<N2:=by omega
      have hJ0:(0:Int)≤(J:Int):=by omega
      have hq0:(0:Int)≤(q:Int):=by omega
      have HQ:=Lib.hid hq
      have hgr:g<wr.heap.size:=lies.lt hL
      have hzl:=HN.out
      have hko:=HKO.out
      have hAK:At6 wr g (KO+J*6) (zat zs (K+J)):=at6_of hL fun j hj=>by
       have:=HC.out.cell (q:=K+J) (by omega) (by omega) hj
       rwa [show (K+J)*6=KO+J*6 by omega] at this
      have hAQ:At6 wr g (KO+q*6) (zat zs (K+q)):=at6_of hL fun j hj=>by
       have:=HC.out.cell (q:=K+q) (by omega) (by omega) hj
       rwa [show (K+q)*6=KO+q*6 by omega] at this
      have hzK:=H6.out _ (zat_mem (show K+J<zs.length by omega))
      have hzQ:=H6.out _ (zat_mem (show K+q<zs.length by omega))
      have HE:=Lib.hid (show ∀ a b,zat zs (K+J)=a→zat zs (K+q)=b→(a=b↔zat zs (K+J)=zat zs (K+q)) from fun a b h1 h2=>by rw [h1,h2])
      generalize hzk:zat zs (K+J)=zK at hAK hzK
      generalize hzq:zat zs (K+q)=zQ at hAQ hzQ
      have HE2:=Lib.hid (HE.out _ _ hzk hzq)
      have HZK:=Lib.hid hzk
      clear hzk hzq HE hzl hko
      obtain ⟨z0,z1,z2,z3,z4,z5,rfl⟩:=six hzK
      obtain ⟨y0,y1,y2,y3,y4,y5,rfl⟩:=six hzQ
      have HAK:=Lib.hid (show ∀ W,Below wr.heap.size wr W→At6 W g (KO+J*6) [z0,z1,z2,z3,z4,z5] from fun W k=>hAK.below k hgr)
      have HAQ:=Lib.hid (show ∀ W,Below wr.heap.size wr W→At6 W g (KO+q*6) [y0,y1,y2,y3,y4,y5] from fun W k=>hAQ.below k hgr)
      have hq1:=fun W=>eq_zone z0 z1 z2 z3 z4 z5 y0 y1 y2 y3 y4 y5 W
      clear hAK hAQ hzK hzQ hq
      by_cases hzy:[z0,z1,z2,z3,z4,z5]=[y0,y1,y2,y3,y4,y5]
      ·rw [decide_eq_true hzy] at hq1
       have HZY:=Lib.hid (HE2.out.1 hzy)
       clear hzy HE2
       have HQ1:=Lib.hid hq1
       clear hq1
       go_wp2_with fail
       refine wp_region_held_drew (S:=Below wr.heap.size wr) (by kernel_rfl) (dbm.drawn1 (Below.refl _ _)) (fun hHeld=>?_)
       generalize wr.drew=wE at hHeld ⊢
       refine tk 0 (v:=?_) rfl hHeld ?_ ?_
       rotate_left
       ·intro w hSw;obtain ⟨r0,r1,r2,r3,r4,r5⟩:=HAK.out _ hSw;obtain ⟨s0,s1,s2,s3,s4,s5⟩:=HAQ.out _ hSw;go_simp;try with_reducible rfl
       try simp only [Act.put,sA,sB,sC,sD,sE,sF]
       refine tk 1 (v:=?_) rfl hHeld ?_ ?_
       rotate_left
       ·intro w hSw;obtain ⟨r0,r1,r2,r3,r4,r5⟩:=HAK.out _ hSw;obtain ⟨s0,s1,s2,s3,s4,s5⟩:=HAQ.out _ hSw;go_simp;try with_reducible rfl
       try simp only [Act.put,sA,sB,sC,sD,sE,sF]
       refine tk 2 (v:=?_) rfl hHeld ?_ ?_
       rotate_left
       ·intro w hSw;obtain ⟨r0,r1,r2,r3,r4,r5⟩:=HAK.out _ hSw;obtain ⟨s0,s1,s2,s3,s4,s5⟩:=HAQ.out _ hSw;go_simp;try with_reducible rfl
       try simp only [Act.put,sA,sB,sC,sD,sE,sF]
       refine tk 3 (v:=?_) rfl hHeld ?_ ?_
       rotate_left
       ·intro w hSw;obtain ⟨r0,r1,r2,r3,r4,r5⟩:=HAK.out _ hSw;obtain ⟨s0,s1,s2,s3,s4,s5⟩:=HAQ.out _ hSw;go_simp;try with_reducible rfl
       try simp only [Act.put,sA,sB,sC,sD,sE,sF]
       refine tk 4 (v:=?_) rfl hHeld ?_ ?_
       rotate_left
       ·intro w hSw;obtain ⟨r0,r1,r2,r3,r4,r5⟩:=HAK.out _ hSw;obtain ⟨s0,s1,s2,s3,s4,s5⟩:=HAQ.out _ hSw;go_simp;try with_reducible rfl
       try simp only [Act.put,sA,sB,sC,sD,sE,sF]
       refine tk 5 (v:=?_) rfl hHeld ?_ ?_
       rotate_left
       ·intro w hSw;obtain ⟨r0,r1,r2,r3,r4,r5⟩:=HAK.out _ hSw;obtain ⟨s0,s1,s2,s3,s4,s5⟩:=HAQ.out _ hSw;go_simp;try with_reducible rfl
       try simp only [Act.put,sA,sB,sC,sD,sE,sF]
       refine tk 6 (v:=?_) rfl hHeld ?_ ?_
       rotate_left
       ·intro w hSw;obtain ⟨r0,r1,r2,r3,r4,r5⟩:=HAK.out _ hSw;obtain ⟨s0,s1,s2,s3,s4,s5⟩:=HAQ.out _ hSw;go_simp;try with_reducible rfl
       try simp only [Act.put,sA,sB,sC,sD,sE,sF]
       refine tk 7 (v:=?_) rfl hHeld ?_ ?_
       rotate_left
       ·intro w hSw;obtain ⟨r0,r1,r2,r3,r4,r5⟩:=HAK.out _ hSw;obtain ⟨s0,s1,s2,s3,s4,s5⟩:=HAQ.out _ hSw;go_simp;try with_reducible rfl
       try simp only [Act.put,sA,sB,sC,sD,sE,sF]
       refine tk 8 (v:=?_) rfl hHeld ?_ ?_
       rotate_left
       ·intro w hSw;obtain ⟨r0,r1,r2,r3,r4,r5⟩:=HAK.out _ hSw;obtain ⟨s0,s1,s2,s3,s4,s5⟩:=HAQ.out _ hSw;go_simp;try with_reducible rfl
       try simp only [Act.put,sA,sB,sC,sD,sE,sF]
       refine tk 9 (v:=?_) rfl hHeld ?_ ?_
       rotate_left
       ·intro w hSw;have hq1:=HQ1.out;go_simp;try with_reducible rfl
       try simp only [Act.put,sA,sB,sC,sD,sE,sF]
       refine wpAnyH_done (by kernel_rfl) ?_ _
       replace hB:=hB.trans (hHeld.mono (Nat.le_trans hb (Nat.le_of_lt hgr)))
       replace hL:=lies.on_call hL hHeld
       clear hHeld HAK HAQ HQ1 hw1 hqn hq0 hgr
       go_wp2_with fail
       go_roundw
       case rel=>exact ⟨J+1,M,ds,by omega,by omega,by go_num,rfl,by omega,hB,hL,Lib.hid (by
        have:=HC.out.skip (by rw [HQ.out];exact kee_no (j:=K+q) (by rw [←HZY.out,HQ.out];rfl))
        rwa [Nat.add_assoc] at this)⟩
       case measure=>simp [intOf];omega
      ·rw [decide_eq_false hzy] at hq1
       have HZY:=Lib.hid (fun e=>hzy (HE2.out.2 e))
       clear hzy HE2
       have HQ1:=Lib.hid hq1
       clear hq1
       go_wp2_with fail
       refine wp_region_held_drew (S:=Below wr.heap.size wr) (by kernel_rfl) (dbm.drawn1 (Below.refl _ _)) (fun hHeld=>?_)
       generalize wr.drew=wE at hHeld ⊢
       refine tk 0 (v:=?_) rfl hHeld ?_ ?_
       rotate_left
       ·intro w hSw;obtain ⟨r0,r1,r2,r3,r4,r5⟩:=HAK.out _ hSw;obtain ⟨s0,s1,s2,s3,s4,s5⟩:=HAQ.out _ hSw;go_simp;try with_reducible rfl
       try simp only [Act.put,sA,sB,sC,sD,sE,sF]
       refine tk 1 (v:=?_) rfl hHeld ?_ ?_
       rotate_left
       ·intro w hSw;obtain ⟨r0,r1,r2,r3,r4,r5⟩:=HAK.out _ hSw;obtain ⟨s0,s1,s2,s3,s4,s5⟩:=HAQ.out _ hSw;go_simp;try with_reducible rfl
       try simp only [Act.put,sA,sB,sC,sD,sE,sF]
       refine tk 2 (v:=?_) rfl hHeld ?_ ?_
       rotate_left
       ·intro w hSw;obtain ⟨r0,r1,r2,r3,r4,r5⟩:=HAK.out _ hSw;obtain ⟨s0,s1,s2,s3,s4,s5⟩:=HAQ.out _ hSw;go_simp;try with_reducible rfl
       try simp only [Act.put,sA,sB,sC,sD,sE,sF]
       refine tk 3 (v:=?_) rfl hHeld ?_ ?_
       rotate_left
       ·intro w hSw;obtain ⟨r0,r1,r2,r3,r4,r5⟩:=HAK.out _ hSw;obtain ⟨s0,s1,s2,s3,s4,s5⟩:=HAQ.out _ hSw;go_simp;try with_reducible rfl
       try simp only [Act.put,sA,sB,sC,sD,sE,sF]
       refine tk 4 (v:=?_) rfl hHeld ?_ ?_
       rotate_left
       ·intro w hSw;obtain ⟨r0,r1,r2,r3,r4,r5⟩:=HAK.out _ hSw;obtain ⟨s0,s1,s2,s3,s4,s5⟩:=HAQ.out _ hSw;go_simp;try with_reducible rfl
       try simp only [Act.put,sA,sB,sC,sD,sE,sF]
       refine tk 5 (v:=?_) rfl hHeld ?_ ?_
       rotate_left
       ·intro w hSw;obtain ⟨r0,r1,r2,r3,r4,r5⟩:=HAK.out _ hSw;obtain ⟨s0,s1,s2,s3,s4,s5⟩:=HAQ.out _ hSw;go_simp;try with_reducible rfl
       try simp only [Act.put,sA,sB,sC,sD,sE,sF]
       refine tk 6 (v:=?_) rfl hHeld ?_ ?_
       rotate_left
       ·intro w hSw;obtain ⟨r0,r1,r2,r3,r4,r5⟩:=HAK.out _ hSw;obtain ⟨s0,s1,s2,s3,s4,s5⟩:=HAQ.out _ hSw;go_simp;try with_reducible rfl
       try simp only [Act.put,sA,sB,sC,sD,sE,sF]
       refine tk 7 (v:=?_) rfl hHeld ?_ ?_
       rotate_left
       ·intro w hSw;obtain ⟨r0,r1,r2,r3,r4,r5⟩:=HAK.out _ hSw;obtain ⟨s0,s1,s2,s3,s4,s5⟩:=HAQ.out _ hSw;go_simp;try with_reducible rfl
       try simp only [Act.put,sA,sB,sC,sD,sE,sF]
       refine tk 8 (v:=?_) rfl hHeld ?_ ?_
       rotate_left
       ·intro w hSw;obtain ⟨r0,r1,r2,r3,r4,r5⟩:=HAK.out _ hSw;obtain ⟨s0,s1,s2,s3,s4,s5⟩:=HAQ.out _ hSw;go_simp;try with_reducible rfl
       try simp only [Act.put,sA,sB,sC,sD,sE,sF]
       refine tk 9 (v:=?_) rfl hHeld ?_ ?_
       rotate_left
       ·intro w hSw;have hq1:=HQ1.out;go_simp;try with_reducible rfl
       try simp only [Act.put,sA,sB,sC,sD,sE,sF]
       refine wpAnyH_done (by kernel_rfl) ?_ _
       replace hB:=hB.trans (hHeld.mono (Nat.le_trans hb (Nat.le_of_lt hgr)))
       replace hL:=lies.on_call hL hHeld
       obtain ⟨r0,r1,r2,r3,r4,r5⟩:=HAK.out _ hHeld
       have hge:g<wE.heap.size:=lies.lt hL
       clear hHeld HAK HAQ HQ1 hw1 hqn hq0 hgr
       have hMs:M*6+6≤ds.size:=by have:=HC.out.1;omega
       obtain ⟨u0,h0⟩:∃ u,ds[M*6]?=some u:=⟨ds[M*6]'(by omega),Array.getElem?_eq_getElem _⟩
       obtain ⟨u1,h1⟩:∃ u,ds[M*6+1]?=some u:=⟨ds[M*6+1]'(by omega),Array.getElem?_eq_getElem _⟩
       obtain ⟨u2,h2⟩:∃ u,ds[M*6+2]?=some u:=⟨ds[M*6+2]'(by omega),Array.getElem?_eq_getElem _⟩
       obtain ⟨u3,h3⟩:∃ u,ds[M*6+3]?=some u:=⟨ds[M*6+3]'(by omega),Array.getElem?_eq_getElem _⟩
       obtain ⟨u4,h4⟩:∃ u,ds[M*6+4]?=some u:=⟨ds[M*6+4]'(by omega),Array.getElem?_eq_getElem _⟩
       obtain ⟨u5,h5⟩:∃ u,ds[M*6+5]?=some u:=⟨ds[M*6+5]'(by omega),Array.getElem?_eq_getElem _⟩
       have c0:wE.cell? ⟨g,M*6,none⟩=some u0:=(lies.cell hL _).trans h0
       have f0:wE.frozen? ⟨g,M*6,none⟩=false:=lies.free hL _
       have c1:wE.cell? ⟨g,M*6+1,none⟩=some u1:=(lies.cell hL _).trans h1
       have f1:wE.frozen? ⟨g,M*6+1,none⟩=false:=lies.free hL _
       have c2:wE.cell? ⟨g,M*6+2,none⟩=some u2:=(lies.cell hL _).trans h2
       have f2:wE.frozen? ⟨g,M*6+2,none⟩=false:=lies.free hL _
       have c3:wE.cell? ⟨g,M*6+3,none⟩=some u3:=(lies.cell hL _).trans h3
       have f3:wE.frozen? ⟨g,M*6+3,none⟩=false:=lies.free hL _
       have c4:wE.cell? ⟨g,M*6+4,none⟩=some u4:=(lies.cell hL _).trans h4
       have f4:wE.frozen? ⟨g,M*6+4,none⟩=false:=lies.free hL _
       have c5:wE.cell? ⟨g,M*6+5,none⟩=some u5:=(lies.cell hL _).trans h5
       have f5:wE.frozen? ⟨g,M*6+5,none⟩=false:=lies.free hL _
       have hMn:(M:Int)<n:=by omega
       go_wp2_with fail
       clear r0 r1 r2 r3 r4 r5 c0 c1 c2 c3 c4 c5 f0 f1 f2 f3 f4 f5 h0 h1 h2 h3 h4 h5 hge
       go_roundw
       case rel=>
        obtain ⟨es,hes,hz1,hz2,hz3⟩:=put6_lies hL hMs (.int .i64 z0) (.int .i64 z1) (.int .i64 z2) (.int .i64 z3) (.int .i64 z4) (.int .i64 z5)
        refine ⟨J+1,M+1,es,by omega,by omega,by go_num,by go_num,by omega,put6_below hB hb (.int .i64 z0) (.int .i64 z1) (.int .i64 z2) (.int .i64 z3) (.int .i64 z4) (.int .i64 z5),hes,Lib.hid ?_⟩
        have hk:kee zs (K+J)=true:=by rw [HQ.out];exact kee_yes (j:=K+q) (fun e=>HZY.out (by rw [HQ.out];exact e))
        have:=HC.out.keep hk (by omega) hz1 (fun j hj=>by
         rw [hz2 j hj,HZK.out]
         rcases (by omega:j=0∨j=1∨j=2∨j=3∨j=4∨j=5) with rfl | rfl | rfl | rfl | rfl | rfl<;>rfl) hz3
        rwa [Nat.add_assoc] at this
       case measure=>simp [intOf];omega
     ·have hJe:J=N2:=by omega
      have hJn':¬ (J:Int)<N2:=by omega
      have hMn:(M:Int)≤n:=by omega
      have hM0:(0:Int)≤(M:Int):=by omega
      have hcz:=HC.out.1
      obtain ⟨W',hrun,hbw,es,hes,hz1,hz2⟩:=clear_run g (M*6) (n - M) (cap - M) wr hL (by omega) (by omega)
      have HE:=Lib.hid hz2
      have HE1:=Lib.hid hz1
      clear hz1 hz2 hcz
      go_wp2_with fail
      go_ret
      have hKJ:K+J=zs.length:=by have:=HN.out;omega
      have hc:=HC.out
      rw [hKJ] at hc
      have hM:=hc.2.1
      refine ⟨hbw _ _ hb hB,by rw [←hM];rfl,?_⟩
      rw [←hM]
      refine own_of hes hb (by omega) HCM.out (by rw [HE1.out];exact hc.1) (take_of (by rw [flatZ_length,←hM]) fun i hi=>?_)
      rw [HE.out i hi]
      exact hc.2.2.1 i hi
   ·rw [decide_eq_false hzy] at hq1
    have HZY:=Lib.hid (fun e=>hzy (HE2.out.2 e))
    clear hzy HE2
    have HQ1:=Lib.hid hq1
    clear hq1
    go_wp2_with fail
    refine wp_region_held_drew (S:=Below wr.heap.size wr) (by kernel_rfl) (dbm.drawn1 (Below.refl _ _)) (fun hHeld=>?_)
    generalize wr.drew=wD at hHeld ⊢
    refine tk 0 (v:=?_) rfl hHeld ?_ ?_
    rotate_left
    ·intro w hSw;obtain ⟨r0,r1,r2,r3,r4,r5⟩:=HAK.out _ hSw;obtain ⟨s0,s1,s2,s3,s4,s5⟩:=HAQ.out _ hSw;go_simp;try with_reducible rfl
    try simp only [Act.put,sA,sB,sC,sD,sE,sF]
    refine tk 1 (v:=?_) rfl hHeld ?_ ?_
    rotate_left
    ·intro w hSw;obtain ⟨r0,r1,r2,r3,r4,r5⟩:=HAK.out _ hSw;obtain ⟨s0,s1,s2,s3,s4,s5⟩:=HAQ.out _ hSw;go_simp;try with_reducible rfl
    try simp only [Act.put,sA,sB,sC,sD,sE,sF]
    refine tk 2 (v:=?_) rfl hHeld ?_ ?_
    rotate_left
    ·intro w hSw;obtain ⟨r0,r1,r2,r3,r4,r5⟩:=HAK.out _ hSw;obtain ⟨s0,s1,s2,s3,s4,s5⟩:=HAQ.out _ hSw;go_simp;try with_reducible rfl
    try simp only [Act.put,sA,sB,sC,sD,sE,sF]
    refine tk 3 (v:=?_) rfl hHeld ?_ ?_
    rotate_left
    ·intro w hSw;obtain ⟨r0,r1,r2,r3,r4,r5⟩:=HAK.out _ hSw;obtain ⟨s0,s1,s2,s3,s4,s5⟩:=HAQ.out _ hSw;go_simp;try with_reducible rfl
    try simp only [Act.put,sA,sB,sC,sD,sE,sF]
    refine tk 4 (v:=?_) rfl hHeld ?_ ?_
    rotate_left
    ·intro w hSw;obtain ⟨r0,r1,r2,r3,r4,r5⟩:=HAK.out _ hSw;obtain ⟨s0,s1,s2,s3,s4,s5⟩:=HAQ.out _ hSw;go_simp;try with_reducible rfl
    try simp only [Act.put,sA,sB,sC,sD,sE,sF]
    refine tk 5 (v:=?_) rfl hHeld ?_ ?_
    rotate_left
    ·intro w hSw;obtain ⟨r0,r1,r2,r3,r4,r5⟩:=HAK.out _ hSw;obtain ⟨s0,s1,s2,s3,s4,s5⟩:=HAQ.out _ hSw;go_simp;try with_reducible rfl
    try simp only [Act.put,sA,sB,sC,sD,sE,sF]
    refine tk 6 (v:=?_) rfl hHeld ?_ ?_
    rotate_left
    ·intro w hSw;obtain ⟨r0,r1,r2,r3,r4,r5⟩:=HAK.out _ hSw;obtain ⟨s0,s1,s2,s3,s4,s5⟩:=HAQ.out _ hSw;go_simp;try with_reducible rfl
    try simp only [Act.put,sA,sB,sC,sD,sE,sF]
    refine tk 7 (v:=?_) rfl hHeld ?_ ?_
    rotate_left
    ·intro w hSw;obtain ⟨r0,r1,r2,r3,r4,r5⟩:=HAK.out _ hSw;obtain ⟨s0,s1,s2,s3,s4,s5⟩:=HAQ.out _ hSw;go_simp;try with_reducible rfl
    try simp only [Act.put,sA,sB,sC,sD,sE,sF]
    refine tk 8 (v:=?_) rfl hHeld ?_ ?_
    rotate_left
    ·intro w hSw;obtain ⟨r0,r1,r2,r3,r4,r5⟩:=HAK.out _ hSw;obtain ⟨s0,s1,s2,s3,s4,s5⟩:=HAQ.out _ hSw;go_simp;try with_reducible rfl
    try simp only [Act.put,sA,sB,sC,sD,sE,sF]
    refine tk 9 (v:=?_) rfl hHeld ?_ ?_
    rotate_left
    ·intro w hSw;have hq1:=HQ1.out;go_simp;try with_reducible rfl
    try simp only [Act.put,sA,sB,sC,sD,sE,sF]
    refine wpAnyH_done (by kernel_rfl) ?_ _
    have hB1:=later hB hHeld
    clear hB hHeld HAK HAQ HLr HQ1 hw1 hqn hq0 hgr
    go_wp2_with fail
    go_roundw
    case rel=>exact ⟨K+1,by omega,by omega,by go_num,hB1,Lib.hid (fun j hj=>by
     by_cases e:j+1=K
     ·have hjq:j=q:=by have:=HQ.out;omega
      rw [e,hjq];exact HZY.out
     ·exact HM.out j (by omega))⟩
    case measure=>simp [intOf];omega
  ·have hKe:K=n:=by omega
   have hKn':¬ (K:Int)<n:=by omega
   go_wp2_with fail
   go_ret
   have e:=cpt_full (zs:=zs) (fun i hi=>HM.out i (by have:=HN.out;omega))
   refine ⟨hB.mono (Nat.le_trans hb (Nat.le_of_lt hgl)),?_,?_⟩
   ·rw [e,HN.out];rfl
   ·rw [e,HN.out];exact incl.own_call HO.out hB
end Go.Proofs.YthmljpccbjolgaaGreatDoor.cover
