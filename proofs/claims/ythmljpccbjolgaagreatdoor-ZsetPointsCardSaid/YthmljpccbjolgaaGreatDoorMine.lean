
/-
  A range over a function whose iterator keeps state of its own in cells (a variable that it stores into between two yields): what the caller's invariant speaks of is told by 'Mine' (blocks that the body makes meanwhile: a row that grows); whatever else lies from the loop's start on the iterator may turn. My own law, beside the kit's (which let an iterator make blocks and turn walks alone).
-/
import Derived.RangeFuncNested
import Derived.RangeFuncBox
import Derived.RangeFuncCalls
import Derived.RangeFuncLeaves
namespace Go.Proofs.YthmljpccbjolgaaGreatDoor.mine
open Go.RowKit
set_option linter.unusedVariables false
def Abides (Mine:World→Nat→Prop) {β:Type} (B:Nat) (J:β→World→Prop):Prop:=
 ∀ s X Y row,J s X→X.grownBy Y row→(∀ r,row=some r→B≤r∧¬ Mine X r)→J s Y
def Gives {α:Type} (F:Fence) (n:Nat) (P:Program) (g:Nat) (lb:Array Value) (encs:α→Array Value) (Mine:World→Nat→Prop) (Kp:World→World→Prop) (S Sp:List α→Prop) (N:Nat) (w:World):Prop:=
 ∀ (l:Nat) (J Jx:List α→World→Prop) (W:World),Below w.heap.size w W→Abides Mine W.heap.size J→Abides Mine W.heap.size Jx→
  (∀ pre x W1,J pre W1→pre.length<N→YieldAt F (n - 1) P l (encs x) W1 fun e W'=>
   (e=.returned (.bool true)∧J (pre++[x]) W'∧Kp W1 W')∨(e=.returned (.bool false)∧Jx (pre++[x]) W'))→
  J [] W→
  CallsIn F n P g (#[.func (.yield l) #[] #[]]++lb) W fun e W'=>(∃ v,e=.returned v)∧((∃ xs,S xs∧J xs W')∨(∃ pre,Sp pre∧Jx pre W'))
theorem rangeFunc {F:Fence} {n:Nat} {P:Program} {α:Type} {g:Operand} {ps:Array Tmp} {assign body:Code} {Q:Exit→Act→World→Prop} {a:Act} {w:World} (Mine:World→Nat→Prop)
  (hro:F.round=none) (h1:1≤n) {gf:Nat} {lb:Array Value} (hg:a.eval g=.func (.func gf) #[] lb) (hFg:F.fn gf) (eg:∀ args w,(callFunc gf args).run P w=.ok (.enter gf args) w)
  {encs:α→Array Value} {Kp:World→World→Prop} {S Sp:List α→Prop} {N:Nat} {w0:World} (hseq:Gives F (n - 1) P gf lb encs Mine Kp S Sp N w0)
  (hKt:∀ {A B C:World},Kp A B→Kp B C→Kp A C) (hKb:∀ (W:World) (l:Nat) (o o':Obj),w.heap.size≤l→W.heap[l]?=some o→o.isCells=false→o.isWalk=false→Kp W (W.putObj l o')) (hb0:Below w0.heap.size w0 w) (hps:∀ x,(encs x).size=ps.size)
  (I:List α→World→Prop) (Ix:Code→List α→World→Prop) (hI:OwnFrom w.heap.size I) (hIx:∀ c,OwnFrom w.heap.size (Ix c)) (mI:Abides Mine w.heap.size I) (mIx:∀ c,Abides Mine w.heap.size (Ix c)) (h0:I [] w)
  (Ax:α→Act→World→Prop) (hAx:∀ x a',OwnFrom w.heap.size (fun (_:Unit) W=>Ax x a' W))
  (hassign:∀ (l:Nat) (pre:List α) (x:α) (W:World) (K:Act→World→Prop),I pre W→(∀ a' W',KeepsFrom w.heap.size W W'→Kp W W'→I pre W'→Ax x a' W'→K a' W')→
   assign.wpIn (F.inRound l) (n - 1 - 1) P (Exit.then K (fun _ _ _=>False)) {tmps:=(ps.zip (encs x)).foldl (fun t (p,v)=>t.setIfInBounds p v) a.tmps,defers:=[]} W)
  (hbody:∀ (l:Nat) (pre:List α) (x:α) (a':Act) (W:World),I pre W→Ax x a' W→pre.length<N→body.wpIn (F.inRound l) (n - 1 - 1) P (ownPostG w.heap.size Kp I Ix (pre++[x]) W) a' W)
  (hdone:∀ (D:Nat) (xs:List α) (W:World),w.heap.size≤D→S xs→I xs W→W.heap[D]?=some (.deferred (some []))→Q .normal {a with defers:={target:=.collected D,args:=#[]}::a.defers} W)
  (hstop:∀ (D:Nat) (c:Code) (pre:List α) (W:World),w.heap.size≤D→Sp pre→Ix c pre W→W.heap[D]?=some (.deferred (some []))→c.wpIn F n P Q {a with defers:={target:=.collected D,args:=#[]}::a.defers} W):
  (Code.rangeFunc g ps assign body).wpIn F n P Q a w:=by
 refine wpIn_rangeFunc fun fn hfn=>?_
 rw [hro]
 generalize hrec:(fun (st:LoopState) (pe:Option Code)=>({state:=st,pending:=pe,fn,tmps:=a.tmps,params:=ps,assign,body,defers:=w.heap.size}:Loop))=rec
 have er:∀ st pe,({state:=st,pending:=pe,fn,tmps:=a.tmps,params:=ps,assign,body,defers:=w.heap.size}:Loop)=rec st pe:=fun st pe=>by rw [←hrec]
 have hps':∀ x st pe,(encs x).size=(rec st pe).params.size:=fun x st pe=>by rw [←hrec];exact hps x
 generalize hW1:(w.alloc (.deferred (some []))).alloc (.loop (rec .ready none))=W1
 have s1:W1.heap.size=w.heap.size+1+1:=by rw [←hW1];simp
 have hL1:W1.heap[w.heap.size+1]?=some (.loop (rec .ready none)):=by
  have:=World.alloc_heap_new (w.alloc (.deferred (some []))) (.loop (rec .ready none))
  rwa [World.size_alloc,hW1] at this
 have hK1:W1.heap[w.heap.size]?=some (.deferred (some [])):=by
  rw [←hW1]
  exact (Below.heap_alloc _ _ _ (by simp)).trans (World.alloc_heap_new w _)
 have hI1:I [] W1:=by rw [←hW1];exact hI.alloc _ (hI.alloc _ h0)
 have hb1:Below w0.heap.size w0 W1:=by
  rw [←hW1]
  exact hb0.trans ((((Below.refl _ w).alloc (Nat.le_refl _) _).alloc (by simp) _).mono hb0.size)
 refine ⟨w.heap.size+1,[{target:=.collected w.heap.size,args:=#[]}],W1,{target:=.fn (.func gf) lb,args:=#[.func (.yield (w.heap.size+1)) #[] #[]]},W1,gf,
  #[.func (.yield (w.heap.size+1)) #[] #[]]++lb,W1,?_,?_,?_,?_,fun _=>h1,?_⟩
 ·rw [←hW1,←er]
  exact run_enterLoop_outer _ _ _ _ _
 ·simp only [resolve,hg]
  simp [go_sem]
 ·intro f' hf'
  simp [Target.leads] at hf'
  rw [←hf']
  exact hFg
 ·simp [invoke,go_sem,eg]
 -- what the iterator abides of the two records
 have keep:∀ {X Y:World} {row:Option Nat} {k:Nat} {o:Obj},X.grownBy Y row→(∀ r,row=some r→W1.heap.size≤r∧¬ Mine X r)→k<w.heap.size+1+1→X.heap[k]?=some o→Y.heap[k]?=some o:=fun hg' hr hk ho=>
  (hg'.block _ (Array.getElem?_eq_some_iff.1 ho).1 (fun e=>by have:=(hr _ e.symm).1;omega)).trans ho
 refine (hseq (w.heap.size+1)
  (fun pre W=>I pre W∧W.heap[w.heap.size+1]?=some (.loop (rec .ready none))∧W.heap[w.heap.size]?=some (.deferred (some [])))
  (fun pre W=>∃ c,Ix c pre W∧W.heap[w.heap.size+1]?=some (.loop (rec .done (some c)))∧W.heap[w.heap.size]?=some (.deferred (some [])))
  W1 hb1
  (fun s X Y row hs hg' hr=>⟨mI s X Y row hs.1 hg' (fun r e=>⟨by have:=(hr r e).1;omega,(hr r e).2⟩),keep hg' hr (by omega) hs.2.1,keep hg' hr (by omega) hs.2.2⟩)
  (fun s X Y row hs hg' hr=>by
   obtain ⟨c,hc,hl,hk⟩:=hs
   exact ⟨c,mIx c s X Y row hc hg' (fun r e=>⟨by have:=(hr r e).1;omega,(hr r e).2⟩),keep hg' hr (by omega) hl,keep hg' hr (by omega) hk⟩)
  ?_ ⟨hI1,hL1,hK1⟩).mono ?_
 · -- a round
  rintro pre x W ⟨hi,hl,hk⟩ hlen
  have hy:=run_yield (P:=P) (args:=encs x) hl (hps' x _ _)
  rw [←er] at hy
  refine ⟨fn,_,assign,body,hy,roundIn_of_wpIn hfn (hassign _ pre x W _ hi ?_)⟩
  intro a' X hfX hkX hiX hax
  have hlX:=hfX.same _ _ (by omega) hl rfl
  have hkdX:=hfX.same _ _ (Nat.le_refl _) hk rfl
  have hltX:w.heap.size+1<X.heap.size:=(Array.getElem?_eq_some_iff.1 hlX).1
  have hb:=run_beginRound (P:=P) hlX (by rw [←hrec])
  refine ⟨_,hb,?_⟩
  clear hb hy
  have hl2:=World.putObj_heap_same (w:=X) (o:=.loop {rec .ready none with state:=.busy}) hltX
  have hk2:(X.putObj (w.heap.size+1) (.loop {rec .ready none with state:=.busy})).heap[w.heap.size]?=some (.deferred (some [])):=(World.putObj_heap_other (by omega)).trans hkdX
  have hw2:=hKb X (w.heap.size+1) _ (.loop {rec .ready none with state:=.busy}) (by omega) hlX rfl rfl
  have hi2:=hI.putObj (.loop {rec .ready none with state:=.busy}) hiX (show w.heap.size≤w.heap.size+1 by omega) hlX rfl
  have ha2:=(hAx x a').putObj (s:=()) (.loop {rec .ready none with state:=.busy}) hax (show w.heap.size≤w.heap.size+1 by omega) hlX rfl
  generalize hZ:X.putObj (w.heap.size+1) (.loop {rec .ready none with state:=.busy})=Z at hl2 hk2 hw2 hi2 ha2 ⊢
  refine wpIn_mono (hbody _ pre x a' Z hi2 ha2 hlen) ?_
  have fin:∀ (jump:Option Code) (Y:World),KeepsFrom w.heap.size Z Y→
    (Instr.endRound (w.heap.size+1) jump).run P Y=.ok (.bool jump.isNone) (Y.putObj (w.heap.size+1) (.loop (rec (if jump.isNone then .ready else .done) jump)))∧
    (∃ o,Y.heap[w.heap.size+1]?=some o∧o.isCells=false∧o.isWalk=false)∧
    (Y.putObj (w.heap.size+1) (.loop (rec (if jump.isNone then .ready else .done) jump))).heap[w.heap.size+1]?=some (.loop (rec (if jump.isNone then .ready else .done) jump))∧
    (Y.putObj (w.heap.size+1) (.loop (rec (if jump.isNone then .ready else .done) jump))).heap[w.heap.size]?=some (.deferred (some [])):=fun jump Y hkY=>by
   have hlY:=hkY.same _ _ (by omega) hl2 rfl
   have r:=run_endRound (P:=P) jump hlY
   refine ⟨?_,⟨_,hlY,rfl,rfl⟩,World.putObj_heap_same (Array.getElem?_eq_some_iff.1 hlY).1,(World.putObj_heap_other (by omega)).trans (hkY.same _ _ (Nat.le_refl _) hk2 rfl)⟩
   rw [←hrec] at r ⊢
   exact r
  rintro e a3 Y hp
  cases e with
  | normal=>
   obtain ⟨hkY,hkp,hiY⟩:=hp
   obtain ⟨hr,⟨o,ho,hoc,how⟩,hl4,hk4⟩:=fin none Y hkY
   exact ⟨_,_,hr,.inl ⟨rfl,⟨hI.putObj _ hiY (by omega) ho hoc,hl4,hk4⟩,hKt hkX (hKt (hKt hw2 hkp) (hKb _ _ _ _ (by omega) ho hoc how))⟩⟩
  | ret=>
   obtain ⟨hkY,hiY⟩:=hp
   obtain ⟨hr,⟨o,ho,hoc,how⟩,hl4,hk4⟩:=fin (some .ret) Y hkY
   exact ⟨_,_,hr,.inr ⟨rfl,.ret,(hIx _).putObj _ hiY (by omega) ho hoc,hl4,hk4⟩⟩
  | exit id=>
   obtain ⟨hkY,hiY⟩:=hp
   obtain ⟨hr,⟨o,ho,hoc,how⟩,hl4,hk4⟩:=fin (some (.exit id)) Y hkY
   exact ⟨_,_,hr,.inr ⟨rfl,.exit id,(hIx _).putObj _ hiY (by omega) ho hoc,hl4,hk4⟩⟩
  | goto t=>
   obtain ⟨hkY,hiY⟩:=hp
   obtain ⟨hr,⟨o,ho,hoc,how⟩,hl4,hk4⟩:=fin (some (.goto t)) Y hkY
   exact ⟨_,_,hr,.inr ⟨rfl,.goto t,(hIx _).putObj _ hiY (by omega) ho hoc,hl4,hk4⟩⟩
  | panic ch=>exact hp.elim
  | outgrown=>exact hp.elim
 · -- behind the iterator
  rintro e Y ⟨⟨v,rfl⟩,(⟨xs,hS,hi,hl,hk⟩ | ⟨pre,hSp,c,hi,hl,hk⟩)⟩
  ·have r:=run_endLoop (P:=P) hl (by rw [←hrec];simp)
   rw [←hrec] at r
   exact ⟨none,_,r,hdone _ xs _ (Nat.le_refl _) hS (hI.putObj _ hi (by omega) hl rfl) ((World.putObj_heap_other (by omega)).trans hk)⟩
  ·have r:=run_endLoop (P:=P) hl (by rw [←hrec];simp)
   rw [←hrec] at r
   exact ⟨some c,_,r,hstop _ c pre _ (Nat.le_refl _) hSp ((hIx c).putObj _ hi (by omega) hl rfl) ((World.putObj_heap_other (by omega)).trans hk)⟩
end Go.Proofs.YthmljpccbjolgaaGreatDoor.mine
