
/-
  Bounds more, put into a matrix: the weights, and what with, each and Set of package tight answer; each theorem names its conditions.
-/
import Derived.Test.YthmljpccbjolgaaGreatDoorDbmB
import Derived.Test.YthmljpccbjolgaaGreatDoorBase
import Derived.Test.YthmljpccbjolgaaGreatDoorDbmA
import Derived.Test.YthmljpccbjolgaaGreatDoorDbmE
namespace Go.Proofs.YthmljpccbjolgaaGreatDoor.way
set_option linter.unusedVariables false
theorem good_mono {d d':Tab} (h:∀ i j,le (d i j) (d' i j)) {k:Nat} (g:Good d k):Good d' k:=fun m hm i=>le_trans (g m hm i) (F_mono h m i i)
theorem F_id {D:Tab} {n:Nat} (h:Tri D n):∀ k,k≤n→∀ i j,F D k i j=D i j:=by
 intro k
 induction k with
 | zero=>intro _ i j;rfl
 | succ k ih=>
  intro hk i j
  have ih':=ih (by omega)
  show mn (F D k i j) (ad (F D k i k) (F D k k j))=_
  rw [ih',ih',ih']
  exact mn_eq_left (h k (by omega) i j)
def put (d:Tab) (x y:Nat) (v:B):Tab:=fun i j=>if i=x∧j=y then mn (d i j) v else d i j
theorem put_le (d:Tab) (x y:Nat) (v:B) (i j:Nat):le (put d x y v i j) (d i j):=by
 unfold put
 split
 ·exact mn_left _ _
 ·exact le_refl _
theorem put_at (d:Tab) (x y:Nat) (v:B):le (put d x y v x y) v:=by
 unfold put
 rw [if_pos ⟨rfl,rfl⟩]
 exact mn_right _ _
theorem le_put {d e:Tab} {x y:Nat} {v:B} (h:∀ i j,le (e i j) (d i j)) (k:le (e x y) v) (i j:Nat):le (e i j) (put d x y v i j):=by
 unfold put
 split
 ·rename_i p
  obtain ⟨rfl,rfl⟩:=p
  exact le_mn (h i j) k
 ·exact h i j
end Go.Proofs.YthmljpccbjolgaaGreatDoor.way
namespace Go.Proofs.YthmljpccbjolgaaGreatDoor.dbm
open num way
open bound hiding up
set_option linter.unusedVariables false
def setT (ts:List Int) (p:Nat) (b:Int):List Int:=ts.set p (lsr (ts[p]?.getD 0) b)
def lesT (ts us:List Int):List Int:=(List.range ts.length).map fun p=>lsr (ts[p]?.getD 0) (us[p]?.getD 0)
theorem setT_length (ts:List Int) (p:Nat) (b:Int):(setT ts p b).length=ts.length:=by simp [setT]
theorem lesT_length (ts us:List Int):(lesT ts us).length=ts.length:=by simp [lesT]
theorem setT_at (ts:List Int) {p q:Nat} (b:Int) (hq:q<ts.length):(setT ts p b)[q]?.getD 0=if p=q then lsr (ts[q]?.getD 0) b else ts[q]?.getD 0:=by
 unfold setT
 rw [List.getElem?_set]
 by_cases h:p=q
 ·subst h;rw [if_pos rfl,if_pos rfl,if_pos hq];rfl
 ·rw [if_neg h,if_neg h]
theorem lesT_at (ts us:List Int) {q:Nat} (hq:q<ts.length):(lesT ts us)[q]?.getD 0=lsr (ts[q]?.getD 0) (us[q]?.getD 0):=by
 unfold lesT
 rw [List.getElem?_map,List.getElem?_range hq];rfl
theorem lsr_self (a:Int):lsr a a=a:=by unfold lsr;split<;>rfl
theorem lsr_is (a b:Int):lsr a b=a∨lsr a b=b:=by unfold lsr;split<;>simp
theorem list_at {ts us:List Int} (h:ts.length=us.length) (k:∀ p,p<ts.length→ts[p]?.getD 0=us[p]?.getD 0):ts=us:=by
 refine List.ext_getElem h fun p h1 h2=>?_
 have:=k p h1
 rwa [List.getElem?_eq_getElem h1,List.getElem?_eq_getElem h2] at this
theorem lsr_fine {a b:Int} (h:Fine a) (k:Fine b):Fine (lsr a b):=by rcases lsr_is a b with e | e<;>rw [e]<;>assumption
theorem lesT_may {n:Int} {ts us:List Int} (h:MayD n ts) (k:MayD n us):MayD n (lesT ts us):=by
 refine ⟨h.1,h.2.1,by rw [lesT_length];exact h.2.2.1,fun q hq=>?_⟩
 rw [lesT_length] at hq
 rw [lesT_at _ _ hq]
 exact lsr_fine (h.2.2.2 q hq) (k.2.2.2 q (by have:=h.2.2.1;have:=k.2.2.1;omega))
theorem tops_at {ts:List Int} (h:∀ p,p<ts.length→ts[p]?.getD 0≤9223372036854775807):Tops ts:=fun x hx=>by
 obtain ⟨p,hp,rfl⟩:=List.mem_iff_getElem.1 hx
 have:=h p hp
 rwa [List.getElem?_eq_getElem hp] at this
theorem at_top {ts:List Int} (h:Tops ts) {p:Nat} (hp:p<ts.length):ts[p]?.getD 0≤9223372036854775807:=by
 rw [List.getElem?_eq_getElem hp]
 exact h _ (List.getElem_mem hp)
theorem setT_tops {ts:List Int} (h:Tops ts) (p:Nat) (b:Int):Tops (setT ts p b):=tops_at fun q hq=>by
 rw [setT_length] at hq
 rw [setT_at _ _ hq]
 have:=at_top h hq
 split
 ·exact Int.le_trans (lsr_le _ _).1 this
 ·exact this
theorem lesT_tops {ts:List Int} (h:Tops ts) (us:List Int):Tops (lesT ts us):=tops_at fun q hq=>by
 rw [lesT_length] at hq
 rw [lesT_at _ _ hq]
 exact Int.le_trans (lsr_le _ _).1 (at_top h hq)
theorem tabs_lows {n:Nat} (h0:0<n) {ts us:List Int} (h:lows n ts n=lows n us n) (k:Nat):tabs n h0 ts k=tabs n h0 us k:=by
 induction k with
 | zero=>exact h
 | succ k ih=>
  show ovl n k (tabs n h0 ts k) _=ovl n k (tabs n h0 us k) _
  rw [ih]
theorem lows_same {n:Nat} (h0:0<n) (hn:n≤4) {ts us:List Int} (hl:ts.length=n*n) (hu:us.length=n*n) (h:∀ i j,i<n→j<n→(if i=j then lsr (tat ts n i i) 1 else tat ts n i j)=if i=j then lsr (tat us n i i) 1 else tat us n i j):lows n ts n=lows n us n:=by
 refine list_ext h0 ((lows_length _ _ _).trans hl) ((lows_length _ _ _).trans hu) fun i j hi hj=>?_
 rw [beg_at hl hn hi hj,beg_at hu hn hi hj]
 exact h i j hi hj
def Like (n:Int) (ts us:List Int):Prop:=MayD n ts∧MayD n us∧(OkD n ts↔OkD n us)∧(OkD n ts→clT n ts=clT n us)
theorem like_of {n:Nat} (h0:0<n) (hn:n≤4) {ts us:List Int} (hl:ts.length=n*n) (hu:us.length=n*n) (ht:MayD n ts) (hm:MayD n us) (h:∀ i j,i<n→j<n→(if i=j then lsr (tat ts n i i) 1 else tat ts n i j)=if i=j then lsr (tat us n i i) 1 else tat us n i j):Like n ts us:=by
 have e:=fun k=>tabs_lows h0 (lows_same h0 hn hl hu h) k
 refine ⟨ht,hm,⟨fun ⟨_,_,k⟩=>⟨hm,by simpa using h0,fun q hq hem=>k q hq ?_⟩,fun ⟨_,_,k⟩=>⟨ht,by simpa using h0,fun q hq hem=>k q hq ?_⟩⟩,?_⟩
 ·have:=e q
  simp only [Int.toNat_natCast] at hem ⊢
  rwa [this]
 ·have:=e q
  simp only [Int.toNat_natCast] at hem ⊢
  rwa [←this]
 ·intro _;rw [clT_nat h0,clT_nat h0,e]
theorem okD_good {n:Nat} {ts:List Int} (h0:0<n) (hn:n≤4) (hl:ts.length=n*n) (htop:Tops ts) (h:MayD n ts):OkD n ts↔way.Good (beg n ts) n:=by
 refine ⟨fun ⟨_,h0',hne⟩=>good_of h0 hn hl htop h.2.2.2 (fun k hk=>hne k (by simpa using hk)),fun g=>⟨h,by simpa using h0,fun k hk=>?_⟩⟩
 rw [show (n:Int).toNat=n from Int.toNat_natCast n] at hk
 show ¬ emp n (tabs n h0 ts k)
 induction k using Nat.strongRecOn with
 | _ k ih=>
  rintro ⟨i,hi,he⟩
  have e:=tabs_is h0 hn hl htop h.2.2.2 k hk (fun m hmk=>ih m hmk (by omega)) i i hi hi
  have:=g k hk i
  rw [←e] at this
  have:=(cod_le (by decide) (tat_top (tabs_tops h0 htop k) n i i)).1 (show le (cod 1) _ from this)
  omega
theorem beg_closed {n:Nat} {ts:List Int} (h0:0<n) (hn:n≤4) (hl:ts.length=n*n) (htop:Tops ts) (h:OkD n ts) (i j:Nat):beg n (tabs n h0 ts n) i j=F (beg n ts) n i j:=by
 have hne:∀ k,k≤n→¬ emp n (tabs n h0 ts k):=fun k hk=>h.2.2 k (by simpa using hk)
 by_cases hij:i<n∧j<n
 ·obtain ⟨hi,hj⟩:=hij
  rw [←tabs_is h0 hn hl htop h.1.2.2.2 n (Nat.le_refl _) (fun m hm=>hne m (by omega)) i j hi hj]
  have hl':(tabs n h0 ts n).length=n*n:=(tabs_length _ _ _ _).trans hl
  unfold beg
  rw [wts_in hi hj,beg_at hl' hn hi hj]
  by_cases e:i=j
  ·subst e
   rw [if_pos rfl,closed_diag h0 hn hl htop h.1.2.2.2 hne hi];rfl
  ·rw [if_neg e]
 ·have e1:beg n (tabs n h0 ts n) i j=none:=if_neg hij
  rw [e1]
  by_cases hi:i<n
  ·have hj:¬ j<n:=fun hj=>hij ⟨hi,hj⟩
   symm
   unfold beg
   generalize lows n ts n=us
   have:∀ k,∀ i,F (wts n us) k i j=none:=by
    intro k
    induction k with
    | zero=>intro i;exact wts_out2 hj
    | succ k ih=>
     intro i
     show mn (F (wts n us) k i j) (ad (F (wts n us) k i k) (F (wts n us) k k j))=none
     rw [ih,ih,ad_none];rfl
   exact this n i
  ·exact (F_out n hi).symm
theorem clT_tops {n:Int} {ts:List Int} (htop:Tops ts):Tops (clT n ts):=by
 unfold clT
 split
 ·exact tabs_tops _ htop _
 ·intro x hx;cases hx
end Go.Proofs.YthmljpccbjolgaaGreatDoor.dbm
namespace Go.Proofs.YthmljpccbjolgaaGreatDoor.tight
open Go.ChangeShapes Go.WideShapes Go.ChangeAt Go.RowKit num dbm
open bound hiding up
set_option linter.unusedVariables false
set_option linter.unusedSimpArgs false
theorem clock_any (n i:Int) (sv:Value) (w:World):Calls Tryz.prog 136 #[.agg #[.int .i64 n,sv],.int .i64 i] w fun e w'=>e=.returned (.bool (decide (0≤i) && decide (i<n)))∧Below w.heap.size w w':=by
 by_cases h:0≤i
 ·by_cases k:i<n
  ·rw [decide_eq_true h,decide_eq_true k]
   go_enter Tryz.func136,Tryz.ntmps136
   go_wp2_with fail
   go_ret
   exact ⟨rfl,up1 _ _⟩
  ·rw [decide_eq_true h,decide_eq_false k]
   go_enter Tryz.func136,Tryz.ntmps136
   go_wp2_with fail
   go_ret
   exact ⟨rfl,up1 _ _⟩
 ·rw [decide_eq_false h]
  go_enter Tryz.func136,Tryz.ntmps136
  go_wp2_with fail
  go_ret
  exact ⟨rfl,up1 _ _⟩
def In (c:Int):Prop:=-288230376151711744≤c∧c≤288230376151711744
instance decIn (c:Int):Decidable (In c):=by unfold In;exact inferInstance
theorem beyond_no (c : Int) (w : World) (h : In c) : Calls Tryz.prog 185 #[.int .i64 c] w fun e w' => e = .returned (.bool false) ∧ w = w' := by
 obtain ⟨h1,h2⟩ := h
 have t1 : ¬ c < -288230376151711744 := by omega
 have t2 : ¬ 288230376151711744 < c := by omega
 go_enter Tryz.func185,Tryz.ntmps185
 go_wp2_with fail
 go_ret
 exact ⟨rfl,rfl⟩
theorem beyond_yes (c : Int) (w : World) (h : ¬ In c) : Calls Tryz.prog 185 #[.int .i64 c] w fun e w' => e = .returned (.bool true) ∧ w = w' := by
 by_cases h1 : c < -288230376151711744
 ·clear h
  go_enter Tryz.func185,Tryz.ntmps185
  go_wp2_with fail
  go_ret
  exact ⟨rfl,rfl⟩
 ·have h2 : 288230376151711744 < c := by unfold In at h; omega
  clear h
  go_enter Tryz.func185,Tryz.ntmps185
  go_wp2_with fail
  go_ret
  exact ⟨rfl,rfl⟩
theorem in_may {c:Int} (h:In c):May c:=by unfold In at h;unfold May;omega
theorem end_any (c:Int) (s:Bool) (w:World) (h:In c):Calls Tryz.prog 138 #[.int .i64 c,.bool s] w fun e w'=>e=.returned (.int .i64 (mk c s))∧Below w.heap.size w w':=by
 have H:=Lib.hid (in_may h)
 clear h
 cases s with
 | true=>
  go_enter Tryz.func138,Tryz.ntmps138
  go_wp2_with (go_at_call 116;refine (less_ok _ _ H.out).mono ?_;rintro e w1 ⟨rfl,hB1⟩)
  go_ret
  exact ⟨rfl,hB1⟩
 | false=>
  go_enter Tryz.func138,Tryz.ntmps138
  go_wp2_with (go_at_call 115;refine (most_ok _ _ H.out).mono ?_;rintro e w1 ⟨rfl,hB1⟩)
  go_ret
  exact ⟨rfl,hB1⟩
@[reducible] def spanV (lo:Int) (ls:Bool) (hi:Int) (hs op:Bool):Value:=.agg #[.int .i64 lo,.bool ls,.int .i64 hi,.bool hs,.bool op]
def MayS (lo hi:Int) (hs op:Bool):Prop:=In lo∧((op=true∧hi=0∧hs=false)∨(op=false∧In hi∧lo≤hi))
instance decMayS (lo hi:Int) (hs op:Bool):Decidable (MayS lo hi hs op):=by unfold MayS;exact inferInstance
theorem span_any (lo:Int) (ls:Bool) (hi:Int) (hs op:Bool) (w:World):Calls Tryz.prog 137 #[.agg #[.int .i64 lo,.bool ls,.int .i64 hi,.bool hs,.bool op]] w fun e w'=>e=.returned (.int .i64 (if MayS lo hi hs op then 0 else 8))∧Below w.heap.size w w':=by
 by_cases h1:In lo
 ·have H1:=Lib.hid h1
  cases op with
  | true=>
   by_cases h2:hi=0
   ·subst h2
    cases hs with
    | true=>
     rw [if_neg (by unfold MayS;simp)]
     clear h1
     go_enter Tryz.func137,Tryz.ntmps137
     go_wp2_with (go_at_call 185;refine (beyond_no _ _ H1.out).mono ?_;rintro e w' ⟨rfl,rfl⟩)
     go_ret
     exact ⟨rfl,up1 _ _⟩
    | false=>
     rw [if_pos (by unfold MayS;exact ⟨h1,.inl ⟨rfl,rfl,rfl⟩⟩)]
     clear h1
     go_enter Tryz.func137,Tryz.ntmps137
     go_wp2_with (go_at_call 185;refine (beyond_no _ _ H1.out).mono ?_;rintro e w' ⟨rfl,rfl⟩)
     go_ret
     exact ⟨rfl,up1 _ _⟩
   ·rw [if_neg (by unfold MayS;simp [h2])]
    have t1:(hi !=0)=true:=by simpa using h2
    clear h1
    go_enter Tryz.func137,Tryz.ntmps137
    go_wp2_with (go_at_call 185;refine (beyond_no _ _ H1.out).mono ?_;rintro e w' ⟨rfl,rfl⟩)
    go_ret
    exact ⟨rfl,up1 _ _⟩
  | false=>
   by_cases h2:In hi
   ·have H2:=Lib.hid h2
    by_cases h3:hi<lo
    ·rw [if_neg (by
      unfold MayS
      rintro ⟨_,⟨h,_⟩ | ⟨_,_,h⟩⟩
      ·cases h
      ·omega)]
     clear h1 h2
     go_enter Tryz.func137,Tryz.ntmps137
     go_wp2_with (go_at_call 185;(first | (with_reducible refine (beyond_no lo _ H1.out).mono ?_) | (with_reducible refine (beyond_no hi _ H2.out).mono ?_));rintro e w' ⟨rfl,rfl⟩)
     go_ret
     exact ⟨rfl,up1 _ _⟩
    ·rw [if_pos (by unfold MayS;exact ⟨h1,.inr ⟨rfl,h2,by omega⟩⟩)]
     clear h1 h2
     go_enter Tryz.func137,Tryz.ntmps137
     go_wp2_with (go_at_call 185;(first | (with_reducible refine (beyond_no lo _ H1.out).mono ?_) | (with_reducible refine (beyond_no hi _ H2.out).mono ?_));rintro e w' ⟨rfl,rfl⟩)
     go_ret
     exact ⟨rfl,up1 _ _⟩
   ·have H2:=Lib.hid h2
    rw [if_neg (by
     unfold MayS
     rintro ⟨_,⟨h,_⟩ | ⟨_,h,_⟩⟩
     ·cases h
     ·exact h2 h)]
    clear h1 h2
    go_enter Tryz.func137,Tryz.ntmps137
    go_wp2_with (go_at_call 185;(first | (with_reducible refine (beyond_no lo _ H1.out).mono ?_) | (with_reducible refine (beyond_yes hi _ H2.out).mono ?_));rintro e w' ⟨rfl,rfl⟩)
    go_ret
    exact ⟨rfl,up1 _ _⟩
 ·have H1:=Lib.hid h1
  rw [if_neg (fun h=>h1 h.1)]
  clear h1
  go_enter Tryz.func137,Tryz.ntmps137
  go_wp2_with (go_at_call 185;refine (beyond_yes _ _ H1.out).mono ?_;rintro e w' ⟨rfl,rfl⟩)
  go_ret
  exact ⟨rfl,up1 _ _⟩
end Go.Proofs.YthmljpccbjolgaaGreatDoor.tight
namespace Go.Proofs.YthmljpccbjolgaaGreatDoor.tight
open Go.ChangeShapes Go.WideShapes Go.ChangeAt Go.RowKit num dbm
open bound hiding up
set_option linter.unusedVariables false
set_option linter.unusedSimpArgs false
abbrev Mo:=Nat × Nat × Int
def mo (ms:List Mo) (k:Nat):Mo:=ms[k]?.getD (0,0,0)
def RowM (W:World) (g off:Nat) (ms:List Mo):Prop:=∀ k,k<ms.length→W.cell? ⟨g,off+k*3,none⟩=some (.int .i64 ((mo ms k).1:Int))∧W.cell? ⟨g,off+k*3+1,none⟩=some (.int .i64 ((mo ms k).2.1:Int))∧W.cell? ⟨g,off+k*3+2,none⟩=some (.int .i64 (mo ms k).2.2)
theorem RowM.below {n:Nat} {W W':World} {g off:Nat} {ms:List Mo} (h:RowM W g off ms) (k:Below n W W') (hg:g<n):RowM W' g off ms:=fun p hp=>by
 obtain ⟨h1,h2,h3⟩:=h p hp
 exact ⟨(k.cell (p:=⟨g,off+p*3,none⟩) hg).trans h1,(k.cell (p:=⟨g,off+p*3+1,none⟩) hg).trans h2,(k.cell (p:=⟨g,off+p*3+2,none⟩) hg).trans h3⟩
def setAll (n:Nat) (ts:List Int) (ms:List Mo):List Int:=ms.foldl (fun t m=>setT t (m.1*n+m.2.1) m.2.2) ts
theorem setAll_up (n:Nat) (ts:List Int) (ms:List Mo) (k:Nat) (hk:k<ms.length):setAll n ts (ms.take (k+1))=setT (setAll n ts (ms.take k)) ((mo ms k).1*n+(mo ms k).2.1) (mo ms k).2.2:=by
 unfold setAll mo
 rw [←List.take_append_getElem hk,List.foldl_append,List.getElem?_eq_getElem hk]
 rfl
theorem setAll_length (n:Nat) (ts:List Int) (ms:List Mo):(setAll n ts ms).length=ts.length:=by
 unfold setAll
 induction ms generalizing ts with
 | nil=>rfl
 | cons m ms ih=>exact (ih _).trans (setT_length _ _ _)
theorem setAll_tops {n:Nat} {ts:List Int} (h:Tops ts) (ms:List Mo):Tops (setAll n ts ms):=by
 unfold setAll
 induction ms generalizing ts with
 | nil=>exact h
 | cons m ms ih=>exact ih (setT_tops h _ _)
def Ans (n:Int) (ts:List Int) (na:Int) (us:List Int) (f:Int):Prop:=(¬ OkD n ts∧na=0∧us=[]∧f=if MayD n ts then 6 else 8)∨(OkD n ts∧na=n∧us=clT n ts∧f=0)
def Blk (n₀:Nat) (W:World) (aa:Option Addr) (la ca:Nat) (us:List Int):Prop:=(aa=none∧la=0∧ca=0∧us=[])∨∃ g,n₀≤g∧aa=some ⟨g,0,none⟩∧la=us.length∧lies.Lies W g 25 (cellsOf us)
theorem Blk.ints {n₀:Nat} {W:World} {aa:Option Addr} {la ca:Nat} {us:List Int} (h:Blk n₀ W aa la ca us):law.Ints W.heap.size W (.slice aa la ca) us:=by
 rcases h with ⟨rfl,rfl,rfl,rfl⟩ | ⟨g,hg,rfl,rfl,h⟩
 ·exact .inl ⟨⟨_,_,rfl,fun _=>rfl⟩,rfl⟩
 ·exact .inr ⟨g,0,_,rfl,lies.lt h,row_of h⟩
theorem Blk.below {n₀:Nat} {W X:World} {aa:Option Addr} {la ca:Nat} {us:List Int} (h:Blk n₀ W aa la ca us) (k:Below W.heap.size W X):Blk n₀ X aa la ca us:=by
 rcases h with h | ⟨g,hg,h1,h2,h⟩
 ·exact .inl h
 ·exact .inr ⟨g,hg,h1,h2,lies.on_call h k⟩
theorem Blk.mono {n₀ n₁:Nat} {W:World} {aa:Option Addr} {la ca:Nat} {us:List Int} (h:Blk n₀ W aa la ca us) (k:n₁≤n₀):Blk n₁ W aa la ca us:=by
 rcases h with h | ⟨g,hg,h1,h2,h⟩
 ·exact .inl h
 ·exact .inr ⟨g,by omega,h1,h2,h⟩
theorem Blk.far {n₀:Nat} {W:World} {aa:Option Addr} {la ca:Nat} {us:List Int} (h:Blk n₀ W aa la ca us) {q:Nat} (hq:q<n₀) (i:Nat) (u:Value):Blk n₀ (W.setCell ⟨q,i,none⟩ u) aa la ca us:=by
 rcases h with h | ⟨g,hg,h1,h2,h⟩
 ·exact .inl h
 ·exact .inr ⟨g,hg,h1,h2,lies.on_far h i (by omega) u⟩
theorem close_g (n:Int) (sv:Value) (ts:List Int) (w:World) (hI:law.Ints w.heap.size w sv ts) (hm:ts.length≤1000000) (htop:Tops ts):
  Calls Tryz.prog 98 #[.agg #[.int .i64 n,sv]] w fun e w'=>Below w.heap.size w w'∧∃ na aa la ca us f,e=.returned (.tuple #[.agg #[.int .i64 na,.slice aa la ca],.int .i64 f])∧Ans n ts na us f∧Blk w.heap.size w' aa la ca us:=by
 by_cases h:MayD n ts
 ·obtain ⟨m,rfl,h0,hn,hl⟩:=may_nat h
  have hp:0<m*m:=Nat.mul_pos h0 h0
  rcases hI with ⟨_,rfl⟩ | ⟨b,off,cap,rfl,hb,hc⟩
  ·simp at hl;omega
  ·rw [hl]
   refine (close_ok m b off cap ts w h0 hc hb htop h hl hn).mono fun e w' ⟨hB,hor⟩=>⟨hB,?_⟩
   rcases hor with ⟨k,hk,hem,rfl⟩ | ⟨hne,g,hg,rfl,hG⟩
   ·exact ⟨0,none,0,0,[],6,rfl,.inl ⟨fun ⟨_,h0',hne⟩=>hne k (by simpa using hk) hem,rfl,rfl,by rw [if_pos h]⟩,.inl ⟨rfl,rfl,rfl,rfl⟩⟩
   ·refine ⟨m,_,_,_,tabs m h0 ts m,0,rfl,.inr ⟨⟨h,by simpa using h0,fun k hk=>hne k (by simpa using hk)⟩,rfl,(clT_nat h0 ts).symm,rfl⟩,.inr ⟨g,hg,rfl,?_,hG⟩⟩
    rw [tabs_length,hl]
 ·exact (close_bad n sv ts w hI hm htop h).mono fun e w' ⟨he,hB⟩=>⟨hB,0,none,0,0,[],8,he,.inl ⟨fun k=>h k.1,rfl,rfl,by rw [if_neg h]⟩,.inl ⟨rfl,rfl,rfl,rfl⟩⟩
def Gives (n:Int) (ts:List Int) (w:World) (e:Ending) (w':World):Prop:=Below w.heap.size w w'∧∃ na aa la ca us f,e=.returned (.tuple #[.agg #[.int .i64 na,.slice aa la ca],.int .i64 f])∧Ans n ts na us f∧Blk w.heap.size w' aa la ca us
def Wi (n b off cap g B off' len cap' gl:Nat) (us ts:List Int) (ms:List Mo) (w W:World):Prop:=
 lies.Lies W w.heap.size 81 #[.int .i64 n,.slice (some ⟨b,off,none⟩) (n*n) cap]∧lies.Lies W (w.heap.size+1) 81 #[.int .i64 0,.slice none 0 0]∧lies.Lies W B 81 #[.int .i64 n,.slice (some ⟨g,0,none⟩) (n*n) (n*n)]∧lies.Lies W g 25 (cellsOf us)∧Below w.heap.size w W
theorem min_lsr (z x:Int):min z x=lsr z x:=by
 by_cases h:x<z
 ·rw [show lsr z x=x from if_pos h];exact Int.min_eq_right (by omega)
 ·rw [show lsr z x=z from if_neg h];exact Int.min_eq_left (by omega)
set_option maxRecDepth 100000 in
set_option maxHeartbeats 4000000 in
theorem with_any (n b off cap gl off' len cap':Nat) (ts:List Int) (ms:List Mo) (w:World) (h0:0<n) (hn:n≤4) (hr:Row w b off ts) (hb:b<w.heap.size) (htop:Tops ts) (hl:ts.length=n*n)
  (hm:RowM w gl off' ms) (hg:gl<w.heap.size) (hlm:ms.length=len) (hml:len≤1000) (hin:∀ k,k<len→(mo ms k).1<n∧(mo ms k).2.1<n):
  Calls Tryz.prog 139 #[.agg #[.int .i64 n,.slice (some ⟨b,off,none⟩) (n*n) cap],.slice (some ⟨gl,off',none⟩) len cap'] w (Gives n (setAll n ts ms) w):=by
 obtain ⟨DB,D0,D1⟩:=dref.box_res n (.slice (some ⟨b,off,none⟩) (n*n) cap) w
 have HR:=Lib.hid hr
 have HT:=Lib.hid htop
 have HL:=Lib.hid hl
 have HM:=Lib.hid hm
 have HLM:=Lib.hid hlm
 have HIN:=Lib.hid hin
 clear hr htop hl hm hlm hin
 have hnn:=sq_le hn
 have hpos:0<n*n:=Nat.mul_pos h0 h0
 go_enter Tryz.func139,Tryz.ntmps139
 go_wp2_with fail
 refine (twin_row n b off (n*n) cap ts _ (HR.out.below DB hb) (by have:=DB.size;omega) HL.out hpos (by omega)).mono ?_
 rintro e w2 ⟨g,hg2,rfl,hG,hB2⟩
 have E0:=lies.on_call D0 hB2
 have E1:=lies.on_call D1 hB2
 have K2:=DB.trans (hB2.mono DB.size)
 have hw:=lies.lt E1
 clear D0 D1 hB2
 go_wp2_with fail
 have W0:Wi n b off cap g w2.heap.size off' len cap' gl (setAll n ts (ms.take 0)) ts ms w (w2.alloc (.cells #[.int .i64 n,.slice (some ⟨g,0,none⟩) (n*n) (n*n)] 81)):=
  ⟨lies.on_alloc E0 _,lies.on_alloc E1 _,lies.made _ _ _,lies.on_alloc hG _,K2.alloc K2.size _⟩
 have hgB:g≠w2.heap.size:=by have:=lies.lt hG;omega
 have hgw:w.heap.size<g:=by have:=DB.size;simp at hg2;omega
 have hgw1:w.heap.size+1<g:=by simp at hg2;omega
 have hBw:w.heap.size<w2.heap.size:=by omega
 clear E0 E1 K2 hG hw
 generalize w2.heap.size=B at W0 hgB hBw ⊢
 generalize w2.alloc (.cells #[.int .i64 n,.slice (some ⟨g,0,none⟩) (n*n) (n*n)] 81)=w3 at W0 ⊢
 go_loopw [14] (fun i wr=>∃ k:Nat,k≤len∧i=.int .i64 k∧Wi n b off cap g B off' len cap' gl (setAll n ts (ms.take k)) ts ms w wr) (fun i _=>len - (intOf i).toNat)
 case atStart=>exact ⟨0,Nat.zero_le _,rfl,W0⟩
 case round=>
  clear W0
  obtain ⟨k,hk,rfl,hA⟩:=hrel
  by_cases hkn:k<len
  ·obtain ⟨hi,hj⟩:=HIN.out k hkn
   obtain ⟨m1,m2,m3⟩:=(HM.out.below hA.2.2.2.2 hg) k (by rw [HLM.out];exact hkn)
   have hup:=setAll_up n ts ms k (by rw [HLM.out];exact hkn)
   have hus:(setAll n ts (ms.take k)).length=n*n:=(setAll_length _ _ _).trans HL.out
   generalize mo ms k=m at hi hj m1 m2 m3 hup
   obtain ⟨i,j,x⟩:=m
   dsimp only at hi hj m1 m2 m3 hup
   have hp:=place_le hn hi hj
   have hz:=(lies.cell hA.2.2.2.1 (i*n+j)).trans (cells_at _ _ (by rw [hus];exact hp))
   have hf:=lies.free hA.2.2.2.1 (i*n+j)
   have hA1:=hA
   unfold setT at hup
   generalize hU:setAll n ts (ms.take k)=us at hA hus hz hup
   generalize hz':us[i*n+j]?.getD 0=z at hz hup
   obtain ⟨y1,y2,y3,y4,y5,y6,y7⟩:=dref.place_int hn hi hj
   obtain ⟨c0,c1,c2,c3,c4⟩:=lies.two hA.1
   obtain ⟨d0,d1,d2,d3,d4⟩:=lies.two hA.2.2.1
   have hgl:=Nat.lt_of_lt_of_le hg hA.2.2.2.2.size
   have hgg:=lies.lt hA.2.2.2.1
   clear hA1
   have HUP:=Lib.hid hup
   have HUS:=Lib.hid hus
   have HU:=Lib.hid hU
   have HZ:=Lib.hid hz'
   clear hup hus hU hz'
   go_wp2_with fail
   have A1:Wi n b off cap g B off' len cap' gl us ts ms w (wr.alloc (.cells #[.int .i64 i,.int .i64 j,.int .i64 x] 164)):=
    ⟨lies.on_alloc hA.1 _,lies.on_alloc hA.2.1 _,lies.on_alloc hA.2.2.1 _,lies.on_alloc hA.2.2.2.1 _,hA.2.2.2.2.alloc hA.2.2.2.2.size _⟩
   have M1:=lies.made wr 164 #[.int .i64 i,.int .i64 j,.int .i64 x]
   have hz1:=lies.cell A1.2.2.2.1 (i*n+j)
   rw [cells_at us (i*n+j) (by rw [HUS.out];exact hp),HZ.out] at hz1
   clear hA m1 m2 m3 c0 c1 c2 c3 c4 d0 d1 d2 d3 d4 hz hf
   generalize wr.heap.size=Bm at M1 ⊢
   generalize wr.alloc (.cells #[.int .i64 i,.int .i64 j,.int .i64 x] 164)=w5 at A1 M1 hz1 ⊢
   have hfz:=lies.free A1.2.2.2.1 (i*n+j)
   have hgBm:=ne_type A1.2.2.2.1 M1 (by decide)
   have S0:∀ W,Below w5.heap.size w5 W→W.cell? ⟨B,1,none⟩=some (.slice (some ⟨g,0,none⟩) (n*n) (n*n))∧W.cell? ⟨Bm,2,none⟩=some (.int .i64 x):=fun W hW=>⟨(dlaw.at_s A1.2.2.1 hW).2,lies.cell (lies.on_call M1 hW) 2⟩
   refine wp_region_held_drew (S:=fun W=>W.cell? ⟨B,1,none⟩=some (.slice (some ⟨g,0,none⟩) (n*n) (n*n))∧W.cell? ⟨Bm,2,none⟩=some (.int .i64 x)) (by kernel_rfl) (S0 _ (dbm.drawn1 (Below.refl _ _))) (fun hHeld=>?_)
   refine tk 0 (v:=?_) rfl hHeld ?_ ?_
   rotate_left
   ·intro w hSw;obtain ⟨s0,s1⟩:=hSw;go_simp;try with_reducible rfl
   try simp only [Act.put,sA,sB,sC,sD,sE,sF]
   refine tk 1 (v:=?_) rfl hHeld ?_ ?_
   rotate_left
   ·intro w hSw;obtain ⟨s0,s1⟩:=hSw;go_simp;try with_reducible rfl
   try simp only [Act.put,sA,sB,sC,sD,sE,sF]
   refine tk 2 (v:=?_) rfl hHeld ?_ ?_
   rotate_left
   ·intro w hSw;obtain ⟨s0,s1⟩:=hSw;go_simp;try with_reducible rfl
   try simp only [Act.put,sA,sB,sC,sD,sE,sF]
   refine tk 3 (v:=?_) rfl hHeld ?_ ?_
   rotate_left
   ·intro w hSw;obtain ⟨s0,s1⟩:=hSw;go_simp;try with_reducible rfl
   try simp only [Act.put,sA,sB,sC,sD,sE,sF]
   refine tk 4 (v:=?_) rfl hHeld ?_ ?_
   rotate_left
   ·intro w hSw;obtain ⟨s0,s1⟩:=hSw;go_simp;try with_reducible rfl
   try simp only [Act.put,sA,sB,sC,sD,sE,sF]
   refine tk 5 (v:=?_) rfl hHeld ?_ ?_
   rotate_left
   ·intro w hSw;obtain ⟨s0,s1⟩:=hSw;go_simp;try with_reducible rfl
   try simp only [Act.put,sA,sB,sC,sD,sE,sF]
   refine tk 6 (v:=?_) rfl hHeld ?_ ?_
   rotate_left
   ·intro w hSw;obtain ⟨s0,s1⟩:=hSw;go_simp;try with_reducible rfl
   try simp only [Act.put,sA,sB,sC,sD,sE,sF]
   refine tk 8 (v:=?_) rfl hHeld ?_ ?_
   rotate_left
   ·intro w hSw;obtain ⟨s0,s1⟩:=hSw;go_simp;try with_reducible rfl
   try simp only [Act.put,sA,sB,sC,sD,sE,sF]
   refine tk 9 (v:=?_) rfl hHeld ?_ ?_
   rotate_left
   ·intro w hSw;obtain ⟨s0,s1⟩:=hSw;go_simp;try with_reducible rfl
   try simp only [Act.put,sA,sB,sC,sD,sE,sF]
   refine wpAnyH_ready (rs:=[7]) (by kernel_rfl) (by simp) (AllReadyH.cons rfl (fun K hK=>?_) AllReadyH.nil)
   go_simp
   refine hK.out _ _ (S0 _ (dbm.drawn1 (Below.refl _ _))) (fun hNew=>?_)
   clear hHeld hK K
   have hHeld:=hNew
   clear hNew
   try simp only [Act.put,sA,sB,sC,sD,sE,sF]
   refine wpAnyH_ready (rs:=[10]) (by kernel_rfl) (by simp) (AllReadyH.cons rfl (fun K hK=>?_) AllReadyH.nil)
   go_simp
   refine hK.out _ _ (S0 _ (dbm.drawn1 (Below.refl _ _))) (fun hNew=>?_)
   clear hHeld hK K
   have hHeld:=hNew
   clear hNew
   try simp only [Act.put,sA,sB,sC,sD,sE,sF]
   refine tk 11 (v:=?_) rfl hHeld ?_ ?_
   rotate_left
   ·intro w hSw;obtain ⟨s0,s1⟩:=hSw;go_simp;try with_reducible rfl
   try simp only [Act.put,sA,sB,sC,sD,sE,sF]
   refine wpAnyH_ready (rs:=[12]) (by kernel_rfl) (by simp) (AllReadyH.cons rfl (fun K hK=>?_) AllReadyH.nil)
   go_simp
   first | rw [min_lsr z x] | rw [if_lsr z x]
   have A2:Wi n b off cap g B off' len cap' gl (us.set (i*n+j) (lsr z x)) ts ms w (w5.setCell ⟨g,i*n+j,none⟩ (.int .i64 (lsr z x))).drew∧lies.Lies (w5.setCell ⟨g,i*n+j,none⟩ (.int .i64 (lsr z x))).drew Bm 164 #[.int .i64 i,.int .i64 j,.int .i64 x]:=by
    have P:=lies.on_put A1.2.2.2.1 (i*n+j) (.int .i64 (lsr z x))
    rw [cells_set] at P
    have D:=fun {bb:Nat} {t:TypeId} {cs:Array Value} (h:lies.Lies w5 bb t cs) (hne:bb≠g)=>lies.on_call (lies.on_far h (i*n+j) hne (.int .i64 (lsr z x))) (dbm.drawn1 (Below.refl _ _))
    exact ⟨⟨D A1.1 (by omega),D A1.2.1 (by omega),D A1.2.2.1 (Ne.symm hgB),lies.on_call P (dbm.drawn1 (Below.refl _ _)),dbm.drawn1 (A1.2.2.2.2.setCell (p:=⟨g,i*n+j,none⟩) (Nat.le_of_lt hgw) _)⟩,D M1 (Ne.symm hgBm)⟩
   refine hK.out _ _ ⟨(lies.two A2.1.2.2.1).2.1,lies.cell A2.2 2⟩ (fun hNew=>?_)
   clear hHeld hK K hNew S0
   refine wpAnyH_done (by kernel_rfl) ?_ _
   replace A2:=A2.1
   clear A1 M1 hz1 hfz
   generalize (w5.setCell ⟨g,i*n+j,none⟩ (.int .i64 (lsr z x))).drew=w6 at A2 ⊢
   go_wp2_with fail
   go_roundw
   case rel=>exact ⟨k+1,by omega,by go_num,by rw [HUP.out];exact A2⟩
   case measure=>simp [intOf];omega
  ·obtain rfl:len=k:=by omega
   have htk:ms.take len=ms:=by rw [←HLM.out];exact List.take_length
   rw [htk] at hA
   obtain ⟨c0,c1,c2,c3,c4⟩:=lies.two hA.2.2.1
   have hlen:(setAll n ts ms).length=n*n:=(setAll_length _ _ _).trans HL.out
   have hI:law.Ints wr.heap.size wr (.slice (some ⟨g,0,none⟩) (n*n) (n*n)) (setAll n ts ms):=by
    have:=dlaw.own_ints (cap:=n*n) hA.2.2.2.1
    rwa [hlen] at this
   have HC:=Lib.hid (close_g n _ (setAll n ts ms) wr hI (by omega) (setAll_tops HT.out ms))
   clear hI hlen htk
   go_wp2_with fail
   refine HC.out.mono ?_
   rintro e w4 ⟨hB4,na,aa,la,ca,vs,f,rfl,hAns,hBlk⟩
   have F1:=lies.on_call hA.2.1 hB4
   have FB:=hA.2.2.2.2.trans (hB4.mono hA.2.2.2.2.size)
   have hle:=hA.2.2.2.2.size
   have hlt:=lies.lt hA.2.1
   clear c0 c1 c2 c3 c4 hA HC hB4
   obtain ⟨x0,x1,x2,x3,x4⟩:=lies.two F1
   go_wp2_with fail
   refine bodyPost_ret (v:=.tuple #[.agg #[.int .i64 na,.slice aa la ca],.int .i64 f]) (by simp [results,Tryz.results139,go_sem,x0,x1]) rfl ⟨dref.ret_res FB (by omega) _ _,na,aa,la,ca,vs,f,rfl,hAns,?_⟩
   exact ((hBlk.far hlt 0 _).far hlt 1 _).mono (by omega)
end Go.Proofs.YthmljpccbjolgaaGreatDoor.tight
namespace Go.Proofs.YthmljpccbjolgaaGreatDoor.tight
open Go.ChangeShapes Go.WideShapes Go.ChangeAt Go.RowKit num dbm
open bound hiding up
set_option linter.unusedVariables false
set_option linter.unusedSimpArgs false
def Clk (n i:Int):Prop:=0≤i∧i<n
instance decClk (n i:Int):Decidable (Clk n i):=by unfold Clk;exact inferInstance
def Res (n:Int) (q:Option (List Int)) (err na:Int) (us:List Int) (f:Int):Prop:=(q=none∧na=0∧us=[]∧f=err)∨∃ ts,q=some ts∧Ans n ts na us f
def Tells (n:Int) (q:Option (List Int)) (err:Int) (w:World) (e:Ending) (w':World):Prop:=Below w.heap.size w w'∧∃ na aa la ca us f,e=.returned (.tuple #[.agg #[.int .i64 na,.slice aa la ca],.int .i64 f])∧Res n q err na us f∧Blk w.heap.size w' aa la ca us
theorem Tells.err {n err:Int} {w w':World} (h:Below w.heap.size w w'):Tells n none err w (.returned (.tuple #[.agg #[.int .i64 0,.slice none 0 0],.int .i64 err])) w':=⟨h,0,none,0,0,[],err,rfl,.inl ⟨rfl,rfl,rfl,rfl⟩,.inl ⟨rfl,rfl,rfl,rfl⟩⟩
theorem clk_yes {n i:Int} (h:Clk n i):(decide (0≤i) && decide (i<n))=true:=by simp [h.1,h.2]
theorem clk_no {n i:Int} (h:¬ Clk n i):(decide (0≤i) && decide (i<n))=false:=by
 unfold Clk at h
 by_cases k:0≤i
 ·have:¬ i<n:=fun l=>h ⟨k,l⟩
  simp [this]
 ·simp [k]
theorem clock_yes {n i:Int} (h:Clk n i) (sv:Value) (w:World):Calls Tryz.prog 136 #[.agg #[.int .i64 n,sv],.int .i64 i] w fun e w'=>e=.returned (.bool true)∧Below w.heap.size w w':=by
 have:=clock_any n i sv w
 rwa [clk_yes h] at this
theorem clock_no {n i:Int} (h:¬ Clk n i) (sv:Value) (w:World):Calls Tryz.prog 136 #[.agg #[.int .i64 n,sv],.int .i64 i] w fun e w'=>e=.returned (.bool false)∧Below w.heap.size w w':=by
 have:=clock_any n i sv w
 rwa [clk_no h] at this
theorem own_slice {W:World} {base n:Nat} {t:TypeId} {s:Nat} {v:Value} {xs:List Value} (h:W.ownsRow base t s v n xs):∃ a l c,v=.slice a l c:=by
 rcases Go.Joins.ownsRow_forms h with ⟨rfl,_⟩ | ⟨g,cap,rfl⟩
 ·exact ⟨_,_,_,rfl⟩
 ·exact ⟨_,_,_,rfl⟩
end Go.Proofs.YthmljpccbjolgaaGreatDoor.tight
