
/-
  Bounds more, put into a matrix: the weights, and what with, each and Set of package tight answer; each theorem names its conditions.
-/
import Derived.Test.YthmljpccbjolgaaGreatDoorDbmB
import Derived.Test.YthmljpccbjolgaaGreatDoorBase
import Derived.Test.YthmljpccbjolgaaGreatDoorDbmA
import Derived.Test.YthmljpccbjolgaaGreatDoorDbmE
namespace Go.Proofs.YthmljpccbjolgaaGreatDoor.way
set_option linter.unusedVariables false
theorem good_mono {d d':Tab} (h:∀ i j,le (d i j) (d' i j)) {k:Nat} (g:Good d k):Good d' k:=fun m hm i=>le_trans (g m hm i) (F_mono h m i i)
theorem F_id {D:Tab} {n:Nat} (h:Tri D n):∀ k,k≤n→∀ i j,F D k i j=D i j:=by
 intro k
 induction k with
 | zero=>intro _ i j;rfl
 | succ k ih=>
  intro hk i j
  have ih':=ih (by omega)
  show mn (F D k i j) (ad (F D k i k) (F D k k j))=_
  rw [ih',ih',ih']
  exact mn_eq_left (h k (by omega) i j)
def put (d:Tab) (x y:Nat) (v:B):Tab:=fun i j=>if i=x∧j=y then mn (d i j) v else d i j
theorem put_le (d:Tab) (x y:Nat) (v:B) (i j:Nat):le (put d x y v i j) (d i j):=by
 unfold put
 split
 ·exact mn_left _ _
 ·exact le_refl _
theorem put_at (d:Tab) (x y:Nat) (v:B):le (put d x y v x y) v:=by
 unfold put
 rw [if_pos ⟨rfl,rfl⟩]
 exact mn_right _ _
theorem le_put {d e:Tab} {x y:Nat} {v:B} (h:∀ i j,le (e i j) (d i j)) (k:le (e x y) v) (i j:Nat):le (e i j) (put d x y v i j):=by
 unfold put
 split
 ·rename_i p
  obtain ⟨rfl,rfl⟩:=p
  exact le_mn (h i j) k
 ·exact h i j
end Go.Proofs.YthmljpccbjolgaaGreatDoor.way
namespace Go.Proofs.YthmljpccbjolgaaGreatDoor.dbm
open num way
open bound hiding up
set_option linter.unusedVariables false
def setT (ts:List Int) (p:Nat) (b:Int):List Int:=ts.set p (lsr (ts[p]?.getD 0) b)
def lesT (ts us:List Int):List Int:=(List.range ts.length).map fun p=>lsr (ts[p]?.getD 0) (us[p]?.getD 0)
theorem setT_length (ts:List Int) (p:Nat) (b:Int):(setT ts p b).length=ts.length:=by simp [setT]
theorem lesT_length (ts us:List Int):(lesT ts us).length=ts.length:=by simp [lesT]
theorem setT_at (ts:List Int) {p q:Nat} (b:Int) (hq:q<ts.length):(setT ts p b)[q]?.getD 0=if p=q then lsr (ts[q]?.getD 0) b else ts[q]?.getD 0:=by
 unfold setT
 rw [List.getElem?_set]
 by_cases h:p=q
 ·subst h;rw [if_pos rfl,if_pos rfl,if_pos hq];rfl
 ·rw [if_neg h,if_neg h]
theorem lesT_at (ts us:List Int) {q:Nat} (hq:q<ts.length):(lesT ts us)[q]?.getD 0=lsr (ts[q]?.getD 0) (us[q]?.getD 0):=by
 unfold lesT
 rw [List.getElem?_map,List.getElem?_range hq];rfl
theorem lsr_self (a:Int):lsr a a=a:=by unfold lsr;split<;>rfl
theorem lsr_is (a b:Int):lsr a b=a∨lsr a b=b:=by unfold lsr;split<;>simp
theorem list_at {ts us:List Int} (h:ts.length=us.length) (k:∀ p,p<ts.length→ts[p]?.getD 0=us[p]?.getD 0):ts=us:=by
 refine List.ext_getElem h fun p h1 h2=>?_
 have:=k p h1
 rwa [List.getElem?_eq_getElem h1,List.getElem?_eq_getElem h2] at this
theorem lsr_fine {a b:Int} (h:Fine a) (k:Fine b):Fine (lsr a b):=by rcases lsr_is a b with e | e<;>rw [e]<;>assumption
theorem lesT_may {n:Int} {ts us:List Int} (h:MayD n ts) (k:MayD n us):MayD n (lesT ts us):=by
 refine ⟨h.1,h.2.1,by rw [lesT_length];exact h.2.2.1,fun q hq=>?_⟩
 rw [lesT_length] at hq
 rw [lesT_at _ _ hq]
 exact lsr_fine (h.2.2.2 q hq) (k.2.2.2 q (by have:=h.2.2.1;have:=k.2.2.1;omega))
theorem tops_at {ts:List Int} (h:∀ p,p<ts.length→ts[p]?.getD 0≤9223372036854775807):Tops ts:=fun x hx=>by
 obtain ⟨p,hp,rfl⟩:=List.mem_iff_getElem.1 hx
 have:=h p hp
 rwa [List.getElem?_eq_getElem hp] at this
theorem at_top {ts:List Int} (h:Tops ts) {p:Nat} (hp:p<ts.length):ts[p]?.getD 0≤9223372036854775807:=by
 rw [List.getElem?_eq_getElem hp]
 exact h _ (List.getElem_mem hp)
theorem setT_tops {ts:List Int} (h:Tops ts) (p:Nat) (b:Int):Tops (setT ts p b):=tops_at fun q hq=>by
 rw [setT_length] at hq
 rw [setT_at _ _ hq]
 have:=at_top h hq
 split
 ·exact Int.le_trans (lsr_le _ _).1 this
 ·exact this
theorem lesT_tops {ts:List Int} (h:Tops ts) (us:List Int):Tops (lesT ts us):=tops_at fun q hq=>by
 rw [lesT_length] at hq
 rw [lesT_at _ _ hq]
 exact Int.le_trans (lsr_le _ _).1 (at_top h hq)
theorem tabs_lows {n:Nat} (h0:0<n) {ts us:List Int} (h:lows n ts n=lows n us n) (k:Nat):tabs n h0 ts k=tabs n h0 us k:=by
 induction k with
 | zero=>exact h
 | succ k ih=>
  show ovl n k (tabs n h0 ts k) _=ovl n k (tabs n h0 us k) _
  rw [ih]
theorem lows_same {n:Nat} (h0:0<n) (hn:n≤4) {ts us:List Int} (hl:ts.length=n*n) (hu:us.length=n*n) (h:∀ i j,i<n→j<n→(if i=j then lsr (tat ts n i i) 1 else tat ts n i j)=if i=j then lsr (tat us n i i) 1 else tat us n i j):lows n ts n=lows n us n:=by
 refine list_ext h0 ((lows_length _ _ _).trans hl) ((lows_length _ _ _).trans hu) fun i j hi hj=>?_
 rw [beg_at hl hn hi hj,beg_at hu hn hi hj]
 exact h i j hi hj
def Like (n:Int) (ts us:List Int):Prop:=MayD n ts∧MayD n us∧(OkD n ts↔OkD n us)∧(OkD n ts→clT n ts=clT n us)
theorem like_of {n:Nat} (h0:0<n) (hn:n≤4) {ts us:List Int} (hl:ts.length=n*n) (hu:us.length=n*n) (ht:MayD n ts) (hm:MayD n us) (h:∀ i j,i<n→j<n→(if i=j then lsr (tat ts n i i) 1 else tat ts n i j)=if i=j then lsr (tat us n i i) 1 else tat us n i j):Like n ts us:=by
 have e:=fun k=>tabs_lows h0 (lows_same h0 hn hl hu h) k
 refine ⟨ht,hm,⟨fun ⟨_,_,k⟩=>⟨hm,by simpa using h0,fun q hq hem=>k q hq ?_⟩,fun ⟨_,_,k⟩=>⟨ht,by simpa using h0,fun q hq hem=>k q hq ?_⟩⟩,?_⟩
 ·have:=e q
  simp only [Int.toNat_natCast] at hem ⊢
  rwa [this]
 ·have:=e q
  simp only [Int.toNat_natCast] at hem ⊢
  rwa [←this]
 ·intro _;rw [clT_nat h0,clT_nat h0,e]
theorem okD_good {n:Nat} {ts:List Int} (h0:0<n) (hn:n≤4) (hl:ts.length=n*n) (htop:Tops ts) (h:MayD n ts):OkD n ts↔way.Good (beg n ts) n:=by
 refine ⟨fun ⟨_,h0',hne⟩=>good_of h0 hn hl htop h.2.2.2 (fun k hk=>hne k (by simpa using hk)),fun g=>⟨h,by simpa using h0,fun k hk=>?_⟩⟩
 rw [show (n:Int).toNat=n from Int.toNat_natCast n] at hk
 show ¬ emp n (tabs n h0 ts k)
 induction k using Nat.strongRecOn with
 | _ k ih=>
  rintro ⟨i,hi,he⟩
  have e:=tabs_is h0 hn hl htop h.2.2.2 k hk (fun m hmk=>ih m hmk (by omega)) i i hi hi
  have:=g k hk i
  rw [←e] at this
  have:=(cod_le (by decide) (tat_top (tabs_tops h0 htop k) n i i)).1 (show le (cod 1) _ from this)
  omega
theorem beg_closed {n:Nat} {ts:List Int} (h0:0<n) (hn:n≤4) (hl:ts.length=n*n) (htop:Tops ts) (h:OkD n ts) (i j:Nat):beg n (tabs n h0 ts n) i j=F (beg n ts) n i j:=by
 have hne:∀ k,k≤n→¬ emp n (tabs n h0 ts k):=fun k hk=>h.2.2 k (by simpa using hk)
 by_cases hij:i<n∧j<n
 ·obtain ⟨hi,hj⟩:=hij
  rw [←tabs_is h0 hn hl htop h.1.2.2.2 n (Nat.le_refl _) (fun m hm=>hne m (by omega)) i j hi hj]
  have hl':(tabs n h0 ts n).length=n*n:=(tabs_length _ _ _ _).trans hl
  unfold beg
  rw [wts_in hi hj,beg_at hl' hn hi hj]
  by_cases e:i=j
  ·subst e
   rw [if_pos rfl,closed_diag h0 hn hl htop h.1.2.2.2 hne hi];rfl
  ·rw [if_neg e]
 ·have e1:beg n (tabs n h0 ts n) i j=none:=if_neg hij
  rw [e1]
  by_cases hi:i<n
  ·have hj:¬ j<n:=fun hj=>hij ⟨hi,hj⟩
   symm
   unfold beg
   generalize lows n ts n=us
   have:∀ k,∀ i,F (wts n us) k i j=none:=by
    intro k
    induction k with
    | zero=>intro i;exact wts_out2 hj
    | succ k ih=>
     intro i
     show mn (F (wts n us) k i j) (ad (F (wts n us) k i k) (F (wts n us) k k j))=none
     rw [ih,ih,ad_none];rfl
   exact this n i
  ·exact (F_out n hi).symm
theorem clT_tops {n:Int} {ts:List Int} (htop:Tops ts):Tops (clT n ts):=by
 unfold clT
 split
 ·exact tabs_tops _ htop _
 ·intro x hx;cases hx
end Go.Proofs.YthmljpccbjolgaaGreatDoor.dbm
namespace Go.Proofs.YthmljpccbjolgaaGreatDoor.tight
open Go.ChangeShapes Go.WideShapes Go.ChangeAt Go.RowKit num dbm
open bound hiding up
set_option linter.unusedVariables false
set_option linter.unusedSimpArgs false
theorem clock_any (n i:Int) (sv:Value) (w:World):Calls Tryz.prog 136 #[.agg #[.int .i64 n,sv],.int .i64 i] w fun e w'=>e=.returned (.bool (decide (0≤i) && decide (i<n)))∧Below w.heap.size w w':=by
 by_cases h:0≤i
 ·by_cases k:i<n
  ·rw [decide_eq_true h,decide_eq_true k]
   go_enter Tryz.func136,Tryz.ntmps136
   go_wp2_with fail
   go_ret
   exact ⟨rfl,up1 _ _⟩
  ·rw [decide_eq_true h,decide_eq_false k]
   go_enter Tryz.func136,Tryz.ntmps136
   go_wp2_with fail
   go_ret
   exact ⟨rfl,up1 _ _⟩
 ·rw [decide_eq_false h]
  go_enter Tryz.func136,Tryz.ntmps136
  go_wp2_with fail
  go_ret
  exact ⟨rfl,up1 _ _⟩
def In (c:Int):Prop:=-288230376151711744≤c∧c≤288230376151711744
instance decIn (c:Int):Decidable (In c):=by unfold In;exact inferInstance
theorem beyond_no (c : Int) (w : World) (h : In c) : Calls Tryz.prog 185 #[.int .i64 c] w fun e w' => e = .returned (.bool false) ∧ w = w' := by
 obtain ⟨h1,h2⟩ := h
 have t1 : ¬ c < -288230376151711744 := by omega
 have t2 : ¬ 288230376151711744 < c := by omega
 go_enter Tryz.func185,Tryz.ntmps185
 go_wp2_with fail
 go_ret
 exact ⟨rfl,rfl⟩
theorem beyond_yes (c : Int) (w : World) (h : ¬ In c) : Calls Tryz.prog 185 #[.int .i64 c] w fun e w' => e = .returned (.bool true) ∧ w = w' := by
 by_cases h1 : c < -288230376151711744
 ·clear h
  go_enter Tryz.func185,Tryz.ntmps185
  go_wp2_with fail
  go_ret
  exact ⟨rfl,rfl⟩
 ·have h2 : 288230376151711744 < c := by unfold In at h; omega
  clear h
  go_enter Tryz.func185,Tryz.ntmps185
  go_wp2_with fail
  go_ret
  exact ⟨rfl,rfl⟩
theorem in_may {c:Int} (h:In c):May c:=by unfold In at h;unfold May;omega
theorem end_any (c:Int) (s:Bool) (w:World) (h:In c):Calls Tryz.prog 138 #[.int .i64 c,.bool s] w fun e w'=>e=.returned (.int .i64 (mk c s))∧Below w.heap.size w w':=by
 have H:=Lib.hid (in_may h)
 clear h
 cases s with
 | true=>
  go_enter Tryz.func138,Tryz.ntmps138
  go_wp2_with (go_at_call 116;refine (less_ok _ _ H.out).mono ?_;rintro e w1 ⟨rfl,hB1⟩)
  go_ret
  exact ⟨rfl,hB1⟩
 | false=>
  go_enter Tryz.func138,Tryz.ntmps138
  go_wp2_with (go_at_call 115;refine (most_ok _ _ H.out).mono ?_;rintro e w1 ⟨rfl,hB1⟩)
  go_ret
  exact ⟨rfl,hB1⟩
@[reducible] def spanV (lo:Int) (ls:Bool) (hi:Int) (hs op:Bool):Value:=.agg #[.int .i64 lo,.bool ls,.int .i64 hi,.bool hs,.bool op]
def MayS (lo hi:Int) (hs op:Bool):Prop:=In lo∧((op=true∧hi=0∧hs=false)∨(op=false∧In hi∧lo≤hi))
instance decMayS (lo hi:Int) (hs op:Bool):Decidable (MayS lo hi hs op):=by unfold MayS;exact inferInstance
theorem span_any (lo:Int) (ls:Bool) (hi:Int) (hs op:Bool) (w:World):Calls Tryz.prog 137 #[.agg #[.int .i64 lo,.bool ls,.int .i64 hi,.bool hs,.bool op]] w fun e w'=>e=.returned (.int .i64 (if MayS lo hi hs op then 0 else 8))∧Below w.heap.size w w':=by
 by_cases h1:In lo
 ·have H1:=Lib.hid h1
  cases op with
  | true=>
   by_cases h2:hi=0
   ·subst h2
    cases hs with
    | true=>
     rw [if_neg (by unfold MayS;simp)]
     clear h1
     go_enter Tryz.func137,Tryz.ntmps137
     go_wp2_with (go_at_call 185;refine (beyond_no _ _ H1.out).mono ?_;rintro e w' ⟨rfl,rfl⟩)
     go_ret
     exact ⟨rfl,up1 _ _⟩
    | false=>
     rw [if_pos (by unfold MayS;exact ⟨h1,.inl ⟨rfl,rfl,rfl⟩⟩)]
     clear h1
     go_enter Tryz.func137,Tryz.ntmps137
     go_wp2_with (go_at_call 185;refine (beyond_no _ _ H1.out).mono ?_;rintro e w' ⟨rfl,rfl⟩)
     go_ret
     exact ⟨rfl,up1 _ _⟩
   ·rw [if_neg (by unfold MayS;simp [h2])]
    have t1:(hi !=0)=true:=by simpa using h2
    clear h1
    go_enter Tryz.func137,Tryz.ntmps137
    go_wp2_with (go_at_call 185;refine (beyond_no _ _ H1.out).mono ?_;rintro e w' ⟨rfl,rfl⟩)
    go_ret
    exact ⟨rfl,up1 _ _⟩
  | false=>
   by_cases h2:In hi
   ·have H2:=Lib.hid h2
    by_cases h3:hi<lo
    ·rw [if_neg (by
      unfold MayS
      rintro ⟨_,⟨h,_⟩ | ⟨_,_,h⟩⟩
      ·cases h
      ·omega)]
     clear h1 h2
     go_enter Tryz.func137,Tryz.ntmps137
     go_wp2_with (go_at_call 185;(first | (with_reducible refine (beyond_no lo _ H1.out).mono ?_) | (with_reducible refine (beyond_no hi _ H2.out).mono ?_));rintro e w' ⟨rfl,rfl⟩)
     go_ret
     exact ⟨rfl,up1 _ _⟩
    ·rw [if_pos (by unfold MayS;exact ⟨h1,.inr ⟨rfl,h2,by omega⟩⟩)]
     clear h1 h2
     go_enter Tryz.func137,Tryz.ntmps137
     go_wp2_with (go_at_call 185;(first | (with_reducible refine (beyond_no lo _ H1.out).mono ?_) | (with_reducible refine (beyond_no hi _ H2.out).mono ?_));rintro e w' ⟨rfl,rfl⟩)
     go_ret
     exact ⟨rfl,up1 _ _⟩
   ·have H2:=Lib.hid h2
    rw [if_neg (by
     unfold MayS
     rintro ⟨_,⟨h,_⟩ | ⟨_,h,_⟩⟩
     ·cases h
     ·exact h2 h)]
    clear h1 h2
    go_enter Tryz.func137,Tryz.ntmps137
    go_wp2_with (go_at_call 185;(first | (with_reducible refine (beyond_no lo _ H1.out).mono ?_) | (with_reducible refine (beyond_yes hi _ H2.out).mono ?_));rintro e w' ⟨rfl,rfl⟩)
    go_ret
    exact ⟨rfl,up1 _ _⟩
 ·have H1:=Lib.hid h1
  rw [if_neg (fun h=>h1 h.1)]
  clear h1
  go_enter Tryz.func137,Tryz.ntmps137
  go_wp2_with (go_at_call 185;refine (beyond_yes _ _ H1.out).mono ?_;rintro e w' ⟨rfl,rfl⟩)
  go_ret
  exact ⟨rfl,up1 _ _⟩
end Go.Proofs.YthmljpccbjolgaaGreatDoor.tight
namespace Go.Proofs.YthmljpccbjolgaaGreatDoor.tight
open Go.ChangeShapes Go.WideShapes Go.ChangeAt Go.RowKit num dbm
open bound hiding up
set_option linter.unusedVariables false
set_option linter.unusedSimpArgs false
abbrev Mo:=Nat × Nat × Int
def mo (ms:List Mo) (k:Nat):Mo:=ms[k]?.getD (0,0,0)
def RowM (W:World) (g off:Nat) (ms:List Mo):Prop:=∀ k,k<ms.length→W.cell? ⟨g,off+k*3,none⟩=some (.int .i64 ((mo ms k).1:Int))∧W.cell? ⟨g,off+k*3+1,none⟩=some (.int .i64 ((mo ms k).2.1:Int))∧W.cell? ⟨g,off+k*3+2,none⟩=some (.int .i64 (mo ms k).2.2)
theorem RowM.below {n:Nat} {W W':World} {g off:Nat} {ms:List Mo} (h:RowM W g off ms) (k:Below n W W') (hg:g<n):RowM W' g off ms:=fun p hp=>by
 obtain ⟨h1,h2,h3⟩:=h p hp
 exact ⟨(k.cell (p:=⟨g,off+p*3,none⟩) hg).trans h1,(k.cell (p:=⟨g,off+p*3+1,none⟩) hg).trans h2,(k.cell (p:=⟨g,off+p*3+2,none⟩) hg).trans h3⟩
def setAll (n:Nat) (ts:List Int) (ms:List Mo):List Int:=ms.foldl (fun t m=>setT t (m.1*n+m.2.1) m.2.2) ts
theorem setAll_up (n:Nat) (ts:List Int) (ms:List Mo) (k:Nat) (hk:k<ms.length):setAll n ts (ms.take (k+1))=setT (setAll n ts (ms.take k)) ((mo ms k).1*n+(mo ms k).2.1) (mo ms k).2.2:=by
 unfold setAll mo
 rw [←List.take_append_getElem hk,List.foldl_append,List.getElem?_eq_getElem hk]
 rfl
theorem setAll_length (n:Nat) (ts:List Int) (ms:List Mo):(setAll n ts ms).length=ts.length:=by
 unfold setAll
 induction ms generalizing ts with
 | nil=>rfl
 | cons m ms ih=>exact (ih _).trans (setT_length _ _ _)
theorem setAll_tops {n:Nat} {ts:List Int} (h:Tops ts) (ms:List Mo):Tops (setAll n ts ms):=by
 unfold setAll
 induction ms generalizing ts with
 | nil=>exact h
 | cons m ms ih=>exact ih (setT_tops h _ _)
def Ans (n:Int) (ts:List Int) (na:Int) (us:List Int) (f:Int):Prop:=(¬ OkD n ts∧na=0∧us=[]∧f=if MayD n ts then 6 else 8)∨(OkD n ts∧na=n∧us=clT n ts∧f=0)
def Blk (n₀:Nat) (W:World) (aa:Option Addr) (la ca:Nat) (us:List Int):Prop:=(aa=none∧la=0∧ca=0∧us=[])∨∃ g,n₀≤g∧aa=some ⟨g,0,none⟩∧la=us.length∧lies.Lies W g 25 (cellsOf us)
theorem Blk.ints {n₀:Nat} {W:World} {aa:Option Addr} {la ca:Nat} {us:List Int} (h:Blk n₀ W aa la ca us):law.Ints W.heap.size W (.slice aa la ca) us:=by
 rcases h with ⟨rfl,rfl,rfl,rfl⟩ | ⟨g,hg,rfl,rfl,h⟩
 ·exact .inl ⟨⟨_,_,rfl,fun _=>rfl⟩,rfl⟩
 ·exact .inr ⟨g,0,_,rfl,lies.lt h,row_of h⟩
theorem Blk.below {n₀:Nat} {W X:World} {aa:Option Addr} {la ca:Nat} {us:List Int} (h:Blk n₀ W aa la ca us) (k:Below W.heap.size W X):Blk n₀ X aa la ca us:=by
 rcases h with h | ⟨g,hg,h1,h2,h⟩
 ·exact .inl h
 ·exact .inr ⟨g,hg,h1,h2,lies.on_call h k⟩
theorem Blk.mono {n₀ n₁:Nat} {W:World} {aa:Option Addr} {la ca:Nat} {us:List Int} (h:Blk n₀ W aa la ca us) (k:n₁≤n₀):Blk n₁ W aa la ca us:=by
 rcases h with h | ⟨g,hg,h1,h2,h⟩
 ·exact .inl h
 ·exact .inr ⟨g,by omega,h1,h2,h⟩
theorem Blk.far {n₀:Nat} {W:World} {aa:Option Addr} {la ca:Nat} {us:List Int} (h:Blk n₀ W aa la ca us) {q:Nat} (hq:q<n₀) (i:Nat) (u:Value):Blk n₀ (W.setCell ⟨q,i,none⟩ u) aa la ca us:=by
 rcases h with h | ⟨g,hg,h1,h2,h⟩
 ·exact .inl h
 ·exact .inr ⟨g,hg,h1,h2,lies.on_far h i (by omega) u⟩
theorem close_g (n:Int) (sv:Value) (ts:List Int) (w:World) (hI:law.Ints w.heap.size w sv ts) (hm:ts.length≤1000000) (htop:Tops ts):
  Calls Tryz.prog 98 #[.agg #[.int .i64 n,sv]] w fun e w'=>Below w.heap.size w w'∧∃ na aa la ca us f,e=.returned (.tuple #[.agg #[.int .i64 na,.slice aa la ca],.int .i64 f])∧Ans n ts na us f∧Blk w.heap.size w' aa la ca us:=by
 by_cases h:MayD n ts
 ·obtain ⟨m,rfl,h0,hn,hl⟩:=may_nat h
  have hp:0<m*m:=Nat.mul_pos h0 h0
  rcases hI with ⟨_,rfl⟩ | ⟨b,off,cap,rfl,hb,hc⟩
  ·simp at hl;omega
  ·rw [hl]
   refine (close_ok m b off cap ts w h0 hc hb htop h hl hn).mono fun e w' ⟨hB,hor⟩=>⟨hB,?_⟩
   rcases hor with ⟨k,hk,hem,rfl⟩ | ⟨hne,g,hg,rfl,hG⟩
   ·exact ⟨0,none,0,0,[],6,rfl,.inl ⟨fun ⟨_,h0',hne⟩=>hne k (by simpa using hk) hem,rfl,rfl,by rw [if_pos h]⟩,.inl ⟨rfl,rfl,rfl,rfl⟩⟩
   ·refine ⟨m,_,_,_,tabs m h0 ts m,0,rfl,.inr ⟨⟨h,by simpa using h0,fun k hk=>hne k (by simpa using hk)⟩,rfl,(clT_nat h0 ts).symm,rfl⟩,.inr ⟨g,hg,rfl,?_,hG⟩⟩
    rw [tabs_length,hl]
 ·exact (close_bad n sv ts w hI hm htop h).mono fun e w' ⟨he,hB⟩=>⟨hB,0,none,0,0,[],8,he,.inl ⟨fun k=>h k.1,rfl,rfl,by rw [if_neg h]⟩,.inl ⟨rfl,rfl,rfl,rfl⟩⟩
def Gives (n:Int) (ts:List Int) (w:World) (e:Ending) (w':World):Prop:=Below w.heap.size w w'∧∃ na aa la ca us f,e=.returned (.tuple #[.agg #[.int .i64 na,.slice aa la ca],.int .i64 f])∧Ans n ts na us f∧Blk w.heap.size w' aa la ca us
def Wi (n b off cap g B off' len cap' gl:Nat) (us ts:List Int) (ms:List Mo) (w W:World):Prop:=
 lies.Lies W w.heap.size 81 #[.int .i64 n,.slice (some ⟨b,off,none⟩) (n*n) cap]∧lies.Lies W (w.heap.size+1) 81 #[.int .i64 0,.slice none 0 0]∧lies.Lies W B 81 #[.int .i64 n,.slice (some ⟨g,0,none⟩) (n*n) (n*n)]∧lies.Lies W g 25 (cellsOf us)∧Below w.heap.size w W
theorem min_lsr (z x:Int):min z x=lsr z x:=by
 by_cases h:x<z
 ·rw [show lsr z x=x from if_pos h];exact Int.min_eq_right (by omega)
 ·rw [show lsr z x=z from if_neg h];exact Int.min_eq_left (by omega)
set_option maxRecDepth 100000 in
set_option maxHeartbeats 4000000 in
theorem with_any (n b off cap gl off' len cap':Nat) (ts:List Int) (ms:List Mo) (w:World) (h0:0<n) (hn:n≤4) (hr:Row w b off ts) (hb:b<w.heap.size) (htop:Tops ts) (hl:ts.length=n*n)
  (hm:RowM w gl off' ms) (hg:gl<w.heap.size) (hlm:ms.length=len) (hml:len≤1000) (hin:∀ k,k<len→(mo ms k).1<n∧(mo ms k).2.1<n):
  Calls Tryz.prog 139 #[.agg #[.int .i64 n,.slice (some ⟨b,off,none⟩) (n*n) cap],.slice (some ⟨gl,off',none⟩) len cap'] w (Gives n (setAll n ts ms) w):=by
 obtain ⟨DB,D0,D1⟩:=dref.box_res n (.slice (some ⟨b,off,none⟩) (n*n) cap) w
 have HR:=Lib.hid hr
 have HT:=Lib.hid htop
 have HL:=Lib.hid hl
 have HM:=Lib.hid hm
 have HLM:=Lib.hid hlm
 have HIN:=Lib.hid hin
 clear hr htop hl hm hlm hin
 have hnn:=sq_le hn
 have hpos:0<n*n:=Nat.mul_pos h0 h0
 go_enter Tryz.func139,Tryz.ntmps139
 go_wp2_with fail
 refine (twin_row n b off (n*n) cap ts _ (HR.out.below DB hb) (by have:=DB.size;omega) HL.out hpos (by omega)).mono ?_
 rintro e w2 ⟨g,hg2,rfl,hG,hB2⟩
 have E0:=lies.on_call D0 hB2
 have E1:=lies.on_call D1 hB2
 have K2:=DB.trans (hB2.mono DB.size)
 have hw:=lies.lt E1
 clear D0 D1 hB2
 go_wp2_with fail
 have W0:Wi n b off cap g w2.heap.size off' len cap' gl (setAll n ts (ms.take 0)) ts ms w (w2.alloc (.cells #[.int .i64 n,.slice (some ⟨g,0,none⟩) (n*n) (n*n)] 81)):=
  ⟨lies.on_alloc E0 _,lies.on_alloc E1 _,lies.made _ _ _,lies.on_alloc hG _,K2.alloc K2.size _⟩
 have hgB:g≠w2.heap.size:=by have:=lies.lt hG;omega
 have hgw:w.heap.size<g:=by have:=DB.size;simp at hg2;omega
 have hgw1:w.heap.size+1<g:=by simp at hg2;omega
 have hBw:w.heap.size<w2.heap.size:=by omega
 clear E0 E1 K2 hG hw
 generalize w2.heap.size=B at W0 hgB hBw ⊢
 generalize w2.alloc (.cells #[.int .i64 n,.slice (some ⟨g,0,none⟩) (n*n) (n*n)] 81)=w3 at W0 ⊢
 go_loopw [14] (fun i wr=>∃ k:Nat,k≤len∧i=.int .i64 k∧Wi n b off cap g B off' len cap' gl (setAll n ts (ms.take k)) ts ms w wr) (fun i _=>len - (intOf i).toNat)
 case atStart=>exact ⟨0,Nat.zero_le _,rfl,W0⟩
 case round=>
  clear W0
  obtain ⟨k,hk,rfl,hA⟩:=hrel
  by_cases hkn:k<len
  ·obtain ⟨hi,hj⟩:=HIN.out k hkn
   obtain ⟨m1,m2,m3⟩:=(HM.out.below hA.2.2.2.2 hg) k (by rw [HLM.out];exact hkn)
   have hup:=setAll_up n ts ms k (by rw [HLM.out];exact hkn)
   have hus:(setAll n ts (ms.take k)).length=n*n:=(setAll_length _ _ _).trans HL.out
   generalize mo ms k=m at hi hj m1 m2 m3 hup
   obtain ⟨i,j,x⟩:=m
   dsimp only at hi hj m1 m2 m3 hup
   have hp:=place_le hn hi hj
   have hz:=(lies.cell hA.2.2.2.1 (i*n+j)).trans (cells_at _ _ (by rw [hus];exact hp))
   have hf:=lies.free hA.2.2.2.1 (i*n+j)
   have hA1:=hA
   unfold setT at hup
   generalize hU:setAll n ts (ms.take k)=us at hA hus hz hup
   generalize hz':us[i*n+j]?.getD 0=z at hz hup
   obtain ⟨y1,y2,y3,y4,y5,y6,y7⟩:=dref.place_int hn hi hj
   obtain ⟨c0,c1,c2,c3,c4⟩:=lies.two hA.1
   obtain ⟨d0,d1,d2,d3,d4⟩:=lies.two hA.2.2.1
   have hgl:=Nat.lt_of_lt_of_le hg hA.2.2.2.2.size
   have hgg:=lies.lt hA.2.2.2.1
   clear hA1
   have HUP:=Lib.hid hup
   have HUS:=Lib.hid hus
   have HU:=Lib.hid hU
   have HZ:=Lib.hid hz'
   clear hup hus hU hz'
   go_wp2_with fail
   have A1:Wi n b off cap g B off' len cap' gl us ts ms w (wr.alloc (.cells #[.int .i64 i,.int .i64 j,.int .i64 x] 164)):=
    ⟨lies.on_alloc hA.1 _,lies.on_alloc hA.2.1 _,lies.on_alloc hA.2.2.1 _,lies.on_alloc hA.2.2.2.1 _,hA.2.2.2.2.alloc hA.2.2.2.2.size _⟩
   have M1:=lies.made wr 164 #[.int .i64 i,.int .i64 j,.int .i64 x]
   have hz1:=lies.cell A1.2.2.2.1 (i*n+j)
   rw [cells_at us (i*n+j) (by rw [HUS.out];exact hp),HZ.out] at hz1
   clear hA m1 m2 m3 c0 c1 c2 c3 c4 d0 d1 d2 d3 d4 hz hf
   generalize wr.heap.size=Bm at M1 ⊢
   generalize wr.alloc (.cells #[.int .i64 i,.int .i64 j,.int .i64 x] 164)=w5 at A1 M1 hz1 ⊢
   have hfz:=lies.free A1.2.2.2.1 (i*n+j)
   have hgBm:=ne_type A1.2.2.2.1 M1 (by decide)
   have S0:∀ W,Below w5.heap.size w5 W→W.cell? ⟨B,1,none⟩=some (.slice (some ⟨g,0,none⟩) (n*n) (n*n))∧W.cell? ⟨Bm,2,none⟩=some (.int .i64 x):=fun W hW=>⟨(dlaw.at_s A1.2.2.1 hW).2,lies.cell (lies.on_call M1 hW) 2⟩
   refine wp_region_held_drew (S:=fun W=>W.cell? ⟨B,1,none⟩=some (.slice (some ⟨g,0,none⟩) (n*n) (n*n))∧W.cell? ⟨Bm,2,none⟩=some (.int .i64 x)) (by kernel_rfl) (S0 _ (dbm.drawn1 (Below.refl _ _))) (fun hHeld=>?_)
   refine tk 0 (v:=?_) rfl hHeld ?_ ?_
   rotate_left
   ·intro w hSw;obtain ⟨s0,s1⟩:=hSw;go_simp;try with_reducible rfl
   try simp only [Act.put,sA,sB,sC,sD,sE,sF]
   refine tk 1 (v:=?_) rfl hHeld ?_ ?_
   rotate_left
   ·intro w hSw;obtain ⟨s0,s1⟩:=hSw;go_simp;try with_reducible rfl
   try simp only [Act.put,sA,sB,sC,sD,sE,sF]
   refine tk 2 (v:=?_) rfl hHeld ?_ ?_
   rotate_left
   ·intro w hSw;obtain ⟨s0,s1⟩:=hSw;go_simp;try with_reducible rfl
   try simp only [Act.put,sA,sB,sC,sD,sE,sF]
   refine tk 3 (v:=?_) rfl hHeld ?_ ?_
   rotate_left
   ·intro w hSw;obtain ⟨s0,s1⟩:=hSw;go_simp;try with_reducible rfl
   try simp only [Act.put,sA,sB,sC,sD,sE,sF]
   refine tk 4 (v:=?_) rfl hHeld ?_ ?_
   rotate_left
   ·intro w hSw;obtain ⟨s0,s1⟩:=hSw;go_simp;try with_reducible rfl
   try simp only [Act.put,sA,sB,sC,sD,sE,sF]
   refine tk 5 (v:=?_) rfl hHeld ?_ ?_
   rotate_left
   ·intro w hSw;obtain ⟨s0,s1⟩:=hSw;go_simp;try with_reducible rfl
   try simp only [Act.put,sA,sB,sC,sD,sE,sF]
   refine tk 6 (v:=?_) rfl hHeld ?_ ?_
   rotate_left
   ·intro w hSw;obtain ⟨s0,s1⟩:=hSw;go_simp;try with_reducible rfl
   try simp only [Act.put,sA,sB,sC,sD,sE,sF]
   refine tk 8 (v:=?_) rfl hHeld ?_ ?_
   rotate_left
   ·intro w hSw;obtain ⟨s0,s1⟩:=hSw;go_simp;try with_reducible rfl
   try simp only [Act.put,sA,sB,sC,sD,sE,sF]
   refine tk 9 (v:=?_) rfl hHeld ?_ ?_
   rotate_left
   ·intro w hSw;obtain ⟨s0,s1⟩:=hSw;go_simp;try with_reducible rfl
   try simp only [Act.put,sA,sB,sC,sD,sE,sF]
   refine wpAnyH_ready (rs:=[7]) (by kernel_rfl) (by simp) (AllReadyH.cons rfl (fun K hK=>?_) AllReadyH.nil)
   go_simp
   refine hK.out _ _ (S0 _ (dbm.drawn1 (Below.refl _ _))) (fun hNew=>?_)
   clear hHeld hK K
   have hHeld:=hNew
   clear hNew
   try simp only [Act.put,sA,sB,sC,sD,sE,sF]
   refine wpAnyH_ready (rs:=[10]) (by kernel_rfl) (by simp) (AllReadyH.cons rfl (fun K hK=>?_) AllReadyH.nil)
   go_simp
   refine hK.out _ _ (S0 _ (dbm.drawn1 (Below.refl _ _))) (fun hNew=>?_)
   clear hHeld hK K
   have hHeld:=hNew
   clear hNew
   try simp only [Act.put,sA,sB,sC,sD,sE,sF]
   refine tk 11 (v:=?_) rfl hHeld ?_ ?_
   rotate_left
   ·intro w hSw;obtain ⟨s0,s1⟩:=hSw;go_simp;try with_reducible rfl
   try simp only [Act.put,sA,sB,sC,sD,sE,sF]
   refine wpAnyH_ready (rs:=[12]) (by kernel_rfl) (by simp) (AllReadyH.cons rfl (fun K hK=>?_) AllReadyH.nil)
   go_simp
   first | rw [min_lsr z x] | rw [if_lsr z x]
   have A2:Wi n b off cap g B off' len cap' gl (us.set (i*n+j) (lsr z x)) ts ms w (w5.setCell ⟨g,i*n+j,none⟩ (.int .i64 (lsr z x))).drew∧lies.Lies (w5.setCell ⟨g,i*n+j,none⟩ (.int .i64 (lsr z x))).drew Bm 164 #[.int .i64 i,.int .i64 j,.int .i64 x]:=by
    have P:=lies.on_put A1.2.2.2.1 (i*n+j) (.int .i64 (lsr z x))
    rw [cells_set] at P
    have D:=fun {bb:Nat} {t:TypeId} {cs:Array Value} (h:lies.Lies w5 bb t cs) (hne:bb≠g)=>lies.on_call (lies.on_far h (i*n+j) hne (.int .i64 (lsr z x))) (dbm.drawn1 (Below.refl _ _))
    exact ⟨⟨D A1.1 (by omega),D A1.2.1 (by omega),D A1.2.2.1 (Ne.symm hgB),lies.on_call P (dbm.drawn1 (Below.refl _ _)),dbm.drawn1 (A1.2.2.2.2.setCell (p:=⟨g,i*n+j,none⟩) (Nat.le_of_lt hgw) _)⟩,D M1 (Ne.symm hgBm)⟩
   refine hK.out _ _ ⟨(lies.two A2.1.2.2.1).2.1,lies.cell A2.2 2⟩ (fun hNew=>?_)
   clear hHeld hK K hNew S0
   refine wpAnyH_done (by kernel_rfl) ?_ _
   replace A2:=A2.1
   clear A1 M1 hz1 hfz
   generalize (w5.setCell ⟨g,i*n+j,none⟩ (.int .i64 (lsr z x))).drew=w6 at A2 ⊢
   go_wp2_with fail
   go_roundw
   case rel=>exact ⟨k+1,by omega,by go_num,by rw [HUP.out];exact A2⟩
   case measure=>simp [intOf];omega
  ·obtain rfl:len=k:=by omega
   have htk:ms.take len=ms:=by rw [←HLM.out];exact List.take_length
   rw [htk] at hA
   obtain ⟨c0,c1,c2,c3,c4⟩:=lies.two hA.2.2.1
   have hlen:(setAll n ts ms).length=n*n:=(setAll_length _ _ _).trans HL.out
   have hI:law.Ints wr.heap.size wr (.slice (some ⟨g,0,none⟩) (n*n) (n*n)) (setAll n ts ms):=by
    have:=dlaw.own_ints (cap:=n*n) hA.2.2.2.1
    rwa [hlen] at this
   have HC:=Lib.hid (close_g n _ (setAll n ts ms) wr hI (by omega) (setAll_tops HT.out ms))
   clear hI hlen htk
   go_wp2_with fail
   refine HC.out.mono ?_
   rintro e w4 ⟨hB4,na,aa,la,ca,vs,f,rfl,hAns,hBlk⟩
   have F1:=lies.on_call hA.2.1 hB4
   have FB:=hA.2.2.2.2.trans (hB4.mono hA.2.2.2.2.size)
   have hle:=hA.2.2.2.2.size
   have hlt:=lies.lt hA.2.1
   clear c0 c1 c2 c3 c4 hA HC hB4
   obtain ⟨x0,x1,x2,x3,x4⟩:=lies.two F1
   go_wp2_with fail
   refine bodyPost_ret (v:=.tuple #[.agg #[.int .i64 na,.slice aa la ca],.int .i64 f]) (by simp [results,Tryz.results139,go_sem,x0,x1]) rfl ⟨dref.ret_res FB (by omega) _ _,na,aa,la,ca,vs,f,rfl,hAns,?_⟩
   exact ((hBlk.far hlt 0 _).far hlt 1 _).mono (by omega)
end Go.Proofs.YthmljpccbjolgaaGreatDoor.tight
namespace Go.Proofs.YthmljpccbjolgaaGreatDoor.tight
open Go.ChangeShapes Go.WideShapes Go.ChangeAt Go.RowKit num dbm
open bound hiding up
set_option linter.unusedVariables false
set_option linter.unusedSimpArgs false
def Clk (n i:Int):Prop:=0≤i∧i<n
instance decClk (n i:Int):Decidable (Clk n i):=by unfold Clk;exact inferInstance
def Res (n:Int) (q:Option (List Int)) (err na:Int) (us:List Int) (f:Int):Prop:=(q=none∧na=0∧us=[]∧f=err)∨∃ ts,q=some ts∧Ans n ts na us f
def Tells (n:Int) (q:Option (List Int)) (err:Int) (w:World) (e:Ending) (w':World):Prop:=Below w.heap.size w w'∧∃ na aa la ca us f,e=.returned (.tuple #[.agg #[.int .i64 na,.slice aa la ca],.int .i64 f])∧Res n q err na us f∧Blk w.heap.size w' aa la ca us
theorem Tells.err {n err:Int} {w w':World} (h:Below w.heap.size w w'):Tells n none err w (.returned (.tuple #[.agg #[.int .i64 0,.slice none 0 0],.int .i64 err])) w':=⟨h,0,none,0,0,[],err,rfl,.inl ⟨rfl,rfl,rfl,rfl⟩,.inl ⟨rfl,rfl,rfl,rfl⟩⟩
theorem clk_yes {n i:Int} (h:Clk n i):(decide (0≤i) && decide (i<n))=true:=by simp [h.1,h.2]
theorem clk_no {n i:Int} (h:¬ Clk n i):(decide (0≤i) && decide (i<n))=false:=by
 unfold Clk at h
 by_cases k:0≤i
 ·have:¬ i<n:=fun l=>h ⟨k,l⟩
  simp [this]
 ·simp [k]
theorem clock_yes {n i:Int} (h:Clk n i) (sv:Value) (w:World):Calls Tryz.prog 136 #[.agg #[.int .i64 n,sv],.int .i64 i] w fun e w'=>e=.returned (.bool true)∧Below w.heap.size w w':=by
 have:=clock_any n i sv w
 rwa [clk_yes h] at this
theorem clock_no {n i:Int} (h:¬ Clk n i) (sv:Value) (w:World):Calls Tryz.prog 136 #[.agg #[.int .i64 n,sv],.int .i64 i] w fun e w'=>e=.returned (.bool false)∧Below w.heap.size w w':=by
 have:=clock_any n i sv w
 rwa [clk_no h] at this
theorem own_far {w:World} {base n s:Nat} {t:TypeId} {v:Value} {xs:List Value} (h:w.ownsRow base t s v n xs) {p:Addr} (hp:p.block<base) (u:Value):(w.setCell p u).ownsRow base t s v n xs:=by
 refine h.kept (row:=some p.block) ⟨rfl,rfl,rfl,by simp,fun k hk hne=>Below.heap_setCell w p u k (fun e=>hne (by rw [e]))⟩ ?_
 cases hv:v.ownBlock with
 | none=>exact .inl rfl
 | some k=>exact .inr (fun e=>by have:=(h.lt k hv).1;have:=Option.some.inj e;omega)
theorem set_below {base B:Nat} {t:TypeId} {v x:Value} {w X:World} (h:Below base w X) (hw:lies.Lies w B t #[v]) (hX:lies.Lies X B t #[x]) (u:Value):Below base (w.setCell ⟨B,0,none⟩ u) (X.setCell ⟨B,0,none⟩ u):=by
 refine ⟨h.os,h.tape,h.output,by simpa using h.size,fun k hk=>?_⟩
 by_cases e:k=B
 ·subst e
  have h1:(X.setCell ⟨k,0,none⟩ u).heap[k]?=_:=lies.on_put hX 0 u
  have h2:(w.setCell ⟨k,0,none⟩ u).heap[k]?=_:=lies.on_put hw 0 u
  rw [h1,h2];rfl
 ·rw [Below.heap_setCell X ⟨B,0,none⟩ u k e,Below.heap_setCell w ⟨B,0,none⟩ u k e]
  exact h.block k hk
theorem set_set {base B:Nat} {t:TypeId} {v x:Value} {w X Y:World} (hw:lies.Lies w B t #[v]) (hX:lies.Lies X B t #[x]) (h:Below base (w.setCell ⟨B,0,none⟩ x) X) (u:Value) (k:Below base (X.setCell ⟨B,0,none⟩ u) Y):Below base (w.setCell ⟨B,0,none⟩ u) Y:=by
 have h0:Below base (w.setCell ⟨B,0,none⟩ u) (X.setCell ⟨B,0,none⟩ u):=by
  refine ⟨h.os,h.tape,h.output,by simpa using h.size,fun q hq=>?_⟩
  by_cases e:q=B
  ·subst e
   have h1:(X.setCell ⟨q,0,none⟩ u).heap[q]?=_:=lies.on_put hX 0 u
   have h2:(w.setCell ⟨q,0,none⟩ u).heap[q]?=_:=lies.on_put hw 0 u
   rw [h1,h2];rfl
  ·rw [Below.heap_setCell X ⟨B,0,none⟩ u q e,Below.heap_setCell w ⟨B,0,none⟩ u q e]
   exact (h.block q hq).trans (Below.heap_setCell w ⟨B,0,none⟩ x q e)
 exact h0.trans k
theorem info_m:(Tryz.prog.info? 164).map (fun i=>(i.zero,i.size,i.bytes))=some (some (.agg #[.int .i64 0,.int .i64 0,.int .i64 0]),3,24):=by kernel_rfl
theorem three_new {W:World} {g:Nat} {t:TypeId} {x y z:Value} (h:lies.Lies W g t #[x,y,z]) (p:Nat) (u:Value) (hp:[x,y,z][p]?=some u):W.cell? ((⟨g,0,none⟩:Addr).add p)=some u:=by
 have:=lies.cell h p
 rcases p with _ | _ | _ | p
 ·cases hp;exact this
 ·cases hp;exact this
 ·cases hp;exact this
 ·simp at hp
theorem own_slice {W:World} {base n:Nat} {t:TypeId} {s:Nat} {v:Value} {xs:List Value} (h:W.ownsRow base t s v n xs):∃ a l c,v=.slice a l c:=by
 rcases Go.Joins.ownsRow_forms h with ⟨rfl,_⟩ | ⟨g,cap,rfl⟩
 ·exact ⟨_,_,_,rfl⟩
 ·exact ⟨_,_,_,rfl⟩
set_option maxRecDepth 100000 in
set_option maxHeartbeats 2000000 in
theorem meet1_any (i j x:Int) (B base k:Nat) (v:Value) (xs:List Value) (w:World) (hB:lies.Lies w B 175 #[v]) (hb:B<base) (hs:base≤w.heap.size) (hO:w.ownsRow base 164 3 v k xs) (hk:k≤1000):
  Calls Tryz.prog 152 #[.agg #[.int .i64 i,.int .i64 j,.int .i64 x],.pointer (some ⟨B,0,none⟩)] w fun e w'=>e=.returned (.tuple #[])∧∃ v',Below base (w.setCell ⟨B,0,none⟩ v') w'∧w'.ownsRow base 164 3 v' (k+1) (xs++[.int .i64 i,.int .i64 j,.int .i64 x]):=by
 obtain ⟨i0,hi,hz0,hz1,hz2⟩:=info_parts info_m
 have HI:=Lib.hid (And.intro hi (And.intro hz0 (And.intro hz1 hz2)))
 clear hi hz0 hz1 hz2
 have c0:=lies.cell hB 0
 have f0:=lies.free hB 0
 have l0:=lies.lt hB
 have L2:=lies.on_alloc (lies.on_alloc hB (.cells #[.int .i64 i,.int .i64 j,.int .i64 x] 164)) (.cells #[.int .i64 i,.int .i64 j,.int .i64 x] 164)
 have M2:=lies.made_at (w.alloc (.cells #[.int .i64 i,.int .i64 j,.int .i64 x] 164)) 164 #[.int .i64 i,.int .i64 j,.int .i64 x] (w.heap.size+1) (by simp)
 have O2:=(hO.alloc (.cells #[.int .i64 i,.int .i64 j,.int .i64 x] 164)).alloc (.cells #[.int .i64 i,.int .i64 j,.int .i64 x] 164)
 go_enter Tryz.func152,Tryz.ntmps152
 go_wp2_with (at_builtin;refine wpList_append_own _ rfl (.tmp 3) (.tmp 5) 175 rfl base 164 i0 (.agg #[.int .i64 0,.int .i64 0,.int .i64 0]) 3 24 Tryz.underlying175 HI.out.1 HI.out.2.1 HI.out.2.2.1 HI.out.2.2.2 rfl (by decide) _ _ _ rfl O2 ⟨w.heap.size+1,0,none⟩ 1 1 [.int .i64 i,.int .i64 j,.int .i64 x] rfl rfl (three_new M2) (by simp [Value.oneCell']) (by unfold maxLen;omega) (by omega) (by simp;omega) ?_;intro v' w1 hown' hgrow _;obtain ⟨a',l',c',rfl⟩:=own_slice hown';have N1:lies.Lies w1 B 175 #[v]:=(World.grownBy.block hgrow B (lies.lt L2) (fun e=>by have:=(hO.lt B e.symm).1;omega)).trans L2;have NB:Below base w w1:=(bound.up2 w (.cells #[.int .i64 i,.int .i64 j,.int .i64 x] 164) (.cells #[.int .i64 i,.int .i64 j,.int .i64 x] 164)).mono hs |>.grown hgrow (by simp;omega) (fun q e=>(hO.lt q e).1);have c1:=lies.cell N1 0;have f1:=lies.free N1 0;have l1:=lies.lt N1)
 go_end0
 exact ⟨rfl,_,set_below NB hB N1 _,own_far hown' (p:=⟨B,0,none⟩) hb _⟩
def moOf (n:Nat) (us:List Int):List Mo:=(List.range us.length).map fun p=>(p / n,p % n,us[p]?.getD 0)
def flatM (ms:List Mo):List Value:=ms.flatMap fun m=>[.int .i64 (m.1:Int),.int .i64 (m.2.1:Int),.int .i64 m.2.2]
theorem moOf_length (n:Nat) (us:List Int):(moOf n us).length=us.length:=by simp [moOf]
theorem moOf_at (n:Nat) (us:List Int) {p:Nat} (h:p<us.length):mo (moOf n us) p=(p / n,p % n,us[p]?.getD 0):=by
 unfold mo moOf
 rw [List.getElem?_map,List.getElem?_range h];rfl
theorem flat_up (ms:List Mo) (k:Nat) (h:k<ms.length):flatM (ms.take (k+1))=flatM (ms.take k)++[.int .i64 ((mo ms k).1:Int),.int .i64 ((mo ms k).2.1:Int),.int .i64 (mo ms k).2.2]:=by
 unfold flatM mo
 rw [←List.take_append_getElem h,List.flatMap_append,List.getElem?_eq_getElem h]
 rfl
def EachI (n B:Nat) (us:List Int) (W0:World) (k:Nat) (W:World):Prop:=∃ v,Below W0.heap.size (W0.setCell ⟨B,0,none⟩ v) W∧W.ownsRow W0.heap.size 164 3 v k (flatM ((moOf n us).take k))
theorem put_own {W:World} {B n:Nat} {t:TypeId} {v:Value} (h:lies.Lies W B t #[v]):Below n (W.setCell ⟨B,0,none⟩ v) W:=by
 refine ⟨rfl,rfl,rfl,by simp,fun q _=>?_⟩
 by_cases e:q=B
 ·subst e
  have h2:(W.setCell ⟨q,0,none⟩ v).heap[q]?=_:=lies.on_put h 0 v
  have h1:W.heap[q]?=_:=h
  rw [h1,h2];rfl
 ·exact (Below.heap_setCell W ⟨B,0,none⟩ v q e).symm
set_option maxRecDepth 100000 in
set_option maxHeartbeats 4000000 in
theorem each_any (n b off cap B:Nat) (us:List Int) (w:World) (h0:0<n) (hn:n≤4) (hr:Row w b off us) (hb:b<w.heap.size) (hl:us.length=n*n) (hB:lies.Lies w B 175 #[.slice none 0 0]) (hbB:b≠B):
  Calls Tryz.prog 151 #[.agg #[.int .i64 n,.slice (some ⟨b,off,none⟩) (n*n) cap],.func (.func 152) #[] #[.pointer (some ⟨B,0,none⟩)]] w fun e w'=>e=.returned (.tuple #[])∧∃ v',Below w.heap.size (w.setCell ⟨B,0,none⟩ v') w'∧w'.ownsRow w.heap.size 164 3 v' (n*n) (flatM (moOf n us)):=by
 have hsq:=sq_le hn
 have K0:=up1 w (.cells #[.int .i64 n,.slice (some ⟨b,off,none⟩) (n*n) cap] 81)
 have D0:=lies.made w 81 #[.int .i64 n,.slice (some ⟨b,off,none⟩) (n*n) cap]
 have B0:=lies.on_alloc hB (.cells #[.int .i64 n,.slice (some ⟨b,off,none⟩) (n*n) cap] 81)
 have R0:=hr.below K0 hb
 have hBw:=lies.lt hB
 have hbw:b<w.heap.size+1:=by omega
 have HK:=Lib.hid K0
 have HL:=Lib.hid hl
 have HB:=Lib.hid hB
 have hM:(moOf n us).length=n*n:=(moOf_length n us).trans hl
 have HM:=Lib.hid hM
 clear hr hl hB K0 hM
 go_enter Tryz.func151,Tryz.ntmps151
 go_wp2_with fail
 have hs0:(w.alloc (.cells #[.int .i64 n,.slice (some ⟨b,off,none⟩) (n*n) cap] 81)).heap.size=w.heap.size+1:=World.size_alloc _ _
 have HS:=Lib.hid hs0
 generalize hW0:w.alloc (.cells #[.int .i64 n,.slice (some ⟨b,off,none⟩) (n*n) cap] 81)=W0 at D0 B0 R0 hs0 HS HK ⊢
 clear hs0
 have I0:EachI n B us W0 0 W0:=⟨_,put_own B0,World.ownsRow_nil _ _ _ _⟩
 have HD:=Lib.hid D0
 have HB0:=Lib.hid B0
 have HR0:=Lib.hid R0
 clear hW0 D0 B0 R0
 go_loopw [9] (fun i wr=>∃ k:Nat,k≤n*n∧i=.int .i64 k∧EachI n B us W0 k wr) (fun i _=>n*n - (intOf i).toNat)
 case atStart=>exact ⟨0,Nat.zero_le _,rfl,I0⟩
 case round=>
  clear I0
  obtain ⟨k,hk,rfl,v,hA,hO⟩:=hrel
  have D1:=lies.on_call (lies.on_far HD.out (b:=B) 0 (by omega) v) (hA.mono (by simp))
  have B1:=lies.on_call (lies.on_put HB0.out 0 v) (hA.mono (by simp))
  by_cases hkn:k<n*n
  ·have R1:Row (W0.setCell ⟨B,0,none⟩ v) b off us:=fun p hp=>(World.cell?_of_block (Below.heap_setCell W0 ⟨B,0,none⟩ v b hbB)).trans (HR0.out p hp)
   have hc:=(R1.below hA (by simp [HS.out];omega)) k (by rw [HL.out];exact hkn)
   have hup:=flat_up (moOf n us) k (by rw [HM.out];exact hkn)
   rw [moOf_at n us (by rw [HL.out];exact hkn)] at hup
   dsimp only at hup
   generalize us[k]?.getD 0=x at hc hup
   have q1:(k:Int) / n=((k / n:Nat):Int):=(Int.natCast_ediv k n).symm
   have q2:(k:Int).tmod n=((k % n:Nat):Int):=by rw [Int.tmod_eq_emod_of_nonneg (by omega)];exact (Int.natCast_emod k n).symm
   have hP:k / n≤k:=Nat.div_le_self _ _
   generalize k / n=P at q1 hup hP
   generalize k % n=R at q2 hup
   have q3:¬ n=0:=by omega
   have q4:IntKind.i64.wrap (P:Int)=P:=IntWalk.i64_in _ ⟨by omega,by omega⟩
   have q5:=q4
   rw [IntWalk.i64_left] at q5
   have hkk:(k:Int)<(n:Int)*n:=by rw [←Int.natCast_mul];omega
   have hbr:b<wr.heap.size:=by have:=hA.size;simp [HS.out] at this;omega
   have HUP:=Lib.hid hup
   have hsz:=hA.size
   simp only [World.size_setCell] at hsz
   clear R1 hup
   obtain ⟨c0,c1,c2,c3,c4⟩:=lies.two D1
   go_wp2_with fail
   refine wp_region_held_drew (S:=fun W=>W.cell? ⟨w.heap.size,0,none⟩=some (.int .i64 n)) (by kernel_rfl) (lies.two (lies.on_call D1 (dbm.drawn1 (Below.refl _ _)))).1 (fun hHeld=>?_)
   refine tk 0 (v:=?_) rfl hHeld ?_ ?_
   rotate_left
   ·intro w hSw;have s0:=hSw;go_simp;try with_reducible rfl
   try simp only [Act.put,sA,sB,sC,sD,sE,sF]
   refine tk 1 (v:=?_) rfl hHeld ?_ ?_
   rotate_left
   ·intro w hSw;have s0:=hSw;go_simp;try with_reducible rfl
   try simp only [Act.put,sA,sB,sC,sD,sE,sF]
   refine tk 2 (v:=?_) rfl hHeld ?_ ?_
   rotate_left
   ·intro w hSw;have s0:=hSw;go_simp;try with_reducible rfl
   try simp only [Act.put,sA,sB,sC,sD,sE,sF]
   refine tk 3 (v:=?_) rfl hHeld ?_ ?_
   rotate_left
   ·intro w hSw;have s0:=hSw;go_simp;try with_reducible rfl
   try simp only [Act.put,sA,sB,sC,sD,sE,sF]
   refine tk 4 (v:=?_) rfl hHeld ?_ ?_
   rotate_left
   ·intro w hSw;have s0:=hSw;go_simp;try with_reducible rfl
   try simp only [Act.put,sA,sB,sC,sD,sE,sF]
   refine tk 5 (v:=?_) rfl hHeld ?_ ?_
   rotate_left
   ·intro w hSw;have s0:=hSw;go_simp;try with_reducible rfl
   try simp only [Act.put,sA,sB,sC,sD,sE,sF]
   refine tk 6 (v:=?_) rfl hHeld ?_ ?_
   rotate_left
   ·intro w hSw;have s0:=hSw;go_simp;try with_reducible rfl
   try simp only [Act.put,sA,sB,sC,sD,sE,sF]
   refine tk 7 (v:=?_) rfl hHeld ?_ ?_
   rotate_left
   ·intro w hSw;have s0:=hSw;go_simp;try with_reducible rfl
   try simp only [Act.put,sA,sB,sC,sD,sE,sF]
   refine tk 8 (v:=?_) rfl hHeld ?_ ?_
   rotate_left
   ·intro w hSw;have s0:=hSw;go_simp;try with_reducible rfl
   try simp only [Act.put,sA,sB,sC,sD,sE,sF]
   refine tk 9 (v:=?_) rfl hHeld ?_ ?_
   rotate_left
   ·intro w hSw;have s0:=hSw;go_simp;try with_reducible rfl
   try simp only [Act.put,sA,sB,sC,sD,sE,sF]
   refine tk 10 (v:=?_) rfl hHeld ?_ ?_
   rotate_left
   ·intro w hSw;have s0:=hSw;go_simp;try with_reducible rfl
   try simp only [Act.put,sA,sB,sC,sD,sE,sF]
   refine wpAnyH_ready (rs:=[11]) (by kernel_rfl) (by simp) (AllReadyH.cons rfl (fun K hK=>?_) AllReadyH.nil)
   go_simp
   refine (meet1_any P R x B W0.heap.size k v _ wr.drew (lies.on_drew B1) (by simp [HS.out];omega) (by simpa using hsz) (hO.kept (row:=none) ⟨rfl,rfl,rfl,Nat.le_refl _,fun _ _ _=>rfl⟩ (by cases v.ownBlock<;>simp)) (by omega)).mono ?_
   rintro e w1 ⟨rfl,v',hB1,hO1⟩
   have hA1:=set_set HB0.out (lies.on_drew B1) (hA.trans ⟨rfl,rfl,rfl,Nat.le_refl _,fun _ _=>rfl⟩) v' hB1
   rw [←HUP.out] at hO1
   have D2:=lies.on_call (lies.on_far HD.out (b:=B) 0 (by omega) v') (hA1.mono (by simp))
   refine hK.out _ _ (lies.two D2).1 (fun hNew=>?_)
   clear hHeld hK K hNew D1 B1 hB1 hO hA c0 c1 c2 c3 c4
   refine wpAnyH_done (by kernel_rfl) ?_ _
   go_wp2_with fail
   go_roundw
   case rel=>exact ⟨k+1,by omega,by go_num,v',hA1,hO1⟩
   case measure=>simp [intOf];omega
  ·obtain rfl:n*n=k:=by omega
   have htk:(moOf n us).take (n*n)=moOf n us:=by rw [←HM.out];exact List.take_length
   rw [htk] at hO
   go_wp2_with fail
   go_end0
   exact ⟨rfl,v,(set_below HK.out HB.out HB0.out v).trans (hA.mono (by rw [HS.out];omega)),Go.Joins.ownsRow_le hO (by rw [HS.out];omega)⟩
theorem flat_at3 (ms:List Mo) (k:Nat) (h:k<ms.length):(flatM ms)[k*3]?=some (.int .i64 ((mo ms k).1:Int))∧(flatM ms)[k*3+1]?=some (.int .i64 ((mo ms k).2.1:Int))∧(flatM ms)[k*3+2]?=some (.int .i64 (mo ms k).2.2):=by
 induction ms generalizing k with
 | nil=>simp at h
 | cons m ms ih=>
  cases k with
  | zero=>exact ⟨rfl,rfl,rfl⟩
  | succ k=>
   have:=ih k (by simpa using h)
   have e:mo (m::ms) (k+1)=mo ms k:=by simp [mo]
   rw [e]
   have f:∀ r,(flatM (m::ms))[(k+1)*3+r]?=(flatM ms)[k*3+r]?:=fun r=>by
    have:(k+1)*3+r=k*3+r+3:=by omega
    rw [this];rfl
   exact ⟨(f 0).trans this.1,(f 1).trans this.2.1,(f 2).trans this.2.2⟩
theorem own_rowM {W:World} {base g m cap:Nat} {t:TypeId} {ms:List Mo} (h:W.ownsRow base t 3 (.slice (some ⟨g,0,none⟩) m cap) m (flatM ms)) (hl:ms.length=m):RowM W g 0 ms:=fun k hk=>by
 have:=flat_at3 ms k hk
 rw [Nat.zero_add]
 exact ⟨(h.cellAt _ (by omega)).trans this.1,(h.cellAt _ (by omega)).trans this.2.1,(h.cellAt _ (by omega)).trans this.2.2⟩
theorem setAll_of {n:Nat} {ts us:List Int} (h0:0<n) (hl:ts.length=us.length):setAll n ts (moOf n us)=lesT ts us:=by
 have key:∀ k,k≤us.length→∀ q,q<ts.length→(setAll n ts ((moOf n us).take k))[q]?.getD 0=if q<k then lsr (ts[q]?.getD 0) (us[q]?.getD 0) else ts[q]?.getD 0:=by
  intro k
  induction k with
  | zero=>intro _ q _;rfl
  | succ k ih=>
   intro hk q hq
   rw [setAll_up n ts _ k (by rw [moOf_length];omega),moOf_at n us (by omega)]
   dsimp only
   rw [Nat.div_add_mod' k n,setT_at _ _ (by rw [setAll_length];exact hq),ih (by omega) q hq]
   by_cases e:k=q
   ·subst e
    rw [if_pos rfl,if_neg (by omega),if_pos (by omega)]
   ·rw [if_neg e]
    by_cases c:q<k
    ·rw [if_pos c,if_pos (by omega)]
    ·rw [if_neg c,if_neg (by omega)]
 have:=key us.length (Nat.le_refl _)
 rw [show (moOf n us).take us.length=moOf n us by rw [←moOf_length n us];exact List.take_length] at this
 refine list_at (by rw [setAll_length,lesT_length]) fun q hq=>?_
 rw [setAll_length] at hq
 rw [this q hq,if_pos (by omega),lesT_at _ _ hq]
end Go.Proofs.YthmljpccbjolgaaGreatDoor.tight
