
/-
  A matrix laid out of another one's places: what a clock more, a clock less and another order turn; and Drop, Grow and Move as package proj answers them; each theorem names its conditions.
-/
import Derived.Test.YthmljpccbjolgaaGreatDoorDbmD
import Derived.Test.YthmljpccbjolgaaGreatDoorTightD
namespace Go.Proofs.YthmljpccbjolgaaGreatDoor.way
set_option linter.unusedVariables false
set_option linter.unusedSimpArgs false
theorem F_none {d:Tab} {i:Nat} (h:∀ j,d i j=none) (k:Nat):∀ j,F d k i j=none:=by
 induction k with
 | zero=>exact h
 | succ k ih=>
  intro j
  show mn (F d k i j) (ad (F d k i k) (F d k k j))=none
  rw [ih,ih,none_ad];rfl
theorem F_none2 {d:Tab} {j:Nat} (h:∀ i,d i j=none) (k:Nat):∀ i,F d k i j=none:=by
 induction k with
 | zero=>exact h
 | succ k ih=>
  intro i
  show mn (F d k i j) (ad (F d k i k) (F d k k j))=none
  rw [ih,ih,ad_none];rfl
def more (d:Tab) (n:Nat):Tab:=fun i j=>if i=n∧j=n then one else d i j
end Go.Proofs.YthmljpccbjolgaaGreatDoor.way
namespace Go.Proofs.YthmljpccbjolgaaGreatDoor.proj
open num rat way dbm Go.Proofs.YthmljpccbjolgaaGreatDoor.tight
open bound hiding up
set_option linter.unusedVariables false
set_option linter.unusedSectionVars false
set_option linter.unusedSimpArgs false
def laidT (n m:Nat) (wh:Nat→Nat) (ts:List Int):List Int:=(List.range (m*m)).map fun p=>if wh (p / m)<n∧wh (p % m)<n then tat ts n (wh (p / m)) (wh (p % m)) else if p / m=p % m then 1 else 9223372036854775807
theorem laidT_length (n m:Nat) (wh:Nat→Nat) (ts:List Int):(laidT n m wh ts).length=m*m:=by simp [laidT]
theorem laidT_get (n m:Nat) (wh:Nat→Nat) (ts:List Int) {p:Nat} (h:p<m*m):(laidT n m wh ts)[p]?.getD 0=if wh (p / m)<n∧wh (p % m)<n then tat ts n (wh (p / m)) (wh (p % m)) else if p / m=p % m then 1 else 9223372036854775807:=by
 simp [laidT,h]
theorem place_div {m i j:Nat} (hj:j<m):(i*m+j) / m=i∧(i*m+j) % m=j:=by
 refine ⟨?_,?_⟩
 ·rw [Nat.mul_comm,Nat.mul_add_div (by omega),Nat.div_eq_of_lt hj];rfl
 ·rw [Nat.mul_comm,Nat.mul_add_mod,Nat.mod_eq_of_lt hj]
theorem laidT_at {n m:Nat} {wh:Nat→Nat} {ts:List Int} (hm:m≤4) {i j:Nat} (hi:i<m) (hj:j<m):tat (laidT n m wh ts) m i j=if wh i<n∧wh j<n then tat ts n (wh i) (wh j) else if i=j then 1 else 9223372036854775807:=by
 unfold tat
 rw [laidT_get _ _ _ _ (place_le hm hi hj),(place_div hj).1,(place_div hj).2]
 rfl
theorem laidT_in {n m:Nat} {wh:Nat→Nat} {ts:List Int} (hm:m≤4) {i j:Nat} (hi:i<m) (hj:j<m) (h1:wh i<n) (h2:wh j<n):tat (laidT n m wh ts) m i j=tat ts n (wh i) (wh j):=by
 rw [laidT_at hm hi hj,if_pos ⟨h1,h2⟩]
theorem laidT_all {n m:Nat} {wh:Nat→Nat} {ts:List Int} {P:Int→Prop} (hl:ts.length=n*n) (hn:n≤4) (h:∀ p,p<ts.length→P (ts[p]?.getD 0)) (h1:P 1) (h2:P 9223372036854775807):∀ p,p<(laidT n m wh ts).length→P ((laidT n m wh ts)[p]?.getD 0):=by
 intro p hp
 rw [laidT_length] at hp
 rw [laidT_get _ _ _ _ hp]
 split
 ·rename_i hh
  exact h _ (by rw [hl];exact place_le hn hh.1 hh.2)
 ·split
  ·exact h1
  ·exact h2
theorem laidT_tops {n m:Nat} {wh:Nat→Nat} {ts:List Int} (hl:ts.length=n*n) (hn:n≤4) (htop:Tops ts):Tops (laidT n m wh ts):=
 tops_at (laidT_all (P:=fun x=>x≤9223372036854775807) hl hn (fun p hp=>at_top htop hp) (by decide) (by decide))
theorem own_closed {m:Nat} {us:List Int} (h0:0<m) (hm:m≤4) (hl:us.length=m*m) (htop:Tops us) (h:MayD m us) (hd:∀ i,i<m→tat us m i i=1) (ht:∀ i j l,i<m→j<m→l<m→way.le (cod (tat us m i j)) (ad (cod (tat us m i l)) (cod (tat us m l j)))):OkD m us∧clT m us=us:=by
 have hb:∀ i j,i<m→j<m→beg m us i j=cod (tat us m i j):=fun i j hi hj=>by
  unfold beg
  rw [wts_in hi hj,beg_at hl hm hi hj]
  by_cases e:i=j
  ·subst e;rw [if_pos rfl,hd i hi];rfl
  ·rw [if_neg e]
 have hT:Tri (beg m us) m:=fun l hl' i j=>by
  by_cases hi:i<m
  ·by_cases hj:j<m
   ·rw [hb i j hi hj,hb i l hi hl',hb l j hl' hj];exact ht i j l hi hj hl'
   ·rw [show beg m us l j=none from wts_out2 hj,ad_none];exact le_none _
  ·rw [show beg m us i l=none from wts_out hi,none_ad];exact le_none _
 have hF:∀ k,k≤m→∀ i j,F (beg m us) k i j=beg m us i j:=F_id hT
 have hg:way.Good (beg m us) m:=fun k hk i=>by
  rw [hF k hk]
  by_cases hi:i<m
  ·rw [hb i i hi hi,hd i hi];exact le_refl _
  ·rw [show beg m us i i=none from wts_out hi];exact le_none _
 have hok:OkD m us:=(okD_good h0 hm hl htop h).2 hg
 refine ⟨hok,?_⟩
 rw [clT_nat h0]
 refine list_ext h0 ((tabs_length _ _ _ _).trans hl) hl fun i j hi hj=>cod_inj ?_
 rw [tabs_is h0 hm hl htop h.2.2.2 m (Nat.le_refl _) (fun k hk=>hok.2.2 k (by simp;omega)) i j hi hj,hF m (Nat.le_refl _),hb i j hi hj]
/-! a clock less -/
def sk (k i:Nat):Nat:=if i<k then i else i+1
theorem sk_lt {k i n:Nat} (h:i<n - 1):sk k i<n:=by unfold sk;split<;>omega
def dropT (n k:Nat) (ts:List Int):List Int:=laidT n (n - 1) (sk k) (clT n ts)
theorem dropT_length (n k:Nat) (ts:List Int):(dropT n k ts).length=(n - 1)*(n - 1):=laidT_length _ _ _ _
section
variable {n k:Nat} {ts:List Int} (h0:0<n) (hn:n≤4) (hl:ts.length=n*n) (htop:Tops ts) (h:OkD n ts)
include h0 hn hl htop h
theorem dropT_at {i j:Nat} (hi:i<n - 1) (hj:j<n - 1):tat (dropT n k ts) (n - 1) i j=tat (clT n ts) n (sk k i) (sk k j):=laidT_in (by omega) hi hj (sk_lt hi) (sk_lt hj)
theorem cl_cod {i j:Nat} (hi:i<n) (hj:j<n):cod (tat (clT n ts) n i j)=F (beg n ts) n i j:=by
 rw [clT_nat h0]
 exact tabs_is h0 hn hl htop h.1.2.2.2 n (Nat.le_refl _) (fun m hm=>h.2.2 m (by simp;omega)) i j hi hj
theorem dropT_tops:Tops (dropT n k ts):=laidT_tops ((clT_length h).trans hl) hn (clT_tops htop)
theorem dropT_own (h2:2≤n) (hm:MayD ((n - 1:Nat):Int) (dropT n k ts)):OkD ((n - 1:Nat):Int) (dropT n k ts)∧clT ((n - 1:Nat):Int) (dropT n k ts)=dropT n k ts:=by
 refine own_closed (by omega) (by omega) (laidT_length _ _ _ _) (dropT_tops h0 hn hl htop h) hm (fun i hi=>?_) (fun i j l hi hj hl'=>?_)
 ·rw [dropT_at h0 hn hl htop h hi hi,clT_nat h0]
  exact closed_diag h0 hn hl htop h.1.2.2.2 (fun m hm=>h.2.2 m (by simpa using hm)) (sk_lt hi)
 ·rw [dropT_at h0 hn hl htop h hi hj,dropT_at h0 hn hl htop h hi hl',dropT_at h0 hn hl htop h hl' hj,cl_cod h0 hn hl htop h (sk_lt hi) (sk_lt hj),cl_cod h0 hn hl htop h (sk_lt hi) (sk_lt hl'),cl_cod h0 hn hl htop h (sk_lt hl') (sk_lt hj)]
  exact good_tri ((okD_good h0 hn hl htop h.1).1 h) _ (sk_lt hl') _ _
end
theorem kB_like {q q':Nat→Int × Int} {i j i' j':Nat} {x:B} (h1:q i=q' i') (h2:q j=q' j') (h:kB q' i' j' x):kB q i j x:=by
 cases x with
 | none=>trivial
 | some a=>unfold kB;rw [h1,h2];exact h
theorem drop_kept {n k:Nat} {ts:List Int} (h0:0<n) (hn:n≤4) (hl:ts.length=n*n) (htop:Tops ts) (h:OkD n ts) (hm:MayD ((n - 1:Nat):Int) (dropT n k ts)) {qs ps:List (Int × Int)} (hq:MayT qs) (hqn:qs.length=n) (hp:MayT ps) (hpn:ps.length=n - 1) (hs:∀ i,i<n - 1→pr ps i=pr qs (sk k i)) (hk:keptAll n ts qs):keptAll (n - 1) (dropT n k ts) ps:=fun i j hi hj=>by
 have hf:Fine (tat (dropT n k ts) (n - 1) i j):=hm.2.2.2 _ (by rw [show (dropT n k ts).length=(n - 1)*(n - 1) from laidT_length _ _ _ _];exact place_le (by omega) hi hj)
 rw [kp_iff hp hpn hi hj hf,dropT_at h0 hn hl htop h hi hj,cl_cod h0 hn hl htop h (sk_lt hi) (sk_lt hj)]
 have e:∀ i,i<n - 1→tms (n - 1) ps i=tms n qs (sk k i):=fun i hi=>by
  unfold tms
  rw [if_pos hi,if_pos (sk_lt hi),hs i hi]
 exact kB_like (e i hi) (e j hj) (kB_F (tms_pos hq hqn) (kept_beg hn hl htop h.1.2.2.2 hq hqn hk) n (sk k i) (sk k j))
/-! a clock more -/
section
variable {n:Nat} {ts:List Int} (h0:0<n) (hn:n<4) (hl:ts.length=n*n) (htop:Tops ts) (h:MayD n ts)
include h0 hn hl htop h
omit hl htop h in
end
/-! another order -/
/-! two clocks less -/
/-! what picks up a time for the clock that went -/
end Go.Proofs.YthmljpccbjolgaaGreatDoor.proj
namespace Go.Proofs.YthmljpccbjolgaaGreatDoor.proj
open Go.Joins Go.ChangeShapes Go.WideShapes Go.ChangeAt Go.RowKit num rat dbm Go.Proofs.YthmljpccbjolgaaGreatDoor.tight
open bound hiding up
set_option linter.unusedVariables false
set_option linter.unusedSimpArgs false
def mixT (n m:Nat) (wh:Nat→Nat) (ts:List Int) (p:Nat):List Int:=(List.range (m*m)).map fun q=>if q<p∧wh (q / m)<n∧wh (q % m)<n then tat ts n (wh (q / m)) (wh (q % m)) else if q / m=q % m then 1 else 9223372036854775807
theorem mixT_length (n m:Nat) (wh:Nat→Nat) (ts:List Int) (p:Nat):(mixT n m wh ts p).length=m*m:=by simp [mixT]
theorem mixT_at (n m:Nat) (wh:Nat→Nat) (ts:List Int) (p:Nat) {q:Nat} (h:q<m*m):(mixT n m wh ts p)[q]?.getD 0=if q<p∧wh (q / m)<n∧wh (q % m)<n then tat ts n (wh (q / m)) (wh (q % m)) else if q / m=q % m then 1 else 9223372036854775807:=by
 simp [mixT,h]
theorem mixT_all (n m:Nat) (wh:Nat→Nat) (ts:List Int):mixT n m wh ts (m*m)=laidT n m wh ts:=by
 refine list_at ((mixT_length _ _ _ _ _).trans (laidT_length _ _ _ _).symm) fun q hq=>?_
 rw [mixT_length] at hq
 rw [mixT_at _ _ _ _ _ hq,laidT_get _ _ _ _ hq]
 by_cases h:wh (q / m)<n∧wh (q % m)<n
 ·rw [if_pos ⟨hq,h⟩,if_pos h]
 ·rw [if_neg (fun k=>h k.2),if_neg h]
theorem mixT_zero {n m:Nat} (h0:0<m) (hm:m≤4) (wh:Nat→Nat) (ts:List Int):topT m h0=mixT n m wh ts 0:=by
 have e:mixT n m wh ts 0=(List.range (m*m)).map fun q=>if q / m=q % m then 1 else 9223372036854775807:=by
  unfold mixT
  refine List.map_congr_left fun q _=>?_
  rw [if_neg (fun k=>by omega)]
 rw [e]
 have:m=1∨m=2∨m=3∨m=4:=by omega
 have e1:topT 1 (by decide)=(List.range (1*1)).map fun q=>if q / 1=q % 1 then 1 else 9223372036854775807:=by decide+kernel
 have e2:topT 2 (by decide)=(List.range (2*2)).map fun q=>if q / 2=q % 2 then 1 else 9223372036854775807:=by decide+kernel
 have e3:topT 3 (by decide)=(List.range (3*3)).map fun q=>if q / 3=q % 3 then 1 else 9223372036854775807:=by decide+kernel
 have e4:topT 4 (by decide)=(List.range (4*4)).map fun q=>if q / 4=q % 4 then 1 else 9223372036854775807:=by decide+kernel
 rcases this with rfl | rfl | rfl | rfl
 ·exact e1
 ·exact e2
 ·exact e3
 ·exact e4
theorem mixT_yes {n m:Nat} {wh:Nat→Nat} {ts:List Int} {p:Nat} (hp:p<m*m) (h1:wh (p / m)<n) (h2:wh (p % m)<n):mixT n m wh ts (p+1)=(mixT n m wh ts p).set p (tat ts n (wh (p / m)) (wh (p % m))):=by
 refine list_at (by rw [List.length_set,mixT_length,mixT_length]) fun q hq=>?_
 rw [mixT_length] at hq
 rw [List.getElem?_set,mixT_at _ _ _ _ _ hq]
 by_cases e:p=q
 ·subst e
  rw [if_pos rfl,if_pos (show p<(mixT n m wh ts p).length by rw [mixT_length];exact hp),if_pos (show p<p+1∧wh (p / m)<n∧wh (p % m)<n from ⟨by omega,h1,h2⟩)];rfl
 ·have c:(q<p+1)=(q<p):=propext ⟨fun h=>by omega,fun h=>by omega⟩
  rw [if_neg e,mixT_at _ _ _ _ _ hq]
  simp only [c]
theorem mixT_no {n m:Nat} {wh:Nat→Nat} {ts:List Int} {p:Nat} (hno:¬ (wh (p / m)<n∧wh (p % m)<n)):mixT n m wh ts (p+1)=mixT n m wh ts p:=by
 refine list_at (by rw [mixT_length,mixT_length]) fun q hq=>?_
 rw [mixT_length] at hq
 rw [mixT_at _ _ _ _ _ hq,mixT_at _ _ _ _ _ hq]
 by_cases e:q=p
 ·subst e
  rw [if_neg (show ¬ (q<q+1∧wh (q / m)<n∧wh (q % m)<n) from fun k=>hno k.2),if_neg (show ¬ (q<q∧wh (q / m)<n∧wh (q % m)<n) from fun k=>hno k.2)]
 ·have c:(q<p+1)=(q<p):=propext ⟨fun h=>by omega,fun h=>by omega⟩
  simp only [c]
/-! the closures -/
theorem was_drop (P k i:Nat) (w:World) (hi:i<100) (hP:lies.Lies w P 3 #[.int .i64 (k:Int)]):
  Calls Tryz.prog 135 #[.int .i64 (i:Int),.pointer (some ⟨P,0,none⟩)] w fun e w'=>e=.returned (.int .i64 (sk k i:Int))∧Below w.heap.size w w':=by
 obtain ⟨y0,y1,y2⟩:=dbm.one hP
 unfold sk
 by_cases h:i<k
 ·have t1:(i:Int)<k:=by omega
  rw [if_pos h]
  clear h
  go_enter Tryz.func135,Tryz.ntmps135
  go_wp2_with fail
  go_ret
  exact ⟨rfl,Below.refl _ _⟩
 ·have t1:¬ (i:Int)<k:=by omega
  rw [if_neg h]
  clear h
  have wj:wrap64 ((i:Int)+1)=((i+1:Nat):Int):=by rw [IntWalk.wrap64_in _ ⟨by omega,by omega⟩];omega
  have wk:IntKind.i64.wrap ((i:Int)+1)=((i+1:Nat):Int):=by rw [IntWalk.i64_in _ ⟨by omega,by omega⟩];omega
  go_enter Tryz.func135,Tryz.ntmps135
  go_wp2_with fail
  go_ret
  exact ⟨by first | rfl | (simp only [wj]) | (simp only [wk]) | (congr 2;omega),Below.refl _ _⟩
def LA (n m b off cap g T:Nat) (us:List Int) (w W:World):Prop:=
 lies.Lies W w.heap.size 81 #[.int .i64 n,.slice (some ⟨b,off,none⟩) (n*n) cap]∧lies.Lies W (w.heap.size+1) 81 #[.int .i64 0,.slice none 0 0]∧lies.Lies W T 81 #[.int .i64 m,.slice (some ⟨g,0,none⟩) (m*m) (m*m)]∧lies.Lies W g 25 (cellsOf us)∧Below w.heap.size w W
theorem LA.below {n m b off cap g T:Nat} {us:List Int} {w W X:World} (h:LA n m b off cap g T us w W) (k:Below W.heap.size W X):LA n m b off cap g T us w X:=⟨lies.on_call h.1 k,lies.on_call h.2.1 k,lies.on_call h.2.2.1 k,lies.on_call h.2.2.2.1 k,h.2.2.2.2.trans (k.mono h.2.2.2.2.size)⟩
set_option maxRecDepth 100000 in
set_option maxHeartbeats 8000000 in
theorem laidD_is (PX n m b off cap:Nat) (wh:Nat→Nat) (ts:List Int) (w:World) (hn:n≤4) (h0:0<m) (hm:m≤4) (hr:Row w b off ts) (hb:b<w.heap.size) (hl:ts.length=n*n) (hw:∀ i,i<m→wh i≤4)
  (hF:∀ i,i<m→∀ W,Below w.heap.size w W→Calls Tryz.prog 135 #[.int .i64 (i:Int),.pointer (some ⟨PX,0,none⟩)] W fun e w'=>e=.returned (.int .i64 (wh i:Int))∧Below W.heap.size W w'):
  Calls Tryz.prog 134 #[.agg #[.int .i64 n,.slice (some ⟨b,off,none⟩) (n*n) cap],.int .i64 m,.func (.func 135) #[] #[.pointer (some ⟨PX,0,none⟩)]] w fun e w'=>Below w.heap.size w w'∧∃ g,w.heap.size≤g∧e=.returned (.agg #[.int .i64 m,.slice (some ⟨g,0,none⟩) (m*m) (m*m)])∧lies.Lies w' g 25 (cellsOf (laidT n m wh ts)):=by
 obtain ⟨DB,D0,D1⟩:=dref.box_res n (.slice (some ⟨b,off,none⟩) (n*n) cap) w
 have HR:=Lib.hid hr
 have HL:=Lib.hid hl
 have HW:=Lib.hid hw
 have HF:=Lib.hid hF
 clear hr hl hw hF
 have hsq:=sq_le hm
 have hsn:=sq_le hn
 go_enter Tryz.func134,Tryz.ntmps134
 go_wp2_with fail
 refine (top_ok m _ h0 hm).mono ?_
 rintro e w2 ⟨hB2,g,hg2,rfl,hG⟩
 rw [mixT_zero (n:=n) h0 hm wh ts] at hG
 have E0:=lies.on_call D0 hB2
 have E1:=lies.on_call D1 hB2
 have K2:=DB.trans (hB2.mono DB.size)
 have hw1:=lies.lt E1
 clear D0 D1 hB2
 go_wp2_with fail
 have W0:LA n m b off cap g w2.heap.size (mixT n m wh ts 0) w (w2.alloc (.cells #[.int .i64 m,.slice (some ⟨g,0,none⟩) (m*m) (m*m)] 81)):=
  ⟨lies.on_alloc E0 _,lies.on_alloc E1 _,lies.made _ _ _,lies.on_alloc hG _,K2.alloc K2.size _⟩
 have hgT:g≠w2.heap.size:=by have:=lies.lt hG;omega
 have hgw:w.heap.size<g:=by have:=DB.size;simp at hg2;omega
 have hgw1:w.heap.size+1<g:=by simp at hg2;omega
 have hTw:w.heap.size+1<w2.heap.size:=by omega
 clear E0 E1 K2 hG hw1 DB hg2
 generalize w2.heap.size=T at W0 hgT hTw ⊢
 generalize w2.alloc (.cells #[.int .i64 m,.slice (some ⟨g,0,none⟩) (m*m) (m*m)] 81)=w3 at W0 ⊢
 obtain ⟨d0,d1,d2,d3,d4⟩:=lies.two W0.2.2.1
 go_wp2_with fail
 clear d0 d1 d2 d3 d4
 go_loopw [20] (fun i wr=>∃ p:Nat,p≤m*m∧i=.int .i64 p∧LA n m b off cap g T (mixT n m wh ts p) w wr) (fun i _=>m*m - (intOf i).toNat)
 case atStart=>exact ⟨0,Nat.zero_le _,rfl,W0⟩
 case round=>
  clear W0
  obtain ⟨p,hp,rfl,hA⟩:=hrel
  by_cases hpm:p<m*m
  ·have hP:p / m<m:=(Nat.div_lt_iff_lt_mul h0).2 hpm
   have hQ:p % m<m:=Nat.mod_lt p h0
   have HF1:=Lib.hid (HF.out (p / m) hP)
   have HF2:=Lib.hid (HF.out (p % m) hQ)
   have hw1:=HW.out (p / m) hP
   have hw2:=HW.out (p % m) hQ
   have hY:=mixT_yes (n:=n) (wh:=wh) (ts:=ts) hpm
   have hN:=mixT_no (n:=n) (m:=m) (wh:=wh) (ts:=ts) (p:=p)
   have q1:(p:Int) / m=((p / m:Nat):Int):=(Int.natCast_ediv p m).symm
   have q2:(p:Int).tmod m=((p % m:Nat):Int):=by rw [Int.tmod_eq_emod_of_nonneg (by omega)];exact (Int.natCast_emod p m).symm
   have hPp:p / m≤p:=Nat.div_le_self _ _
   generalize hx:wh (p / m)=x at hw1 hY hN HF1
   generalize hy:wh (p % m)=y at hw2 hY hN HF2
   clear hx hy
   generalize p / m=P at q1 hP HF1 hPp
   generalize p % m=Q at q2 hQ HF2
   have q3:¬ m=0:=by omega
   have q4:IntKind.i64.wrap (P:Int)=P:=IntWalk.i64_in _ ⟨by omega,by omega⟩
   have q5:=q4
   rw [IntWalk.i64_left] at q5
   have hpp:(p:Int)<(m:Int)*m:=by rw [←Int.natCast_mul];omega
   have HY:=Lib.hid hY
   have HN:=Lib.hid hN
   clear hY hN
   go_wp2_with fail
   refine wp_region_held_drew (S:=Below wr.heap.size wr) (by kernel_rfl) (dbm.drawn1 (Below.refl _ _)) (fun hHeld=>?_)
   refine tk 0 (v:=?_) rfl hHeld ?_ ?_
   rotate_left
   ·intro w hSw;skip;go_simp;try with_reducible rfl
   try simp only [Act.put,sA,sB,sC,sD,sE,sF]
   refine tk 1 (v:=?_) rfl hHeld ?_ ?_
   rotate_left
   ·intro w hSw;skip;go_simp;try with_reducible rfl
   try simp only [Act.put,sA,sB,sC,sD,sE,sF]
   refine tk 2 (v:=?_) rfl hHeld ?_ ?_
   rotate_left
   ·intro w hSw;skip;go_simp;try with_reducible rfl
   try simp only [Act.put,sA,sB,sC,sD,sE,sF]
   refine tk 3 (v:=?_) rfl hHeld ?_ ?_
   rotate_left
   ·intro w hSw;skip;go_simp;try with_reducible rfl
   try simp only [Act.put,sA,sB,sC,sD,sE,sF]
   refine tk 5 (v:=?_) rfl hHeld ?_ ?_
   rotate_left
   ·intro w hSw;skip;go_simp;try with_reducible rfl
   try simp only [Act.put,sA,sB,sC,sD,sE,sF]
   refine tk 6 (v:=?_) rfl hHeld ?_ ?_
   rotate_left
   ·intro w hSw;skip;go_simp;try with_reducible rfl
   try simp only [Act.put,sA,sB,sC,sD,sE,sF]
   refine tk 7 (v:=?_) rfl hHeld ?_ ?_
   rotate_left
   ·intro w hSw;skip;go_simp;try with_reducible rfl
   try simp only [Act.put,sA,sB,sC,sD,sE,sF]
   refine tk 8 (v:=?_) rfl hHeld ?_ ?_
   rotate_left
   ·intro w hSw;skip;go_simp;try with_reducible rfl
   try simp only [Act.put,sA,sB,sC,sD,sE,sF]
   refine wpAnyH_ready (rs:=[4]) (by kernel_rfl) (by simp) (AllReadyH.cons rfl (fun K hK=>?_) AllReadyH.nil)
   go_simp
   refine (HF1.out _ (hA.2.2.2.2.trans (hHeld.mono hA.2.2.2.2.size))).mono ?_
   rintro e u1 ⟨rfl,hB⟩
   refine hK.out _ _ (hHeld.trans (hB.mono hHeld.size)) (fun hNew=>?_)
   clear hB
   clear hHeld hK K
   have hHeld:=hNew
   clear hNew
   try simp only [Act.put,sA,sB,sC,sD,sE,sF]
   refine wpAnyH_ready (rs:=[9]) (by kernel_rfl) (by simp) (AllReadyH.cons rfl (fun K hK=>?_) AllReadyH.nil)
   go_simp
   refine (HF2.out _ (hA.2.2.2.2.trans (hHeld.mono hA.2.2.2.2.size))).mono ?_
   rintro e u2 ⟨rfl,hB⟩
   refine hK.out _ _ (hHeld.trans (hB.mono hHeld.size)) (fun hNew=>?_)
   clear hB
   clear hHeld hK K
   have hHeld:=hNew
   clear hNew
   try simp only [Act.put,sA,sB,sC,sD,sE,sF]
   refine tk 10 (v:=?_) rfl hHeld ?_ ?_
   rotate_left
   ·intro w hSw;skip;go_simp;try with_reducible rfl
   try simp only [Act.put,sA,sB,sC,sD,sE,sF]
   refine tk 11 (v:=?_) rfl hHeld ?_ ?_
   rotate_left
   ·intro w hSw;skip;go_simp;try with_reducible rfl
   try simp only [Act.put,sA,sB,sC,sD,sE,sF]
   refine wpAnyH_done (by kernel_rfl) ?_ _
   have A2:=hA.below hHeld
   clear hA hHeld q1 q2 q3 q4 q5 hP hQ hPp
   clear HF1 HF2
   by_cases h1:x<n
   ·have t1:(x:Int)<n:=by omega
    by_cases h2:y<n
    ·have t2:(y:Int)<n:=by omega
     have hup:=HY.out h1 h2
     have hpl:=place_le hn h1 h2
     have hz:=HR.out (x*n+y) (by rw [HL.out];exact hpl)
     unfold tat at hup
     generalize ts[x*n+y]?.getD 0=z at hz hup
     have hus:=mixT_length n m wh ts p
     generalize mixT n m wh ts p=us at A2 hup hus
     have HUP:=Lib.hid hup
     have HUS:=Lib.hid hus
     obtain ⟨y1,y2,y3,y4,y5,y6,y7⟩:=dref.place_int hn h1 h2
     obtain ⟨c0,c1,c2,c3,c4⟩:=lies.two A2.1
     have hbl:=Nat.lt_of_lt_of_le hb A2.2.2.2.2.size
     have hgg:=lies.lt A2.2.2.2.1
     clear hup hus h1 h2 HY HN
     go_wp2_with fail
     clear c0 c1 c2 c3 c4
     have S0:∀ (vs:List Int) W,LA n m b off cap g T vs w W→(W.cell? ⟨w.heap.size,0,none⟩=some (.int .i64 n)∧W.cell? ⟨w.heap.size,1,none⟩=some (.slice (some ⟨b,off,none⟩) (n*n) cap))∧W.cell? ⟨T,1,none⟩=some (.slice (some ⟨g,0,none⟩) (m*m) (m*m))∧W.cell? ⟨b,off+(x*n+y),none⟩=some (.int .i64 z):=fun vs W hW=>⟨lies.pair hW.1,(lies.pair hW.2.2.1).2,(hW.2.2.2.2.cell (p:=⟨b,off+(x*n+y),none⟩) hb).trans hz⟩
     have A3:=A2.below (dbm.drawn1 (Below.refl u2.heap.size u2))
     have HS0:=Lib.hid S0
     have hs3:=S0 _ _ A3
     clear S0 hz
     refine wp_region_held_drew (S:=fun W=>(W.cell? ⟨w.heap.size,0,none⟩=some (.int .i64 n)∧W.cell? ⟨w.heap.size,1,none⟩=some (.slice (some ⟨b,off,none⟩) (n*n) cap))∧W.cell? ⟨T,1,none⟩=some (.slice (some ⟨g,0,none⟩) (m*m) (m*m))∧W.cell? ⟨b,off+(x*n+y),none⟩=some (.int .i64 z)) (by kernel_rfl) hs3 (fun hHeld=>?_)
     clear hs3
     refine tk 0 (v:=?_) rfl hHeld ?_ ?_
     rotate_left
     ·intro w hSw;obtain ⟨⟨s0,s1⟩,s2,s3⟩:=hSw;go_simp;try with_reducible rfl
     try simp only [Act.put,sA,sB,sC,sD,sE,sF]
     refine tk 1 (v:=?_) rfl hHeld ?_ ?_
     rotate_left
     ·intro w hSw;obtain ⟨⟨s0,s1⟩,s2,s3⟩:=hSw;go_simp;try with_reducible rfl
     try simp only [Act.put,sA,sB,sC,sD,sE,sF]
     refine tk 2 (v:=?_) rfl hHeld ?_ ?_
     rotate_left
     ·intro w hSw;obtain ⟨⟨s0,s1⟩,s2,s3⟩:=hSw;go_simp;try with_reducible rfl
     try simp only [Act.put,sA,sB,sC,sD,sE,sF]
     refine tk 3 (v:=?_) rfl hHeld ?_ ?_
     rotate_left
     ·intro w hSw;obtain ⟨⟨s0,s1⟩,s2,s3⟩:=hSw;go_simp;try with_reducible rfl
     try simp only [Act.put,sA,sB,sC,sD,sE,sF]
     refine tk 4 (v:=?_) rfl hHeld ?_ ?_
     rotate_left
     ·intro w hSw;obtain ⟨⟨s0,s1⟩,s2,s3⟩:=hSw;go_simp;try with_reducible rfl
     try simp only [Act.put,sA,sB,sC,sD,sE,sF]
     refine tk 5 (v:=?_) rfl hHeld ?_ ?_
     rotate_left
     ·intro w hSw;obtain ⟨⟨s0,s1⟩,s2,s3⟩:=hSw;go_simp;try with_reducible rfl
     try simp only [Act.put,sA,sB,sC,sD,sE,sF]
     refine tk 6 (v:=?_) rfl hHeld ?_ ?_
     rotate_left
     ·intro w hSw;obtain ⟨⟨s0,s1⟩,s2,s3⟩:=hSw;go_simp;try with_reducible rfl
     try simp only [Act.put,sA,sB,sC,sD,sE,sF]
     refine tk 7 (v:=?_) rfl hHeld ?_ ?_
     rotate_left
     ·intro w hSw;obtain ⟨⟨s0,s1⟩,s2,s3⟩:=hSw;go_simp;try with_reducible rfl
     try simp only [Act.put,sA,sB,sC,sD,sE,sF]
     refine tk 8 (v:=?_) rfl hHeld ?_ ?_
     rotate_left
     ·intro w hSw;obtain ⟨⟨s0,s1⟩,s2,s3⟩:=hSw;go_simp;try with_reducible rfl
     try simp only [Act.put,sA,sB,sC,sD,sE,sF]
     refine tk 9 (v:=?_) rfl hHeld ?_ ?_
     rotate_left
     ·intro w hSw;obtain ⟨⟨s0,s1⟩,s2,s3⟩:=hSw;go_simp;try with_reducible rfl
     try simp only [Act.put,sA,sB,sC,sD,sE,sF]
     refine tk 10 (v:=?_) rfl hHeld ?_ ?_
     rotate_left
     ·intro w hSw;obtain ⟨⟨s0,s1⟩,s2,s3⟩:=hSw;go_simp;try with_reducible rfl
     try simp only [Act.put,sA,sB,sC,sD,sE,sF]
     refine tk 11 (v:=?_) rfl hHeld ?_ ?_
     rotate_left
     ·intro w hSw;obtain ⟨⟨s0,s1⟩,s2,s3⟩:=hSw;go_simp;try with_reducible rfl
     try simp only [Act.put,sA,sB,sC,sD,sE,sF]
     refine tk 12 (v:=?_) rfl hHeld ?_ ?_
     rotate_left
     ·intro w hSw;obtain ⟨⟨s0,s1⟩,s2,s3⟩:=hSw;go_simp;try with_reducible rfl
     try simp only [Act.put,sA,sB,sC,sD,sE,sF]
     refine tk 13 (v:=?_) rfl hHeld ?_ ?_
     rotate_left
     ·intro w hSw;obtain ⟨⟨s0,s1⟩,s2,s3⟩:=hSw;go_simp;try with_reducible rfl
     try simp only [Act.put,sA,sB,sC,sD,sE,sF]
     have hcell:=(lies.cell A2.2.2.2.1 p).trans (cells_at us p (by rw [HUS.out];exact hpm))
     have hfree:=lies.free A2.2.2.2.1 p
     refine wpAnyH_ready (rs:=[14]) (by kernel_rfl) (by simp) (AllReadyH.cons rfl (fun K hK=>?_) AllReadyH.nil)
     go_simp
     have A4:LA n m b off cap g T (us.set p z) w (u2.setCell ⟨g,p,none⟩ (.int .i64 z)).drew:=by
      have Pt:=lies.on_put A2.2.2.2.1 p (.int .i64 z)
      rw [cells_set] at Pt
      have D:=fun {bb:Nat} {t:TypeId} {cs:Array Value} (h:lies.Lies u2 bb t cs) (hne:bb≠g)=>lies.on_call (lies.on_far h p hne (.int .i64 z)) (dbm.drawn1 (Below.refl _ _))
      exact ⟨D A2.1 (by omega),D A2.2.1 (by omega),D A2.2.2.1 (Ne.symm hgT),lies.on_call Pt (dbm.drawn1 (Below.refl _ _)),dbm.drawn1 (A2.2.2.2.2.setCell (p:=⟨g,p,none⟩) (Nat.le_of_lt hgw) _)⟩
     refine hK.out _ _ (HS0.out _ _ A4) (fun hNew=>?_)
     clear hHeld hK K hNew HS0 hcell hfree A2 A3
     refine wpAnyH_done (by kernel_rfl) ?_ _
     clear y1 y2 y3 y4 y5 y6 y7
     generalize (u2.setCell ⟨g,p,none⟩ (.int .i64 z)).drew=w6 at A4 ⊢
     go_wp2_with fail
     go_roundw
     case rel=>exact ⟨p+1,by omega,by go_num,by rw [HUP.out];exact A4⟩
     case measure=>simp [intOf];omega
    ·have t2:¬ (y:Int)<n:=by omega
     have hup:=HN.out (fun k=>h2 k.2)
     have HUP:=Lib.hid hup
     obtain ⟨c0,c1,c2,c3,c4⟩:=lies.two A2.1
     clear hup HY HN h1 h2
     go_wp2_with fail
     go_roundw
     case rel=>exact ⟨p+1,by omega,by go_num,by rw [HUP.out];exact A2⟩
     case measure=>simp [intOf];omega
   ·have t1:¬ (x:Int)<n:=by omega
    have hup:=HN.out (fun k=>h1 k.1)
    have HUP:=Lib.hid hup
    obtain ⟨c0,c1,c2,c3,c4⟩:=lies.two A2.1
    clear hup HY HN h1
    go_wp2_with fail
    go_roundw
    case rel=>exact ⟨p+1,by omega,by go_num,by rw [HUP.out];exact A2⟩
    case measure=>simp [intOf];omega
  ·obtain rfl:m*m=p:=by omega
   rw [mixT_all] at hA
   obtain ⟨c0,c1,c2,c3,c4⟩:=lies.two hA.2.2.1
   obtain ⟨x0,x1,x2,x3,x4⟩:=lies.two hA.2.1
   go_wp2_with fail
   refine bodyPost_ret (v:=.agg #[.int .i64 m,.slice (some ⟨g,0,none⟩) (m*m) (m*m)]) (by simp [results,Tryz.results134,go_sem,x0,x1]) rfl ⟨dref.ret_res hA.2.2.2.2 (by omega) _ _,g,by omega,rfl,lies.on_far (lies.on_far hA.2.2.2.1 (b:=w.heap.size+1) 0 (by omega) _) (b:=w.heap.size+1) 1 (by omega) _⟩
end Go.Proofs.YthmljpccbjolgaaGreatDoor.proj
namespace Go.Proofs.YthmljpccbjolgaaGreatDoor.proj
open Go.Joins Go.ChangeShapes Go.WideShapes Go.ChangeAt Go.RowKit num rat dbm Go.Proofs.YthmljpccbjolgaaGreatDoor.tight
open bound hiding up
set_option linter.unusedVariables false
set_option linter.unusedSimpArgs false
/-! is a number in a list? -/
/-! what the calls answer -/
def Gv (R:Int→List Int→Int→Prop) (w:World) (e:Ending) (w':World):Prop:=Below w.heap.size w w'∧∃ (na:Int) (aa:Option Addr) (la ca:Nat) (us:List Int) (f:Int),e=.returned (.tuple #[.agg #[.int .i64 na,.slice aa la ca],.int .i64 f])∧R na us f∧Blk w.heap.size w' aa la ca us
def No (err:Int) (na:Int) (us:List Int) (f:Int):Prop:=na=0∧us=[]∧f=err
def Kc (n k:Int):Prop:=1≤k∧k<n
def DropR (n:Int) (ts:List Int) (k:Int) (na:Int) (us:List Int) (f:Int):Prop:=(¬ MayD n ts∧No 8 na us f)∨(MayD n ts∧¬ Kc n k∧No 2 na us f)∨(MayD n ts∧Kc n k∧¬ OkD n ts∧No 6 na us f)∨(OkD n ts∧Kc n k∧na=((n.toNat - 1:Nat):Int)∧us=dropT n.toNat k.toNat ts∧f=0)
theorem Gv.no {R:Int→List Int→Int→Prop} {err:Int} {w w':World} (h:Below w.heap.size w w') (k:R 0 [] err):Gv R w (.returned (.tuple #[.agg #[.int .i64 0,.slice none 0 0],.int .i64 err])) w':=⟨h,0,none,0,0,[],err,rfl,k,.inl ⟨rfl,rfl,rfl,rfl⟩⟩
theorem Gv.yes {R:Int→List Int→Int→Prop} {q g m:Nat} {us:List Int} {w W:World} {u v:Value} (hB:Below w.heap.size w W) (hq:w.heap.size≤q) (hg:q<g) (hG:lies.Lies W g 25 (cellsOf us)) (hl:us.length=m*m) (k:R m us 0):
  Gv R w (.returned (.tuple #[.agg #[.int .i64 m,.slice (some ⟨g,0,none⟩) (m*m) (m*m)],.int .i64 0])) ((W.setCell ⟨q,0,none⟩ u).setCell ⟨q,1,none⟩ v):=
 ⟨(hB.setCell (p:=⟨q,0,none⟩) hq _).setCell (p:=⟨q,1,none⟩) hq _,m,_,_,_,us,0,rfl,k,.inr ⟨g,by omega,rfl,hl.symm,lies.on_far (lies.on_far hG (b:=q) 0 (by omega) _) (b:=q) 1 (by omega) _⟩⟩
theorem Gv.bad {R:Int→List Int→Int→Prop} {q:Nat} {err:Int} {w W:World} {u v:Value} (hB:Below w.heap.size w W) (hq:w.heap.size≤q) (k:R 0 [] err):
  Gv R w (.returned (.tuple #[.agg #[.int .i64 0,.slice none 0 0],.int .i64 err])) ((W.setCell ⟨q,0,none⟩ u).setCell ⟨q,1,none⟩ v):=Gv.no ((hB.setCell (p:=⟨q,0,none⟩) hq _).setCell (p:=⟨q,1,none⟩) hq _) k
theorem boxP (n:Int) (sv x:Value) (t:TypeId) (w:World):Below w.heap.size w (((w.alloc (.cells #[.int .i64 n,sv] 81)).alloc (.cells #[x] t)).alloc (.cells #[.int .i64 0,.slice none 0 0] 81))∧lies.Lies (((w.alloc (.cells #[.int .i64 n,sv] 81)).alloc (.cells #[x] t)).alloc (.cells #[.int .i64 0,.slice none 0 0] 81)) w.heap.size 81 #[.int .i64 n,sv]∧lies.Lies (((w.alloc (.cells #[.int .i64 n,sv] 81)).alloc (.cells #[x] t)).alloc (.cells #[.int .i64 0,.slice none 0 0] 81)) (w.heap.size+1) t #[x]∧lies.Lies (((w.alloc (.cells #[.int .i64 n,sv] 81)).alloc (.cells #[x] t)).alloc (.cells #[.int .i64 0,.slice none 0 0] 81)) (w.heap.size+1+1) 81 #[.int .i64 0,.slice none 0 0]:=
 ⟨bound.up3 _ _ _ _,lies.on_alloc (lies.on_alloc (lies.made w _ _) _) _,lies.on_alloc (lies.made_at _ _ _ _ (World.size_alloc _ _)) _,lies.made_at _ _ _ _ (by simp)⟩
set_option maxRecDepth 100000 in
set_option maxHeartbeats 4000000 in
theorem drop_any (n k:Int) (sv:Value) (ts:List Int) (w:World) (hI:law.Ints w.heap.size w sv ts) (hm:ts.length≤1000000) (htop:Tops ts):
  Calls Tryz.prog 95 #[.agg #[.int .i64 n,sv],.int .i64 k] w (Gv (DropR n ts k) w):=by
 obtain ⟨DB,D0,DP,D1⟩:=boxP n sv (.int .i64 k) 3 w
 have HI:=Lib.hid hI
 have HT:=Lib.hid htop
 have HMM:=Lib.hid hm
 have C:=Lib.hid (check4_any n sv ts _ ((hI.below DB).mono DB.size) hm htop)
 clear hI hm htop
 by_cases hmay:MayD n ts
 ·have e0:chkD n ts=0:=if_pos hmay
  rw [e0] at C
  obtain ⟨m,rfl,h0,hn,hl⟩:=may_nat hmay
  have HM:=Lib.hid hmay
  have HL:=Lib.hid hl
  clear hmay e0 hl
  by_cases hk:Kc m k
  ·obtain ⟨k1,k2⟩:=hk
   obtain ⟨q,rfl⟩:∃ q:Nat,k=q:=⟨k.toNat,by omega⟩
   have t1:¬ (q:Int)<1:=by omega
   have t2:¬ (m:Int)≤(q:Int):=by omega
   have HKC:RowKit.Hid (Kc m q):=Lib.hid ⟨k1,k2⟩
   go_enter Tryz.func95,Tryz.ntmps95
   go_wp2_with fail
   generalize ((w.alloc (.cells #[.int .i64 m,sv] 81)).alloc (.cells #[.int .i64 q] 3)).alloc (.cells #[.int .i64 0,.slice none 0 0] 81)=w0 at D0 D1 DP DB C ⊢
   refine C.out.mono ?_
   rintro e w1 ⟨rfl,hB⟩
   have E0:=lies.on_call D0 hB
   have E1:=lies.on_call D1 hB
   have EP:=lies.on_call DP hB
   have EB:=DB.trans (hB.mono DB.size)
   clear D0 D1 DP DB hB C
   obtain ⟨x0,x1,x2,x3,x4⟩:=lies.two E0
   obtain ⟨p0,p1,p2⟩:=dbm.one EP
   go_wp2_with fail
   clear x0 x1 x2 x3 x4 p0 p1 p2
   refine (close_g m sv ts w1 ((HI.out.below EB).mono EB.size) HMM.out HT.out).mono ?_
   rintro e w2 ⟨hB,na,aa,la,ca,us,f,rfl,hA,hK⟩
   replace E0:=lies.on_alloc (lies.on_call E0 hB) (.cells #[.int .i64 na,.slice aa la ca] 81)
   replace E1:=lies.on_alloc (lies.on_call E1 hB) (.cells #[.int .i64 na,.slice aa la ca] 81)
   replace EP:=lies.on_alloc (lies.on_call EP hB) (.cells #[.int .i64 na,.slice aa la ca] 81)
   replace EB:=lies.frame_up (EB.trans (hB.mono EB.size)) (.cells #[.int .i64 na,.slice aa la ca] 81)
   replace hK:=hK.below (bound.up1 w2 (.cells #[.int .i64 na,.slice aa la ca] 81))
   have EC:=lies.made w2 81 #[.int .i64 na,.slice aa la ca]
   clear hB
   rcases hA with ⟨hno,rfl,rfl,hf⟩ | ⟨hok,rfl,rfl,rfl⟩
   ·obtain rfl:f=6:=by rw [hf,if_pos HM.out]
    have HG:RowKit.Hid (DropR m ts q 0 [] 6):=Lib.hid (.inr (.inr (.inl ⟨HM.out,HKC.out,hno,rfl,rfl,rfl⟩)))
    clear hno hf hK EC E0 EP
    obtain ⟨y0,y1,y2,y3,y4⟩:=lies.two E1
    go_wp2_with fail
    exact bodyPost_ret (v:=.tuple #[.agg #[.int .i64 0,.slice none 0 0],.int .i64 6]) (by simp [results,Tryz.results95,go_sem,y0,y1]) rfl (Gv.bad EB (by omega) HG.out)
   ·have hlen:(clT (m:Int) ts).length=m*m:=(clT_length hok).trans HL.out
    obtain ⟨g,rfl,rfl,hG⟩:∃ g,aa=some ⟨g,0,none⟩∧la=m*m∧lies.Lies (w2.alloc (.cells #[.int .i64 m,.slice aa la ca] 81)) g 25 (cellsOf (clT (m:Int) ts)):=by
     rcases hK with ⟨_,_,_,k⟩ | ⟨g,h1,h2,h3,h4⟩
     ·have:=Nat.mul_pos h0 h0
      rw [k] at hlen;simp at hlen;omega
     ·exact ⟨g,h2,h3.trans hlen,h4⟩
    have HG:RowKit.Hid (DropR m ts q ((m - 1:Nat):Int) (dropT m q ts) 0):=Lib.hid (.inr (.inr (.inr ⟨hok,HKC.out,rfl,rfl,rfl⟩)))
    have HLE:=Lib.hid hlen
    have HRG:=Lib.hid (row_of hG)
    have hgl:=lies.lt hG
    have z1:wrap64 ((m:Int) - 1)=((m - 1:Nat):Int):=by rw [IntWalk.wrap64_in _ ⟨by omega,by omega⟩];omega
    have z2:IntKind.i64.wrap ((m:Int) - 1)=((m - 1:Nat):Int):=by rw [IntWalk.i64_in _ ⟨by omega,by omega⟩];omega
    clear hok hlen hK hG
    obtain ⟨x0,x1,x2,x3,x4⟩:=lies.two E0
    obtain ⟨c0,c1,c2,c3,c4⟩:=lies.two EC
    go_wp2_with fail
    clear x0 x1 x2 x3 x4 c0 c1 c2 c3 c4 z1 z2
    generalize w2.alloc (.cells #[.int .i64 m,.slice (some ⟨g,0,none⟩) (m*m) ca] 81)=w3 at E0 E1 EP EB EC HRG hgl ⊢
    refine (laidD_is (w.heap.size+1) m (m - 1) g 0 ca (sk q) (clT (m:Int) ts) w3 hn (by omega) (by omega) HRG.out hgl HLE.out (fun i hi=>by have:=sk_lt (k:=q) hi;omega) (fun i hi W hW=>was_drop (w.heap.size+1) q i W (by omega) (lies.on_call EP hW))).mono ?_
    rintro e w4 ⟨hB2,g',hg',rfl,hG'⟩
    have F1:=lies.on_call E1 hB2
    have FB:=EB.trans (hB2.mono EB.size)
    have hlt:=lies.lt E1
    clear E0 E1 EP EB EC hB2
    obtain ⟨y0,y1,y2,y3,y4⟩:=lies.two F1
    go_wp2_with fail
    exact bodyPost_ret (v:=.tuple #[.agg #[.int .i64 ((m - 1:Nat):Int),.slice (some ⟨g',0,none⟩) ((m - 1)*(m - 1)) ((m - 1)*(m - 1))],.int .i64 0]) (by simp [results,Tryz.results95,go_sem,y0,y1]) rfl (Gv.yes FB (by omega) (by omega) hG' (laidT_length _ _ _ _) HG.out)
  ·have HG:RowKit.Hid (DropR m ts k 0 [] 2):=Lib.hid (.inr (.inl ⟨HM.out,hk,rfl,rfl,rfl⟩))
   by_cases k1:k<1
   ·clear hk
    go_enter Tryz.func95,Tryz.ntmps95
    go_wp2_with fail
    generalize ((w.alloc (.cells #[.int .i64 m,sv] 81)).alloc (.cells #[.int .i64 k] 3)).alloc (.cells #[.int .i64 0,.slice none 0 0] 81)=w0 at D0 D1 DP DB C ⊢
    refine C.out.mono ?_
    rintro e w1 ⟨rfl,hB⟩
    have E0:=lies.on_call D0 hB
    have E1:=lies.on_call D1 hB
    have EP:=lies.on_call DP hB
    have EB:=DB.trans (hB.mono DB.size)
    clear D0 D1 DP DB hB C
    obtain ⟨x0,x1,x2,x3,x4⟩:=lies.two E0
    obtain ⟨y0,y1,y2,y3,y4⟩:=lies.two E1
    obtain ⟨p0,p1,p2⟩:=dbm.one EP
    go_wp2_with fail
    exact bodyPost_ret (v:=.tuple #[.agg #[.int .i64 0,.slice none 0 0],.int .i64 2]) (by simp [results,Tryz.results95,go_sem,y0,y1]) rfl (Gv.bad EB (by omega) HG.out)
   ·have k2:(m:Int)≤k:=Decidable.byContradiction fun h=>hk ⟨by omega,by omega⟩
    clear hk
    go_enter Tryz.func95,Tryz.ntmps95
    go_wp2_with fail
    generalize ((w.alloc (.cells #[.int .i64 m,sv] 81)).alloc (.cells #[.int .i64 k] 3)).alloc (.cells #[.int .i64 0,.slice none 0 0] 81)=w0 at D0 D1 DP DB C ⊢
    refine C.out.mono ?_
    rintro e w1 ⟨rfl,hB⟩
    have E0:=lies.on_call D0 hB
    have E1:=lies.on_call D1 hB
    have EP:=lies.on_call DP hB
    have EB:=DB.trans (hB.mono DB.size)
    clear D0 D1 DP DB hB C
    obtain ⟨x0,x1,x2,x3,x4⟩:=lies.two E0
    obtain ⟨y0,y1,y2,y3,y4⟩:=lies.two E1
    obtain ⟨p0,p1,p2⟩:=dbm.one EP
    go_wp2_with fail
    exact bodyPost_ret (v:=.tuple #[.agg #[.int .i64 0,.slice none 0 0],.int .i64 2]) (by simp [results,Tryz.results95,go_sem,y0,y1]) rfl (Gv.bad EB (by omega) HG.out)
 ·have e0:chkD n ts=8:=if_neg hmay
  rw [e0] at C
  have HG:RowKit.Hid (DropR n ts k 0 [] 8):=Lib.hid (.inl ⟨hmay,rfl,rfl,rfl⟩)
  clear hmay e0
  go_enter Tryz.func95,Tryz.ntmps95
  go_wp2_with fail
  generalize ((w.alloc (.cells #[.int .i64 n,sv] 81)).alloc (.cells #[.int .i64 k] 3)).alloc (.cells #[.int .i64 0,.slice none 0 0] 81)=w0 at D0 D1 DP DB C ⊢
  refine C.out.mono ?_
  rintro e w1 ⟨rfl,hB⟩
  have E1:=lies.on_call D1 hB
  have EB:=DB.trans (hB.mono DB.size)
  clear D0 D1 DP DB hB C
  obtain ⟨y0,y1,y2,y3,y4⟩:=lies.two E1
  go_wp2_with fail
  exact bodyPost_ret (v:=.tuple #[.agg #[.int .i64 0,.slice none 0 0],.int .i64 8]) (by simp [results,Tryz.results95,go_sem,y0,y1]) rfl (Gv.bad EB (by omega) HG.out)
end Go.Proofs.YthmljpccbjolgaaGreatDoor.proj
