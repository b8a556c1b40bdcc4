
/-
  Times in memory, whether they keep a matrix, and that they keep it just if they keep the closed one; each theorem names its conditions.
-/
import Derived.Test.YthmljpccbjolgaaGreatDoorDbmC
import Derived.Test.YthmljpccbjolgaaGreatDoorRatB
import Derived.Deep.Slices
import Derived.Deep.Fields
import Derived.ChangeSame
import Derived.Maps.OwnIn
import Derived.Laws.OwnMore
import Derived.Test.YthmljpccbjolgaaGreatDoorDbmB
namespace Go.Proofs.YthmljpccbjolgaaGreatDoor.dbm
open Go.ChangeShapes Go.WideShapes Go.ChangeAt Go.RowKit Go.Deep num rat
open bound hiding up
set_option linter.unusedVariables false
set_option linter.unusedSimpArgs false
def pr (rs:List (Int × Int)) (k:Nat):Int × Int:=rs[k]?.getD (0,0)
def RowR (W:World) (b off:Nat) (rs:List (Int × Int)):Prop:=∀ k,k<rs.length→W.cell? ⟨b,off+k*2,none⟩=some (.int .i64 (pr rs k).1)∧W.cell? ⟨b,off+k*2+1,none⟩=some (.int .i64 (pr rs k).2)
theorem RowR.below {n:Nat} {W W':World} {b off:Nat} {rs:List (Int × Int)} (h:RowR W b off rs) (k:Below n W W') (hb:b<n):RowR W' b off rs:=fun p hp=>⟨(k.cell (p:=⟨b,off+p*2,none⟩) hb).trans (h p hp).1,(k.cell (p:=⟨b,off+p*2+1,none⟩) hb).trans (h p hp).2⟩
def Rats (n₀:Nat) (W:World) (sv:Value) (rs:List (Int × Int)):Prop:=
 ((∃ a cap,sv=.slice a 0 cap∧(a=none→cap=0))∧rs=[])∨∃ b off cap,sv=.slice (some ⟨b,off,none⟩) rs.length cap∧b<n₀∧RowR W b off rs
def IntsR (rs:List (Int × Int)):Prop:=∀ k,k<rs.length→(-9223372036854775808≤(pr rs k).1∧(pr rs k).1≤9223372036854775807)∧(-9223372036854775808≤(pr rs k).2∧(pr rs k).2≤9223372036854775807)
section
variable {H:Type} {enc:TypeId × Value→H} {P:Program} {w:World} {base:Nat} {spare:Nat→Bool} {held:Bool}
end
def MayT (rs:List (Int × Int)):Prop:=∀ k,k<rs.length→MayR (pr rs k).1 (pr rs k).2
theorem one {W:World} {g:Nat} {t:TypeId} {u:Value} (h:lies.Lies W g t #[u]):W.cell? ⟨g,0,none⟩=some u∧W.frozen? ⟨g,0,none⟩=false∧g<W.heap.size:=⟨lies.cell h 0,lies.free h 0,lies.lt h⟩
end Go.Proofs.YthmljpccbjolgaaGreatDoor.dbm
namespace Go.Proofs.YthmljpccbjolgaaGreatDoor.dbm
open Go.RowKit Go.Shelf num rat
open bound hiding up
attribute [local go_sem] Oper.semAt_some
set_option linter.unusedVariables false
set_option linter.unusedSimpArgs false
def flat (rs:List (Int × Int)):List Value:=rs.flatMap fun x=>[.int .i64 x.1,.int .i64 x.2]
theorem flat_length (rs:List (Int × Int)):(flat rs).length=rs.length*2:=by
 induction rs with
 | nil=>rfl
 | cons x rs ih=>simp [flat] at ih ⊢;omega
theorem flat_cons (x:Int × Int) (rs:List (Int × Int)):flat (x::rs)=[.int .i64 x.1,.int .i64 x.2]++flat rs:=rfl
theorem flat_at (rs:List (Int × Int)) (k:Nat) (h:k<rs.length):(flat rs)[k*2]?=some (.int .i64 (pr rs k).1)∧(flat rs)[k*2+1]?=some (.int .i64 (pr rs k).2):=by
 induction rs generalizing k with
 | nil=>simp at h
 | cons x rs ih=>
  cases k with
  | zero=>exact ⟨rfl,rfl⟩
  | succ k=>
   have:=ih k (by simpa using h)
   rw [flat_cons,Nat.add_mul,Nat.one_mul]
   refine ⟨?_,?_⟩
   ·rw [List.getElem?_append_right (by simp)]
    simpa [pr] using this.1
   ·rw [List.getElem?_append_right (by simp)]
    simpa [pr] using this.2
theorem info_r:(Tryz.prog.info? 45).map (fun i=>(i.zero,i.size,i.bytes))=some (some (.agg #[.int .i64 (0),.int .i64 (0)]),2,16):=by kernel_rfl
theorem append_run {F:Fence} {nF:Nat} {P:Program} {w:World} {ops:Array Oper} {rest:List Oper} {o:Oper} {a:Act} {Q:Exit→Act→World→Prop} (hgd:o.guard=none) (s x:Operand) (t:TypeId)
  (ho:o.op=.call {callee:=.builtin .append,args:=#[s,x],argTypes:=#[t,t]}) (v u v':Value) (w':World) (hs:a.eval s=v) (hx:a.eval x=u)
  (hr:(Builtin.append_ #[t,t] o.type #[v,u]).run P w=.ok v' w') (h:wpListIn F nF P ops Q rest (a.put o.dst v') w'):
  wpListIn F nF P ops Q (o::rest) a w:=by
 refine wpListIn_plain hgd fun K hK=>?_
 unfold Oper.wpIn
 refine ⟨by simp [Oper.about,ho,resolve,Target.leads,Sem.run_pure],?_⟩
 rw [Oper.semAt_plain F _ _ (by rw [ho];intro c hc';cases hc')]
 simp [execOp,ho,resolve,invoke,builtin,hs,hx,hr,Result.andThen]
 exact hK _ _ h
end Go.Proofs.YthmljpccbjolgaaGreatDoor.dbm
namespace Go.Proofs.YthmljpccbjolgaaGreatDoor.dbm
open Go.RowKit Go.Shelf num rat
open bound hiding up
attribute [local go_sem] Oper.semAt_some
set_option linter.unusedVariables false
set_option linter.unusedSimpArgs false
def kp (n:Nat) (ts:List Int) (qs:List (Int × Int)) (i j:Nat):Bool:=kpV (pr qs i).1 (pr qs i).2 (pr qs j).1 (pr qs j).2 (tat ts n i j)
def keptAll (n:Nat) (ts:List Int) (qs:List (Int × Int)):Prop:=∀ i j,i<n→j<n→kp n ts qs i j=true
theorem own_rowR {W:World} {base g m cap:Nat} {t:TypeId} {qs:List (Int × Int)} (h:W.ownsRow base t 2 (.slice (some ⟨g,0,none⟩) m cap) m (flat qs)):RowR W g 0 qs:=fun k hk=>by
 have hl:m*2=qs.length*2:=by have:=h.1;rw [flat_length] at this;omega
 obtain ⟨a,b⟩:=flat_at qs k hk
 exact ⟨by rw [Nat.zero_add];exact (h.cellAt (k*2) (by omega)).trans a,by rw [Nat.zero_add];exact (h.cellAt (k*2+1) (by omega)).trans b⟩
end Go.Proofs.YthmljpccbjolgaaGreatDoor.dbm
namespace Go.Proofs.YthmljpccbjolgaaGreatDoor.dbm
open Go.RowKit num rat
open bound hiding up
set_option linter.unusedVariables false
end Go.Proofs.YthmljpccbjolgaaGreatDoor.dbm
namespace Go.Proofs.YthmljpccbjolgaaGreatDoor.dbm
open num rat
open bound hiding up
set_option linter.unusedVariables false
theorem by_third (a b c d e f:Int):f*(a*d - c*b)=d*(a*f - e*b)+b*(e*d - c*f):=by
 simp only [Int.mul_sub]
 have h1:f*(a*d)=d*(a*f):=by ac_rfl
 have h2:f*(c*b)=b*(c*f):=by ac_rfl
 have h3:d*(e*b)=b*(e*d):=by ac_rfl
 omega
theorem by_third' (b d f m k:Int):f*((m+k)*(b*d))=d*(m*(b*f))+b*(k*(f*d)):=by
 simp only [Int.add_mul,Int.mul_add]
 have h1:f*(m*(b*d))=d*(m*(b*f)):=by ac_rfl
 have h2:f*(k*(b*d))=b*(k*(f*d)):=by ac_rfl
 omega
theorem le_third {a b c d e f m k:Int} (hb:0<b) (hd:0<d) (hf:0<f) (h1:a*f - e*b≤m*(b*f)) (h2:e*d - c*f≤k*(f*d)):a*d - c*b≤(m+k)*(b*d):=by
 refine Int.le_of_mul_le_mul_left (a:=f) ?_ hf
 rw [by_third,by_third']
 exact Int.add_le_add (Int.mul_le_mul_of_nonneg_left h1 (Int.le_of_lt hd)) (Int.mul_le_mul_of_nonneg_left h2 (Int.le_of_lt hb))
theorem lt_third {a b c d e f m k:Int} (hb:0<b) (hd:0<d) (hf:0<f) (h1:a*f - e*b≤m*(b*f)) (h2:e*d - c*f≤k*(f*d)) (h:a*f - e*b<m*(b*f)∨e*d - c*f<k*(f*d)):a*d - c*b<(m+k)*(b*d):=by
 refine Int.lt_of_mul_lt_mul_left (a:=f) ?_ (Int.le_of_lt hf)
 rw [by_third,by_third']
 rcases h with h | h
 ·exact Int.add_lt_add_of_lt_of_le (Int.mul_lt_mul_of_pos_left h hd) (Int.mul_le_mul_of_nonneg_left h2 (Int.le_of_lt hb))
 ·exact Int.add_lt_add_of_le_of_lt (Int.mul_le_mul_of_nonneg_left h1 (Int.le_of_lt hd)) (Int.mul_lt_mul_of_pos_left h hb)
theorem keptR_le {a b c d x:Int} (h:keptR a b c d x=true):a*d - c*b≤x / 2*(b*d):=by
 unfold keptR ltB at h
 by_cases s:bS x=true
 ·rw [if_pos s] at h;have:=of_decide_eq_true h;omega
 ·rw [if_neg s] at h;simp at h;omega
theorem keptR_lt {a b c d x:Int} (s:bS x=true):keptR a b c d x=true↔a*d - c*b<x / 2*(b*d):=by
 unfold keptR ltB
 rw [if_pos s]
 simp
theorem keptR_ge {a b c d x:Int} (s:¬ bS x=true):keptR a b c d x=true↔a*d - c*b≤x / 2*(b*d):=by
 unfold keptR ltB
 rw [if_neg s]
 simp
theorem keptR_add {a b c d e f x y z:Int} (hb:0<b) (hd:0<d) (hf:0<f) (h1:keptR a b e f x=true) (h2:keptR e f c d y=true) (hz:z / 2=x / 2+y / 2) (hs:bS z=true→bS x=true∨bS y=true):keptR a b c d z=true:=by
 have l1:=keptR_le h1
 have l2:=keptR_le h2
 by_cases s:bS z=true
 ·rw [keptR_lt s,hz]
  refine lt_third hb hd hf l1 l2 ?_
  rcases hs s with s1 | s1
  ·exact .inl ((keptR_lt s1).1 h1)
  ·exact .inr ((keptR_lt s1).1 h2)
 ·rw [keptR_ge s,hz]
  exact le_third hb hd hf l1 l2
theorem keptR_up {a b c d x y:Int} (hb:0<b) (hd:0<d) (h:keptR a b c d x=true) (hxy:x≤y):keptR a b c d y=true:=by
 have hp:0<b*d:=Int.mul_pos hb hd
 have l:=keptR_le h
 have hq:x / 2*(b*d)≤y / 2*(b*d):=Int.mul_le_mul_of_nonneg_right (by omega) (Int.le_of_lt hp)
 by_cases s:bS y=true
 ·rw [keptR_lt s]
  by_cases s1:bS x=true
  ·have:=(keptR_lt s1).1 h;omega
  ·have hlt:x / 2<y / 2:=by
    unfold bS at s s1
    simp at s s1
    omega
   have:=Int.mul_lt_mul_of_pos_right hlt hp
   omega
 ·rw [keptR_ge s];omega
end Go.Proofs.YthmljpccbjolgaaGreatDoor.dbm
namespace Go.Proofs.YthmljpccbjolgaaGreatDoor.dbm
open num rat way
open bound hiding up
set_option linter.unusedVariables false
def kB (q:Nat→Int × Int) (i j:Nat):B→Prop
 | none=>True
 | some z=>keptR (q i).1 (q i).2 (q j).1 (q j).2 z=true
theorem kB_ad {q:Nat→Int × Int} (hq:∀ i,0<(q i).2) {i m j:Nat} {x y:B} (h:kB q i m x) (k:kB q m j y):kB q i j (ad x y):=by
 cases x with
 | none=>rw [none_ad];trivial
 | some a=>
  cases y with
  | none=>rw [ad_none];trivial
  | some b=>
   rw [ad_some]
   refine keptR_add (hq i) (hq j) (hq m) h k (by omega) (fun s=>?_)
   unfold bS at s ⊢
   simp at s ⊢
   omega
theorem kB_up {q:Nat→Int × Int} (hq:∀ i,0<(q i).2) {i j:Nat} {x y:B} (h:kB q i j x) (k:le x y):kB q i j y:=by
 cases y with
 | none=>trivial
 | some b=>
  cases x with
  | none=>exact k.elim
  | some a=>exact keptR_up (hq i) (hq j) h k
theorem kB_way {q:Nat→Int × Int} (hq:∀ i,0<(q i).2) {d:Tab} (h:∀ i j,kB q i j (d i j)) (l:List Nat):∀ i j,kB q i j (w d i l j):=by
 induction l with
 | nil=>exact fun i j=>h i j
 | cons m l ih=>exact fun i j=>kB_ad hq (h i m) (ih m j)
theorem kB_F {q:Nat→Int × Int} (hq:∀ i,0<(q i).2) {d:Tab} (h:∀ i j,kB q i j (d i j)) (k i j:Nat):kB q i j (F d k i j):=by
 obtain ⟨l,_,e⟩:=F_is d k i j
 rw [←e]
 exact kB_way hq h l i j
theorem kB_self {q:Nat→Int × Int} (hq:∀ i,0<(q i).2) {i:Nat} {x:B} (h:kB q i i x):le way.one x:=by
 cases x with
 | none=>exact le_none _
 | some z=>
  have hp:0<(q i).2*(q i).2:=Int.mul_pos (hq i) (hq i)
  show (1:Int)≤z
  have l:=keptR_le h
  rw [Int.sub_self] at l
  refine Decidable.byContradiction fun hz=>?_
  by_cases e:z=0
  ·subst e
   have:=(keptR_lt (x:=0) rfl).1 h
   simp at this
  ·have:z / 2<0:=by omega
   have:=Int.mul_lt_mul_of_pos_right this hp
   omega
theorem kB_one {q:Nat→Int × Int} (i:Nat):kB q i i way.one:=by
 show keptR _ _ _ _ 1=true
 rw [keptR_ge (by decide)]
 simp
end Go.Proofs.YthmljpccbjolgaaGreatDoor.dbm
namespace Go.Proofs.YthmljpccbjolgaaGreatDoor.dbm
open num rat way
open bound hiding up
set_option linter.unusedVariables false
theorem kp_kB {a b c d x:Int} (h:MayR a b) (h':MayR c d) (hx:Fine x):kpV a b c d x=true↔(x=9223372036854775807∨keptR a b c d x=true):=by
 unfold kpV
 rw [if_pos ⟨h,h'⟩]
 by_cases e:x=9223372036854775807
 ·rw [if_pos e];exact ⟨fun _=>.inl e,fun _=>rfl⟩
 ·rw [if_neg e,if_pos (by unfold Fine at hx;unfold May;omega)]
  exact ⟨fun k=>.inr k,fun k=>k.resolve_left e⟩
def tms (n:Nat) (qs:List (Int × Int)) (i:Nat):Int × Int:=if i<n then pr qs i else (0,1)
theorem tms_pos {n:Nat} {qs:List (Int × Int)} (hm:MayT qs) (hl:qs.length=n) (i:Nat):0<(tms n qs i).2:=by
 unfold tms
 by_cases h:i<n
 ·rw [if_pos h]
  have:=(hm i (by omega)).1
  omega
 ·rw [if_neg h];decide
theorem kp_iff {n:Nat} {us:List Int} {qs:List (Int × Int)} (hm:MayT qs) (hl:qs.length=n) {i j:Nat} (hi:i<n) (hj:j<n) (hx:Fine (tat us n i j)):kp n us qs i j=true↔kB (tms n qs) i j (cod (tat us n i j)):=by
 unfold kp
 rw [kp_kB (hm i (by omega)) (hm j (by omega)) hx]
 unfold cod
 by_cases e:tat us n i j=9223372036854775807
 ·rw [if_pos e];exact ⟨fun _=>trivial,fun _=>.inl e⟩
 ·rw [if_neg e]
  have e1:tms n qs i=pr qs i:=if_pos hi
  have e2:tms n qs j=pr qs j:=if_pos hj
  unfold kB
  rw [e1,e2]
  exact ⟨fun k=>k.resolve_left e,fun k=>.inr k⟩
theorem kept_beg {n:Nat} {ts:List Int} {qs:List (Int × Int)} (hn:n≤4) (hl:ts.length=n*n) (htop:Tops ts) (hf:∀ p,p<ts.length→Fine (ts[p]?.getD 0)) (hm:MayT qs) (hq:qs.length=n) (h:keptAll n ts qs) (i j:Nat):kB (tms n qs) i j (beg n ts i j):=by
 by_cases hij:i<n∧j<n
 ·obtain ⟨hi,hj⟩:=hij
  unfold beg
  rw [wts_in hi hj,beg_at hl hn hi hj]
  have k:=(kp_iff hm hq hi hj (fine_at hl hn hf hi hj)).1 (h i j hi hj)
  by_cases e:i=j
  ·subst e
   rw [if_pos rfl,cod_lsr (tat_top htop n i i) (by decide)]
   rcases mn_is (cod (tat ts n i i)) (cod 1) with e | e
   ·rw [e];exact k
   ·rw [e];exact kB_one i
  ·rw [if_neg e];exact k
 ·have:beg n ts i j=none:=if_neg hij
  rw [this];trivial
theorem kept_closed {n:Nat} {ts:List Int} {qs:List (Int × Int)} (h0:0<n) (hn:n≤4) (hl:ts.length=n*n) (htop:Tops ts) (hf:∀ p,p<ts.length→Fine (ts[p]?.getD 0)) (hm:MayT qs) (hq:qs.length=n) (h:keptAll n ts qs):
  ∀ k,k≤n→¬ emp n (tabs n h0 ts k):=by
 intro k
 induction k using Nat.strongRecOn with
 | _ k ih=>
  rintro hk ⟨i,hi,he⟩
  have e:=tabs_is h0 hn hl htop hf k hk (fun m hmk=>ih m hmk (by omega)) i i hi hi
  have:=kB_self (tms_pos hm hq) (kB_F (tms_pos hm hq) (kept_beg hn hl htop hf hm hq h) k i i)
  rw [←e] at this
  have:=(cod_le (by decide) (tat_top (tabs_tops h0 htop k) n i i)).1 (show le (cod 1) _ from this)
  omega
theorem kept_same {n:Nat} {ts:List Int} {qs:List (Int × Int)} (h0:0<n) (hn:n≤4) (hl:ts.length=n*n) (htop:Tops ts) (hf:∀ p,p<ts.length→Fine (ts[p]?.getD 0)) (hm:MayT qs) (hq:qs.length=n)
  (hne:∀ k,k≤n→¬ emp n (tabs n h0 ts k)) (hc:∀ i j,i<n→j<n→Fine (tat (tabs n h0 ts n) n i j)):keptAll n ts qs↔keptAll n (tabs n h0 ts n) qs:=by
 have he:=tabs_is h0 hn hl htop hf n (Nat.le_refl _) (fun m hm=>hne m (by omega))
 refine ⟨fun h i j hi hj=>?_,fun h i j hi hj=>?_⟩
 ·rw [kp_iff hm hq hi hj (hc i j hi hj),he i j hi hj]
  exact kB_F (tms_pos hm hq) (kept_beg hn hl htop hf hm hq h) n i j
 ·have k:=(kp_iff hm hq hi hj (hc i j hi hj)).1 (h i j hi hj)
  rw [kp_iff hm hq hi hj (fine_at hl hn hf hi hj)]
  exact kB_up (tms_pos hm hq) k ((cod_le (tat_top (tabs_tops h0 htop n) n i j) (tat_top htop n i j)).2 (closed_le h0 hn hl htop hf hne hi hj))
end Go.Proofs.YthmljpccbjolgaaGreatDoor.dbm
