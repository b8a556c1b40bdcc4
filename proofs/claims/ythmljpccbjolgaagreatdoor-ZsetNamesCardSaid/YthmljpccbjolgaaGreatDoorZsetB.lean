
/-
  What zones come to (in common, composed, within a span, in a window), for sets of them, pure; each theorem names its conditions.
-/
import Derived.Test.YthmljpccbjolgaaGreatDoorZsetA
import Derived.Test.YthmljpccbjolgaaGreatDoorWinL
import Derived.Test.YthmljpccbjolgaaGreatDoorMinusF
namespace Go.Proofs.YthmljpccbjolgaaGreatDoor.zset
open way num rat dbm Go.Proofs.YthmljpccbjolgaaGreatDoor.tight Go.Proofs.YthmljpccbjolgaaGreatDoor.tkept Go.Proofs.YthmljpccbjolgaaGreatDoor.incl Go.Proofs.YthmljpccbjolgaaGreatDoor.zone Go.Proofs.YthmljpccbjolgaaGreatDoor.comp Go.Proofs.YthmljpccbjolgaaGreatDoor.win Go.Proofs.YthmljpccbjolgaaGreatDoor.minus Go.Proofs.YthmljpccbjolgaaGreatDoor.mz Go.Proofs.YthmljpccbjolgaaGreatDoor.cover
open bound hiding up
set_option linter.unusedVariables false
set_option linter.unusedSimpArgs false
set_option linter.unusedSectionVars false
theorem les_all {w:List Int} (tw:Tops w):lesT (fullT all6) (fullT w)=fullT w:=by
 have key:∀ i:Nat,w[i]?.getD 0≤9223372036854775807:=fun i=>by
  cases h:w[i]? with
  | none=>decide
  | some x=>exact tw x (List.mem_of_getElem? h)
 show [lsr 1 1,lsr 9223372036854775807 (w[1]?.getD 0),lsr 9223372036854775807 (w[3]?.getD 0),lsr 9223372036854775807 (w[0]?.getD 0),lsr 1 1,lsr 9223372036854775807 (w[5]?.getD 0),lsr 9223372036854775807 (w[2]?.getD 0),lsr 9223372036854775807 (w[4]?.getD 0),lsr 1 1]=fullT w
 rw [lsr_self,zone.lsr_of (key 1),zone.lsr_of (key 3),zone.lsr_of (key 0),zone.lsr_of (key 5),zone.lsr_of (key 2),zone.lsr_of (key 4)]
 rfl
theorem closed_pair {w:List Int} {a b:Nat} (tw:Tops w) (mw:MayD 3 (fullT w)) (ok:OkD 3 (fullT w)) (ha:a<3) (hb:b<3) (h:∀ i j,i<3→j<3→i≠j→¬ (i=a∧j=b)→¬ (i=b∧j=a)→zw w i j=none):MayZ w:=by
 have diag:∀ i,i<3→zw w i i=way.one:=fun i hi=>by rcases (by omega:i=0∨i=1∨i=2) with rfl | rfl | rfl<;>rfl
 refine cl_may tw mw ⟨fun i j m hi hj hm=>?_,diag⟩
 by_cases e1:i=m
 ·subst e1
  rw [diag i hi,one_ad]
  exact le_refl _
 by_cases e2:m=j
 ·subst e2
  rw [diag m hm,ad_one]
  exact le_refl _
 by_cases k1:(i=a∧m=b)∨(i=b∧m=a)
 ·by_cases k2:(m=a∧j=b)∨(m=b∧j=a)
  ·have e:i=j:=by omega
   subst e
   rw [diag i hi]
   exact pair_ok (n:=3) (by decide) (by decide) rfl (full_tops tw) ok hi hm
  ·rw [h m j hm hj e2 (fun q=>k2 (.inl q)) (fun q=>k2 (.inr q)),ad_none]
   exact le_none _
 ·rw [h i m hi hm e1 (fun q=>k1 (.inl q)) (fun q=>k1 (.inr q)),none_ad]
  exact le_none _
theorem diff_closed {s:Sp} (hs:MayP s) (ok:OkD 3 (fullT (diffZ s))):MayZ (diffZ s):=closed_pair (a:=1) (b:=2) (diff_tops hs) (diff_may hs) ok (by decide) (by decide) fun i j hi hj h1 h2 h3=>by
 rcases (by omega:(i=0∧j=1)∨(i=0∧j=2)∨(i=1∧j=0)∨(i=2∧j=0)) with ⟨rfl,rfl⟩ | ⟨rfl,rfl⟩ | ⟨rfl,rfl⟩ | ⟨rfl,rfl⟩<;>rfl
theorem late_closed {s:Sp} (hs:MayP s) (ok:OkD 3 (fullT (lateZ s))):MayZ (lateZ s):=closed_pair (a:=0) (b:=2) (late_tops hs) (late_may hs) ok (by decide) (by decide) fun i j hi hj h1 h2 h3=>by
 rcases (by omega:(i=0∧j=1)∨(i=2∧j=1)∨(i=1∧j=0)∨(i=1∧j=2)) with ⟨rfl,rfl⟩ | ⟨rfl,rfl⟩ | ⟨rfl,rfl⟩ | ⟨rfl,rfl⟩<;>rfl
theorem zo_all:Zo all6:=by
 obtain ⟨k1,k2⟩:=tlaw.ok_cl (m:=3) (by decide) (ts:=[1,9223372036854775807,9223372036854775807,9223372036854775807,1,9223372036854775807,9223372036854775807,9223372036854775807,1]) (us:=[1,9223372036854775807,9223372036854775807,9223372036854775807,1,9223372036854775807,9223372036854775807,9223372036854775807,1]) (by decide+kernel) (by decide+kernel)
 exact ⟨⟨k1,k2⟩,by unfold Tops all6;decide,rfl⟩
theorem cut_all {w o:List Int} {e:Int} (tw:Tops w) (hc:OkD 3 (fullT w)→MayZ w) (h:CutR all6 w o e):e=0∨e=6:=by
 unfold CutR at h
 rw [les_all tw] at h
 rcases h with ⟨_,_,k⟩ | ⟨k1,k2,_,_⟩ | ⟨_,_,_,k⟩
 ·exact .inr k
 ·refine (k2 ?_).elim
  rw [(hc k1).2]
  exact (hc k1).may
 ·exact .inl k
def SpC (s:Sp) (c:Int):Prop:=(MayP s∧c=0)∨(¬ MayP s∧c=8)
def NuC (a b c:Int):Prop:=(MayW a b∧c=0)∨(¬ MayW a b∧c=2)
def WinT (s:Sp):To:=fun z o e=>WithinR z s o e
def LatT (a b:Int):To:=fun z o e=>WindowR z a b o e
theorem within_all {s:Sp} {o:List Int} {e:Int} (h:WinT s all6 o e):(MayP s∧(e=0∨e=6))∨(¬ MayP s∧e=8):=by
 rcases h with ⟨k,_⟩ | ⟨_,k,_,k2⟩ | ⟨_,k,k2⟩
 ·exact (k zo_all.1).elim
 ·exact .inr ⟨k,k2⟩
 ·exact .inl ⟨k,cut_all (diff_tops k) (diff_closed k) k2⟩
theorem winS_may {a b:Int} (h:MayW a b):MayP (winS a b):=win_may h.1 h.2.1 (Int.le_of_lt h.2.2)
theorem window_all {a b:Int} {o:List Int} {e:Int} (h:LatT a b all6 o e):(MayW a b∧(e=0∨e=6))∨(¬ MayW a b∧e=2):=by
 rcases h with ⟨k,_⟩ | ⟨_,k,_,k2⟩ | ⟨_,k,k2⟩
 ·exact (k zo_all.1).elim
 ·exact .inr ⟨k,k2⟩
 ·exact .inl ⟨k,cut_all (late_tops (winS_may k)) (late_closed (winS_may k)) k2⟩
theorem col_span {s:Sp} {r:List (List Int)} {e:Int} (h:Col (WinT s) [all6] [] r e):SpC s e:=by
 obtain ⟨o,g,hT,q⟩:=h
 rcases within_all hT with ⟨k1,k2⟩ | ⟨k1,k2⟩<;>rcases q with ⟨q1,q2⟩ | ⟨q1,q2,q3,q4⟩ | ⟨q1,q2⟩
 ·exact .inl ⟨k1,q2.2⟩
 ·omega
 ·exact .inl ⟨k1,q2.2⟩
 ·omega
 ·exact .inr ⟨k1,q4.trans k2⟩
 ·omega
theorem col_late {a b:Int} {r:List (List Int)} {e:Int} (h:Col (LatT a b) [all6] [] r e):NuC a b e:=by
 obtain ⟨o,g,hT,q⟩:=h
 rcases window_all hT with ⟨k1,k2⟩ | ⟨k1,k2⟩<;>rcases q with ⟨q1,q2⟩ | ⟨q1,q2,q3,q4⟩ | ⟨q1,q2⟩
 ·exact .inl ⟨k1,q2.2⟩
 ·omega
 ·exact .inl ⟨k1,q2.2⟩
 ·omega
 ·exact .inr ⟨k1,q4.trans k2⟩
 ·omega
/-! each is one -/
theorem meet_one' (y z o:List Int) (e:Int) (o':List Int) (e':Int) (h:MeetR y z o e) (k:MeetR y z o' e'):o'=o∧e'=e:=by
 rcases h with ⟨m,rfl,rfl⟩ | ⟨p,q,n,rfl,rfl⟩ | ⟨p,q,n,c,rfl,rfl⟩ | ⟨p,q,n,c,hz,rfl⟩<;>rcases k with ⟨m',rfl,rfl⟩ | ⟨p',q',n',rfl,rfl⟩ | ⟨p',q',n',c',rfl,rfl⟩ | ⟨p',q',n',c',hz',rfl⟩
 all_goals first | exact ⟨rfl,rfl⟩ | exact ⟨hz'.trans hz.symm,rfl⟩ | exact (m ⟨p',q'⟩).elim | exact (m' ⟨p,q⟩).elim | exact (n n').elim | exact (n' n).elim | exact (c c').elim | exact (c' c).elim
theorem comp_one' (y z o:List Int) (e:Int) (o':List Int) (e':Int) (h:CompR y z o e) (k:CompR y z o' e'):o'=o∧e'=e:=by
 rcases h with ⟨m,rfl,rfl⟩ | ⟨p,q,n,rfl,rfl⟩ | ⟨p,q,n,c,rfl,rfl⟩ | ⟨p,q,n,c,hz,rfl⟩<;>rcases k with ⟨m',rfl,rfl⟩ | ⟨p',q',n',rfl,rfl⟩ | ⟨p',q',n',c',rfl,rfl⟩ | ⟨p',q',n',c',hz',rfl⟩
 all_goals first | exact ⟨rfl,rfl⟩ | exact ⟨hz'.trans hz.symm,rfl⟩ | exact (m ⟨p',q'⟩).elim | exact (m' ⟨p,q⟩).elim | exact (n n').elim | exact (n' n).elim | exact (c c'.may).elim | exact (c' c.may).elim
/-! zones that may be, and their points -/
theorem cut_pt0 {z w x:List Int} {p:Pt} (tz:Tops z) (hz:MayD 3 (fullT z)) (hw:MayD 3 (fullT w)) (m:MayQ p) (h:CutR z w x 0):hasP x p=true↔hasP z p=true∧hasP w p=true:=by
 obtain ⟨_,_,_,_,k⟩:=cut_good tz hz hw h
 unfold hasP
 rw [has_kept m.1 m.2,has_kept m.1 m.2,has_kept m.1 m.2]
 exact k _ _ _ _ m.1 m.2
theorem cut_pt6 {z w x:List Int} {p:Pt} (tz:Tops z) (hz:MayD 3 (fullT z)) (hw:MayD 3 (fullT w)) (m:MayQ p) (h:CutR z w x 6):¬ (hasP z p=true∧hasP w p=true):=by
 rcases h with ⟨n,_,_⟩ | ⟨_,_,_,e⟩ | ⟨_,_,_,e⟩
 ·unfold hasP
  rw [has_kept m.1 m.2,has_kept m.1 m.2]
  exact cut_out tz hz hw n _ _ _ _ m.1 m.2
 ·cases e
 ·cases e
theorem meet_cut {y z o:List Int} {e:Int} (hy:MayZ y) (hz:MayZ z) (h:MeetR y z o e):CutR y z o e:=by
 rcases h with ⟨k,_⟩ | ⟨_,_,k⟩ | ⟨_,_,k⟩ | ⟨_,_,k⟩
 ·exact (k ⟨hy,hz⟩).elim
 ·exact .inl k
 ·exact .inr (.inl k)
 ·exact .inr (.inr k)
def MetT (y:List Int):To:=fun z o e=>MeetR y z o e
def ComT (y:List Int):To:=fun z o e=>CompR y z o e
theorem meet_zo (y:List Int) (hy:Zo y) (z:List Int) (hz:Zo z) (o:List Int) (h:MetT y z o 0):Zo o:=cut_zo hy.2.1 hy.1.may hz.1.may (meet_cut hy.1 hz.1 h)
theorem meet_p0 {p:Pt} (m:MayQ p) (y:List Int) (hy:Zo y) (z:List Int) (hz:Zo z) (o:List Int) (h:MetT y z o 0):hasP o p=true↔hasP y p=true∧hasP z p=true:=cut_pt0 hy.2.1 hy.1.may hz.1.may m (meet_cut hy.1 hz.1 h)
theorem meet_p6 {p:Pt} (m:MayQ p) (y:List Int) (hy:Zo y) (z:List Int) (hz:Zo z) (o:List Int) (h:MetT y z o 6):¬ (hasP y p=true∧hasP z p=true):=cut_pt6 hy.2.1 hy.1.may hz.1.may m (meet_cut hy.1 hz.1 h)
theorem comp_zo (y:List Int) (hy:Zo y) (z:List Int) (hz:Zo z) (o:List Int) (h:ComT y z o 0):Zo o:=by
 rcases h with ⟨_,_,e⟩ | ⟨_,_,_,_,e⟩ | ⟨_,_,_,_,_,e⟩ | ⟨_,_,k1,k2,k3,_⟩
 ·cases e
 ·cases e
 ·cases e
 ·rw [k3]
  exact ⟨k2,comp_tops hy.2.1 hz.2.1 k1,rfl⟩
theorem within_told {s:Sp} {z o:List Int} {e:Int} (hz:Zo z) (h:WinT s z o e) (he:e≠8):MayP s∧CutR z (diffZ s) o e:=by
 rcases h with ⟨k,_⟩ | ⟨_,k,_,k2⟩ | ⟨_,k,k2⟩
 ·exact (k hz.1).elim
 ·exact (he k2).elim
 ·exact ⟨k,k2⟩
theorem window_told {a b:Int} {z o:List Int} {e:Int} (hz:Zo z) (h:LatT a b z o e) (he:e≠2):MayW a b∧CutR z (lateZ (winS a b)) o e:=by
 rcases h with ⟨k,_⟩ | ⟨_,k,_,k2⟩ | ⟨_,k,k2⟩
 ·exact (k hz.1).elim
 ·exact (he k2).elim
 ·exact ⟨k,k2⟩
theorem within_zo {s:Sp} (z:List Int) (hz:Zo z) (o:List Int) (h:WinT s z o 0):Zo o:=by
 obtain ⟨k1,k2⟩:=within_told hz h (by decide)
 exact cut_zo hz.2.1 hz.1.may (diff_may k1) k2
theorem window_zo {a b:Int} (z:List Int) (hz:Zo z) (o:List Int) (h:LatT a b z o 0):Zo o:=by
 obtain ⟨k1,k2⟩:=window_told hz h (by decide)
 exact cut_zo hz.2.1 hz.1.may (late_may (winS_may k1)) k2
theorem within_p0 {s:Sp} {p:Pt} (m:MayQ p) (z:List Int) (hz:Zo z) (o:List Int) (h:WinT s z o 0):hasP o p=true↔hasP z p=true∧hasP (diffZ s) p=true:=by
 obtain ⟨k1,k2⟩:=within_told hz h (by decide)
 exact cut_pt0 hz.2.1 hz.1.may (diff_may k1) m k2
theorem within_p6 {s:Sp} {p:Pt} (m:MayQ p) (z:List Int) (hz:Zo z) (o:List Int) (h:WinT s z o 6):¬ (hasP z p=true∧hasP (diffZ s) p=true):=by
 obtain ⟨k1,k2⟩:=within_told hz h (by decide)
 exact cut_pt6 hz.2.1 hz.1.may (diff_may k1) m k2
theorem window_p0 {a b:Int} {p:Pt} (m:MayQ p) (z:List Int) (hz:Zo z) (o:List Int) (h:LatT a b z o 0):hasP o p=true↔hasP z p=true∧hasP (lateZ (winS a b)) p=true:=by
 obtain ⟨k1,k2⟩:=window_told hz h (by decide)
 exact cut_pt0 hz.2.1 hz.1.may (late_may (winS_may k1)) m k2
theorem window_p6 {a b:Int} {p:Pt} (m:MayQ p) (z:List Int) (hz:Zo z) (o:List Int) (h:LatT a b z o 6):¬ (hasP z p=true∧hasP (lateZ (winS a b)) p=true):=by
 obtain ⟨k1,k2⟩:=window_told hz h (by decide)
 exact cut_pt6 hz.2.1 hz.1.may (late_may (winS_may k1)) m k2
end Go.Proofs.YthmljpccbjolgaaGreatDoor.zset
