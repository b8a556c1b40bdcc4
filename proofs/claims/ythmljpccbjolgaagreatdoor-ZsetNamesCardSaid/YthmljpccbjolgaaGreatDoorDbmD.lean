
/-
  Times in memory, whether they keep a matrix, and that they keep it just if they keep the closed one; each theorem names its conditions.
-/
import Derived.Test.YthmljpccbjolgaaGreatDoorDbmC
import Derived.Test.YthmljpccbjolgaaGreatDoorRatB
import Derived.Deep.Slices
import Derived.Deep.Fields
import Derived.ChangeSame
import Derived.Maps.OwnIn
import Derived.Laws.OwnMore
import Derived.Test.YthmljpccbjolgaaGreatDoorDbmB
namespace Go.Proofs.YthmljpccbjolgaaGreatDoor.dbm
open Go.ChangeShapes Go.WideShapes Go.ChangeAt Go.RowKit Go.Deep num rat
open bound hiding up
set_option linter.unusedVariables false
set_option linter.unusedSimpArgs false
def pr (rs:List (Int × Int)) (k:Nat):Int × Int:=rs[k]?.getD (0,0)
def RowR (W:World) (b off:Nat) (rs:List (Int × Int)):Prop:=∀ k,k<rs.length→W.cell? ⟨b,off+k*2,none⟩=some (.int .i64 (pr rs k).1)∧W.cell? ⟨b,off+k*2+1,none⟩=some (.int .i64 (pr rs k).2)
theorem RowR.below {n:Nat} {W W':World} {b off:Nat} {rs:List (Int × Int)} (h:RowR W b off rs) (k:Below n W W') (hb:b<n):RowR W' b off rs:=fun p hp=>⟨(k.cell (p:=⟨b,off+p*2,none⟩) hb).trans (h p hp).1,(k.cell (p:=⟨b,off+p*2+1,none⟩) hb).trans (h p hp).2⟩
def Rats (n₀:Nat) (W:World) (sv:Value) (rs:List (Int × Int)):Prop:=
 ((∃ a cap,sv=.slice a 0 cap∧(a=none→cap=0))∧rs=[])∨∃ b off cap,sv=.slice (some ⟨b,off,none⟩) rs.length cap∧b<n₀∧RowR W b off rs
theorem Rats.below {n₀:Nat} {A B:World} (h:Below n₀ A B) {sv:Value} {rs:List (Int × Int)}:Rats n₀ A sv rs→Rats n₀ B sv rs
 | .inl e=>.inl e
 | .inr ⟨b,off,cap,e,hb,hc⟩=>.inr ⟨b,off,cap,e,hb,hc.below h hb⟩
theorem rats_len {n₀:Nat} {W:World} {sv:Value} {rs:List (Int × Int)} (h:Rats n₀ W sv rs):∃ a cap,sv=.slice a rs.length cap:=by
 rcases h with ⟨⟨a,cap,rfl,_⟩,rfl⟩ | ⟨b,off,cap,rfl,_⟩
 ·exact ⟨_,_,rfl⟩
 ·exact ⟨_,_,rfl⟩
def IntsR (rs:List (Int × Int)):Prop:=∀ k,k<rs.length→(-9223372036854775808≤(pr rs k).1∧(pr rs k).1≤9223372036854775807)∧(-9223372036854775808≤(pr rs k).2∧(pr rs k).2≤9223372036854775807)
section
variable {H:Type} {enc:TypeId × Value→H} {P:Program} {w:World} {base:Nat} {spare:Nat→Bool} {held:Bool}
end
def MayT (rs:List (Int × Int)):Prop:=∀ k,k<rs.length→MayR (pr rs k).1 (pr rs k).2
theorem one {W:World} {g:Nat} {t:TypeId} {u:Value} (h:lies.Lies W g t #[u]):W.cell? ⟨g,0,none⟩=some u∧W.frozen? ⟨g,0,none⟩=false∧g<W.heap.size:=⟨lies.cell h 0,lies.free h 0,lies.lt h⟩
def Mik (B:Nat) (n:Int) (sv:Value) (W:World):Prop:=
 lies.Lies W B 81 #[.int .i64 n,sv]∧lies.Lies W (B+1) 4 #[.bool false]∧lies.Lies W (B+1+1) 22 #[.int .i64 0]
theorem Mik.below {B:Nat} {n:Int} {sv:Value} {W X:World} (h:Mik B n sv W) (k:Below W.heap.size W X):Mik B n sv X:=⟨lies.on_call h.1 k,lies.on_call h.2.1 k,lies.on_call h.2.2 k⟩
theorem mik (n:Int) (sv:Value) (w:World):Mik w.heap.size n sv (((w.alloc (.cells #[.int .i64 n,sv] 81)).alloc (.cells #[.bool false] 4)).alloc (.cells #[.int .i64 0] 22))∧Below w.heap.size w (((w.alloc (.cells #[.int .i64 n,sv] 81)).alloc (.cells #[.bool false] 4)).alloc (.cells #[.int .i64 0] 22)):=
 ⟨⟨lies.on_alloc (lies.on_alloc (lies.made w _ _) _) _,lies.on_alloc (lies.made_at _ _ _ _ (World.size_alloc _ _)) _,lies.made_at _ _ _ _ (by simp)⟩,(((Below.refl w.heap.size w).alloc (Nat.le_refl _) _).alloc (by simp) _).alloc (by simp;omega) _⟩
theorem ret2 {B:Nat} {w W:World} (h:Below B w W) (u v:Value):Below B w ((W.setCell ⟨B+1,0,none⟩ u).setCell ⟨B+1+1,0,none⟩ v):=
 (h.setCell (p:=⟨B+1,0,none⟩) (by simp) _).setCell (p:=⟨B+1+1,0,none⟩) (by simp;omega) _
theorem dkeeps_bad (n:Int) (sv tv:Value) (ts:List Int) (w:World) (hI:law.Ints w.heap.size w sv ts) (hm:ts.length≤1000000) (htop:∀ x ∈ ts,x≤9223372036854775807) (h:¬ MayD n ts):
  Calls Tryz.prog 118 #[.agg #[.int .i64 n,sv],tv] w fun e w'=>e=.returned (.tuple #[.bool false,.int .i64 8])∧Below w.heap.size w w':=by
 obtain ⟨D0,DB⟩:=mik n sv w
 have hI1:=(hI.below DB).mono DB.size
 obtain ⟨a,cap,rfl⟩:=ints_len hI
 have HI:=Lib.hid hI1
 have HT:=Lib.hid htop
 have H:=Lib.hid h
 clear hI hI1 htop h
 go_enter Tryz.func118,Tryz.ntmps118
 go_wp2_with (go_at_call 97;refine (check_no n _ ts _ HI.out hm HT.out H.out).mono ?_;rintro e w1 ⟨rfl,hB1⟩;have E0:=D0.below hB1;have EB:=DB.trans (hB1.mono DB.size);clear D0 DB hB1;obtain ⟨x0,x1,x2⟩:=one E0.2.1;obtain ⟨y0,y1,y2⟩:=one E0.2.2)
 exact bodyPost_ret (v:=.tuple #[.bool false,.int .i64 8]) (by simp [results,Tryz.results118,go_sem,x0,y0]) rfl ⟨rfl,ret2 EB _ _⟩
def kdN (rs:List (Int × Int)) (e:Int):Prop:=(e=8∧¬ MayT rs)∨(e=40∧MayT rs)
set_option maxHeartbeats 2000000 in
theorem dkeeps_not (n:Int) (sv:Value) (ts:List Int) (rs:List (Int × Int)) (len cap:Nat) (ao:Option Addr) (w:World) (hI:law.Ints w.heap.size w sv ts) (hm:ts.length≤1000000) (htop:∀ x ∈ ts,x≤9223372036854775807) (h:MayD n ts)
  (hr:Rats w.heap.size w (.slice ao len cap) rs) (hl:rs.length=len) (hi:IntsR rs) (hlm:len≤1000000) (hd:¬ (MayT rs∧(len:Int)=n - 1)):
  Calls Tryz.prog 118 #[.agg #[.int .i64 n,sv],.slice ao len cap] w fun e w'=>(∃ c,kdN rs c∧e=.returned (.tuple #[.bool false,.int .i64 c]))∧Below w.heap.size w w':=by
 obtain ⟨D0,DB⟩:=mik n sv w
 have hI1:=(hI.below DB).mono DB.size
 obtain ⟨a,cap',rfl⟩:=ints_len hI
 have hn1:=h.1
 have hn2:=h.2.1
 have HI:=Lib.hid hI1
 have HT:=Lib.hid htop
 have H:=Lib.hid h
 have hcell:∀ k,k<len→∃ b off,ao=some ⟨b,off,none⟩∧b<w.heap.size∧RowR w b off rs:=fun k hk=>by
  rcases hr with ⟨_,rfl⟩ | ⟨b,off,c,e,hb,hc⟩
  ·simp at hl;omega
  ·cases e;exact ⟨b,off,rfl,hb,hc⟩
 have HR:=Lib.hid hcell
 have HL:=Lib.hid hl
 have HN:=Lib.hid hi
 have HD:=Lib.hid hd
 clear hI hI1 htop h hr hl hi hd hcell
 go_enter Tryz.func118,Tryz.ntmps118
 go_wp2_with (go_at_call 97;refine (check_ok n _ ts _ HI.out HT.out H.out).mono ?_;rintro e w1 ⟨rfl,hB1⟩;have E0:=D0.below hB1;have EB:=DB.trans (hB1.mono DB.size);clear D0 DB hB1)
 go_loopw [23] (fun i wr=>∃ k:Nat,k≤len∧i=.int .i64 k∧RowKit.Hid (∀ p,p<k→MayR (pr rs p).1 (pr rs p).2)∧Mik w.heap.size n (.slice a ts.length cap') wr∧Below w.heap.size w wr)
  (fun i _=>len - (intOf i).toNat)
 case atStart=>exact ⟨0,Nat.zero_le _,rfl,Lib.hid (fun m hm=>absurd hm (by omega)),E0,EB⟩
 case round=>
  clear E0 EB
  obtain ⟨k,hk,rfl,hpos,hM,hB⟩:=hrel
  by_cases hkn:k<len
  ·obtain ⟨b,off,hao,hb,hrow⟩:=HR.out k hkn
   obtain ⟨hc1,hc2⟩:=(hrow.below hB hb) k (by rw [HL.out];exact hkn)
   obtain ⟨⟨a1,a2⟩,⟨a3,a4⟩⟩:=HN.out k (by rw [HL.out];exact hkn)
   have hbw:b<wr.heap.size:=by have:=hB.size;omega
   clear hrow
   subst hao
   generalize hx:(pr rs k).1=x at hc1 a1 a2
   generalize hy:(pr rs k).2=y at hc2 a3 a4
   have HX:=Lib.hid hx
   have HY:=Lib.hid hy
   clear hx hy
   by_cases hmr:MayR x y
   ·have HM:=Lib.hid hmr
    clear hmr
    go_wp2_with (go_at_call 158;refine (check3_ok x y _ a1 a2 HM.out).mono ?_;rintro e w4 ⟨rfl,hB4⟩;have F0:=(hM.below ((Below.refl _ wr).alloc (Nat.le_refl _) _)).below hB4;have FB:=(hB.alloc hB.size _).trans (hB4.mono (hB.alloc hB.size _).size);clear hM hB hB4 hc1 hc2)
    go_roundw
    case rel=>exact ⟨k+1,by omega,by go_num,Lib.hid (fun m hm=>by
     by_cases e:m=k
     ·subst e;rw [HX.out,HY.out];exact HM.out
     ·exact hpos.out m (by omega)),F0,FB⟩
    case measure=>simp [intOf];omega
   ·have HM:=Lib.hid hmr
    clear hmr
    go_wp2_with (go_at_call 158;refine (check3_no x y _ a1 a2 HM.out).mono ?_;rintro e w4 ⟨rfl,hB4⟩;have F0:=(hM.below ((Below.refl _ wr).alloc (Nat.le_refl _) _)).below hB4;have FB:=(hB.alloc hB.size _).trans (hB4.mono (hB.alloc hB.size _).size);clear hM hB hB4 hc1 hc2;obtain ⟨x0,x1,x2⟩:=one F0.2.1;obtain ⟨y0,y1,y2⟩:=one F0.2.2)
    exact bodyPost_ret (v:=.tuple #[.bool false,.int .i64 8]) (by simp [results,Tryz.results118,go_sem,x0,y0]) rfl ⟨⟨8,.inl ⟨rfl,fun hall=>HM.out (by have:=hall k (by rw [HL.out];exact hkn);rw [HX.out,HY.out] at this;exact this)⟩,rfl⟩,ret2 FB _ _⟩
  ·obtain rfl:len=k:=by omega
   have hall:MayT rs:=fun p hp=>hpos.out p (by rw [HL.out] at hp;exact hp)
   have hne:¬ (len:Int)=n - 1:=fun e=>HD.out ⟨hall,e⟩
   have z1:wrap64 (n - 1)=n - 1:=by clear hne;unfold wrap64;omega
   have z2:IntKind.i64.wrap (n - 1)=n - 1:=IntWalk.i64_in _ (by omega)
   have z3:((len:Int)==n - 1)=false:=by simpa using hne
   have HALL:=Lib.hid hall
   clear hall hne
   obtain ⟨d0,d1,d2,d3,d4⟩:=lies.two hM.1
   obtain ⟨x0,x1,x2⟩:=one hM.2.1
   obtain ⟨y0,y1,y2⟩:=one hM.2.2
   go_wp2_with fail
   exact bodyPost_ret (v:=.tuple #[.bool false,.int .i64 40]) (by simp [results,Tryz.results118,go_sem,x0,y0]) rfl ⟨⟨40,.inr ⟨rfl,HALL.out⟩,rfl⟩,ret2 hB _ _⟩
end Go.Proofs.YthmljpccbjolgaaGreatDoor.dbm
namespace Go.Proofs.YthmljpccbjolgaaGreatDoor.dbm
open Go.RowKit Go.Shelf num rat
open bound hiding up
attribute [local go_sem] Oper.semAt_some
set_option linter.unusedVariables false
set_option linter.unusedSimpArgs false
def flat (rs:List (Int × Int)):List Value:=rs.flatMap fun x=>[.int .i64 x.1,.int .i64 x.2]
theorem flat_length (rs:List (Int × Int)):(flat rs).length=rs.length*2:=by
 induction rs with
 | nil=>rfl
 | cons x rs ih=>simp [flat] at ih ⊢;omega
theorem flat_cons (x:Int × Int) (rs:List (Int × Int)):flat (x::rs)=[.int .i64 x.1,.int .i64 x.2]++flat rs:=rfl
theorem flat_at (rs:List (Int × Int)) (k:Nat) (h:k<rs.length):(flat rs)[k*2]?=some (.int .i64 (pr rs k).1)∧(flat rs)[k*2+1]?=some (.int .i64 (pr rs k).2):=by
 induction rs generalizing k with
 | nil=>simp at h
 | cons x rs ih=>
  cases k with
  | zero=>exact ⟨rfl,rfl⟩
  | succ k=>
   have:=ih k (by simpa using h)
   rw [flat_cons,Nat.add_mul,Nat.one_mul]
   refine ⟨?_,?_⟩
   ·rw [List.getElem?_append_right (by simp)]
    simpa [pr] using this.1
   ·rw [List.getElem?_append_right (by simp)]
    simpa [pr] using this.2
theorem flat_row {W:World} {b off:Nat} {rs:List (Int × Int)} (h:RowR W b off rs) (j:Nat) (v:Value) (hj:(flat rs)[j]?=some v):W.cell? ((⟨b,off,none⟩:Addr).add j)=some v:=by
 have hl:j<rs.length*2:=by
  rw [←flat_length]
  exact (List.getElem?_eq_some_iff.1 hj).1
 rw [Go.WideShapes.add_plain]
 obtain ⟨a,b⟩:=h (j / 2) (by omega)
 obtain ⟨c,d⟩:=flat_at rs (j / 2) (by omega)
 rcases Nat.mod_two_eq_zero_or_one j with e | e
 ·have:j / 2*2=j:=by omega
  rw [this] at a c
  rw [a,←c,hj]
 ·have:j / 2*2+1=j:=by omega
  rw [Nat.add_assoc,this] at b
  rw [this] at d
  rw [b,←d,hj]
theorem flat_one (rs:List (Int × Int)):∀ u ∈ flat rs,u.oneCell'=true:=by
 intro u hu
 obtain ⟨x,_,hx⟩:=List.mem_flatMap.1 hu
 simp at hx
 rcases hx with rfl | rfl<;>rfl
theorem info_r:(Tryz.prog.info? 45).map (fun i=>(i.zero,i.size,i.bytes))=some (some (.agg #[.int .i64 (0),.int .i64 (0)]),2,16):=by kernel_rfl
theorem app_times (base:Nat) (ty:TypeId) (v tv:Value) (n n₀:Nat) (xs:List Value) (rs:List (Int × Int)) (W:World) (hown:W.ownsRow base 45 2 v n xs) (hn:(v=.slice none 0 0)=False) (h:Rats n₀ W tv rs) (hm:n+rs.length≤1000000) (hb:base≤W.heap.size):
  ∃ v' w',(Builtin.append_ #[138,138] ty #[v,tv]).run Tryz.prog W=.ok v' w'∧w'.ownsRow base 45 2 v' (n+rs.length) (xs++flat rs)∧W.grownBy w' v.ownBlock∧v'≠.slice none 0 0:=by
 obtain ⟨i,hi,hz,hs,hby⟩:=info_parts info_r
 have some_case:∀ (a:Addr) (cap:Nat),(∀ j u,(flat rs)[j]?=some u→W.cell? (a.add j)=some u)→
   ∃ v' w',(Builtin.append_ #[138,138] ty #[v,.slice (some a) rs.length cap]).run Tryz.prog W=.ok v' w'∧w'.ownsRow base 45 2 v' (n+rs.length) (xs++flat rs)∧W.grownBy w' v.ownBlock∧v'≠.slice none 0 0:=fun a cap hc=>by
  obtain ⟨v',w',hr,h2,h3,h4,_⟩:=run_append_own_at (P:=Tryz.prog) (w:=W) base 138 ty 45 i _ 2 16 Tryz.underlying138 hi hz hs hby rfl (by decide) v n xs hown a rs.length cap (flat rs) (flat_length rs) hc (flat_one rs) (by unfold maxLen;omega) (by omega) hb
  exact ⟨v',w',hr,h2,h3,fun e=>by rw [←hn];exact (h4.1 e).1⟩
 rcases h with ⟨⟨a,cap,rfl,hcap⟩,rfl⟩ | ⟨b,off,cap,rfl,hb',hc⟩
 ·cases a with
  | none=>
   obtain rfl:=hcap rfl
   refine ⟨v,W,run_append_owned_none (P:=Tryz.prog) (w:=W) base 138 ty 45 i 2 Tryz.underlying138 hi v n xs hown,?_,⟨rfl,rfl,rfl,Nat.le_refl _,fun _ _ _=>rfl⟩,fun e=>by rw [←hn];exact e⟩
   simpa [flat] using hown
  | some a=>exact some_case a cap (fun j u hj=>by simp [flat] at hj)
 ·exact some_case ⟨b,off,none⟩ cap (flat_row hc)
theorem append_run {F:Fence} {nF:Nat} {P:Program} {w:World} {ops:Array Oper} {rest:List Oper} {o:Oper} {a:Act} {Q:Exit→Act→World→Prop} (hgd:o.guard=none) (s x:Operand) (t:TypeId)
  (ho:o.op=.call {callee:=.builtin .append,args:=#[s,x],argTypes:=#[t,t]}) (v u v':Value) (w':World) (hs:a.eval s=v) (hx:a.eval x=u)
  (hr:(Builtin.append_ #[t,t] o.type #[v,u]).run P w=.ok v' w') (h:wpListIn F nF P ops Q rest (a.put o.dst v') w'):
  wpListIn F nF P ops Q (o::rest) a w:=by
 refine wpListIn_plain hgd fun K hK=>?_
 unfold Oper.wpIn
 refine ⟨by simp [Oper.about,ho,resolve,Target.leads,Sem.run_pure],?_⟩
 rw [Oper.semAt_plain F _ _ (by rw [ho];intro c hc';cases hc')]
 simp [execOp,ho,resolve,invoke,builtin,hs,hx,hr,Result.andThen]
 exact hK _ _ h
end Go.Proofs.YthmljpccbjolgaaGreatDoor.dbm
namespace Go.Proofs.YthmljpccbjolgaaGreatDoor.dbm
open Go.RowKit Go.Shelf num rat
open bound hiding up
attribute [local go_sem] Oper.semAt_some
set_option linter.unusedVariables false
set_option linter.unusedSimpArgs false
def kp (n:Nat) (ts:List Int) (qs:List (Int × Int)) (i j:Nat):Bool:=kpV (pr qs i).1 (pr qs i).2 (pr qs j).1 (pr qs j).2 (tat ts n i j)
def keptAll (n:Nat) (ts:List Int) (qs:List (Int × Int)):Prop:=∀ i j,i<n→j<n→kp n ts qs i j=true
def Kps (n:Nat) (ts:List Int) (rs:List (Int × Int)) (w:World) (e:Ending) (w':World):Prop:=
 Below w.heap.size w w'∧∃ r:Bool,e=.returned (.tuple #[.bool r,.int .i64 0])∧(r=true↔keptAll n ts ((0,1)::rs))
theorem mk_alloc {B:Nat} {n:Int} {sv:Value} {W:World} (h:Mik B n sv W) (o:Obj):Mik B n sv (W.alloc o):=h.below ((Below.refl _ W).alloc (Nat.le_refl _) _)
theorem own_rowR {W:World} {base g m cap:Nat} {t:TypeId} {qs:List (Int × Int)} (h:W.ownsRow base t 2 (.slice (some ⟨g,0,none⟩) m cap) m (flat qs)):RowR W g 0 qs:=fun k hk=>by
 have hl:m*2=qs.length*2:=by have:=h.1;rw [flat_length] at this;omega
 obtain ⟨a,b⟩:=flat_at qs k hk
 exact ⟨by rw [Nat.zero_add];exact (h.cellAt (k*2) (by omega)).trans a,by rw [Nat.zero_add];exact (h.cellAt (k*2+1) (by omega)).trans b⟩
theorem own_some {W:World} {base m:Nat} {t:TypeId} {v:Value} {xs:List Value} (h:W.ownsRow base t 2 v m xs) (hn:v≠.slice none 0 0):∃ g cap,v=.slice (some ⟨g,0,none⟩) m cap∧base≤g∧g<W.heap.size:=by
 rcases h.2 with ⟨rfl,_⟩ | ⟨g,cap,cur,rfl,hg,hc,_⟩
 ·exact (hn rfl).elim
 ·exact ⟨g,cap,rfl,hg,(Array.getElem?_eq_some_iff.1 hc).1⟩
theorem grown_b {W X:World} {o:Obj} (k:(W.alloc o).grownBy X (some W.heap.size)):Below W.heap.size W X:=((Below.refl _ W).alloc (Nat.le_refl _) o).grown k (by simp) (fun j e=>by cases e;exact Nat.le_refl _)
theorem less_one {n:Nat} (h0:0<n) (hn:n≤4):wrap64 ((n:Int) - 1)=(n:Int) - 1∧IntKind.i64.wrap ((n:Int) - 1)=(n:Int) - 1:=by
 refine ⟨?_,IntWalk.i64_in _ (by omega)⟩
 unfold wrap64;omega
theorem keeps_in (a b c d x:Int) (r:Bool) (w:World) (a1:-9223372036854775808≤a) (a2:a≤9223372036854775807) (c1:-9223372036854775808≤c) (c2:c≤9223372036854775807) (h:MayR a b) (h':MayR c d) (hx:Fine x) (hr:kpV a b c d x=r):
  Calls Tryz.prog 159 #[.agg #[.int .i64 (a),.int .i64 (b)],.agg #[.int .i64 (c),.int .i64 (d)],.int .i64 x] w fun e w'=>e=.returned (.tuple #[.bool r,.int .i64 0])∧Below w.heap.size w w':=by
 have:=keeps3_any a b c d x w a1 a2 c1 c2 (by unfold Fine at hx;omega)
 have hn:¬ badB x:=fun k=>by
  unfold badB at k
  rcases hx with hx | hx
  ·exact k.1 hx
  ·exact k.2 (by unfold May;omega)
 unfold kpE at this
 rw [if_pos ⟨h,h'⟩,if_neg hn,hr] at this
 exact this
theorem pr_cons (x:Int × Int) (rs:List (Int × Int)) (k:Nat):pr (x::rs) (k+1)=pr rs k:=by simp [pr]
theorem with_zero {rs:List (Int × Int)} (hi:IntsR rs) (hm:MayT rs):IntsR ((0,1)::rs)∧MayT ((0,1)::rs):=by
 refine ⟨fun k hk=>?_,fun k hk=>?_⟩
 ·cases k with
  | zero=>exact (show ((-9223372036854775808:Int)≤0∧(0:Int)≤9223372036854775807)∧((-9223372036854775808:Int)≤1∧(1:Int)≤9223372036854775807) from by omega)
  | succ k=>rw [pr_cons];exact hi k (by simpa using hk)
 ·cases k with
  | zero=>exact (show MayR 0 1 from ⟨by decide,by decide,by decide,by decide,by decide⟩)
  | succ k=>rw [pr_cons];exact hm k (by simpa using hk)
theorem all_pairs {n i j:Nat} (h0:0<n) (hn:n≤4) (hi:i<n) (hj:j<n):(⟨(i,j),hi,hj⟩:Cl n) ∈ upto (nth n h0) (n*n):=by
 refine List.mem_map.2 ⟨i*n+j,List.mem_range.2 (place_le hn hi hj),Subtype.ext (Prod.ext ?_ ?_)⟩
 ·show (i*n+j) / n % n=i
  rw [Nat.mul_comm,Nat.mul_add_div h0,Nat.div_eq_of_lt hj,Nat.add_zero,Nat.mod_eq_of_lt hi]
 ·show (i*n+j) % n=j
  rw [Nat.mul_comm,Nat.mul_add_mod,Nat.mod_eq_of_lt hj]
def Mil (n b0 off0 cap0 g capg G:Nat) (ts:List Int) (qs:List (Int × Int)) (W:World):Prop:=
 lies.Lies W G 138 #[.slice (some ⟨g,0,none⟩) n capg]∧lies.Lies W (G+1) 153 #[.int .i64 n,.slice (some ⟨b0,off0,none⟩) (n*n) cap0]∧RowR W g 0 qs∧Row W b0 off0 ts∧g<W.heap.size∧b0<W.heap.size
theorem Mil.below {n b0 off0 cap0 g capg G:Nat} {ts:List Int} {qs:List (Int × Int)} {W X:World} (h:Mil n b0 off0 cap0 g capg G ts qs W) (k:Below W.heap.size W X):Mil n b0 off0 cap0 g capg G ts qs X:=
 ⟨lies.on_call h.1 k,lies.on_call h.2.1 k,h.2.2.1.below k h.2.2.2.2.1,h.2.2.2.1.below k h.2.2.2.2.2,Nat.lt_of_lt_of_le h.2.2.2.2.1 k.size,Nat.lt_of_lt_of_le h.2.2.2.2.2 k.size⟩
theorem Mil.cells {n b0 off0 cap0 g capg G i j:Nat} {ts:List Int} {qs:List (Int × Int)} {W X:World} (h:Mil n b0 off0 cap0 g capg G ts qs W) (hn:n≤4) (hi:i<n) (hj:j<n) (hl:ts.length=n*n) (hq:qs.length=n) (k:Below W.heap.size W X):
  X.cell? ⟨G,0,none⟩=some (.slice (some ⟨g,0,none⟩) n capg)∧X.cell? ⟨G+1,0,none⟩=some (.int .i64 n)∧X.cell? ⟨G+1,1,none⟩=some (.slice (some ⟨b0,off0,none⟩) (n*n) cap0)∧
   X.cell? ⟨g,i*2,none⟩=some (.int .i64 (pr qs i).1)∧X.cell? ⟨g,i*2+1,none⟩=some (.int .i64 (pr qs i).2)∧X.cell? ⟨g,j*2,none⟩=some (.int .i64 (pr qs j).1)∧X.cell? ⟨g,j*2+1,none⟩=some (.int .i64 (pr qs j).2)∧
   X.cell? ⟨b0,off0+(i*n+j),none⟩=some (.int .i64 (tat ts n i j)):=by
 obtain ⟨h1,h2,h3,h4,_⟩:=h.below k
 have a1:=h3 i (by omega)
 have a2:=h3 j (by omega)
 rw [Nat.zero_add] at a1 a2
 exact ⟨lies.cell h1 0,(lies.two h2).1,(lies.two h2).2.1,a1.1,a1.2,a2.1,a2.2,h4 _ (by rw [hl];exact place_le hn hi hj)⟩
theorem own_below {β:Type} {B m:Nat} {w0:World} (h1:m≤B) (h2:m≤w0.heap.size):OwnFrom B (fun (_:β) W=>Below m w0 W):=fun s X Y r hs hg hr=>hs.grown hg (Nat.le_trans h2 hs.size) (fun k e=>Nat.le_trans h1 (hr k e).1)
theorem own_pure {β:Type} (B:Nat) (p:β→Prop):OwnFrom B (fun (s:β) (_:World)=>p s):=fun s X Y r hs hg hr=>hs
set_option maxRecDepth 100000 in
set_option maxHeartbeats 4000000 in
theorem dkeeps_ok (n b0 off0 cap0 len cap : Nat) (ao : Option Addr) (ts : List Int) (rs : List (Int × Int)) (w : World) (h0 : 0 < n) (hn : n ≤ 4) (hr : Row w b0 off0 ts) (hb0 : b0 < w.heap.size) (htop : Tops ts) (h : MayD n ts) (hl : ts.length = n * n)
    (hR : Rats w.heap.size w (.slice ao len cap) rs) (hrl : rs.length = len) (hi : IntsR rs) (hmt : MayT rs) (hd : len + 1 = n) :
    Calls Tryz.prog 118 #[.agg #[.int .i64 n, .slice (some ⟨b0, off0, none⟩) (n * n) cap0], .slice ao len cap] w (Kps n ts rs w) := by
  obtain ⟨D0, DB⟩ := mik n (.slice (some ⟨b0, off0, none⟩) (n * n) cap0) w
  have hI1 : law.Ints ((((w.alloc (.cells #[.int .i64 n, .slice (some ⟨b0, off0, none⟩) (n * n) cap0] 81)).alloc (.cells #[.bool false] 4)).alloc (.cells #[.int .i64 0] 22))).heap.size ((((w.alloc (.cells #[.int .i64 n, .slice (some ⟨b0, off0, none⟩) (n * n) cap0] 81)).alloc (.cells #[.bool false] 4)).alloc (.cells #[.int .i64 0] 22))) (.slice (some ⟨b0, off0, none⟩) (n * n) cap0) ts := .inr ⟨b0, off0, cap0, by rw [hl], by have := DB.size; omega, hr.below DB hb0⟩
  have hcell : ∀ k, k < len → ∃ b off, ao = some ⟨b, off, none⟩ ∧ b < w.heap.size ∧ RowR w b off rs := fun k hk => by
    rcases hR with ⟨_, rfl⟩ | ⟨b, off, c, e, hb, hc⟩
    · simp at hrl; omega
    · cases e; exact ⟨b, off, rfl, hb, hc⟩
  have hl3 : len ≤ 3 := by omega
  have HI := Lib.hid hI1
  have HR := Lib.hid hr
  have HT := Lib.hid htop
  have HM := Lib.hid h
  have HL := Lib.hid hl
  have HRR := Lib.hid hR
  have HRL := Lib.hid hrl
  have HN := Lib.hid hi
  have HMT := Lib.hid hmt
  have HC := Lib.hid hcell
  have HD := Lib.hid hd
  clear hI1 hr htop h hl hR hrl hi hmt hcell hd
  refine callsIn_wide (n := 4).1 ?_
  refine callsIn_of_wp_marks Tryz.func118 rfl trivial ?_ rfl
  simp only [Tryz.ntmps118, List.size_toArray, List.length_cons, List.length_nil, Nat.reduceAdd, Nat.reduceSub, Array.replicate_succ, Array.replicate_zero, List.push_toArray, List.append_toArray, List.nil_append, List.cons_append]
  gi_wp2
  refine ⟨trivial, callsIn_wide.2 ((check_ok (n : Int) _ ts _ HI.out HT.out HM.out).mono ?_)⟩
  rintro e w1 ⟨rfl, hB1⟩
  have E0 := D0.below hB1
  have EB := DB.trans (hB1.mono DB.size)
  clear D0 DB hB1
  gi_wp2
  gi_loopw [23] (fun i wr => ∃ k : Nat, k ≤ len ∧ i = .int .i64 k ∧ Mik w.heap.size n (.slice (some ⟨b0, off0, none⟩) (n * n) cap0) wr ∧ Below w.heap.size w wr)
    (fun i _ => len - (intOf i).toNat)
  case atStart => exact ⟨0, Nat.zero_le _, rfl, E0, EB⟩
  case round =>
    clear E0 EB
    obtain ⟨k, hk, rfl, hM, hB⟩ := hrel
    by_cases hkn : k < len
    · obtain ⟨b, off, hao, hb, hrow⟩ := HC.out k hkn
      obtain ⟨hc1, hc2⟩ := (hrow.below hB hb) k (by rw [HRL.out]; exact hkn)
      obtain ⟨⟨a1, a2⟩, ⟨a3, a4⟩⟩ := HN.out k (by rw [HRL.out]; exact hkn)
      have hmr := HMT.out k (by rw [HRL.out]; exact hkn)
      have hbw : b < wr.heap.size := by have := hB.size; omega
      clear hrow
      subst hao
      generalize hx : (pr rs k).1 = x at hc1 a1 a2 hmr
      generalize hy : (pr rs k).2 = y at hc2 a3 a4 hmr
      have HMR := Lib.hid hmr
      clear hmr hx hy
      gi_wp2
      refine ⟨trivial, callsIn_wide.2 ((check3_ok x y _ a1 a2 HMR.out).mono ?_)⟩
      rintro e w4 ⟨rfl, hB4⟩
      have F0 := (hM.below ((Below.refl _ wr).alloc (Nat.le_refl _) _)).below hB4
      have FB := (hB.alloc hB.size _).trans (hB4.mono (hB.alloc hB.size _).size)
      clear hM hB hB4 hc1 hc2
      gi_wp2
      go_roundw
      case rel => exact ⟨k + 1, by omega, by go_num, F0, FB⟩
      case measure => simp [intOf]; omega
    · obtain rfl : len = k := by omega
      obtain ⟨z1, z2⟩ := less_one h0 hn
      have z3 : ((len : Int) == (n : Int) - 1) = true := by have := HD.out; simp; omega
      obtain ⟨d0, d1, d2, d3, d4⟩ := lies.two hM.1
      obtain ⟨v', w', hrun, hown, hgrow, hvn⟩ := app_times wr.heap.size 138 (.slice (some ⟨wr.heap.size, 0, none⟩) 1 1) (.slice ao len cap) 1 w.heap.size [.int .i64 0, .int .i64 1] rs (wr.alloc (.cells #[.int .i64 0, .int .i64 1] 45)) (World.ownsRow_lit wr #[.int .i64 0, .int .i64 1] 1 (Nat.le_refl _) (by decide) rfl) (by simp) (HRR.out.below (hB.alloc hB.size _)) (by have := HD.out; have := HRL.out; omega) (by simp)
      have hBX := grown_b (o := .cells #[.int .i64 0, .int .i64 1] 45) hgrow
      have F0 := hM.below hBX
      have FB := hB.trans (hBX.mono hB.size)
      obtain ⟨g, capg, rfl, hg, hgw⟩ := own_some hown hvn
      have hlen : 1 + rs.length = n := by have := HD.out; have := HRL.out; omega
      have hq : RowR w' g 0 ((0, 1) :: rs) := own_rowR hown
      have HQ := Lib.hid hq
      rw [hlen] at hrun
      clear hq hown hvn hgrow hBX hlen
      gi_wp2_with (gi_at_builtin; refine append_run rfl (.tmp 40) (.tmp 41) 138 rfl _ _ _ _ rfl rfl hrun ?_; clear hrun hM hB d0 d1 d2 d3 d4; have e0 := lies.two F0.1; obtain ⟨d0, d1, d2, d3, d4⟩ := e0)
      refine ⟨trivial, (pairs_in Fence.wide 3 trivial rfl _ _ _ rfl rfl).mono ?_⟩
      rintro e w5 ⟨rfl, rfl⟩
      gi_wp2
      have V1 : Mil n b0 off0 cap0 g capg w'.heap.size ts ((0, 1) :: rs) (((w'.alloc (.cells #[.slice (some ⟨g, 0, none⟩) n capg] 138)).alloc (.cells #[.int .i64 n, .slice (some ⟨b0, off0, none⟩) (n * n) cap0] 153)).alloc (.cells #[.int .i64 n, .slice (some ⟨b0, off0, none⟩) (n * n) cap0] 153)) := ⟨lies.on_alloc (lies.on_alloc (lies.made _ _ _) _) _, lies.on_alloc (lies.made_at _ _ _ _ (World.size_alloc _ _)) _, HQ.out.below ((((Below.refl w'.heap.size w').alloc (Nat.le_refl _) _).alloc (by simp) _).alloc (by simp; omega) _) hgw, (HR.out.below FB hb0).below ((((Below.refl w'.heap.size w').alloc (Nat.le_refl _) _).alloc (by simp) _).alloc (by simp; omega) _) (by have := FB.size; omega), by simp; omega, by have := FB.size; simp; omega⟩
      have V2 : lies.Lies (((w'.alloc (.cells #[.slice (some ⟨g, 0, none⟩) n capg] 138)).alloc (.cells #[.int .i64 n, .slice (some ⟨b0, off0, none⟩) (n * n) cap0] 153)).alloc (.cells #[.int .i64 n, .slice (some ⟨b0, off0, none⟩) (n * n) cap0] 153)) (w'.heap.size + 1 + 1) 153 #[.int .i64 n, .slice (some ⟨b0, off0, none⟩) (n * n) cap0] := lies.made_at _ _ _ _ (by simp)
      have V3 : Mik w.heap.size n (.slice (some ⟨b0, off0, none⟩) (n * n) cap0) (((w'.alloc (.cells #[.slice (some ⟨g, 0, none⟩) n capg] 138)).alloc (.cells #[.int .i64 n, .slice (some ⟨b0, off0, none⟩) (n * n) cap0] 153)).alloc (.cells #[.int .i64 n, .slice (some ⟨b0, off0, none⟩) (n * n) cap0] 153)) := mk_alloc (mk_alloc (mk_alloc F0 _) _) _
      have V4 : Below w.heap.size w (((w'.alloc (.cells #[.slice (some ⟨g, 0, none⟩) n capg] 138)).alloc (.cells #[.int .i64 n, .slice (some ⟨b0, off0, none⟩) (n * n) cap0] 153)).alloc (.cells #[.int .i64 n, .slice (some ⟨b0, off0, none⟩) (n * n) cap0] 153)) := ((FB.alloc FB.size _).alloc (FB.alloc FB.size _).size _).alloc ((FB.alloc FB.size _).alloc (FB.alloc FB.size _).size _).size _
      have V5 : w'.heap.size + 1 + 1 < ((((w'.alloc (.cells #[.slice (some ⟨g, 0, none⟩) n capg] 138)).alloc (.cells #[.int .i64 n, .slice (some ⟨b0, off0, none⟩) (n * n) cap0] 153)).alloc (.cells #[.int .i64 n, .slice (some ⟨b0, off0, none⟩) (n * n) cap0] 153))).heap.size := by simp
      have hqn : ((0, 1) :: rs).length = n := by have := HD.out; have := HRL.out; simp; omega
      obtain ⟨hqi, hqm⟩ := with_zero HN.out HMT.out
      obtain ⟨qs, hqs⟩ : ∃ qs, qs = (0, 1) :: rs := ⟨_, rfl⟩
      rw [← hqs] at V1 hqn hqi hqm
      have HQS := Lib.hid hqs
      have HQN := Lib.hid hqn
      have HQI := Lib.hid hqi
      have HQM := Lib.hid hqm
      clear hqs hqn hqi hqm d0 d1 d2 d3 d4 F0 FB HQ z1 z2 z3
      refine wpIn_rangeFunc_ownG (F := Fence.wide) (n := 4) rfl (by omega) (gf := 184) (lb := #[.pointer (some ⟨w'.heap.size + 1 + 1, 0, none⟩)]) rfl trivial (enters_of Tryz.func184 (by kernel_rfl) rfl)
        (pairs_stops Fence.wide (4 - 1) trivial rfl (by omega) (w'.heap.size + 1 + 1) n b0 off0 cap0 h0 hn _ V2) KB.trans (KB.put V5) (Below.refl _ _) (fun _ => by rfl)
        (fun pre W => Below ((((w'.alloc (.cells #[.slice (some ⟨g, 0, none⟩) n capg] 138)).alloc (.cells #[.int .i64 n, .slice (some ⟨b0, off0, none⟩) (n * n) cap0] 153)).alloc (.cells #[.int .i64 n, .slice (some ⟨b0, off0, none⟩) (n * n) cap0] 153))).heap.size (((w'.alloc (.cells #[.slice (some ⟨g, 0, none⟩) n capg] 138)).alloc (.cells #[.int .i64 n, .slice (some ⟨b0, off0, none⟩) (n * n) cap0] 153)).alloc (.cells #[.int .i64 n, .slice (some ⟨b0, off0, none⟩) (n * n) cap0] 153)) W ∧ ∀ x ∈ pre, kp n ts qs x.1.1 x.1.2 = true)
        (fun co pre W => (Below w.heap.size w W ∧ lies.Lies W (w.heap.size + 1) 4 #[.bool false] ∧ lies.Lies W (w.heap.size + 1 + 1) 22 #[.int .i64 0]) ∧ co = .ret ∧ ∃ i j, i < n ∧ j < n ∧ kp n ts qs i j = false)
        (OwnFrom.and (own_below (Nat.le_refl _) (Nat.le_refl _)) (own_pure _ _))
        (fun co => OwnFrom.and (OwnFrom.and (own_below (by have := V4.size; exact this) (Nat.le_refl _)) (OwnFrom.and (own_lies _ _ _ (fun _ => _)) (own_lies _ _ _ (fun _ => _)))) (own_pure _ _))
        ⟨Below.refl _ _, fun x hx => absurd hx (by simp)⟩
        (fun x => { tmps := #[.agg #[.int .i64 n, .slice (some ⟨b0, off0, none⟩) (n * n) cap0], .slice ao len cap, .pointer (some ⟨w.heap.size, 0, none⟩), undef, .pointer (some ⟨w.heap.size + 1, 0, none⟩), .pointer (some ⟨w.heap.size + 1 + 1, 0, none⟩), .int .i64 0, undef, u8, u9, .pointer (some ⟨w'.heap.size, 0, none⟩), .pointer (some ⟨w'.heap.size + 1, 0, none⟩), .int .i64 (x.1.1 : Int), .int .i64 (x.1.2 : Int), undef, undef, .agg #[.int .i64 n, .slice (some ⟨b0, off0, none⟩) (n * n) cap0], .int .i64 0, .int .i64 0, .bool false, undef, .slice ao len cap, .int .i64 len, .int .i64 len, .bool false, u25, u26, u27, u28, u29, u30, u31, u32, .slice ao len cap, .int .i64 len, .pointer (some ⟨w.heap.size, 0, none⟩), .int .i64 n, .int .i64 ((n : Int) - 1), .bool false, .agg #[.int .i64 0, .int .i64 1], .slice (some ⟨wr.heap.size, 0, none⟩) 1 1, .slice ao len cap, .slice (some ⟨g, 0, none⟩) n capg, .agg #[.int .i64 n, .slice (some ⟨b0, off0, none⟩) (n * n) cap0], .agg #[.int .i64 n, .slice (some ⟨b0, off0, none⟩) (n * n) cap0], .agg #[.int .i64 n, .slice (some ⟨b0, off0, none⟩) (n * n) cap0], .func (.func 184) #[] #[.pointer (some ⟨w'.heap.size + 1 + 1, 0, none⟩)], .int .i64 (x.1.1 : Int), .int .i64 (x.1.2 : Int), undef, undef, undef, undef, undef, undef, undef, undef, undef, undef, undef, undef, undef, undef, undef, undef, undef, undef, undef, undef, undef], defers := [] }) ?assign ?body ?done ?stop
      case assign =>
        intro l x W K hK
        gi_wp2
        exact hK
      case body =>
        rintro l pre x0 W ⟨hW, hp⟩ _
        obtain ⟨⟨i, j⟩, hi, hj⟩ := x0
        dsimp only at hi hj
        have M1' := HQM.out i (by rw [HQN.out]; exact hi)
        have M2' := HQM.out j (by rw [HQN.out]; exact hj)
        obtain ⟨⟨a1, a2⟩, _⟩ := HQI.out i (by rw [HQN.out]; exact hi)
        obtain ⟨⟨c1, c2⟩, _⟩ := HQI.out j (by rw [HQN.out]; exact hj)
        have hfx : Fine (tat ts n i j) := HM.out.2.2.2 (i * n + j) (by rw [HL.out]; exact place_le hn hi hj)
        have hv : kpV (pr qs i).1 (pr qs i).2 (pr qs j).1 (pr qs j).2 (tat ts n i j) = kp n ts qs i j := rfl
        have kc := fun X (k : Below W.heap.size W X) => V1.cells hn hi hj HL.out HQN.out (hW.trans (k.mono hW.size))
        generalize (pr qs i).1 = a at M1' a1 a2 hv kc
        generalize (pr qs i).2 = b at M1' hv kc
        generalize (pr qs j).1 = c at M2' c1 c2 hv kc
        generalize (pr qs j).2 = d at M2' hv kc
        generalize tat ts n i j = x at hfx hv kc
        obtain ⟨r, hr⟩ : ∃ r, r = kp n ts qs i j := ⟨_, rfl⟩
        rw [← hr] at hv
        have M1 := Lib.hid M1'
        have M2 := Lib.hid M2'
        have HX := Lib.hid hfx
        have HV := Lib.hid hv
        have HKR := Lib.hid hr
        have KC := Lib.hid kc
        clear M1' M2' hfx hv hr kc
        gi_wp2
        refine region_round (Below W.heap.size W) l _ (by kernel_rfl) (by kernel_rfl) (fun ⟨_, _, h⟩ => h) (dbm.drawn1 (Below.refl _ _)) (fun hHeld => ?_)
        refine tk 0 (v := ?_) rfl hHeld ?_ ?_
        rotate_left
        · intro w hSw; obtain ⟨s0, s1, s2, s3, s4, s5, s6, s7⟩ := KC.out _ hSw; go_simp; try with_reducible rfl
        try simp only [Act.put, sA, sB, sC, sD, sE, sF]
        refine tk 1 (v := ?_) rfl hHeld ?_ ?_
        rotate_left
        · intro w hSw; obtain ⟨s0, s1, s2, s3, s4, s5, s6, s7⟩ := KC.out _ hSw; go_simp; try with_reducible rfl
        try simp only [Act.put, sA, sB, sC, sD, sE, sF]
        refine tk 2 (v := ?_) rfl hHeld ?_ ?_
        rotate_left
        · intro w hSw; obtain ⟨s0, s1, s2, s3, s4, s5, s6, s7⟩ := KC.out _ hSw; go_simp; try with_reducible rfl
        try simp only [Act.put, sA, sB, sC, sD, sE, sF]
        refine tk 3 (v := ?_) rfl hHeld ?_ ?_
        rotate_left
        · intro w hSw; obtain ⟨s0, s1, s2, s3, s4, s5, s6, s7⟩ := KC.out _ hSw; go_simp; try with_reducible rfl
        try simp only [Act.put, sA, sB, sC, sD, sE, sF]
        refine tk 4 (v := ?_) rfl hHeld ?_ ?_
        rotate_left
        · intro w hSw; obtain ⟨s0, s1, s2, s3, s4, s5, s6, s7⟩ := KC.out _ hSw; go_simp; try with_reducible rfl
        try simp only [Act.put, sA, sB, sC, sD, sE, sF]
        refine tk 5 (v := ?_) rfl hHeld ?_ ?_
        rotate_left
        · intro w hSw; obtain ⟨s0, s1, s2, s3, s4, s5, s6, s7⟩ := KC.out _ hSw; go_simp; try with_reducible rfl
        try simp only [Act.put, sA, sB, sC, sD, sE, sF]
        refine tk 6 (v := ?_) rfl hHeld ?_ ?_
        rotate_left
        · intro w hSw; obtain ⟨s0, s1, s2, s3, s4, s5, s6, s7⟩ := KC.out _ hSw; go_simp; try with_reducible rfl
        try simp only [Act.put, sA, sB, sC, sD, sE, sF]
        refine tk 7 (v := ?_) rfl hHeld ?_ ?_
        rotate_left
        · intro w hSw; obtain ⟨s0, s1, s2, s3, s4, s5, s6, s7⟩ := KC.out _ hSw; go_simp; try with_reducible rfl
        try simp only [Act.put, sA, sB, sC, sD, sE, sF]
        refine tk 8 (v := ?_) rfl hHeld ?_ ?_
        rotate_left
        · intro w hSw; obtain ⟨s0, s1, s2, s3, s4, s5, s6, s7⟩ := KC.out _ hSw; go_simp; try with_reducible rfl
        try simp only [Act.put, sA, sB, sC, sD, sE, sF]
        refine tk 9 (v := ?_) rfl hHeld ?_ ?_
        rotate_left
        · intro w hSw; obtain ⟨s0, s1, s2, s3, s4, s5, s6, s7⟩ := KC.out _ hSw; go_simp; try with_reducible rfl
        try simp only [Act.put, sA, sB, sC, sD, sE, sF]
        refine tk 10 (v := ?_) rfl hHeld ?_ ?_
        rotate_left
        · intro w hSw; obtain ⟨s0, s1, s2, s3, s4, s5, s6, s7⟩ := KC.out _ hSw; go_simp; try with_reducible rfl
        try simp only [Act.put, sA, sB, sC, sD, sE, sF]
        refine wpAnyH_ready (rs := [11]) (by kernel_rfl) (by simp) (AllReadyH.cons rfl (fun K hK => ?_) AllReadyH.nil)
        go_simp
        refine (at_below n i j b0 off0 cap0 _ hn hi hj).mono ?_
        rintro e W11 ⟨rfl, hW⟩
        refine hK.out _ _ (hHeld.trans (hW.mono hHeld.size)) (fun hNew => ?_)
        clear hHeld hK K hW
        have hHeld := hNew
        clear hNew
        try simp only [Act.put, sA, sB, sC, sD, sE, sF]
        refine tk 12 (v := ?_) rfl hHeld ?_ ?_
        rotate_left
        · intro w hSw; obtain ⟨s0, s1, s2, s3, s4, s5, s6, s7⟩ := KC.out _ hSw; go_simp; try with_reducible rfl
        try simp only [Act.put, sA, sB, sC, sD, sE, sF]
        refine tk 13 (v := ?_) rfl hHeld ?_ ?_
        rotate_left
        · intro w hSw; obtain ⟨s0, s1, s2, s3, s4, s5, s6, s7⟩ := KC.out _ hSw; go_simp; try with_reducible rfl
        try simp only [Act.put, sA, sB, sC, sD, sE, sF]
        refine wpAnyH_ready (rs := [14]) (by kernel_rfl) (by simp) (AllReadyH.cons rfl (fun K hK => ?_) AllReadyH.nil)
        go_simp
        refine (keeps_in a b c d x r _ a1 a2 c1 c2 M1.out M2.out HX.out HV.out).mono ?_
        rintro e W14 ⟨rfl, hW⟩
        refine hK.out _ _ (hHeld.trans (hW.mono hHeld.size)) (fun hNew => ?_)
        clear hHeld hK K hW
        have hHeld := hNew
        clear hNew
        try simp only [Act.put, sA, sB, sC, sD, sE, sF]
        refine tk 15 (v := ?_) rfl hHeld ?_ ?_
        rotate_left
        · intro w hSw; obtain ⟨s0, s1, s2, s3, s4, s5, s6, s7⟩ := KC.out _ hSw; go_simp; try with_reducible rfl
        try simp only [Act.put, sA, sB, sC, sD, sE, sF]
        refine tk 16 (v := ?_) rfl hHeld ?_ ?_
        rotate_left
        · intro w hSw; obtain ⟨s0, s1, s2, s3, s4, s5, s6, s7⟩ := KC.out _ hSw; go_simp; try with_reducible rfl
        try simp only [Act.put, sA, sB, sC, sD, sE, sF]
        refine tk 17 (v := ?_) rfl hHeld ?_ ?_
        rotate_left
        · intro w hSw; obtain ⟨s0, s1, s2, s3, s4, s5, s6, s7⟩ := KC.out _ hSw; go_simp; try with_reducible rfl
        try simp only [Act.put, sA, sB, sC, sD, sE, sF]
        refine tk 18 (v := ?_) rfl hHeld ?_ ?_
        rotate_left
        · intro w hSw; obtain ⟨s0, s1, s2, s3, s4, s5, s6, s7⟩ := KC.out _ hSw; go_simp; try with_reducible rfl
        try simp only [Act.put, sA, sB, sC, sD, sE, sF]
        refine tk 19 (v := ?_) rfl hHeld ?_ ?_
        rotate_left
        · intro w hSw; obtain ⟨s0, s1, s2, s3, s4, s5, s6, s7⟩ := KC.out _ hSw; go_simp; try with_reducible rfl
        try simp only [Act.put, sA, sB, sC, sD, sE, sF]
        refine wpAnyH_done (by kernel_rfl) ?_ _
        have hW14 := hW.trans (hHeld.mono hW.size)
        have V6 := V3.below hW14
        have V7 : Below w.heap.size w W14 := V4.trans (hW14.mono V4.size)
        have q := grown_below (grown_refl W none) hHeld (Nat.le_refl _)
        have V8 : w'.heap.size + 1 + 1 < W.heap.size := Nat.lt_of_lt_of_le V5 hW.size
        obtain ⟨x0, x1, x2⟩ := one V6.2.1
        obtain ⟨y0, y1, y2⟩ := one V6.2.2
        clear V1 V2 V4 hHeld KC
        cases r with
        | true =>
          gi_wp2
          refine ⟨KeepsFrom.of_grownBy q (fun r e => by cases e), q.block _ V8 (fun e => by cases e), hW14, fun y hy => ?_⟩
          rcases List.mem_append.1 hy with hy | hy
          · exact hp y hy
          · rw [List.mem_singleton.1 hy]; exact HKR.out.symm
        | false =>
          have r1 := lies.on_far (lies.on_put V6.2.1 0 (.bool false)) 0 (show w.heap.size + 1 ≠ w.heap.size + 1 + 1 by omega) (.int .i64 0)
          have r2 := lies.on_put (lies.on_far V6.2.2 0 (show w.heap.size + 1 + 1 ≠ w.heap.size + 1 by omega) (.bool false)) 0 (.int .i64 0)
          have hBB := ret2 V7 (.bool false) (.int .i64 0)
          have V9 := lies.lt V3.2.2
          have R := Lib.hid (And.intro r1 (And.intro r2 hBB))
          clear r1 r2 hBB
          gi_wp2
          obtain ⟨r1, r2, hBB⟩ := R.out
          refine ⟨⟨by have := q.size; simpa using this, fun k o hk h _ => (Below.heap_setCell _ _ _ k (by show k ≠ w.heap.size + 1 + 1; omega)).trans ((Below.heap_setCell _ _ _ k (by show k ≠ w.heap.size + 1; omega)).trans ((q.block k (Array.getElem?_eq_some_iff.1 h).1 (fun e => by cases e)).trans h))⟩, ⟨hBB, r1, r2⟩, rfl, i, j, hi, hj, HKR.out.symm⟩
      case done =>
        rintro D ys W hD rfl ⟨hW, hp⟩ hK
        have V6 := V3.below hW
        have V7 : Below w.heap.size w W := V4.trans (hW.mono V4.size)
        obtain ⟨x0, x1, x2⟩ := one V6.2.1
        obtain ⟨y0, y1, y2⟩ := one V6.2.2
        have hD' : w.heap.size + 1 + 1 < D := by have := V3.2.2; have := lies.lt this; simp at hD this; omega
        have r1 := lies.on_far (lies.on_put V6.2.1 0 (.bool true)) 0 (show w.heap.size + 1 ≠ w.heap.size + 1 + 1 by omega) (.int .i64 0)
        have r2 := lies.on_put (lies.on_far V6.2.2 0 (show w.heap.size + 1 + 1 ≠ w.heap.size + 1 by omega) (.bool true)) 0 (.int .i64 0)
        have hBB := ret2 V7 (.bool true) (.int .i64 0)
        have R := Lib.hid (And.intro r1 (And.intro r2 hBB))
        clear r1 r2 hBB hD
        gi_wp2
        have hK' := ((KeepsOthers.setCell W ⟨w.heap.size + 1, 0, none⟩ (.bool true)).trans (KeepsOthers.setCell _ ⟨w.heap.size + 1 + 1, 0, none⟩ (.int .i64 0))).same D _ hK rfl
        obtain ⟨r1, r2, hBB⟩ := R.out
        obtain ⟨k0, k1, k2⟩ := one r1
        obtain ⟨k3, k4, k5⟩ := one r2
        have q0 := cell_kept k0 (grownBy_putObj' _ D (.deferred none)) (fun r e => by cases e; exact ⟨_, hK', rfl⟩)
        have q1 := cell_kept k3 (grownBy_putObj' _ D (.deferred none)) (fun r e => by cases e; exact ⟨_, hK', rfl⟩)
        refine ⟨by simp, .inl ⟨_, _, rfl, run_takeDeferred hK', ?_⟩⟩
        refine ⟨.tuple #[.bool true, .int .i64 0], ?_, ?_, true, rfl, ?_⟩
        · simp [results, Tryz.f118, go_sem, q0, q1]
        · exact hBB.trans (belowK_b (w := w) (Nat.le_refl _) _ D _ _ (by omega) hK' rfl rfl)
        · refine ⟨fun _ i j hi hj => ?_, fun _ => rfl⟩
          rw [← HQS.out]
          exact hp ⟨(i, j), hi, hj⟩ (all_pairs h0 hn hi hj)
      case stop =>
        rintro D co pre W hD _ ⟨⟨hB, r1, r2⟩, rfl, i, j, hi, hj, hf⟩ hK
        have hD' : w.heap.size + 1 + 1 < D := by have := V3.2.2; have := lies.lt this; simp at hD this; omega
        obtain ⟨k0, k1, k2⟩ := one r1
        obtain ⟨k3, k4, k5⟩ := one r2
        have q0 := cell_kept k0 (grownBy_putObj' _ D (.deferred none)) (fun r e => by cases e; exact ⟨_, hK, rfl⟩)
        have q1 := cell_kept k3 (grownBy_putObj' _ D (.deferred none)) (fun r e => by cases e; exact ⟨_, hK, rfl⟩)
        clear hD
        gi_wp2
        refine ⟨by simp, .inl ⟨_, _, rfl, run_takeDeferred hK, ?_⟩⟩
        refine ⟨.tuple #[.bool false, .int .i64 0], ?_, ?_, false, rfl, ?_⟩
        · simp [results, Tryz.f118, go_sem, q0, q1]
        · exact hB.trans (belowK_b (w := w) (Nat.le_refl _) _ D _ _ (by omega) hK rfl rfl)
        · refine ⟨fun h => (by cases h), fun h => ?_⟩
          rw [← HQS.out] at h
          rw [h i j hi hj] at hf
          cases hf
end Go.Proofs.YthmljpccbjolgaaGreatDoor.dbm
namespace Go.Proofs.YthmljpccbjolgaaGreatDoor.dbm
open Go.RowKit num rat
open bound hiding up
set_option linter.unusedVariables false
def Kpd (n:Int) (ts:List Int) (rs:List (Int × Int)) (w:World) (e:Ending) (w':World):Prop:=Below w.heap.size w w'∧∃ (r:Bool) (c:Int),e=.returned (.tuple #[.bool r,.int .i64 c])∧
 ((c=8∧r=false∧¬ (MayD n ts∧MayT rs))∨(c=40∧r=false∧MayD n ts∧MayT rs∧¬ (rs.length:Int)=n - 1)∨(c=0∧MayD n ts∧MayT rs∧(rs.length:Int)=n - 1∧(r=true↔keptAll n.toNat ts ((0,1)::rs))))
theorem dkeeps_any (n:Int) (sv tv:Value) (ts:List Int) (rs:List (Int × Int)) (w:World) (hI:law.Ints w.heap.size w sv ts) (hm:ts.length≤1000000) (htop:Tops ts) (hR:Rats w.heap.size w tv rs) (hi:IntsR rs) (hlm:rs.length≤100000):
  Calls Tryz.prog 118 #[.agg #[.int .i64 n,sv],tv] w (Kpd n ts rs w):=by
 by_cases h:MayD n ts
 ·obtain ⟨ao,cap,rfl⟩:=rats_len hR
  by_cases hd:MayT rs∧(rs.length:Int)=n - 1
  ·obtain ⟨m,rfl,h0,hn,hl⟩:=may_nat h
   have hp:0<m*m:=Nat.mul_pos h0 h0
   rcases hI with ⟨_,rfl⟩ | ⟨b,off,cap',rfl,hb,hc⟩
   ·simp at hl;omega
   ·rw [hl]
    refine (dkeeps_ok m b off cap' rs.length cap ao ts rs w h0 hn hc hb htop h hl hR rfl hi hd.1 (by omega)).mono fun e w' ⟨hB,r,he,hr⟩=>⟨hB,r,0,he,.inr (.inr ⟨rfl,h,hd.1,hd.2,hr⟩)⟩
  ·refine (dkeeps_not n sv ts rs rs.length cap ao w hI hm htop h hR rfl hi (by omega) hd).mono fun e w' ⟨⟨c,hc,he⟩,hB⟩=>⟨hB,false,c,he,?_⟩
   rcases hc with ⟨rfl,hc⟩ | ⟨rfl,hc⟩
   ·exact .inl ⟨rfl,rfl,fun k=>hc k.2⟩
   ·exact .inr (.inl ⟨rfl,rfl,h,hc,fun k=>hd ⟨hc,k⟩⟩)
 ·exact (dkeeps_bad n sv tv ts w hI hm htop h).mono fun e w' ⟨he,hB⟩=>⟨hB,false,8,he,.inl ⟨rfl,rfl,fun k=>h k.1⟩⟩
end Go.Proofs.YthmljpccbjolgaaGreatDoor.dbm
namespace Go.Proofs.YthmljpccbjolgaaGreatDoor.dbm
open num rat
open bound hiding up
set_option linter.unusedVariables false
theorem by_third (a b c d e f:Int):f*(a*d - c*b)=d*(a*f - e*b)+b*(e*d - c*f):=by
 simp only [Int.mul_sub]
 have h1:f*(a*d)=d*(a*f):=by ac_rfl
 have h2:f*(c*b)=b*(c*f):=by ac_rfl
 have h3:d*(e*b)=b*(e*d):=by ac_rfl
 omega
theorem by_third' (b d f m k:Int):f*((m+k)*(b*d))=d*(m*(b*f))+b*(k*(f*d)):=by
 simp only [Int.add_mul,Int.mul_add]
 have h1:f*(m*(b*d))=d*(m*(b*f)):=by ac_rfl
 have h2:f*(k*(b*d))=b*(k*(f*d)):=by ac_rfl
 omega
theorem le_third {a b c d e f m k:Int} (hb:0<b) (hd:0<d) (hf:0<f) (h1:a*f - e*b≤m*(b*f)) (h2:e*d - c*f≤k*(f*d)):a*d - c*b≤(m+k)*(b*d):=by
 refine Int.le_of_mul_le_mul_left (a:=f) ?_ hf
 rw [by_third,by_third']
 exact Int.add_le_add (Int.mul_le_mul_of_nonneg_left h1 (Int.le_of_lt hd)) (Int.mul_le_mul_of_nonneg_left h2 (Int.le_of_lt hb))
theorem lt_third {a b c d e f m k:Int} (hb:0<b) (hd:0<d) (hf:0<f) (h1:a*f - e*b≤m*(b*f)) (h2:e*d - c*f≤k*(f*d)) (h:a*f - e*b<m*(b*f)∨e*d - c*f<k*(f*d)):a*d - c*b<(m+k)*(b*d):=by
 refine Int.lt_of_mul_lt_mul_left (a:=f) ?_ (Int.le_of_lt hf)
 rw [by_third,by_third']
 rcases h with h | h
 ·exact Int.add_lt_add_of_lt_of_le (Int.mul_lt_mul_of_pos_left h hd) (Int.mul_le_mul_of_nonneg_left h2 (Int.le_of_lt hb))
 ·exact Int.add_lt_add_of_le_of_lt (Int.mul_le_mul_of_nonneg_left h1 (Int.le_of_lt hd)) (Int.mul_lt_mul_of_pos_left h hb)
theorem keptR_le {a b c d x:Int} (h:keptR a b c d x=true):a*d - c*b≤x / 2*(b*d):=by
 unfold keptR ltB at h
 by_cases s:bS x=true
 ·rw [if_pos s] at h;have:=of_decide_eq_true h;omega
 ·rw [if_neg s] at h;simp at h;omega
theorem keptR_lt {a b c d x:Int} (s:bS x=true):keptR a b c d x=true↔a*d - c*b<x / 2*(b*d):=by
 unfold keptR ltB
 rw [if_pos s]
 simp
theorem keptR_ge {a b c d x:Int} (s:¬ bS x=true):keptR a b c d x=true↔a*d - c*b≤x / 2*(b*d):=by
 unfold keptR ltB
 rw [if_neg s]
 simp
theorem keptR_add {a b c d e f x y z:Int} (hb:0<b) (hd:0<d) (hf:0<f) (h1:keptR a b e f x=true) (h2:keptR e f c d y=true) (hz:z / 2=x / 2+y / 2) (hs:bS z=true→bS x=true∨bS y=true):keptR a b c d z=true:=by
 have l1:=keptR_le h1
 have l2:=keptR_le h2
 by_cases s:bS z=true
 ·rw [keptR_lt s,hz]
  refine lt_third hb hd hf l1 l2 ?_
  rcases hs s with s1 | s1
  ·exact .inl ((keptR_lt s1).1 h1)
  ·exact .inr ((keptR_lt s1).1 h2)
 ·rw [keptR_ge s,hz]
  exact le_third hb hd hf l1 l2
theorem keptR_up {a b c d x y:Int} (hb:0<b) (hd:0<d) (h:keptR a b c d x=true) (hxy:x≤y):keptR a b c d y=true:=by
 have hp:0<b*d:=Int.mul_pos hb hd
 have l:=keptR_le h
 have hq:x / 2*(b*d)≤y / 2*(b*d):=Int.mul_le_mul_of_nonneg_right (by omega) (Int.le_of_lt hp)
 by_cases s:bS y=true
 ·rw [keptR_lt s]
  by_cases s1:bS x=true
  ·have:=(keptR_lt s1).1 h;omega
  ·have hlt:x / 2<y / 2:=by
    unfold bS at s s1
    simp at s s1
    omega
   have:=Int.mul_lt_mul_of_pos_right hlt hp
   omega
 ·rw [keptR_ge s];omega
end Go.Proofs.YthmljpccbjolgaaGreatDoor.dbm
namespace Go.Proofs.YthmljpccbjolgaaGreatDoor.dbm
open num rat way
open bound hiding up
set_option linter.unusedVariables false
def kB (q:Nat→Int × Int) (i j:Nat):B→Prop
 | none=>True
 | some z=>keptR (q i).1 (q i).2 (q j).1 (q j).2 z=true
theorem kB_ad {q:Nat→Int × Int} (hq:∀ i,0<(q i).2) {i m j:Nat} {x y:B} (h:kB q i m x) (k:kB q m j y):kB q i j (ad x y):=by
 cases x with
 | none=>rw [none_ad];trivial
 | some a=>
  cases y with
  | none=>rw [ad_none];trivial
  | some b=>
   rw [ad_some]
   refine keptR_add (hq i) (hq j) (hq m) h k (by omega) (fun s=>?_)
   unfold bS at s ⊢
   simp at s ⊢
   omega
theorem kB_up {q:Nat→Int × Int} (hq:∀ i,0<(q i).2) {i j:Nat} {x y:B} (h:kB q i j x) (k:le x y):kB q i j y:=by
 cases y with
 | none=>trivial
 | some b=>
  cases x with
  | none=>exact k.elim
  | some a=>exact keptR_up (hq i) (hq j) h k
theorem kB_way {q:Nat→Int × Int} (hq:∀ i,0<(q i).2) {d:Tab} (h:∀ i j,kB q i j (d i j)) (l:List Nat):∀ i j,kB q i j (w d i l j):=by
 induction l with
 | nil=>exact fun i j=>h i j
 | cons m l ih=>exact fun i j=>kB_ad hq (h i m) (ih m j)
theorem kB_F {q:Nat→Int × Int} (hq:∀ i,0<(q i).2) {d:Tab} (h:∀ i j,kB q i j (d i j)) (k i j:Nat):kB q i j (F d k i j):=by
 obtain ⟨l,_,e⟩:=F_is d k i j
 rw [←e]
 exact kB_way hq h l i j
theorem kB_self {q:Nat→Int × Int} (hq:∀ i,0<(q i).2) {i:Nat} {x:B} (h:kB q i i x):le way.one x:=by
 cases x with
 | none=>exact le_none _
 | some z=>
  have hp:0<(q i).2*(q i).2:=Int.mul_pos (hq i) (hq i)
  show (1:Int)≤z
  have l:=keptR_le h
  rw [Int.sub_self] at l
  refine Decidable.byContradiction fun hz=>?_
  by_cases e:z=0
  ·subst e
   have:=(keptR_lt (x:=0) rfl).1 h
   simp at this
  ·have:z / 2<0:=by omega
   have:=Int.mul_lt_mul_of_pos_right this hp
   omega
theorem kB_one {q:Nat→Int × Int} (i:Nat):kB q i i way.one:=by
 show keptR _ _ _ _ 1=true
 rw [keptR_ge (by decide)]
 simp
end Go.Proofs.YthmljpccbjolgaaGreatDoor.dbm
namespace Go.Proofs.YthmljpccbjolgaaGreatDoor.dbm
open num rat way
open bound hiding up
set_option linter.unusedVariables false
theorem kp_kB {a b c d x:Int} (h:MayR a b) (h':MayR c d) (hx:Fine x):kpV a b c d x=true↔(x=9223372036854775807∨keptR a b c d x=true):=by
 unfold kpV
 rw [if_pos ⟨h,h'⟩]
 by_cases e:x=9223372036854775807
 ·rw [if_pos e];exact ⟨fun _=>.inl e,fun _=>rfl⟩
 ·rw [if_neg e,if_pos (by unfold Fine at hx;unfold May;omega)]
  exact ⟨fun k=>.inr k,fun k=>k.resolve_left e⟩
def tms (n:Nat) (qs:List (Int × Int)) (i:Nat):Int × Int:=if i<n then pr qs i else (0,1)
theorem tms_pos {n:Nat} {qs:List (Int × Int)} (hm:MayT qs) (hl:qs.length=n) (i:Nat):0<(tms n qs i).2:=by
 unfold tms
 by_cases h:i<n
 ·rw [if_pos h]
  have:=(hm i (by omega)).1
  omega
 ·rw [if_neg h];decide
theorem kp_iff {n:Nat} {us:List Int} {qs:List (Int × Int)} (hm:MayT qs) (hl:qs.length=n) {i j:Nat} (hi:i<n) (hj:j<n) (hx:Fine (tat us n i j)):kp n us qs i j=true↔kB (tms n qs) i j (cod (tat us n i j)):=by
 unfold kp
 rw [kp_kB (hm i (by omega)) (hm j (by omega)) hx]
 unfold cod
 by_cases e:tat us n i j=9223372036854775807
 ·rw [if_pos e];exact ⟨fun _=>trivial,fun _=>.inl e⟩
 ·rw [if_neg e]
  have e1:tms n qs i=pr qs i:=if_pos hi
  have e2:tms n qs j=pr qs j:=if_pos hj
  unfold kB
  rw [e1,e2]
  exact ⟨fun k=>k.resolve_left e,fun k=>.inr k⟩
theorem kept_beg {n:Nat} {ts:List Int} {qs:List (Int × Int)} (hn:n≤4) (hl:ts.length=n*n) (htop:Tops ts) (hf:∀ p,p<ts.length→Fine (ts[p]?.getD 0)) (hm:MayT qs) (hq:qs.length=n) (h:keptAll n ts qs) (i j:Nat):kB (tms n qs) i j (beg n ts i j):=by
 by_cases hij:i<n∧j<n
 ·obtain ⟨hi,hj⟩:=hij
  unfold beg
  rw [wts_in hi hj,beg_at hl hn hi hj]
  have k:=(kp_iff hm hq hi hj (fine_at hl hn hf hi hj)).1 (h i j hi hj)
  by_cases e:i=j
  ·subst e
   rw [if_pos rfl,cod_lsr (tat_top htop n i i) (by decide)]
   rcases mn_is (cod (tat ts n i i)) (cod 1) with e | e
   ·rw [e];exact k
   ·rw [e];exact kB_one i
  ·rw [if_neg e];exact k
 ·have:beg n ts i j=none:=if_neg hij
  rw [this];trivial
theorem kept_closed {n:Nat} {ts:List Int} {qs:List (Int × Int)} (h0:0<n) (hn:n≤4) (hl:ts.length=n*n) (htop:Tops ts) (hf:∀ p,p<ts.length→Fine (ts[p]?.getD 0)) (hm:MayT qs) (hq:qs.length=n) (h:keptAll n ts qs):
  ∀ k,k≤n→¬ emp n (tabs n h0 ts k):=by
 intro k
 induction k using Nat.strongRecOn with
 | _ k ih=>
  rintro hk ⟨i,hi,he⟩
  have e:=tabs_is h0 hn hl htop hf k hk (fun m hmk=>ih m hmk (by omega)) i i hi hi
  have:=kB_self (tms_pos hm hq) (kB_F (tms_pos hm hq) (kept_beg hn hl htop hf hm hq h) k i i)
  rw [←e] at this
  have:=(cod_le (by decide) (tat_top (tabs_tops h0 htop k) n i i)).1 (show le (cod 1) _ from this)
  omega
theorem kept_same {n:Nat} {ts:List Int} {qs:List (Int × Int)} (h0:0<n) (hn:n≤4) (hl:ts.length=n*n) (htop:Tops ts) (hf:∀ p,p<ts.length→Fine (ts[p]?.getD 0)) (hm:MayT qs) (hq:qs.length=n)
  (hne:∀ k,k≤n→¬ emp n (tabs n h0 ts k)) (hc:∀ i j,i<n→j<n→Fine (tat (tabs n h0 ts n) n i j)):keptAll n ts qs↔keptAll n (tabs n h0 ts n) qs:=by
 have he:=tabs_is h0 hn hl htop hf n (Nat.le_refl _) (fun m hm=>hne m (by omega))
 refine ⟨fun h i j hi hj=>?_,fun h i j hi hj=>?_⟩
 ·rw [kp_iff hm hq hi hj (hc i j hi hj),he i j hi hj]
  exact kB_F (tms_pos hm hq) (kept_beg hn hl htop hf hm hq h) n i j
 ·have k:=(kp_iff hm hq hi hj (hc i j hi hj)).1 (h i j hi hj)
  rw [kp_iff hm hq hi hj (fine_at hl hn hf hi hj)]
  exact kB_up (tms_pos hm hq) k ((cod_le (tat_top (tabs_tops h0 htop n) n i j) (tat_top htop n i j)).2 (closed_le h0 hn hl htop hf hne hi hj))
end Go.Proofs.YthmljpccbjolgaaGreatDoor.dbm
