
/-
  What the laws of layer 5 share: calls at told matrices, boxes, a span that comes in, times that keep a matrix with bounds more; each theorem names its conditions.
-/
import Derived.Test.YthmljpccbjolgaaGreatDoorTightB
import Derived.Lib.SmallJoins
import Derived.Test.YthmljpccbjolgaaGreatDoorDbmD
import Derived.Test.YthmljpccbjolgaaGreatDoorRatC
namespace Go.Proofs.YthmljpccbjolgaaGreatDoor.tlaw
open Go.Joins Go.ChangeShapes Go.WideShapes Go.ChangeAt Go.RowKit num dbm Go.Proofs.YthmljpccbjolgaaGreatDoor.tight
open bound hiding up
set_option linter.unusedVariables false
set_option linter.unusedSimpArgs false
def okB (m:Nat) (h0:0<m) (ts:List Int):Bool:=decide (MayD m ts) && (List.range (m+1)).all (fun k=>(List.range m).all fun i=>decide (1≤tat (tabs m h0 ts k) m i i))
theorem okB_iff {m:Nat} (h0:0<m) (ts:List Int):okB m h0 ts=true↔OkD m ts:=by
 unfold okB OkD emp
 simp only [Bool.and_eq_true,decide_eq_true_eq,List.all_eq_true,List.mem_range,Int.toNat_natCast]
 constructor
 ·rintro ⟨h,k⟩
  exact ⟨h,h0,fun q hq ⟨i,hi,hl⟩=>by have:=k q (by omega) i hi;omega⟩
 ·rintro ⟨h,h0',k⟩
  refine ⟨h,fun q hq i hi=>?_⟩
  refine Decidable.byContradiction fun hl=>k q (by omega) ⟨i,hi,by omega⟩
theorem ok_cl {m:Nat} (h0:0<m) {ts us:List Int} (h:okB m h0 ts=true) (k:tabs m h0 ts m=us):OkD m ts∧clT m ts=us:=⟨(okB_iff h0 ts).1 h,(clT_nat h0 ts).trans k⟩
abbrev Bx:=Nat × Int × Value × List Int
end Go.Proofs.YthmljpccbjolgaaGreatDoor.tlaw
namespace Go.Proofs.YthmljpccbjolgaaGreatDoor.tlaw
open Go.Joins Go.Deep Go.ChangeShapes Go.WideShapes Go.ChangeAt Go.RowKit num dbm Go.Proofs.YthmljpccbjolgaaGreatDoor.tight
open bound hiding up
set_option linter.unusedVariables false
set_option linter.unusedSimpArgs false
theorem array5 {α:Type} {cs:Array α} (h:cs.size=5):∃ c0 c1 c2 c3 c4,cs=#[c0,c1,c2,c3,c4]:=by
 obtain ⟨l⟩:=cs
 match l,h with
 | [c0,c1,c2,c3,c4],_=>exact ⟨c0,c1,c2,c3,c4,rfl⟩
section
variable {H:Type} {enc:TypeId × Value→H} {P:Program} {w:World} {base:Nat} {spare:Nat→Bool} {held:Bool}
theorem trod_struct5 {t:TypeId} {f0 f1 f2 f3 f4:Field} {fuel:Nat} {cs:List Value} {x:DataW H × List MemPlace} (ht:P.underlying t=some (.struct #[f0,f1,f2,f3,f4])) (h:DataW.trod enc P w base spare held fuel t cs=some x):
  ∃ y0 y1 y2 y3 y4 n,DataW.trod enc P w base spare held n f0.type ((cs.drop f0.offset).take (P.cellsOf f0.type))=some y0∧
   DataW.trod enc P w base spare held n f1.type ((cs.drop f1.offset).take (P.cellsOf f1.type))=some y1∧DataW.trod enc P w base spare held n f2.type ((cs.drop f2.offset).take (P.cellsOf f2.type))=some y2∧
   DataW.trod enc P w base spare held n f3.type ((cs.drop f3.offset).take (P.cellsOf f3.type))=some y3∧DataW.trod enc P w base spare held n f4.type ((cs.drop f4.offset).take (P.cellsOf f4.type))=some y4:=by
 obtain ⟨xs,n,_,rfl,hl,hlen,hf⟩:=DataW.trod_struct ht h
 match xs,hlen with
 | [y0,y1,y2,y3,y4],_=>exact ⟨y0,y1,y2,y3,y4,n,by simpa using hf 0 f0 rfl,by simpa using hf 1 f1 rfl,by simpa using hf 2 f2 rfl,by simpa using hf 3 f3 rfl,by simpa using hf 4 f4 rfl⟩
theorem open_agg5 {r:Reach} {b0:Nat} {t:TypeId} {f0 f1 f2 f3 f4:Field} {v:Value} {d:DataW H} {p:List MemPlace} (hs:P.underlying t=some (.struct #[f0,f1,f2,f3,f4])) (hone:oneCellFields P #[f0,f1,f2,f3,f4]=true) (hC:P.cellsOf t=5)
  (hv:Value.okWide P w r b0 t v) (h:DataW.Trod enc P w base spare held t v d p):
  ∃ (v0 v1 v2 v3 v4:Value) (y0 y1 y2 y3 y4:DataW H × List MemPlace) (n:Nat),v=.agg #[v0,v1,v2,v3,v4]∧
   DataW.trod enc P w base spare held n f0.type [v0]=some y0∧DataW.trod enc P w base spare held n f1.type [v1]=some y1∧DataW.trod enc P w base spare held n f2.type [v2]=some y2∧DataW.trod enc P w base spare held n f3.type [v3]=some y3∧DataW.trod enc P w base spare held n f4.type [v4]=some y4:=by
 obtain ⟨cs,rfl,hsz⟩:=okWide_struct hs hv
 obtain ⟨c0,c1,c2,c3,c4,rfl⟩:=array5 (hsz.trans hC)
 obtain ⟨fuel,hf⟩:=h
 obtain ⟨y0,y1,y2,y3,y4,n,h0,h1,h2,h3,h4⟩:=trod_struct5 hs hf
 obtain ⟨o0,k0⟩:=hone_of hone 0 f0 rfl
 obtain ⟨o1,k1⟩:=hone_of hone 1 f1 rfl
 obtain ⟨o2,k2⟩:=hone_of hone 2 f2 rfl
 obtain ⟨o3,k3⟩:=hone_of hone 3 f3 rfl
 obtain ⟨o4,k4⟩:=hone_of hone 4 f4 rfl
 exact ⟨c0,c1,c2,c3,c4,y0,y1,y2,y3,y4,n,rfl,by simpa [Value.cells,o0,k0] using h0,by simpa [Value.cells,o1,k1] using h1,by simpa [Value.cells,o2,k2] using h2,by simpa [Value.cells,o3,k3] using h3,by simpa [Value.cells,o4,k4] using h4⟩
end
set_option maxRecDepth 100000 in
theorem open_span {H:Type} {enc:TypeId × Value→H} {W:World} {v:Value} {d:DataW H} {p:List MemPlace} {base:Nat}
  (hok:Value.okWide Tryz.prog W .any base 35 v) (h:DataW.Trod enc Tryz.prog W 0 (fun _=>true) true 35 v d p):
  ∃ (lo:Int) (ls:Bool) (hi:Int) (hs op:Bool),v=.agg #[.int .i64 lo,.bool ls,.int .i64 hi,.bool hs,.bool op]:=by
 obtain ⟨v0,v1,v2,v3,v4,y0,y1,y2,y3,y4,k,rfl,h0,h1,h2,h3,h4⟩:=open_agg5 Tryz.underlying35 (by kernel_rfl) (by kernel_rfl) hok h
 obtain ⟨a,ha,_⟩:=DataW.trod_int Tryz.underlying3 h0
 obtain ⟨b,hb,_⟩:=DataW.trod_bool Tryz.underlying4 h1
 obtain ⟨c,hc,_⟩:=DataW.trod_int Tryz.underlying3 h2
 obtain ⟨d',hd,_⟩:=DataW.trod_bool Tryz.underlying4 h3
 obtain ⟨e,he,_⟩:=DataW.trod_bool Tryz.underlying4 h4
 simp only [List.cons.injEq,and_true] at ha hb hc hd he
 subst ha hb hc hd he
 exact ⟨a,b,c,d',e,rfl⟩
end Go.Proofs.YthmljpccbjolgaaGreatDoor.tlaw
namespace Go.Proofs.YthmljpccbjolgaaGreatDoor.tkept
open num dbm rat Go.Proofs.YthmljpccbjolgaaGreatDoor.tight
open bound hiding up
set_option linter.unusedVariables false
theorem kpV_lsr {a b c d u v:Int} (h:MayR a b) (h':MayR c d) (hu:Fine u) (hv:Fine v):kpV a b c d (lsr u v)=true↔kpV a b c d u=true∧kpV a b c d v=true:=by
 rw [kp_kB h h' (lsr_fine hu hv),kp_kB h h' hu,kp_kB h h' hv]
 have hb:0<b:=by have:=h.1;omega
 have hd:0<d:=by have:=h'.1;omega
 have hl:=lsr_le u v
 have tu:u≤9223372036854775807:=by rcases hu with h | h<;>omega
 have tv:v≤9223372036854775807:=by rcases hv with h | h<;>omega
 constructor
 ·rintro (k | k)
  ·exact ⟨.inl (by omega),.inl (by omega)⟩
  ·exact ⟨.inr (keptR_up hb hd k hl.1),.inr (keptR_up hb hd k hl.2)⟩
 ·rintro ⟨k1,k2⟩
  rcases lsr_is u v with e | e<;>rw [e]<;>assumption
theorem kept_les {n:Nat} {ts us:List Int} {qs:List (Int × Int)} (hn:n≤4) (hl:ts.length=n*n) (hu:us.length=n*n) (ht:MayD n ts) (hm:MayD n us) (hq:MayT qs) (hqn:qs.length=n):
  keptAll n (lesT ts us) qs↔keptAll n ts qs∧keptAll n us qs:=by
 have key:∀ i j,i<n→j<n→(kp n (lesT ts us) qs i j=true↔kp n ts qs i j=true∧kp n us qs i j=true):=fun i j hi hj=>by
  have e:tat (lesT ts us) n i j=lsr (tat ts n i j) (tat us n i j):=lesT_at _ _ (by rw [hl];exact place_le hn hi hj)
  unfold kp
  rw [e]
  exact kpV_lsr (hq i (by omega)) (hq j (by omega)) (fine_at hl hn ht.2.2.2 hi hj) (fine_at hu hn hm.2.2.2 hi hj)
 exact ⟨fun h=>⟨fun i j hi hj=>((key i j hi hj).1 (h i j hi hj)).1,fun i j hi hj=>((key i j hi hj).1 (h i j hi hj)).2⟩,fun h i j hi hj=>(key i j hi hj).2 ⟨h.1 i j hi hj,h.2 i j hi hj⟩⟩
theorem kept_cl {n:Nat} {L:List Int} {qs:List (Int × Int)} (h0:0<n) (hn:n≤4) (hl:L.length=n*n) (htop:Tops L) (hok:OkD n L) (hc:MayD n (clT n L)) (hq:MayT qs) (hqn:qs.length=n):keptAll n (clT n L) qs↔keptAll n L qs:=by
 have hC:clT n L=tabs n h0 L n:=clT_nat h0 L
 rw [hC] at hc ⊢
 have hlc:(tabs n h0 L n).length=n*n:=(tabs_length _ _ _ _).trans hl
 exact (kept_same h0 hn hl htop hok.1.2.2.2 hq hqn (fun k hk=>hok.2.2 k (by simpa using hk)) (fun i j hi hj=>fine_at hlc hn hc.2.2.2 hi hj)).symm
theorem kept_no {n:Nat} {L:List Int} {qs:List (Int × Int)} (h0:0<n) (hn:n≤4) (hl:L.length=n*n) (htop:Tops L) (hm:MayD n L) (hok:¬ OkD n L) (hq:MayT qs) (hqn:qs.length=n):¬ keptAll n L qs:=fun h=>by
 have:=kept_closed h0 hn hl htop hm.2.2.2 hq hqn h
 exact hok ⟨hm,by simpa using h0,fun k hk=>this k (by simpa using hk)⟩
end Go.Proofs.YthmljpccbjolgaaGreatDoor.tkept
namespace Go.Proofs.YthmljpccbjolgaaGreatDoor.tkept
open num dbm rat Go.Proofs.YthmljpccbjolgaaGreatDoor.tight
open bound hiding up
set_option linter.unusedVariables false
def inl (lo:Int) (ls:Bool) (a b:Int):Bool:=if ls then decide (lo*b<a) else decide (lo*b≤a)
theorem mk_fine2 {c:Int} (h:In c) (s:Bool):Fine (mk c s):=.inr (by rw [mk_half];exact h)
theorem zero_may:MayR 0 1:=⟨by decide,by decide,by decide,by decide,by decide⟩
end Go.Proofs.YthmljpccbjolgaaGreatDoor.tkept
