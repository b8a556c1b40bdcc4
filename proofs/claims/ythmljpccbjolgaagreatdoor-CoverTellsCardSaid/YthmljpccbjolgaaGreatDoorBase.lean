
/-
  The frame of a law's proof, blocks of memory that a call has made, and what each call of packages num and bound answers, the document's own answers beside them; each theorem names its conditions.
-/
import Derived.Test.YthmljpccbjolgaaGreatDoorRows
import Derived.WalkKit
import Derived.ProofKit
import Derived.OpenShut
import Derived.Carry
import Derived.Lib.Hide
import Derived.Deep.QuietTactic
import Derived.Laws.OwnMore
import Derived.Laws.Rows
import Derived.BigQuiet
import Derived.OrdersHeld
namespace Go.Proofs.YthmljpccbjolgaaGreatDoor
theorem sA {α:Type} {xs:List α} {i:Nat} (h:i<xs.toArray.size):xs.toArray[i]=xs[i]'(by simpa using h):=rfl
theorem sB {α:Type} {a:α} {l:List α} (h:0<(a::l).length):(a::l)[0]'h=a:=rfl
theorem sC {α:Type} {a:α} {l:List α} {i:Nat} (h:i+1<(a::l).length):(a::l)[i+1]'h=l[i]'(Nat.lt_of_succ_lt_succ h):=rfl
theorem sD {α:Type} {l:List α} {i:Nat} {a:α}:l.toArray.setIfInBounds i a=(l.set i a).toArray:=by simp only [List.setIfInBounds_toArray]
theorem sE {α:Type} {x a:α} {l:List α}:(x::l).set 0 a=a::l:=rfl
theorem sF {α:Type} {x a:α} {l:List α} {n:Nat}:(x::l).set (n+1) a=x::l.set n a:=rfl
theorem tk {P:Program} {ops:Array Oper} {Q:Exit→Act→World→Prop} {md:Region.Mode} {S:World→Prop} (i:Nat) {oi:Oper} {v:Value} {fuel:Nat} {listed:Array Bool} {a:Act} {w:World} (hi:ops[i]?=some oi) (hS:S w) (hy:∀ w,S w→(execOp a.eval oi).run P w=.ok (.value v) w) (h:wpAnyH P md ops Q S fuel (listed.setIfInBounds i true) (a.put oi.dst v) w)
  (hs:Region.noSelect ops=true:=by kernel_rfl) (hf:Region.free md ops listed i=true:=by kernel_rfl) (hr:(Region.ready md ops listed).contains i=true:=by kernel_rfl) (hQ:∀ c a w,Q (.panic c) (a.put oi.dst v) w→Q (.panic c) a w:=by exact fun _ _ _ h=>h) (hw:Region.wanted oi (yielded ops a.tmps)=true:=by rfl):wpAnyH P md ops Q S (fuel+1) listed a w:=
 wpAnyH_take hi hs hf hr hQ (Or.inl ⟨hw,hy⟩) hS h
end Go.Proofs.YthmljpccbjolgaaGreatDoor
namespace Go.Proofs.YthmljpccbjolgaaGreatDoor.law
open Go.ChangeShapes Go.WideShapes Go.ChangeAt Go.RowKit
set_option linter.unusedVariables false
theorem own:ownKnob Tryz.prog.godebug=none:=by kernel_rfl
theorem laidOut:laidOutB Tryz.prog=true:=by kernel_rfl
theorem wf_lo {n:Int} (h:(Lit.int .i64 n).wf=true):-9223372036854775808≤n:=(bounds_i64 h).1
theorem wf_hi {n:Int} (h:(Lit.int .i64 n).wf=true):n≤9223372036854775807:=(bounds_i64 h).2
def Says (f:FuncId) (args:Array Value) (v:Value):Prop:=∀ w:World,Calls Tryz.prog f args w fun e w'=>e=.returned v∧Below w.heap.size w w'
theorem trodAll_below {H:Type} {enc:TypeId × Value→H} {P:Program} (hl:laidOutB P=true) {W W':World} (hb:Below W.heap.size W W'):
  ∀ {ts:List TypeId} {vs:List Value} {ds:List (DataW H)} {ps:List MemPlace},(∀ t ∈ ts,P.readableRec t=true∧t<P.types.size)→(∀ x ∈ ps,x.block<W.heap.size)→
   DataW.TrodAll enc P W 0 (fun _=>true) true ts vs ds ps→DataW.TrodAll enc P W' 0 (fun b=>decide (b<W.heap.size)) true ts vs ds ps:=by
 intro ts
 induction ts with
 | nil=>
  intro vs ds ps _ _ h
  obtain ⟨rfl,rfl,rfl⟩:=trodAll_nil h
  rfl
 | cons t ts ih=>
  intro vs ds ps ht hp h
  obtain ⟨v,vs',d,ds',p,q,rfl,rfl,rfl,h0,h1⟩:=trodAll_cons h
  exact trodAll_cons_mk (Below.trod hl (ht t List.mem_cons_self).1 (ht t List.mem_cons_self).2 h0 hb (fun x hx=>hp x (List.mem_append_left _ hx)))
   (ih (fun t' h'=>ht t' (List.mem_cons_of_mem _ h')) (fun x hx=>hp x (List.mem_append_right _ hx)) h1)
theorem post_true {H:Type} {enc:TypeId × Value→H} {P:Program} {f:Func} {s:ChangeSpec} {W W':World} {args:Array Value} {ds gs:List (DataW H)} {before:List MemPlace} {tb:TypeId}
  (hl:laidOutB P=true) (hr:f.params.toList.all (fun t=>P.readableRec t && decide (t<P.types.size))=true) (hres:f.resultTypes=#[tb]) (hbool:P.underlying tb=some .bool) (hvars:s.vars=[])
  (hW:DataW.Whole enc P f.params.toList s.vars false W args.toList ds gs before)
  (hfn:gs=[]→s.fn H (ds++gs)={results:=[.lit (.bool true)],args:=ds,vars:=[]}) (hB:Below W.heap.size W W'):
  s.post enc P f false true false false W args (.bool true) W':=by
 obtain ⟨p,q,hA,hV,rfl,hfz,hnd⟩:=id hW
 have hV':=hV
 rw [hvars] at hV'
 obtain ⟨rfl,rfl⟩:=trodVars_none hV'
 refine ⟨_,_,_,[],p,[],hW,?_,?_,?_,hB.frame _,fun h=>by cases h⟩
 ·rw [hfn rfl,hres]
  exact trodAll_mk1 (shut_bool hbool true)
 ·rw [hfn rfl]
  refine trodAll_below hl hB (fun t ht=>?_) (fun x hx=>hW.lt x (List.mem_append_left _ hx)) hA
  have:=List.all_eq_true.1 hr t ht
  simpa using this
 ·rw [hfn rfl,hvars]
  rfl
def Ints (n₀:Nat) (W:World) (sv:Value) (zs:List Int):Prop:=
 ((∃ a cap,sv=.slice a 0 cap∧(a=none→cap=0))∧zs=[])∨∃ b off cap,sv=.slice (some ⟨b,off,none⟩) zs.length cap∧b<n₀∧∀ j,j<zs.length→W.cell? ⟨b,off+j,none⟩=some (.int .i64 (zs[j]?.getD 0))
theorem Ints.below {n₀:Nat} {A B:World} (h:Below n₀ A B) {sv:Value} {zs:List Int}:Ints n₀ A sv zs→Ints n₀ B sv zs
 | .inl e=>.inl e
 | .inr ⟨b,off,cap,e,hb,hc⟩=>.inr ⟨b,off,cap,e,hb,fun j hj=>(h.cell (p:=⟨b,off+j,none⟩) hb).trans (hc j hj)⟩
theorem Ints.mono {n₀ n₁:Nat} {A:World} (h:n₀≤n₁) {sv:Value} {zs:List Int}:Ints n₀ A sv zs→Ints n₁ A sv zs
 | .inl e=>.inl e
 | .inr ⟨b,off,cap,e,hb,hc⟩=>.inr ⟨b,off,cap,e,by omega,hc⟩
theorem cell_lt {W:World} {p:Addr} {v:Value} (h:W.cell? p=some v):p.block<W.heap.size:=by
 refine Decidable.byContradiction fun hn=>?_
 have:W.heap[p.block]?=none:=Array.getElem?_eq_none (by omega)
 unfold World.cell? at h
 simp [this] at h
end Go.Proofs.YthmljpccbjolgaaGreatDoor.law
namespace Go.Proofs.YthmljpccbjolgaaGreatDoor.lies
open Go.RowKit
set_option linter.unusedVariables false
def Lies (W:World) (g:Nat) (t:TypeId) (cs:Array Value):Prop:=W.heap[g]?=some (.cells cs t (0,0))
theorem lt {W:World} {g:Nat} {t:TypeId} {cs:Array Value} (h:Lies W g t cs):g<W.heap.size:=by
 refine Decidable.byContradiction fun k=>?_
 have e:W.heap[g]?=none:=Array.getElem?_eq_none (Nat.le_of_not_lt k)
 cases e.symm.trans h
theorem cell {W:World} {g:Nat} {t:TypeId} {cs:Array Value} (h:Lies W g t cs) (i:Nat):W.cell? ⟨g,i,none⟩=cs[i]?:=cell_of_row W g i cs t (0,0) h
theorem free {W:World} {g:Nat} {t:TypeId} {cs:Array Value} (h:Lies W g t cs) (i:Nat):W.frozen? ⟨g,i,none⟩=false:=by
 have e:W.heap[g]?=some (.cells cs t (0,0)):=h
 simp [World.frozen?,e]
theorem made (W:World) (t:TypeId) (cs:Array Value):Lies (W.alloc (.cells cs t)) W.heap.size t cs:=heap_alloc_new W _
theorem on_alloc {W:World} {g:Nat} {t:TypeId} {cs:Array Value} (h:Lies W g t cs) (o:Obj):Lies (W.alloc o) g t cs:=(Below.heap_alloc W o g (lt h)).trans h
theorem on_draw {W:World} {g:Nat} {t:TypeId} {cs:Array Value} (h:Lies W g t cs) (n:Nat):Lies (W.drewN n) g t cs:=h
theorem on_call {W X:World} {g:Nat} {t:TypeId} {cs:Array Value} (h:Lies W g t cs) (k:Below W.heap.size W X):Lies X g t cs:=(k.block g (lt h)).trans h
theorem on_put {W:World} {g:Nat} {t:TypeId} {cs:Array Value} (h:Lies W g t cs) (i:Nat) (u:Value):Lies (W.setCell ⟨g,i,none⟩ u) g t (cs.setIfInBounds i u):=by
 have e:W.heap[g]?=some (.cells cs t (0,0)):=h
 show (W.setCell ⟨g,i,none⟩ u).heap[g]?=_
 simp [World.setCell,Array.getElem?_modify,e]
theorem on_far {W:World} {g:Nat} {t:TypeId} {cs:Array Value} (h:Lies W g t cs) {b:Nat} (i:Nat) (hb:g≠b) (u:Value):Lies (W.setCell ⟨b,i,none⟩ u) g t cs:=(Below.heap_setCell W ⟨b,i,none⟩ u g hb).trans h
theorem two {W:World} {g:Nat} {t:TypeId} {u v:Value} (h:Lies W g t #[u,v]):W.cell? ⟨g,0,none⟩=some u∧W.cell? ⟨g,1,none⟩=some v∧W.frozen? ⟨g,0,none⟩=false∧W.frozen? ⟨g,1,none⟩=false∧g<W.heap.size:=
 ⟨cell h 0,cell h 1,free h 0,free h 1,lt h⟩
theorem made_at (W:World) (t:TypeId) (cs:Array Value) (g:Nat) (h:W.heap.size=g):Lies (W.alloc (.cells cs t)) g t cs:=h ▸ made W t cs
theorem frame_drew {w w1:World} (h:Below w.heap.size w w1):Below w.heap.size w w1.drew:=h.trans ⟨rfl,rfl,rfl,Nat.le_refl _,fun _ _=>rfl⟩
theorem frame_up {w w1:World} (h:Below w.heap.size w w1) (o:Obj):Below w.heap.size w (w1.alloc o):=h.alloc h.size o
theorem on_drew {W:World} {g:Nat} {t:TypeId} {cs:Array Value} (h:Lies W g t cs):Lies W.drew g t cs:=h
theorem four {W:World} {g b:Nat} {t s:TypeId} {u v x y:Value} (h:Lies W g t #[u,v]) (k:Lies W b s #[x,y]):W.cell? ⟨g,0,none⟩=some u∧W.cell? ⟨g,1,none⟩=some v∧W.cell? ⟨b,0,none⟩=some x∧W.cell? ⟨b,1,none⟩=some y:=
 ⟨cell h 0,cell h 1,cell k 0,cell k 1⟩
theorem pair {W:World} {g:Nat} {t:TypeId} {u v:Value} (h:Lies W g t #[u,v]):W.cell? ⟨g,0,none⟩=some u∧W.cell? ⟨g,1,none⟩=some v:=⟨cell h 0,cell h 1⟩
theorem row {W:World} {g:Nat} {t:TypeId} {u v x y:Value} (h:Lies W g t #[u,v,x,y]):W.cell? ⟨g,0,none⟩=some u∧W.cell? ⟨g,1,none⟩=some v∧W.cell? ⟨g,2,none⟩=some x∧W.cell? ⟨g,3,none⟩=some y:=
 ⟨cell h 0,cell h 1,cell h 2,cell h 3⟩
end Go.Proofs.YthmljpccbjolgaaGreatDoor.lies
namespace Go.Proofs.YthmljpccbjolgaaGreatDoor.num
open Go.ChangeShapes Go.WideShapes Go.ChangeAt Go.RowKit
set_option linter.unusedVariables false
def May (a:Int):Prop:=-2305843009213693952≤a∧a≤2305843009213693952
theorem check_ok (a : Int) (w : World) (h : May a) :
  Calls Tryz.prog 193 #[.int .i64 a] w fun e w' => e = .returned (.int .i64 0) ∧ w = w' := by
 obtain ⟨h1,h2⟩ := h
 have t1 : ¬ a < -2305843009213693952 := by omega
 have t2 : ¬ 2305843009213693952 < a := by omega
 go_enter Tryz.func193,Tryz.ntmps193
 go_wp2
 go_ret
 exact ⟨rfl,rfl⟩
theorem check_no (a : Int) (w : World) (h : ¬ May a) :
  Calls Tryz.prog 193 #[.int .i64 a] w fun e w' => e = .returned (.int .i64 10) ∧ w = w' := by
 unfold May at h
 by_cases t1 : a < -2305843009213693952
 ·clear h
  go_enter Tryz.func193,Tryz.ntmps193
  go_wp2
  go_ret
  exact ⟨rfl,rfl⟩
 ·have t2 : 2305843009213693952 < a := by omega
  clear h
  go_enter Tryz.func193,Tryz.ntmps193
  go_wp2
  go_ret
  exact ⟨rfl,rfl⟩
theorem add_ok (a b:Int) (w:World) (ha:May a) (hb:May b) (hs:May (a+b)):
  Calls Tryz.prog 238 #[.int .i64 a,.int .i64 b] w fun e w'=>e=.returned (.tuple #[.int .i64 (a+b),.int .i64 0])∧w=w':=by
 obtain ⟨a1,a2⟩:=id ha
 obtain ⟨b1,b2⟩:=id hb
 go_enter Tryz.func238,Tryz.ntmps238
 go_wp2_with (go_at_call 193;refine (check_ok _ _ (by assumption)).mono ?_;rintro e w' ⟨rfl,rfl⟩)
 go_ret2
 exact ⟨rfl,rfl⟩
theorem add_no (a b:Int) (w:World) (h:¬ (May a∧May b∧May (a+b))):
  Calls Tryz.prog 238 #[.int .i64 a,.int .i64 b] w fun e w'=>e=.returned (.tuple #[.int .i64 0,.int .i64 10])∧w=w':=by
 by_cases ha:May a
 ·by_cases hb:May b
  ·have H:RowKit.Hid (¬ May (a+b)):=Lib.hid (fun hs=>h ⟨ha,hb,hs⟩)
   clear h
   obtain ⟨a1,a2⟩:=id ha
   obtain ⟨b1,b2⟩:=id hb
   go_enter Tryz.func238,Tryz.ntmps238
   go_wp2_with (go_at_call 193;first | (refine (check_ok _ _ (by assumption)).mono ?_;rintro e w' ⟨rfl,rfl⟩) | (refine (check_no _ _ H.out).mono ?_;rintro e w' ⟨rfl,rfl⟩))
   go_ret2
   exact ⟨rfl,rfl⟩
  ·have H:RowKit.Hid (¬ May b):=Lib.hid hb
   clear h hb
   go_enter Tryz.func238,Tryz.ntmps238
   go_wp2_with (go_at_call 193;first | (refine (check_ok _ _ (by assumption)).mono ?_;rintro e w' ⟨rfl,rfl⟩) | (refine (check_no _ _ H.out).mono ?_;rintro e w' ⟨rfl,rfl⟩))
   go_ret2
   exact ⟨rfl,rfl⟩
 ·have H:RowKit.Hid (¬ May a):=Lib.hid ha
  clear h ha
  go_enter Tryz.func238,Tryz.ntmps238
  go_wp2_with (go_at_call 193;refine (check_no _ _ H.out).mono ?_;rintro e w' ⟨rfl,rfl⟩)
  go_ret2
  exact ⟨rfl,rfl⟩
def near (a : Int) : Int := if a < -2305843009213693952 then -2305843009213693952 else if 2305843009213693952 < a then 2305843009213693952 else a
end Go.Proofs.YthmljpccbjolgaaGreatDoor.num
namespace Go.Proofs.YthmljpccbjolgaaGreatDoor.num
open Go.ChangeShapes Go.WideShapes Go.ChangeAt Go.RowKit
set_option linter.unusedVariables false
instance decMay (a:Int):Decidable (May a):=by unfold May;exact inferInstance
theorem rmay_ok (a:Int) (w:World) (h:May a):
  Calls Tryz.prog 239 #[.int .i64 a] w fun e w'=>e=.returned (.bool true)∧w=w':=by
 obtain ⟨h1,h2⟩:=h
 go_enter Tryz.func239,Tryz.ntmps239
 go_wp2
 go_ret
 exact ⟨rfl,rfl⟩
end Go.Proofs.YthmljpccbjolgaaGreatDoor.num
namespace Go.Proofs.YthmljpccbjolgaaGreatDoor.bound
open Go.ChangeShapes Go.WideShapes Go.ChangeAt Go.RowKit num
set_option linter.unusedVariables false
theorem bits_one (b:Int) (h1:-9223372036854775808≤b) (h2:b≤9223372036854775807):bits .and .i64 b 1=b % 2:=by
 have e:(BitVec.ofInt 64 b &&& BitVec.ofInt 64 1).toNat=(b % 2).toNat:=by
  rw [BitVec.toNat_and]
  have:(BitVec.ofInt 64 1).toNat=1:=by decide
  rw [this,Nat.and_one_is_mod,BitVec.toNat_ofInt]
  omega
 have e2:bits .and .i64 b 1=IntKind.i64.wrap ((BitVec.ofInt 64 b &&& BitVec.ofInt 64 1).toNat:Nat):=rfl
 rw [e2,e,IntKind.wrap]
 simp [IntKind.bits,IntKind.signed]
 omega
theorem up {w w1:World} (h:Below w.heap.size w w1) (o:Obj):Below w.heap.size w (w1.alloc o):=h.alloc h.size o
theorem up1 (w:World) (o:Obj):Below w.heap.size w (w.alloc o):=up (Below.refl _ _) o
theorem up2 (w:World) (o p:Obj):Below w.heap.size w ((w.alloc o).alloc p):=up (up1 w o) p
theorem up3 (w:World) (o p q:Obj):Below w.heap.size w (((w.alloc o).alloc p).alloc q):=up (up2 w o p) q
theorem later {w w1 w2:World} (h:Below w.heap.size w w1) (k:Below w1.heap.size w1 w2):Below w.heap.size w w2:=h.trans (k.mono h.size)
theorem drawn {w w1:World} (h:Below w.heap.size w w1) (n:Nat):Below w.heap.size w (w1.drewN n):=h.trans ⟨rfl,rfl,rfl,Nat.le_refl _,fun _ _=>rfl⟩
def bS (b:Int):Bool:=decide (b % 2=0)
def mk (c:Int) (s:Bool):Int:=if s then 2*c else 2*c+1
theorem take_none (w:World):
  Calls Tryz.prog 226 #[.int .i64 9223372036854775807] w fun e w'=>e=.returned (.tuple #[.agg #[.bool true,.int .i64 0,.bool false],.int .i64 0])∧Below w.heap.size w w':=by
 go_enter Tryz.func226,Tryz.ntmps226
 go_wp2
 exact bodyPost_ret (v:=.tuple #[.agg #[.bool true,.int .i64 0,.bool false],.int .i64 0]) (by simp [results,Tryz.results226,go_sem]) rfl ⟨rfl,up1 _ _⟩
theorem take_ok (b:Int) (w:World) (hm:May (b / 2)):
  Calls Tryz.prog 226 #[.int .i64 b] w fun e w'=>e=.returned (.tuple #[.agg #[.bool false,.int .i64 (b / 2),.bool (bS b)],.int .i64 0])∧Below w.heap.size w w':=by
 have h0:b<9223372036854775807:=by unfold May at hm;omega
 have h1:-9223372036854775808≤b:=by unfold May at hm;omega
 have hq:=bits_one b h1 (by omega)
 unfold bS
 by_cases hb:b % 2=0
 ·rw [decide_eq_true hb]
  rw [hb] at hq
  clear hb
  go_enter Tryz.func226,Tryz.ntmps226
  go_wp2_with (go_at_call 193;refine (check_ok _ _ (by assumption)).mono ?_;rintro e w' ⟨rfl,rfl⟩)
  exact bodyPost_ret (v:=.tuple #[.agg #[.bool false,.int .i64 (b / 2),.bool true],.int .i64 0]) (by simp [results,Tryz.results226,go_sem]) rfl ⟨rfl,up2 _ _ _⟩
 ·rw [decide_eq_false hb]
  rw [show b % 2=1 by omega] at hq
  clear hb
  go_enter Tryz.func226,Tryz.ntmps226
  go_wp2_with (go_at_call 193;refine (check_ok _ _ (by assumption)).mono ?_;rintro e w' ⟨rfl,rfl⟩)
  exact bodyPost_ret (v:=.tuple #[.agg #[.bool false,.int .i64 (b / 2),.bool false],.int .i64 0]) (by simp [results,Tryz.results226,go_sem]) rfl ⟨rfl,up2 _ _ _⟩
theorem take_no (b:Int) (w:World) (h0:b<9223372036854775807) (hm:¬ May (b / 2)):
  Calls Tryz.prog 226 #[.int .i64 b] w fun e w'=>e=.returned (.tuple #[.agg #[.bool false,.int .i64 0,.bool false],.int .i64 8])∧Below w.heap.size w w':=by
 have H:=Lib.hid hm
 clear hm
 go_enter Tryz.func226,Tryz.ntmps226
 go_wp2_with (go_at_call 193;refine (check_no _ _ H.out).mono ?_;rintro e w' ⟨rfl,rfl⟩)
 exact bodyPost_ret (v:=.tuple #[.agg #[.bool false,.int .i64 0,.bool false],.int .i64 8]) (by simp [results,Tryz.results226,go_sem]) rfl ⟨rfl,up2 _ _ _⟩
theorem mbound_none (c:Int) (s:Bool) (w:World):
  Calls Tryz.prog 194 #[.agg #[.bool true,.int .i64 c,.bool s]] w fun e w'=>e=.returned (.int .i64 9223372036854775807)∧Below w.heap.size w w':=by
 go_enter Tryz.func194,Tryz.ntmps194
 go_wp2
 go_ret
 exact ⟨rfl,up1 _ _⟩
theorem mbound_ok (c:Int) (s:Bool) (w:World) (h:May c):
  Calls Tryz.prog 194 #[.agg #[.bool false,.int .i64 c,.bool s]] w fun e w'=>e=.returned (.int .i64 (mk c s))∧Below w.heap.size w w':=by
 obtain ⟨h1,h2⟩:=h
 cases s
 ·show Calls _ _ _ _ fun e w'=>e=.returned (.int .i64 (2*c+1))∧_
  go_enter Tryz.func194,Tryz.ntmps194
  go_wp2
  go_ret
  exact ⟨rfl,up1 _ _⟩
 ·show Calls _ _ _ _ fun e w'=>e=.returned (.int .i64 (2*c))∧_
  go_enter Tryz.func194,Tryz.ntmps194
  go_wp2
  go_ret
  exact ⟨rfl,up1 _ _⟩
theorem of_ok (c:Int) (s:Bool) (w:World) (h:May c):
  Calls Tryz.prog 157 #[.int .i64 c,.bool s] w fun e w'=>e=.returned (.tuple #[.int .i64 (mk c s),.int .i64 0])∧Below w.heap.size w w':=by
 go_enter Tryz.func157,Tryz.ntmps157
 go_wp2_with (first | (go_at_call 193;refine (check_ok _ _ (by assumption)).mono ?_;rintro e w' ⟨rfl,rfl⟩) | (go_at_call 194;refine (mbound_ok _ _ _ (by assumption)).mono ?_;rintro e w1 ⟨rfl,hB1⟩))
 go_ret2
 exact ⟨rfl,hB1⟩
theorem value_none (w:World):
  Calls Tryz.prog 187 #[.int .i64 9223372036854775807] w fun e w'=>e=.returned (.tuple #[.int .i64 0,.bool false,.int .i64 6])∧Below w.heap.size w w':=by
 go_enter Tryz.func187,Tryz.ntmps187
 go_wp2_with (go_at_call 226;refine (take_none _).mono ?_;rintro e w1 ⟨rfl,hB1⟩)
 exact bodyPost_ret (v:=.tuple #[.int .i64 0,.bool false,.int .i64 6]) (by simp [results,Tryz.results187,go_sem]) rfl ⟨rfl,up hB1 _⟩
theorem value_ok (b:Int) (w:World) (h:May (b / 2)):
  Calls Tryz.prog 187 #[.int .i64 b] w fun e w'=>e=.returned (.tuple #[.int .i64 (b / 2),.bool (bS b),.int .i64 0])∧Below w.heap.size w w':=by
 go_enter Tryz.func187,Tryz.ntmps187
 go_wp2_with (go_at_call 226;refine (take_ok _ _ (by assumption)).mono ?_;rintro e w1 ⟨rfl,hB1⟩)
 go_quiet (fail)
 go_wp2
 exact bodyPost_ret (v:=.tuple #[.int .i64 (b / 2),.bool (bS b),.int .i64 0]) (by simp [results,Tryz.results187,go_sem]) rfl ⟨rfl,drawn (up hB1 _) _⟩
theorem value_no (b:Int) (w:World) (h0:b<9223372036854775807) (h:¬ May (b / 2)):
  Calls Tryz.prog 187 #[.int .i64 b] w fun e w'=>e=.returned (.tuple #[.int .i64 0,.bool false,.int .i64 8])∧Below w.heap.size w w':=by
 have H:=Lib.hid h
 clear h
 go_enter Tryz.func187,Tryz.ntmps187
 go_wp2_with (go_at_call 226;refine (take_no _ _ (by assumption) H.out).mono ?_;rintro e w1 ⟨rfl,hB1⟩)
 exact bodyPost_ret (v:=.tuple #[.int .i64 0,.bool false,.int .i64 8]) (by simp [results,Tryz.results187,go_sem]) rfl ⟨rfl,up hB1 _⟩
end Go.Proofs.YthmljpccbjolgaaGreatDoor.bound
namespace Go.Proofs.YthmljpccbjolgaaGreatDoor.bound
open Go.ChangeShapes Go.WideShapes Go.ChangeAt Go.RowKit num
set_option linter.unusedVariables false
theorem bcell {W w1:World} (hb:Below W.heap.size W w1):(∀ b o,b<W.heap.size→w1.cell? ⟨b,o,none⟩=W.cell? ⟨b,o,none⟩)∧(∀ b o,b<W.heap.size→w1.frozen? ⟨b,o,none⟩=W.frozen? ⟨b,o,none⟩):=
 ⟨fun b o h=>hb.cell (p:=⟨b,o,none⟩) h,fun b o h=>hb.frozen (p:=⟨b,o,none⟩) h⟩
theorem hsize {w1 w2:World} {o:Obj} (h:Below (w1.alloc o).heap.size (w1.alloc o) w2):w1.heap.size<w2.heap.size:=by
 have:=h.size
 simp at this
 omega
theorem plus_none1 (c d:Int) (s m t:Bool) (w:World):
  Calls Tryz.prog 227 #[.agg #[.bool true,.int .i64 c,.bool s],.agg #[.bool m,.int .i64 d,.bool t]] w fun e w'=>e=.returned (.tuple #[.agg #[.bool true,.int .i64 0,.bool false],.int .i64 0])∧Below w.heap.size w w':=by
 go_enter Tryz.func227,Tryz.ntmps227
 go_wp2
 exact bodyPost_ret (v:=.tuple #[.agg #[.bool true,.int .i64 0,.bool false],.int .i64 0]) (by simp [results,Tryz.results227,go_sem]) rfl ⟨rfl,up3 _ _ _ _⟩
theorem plus_none2 (c d:Int) (s t:Bool) (w:World):
  Calls Tryz.prog 227 #[.agg #[.bool false,.int .i64 c,.bool s],.agg #[.bool true,.int .i64 d,.bool t]] w fun e w'=>e=.returned (.tuple #[.agg #[.bool true,.int .i64 0,.bool false],.int .i64 0])∧Below w.heap.size w w':=by
 go_enter Tryz.func227,Tryz.ntmps227
 go_wp2
 exact bodyPost_ret (v:=.tuple #[.agg #[.bool true,.int .i64 0,.bool false],.int .i64 0]) (by simp [results,Tryz.results227,go_sem]) rfl ⟨rfl,up3 _ _ _ _⟩
theorem plus_ok (c d:Int) (s t:Bool) (w:World) (hc:May c) (hd:May d) (hs:May (c+d)):
  Calls Tryz.prog 227 #[.agg #[.bool false,.int .i64 c,.bool s],.agg #[.bool false,.int .i64 d,.bool t]] w fun e w'=>e=.returned (.tuple #[.agg #[.bool false,.int .i64 (c+d),.bool (s || t)],.int .i64 0])∧Below w.heap.size w w':=by
 cases s
 ·show Calls _ _ _ _ fun e w'=>e=.returned (.tuple #[.agg #[.bool false,.int .i64 (c+d),.bool t],.int .i64 0])∧_
  go_enter Tryz.func227,Tryz.ntmps227
  go_wp2_with (go_at_call 238;refine (add_ok _ _ _ (by assumption) (by assumption) (by assumption)).mono ?_;rintro e w' ⟨rfl,rfl⟩)
  exact bodyPost_ret (v:=.tuple #[.agg #[.bool false,.int .i64 (c+d),.bool t],.int .i64 0]) (by simp [results,Tryz.results227,go_sem]) rfl ⟨rfl,up3 _ _ _ _⟩
 ·show Calls _ _ _ _ fun e w'=>e=.returned (.tuple #[.agg #[.bool false,.int .i64 (c+d),.bool true],.int .i64 0])∧_
  go_enter Tryz.func227,Tryz.ntmps227
  go_wp2_with (go_at_call 238;refine (add_ok _ _ _ (by assumption) (by assumption) (by assumption)).mono ?_;rintro e w' ⟨rfl,rfl⟩)
  exact bodyPost_ret (v:=.tuple #[.agg #[.bool false,.int .i64 (c+d),.bool true],.int .i64 0]) (by simp [results,Tryz.results227,go_sem]) rfl ⟨rfl,up3 _ _ _ _⟩
theorem plus_no (c d:Int) (s t:Bool) (w:World) (hs:¬ May (c+d)):
  Calls Tryz.prog 227 #[.agg #[.bool false,.int .i64 c,.bool s],.agg #[.bool false,.int .i64 d,.bool t]] w fun e w'=>e=.returned (.tuple #[.agg #[.bool false,.int .i64 0,.bool false],.int .i64 10])∧Below w.heap.size w w':=by
 have H:=Lib.hid (show ¬ (May c∧May d∧May (c+d)) from fun h=>hs h.2.2)
 clear hs
 go_enter Tryz.func227,Tryz.ntmps227
 go_wp2_with (go_at_call 238;refine (add_no _ _ _ H.out).mono ?_;rintro e w' ⟨rfl,rfl⟩)
 exact bodyPost_ret (v:=.tuple #[.agg #[.bool false,.int .i64 0,.bool false],.int .i64 10]) (by simp [results,Tryz.results227,go_sem]) rfl ⟨rfl,up3 _ _ _ _⟩
def kept (d c:Int) (s:Bool):Bool:=decide (d<c) || (decide (d=c) && !s)
theorem add2_bad1 (a b:Int) (w:World) (h0:a<9223372036854775807) (h:¬ May (a / 2)):
  Calls Tryz.prog 188 #[.int .i64 a,.int .i64 b] w fun e w'=>e=.returned (.tuple #[.int .i64 0,.int .i64 8])∧Below w.heap.size w w':=by
 have H:=Lib.hid h
 clear h
 go_enter Tryz.func188,Tryz.ntmps188
 go_wp2_with (go_at_call 226;refine (take_no _ _ (by assumption) H.out).mono ?_;rintro e w1 ⟨rfl,hB1⟩)
 go_ret2
 exact ⟨rfl,up hB1 _⟩
theorem add2_bad2n (b:Int) (w:World) (h0:b<9223372036854775807) (h:¬ May (b / 2)):
  Calls Tryz.prog 188 #[.int .i64 9223372036854775807,.int .i64 b] w fun e w'=>e=.returned (.tuple #[.int .i64 0,.int .i64 8])∧Below w.heap.size w w':=by
 have H:=Lib.hid h
 clear h
 go_enter Tryz.func188,Tryz.ntmps188
 go_wp2_with fail
 refine (take_none _).mono ?_
 rintro e w1 ⟨rfl,hB1⟩
 go_wp2_with fail
 refine (take_no _ _ h0 H.out).mono ?_
 rintro e w2 ⟨rfl,hB2⟩
 go_wp2
 go_ret2
 exact ⟨rfl,up (later (up hB1 _) hB2) _⟩
theorem add2_bad2 (a b:Int) (w:World) (ha:May (a / 2)) (h0:b<9223372036854775807) (h:¬ May (b / 2)):
  Calls Tryz.prog 188 #[.int .i64 a,.int .i64 b] w fun e w'=>e=.returned (.tuple #[.int .i64 0,.int .i64 8])∧Below w.heap.size w w':=by
 have H:=Lib.hid h
 clear h
 go_enter Tryz.func188,Tryz.ntmps188
 go_wp2_with fail
 refine (take_ok _ _ ha).mono ?_
 rintro e w1 ⟨rfl,hB1⟩
 go_wp2_with fail
 refine (take_no _ _ h0 H.out).mono ?_
 rintro e w2 ⟨rfl,hB2⟩
 go_wp2
 go_ret2
 exact ⟨rfl,up (later (up hB1 _) hB2) _⟩
theorem add2_ok (a b:Int) (w:World) (ha:May (a / 2)) (hb:May (b / 2)) (hs:May (a / 2+b / 2)):
  Calls Tryz.prog 188 #[.int .i64 a,.int .i64 b] w fun e w'=>e=.returned (.tuple #[.int .i64 (mk (a / 2+b / 2) (bS a || bS b)),.int .i64 0])∧Below w.heap.size w w':=by
 have e:∃ s,s=(bS a || bS b):=⟨_,rfl⟩
 obtain ⟨s,e⟩:=e
 have E:=Lib.hid e
 rw [←e]
 clear e
 go_enter Tryz.func188,Tryz.ntmps188
 go_wp2_with fail
 refine (take_ok _ _ ha).mono ?_
 rintro e w1 ⟨rfl,hB1⟩
 go_wp2_with fail
 refine (take_ok _ _ hb).mono ?_
 rintro e w2 ⟨rfl,hB2⟩
 obtain ⟨hc,hf⟩:=bcell hB2
 have hz:=hsize hB2
 go_wp2_with fail
 refine (plus_ok _ _ _ _ _ ha hb hs).mono ?_
 rw [←E.out]
 rintro e w3 ⟨rfl,hB3⟩
 clear hc hf hz
 go_wp2_with fail
 refine (mbound_ok _ _ _ hs).mono ?_
 rintro e w4 ⟨rfl,hB4⟩
 go_wp2
 go_ret2
 exact ⟨rfl,later (up (later (up (later (up hB1 _) hB2) _) hB3) _) hB4⟩
theorem add2_over (a b:Int) (w:World) (ha:May (a / 2)) (hb:May (b / 2)) (hs:¬ May (a / 2+b / 2)):
  Calls Tryz.prog 188 #[.int .i64 a,.int .i64 b] w fun e w'=>e=.returned (.tuple #[.int .i64 0,.int .i64 10])∧Below w.heap.size w w':=by
 have H:=Lib.hid hs
 clear hs
 go_enter Tryz.func188,Tryz.ntmps188
 go_wp2_with fail
 refine (take_ok _ _ ha).mono ?_
 rintro e w1 ⟨rfl,hB1⟩
 go_wp2_with fail
 refine (take_ok _ _ hb).mono ?_
 rintro e w2 ⟨rfl,hB2⟩
 obtain ⟨hc,hf⟩:=bcell hB2
 have hz:=hsize hB2
 go_wp2_with fail
 refine (plus_no _ _ _ _ _ H.out).mono ?_
 rintro e w3 ⟨rfl,hB3⟩
 clear hc hf hz
 go_wp2
 go_ret2
 exact ⟨rfl,up (later (up (later (up hB1 _) hB2) _) hB3) _⟩
theorem add2_nn (w:World):
  Calls Tryz.prog 188 #[.int .i64 9223372036854775807,.int .i64 9223372036854775807] w fun e w'=>e=.returned (.tuple #[.int .i64 9223372036854775807,.int .i64 0])∧Below w.heap.size w w':=by
 go_enter Tryz.func188,Tryz.ntmps188
 go_wp2_with fail
 refine (take_none _).mono ?_
 rintro e w1 ⟨rfl,hB1⟩
 go_wp2_with fail
 refine (take_none _).mono ?_
 rintro e w2 ⟨rfl,hB2⟩
 obtain ⟨hc,hf⟩:=bcell hB2
 have hz:=hsize hB2
 go_wp2_with fail
 refine (plus_none1 _ _ _ _ _ _).mono ?_
 rintro e w3 ⟨rfl,hB3⟩
 clear hc hf hz
 go_wp2_with fail
 refine (mbound_none _ _ _).mono ?_
 rintro e w4 ⟨rfl,hB4⟩
 go_wp2
 go_ret2
 exact ⟨rfl,later (up (later (up (later (up hB1 _) hB2) _) hB3) _) hB4⟩
theorem add2_no (b:Int) (w:World) (hb:May (b / 2)):
  Calls Tryz.prog 188 #[.int .i64 9223372036854775807,.int .i64 b] w fun e w'=>e=.returned (.tuple #[.int .i64 9223372036854775807,.int .i64 0])∧Below w.heap.size w w':=by
 go_enter Tryz.func188,Tryz.ntmps188
 go_wp2_with fail
 refine (take_none _).mono ?_
 rintro e w1 ⟨rfl,hB1⟩
 go_wp2_with fail
 refine (take_ok _ _ hb).mono ?_
 rintro e w2 ⟨rfl,hB2⟩
 obtain ⟨hc,hf⟩:=bcell hB2
 have hz:=hsize hB2
 go_wp2_with fail
 refine (plus_none1 _ _ _ _ _ _).mono ?_
 rintro e w3 ⟨rfl,hB3⟩
 clear hc hf hz
 go_wp2_with fail
 refine (mbound_none _ _ _).mono ?_
 rintro e w4 ⟨rfl,hB4⟩
 go_wp2
 go_ret2
 exact ⟨rfl,later (up (later (up (later (up hB1 _) hB2) _) hB3) _) hB4⟩
theorem add2_on (a:Int) (w:World) (ha:May (a / 2)):
  Calls Tryz.prog 188 #[.int .i64 a,.int .i64 9223372036854775807] w fun e w'=>e=.returned (.tuple #[.int .i64 9223372036854775807,.int .i64 0])∧Below w.heap.size w w':=by
 go_enter Tryz.func188,Tryz.ntmps188
 go_wp2_with fail
 refine (take_ok _ _ ha).mono ?_
 rintro e w1 ⟨rfl,hB1⟩
 go_wp2_with fail
 refine (take_none _).mono ?_
 rintro e w2 ⟨rfl,hB2⟩
 obtain ⟨hc,hf⟩:=bcell hB2
 have hz:=hsize hB2
 go_wp2_with fail
 refine (plus_none2 _ _ _ _ _).mono ?_
 rintro e w3 ⟨rfl,hB3⟩
 clear hc hf hz
 go_wp2_with fail
 refine (mbound_none _ _ _).mono ?_
 rintro e w4 ⟨rfl,hB4⟩
 go_wp2
 go_ret2
 exact ⟨rfl,later (up (later (up (later (up hB1 _) hB2) _) hB3) _) hB4⟩
theorem not_none (w:World):
  Calls Tryz.prog 211 #[.int .i64 9223372036854775807] w fun e w'=>e=.returned (.tuple #[.int .i64 0,.int .i64 6])∧Below w.heap.size w w':=by
 go_enter Tryz.func211,Tryz.ntmps211
 go_wp2_with (go_at_call 187;refine (value_none _).mono ?_;rintro e w1 ⟨rfl,hB1⟩)
 go_ret2
 exact ⟨rfl,hB1⟩
theorem not_no (b:Int) (w:World) (h0:b<9223372036854775807) (h:¬ May (b / 2)):
  Calls Tryz.prog 211 #[.int .i64 b] w fun e w'=>e=.returned (.tuple #[.int .i64 0,.int .i64 8])∧Below w.heap.size w w':=by
 have H:=Lib.hid h
 clear h
 go_enter Tryz.func211,Tryz.ntmps211
 go_wp2_with (go_at_call 187;refine (value_no _ _ (by assumption) H.out).mono ?_;rintro e w1 ⟨rfl,hB1⟩)
 go_ret2
 exact ⟨rfl,hB1⟩
theorem not_ok (b:Int) (w:World) (h:May (b / 2)):
  Calls Tryz.prog 211 #[.int .i64 b] w fun e w'=>e=.returned (.tuple #[.int .i64 (mk (-(b / 2)) (!bS b)),.int .i64 0])∧Below w.heap.size w w':=by
 have h2:May (-(b / 2)):=by unfold May at h ⊢;omega
 obtain ⟨h3,h4⟩:=id h
 go_enter Tryz.func211,Tryz.ntmps211
 go_wp2_with fail
 refine (value_ok _ _ h).mono ?_
 rintro e w1 ⟨rfl,hB1⟩
 go_wp2_with fail
 refine (of_ok _ _ _ h2).mono ?_
 rintro e w2 ⟨rfl,hB2⟩
 go_wp2
 go_ret2
 exact ⟨rfl,later hB1 hB2⟩
def valC (b:Int):Int:=if May (b / 2) then b / 2 else 0
def valS (b:Int):Bool:=if May (b / 2) then bS b else false
def valE (b:Int):Int:=if b=9223372036854775807 then 6 else if May (b / 2) then 0 else 8
def badB (b:Int):Prop:=b≠9223372036854775807∧¬ May (b / 2)
instance decBad (b:Int):Decidable (badB b):=by unfold badB;exact inferInstance
def sumV (a b:Int):Int:=if badB a∨badB b then 0 else if a=9223372036854775807∨b=9223372036854775807 then 9223372036854775807 else if May (a / 2+b / 2) then mk (a / 2+b / 2) (bS a || bS b) else 0
def sumE (a b:Int):Int:=if badB a∨badB b then 8 else if a=9223372036854775807∨b=9223372036854775807 then 0 else if May (a / 2+b / 2) then 0 else 10
def notV (b:Int):Int:=if May (b / 2) then mk (-(b / 2)) (!bS b) else 0
theorem none_not:¬ May (9223372036854775807 / 2):=by unfold May;omega
theorem three (b:Int) (hw:b≤9223372036854775807):b=9223372036854775807∨(b<9223372036854775807∧May (b / 2))∨(b<9223372036854775807∧¬ May (b / 2)):=by
 by_cases h:b=9223372036854775807
 ·exact .inl h
 ·by_cases k:May (b / 2)
  ·exact .inr (.inl ⟨by omega,k⟩)
  ·exact .inr (.inr ⟨by omega,k⟩)
end Go.Proofs.YthmljpccbjolgaaGreatDoor.bound
namespace Go.Proofs.YthmljpccbjolgaaGreatDoor.bound
open Go.ChangeShapes Go.WideShapes Go.ChangeAt Go.RowKit num
set_option linter.unusedVariables false
theorem not_none_lt {b:Int} (h:b<9223372036854775807):¬ b=9223372036854775807:=by omega
theorem badB_none:¬ badB 9223372036854775807:=fun h=>h.1 rfl
theorem badB_ok {b:Int} (h:May (b / 2)):¬ badB b:=fun k=>k.2 h
theorem badB_no {b:Int} (h0:b<9223372036854775807) (h:¬ May (b / 2)):badB b:=⟨not_none_lt h0,h⟩
theorem value_any (b:Int) (w:World) (hw:b≤9223372036854775807):
  Calls Tryz.prog 187 #[.int .i64 b] w fun e w'=>e=.returned (.tuple #[.int .i64 (valC b),.bool (valS b),.int .i64 (valE b)])∧Below w.heap.size w w':=by
 unfold valC valS valE
 rcases three b hw with rfl | ⟨h0,h⟩ | ⟨h0,h⟩
 ·rw [if_neg none_not,if_neg none_not,if_pos rfl];exact value_none w
 ·rw [if_pos h,if_pos h,if_neg (not_none_lt h0),if_pos h];exact value_ok b w h
 ·rw [if_neg h,if_neg h,if_neg (not_none_lt h0),if_neg h];exact value_no b w h0 h
theorem not_any (b:Int) (w:World) (hw:b≤9223372036854775807):
  Calls Tryz.prog 211 #[.int .i64 b] w fun e w'=>e=.returned (.tuple #[.int .i64 (notV b),.int .i64 (valE b)])∧Below w.heap.size w w':=by
 unfold notV valE
 rcases three b hw with rfl | ⟨h0,h⟩ | ⟨h0,h⟩
 ·rw [if_neg none_not,if_pos rfl];exact not_none w
 ·rw [if_pos h,if_neg (not_none_lt h0),if_pos h];exact not_ok b w h
 ·rw [if_neg h,if_neg (not_none_lt h0),if_neg h];exact not_no b w h0 h
theorem sum_bad {a b:Int} (h:badB a∨badB b):sumV a b=0∧sumE a b=8:=⟨if_pos h,if_pos h⟩
theorem sum_none {a b:Int} (h:¬ (badB a∨badB b)) (k:a=9223372036854775807∨b=9223372036854775807):sumV a b=9223372036854775807∧sumE a b=0:=⟨(if_neg h).trans (if_pos k),(if_neg h).trans (if_pos k)⟩
theorem sum_ok {a b:Int} (ha:May (a / 2)) (hb:May (b / 2)) (hs:May (a / 2+b / 2)):sumV a b=mk (a / 2+b / 2) (bS a || bS b)∧sumE a b=0:=by
 have h:¬ (badB a∨badB b):=fun k=>k.elim (badB_ok ha) (badB_ok hb)
 have k:¬ (a=9223372036854775807∨b=9223372036854775807):=fun k=>k.elim (fun e=>none_not (e ▸ ha)) (fun e=>none_not (e ▸ hb))
 exact ⟨(if_neg h).trans ((if_neg k).trans (if_pos hs)),(if_neg h).trans ((if_neg k).trans (if_pos hs))⟩
theorem sum_over {a b:Int} (ha:May (a / 2)) (hb:May (b / 2)) (hs:¬ May (a / 2+b / 2)):sumV a b=0∧sumE a b=10:=by
 have h:¬ (badB a∨badB b):=fun k=>k.elim (badB_ok ha) (badB_ok hb)
 have k:¬ (a=9223372036854775807∨b=9223372036854775807):=fun k=>k.elim (fun e=>none_not (e ▸ ha)) (fun e=>none_not (e ▸ hb))
 exact ⟨(if_neg h).trans ((if_neg k).trans (if_neg hs)),(if_neg h).trans ((if_neg k).trans (if_neg hs))⟩
theorem add2_any (a b:Int) (w:World) (hwa:a≤9223372036854775807) (hw:b≤9223372036854775807):
  Calls Tryz.prog 188 #[.int .i64 a,.int .i64 b] w fun e w'=>e=.returned (.tuple #[.int .i64 (sumV a b),.int .i64 (sumE a b)])∧Below w.heap.size w w':=by
 rcases three a hwa with rfl | ⟨a0,ha⟩ | ⟨a0,ha⟩
 ·rcases three b hw with rfl | ⟨h0,h⟩ | ⟨h0,h⟩
  ·obtain ⟨e1,e2⟩:=sum_none (fun k=>k.elim badB_none badB_none) (.inl rfl);rw [e1,e2];exact add2_nn w
  ·obtain ⟨e1,e2⟩:=sum_none (fun k=>k.elim badB_none (badB_ok h)) (.inl rfl);rw [e1,e2];exact add2_no b w h
  ·obtain ⟨e1,e2⟩:=sum_bad (a:=9223372036854775807) (.inr (badB_no h0 h));rw [e1,e2];exact add2_bad2n b w h0 h
 ·rcases three b hw with rfl | ⟨h0,h⟩ | ⟨h0,h⟩
  ·obtain ⟨e1,e2⟩:=sum_none (fun k=>k.elim (badB_ok ha) badB_none) (.inr rfl);rw [e1,e2];exact add2_on a w ha
  ·by_cases hs:May (a / 2+b / 2)
   ·obtain ⟨e1,e2⟩:=sum_ok ha h hs;rw [e1,e2];exact add2_ok a b w ha h hs
   ·obtain ⟨e1,e2⟩:=sum_over ha h hs;rw [e1,e2];exact add2_over a b w ha h hs
  ·obtain ⟨e1,e2⟩:=sum_bad (a:=a) (.inr (badB_no h0 h));rw [e1,e2];exact add2_bad2 a b w ha h0 h
 ·obtain ⟨e1,e2⟩:=sum_bad (b:=b) (.inl (badB_no a0 ha));rw [e1,e2];exact add2_bad1 a b w a0 ha
end Go.Proofs.YthmljpccbjolgaaGreatDoor.bound
namespace Go.Proofs.YthmljpccbjolgaaGreatDoor.bound
open Go.ChangeShapes Go.WideShapes Go.ChangeAt Go.RowKit num
set_option linter.unusedVariables false
theorem may_lo {b:Int} (h:May (b / 2)):-9223372036854775808≤b:=by unfold May at h;omega
theorem may_hi {b:Int} (h:May (b / 2)):b<9223372036854775807:=by unfold May at h;omega
theorem mk_half (c:Int) (s:Bool):mk c s / 2=c:=by
 unfold mk
 cases s<;>simp<;>omega
theorem mk_may {c:Int} (h:May c) (s:Bool):May (mk c s / 2):=by rw [mk_half];exact h
theorem sum_two {a b:Int} (h:sumE a b=0):(¬ badB a∧¬ badB b∧(a=9223372036854775807∨b=9223372036854775807)∧sumV a b=9223372036854775807)∨(May (a / 2)∧May (b / 2)∧May (a / 2+b / 2)∧sumV a b=mk (a / 2+b / 2) (bS a || bS b)):=by
 by_cases hb:badB a∨badB b
 ·rw [(sum_bad hb).2] at h;exact absurd h (by decide)
 ·have ha:¬ badB a:=fun k=>hb (.inl k)
  have hb':¬ badB b:=fun k=>hb (.inr k)
  by_cases k:a=9223372036854775807∨b=9223372036854775807
  ·exact .inl ⟨ha,hb',k,(sum_none hb k).1⟩
  ·have ma:May (a / 2):=Decidable.byContradiction fun n=>ha ⟨fun e=>k (.inl e),n⟩
   have mb:May (b / 2):=Decidable.byContradiction fun n=>hb' ⟨fun e=>k (.inr e),n⟩
   by_cases hs:May (a / 2+b / 2)
   ·exact .inr ⟨ma,mb,hs,(sum_ok ma mb hs).1⟩
   ·rw [(sum_over ma mb hs).2] at h;exact absurd h (by decide)
theorem sum_err {a b:Int} (h:sumE a b≠0):sumV a b=0:=by
 unfold sumE at h
 unfold sumV
 split
 ·rfl
 ·rename_i k
  rw [if_neg k] at h
  split
  ·rename_i j;rw [if_pos j] at h;exact absurd rfl h
  ·rename_i j
   rw [if_neg j] at h
   split
   ·rename_i i;rw [if_pos i] at h;exact absurd rfl h
   ·rfl
theorem sum_le {a b:Int} (h:sumE a b=0):sumV a b≤9223372036854775807:=by
 rcases sum_two h with ⟨_,_,_,e⟩ | ⟨_,_,hs,e⟩
 ·rw [e];exact Int.le_refl _
 ·have:=may_hi (mk_may hs (bS a || bS b));rw [e];omega
end Go.Proofs.YthmljpccbjolgaaGreatDoor.bound
namespace Go.Proofs.YthmljpccbjolgaaGreatDoor.bound
open Go.ChangeShapes Go.WideShapes Go.ChangeAt Go.RowKit num
set_option linter.unusedVariables false
theorem tmod_even {b:Int} (h:b % 2=0):b.tmod 2=0:=by
 have:=Int.tmod_eq_emod (a:=b) (b:=2)
 rw [this]
 simp only [Int.dvd_iff_emod_eq_zero,h]
 simp
theorem tdiv_even {b:Int} (h:b % 2=0):b.tdiv 2=b / 2:=by
 rw [Int.tdiv_eq_ediv]
 simp only [Int.dvd_iff_emod_eq_zero,h]
 simp
theorem tmod_odd {b:Int} (h:¬ b % 2=0):b.tmod 2≠0:=by
 intro k
 have:=Int.mul_tdiv_add_tmod b 2
 rw [k] at this
 omega
theorem ret_int {k:IntKind} {a b:Int} (h:a=b):Ending.returned (.int k a)=.returned (.int k b):=by rw [h]
theorem number_any (b:Int) (w:World) (h1:-9223372036854775808≤b) (h2:b≤9223372036854775807):
  Calls Tryz.prog 189 #[.int .i64 b] w fun e w'=>e=.returned (.int .i64 (b / 2))∧w=w':=by
 by_cases h:b % 2=0
 ·have t:=tmod_even h
  have d:=Lib.hid (tdiv_even h)
  clear h
  go_enter Tryz.func189,Tryz.ntmps189
  go_wp2
  go_ret
  exact ⟨ret_int d.out,rfl⟩
 ·have t:=tmod_odd h
  have h3:-9223372036854775807≤b:=by omega
  have d:RowKit.Hid ((b - 1).tdiv 2=b / 2):=Lib.hid (by rw [tdiv_even (b:=b - 1) (by omega)];omega)
  clear h
  go_enter Tryz.func189,Tryz.ntmps189
  go_wp2
  go_ret
  exact ⟨ret_int d.out,rfl⟩
theorem strict_any (b:Int) (w:World):
  Calls Tryz.prog 220 #[.int .i64 b] w fun e w'=>e=.returned (.bool (bS b))∧w=w':=by
 unfold bS
 by_cases h:b % 2=0
 ·rw [decide_eq_true h]
  have t:=tmod_even h
  clear h
  go_enter Tryz.func220,Tryz.ntmps220
  go_wp2
  go_ret
  exact ⟨rfl,rfl⟩
 ·rw [decide_eq_false h]
  have t:(b.tmod 2==0)=false:=by simpa using tmod_odd h
  clear h
  go_enter Tryz.func220,Tryz.ntmps220
  go_wp2
  go_ret
  exact ⟨rfl,rfl⟩
theorem made_any (c:Int) (s:Bool) (w:World) (h:May c):
  Calls Tryz.prog 117 #[.int .i64 c,.bool s] w fun e w'=>e=.returned (.int .i64 (mk c s))∧w=w':=by
 obtain ⟨h1,h2⟩:=h
 cases s
 ·show Calls _ _ _ _ fun e w'=>e=.returned (.int .i64 (2*c+1))∧_
  go_enter Tryz.func117,Tryz.ntmps117
  go_wp2
  go_ret
  exact ⟨rfl,rfl⟩
 ·show Calls _ _ _ _ fun e w'=>e=.returned (.int .i64 (2*c))∧_
  go_enter Tryz.func117,Tryz.ntmps117
  go_wp2
  go_ret
  exact ⟨rfl,rfl⟩
theorem other_ok (b:Int) (w:World) (h:May (b / 2)):
  Calls Tryz.prog 181 #[.int .i64 b] w fun e w'=>e=.returned (.int .i64 (mk (-(b / 2)) (!bS b)))∧w=w':=by
 have h0:b<9223372036854775807:=by unfold May at h;omega
 have h1:-9223372036854775808≤b:=by unfold May at h;omega
 have h2:May (-(b / 2)):=by unfold May at h ⊢;omega
 obtain ⟨h3,h4⟩:=id h
 have C:RowKit.Hid (∀ w,Calls Tryz.prog 117 #[.int .i64 (-(b / 2)),.bool (!bS b)] w fun e w'=>e=.returned (.int .i64 (mk (-(b / 2)) (!bS b)))∧w=w'):=Lib.hid (fun w=>made_any _ _ w h2)
 go_enter Tryz.func181,Tryz.ntmps181
 go_wp2_with (first | (go_at_call 189;refine (number_any _ _ (by omega) (by omega)).mono ?_;rintro e w' ⟨rfl,rfl⟩) | (go_at_call 220;refine (strict_any _ _).mono ?_;rintro e w' ⟨rfl,rfl⟩) | (go_at_call 117;refine (C.out _).mono ?_;rintro e w' ⟨rfl,rfl⟩))
 go_ret
 exact ⟨rfl,rfl⟩
end Go.Proofs.YthmljpccbjolgaaGreatDoor.bound
namespace Go.Proofs.YthmljpccbjolgaaGreatDoor.bound
open Go.ChangeShapes Go.WideShapes Go.ChangeAt Go.RowKit num
set_option linter.unusedVariables false
theorem rsum_none1 (b:Int) (w:World):
  Calls Tryz.prog 228 #[.int .i64 9223372036854775807,.int .i64 b] w fun e w'=>e=.returned (.tuple #[.int .i64 9223372036854775807,.bool true])∧w=w':=by
 go_enter Tryz.func228,Tryz.ntmps228
 go_wp2
 go_ret2
 exact ⟨rfl,rfl⟩
theorem rsum_none2 (a:Int) (w:World) (h:a<9223372036854775807):
  Calls Tryz.prog 228 #[.int .i64 a,.int .i64 9223372036854775807] w fun e w'=>e=.returned (.tuple #[.int .i64 9223372036854775807,.bool true])∧w=w':=by
 have t:(a==9223372036854775807)=false:=by simp;omega
 go_enter Tryz.func228,Tryz.ntmps228
 go_wp2
 go_ret2
 exact ⟨rfl,rfl⟩
theorem rsum_ok (a b:Int) (w:World) (ha:May (a / 2)) (hb:May (b / 2)) (hs:May (a / 2+b / 2)):
  Calls Tryz.prog 228 #[.int .i64 a,.int .i64 b] w fun e w'=>e=.returned (.tuple #[.int .i64 (mk (a / 2+b / 2) (bS a || bS b)),.bool true])∧w=w':=by
 have a0:=may_lo ha
 have a1:=may_hi ha
 have b0:=may_lo hb
 have b1:=may_hi hb
 obtain ⟨a2,a3⟩:=id ha
 obtain ⟨b2,b3⟩:=id hb
 have t1:(a==9223372036854775807)=false:=by simp;omega
 have t2:(b==9223372036854775807)=false:=by simp;omega
 cases hS:bS a
 ·have C:RowKit.Hid (∀ w,Calls Tryz.prog 220 #[.int .i64 a] w fun e w'=>e=.returned (.bool false)∧w=w'):=Lib.hid (fun w=>hS ▸ strict_any a w)
  clear hS
  rw [Bool.false_or]
  go_enter Tryz.func228,Tryz.ntmps228
  go_wp2_with (first | (go_at_call 189;refine (number_any _ _ (by omega) (by omega)).mono ?_;rintro e w' ⟨rfl,rfl⟩) | (go_at_call 239;refine (rmay_ok _ _ (by assumption)).mono ?_;rintro e w' ⟨rfl,rfl⟩) | ((with_reducible refine (C.out _).mono ?_);rintro e w' ⟨rfl,rfl⟩;clear C) | (go_at_call 220;refine (strict_any _ _).mono ?_;rintro e w' ⟨rfl,rfl⟩) | (go_at_call 117;refine (made_any _ _ _ (by assumption)).mono ?_;rintro e w' ⟨rfl,rfl⟩))
  go_ret2
  exact ⟨rfl,rfl⟩
 ·have C:RowKit.Hid (∀ w,Calls Tryz.prog 220 #[.int .i64 a] w fun e w'=>e=.returned (.bool true)∧w=w'):=Lib.hid (fun w=>hS ▸ strict_any a w)
  clear hS
  rw [Bool.true_or]
  go_enter Tryz.func228,Tryz.ntmps228
  go_wp2_with (first | (go_at_call 189;refine (number_any _ _ (by omega) (by omega)).mono ?_;rintro e w' ⟨rfl,rfl⟩) | (go_at_call 239;refine (rmay_ok _ _ (by assumption)).mono ?_;rintro e w' ⟨rfl,rfl⟩) | ((with_reducible refine (C.out _).mono ?_);rintro e w' ⟨rfl,rfl⟩) | (go_at_call 117;refine (made_any _ _ _ (by assumption)).mono ?_;rintro e w' ⟨rfl,rfl⟩))
  go_ret2
  exact ⟨rfl,rfl⟩
end Go.Proofs.YthmljpccbjolgaaGreatDoor.bound
