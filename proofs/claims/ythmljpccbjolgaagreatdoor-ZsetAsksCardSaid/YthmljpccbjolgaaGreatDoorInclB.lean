
/-
  The ends of a clock, and Pick, as package incl answers them; each theorem names its conditions.
-/
import Derived.Test.YthmljpccbjolgaaGreatDoorInclA
namespace Go.Proofs.YthmljpccbjolgaaGreatDoor.incl
open Go.ChangeShapes Go.WideShapes Go.ChangeAt Go.RowKit num rat dbm
open bound hiding up
set_option linter.unusedVariables false
set_option linter.unusedSimpArgs false
def endL (s:Int):Option Int→Array Value
 | none=>#[.bool false,.int .i64 0,.int .i64 0,.bool false]
 | some e=>#[.bool true,.int .i64 (p8 (s*(e / 2))),.int .i64 (q8 (s*(e / 2))),.bool (decide (e % 2=0))]
def Ne (s:Int) (x:Option Int) (w W:World):Prop:=
 lies.Lies W w.heap.size 204 #[.bool false,.int .i64 0,.int .i64 0,.bool false]∧lies.Lies W (w.heap.size+1) 204 (endL s x)∧Below w.heap.size w W
end Go.Proofs.YthmljpccbjolgaaGreatDoor.incl
namespace Go.Proofs.YthmljpccbjolgaaGreatDoor.incl
open Go.ChangeShapes Go.WideShapes Go.ChangeAt Go.RowKit num rat dbm
open bound hiding up
set_option linter.unusedVariables false
set_option linter.unusedSimpArgs false
end Go.Proofs.YthmljpccbjolgaaGreatDoor.incl
namespace Go.Proofs.YthmljpccbjolgaaGreatDoor.incl
open Go.ChangeShapes Go.WideShapes Go.ChangeAt Go.RowKit num rat dbm way
open bound hiding up
set_option linter.unusedVariables false
set_option linter.unusedSimpArgs false
/-! what is known of the closed table of a matrix -/
section
variable {n:Nat} {ts:List Int} (h0:0<n) (hn:n≤4) (hl:ts.length=n*n) (htop:Tops ts) (h:OkD n ts)
include h0 hn hl htop h
theorem wts_closed:wts n (clT n ts)=F (beg n ts) n:=by
 have hne:∀ k,k≤n→¬ emp n (tabs n h0 ts k):=fun k hk=>h.2.2 k (by simpa using hk)
 rw [clT_nat h0]
 funext i j
 by_cases hij:i<n∧j<n
 ·rw [wts_in hij.1 hij.2]
  exact tabs_is h0 hn hl htop h.1.2.2.2 n (Nat.le_refl _) (fun m hm=>hne m (by omega)) i j hij.1 hij.2
 ·rw [←beg_closed h0 hn hl htop h]
  have e1:beg n (tabs n h0 ts n) i j=none:=if_neg hij
  have e2:wts n (tabs n h0 ts n) i j=none:=if_neg hij
  rw [e1,e2]
theorem clo_good:way.Good (beg n ts) n:=(okD_good h0 hn hl htop h.1).1 h
theorem clo_one (i:Nat) (hi:i<n):F (beg n ts) n i i=way.one:=by
 have hne:∀ k,k≤n→¬ emp n (tabs n h0 ts k):=fun k hk=>h.2.2 k (by simpa using hk)
 rw [←wts_closed h0 hn hl htop h,wts_in hi hi,clT_nat h0,closed_diag h0 hn hl htop h.1.2.2.2 hne hi]
 rfl
theorem clo_px {u:Nat} (hu:u<n):-6917529027641081880≤px (wts n (clT n ts)) u∧px (wts n (clT n ts)) u≤6917529027641081880:=by
 rw [wts_closed h0 hn hl htop h]
 have:=px_within hn (M:=288230376151711744) (by decide) (fun i j=>beg_wi hl hn h.1.2.2.2 i j) (fun i j hi=>wts_out hi) (fun i j hj=>wts_out2 hj) (clo_good h0 hn hl htop h) (clo_one h0 hn hl htop h) hu
 omega
theorem clo_wi {i j:Nat} (hi:i<n) {a:Int} (e:wts n (clT n ts) i j=some a):-1152921504606846976≤a / 2∧a / 2≤1152921504606846976:=by
 rw [wts_closed h0 hn hl htop h] at e
 have:=F_within1 (M:=288230376151711744) (by decide) (fun i j=>beg_wi hl hn h.1.2.2.2 i j) (clo_good h0 hn hl htop h) hi j
 rw [e] at this
 have h1:-(288230376151711744*(n:Int))≤a / 2:=this.1
 have h2:a / 2≤288230376151711744*(n:Int):=this.2
 omega
theorem clo_near {u:Nat} (hu:u<n):Near (px (wts n (clT n ts)) u):=by
 have:=clo_px h0 hn hl htop h hu
 exact ⟨⟨by omega,by omega⟩,.inr ⟨by omega,by omega⟩⟩
end
def rsOf (D:Tab) (k:Nat):List (Int × Int):=(xs D k).map fun X=>(p8 X,q8 X)
theorem rsOf_length (D:Tab) (k:Nat):(rsOf D k).length=k+1:=by unfold rsOf;rw [List.length_map,xs_length]
theorem rsOf_at (D:Tab) {k j:Nat} (h:j≤k):pr (rsOf D k) j=(p8 (px D j),q8 (px D j)):=by
 unfold pr rsOf
 rw [List.getElem?_map,←xs_at D k j h]
 have:j<(xs D k).length:=by rw [xs_length];omega
 rw [List.getElem?_eq_getElem this]
 rfl
theorem own_call {W X:World} {base n s:Nat} {t:TypeId} {v:Value} {xs:List Value} (h:W.ownsRow base t s v n xs) (k:Below W.heap.size W X):X.ownsRow base t s v n xs:=
 h.kept (row:=none) ⟨k.os,k.tape,k.output,k.size,fun i hi _=>k.block i hi⟩ (by cases v.ownBlock<;>simp)
theorem two_new {W:World} {g:Nat} {t:TypeId} {x y:Value} (h:lies.Lies W g t #[x,y]) (p:Nat) (u:Value) (hp:[x,y][p]?=some u):W.cell? ((⟨g,0,none⟩:Addr).add p)=some u:=by
 have:=lies.cell h p
 rcases p with _ | _ | p
 ·cases hp;exact this
 ·cases hp;exact this
 ·simp at hp
def pks (m:Nat) (ts:List Int):List (Int × Int):=(rsOf (wts m (clT m ts)) (m - 1)).drop 1
end Go.Proofs.YthmljpccbjolgaaGreatDoor.incl
