
/-
  What laws share: ints, a fraction and times that come in; rows of one's own that grow, in a drawn region too; boxes below a line that is no longer turned; each theorem names its conditions.
-/
import Derived.Test.YthmljpccbjolgaaGreatDoorDbmD
import Derived.Test.YthmljpccbjolgaaGreatDoorTightD
namespace Go.Proofs.YthmljpccbjolgaaGreatDoor.plaw
open Go.Joins Go.ChangeShapes Go.WideShapes Go.ChangeAt Go.RowKit num dbm rat Go.Proofs.YthmljpccbjolgaaGreatDoor.tight
open bound hiding up
set_option linter.unusedVariables false
set_option linter.unusedSimpArgs false
theorem wp_append_run {P:Program} {w:World} {o:Oper} {a:Act} {K:Act→World→Prop} {Q:Exit→Act→World→Prop} (s x:Operand) (t:TypeId)
  (ho:o.op=.call {callee:=.builtin .append,args:=#[s,x],argTypes:=#[t,t]}) (v u v':Value) (w':World) (hs:a.eval s=v) (hx:a.eval x=u)
  (hr:(Builtin.append_ #[t,t] o.type #[v,u]).run P w=.ok v' w') (h:K (a.put o.dst v') w'):o.wp P a w K Q:=by
 unfold Oper.wp execOp
 simp only [ho,resolve,invoke,builtin,Sem.run_bind,Sem.run_pure,Result.andThen_ok,List.map_toArray,List.map_cons,List.map_nil,hs,hx,hr]
 exact h
theorem held_grown {n base k s:Nat} {A W W':World} {t:TypeId} {v:Value} {xs:List Value} (h:Below n A W) (hA:n≤W.heap.size) (ho:W.ownsRow base t s v k xs) (hb:n≤base) (hg:W.grownBy W' v.ownBlock):Below n A W':=
 h.grown hg hA (fun q e=>Nat.le_trans hb (ho.lt q e).1)
theorem grown_lies {W W':World} {row:Option Nat} {g:Nat} {t:TypeId} {cs:Array Value} (h:lies.Lies W g t cs) (hg:W.grownBy W' row) (hne:some g≠row):lies.Lies W' g t cs:=(World.grownBy.block hg _ (lies.lt h) hne).trans h
end Go.Proofs.YthmljpccbjolgaaGreatDoor.plaw
