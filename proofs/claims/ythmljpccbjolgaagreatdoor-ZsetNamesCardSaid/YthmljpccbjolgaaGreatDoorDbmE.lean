
/-
  The document's own answers of layer 4 (rallentandoref04), and dbm.Same and Twin of any matrix; each theorem names its conditions.
-/
import Derived.Test.YthmljpccbjolgaaGreatDoorDbmC
import Derived.Test.YthmljpccbjolgaaGreatDoorBase
import Derived.Test.YthmljpccbjolgaaGreatDoorDbmB
import Derived.BigQuiet
import Derived.Test.YthmljpccbjolgaaGreatDoorDbmD
import Derived.Test.YthmljpccbjolgaaGreatDoorRatC
import Derived.Test.YthmljpccbjolgaaGreatDoorDbmA
import Derived.Deep.OwnRows
import Derived.Laws.CopyOwn
import Derived.WalkSpells
namespace Go.Proofs.YthmljpccbjolgaaGreatDoor.dref
open Go.ChangeShapes Go.WideShapes Go.ChangeAt Go.RowKit num dbm
open bound hiding up
set_option linter.unusedVariables false
end Go.Proofs.YthmljpccbjolgaaGreatDoor.dref
namespace Go.Proofs.YthmljpccbjolgaaGreatDoor.dref
open Go.ChangeShapes Go.WideShapes Go.ChangeAt Go.RowKit num dbm
open bound hiding up
set_option linter.unusedVariables false
set_option linter.unusedSimpArgs false
theorem place_int {n i j:Nat} (hn:n≤4) (hi:i<n) (hj:j<n):IntKind.i64.wrap ((i:Int)*n)=(i:Int)*n∧wrap64 ((i:Int)*n)=(i:Int)*n∧IntKind.i64.wrap ((i:Int)*n+j)=(i:Int)*n+j∧wrap64 ((i:Int)*n+j)=(i:Int)*n+j∧0≤(i:Int)*n+j∧(i:Int)*n+j<(n:Int)*n∧((i:Int)*n+j).toNat=i*n+j:=by
 have h1:=place_le hn hi hj
 have h2:=sq_le hn
 have e1:(i:Int)*n=((i*n:Nat):Int):=(Int.natCast_mul i n).symm
 have e2:(n:Int)*n=((n*n:Nat):Int):=(Int.natCast_mul n n).symm
 rw [e1,e2]
 generalize i*n=a at h1 ⊢
 generalize n*n=b at h1 h2 ⊢
 refine ⟨dbm.wrap_small (by omega) (by omega),?_,dbm.wrap_small (by omega) (by omega),?_,by omega,by omega,by omega⟩<;>(unfold wrap64;omega)
end Go.Proofs.YthmljpccbjolgaaGreatDoor.dref
namespace Go.Proofs.YthmljpccbjolgaaGreatDoor.dref
open Go.ChangeShapes Go.WideShapes Go.ChangeAt Go.RowKit num dbm
open bound hiding up
set_option linter.unusedVariables false
set_option linter.unusedSimpArgs false
end Go.Proofs.YthmljpccbjolgaaGreatDoor.dref
namespace Go.Proofs.YthmljpccbjolgaaGreatDoor.dref
open Go.ChangeShapes Go.WideShapes Go.ChangeAt Go.RowKit num dbm
open bound hiding up
set_option linter.unusedVariables false
set_option linter.unusedSimpArgs false
section
variable {n:Nat} {ts:List Int}
end
theorem box_res (n:Int) (sv:Value) (w:World):Below w.heap.size w ((w.alloc (.cells #[.int .i64 n,sv] 81)).alloc (.cells #[.int .i64 0,.slice none 0 0] 81))∧lies.Lies ((w.alloc (.cells #[.int .i64 n,sv] 81)).alloc (.cells #[.int .i64 0,.slice none 0 0] 81)) w.heap.size 81 #[.int .i64 n,sv]∧lies.Lies ((w.alloc (.cells #[.int .i64 n,sv] 81)).alloc (.cells #[.int .i64 0,.slice none 0 0] 81)) (w.heap.size+1) 81 #[.int .i64 0,.slice none 0 0]:=
 ⟨bound.up2 _ _ _,lies.on_alloc (lies.made w _ _) _,lies.made_at _ _ _ _ (World.size_alloc _ _)⟩
theorem ret_res {B:Nat} {w W:World} (h:Below B w W) (hB:B≤w.heap.size+1) (u v:Value):Below B w ((W.setCell ⟨w.heap.size+1,0,none⟩ u).setCell ⟨w.heap.size+1,1,none⟩ v):=
 (h.setCell (p:=⟨w.heap.size+1,0,none⟩) hB _).setCell (p:=⟨w.heap.size+1,1,none⟩) hB _
end Go.Proofs.YthmljpccbjolgaaGreatDoor.dref
namespace Go.Proofs.YthmljpccbjolgaaGreatDoor.dref
open Go.ChangeShapes Go.WideShapes Go.ChangeAt Go.RowKit num dbm rat
open bound hiding up
set_option linter.unusedVariables false
set_option linter.unusedSimpArgs false
theorem append_run2 {P:Program} {w:World} {ops:Array Oper} {rest:List Oper} {o:Oper} {a:Act} {Q:Exit→Act→World→Prop} (hgd:o.guard=none) (s x:Operand) (t:TypeId)
  (ho:o.op=.call {callee:=.builtin .append,args:=#[s,x],argTypes:=#[t,t]}) (v u v':Value) (w':World) (hs:a.eval s=v) (hx:a.eval x=u)
  (hr:(Builtin.append_ #[t,t] o.type #[v,u]).run P w=.ok v' w') (h:wpList P ops Q rest (a.put o.dst v') w'):wpList P ops Q (o::rest) a w:=
 wpList_plain hgd fun K hK=>by
  unfold Oper.wp execOp
  simp only [ho,resolve,invoke,builtin,Sem.run_bind,Sem.run_pure,Result.andThen_ok,List.map_toArray,List.map_cons,List.map_nil,hs,hx,hr]
  exact hK _ _ h
end Go.Proofs.YthmljpccbjolgaaGreatDoor.dref
namespace Go.Proofs.YthmljpccbjolgaaGreatDoor.dref
open Go.ChangeShapes Go.WideShapes Go.ChangeAt Go.RowKit num dbm rat
open bound hiding up
set_option linter.unusedVariables false
set_option linter.unusedSimpArgs false
end Go.Proofs.YthmljpccbjolgaaGreatDoor.dref
namespace Go.Proofs.YthmljpccbjolgaaGreatDoor.dbm
open Go.ChangeShapes Go.WideShapes Go.ChangeAt Go.RowKit num
open bound hiding up
set_option linter.unusedVariables false
theorem equal_lens (a c:Option Addr) (l k cap dap:Nat) (w:World) (h:l≠k):
  Calls Tryz.prog 191 #[.slice a l cap,.slice c k dap] w fun e w'=>e=.returned (.bool false)∧Below w.heap.size w w':=by
 have t1:((l:Int) !=k)=true:=by simp;omega
 go_enter Tryz.func191,Tryz.ntmps191
 go_wp2
 go_ret
 exact ⟨rfl,Below.refl _ _⟩
theorem equal_nil (a c:Option Addr) (cap dap:Nat) (w:World):
  Calls Tryz.prog 191 #[.slice a 0 cap,.slice c 0 dap] w fun e w'=>e=.returned (.bool true)∧Below w.heap.size w w':=by
 go_enter Tryz.func191,Tryz.ntmps191
 go_wp2
 go_loop [13] (fun i=>i=.int .i64 0) (fun _=>0)
 case atStart=>rfl
 case round=>
  obtain rfl:=hrel
  go_wp2
  go_ret
  exact ⟨rfl,Below.refl _ _⟩
set_option maxRecDepth 100000 in
set_option maxHeartbeats 2000000 in
theorem equal_rows (b off cap g pff dap len:Nat) (ts us:List Int) (w:World) (hr:Row w b off ts) (hb:b<w.heap.size) (hs:Row w g pff us) (hg:g<w.heap.size) (hl:ts.length=len) (hk:us.length=len) (hm:len≤1000000):
  Calls Tryz.prog 191 #[.slice (some ⟨b,off,none⟩) len cap,.slice (some ⟨g,pff,none⟩) len dap] w fun e w'=>e=.returned (.bool (decide (ts=us)))∧Below w.heap.size w w':=by
 have t3:((len:Int) !=len)=false:=by simp
 have HR:=Lib.hid hr
 have HS:=Lib.hid hs
 have HL:=Lib.hid hl
 have HK:=Lib.hid hk
 clear hr hs hl hk
 go_enter Tryz.func191,Tryz.ntmps191
 go_wp2
 go_loopw [13] (fun i wr=>∃ k:Nat,k≤len∧i=.int .i64 k∧RowKit.Hid (∀ p,p<k→ts[p]?.getD 0=us[p]?.getD 0)∧Below w.heap.size w wr)
  (fun i _=>len - (intOf i).toNat)
 case atStart=>exact ⟨0,Nat.zero_le _,rfl,Lib.hid (fun m hm=>absurd hm (by omega)),Below.refl _ _⟩
 case round=>
  obtain ⟨k,hk,rfl,heq,hB⟩:=hrel
  by_cases hkn:k<len
  ·have hc:=(HR.out.below hB hb) k (by rw [HL.out];exact hkn)
   have hd:=(HS.out.below hB hg) k (by rw [HK.out];exact hkn)
   have z1:(0:Int)≤k:=by omega
   have z2:(k:Int)<len:=by omega
   generalize hx:ts[k]?.getD 0=x at hc
   generalize hy:us[k]?.getD 0=y at hd
   have HX:=Lib.hid hx
   have HY:=Lib.hid hy
   clear hx hy
   by_cases hxy:x=y
   ·obtain rfl:x=y:=hxy
    have t4:((x:Int) !=x)=false:=by simp
    go_wp2_with fail
    go_quiet (fail)
    go_wp2
    go_roundw
    case rel=>exact ⟨k+1,by omega,by go_num,Lib.hid (fun m hm=>by
     by_cases e:m=k
     ·subst e;rw [HX.out,HY.out]
     ·exact heq.out m (by omega)),bound.drawn hB _⟩
    case measure=>simp [intOf];omega
   ·have t4:((x:Int) !=y)=true:=by simpa using hxy
    have hne:RowKit.Hid (decide (ts=us)=false):=Lib.hid (decide_eq_false (fun e=>hxy (by rw [←HX.out,←HY.out,e])))
    clear hxy
    go_wp2_with fail
    go_quiet (fail)
    go_wp2
    go_ret
    exact ⟨by rw [hne.out];rfl,bound.drawn hB _⟩
  ·obtain rfl:len=k:=by omega
   have hyes:RowKit.Hid (decide (ts=us)=true):=Lib.hid (decide_eq_true (List.ext_getElem (by rw [HL.out,HK.out]) (fun i h1 h2=>by
    have:=heq.out i (by rw [←HL.out];exact h1)
    rwa [List.getElem?_eq_getElem h1,List.getElem?_eq_getElem h2] at this)))
   go_wp2
   go_ret
   exact ⟨by rw [hyes.out];rfl,hB⟩
theorem equal_any (sv tv:Value) (ts us:List Int) (w:World) (hI:law.Ints w.heap.size w sv ts) (hJ:law.Ints w.heap.size w tv us) (hm:ts.length≤1000000):
  Calls Tryz.prog 191 #[sv,tv] w fun e w'=>e=.returned (.bool (decide (ts=us)))∧Below w.heap.size w w':=by
 by_cases h2:ts.length=us.length
 ·rcases hI with ⟨⟨a,cap,rfl,_⟩,rfl⟩ | ⟨b,off,cap,rfl,hb,hc⟩
  ·obtain rfl:us=[]:=List.eq_nil_of_length_eq_zero (by rw [←h2];rfl)
   obtain ⟨c,dap,rfl⟩:=ints_len hJ
   have:=equal_nil a c cap dap w
   simpa using this
  ·rcases hJ with ⟨⟨c,dap,rfl,_⟩,rfl⟩ | ⟨g,pff,dap,rfl,hg,hd⟩
   ·obtain rfl:ts=[]:=List.eq_nil_of_length_eq_zero (by rw [h2];rfl)
    have:=equal_nil (some ⟨b,off,none⟩) c cap dap w
    simpa using this
   ·rw [←h2]
    exact equal_rows b off cap g pff dap ts.length ts us w hc hb (fun p hp=>hd p hp) hg rfl h2.symm hm
 ·obtain ⟨a,cap,rfl⟩:=ints_len hI
  obtain ⟨c,dap,rfl⟩:=ints_len hJ
  rw [decide_eq_false (fun k=>h2 (by rw [k]))]
  exact equal_lens a c _ _ cap dap w h2
theorem same4_any (n m:Int) (sv tv:Value) (ts us:List Int) (w:World) (hI:law.Ints w.heap.size w sv ts) (hJ:law.Ints w.heap.size w tv us) (hm:ts.length≤1000000):
  Calls Tryz.prog 150 #[.agg #[.int .i64 n,sv],.agg #[.int .i64 m,tv]] w fun e w'=>e=.returned (.bool (decide (n=m∧ts=us)))∧Below w.heap.size w w':=by
 have DB:=bound.up2 w (.cells #[.int .i64 n,sv] 81) (.cells #[.int .i64 m,tv] 81)
 have hE:=equal_any sv tv ts us _ ((hI.below DB).mono DB.size) ((hJ.below DB).mono DB.size) hm
 have HE:=Lib.hid hE
 obtain ⟨a,cap,rfl⟩:=ints_len hI
 obtain ⟨c,dap,rfl⟩:=ints_len hJ
 clear hI hJ hE
 by_cases h:n=m
 ·subst h
  have e:decide (n=n∧ts=us)=decide (ts=us):=by simp
  rw [e]
  have t1:((n:Int)==n)=true:=by simp
  clear e
  generalize decide (ts=us)=r at HE ⊢
  go_enter Tryz.func150,Tryz.ntmps150
  go_wp2_with fail
  refine HE.out.mono ?_
  rintro e w1 ⟨rfl,hB1⟩
  have B1:=DB.trans (hB1.mono DB.size)
  clear HE DB hB1
  go_wp2_with fail
  go_ret
  exact ⟨rfl,B1⟩
 ·rw [decide_eq_false (fun k=>h k.1)]
  have t1:((n:Int)==m)=false:=by simpa using h
  clear h HE
  go_enter Tryz.func150,Tryz.ntmps150
  go_wp2_with fail
  go_ret
  exact ⟨rfl,DB⟩
end Go.Proofs.YthmljpccbjolgaaGreatDoor.dbm
namespace Go.Proofs.YthmljpccbjolgaaGreatDoor.dbm
open Go.ChangeShapes Go.WideShapes Go.ChangeAt Go.RowKit num
open bound hiding up
set_option linter.unusedVariables false
end Go.Proofs.YthmljpccbjolgaaGreatDoor.dbm
