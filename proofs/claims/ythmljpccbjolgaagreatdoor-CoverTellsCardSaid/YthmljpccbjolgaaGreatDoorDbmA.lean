
/-
  What the calls of package dbm's matrix under way, Check, Twin and Close answer; each theorem names its conditions.
-/
import Derived.Test.YthmljpccbjolgaaGreatDoorBase
import Derived.IntWalk
import Derived.Deep.RegionWith
import Derived.RangeFuncNested
import Derived.RangeFuncBound
import Derived.RangeFuncCalls
import Derived.RangeFuncLeaves
import Derived.RangeFuncBox
import Derived.Shelf.Abstract
import Derived.Shelf.RegionOpen
import Derived.WalkKit
import Derived.OwnWalkIn
import Derived.TacticsInMore
import Derived.LoopNIn
import Derived.LoopIn
import Derived.Stop.RegionWithIn
import Derived.Deep.RegionHeld
import Derived.Deep.OwnRows
import Derived.Laws.CopyOwn
import Derived.WalkSpells
namespace Go.Proofs.YthmljpccbjolgaaGreatDoor.dbm
open Go.ChangeShapes Go.WideShapes Go.ChangeAt Go.RowKit num
open bound hiding up
set_option linter.unusedVariables false
theorem drawn1 {n:Nat} {w w1:World} (h:Below n w w1):Below n w w1.drew:=h.trans ⟨rfl,rfl,rfl,Nat.le_refl _,fun _ _=>rfl⟩
theorem up {n:Nat} {w w1:World} (h:Below n w w1) (k:n≤w.heap.size) (o:Obj):Below n w (w1.alloc o):=h.alloc (Nat.le_trans k h.size) o
theorem at_is (n i j q p:Int) (b off len cap P:Nat) (w:World) (hq:IntKind.i64.wrap (i*n)=q) (hp:IntKind.i64.wrap (q+j)=p) (h0:0≤p) (hl:p<(len:Int)) (hP:p.toNat=P):
  Calls Tryz.prog 133 #[.agg #[.int .i64 n,.slice (some ⟨b,off,none⟩) len cap],.int .i64 i,.int .i64 j] w fun e w'=>e=.returned (.pointer (some ⟨b,off+P,none⟩))∧w'=w.alloc (.cells #[.int .i64 n,.slice (some ⟨b,off,none⟩) len cap] 153):=by
 go_enter Tryz.func133,Tryz.ntmps133
 go_wp2
 go_ret
 exact ⟨rfl,rfl⟩
def lsr (x b:Int):Int:=if b<x then b else x
def Put (g P:Nat) (v:Value) (w:World) (e:Ending) (w':World):Prop:=e=.returned (.tuple #[])∧Below w.heap.size (w.setCell ⟨g,P,none⟩ v) w'
set_option maxHeartbeats 1000000 in
theorem lower_is (n i j q p x b:Int) (g len cap P:Nat) (w:World) (hq:IntKind.i64.wrap (i*n)=q) (hp:IntKind.i64.wrap (q+j)=p) (h0:0≤p) (hl:p<(len:Int)) (hP:p.toNat=P)
  (hg:g<w.heap.size) (hc:w.cell? ⟨g,P,none⟩=some (.int .i64 x)) (hf:w.frozen? ⟨g,P,none⟩=false):
  Calls Tryz.prog 143 #[.agg #[.int .i64 n,.slice (some ⟨g,0,none⟩) len cap],.int .i64 i,.int .i64 j,.int .i64 b] w (Put g P (.int .i64 (lsr x b)) w):=by
 have HQ:=Lib.hid hq
 have HP:=Lib.hid hp
 have HN:=Lib.hid hP
 clear hq hp hP
 have g1:g<w.heap.size+1:=by omega
 have g2:g<w.heap.size+1+1:=by omega
 have g3:g<w.heap.size+1+1+1:=by omega
 go_enter Tryz.func143,Tryz.ntmps143
 go_wp2_with fail
 go_region_with (go_at_call 133;refine (at_is n i j q p g 0 len cap P _ HQ.out HP.out h0 hl HN.out).mono ?_;rintro e w' ⟨rfl,rfl⟩)
 all_goals
  go_end0
  have hz:w.heap.size≤(w.setCell ⟨g,P,none⟩ (.int .i64 (lsr x b))).heap.size:=by simp
  exact ⟨rfl,drawn1 (up (up (up (Below.refl _ _) hz _) hz _) hz _)⟩
end Go.Proofs.YthmljpccbjolgaaGreatDoor.dbm
namespace Go.Proofs.YthmljpccbjolgaaGreatDoor.dbm
open Go.ChangeShapes Go.WideShapes Go.ChangeAt Go.RowKit num
open bound hiding up
set_option linter.unusedVariables false
def Row (W:World) (b off:Nat) (ts:List Int):Prop:=∀ p,p<ts.length→W.cell? ⟨b,off+p,none⟩=some (.int .i64 (ts[p]?.getD 0))
theorem Row.below {n:Nat} {W W':World} {b off:Nat} {ts:List Int} (h:Row W b off ts) (k:Below n W W') (hb:b<n):Row W' b off ts:=fun p hp=>(k.cell (p:=⟨b,off+p,none⟩) hb).trans (h p hp)
def tat (ts:List Int) (n i j:Nat):Int:=ts[i*n+j]?.getD 0
theorem wrap_small {x:Int} (h1:0≤x) (h2:x≤1000000):IntKind.i64.wrap x=x:=IntWalk.i64_in _ (by omega)
theorem place_le {n i j:Nat} (hn:n≤4) (hi:i<n) (hj:j<n):i*n+j<n*n:=by
 have:(i+1)*n≤n*n:=Nat.mul_le_mul_right n hi
 rw [Nat.add_mul,Nat.one_mul] at this
 omega
theorem sq_le {n:Nat} (hn:n≤4):n*n≤16:=Nat.mul_le_mul hn hn
theorem at_nat (n i j b off cap:Nat) (w:World) (hn:n≤4) (hi:i<n) (hj:j<n):
  Calls Tryz.prog 133 #[.agg #[.int .i64 n,.slice (some ⟨b,off,none⟩) (n*n) cap],.int .i64 i,.int .i64 j] w fun e w'=>e=.returned (.pointer (some ⟨b,off+(i*n+j),none⟩))∧w'=w.alloc (.cells #[.int .i64 n,.slice (some ⟨b,off,none⟩) (n*n) cap] 153):=by
 have h1:=place_le hn hi hj
 have h2:=sq_le hn
 have e1:((i*n:Nat):Int)=(i:Int)*n:=Int.natCast_mul i n
 have e2:((i*n+j:Nat):Int)=(i:Int)*n+j:=by rw [Int.natCast_add,e1]
 refine at_is n i j (i*n) (i*n+j) b off (n*n) cap (i*n+j) w (wrap_small (by omega) (by omega)) (wrap_small (by omega) (by omega)) (by omega) ?_ (by omega)
 rw [←e2]
 exact Int.ofNat_lt.2 h1
def Emp (n:Nat) (ts:List Int) (w:World) (e:Ending) (w':World):Prop:=
 Below w.heap.size w w'∧∃ b:Bool,e=.returned (.bool b)∧(b=true→∃ i,i<n∧tat ts n i i<1)∧(b=false→∀ i,i<n→1≤tat ts n i i)
set_option maxHeartbeats 1000000 in
theorem empty_any (n b off cap:Nat) (ts:List Int) (w:World) (hn:n≤4) (hl:ts.length=n*n) (hr:Row w b off ts) (hb:b<w.heap.size):
  Calls Tryz.prog 144 #[.agg #[.int .i64 n,.slice (some ⟨b,off,none⟩) (n*n) cap]] w (Emp n ts w):=by
 have HR:=Lib.hid hr
 have HL:=Lib.hid hl
 clear hr hl
 go_enter Tryz.func144,Tryz.ntmps144
 go_wp2
 go_loopw [7] (fun i wr=>∃ k:Nat,k≤n∧i=.int .i64 k∧RowKit.Hid (∀ m,m<k→1≤tat ts n m m)∧lies.Lies wr w.heap.size 153 #[.int .i64 n,.slice (some ⟨b,off,none⟩) (n*n) cap]∧Below w.heap.size w wr)
  (fun i _=>n - (intOf i).toNat)
 case atStart=>exact ⟨0,Nat.zero_le _,rfl,Lib.hid (fun m hm=>absurd hm (by omega)),lies.made _ _ _,(Below.refl _ _).alloc (Nat.le_refl _) _⟩
 case round=>
  obtain ⟨k,hk,rfl,hpos,hbox,hB⟩:=hrel
  obtain ⟨c0,c1,f0,f1,hlt⟩:=lies.two hbox
  by_cases hkn:k<n
  ·have hc:wr.cell? ⟨b,off+(k*n+k),none⟩=some (.int .i64 (tat ts n k k)):=(HR.out.below hB hb) _ (by rw [HL.out];exact place_le hn hkn hkn)
   have hbw:b<wr.heap.size:=by have:=hB.size;omega
   generalize hx:tat ts n k k=x at hc
   have HX:=Lib.hid hx
   clear hx
   by_cases h1:x<1
   ·go_wp2_with (go_at_call 133;refine (at_nat n k k b off cap _ hn hkn hkn).mono ?_;rintro e w' ⟨rfl,rfl⟩)
    go_ret
    exact ⟨hB.alloc hB.size _,true,rfl,fun _=>⟨k,hkn,by rw [HX.out];exact h1⟩,fun h=>by cases h⟩
   ·go_wp2_with (go_at_call 133;refine (at_nat n k k b off cap _ hn hkn hkn).mono ?_;rintro e w' ⟨rfl,rfl⟩)
    go_roundw
    case rel=>exact ⟨k+1,by omega,by go_num,Lib.hid (fun m hm=>by
     by_cases e:m=k
     ·subst e;rw [HX.out];omega
     ·exact hpos.out m (by omega)),lies.on_alloc hbox _,hB.alloc hB.size _⟩
    case measure=>simp [intOf];omega
  ·obtain rfl:k=n:=by omega
   go_wp2
   go_ret
   exact ⟨hB,false,rfl,(fun h=>by cases h),fun _=>hpos.out⟩
end Go.Proofs.YthmljpccbjolgaaGreatDoor.dbm
namespace Go.Proofs.YthmljpccbjolgaaGreatDoor.dbm
open Go.RowKit Go.Shelf num
open bound hiding up
attribute [local go_sem] Oper.semAt_some
set_option linter.unusedVariables false
set_option linter.unusedSimpArgs false
abbrev Cl (n:Nat):={x:Nat × Nat // x.1<n∧x.2<n}
def nth (n:Nat) (h:0<n) (k:Nat):Cl n:=⟨((k / n) % n,k % n),Nat.mod_lt _ h,Nat.mod_lt _ h⟩
def upto {α:Type} (f:Nat→α) (k:Nat):List α:=(List.range k).map f
theorem upto_succ {α:Type} (f:Nat→α) (k:Nat):upto f (k+1)=upto f k++[f k]:=by simp [upto,List.range_succ]
theorem upto_length {α:Type} (f:Nat→α) (k:Nat):(upto f k).length=k:=by simp [upto]
abbrev encs {n:Nat} (x:Cl n):Array Value:=#[.int .i64 (x.1.1:Int),.int .i64 (x.1.2:Int)]
def KB (B:Nat) (W W':World):Prop:=W'.heap[B]?=W.heap[B]?
theorem KB.trans {B:Nat} {X Y Z:World} (h:KB B X Y) (k:KB B Y Z):KB B X Z:=Eq.trans k h
theorem KB.put {B:Nat} {w:World} (hB:B<w.heap.size) (W:World) (l:Nat) (o o':Obj) (hl:w.heap.size≤l) (h:W.heap[l]?=some o) (_:o.isCells=false) (_:o.isWalk=false):KB B W (W.putObj l o'):=
 World.putObj_heap_other (by omega)
theorem grown_drew (W:World) (row:Option Nat):W.grownBy W.drew row:=⟨rfl,rfl,rfl,Nat.le_refl _,fun _ _ _=>rfl⟩
def Yi {n:Nat} (J Jx:List (Cl n)→World→Prop) (Bm:Nat) (pre:List (Cl n)) (W:World) (e:Ending) (W':World):Prop:=∃ r:Bool,e=.returned (.bool r)∧RowKit.Hid (r=true→J pre W'∧KB Bm W W')∧RowKit.Hid (r=false→Jx pre W')
set_option maxRecDepth 100000 in
set_option maxHeartbeats 2000000 in
theorem pairs1_in (F : Fence) (m : Nat) (hf : F.fn 184) (hro : F.round = none) (hm : 1 ≤ m) (l Bm n b off cap : Nat) (hn0 : 0 < n) (hn : n ≤ 4) (J Jx : List (Cl n) → World → Prop)
    (hJd : ∀ pre W, J pre W → J pre W.drew)
    (hY : ∀ pre x W, J pre W → pre.length < n * n → YieldAt F (m - 1) Tryz.prog l (encs x) W fun e W' =>
      (e = .returned (.bool true) ∧ J (pre ++ [x]) W' ∧ KB Bm W W') ∨ (e = .returned (.bool false) ∧ Jx (pre ++ [x]) W'))
    (W : World) (hBm : lies.Lies W Bm 153 #[.int .i64 n, .slice (some ⟨b, off, none⟩) (n * n) cap]) (h0 : J [] W) :
    CallsIn F m Tryz.prog 184 #[.func (.yield l) #[] #[], .pointer (some ⟨Bm, 0, none⟩)] W fun e W' => (∃ v, e = .returned v) ∧
      ((∃ ys, ys = upto (nth n hn0) (n * n) ∧ J ys W') ∨ (∃ pre, (∃ k, k ≤ n * n ∧ pre = upto (nth n hn0) k) ∧ Jx pre W')) := by
  have HY := Lib.hid hY
  have HJ := Lib.hid hJd
  clear hY hJd
  have hsq := sq_le hn
  obtain ⟨c0, c1, f0, f1, hlt⟩ := lies.two hBm
  refine callsIn_of_wp Tryz.func184 rfl hf ?_ hro
  simp only [Tryz.ntmps184, List.size_toArray, List.length_cons, List.length_nil, Nat.reduceAdd, Nat.reduceSub, Array.replicate_succ, Array.replicate_zero, List.push_toArray, List.append_toArray, List.nil_append, List.cons_append]
  gi_wp2
  clear c0 c1 f0 f1 hlt
  gi_loopw [8] (fun i wr => ∃ k : Nat, k ≤ n * n ∧ i = .int .i64 k ∧ J (upto (nth n hn0) k) wr ∧ lies.Lies wr Bm 153 #[.int .i64 n, .slice (some ⟨b, off, none⟩) (n * n) cap])
    (fun i _ => n * n - (intOf i).toNat)
  case atStart => exact ⟨0, Nat.zero_le _, rfl, h0, hBm⟩
  case round =>
    obtain ⟨k, hk, rfl, hJs, hbox⟩ := hrel
    obtain ⟨c0, c1, f0, f1, hlt⟩ := lies.two hbox
    by_cases hkn : k < n * n
    · obtain ⟨fn, tmps, assign, body, hy, hR⟩ := HY.out _ (nth n hn0 k) wr.drew (HJ.out _ _ hJs) (by rw [upto_length]; exact hkn)
      have hR' := hR.mono (R' := Yi J Jx Bm (upto (nth n hn0) k ++ [nth n hn0 k]) wr.drew) (fun e W' h => by
        rcases h with ⟨rfl, h1, h2⟩ | ⟨rfl, h1⟩
        · exact ⟨true, rfl, Lib.hid (fun _ => ⟨h1, h2⟩), Lib.hid (fun h => by cases h)⟩
        · exact ⟨false, rfl, Lib.hid (fun h => by cases h), Lib.hid (fun _ => h1)⟩)
      clear hR
      have hkd : k / n < n := (Nat.div_lt_iff_lt_mul hn0).2 hkn
      have e0 : k / n % n = k / n := Nat.mod_eq_of_lt hkd
      dsimp only [encs, nth] at hy
      rw [e0, Int.natCast_ediv, Int.natCast_emod] at hy
      have h1 : ((k / n : Nat) : Int) = (k : Int) / n := Int.natCast_ediv k n
      have e1 : wrap64 ((k : Int) / n) = (k : Int) / n := by
        rw [← h1]
        unfold wrap64
        omega
      have e3 : IntKind.i64.wrap ((k : Int) / n) = (k : Int) / n := by
        rw [← h1]
        exact wrap_small (x := ((k / n : Nat) : Int)) (Int.natCast_nonneg _) (by omega)
      have e2 : (k : Int).tmod n = (k : Int) % n := Int.tmod_eq_emod_of_nonneg (Int.natCast_nonneg k)
      have z0 : ¬ (n : Int) = 0 := by omega
      have z3 : ¬ n = 0 := by omega
      have z1 : ((n : Int) == 0) = false := by simp; omega
      have z2 : (k : Int) < (n : Int) * n := by rw [← Int.natCast_mul]; exact Int.ofNat_lt.2 hkn
      clear e0 hkd h1
      gi_wp2
      refine wpIn_region_any (by kernel_rfl) ?_
      change wpAnyIn _ _ _ _ _ _ _ _ _ wr.drew
      refine wpAnyIn_take (i := 0) (v := ?_) hro rfl (by kernel_rfl) (by kernel_rfl) (by kernel_rfl) (fun _ _ _ h => h) ⟨Or.inl ⟨by rfl, ?_⟩, fun _ => rfl⟩ ?_
      rotate_left
      · intro w; go_simp; try with_reducible rfl
      try simp only [Act.put, sA, sB, sC, sD, sE, sF]
      refine wpAnyIn_take (i := 1) (v := ?_) hro rfl (by kernel_rfl) (by kernel_rfl) (by kernel_rfl) (fun _ _ _ h => h) ⟨Or.inl ⟨by rfl, ?_⟩, fun _ => rfl⟩ ?_
      rotate_left
      · intro w; go_simp; try with_reducible rfl
      try simp only [Act.put, sA, sB, sC, sD, sE, sF]
      refine wpAnyIn_take (i := 2) (v := ?_) hro rfl (by kernel_rfl) (by kernel_rfl) (by kernel_rfl) (fun _ _ _ h => h) ⟨Or.inl ⟨by rfl, ?_⟩, fun _ => rfl⟩ ?_
      rotate_left
      · intro w; go_simp; try with_reducible rfl
      try simp only [Act.put, sA, sB, sC, sD, sE, sF]
      refine wpAnyIn_take (i := 3) (v := ?_) hro rfl (by kernel_rfl) (by kernel_rfl) (by kernel_rfl) (fun _ _ _ h => h) ⟨Or.inl ⟨by rfl, ?_⟩, fun _ => rfl⟩ ?_
      rotate_left
      · intro w; go_simp; try with_reducible rfl
      try simp only [Act.put, sA, sB, sC, sD, sE, sF]
      refine wpAnyIn_take (i := 6) (v := ?_) hro rfl (by kernel_rfl) (by kernel_rfl) (by kernel_rfl) (fun _ _ _ h => h) ⟨Or.inl ⟨by rfl, ?_⟩, fun _ => rfl⟩ ?_
      rotate_left
      · intro w; go_simp; try with_reducible rfl
      try simp only [Act.put, sA, sB, sC, sD, sE, sF]
      refine wpAnyIn_take (i := 7) (v := ?_) hro rfl (by kernel_rfl) (by kernel_rfl) (by kernel_rfl) (fun _ _ _ h => h) ⟨Or.inl ⟨by rfl, ?_⟩, fun _ => rfl⟩ ?_
      rotate_left
      · intro w; go_simp; try with_reducible rfl
      try simp only [Act.put, sA, sB, sC, sD, sE, sF]
      refine wpAnyIn_take (i := 8) (v := ?_) hro rfl (by kernel_rfl) (by kernel_rfl) (by kernel_rfl) (fun _ _ _ h => h) ⟨Or.inl ⟨by rfl, ?_⟩, fun _ => rfl⟩ ?_
      rotate_left
      · intro w; go_simp; try with_reducible rfl
      try simp only [Act.put, sA, sB, sC, sD, sE, sF]
      refine wpAnyIn_ready (rs := [4, 9]) (by kernel_rfl) (by simp) (AllReadyIn.cons rfl (fun K hK => ?_) (AllReadyIn.cons rfl (fun K hK => ?_) AllReadyIn.nil))
      · go_simp
        refine hK _ _ ?_
        clear hK K
        try simp only [Act.put, sA, sB, sC, sD, sE, sF]
        refine wpAnyIn_take (i := 5) (v := ?_) hro rfl (by kernel_rfl) (by kernel_rfl) (by kernel_rfl) (fun _ _ _ h => h) ⟨Or.inl ⟨by rfl, ?_⟩, fun _ => rfl⟩ ?_
        rotate_left
        · intro w; go_simp; try with_reducible rfl
        try simp only [Act.put, sA, sB, sC, sD, sE, sF]
        refine wpAnyIn_ready (rs := [9]) (by kernel_rfl) (by simp) (AllReadyIn.cons rfl (fun K hK => ?_) AllReadyIn.nil)
        go_simp
        refine hK _ _ ?_
        clear hK K
        try simp only [Act.put, sA, sB, sC, sD, sE, sF]
        refine wpAnyIn_take (i := 10) (v := ?_) hro rfl (by kernel_rfl) (by kernel_rfl) (by kernel_rfl) (fun _ _ _ h => h) ⟨Or.inl ⟨by rfl, ?_⟩, fun _ => rfl⟩ ?_
        rotate_left
        · intro w; go_simp; try with_reducible rfl
        try simp only [Act.put, sA, sB, sC, sD, sE, sF]
        refine wpAnyIn_ready (rs := [11]) (by kernel_rfl) (by simp) (AllReadyIn.cons rfl (fun K hK => ?_) AllReadyIn.nil)
        go_simp
        refine hR'.mono ?_
        rintro e W3 ⟨r, rfl, hr1, hr2⟩
        dsimp only
        refine hK _ _ ?_
        clear hK K
        try simp only [Act.put, sA, sB, sC, sD, sE, sF]
        refine wpAnyIn_take (i := 12) (v := ?_) hro rfl (by kernel_rfl) (by kernel_rfl) (by kernel_rfl) (fun _ _ _ h => h) ⟨Or.inl ⟨by rfl, ?_⟩, fun _ => rfl⟩ ?_
        rotate_left
        · intro w; go_simp; try with_reducible rfl
        try simp only [Act.put, sA, sB, sC, sD, sE, sF]
        refine wpAnyIn_done (by kernel_rfl) ?_ _
        cases r with
        | true =>
          obtain ⟨hJ3, hk3⟩ := hr1.out rfl
          clear hr1 hr2 hR'
          gi_wp2
          go_roundw
          case rel => exact ⟨k + 1, by omega, by go_num, by rw [upto_succ]; exact hJ3, (Eq.trans hk3 hbox : W3.heap[Bm]? = _)⟩
          case measure => simp [intOf]; omega
        | false =>
          have hJ3 := hr2.out rfl
          clear hr1 hr2 hR'
          gi_wp2
          refine bodyPost_ret (results_none rfl _ _ _) rfl ?_
          exact ⟨⟨_, rfl⟩, .inr ⟨_, ⟨k + 1, by omega, by rw [upto_succ]⟩, hJ3⟩⟩
      · go_simp
        refine hK _ _ ?_
        clear hK K
        try simp only [Act.put, sA, sB, sC, sD, sE, sF]
        refine wpAnyIn_take (i := 10) (v := ?_) hro rfl (by kernel_rfl) (by kernel_rfl) (by kernel_rfl) (fun _ _ _ h => h) ⟨Or.inl ⟨by rfl, ?_⟩, fun _ => rfl⟩ ?_
        rotate_left
        · intro w; go_simp; try with_reducible rfl
        try simp only [Act.put, sA, sB, sC, sD, sE, sF]
        refine wpAnyIn_ready (rs := [4]) (by kernel_rfl) (by simp) (AllReadyIn.cons rfl (fun K hK => ?_) AllReadyIn.nil)
        go_simp
        refine hK _ _ ?_
        clear hK K
        try simp only [Act.put, sA, sB, sC, sD, sE, sF]
        refine wpAnyIn_take (i := 5) (v := ?_) hro rfl (by kernel_rfl) (by kernel_rfl) (by kernel_rfl) (fun _ _ _ h => h) ⟨Or.inl ⟨by rfl, ?_⟩, fun _ => rfl⟩ ?_
        rotate_left
        · intro w; go_simp; try with_reducible rfl
        try simp only [Act.put, sA, sB, sC, sD, sE, sF]
        refine wpAnyIn_ready (rs := [11]) (by kernel_rfl) (by simp) (AllReadyIn.cons rfl (fun K hK => ?_) AllReadyIn.nil)
        go_simp
        refine hR'.mono ?_
        rintro e W3 ⟨r, rfl, hr1, hr2⟩
        dsimp only
        refine hK _ _ ?_
        clear hK K
        try simp only [Act.put, sA, sB, sC, sD, sE, sF]
        refine wpAnyIn_take (i := 12) (v := ?_) hro rfl (by kernel_rfl) (by kernel_rfl) (by kernel_rfl) (fun _ _ _ h => h) ⟨Or.inl ⟨by rfl, ?_⟩, fun _ => rfl⟩ ?_
        rotate_left
        · intro w; go_simp; try with_reducible rfl
        try simp only [Act.put, sA, sB, sC, sD, sE, sF]
        refine wpAnyIn_done (by kernel_rfl) ?_ _
        cases r with
        | true =>
          obtain ⟨hJ3, hk3⟩ := hr1.out rfl
          clear hr1 hr2 hR'
          gi_wp2
          go_roundw
          case rel => exact ⟨k + 1, by omega, by go_num, by rw [upto_succ]; exact hJ3, (Eq.trans hk3 hbox : W3.heap[Bm]? = _)⟩
          case measure => simp [intOf]; omega
        | false =>
          have hJ3 := hr2.out rfl
          clear hr1 hr2 hR'
          gi_wp2
          refine bodyPost_ret (results_none rfl _ _ _) rfl ?_
          exact ⟨⟨_, rfl⟩, .inr ⟨_, ⟨k + 1, by omega, by rw [upto_succ]⟩, hJ3⟩⟩
    · obtain rfl : k = n * n := by omega
      have z2 : ¬ ((n * n : Nat) : Int) < (n : Int) * n := by rw [Int.natCast_mul]; omega
      gi_wp2
      go_end0
      exact ⟨⟨_, rfl⟩, .inl hJs⟩
theorem pairs_in (F:Fence) (m:Nat) (hf:F.fn 132) (hro:F.round=none) (x sv:Value) (w:World) (h1:x.oneCell'=true) (h2:sv.oneCell'=true):
  CallsIn F m Tryz.prog 132 #[.agg #[x,sv]] w fun e w'=>e=.returned (.func (.func 184) #[] #[.pointer (some ⟨w.heap.size,0,none⟩)])∧w'=w.alloc (.cells #[x,sv] 153):=by
 refine callsIn_of_wp Tryz.func132 rfl hf ?_ hro
 simp only [Tryz.ntmps132,List.size_toArray,List.length_cons,List.length_nil,Nat.reduceAdd,Nat.reduceSub,Array.replicate_succ,Array.replicate_zero,List.push_toArray,List.append_toArray,List.nil_append,List.cons_append]
 gi_wp2
 go_ret
 exact ⟨rfl,rfl⟩
theorem pairs_stops (F:Fence) (m:Nat) (hf:F.fn 184) (hro:F.round=none) (hm:1≤m) (Bm n b off cap:Nat) (hn0:0<n) (hn:n≤4) (w:World)
  (hBm:lies.Lies w Bm 153 #[.int .i64 n,.slice (some ⟨b,off,none⟩) (n*n) cap]):
  SeqStopsK F m Tryz.prog 184 #[.pointer (some ⟨Bm,0,none⟩)] (encs (n:=n)) (KB Bm) (fun ys=>ys=upto (nth n hn0) (n*n)) (fun pre=>∃ k,k≤n*n∧pre=upto (nth n hn0) k) (n*n) w:=fun l J Jx W hW hJ _ hY h0=>
 pairs1_in F m hf hro hm l Bm n b off cap hn0 hn J Jx (fun pre W h=>hJ pre W W.drew none h (grown_drew W none) (fun r e=>by cases e)) hY W (lies.on_call hBm hW) h0
end Go.Proofs.YthmljpccbjolgaaGreatDoor.dbm
namespace Go.Proofs.YthmljpccbjolgaaGreatDoor.dbm
open Go.RowKit
set_option linter.unusedVariables false
theorem rows_wide {n:Nat} {P:Program} {row:String} {args:Array Value} {w:World} {R:Value→World→Prop} (l:Nat) (h:Rows P row args w R):RowsIn (Fence.wide.inRound l) n P row args w R:=fun c cs _=>by
 obtain ⟨v,w',r,s⟩:=h c cs
 exact ⟨v,w',r,stepsIn_wide.2 s⟩
theorem op_round {P:Program} {ops:Array Oper} {Q:Exit→Act→World→Prop} (l n:Nat) (hd:∀ (i:Nat) (o:Oper) c,ops[i]?=some o→o.op≠.defer c) (hQ:¬ LetsOut Q) {i:Nat} {K K':Act→World→Prop} {a:Act} {w:World}
  (hK:∀ a w,K a w→K' a w) (h:wpOp P ops Q i K a w):wpOpIn (Fence.wide.inRound l) n P ops Q i K' a w:=by
 unfold wpOp at h
 unfold wpOpIn
 split at h
 ·rename_i e
  rw [e]
  exact hK _ _ h
 ·rename_i o e
  rw [e]
  dsimp only
  split at h
  ·rename_i hw
   rw [if_pos hw]
   rcases h with h | ⟨_,hl⟩
   ·refine ⟨fun _ _=>trivial,?_⟩
    unfold Oper.wp at h
    rw [Oper.semAt_eq _ _ _ (fun c=>hd i o c e)]
    generalize (execOp a.eval o).run P w=r at h
    cases r with
    | ok x w'=>
     cases x<;>simp only [Oper.upon,Oper.uponIn] at h ⊢
     case value=>exact hK _ _ h
     case skip=>exact hK _ _ h
     case defer=>exact hK _ _ h
     case enter f args=>
      refine ⟨(fun k=>by simp [Fence.wide,Fence.inRound] at k),CallsIn.inRound l (callsIn_wide.2 (h.mono fun e w'' he=>?_))⟩
      cases e with
      | returned u=>exact hK _ _ he
      | panicked c=>exact he
      | outgrown=>exact he
     case row=>exact ⟨(fun k=>by simp [Fence.wide,Fence.inRound] at k),rows_wide l (h.mono fun _ _ he=>hK _ _ he)⟩
    | halt x w'=>cases x<;>simp only [Oper.upon,Oper.uponIn] at h ⊢<;>exact h
   ·exact (hQ hl).elim
  ·rename_i hw
   rw [if_neg hw]
   exact ⟨fun _ _=>trivial,hK _ _ h⟩
theorem any_round {P:Program} {md:Region.Mode} {ops:Array Oper} {Q:Exit→Act→World→Prop} {S:World→Prop} (l n:Nat) (hd:∀ (i:Nat) (o:Oper) c,ops[i]?=some o→o.op≠.defer c) (hQ:¬ LetsOut Q):
  ∀ (fuel:Nat) (listed:Array Bool) (a:Act) (w:World),wpAnyH P md ops Q S fuel listed a w→wpAnyIn (Fence.wide.inRound l) n P md ops Q fuel listed a w
 | 0,_,_,_,h=>h
 | fuel+1,_,_,_,h=>⟨h.1,fun i hi=>op_round l n hd hQ (fun a' w' h'=>any_round l n hd hQ fuel _ a' w' h'.2) (h.2 i hi)⟩
def noDefers (ops:Array Oper):Bool:=ops.toList.all fun o=>match o.op with | .defer _=>false | _=>true
theorem noDefers_of {ops:Array Oper} (h:noDefers ops=true) (i:Nat) (o:Oper) (c:Call) (ho:ops[i]?=some o):o.op≠.defer c:=fun k=>by
 unfold noDefers at h
 have hm:o ∈ ops.toList:=by
  obtain ⟨h1,h2⟩:=Array.getElem?_eq_some_iff.1 ho
  rw [←h2]
  exact Array.getElem_mem_toList h1
 have:=List.all_eq_true.1 h o hm
 rw [k] at this
 exact Bool.noConfusion this
theorem region_round {P:Program} {id:Nat} {ops:Array Oper} {Q:Exit→Act→World→Prop} (S:World→Prop) {a:Act} {w:World} (l n:Nat) (hm:P.follows .mixedOrders=true) (hd:noDefers ops=true) (hQ:¬ LetsOut Q)
  (hS:S w.drew) (h:S w.drew→wpAnyH P .any ops Q S ops.size (Array.replicate ops.size false) a w.drew):(Code.region id ops true).wpIn (Fence.wide.inRound l) n P Q a w:=
 wpIn_region_any hm (any_round l n (noDefers_of hd) hQ _ _ _ _ (h hS))
/-! what a loop's invariant may say -/
theorem own_lies {β:Type} (B b:Nat) (t:TypeId) (f:β→Array Value):OwnFrom B (fun s W=>lies.Lies W b t (f s)):=fun s X Y row hs hg hr=>by
 have hs':X.heap[b]?=some (.cells (f s) t (0,0)):=hs
 refine (hg.block b (lies.lt hs) (fun e=>?_)).trans hs
 obtain ⟨_,o,ho,hc⟩:=hr b e.symm
 rw [hs'] at ho
 cases ho
 cases hc
theorem own_grown {β:Type} {B:Nat} {w:World} (row:Option Nat) (hB:w.heap.size≤B):OwnFrom B (fun (_:β) W=>w.grownBy W row):=fun s X Y r hs hg hr=>
 ⟨hg.os.trans hs.os,hg.tape.trans hs.tape,hg.output.trans hs.output,Nat.le_trans hs.size hg.size,fun k hk hne=>(hg.block k (Nat.lt_of_lt_of_le hk hs.size) (fun e=>by have:=(hr k e.symm).1;omega)).trans (hs.block k hk hne)⟩
theorem own_size {β:Type} (B n:Nat):OwnFrom B (fun (_:β) W=>n≤W.heap.size):=fun s X Y r hs hg hr=>Nat.le_trans hs hg.size
theorem grown_below {n:Nat} {w X Y:World} {row:Option Nat} (h:w.grownBy X row) (k:Below n X Y) (hn:w.heap.size≤n):w.grownBy Y row:=
 ⟨k.os.trans h.os,k.tape.trans h.tape,k.output.trans h.output,Nat.le_trans h.size k.size,fun i hi hne=>(k.block i (by omega)).trans (h.block i hi hne)⟩
theorem grown_set {w X:World} {g:Nat} (h:w.grownBy X (some g)) (i:Nat) (v:Value):w.grownBy (X.setCell ⟨g,i,none⟩ v) (some g):=
 ⟨h.os,h.tape,h.output,by simpa using h.size,fun k hk hne=>(Below.heap_setCell X ⟨g,i,none⟩ v k (fun e=>hne (by rw [e]))).trans (h.block k hk hne)⟩
theorem grown_refl (w:World) (row:Option Nat):w.grownBy w row:=⟨rfl,rfl,rfl,Nat.le_refl _,fun _ _ _=>rfl⟩
end Go.Proofs.YthmljpccbjolgaaGreatDoor.dbm
namespace Go.Proofs.YthmljpccbjolgaaGreatDoor.dbm
open Go.RowKit Go.Shelf num
open bound hiding up
attribute [local go_sem] Oper.semAt_some
set_option linter.unusedVariables false
set_option linter.unusedSimpArgs false
def cellsOf (ts:List Int):Array Value:=(ts.map (Value.int .i64)).toArray
theorem cells_at (ts:List Int) (p:Nat) (h:p<ts.length):(cellsOf ts)[p]?=some (.int .i64 (ts[p]?.getD 0)):=by
 simp [cellsOf,h]
theorem cells_set (ts:List Int) (p:Nat) (v:Int):(cellsOf ts).setIfInBounds p (.int .i64 v)=cellsOf (ts.set p v):=by
 simp [cellsOf,List.map_set]
def ovp (n k:Nat) (ts:List Int) (x:Nat × Nat):List Int:=ts.set (x.1*n+x.2) (lsr (tat ts n x.1 x.2) (sumV (tat ts n x.1 k) (tat ts n k x.2)))
def ovl (n k:Nat) (ts:List Int) (pre:List (Cl n)):List Int:=pre.foldl (fun t x=>ovp n k t x.1) ts
theorem ovl_snoc (n k:Nat) (ts:List Int) (pre:List (Cl n)) (x:Cl n):ovl n k ts (pre++[x])=ovp n k (ovl n k ts pre) x.1:=by simp [ovl]
theorem ovp_length (n k:Nat) (ts:List Int) (x:Nat × Nat):(ovp n k ts x).length=ts.length:=by simp [ovp]
theorem ovl_length (n k:Nat) (ts:List Int) (pre:List (Cl n)):(ovl n k ts pre).length=ts.length:=by
 unfold ovl
 induction pre generalizing ts with
 | nil=>rfl
 | cons x pre ih=>rw [List.foldl_cons,ih,ovp_length]
def Tops (ts:List Int):Prop:=∀ x ∈ ts,x≤9223372036854775807
theorem sum_top (a b:Int):sumV a b≤9223372036854775807:=by
 by_cases h:sumE a b=0
 ·exact sum_le h
 ·rw [sum_err h];decide
theorem lsr_le (x b:Int):lsr x b≤x∧lsr x b≤b:=by unfold lsr;split<;>omega
theorem tat_top {ts:List Int} (h:Tops ts) (n i j:Nat):tat ts n i j≤9223372036854775807:=by
 unfold tat
 by_cases k:i*n+j<ts.length
 ·rw [List.getElem?_eq_getElem k];exact h _ (List.getElem_mem k)
 ·rw [List.getElem?_eq_none (by omega)];decide
theorem tops_ovp {ts:List Int} (h:Tops ts) (n k:Nat) (x:Nat × Nat):Tops (ovp n k ts x):=fun y hy=>by
 rcases List.mem_or_eq_of_mem_set hy with hy | rfl
 ·exact h y hy
 ·exact Int.le_trans (lsr_le _ _).1 (tat_top h n _ _)
theorem tops_ovl {ts:List Int} (h:Tops ts) (n k:Nat) (pre:List (Cl n)):Tops (ovl n k ts pre):=by
 unfold ovl
 induction pre generalizing ts with
 | nil=>exact h
 | cons x pre ih=>exact ih (tops_ovp h n k x.1)
def Turned (g:Nat) (ts:List Int) (w:World) (e:Ending) (w':World):Prop:=e=.returned (.tuple #[])∧lies.Lies w' g 25 (cellsOf ts)∧w.grownBy w' (some g)
def Sov (n k i j g B cap:Nat) (us:List Int) (W:World):Prop:=
 W.cell? ⟨B,0,none⟩=some (.int .i64 n)∧W.cell? ⟨B,1,none⟩=some (.slice (some ⟨g,0,none⟩) (n*n) cap)∧W.cell? ⟨B+1,0,none⟩=some (.int .i64 k)∧W.cell? ⟨g,i*n+k,none⟩=some (.int .i64 (tat us n i k))∧W.cell? ⟨g,k*n+j,none⟩=some (.int .i64 (tat us n k j))∧B+1+1+1≤W.heap.size
theorem Sov.below {n k i j g B cap:Nat} {us:List Int} {W X:World} (hgB:g<B) (h:Sov n k i j g B cap us W) (hB:Below W.heap.size W X):Sov n k i j g B cap us X:=by
 obtain ⟨s0,s1,s2,s3,s4,s5⟩:=h
 exact ⟨(hB.cell (p:=⟨B,0,none⟩) (by show B<_;omega)).trans s0,(hB.cell (p:=⟨B,1,none⟩) (by show B<_;omega)).trans s1,(hB.cell (p:=⟨B+1,0,none⟩) (by show B+1<_;omega)).trans s2,(hB.cell (p:=⟨g,i*n+k,none⟩) (by show g<_;omega)).trans s3,(hB.cell (p:=⟨g,k*n+j,none⟩) (by show g<_;omega)).trans s4,Nat.le_trans s5 hB.size⟩
theorem lower_nat (n i j g cap:Nat) (x b:Int) (w:World) (hn:n≤4) (hi:i<n) (hj:j<n) (hg:g<w.heap.size) (hc:w.cell? ⟨g,i*n+j,none⟩=some (.int .i64 x)) (hf:w.frozen? ⟨g,i*n+j,none⟩=false):
  Calls Tryz.prog 143 #[.agg #[.int .i64 n,.slice (some ⟨g,0,none⟩) (n*n) cap],.int .i64 i,.int .i64 j,.int .i64 b] w (Put g (i*n+j) (.int .i64 (lsr x b)) w):=by
 have h1:=place_le hn hi hj
 have h2:=sq_le hn
 have e1:((i*n:Nat):Int)=(i:Int)*n:=Int.natCast_mul i n
 have e2:((i*n+j:Nat):Int)=(i:Int)*n+j:=by rw [Int.natCast_add,e1]
 refine lower_is n i j (i*n) (i*n+j) x b g (n*n) cap (i*n+j) w (wrap_small (by omega) (by omega)) (wrap_small (by omega) (by omega)) (by omega) ?_ (by omega) hg hc hf
 rw [←e2]
 exact Int.ofNat_lt.2 h1
theorem at_below (n i j b off cap:Nat) (w:World) (hn:n≤4) (hi:i<n) (hj:j<n):
  Calls Tryz.prog 133 #[.agg #[.int .i64 n,.slice (some ⟨b,off,none⟩) (n*n) cap],.int .i64 i,.int .i64 j] w fun e w'=>e=.returned (.pointer (some ⟨b,off+(i*n+j),none⟩))∧Below w.heap.size w w':=
 (at_nat n i j b off cap w hn hi hj).mono fun e w' ⟨he,hw⟩=>⟨he,by subst hw;exact dbm.up (Below.refl _ _) (Nat.le_refl _) _⟩
set_option maxRecDepth 100000 in
set_option maxHeartbeats 2000000 in
theorem over_any (n k g cap:Nat) (ts:List Int) (w:World) (hn0:0<n) (hn:n≤4) (hk:k<n) (hl:ts.length=n*n) (htop:Tops ts) (hg:lies.Lies w g 25 (cellsOf ts)):
  Calls Tryz.prog 145 #[.agg #[.int .i64 n,.slice (some ⟨g,0,none⟩) (n*n) cap],.int .i64 k] w (Turned g (ovl n k ts (upto (nth n hn0) (n*n))) w):=by
 have HL:=Lib.hid hl
 have HT:=Lib.hid htop
 clear hl htop
 have hgw:=lies.lt hg
 refine callsIn_wide (n:=4).1 ?_
 refine callsIn_of_wp_marks Tryz.func145 rfl trivial ?_ rfl
 simp only [Tryz.ntmps145,List.size_toArray,List.length_cons,List.length_nil,Nat.reduceAdd,Nat.reduceSub,Array.replicate_succ,Array.replicate_zero,List.push_toArray,List.append_toArray,List.nil_append,List.cons_append]
 gi_wp2
 refine ⟨trivial,(pairs_in Fence.wide 3 trivial rfl _ _ _ rfl rfl).mono ?_⟩
 rintro e w' ⟨rfl,rfl⟩
 gi_wp2
 have d0:lies.Lies (((w.alloc (.cells #[.int .i64 n,.slice (some ⟨g,0,none⟩) (n*n) cap] 153)).alloc (.cells #[.int .i64 k] 3)).alloc (.cells #[.int .i64 n,.slice (some ⟨g,0,none⟩) (n*n) cap] 153)) w.heap.size 153 #[.int .i64 n,.slice (some ⟨g,0,none⟩) (n*n) cap]:=lies.on_alloc (lies.on_alloc (lies.made w _ _) _) _
 have d1:lies.Lies (((w.alloc (.cells #[.int .i64 n,.slice (some ⟨g,0,none⟩) (n*n) cap] 153)).alloc (.cells #[.int .i64 k] 3)).alloc (.cells #[.int .i64 n,.slice (some ⟨g,0,none⟩) (n*n) cap] 153)) (w.heap.size+1) 3 #[.int .i64 k]:=lies.on_alloc (lies.made_at _ _ _ _ (World.size_alloc _ _)) _
 have d2:lies.Lies (((w.alloc (.cells #[.int .i64 n,.slice (some ⟨g,0,none⟩) (n*n) cap] 153)).alloc (.cells #[.int .i64 k] 3)).alloc (.cells #[.int .i64 n,.slice (some ⟨g,0,none⟩) (n*n) cap] 153)) (w.heap.size+1+1) 153 #[.int .i64 n,.slice (some ⟨g,0,none⟩) (n*n) cap]:=lies.made_at _ _ _ _ (by simp)
 have d3:lies.Lies (((w.alloc (.cells #[.int .i64 n,.slice (some ⟨g,0,none⟩) (n*n) cap] 153)).alloc (.cells #[.int .i64 k] 3)).alloc (.cells #[.int .i64 n,.slice (some ⟨g,0,none⟩) (n*n) cap] 153)) g 25 (cellsOf ts):=lies.on_alloc (lies.on_alloc (lies.on_alloc hg _) _) _
 have d4:w.grownBy (((w.alloc (.cells #[.int .i64 n,.slice (some ⟨g,0,none⟩) (n*n) cap] 153)).alloc (.cells #[.int .i64 k] 3)).alloc (.cells #[.int .i64 n,.slice (some ⟨g,0,none⟩) (n*n) cap] 153)) (some g):=grown_below (grown_refl w _) (((Below.refl w.heap.size w).alloc (Nat.le_refl _) _).alloc (by simp) _ |>.alloc (by simp;omega) _) (Nat.le_refl _)
 have d5:w.heap.size+1+1<((((w.alloc (.cells #[.int .i64 n,.slice (some ⟨g,0,none⟩) (n*n) cap] 153)).alloc (.cells #[.int .i64 k] 3)).alloc (.cells #[.int .i64 n,.slice (some ⟨g,0,none⟩) (n*n) cap] 153))).heap.size:=by simp
 refine wpIn_rangeFunc_ownG (F:=Fence.wide) (n:=4) rfl (by omega) (gf:=184) (lb:=#[.pointer (some ⟨w.heap.size+1+1,0,none⟩)]) rfl trivial (enters_of Tryz.func184 (by kernel_rfl) rfl)
  (pairs_stops Fence.wide (4 - 1) trivial rfl (by omega) (w.heap.size+1+1) n g 0 cap hn0 hn _ d2) KB.trans (KB.put d5) (Below.refl _ _) (fun _=>by rfl)
  (fun pre W=>lies.Lies W g 25 (cellsOf (ovl n k ts pre))∧lies.Lies W w.heap.size 153 #[.int .i64 n,.slice (some ⟨g,0,none⟩) (n*n) cap]∧lies.Lies W (w.heap.size+1) 3 #[.int .i64 k]∧w.grownBy W (some g)∧w.heap.size+1+1+1≤W.heap.size)
  (fun _ _ _=>False)
  (OwnFrom.and (own_lies _ _ _ _) (OwnFrom.and (own_lies _ _ _ (fun _=>_)) (OwnFrom.and (own_lies _ _ _ (fun _=>_)) (OwnFrom.and (own_grown _ (by simp;omega)) (own_size _ _)))))
  (fun _ _ _ _ _ hs _ _=>hs)
  ⟨d3,d0,d1,d4,d5⟩
  (fun x=>{tmps:=#[.agg #[.int .i64 n,.slice (some ⟨g,0,none⟩) (n*n) cap],.int .i64 k,.pointer (some ⟨w.heap.size,0,none⟩),.pointer (some ⟨w.heap.size+1,0,none⟩),.int .i64 (x.1.1:Int),.int .i64 (x.1.2:Int),undef,undef,.agg #[.int .i64 n,.slice (some ⟨g,0,none⟩) (n*n) cap],.func (.func 184) #[] #[.pointer (some ⟨w.heap.size+1+1,0,none⟩)],.int .i64 (x.1.1:Int),.int .i64 (x.1.2:Int),undef,undef,undef,undef,undef,undef,undef,undef,undef,undef,undef,undef,undef,undef,undef,undef,undef,undef,undef,undef,undef],defers:=[]}) ?assign ?body ?done ?stop
 case assign=>
  intro l x W K hK
  gi_wp2
  exact hK
 case body=>
  rintro l pre x W ⟨hT,hM,hKk,hG,hz⟩ _
  obtain ⟨⟨i,j⟩,hi,hj⟩:=x
  dsimp only at hi hj
  obtain ⟨us,hus⟩:∃ us,us=ovl n k ts pre:=⟨_,rfl⟩
  rw [←hus] at hT
  have hlen:us.length=n*n:=by rw [hus,ovl_length];exact HL.out
  have p1:=place_le hn hi hk
  have p2:=place_le hn hk hj
  have p3:=place_le hn hi hj
  have x1:tat us n i k≤9223372036854775807:=hus ▸ tat_top (tops_ovl HT.out n k pre) n i k
  have x2:tat us n k j≤9223372036854775807:=hus ▸ tat_top (tops_ovl HT.out n k pre) n k j
  have HS:=Lib.hid hus
  have HN:=Lib.hid hlen
  have P1:=Lib.hid p1
  have P2:=Lib.hid p2
  have P3:=Lib.hid p3
  have S0:Sov n k i j g w.heap.size cap us W.drew:=⟨(lies.two hM).1,(lies.two hM).2.1,lies.cell hKk 0,(lies.cell hT (i*n+k)).trans (cells_at us _ (by rw [hlen];exact p1)),(lies.cell hT (k*n+j)).trans (cells_at us _ (by rw [hlen];exact p2)),hz⟩
  clear hus hlen p1 p2 p3
  gi_wp2
  have hB:Below W.heap.size W W.drew:=dbm.drawn1 (Below.refl _ _)
  refine region_round (Sov n k i j g w.heap.size cap us) l _ (by kernel_rfl) (by kernel_rfl) (fun ⟨_,_,h⟩=>h) S0 (fun hHeld=>?_)
  refine tk 0 (v:=?_) rfl hHeld ?_ ?_
  rotate_left
  ·intro w hSw;obtain ⟨s0,s1,s2,s3,s4,s5⟩:=hSw;go_simp;try with_reducible rfl
  try simp only [Act.put,sA,sB,sC,sD,sE,sF]
  refine tk 1 (v:=?_) rfl hHeld ?_ ?_
  rotate_left
  ·intro w hSw;obtain ⟨s0,s1,s2,s3,s4,s5⟩:=hSw;go_simp;try with_reducible rfl
  try simp only [Act.put,sA,sB,sC,sD,sE,sF]
  refine tk 2 (v:=?_) rfl hHeld ?_ ?_
  rotate_left
  ·intro w hSw;obtain ⟨s0,s1,s2,s3,s4,s5⟩:=hSw;go_simp;try with_reducible rfl
  try simp only [Act.put,sA,sB,sC,sD,sE,sF]
  refine tk 6 (v:=?_) rfl hHeld ?_ ?_
  rotate_left
  ·intro w hSw;obtain ⟨s0,s1,s2,s3,s4,s5⟩:=hSw;go_simp;try with_reducible rfl
  try simp only [Act.put,sA,sB,sC,sD,sE,sF]
  refine tk 7 (v:=?_) rfl hHeld ?_ ?_
  rotate_left
  ·intro w hSw;obtain ⟨s0,s1,s2,s3,s4,s5⟩:=hSw;go_simp;try with_reducible rfl
  try simp only [Act.put,sA,sB,sC,sD,sE,sF]
  refine tk 8 (v:=?_) rfl hHeld ?_ ?_
  rotate_left
  ·intro w hSw;obtain ⟨s0,s1,s2,s3,s4,s5⟩:=hSw;go_simp;try with_reducible rfl
  try simp only [Act.put,sA,sB,sC,sD,sE,sF]
  refine wpAnyH_ready (rs:=[3]) (by kernel_rfl) (by simp) (AllReadyH.cons rfl (fun K hK=>?_) AllReadyH.nil)
  go_simp
  refine (at_below n i k g 0 cap _ hn hi hk).mono ?_
  rintro e W4 ⟨rfl,hW4⟩
  refine hK.out _ _ (Sov.below hgw hHeld hW4) (fun hNew=>?_)
  clear hHeld hK K
  have hHeld:=hNew
  clear hNew
  replace hB:=hB.trans (hW4.mono hB.size)
  clear hW4
  try simp only [Act.put,sA,sB,sC,sD,sE,sF]
  refine tk 4 (v:=?_) rfl hHeld ?_ ?_
  rotate_left
  ·intro w hSw;obtain ⟨s0,s1,s2,s3,s4,s5⟩:=hSw;go_simp;try with_reducible rfl
  try simp only [Act.put,sA,sB,sC,sD,sE,sF]
  refine tk 5 (v:=?_) rfl hHeld ?_ ?_
  rotate_left
  ·intro w hSw;obtain ⟨s0,s1,s2,s3,s4,s5⟩:=hSw;go_simp;try with_reducible rfl
  try simp only [Act.put,sA,sB,sC,sD,sE,sF]
  refine wpAnyH_ready (rs:=[9]) (by kernel_rfl) (by simp) (AllReadyH.cons rfl (fun K hK=>?_) AllReadyH.nil)
  go_simp
  refine (at_below n k j g 0 cap _ hn hk hj).mono ?_
  rintro e W5 ⟨rfl,hW4⟩
  refine hK.out _ _ (Sov.below hgw hHeld hW4) (fun hNew=>?_)
  clear hHeld hK K
  have hHeld:=hNew
  clear hNew
  replace hB:=hB.trans (hW4.mono hB.size)
  clear hW4
  try simp only [Act.put,sA,sB,sC,sD,sE,sF]
  refine tk 10 (v:=?_) rfl hHeld ?_ ?_
  rotate_left
  ·intro w hSw;obtain ⟨s0,s1,s2,s3,s4,s5⟩:=hSw;go_simp;try with_reducible rfl
  try simp only [Act.put,sA,sB,sC,sD,sE,sF]
  refine tk 11 (v:=?_) rfl hHeld ?_ ?_
  rotate_left
  ·intro w hSw;obtain ⟨s0,s1,s2,s3,s4,s5⟩:=hSw;go_simp;try with_reducible rfl
  try simp only [Act.put,sA,sB,sC,sD,sE,sF]
  refine wpAnyH_ready (rs:=[12]) (by kernel_rfl) (by simp) (AllReadyH.cons rfl (fun K hK=>?_) AllReadyH.nil)
  go_simp
  refine (add2_any (tat us n i k) (tat us n k j) _ x1 x2).mono ?_
  rintro e W6 ⟨rfl,hW4⟩
  refine hK.out _ _ (Sov.below hgw hHeld hW4) (fun hNew=>?_)
  clear hHeld hK K
  have hHeld:=hNew
  clear hNew
  replace hB:=hB.trans (hW4.mono hB.size)
  clear hW4
  try simp only [Act.put,sA,sB,sC,sD,sE,sF]
  refine tk 13 (v:=?_) rfl hHeld ?_ ?_
  rotate_left
  ·intro w hSw;obtain ⟨s0,s1,s2,s3,s4,s5⟩:=hSw;go_simp;try with_reducible rfl
  try simp only [Act.put,sA,sB,sC,sD,sE,sF]
  refine tk 14 (v:=?_) rfl hHeld ?_ ?_
  rotate_left
  ·intro w hSw;obtain ⟨s0,s1,s2,s3,s4,s5⟩:=hSw;go_simp;try with_reducible rfl
  try simp only [Act.put,sA,sB,sC,sD,sE,sF]
  refine tk 15 (v:=?_) rfl hHeld ?_ ?_
  rotate_left
  ·intro w hSw;obtain ⟨s0,s1,s2,s3,s4,s5⟩:=hSw;go_simp;try with_reducible rfl
  try simp only [Act.put,sA,sB,sC,sD,sE,sF]
  refine tk 16 (v:=?_) rfl hHeld ?_ ?_
  rotate_left
  ·intro w hSw;obtain ⟨s0,s1,s2,s3,s4,s5⟩:=hSw;go_simp;try with_reducible rfl
  try simp only [Act.put,sA,sB,sC,sD,sE,sF]
  refine tk 17 (v:=?_) rfl hHeld ?_ ?_
  rotate_left
  ·intro w hSw;obtain ⟨s0,s1,s2,s3,s4,s5⟩:=hSw;go_simp;try with_reducible rfl
  try simp only [Act.put,sA,sB,sC,sD,sE,sF]
  refine wpAnyH_done (by kernel_rfl) ?_ _
  have hT6:=lies.on_call hT hB
  have hM6:=lies.on_call hM hB
  have hK6:=lies.on_call hKk hB
  have hg6:g<W6.heap.size:=lies.lt hT6
  have hc6:W6.cell? ⟨g,i*n+j,none⟩=some (.int .i64 (tat us n i j)):=(lies.cell hT6 (i*n+j)).trans (cells_at us _ (by rw [HN.out];exact P3.out))
  have hf6:W6.frozen? ⟨g,i*n+j,none⟩=false:=lies.free hT6 _
  obtain ⟨c0,c1,c2,c3,c4⟩:=lies.two hM6
  clear S0 hHeld
  have HC:=Lib.hid hc6
  clear hc6
  generalize hs:sumV (tat us n i k) (tat us n k j)=s
  generalize sumE (tat us n i k) (tat us n k j)=s'
  have HV:=Lib.hid hs
  clear hs
  gi_wp2
  refine ⟨trivial,CallsIn.inRound l (callsIn_wide.2 ((lower_nat n i j g cap (tat us n i j) s W6 hn hi hj hg6 HC.out hf6).mono ?_))⟩
  rintro e W7 ⟨rfl,hP⟩
  have q1:=grown_below (grown_set (grown_below (grown_refl W (some g)) hB (Nat.le_refl _)) (i*n+j) (.int .i64 (lsr (tat us n i j) s))) hP hB.size
  have q2:w.grownBy W7 (some g):=grown_below (grown_set (grown_below hG hB hG.size) (i*n+j) (.int .i64 (lsr (tat us n i j) s))) hP (Nat.le_trans hG.size hB.size)
  have q3:=lies.on_call (lies.on_put hT6 (i*n+j) (.int .i64 (lsr (tat us n i j) s))) (hP.mono (by simp))
  rw [cells_set] at q3
  have q4:=lies.on_call (lies.on_far hM6 (i*n+j) (Nat.ne_of_gt hgw) (.int .i64 (lsr (tat us n i j) s))) (hP.mono (by simp))
  have q5:=lies.on_call (lies.on_far hK6 (i*n+j) (by omega) (.int .i64 (lsr (tat us n i j) s))) (hP.mono (by simp))
  have q6:=q1.size
  have Q:=Lib.hid (And.intro q1 (And.intro q2 (And.intro q3 (And.intro q4 q5))))
  clear q1 q2 q3 q4 q5 c0 c1 c2 c3 c4
  gi_wp2
  obtain ⟨q1,q2,q3,q4,q5⟩:=Q.out
  refine ⟨KeepsFrom.of_grownBy q1 (fun r e=>by cases e;simp;omega),q1.block _ (by omega) (fun e=>by cases e;omega),?_,q4,q5,q2,by omega⟩
  rw [ovl_snoc,←HS.out]
  unfold ovp
  rw [HV.out]
  exact q3
 case done=>
  rintro D ys W hD rfl ⟨hT,hM,hKk,hG,hz⟩ hK
  gi_wp2
  have hDw:w.heap.size≤D:=by simp at hD;omega
  refine ⟨by simp,.inl ⟨_,_,rfl,run_takeDeferred hK,?_⟩⟩
  refine ⟨_,results_none rfl _ _ _,rfl,?_,?_⟩
  ·exact Eq.trans (World.putObj_heap_other (by omega)) hT
  ·exact own_grown (β:=Unit) (B:=w.heap.size) (some g) (Nat.le_refl _) () W _ (some D) hG (grownBy_putObj' W D _) (fun r e=>by cases e;exact ⟨hDw,_,hK,rfl⟩)
 case stop=>
  rintro D c pre W hD _ h _
  exact h.elim
end Go.Proofs.YthmljpccbjolgaaGreatDoor.dbm
namespace Go.Proofs.YthmljpccbjolgaaGreatDoor.dbm
open Go.ChangeShapes Go.WideShapes Go.ChangeAt Go.RowKit num
open bound hiding up
set_option linter.unusedVariables false
def Fine (b:Int):Prop:=b=9223372036854775807∨(-288230376151711744≤b / 2∧b / 2≤288230376151711744)
instance decFine (b:Int):Decidable (Fine b):=by unfold Fine;exact inferInstance
theorem beyond_no (b : Int) (w : World) (h : Fine b) : Calls Tryz.prog 141 #[.int .i64 b] w fun e w' => e = .returned (.bool false) ∧ Below w.heap.size w w' := by
 rcases h with rfl | ⟨h1,h2⟩
 ·go_enter Tryz.func141,Tryz.ntmps141
  go_wp2_with (go_at_call 187; refine (value_none _).mono ?_; rintro e w1 ⟨rfl,hB1⟩)
  go_ret
  exact ⟨rfl,hB1⟩
 ·have hm : May (b / 2) := by unfold May; omega
  have t1 : decide (b / 2 < -288230376151711744) = false := decide_eq_false (by omega)
  have t2 : decide (288230376151711744 < b / 2) = false := decide_eq_false (by omega)
  go_enter Tryz.func141,Tryz.ntmps141
  go_wp2_with (go_at_call 187; refine (value_ok _ _ hm).mono ?_; rintro e w1 ⟨rfl,hB1⟩)
  go_ret
  exact ⟨rfl,hB1⟩
theorem beyond_yes (b : Int) (w : World) (hw : b ≤ 9223372036854775807) (h : ¬ Fine b) : Calls Tryz.prog 141 #[.int .i64 b] w fun e w' => e = .returned (.bool true) ∧ Below w.heap.size w w' := by
 rcases three b hw with rfl | ⟨h0,hm⟩ | ⟨h0,hm⟩
 ·exact (h (.inl rfl)).elim
 ·by_cases h1 : b / 2 < -288230376151711744
  ·clear h
   go_enter Tryz.func141,Tryz.ntmps141
   go_wp2_with (go_at_call 187; refine (value_ok _ _ hm).mono ?_; rintro e w1 ⟨rfl,hB1⟩)
   go_ret
   exact ⟨rfl,hB1⟩
  ·have h2 : 288230376151711744 < b / 2 := Decidable.byContradiction fun k => h (.inr ⟨by omega,by omega⟩)
   clear h
   go_enter Tryz.func141,Tryz.ntmps141
   go_wp2_with (go_at_call 187; refine (value_ok _ _ hm).mono ?_; rintro e w1 ⟨rfl,hB1⟩)
   go_ret
   exact ⟨rfl,hB1⟩
 ·have H := Lib.hid hm
  clear hm h
  go_enter Tryz.func141,Tryz.ntmps141
  go_wp2_with (go_at_call 187; refine (value_no _ _ h0 H.out).mono ?_; rintro e w1 ⟨rfl,hB1⟩)
  go_ret
  exact ⟨rfl,hB1⟩
def Idx (ts:List Int) (w:World) (e:Ending) (w':World):Prop:=Below w.heap.size w w'∧((e=.returned (.int .i64 (-1))∧∀ p,p<ts.length→Fine (ts[p]?.getD 0))∨∃ k:Nat,k<ts.length∧e=.returned (.int .i64 k)∧¬ Fine (ts[k]?.getD 0))
theorem idx_nil (a:Option Addr) (cap:Nat) (w:World):
  Calls Tryz.prog 186 #[.slice a 0 cap,.func (.func 141) #[] #[]] w (Idx [] w):=by
 go_enter Tryz.func186,Tryz.ntmps186
 go_wp2
 go_loop [8] (fun i=>i=.int .i64 0) (fun _=>0)
 case atStart=>rfl
 case round=>
  obtain rfl:=hrel
  go_wp2
  go_ret
  exact ⟨Below.refl _ _,.inl ⟨rfl,fun p hp=>absurd hp (by simp)⟩⟩
set_option maxHeartbeats 1000000 in
theorem idx_row (b off len cap:Nat) (ts:List Int) (w:World) (hr:Row w b off ts) (hb:b<w.heap.size) (hl:ts.length=len) (hm:len≤9223372036854775807) (htop:∀ x ∈ ts,x≤9223372036854775807):
  Calls Tryz.prog 186 #[.slice (some ⟨b,off,none⟩) len cap,.func (.func 141) #[] #[]] w (Idx ts w):=by
 have HR:=Lib.hid hr
 have HL:=Lib.hid hl
 have HT:=Lib.hid htop
 clear hr hl htop
 go_enter Tryz.func186,Tryz.ntmps186
 go_wp2
 go_loopw [8] (fun i wr=>∃ k:Nat,k≤len∧i=.int .i64 k∧RowKit.Hid (∀ p,p<k→Fine (ts[p]?.getD 0))∧Below w.heap.size w wr)
  (fun i _=>len - (intOf i).toNat)
 case atStart=>exact ⟨0,Nat.zero_le _,rfl,Lib.hid (fun m hm=>absurd hm (by omega)),Below.refl _ _⟩
 case round=>
  obtain ⟨k,hk,rfl,hpos,hB⟩:=hrel
  by_cases hkn:k<len
  ·have hc:wr.cell? ⟨b,off+k,none⟩=some (.int .i64 (ts[k]?.getD 0)):=(HR.out.below hB hb) _ (by rw [HL.out];exact hkn)
   have hxt:ts[k]?.getD 0≤9223372036854775807:=by
    have h1:k<ts.length:=by rw [HL.out];exact hkn
    rw [List.getElem?_eq_getElem h1]
    exact HT.out _ (List.getElem_mem h1)
   generalize hx:ts[k]?.getD 0=x at hc hxt
   have HX:=Lib.hid hx
   clear hx
   by_cases h1:Fine x
   ·have H1:=Lib.hid h1
    clear h1
    go_wp2_with (go_at_call 141;refine (beyond_no x _ H1.out).mono ?_;rintro e w1 ⟨rfl,hB1⟩)
    go_roundw
    case rel=>exact ⟨k+1,by omega,by go_num,Lib.hid (fun m hm=>by
     by_cases e:m=k
     ·subst e;rw [HX.out];exact H1.out
     ·exact hpos.out m (by omega)),hB.trans (hB1.mono hB.size)⟩
    case measure=>simp [intOf];omega
   ·have H1:=Lib.hid h1
    clear h1
    go_wp2_with (go_at_call 141;refine (beyond_yes x _ hxt H1.out).mono ?_;rintro e w1 ⟨rfl,hB1⟩)
    go_ret
    exact ⟨hB.trans (hB1.mono hB.size),.inr ⟨k,by rw [HL.out];exact hkn,rfl,by rw [HX.out];exact H1.out⟩⟩
  ·obtain rfl:k=len:=by omega
   go_wp2
   go_ret
   exact ⟨hB,.inl ⟨rfl,fun p hp=>hpos.out p (by rw [←HL.out];exact hp)⟩⟩
theorem idx_any (sv:Value) (ts:List Int) (w:World) (hI:law.Ints w.heap.size w sv ts) (hm:ts.length≤9223372036854775807) (htop:∀ x ∈ ts,x≤9223372036854775807):
  Calls Tryz.prog 186 #[sv,.func (.func 141) #[] #[]] w (Idx ts w):=by
 rcases hI with ⟨⟨a,cap,rfl,_⟩,rfl⟩ | ⟨b,off,cap,rfl,hb,hc⟩
 ·exact idx_nil a cap w
 ·exact idx_row b off _ cap ts w hc hb rfl hm htop
theorem contains_any (sv:Value) (ts:List Int) (w:World) (hI:law.Ints w.heap.size w sv ts) (hm:ts.length≤9223372036854775807) (htop:∀ x ∈ ts,x≤9223372036854775807):
  Calls Tryz.prog 140 #[sv,.func (.func 141) #[] #[]] w fun e w'=>e=.returned (.bool (!decide (∀ p,p<ts.length→Fine (ts[p]?.getD 0))))∧Below w.heap.size w w':=by
 have HI:=Lib.hid hI
 have HT:=Lib.hid htop
 clear hI htop
 by_cases hf:∀ p,p<ts.length→Fine (ts[p]?.getD 0)
 ·rw [decide_eq_true hf]
  have HF:=Lib.hid hf
  clear hf
  go_enter Tryz.func140,Tryz.ntmps140
  go_wp2_with (go_at_call 186;refine ((idx_any sv ts w HI.out hm HT.out).mono (R':=fun e w'=>e=.returned (.int .i64 (-1))∧Below w.heap.size w w') (fun e w' h=>h.2.elim (fun k=>⟨k.1,h.1⟩) (fun ⟨k,hk,_,hn⟩=>(hn (HF.out k hk)).elim))).mono ?_;rintro e w1 ⟨rfl,hB1⟩)
  go_ret
  exact ⟨rfl,hB1⟩
 ·rw [decide_eq_false hf]
  have HF:=Lib.hid hf
  clear hf
  go_enter Tryz.func140,Tryz.ntmps140
  go_wp2_with (go_at_call 186;refine ((idx_any sv ts w HI.out hm HT.out).mono (R':=fun e w'=>(∃ k:Nat,e=.returned (.int .i64 k))∧Below w.heap.size w w') (fun e w' h=>h.2.elim (fun k=>(HF.out k.2).elim) (fun ⟨k,_,he,_⟩=>⟨⟨k,he⟩,h.1⟩))).mono ?_;rintro e w1 ⟨⟨k,rfl⟩,hB1⟩)
  go_ret
  exact ⟨rfl,hB1⟩
def MayD (n:Int) (ts:List Int):Prop:=1≤n∧n≤4∧(ts.length:Int)=n*n∧∀ p,p<ts.length→Fine (ts[p]?.getD 0)
theorem four {n:Int} (h1:1≤n) (h2:n≤4):n=1∨n=2∨n=3∨n=4:=by omega
theorem ints_len {n₀:Nat} {W:World} {sv:Value} {ts:List Int} (h:law.Ints n₀ W sv ts):∃ a cap,sv=.slice a ts.length cap:=by
 rcases h with ⟨⟨a,cap,rfl,_⟩,rfl⟩ | ⟨b,off,cap,rfl,_⟩
 ·exact ⟨a,cap,rfl⟩
 ·exact ⟨_,cap,rfl⟩
set_option maxHeartbeats 1000000 in
theorem check_no (n:Int) (sv:Value) (ts:List Int) (w:World) (hI:law.Ints w.heap.size w sv ts) (hm:ts.length≤1000000) (htop:∀ x ∈ ts,x≤9223372036854775807) (h:¬ MayD n ts):
  Calls Tryz.prog 97 #[.agg #[.int .i64 n,sv]] w fun e w'=>e=.returned (.int .i64 8)∧Below w.heap.size w w':=by
 have hI1:law.Ints (w.alloc (.cells #[.int .i64 n,sv] 81)).heap.size (w.alloc (.cells #[.int .i64 n,sv] 81)) sv ts:=(hI.below ((Below.refl _ w).alloc (Nat.le_refl _) _)).mono (by simp)
 obtain ⟨a,cap,rfl⟩:=ints_len hI
 by_cases c1:n<1
 ·clear h hI hI1 htop
  go_enter Tryz.func97,Tryz.ntmps97
  go_wp2
  go_ret
  exact ⟨rfl,(Below.refl _ _).alloc (Nat.le_refl _) _⟩
 ·by_cases c2:4<n
  ·clear h hI hI1 htop
   go_enter Tryz.func97,Tryz.ntmps97
   go_wp2
   go_ret
   exact ⟨rfl,(Below.refl _ _).alloc (Nat.le_refl _) _⟩
  ·by_cases c3:(ts.length:Int)=n*n
   ·have hf:¬ ∀ p,p<ts.length→Fine (ts[p]?.getD 0):=fun k=>h ⟨by omega,by omega,c3,k⟩
    have HI:=Lib.hid hI1
    have HT:=Lib.hid htop
    have HF:=Lib.hid hf
    have hbool:=decide_eq_false hf
    clear h hI hI1 htop hf
    have HC:=fun w' h'=>(contains_any (.slice a ts.length cap) ts w' h' (by omega) HT.out)
    rw [hbool] at HC
    have HCC:=Lib.hid HC
    clear HC hbool
    obtain ⟨m,hm'⟩:∃ m,m=ts.length:=⟨_,rfl⟩
    rw [←hm'] at c3 HCC HI ⊢
    clear hm'
    rcases four (n:=n) (by omega) (by omega) with rfl | rfl | rfl | rfl
    all_goals
     obtain rfl:m=_:=by
      first | exact (by omega:m=1) | exact (by omega:m=4) | exact (by omega:m=9) | exact (by omega:m=16)
     clear c1 c2 c3
     go_enter Tryz.func97,Tryz.ntmps97
     go_wp2_with (go_at_call 140;refine (HCC.out _ HI.out).mono ?_;rintro e w1 ⟨rfl,hB1⟩)
     go_ret
     exact ⟨rfl,((Below.refl _ w).alloc (Nat.le_refl _) _).trans (hB1.mono (by simp))⟩
   ·clear h hI hI1 htop
    obtain ⟨m,hm'⟩:∃ m,m=ts.length:=⟨_,rfl⟩
    rw [←hm'] at c3 ⊢
    clear hm' hm
    rcases four (n:=n) (by omega) (by omega) with rfl | rfl | rfl | rfl
    ·have c4:((m:Int) !=1)=true:=by simp;omega
     have c5:((m:Int)==1)=false:=by simp;omega
     have c6:¬ m=1:=by omega
     clear c1 c2 c3
     go_enter Tryz.func97,Tryz.ntmps97
     go_wp2
     go_ret
     exact ⟨rfl,(Below.refl _ _).alloc (Nat.le_refl _) _⟩
    ·have c4:((m:Int) !=4)=true:=by simp;omega
     have c5:((m:Int)==4)=false:=by simp;omega
     have c6:¬ m=4:=by omega
     clear c1 c2 c3
     go_enter Tryz.func97,Tryz.ntmps97
     go_wp2
     go_ret
     exact ⟨rfl,(Below.refl _ _).alloc (Nat.le_refl _) _⟩
    ·have c4:((m:Int) !=9)=true:=by simp;omega
     have c5:((m:Int)==9)=false:=by simp;omega
     have c6:¬ m=9:=by omega
     clear c1 c2 c3
     go_enter Tryz.func97,Tryz.ntmps97
     go_wp2
     go_ret
     exact ⟨rfl,(Below.refl _ _).alloc (Nat.le_refl _) _⟩
    ·have c4:((m:Int) !=16)=true:=by simp;omega
     have c5:((m:Int)==16)=false:=by simp;omega
     have c6:¬ m=16:=by omega
     clear c1 c2 c3
     go_enter Tryz.func97,Tryz.ntmps97
     go_wp2
     go_ret
     exact ⟨rfl,(Below.refl _ _).alloc (Nat.le_refl _) _⟩
set_option maxHeartbeats 1000000 in
theorem check_ok (n:Int) (sv:Value) (ts:List Int) (w:World) (hI:law.Ints w.heap.size w sv ts) (htop:∀ x ∈ ts,x≤9223372036854775807) (h:MayD n ts):
  Calls Tryz.prog 97 #[.agg #[.int .i64 n,sv]] w fun e w'=>e=.returned (.int .i64 0)∧Below w.heap.size w w':=by
 have hI1:law.Ints (w.alloc (.cells #[.int .i64 n,sv] 81)).heap.size (w.alloc (.cells #[.int .i64 n,sv] 81)) sv ts:=(hI.below ((Below.refl _ w).alloc (Nat.le_refl _) _)).mono (by simp)
 obtain ⟨a,cap,rfl⟩:=ints_len hI
 obtain ⟨h1,h2,c3,hf⟩:=h
 have hlen:ts.length≤16:=by
  rcases four (n:=n) (by omega) (by omega) with rfl | rfl | rfl | rfl<;>omega
 have HI:=Lib.hid hI1
 have HT:=Lib.hid htop
 have hbool:=decide_eq_true hf
 clear hI hI1 htop hf
 have HC:=fun w' h'=>(contains_any (.slice a ts.length cap) ts w' h' (by omega) HT.out)
 rw [hbool] at HC
 have HCC:=Lib.hid HC
 clear HC hbool
 obtain ⟨m,hm'⟩:∃ m,m=ts.length:=⟨_,rfl⟩
 rw [←hm'] at c3 HCC HI ⊢
 clear hm' hlen
 rcases four (n:=n) (by omega) (by omega) with rfl | rfl | rfl | rfl
 all_goals
  obtain rfl:m=_:=by
   first | exact (by omega:m=1) | exact (by omega:m=4) | exact (by omega:m=9) | exact (by omega:m=16)
  clear h1 h2 c3
  go_enter Tryz.func97,Tryz.ntmps97
  go_wp2_with (go_at_call 140;refine (HCC.out _ HI.out).mono ?_;rintro e w1 ⟨rfl,hB1⟩)
  go_ret
  exact ⟨rfl,((Below.refl _ w).alloc (Nat.le_refl _) _).trans (hB1.mono (by simp))⟩
instance decMayD (n:Int) (ts:List Int):Decidable (MayD n ts):=by unfold MayD;exact inferInstance
end Go.Proofs.YthmljpccbjolgaaGreatDoor.dbm
namespace Go.Proofs.YthmljpccbjolgaaGreatDoor.dbm
open Go.ChangeShapes Go.WideShapes Go.ChangeAt Go.RowKit num
open bound hiding up
set_option linter.unusedVariables false
theorem info_b:(Tryz.prog.info? 25).map (fun i=>(i.zero,i.size,i.bytes))=some (some (.int .i64 0),1,8):=by kernel_rfl
theorem copied {W:World} {b off:Nat} {ts:List Int} (h:Row W b off ts) (j:Nat) (v:Value) (hv:(ts.map (Value.int .i64))[j]?=some v):W.cell? ((⟨b,off,none⟩:Addr).add j)=some v:=by
 have hj:j<ts.length:=by
  have:=(List.getElem?_eq_some_iff.1 hv).1
  simpa using this
 rw [List.getElem?_map,List.getElem?_eq_getElem hj] at hv
 simp only [Option.map_some,Option.some.injEq] at hv
 subst hv
 have:=h j hj
 rw [List.getElem?_eq_getElem hj] at this
 rw [show (⟨b,off,none⟩:Addr).add j=⟨b,off+j,none⟩ from by unfold Addr.add;by_cases k:j=0<;>simp [k]]
 exact this
theorem spliced (Z:List Value) (ts:List Int) (h:Z.length=ts.length):(splice Z 0 (ts.map (Value.int .i64))).toArray=cellsOf ts:=by
 unfold splice cellsOf
 rw [List.take_zero,List.nil_append,List.length_map,Nat.zero_add,List.drop_of_length_le (by omega),List.append_nil]
def New (n:Int) (len:Nat) (ts:List Int) (w:World) (e:Ending) (w':World):Prop:=∃ g,w.heap.size≤g∧e=.returned (.agg #[.int .i64 n,.slice (some ⟨g,0,none⟩) len len])∧lies.Lies w' g 25 (cellsOf ts)∧Below w.heap.size w w'
set_option maxRecDepth 100000 in
set_option maxHeartbeats 1000000 in
theorem twin_row (n:Int) (b off len cap:Nat) (ts:List Int) (w:World) (hr:Row w b off ts) (hb:b<w.heap.size) (hl:ts.length=len) (h0:0<len) (hm:len≤1000000000000):
  Calls Tryz.prog 142 #[.agg #[.int .i64 n,.slice (some ⟨b,off,none⟩) len cap]] w (New n len ts w):=by
 have HR:=Lib.hid hr
 have HL:=Lib.hid hl
 clear hr hl
 have hmk:=run_make_row' (P:=Tryz.prog) 79 25 (.int .i64 0) 8 Tryz.underlying79 info_b rfl .i64 .i64 len (by omega) (by omega)
 have hn:=fun w=>Lib.run_eql_slice_nil (P:=Tryz.prog) w 79 25 (some ⟨b,off,none⟩) len cap 0 0 Tryz.underlying79
 go_enter Tryz.func142,Tryz.ntmps142
 have D0:=lies.on_alloc (lies.on_alloc (lies.made w 81 #[.int .i64 n,.slice (some ⟨b,off,none⟩) len cap]) (.cells #[.int .i64 0,.slice none 0 0] 81)) (.cells (madeCells #[.int .i64 0] len) 25)
 have D1:=lies.on_alloc (lies.made_at (w.alloc (.cells #[.int .i64 n,.slice (some ⟨b,off,none⟩) len cap] 81)) 81 #[.int .i64 0,.slice none 0 0] (w.heap.size+1) (World.size_alloc _ _)) (.cells (madeCells #[.int .i64 0] len) 25)
 have D2:=lies.made_at ((w.alloc (.cells #[.int .i64 n,.slice (some ⟨b,off,none⟩) len cap] 81)).alloc (.cells #[.int .i64 0,.slice none 0 0] 81)) 25 (madeCells #[.int .i64 0] len) (w.heap.size+1+1) (by simp)
 have D3:Row (((w.alloc (.cells #[.int .i64 n,.slice (some ⟨b,off,none⟩) len cap] 81)).alloc (.cells #[.int .i64 0,.slice none 0 0] 81)).alloc (.cells (madeCells #[.int .i64 0] len) 25)) b off ts:=HR.out.below ((((Below.refl w.heap.size w).alloc (Nat.le_refl _) _).alloc (by simp) _).alloc (by simp;omega) _) hb
 have D4:Below w.heap.size w (((w.alloc (.cells #[.int .i64 n,.slice (some ⟨b,off,none⟩) len cap] 81)).alloc (.cells #[.int .i64 0,.slice none 0 0] 81)).alloc (.cells (madeCells #[.int .i64 0] len) 25)):=(((Below.refl w.heap.size w).alloc (Nat.le_refl _) _).alloc (by simp) _).alloc (by simp;omega) _
 have HD:=Lib.hid (And.intro D0 (And.intro D1 (And.intro D2 (And.intro D3 D4))))
 clear D0 D1 D2 D3 D4
 go_wp2_with (refine wpList_copy_splice rfl (.tmp 12) (.tmp 14) 79 79 rfl 25 Tryz.underlying79 (by kernel_rfl) (some ⟨w.heap.size+1+1,0,none⟩) (some ⟨b,off,none⟩) len len len cap rfl rfl (w.heap.size+1+1) 0 (madeCells #[.int .i64 0] len).toList 25 HD.out.2.2.1 (ts.map (Value.int .i64)) (by simp [HL.out]) (fun _=>⟨rfl,⟨b,off,none⟩,rfl,copied HD.out.2.2.2.1⟩) (by simp [HL.out,size_madeCells]) (by intro v hv;obtain ⟨x,_,rfl⟩:=List.mem_map.1 hv;rfl) (w.heap.size+1+1) _ (Below.refl _ _) (Nat.le_refl _) ?_;intro w' hg' hB';have D0':lies.Lies w' w.heap.size 81 #[.int .i64 n,.slice (some ⟨b,off,none⟩) len cap]:=(hB'.block _ (by omega)).trans HD.out.1;have D1':lies.Lies w' (w.heap.size+1) 81 #[.int .i64 0,.slice none 0 0]:=(hB'.block _ (by omega)).trans HD.out.2.1;obtain ⟨x0,x1,x2,x3,x4⟩:=lies.two D0';obtain ⟨y0,y1,y2,y3,y4⟩:=lies.two D1')
 have hG:lies.Lies w' (w.heap.size+1+1) 25 (cellsOf ts):=by
  have h:=hg'.out
  rw [spliced _ _ (by simp [HL.out,size_madeCells])] at h
  exact h
 have hB2:Below w.heap.size w w':=HD.out.2.2.2.2.trans (hB'.mono (by omega))
 refine bodyPost_ret (v:=.agg #[.int .i64 n,.slice (some ⟨w.heap.size+1+1,0,none⟩) len len]) (by simp [results,Tryz.results142,go_sem,y0,y1]) rfl ⟨w.heap.size+1+1,by omega,rfl,?_,?_⟩
 ·exact lies.on_far (lies.on_far hG 0 (by omega) _) 1 (by omega) _
 ·exact (hB2.setCell (p:=⟨w.heap.size+1,0,none⟩) (by simp) _).setCell (p:=⟨w.heap.size+1,1,none⟩) (by simp) _
end Go.Proofs.YthmljpccbjolgaaGreatDoor.dbm
namespace Go.Proofs.YthmljpccbjolgaaGreatDoor.dbm
open Go.ChangeShapes Go.WideShapes Go.ChangeAt Go.RowKit num
open bound hiding up
set_option linter.unusedVariables false
theorem close_bad (n:Int) (sv:Value) (ts:List Int) (w:World) (hI:law.Ints w.heap.size w sv ts) (hm:ts.length≤1000000) (htop:Tops ts) (h:¬ MayD n ts):
  Calls Tryz.prog 98 #[.agg #[.int .i64 n,sv]] w fun e w'=>e=.returned (.tuple #[.agg #[.int .i64 0,.slice none 0 0],.int .i64 8])∧Below w.heap.size w w':=by
 have hI1:law.Ints (((w.alloc (.cells #[.int .i64 n,sv] 81)).alloc (.cells #[.int .i64 0,.slice none 0 0] 81))).heap.size ((w.alloc (.cells #[.int .i64 n,sv] 81)).alloc (.cells #[.int .i64 0,.slice none 0 0] 81)) sv ts:=(hI.below (((Below.refl _ w).alloc (Nat.le_refl _) _).alloc (by simp) _)).mono (by simp;omega)
 obtain ⟨a,cap,rfl⟩:=ints_len hI
 have D1:=lies.made_at (w.alloc (.cells #[.int .i64 n,.slice a ts.length cap] 81)) 81 #[.int .i64 0,.slice none 0 0] (w.heap.size+1) (World.size_alloc _ _)
 have HI:=Lib.hid hI1
 have HT:=Lib.hid htop
 have HM:=Lib.hid h
 clear hI hI1 htop h
 go_enter Tryz.func98,Tryz.ntmps98
 go_wp2_with (go_at_call 97;refine (check_no n _ ts _ HI.out hm HT.out HM.out).mono ?_;rintro e w1 ⟨rfl,hB1⟩;have D2:=lies.on_call D1 hB1;obtain ⟨x0,x1,x2,x3,x4⟩:=lies.two D2)
 exact bodyPost_ret (v:=.tuple #[.agg #[.int .i64 0,.slice none 0 0],.int .i64 8]) (by simp [results,Tryz.results98,go_sem,x0,x1]) rfl ⟨rfl,(((((Below.refl w.heap.size w).alloc (Nat.le_refl _) _).alloc (by simp) _).trans (hB1.mono (by simp;omega))).setCell (p:=⟨w.heap.size+1,0,none⟩) (by simp) _).setCell (p:=⟨w.heap.size+1,1,none⟩) (by simp) _⟩
def lows (n:Nat) (ts:List Int):Nat→List Int
 | 0=>ts
 | k+1=>(lows n ts k).set (k*n+k) (lsr (tat (lows n ts k) n k k) 1)
def tabs (n:Nat) (h:0<n) (ts:List Int):Nat→List Int
 | 0=>lows n ts n
 | k+1=>ovl n k (tabs n h ts k) (upto (nth n h) (n*n))
theorem lows_length (n:Nat) (ts:List Int) (k:Nat):(lows n ts k).length=ts.length:=by
 induction k with
 | zero=>rfl
 | succ k ih=>simp [lows,ih]
theorem tabs_length (n:Nat) (h:0<n) (ts:List Int) (k:Nat):(tabs n h ts k).length=ts.length:=by
 induction k with
 | zero=>exact lows_length n ts n
 | succ k ih=>exact (ovl_length _ _ _ _).trans ih
theorem lows_tops {n:Nat} {ts:List Int} (h:Tops ts) (k:Nat):Tops (lows n ts k):=by
 induction k with
 | zero=>exact h
 | succ k ih=>
  intro y hy
  rcases List.mem_or_eq_of_mem_set hy with hy | rfl
  ·exact ih y hy
  ·exact Int.le_trans (lsr_le _ _).2 (by decide)
theorem tabs_tops {n:Nat} (h0:0<n) {ts:List Int} (h:Tops ts) (k:Nat):Tops (tabs n h0 ts k):=by
 induction k with
 | zero=>exact lows_tops h n
 | succ k ih=>exact tops_ovl ih n k _
def Mid (n g Bm B:Nat) (sv:Value) (us:List Int) (W:World):Prop:=
 lies.Lies W B 81 #[.int .i64 n,sv]∧lies.Lies W (B+1) 81 #[.int .i64 0,.slice none 0 0]∧lies.Lies W Bm 153 #[.int .i64 n,.slice (some ⟨g,0,none⟩) (n*n) (n*n)]∧lies.Lies W g 25 (cellsOf us)
theorem Mid.below {n g Bm B:Nat} {sv:Value} {us:List Int} {W X:World} (h:Mid n g Bm B sv us W) (k:Below W.heap.size W X):Mid n g Bm B sv us X:=
 ⟨lies.on_call h.1 k,lies.on_call h.2.1 k,lies.on_call h.2.2.1 k,lies.on_call h.2.2.2 k⟩
theorem ne_type {W:World} {g b:Nat} {t s:TypeId} {cs ds:Array Value} (h:lies.Lies W g t cs) (k:lies.Lies W b s ds) (hne:t≠s):g≠b:=fun e=>by
 subst e
 have h1:W.heap[g]?=some (.cells cs t (0,0)):=h
 have h2:W.heap[g]?=some (.cells ds s (0,0)):=k
 rw [h1] at h2
 cases h2
 exact hne rfl
theorem Mid.turned {n g Bm B:Nat} {sv:Value} {us vs:List Int} {W X:World} (h:Mid n g Bm B sv us W) (k:W.grownBy X (some g)) (hg:lies.Lies X g 25 (cellsOf vs)):Mid n g Bm B sv vs X:=by
 obtain ⟨h1,h2,h3,h4⟩:=h
 have n1:=ne_type h4 h1 (by decide)
 have n2:=ne_type h4 h2 (by decide)
 have n3:=ne_type h4 h3 (by decide)
 exact ⟨(k.block _ (lies.lt h1) (fun e=>n1 (by cases e;rfl))).trans h1,(k.block _ (lies.lt h2) (fun e=>n2 (by cases e;rfl))).trans h2,(k.block _ (lies.lt h3) (fun e=>n3 (by cases e;rfl))).trans h3,hg⟩
theorem put_turned {g P:Nat} {v:Int} {us:List Int} {w w':World} {e:Ending} (hg:lies.Lies w g 25 (cellsOf us)) (h:Put g P (.int .i64 v) w e w'):lies.Lies w' g 25 (cellsOf (us.set P v))∧w.grownBy w' (some g):=by
 have hP:=h.2
 refine ⟨?_,grown_below (grown_set (grown_refl w (some g)) P (.int .i64 v)) hP (Nat.le_refl _)⟩
 have q:=lies.on_call (lies.on_put hg P (.int .i64 v)) (hP.mono (by simp))
 rwa [cells_set] at q
theorem below_grown {B g:Nat} {w X Y:World} (h:Below B w X) (k:X.grownBy Y (some g)) (hB:B≤X.heap.size) (hg:B≤g):Below B w Y:=h.grown k hB (fun j e=>by cases e;exact hg)
def emp (n:Nat) (us:List Int):Prop:=∃ i,i<n∧tat us n i i<1
def Clo (n:Nat) (h0:0<n) (ts:List Int) (w:World) (e:Ending) (w':World):Prop:=Below w.heap.size w w'∧
 ((∃ k,k≤n∧emp n (tabs n h0 ts k)∧e=.returned (.tuple #[.agg #[.int .i64 0,.slice none 0 0],.int .i64 6]))∨
  ((∀ k,k≤n→¬ emp n (tabs n h0 ts k))∧∃ g,w.heap.size≤g∧e=.returned (.tuple #[.agg #[.int .i64 n,.slice (some ⟨g,0,none⟩) (n*n) (n*n)],.int .i64 0])∧lies.Lies w' g 25 (cellsOf (tabs n h0 ts n))))
theorem row_of {W:World} {g:Nat} {us:List Int} (h:lies.Lies W g 25 (cellsOf us)):Row W g 0 us:=fun p hp=>by
 rw [Nat.zero_add]
 exact (lies.cell h p).trans (cells_at us p hp)
set_option maxRecDepth 100000 in
set_option maxHeartbeats 4000000 in
theorem close_ok (n b off cap:Nat) (ts:List Int) (w:World) (h0:0<n) (hr:Row w b off ts) (hb:b<w.heap.size) (htop:Tops ts) (h:MayD n ts) (hl:ts.length=n*n) (hn:n≤4):
  Calls Tryz.prog 98 #[.agg #[.int .i64 n,.slice (some ⟨b,off,none⟩) (n*n) cap]] w (Clo n h0 ts w):=by
 have hI1:law.Ints (((w.alloc (.cells #[.int .i64 n,.slice (some ⟨b,off,none⟩) (n*n) cap] 81)).alloc (.cells #[.int .i64 0,.slice none 0 0] 81))).heap.size ((w.alloc (.cells #[.int .i64 n,.slice (some ⟨b,off,none⟩) (n*n) cap] 81)).alloc (.cells #[.int .i64 0,.slice none 0 0] 81)) (.slice (some ⟨b,off,none⟩) (n*n) cap) ts:=
  .inr ⟨b,off,cap,by rw [hl],by simp;omega,hr.below (((Below.refl _ w).alloc (Nat.le_refl _) _).alloc (by simp) _) hb⟩
 have D0:=lies.on_alloc (lies.made w 81 #[.int .i64 n,.slice (some ⟨b,off,none⟩) (n*n) cap]) (.cells #[.int .i64 0,.slice none 0 0] 81)
 have D1:=lies.made_at (w.alloc (.cells #[.int .i64 n,.slice (some ⟨b,off,none⟩) (n*n) cap] 81)) 81 #[.int .i64 0,.slice none 0 0] (w.heap.size+1) (World.size_alloc _ _)
 have HI:=Lib.hid hI1
 have HR:=Lib.hid hr
 have HT:=Lib.hid htop
 have HM:=Lib.hid h
 have HL:=Lib.hid hl
 clear hI1 hr htop h hl
 have hnn:=sq_le hn
 have hpos:0<n*n:=Nat.mul_pos h0 h0
 go_enter Tryz.func98,Tryz.ntmps98
 go_wp2_with (first
  | (go_at_call 97;refine (check_ok n _ ts _ HI.out HT.out HM.out).mono ?_;rintro e w1 ⟨rfl,hB1⟩;have E0:=lies.on_call D0 hB1;have E1:=lies.on_call D1 hB1;have hK1:Below w.heap.size w w1:=(((Below.refl w.heap.size w).alloc (Nat.le_refl _) _).alloc (by simp) _).trans (hB1.mono (by simp;omega));clear D0 D1 hB1;obtain ⟨x0,x1,x2,x3,x4⟩:=lies.two E0)
  | (go_at_call 142;refine (twin_row n b off (n*n) cap ts _ (HR.out.below hK1 hb) (by have:=hK1.size;omega) HL.out hpos (by omega)).mono ?_;rintro e w2 ⟨g,hg,rfl,hG,hB2⟩;have F0:=lies.on_call E0 hB2;have F1:=lies.on_call E1 hB2;have hK2:=hK1.trans (hB2.mono hK1.size);have hgw:w.heap.size≤g:=Nat.le_trans hK1.size hg;clear E0 E1 hK1 hB2 x0 x1 x2 x3 x4))
 have G0:Mid n g w2.heap.size w.heap.size (.slice (some ⟨b,off,none⟩) (n*n) cap) (lows n ts 0) (w2.alloc (.cells #[.int .i64 n,.slice (some ⟨g,0,none⟩) (n*n) (n*n)] 153)):=⟨lies.on_alloc F0 _,lies.on_alloc F1 _,lies.made _ _ _,lies.on_alloc hG _⟩
 have GB:Below w.heap.size w (w2.alloc (.cells #[.int .i64 n,.slice (some ⟨g,0,none⟩) (n*n) (n*n)] 153)):=hK2.alloc hK2.size _
 clear F0 F1 hG hK2
 generalize w2.heap.size=Bm at G0 ⊢
 generalize w2.alloc (.cells #[.int .i64 n,.slice (some ⟨g,0,none⟩) (n*n) (n*n)] 153)=w3 at G0 GB ⊢
 go_loopw [20] (fun i wr=>∃ k:Nat,k≤n∧i=.int .i64 k∧Mid n g Bm w.heap.size (.slice (some ⟨b,off,none⟩) (n*n) cap) (lows n ts k) wr∧Below w.heap.size w wr)
  (fun i _=>n - (intOf i).toNat)
 case atStart=>exact ⟨0,Nat.zero_le _,rfl,G0,GB⟩
 case round=>
  clear G0 GB
  obtain ⟨k,hk,rfl,hM,hB⟩:=hrel
  obtain ⟨c0,c1,f0,f1,hlt⟩:=lies.two hM.2.2.1
  by_cases hkn:k<n
  ·have hg4:=lies.lt hM.2.2.2
   have hc4:wr.cell? ⟨g,k*n+k,none⟩=some (.int .i64 (tat (lows n ts k) n k k)):=(lies.cell hM.2.2.2 (k*n+k)).trans (cells_at _ _ (by rw [lows_length,HL.out];exact place_le hn hkn hkn))
   have hf4:=lies.free hM.2.2.2 (k*n+k)
   generalize hx:tat (lows n ts k) n k k=x at hc4
   have HX:=Lib.hid hx
   have HC:=Lib.hid hc4
   have HF:=Lib.hid hf4
   clear hx hc4 hf4
   go_wp2_with (go_at_call 143;refine (lower_nat n k k g (n*n) x 1 _ hn hkn hkn hg4 HC.out HF.out).mono ?_;rintro e w4 hP;have hT:=put_turned hM.2.2.2 hP;obtain rfl:=hP.1)
   go_roundw
   case rel=>exact ⟨k+1,by omega,by go_num,hM.turned hT.2 (by unfold lows;rw [HX.out];exact hT.1),below_grown hB hT.2 hB.size hgw⟩
   case measure=>simp [intOf];omega
  ·obtain rfl:n=k:=by omega
   go_wp2
   have hM0:Mid n g Bm w.heap.size (.slice (some ⟨b,off,none⟩) (n*n) cap) (tabs n h0 ts 0) wr:=hM
   clear c0 c1 f0 f1 hlt hM hk hkn
   go_loopw [7] (fun i wx=>∃ k:Nat,k≤n∧i=.int .i64 k∧Mid n g Bm w.heap.size (.slice (some ⟨b,off,none⟩) (n*n) cap) (tabs n h0 ts k) wx∧RowKit.Hid (∀ m,m<k→¬ emp n (tabs n h0 ts m))∧Below w.heap.size w wx)
    (fun i _=>n - (intOf i).toNat)
   case atStart=>exact ⟨0,Nat.zero_le _,rfl,hM0,Lib.hid (fun m hm=>absurd hm (by omega)),hB⟩
   case round=>
    rename_i wx
    clear hM0 hB
    obtain ⟨k,hk,rfl,hM,hne,hB⟩:=hrel
    obtain ⟨c0,c1,f0,f1,hlt⟩:=lies.two hM.2.2.1
    have hlen:(tabs n h0 ts k).length=n*n:=(tabs_length n h0 ts k).trans HL.out
    go_wp2_with fail
    refine (empty_any n g 0 (n*n) (tabs n h0 ts k) _ hn hlen (row_of hM.2.2.2) (lies.lt hM.2.2.2)).mono ?_
    rintro e w4 ⟨hB4,r,rfl,hr1,hr2⟩
    have hM4:=hM.below hB4
    have hBw:=hB.trans (hB4.mono hB.size)
    obtain ⟨c0,c1,f0,f1,hlt⟩:=lies.two hM4.2.2.1
    obtain ⟨d0,d1,e0,e1,hlu⟩:=lies.two hM4.2.1
    have HN:=Lib.hid hlen
    clear hM hB hB4 hlen
    cases r with
    | true=>
     have H1:=Lib.hid (hr1 rfl)
     clear hr1 hr2
     go_wp2_with fail
     refine bodyPost_ret (v:=.tuple #[.agg #[.int .i64 0,.slice none 0 0],.int .i64 6]) (by simp [results,Tryz.results98,go_sem,d0,d1]) rfl ⟨?_,.inl ⟨k,hk,H1.out,rfl⟩⟩
     exact (hBw.setCell (p:=⟨w.heap.size+1,0,none⟩) (by simp) _).setCell (p:=⟨w.heap.size+1,1,none⟩) (by simp) _
    | false=>
     have H2:=Lib.hid (hr2 rfl)
     clear hr1 hr2
     by_cases hkn:k=n
     ·have hne':RowKit.Hid (∀ m,m≤n→¬ emp n (tabs n h0 ts m)):=Lib.hid (fun m hm hem=>by
       by_cases e:m=n
       ·subst e;subst hkn;obtain ⟨i,hi,hi'⟩:=hem;have:=H2.out i hi;omega
       ·exact hne.out m (by omega) hem)
      obtain rfl:n=k:=hkn.symm
      clear hne H2 hk
      go_wp2_with fail
      refine bodyPost_ret (v:=.tuple #[.agg #[.int .i64 n,.slice (some ⟨g,0,none⟩) (n*n) (n*n)],.int .i64 0]) (by simp [results,Tryz.results98,go_sem,d0,d1]) rfl ⟨?_,.inr ⟨hne'.out,g,hgw,rfl,?_⟩⟩
      ·exact (hBw.setCell (p:=⟨w.heap.size+1,0,none⟩) (by simp) _).setCell (p:=⟨w.heap.size+1,1,none⟩) (by simp) _
      ·have n2:=ne_type hM4.2.2.2 hM4.2.1 (by decide)
       exact lies.on_far (lies.on_far hM4.2.2.2 0 n2 _) 1 n2 _
     ·have t1:((k:Int)==(n:Int))=false:=by simp;omega
      have hkl:k<n:=by omega
      have HK:=Lib.hid hkn
      clear hkn
      go_wp2_with (go_at_call 145;refine (over_any n k g (n*n) (tabs n h0 ts k) _ h0 hn hkl HN.out (tabs_tops h0 HT.out k) hM4.2.2.2).mono ?_;rintro e w5 ⟨rfl,hT,hG⟩)
      go_roundw
      case rel=>exact ⟨k+1,by omega,by go_num,hM4.turned hG hT,Lib.hid (fun m hm=>by
       by_cases e:m=k
       ·subst e;rintro ⟨i,hi,hi'⟩;have:=H2.out i hi;omega
       ·exact hne.out m (by omega)),below_grown hBw hG hBw.size hgw⟩
      case measure=>simp [intOf];omega
end Go.Proofs.YthmljpccbjolgaaGreatDoor.dbm
