
/-
  The document's own answers of layer 5, and that what they close is what the program closes; each theorem names its conditions.
-/
import Derived.Test.YthmljpccbjolgaaGreatDoorTightB
namespace Go.Proofs.YthmljpccbjolgaaGreatDoor.tref
open Go.ChangeShapes Go.WideShapes Go.ChangeAt Go.RowKit num dbm dref Go.Proofs.YthmljpccbjolgaaGreatDoor.tight
open bound hiding up
set_option linter.unusedVariables false
set_option linter.unusedSimpArgs false
def lesU (ts us:List Int) (k:Nat):List Int:=(List.range ts.length).map fun p=>if p<k then lsr (ts[p]?.getD 0) (us[p]?.getD 0) else ts[p]?.getD 0
theorem lesU_length (ts us:List Int) (k:Nat):(lesU ts us k).length=ts.length:=by simp [lesU]
theorem lesU_at (ts us:List Int) (k:Nat) {p:Nat} (h:p<ts.length):(lesU ts us k)[p]?.getD 0=if p<k then lsr (ts[p]?.getD 0) (us[p]?.getD 0) else ts[p]?.getD 0:=by
 unfold lesU
 rw [List.getElem?_map,List.getElem?_range h];rfl
theorem lesU_zero (ts us:List Int):lesU ts us 0=ts:=list_at (lesU_length _ _ _) fun p hp=>by
 rw [lesU_length] at hp
 rw [lesU_at _ _ _ hp,if_neg (by omega)]
theorem lesU_full (ts us:List Int):lesU ts us ts.length=lesT ts us:=list_at (by rw [lesU_length,lesT_length]) fun p hp=>by
 rw [lesU_length] at hp
 rw [lesU_at _ _ _ hp,if_pos hp,lesT_at _ _ hp]
theorem lesU_set (ts us:List Int) {k:Nat} (h:us[k]?.getD 0<ts[k]?.getD 0):lesU ts us (k+1)=(lesU ts us k).set k (us[k]?.getD 0):=list_at (by rw [List.length_set,lesU_length,lesU_length]) fun p hp=>by
 rw [lesU_length] at hp
 rw [lesU_at _ _ _ hp,List.getElem?_set]
 by_cases e:k=p
 ·subst e
  rw [if_pos (by omega),if_pos rfl,lesU_length,if_pos hp]
  exact if_pos h
 ·rw [if_neg e,lesU_at _ _ _ hp]
  by_cases c:p<k
  ·rw [if_pos (by omega),if_pos c]
  ·rw [if_neg (by omega),if_neg c]
theorem lesU_same (ts us:List Int) {k:Nat} (h:¬ us[k]?.getD 0<ts[k]?.getD 0):lesU ts us (k+1)=lesU ts us k:=list_at (by rw [lesU_length,lesU_length]) fun p hp=>by
 rw [lesU_length] at hp
 rw [lesU_at _ _ _ hp,lesU_at _ _ _ hp]
 by_cases e:p=k
 ·subst e
  rw [if_pos (by omega),if_neg (by omega)]
  exact if_neg h
 ·by_cases c:p<k
  ·rw [if_pos (by omega),if_pos c]
  ·rw [if_neg (by omega),if_neg c]
def LesI (n m:Int) (c pff dap len g cc B:Nat) (ts us:List Int) (k:Nat) (w W:World):Prop:=
 lies.Lies W (w.heap.size+1) 81 #[.int .i64 m,.slice (some ⟨c,pff,none⟩) len dap]∧lies.Lies W (w.heap.size+1+1) 81 #[.int .i64 0,.slice none 0 0]∧lies.Lies W B 81 #[.int .i64 n,.slice (some ⟨g,0,none⟩) len cc]∧W.ownsRow (w.heap.size+1+1+1) 25 1 (.slice (some ⟨g,0,none⟩) len cc) len ((lesU ts us k).map (Value.int .i64))∧Below w.heap.size w W
theorem own_call {W X:World} {B len:Nat} {v:Value} {xs:List Value} (h:W.ownsRow B 25 1 v len xs) (k:Below W.heap.size W X):X.ownsRow B 25 1 v len xs:=
 h.kept (row:=none) ⟨k.os,k.tape,k.output,k.size,fun i hi _=>k.block i hi⟩ (by cases v.ownBlock<;>simp)
theorem LesI.below {n m:Int} {c pff dap len g cc B:Nat} {ts us:List Int} {k:Nat} {w W X:World} (h:LesI n m c pff dap len g cc B ts us k w W) (j:Below W.heap.size W X):LesI n m c pff dap len g cc B ts us k w X:=
 ⟨lies.on_call h.1 j,lies.on_call h.2.1 j,lies.on_call h.2.2.1 j,own_call h.2.2.2.1 j,h.2.2.2.2.trans (j.mono h.2.2.2.2.size)⟩
theorem LesI.drawn {n m:Int} {c pff dap len g cc B:Nat} {ts us:List Int} {k:Nat} {w W:World} (h:LesI n m c pff dap len g cc B ts us k w W) (q:Nat):LesI n m c pff dap len g cc B ts us k w (W.drewN q):=h.below (bound.drawn (Below.refl _ _) q)
set_option maxRecDepth 100000 in
set_option maxHeartbeats 4000000 in
theorem lesser_any (n:Int) (m:Int) (sv:Value) (c pff dap len:Nat) (ts us:List Int) (w:World) (hI:law.Ints w.heap.size w sv ts) (hs:Row w c pff us) (hc:c<w.heap.size) (hl:ts.length=len) (hu:us.length=len) (h0:0<len) (hm:len≤1000):
  Calls Tryz.prog 156 #[.agg #[.int .i64 n,sv],.agg #[.int .i64 m,.slice (some ⟨c,pff,none⟩) len dap]] w fun e w'=>Below w.heap.size w w'∧∃ g cc,e=.returned (.agg #[.int .i64 n,.slice (some ⟨g,0,none⟩) len cc])∧w.heap.size≤g∧w'.ownsRow w.heap.size 25 1 (.slice (some ⟨g,0,none⟩) len cc) len ((lesT ts us).map (Value.int .i64)):=by
 obtain ⟨ad,cap,rfl⟩:=ints_len hI
 obtain ⟨DB,D0,D1,D2⟩:=box3 n m (.slice ad ts.length cap) (.slice (some ⟨c,pff,none⟩) len dap) w
 have C:=Lib.hid (twin_ref n _ ts _ ((hI.below DB).mono DB.size) (by omega))
 have HS:=Lib.hid hs
 have HL:=Lib.hid hl
 have HU:=Lib.hid hu
 clear hI hs hl hu
 go_enter Tryz.func156,Tryz.ntmps156
 go_wp2_with fail
 refine C.out.mono ?_
 rintro e w1 ⟨hB1,v,rfl,hO⟩
 have E1:=lies.on_call D1 hB1
 have E2:=lies.on_call D2 hB1
 have EB:=DB.trans (hB1.mono DB.size)
 have hsz:=DB.size
 simp only [World.size_alloc] at hsz
 clear D0 D1 D2 DB hB1 C
 rw [HL.out] at hO
 obtain ⟨g,cc,rfl⟩:∃ g cc,v=.slice (some ⟨g,0,none⟩) len cc:=by
  rcases Go.Joins.ownsRow_forms hO with ⟨_,h⟩ | ⟨g,cc,rfl⟩
  ·omega
  ·exact ⟨g,cc,rfl⟩
 go_wp2_with fail
 have hgb:=hO.lt g rfl
 have hsz3:(((w.alloc (.cells #[.int .i64 n,.slice ad len cap] 81)).alloc (.cells #[.int .i64 m,.slice (some ⟨c,pff,none⟩) len dap] 81)).alloc (.cells #[.int .i64 0,.slice none 0 0] 81)).heap.size=w.heap.size+1+1+1:=by simp
 rw [hsz3] at hO hgb
 have hw1:=hgb.2
 have L0:LesI n m c pff dap len g cc w1.heap.size ts us 0 w (w1.alloc (.cells #[.int .i64 n,.slice (some ⟨g,0,none⟩) len cc] 81)):=
  ⟨lies.on_alloc E1 _,lies.on_alloc E2 _,lies.made _ _ _,by rw [lesU_zero];exact hO.alloc _,EB.alloc EB.size _⟩
 clear E1 E2 EB hO hsz3 hsz
 generalize w1.heap.size=B at L0 hw1 ⊢
 generalize w1.alloc (.cells #[.int .i64 n,.slice (some ⟨g,0,none⟩) len cc] 81)=w2 at L0 ⊢
 go_loopw [6] (fun i wr=>∃ k:Nat,k≤len∧i=.int .i64 k∧LesI n m c pff dap len g cc B ts us k w wr) (fun i _=>len - (intOf i).toNat)
 case atStart=>exact ⟨0,Nat.zero_le _,rfl,L0⟩
 case round=>
  clear L0
  obtain ⟨k,hk,rfl,hA⟩:=hrel
  obtain ⟨x0,x1,x2,x3,x4⟩:=lies.two hA.1
  obtain ⟨y0,y1,y2,y3,y4⟩:=lies.two hA.2.2.1
  by_cases hkn:k<len
  ·have hc1:=(HS.out.below hA.2.2.2.2 hc) k (by rw [HU.out];exact hkn)
   have hc2:wr.cell? ⟨g,k,none⟩=some (.int .i64 (ts[k]?.getD 0)):=by
    rw [hA.2.2.2.1.cellAt k (by omega),List.getElem?_map]
    have hkl:k<(lesU ts us k).length:=by rw [lesU_length,HL.out];exact hkn
    have h2:=lesU_at ts us k (p:=k) (by rw [HL.out];exact hkn)
    rw [if_neg (by omega),List.getElem?_eq_getElem hkl] at h2
    rw [List.getElem?_eq_getElem hkl]
    exact congrArg (fun z=>some (Value.int .i64 z)) h2
   have hf:=hA.2.2.2.1.frozenAt k
   have hgw:=(hA.2.2.2.1.lt g rfl).2
   have hcw:=Nat.lt_of_lt_of_le hc hA.2.2.2.2.size
   have hsame:=lesU_same ts us (k:=k)
   have hset:=lesU_set ts us (k:=k)
   generalize hy:us[k]?.getD 0=y at hc1 hsame hset
   have HY:=Lib.hid hy
   clear hy
   generalize ts[k]?.getD 0=x at hc2 hsame hset
   have z1:(0:Int)≤k:=by omega
   have z2:(k:Int)<len:=by omega
   by_cases hyx:y<x
   ·have HSET:=Lib.hid (hset hyx)
    clear hsame hset
    go_wp2_with fail
    go_quiet (fail)
    go_wp2_with fail
    have A1:=hA.drawn nq
    clear x0 x1 x2 x3 x4 y0 y1 y2 y3 y4 hc1 hc2 hf hA
    have hgw1:w.heap.size+1+1+1≤g:=(A1.2.2.2.1.lt g rfl).1
    generalize wr.drewN nq=w5 at A1 ⊢
    have hyc:∀ W,Below w5.heap.size w5 W→W.cell? ⟨c,pff+k,none⟩=some (.int .i64 y):=fun W hW=>by
     rw [←HY.out]
     exact (HS.out.below (A1.below hW).2.2.2.2 hc) k (by rw [HU.out];exact hkn)
    have S0:∀ W,Below w5.heap.size w5 W→W.cell? ⟨w.heap.size+1,1,none⟩=some (.slice (some ⟨c,pff,none⟩) len dap)∧W.cell? ⟨B,1,none⟩=some (.slice (some ⟨g,0,none⟩) len cc)∧W.cell? ⟨c,pff+k,none⟩=some (.int .i64 y):=fun W hW=>⟨(dlaw.at_s A1.1 hW).2,(dlaw.at_s A1.2.2.1 hW).2,hyc W hW⟩
    have hfz:=A1.2.2.2.1.frozenAt k
    have hgc:w5.cell? ⟨g,k,none⟩=some (.int .i64 ((lesU ts us k)[k]?.getD 0)):=by
     have hkl:k<(lesU ts us k).length:=by rw [lesU_length,HL.out];exact hkn
     rw [A1.2.2.2.1.cellAt k (by omega),List.getElem?_map,List.getElem?_eq_getElem hkl];rfl
    have hgw5:=(A1.2.2.2.1.lt g rfl).2
    refine wp_region_held_drew (S:=fun W=>W.cell? ⟨w.heap.size+1,1,none⟩=some (.slice (some ⟨c,pff,none⟩) len dap)∧W.cell? ⟨B,1,none⟩=some (.slice (some ⟨g,0,none⟩) len cc)∧W.cell? ⟨c,pff+k,none⟩=some (.int .i64 y)) (by kernel_rfl) (S0 _ (dbm.drawn1 (Below.refl _ _))) (fun hHeld=>?_)
    refine tk 0 (v:=?_) rfl hHeld ?_ ?_
    rotate_left
    ·intro w hSw;obtain ⟨s0,s1,s2⟩:=hSw;go_simp;try with_reducible rfl
    try simp only [Act.put,sA,sB,sC,sD,sE,sF]
    refine tk 1 (v:=?_) rfl hHeld ?_ ?_
    rotate_left
    ·intro w hSw;obtain ⟨s0,s1,s2⟩:=hSw;go_simp;try with_reducible rfl
    try simp only [Act.put,sA,sB,sC,sD,sE,sF]
    refine tk 2 (v:=?_) rfl hHeld ?_ ?_
    rotate_left
    ·intro w hSw;obtain ⟨s0,s1,s2⟩:=hSw;go_simp;try with_reducible rfl
    try simp only [Act.put,sA,sB,sC,sD,sE,sF]
    refine tk 3 (v:=?_) rfl hHeld ?_ ?_
    rotate_left
    ·intro w hSw;obtain ⟨s0,s1,s2⟩:=hSw;go_simp;try with_reducible rfl
    try simp only [Act.put,sA,sB,sC,sD,sE,sF]
    refine tk 4 (v:=?_) rfl hHeld ?_ ?_
    rotate_left
    ·intro w hSw;obtain ⟨s0,s1,s2⟩:=hSw;go_simp;try with_reducible rfl
    try simp only [Act.put,sA,sB,sC,sD,sE,sF]
    refine tk 5 (v:=?_) rfl hHeld ?_ ?_
    rotate_left
    ·intro w hSw;obtain ⟨s0,s1,s2⟩:=hSw;go_simp;try with_reducible rfl
    try simp only [Act.put,sA,sB,sC,sD,sE,sF]
    refine tk 6 (v:=?_) rfl hHeld ?_ ?_
    rotate_left
    ·intro w hSw;obtain ⟨s0,s1,s2⟩:=hSw;go_simp;try with_reducible rfl
    try simp only [Act.put,sA,sB,sC,sD,sE,sF]
    refine tk 7 (v:=?_) rfl hHeld ?_ ?_
    rotate_left
    ·intro w hSw;obtain ⟨s0,s1,s2⟩:=hSw;go_simp;try with_reducible rfl
    try simp only [Act.put,sA,sB,sC,sD,sE,sF]
    refine tk 8 (v:=?_) rfl hHeld ?_ ?_
    rotate_left
    ·intro w hSw;obtain ⟨s0,s1,s2⟩:=hSw;go_simp;try with_reducible rfl
    try simp only [Act.put,sA,sB,sC,sD,sE,sF]
    refine wpAnyH_ready (rs:=[9]) (by kernel_rfl) (by simp) (AllReadyH.cons rfl (fun K hK=>?_) AllReadyH.nil)
    go_simp
    have A2:LesI n m c pff dap len g cc B ts us (k+1) w (w5.setCell ⟨g,k,none⟩ (.int .i64 y)).drew:=by
     have hO:=(A1.2.2.2.1.stored k (.int .i64 y)).1
     rw [←List.map_set,←HSET.out] at hO
     have A3:LesI n m c pff dap len g cc B ts us (k+1) w (w5.setCell ⟨g,k,none⟩ (.int .i64 y)):=
      ⟨lies.on_far A1.1 k (by omega) _,lies.on_far A1.2.1 k (by omega) _,lies.on_far A1.2.2.1 k (by omega) _,hO,A1.2.2.2.2.setCell (p:=⟨g,k,none⟩) (show w.heap.size≤g by omega) _⟩
     exact A3.below (dbm.drawn1 (Below.refl _ _))
    refine hK.out _ _ ⟨(lies.two A2.1).2.1,(lies.two A2.2.2.1).2.1,((HS.out.below A2.2.2.2.2 hc) k (by rw [HU.out];exact hkn)).trans (by rw [HY.out])⟩ (fun hNew=>?_)
    clear hHeld hK K hNew S0 hyc hfz hgc
    refine wpAnyH_done (by kernel_rfl) ?_ _
    clear A1
    generalize (w5.setCell ⟨g,k,none⟩ (.int .i64 y)).drew=w6 at A2 ⊢
    go_wp2_with fail
    go_roundw
    case rel=>exact ⟨k+1,by omega,by go_num,A2⟩
    case measure=>simp [intOf];omega
   ·have HSAME:=Lib.hid (hsame hyx)
    clear hsame hset
    go_wp2_with fail
    go_quiet (fail)
    go_wp2_with fail
    go_roundw
    case rel=>exact ⟨k+1,by omega,by go_num,by rw [LesI,HSAME.out];exact hA.drawn _⟩
    case measure=>simp [intOf];omega
  ·obtain rfl:len=k:=by omega
   obtain ⟨z0,z1,z2,z3,z4⟩:=lies.two hA.2.1
   go_wp2_with fail
   refine bodyPost_ret (v:=.agg #[.int .i64 n,.slice (some ⟨g,0,none⟩) len cc]) (by simp [results,Tryz.results156,go_sem,z0,z1]) rfl ⟨ret3 hA.2.2.2.2 (by omega) _ _,g,cc,rfl,by omega,?_⟩
   have hO:=hA.2.2.2.1
   rw [←HL.out,lesU_full,HL.out] at hO
   exact Go.Joins.ownsRow_le (dref.own_other (dref.own_other hO (p:=⟨w.heap.size+1+1,0,none⟩) (by simp) _) (p:=⟨w.heap.size+1+1,1,none⟩) (by simp) _) (by omega)
end Go.Proofs.YthmljpccbjolgaaGreatDoor.tref
namespace Go.Proofs.YthmljpccbjolgaaGreatDoor.tref
open Go.ChangeShapes Go.WideShapes Go.ChangeAt Go.RowKit num dbm dref Go.Proofs.YthmljpccbjolgaaGreatDoor.tight
open bound hiding up
set_option linter.unusedVariables false
set_option linter.unusedSimpArgs false
def Comm (n:Nat) (L:List Int) (w:World) (e:Ending) (w':World):Prop:=Below w.heap.size w w'∧
 ((¬ OkD n L∧e=.returned (.tuple #[.agg #[.int .i64 0,.slice none 0 0],.bool false]))∨
  (OkD n L∧∃ a l c,e=.returned (.tuple #[.agg #[.int .i64 n,.slice a l c],.bool true])∧w'.ownsRow w.heap.size 25 1 (.slice a l c) (clT n L).length ((clT n L).map (Value.int .i64))))
theorem closed_g (n g cc:Nat) (L:List Int) (w:World) (h0:0<n) (hn:n≤4) (hl:L.length=n*n) (htop:Tops L) (h:MayD n L) (hM:MatI n g 0 L w):
  Calls Tryz.prog 148 #[.agg #[.int .i64 n,.slice (some ⟨g,0,none⟩) (n*n) cc]] w (Comm n L w):=by
 refine (closed_is n g 0 cc L w h0 hn hl h.2.2.2 hM).mono ?_
 rintro e w2 ⟨hB2,⟨hx,rfl⟩ | ⟨hx,v,rfl,hO⟩⟩
 ·refine ⟨hB2,.inl ⟨fun ⟨_,h0',hne⟩=>?_,rfl⟩⟩
  obtain ⟨x,hxn,hx⟩:=hx
  exact hx (round_ok h0 hn hl htop h.2.2.2 (fun k hk=>hne k (by simpa using hk)) hxn)
 ·obtain ⟨a',l',c',rfl⟩:=own_slice hO
  have hne:∀ k,k≤n→¬ emp n (tabs n h0 L k):=fun k hk he=>by
   obtain ⟨x,hxn,hnx⟩:=round_bad h0 hn hl htop h.2.2.2 k hk he
   exact hnx (hx x hxn)
  have hok:OkD n L:=⟨h,by simpa using h0,fun k hk=>hne k (by simpa using hk)⟩
  rw [clP_is h0 hn hl htop h.2.2.2 hne,←clT_nat h0] at hO
  refine ⟨hB2,.inr ⟨hok,a',l',c',rfl,?_⟩⟩
  rw [←hl,←clT_length hok] at hO
  exact hO
set_option maxRecDepth 100000 in
set_option maxHeartbeats 2000000 in
theorem common_is (n:Nat) (sv:Value) (c pff dap:Nat) (ts us:List Int) (w:World) (h0:0<n) (hn:n≤4) (hI:law.Ints w.heap.size w sv ts) (hs:Row w c pff us) (hc:c<w.heap.size) (hl:ts.length=n*n) (hu:us.length=n*n) (htop:Tops ts) (hm:MayD n (lesT ts us)):
  Calls Tryz.prog 113 #[.agg #[.int .i64 n,sv],.agg #[.int .i64 n,.slice (some ⟨c,pff,none⟩) (n*n) dap]] w (Comm n (lesT ts us) w):=by
 have hpp:0<n*n:=Nat.mul_pos h0 h0
 have hsq:=sq_le hn
 obtain ⟨DB,D0,D1,D2⟩:=box3 n n sv (.slice (some ⟨c,pff,none⟩) (n*n) dap) w
 have C:=Lib.hid (lesser_any n n sv c pff dap (n*n) ts us _ ((hI.below DB).mono DB.size) (hs.below DB hc) (Nat.lt_of_lt_of_le hc DB.size) hl hu hpp (by omega))
 have HL:=Lib.hid hl
 have HT:=Lib.hid htop
 have HM:=Lib.hid hm
 obtain ⟨ad,cap,rfl⟩:=ints_len hI
 clear hI hs hl hu htop hm
 go_enter Tryz.func113,Tryz.ntmps113
 go_wp2_with fail
 refine C.out.mono ?_
 rintro e w1 ⟨hB1,g,cc,rfl,hg,hO⟩
 have E2:=lies.on_call D2 hB1
 have EB:=DB.trans (hB1.mono DB.size)
 have hll:(lesT ts us).length=n*n:=(lesT_length _ _).trans HL.out
 have hM:MatI n g 0 (lesT ts us) w1:=by
  refine ⟨fun p hp=>?_,(hO.lt g rfl).2⟩
  rw [Nat.zero_add,hO.cellAt p (by rw [hll] at hp;omega),List.getElem?_map,List.getElem?_eq_getElem hp];rfl
 have C2:=Lib.hid (closed_g n g cc (lesT ts us) w1 h0 hn hll (lesT_tops HT.out us) HM.out hM)
 clear C D0 D1 D2 DB hB1 hO hM hll
 go_wp2_with fail
 refine C2.out.mono ?_
 rintro e w2 ⟨hB2,⟨hno,rfl⟩ | ⟨hok,a,l,c',rfl,hI⟩⟩
 ·have F2:=lies.on_call E2 hB2
  have FB:=EB.trans (hB2.mono EB.size)
  have HNO:=Lib.hid hno
  clear E2 EB hB2 C2 hno
  obtain ⟨z0,z1,z2,z3,z4⟩:=lies.two F2
  go_wp2_with fail
  exact bodyPost_ret (v:=.tuple #[.agg #[.int .i64 0,.slice none 0 0],.bool false]) (by simp [results,Tryz.results113,go_sem,z0,z1]) rfl ⟨ret3 FB (by omega) _ _,.inl ⟨HNO.out,rfl⟩⟩
 ·have F2:=lies.on_call E2 hB2
  have FB:=EB.trans (hB2.mono EB.size)
  have HOK:=Lib.hid hok
  have HIN:=Lib.hid hI
  have hsz:=EB.size
  have hlt:=lies.lt E2
  clear E2 EB hB2 C2 hok hI
  obtain ⟨z0,z1,z2,z3,z4⟩:=lies.two F2
  go_wp2_with fail
  refine bodyPost_ret (v:=.tuple #[.agg #[.int .i64 n,.slice a l c'],.bool true]) (by simp [results,Tryz.results113,go_sem,z0,z1]) rfl ⟨ret3 FB (by omega) _ _,.inr ⟨HOK.out,a,l,c',rfl,?_⟩⟩
  exact Go.Joins.ownsRow_le (dref.own_other (dref.own_other HIN.out (p:=⟨w.heap.size+1+1,0,none⟩) hlt _) (p:=⟨w.heap.size+1+1,1,none⟩) hlt _) hsz
end Go.Proofs.YthmljpccbjolgaaGreatDoor.tref
namespace Go.Proofs.YthmljpccbjolgaaGreatDoor.tref
open num dbm dref Go.Proofs.YthmljpccbjolgaaGreatDoor.tight
open bound hiding up
set_option linter.unusedVariables false
end Go.Proofs.YthmljpccbjolgaaGreatDoor.tref
namespace Go.Proofs.YthmljpccbjolgaaGreatDoor.tref
open Go.ChangeShapes Go.WideShapes Go.ChangeAt Go.RowKit num dbm dref Go.Proofs.YthmljpccbjolgaaGreatDoor.tight
open bound hiding up
set_option linter.unusedVariables false
set_option linter.unusedSimpArgs false
theorem may_yes {n:Int} {sv:Value} {ts:List Int} {w:World} (hI:law.Ints w.heap.size w sv ts) (hm:ts.length≤1000000) (hlo:Low ts) (htop:Tops ts) (h:MayD n ts):Calls Tryz.prog 147 #[.agg #[.int .i64 n,sv]] w fun e w'=>e=.returned (.bool true)∧Below w.heap.size w w':=by
 have:=dref.may_any n sv ts w hI hm hlo htop
 rwa [decide_eq_true h] at this
theorem may_no {n:Int} {sv:Value} {ts:List Int} {w:World} (hI:law.Ints w.heap.size w sv ts) (hm:ts.length≤1000000) (hlo:Low ts) (htop:Tops ts) (h:¬ MayD n ts):Calls Tryz.prog 147 #[.agg #[.int .i64 n,sv]] w fun e w'=>e=.returned (.bool false)∧Below w.heap.size w w':=by
 have:=dref.may_any n sv ts w hI hm hlo htop
 rwa [decide_eq_false h] at this
def CommR (n:Int) (L:List Int) (na:Int) (us:List Int) (bl:Bool):Prop:=(¬ OkD n L∧na=0∧us=[]∧bl=false)∨(OkD n L∧na=n∧us=clT n L∧bl=true)
theorem comm_one {n:Nat} {L:List Int} {w w':World} {e:Ending} (h:Comm n L w e w'):Below w.heap.size w w'∧∃ na a l c us bl,e=.returned (.tuple #[.agg #[.int .i64 na,.slice a l c],.bool bl])∧CommR n L na us bl∧w'.ownsRow w.heap.size 25 1 (.slice a l c) us.length (us.map (Value.int .i64)):=by
 rcases h with ⟨hB,⟨hno,rfl⟩ | ⟨hok,a,l,c,rfl,hO⟩⟩
 ·exact ⟨hB,0,none,0,0,[],false,rfl,.inl ⟨hno,rfl,rfl,rfl⟩,World.ownsRow_nil _ _ _ _⟩
 ·exact ⟨hB,n,a,l,c,clT n L,true,rfl,.inr ⟨hok,rfl,rfl,rfl⟩,hO⟩
theorem own_row {W:World} {base g len cc:Nat} {us:List Int} (h:W.ownsRow base 25 1 (.slice (some ⟨g,0,none⟩) len cc) len (us.map (Value.int .i64))) (hl:us.length=len):Row W g 0 us:=fun p hp=>by
 rw [Nat.zero_add,h.cellAt p (by omega),List.getElem?_map,List.getElem?_eq_getElem hp];rfl
end Go.Proofs.YthmljpccbjolgaaGreatDoor.tref
namespace Go.Proofs.YthmljpccbjolgaaGreatDoor.tref
open Go.ChangeShapes Go.WideShapes Go.ChangeAt Go.RowKit num dbm dref Go.Proofs.YthmljpccbjolgaaGreatDoor.tight
open bound hiding up
set_option linter.unusedVariables false
set_option linter.unusedSimpArgs false
end Go.Proofs.YthmljpccbjolgaaGreatDoor.tref
namespace Go.Proofs.YthmljpccbjolgaaGreatDoor.tref
open Go.ChangeShapes Go.WideShapes Go.ChangeAt Go.RowKit num dbm dref Go.Proofs.YthmljpccbjolgaaGreatDoor.tight
open bound hiding up
set_option linter.unusedVariables false
set_option linter.unusedSimpArgs false
end Go.Proofs.YthmljpccbjolgaaGreatDoor.tref
