
/-
  Zones in a row: as an argument, as a row of one's own, append; each theorem names its conditions.
-/
import Derived.Test.YthmljpccbjolgaaGreatDoorZoneF
import Derived.Test.YthmljpccbjolgaaGreatDoorLawA
namespace Go.Proofs.YthmljpccbjolgaaGreatDoor.mz
open Go.Joins Go.ChangeShapes Go.WideShapes Go.ChangeAt Go.RowKit Go.Deep num rat dbm Go.Proofs.YthmljpccbjolgaaGreatDoor.tight Go.Proofs.YthmljpccbjolgaaGreatDoor.incl Go.Proofs.YthmljpccbjolgaaGreatDoor.plaw Go.Proofs.YthmljpccbjolgaaGreatDoor.zopen Go.Proofs.YthmljpccbjolgaaGreatDoor.zone
open bound hiding up
set_option linter.unusedVariables false
set_option linter.unusedSimpArgs false
def zat (zs:List (List Int)) (k:Nat):List Int:=zs[k]?.getD []
def zcs (z:List Int):List Value:=[.int .i64 (z[0]?.getD 0),.int .i64 (z[1]?.getD 0),.int .i64 (z[2]?.getD 0),.int .i64 (z[3]?.getD 0),.int .i64 (z[4]?.getD 0),.int .i64 (z[5]?.getD 0)]
def zval (z:List Int):Value:=.agg #[.int .i64 (z[0]?.getD 0),.int .i64 (z[1]?.getD 0),.int .i64 (z[2]?.getD 0),.int .i64 (z[3]?.getD 0),.int .i64 (z[4]?.getD 0),.int .i64 (z[5]?.getD 0)]
theorem zcs_at (z:List Int) {j:Nat} (hj:j<6):(zcs z)[j]?=some (.int .i64 (z[j]?.getD 0)):=by
 rcases (by omega:j=0∨j=1∨j=2∨j=3∨j=4∨j=5) with rfl | rfl | rfl | rfl | rfl | rfl<;>rfl
def RowZs (W:World) (b off:Nat) (zs:List (List Int)):Prop:=∀ k,k<zs.length→∀ j,j<6→W.cell? ⟨b,off+k*6+j,none⟩=some (.int .i64 ((zat zs k)[j]?.getD 0))
theorem RowZs.below {n:Nat} {W X:World} {b off:Nat} {zs:List (List Int)} (h:RowZs W b off zs) (k:Below n W X) (hb:b<n):RowZs X b off zs:=fun i hi j hj=>(k.cell (p:=⟨b,off+i*6+j,none⟩) hb).trans (h i hi j hj)
def Zs (n₀:Nat) (W:World) (sv:Value) (zs:List (List Int)):Prop:=
 ((∃ a cap,sv=.slice a 0 cap∧(a=none→cap=0))∧zs=[])∨∃ b off cap,sv=.slice (some ⟨b,off,none⟩) zs.length cap∧b<n₀∧RowZs W b off zs
theorem Zs.below {n₀:Nat} {A B:World} (h:Below n₀ A B) {sv:Value} {zs:List (List Int)}:Zs n₀ A sv zs→Zs n₀ B sv zs
 | .inl e=>.inl e
 | .inr ⟨b,off,cap,e,hb,hc⟩=>.inr ⟨b,off,cap,e,hb,hc.below h hb⟩
theorem Zs.mono {n₀ n₁:Nat} {A:World} (h:n₀≤n₁) {sv:Value} {zs:List (List Int)}:Zs n₀ A sv zs→Zs n₁ A sv zs
 | .inl e=>.inl e
 | .inr ⟨b,off,cap,e,hb,hc⟩=>.inr ⟨b,off,cap,e,Nat.lt_of_lt_of_le hb h,hc⟩
theorem Zs.on {A B:World} {sv:Value} {zs:List (List Int)} (h:Zs A.heap.size A sv zs) (k:Below A.heap.size A B):Zs B.heap.size B sv zs:=(h.below k).mono k.size
theorem zs_len {n₀:Nat} {W:World} {sv:Value} {zs:List (List Int)} (h:Zs n₀ W sv zs):∃ a cap,sv=.slice a zs.length cap:=by
 rcases h with ⟨⟨a,cap,rfl,_⟩,rfl⟩ | ⟨b,off,cap,rfl,_⟩
 ·exact ⟨_,_,rfl⟩
 ·exact ⟨_,_,rfl⟩
theorem zs_at {n₀:Nat} {W:World} {a:Option Addr} {len cap:Nat} {zs:List (List Int)} (h:Zs n₀ W (.slice a len cap) zs) {k:Nat} (hk:k<zs.length):
  ∃ b off,a=some ⟨b,off,none⟩∧len=zs.length∧b<n₀∧W.cell? ⟨b,off+k*6,none⟩=some (.int .i64 ((zat zs k)[0]?.getD 0))∧W.cell? ⟨b,off+k*6+1,none⟩=some (.int .i64 ((zat zs k)[1]?.getD 0))∧W.cell? ⟨b,off+k*6+2,none⟩=some (.int .i64 ((zat zs k)[2]?.getD 0))∧
   W.cell? ⟨b,off+k*6+3,none⟩=some (.int .i64 ((zat zs k)[3]?.getD 0))∧W.cell? ⟨b,off+k*6+4,none⟩=some (.int .i64 ((zat zs k)[4]?.getD 0))∧W.cell? ⟨b,off+k*6+5,none⟩=some (.int .i64 ((zat zs k)[5]?.getD 0)):=by
 rcases h with ⟨_,rfl⟩ | ⟨b,off,c,e,hb,hc⟩
 ·simp at hk
 ·injection e with e1 e2 e3
  exact ⟨b,off,e1,e2,hb,hc k hk 0 (by decide),hc k hk 1 (by decide),hc k hk 2 (by decide),hc k hk 3 (by decide),hc k hk 4 (by decide),hc k hk 5 (by decide)⟩
/-! as an argument -/
section
variable {H:Type} {enc:TypeId × Value→H} {w:World} {base:Nat} {spare:Nat→Bool} {held:Bool}
theorem drop_one {α:Type} {l:List α} {j:Nat} (h:j<l.length):(l.drop (j*1)).take 1=[l[j]'h]:=by
 rw [Nat.mul_one,List.drop_eq_getElem_cons h]
 rfl
theorem slice_six {fuel:Nat} {cs:List Value} {x:DataW H × List MemPlace} (h:DataW.trod enc Tryz.prog w base spare held fuel 29 cs=some x):
  (cs=[.slice none 0 0])∨
  ∃ (a:Addr) (len cap m:Nat),cs=[.slice (some a) len cap]∧len≤cap∧cap≤maxLen∧m=(if spare a.block then cap else len)∧
   ∀ i,i<m→∀ j,j<6→∃ x:Int,w.cell? (a.add (i*6+j))=some (.int .i64 x)∧(Lit.int .i64 x).wf=true:=by
 have c1:Tryz.prog.cellsOf 25=1:=by kernel_rfl
 have c6:Tryz.prog.cellsOf 27=6:=by kernel_rfl
 rcases open_slice Tryz.underlying29 h with h0 | ⟨a,len,cap,m,n,D,Pl,hcs,hb,hl,hm,hmm,hx,hi⟩
 ·exact .inl h0.1
 ·refine .inr ⟨a,len,cap,m,hcs,hl,hm,hmm,fun i him j hj=>?_⟩
  obtain ⟨cs',hc,ht'⟩:=hi i him
  rw [c6] at hc
  obtain ⟨_,hcl,hat⟩:=World.cells?_some hc
  obtain ⟨ys,n',_,_,_,hn,hel⟩:=DataW.trod_array Tryz.underlying27 ht'
  rw [c1] at hel
  have hjl:j<cs'.length:=by omega
  have h1:=hel j hj
  rw [drop_one hjl] at h1
  have hys:ys[j]?=some (ys[j]'(by omega)):=List.getElem?_eq_getElem (by omega)
  obtain ⟨y,e,_,wy⟩:=DataW.trod_int Tryz.underlying25 (h1.trans hys)
  simp only [List.cons.injEq,and_true] at e
  refine ⟨y,?_,wy⟩
  rw [←Go.Deep.add_add,hat j hj,List.getElem?_eq_getElem hjl,e]
end
def Wf6 (zs:List (List Int)):Prop:=∀ z,z ∈ zs→z.length=6∧∀ x,x ∈ z→-9223372036854775808≤x∧x≤9223372036854775807
theorem Wf6.tops {zs:List (List Int)} (h:Wf6 zs) {z:List Int} (hz:z ∈ zs):Tops z:=fun x hx=>((h z hz).2 x hx).2
theorem zat_mem {zs:List (List Int)} {k:Nat} (h:k<zs.length):zat zs k ∈ zs:=by
 unfold zat
 rw [List.getElem?_eq_getElem h]
 exact List.getElem_mem h
theorem zat_map (f:Nat→List Int) (len k:Nat) (h:k<len):zat ((List.range len).map f) k=f k:=by
 simp [zat,h]
set_option maxRecDepth 100000 in
theorem open_zones {H:Type} {enc:TypeId × Value→H} {W:World} {v:Value} {d:DataW H} {p:List MemPlace} {base:Nat}
  (hok:Value.okWide Tryz.prog W .any base 29 v) (h:DataW.Trod enc Tryz.prog W 0 (fun _=>true) true 29 v d p):
  ∃ zs:List (List Int),Wf6 zs∧Zs W.heap.size W v zs∧zs.length≤maxLen∧∀ a l c,v=.slice a l c→l≤c:=by
 obtain ⟨a0,len,cap,rfl⟩:=okWide_slice Tryz.underlying29 hok
 obtain ⟨fuel,hf⟩:=h
 rcases slice_six hf with hcs | ⟨a,len',cap',m,hcs,hl,hm,hmm,hi⟩
 ·simp [Value.cells] at hcs
  obtain ⟨rfl,rfl,rfl⟩:=hcs
  exact ⟨[],(fun z hz=>by cases hz),.inl ⟨⟨_,_,rfl,fun _=>rfl⟩,rfl⟩,Nat.zero_le _,fun a l c e=>by injection e with _ e2 e3;omega⟩
 ·simp [Value.cells] at hcs
  obtain ⟨rfl,rfl,rfl⟩:=hcs
  simp only [if_true] at hmm
  obtain ⟨g,hg⟩:∃ g:Nat→Nat→Int,∀ i,i<len→∀ j,j<6→W.cell? (a.add (i*6+j))=some (.int .i64 (g i j))∧(Lit.int .i64 (g i j)).wf=true:=
   ⟨fun i j=>if h:i<len∧j<6 then (hi i (by omega) j h.2).choose else 0,fun i h j hj=>by dsimp only;rw [dif_pos ⟨h,hj⟩];exact (hi i (by omega) j hj).choose_spec⟩
  have hlen:((List.range len).map fun i=>[g i 0,g i 1,g i 2,g i 3,g i 4,g i 5]).length=len:=by simp
  have at6:∀ i j,j<6→[g i 0,g i 1,g i 2,g i 3,g i 4,g i 5][j]?.getD 0=g i j:=fun i j hj=>by
   rcases (by omega:j=0∨j=1∨j=2∨j=3∨j=4∨j=5) with rfl | rfl | rfl | rfl | rfl | rfl<;>rfl
  refine ⟨(List.range len).map fun i=>[g i 0,g i 1,g i 2,g i 3,g i 4,g i 5],fun z hz=>?_,?_,by rw [hlen];omega,fun a l c e=>by injection e with _ e2 e3;omega⟩
  ·obtain ⟨i,hi',rfl⟩:=List.mem_map.1 hz
   have hi':=List.mem_range.1 hi'
   refine ⟨rfl,fun x hx=>?_⟩
   have key:∀ j,j<6→-9223372036854775808≤g i j∧g i j≤9223372036854775807:=fun j hj=>⟨law.wf_lo (hg i hi' j hj).2,law.wf_hi (hg i hi' j hj).2⟩
   simp only [List.mem_cons,List.not_mem_nil,or_false] at hx
   rcases hx with rfl | rfl | rfl | rfl | rfl | rfl
   ·exact key 0 (by decide)
   ·exact key 1 (by decide)
   ·exact key 2 (by decide)
   ·exact key 3 (by decide)
   ·exact key 4 (by decide)
   ·exact key 5 (by decide)
  ·by_cases h0:len=0
   ·subst h0
    exact .inl ⟨⟨_,_,rfl,fun h=>by cases h⟩,by simp⟩
   ·obtain ⟨b,off,spot⟩:=a
    have hspot:spot=none:=by simpa [Addr.add] using World.cell?_spot (hg 0 (by omega) 0 (by decide)).1
    subst hspot
    have hcell:∀ i,i<len→∀ j,j<6→W.cell? ⟨b,off+(i*6+j),none⟩=some (.int .i64 (g i j)):=fun i hi' j hj=>by
     have:=(hg i hi' j hj).1
     rwa [Go.WideShapes.add_plain] at this
    refine .inr ⟨b,off,cap,by rw [hlen],law.cell_lt (hcell 0 (by omega) 0 (by decide)),fun k hk j hj=>?_⟩
    rw [hlen] at hk
    rw [zat_map _ len k hk,at6 k j hj,Nat.add_assoc]
    exact hcell k hk j hj
/-! as a row of one's own -/
def flatZ (zs:List (List Int)):List Value:=zs.flatMap zcs
theorem flatZ_cons (z:List Int) (zs:List (List Int)):flatZ (z::zs)=zcs z++flatZ zs:=rfl
theorem flatZ_app (xs ys:List (List Int)):flatZ (xs++ys)=flatZ xs++flatZ ys:=by simp [flatZ]
theorem flatZ_one (z:List Int):flatZ [z]=zcs z:=by simp [flatZ]
theorem flatZ_length (zs:List (List Int)):(flatZ zs).length=zs.length*6:=by
 induction zs with
 | nil=>rfl
 | cons z zs ih=>
  rw [flatZ_cons,List.length_append,ih,List.length_cons]
  show 6+zs.length*6=_
  omega
theorem flatZ_at (zs:List (List Int)) (k j:Nat) (h:k<zs.length) (hj:j<6):(flatZ zs)[k*6+j]?=some (.int .i64 ((zat zs k)[j]?.getD 0)):=by
 induction zs generalizing k with
 | nil=>simp at h
 | cons z zs ih=>
  have l6:(zcs z).length=6:=rfl
  rw [flatZ_cons]
  cases k with
  | zero=>rw [Nat.zero_mul,Nat.zero_add,List.getElem?_append_left (by omega),zcs_at z hj];rfl
  | succ k=>
   rw [List.getElem?_append_right (by omega),l6,show (k+1)*6+j - 6=k*6+j by omega,ih k (by simpa using h)]
   simp [zat]
theorem flatZ_each (zs:List (List Int)):∀ u ∈ flatZ zs,u.oneCell'=true:=fun u hu=>by
 obtain ⟨z,_,hz⟩:=List.mem_flatMap.1 hu
 simp only [zcs,List.mem_cons,List.not_mem_nil,or_false] at hz
 rcases hz with rfl | rfl | rfl | rfl | rfl | rfl<;>rfl
theorem flatZ_row {W:World} {b off:Nat} {zs:List (List Int)} (h:RowZs W b off zs) (j:Nat) (v:Value) (hj:(flatZ zs)[j]?=some v):W.cell? ((⟨b,off,none⟩:Addr).add j)=some v:=by
 have hl:j<zs.length*6:=by
  rw [←flatZ_length]
  exact (List.getElem?_eq_some_iff.1 hj).1
 rw [Go.WideShapes.add_plain]
 have e:j / 6*6+j % 6=j:=by omega
 have a:=h (j / 6) (by omega) (j % 6) (by omega)
 have c:=flatZ_at zs (j / 6) (j % 6) (by omega) (by omega)
 rw [Nat.add_assoc,e] at a
 rw [e] at c
 rw [a,←c,hj]
theorem zs_own {W:World} {base n:Nat} {v:Value} {zs:List (List Int)} (h:W.ownsRow base 27 6 v n (flatZ zs)):Zs W.heap.size W v zs:=by
 have hn:zs.length=n:=by have:=h.1;rw [flatZ_length] at this;omega
 subst hn
 rcases ownsRow_forms h with ⟨rfl,h0⟩ | ⟨g,cap,rfl⟩
 ·exact .inl ⟨⟨none,0,rfl,fun _=>rfl⟩,List.eq_nil_of_length_eq_zero h0⟩
 ·refine .inr ⟨g,0,cap,rfl,(h.lt g rfl).2,fun k hk j hj=>?_⟩
  have:=h.cellAt (k*6+j) (by omega)
  rw [Nat.zero_add]
  rw [this,flatZ_at zs k j hk hj]
theorem info_z:(Tryz.prog.info? 27).map (fun i=>(i.zero,i.size,i.bytes))=some (some (.agg #[.int .i64 0,.int .i64 0,.int .i64 0,.int .i64 0,.int .i64 0,.int .i64 0]),6,48):=by kernel_rfl
theorem app_zones (base:Nat) (ty:TypeId) (v tv:Value) (n n₀:Nat) (xs:List Value) (zs:List (List Int)) (W:World) (hown:W.ownsRow base 27 6 v n xs) (h:Zs n₀ W tv zs) (hm:n+zs.length≤1000000) (hb:base≤W.heap.size):
  ∃ v' w',(Builtin.append_ #[29,29] ty #[v,tv]).run Tryz.prog W=.ok v' w'∧w'.ownsRow base 27 6 v' (n+zs.length) (xs++flatZ zs)∧W.grownBy w' v.ownBlock∧(v'.ownBlock=v.ownBlock∨v'.ownBlock=some W.heap.size):=by
 obtain ⟨i,hi,hz,hs,hby⟩:=info_parts info_z
 have some_case:∀ (a:Addr) (cap:Nat),(∀ j u,(flatZ zs)[j]?=some u→W.cell? (a.add j)=some u)→
   ∃ v' w',(Builtin.append_ #[29,29] ty #[v,.slice (some a) zs.length cap]).run Tryz.prog W=.ok v' w'∧w'.ownsRow base 27 6 v' (n+zs.length) (xs++flatZ zs)∧W.grownBy w' v.ownBlock∧(v'.ownBlock=v.ownBlock∨v'.ownBlock=some W.heap.size):=fun a cap hc=>by
  obtain ⟨v',w',hr,h2,h3,_,h5⟩:=run_append_own_at (P:=Tryz.prog) (w:=W) base 29 ty 27 i _ 6 48 Tryz.underlying29 hi hz hs hby rfl (by decide) v n xs hown a zs.length cap (flatZ zs) (flatZ_length zs) hc (flatZ_each zs) (by unfold maxLen;omega) (by omega) hb
  exact ⟨v',w',hr,h2,h3,h5⟩
 rcases h with ⟨⟨a,cap,rfl,hcap⟩,rfl⟩ | ⟨b,off,cap,rfl,hb',hc⟩
 ·cases a with
  | none=>
   obtain rfl:=hcap rfl
   refine ⟨v,W,run_append_owned_none (P:=Tryz.prog) (w:=W) base 29 ty 27 i 6 Tryz.underlying29 hi v n xs hown,?_,⟨rfl,rfl,rfl,Nat.le_refl _,fun _ _ _=>rfl⟩,.inl rfl⟩
   simpa [flatZ] using hown
  | some a=>exact some_case a cap (fun j u hj=>by simp [flatZ] at hj)
 ·exact some_case ⟨b,off,none⟩ cap (flatZ_row hc)
theorem zs_box {W:World} {g:Nat} {z0 z1 z2 z3 z4 z5:Int} (h:lies.Lies W g 27 #[.int .i64 z0,.int .i64 z1,.int .i64 z2,.int .i64 z3,.int .i64 z4,.int .i64 z5]):Zs W.heap.size W (.slice (some ⟨g,0,none⟩) 1 1) [[z0,z1,z2,z3,z4,z5]]:=by
 obtain ⟨⟨c0,c1,c2,c3,c4,c5⟩,_⟩:=six_cells h
 refine .inr ⟨g,0,1,rfl,lies.lt h,fun k hk j hj=>?_⟩
 obtain rfl:k=0:=by simp at hk;omega
 rcases (by omega:j=0∨j=1∨j=2∨j=3∨j=4∨j=5) with rfl | rfl | rfl | rfl | rfl | rfl
 ·exact c0
 ·exact c1
 ·exact c2
 ·exact c3
 ·exact c4
 ·exact c5
theorem own_nil6 (w:World) (t:TypeId):(w.alloc (.cells #[] t)).ownsRow w.heap.size t 6 (.slice (some ⟨w.heap.size,0,none⟩) 0 0) 0 []:=
 ⟨rfl,.inr ⟨w.heap.size,0,#[],rfl,Nat.le_refl _,World.alloc_heap_new w _,Nat.le_refl _,Nat.zero_le _,rfl,rfl⟩⟩
end Go.Proofs.YthmljpccbjolgaaGreatDoor.mz
