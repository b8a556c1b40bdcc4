
/-
  The document's own answers of layer 4 (rallentandoref04), and dbm.Same and Twin of any matrix; each theorem names its conditions.
-/
import Derived.Test.YthmljpccbjolgaaGreatDoorDbmC
import Derived.Test.YthmljpccbjolgaaGreatDoorBase
import Derived.Test.YthmljpccbjolgaaGreatDoorDbmB
import Derived.BigQuiet
import Derived.Test.YthmljpccbjolgaaGreatDoorDbmD
import Derived.Test.YthmljpccbjolgaaGreatDoorRatC
import Derived.Test.YthmljpccbjolgaaGreatDoorDbmA
import Derived.Deep.OwnRows
import Derived.Laws.CopyOwn
import Derived.WalkSpells
namespace Go.Proofs.YthmljpccbjolgaaGreatDoor.dref
open Go.ChangeShapes Go.WideShapes Go.ChangeAt Go.RowKit num dbm
open bound hiding up
set_option linter.unusedVariables false
def Low (ts:List Int):Prop:=∀ x ∈ ts,-9223372036854775808≤x
theorem low_at {ts:List Int} (h:Low ts) {k:Nat} (hk:k<ts.length):-9223372036854775808≤ts[k]?.getD 0:=by
 rw [List.getElem?_eq_getElem hk]
 exact h _ (List.getElem_mem hk)
theorem high_at {ts:List Int} (h:∀ x ∈ ts,x≤9223372036854775807) {k:Nat} (hk:k<ts.length):ts[k]?.getD 0≤9223372036854775807:=by
 rw [List.getElem?_eq_getElem hk]
 exact h _ (List.getElem_mem hk)
set_option maxRecDepth 100000 in
set_option maxHeartbeats 1000000 in
theorem may_row (n b off cap len : Nat) (ts : List Int) (w : World) (h0 : 0 < n) (hn : n ≤ 4) (hr : Row w b off ts) (hb : b < w.heap.size) (hlen : len = n * n) (hl : ts.length = len) (hlo : Low ts) (htop : ∀ x ∈ ts,x ≤ 9223372036854775807) :
  Calls Tryz.prog 147 #[.agg #[.int .i64 n,.slice (some ⟨b,off,none⟩) len cap]] w fun e w' => e = .returned (.bool (decide (∀ p,p < ts.length → Fine (ts[p]?.getD 0)))) ∧ Below w.heap.size w w' := by
 have hsq := sq_le hn
 have e1 : (n : Int) * n = len := by rw [← Int.natCast_mul,hlen]
 have e2 : IntKind.i64.wrap ((n : Int) * n) = len := by rw [e1]; exact dbm.wrap_small (x := (len : Int)) (by omega) (by omega)
 have e3 : wrap64 ((n : Int) * n) = len := by rw [e1]; unfold wrap64; omega
 have c1 : ¬ (n : Int) < 1 := by omega
 have c2 : ¬ (4 : Int) < n := by omega
 have c3 : ((len : Int) != len) = false := by simp
 have HR := Lib.hid hr
 have HL := Lib.hid hl
 have HT := Lib.hid htop
 have HLO := Lib.hid hlo
 have D0 := lies.made w 81 #[.int .i64 n,.slice (some ⟨b,off,none⟩) len cap]
 have DB : Below w.heap.size w (w.alloc (.cells #[.int .i64 n,.slice (some ⟨b,off,none⟩) len cap] 81)) := (Below.refl _ w).alloc (Nat.le_refl _) _
 have h16 : len ≤ 16 := by omega
 clear hr hl htop hlo hlen e1
 go_enter Tryz.func147,Tryz.ntmps147
 go_wp2_with fail
 go_loopw [3] (fun i wr => ∃ k : Nat,k ≤ len ∧ i = .int .i64 k ∧ RowKit.Hid (∀ p,p < k → Fine (ts[p]?.getD 0)) ∧ lies.Lies wr w.heap.size 81 #[.int .i64 n,.slice (some ⟨b,off,none⟩) len cap] ∧ Below w.heap.size w wr)
  (fun i _ => len - (intOf i).toNat)
 case atStart => exact ⟨0,Nat.zero_le _,rfl,Lib.hid (fun m hm => absurd hm (by omega)),D0,DB⟩
 case round =>
  clear D0 DB
  obtain ⟨k,hk,rfl,hpos,M1,hB⟩ := hrel
  obtain ⟨x0,x1,x2,x3,x4⟩ := lies.two M1
  by_cases hkn : k < len
  ·have hc : wr.cell? ⟨b,off + k,none⟩ = some (.int .i64 (ts[k]?.getD 0)) := (HR.out.below hB hb) _ (by rw [HL.out]; exact hkn)
   have hlo := low_at HLO.out (by rw [HL.out]; exact hkn : k < ts.length)
   have hhi := high_at HT.out (by rw [HL.out]; exact hkn : k < ts.length)
   have z1 : (0 : Int) ≤ k := by omega
   have z2 : (k : Int) < len := by omega
   generalize hx : ts[k]?.getD 0 = x at hc hlo hhi
   have HX := Lib.hid hx
   clear hx
   by_cases h1 : Fine x
   ·have H1 := Lib.hid h1
    by_cases hxn : x = 9223372036854775807
    ·subst hxn
     clear h1
     go_wp2_with fail
     go_roundw
     case rel => exact ⟨k + 1,by omega,by go_num,Lib.hid (fun m hm => by
      by_cases e : m = k
      ·subst e; rw [HX.out]; exact H1.out
      ·exact hpos.out m (by omega)),M1,hB⟩
     case measure => simp [intOf]; omega
    ·obtain ⟨f1,f2⟩ := h1.resolve_left hxn
     have t0 : (x != 9223372036854775807) = true := by simpa using hxn
     have t1 : decide (x / 2 < -288230376151711744) = false := decide_eq_false (by omega)
     have t2 : decide (288230376151711744 < x / 2) = false := decide_eq_false (by omega)
     clear h1 hxn f1 f2
     go_wp2_with (go_at_call 189; refine (number_any _ _ hlo hhi).mono ?_; rintro e w' ⟨rfl,rfl⟩)
     go_roundw
     case rel => exact ⟨k + 1,by omega,by go_num,Lib.hid (fun m hm => by
      by_cases e : m = k
      ·subst e; rw [HX.out]; exact H1.out
      ·exact hpos.out m (by omega)),M1,hB⟩
     case measure => simp [intOf]; omega
   ·have hbad : RowKit.Hid (decide (∀ p,p < ts.length → Fine (ts[p]?.getD 0)) = false) := Lib.hid (decide_eq_false (fun k' => h1 (by rw [← HX.out]; exact k' k (by rw [HL.out]; exact hkn))))
    have hxn : x ≠ 9223372036854775807 := fun e => h1 (.inl e)
    have t0 : (x != 9223372036854775807) = true := by simpa using hxn
    by_cases h2 : x / 2 < -288230376151711744
    ·have t1 : decide (x / 2 < -288230376151711744) = true := decide_eq_true h2
     clear h1 hxn h2
     go_wp2_with (go_at_call 189; refine (number_any _ _ hlo hhi).mono ?_; rintro e w' ⟨rfl,rfl⟩)
     go_ret
     exact ⟨by rw [hbad.out]; rfl,hB⟩
    ·have h3 : 288230376151711744 < x / 2 := Decidable.byContradiction fun k' => h1 (.inr ⟨by omega,by omega⟩)
     have t1 : decide (x / 2 < -288230376151711744) = false := decide_eq_false h2
     have t2 : decide (288230376151711744 < x / 2) = true := decide_eq_true h3
     clear h1 hxn h2 h3
     go_wp2_with (go_at_call 189; refine (number_any _ _ hlo hhi).mono ?_; rintro e w' ⟨rfl,rfl⟩)
     go_ret
     exact ⟨by rw [hbad.out]; rfl,hB⟩
  ·obtain rfl : len = k := by omega
   have hyes : RowKit.Hid (decide (∀ p,p < ts.length → Fine (ts[p]?.getD 0)) = true) := Lib.hid (decide_eq_true (fun p hp => hpos.out p (by rw [← HL.out]; exact hp)))
   go_wp2_with fail
   go_ret
   exact ⟨by rw [hyes.out]; rfl,hB⟩
set_option maxHeartbeats 1000000 in
theorem may_any (n:Int) (sv:Value) (ts:List Int) (w:World) (hI:law.Ints w.heap.size w sv ts) (hm:ts.length≤1000000) (hlo:Low ts) (htop:∀ x ∈ ts,x≤9223372036854775807):
  Calls Tryz.prog 147 #[.agg #[.int .i64 n,sv]] w fun e w'=>e=.returned (.bool (decide (MayD n ts)))∧Below w.heap.size w w':=by
 by_cases hh:1≤n∧n≤4∧(ts.length:Int)=n*n
 ·obtain ⟨h1,h2,c3⟩:=hh
  obtain ⟨m,rfl⟩:∃ m:Nat,n=m:=⟨n.toNat,by omega⟩
  have hl:ts.length=m*m:=by rw [←Int.natCast_mul] at c3;exact Int.ofNat.inj c3
  have hp:0<m*m:=Nat.mul_pos (by omega) (by omega)
  have e:decide (MayD (m:Int) ts)=decide (∀ p,p<ts.length→Fine (ts[p]?.getD 0)):=by
   refine decide_eq_decide.2 ⟨fun h=>h.2.2.2,fun h=>⟨h1,h2,c3,h⟩⟩
  rw [e]
  rcases hI with ⟨_,rfl⟩ | ⟨b,off,cap,rfl,hb,hc⟩
  ·simp at hl;omega
  ·exact may_row m b off cap ts.length ts w (by omega) (by omega) hc hb hl rfl hlo htop
 ·rw [decide_eq_false (fun h=>hh ⟨h.1,h.2.1,h.2.2.1⟩)]
  obtain ⟨a,cap,rfl⟩:=ints_len hI
  clear hI hlo htop
  obtain ⟨m,hm'⟩:∃ m,m=ts.length:=⟨_,rfl⟩
  rw [←hm'] at hh hm ⊢
  clear hm'
  by_cases c1:n<1
  ·clear hh
   go_enter Tryz.func147,Tryz.ntmps147
   go_wp2
   go_ret
   exact ⟨rfl,(Below.refl _ _).alloc (Nat.le_refl _) _⟩
  ·by_cases c2:4<n
   ·clear hh
    go_enter Tryz.func147,Tryz.ntmps147
    go_wp2
    go_ret
    exact ⟨rfl,(Below.refl _ _).alloc (Nat.le_refl _) _⟩
   ·have c3:¬ (m:Int)=n*n:=fun k=>hh ⟨by omega,by omega,k⟩
    clear hh hm
    rcases four (n:=n) (by omega) (by omega) with rfl | rfl | rfl | rfl
    ·have c4:((m:Int) !=1)=true:=by simp;omega
     have c6:¬ m=1:=by omega
     clear c1 c2 c3
     go_enter Tryz.func147,Tryz.ntmps147
     go_wp2
     go_ret
     exact ⟨rfl,(Below.refl _ _).alloc (Nat.le_refl _) _⟩
    ·have c4:((m:Int) !=4)=true:=by simp;omega
     have c6:¬ m=4:=by omega
     clear c1 c2 c3
     go_enter Tryz.func147,Tryz.ntmps147
     go_wp2
     go_ret
     exact ⟨rfl,(Below.refl _ _).alloc (Nat.le_refl _) _⟩
    ·have c4:((m:Int) !=9)=true:=by simp;omega
     have c6:¬ m=9:=by omega
     clear c1 c2 c3
     go_enter Tryz.func147,Tryz.ntmps147
     go_wp2
     go_ret
     exact ⟨rfl,(Below.refl _ _).alloc (Nat.le_refl _) _⟩
    ·have c4:((m:Int) !=16)=true:=by simp;omega
     have c6:¬ m=16:=by omega
     clear c1 c2 c3
     go_enter Tryz.func147,Tryz.ntmps147
     go_wp2
     go_ret
     exact ⟨rfl,(Below.refl _ _).alloc (Nat.le_refl _) _⟩
end Go.Proofs.YthmljpccbjolgaaGreatDoor.dref
namespace Go.Proofs.YthmljpccbjolgaaGreatDoor.dref
open Go.ChangeShapes Go.WideShapes Go.ChangeAt Go.RowKit num dbm
open bound hiding up
set_option linter.unusedVariables false
set_option linter.unusedSimpArgs false
def dec:way.B→Int
 | none=>9223372036854775807
 | some a=>a
theorem dec_cod (b:Int):dec (cod b)=b:=by
 by_cases h:b=9223372036854775807
 ·rw [h,cod_none];rfl
 ·rw [cod_some h];rfl
theorem cod_dec {x:way.B} {k:Int} (hk:k≤4) (h:way.Wi 288230376151711744 k x):cod (dec x)=x:=by
 cases x with
 | none=>exact cod_none
 | some a=>
  obtain ⟨h1,h2⟩:=h
  exact cod_some (by show a≠_;omega)
theorem rsum_in (a b:Int) (w:World) (ha:Rng a) (hb:Rng b):Calls Tryz.prog 228 #[.int .i64 a,.int .i64 b] w fun e w'=>e=.returned (.tuple #[.int .i64 (sumV a b),.bool true])∧w=w':=by
 have good:∀ {x:Int},Rng x→x≠9223372036854775807→May (x / 2)∧-1152921504606846976≤x / 2∧x / 2≤1152921504606846976:=fun h hn=>by
  rcases h with h | h
  ·exact (hn h).elim
  ·exact ⟨by unfold May;omega,h⟩
 have nb:∀ {x:Int},Rng x→¬ badB x:=fun h k=>k.2 (good h k.1).1
 by_cases h1:a=9223372036854775807
 ·rw [(sum_none (fun k=>k.elim (nb ha) (nb hb)) (.inl h1)).1,h1]
  exact rsum_none1 b w
 ·by_cases h2:b=9223372036854775807
  ·rw [(sum_none (fun k=>k.elim (nb ha) (nb hb)) (.inr h2)).1,h2]
   exact rsum_none2 a w (may_hi (good ha h1).1)
  ·obtain ⟨m1,r1⟩:=good ha h1
   obtain ⟨m2,r2⟩:=good hb h2
   have m3:May (a / 2+b / 2):=by unfold May;omega
   rw [(sum_ok m1 m2 m3).1]
   exact rsum_ok a b w m1 m2 m3
theorem place_int {n i j:Nat} (hn:n≤4) (hi:i<n) (hj:j<n):IntKind.i64.wrap ((i:Int)*n)=(i:Int)*n∧wrap64 ((i:Int)*n)=(i:Int)*n∧IntKind.i64.wrap ((i:Int)*n+j)=(i:Int)*n+j∧wrap64 ((i:Int)*n+j)=(i:Int)*n+j∧0≤(i:Int)*n+j∧(i:Int)*n+j<(n:Int)*n∧((i:Int)*n+j).toNat=i*n+j:=by
 have h1:=place_le hn hi hj
 have h2:=sq_le hn
 have e1:(i:Int)*n=((i*n:Nat):Int):=(Int.natCast_mul i n).symm
 have e2:(n:Int)*n=((n*n:Nat):Int):=(Int.natCast_mul n n).symm
 rw [e1,e2]
 generalize i*n=a at h1 ⊢
 generalize n*n=b at h1 h2 ⊢
 refine ⟨dbm.wrap_small (by omega) (by omega),?_,dbm.wrap_small (by omega) (by omega),?_,by omega,by omega,by omega⟩<;>(unfold wrap64;omega)
def MatI (n b off:Nat) (ts:List Int) (W:World):Prop:=Row W b off ts∧b<W.heap.size
theorem MatI.below {n b off:Nat} {ts:List Int} {W X:World} (h:MatI n b off ts W) (k:Below W.heap.size W X):MatI n b off ts X:=⟨h.1.below k h.2,Nat.lt_of_lt_of_le h.2 k.size⟩
theorem bit_of (left:Nat) (hl:left<16) (m:Nat) (hm:m<4):bits .and .i64 ((left:Int) / 2 ^ m) 1=if left.testBit m=true then 1 else 0:=by
 have all:∀ left:Nat,left<16→∀ m:Nat,m<4→((left:Int) / 2 ^ m) % 2=(if left.testBit m=true then 1 else 0)∧0≤(left:Int) / 2 ^ m∧(left:Int) / 2 ^ m≤15:=by decide+kernel
 obtain ⟨h1,h2,h3⟩:=all left hl m hm
 rw [bits_one _ (by omega) (by omega)]
 exact h1
theorem pow_of (m:Nat) (hm:m<4):IntKind.i64.wrap ((2:Int) ^ m)=((2 ^ m:Nat):Int):=by
 have all:∀ m,m<4→IntKind.i64.wrap ((2:Int) ^ m)=((2 ^ m:Nat):Int):=by decide+kernel
 exact all m hm
theorem sub_bit {left m:Nat} (hl:left<16) (hT:left.testBit m=true):(left:Int) - ((2 ^ m:Nat):Int)=((left - 2 ^ m:Nat):Int)∧wrap64 ((left - 2 ^ m:Nat):Int)=((left - 2 ^ m:Nat):Int)∧IntKind.i64.wrap ((left - 2 ^ m:Nat):Int)=((left - 2 ^ m:Nat):Int):=by
 have hge:2 ^ m≤left:=Nat.ge_two_pow_of_testBit hT
 generalize 2 ^ m=P at hge ⊢
 refine ⟨by omega,?_,dbm.wrap_small (by omega) (by omega)⟩
 unfold wrap64;omega
theorem dec_le {x:way.B} {k:Int} (hk:k≤4) (h:way.Wi 288230376151711744 k x):dec x≤9223372036854775807:=by
 cases x with
 | none=>exact Int.le_refl _
 | some a=>obtain ⟨h1,h2⟩:=h;show a≤_;omega
theorem dec_rng {x:way.B} {k:Int} (hk:k≤4) (h:way.Wi 288230376151711744 k x):Rng (dec x):=rng_wi hk (by rw [cod_dec hk h];exact h)
theorem dec_mn {x y:way.B} {k:Int} (hk:k≤4) (hx:way.Wi 288230376151711744 k x) (hy:way.Wi 288230376151711744 k y):dec (way.mn x y)=if dec y<dec x then dec y else dec x:=by
 have h:=cod_le (dec_le hk hx) (dec_le hk hy)
 rw [cod_dec hk hx,cod_dec hk hy] at h
 unfold way.mn
 by_cases e:way.le x y
 ·rw [if_pos e,if_neg (fun k=>by have:=h.1 e;omega)]
 ·rw [if_neg e,if_pos (Decidable.byContradiction fun k=>e (h.2 (by omega)))]
set_option maxRecDepth 100000 in
set_option maxHeartbeats 4000000 in
theorem path_step (n b off cap:Nat) (ts:List Int) (tgt left i:Nat) (rec:Nat→way.B) (w:World) (h0:0<n) (hn:n≤4) (hl:ts.length=n*n) (hf:∀ p,p<ts.length→Fine (ts[p]?.getD 0)) (ht:tgt<n) (hi:i<n) (hl16:left<16) (hM:MatI n b off ts w)
  (hrec:∀ k,k<n→left.testBit k=true→k≠tgt→way.Wi 288230376151711744 4 (rec k)∧way.Wi 288230376151711744 4 (way.ad (wts n ts i k) (rec k)))
  (hcall:∀ k,k<n→left.testBit k=true→k≠tgt→∀ w,MatI n b off ts w→Calls Tryz.prog 190 #[.agg #[.int .i64 n,.slice (some ⟨b,off,none⟩) (n*n) cap],.int .i64 k,.int .i64 tgt,.int .i64 ((left - 2 ^ k:Nat):Int)] w fun e w'=>e=.returned (.int .i64 (dec (rec k)))∧Below w.heap.size w w'):
  Calls Tryz.prog 190 #[.agg #[.int .i64 n,.slice (some ⟨b,off,none⟩) (n*n) cap],.int .i64 i,.int .i64 tgt,.int .i64 left] w fun e w'=>e=.returned (.int .i64 (dec (way.pk (wts n ts) tgt left i rec n)))∧Below w.heap.size w w':=by
 have hsq:=sq_le hn
 have hwi:∀ m,m≤n→way.Wi 288230376151711744 4 (way.pk (wts n ts) tgt left i rec m):=fun m hm=>by
  rcases way.pk_is (d:=wts n ts) (tgt:=tgt) (left:=left) (i:=i) (rec:=rec) m with e | ⟨k,hk,h1,h2,h3,e⟩
  ·rw [e,wts_in hi ht]
   exact way.wi_more (by decide) (by decide) (wi_fine (fine_at hl hn hf hi ht))
  ·rw [e];exact (hrec k (by omega) h1 h3).2
 have HW:=Lib.hid hwi
 have HL:=Lib.hid hl
 have HF:=Lib.hid hf
 have HREC:=Lib.hid hrec
 have HCALL:=Lib.hid hcall
 obtain ⟨hr,hb⟩:=hM
 have HR:=Lib.hid hr
 have D0:=lies.made w 81 #[.int .i64 n,.slice (some ⟨b,off,none⟩) (n*n) cap]
 have DB:Below w.heap.size w (w.alloc (.cells #[.int .i64 n,.slice (some ⟨b,off,none⟩) (n*n) cap] 81)):=(Below.refl _ w).alloc (Nat.le_refl _) _
 obtain ⟨y1,y2,y3,y4,y5,y6,y7⟩:=place_int hn hi ht
 have hc:w.cell? ⟨b,off+(i*n+tgt),none⟩=some (.int .i64 (tat ts n i tgt)):=hr _ (by rw [hl];exact place_le hn hi ht)
 clear hl hf hrec hcall hr hwi
 go_enter Tryz.func190,Tryz.ntmps190
 go_wp2_with fail
 go_loopw [9,10] (fun s k wr=>∃ m:Nat,m≤n∧k=.int .i64 m∧s=.int .i64 (dec (way.pk (wts n ts) tgt left i rec m))∧lies.Lies wr w.heap.size 81 #[.int .i64 n,.slice (some ⟨b,off,none⟩) (n*n) cap]∧Below w.heap.size w wr)
  (fun _ k _=>n - (intOf k).toNat)
 case atStart=>
  refine ⟨0,Nat.zero_le _,rfl,?_,D0,DB⟩
  show _=Value.int .i64 (dec (wts n ts i tgt))
  rw [wts_in hi ht,dec_cod]
 case round=>
  clear D0 DB y1 y2 y3 y4 y5 y6 y7 hc
  obtain ⟨m,hm,rfl,rfl,M1,hB⟩:=hrel
  obtain ⟨x0,x1,x2,x3,x4⟩:=lies.two M1
  by_cases hmn:m<n
  ·have hbit:=bit_of left hl16 m (by omega)
   cases hT:left.testBit m with
   | false=>
    rw [hT,if_neg (by decide)] at hbit
    have e:=way.pk_no (d:=wts n ts) (tgt:=tgt) (left:=left) (i:=i) (rec:=rec) (k:=m) (fun h=>by rw [hT] at h;exact absurd h.1 (by decide))
    have E:=Lib.hid e
    clear hT e
    have t1:(bits .and .i64 ((left:Int) / 2 ^ m) 1==0)=true:=by rw [hbit];rfl
    clear hbit
    go_wp2_with fail
    go_roundw
    case rel=>exact ⟨m+1,by omega,by go_num,by rw [E.out],M1,hB⟩
    case measure=>simp [intOf];omega
   | true=>
    rw [hT,if_pos rfl] at hbit
    have t1:(bits .and .i64 ((left:Int) / 2 ^ m) 1==0)=false:=by rw [hbit];rfl
    clear hbit
    by_cases hmi:m=i
    ·subst hmi
     have E:=Lib.hid (way.pk_no (d:=wts n ts) (tgt:=tgt) (left:=left) (i:=m) (rec:=rec) (k:=m) (fun h=>h.2.1 rfl))
     have t2:((m:Int)==m)=true:=by simp
     clear hT
     go_wp2_with fail
     go_roundw
     case rel=>exact ⟨m+1,by omega,by go_num,by rw [E.out],M1,hB⟩
     case measure=>simp [intOf];omega
    ·have t2:((m:Int)==i)=false:=by simp;omega
     by_cases hmt:m=tgt
     ·subst hmt
      have E:=Lib.hid (way.pk_no (d:=wts n ts) (tgt:=m) (left:=left) (i:=i) (rec:=rec) (k:=m) (fun h=>h.2.2 rfl))
      have t3:((m:Int)==m)=true:=by simp
      clear hT hmi
      go_wp2_with fail
      go_roundw
      case rel=>exact ⟨m+1,by omega,by go_num,by rw [E.out],M1,hB⟩
      case measure=>simp [intOf];omega
     ·have t3:((m:Int)==tgt)=false:=by simp;omega
      have E:=Lib.hid (way.pk_yes (d:=wts n ts) (rec:=rec) hT hmi hmt)
      obtain ⟨w1,w2⟩:=HREC.out m hmn hT hmt
      have hC:=HCALL.out m hmn hT hmt
      obtain ⟨hsub,hw3,hw4⟩:=sub_bit hl16 hT
      have p2:=pow_of m (by omega)
      have hsub':IntKind.i64.wrap ((left:Int) - IntKind.i64.wrap ((2:Int) ^ m))=((left - 2 ^ m:Nat):Int):=by rw [p2,hsub,hw4]
      clear p2 hsub hw3 hw4
      have hc:wr.cell? ⟨b,off+(i*n+m),none⟩=some (.int .i64 (tat ts n i m)):=(HR.out.below hB hb) _ (by rw [HL.out];exact place_le hn hi hmn)
      generalize left - 2 ^ m=q at hC hsub'
      have HSUB:=Lib.hid hsub'
      clear hsub'
      have hRng1:Rng (tat ts n i m):=rng_wi (k:=1) (by decide) (wi_fine (fine_at HL.out hn HF.out hi hmn))
      have hRng2:Rng (dec (rec m)):=dec_rng (Int.le_refl 4) w1
      have hS:sumV (tat ts n i m) (dec (rec m))=dec (way.ad (wts n ts i m) (rec m)):=by
       have h1:=(rng_sum hRng1 hRng2).1
       rw [cod_dec (Int.le_refl 4) w1] at h1
       rw [wts_in hi hmn,←h1,dec_cod]
      have hsum:=fun W=>rsum_in _ _ W hRng1 hRng2
      rw [hS] at hsum
      have hmn2:=dec_mn (Int.le_refl 4) (HW.out m (by omega)) w2
      rw [←E.out] at hmn2
      generalize dec (way.ad (wts n ts i m) (rec m))=s at hsum hmn2
      generalize tat ts n i m=x at hc hsum
      generalize dec (rec m)=y at hC hsum
      have HC:=Lib.hid hC
      have HSUM:=Lib.hid hsum
      have HMN:=Lib.hid hmn2
      have HCELL:=Lib.hid hc
      clear hT hmi hmt w1 w2 hC hRng1 hRng2 hS hsum hmn2 hc E
      go_wp2_with fail
      refine wp_region_held_drew (S:=Below wr.heap.size wr) (by kernel_rfl) (dbm.drawn1 (Below.refl _ _)) (fun hHeld=>?_)
      refine tk 0 (v:=?_) rfl hHeld ?_ ?_
      rotate_left
      ·intro w hSw;obtain ⟨s0,s1⟩:=dlaw.at_s M1 hSw;go_simp;try with_reducible rfl
      try simp only [Act.put,sA,sB,sC,sD,sE,sF]
      refine tk 1 (v:=?_) rfl hHeld ?_ ?_
      rotate_left
      ·intro w hSw;obtain ⟨s0,s1⟩:=dlaw.at_s M1 hSw;go_simp;try with_reducible rfl
      try simp only [Act.put,sA,sB,sC,sD,sE,sF]
      refine tk 2 (v:=?_) rfl hHeld ?_ ?_
      rotate_left
      ·intro w hSw;obtain ⟨s0,s1⟩:=dlaw.at_s M1 hSw;go_simp;try with_reducible rfl
      try simp only [Act.put,sA,sB,sC,sD,sE,sF]
      refine tk 3 (v:=?_) rfl hHeld ?_ ?_
      rotate_left
      ·intro w hSw;obtain ⟨s0,s1⟩:=dlaw.at_s M1 hSw;go_simp;try with_reducible rfl
      try simp only [Act.put,sA,sB,sC,sD,sE,sF]
      refine tk 4 (v:=?_) rfl hHeld ?_ ?_
      rotate_left
      ·intro w hSw;obtain ⟨s0,s1⟩:=dlaw.at_s M1 hSw;go_simp;try with_reducible rfl
      try simp only [Act.put,sA,sB,sC,sD,sE,sF]
      refine tk 5 (v:=?_) rfl hHeld ?_ ?_
      rotate_left
      ·intro w hSw;obtain ⟨y1,y2,y3,y4,y5,y6,y7⟩:=place_int hn hi hmn;go_simp;try with_reducible rfl
      try simp only [Act.put,sA,sB,sC,sD,sE,sF]
      refine tk 6 (v:=?_) rfl hHeld ?_ ?_
      rotate_left
      ·intro w hSw;obtain ⟨y1,y2,y3,y4,y5,y6,y7⟩:=place_int hn hi hmn;go_simp;try with_reducible rfl
      try simp only [Act.put,sA,sB,sC,sD,sE,sF]
      refine tk 7 (v:=?_) rfl hHeld ?_ ?_
      rotate_left
      ·intro w hSw;obtain ⟨y1,y2,y3,y4,y5,y6,y7⟩:=place_int hn hi hmn;go_simp;try with_reducible rfl
      try simp only [Act.put,sA,sB,sC,sD,sE,sF]
      refine tk 8 (v:=?_) rfl hHeld ?_ ?_
      rotate_left
      ·intro w hSw;obtain ⟨y1,y2,y3,y4,y5,y6,y7⟩:=place_int hn hi hmn;go_simp;try with_reducible rfl
      try simp only [Act.put,sA,sB,sC,sD,sE,sF]
      refine tk 9 (v:=?_) rfl hHeld ?_ ?_
      rotate_left
      ·intro w hSw;have s2:=(hSw.cell (p:=⟨b,off+(i*n+m),none⟩) (Nat.lt_of_lt_of_le hb hB.size)).trans HCELL.out;go_simp;try with_reducible rfl
      try simp only [Act.put,sA,sB,sC,sD,sE,sF]
      refine tk 10 (v:=?_) rfl hHeld ?_ ?_
      rotate_left
      ·intro w hSw;obtain ⟨s0,s1⟩:=dlaw.at_s M1 hSw;go_simp;try with_reducible rfl
      try simp only [Act.put,sA,sB,sC,sD,sE,sF]
      refine tk 11 (v:=?_) rfl hHeld ?_ ?_
      rotate_left
      ·intro w hSw;obtain ⟨s0,s1⟩:=dlaw.at_s M1 hSw;go_simp;try with_reducible rfl
      try simp only [Act.put,sA,sB,sC,sD,sE,sF]
      refine tk 12 (v:=?_) rfl hHeld ?_ ?_
      rotate_left
      ·intro w hSw;obtain ⟨s0,s1⟩:=dlaw.at_s M1 hSw;go_simp;try with_reducible rfl
      try simp only [Act.put,sA,sB,sC,sD,sE,sF]
      refine tk 13 (v:=?_) rfl hHeld ?_ ?_
      rotate_left
      ·intro w hSw;obtain ⟨s0,s1⟩:=dlaw.at_s M1 hSw;go_simp;try with_reducible rfl
      try simp only [Act.put,sA,sB,sC,sD,sE,sF]
      refine tk 14 (v:=?_) rfl hHeld ?_ ?_
      rotate_left
      ·intro w hSw;obtain ⟨s0,s1⟩:=dlaw.at_s M1 hSw;go_simp;try with_reducible rfl
      try simp only [Act.put,sA,sB,sC,sD,sE,sF]
      refine tk 15 (v:=?_) rfl hHeld ?_ ?_
      rotate_left
      ·intro w hSw;obtain ⟨s0,s1⟩:=dlaw.at_s M1 hSw;go_simp;try with_reducible rfl
      try simp only [Act.put,sA,sB,sC,sD,sE,sF]
      refine tk 16 (v:=?_) rfl hHeld ?_ ?_
      rotate_left
      ·intro w hSw;obtain ⟨s0,s1⟩:=dlaw.at_s M1 hSw;go_simp;try with_reducible rfl
      try simp only [Act.put,sA,sB,sC,sD,sE,sF]
      refine wpAnyH_ready (rs:=[17]) (by kernel_rfl) (by simp) (AllReadyH.cons rfl (fun K hK=>?_) AllReadyH.nil)
      go_simp
      rw [HSUB.out]
      refine (HC.out _ ⟨HR.out.below (hB.trans (hHeld.mono hB.size)) hb,Nat.lt_of_lt_of_le hb (hB.trans (hHeld.mono hB.size)).size⟩).mono ?_
      rintro e W4 ⟨rfl,hW⟩
      refine hK.out _ _ (hHeld.trans (hW.mono hHeld.size)) (fun hNew=>?_)
      clear hW
      clear hHeld hK K
      have hHeld:=hNew
      clear hNew
      try simp only [Act.put,sA,sB,sC,sD,sE,sF]
      refine wpAnyH_ready (rs:=[18]) (by kernel_rfl) (by simp) (AllReadyH.cons rfl (fun K hK=>?_) AllReadyH.nil)
      go_simp
      refine (HSUM.out _).mono ?_
      rintro e W5 ⟨rfl,rfl⟩
      refine hK.out _ _ hHeld (fun hNew=>?_)
      clear hHeld hK K
      have hHeld:=hNew
      clear hNew
      try simp only [Act.put,sA,sB,sC,sD,sE,sF]
      refine tk 19 (v:=?_) rfl hHeld ?_ ?_
      rotate_left
      ·intro w hSw;skip;go_simp;try with_reducible rfl
      try simp only [Act.put,sA,sB,sC,sD,sE,sF]
      refine tk 20 (v:=?_) rfl hHeld ?_ ?_
      rotate_left
      ·intro w hSw;skip;go_simp;try with_reducible rfl
      try simp only [Act.put,sA,sB,sC,sD,sE,sF]
      refine tk 21 (v:=?_) rfl hHeld ?_ ?_
      rotate_left
      ·intro w hSw;skip;go_simp;try with_reducible rfl
      try simp only [Act.put,sA,sB,sC,sD,sE,sF]
      refine tk 22 (v:=?_) rfl hHeld ?_ ?_
      rotate_left
      ·intro w hSw;skip;go_simp;try with_reducible rfl
      try simp only [Act.put,sA,sB,sC,sD,sE,sF]
      refine tk 23 (v:=?_) rfl hHeld ?_ ?_
      rotate_left
      ·intro w hSw;skip;go_simp;try with_reducible rfl
      try simp only [Act.put,sA,sB,sC,sD,sE,sF]
      refine wpAnyH_done (by kernel_rfl) ?_ _
      have B2:=hB.trans (hHeld.mono hB.size)
      have M2:=lies.on_call M1 hHeld
      clear hHeld M1 hB x0 x1 x2 x3 x4 HC HSUM HSUB HCELL
      generalize dec (way.pk (wts n ts) tgt left i rec m)=P at HMN ⊢
      by_cases hsP:s<P
      ·have t5:decide (s<P)=true:=decide_eq_true hsP
       have e:=HMN.out
       rw [if_pos hsP] at e
       have E:=Lib.hid e
       clear hsP e HMN
       go_wp2_with fail
       go_roundw
       case rel=>exact ⟨m+1,by omega,by go_num,by rw [E.out],M2,B2⟩
       case measure=>simp [intOf];omega
      ·have t5:decide (s<P)=false:=decide_eq_false hsP
       have e:=HMN.out
       rw [if_neg hsP] at e
       have E:=Lib.hid e
       clear hsP e HMN
       go_wp2_with fail
       go_roundw
       case rel=>exact ⟨m+1,by omega,by go_num,by rw [E.out],M2,B2⟩
       case measure=>simp [intOf];omega
  ·obtain rfl:n=m:=by omega
   go_wp2_with fail
   go_ret
   exact ⟨rfl,hB⟩
end Go.Proofs.YthmljpccbjolgaaGreatDoor.dref
namespace Go.Proofs.YthmljpccbjolgaaGreatDoor.dref
open Go.ChangeShapes Go.WideShapes Go.ChangeAt Go.RowKit num dbm
open bound hiding up
set_option linter.unusedVariables false
set_option linter.unusedSimpArgs false
theorem wts_wi {n:Nat} {ts:List Int} (hl:ts.length=n*n) (hn:n≤4) (hf:∀ p,p<ts.length→Fine (ts[p]?.getD 0)) (i j:Nat):way.Wi 288230376151711744 1 (wts n ts i j):=by
 by_cases h:i<n∧j<n
 ·rw [wts_in h.1 h.2];exact wi_fine (fine_at hl hn hf h.1 h.2)
 ·have:wts n ts i j=none:=if_neg h
  rw [this];trivial
theorem path_is (n b off cap:Nat) (ts:List Int) (tgt:Nat) (h0:0<n) (hn:n≤4) (hl:ts.length=n*n) (hf:∀ p,p<ts.length→Fine (ts[p]?.getD 0)) (ht:tgt<n):
  ∀ (f left i:Nat) (w:World),left≤f→left<16→i<n→MatI n b off ts w→
   Calls Tryz.prog 190 #[.agg #[.int .i64 n,.slice (some ⟨b,off,none⟩) (n*n) cap],.int .i64 i,.int .i64 tgt,.int .i64 left] w fun e w'=>e=.returned (.int .i64 (dec (way.pw (wts n ts) n tgt f left i)))∧Below w.heap.size w w':=by
 have hd:=wts_wi hl hn hf
 intro f
 induction f with
 | zero=>
  intro left i w hlf hl16 hi hM
  obtain rfl:left=0:=by omega
  have:=path_step n b off cap ts tgt 0 i (fun _=>none) w h0 hn hl hf ht hi hl16 hM (fun k _ h=>absurd h (by simp)) (fun k _ h=>absurd h (by simp))
  rwa [way.pk_skip (fun k _=>by simp)] at this
 | succ f ih=>
  intro left i w hlf hl16 hi hM
  refine path_step n b off cap ts tgt left i (fun k=>way.pw (wts n ts) n tgt f (left - 2 ^ k) k) w h0 hn hl hf ht hi hl16 hM (fun k hk h1 h3=>?_) (fun k hk h1 h3 W hW=>?_)
  ·obtain ⟨hlt,_⟩:=way.bits16 left hl16 k (by omega) h1
   exact ⟨way.wi_more (by decide) (by omega) (way.pw_wi hn (by decide) ht hd (by omega) (by omega)),way.wi_more (by decide) (by omega) (way.by_wi hn (by decide) ht hd (by omega) hl16 hk h1 h3)⟩
  ·obtain ⟨hlt,_⟩:=way.bits16 left hl16 k (by omega) h1
   exact ih (left - 2 ^ k) k W (by omega) (by omega) hk hW
def pwc (n:Nat) (ts:List Int) (i j:Nat):way.B:=way.pw (wts n ts) n j 15 (way.but n i) i
def clP (n:Nat) (ts:List Int) (p:Nat):List Int:=(List.range p).map fun k=>if k / n=k % n then 1 else dec (pwc n ts (k / n) (k % n))
theorem clP_length (n:Nat) (ts:List Int) (p:Nat):(clP n ts p).length=p:=by simp [clP]
theorem clP_yes {n i:Nat} {ts:List Int} (h:i<n):clP n ts (i*n+i+1)=clP n ts (i*n+i)++[1]:=by
 unfold clP
 rw [List.range_succ,List.map_append,List.map_singleton]
 have e1:(i*n+i) / n=i:=by rw [Nat.mul_comm,Nat.mul_add_div (by omega),Nat.div_eq_of_lt h];rfl
 have e2:(i*n+i) % n=i:=by rw [Nat.mul_comm,Nat.mul_add_mod,Nat.mod_eq_of_lt h]
 rw [e1,e2,if_pos rfl]
theorem clP_no {n i j:Nat} {ts:List Int} (h:j<n) (hne:i≠j):clP n ts (i*n+j+1)=clP n ts (i*n+j)++[dec (pwc n ts i j)]:=by
 unfold clP
 rw [List.range_succ,List.map_append,List.map_singleton]
 have e1:(i*n+j) / n=i:=by rw [Nat.mul_comm,Nat.mul_add_div (by omega),Nat.div_eq_of_lt h];rfl
 have e2:(i*n+j) % n=j:=by rw [Nat.mul_comm,Nat.mul_add_mod,Nat.mod_eq_of_lt h]
 rw [e1,e2,if_neg hne]
def ClI (n b off cap p:Nat) (ts:List Int) (w W:World):Prop:=∃ a l c,lies.Lies W w.heap.size 81 #[.int .i64 n,.slice (some ⟨b,off,none⟩) (n*n) cap]∧lies.Lies W (w.heap.size+1) 81 #[.int .i64 0,.slice none 0 0]∧lies.Lies W (w.heap.size+1+1) 81 #[.int .i64 n,.slice a l c]∧W.ownsRow (w.heap.size+1+1+1) 25 1 (.slice a l c) p ((clP n ts p).map (Value.int .i64))∧Below w.heap.size w W
theorem ClI.below {n b off cap p:Nat} {ts:List Int} {w W X:World} (h:ClI n b off cap p ts w W) (k:Below W.heap.size W X):ClI n b off cap p ts w X:=by
 obtain ⟨a,l,c,h1,h2,h3,h4,h5⟩:=h
 refine ⟨a,l,c,lies.on_call h1 k,lies.on_call h2 k,lies.on_call h3 k,?_,h5.trans (k.mono h5.size)⟩
 exact h4.kept (row:=none) ⟨k.os,k.tape,k.output,k.size,fun i hi _=>k.block i hi⟩ (by cases (Value.slice a l c).ownBlock<;>simp)
theorem ClI.grows {n p:Nat} {w W X:World} {a:Option Addr} {l c:Nat} {v':Value} {x:Int} {us:List Int} {C0:Array Value} (h0:lies.Lies W w.heap.size 81 C0) (h1:lies.Lies W (w.heap.size+1) 81 #[.int .i64 0,.slice none 0 0]) (h2:lies.Lies W (w.heap.size+1+1) 81 #[.int .i64 n,.slice a l c]) (hB:Below w.heap.size w W)
  (ho:W.ownsRow (w.heap.size+1+1+1) 25 1 (.slice a l c) p (us.map (Value.int .i64))) (hown:X.ownsRow (w.heap.size+1+1+1) 25 1 v' (p+1) (us.map (Value.int .i64)++[.int .i64 x])) (hg:(W.alloc (.cells #[.int .i64 x] 25)).grownBy X (Value.slice a l c).ownBlock):
  ∃ a' l' c',v'=.slice a' l' c'∧lies.Lies X w.heap.size 81 C0∧lies.Lies X (w.heap.size+1) 81 #[.int .i64 0,.slice none 0 0]∧lies.Lies X (w.heap.size+1+1) 81 #[.int .i64 n,.slice a l c]∧Below w.heap.size w X:=by
 have hs:∀ k,(Value.slice a l c).ownBlock=some k→w.heap.size+1+1+1≤k:=fun k hk=>(ho.lt k hk).1
 have b0:=lies.on_alloc h0 (.cells #[.int .i64 x] 25)
 have b1:=lies.on_alloc h1 (.cells #[.int .i64 x] 25)
 have b2:=lies.on_alloc h2 (.cells #[.int .i64 x] 25)
 have e:∃ a' l' c',v'=.slice a' l' c':=by
  rcases Go.Joins.ownsRow_forms hown with ⟨rfl,_⟩ | ⟨g,cap,rfl⟩
  ·exact ⟨_,_,_,rfl⟩
  ·exact ⟨_,_,_,rfl⟩
 obtain ⟨a',l',c',rfl⟩:=e
 refine ⟨a',l',c',rfl,(hg.block _ (lies.lt b0) (fun e=>by have:=hs _ e.symm;omega)).trans b0,(hg.block _ (lies.lt b1) (fun e=>by have:=hs _ e.symm;omega)).trans b1,(hg.block _ (lies.lt b2) (fun e=>by have:=hs _ e.symm;omega)).trans b2,?_⟩
 exact (hB.alloc hB.size _).grown hg (by have:=hB.size;simp;omega) (fun k e=>by have:=hs k e;omega)
theorem but_of {n i:Nat} (hn:n≤4) (hi:i<n):bits .andNot .i64 (wrap64 (wrap64 ((2:Int) ^ n) - 1)) (wrap64 ((2:Int) ^ i))=((way.but n i:Nat):Int):=by
 have all:∀ n,n<5→∀ i,i<n→bits .andNot .i64 (wrap64 (wrap64 ((2:Int) ^ n) - 1)) (wrap64 ((2:Int) ^ i))=((way.but n i:Nat):Int):=by decide+kernel
 exact all n (by omega) i hi
theorem one_le {x:way.B} {k:Int} (hk:k≤4) (h:way.Wi 288230376151711744 k x):way.le way.one x↔1≤dec x:=by
 have:=cod_le (a:=1) (b:=dec x) (by decide) (dec_le hk h)
 rw [cod_dec hk h,cod_some (by decide:(1:Int)≠9223372036854775807)] at this
 exact this
theorem pwc_wi {n:Nat} {ts:List Int} (hl:ts.length=n*n) (hn:n≤4) (hf:∀ p,p<ts.length→Fine (ts[p]?.getD 0)) {i j:Nat} (hi:i<n) (hj:j<n):way.Wi 288230376151711744 4 (pwc n ts i j):=
 way.wi_more (by decide) (by omega) (way.pw_wi hn (by decide) hj (wts_wi hl hn hf) (by have:=(way.but16 n hn i hi).1;omega) (way.but16 n hn i hi).1)
def CldR (n:Nat) (ts:List Int) (w:World) (e:Ending) (w':World):Prop:=Below w.heap.size w w'∧
 ((∃ x,x<n∧¬ way.le way.one (pwc n ts x x))∧e=.returned (.tuple #[.agg #[.int .i64 0,.slice none 0 0],.bool false])∨
  (∀ x,x<n→way.le way.one (pwc n ts x x))∧∃ v,e=.returned (.tuple #[.agg #[.int .i64 n,v],.bool true])∧w'.ownsRow w.heap.size 25 1 v (n*n) ((clP n ts (n*n)).map (Value.int .i64)))
set_option maxRecDepth 100000 in
set_option maxHeartbeats 4000000 in
theorem closed_is (n b off cap:Nat) (ts:List Int) (w:World) (h0:0<n) (hn:n≤4) (hl:ts.length=n*n) (hf:∀ p,p<ts.length→Fine (ts[p]?.getD 0)) (hM:MatI n b off ts w):
  Calls Tryz.prog 148 #[.agg #[.int .i64 n,.slice (some ⟨b,off,none⟩) (n*n) cap]] w (CldR n ts w):=by
 obtain ⟨i0,hi,hz0,hz1,hz2⟩:=info_parts info_b
 have HI:=Lib.hid (And.intro hi (And.intro hz0 (And.intro hz1 hz2)))
 clear hi hz0 hz1 hz2
 have hsq:=sq_le hn
 have HL:=Lib.hid hl
 have HF:=Lib.hid hf
 have HM:=Lib.hid hM
 clear hl hf hM
 have A0:ClI n b off cap (0*n) ts w (((w.alloc (.cells #[.int .i64 n,.slice (some ⟨b,off,none⟩) (n*n) cap] 81)).alloc (.cells #[.int .i64 0,.slice none 0 0] 81)).alloc (.cells #[.int .i64 n,.slice none 0 0] 81)):=by
  refine ⟨none,0,0,lies.on_alloc (lies.on_alloc (lies.made w _ _) _) _,lies.on_alloc (lies.made_at _ _ _ _ (World.size_alloc _ _)) _,lies.made_at _ _ _ _ (by simp),?_,(bound.up2 _ _ _).alloc (by simp;omega) _⟩
  rw [Nat.zero_mul]
  exact World.ownsRow_nil _ _ _ _
 go_enter Tryz.func148,Tryz.ntmps148
 go_wp2_with fail
 go_loopw [5] (fun i wr=>∃ k:Nat,k≤n∧i=.int .i64 k∧RowKit.Hid (∀ x,x<k→way.le way.one (pwc n ts x x))∧ClI n b off cap (k*n) ts w wr) (fun i _=>n - (intOf i).toNat)
 case atStart=>exact ⟨0,Nat.zero_le _,rfl,Lib.hid (fun x hx=>absurd hx (by omega)),A0⟩
 case round=>
  clear A0
  obtain ⟨k,hk,rfl,hdone,hA⟩:=hrel
  by_cases hkn:k<n
  ·obtain ⟨a0,l0,cc0,q0,q1,q2,qO,qB⟩:=id hA
   obtain ⟨x0,x1,x2,x3,x4⟩:=lies.two q0
   clear q0 q1 q2 qO qB
   go_wp2_with fail
   clear x0 x1 x2 x3 x4
   obtain ⟨wo,rfl⟩:∃ wo:World,wo=wr:=⟨_,rfl⟩
   go_loopw [6] (fun j wx=>∃ m:Nat,m≤n∧j=.int .i64 m∧RowKit.Hid (∀ x,x<k∨(x=k∧k<m)→way.le way.one (pwc n ts x x))∧ClI n b off cap (k*n+m) ts w wx) (fun j _=>n - (intOf j).toNat)
   case atStart=>exact ⟨0,Nat.zero_le _,rfl,Lib.hid (fun x hx=>hdone.out x (by omega)),hA⟩
   case round=>
    clear hA
    obtain ⟨m,hm,rfl,hdn,hA⟩:=hrel
    by_cases hmn:m<n
    ·obtain ⟨a0,l0,cc0,q0,q1,q2,qO,qB⟩:=id hA
     obtain ⟨x0,x1,x2,x3,x4⟩:=lies.two q0
     clear q0 q1 q2 qO qB
     have hbut:=but_of hn hkn
     go_wp2_with fail
     go_quiet (fail)
     clear hbut
     have hA1:=hA.below (bound.drawn (Below.refl wr.heap.size wr) nq)
     generalize wr.drewN nq=wd at hA1 ⊢
     clear hA x0 x1 x2 x3 x4
     obtain ⟨a0,l0,cc0,q0,q1,q2,qO,qB⟩:=id hA1
     obtain ⟨x0,x1,x2,x3,x4⟩:=lies.two q0
     have hMd:=Lib.hid (HM.out.below qB)
     clear q0 q1 q2 qO qB
     obtain ⟨x,hx⟩:∃ x,x=dec (pwc n ts k m):=⟨_,rfl⟩
     have hone:=one_le (Int.le_refl 4) (pwc_wi HL.out hn HF.out hkn hmn)
     rw [←hx] at hone
     have HONE:=Lib.hid hone
     have hP:∀ W,MatI n b off ts W→Calls Tryz.prog 190 #[.agg #[.int .i64 n,.slice (some ⟨b,off,none⟩) (n*n) cap],.int .i64 k,.int .i64 m,.int .i64 (way.but n k:Nat)] W fun e w'=>e=.returned (.int .i64 x)∧Below W.heap.size W w':=fun W hW=>by
      rw [hx]
      exact path_is n b off cap ts m h0 hn HL.out HF.out hmn 15 (way.but n k) k W (by have:=(way.but16 n hn k hkn).1;omega) (way.but16 n hn k hkn).1 hkn hW
     have HP:=Lib.hid hP
     have hp:=place_le hn hkn hmn
     have HX:=Lib.hid hx
     clear hone hP hx x0 x1 x2 x3 x4
     obtain ⟨a0,l0,cc0,q0,q1,q2,qO,qB⟩:=id hA1
     obtain ⟨x0,x1,x2,x3,x4⟩:=lies.two q0
     clear q0 q1 q2 qO qB
     by_cases hkm:k=m
     ·obtain rfl:k=m:=hkm
      have t1:((k:Int)==k)=true:=by simp
      by_cases hx1:x<1
      ·have t2:decide (x<1)=true:=decide_eq_true hx1
       have hbad:RowKit.Hid (∃ x,x<n∧¬ way.le way.one (pwc n ts x x)):=Lib.hid ⟨k,hkn,fun h=>by have:=HONE.out.1 h;omega⟩
       clear hx1
       go_wp2_with ((with_reducible refine (HP.out _ hMd.out).mono ?_);rintro e w3 ⟨rfl,hB3⟩;have hA3:=hA1.below hB3;obtain ⟨a,l,c,q0,q1,q2,hO,hB⟩:=hA3;obtain ⟨d0,d1,e0,e1,hlu⟩:=lies.two q1;obtain ⟨c0,c1,f0,f1,hlt⟩:=lies.two q2)
       refine bodyPost_ret (v:=.tuple #[.agg #[.int .i64 0,.slice none 0 0],.bool false]) (by simp [results,Tryz.results148,go_sem,d0,d1]) rfl ⟨?_,.inl ⟨hbad.out,rfl⟩⟩
       exact (hB.setCell (p:=⟨w.heap.size+1,0,none⟩) (by simp) _).setCell (p:=⟨w.heap.size+1,1,none⟩) (by simp) _
      ·have t2:decide (x<1)=false:=decide_eq_false hx1
       have hgood:RowKit.Hid (∀ y,y<k∨(y=k∧k<k+1)→way.le way.one (pwc n ts y y)):=Lib.hid (fun y hy=>by
        by_cases e:y=k
        ·subst e;exact HONE.out.2 (by omega)
        ·exact hdn.out y (by omega))
       clear hx1
       go_wp2_with (first | ((with_reducible refine (HP.out _ hMd.out).mono ?_);rintro e w3 ⟨rfl,hB3⟩;have hA3:=hA1.below hB3;obtain ⟨a,l,c,q0,q1,q2,hO,hB⟩:=hA3;obtain ⟨d0,d1,e0,e1,hlu⟩:=lies.two q1;obtain ⟨c0,c1,f0,f1,hlt⟩:=lies.two q2) | (at_builtin;refine wpList_append_own _ rfl (.tmp 43) (.tmp 45) 79 rfl (w.heap.size+1+1+1) 25 i0 (.int .i64 0) 1 8 Tryz.underlying79 HI.out.1 HI.out.2.1 HI.out.2.2.1 HI.out.2.2.2 rfl (by decide) _ _ _ rfl (hO.alloc _) ⟨w3.heap.size,0,none⟩ 1 1 [.int .i64 1] rfl rfl (cell_one_new _ _ _) (by simp [Value.oneCell']) (by unfold maxLen;omega) (by omega) (by have:=hB.size;simp;omega) ?_;intro v' w1 hown' hgrow _;obtain ⟨a',l',c',rfl,l0',l1',l2',hB'⟩:=ClI.grows q0 q1 q2 hB hO hown' hgrow;obtain ⟨z0,z1,z2,z3,z4⟩:=lies.two l2'))
       go_roundw
       case rel=>exact ⟨k+1,by omega,by go_num,hgood,a',l',c',lies.on_far l0' 1 (by omega) _,lies.on_far l1' 1 (by omega) _,lies.on_put l2' 1 _,(by rw [←Nat.add_assoc,clP_yes hkn,List.map_append];exact own_other hown' (p:=⟨w.heap.size+1+1,1,none⟩) (by simp) _),hB'.setCell (p:=⟨w.heap.size+1+1,1,none⟩) (by simp;omega) _⟩
       case measure=>simp [intOf];omega
     ·have t1:((k:Int)==m)=false:=by simp;omega
      have HK:=Lib.hid hkm
      clear hkm
      go_wp2_with (first | ((with_reducible refine (HP.out _ hMd.out).mono ?_);rintro e w3 ⟨rfl,hB3⟩;have hA3:=hA1.below hB3;obtain ⟨a,l,c,q0,q1,q2,hO,hB⟩:=hA3;obtain ⟨d0,d1,e0,e1,hlu⟩:=lies.two q1;obtain ⟨c0,c1,f0,f1,hlt⟩:=lies.two q2) | (at_builtin;refine wpList_append_own _ rfl (.tmp 43) (.tmp 45) 79 rfl (w.heap.size+1+1+1) 25 i0 (.int .i64 0) 1 8 Tryz.underlying79 HI.out.1 HI.out.2.1 HI.out.2.2.1 HI.out.2.2.2 rfl (by decide) _ _ _ rfl (hO.alloc _) ⟨w3.heap.size,0,none⟩ 1 1 [.int .i64 x] rfl rfl (cell_one_new _ _ _) (by simp [Value.oneCell']) (by unfold maxLen;omega) (by omega) (by have:=hB.size;simp;omega) ?_;intro v' w1 hown' hgrow _;obtain ⟨a',l',c',rfl,l0',l1',l2',hB'⟩:=ClI.grows q0 q1 q2 hB hO hown' hgrow;obtain ⟨z0,z1,z2,z3,z4⟩:=lies.two l2'))
      go_roundw
      case rel=>exact ⟨m+1,by omega,by go_num,Lib.hid (fun x hx=>hdn.out x (by have:=HK.out;omega)),a',l',c',lies.on_far l0' 1 (by omega) _,lies.on_far l1' 1 (by omega) _,lies.on_put l2' 1 _,(by rw [←Nat.add_assoc,clP_no hmn HK.out,←HX.out,List.map_append];exact own_other hown' (p:=⟨w.heap.size+1+1,1,none⟩) (by simp) _),hB'.setCell (p:=⟨w.heap.size+1+1,1,none⟩) (by simp;omega) _⟩
      case measure=>simp [intOf];omega
    ·obtain rfl:n=m:=by omega
     obtain ⟨a0,l0,cc0,q0,q1,q2,qO,qB⟩:=id hA
     obtain ⟨x0,x1,x2,x3,x4⟩:=lies.two q0
     clear q0 q1 q2 qO qB
     go_wp2_with fail
     go_roundw
     case rel=>exact ⟨k+1,by omega,by go_num,Lib.hid (fun x hx=>hdn.out x (by omega)),by rw [Nat.add_mul,Nat.one_mul];exact hA⟩
     case measure=>simp [intOf];omega
  ·obtain rfl:n=k:=by omega
   obtain ⟨a,l,c,l0,l1,l2,hO,hB⟩:=hA
   obtain ⟨x0,x1,x2,x3,x4⟩:=lies.two l0
   obtain ⟨d0,d1,e0,e1,hlu⟩:=lies.two l1
   obtain ⟨c0,c1,f0,f1,hlt⟩:=lies.two l2
   go_wp2_with fail
   refine bodyPost_ret (v:=.tuple #[.agg #[.int .i64 n,.slice a l c],.bool true]) (by simp [results,Tryz.results148,go_sem,d0,d1]) rfl ⟨?_,.inr ⟨hdone.out,_,rfl,?_⟩⟩
   ·exact (hB.setCell (p:=⟨w.heap.size+1,0,none⟩) (by simp) _).setCell (p:=⟨w.heap.size+1,1,none⟩) (by simp) _
   ·exact Go.Joins.ownsRow_le (own_other (own_other hO (p:=⟨w.heap.size+1,0,none⟩) (by simp) _) (p:=⟨w.heap.size+1,1,none⟩) (by simp) _) (by omega)
end Go.Proofs.YthmljpccbjolgaaGreatDoor.dref
namespace Go.Proofs.YthmljpccbjolgaaGreatDoor.dref
open Go.ChangeShapes Go.WideShapes Go.ChangeAt Go.RowKit num dbm
open bound hiding up
set_option linter.unusedVariables false
set_option linter.unusedSimpArgs false
section
variable {n:Nat} {ts:List Int}
theorem off_same (hl:ts.length=n*n) (hn:n≤4) (i j:Nat) (h:i≠j):wts n ts i j=beg n ts i j:=by
 unfold beg
 by_cases k:i<n∧j<n
 ·rw [wts_in k.1 k.2,wts_in k.1 k.2,beg_at hl hn k.1 k.2,if_neg h]
 ·exact (if_neg k).trans (if_neg k).symm
theorem diag_is (hl:ts.length=n*n) (hn:n≤4) (htop:Tops ts) {i:Nat} (hi:i<n):beg n ts i i=way.mn (wts n ts i i) way.one:=by
 unfold beg
 rw [wts_in hi hi,wts_in hi hi,beg_at hl hn hi hi,if_pos rfl,cod_lsr (tat_top htop n i i) (by decide)]
 rfl
theorem diag_up (hl:ts.length=n*n) (hn:n≤4) (htop:Tops ts) (i:Nat) (hi:i<n) (h:way.le way.one (wts n ts i i)):way.le way.one (beg n ts i i):=by
 rw [diag_is hl hn htop hi];exact way.le_mn h (way.le_refl _)
theorem diag_down (hl:ts.length=n*n) (hn:n≤4) (htop:Tops ts) (i:Nat) (hi:i<n) (h:way.le way.one (beg n ts i i)):way.le way.one (wts n ts i i):=by
 rw [diag_is hl hn htop hi] at h;exact way.le_trans h (way.mn_left _ _)
theorem round_ok (h0:0<n) (hn:n≤4) (hl:ts.length=n*n) (htop:Tops ts) (hf:∀ p,p<ts.length→Fine (ts[p]?.getD 0)) (hne:∀ k,k≤n→¬ emp n (tabs n h0 ts k)) {x:Nat} (hx:x<n):way.le way.one (pwc n ts x x):=
 way.pw_round hn (off_same hl hn) (diag_up hl hn htop) (good_of h0 hn hl htop hf hne) (diag_down hl hn htop) hx
theorem round_bad (h0:0<n) (hn:n≤4) (hl:ts.length=n*n) (htop:Tops ts) (hf:∀ p,p<ts.length→Fine (ts[p]?.getD 0)):∀ k,k≤n→emp n (tabs n h0 ts k)→∃ x,x<n∧¬ way.le way.one (pwc n ts x x):=by
 intro k
 induction k using Nat.strongRecOn with
 | _ k ih=>
  intro hk he
  by_cases hm:∃ m,m<k∧emp n (tabs n h0 ts m)
  ·obtain ⟨m,hm,h⟩:=hm
   exact ih m hm (by omega) h
  ·obtain ⟨i,hi,hei⟩:=he
   have e:=tabs_is h0 hn hl htop hf k hk (fun m h h'=>hm ⟨m,h,h'⟩) i i hi hi
   refine way.pw_below hn (off_same hl hn) (diag_up hl hn htop) hk hi (fun h=>?_)
   rw [←e] at h
   have:=(cod_le (by decide) (tat_top (tabs_tops h0 htop k) n i i)).1 (show way.le (cod 1) _ from h)
   omega
theorem clP_at (q p:Nat) (h:p<(clP n ts q).length):(clP n ts q)[p]=if p / n=p % n then 1 else dec (pwc n ts (p / n) (p % n)):=by simp [clP]
theorem clP_is (h0:0<n) (hn:n≤4) (hl:ts.length=n*n) (htop:Tops ts) (hf:∀ p,p<ts.length→Fine (ts[p]?.getD 0)) (hne:∀ k,k≤n→¬ emp n (tabs n h0 ts k)):clP n ts (n*n)=tabs n h0 ts n:=by
 have hlt:(tabs n h0 ts n).length=n*n:=(tabs_length n h0 ts n).trans hl
 refine List.ext_getElem (by rw [clP_length,hlt]) fun p h1 h2=>?_
 have hp:p<n*n:=by rw [clP_length] at h1;exact h1
 have e1:p / n*n+p % n=p:=by rw [Nat.mul_comm];exact Nat.div_add_mod p n
 have hi:p / n<n:=(Nat.div_lt_iff_lt_mul h0).2 hp
 have hj:p % n<n:=Nat.mod_lt p h0
 have e2:(tabs n h0 ts n)[p]=tat (tabs n h0 ts n) n (p / n) (p % n):=by
  unfold tat
  rw [e1,List.getElem?_eq_getElem h2];rfl
 rw [e2,clP_at]
 by_cases h:p / n=p % n
 ·rw [if_pos h,←h]
  exact (closed_diag h0 hn hl htop hf hne hi).symm
 ·rw [if_neg h]
  have e3:pwc n ts (p / n) (p % n)=way.F (beg n ts) n (p / n) (p % n):=way.pw_F hn (off_same hl hn) (good_of h0 hn hl htop hf hne) hi hj h
  rw [e3,←tabs_is h0 hn hl htop hf n (Nat.le_refl _) (fun m hm=>hne m (by omega)) _ _ hi hj,dec_cod]
end
theorem ret_res {B:Nat} {w W:World} (h:Below B w W) (hB:B≤w.heap.size+1) (u v:Value):Below B w ((W.setCell ⟨w.heap.size+1,0,none⟩ u).setCell ⟨w.heap.size+1,1,none⟩ v):=
 (h.setCell (p:=⟨w.heap.size+1,0,none⟩) hB _).setCell (p:=⟨w.heap.size+1,1,none⟩) hB _
end Go.Proofs.YthmljpccbjolgaaGreatDoor.dref
namespace Go.Proofs.YthmljpccbjolgaaGreatDoor.dref
open Go.ChangeShapes Go.WideShapes Go.ChangeAt Go.RowKit num dbm rat
open bound hiding up
set_option linter.unusedVariables false
set_option linter.unusedSimpArgs false
theorem append_run2 {P:Program} {w:World} {ops:Array Oper} {rest:List Oper} {o:Oper} {a:Act} {Q:Exit→Act→World→Prop} (hgd:o.guard=none) (s x:Operand) (t:TypeId)
  (ho:o.op=.call {callee:=.builtin .append,args:=#[s,x],argTypes:=#[t,t]}) (v u v':Value) (w':World) (hs:a.eval s=v) (hx:a.eval x=u)
  (hr:(Builtin.append_ #[t,t] o.type #[v,u]).run P w=.ok v' w') (h:wpList P ops Q rest (a.put o.dst v') w'):wpList P ops Q (o::rest) a w:=
 wpList_plain hgd fun K hK=>by
  unfold Oper.wp execOp
  simp only [ho,resolve,invoke,builtin,Sem.run_bind,Sem.run_pure,Result.andThen_ok,List.map_toArray,List.map_cons,List.map_nil,hs,hx,hr]
  exact hK _ _ h
end Go.Proofs.YthmljpccbjolgaaGreatDoor.dref
namespace Go.Proofs.YthmljpccbjolgaaGreatDoor.dref
open Go.ChangeShapes Go.WideShapes Go.ChangeAt Go.RowKit num dbm rat
open bound hiding up
set_option linter.unusedVariables false
set_option linter.unusedSimpArgs false
end Go.Proofs.YthmljpccbjolgaaGreatDoor.dref
namespace Go.Proofs.YthmljpccbjolgaaGreatDoor.dbm
open Go.ChangeShapes Go.WideShapes Go.ChangeAt Go.RowKit num
open bound hiding up
set_option linter.unusedVariables false
theorem equal_lens (a c:Option Addr) (l k cap dap:Nat) (w:World) (h:l≠k):
  Calls Tryz.prog 191 #[.slice a l cap,.slice c k dap] w fun e w'=>e=.returned (.bool false)∧Below w.heap.size w w':=by
 have t1:((l:Int) !=k)=true:=by simp;omega
 go_enter Tryz.func191,Tryz.ntmps191
 go_wp2
 go_ret
 exact ⟨rfl,Below.refl _ _⟩
theorem equal_nil (a c:Option Addr) (cap dap:Nat) (w:World):
  Calls Tryz.prog 191 #[.slice a 0 cap,.slice c 0 dap] w fun e w'=>e=.returned (.bool true)∧Below w.heap.size w w':=by
 go_enter Tryz.func191,Tryz.ntmps191
 go_wp2
 go_loop [13] (fun i=>i=.int .i64 0) (fun _=>0)
 case atStart=>rfl
 case round=>
  obtain rfl:=hrel
  go_wp2
  go_ret
  exact ⟨rfl,Below.refl _ _⟩
set_option maxRecDepth 100000 in
set_option maxHeartbeats 2000000 in
theorem equal_rows (b off cap g pff dap len:Nat) (ts us:List Int) (w:World) (hr:Row w b off ts) (hb:b<w.heap.size) (hs:Row w g pff us) (hg:g<w.heap.size) (hl:ts.length=len) (hk:us.length=len) (hm:len≤1000000):
  Calls Tryz.prog 191 #[.slice (some ⟨b,off,none⟩) len cap,.slice (some ⟨g,pff,none⟩) len dap] w fun e w'=>e=.returned (.bool (decide (ts=us)))∧Below w.heap.size w w':=by
 have t3:((len:Int) !=len)=false:=by simp
 have HR:=Lib.hid hr
 have HS:=Lib.hid hs
 have HL:=Lib.hid hl
 have HK:=Lib.hid hk
 clear hr hs hl hk
 go_enter Tryz.func191,Tryz.ntmps191
 go_wp2
 go_loopw [13] (fun i wr=>∃ k:Nat,k≤len∧i=.int .i64 k∧RowKit.Hid (∀ p,p<k→ts[p]?.getD 0=us[p]?.getD 0)∧Below w.heap.size w wr)
  (fun i _=>len - (intOf i).toNat)
 case atStart=>exact ⟨0,Nat.zero_le _,rfl,Lib.hid (fun m hm=>absurd hm (by omega)),Below.refl _ _⟩
 case round=>
  obtain ⟨k,hk,rfl,heq,hB⟩:=hrel
  by_cases hkn:k<len
  ·have hc:=(HR.out.below hB hb) k (by rw [HL.out];exact hkn)
   have hd:=(HS.out.below hB hg) k (by rw [HK.out];exact hkn)
   have z1:(0:Int)≤k:=by omega
   have z2:(k:Int)<len:=by omega
   generalize hx:ts[k]?.getD 0=x at hc
   generalize hy:us[k]?.getD 0=y at hd
   have HX:=Lib.hid hx
   have HY:=Lib.hid hy
   clear hx hy
   by_cases hxy:x=y
   ·obtain rfl:x=y:=hxy
    have t4:((x:Int) !=x)=false:=by simp
    go_wp2_with fail
    go_quiet (fail)
    go_wp2
    go_roundw
    case rel=>exact ⟨k+1,by omega,by go_num,Lib.hid (fun m hm=>by
     by_cases e:m=k
     ·subst e;rw [HX.out,HY.out]
     ·exact heq.out m (by omega)),bound.drawn hB _⟩
    case measure=>simp [intOf];omega
   ·have t4:((x:Int) !=y)=true:=by simpa using hxy
    have hne:RowKit.Hid (decide (ts=us)=false):=Lib.hid (decide_eq_false (fun e=>hxy (by rw [←HX.out,←HY.out,e])))
    clear hxy
    go_wp2_with fail
    go_quiet (fail)
    go_wp2
    go_ret
    exact ⟨by rw [hne.out];rfl,bound.drawn hB _⟩
  ·obtain rfl:len=k:=by omega
   have hyes:RowKit.Hid (decide (ts=us)=true):=Lib.hid (decide_eq_true (List.ext_getElem (by rw [HL.out,HK.out]) (fun i h1 h2=>by
    have:=heq.out i (by rw [←HL.out];exact h1)
    rwa [List.getElem?_eq_getElem h1,List.getElem?_eq_getElem h2] at this)))
   go_wp2
   go_ret
   exact ⟨by rw [hyes.out];rfl,hB⟩
theorem equal_any (sv tv:Value) (ts us:List Int) (w:World) (hI:law.Ints w.heap.size w sv ts) (hJ:law.Ints w.heap.size w tv us) (hm:ts.length≤1000000):
  Calls Tryz.prog 191 #[sv,tv] w fun e w'=>e=.returned (.bool (decide (ts=us)))∧Below w.heap.size w w':=by
 by_cases h2:ts.length=us.length
 ·rcases hI with ⟨⟨a,cap,rfl,_⟩,rfl⟩ | ⟨b,off,cap,rfl,hb,hc⟩
  ·obtain rfl:us=[]:=List.eq_nil_of_length_eq_zero (by rw [←h2];rfl)
   obtain ⟨c,dap,rfl⟩:=ints_len hJ
   have:=equal_nil a c cap dap w
   simpa using this
  ·rcases hJ with ⟨⟨c,dap,rfl,_⟩,rfl⟩ | ⟨g,pff,dap,rfl,hg,hd⟩
   ·obtain rfl:ts=[]:=List.eq_nil_of_length_eq_zero (by rw [h2];rfl)
    have:=equal_nil (some ⟨b,off,none⟩) c cap dap w
    simpa using this
   ·rw [←h2]
    exact equal_rows b off cap g pff dap ts.length ts us w hc hb (fun p hp=>hd p hp) hg rfl h2.symm hm
 ·obtain ⟨a,cap,rfl⟩:=ints_len hI
  obtain ⟨c,dap,rfl⟩:=ints_len hJ
  rw [decide_eq_false (fun k=>h2 (by rw [k]))]
  exact equal_lens a c _ _ cap dap w h2
theorem same4_any (n m:Int) (sv tv:Value) (ts us:List Int) (w:World) (hI:law.Ints w.heap.size w sv ts) (hJ:law.Ints w.heap.size w tv us) (hm:ts.length≤1000000):
  Calls Tryz.prog 150 #[.agg #[.int .i64 n,sv],.agg #[.int .i64 m,tv]] w fun e w'=>e=.returned (.bool (decide (n=m∧ts=us)))∧Below w.heap.size w w':=by
 have DB:=bound.up2 w (.cells #[.int .i64 n,sv] 81) (.cells #[.int .i64 m,tv] 81)
 have hE:=equal_any sv tv ts us _ ((hI.below DB).mono DB.size) ((hJ.below DB).mono DB.size) hm
 have HE:=Lib.hid hE
 obtain ⟨a,cap,rfl⟩:=ints_len hI
 obtain ⟨c,dap,rfl⟩:=ints_len hJ
 clear hI hJ hE
 by_cases h:n=m
 ·subst h
  have e:decide (n=n∧ts=us)=decide (ts=us):=by simp
  rw [e]
  have t1:((n:Int)==n)=true:=by simp
  clear e
  generalize decide (ts=us)=r at HE ⊢
  go_enter Tryz.func150,Tryz.ntmps150
  go_wp2_with fail
  refine HE.out.mono ?_
  rintro e w1 ⟨rfl,hB1⟩
  have B1:=DB.trans (hB1.mono DB.size)
  clear HE DB hB1
  go_wp2_with fail
  go_ret
  exact ⟨rfl,B1⟩
 ·rw [decide_eq_false (fun k=>h k.1)]
  have t1:((n:Int)==m)=false:=by simpa using h
  clear h HE
  go_enter Tryz.func150,Tryz.ntmps150
  go_wp2_with fail
  go_ret
  exact ⟨rfl,DB⟩
end Go.Proofs.YthmljpccbjolgaaGreatDoor.dbm
namespace Go.Proofs.YthmljpccbjolgaaGreatDoor.dbm
open Go.ChangeShapes Go.WideShapes Go.ChangeAt Go.RowKit num
open bound hiding up
set_option linter.unusedVariables false
end Go.Proofs.YthmljpccbjolgaaGreatDoor.dbm
