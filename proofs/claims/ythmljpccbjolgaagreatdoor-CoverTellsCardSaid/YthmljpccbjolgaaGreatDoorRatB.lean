
/-
  What each call of package rat answers; each theorem names its conditions.
-/
import Derived.Test.YthmljpccbjolgaaGreatDoorRatA
import Derived.Test.YthmljpccbjolgaaGreatDoorBase
import Derived.Deep.RegionHeld3
import Derived.Deep.DeepCutAuto
namespace Go.Proofs.YthmljpccbjolgaaGreatDoor.rat
open Go.ChangeShapes Go.WideShapes Go.ChangeAt Go.RowKit rmath bound num
set_option linter.unusedVariables false
theorem said {f:FuncId} {args:Array Value} {v:Value} (h:RowKit.Hid (law.Says f args v)) (w:World):Calls Tryz.prog f args w fun e w'=>e=.returned v∧Below w.heap.size w w':=h.out w
theorem both_ok (a b c d:Int) (w:World) (a1:-9223372036854775808≤a) (a2:a≤9223372036854775807) (c1:-9223372036854775808≤c) (c2:c≤9223372036854775807) (h:MayR a b) (k:MayR c d):
  Calls Tryz.prog 197 #[.agg #[.int .i64 (a),.int .i64 (b)],.agg #[.int .i64 (c),.int .i64 (d)]] w fun e w'=>e=.returned (.int .i64 0)∧Below w.heap.size w w':=by
 have H:=Lib.hid h
 have K:=Lib.hid k
 clear h k
 go_enter Tryz.func197,Tryz.ntmps197
 go_wp2_with (go_at_call 158;first | ((with_reducible refine (check3_ok a b _ a1 a2 H.out).mono ?_);rintro e w1 ⟨rfl,hB1⟩;obtain ⟨hc1,hf1⟩:=bcell hB1) | ((with_reducible refine (check3_ok c d _ c1 c2 K.out).mono ?_);rintro e w2 ⟨rfl,hB2⟩))
 go_ret
 exact ⟨rfl,later (later (up2 _ _ _) hB1) hB2⟩
theorem both_no1 (a b c d:Int) (w:World) (a1:-9223372036854775808≤a) (a2:a≤9223372036854775807) (h:¬ MayR a b):
  Calls Tryz.prog 197 #[.agg #[.int .i64 (a),.int .i64 (b)],.agg #[.int .i64 (c),.int .i64 (d)]] w fun e w'=>e=.returned (.int .i64 8)∧Below w.heap.size w w':=by
 have H:=Lib.hid h
 clear h
 go_enter Tryz.func197,Tryz.ntmps197
 go_wp2_with (go_at_call 158;(refine (check3_no _ _ _ a1 a2 H.out).mono ?_;rintro e w1 ⟨rfl,hB1⟩;obtain ⟨hc1,hf1⟩:=bcell hB1))
 go_ret
 exact ⟨rfl,later (up2 _ _ _) hB1⟩
theorem both_no2 (a b c d:Int) (w:World) (a1:-9223372036854775808≤a) (a2:a≤9223372036854775807) (c1:-9223372036854775808≤c) (c2:c≤9223372036854775807) (h:MayR a b) (k:¬ MayR c d):
  Calls Tryz.prog 197 #[.agg #[.int .i64 (a),.int .i64 (b)],.agg #[.int .i64 (c),.int .i64 (d)]] w fun e w'=>e=.returned (.int .i64 8)∧Below w.heap.size w w':=by
 have H:=Lib.hid h
 have K:=Lib.hid k
 clear h k
 go_enter Tryz.func197,Tryz.ntmps197
 go_wp2_with (go_at_call 158;first | ((with_reducible refine (check3_ok a b _ a1 a2 H.out).mono ?_);rintro e w1 ⟨rfl,hB1⟩;obtain ⟨hc1,hf1⟩:=bcell hB1) | ((with_reducible refine (check3_no c d _ c1 c2 K.out).mono ?_);rintro e w2 ⟨rfl,hB2⟩))
 go_ret
 exact ⟨rfl,later (later (up2 _ _ _) hB1) hB2⟩
def Both (a b c d:Int):Prop:=MayR a b∧MayR c d
instance (a b c d:Int):Decidable (Both a b c d):=inferInstanceAs (Decidable (_∧_))
theorem both_no (a b c d:Int) (w:World) (a1:-9223372036854775808≤a) (a2:a≤9223372036854775807) (c1:-9223372036854775808≤c) (c2:c≤9223372036854775807) (h:¬ Both a b c d):
  Calls Tryz.prog 197 #[.agg #[.int .i64 (a),.int .i64 (b)],.agg #[.int .i64 (c),.int .i64 (d)]] w fun e w'=>e=.returned (.int .i64 8)∧Below w.heap.size w w':=by
 by_cases k:MayR a b
 ·exact both_no2 a b c d w a1 a2 c1 c2 k (fun k'=>h ⟨k,k'⟩)
 ·exact both_no1 a b c d w a1 a2 k
def lowP (V D:Int):Int:=V / gcdI V D
def lowQ (V D:Int):Int:=D / gcdI V D
def lowOk (V D:Int):Prop:=-9223372036854775808≤lowP V D∧lowP V D≤9223372036854775807∧MayR (lowP V D) (lowQ V D)
instance (V D:Int):Decidable (lowOk V D):=inferInstanceAs (Decidable (_∧_∧_))
theorem gcd_pos (V D:Int) (h:1≤D):1≤gcdI V D:=by
 have:=Int.gcd_pos_of_ne_zero_right V (show D≠0 by omega)
 unfold gcdI
 omega
theorem gcd_le (V D:Int) (h:1≤D):gcdI V D≤D:=Int.le_of_dvd (by omega) (Int.gcd_dvd_right V D)
set_option maxHeartbeats 1000000 in
theorem lowest_ok (V D g P Q L:Int) (w:World) (D1:1≤D) (D2:D≤9223372036854775807) (v1:-170141183460469231731687303715884105728≤V) (v2:V≤170141183460469231731687303715884105727)
  (g1:1≤g) (g2:g≤D) (L1:0≤L) (L2:L<D) (eL:RowKit.Hid (V % D=L)) (eg:RowKit.Hid (gcdI D L=g)) (eP:RowKit.Hid (V / g=P)) (eQ:D / g=Q) (q1:1≤Q) (q2:Q≤D)
  (p1:-9223372036854775808≤P) (p2:P≤9223372036854775807) (m:RowKit.Hid (MayR P Q)):
  Calls Tryz.prog 243 #[.agg #[.int .i64 ((V) / 18446744073709551616),.int .u64 ((V) % 18446744073709551616)],.int .i64 D] w fun e w'=>e=.returned (.tuple #[.agg #[.int .i64 (P),.int .i64 (Q)],.int .i64 0])∧Below w.heap.size w w':=by
 have cD:RowKit.Hid (law.Says 245 #[.agg #[.int .i64 ((V) / 18446744073709551616),.int .u64 ((V) % 18446744073709551616)],.int .i64 D] (.tuple #[.agg #[.int .i64 ((V / D) / 18446744073709551616),.int .u64 ((V / D) % 18446744073709551616)],.int .i64 L])):=Lib.hid (fun w=>by rw [←eL.out];exact by_any V D w (by omega) (by omega) (by omega) (by omega))
 have cg:RowKit.Hid (law.Says 245 #[.agg #[.int .i64 ((V) / 18446744073709551616),.int .u64 ((V) % 18446744073709551616)],.int .i64 g] (.tuple #[.agg #[.int .i64 ((P) / 18446744073709551616),.int .u64 ((P) % 18446744073709551616)],.int .i64 (V % g)])):=Lib.hid (fun w=>by rw [←eP.out];exact by_any V g w (by omega) (by omega) (by omega) (by omega))
 have b0:=lies.on_alloc (lies.made w 227 #[.int .i64 (V / 18446744073709551616),.int .u64 (V % 18446744073709551616)]) (.cells #[.int .i64 0,.int .i64 0] 45)
 have r0:=lies.made (w.alloc (.cells #[.int .i64 (V / 18446744073709551616),.int .u64 (V % 18446744073709551616)] 227)) 45 #[.int .i64 0,.int .i64 0]
 rw [World.size_alloc] at r0
 go_enter Tryz.func243,Tryz.ntmps243
 go_wp2_with (first
  | ((with_reducible refine (said cD _).mono ?_);rintro e w1 ⟨rfl,hB1⟩;have b1:=lies.on_call b0 hB1;have r1:=lies.on_call r0 hB1;obtain ⟨c10,c11,f10,f11,l1⟩:=lies.two b1;obtain ⟨d10,d11,g10,g11,m1⟩:=lies.two r1)
  | (go_at_call 196;refine (divisor_any _ _ _ (by omega) (by omega) (by omega) (by omega)).mono ?_;rintro e w2 ⟨rfl,k1,rfl⟩;rw [eg.out])
  | ((with_reducible refine (said cg _).mono ?_);rintro e w3 ⟨rfl,hB3⟩;have b3:=lies.on_call (lies.on_draw (lies.on_alloc b1 _) _) hB3;have r3:=lies.on_call (lies.on_draw (lies.on_alloc r1 _) _) hB3;obtain ⟨c30,c31,f30,f31,l3⟩:=lies.two b3;obtain ⟨d30,d31,g30,g31,m3⟩:=lies.two r3)
  | (go_at_call 246;refine (number_ok P _ (by omega) (by omega)).mono ?_;rintro e w4 ⟨rfl,hB4⟩;have r4:=lies.on_call (lies.on_far (lies.on_far r3 0 (by omega) _) 1 (by omega) _) hB4;obtain ⟨d40,d41,g40,g41,m4⟩:=lies.two r4)
  | (go_at_call 158;refine (check3_ok _ _ _ p1 p2 m.out).mono ?_;rintro e w5 ⟨rfl,hB5⟩;have r5:=lies.on_call (lies.on_alloc r4 _) hB5;obtain ⟨d50,d51,g50,g51,m5⟩:=lies.two r5;have q5:=lies.on_call (lies.made w4 45 #[.int .i64 P,.int .i64 Q]) hB5;obtain ⟨e50,e51,h50,h51,n5⟩:=lies.two q5))
 exact bodyPost_ret (v:=.tuple #[.agg #[.int .i64 (P),.int .i64 (Q)],.int .i64 0]) (by simp [results,Tryz.results243,go_sem,d50,d51]) rfl ⟨rfl,(((later (up (later (((later (drawn (up (later (up2 _ _ _) hB1) _) _) hB3).setCell (Nat.le_refl _) _).setCell (Nat.le_refl _) _) hB4) _) hB5).setCell (Nat.le_succ _) _).setCell (Nat.le_succ _) _)⟩
set_option maxHeartbeats 1000000 in
theorem lowest_bad (V D g P Q L:Int) (w:World) (D1:1≤D) (D2:D≤9223372036854775807) (v1:-170141183460469231731687303715884105728≤V) (v2:V≤170141183460469231731687303715884105727)
  (g1:1≤g) (g2:g≤D) (L1:0≤L) (L2:L<D) (eL:RowKit.Hid (V % D=L)) (eg:RowKit.Hid (gcdI D L=g)) (eP:RowKit.Hid (V / g=P)) (eQ:D / g=Q) (q1:1≤Q) (q2:Q≤D)
  (p1:-9223372036854775808≤P) (p2:P≤9223372036854775807) (m:RowKit.Hid (¬ MayR P Q)):
  Calls Tryz.prog 243 #[.agg #[.int .i64 ((V) / 18446744073709551616),.int .u64 ((V) % 18446744073709551616)],.int .i64 D] w fun e w'=>e=.returned (.tuple #[.agg #[.int .i64 (0),.int .i64 (0)],.int .i64 10])∧Below w.heap.size w w':=by
 have cD:RowKit.Hid (law.Says 245 #[.agg #[.int .i64 ((V) / 18446744073709551616),.int .u64 ((V) % 18446744073709551616)],.int .i64 D] (.tuple #[.agg #[.int .i64 ((V / D) / 18446744073709551616),.int .u64 ((V / D) % 18446744073709551616)],.int .i64 L])):=Lib.hid (fun w=>by rw [←eL.out];exact by_any V D w (by omega) (by omega) (by omega) (by omega))
 have cg:RowKit.Hid (law.Says 245 #[.agg #[.int .i64 ((V) / 18446744073709551616),.int .u64 ((V) % 18446744073709551616)],.int .i64 g] (.tuple #[.agg #[.int .i64 ((P) / 18446744073709551616),.int .u64 ((P) % 18446744073709551616)],.int .i64 (V % g)])):=Lib.hid (fun w=>by rw [←eP.out];exact by_any V g w (by omega) (by omega) (by omega) (by omega))
 have b0:=lies.on_alloc (lies.made w 227 #[.int .i64 (V / 18446744073709551616),.int .u64 (V % 18446744073709551616)]) (.cells #[.int .i64 0,.int .i64 0] 45)
 have r0:=lies.made (w.alloc (.cells #[.int .i64 (V / 18446744073709551616),.int .u64 (V % 18446744073709551616)] 227)) 45 #[.int .i64 0,.int .i64 0]
 rw [World.size_alloc] at r0
 go_enter Tryz.func243,Tryz.ntmps243
 go_wp2_with (first
  | ((with_reducible refine (said cD _).mono ?_);rintro e w1 ⟨rfl,hB1⟩;have b1:=lies.on_call b0 hB1;have r1:=lies.on_call r0 hB1;obtain ⟨c10,c11,f10,f11,l1⟩:=lies.two b1;obtain ⟨d10,d11,g10,g11,m1⟩:=lies.two r1)
  | (go_at_call 196;refine (divisor_any _ _ _ (by omega) (by omega) (by omega) (by omega)).mono ?_;rintro e w2 ⟨rfl,k1,rfl⟩;rw [eg.out])
  | ((with_reducible refine (said cg _).mono ?_);rintro e w3 ⟨rfl,hB3⟩;have b3:=lies.on_call (lies.on_draw (lies.on_alloc b1 _) _) hB3;have r3:=lies.on_call (lies.on_draw (lies.on_alloc r1 _) _) hB3;obtain ⟨c30,c31,f30,f31,l3⟩:=lies.two b3;obtain ⟨d30,d31,g30,g31,m3⟩:=lies.two r3)
  | (go_at_call 246;refine (number_ok P _ (by omega) (by omega)).mono ?_;rintro e w4 ⟨rfl,hB4⟩;have r4:=lies.on_call (lies.on_far (lies.on_far r3 0 (by omega) _) 1 (by omega) _) hB4;obtain ⟨d40,d41,g40,g41,m4⟩:=lies.two r4)
  | (go_at_call 158;refine (check3_no _ _ _ p1 p2 m.out).mono ?_;rintro e w5 ⟨rfl,hB5⟩;have r5:=lies.on_call (lies.on_alloc r4 _) hB5;obtain ⟨d50,d51,g50,g51,m5⟩:=lies.two r5;have q5:=lies.on_call (lies.made w4 45 #[.int .i64 P,.int .i64 Q]) hB5;obtain ⟨e50,e51,h50,h51,n5⟩:=lies.two q5))
 exact bodyPost_ret (v:=.tuple #[.agg #[.int .i64 (0),.int .i64 (0)],.int .i64 10]) (by simp [results,Tryz.results243,go_sem,d50,d51]) rfl ⟨rfl,(((later (up (later (((later (drawn (up (later (up2 _ _ _) hB1) _) _) hB3).setCell (Nat.le_refl _) _).setCell (Nat.le_refl _) _) hB4) _) hB5).setCell (Nat.le_succ _) _).setCell (Nat.le_succ _) _)⟩
set_option maxHeartbeats 1000000 in
theorem lowest_far (V D g P Q L:Int) (w:World) (D1:1≤D) (D2:D≤9223372036854775807) (v1:-170141183460469231731687303715884105728≤V) (v2:V≤170141183460469231731687303715884105727)
  (g1:1≤g) (g2:g≤D) (L1:0≤L) (L2:L<D) (eL:RowKit.Hid (V % D=L)) (eg:RowKit.Hid (gcdI D L=g)) (eP:RowKit.Hid (V / g=P)) (eQ:D / g=Q) (q1:1≤Q) (q2:Q≤D)
  (p:RowKit.Hid (¬ (-9223372036854775808≤P∧P≤9223372036854775807))):
  Calls Tryz.prog 243 #[.agg #[.int .i64 ((V) / 18446744073709551616),.int .u64 ((V) % 18446744073709551616)],.int .i64 D] w fun e w'=>e=.returned (.tuple #[.agg #[.int .i64 (0),.int .i64 (0)],.int .i64 10])∧Below w.heap.size w w':=by
 have cD:RowKit.Hid (law.Says 245 #[.agg #[.int .i64 ((V) / 18446744073709551616),.int .u64 ((V) % 18446744073709551616)],.int .i64 D] (.tuple #[.agg #[.int .i64 ((V / D) / 18446744073709551616),.int .u64 ((V / D) % 18446744073709551616)],.int .i64 L])):=Lib.hid (fun w=>by rw [←eL.out];exact by_any V D w (by omega) (by omega) (by omega) (by omega))
 have cg:RowKit.Hid (law.Says 245 #[.agg #[.int .i64 ((V) / 18446744073709551616),.int .u64 ((V) % 18446744073709551616)],.int .i64 g] (.tuple #[.agg #[.int .i64 ((P) / 18446744073709551616),.int .u64 ((P) % 18446744073709551616)],.int .i64 (V % g)])):=Lib.hid (fun w=>by rw [←eP.out];exact by_any V g w (by omega) (by omega) (by omega) (by omega))
 have b0:=lies.on_alloc (lies.made w 227 #[.int .i64 (V / 18446744073709551616),.int .u64 (V % 18446744073709551616)]) (.cells #[.int .i64 0,.int .i64 0] 45)
 have r0:=lies.made (w.alloc (.cells #[.int .i64 (V / 18446744073709551616),.int .u64 (V % 18446744073709551616)] 227)) 45 #[.int .i64 0,.int .i64 0]
 rw [World.size_alloc] at r0
 go_enter Tryz.func243,Tryz.ntmps243
 go_wp2_with (first
  | ((with_reducible refine (said cD _).mono ?_);rintro e w1 ⟨rfl,hB1⟩;have b1:=lies.on_call b0 hB1;have r1:=lies.on_call r0 hB1;obtain ⟨c10,c11,f10,f11,l1⟩:=lies.two b1;obtain ⟨d10,d11,g10,g11,m1⟩:=lies.two r1)
  | (go_at_call 196;refine (divisor_any _ _ _ (by omega) (by omega) (by omega) (by omega)).mono ?_;rintro e w2 ⟨rfl,k1,rfl⟩;rw [eg.out])
  | ((with_reducible refine (said cg _).mono ?_);rintro e w3 ⟨rfl,hB3⟩;have b3:=lies.on_call (lies.on_draw (lies.on_alloc b1 _) _) hB3;have r3:=lies.on_call (lies.on_draw (lies.on_alloc r1 _) _) hB3;obtain ⟨c30,c31,f30,f31,l3⟩:=lies.two b3;obtain ⟨d30,d31,g30,g31,m3⟩:=lies.two r3)
  | (go_at_call 246;refine (number_no P _ p.out).mono ?_;rintro e w4 ⟨rfl,hB4⟩;have r4:=lies.on_call (lies.on_far (lies.on_far r3 0 (by omega) _) 1 (by omega) _) hB4;obtain ⟨d40,d41,g40,g41,m4⟩:=lies.two r4))
 exact bodyPost_ret (v:=.tuple #[.agg #[.int .i64 (0),.int .i64 (0)],.int .i64 10]) (by simp [results,Tryz.results243,go_sem,d40,d41,m4]) rfl ⟨rfl,(up (((later (((later (drawn (up (later (up2 _ _ _) hB1) _) _) hB3).setCell (Nat.le_refl _) _).setCell (Nat.le_refl _) _) hB4).setCell (Nat.le_succ _) _).setCell (Nat.le_succ _) _) _)⟩
def lowN (V D:Int):Int:=if lowOk V D then lowP V D else 0
def lowD (V D:Int):Int:=if lowOk V D then lowQ V D else 0
def lowE (V D:Int):Int:=if lowOk V D then 0 else 10
theorem low_yes {V D:Int} (h:lowOk V D):lowN V D=lowP V D∧lowD V D=lowQ V D∧lowE V D=0:=⟨if_pos h,if_pos h,if_pos h⟩
theorem low_not {V D:Int} (h:¬ lowOk V D):lowN V D=0∧lowD V D=0∧lowE V D=10:=⟨if_neg h,if_neg h,if_neg h⟩
theorem lowQ_in (V D:Int) (h:1≤D):1≤lowQ V D∧lowQ V D≤D:=by
 have a:=gcd_pos V D h
 have b:=gcd_le V D h
 constructor
 ·exact (le_div D (gcdI V D) 1 a).2 (by omega)
 ·exact Int.ediv_le_self _ (by omega)
theorem lowest_any (V D:Int) (w:World) (D1:1≤D) (D2:D≤9223372036854775807) (v1:-170141183460469231731687303715884105728≤V) (v2:V≤170141183460469231731687303715884105727):
  Calls Tryz.prog 243 #[.agg #[.int .i64 ((V) / 18446744073709551616),.int .u64 ((V) % 18446744073709551616)],.int .i64 D] w fun e w'=>e=.returned (.tuple #[.agg #[.int .i64 (lowN V D),.int .i64 (lowD V D)],.int .i64 (lowE V D)])∧Below w.heap.size w w':=by
 have a:=gcd_pos V D D1
 have b:=gcd_le V D D1
 obtain ⟨_,c,d⟩:=div_mul V D D1
 obtain ⟨e,f⟩:=lowQ_in V D D1
 by_cases h:lowOk V D
 ·obtain ⟨e1,e2,e3⟩:=low_yes h
  rw [e1,e2,e3]
  exact lowest_ok V D (gcdI V D) (lowP V D) (lowQ V D) (V % D) w D1 D2 v1 v2 a b c d (Lib.hid rfl) (Lib.hid (gcd_part V D)) (Lib.hid rfl) rfl e f h.1 h.2.1 (Lib.hid h.2.2)
 ·obtain ⟨e1,e2,e3⟩:=low_not h
  rw [e1,e2,e3]
  by_cases p:-9223372036854775808≤lowP V D∧lowP V D≤9223372036854775807
  ·exact lowest_bad V D (gcdI V D) (lowP V D) (lowQ V D) (V % D) w D1 D2 v1 v2 a b c d (Lib.hid rfl) (Lib.hid (gcd_part V D)) (Lib.hid rfl) rfl e f p.1 p.2 (Lib.hid (fun m=>h ⟨p.1,p.2,m⟩))
  ·exact lowest_far V D (gcdI V D) (lowP V D) (lowQ V D) (V % D) w D1 D2 v1 v2 a b c d (Lib.hid rfl) (Lib.hid (gcd_part V D)) (Lib.hid rfl) rfl e f (Lib.hid p)
end Go.Proofs.YthmljpccbjolgaaGreatDoor.rat
namespace Go.Proofs.YthmljpccbjolgaaGreatDoor.rat
open Go.ChangeShapes Go.WideShapes Go.ChangeAt Go.RowKit rmath bound num
set_option linter.unusedVariables false
theorem may_fits {a b d:Int} (h:MayR a b) (d1:1≤d) (d2:d≤1048576):Fits (a*d)∧-2535301200456458802993406410752≤a*d∧a*d≤2535301200456458802993406410752:=by
 obtain ⟨h1,h2,h3,h4,_⟩:=h
 have x1:-2417851639229258349412352≤a:=by omega
 have x2:a≤2417851639229258349412352:=by omega
 have y1:=Int.mul_le_mul_of_nonneg_right x1 (show 0≤d by omega)
 have y2:=Int.mul_le_mul_of_nonneg_right x2 (show 0≤d by omega)
 unfold Fits
 omega
theorem dens_in {b d:Int} (b1:1≤b) (b2:b≤1048576) (d1:1≤d) (d2:d≤1048576):1≤b*d∧b*d≤1099511627776:=by
 have y1:=Int.mul_le_mul_of_nonneg_right b1 (show 0≤d by omega)
 have y2:=Int.mul_le_mul_of_nonneg_right b2 (show 0≤d by omega)
 omega
theorem part_no (a b c d k:Int) (w:World) (a1:-9223372036854775808≤a) (a2:a≤9223372036854775807) (c1:-9223372036854775808≤c) (c2:c≤9223372036854775807) (h:¬ Both a b c d):
  Calls Tryz.prog 234 #[.agg #[.int .i64 (a),.int .i64 (b)],.agg #[.int .i64 (c),.int .i64 (d)],.int .i64 k] w fun e w'=>e=.returned (.tuple #[.agg #[.int .i64 (0),.int .i64 (0)],.int .i64 8])∧Below w.heap.size w w':=by
 have H:=Lib.hid h
 clear h
 have r0:=lies.made ((w.alloc (.cells #[.int .i64 a,.int .i64 b] 45)).alloc (.cells #[.int .i64 c,.int .i64 d] 45)) 45 #[.int .i64 0,.int .i64 0]
 rw [World.size_alloc,World.size_alloc] at r0
 go_enter Tryz.func234,Tryz.ntmps234
 go_wp2_with (go_at_call 197;refine (both_no _ _ _ _ _ a1 a2 c1 c2 H.out).mono ?_;rintro e w1 ⟨rfl,hB1⟩;have r1:=lies.on_call r0 hB1;obtain ⟨d10,d11,g10,g11,m1⟩:=lies.two r1)
 exact bodyPost_ret (v:=.tuple #[.agg #[.int .i64 (0),.int .i64 (0)],.int .i64 8]) (by simp [results,Tryz.results234,go_sem,d10,d11]) rfl ⟨rfl,((later (up3 _ _ _ _) hB1).setCell (by simp;omega) _).setCell (by simp;omega) _⟩
set_option maxHeartbeats 4000000 in
theorem part_ok (a b c d k P Q E : Int) (w : World) (a1 : -9223372036854775808 ≤ a) (a2 : a ≤ 9223372036854775807) (c1 : -9223372036854775808 ≤ c) (c2 : c ≤ 9223372036854775807) (k1 : 1 ≤ k) (k2 : k ≤ 2) (h : MayR a b) (h' : MayR c d)
    (eP : lowN (a * d + c * b) (b * d * k) = P) (eQ : lowD (a * d + c * b) (b * d * k) = Q) (eE : lowE (a * d + c * b) (b * d * k) = E) :
    Calls Tryz.prog 234 #[.agg #[.int .i64 (a), .int .i64 (b)], .agg #[.int .i64 (c), .int .i64 (d)], .int .i64 k] w fun e w' => e = .returned (.tuple #[.agg #[.int .i64 (P), .int .i64 (Q)], .int .i64 E]) ∧ Below w.heap.size w w' := by
  have b1 := h.1
  have b2 := h.2.1
  have d1 := h'.1
  have d2 := h'.2.1
  obtain ⟨f1, f2, f3⟩ := may_fits h d1 d2
  obtain ⟨g1, g2, g3⟩ := may_fits h' b1 b2
  obtain ⟨e1, e2⟩ := dens_in b1 b2 d1 d2
  have e3 : 1 ≤ b * d * k := by have := Int.mul_le_mul_of_nonneg_right e1 (show 0 ≤ k by omega); omega
  have e4 : b * d * k ≤ 2199023255552 := by have := Int.mul_le_mul_of_nonneg_right e2 (show 0 ≤ k by omega); omega
  have H := Lib.hid h
  have H' := Lib.hid h'
  have F := Lib.hid f1
  have G := Lib.hid g1
  have cL : RowKit.Hid (law.Says 243 #[.agg #[.int .i64 ((a * d + c * b) / 18446744073709551616), .int .u64 ((a * d + c * b) % 18446744073709551616)], .int .i64 (b * d * k)] (.tuple #[.agg #[.int .i64 (P), .int .i64 (Q)], .int .i64 E])) := Lib.hid (fun w => by rw [← eP, ← eQ, ← eE]; exact lowest_any _ _ w e3 (by omega) (by omega) (by omega))
  clear h h' f1 g1 eP eQ eE f2 f3 g2 g3
  have r0 := lies.made ((w.alloc (.cells #[.int .i64 a, .int .i64 b] 45)).alloc (.cells #[.int .i64 c, .int .i64 d] 45)) 45 #[.int .i64 0, .int .i64 0]
  have t0 := lies.on_alloc (lies.made (w.alloc (.cells #[.int .i64 a, .int .i64 b] 45)) 45 #[.int .i64 c, .int .i64 d]) (.cells #[.int .i64 0, .int .i64 0] 45)
  have s0 := lies.on_alloc (lies.on_alloc (lies.made w 45 #[.int .i64 a, .int .i64 b]) (.cells #[.int .i64 c, .int .i64 d] 45)) (.cells #[.int .i64 0, .int .i64 0] 45)
  rw [World.size_alloc, World.size_alloc] at r0
  rw [World.size_alloc] at t0
  go_enter Tryz.func234, Tryz.ntmps234
  go_upto_region 4 with (go_at_call 197; refine (both_ok _ _ _ _ _ a1 a2 c1 c2 H.out H'.out).mono ?_; rintro e w1 ⟨rfl, hB1⟩; have r1 := lies.on_call r0 hB1; have s1 := lies.on_call s0 hB1; have t1 := lies.on_call t0 hB1; obtain ⟨ca0, ca1, fa0, fa1, la⟩ := lies.two s1; obtain ⟨cb0, cb1, fb0, fb1, lb⟩ := lies.two t1)
  have K1 := later (up3 _ _ _ _) hB1
  clear r0 s0 t0 hB1
  go_cut [9] (fun s9 wx => ∃ g : Nat, s9 = .pointer (some ⟨g, 0, none⟩) ∧ lies.Lies wx g 227 #[.int .i64 ((a * d + c * b) / 18446744073709551616), .int .u64 ((a * d + c * b) % 18446744073709551616)] ∧ lies.Lies wx w.heap.size 45 #[.int .i64 a, .int .i64 b] ∧ lies.Lies wx (w.heap.size + 1) 45 #[.int .i64 c, .int .i64 d] ∧ lies.Lies wx (w.heap.size + 1 + 1) 45 #[.int .i64 0, .int .i64 0] ∧ Below w.heap.size w wx)
  case first =>
    go_region_held3 (fun W => W.cell? ⟨w.heap.size, 0, none⟩ = some (.int .i64 a) ∧ W.cell? ⟨w.heap.size, 1, none⟩ = some (.int .i64 b) ∧ W.cell? ⟨w.heap.size + 1, 0, none⟩ = some (.int .i64 c) ∧ W.cell? ⟨w.heap.size + 1, 1, none⟩ = some (.int .i64 d)) ((refine lies.four (t := 45) (s := 45) ?_ ?_ <;> repeat (first | with_reducible exact s1 | with_reducible exact t1 | with_reducible refine lies.on_drew ?_ | with_reducible refine lies.on_alloc ?_ _)))
      (first
        | (go_at_call_of 198 (Value.int .i64 a); refine (times_eq a d _ (by omega) (by omega) (by omega) (by omega)).mono ?_; rintro e w' ⟨rfl, rfl⟩)
        | (go_at_call_of 198 (Value.int .i64 c); refine (times_eq c b _ (by omega) (by omega) (by omega) (by omega)).mono ?_; rintro e w' ⟨rfl, rfl⟩)
        | (go_at_call 242; refine (plus_eq (a * d) (c * b) _ F.out G.out).mono ?_; rintro e w' ⟨rfl, rfl⟩))
    all_goals
      go_wp2_with fail
      go_meet
      refine ⟨_, rfl, ?_, ?_, ?_, ?_, ?_⟩
      · repeat (first | (with_reducible refine lies.made_at _ _ _ _ ?_; simp only [World.size_alloc]; done) | with_reducible refine lies.on_drew ?_ | with_reducible refine lies.on_alloc ?_ _)
      · repeat (first | with_reducible exact s1 | with_reducible refine lies.on_drew ?_ | with_reducible refine lies.on_alloc ?_ _)
      · repeat (first | with_reducible exact t1 | with_reducible refine lies.on_drew ?_ | with_reducible refine lies.on_alloc ?_ _)
      · repeat (first | with_reducible exact r1 | with_reducible refine lies.on_drew ?_ | with_reducible refine lies.on_alloc ?_ _)
      · repeat (first | with_reducible exact K1 | with_reducible refine lies.frame_drew ?_ | with_reducible refine lies.frame_up ?_ _)
  case rest =>
    obtain ⟨g, rfl, hg, hs, ht, hr, hB⟩ := hcut
    obtain ⟨x0, x1, x2, x3, x4⟩ := lies.two hg
    obtain ⟨y0, y1, y2, y3, y4⟩ := lies.two hs
    obtain ⟨z0, z1, z2, z3, z4⟩ := lies.two ht
    clear ca0 ca1 fa0 fa1 la cb0 cb1 fb0 fb1 lb
    have m1 : IntKind.i64.wrap (b * d) = b * d := IntWalk.i64_in _ (by omega)
    have m2 : IntKind.i64.wrap (b * d * k) = b * d * k := IntWalk.i64_in _ (by omega)
    go_wp2_with ((with_reducible refine (said cL _).mono ?_); rintro e w2 ⟨rfl, hB2⟩; have r2 := lies.on_call hr hB2; obtain ⟨d20, d21, g20, g21, n2⟩ := lies.two r2)
    exact bodyPost_ret (v := .tuple #[.agg #[.int .i64 (P), .int .i64 (Q)], .int .i64 E]) (by simp [results, Tryz.results234, go_sem, d20, d21]) rfl ⟨rfl, ((later hB hB2).setCell (by simp; omega) _).setCell (by simp; omega) _⟩
def partN (k a b c d:Int):Int:=if Both a b c d then lowN (a*d+c*b) (b*d*k) else 0
def partD (k a b c d:Int):Int:=if Both a b c d then lowD (a*d+c*b) (b*d*k) else 0
def partE (k a b c d:Int):Int:=if Both a b c d then lowE (a*d+c*b) (b*d*k) else 8
theorem part_any (a b c d k:Int) (w:World) (a1:-9223372036854775808≤a) (a2:a≤9223372036854775807) (c1:-9223372036854775808≤c) (c2:c≤9223372036854775807) (k1:1≤k) (k2:k≤2):
  Calls Tryz.prog 234 #[.agg #[.int .i64 (a),.int .i64 (b)],.agg #[.int .i64 (c),.int .i64 (d)],.int .i64 k] w fun e w'=>e=.returned (.tuple #[.agg #[.int .i64 (partN k a b c d),.int .i64 (partD k a b c d)],.int .i64 (partE k a b c d)])∧Below w.heap.size w w':=by
 unfold partN partD partE
 by_cases h:Both a b c d
 ·rw [if_pos h,if_pos h,if_pos h];exact part_ok a b c d k _ _ _ w a1 a2 c1 c2 k1 k2 h.1 h.2 rfl rfl rfl
 ·rw [if_neg h,if_neg h,if_neg h];exact part_no a b c d k w a1 a2 c1 c2 h
end Go.Proofs.YthmljpccbjolgaaGreatDoor.rat
namespace Go.Proofs.YthmljpccbjolgaaGreatDoor.rat
open Go.ChangeShapes Go.WideShapes Go.ChangeAt Go.RowKit rmath bound num
set_option linter.unusedVariables false
theorem add3_k (a b c d P Q E:Int) (w:World) (a1:-9223372036854775808≤a) (a2:a≤9223372036854775807) (c1:-9223372036854775808≤c) (c2:c≤9223372036854775807) (eP:partN 1 a b c d=P) (eQ:partD 1 a b c d=Q) (eE:partE 1 a b c d=E):
  Calls Tryz.prog 233 #[.agg #[.int .i64 (a),.int .i64 (b)],.agg #[.int .i64 (c),.int .i64 (d)]] w fun e w'=>e=.returned (.tuple #[.agg #[.int .i64 (P),.int .i64 (Q)],.int .i64 E])∧Below w.heap.size w w':=by
 have cL:RowKit.Hid (law.Says 234 #[.agg #[.int .i64 (a),.int .i64 (b)],.agg #[.int .i64 (c),.int .i64 (d)],.int .i64 1] (.tuple #[.agg #[.int .i64 (P),.int .i64 (Q)],.int .i64 E])):=Lib.hid (fun w=>by rw [←eP,←eQ,←eE];exact part_any a b c d 1 w a1 a2 c1 c2 (by omega) (by omega))
 clear eP eQ eE
 have r0:=lies.made ((w.alloc (.cells #[.int .i64 a,.int .i64 b] 45)).alloc (.cells #[.int .i64 c,.int .i64 d] 45)) 45 #[.int .i64 0,.int .i64 0]
 rw [World.size_alloc,World.size_alloc] at r0
 go_enter Tryz.func233,Tryz.ntmps233
 go_wp2_with ((with_reducible refine (said cL _).mono ?_);rintro e w1 ⟨rfl,hB1⟩;have r1:=lies.on_call r0 hB1;obtain ⟨d10,d11,g10,g11,m1⟩:=lies.two r1)
 exact bodyPost_ret (v:=.tuple #[.agg #[.int .i64 (P),.int .i64 (Q)],.int .i64 E]) (by simp [results,Tryz.results233,go_sem,d10,d11]) rfl ⟨rfl,((later (up3 _ _ _ _) hB1).setCell (by simp;omega) _).setCell (by simp;omega) _⟩
theorem mid3_k (a b c d P Q E:Int) (w:World) (a1:-9223372036854775808≤a) (a2:a≤9223372036854775807) (c1:-9223372036854775808≤c) (c2:c≤9223372036854775807) (eP:partN 2 a b c d=P) (eQ:partD 2 a b c d=Q) (eE:partE 2 a b c d=E):
  Calls Tryz.prog 218 #[.agg #[.int .i64 (a),.int .i64 (b)],.agg #[.int .i64 (c),.int .i64 (d)]] w fun e w'=>e=.returned (.tuple #[.agg #[.int .i64 (P),.int .i64 (Q)],.int .i64 E])∧Below w.heap.size w w':=by
 have cL:RowKit.Hid (law.Says 234 #[.agg #[.int .i64 (a),.int .i64 (b)],.agg #[.int .i64 (c),.int .i64 (d)],.int .i64 2] (.tuple #[.agg #[.int .i64 (P),.int .i64 (Q)],.int .i64 E])):=Lib.hid (fun w=>by rw [←eP,←eQ,←eE];exact part_any a b c d 2 w a1 a2 c1 c2 (by omega) (by omega))
 clear eP eQ eE
 have r0:=lies.made ((w.alloc (.cells #[.int .i64 a,.int .i64 b] 45)).alloc (.cells #[.int .i64 c,.int .i64 d] 45)) 45 #[.int .i64 0,.int .i64 0]
 rw [World.size_alloc,World.size_alloc] at r0
 go_enter Tryz.func218,Tryz.ntmps218
 go_wp2_with ((with_reducible refine (said cL _).mono ?_);rintro e w1 ⟨rfl,hB1⟩;have r1:=lies.on_call r0 hB1;obtain ⟨d10,d11,g10,g11,m1⟩:=lies.two r1)
 exact bodyPost_ret (v:=.tuple #[.agg #[.int .i64 (P),.int .i64 (Q)],.int .i64 E]) (by simp [results,Tryz.results218,go_sem,d10,d11]) rfl ⟨rfl,((later (up3 _ _ _ _) hB1).setCell (by simp;omega) _).setCell (by simp;omega) _⟩
set_option maxHeartbeats 1000000 in
theorem cmp1_any (a b c d : Int) (w : World) (a1 : -9223372036854775808 ≤ a) (a2 : a ≤ 9223372036854775807) (c1 : -9223372036854775808 ≤ c) (c2 : c ≤ 9223372036854775807) (b1 : 1 ≤ b) (b2 : b ≤ 9223372036854775807) (d1 : 1 ≤ d) (d2 : d ≤ 9223372036854775807) :
    Calls Tryz.prog 240 #[.agg #[.int .i64 (a), .int .i64 (b)], .agg #[.int .i64 (c), .int .i64 (d)]] w fun e w' => e = .returned (.bool (ltB (a * d) (c * b))) ∧ Below w.heap.size w w' := by
  have s1 := lies.on_alloc (lies.made w 45 #[.int .i64 a, .int .i64 b]) (.cells #[.int .i64 c, .int .i64 d] 45)
  have t1 := lies.made (w.alloc (.cells #[.int .i64 a, .int .i64 b] 45)) 45 #[.int .i64 c, .int .i64 d]
  rw [World.size_alloc] at t1
  have K1 := up2 w (.cells #[.int .i64 a, .int .i64 b] 45) (.cells #[.int .i64 c, .int .i64 d] 45)
  generalize hL : ltB (a * d) (c * b) = r
  have cL : RowKit.Hid (law.Says 201 #[.agg #[.int .i64 ((a * d) / 18446744073709551616), .int .u64 ((a * d) % 18446744073709551616)], .agg #[.int .i64 ((c * b) / 18446744073709551616), .int .u64 ((c * b) % 18446744073709551616)]] (.bool r)) := Lib.hid (fun w => by rw [← hL]; exact less_any2 _ _ w)
  clear hL
  go_enter Tryz.func240, Tryz.ntmps240
  go_wp2_with fail
  go_region_held3 (fun W => W.cell? ⟨w.heap.size, 0, none⟩ = some (.int .i64 a) ∧ W.cell? ⟨w.heap.size, 1, none⟩ = some (.int .i64 b) ∧ W.cell? ⟨w.heap.size + 1, 0, none⟩ = some (.int .i64 c) ∧ W.cell? ⟨w.heap.size + 1, 1, none⟩ = some (.int .i64 d)) ((refine lies.four (t := 45) (s := 45) ?_ ?_ <;> repeat (first | with_reducible exact s1 | with_reducible exact t1 | with_reducible refine lies.on_drew ?_ | with_reducible refine lies.on_alloc ?_ _ | with_reducible refine lies.on_call ?_ hBL)))
      (first
        | (go_at_call_of 198 (Value.int .i64 a); refine (times_eq a d _ (by omega) (by omega) (by omega) (by omega)).mono ?_; rintro e w' ⟨rfl, rfl⟩)
        | (go_at_call_of 198 (Value.int .i64 c); refine (times_eq c b _ (by omega) (by omega) (by omega) (by omega)).mono ?_; rintro e w' ⟨rfl, rfl⟩)
        | ((with_reducible refine (said cL _).mono ?_); rintro e wL ⟨rfl, hBL⟩))
  all_goals
    go_wp2_with fail
    go_ret
    refine ⟨rfl, later ?_ hBL⟩
    repeat (first | with_reducible exact K1 | with_reducible refine lies.frame_drew ?_ | with_reducible refine lies.frame_up ?_ _)
set_option maxHeartbeats 2000000 in
theorem first_rat (a b c d : Int) (r : Bool) (g : Nat) (w : World) (hc : RowKit.Hid (law.Says 240 #[.agg #[.int .i64 (c), .int .i64 (d)], .agg #[.int .i64 (a), .int .i64 (b)]] (.bool r))) (h0 : RowKit.Hid (law.Says 240 #[.agg #[.int .i64 (a), .int .i64 (b)], .agg #[.int .i64 (a), .int .i64 (b)]] (.bool false)))
    (hl : lies.Lies w g 45 #[.int .i64 a, .int .i64 b, .int .i64 c, .int .i64 d]) :
    Calls Tryz.prog 241 #[.func (.func 240) #[] #[], .slice (some ⟨g, 0, none⟩) 2 2] w fun e w' => e = .returned (.int .i64 (if r then 1 else 0)) ∧ Below w.heap.size w w' := by
  go_enter Tryz.func241, Tryz.ntmps241
  go_wp2
  go_loopw [5, 6, 9] (fun p _ i wr => (lies.Lies wr g 45 #[.int .i64 a, .int .i64 b, .int .i64 c, .int .i64 d] ∧ Below w.heap.size w wr) ∧ ((i = .int .i64 0 ∧ p = .int .i64 0) ∨ (i = .int .i64 1 ∧ p = .int .i64 0) ∨ (i = .int .i64 2 ∧ p = .int .i64 (if r then 1 else 0)))) (fun _ _ i _ => (2 - intOf i).toNat)
  case atStart => exact ⟨⟨hl, Below.refl _ _⟩, .inl ⟨rfl, rfl⟩⟩
  case round =>
    obtain ⟨⟨hL, hB⟩, ⟨rfl, rfl⟩ | ⟨rfl, rfl⟩ | ⟨rfl, rfl⟩⟩ := hrel
    · go_wp2
      go_region_held3 (fun W => W.cell? ⟨g, 0, none⟩ = some (.int .i64 a) ∧ W.cell? ⟨g, 1, none⟩ = some (.int .i64 b) ∧ W.cell? ⟨g, 2, none⟩ = some (.int .i64 c) ∧ W.cell? ⟨g, 3, none⟩ = some (.int .i64 d)) ((refine lies.row (t := 45) ?_ <;> repeat (first | with_reducible exact hL | with_reducible refine lies.on_drew ?_ | with_reducible refine lies.on_call ?_ hBL)))
        (first
          | ((with_reducible refine (said h0 _).mono ?_); rintro e wL ⟨rfl, hBL⟩))
      go_wp2
      exact ⟨⟨⟨lies.on_call (lies.on_drew hL) hBL, later (lies.frame_drew hB) hBL⟩, .inr (.inl ⟨rfl, rfl⟩)⟩, by simp [intOf]⟩
    · go_wp2
      go_region_held3 (fun W => W.cell? ⟨g, 0, none⟩ = some (.int .i64 a) ∧ W.cell? ⟨g, 1, none⟩ = some (.int .i64 b) ∧ W.cell? ⟨g, 2, none⟩ = some (.int .i64 c) ∧ W.cell? ⟨g, 3, none⟩ = some (.int .i64 d)) ((refine lies.row (t := 45) ?_ <;> repeat (first | with_reducible exact hL | with_reducible refine lies.on_drew ?_ | with_reducible refine lies.on_call ?_ hBL)))
        (first
          | ((with_reducible refine (said hc _).mono ?_); rintro e wL ⟨rfl, hBL⟩))
      cases r
      · go_wp2
        exact ⟨⟨⟨lies.on_call (lies.on_drew hL) hBL, later (lies.frame_drew hB) hBL⟩, .inr (.inr ⟨rfl, rfl⟩)⟩, by simp [intOf]⟩
      · go_wp2
        exact ⟨⟨⟨lies.on_call (lies.on_drew hL) hBL, later (lies.frame_drew hB) hBL⟩, .inr (.inr ⟨rfl, rfl⟩)⟩, by simp [intOf]⟩
    · cases r
      · go_wp2
        go_ret
        exact ⟨rfl, hB⟩
      · go_wp2
        go_ret
        exact ⟨rfl, hB⟩
theorem ltB_self (a:Int):ltB a a=false:=by unfold ltB;simp
theorem ltB_yes {a b:Int} (h:a<b):ltB a b=true:=by unfold ltB;simpa using h
theorem ltB_no {a b:Int} (h:¬ a<b):ltB a b=false:=by unfold ltB;simpa using h
end Go.Proofs.YthmljpccbjolgaaGreatDoor.rat
namespace Go.Proofs.YthmljpccbjolgaaGreatDoor.rat
open Go.ChangeShapes Go.WideShapes Go.ChangeAt Go.RowKit rmath bound num
set_option linter.unusedVariables false
theorem cmp3_no (a b c d:Int) (w:World) (a1:-9223372036854775808≤a) (a2:a≤9223372036854775807) (c1:-9223372036854775808≤c) (c2:c≤9223372036854775807) (h:¬ Both a b c d):
  Calls Tryz.prog 232 #[.agg #[.int .i64 (a),.int .i64 (b)],.agg #[.int .i64 (c),.int .i64 (d)]] w fun e w'=>e=.returned (.tuple #[.int .i64 0,.int .i64 8])∧Below w.heap.size w w':=by
 have H:=Lib.hid h
 clear h
 go_enter Tryz.func232,Tryz.ntmps232
 go_wp2_with (go_at_call 197;refine (both_no _ _ _ _ _ a1 a2 c1 c2 H.out).mono ?_;rintro e w1 ⟨rfl,hB1⟩)
 go_ret2
 exact ⟨rfl,later (up2 _ _ _) hB1⟩
theorem first_rat_v (a b c d z:Int) (r:Bool) (g:Nat) (w:World) (hz:z=if r then 1 else 0) (hc:RowKit.Hid (law.Says 240 #[.agg #[.int .i64 (c),.int .i64 (d)],.agg #[.int .i64 (a),.int .i64 (b)]] (.bool r))) (h0:RowKit.Hid (law.Says 240 #[.agg #[.int .i64 (a),.int .i64 (b)],.agg #[.int .i64 (a),.int .i64 (b)]] (.bool false)))
  (hl:lies.Lies w g 45 #[.int .i64 a,.int .i64 b,.int .i64 c,.int .i64 d]):
  Calls Tryz.prog 241 #[.func (.func 240) #[] #[],.slice (some ⟨g,0,none⟩) 2 2] w fun e w'=>e=.returned (.int .i64 z)∧Below w.heap.size w w':=
 hz ▸ first_rat a b c d r g w hc h0 hl
set_option maxHeartbeats 4000000 in
theorem cmp3_k (a b c d x y : Int) (r q : Bool) (w : World) (a1 : -9223372036854775808 ≤ a) (a2 : a ≤ 9223372036854775807) (c1 : -9223372036854775808 ≤ c) (c2 : c ≤ 9223372036854775807) (h : MayR a b) (h' : MayR c d)
    (hr : ltB (c * b) (a * d) = r) (hq : ltB (a * d) (c * b) = q) (hx : x = if r then 1 else 0) (hy : y = if q then 1 else 0) (x1 : 0 ≤ x) (x2 : x ≤ 1) (y1 : 0 ≤ y) (y2 : y ≤ 1) :
    Calls Tryz.prog 232 #[.agg #[.int .i64 (a), .int .i64 (b)], .agg #[.int .i64 (c), .int .i64 (d)]] w fun e w' => e = .returned (.tuple #[.int .i64 (x - y), .int .i64 0]) ∧ Below w.heap.size w w' := by
  have b1 := h.1
  have b2 := h.2.1
  have d1 := h'.1
  have d2 := h'.2.1
  have H := Lib.hid h
  have H' := Lib.hid h'
  have HX := Lib.hid hx
  have HY := Lib.hid hy
  have k1 : RowKit.Hid (law.Says 240 #[.agg #[.int .i64 (c), .int .i64 (d)], .agg #[.int .i64 (a), .int .i64 (b)]] (.bool r)) := Lib.hid (fun w => by rw [← hr]; exact cmp1_any c d a b w c1 c2 a1 a2 (by omega) (by omega) (by omega) (by omega))
  have k2 : RowKit.Hid (law.Says 240 #[.agg #[.int .i64 (a), .int .i64 (b)], .agg #[.int .i64 (c), .int .i64 (d)]] (.bool q)) := Lib.hid (fun w => by rw [← hq]; exact cmp1_any a b c d w a1 a2 c1 c2 (by omega) (by omega) (by omega) (by omega))
  have k3 : RowKit.Hid (law.Says 240 #[.agg #[.int .i64 (a), .int .i64 (b)], .agg #[.int .i64 (a), .int .i64 (b)]] (.bool false)) := Lib.hid (fun w => by rw [← ltB_self (a * b)]; exact cmp1_any a b a b w a1 a2 a1 a2 (by omega) (by omega) (by omega) (by omega))
  have k4 : RowKit.Hid (law.Says 240 #[.agg #[.int .i64 (c), .int .i64 (d)], .agg #[.int .i64 (c), .int .i64 (d)]] (.bool false)) := Lib.hid (fun w => by rw [← ltB_self (c * d)]; exact cmp1_any c d c d w c1 c2 c1 c2 (by omega) (by omega) (by omega) (by omega))
  clear h h' hr hq hx hy
  have t0 := lies.made (w.alloc (.cells #[.int .i64 a, .int .i64 b] 45)) 45 #[.int .i64 c, .int .i64 d]
  have s0 := lies.on_alloc (lies.made w 45 #[.int .i64 a, .int .i64 b]) (.cells #[.int .i64 c, .int .i64 d] 45)
  rw [World.size_alloc] at t0
  go_enter Tryz.func232, Tryz.ntmps232
  go_wp2_with (go_at_call 197; refine (both_ok _ _ _ _ _ a1 a2 c1 c2 H.out H'.out).mono ?_; rintro e w1 ⟨rfl, hB1⟩; have s1 := lies.on_call s0 hB1; have t1 := lies.on_call t0 hB1; obtain ⟨ca0, ca1, fa0, fa1, la⟩ := lies.two s1; obtain ⟨cb0, cb1, fb0, fb1, lb⟩ := lies.two t1)
  have K1 := later (up2 _ _ _) hB1
  clear s0 t0 hB1
  have m : IntKind.i64.wrap (x - y) = x - y := IntWalk.i64_in _ (by omega)
  go_region_held3 (fun W => W.cell? ⟨w.heap.size, 0, none⟩ = some (.int .i64 a) ∧ W.cell? ⟨w.heap.size, 1, none⟩ = some (.int .i64 b) ∧ W.cell? ⟨w.heap.size + 1, 0, none⟩ = some (.int .i64 c) ∧ W.cell? ⟨w.heap.size + 1, 1, none⟩ = some (.int .i64 d)) ((refine lies.four (t := 45) (s := 45) ?_ ?_ <;> repeat (first | with_reducible exact s1 | with_reducible exact t1 | with_reducible refine lies.on_drew ?_ | with_reducible refine lies.on_alloc ?_ _ | with_reducible refine lies.on_call ?_ hBL | with_reducible refine lies.on_call ?_ hBM)))
      (first
        | (go_at_call 241; refine (first_rat_v a b c d x r _ _ HX.out k1 k3 ?_).mono ?_; (repeat (first | (focus (with_reducible refine lies.made_at _ _ _ _ ?_; (first | with_reducible rfl | simp only [World.size_alloc]); done)) | with_reducible refine lies.on_drew ?_ | with_reducible refine lies.on_alloc ?_ _ | with_reducible refine lies.on_call ?_ hBM)); rintro e wL ⟨rfl, hBL⟩)
        | (go_at_call 241; refine (first_rat_v c d a b y q _ _ HY.out k2 k4 ?_).mono ?_; (repeat (first | (focus (with_reducible refine lies.made_at _ _ _ _ ?_; (first | with_reducible rfl | simp only [World.size_alloc]); done)) | with_reducible refine lies.on_drew ?_ | with_reducible refine lies.on_alloc ?_ _ | with_reducible refine lies.on_call ?_ hBL)); rintro e wM ⟨rfl, hBM⟩))
  all_goals
    go_wp2_with fail
    go_ret2
    refine ⟨rfl, later ?_ hBM⟩
    repeat (first | with_reducible exact K1 | with_reducible refine lies.frame_drew ?_ | with_reducible refine lies.frame_up ?_ _ | with_reducible refine later ?_ hBL)
def cmpV (a b c d:Int):Int:=if Both a b c d then (if c*b<a*d then 1 else if a*d<c*b then -1 else 0) else 0
def cmpE (a b c d:Int):Int:=if Both a b c d then 0 else 8
theorem cmp3_any (a b c d:Int) (w:World) (a1:-9223372036854775808≤a) (a2:a≤9223372036854775807) (c1:-9223372036854775808≤c) (c2:c≤9223372036854775807):
  Calls Tryz.prog 232 #[.agg #[.int .i64 (a),.int .i64 (b)],.agg #[.int .i64 (c),.int .i64 (d)]] w fun e w'=>e=.returned (.tuple #[.int .i64 (cmpV a b c d),.int .i64 (cmpE a b c d)])∧Below w.heap.size w w':=by
 unfold cmpV cmpE
 by_cases h:Both a b c d
 ·rw [if_pos h,if_pos h]
  by_cases p:c*b<a*d
  ·rw [if_pos p]
   have q:¬ a*d<c*b:=by omega
   exact cmp3_k a b c d 1 0 true false w a1 a2 c1 c2 h.1 h.2 (ltB_yes p) (ltB_no q) rfl rfl (by omega) (by omega) (by omega) (by omega)
  ·rw [if_neg p]
   by_cases q:a*d<c*b
   ·rw [if_pos q]
    exact cmp3_k a b c d 0 1 false true w a1 a2 c1 c2 h.1 h.2 (ltB_no p) (ltB_yes q) rfl rfl (by omega) (by omega) (by omega) (by omega)
   ·rw [if_neg q]
    exact cmp3_k a b c d 0 0 false false w a1 a2 c1 c2 h.1 h.2 (ltB_no p) (ltB_no q) rfl rfl (by omega) (by omega) (by omega) (by omega)
 ·rw [if_neg h,if_neg h]
  exact cmp3_no a b c d w a1 a2 c1 c2 h
end Go.Proofs.YthmljpccbjolgaaGreatDoor.rat
namespace Go.Proofs.YthmljpccbjolgaaGreatDoor.rat
open Go.ChangeShapes Go.WideShapes Go.ChangeAt Go.RowKit rmath bound num
set_option linter.unusedVariables false
def keptR (a b c d x:Int):Bool:=if bS x then ltB (a*d - c*b) (x / 2*(b*d)) else !ltB (x / 2*(b*d)) (a*d - c*b)
def kpV (a b c d x:Int):Bool:=if Both a b c d then (if x=9223372036854775807 then true else if May (x / 2) then keptR a b c d x else false) else false
end Go.Proofs.YthmljpccbjolgaaGreatDoor.rat
